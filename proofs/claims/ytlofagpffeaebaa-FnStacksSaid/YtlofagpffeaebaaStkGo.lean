/-
  What a step of a ready machine comes to, plainly.
-/
import Derived.Test.YtlofagpffeaebaaStkM
namespace Go.Proofs.Ytlofagpffeaebaa
open Go.RowKit
set_option linter.unusedVariables false

def trp (m : SM) (t : Int) : SM := { m with trap := t }
def atP (m : SM) (x : Int) : SM := { m with pc := x }
/-- what a step of a ready machine comes to -/
def goM (op u v nx : Int) (m : SM) : SM :=
  if fitsB m.stk.length op = false then trp (usedM m) 1
  else if toldC op u v m ≠ 0 then trp (usedM m) (toldC op u v m)
  else doM op u (toldV op u v m) (atP (usedM m) nx)
end Go.Proofs.Ytlofagpffeaebaa
