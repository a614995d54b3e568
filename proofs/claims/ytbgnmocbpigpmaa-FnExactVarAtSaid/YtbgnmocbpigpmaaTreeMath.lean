/-
  Trees: what is asked of them, plainly.
-/
import Derived.Test.YtbgnmocbpigpmaaTreeM
import Derived.Test.YtbgnmocbpigpmaaIn
import Derived.Test.YtbgnmocbpigpmaaSWord
namespace Go.Proofs.Ytbgnmocbpigpmaa
open Go.RowKit
set_option linter.unusedVariables false

def exprN (n : LNode) : Bool := inB n.kind 1 6
def refB (N : List LNode) (at_ : Int) (expr : Bool) (x : Int) : Bool := inB x 0 (at_ - 1) && (exprN (N.getD x.toNat default) == expr)
/-- the places of a list name nodes ahead, that are expressions, or statements -/
def refsB (N : List LNode) (at_ : Int) (l : List Int) (expr : Bool) : Bool := l.all (refB N at_ expr)
/-- which fields a kind has: a name, how many kids (-1: 1 to 3), numbers -/
def wantsN (k : Int) : Bool × Int × Bool :=
  if k = 1 then (false, 0, true) else if k = 2 then (true, 0, false) else if k = 3 ∨ k = 7 then (true, 1, false) else if k = 4 ∨ k = 5 ∨ k = 9 then (false, 1, false)
  else if k = 6 then (false, 2, false) else if k = 8 then (true, 2, false) else if k = 10 then (true, 0, true) else (true, -1, false)
def rightB (N : List LNode) (at_ : Nat) : Bool :=
  let n := N.getD at_ default
  let q := wantsN n.kind
  inB n.kind 1 11 &&
  (q.1 == isNameL n.name) && (q.1 || n.name.isEmpty) && (if 0 ≤ q.2.1 then decide ((n.kids.length : Int) = q.2.1) else inB n.kids.length 1 3) &&
  (if q.2.2 then inB n.num 0 65535 else decide (n.num = 0)) && (if n.kind = 10 then inB n.far 0 65535 else decide (n.far = 0)) &&
  (if n.kind = 6 then inB n.op 1 10 else if n.kind = 11 then inB n.op 1 4 else decide (n.op = 0)) &&
  (decide (n.kind = 9) || n.els.isEmpty) && (decide (n.kind = 9) || decide (n.kind = 10) || n.thn.isEmpty) &&
  refsB N at_ n.kids true && refsB N at_ n.thn false && refsB N at_ n.els false
/-- all lists of a tree's nodes, one behind the other -/
def listsOf (n : LNode) : List Int := n.kids ++ n.thn ++ n.els
def namedB (T : LTree) (k : Nat) : Nat := ((T.nodes.map fun n => (listsOf n).count (k : Int)).sum) + T.body.count (k : Int)
/-- the depths of the nodes, one behind the other -/
def deepOf (ds : List Int) (i : Nat) (n : LNode) : Int := (listsOf n).foldl (fun d x => if inB x 0 ((i : Int) - 1) then max d (ds.getD x.toNat 0) else d) 0
def depthsL (N : List LNode) : List Int := (List.range N.length).foldl (fun ds i => ds ++ [deepOf ds i (N.getD i default) + 1]) []
def varB (v : LVar) : Int := if isNameL v.name then (if inB v.kind 1 3 && inB v.type 1 2 && inB v.size 0 8 then 0 else 3) else 5
end Go.Proofs.Ytbgnmocbpigpmaa
