/-
  What may be run, plainly: types, and what is met first.
-/
import Derived.Test.YtdnhmpemkpjcaaaGreatDoorCheckM2
import Derived.Test.YtdnhmpemkpjcaaaGreatDoorVarFrom
namespace Go.Proofs.YtdnhmpemkpjcaaaGreatDoor
open Go.RowKit
set_option linter.unusedVariables false

/-- what was met first: a code and a node; nothing: code 0 -/
abbrev Met := Int × Int
def metAt (st : Met) (c x : Int) : Met := if st.1 = 0 then (c, x) else st
def nodeOf (N : List LNode) (x : Int) : LNode := N.getD x.toNat default
/-- a variable by itself, or one of a row -/
def nameF (V : List LVar) (nv : Nat) (nm : List UInt8) (row : Bool) (x : Int) (st : Met) : Int × Met :=
  if varFrom nm V 0 < 0 ∨ (row = true ∧ (nv : Int) ≤ varFrom nm V 0) then (0, metAt st 4 x)
  else if (decide (0 < (V.getD (varFrom nm V 0).toNat default).size)) ≠ row then (0, metAt st 1 x)
  else ((V.getD (varFrom nm V 0).toNat default).type, st)
def boolB (V : List LVar) (n : LNode) : Bool :=
  if n.kind = 5 then true
  else if n.kind = 6 then decide (5 < n.op)
  else if n.kind = 2 ∨ n.kind = 3 then decide (0 ≤ varFrom n.name V 0 ∧ (V.getD (varFrom n.name V 0).toNat default).type = 2)
  else false
def sameF (V : List LVar) (N : List LNode) (a b : Int) : Int := if boolB V (nodeOf N (if (nodeOf N a).kind = 1 then b else a)) then 2 else 1
/-- what a place must be, behind its type -/
def mustW (n : LNode) (y want : Int) (r : Int × Met) : Met :=
  if want = 2 ∧ n.kind = 1 ∧ n.num ≤ 1 then r.2 else if r.2.1 = 0 ∧ r.1 ≠ want then metAt r.2 8 y else r.2
def wantF (V : List LVar) (N : List LNode) (n : LNode) : Int :=
  if n.op = 10 then sameF V N (n.kids.getD 0 0) (n.kids.getD 1 0) else if 6 ≤ n.op ∧ n.op ≤ 8 then 2 else 1
/-- the type of a place, of places below f -/
def typeF (V : List LVar) (nv : Nat) (N : List LNode) : Nat → Int → Met → Int × Met
  | 0, _, st => (0, st)
  | f + 1, x, st =>
    let n := nodeOf N x
    let must := fun (y want : Int) (st : Met) => mustW (nodeOf N y) y want (typeF V nv N f y st)
    if n.kind = 1 then (1, st)
    else if n.kind = 2 then nameF V nv n.name false x st
    else if n.kind = 3 then ((nameF V nv n.name true x st).1, must (n.kids.getD 0 0) 1 (nameF V nv n.name true x st).2)
    else if n.kind = 4 then (1, must (n.kids.getD 0 0) 1 st)
    else if n.kind = 5 then (2, must (n.kids.getD 0 0) 2 st)
    else (if n.op ≤ 5 then 1 else 2, must (n.kids.getD 1 0) (wantF V N n) (must (n.kids.getD 0 0) (wantF V N n) st))
end Go.Proofs.YtdnhmpemkpjcaaaGreatDoor
