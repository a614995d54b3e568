/-
  What may be run, plainly: statements, names, the whole check.
-/
import Derived.Test.YtcecfmdjicjngaaGreatDoorRowE
import Derived.Test.YtcecfmdjicjngaaGreatDoorOwn
namespace Go.Proofs.YtcecfmdjicjngaaGreatDoor
open Go.RowKit
set_option linter.unusedVariables false
def targetF (VS : List LVar) (loop : List (List UInt8)) (nm : List UInt8) (row : Bool) (x : Int) (st : Met) : Int × Met :=
 if varFrom nm VS 0 < 0 then (0, metAt st 4 x)
 else ((VS.getD (varFrom nm VS 0).toNat default).type,
  (if (VS.getD (varFrom nm VS 0).toNat default).kind = 1 ∨ nm ∈ loop then
   metAt (if decide (0 < (VS.getD (varFrom nm VS 0).toNat default).size) ≠ row then metAt st 1 x else st) 10 x
  else (if decide (0 < (VS.getD (varFrom nm VS 0).toNat default).size) ≠ row then metAt st 1 x else st)))
def goL (s : Int → Met → Met) : List Int → Met → Met
 | [], st => st
 | x :: r, st => if st.1 = 0 then goL s r (s x st) else st
def argsF (must : Int → Int → Met → Met) : List Int → List Int → Met → Met
 | y :: ys, t :: ts, st => argsF must ys ts (must y t st)
 | _, _, st => st
def callF (must : Int → Int → Met → Met) (loop : List (List UInt8)) (n : LNode) (x : Int) (st : Met) : Met :=
 if (argsL n.op).length ≠ n.kids.length ∨ loop ≠ [] then metAt st 2 x else argsF must n.kids (argsL n.op) st
def forA (VS : List LVar) (loop : List (List UInt8)) (n : LNode) (x : Int) (st : Met) : Met :=
 if (targetF VS loop n.name false x st).2.1 = 0 ∧ (targetF VS loop n.name false x st).1 ≠ 1 then metAt (targetF VS loop n.name false x st).2 8 x else (targetF VS loop n.name false x st).2
def forF (VS : List LVar) (loop : List (List UInt8)) (n : LNode) (x : Int) (st : Met) : Met :=
 if 1000 < n.num ∨ 1000 < n.far then metAt (forA VS loop n x st) 3 x else forA VS loop n x st
def stmtF (must : Int → Int → Met → Met) (VS : List LVar) (N : List LNode) : Nat → List (List UInt8) → Int → Met → Met
 | 0, _, _, st => st
 | f + 1, loop, x, st =>
  let n := nodeOf N x
  if n.kind = 7 then must (n.kids.getD 0 0) (targetF VS loop n.name false x st).1 (targetF VS loop n.name false x st).2
  else if n.kind = 8 then must (n.kids.getD 1 0) (targetF VS loop n.name true x st).1 (must (n.kids.getD 0 0) 1 (targetF VS loop n.name true x st).2)
  else if n.kind = 9 then goL (stmtF must VS N f loop) n.els (goL (stmtF must VS N f loop) n.thn (must (n.kids.getD 0 0) 2 st))
  else if n.kind = 10 then goL (stmtF must VS N f (loop ++ [n.name])) n.thn (forF VS loop n x st)
  else if n.kind = 11 then callF must loop n x st
  else st
def mustT (V : List LVar) (nv : Nat) (N : List LNode) (y want : Int) (st : Met) : Met := mustW (nodeOf N y) y want (typeF V nv N N.length y st)
def dupB (V : List LVar) : Bool := (List.range V.length).any fun i => decide (0 ≤ varFrom (V.getD i default).name (V.take i) 0)
def namesF (V : List LVar) (nv : Nat) : Int := if dupB V then 7 else if (V.drop nv).any (fun v => !isNameL v.name) then 5 else 0
def bodyF (V : List LVar) (T : LTree) : Met := goL (stmtF (mustT V T.vars.length T.nodes) T.vars T.nodes T.nodes.length []) T.body (0, 0)
theorem metAt_met {st : Met} (h : st.1 ≠ 0) (c x : Int) : metAt st c x = st := by unfold metAt; rw [if_neg h]
theorem metAt_zero (c x : Int) (m : Int) : metAt (0, m) c x = (c, x) := by unfold metAt; rw [if_pos rfl]
theorem nameF_met {V : List LVar} {nv : Nat} {nm : List UInt8} {row : Bool} {x : Int} {st : Met} (h : st.1 ≠ 0) : (nameF V nv nm row x st).2 = st := by
 unfold nameF
 split
 ·exact metAt_met h _ _
 split
 ·exact metAt_met h _ _
 ·rfl
theorem mustW_met {n : LNode} {y want g : Int} {st : Met} (h : st.1 ≠ 0) : mustW n y want (g, st) = st := by
 unfold mustW
 split
 ·rfl
 split
 ·rename_i _ h2; exact absurd h2.1 h
 ·rfl
theorem typeF_met {V : List LVar} {nv : Nat} {N : List LNode} : ∀ (f : Nat) (x : Int) {st : Met}, st.1 ≠ 0 → (typeF V nv N f x st).2 = st := by
 intro f
 induction f with
 | zero => intro x st h; rfl
 | succ f ih =>
  intro x st h
  have hm : ∀ (y want : Int), mustW (nodeOf N y) y want (typeF V nv N f y st) = st := fun y want => by
   have e : typeF V nv N f y st = ((typeF V nv N f y st).1, st) := Prod.ext rfl (ih y h)
   rw [e]
   exact mustW_met h
  simp only [typeF]
  by_cases h1 : (nodeOf N x).kind = 1
  ·rw [if_pos h1]
  rw [if_neg h1]
  by_cases h2 : (nodeOf N x).kind = 2
  ·rw [if_pos h2]; exact nameF_met h
  rw [if_neg h2]
  by_cases h3 : (nodeOf N x).kind = 3
  ·rw [if_pos h3, nameF_met h]; exact hm ((nodeOf N x).kids.getD 0 0) 1
  rw [if_neg h3]
  by_cases h4 : (nodeOf N x).kind = 4
  ·rw [if_pos h4]; exact hm ((nodeOf N x).kids.getD 0 0) 1
  rw [if_neg h4]
  by_cases h5 : (nodeOf N x).kind = 5
  ·rw [if_pos h5]; exact hm ((nodeOf N x).kids.getD 0 0) 2
  rw [if_neg h5, hm]; exact hm ((nodeOf N x).kids.getD 1 0) (wantF V N (nodeOf N x))
end Go.Proofs.YtcecfmdjicjngaaGreatDoor
