/-
  What may be run, plainly: statements, names, the whole check.
-/
import Derived.Test.YtepjaoapjpmjkaaGreatDoorCheckM
import Derived.Test.YtepjaoapjpmjkaaGreatDoorCheckM
import Derived.Test.YtepjaoapjpmjkaaGreatDoorTreeM
namespace Go.Proofs.YtepjaoapjpmjkaaGreatDoor
open Go.RowKit
set_option linter.unusedVariables false
theorem isNameL_nil : isNameL [] = false := by decide +kernel
theorem ownK1 (op : Int) (name : List UInt8) (num far : Int) (kids thn els : List Int) : ownB (⟨1, op, name, num, far, kids, thn, els⟩ : LNode) = (decide (op = 0) && name.isEmpty && inB num 0 65535 && decide (far = 0) && kids.isEmpty && thn.isEmpty && els.isEmpty) := by
 have hn := isNameL_nil
 rw [Bool.eq_iff_iff]
 cases name <;> simp [ownB, wantsN, inB, hn] <;> (try (intros; constructor <;> intro h <;> (try simp_all) <;> (try omega)))
theorem ownK2 (op : Int) (name : List UInt8) (num far : Int) (kids thn els : List Int) : ownB (⟨2, op, name, num, far, kids, thn, els⟩ : LNode) = (decide (op = 0) && isNameL name && decide (num = 0) && decide (far = 0) && kids.isEmpty && thn.isEmpty && els.isEmpty) := by
 have hn := isNameL_nil
 rw [Bool.eq_iff_iff]
 cases name <;> simp [ownB, wantsN, inB, hn] <;> (try (intros; constructor <;> intro h <;> (try simp_all) <;> (try omega)))
theorem ownK3 (op : Int) (name : List UInt8) (num far : Int) (kids thn els : List Int) : ownB (⟨3, op, name, num, far, kids, thn, els⟩ : LNode) = (decide (op = 0) && isNameL name && decide (num = 0) && decide (far = 0) && decide (1 ≤ kids.length ∧ kids.length ≤ 1) && thn.isEmpty && els.isEmpty) := by
 have hn := isNameL_nil
 rw [Bool.eq_iff_iff]
 cases name <;> simp [ownB, wantsN, inB, hn] <;> (try (intros; constructor <;> intro h <;> (try simp_all) <;> (try omega)))
theorem ownK4 (op : Int) (name : List UInt8) (num far : Int) (kids thn els : List Int) : ownB (⟨4, op, name, num, far, kids, thn, els⟩ : LNode) = (decide (op = 0) && name.isEmpty && decide (num = 0) && decide (far = 0) && decide (1 ≤ kids.length ∧ kids.length ≤ 1) && thn.isEmpty && els.isEmpty) := by
 have hn := isNameL_nil
 rw [Bool.eq_iff_iff]
 cases name <;> simp [ownB, wantsN, inB, hn] <;> (try (intros; constructor <;> intro h <;> (try simp_all) <;> (try omega)))
theorem ownK5 (op : Int) (name : List UInt8) (num far : Int) (kids thn els : List Int) : ownB (⟨5, op, name, num, far, kids, thn, els⟩ : LNode) = (decide (op = 0) && name.isEmpty && decide (num = 0) && decide (far = 0) && decide (1 ≤ kids.length ∧ kids.length ≤ 1) && thn.isEmpty && els.isEmpty) := by
 have hn := isNameL_nil
 rw [Bool.eq_iff_iff]
 cases name <;> simp [ownB, wantsN, inB, hn] <;> (try (intros; constructor <;> intro h <;> (try simp_all) <;> (try omega)))
theorem ownK6 (op : Int) (name : List UInt8) (num far : Int) (kids thn els : List Int) : ownB (⟨6, op, name, num, far, kids, thn, els⟩ : LNode) = (inB op 1 10 && name.isEmpty && decide (num = 0) && decide (far = 0) && decide (2 ≤ kids.length ∧ kids.length ≤ 2) && thn.isEmpty && els.isEmpty) := by
 have hn := isNameL_nil
 rw [Bool.eq_iff_iff]
 cases name <;> simp [ownB, wantsN, inB, hn] <;> (try (intros; constructor <;> intro h <;> (try simp_all) <;> (try omega)))
theorem ownK7 (op : Int) (name : List UInt8) (num far : Int) (kids thn els : List Int) : ownB (⟨7, op, name, num, far, kids, thn, els⟩ : LNode) = (decide (op = 0) && isNameL name && decide (num = 0) && decide (far = 0) && decide (1 ≤ kids.length ∧ kids.length ≤ 1) && thn.isEmpty && els.isEmpty) := by
 have hn := isNameL_nil
 rw [Bool.eq_iff_iff]
 cases name <;> simp [ownB, wantsN, inB, hn] <;> (try (intros; constructor <;> intro h <;> (try simp_all) <;> (try omega)))
theorem ownK8 (op : Int) (name : List UInt8) (num far : Int) (kids thn els : List Int) : ownB (⟨8, op, name, num, far, kids, thn, els⟩ : LNode) = (decide (op = 0) && isNameL name && decide (num = 0) && decide (far = 0) && decide (2 ≤ kids.length ∧ kids.length ≤ 2) && thn.isEmpty && els.isEmpty) := by
 have hn := isNameL_nil
 rw [Bool.eq_iff_iff]
 cases name <;> simp [ownB, wantsN, inB, hn] <;> (try (intros; constructor <;> intro h <;> (try simp_all) <;> (try omega)))
theorem ownK9 (op : Int) (name : List UInt8) (num far : Int) (kids thn els : List Int) : ownB (⟨9, op, name, num, far, kids, thn, els⟩ : LNode) = (decide (op = 0) && name.isEmpty && decide (num = 0) && decide (far = 0) && decide (1 ≤ kids.length ∧ kids.length ≤ 1)) := by
 have hn := isNameL_nil
 rw [Bool.eq_iff_iff]
 cases name <;> simp [ownB, wantsN, inB, hn] <;> (try (intros; constructor <;> intro h <;> (try simp_all) <;> (try omega)))
theorem ownK10 (op : Int) (name : List UInt8) (num far : Int) (kids thn els : List Int) : ownB (⟨10, op, name, num, far, kids, thn, els⟩ : LNode) = (decide (op = 0) && isNameL name && inB num 0 65535 && inB far 0 65535 && kids.isEmpty && els.isEmpty) := by
 have hn := isNameL_nil
 rw [Bool.eq_iff_iff]
 cases name <;> simp [ownB, wantsN, inB, hn] <;> (try (intros; constructor <;> intro h <;> (try simp_all) <;> (try omega)))
theorem ownK11 (op : Int) (name : List UInt8) (num far : Int) (kids thn els : List Int) : ownB (⟨11, op, name, num, far, kids, thn, els⟩ : LNode) = (inB op 1 4 && isNameL name && decide (num = 0) && decide (far = 0) && decide (1 ≤ kids.length ∧ kids.length ≤ 3) && thn.isEmpty && els.isEmpty) := by
 have hn := isNameL_nil
 rw [Bool.eq_iff_iff]
 cases name <;> simp [ownB, wantsN, inB, hn] <;> (try (intros; constructor <;> intro h <;> (try simp_all) <;> (try omega)))
end Go.Proofs.YtepjaoapjpmjkaaGreatDoor
namespace Go.Proofs.YtepjaoapjpmjkaaGreatDoor
open Go.RowKit
set_option linter.unusedVariables false
theorem fault_zero {T : LTree} (h : faultL T = 0) : T.vars.length ≤ 24 ∧ T.nodes.length ≤ 200 ∧ varsB T.vars = 0 ∧ rightsB T.nodes = true ∧ refsB T.nodes T.nodes.length T.body false = true := by
 unfold faultL at h
 split at h
 ·simp at h
 rename_i h1
 split at h
 ·rename_i h2; exact absurd h h2
 rename_i h2
 split at h
 ·simp at h
 rename_i h3
 split at h
 ·simp at h
 rename_i h4
 exact ⟨by omega, by omega, by omega, by simpa using h3, by simpa using h4⟩
theorem varsB_zero : ∀ {V : List LVar}, varsB V = 0 → ∀ v ∈ V, varB v = 0 := by
 intro V
 induction V with
 | nil => intro _ v hv; cases hv
 | cons u r ih =>
  intro h v hv
  unfold varsB at h
  split at h
  ·rename_i h0
   rcases List.mem_cons.1 hv with rfl | hv
   ·exact h0
   ·exact ih h v hv
  ·rename_i h0; exact absurd h h0
theorem varB_zero {v : LVar} (h : varB v = 0) : isNameL v.name = true ∧ inB v.kind 1 3 = true ∧ inB v.type 1 2 = true ∧ inB v.size 0 8 = true := by
 unfold varB at h
 split at h
 ·rename_i h1
  split at h
  ·rename_i h2
   simp at h2
   exact ⟨h1, h2.1.1, h2.1.2, h2.2⟩
  ·simp at h
 ·simp at h
theorem right_at {N : List LNode} (h : rightsB N = true) {k : Nat} {n : LNode} (hk : N[k]? = some n) : ownB n = true ∧ refsB N k n.kids true = true ∧ refsB N k n.thn false = true ∧ refsB N k n.els false = true := by
 have hlt := (List.getElem?_eq_some_iff.1 hk).1
 have h1 := List.all_eq_true.1 h k (List.mem_range.2 hlt)
 have e : N.getD k default = n := by rw [List.getD_eq_getElem?_getD, hk]; rfl
 rw [rightB_eq, e] at h1
 simp only [Bool.and_eq_true] at h1
 exact ⟨h1.1.1.1, h1.1.1.2, h1.1.2, h1.2⟩
theorem own_nums {n : LNode} (h : ownB n = true) : (0 ≤ n.num ∧ n.num ≤ 65535) ∧ (0 ≤ n.far ∧ n.far ≤ 65535) ∧ (1 ≤ n.kind ∧ n.kind ≤ 11) := by
 unfold ownB at h
 simp only [Bool.and_eq_true] at h
 obtain ⟨⟨⟨⟨⟨⟨⟨⟨h1, _⟩, _⟩, _⟩, h2⟩, h3⟩, _⟩, _⟩, _⟩ := h
 refine ⟨?_, ?_, inB_iff.1 h1⟩
 ·split at h2
  ·exact inB_iff.1 h2
  ·have := of_decide_eq_true h2; omega
 ·split at h3
  ·exact inB_iff.1 h3
  ·have := of_decide_eq_true h3; omega
theorem own_op {n : LNode} (h : ownB n = true) (hk : n.kind = 11) : 1 ≤ n.op ∧ n.op ≤ 4 := by
 unfold ownB at h
 simp only [Bool.and_eq_true] at h
 obtain ⟨⟨⟨_, h2⟩, _⟩, _⟩ := h
 rw [if_neg (by omega), if_pos hk] at h2
 exact inB_iff.1 h2
theorem own_name {n : LNode} (h : ownB n = true) (hk : n.kind = 11) : isNameL n.name = true := by
 unfold ownB at h
 simp only [Bool.and_eq_true] at h
 obtain ⟨⟨⟨⟨⟨⟨⟨⟨_, h1⟩, _⟩, _⟩, _⟩, _⟩, _⟩, _⟩, _⟩ := h
 rw [hk] at h1
 simpa [wantsN] using h1
theorem name_len {l : List UInt8} (h : isNameL l = true) : 1 ≤ l.length ∧ l.length ≤ 8 := by
 unfold isNameL at h
 simp only [Bool.and_eq_true] at h
 exact of_decide_eq_true h.1.1
theorem ownOf_one (K op : Int) : ∀ v ∈ ownOf K op [], v.name.length = 1 := by
 intro v hv; unfold ownOf at hv
 split at hv
 ·simp at hv; rcases hv with rfl | rfl | rfl <;> rfl
 split at hv
 ·simp at hv; rcases hv with rfl | rfl <;> rfl
 split at hv
 ·simp at hv; rcases hv with rfl | rfl <;> rfl
 ·simp at hv; subst hv; rfl
theorem ownOf_nm (K op : Int) (nm : List UInt8) : ownOf K op nm = (ownOf K op []).map fun v => { v with name := nm ++ v.name } := by
 unfold ownOf
 split
 ·rfl
 split
 ·rfl
 split <;> rfl
theorem refs_lt {N : List LNode} {m : Nat} {l : List Int} {e : Bool} (h : refsB N m l e = true) : ∀ x ∈ l, 0 ≤ x ∧ x < (m : Int) := fun x hx => by
 have h1 := List.all_eq_true.1 h x hx
 unfold refB at h1
 simp only [Bool.and_eq_true] at h1
 have := inB_iff.1 h1.1
 omega
structure Good (T : LTree) : Prop where
 vars : T.vars.length ≤ 24
 nodes : T.nodes.length ≤ 200
 var : ∀ v ∈ T.vars, isNameL v.name = true ∧ (1 ≤ v.kind ∧ v.kind ≤ 3) ∧ (1 ≤ v.type ∧ v.type ≤ 2) ∧ (0 ≤ v.size ∧ v.size ≤ 8)
 node : ∀ (k : Nat) (n : LNode), T.nodes[k]? = some n → ownB n = true ∧ (∀ x ∈ n.kids, 0 ≤ x ∧ x < (k : Int)) ∧ (∀ x ∈ n.thn, 0 ≤ x ∧ x < (k : Int)) ∧ (∀ x ∈ n.els, 0 ≤ x ∧ x < (k : Int))
 body : ∀ x ∈ T.body, 0 ≤ x ∧ x < (T.nodes.length : Int)
theorem good_of {T : LTree} (h : faultL T = 0) : Good T := by
 obtain ⟨h1, h2, h3, h4, h5⟩ := fault_zero h
 refine ⟨h1, h2, fun v hv => ?_, fun k n hk => ?_, refs_lt h5⟩
 ·obtain ⟨a, b, c, d⟩ := varB_zero (varsB_zero h3 v hv)
  exact ⟨a, inB_iff.1 b, inB_iff.1 c, inB_iff.1 d⟩
 ·obtain ⟨a, b, c, d⟩ := right_at h4 hk
  exact ⟨a, refs_lt b, refs_lt c, refs_lt d⟩
theorem Good.tame {T : LTree} (h : Good T) (hS : Sized 1048576 T) : ∀ n ∈ T.nodes, Tame n := fun n hn => by
 obtain ⟨k, hk, rfl⟩ := List.getElem_of_mem hn
 have h1 := own_nums (h.node k _ (List.getElem?_eq_getElem hk)).1
 have h2 := hS.node _ hn
 exact ⟨h1.1, h1.2.1, h2.2.1, h2.2.2.1, h2.2.2.2⟩
theorem Good.sizes {T : LTree} (h : Good T) (K : Int) : SizesLe (allL K T) := fun v hv => by
 rcases List.mem_append.1 hv with hv | hv
 ·have := h.var v hv; omega
 ·have := ownsL_size K T.nodes v hv; omega
theorem Good.all_len {T : LTree} (h : Good T) (K : Int) : (allL K T).length ≤ 624 := by
 have h1 := ownsL_len K T.nodes
 have := h.vars
 have := h.nodes
 unfold allL; rw [List.length_append]; omega
end Go.Proofs.YtepjaoapjpmjkaaGreatDoor
namespace Go.Proofs.YtepjaoapjpmjkaaGreatDoor
open Go.RowKit
set_option linter.unusedVariables false
def varFrom (nm : List UInt8) : List LVar → Nat → Int
 | [], _ => -1
 | v :: r, i => if v.name = nm then (i : Int) else varFrom nm r (i + 1)
theorem varFrom_hit {nm : List UInt8} {V : List LVar} {k : Nat} {x : LVar} (hx : V[k]? = some x) (h : x.name = nm) : varFrom nm (V.drop k) k = k := by
 rw [List.drop_eq_getElem_cons (List.getElem?_eq_some_iff.1 hx).1, (List.getElem?_eq_some_iff.1 hx).2, varFrom, if_pos h]
theorem varFrom_miss {nm : List UInt8} {V : List LVar} {k : Nat} {x : LVar} (hx : V[k]? = some x) (h : x.name ≠ nm) : varFrom nm (V.drop k) k = varFrom nm (V.drop (k + 1)) (k + 1) := by
 rw [List.drop_eq_getElem_cons (List.getElem?_eq_some_iff.1 hx).1, (List.getElem?_eq_some_iff.1 hx).2, varFrom, if_neg h]
theorem varFrom_or (nm : List UInt8) : ∀ (V : List LVar) (i : Nat), varFrom nm V i = -1 ∨ ∃ j : Nat, varFrom nm V i = j ∧ j < i + V.length := by
 intro V
 induction V with
 | nil => intro i; exact .inl rfl
 | cons v r ih =>
  intro i
  unfold varFrom
  split
  ·exact .inr ⟨i, rfl, by simp⟩
  ·rcases ih (i + 1) with h | ⟨j, h, hj⟩
   ·exact .inl h
   ·exact .inr ⟨j, h, by simp; omega⟩
end Go.Proofs.YtepjaoapjpmjkaaGreatDoor
namespace Go.Proofs.YtepjaoapjpmjkaaGreatDoor
open Go.RowKit
set_option linter.unusedVariables false
abbrev Met := Int × Int
def metAt (st : Met) (c x : Int) : Met := if st.1 = 0 then (c, x) else st
def nodeOf (N : List LNode) (x : Int) : LNode := N.getD x.toNat default
def nameF (V : List LVar) (nv : Nat) (nm : List UInt8) (row : Bool) (x : Int) (st : Met) : Int × Met :=
 if varFrom nm V 0 < 0 ∨ (row = true ∧ (nv : Int) ≤ varFrom nm V 0) then (0, metAt st 4 x)
 else if (decide (0 < (V.getD (varFrom nm V 0).toNat default).size)) ≠ row then (0, metAt st 1 x)
 else ((V.getD (varFrom nm V 0).toNat default).type, st)
def boolB (V : List LVar) (n : LNode) : Bool :=
 if n.kind = 5 then true
 else if n.kind = 6 then decide (5 < n.op)
 else if n.kind = 2 ∨ n.kind = 3 then decide (0 ≤ varFrom n.name V 0 ∧ (V.getD (varFrom n.name V 0).toNat default).type = 2)
 else false
def sameF (V : List LVar) (N : List LNode) (a b : Int) : Int := if boolB V (nodeOf N (if (nodeOf N a).kind = 1 then b else a)) then 2 else 1
def mustW (n : LNode) (y want : Int) (r : Int × Met) : Met :=
 if want = 2 ∧ n.kind = 1 ∧ n.num ≤ 1 then r.2 else if r.2.1 = 0 ∧ r.1 ≠ want then metAt r.2 8 y else r.2
def wantF (V : List LVar) (N : List LNode) (n : LNode) : Int :=
 if n.op = 10 then sameF V N (n.kids.getD 0 0) (n.kids.getD 1 0) else if 6 ≤ n.op ∧ n.op ≤ 8 then 2 else 1
def typeF (V : List LVar) (nv : Nat) (N : List LNode) : Nat → Int → Met → Int × Met
 | 0, _, st => (0, st)
 | f + 1, x, st =>
  let n := nodeOf N x
  let must := fun (y want : Int) (st : Met) => mustW (nodeOf N y) y want (typeF V nv N f y st)
  if n.kind = 1 then (1, st)
  else if n.kind = 2 then nameF V nv n.name false x st
  else if n.kind = 3 then ((nameF V nv n.name true x st).1, must (n.kids.getD 0 0) 1 (nameF V nv n.name true x st).2)
  else if n.kind = 4 then (1, must (n.kids.getD 0 0) 1 st)
  else if n.kind = 5 then (2, must (n.kids.getD 0 0) 2 st)
  else (if n.op ≤ 5 then 1 else 2, must (n.kids.getD 1 0) (wantF V N n) (must (n.kids.getD 0 0) (wantF V N n) st))
end Go.Proofs.YtepjaoapjpmjkaaGreatDoor
namespace Go.Proofs.YtepjaoapjpmjkaaGreatDoor
open Go.RowKit
set_option linter.unusedVariables false
def targetF (VS : List LVar) (loop : List (List UInt8)) (nm : List UInt8) (row : Bool) (x : Int) (st : Met) : Int × Met :=
 if varFrom nm VS 0 < 0 then (0, metAt st 4 x)
 else ((VS.getD (varFrom nm VS 0).toNat default).type,
  (if (VS.getD (varFrom nm VS 0).toNat default).kind = 1 ∨ nm ∈ loop then
   metAt (if decide (0 < (VS.getD (varFrom nm VS 0).toNat default).size) ≠ row then metAt st 1 x else st) 10 x
  else (if decide (0 < (VS.getD (varFrom nm VS 0).toNat default).size) ≠ row then metAt st 1 x else st)))
def goL (s : Int → Met → Met) : List Int → Met → Met
 | [], st => st
 | x :: r, st => if st.1 = 0 then goL s r (s x st) else st
def argsF (must : Int → Int → Met → Met) : List Int → List Int → Met → Met
 | y :: ys, t :: ts, st => argsF must ys ts (must y t st)
 | _, _, st => st
def callF (must : Int → Int → Met → Met) (loop : List (List UInt8)) (n : LNode) (x : Int) (st : Met) : Met :=
 if (argsL n.op).length ≠ n.kids.length ∨ loop ≠ [] then metAt st 2 x else argsF must n.kids (argsL n.op) st
def forA (VS : List LVar) (loop : List (List UInt8)) (n : LNode) (x : Int) (st : Met) : Met :=
 if (targetF VS loop n.name false x st).2.1 = 0 ∧ (targetF VS loop n.name false x st).1 ≠ 1 then metAt (targetF VS loop n.name false x st).2 8 x else (targetF VS loop n.name false x st).2
def forF (VS : List LVar) (loop : List (List UInt8)) (n : LNode) (x : Int) (st : Met) : Met :=
 if 1000 < n.num ∨ 1000 < n.far then metAt (forA VS loop n x st) 3 x else forA VS loop n x st
def stmtF (must : Int → Int → Met → Met) (VS : List LVar) (N : List LNode) : Nat → List (List UInt8) → Int → Met → Met
 | 0, _, _, st => st
 | f + 1, loop, x, st =>
  let n := nodeOf N x
  if n.kind = 7 then must (n.kids.getD 0 0) (targetF VS loop n.name false x st).1 (targetF VS loop n.name false x st).2
  else if n.kind = 8 then must (n.kids.getD 1 0) (targetF VS loop n.name true x st).1 (must (n.kids.getD 0 0) 1 (targetF VS loop n.name true x st).2)
  else if n.kind = 9 then goL (stmtF must VS N f loop) n.els (goL (stmtF must VS N f loop) n.thn (must (n.kids.getD 0 0) 2 st))
  else if n.kind = 10 then goL (stmtF must VS N f (loop ++ [n.name])) n.thn (forF VS loop n x st)
  else if n.kind = 11 then callF must loop n x st
  else st
def mustT (V : List LVar) (nv : Nat) (N : List LNode) (y want : Int) (st : Met) : Met := mustW (nodeOf N y) y want (typeF V nv N N.length y st)
def dupB (V : List LVar) : Bool := (List.range V.length).any fun i => decide (0 ≤ varFrom (V.getD i default).name (V.take i) 0)
def namesF (V : List LVar) (nv : Nat) : Int := if dupB V then 7 else if (V.drop nv).any (fun v => !isNameL v.name) then 5 else 0
def bodyF (V : List LVar) (T : LTree) : Met := goL (stmtF (mustT V T.vars.length T.nodes) T.vars T.nodes T.nodes.length []) T.body (0, 0)
theorem metAt_met {st : Met} (h : st.1 ≠ 0) (c x : Int) : metAt st c x = st := by unfold metAt; rw [if_neg h]
theorem metAt_zero (c x : Int) (m : Int) : metAt (0, m) c x = (c, x) := by unfold metAt; rw [if_pos rfl]
theorem nameF_met {V : List LVar} {nv : Nat} {nm : List UInt8} {row : Bool} {x : Int} {st : Met} (h : st.1 ≠ 0) : (nameF V nv nm row x st).2 = st := by
 unfold nameF
 split
 ·exact metAt_met h _ _
 split
 ·exact metAt_met h _ _
 ·rfl
theorem mustW_met {n : LNode} {y want g : Int} {st : Met} (h : st.1 ≠ 0) : mustW n y want (g, st) = st := by
 unfold mustW
 split
 ·rfl
 split
 ·rename_i _ h2; exact absurd h2.1 h
 ·rfl
theorem typeF_met {V : List LVar} {nv : Nat} {N : List LNode} : ∀ (f : Nat) (x : Int) {st : Met}, st.1 ≠ 0 → (typeF V nv N f x st).2 = st := by
 intro f
 induction f with
 | zero => intro x st h; rfl
 | succ f ih =>
  intro x st h
  have hm : ∀ (y want : Int), mustW (nodeOf N y) y want (typeF V nv N f y st) = st := fun y want => by
   have e : typeF V nv N f y st = ((typeF V nv N f y st).1, st) := Prod.ext rfl (ih y h)
   rw [e]
   exact mustW_met h
  simp only [typeF]
  by_cases h1 : (nodeOf N x).kind = 1
  ·rw [if_pos h1]
  rw [if_neg h1]
  by_cases h2 : (nodeOf N x).kind = 2
  ·rw [if_pos h2]; exact nameF_met h
  rw [if_neg h2]
  by_cases h3 : (nodeOf N x).kind = 3
  ·rw [if_pos h3, nameF_met h]; exact hm ((nodeOf N x).kids.getD 0 0) 1
  rw [if_neg h3]
  by_cases h4 : (nodeOf N x).kind = 4
  ·rw [if_pos h4]; exact hm ((nodeOf N x).kids.getD 0 0) 1
  rw [if_neg h4]
  by_cases h5 : (nodeOf N x).kind = 5
  ·rw [if_pos h5]; exact hm ((nodeOf N x).kids.getD 0 0) 2
  rw [if_neg h5, hm]; exact hm ((nodeOf N x).kids.getD 1 0) (wantF V N (nodeOf N x))
end Go.Proofs.YtepjaoapjpmjkaaGreatDoor
