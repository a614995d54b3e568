/-
  spec.l5Var, l5Own.
-/
import Derived.Test.YteeklmgkhacbcaaGreatDoorCheckM
import Derived.Test.YteeklmgkhacbcaaGreatDoorTreeMath
import Derived.Deep.RegionHeld3
namespace Go.Proofs.YteeklmgkhacbcaaGreatDoor
open Go.RowKit
set_option linter.unusedVariables false
theorem isNameL_nil : isNameL [] = false := by decide +kernel
theorem ownK1 (op : Int) (name : List UInt8) (num far : Int) (kids thn els : List Int) : ownB (⟨1, op, name, num, far, kids, thn, els⟩ : LNode) = (decide (op = 0) && name.isEmpty && inB num 0 65535 && decide (far = 0) && kids.isEmpty && thn.isEmpty && els.isEmpty) := by
 have hn := isNameL_nil
 rw [Bool.eq_iff_iff]
 cases name <;> simp [ownB, wantsN, inB, hn] <;> (try (intros; constructor <;> intro h <;> (try simp_all) <;> (try omega)))
theorem ownK2 (op : Int) (name : List UInt8) (num far : Int) (kids thn els : List Int) : ownB (⟨2, op, name, num, far, kids, thn, els⟩ : LNode) = (decide (op = 0) && isNameL name && decide (num = 0) && decide (far = 0) && kids.isEmpty && thn.isEmpty && els.isEmpty) := by
 have hn := isNameL_nil
 rw [Bool.eq_iff_iff]
 cases name <;> simp [ownB, wantsN, inB, hn] <;> (try (intros; constructor <;> intro h <;> (try simp_all) <;> (try omega)))
theorem ownK3 (op : Int) (name : List UInt8) (num far : Int) (kids thn els : List Int) : ownB (⟨3, op, name, num, far, kids, thn, els⟩ : LNode) = (decide (op = 0) && isNameL name && decide (num = 0) && decide (far = 0) && decide (1 ≤ kids.length ∧ kids.length ≤ 1) && thn.isEmpty && els.isEmpty) := by
 have hn := isNameL_nil
 rw [Bool.eq_iff_iff]
 cases name <;> simp [ownB, wantsN, inB, hn] <;> (try (intros; constructor <;> intro h <;> (try simp_all) <;> (try omega)))
theorem ownK4 (op : Int) (name : List UInt8) (num far : Int) (kids thn els : List Int) : ownB (⟨4, op, name, num, far, kids, thn, els⟩ : LNode) = (decide (op = 0) && name.isEmpty && decide (num = 0) && decide (far = 0) && decide (1 ≤ kids.length ∧ kids.length ≤ 1) && thn.isEmpty && els.isEmpty) := by
 have hn := isNameL_nil
 rw [Bool.eq_iff_iff]
 cases name <;> simp [ownB, wantsN, inB, hn] <;> (try (intros; constructor <;> intro h <;> (try simp_all) <;> (try omega)))
theorem ownK5 (op : Int) (name : List UInt8) (num far : Int) (kids thn els : List Int) : ownB (⟨5, op, name, num, far, kids, thn, els⟩ : LNode) = (decide (op = 0) && name.isEmpty && decide (num = 0) && decide (far = 0) && decide (1 ≤ kids.length ∧ kids.length ≤ 1) && thn.isEmpty && els.isEmpty) := by
 have hn := isNameL_nil
 rw [Bool.eq_iff_iff]
 cases name <;> simp [ownB, wantsN, inB, hn] <;> (try (intros; constructor <;> intro h <;> (try simp_all) <;> (try omega)))
theorem ownK6 (op : Int) (name : List UInt8) (num far : Int) (kids thn els : List Int) : ownB (⟨6, op, name, num, far, kids, thn, els⟩ : LNode) = (inB op 1 10 && name.isEmpty && decide (num = 0) && decide (far = 0) && decide (2 ≤ kids.length ∧ kids.length ≤ 2) && thn.isEmpty && els.isEmpty) := by
 have hn := isNameL_nil
 rw [Bool.eq_iff_iff]
 cases name <;> simp [ownB, wantsN, inB, hn] <;> (try (intros; constructor <;> intro h <;> (try simp_all) <;> (try omega)))
theorem ownK7 (op : Int) (name : List UInt8) (num far : Int) (kids thn els : List Int) : ownB (⟨7, op, name, num, far, kids, thn, els⟩ : LNode) = (decide (op = 0) && isNameL name && decide (num = 0) && decide (far = 0) && decide (1 ≤ kids.length ∧ kids.length ≤ 1) && thn.isEmpty && els.isEmpty) := by
 have hn := isNameL_nil
 rw [Bool.eq_iff_iff]
 cases name <;> simp [ownB, wantsN, inB, hn] <;> (try (intros; constructor <;> intro h <;> (try simp_all) <;> (try omega)))
theorem ownK8 (op : Int) (name : List UInt8) (num far : Int) (kids thn els : List Int) : ownB (⟨8, op, name, num, far, kids, thn, els⟩ : LNode) = (decide (op = 0) && isNameL name && decide (num = 0) && decide (far = 0) && decide (2 ≤ kids.length ∧ kids.length ≤ 2) && thn.isEmpty && els.isEmpty) := by
 have hn := isNameL_nil
 rw [Bool.eq_iff_iff]
 cases name <;> simp [ownB, wantsN, inB, hn] <;> (try (intros; constructor <;> intro h <;> (try simp_all) <;> (try omega)))
theorem ownK9 (op : Int) (name : List UInt8) (num far : Int) (kids thn els : List Int) : ownB (⟨9, op, name, num, far, kids, thn, els⟩ : LNode) = (decide (op = 0) && name.isEmpty && decide (num = 0) && decide (far = 0) && decide (1 ≤ kids.length ∧ kids.length ≤ 1)) := by
 have hn := isNameL_nil
 rw [Bool.eq_iff_iff]
 cases name <;> simp [ownB, wantsN, inB, hn] <;> (try (intros; constructor <;> intro h <;> (try simp_all) <;> (try omega)))
theorem ownK10 (op : Int) (name : List UInt8) (num far : Int) (kids thn els : List Int) : ownB (⟨10, op, name, num, far, kids, thn, els⟩ : LNode) = (decide (op = 0) && isNameL name && inB num 0 65535 && inB far 0 65535 && kids.isEmpty && els.isEmpty) := by
 have hn := isNameL_nil
 rw [Bool.eq_iff_iff]
 cases name <;> simp [ownB, wantsN, inB, hn] <;> (try (intros; constructor <;> intro h <;> (try simp_all) <;> (try omega)))
theorem ownK11 (op : Int) (name : List UInt8) (num far : Int) (kids thn els : List Int) : ownB (⟨11, op, name, num, far, kids, thn, els⟩ : LNode) = (inB op 1 4 && isNameL name && decide (num = 0) && decide (far = 0) && decide (1 ≤ kids.length ∧ kids.length ≤ 3) && thn.isEmpty && els.isEmpty) := by
 have hn := isNameL_nil
 rw [Bool.eq_iff_iff]
 cases name <;> simp [ownB, wantsN, inB, hn] <;> (try (intros; constructor <;> intro h <;> (try simp_all) <;> (try omega)))
theorem fault_zero {T : LTree} (h : faultL T = 0) : T.vars.length ≤ 24 ∧ T.nodes.length ≤ 200 ∧ varsB T.vars = 0 ∧ rightsB T.nodes = true ∧ refsB T.nodes T.nodes.length T.body false = true := by
 unfold faultL at h
 split at h
 ·simp at h
 rename_i h1
 split at h
 ·rename_i h2; exact absurd h h2
 rename_i h2
 split at h
 ·simp at h
 rename_i h3
 split at h
 ·simp at h
 rename_i h4
 exact ⟨by omega, by omega, by omega, by simpa using h3, by simpa using h4⟩
theorem varsB_zero : ∀ {V : List LVar}, varsB V = 0 → ∀ v ∈ V, varB v = 0 := by
 intro V
 induction V with
 | nil => intro _ v hv; cases hv
 | cons u r ih =>
  intro h v hv
  unfold varsB at h
  split at h
  ·rename_i h0
   rcases List.mem_cons.1 hv with rfl | hv
   ·exact h0
   ·exact ih h v hv
  ·rename_i h0; exact absurd h h0
theorem varB_zero {v : LVar} (h : varB v = 0) : isNameL v.name = true ∧ inB v.kind 1 3 = true ∧ inB v.type 1 2 = true ∧ inB v.size 0 8 = true := by
 unfold varB at h
 split at h
 ·rename_i h1
  split at h
  ·rename_i h2
   simp at h2
   exact ⟨h1, h2.1.1, h2.1.2, h2.2⟩
  ·simp at h
 ·simp at h
theorem right_at {N : List LNode} (h : rightsB N = true) {k : Nat} {n : LNode} (hk : N[k]? = some n) : ownB n = true ∧ refsB N k n.kids true = true ∧ refsB N k n.thn false = true ∧ refsB N k n.els false = true := by
 have hlt := (List.getElem?_eq_some_iff.1 hk).1
 have h1 := List.all_eq_true.1 h k (List.mem_range.2 hlt)
 have e : N.getD k default = n := by rw [List.getD_eq_getElem?_getD, hk]; rfl
 rw [rightB_eq, e] at h1
 simp only [Bool.and_eq_true] at h1
 exact ⟨h1.1.1.1, h1.1.1.2, h1.1.2, h1.2⟩
theorem own_nums {n : LNode} (h : ownB n = true) : (0 ≤ n.num ∧ n.num ≤ 65535) ∧ (0 ≤ n.far ∧ n.far ≤ 65535) ∧ (1 ≤ n.kind ∧ n.kind ≤ 11) := by
 unfold ownB at h
 simp only [Bool.and_eq_true] at h
 obtain ⟨⟨⟨⟨⟨⟨⟨⟨h1, _⟩, _⟩, _⟩, h2⟩, h3⟩, _⟩, _⟩, _⟩ := h
 refine ⟨?_, ?_, inB_iff.1 h1⟩
 ·split at h2
  ·exact inB_iff.1 h2
  ·have := of_decide_eq_true h2; omega
 ·split at h3
  ·exact inB_iff.1 h3
  ·have := of_decide_eq_true h3; omega
theorem own_op {n : LNode} (h : ownB n = true) (hk : n.kind = 11) : 1 ≤ n.op ∧ n.op ≤ 4 := by
 unfold ownB at h
 simp only [Bool.and_eq_true] at h
 obtain ⟨⟨⟨_, h2⟩, _⟩, _⟩ := h
 rw [if_neg (by omega), if_pos hk] at h2
 exact inB_iff.1 h2
theorem own_name {n : LNode} (h : ownB n = true) (hk : n.kind = 11) : isNameL n.name = true := by
 unfold ownB at h
 simp only [Bool.and_eq_true] at h
 obtain ⟨⟨⟨⟨⟨⟨⟨⟨_, h1⟩, _⟩, _⟩, _⟩, _⟩, _⟩, _⟩, _⟩ := h
 rw [hk] at h1
 simpa [wantsN] using h1
theorem name_len {l : List UInt8} (h : isNameL l = true) : 1 ≤ l.length ∧ l.length ≤ 8 := by
 unfold isNameL at h
 simp only [Bool.and_eq_true] at h
 exact of_decide_eq_true h.1.1
theorem ownOf_one (K op : Int) : ∀ v ∈ ownOf K op [], v.name.length = 1 := by
 intro v hv; unfold ownOf at hv
 split at hv
 ·simp at hv; rcases hv with rfl | rfl | rfl <;> rfl
 split at hv
 ·simp at hv; rcases hv with rfl | rfl <;> rfl
 split at hv
 ·simp at hv; rcases hv with rfl | rfl <;> rfl
 ·simp at hv; subst hv; rfl
theorem ownOf_nm (K op : Int) (nm : List UInt8) : ownOf K op nm = (ownOf K op []).map fun v => { v with name := nm ++ v.name } := by
 unfold ownOf
 split
 ·rfl
 split
 ·rfl
 split <;> rfl
theorem refs_lt {N : List LNode} {m : Nat} {l : List Int} {e : Bool} (h : refsB N m l e = true) : ∀ x ∈ l, 0 ≤ x ∧ x < (m : Int) := fun x hx => by
 have h1 := List.all_eq_true.1 h x hx
 unfold refB at h1
 simp only [Bool.and_eq_true] at h1
 have := inB_iff.1 h1.1
 omega
structure Good (T : LTree) : Prop where
 vars : T.vars.length ≤ 24
 nodes : T.nodes.length ≤ 200
 var : ∀ v ∈ T.vars, isNameL v.name = true ∧ (1 ≤ v.kind ∧ v.kind ≤ 3) ∧ (1 ≤ v.type ∧ v.type ≤ 2) ∧ (0 ≤ v.size ∧ v.size ≤ 8)
 node : ∀ (k : Nat) (n : LNode), T.nodes[k]? = some n → ownB n = true ∧ (∀ x ∈ n.kids, 0 ≤ x ∧ x < (k : Int)) ∧ (∀ x ∈ n.thn, 0 ≤ x ∧ x < (k : Int)) ∧ (∀ x ∈ n.els, 0 ≤ x ∧ x < (k : Int))
 body : ∀ x ∈ T.body, 0 ≤ x ∧ x < (T.nodes.length : Int)
theorem good_of {T : LTree} (h : faultL T = 0) : Good T := by
 obtain ⟨h1, h2, h3, h4, h5⟩ := fault_zero h
 refine ⟨h1, h2, fun v hv => ?_, fun k n hk => ?_, refs_lt h5⟩
 ·obtain ⟨a, b, c, d⟩ := varB_zero (varsB_zero h3 v hv)
  exact ⟨a, inB_iff.1 b, inB_iff.1 c, inB_iff.1 d⟩
 ·obtain ⟨a, b, c, d⟩ := right_at h4 hk
  exact ⟨a, refs_lt b, refs_lt c, refs_lt d⟩
theorem Good.tame {T : LTree} (h : Good T) (hS : Sized 1048576 T) : ∀ n ∈ T.nodes, Tame n := fun n hn => by
 obtain ⟨k, hk, rfl⟩ := List.getElem_of_mem hn
 have h1 := own_nums (h.node k _ (List.getElem?_eq_getElem hk)).1
 have h2 := hS.node _ hn
 exact ⟨h1.1, h1.2.1, h2.2.1, h2.2.2.1, h2.2.2.2⟩
theorem Good.sizes {T : LTree} (h : Good T) (K : Int) : SizesLe (allL K T) := fun v hv => by
 rcases List.mem_append.1 hv with hv | hv
 ·have := h.var v hv; omega
 ·have := ownsL_size K T.nodes v hv; omega
theorem Good.all_len {T : LTree} (h : Good T) (K : Int) : (allL K T).length ≤ 624 := by
 have h1 := ownsL_len K T.nodes
 have := h.vars
 have := h.nodes
 unfold allL; rw [List.length_append]; omega
def varFrom (nm : List UInt8) : List LVar → Nat → Int
 | [], _ => -1
 | v :: r, i => if v.name = nm then (i : Int) else varFrom nm r (i + 1)
theorem varFrom_hit {nm : List UInt8} {V : List LVar} {k : Nat} {x : LVar} (hx : V[k]? = some x) (h : x.name = nm) : varFrom nm (V.drop k) k = k := by
 rw [List.drop_eq_getElem_cons (List.getElem?_eq_some_iff.1 hx).1, (List.getElem?_eq_some_iff.1 hx).2, varFrom, if_pos h]
theorem varFrom_miss {nm : List UInt8} {V : List LVar} {k : Nat} {x : LVar} (hx : V[k]? = some x) (h : x.name ≠ nm) : varFrom nm (V.drop k) k = varFrom nm (V.drop (k + 1)) (k + 1) := by
 rw [List.drop_eq_getElem_cons (List.getElem?_eq_some_iff.1 hx).1, (List.getElem?_eq_some_iff.1 hx).2, varFrom, if_neg h]
theorem varFrom_or (nm : List UInt8) : ∀ (V : List LVar) (i : Nat), varFrom nm V i = -1 ∨ ∃ j : Nat, varFrom nm V i = j ∧ j < i + V.length := by
 intro V
 induction V with
 | nil => intro i; exact .inl rfl
 | cons v r ih =>
  intro i
  unfold varFrom
  split
  ·exact .inr ⟨i, rfl, by simp⟩
  ·rcases ih (i + 1) with h | ⟨j, h, hj⟩
   ·exact .inl h
   ·exact .inr ⟨j, h, by simp; omega⟩
abbrev Met := Int × Int
def metAt (st : Met) (c x : Int) : Met := if st.1 = 0 then (c, x) else st
def nodeOf (N : List LNode) (x : Int) : LNode := N.getD x.toNat default
def nameF (V : List LVar) (nv : Nat) (nm : List UInt8) (row : Bool) (x : Int) (st : Met) : Int × Met :=
 if varFrom nm V 0 < 0 ∨ (row = true ∧ (nv : Int) ≤ varFrom nm V 0) then (0, metAt st 4 x)
 else if (decide (0 < (V.getD (varFrom nm V 0).toNat default).size)) ≠ row then (0, metAt st 1 x)
 else ((V.getD (varFrom nm V 0).toNat default).type, st)
def boolB (V : List LVar) (n : LNode) : Bool :=
 if n.kind = 5 then true
 else if n.kind = 6 then decide (5 < n.op)
 else if n.kind = 2 ∨ n.kind = 3 then decide (0 ≤ varFrom n.name V 0 ∧ (V.getD (varFrom n.name V 0).toNat default).type = 2)
 else false
def sameF (V : List LVar) (N : List LNode) (a b : Int) : Int := if boolB V (nodeOf N (if (nodeOf N a).kind = 1 then b else a)) then 2 else 1
def mustW (n : LNode) (y want : Int) (r : Int × Met) : Met :=
 if want = 2 ∧ n.kind = 1 ∧ n.num ≤ 1 then r.2 else if r.2.1 = 0 ∧ r.1 ≠ want then metAt r.2 8 y else r.2
def wantF (V : List LVar) (N : List LNode) (n : LNode) : Int :=
 if n.op = 10 then sameF V N (n.kids.getD 0 0) (n.kids.getD 1 0) else if 6 ≤ n.op ∧ n.op ≤ 8 then 2 else 1
def typeF (V : List LVar) (nv : Nat) (N : List LNode) : Nat → Int → Met → Int × Met
 | 0, _, st => (0, st)
 | f + 1, x, st =>
  let n := nodeOf N x
  let must := fun (y want : Int) (st : Met) => mustW (nodeOf N y) y want (typeF V nv N f y st)
  if n.kind = 1 then (1, st)
  else if n.kind = 2 then nameF V nv n.name false x st
  else if n.kind = 3 then ((nameF V nv n.name true x st).1, must (n.kids.getD 0 0) 1 (nameF V nv n.name true x st).2)
  else if n.kind = 4 then (1, must (n.kids.getD 0 0) 1 st)
  else if n.kind = 5 then (2, must (n.kids.getD 0 0) 2 st)
  else (if n.op ≤ 5 then 1 else 2, must (n.kids.getD 1 0) (wantF V N n) (must (n.kids.getD 0 0) (wantF V N n) st))
attribute [local go_sem] bs_size bs_get bs_extract bs_append bs_eq bs_toList
theorem blk {w w' : World} {g : Nat} {cs : Array Value} {T : TypeId} (h : w.heap[g]? = some (.cells cs T (0, 0))) (hb : Below w.heap.size w w') : w'.heap[g]? = some (.cells cs T (0, 0)) :=
 (hb.block g (Array.getElem?_eq_some_iff.1 h).1).trans h
theorem blk_lt {w : World} {g : Nat} {o : Obj} (h : w.heap[g]? = some o) : g < w.heap.size := (Array.getElem?_eq_some_iff.1 h).1
abbrev varV (x : LVar) : Value := .agg #[.string (bs x.name), .int .i64 x.kind, .int .i64 x.type, .int .i64 x.size]
def varCells (xs : List LVar) : List Value := xs.flatMap fun x => [.string (bs x.name), .int .i64 x.kind, .int .i64 x.type, .int .i64 x.size]
theorem varCells_len (xs : List LVar) : (varCells xs).length = xs.length * 4 := by
 induction xs with
 | nil => rfl
 | cons x T ih => simp [varCells] at *; omega
theorem varCells_at (T : List LVar) (k : Nat) (x : LVar) (hk : T[k]? = some x) : (varCells T)[k * 4]? = some (.string (bs x.name)) ∧ (varCells T)[k * 4 + 1]? = some (.int .i64 x.kind) ∧ (varCells T)[k * 4 + 2]? = some (.int .i64 x.type) ∧ (varCells T)[k * 4 + 3]? = some (.int .i64 x.size) := by
 induction T generalizing k with
 | nil => simp at hk
 | cons y T ih =>
  cases k with
  | zero =>
   have hy : y = x := by simpa using hk
   subst hy
   simp [varCells]
  | succ k =>
   have h := ih k (by simpa using hk)
   have e : ∀ j, (varCells (y :: T))[(k + 1) * 4 + j]? = (varCells T)[k * 4 + j]? := fun j => by
    unfold varCells
    rw [List.flatMap_cons, List.getElem?_append_right (by simp; omega)]
    congr 1
    simp; omega
   have e0 := e 0
   rw [Nat.add_zero, Nat.add_zero] at e0
   rw [e0, e 1, e 2, e 3]
   exact h
set_option maxHeartbeats 800000 in
theorem l5Var_any (nm : List UInt8) (c : UInt8) (t : Int) (w : World) (hn : nm.length ≤ 1048576) :
  Calls Tryz.prog 118 #[.string (bs nm), .string (bs [c]), .int .i64 t] w fun e w' => e = .returned (varV ⟨nm ++ [c], 3, t, 0⟩) ∧ Below w.heap.size w w' := by
 have hsum : ¬ (9223372036854775807 < nm.length + 1) := by omega
 go_enter Tryz.func118, Tryz.ntmps118
 go_wp2
 refine bodyPost_ret (v := varV ⟨nm ++ [c], 3, t, 0⟩) (by simp [results, Tryz.results118, go_sem]) rfl ⟨rfl, by go_grown⟩
set_option maxHeartbeats 6400000 in
set_option maxRecDepth 100000 in
theorem l5Own_1 (n : LNode) (vk vt ve : Value) (w : World) (h1 : ∃ a l c, vk = .slice a l c) (h2 : ∃ a l c, vt = .slice a l c) (h3 : ∃ a l c, ve = .slice a l c) (hn : n.name.length ≤ 1048576) (hop : n.op = 1) :
  Calls Tryz.prog 93 #[nodeV n vk vt ve] w fun e w' => (∃ g, e = .returned (.slice (some ⟨g, 0, none⟩) (ownOf 3 1 n.name).length (ownOf 3 1 n.name).length) ∧ w.heap.size ≤ g ∧ w'.heap[g]? = some (.cells (varCells (ownOf 3 1 n.name)).toArray 86 (0, 0))) ∧ Below w.heap.size w w' := by
 obtain ⟨a, l, c, rfl⟩ := h1
 obtain ⟨a2, l2, c2, rfl⟩ := h2
 obtain ⟨a3, l3, c3, rfl⟩ := h3
 obtain ⟨k, op, nm, num, far, kids, thn, els⟩ := n
 simp only at hop hn ⊢
 subst hop
 have HX : Hid (∀ (c : UInt8) (t : Int) (w : World), Calls Tryz.prog 118 #[.string (bs nm), .string (bs [c]), .int .i64 t] w fun e w' => e = .returned (varV ⟨nm ++ [c], 3, t, 0⟩) ∧ Below w.heap.size w w') := fun c t w => l5Var_any nm c t w hn
 go_enter Tryz.func93, Tryz.ntmps93
 go_wp2_with fail
 have hA := heap_alloc_new w (.cells #[.int .i64 k, .int .i64 1, .string (bs nm), .int .i64 num, .int .i64 far, .slice a l c, .slice a2 l2 c2, .slice a3 l3 c3] 88)
 have hB : Below w.heap.size w (w.alloc (.cells #[.int .i64 k, .int .i64 1, .string (bs nm), .int .i64 num, .int .i64 far, .slice a l c, .slice a2 l2 c2, .slice a3 l3 c3] 88)) := (Below.refl _ _).alloc (Nat.le_refl _) _
 generalize w.alloc (.cells #[.int .i64 k, .int .i64 1, .string (bs nm), .int .i64 num, .int .i64 far, .slice a l c, .slice a2 l2 c2, .slice a3 l3 c3] 88) = W at *
 have hc2 : W.cell? ⟨w.heap.size, 2, none⟩ = some (.string (bs nm)) := cell_of_row _ _ 2 _ _ _ hA
 have hlt : w.heap.size < W.heap.size := blk_lt hA
 have HC2 := hid hc2
 have HB := hid hB
 have HBW : Hid (Below W.heap.size W W.drew) := (Below.refl _ _).drew
 clear hA hB
 go_region_held3 (fun Z => Z.cell? ⟨w.heap.size, 2, none⟩ = some (.string (bs nm))) (go_keep) (first | (go_at_call 118; refine (HX.out _ _ _).mono ?_; rintro e w2 ⟨rfl, hb⟩; have hD : Below W.heap.size W w2 := HBW.out.trans (Below.mono hb HBW.out.size); have k2 := (hD.cell (p := ⟨w.heap.size, 2, none⟩) hlt).trans HC2.out; clear HBW hb; have HBW : Hid (Below W.heap.size W w2) := hD; clear hD))
 go_wp2
 go_ret
 exact ⟨⟨w2.heap.size, rfl, Nat.le_trans HB.out.size HBW.out.size, heap_alloc_new w2 _⟩, (HB.out.trans (HBW.out.mono HB.out.size)).alloc (Nat.le_trans HB.out.size HBW.out.size) _⟩
set_option maxHeartbeats 6400000 in
set_option maxRecDepth 100000 in
theorem l5Own_2 (n : LNode) (vk vt ve : Value) (w : World) (h1 : ∃ a l c, vk = .slice a l c) (h2 : ∃ a l c, vt = .slice a l c) (h3 : ∃ a l c, ve = .slice a l c) (hn : n.name.length ≤ 1048576) (hop : n.op = 2) :
  Calls Tryz.prog 93 #[nodeV n vk vt ve] w fun e w' => (∃ g, e = .returned (.slice (some ⟨g, 0, none⟩) (ownOf 3 2 n.name).length (ownOf 3 2 n.name).length) ∧ w.heap.size ≤ g ∧ w'.heap[g]? = some (.cells (varCells (ownOf 3 2 n.name)).toArray 86 (0, 0))) ∧ Below w.heap.size w w' := by
 obtain ⟨a, l, c, rfl⟩ := h1
 obtain ⟨a2, l2, c2, rfl⟩ := h2
 obtain ⟨a3, l3, c3, rfl⟩ := h3
 obtain ⟨k, op, nm, num, far, kids, thn, els⟩ := n
 simp only at hop hn ⊢
 subst hop
 have HX : Hid (∀ (c : UInt8) (t : Int) (w : World), Calls Tryz.prog 118 #[.string (bs nm), .string (bs [c]), .int .i64 t] w fun e w' => e = .returned (varV ⟨nm ++ [c], 3, t, 0⟩) ∧ Below w.heap.size w w') := fun c t w => l5Var_any nm c t w hn
 go_enter Tryz.func93, Tryz.ntmps93
 go_wp2_with fail
 have hA := heap_alloc_new w (.cells #[.int .i64 k, .int .i64 2, .string (bs nm), .int .i64 num, .int .i64 far, .slice a l c, .slice a2 l2 c2, .slice a3 l3 c3] 88)
 have hB : Below w.heap.size w (w.alloc (.cells #[.int .i64 k, .int .i64 2, .string (bs nm), .int .i64 num, .int .i64 far, .slice a l c, .slice a2 l2 c2, .slice a3 l3 c3] 88)) := (Below.refl _ _).alloc (Nat.le_refl _) _
 generalize w.alloc (.cells #[.int .i64 k, .int .i64 2, .string (bs nm), .int .i64 num, .int .i64 far, .slice a l c, .slice a2 l2 c2, .slice a3 l3 c3] 88) = W at *
 have hc2 : W.cell? ⟨w.heap.size, 2, none⟩ = some (.string (bs nm)) := cell_of_row _ _ 2 _ _ _ hA
 have hlt : w.heap.size < W.heap.size := blk_lt hA
 have HC2 := hid hc2
 have HB := hid hB
 have HBW : Hid (Below W.heap.size W W.drew) := (Below.refl _ _).drew
 clear hA hB
 go_region_held3 (fun Z => Z.cell? ⟨w.heap.size, 2, none⟩ = some (.string (bs nm))) (go_keep) (first | (go_at_call 118; refine (HX.out _ _ _).mono ?_; rintro e w2 ⟨rfl, hb⟩; have hD : Below W.heap.size W w2 := HBW.out.trans (Below.mono hb HBW.out.size); have k2 := (hD.cell (p := ⟨w.heap.size, 2, none⟩) hlt).trans HC2.out; clear HBW hb; have HBW : Hid (Below W.heap.size W w2) := hD; clear hD))
 go_wp2
 go_ret
 exact ⟨⟨w2.heap.size, rfl, Nat.le_trans HB.out.size HBW.out.size, heap_alloc_new w2 _⟩, (HB.out.trans (HBW.out.mono HB.out.size)).alloc (Nat.le_trans HB.out.size HBW.out.size) _⟩
set_option maxHeartbeats 6400000 in
set_option maxRecDepth 100000 in
theorem l5Own_3 (n : LNode) (vk vt ve : Value) (w : World) (h1 : ∃ a l c, vk = .slice a l c) (h2 : ∃ a l c, vt = .slice a l c) (h3 : ∃ a l c, ve = .slice a l c) (hn : n.name.length ≤ 1048576) (hop : n.op = 3) :
  Calls Tryz.prog 93 #[nodeV n vk vt ve] w fun e w' => (∃ g, e = .returned (.slice (some ⟨g, 0, none⟩) (ownOf 3 3 n.name).length (ownOf 3 3 n.name).length) ∧ w.heap.size ≤ g ∧ w'.heap[g]? = some (.cells (varCells (ownOf 3 3 n.name)).toArray 86 (0, 0))) ∧ Below w.heap.size w w' := by
 obtain ⟨a, l, c, rfl⟩ := h1
 obtain ⟨a2, l2, c2, rfl⟩ := h2
 obtain ⟨a3, l3, c3, rfl⟩ := h3
 obtain ⟨k, op, nm, num, far, kids, thn, els⟩ := n
 simp only at hop hn ⊢
 subst hop
 have HX : Hid (∀ (c : UInt8) (t : Int) (w : World), Calls Tryz.prog 118 #[.string (bs nm), .string (bs [c]), .int .i64 t] w fun e w' => e = .returned (varV ⟨nm ++ [c], 3, t, 0⟩) ∧ Below w.heap.size w w') := fun c t w => l5Var_any nm c t w hn
 go_enter Tryz.func93, Tryz.ntmps93
 go_wp2_with fail
 have hA := heap_alloc_new w (.cells #[.int .i64 k, .int .i64 3, .string (bs nm), .int .i64 num, .int .i64 far, .slice a l c, .slice a2 l2 c2, .slice a3 l3 c3] 88)
 have hB : Below w.heap.size w (w.alloc (.cells #[.int .i64 k, .int .i64 3, .string (bs nm), .int .i64 num, .int .i64 far, .slice a l c, .slice a2 l2 c2, .slice a3 l3 c3] 88)) := (Below.refl _ _).alloc (Nat.le_refl _) _
 generalize w.alloc (.cells #[.int .i64 k, .int .i64 3, .string (bs nm), .int .i64 num, .int .i64 far, .slice a l c, .slice a2 l2 c2, .slice a3 l3 c3] 88) = W at *
 have hc2 : W.cell? ⟨w.heap.size, 2, none⟩ = some (.string (bs nm)) := cell_of_row _ _ 2 _ _ _ hA
 have hlt : w.heap.size < W.heap.size := blk_lt hA
 have HC2 := hid hc2
 have HB := hid hB
 have HBW : Hid (Below W.heap.size W W.drew) := (Below.refl _ _).drew
 clear hA hB
 go_region_held3 (fun Z => Z.cell? ⟨w.heap.size, 2, none⟩ = some (.string (bs nm))) (go_keep) (first | (go_at_call 118; refine (HX.out _ _ _).mono ?_; rintro e w2 ⟨rfl, hb⟩; have hD : Below W.heap.size W w2 := HBW.out.trans (Below.mono hb HBW.out.size); have k2 := (hD.cell (p := ⟨w.heap.size, 2, none⟩) hlt).trans HC2.out; clear HBW hb; have HBW : Hid (Below W.heap.size W w2) := hD; clear hD))
 go_wp2
 go_ret
 exact ⟨⟨w2.heap.size, rfl, Nat.le_trans HB.out.size HBW.out.size, heap_alloc_new w2 _⟩, (HB.out.trans (HBW.out.mono HB.out.size)).alloc (Nat.le_trans HB.out.size HBW.out.size) _⟩
set_option maxHeartbeats 6400000 in
set_option maxRecDepth 100000 in
theorem l5Own_4 (n : LNode) (vk vt ve : Value) (w : World) (h1 : ∃ a l c, vk = .slice a l c) (h2 : ∃ a l c, vt = .slice a l c) (h3 : ∃ a l c, ve = .slice a l c) (hn : n.name.length ≤ 1048576) (hop : n.op = 4) :
  Calls Tryz.prog 93 #[nodeV n vk vt ve] w fun e w' => (∃ g, e = .returned (.slice (some ⟨g, 0, none⟩) (ownOf 3 4 n.name).length (ownOf 3 4 n.name).length) ∧ w.heap.size ≤ g ∧ w'.heap[g]? = some (.cells (varCells (ownOf 3 4 n.name)).toArray 86 (0, 0))) ∧ Below w.heap.size w w' := by
 obtain ⟨a, l, c, rfl⟩ := h1
 obtain ⟨a2, l2, c2, rfl⟩ := h2
 obtain ⟨a3, l3, c3, rfl⟩ := h3
 obtain ⟨k, op, nm, num, far, kids, thn, els⟩ := n
 simp only at hop hn ⊢
 subst hop
 have HX : Hid (∀ (c : UInt8) (t : Int) (w : World), Calls Tryz.prog 118 #[.string (bs nm), .string (bs [c]), .int .i64 t] w fun e w' => e = .returned (varV ⟨nm ++ [c], 3, t, 0⟩) ∧ Below w.heap.size w w') := fun c t w => l5Var_any nm c t w hn
 go_enter Tryz.func93, Tryz.ntmps93
 go_wp2_with fail
 have hA := heap_alloc_new w (.cells #[.int .i64 k, .int .i64 4, .string (bs nm), .int .i64 num, .int .i64 far, .slice a l c, .slice a2 l2 c2, .slice a3 l3 c3] 88)
 have hB : Below w.heap.size w (w.alloc (.cells #[.int .i64 k, .int .i64 4, .string (bs nm), .int .i64 num, .int .i64 far, .slice a l c, .slice a2 l2 c2, .slice a3 l3 c3] 88)) := (Below.refl _ _).alloc (Nat.le_refl _) _
 generalize w.alloc (.cells #[.int .i64 k, .int .i64 4, .string (bs nm), .int .i64 num, .int .i64 far, .slice a l c, .slice a2 l2 c2, .slice a3 l3 c3] 88) = W at *
 have hc2 : W.cell? ⟨w.heap.size, 2, none⟩ = some (.string (bs nm)) := cell_of_row _ _ 2 _ _ _ hA
 have hlt : w.heap.size < W.heap.size := blk_lt hA
 have HC2 := hid hc2
 have HB := hid hB
 clear hA hB
 refine (HX.out 113 2 _).mono ?_
 rintro e w2 ⟨rfl, hb⟩
 have HBW := hid hb
 clear hb
 go_wp2_with fail
 go_ret
 exact ⟨⟨w2.heap.size, rfl, Nat.le_trans HB.out.size HBW.out.size, heap_alloc_new w2 _⟩, (HB.out.trans (HBW.out.mono HB.out.size)).alloc (Nat.le_trans HB.out.size HBW.out.size) _⟩
def VarsR (lo : Nat) (w' : World) (e : Ending) (V : List LVar) : Prop := ∃ g, e = .returned (.slice (some ⟨g, 0, none⟩) V.length V.length) ∧ lo ≤ g ∧ w'.heap[g]? = some (.cells (varCells V).toArray 86 (0, 0))
theorem l5Own_any (n : LNode) (vk vt ve : Value) (w : World) (h1 : ∃ a l c, vk = .slice a l c) (h2 : ∃ a l c, vt = .slice a l c) (h3 : ∃ a l c, ve = .slice a l c) (hn : n.name.length ≤ 1048576) (ho1 : 1 ≤ n.op) (ho4 : n.op ≤ 4) :
  Calls Tryz.prog 93 #[nodeV n vk vt ve] w fun e w' => VarsR w.heap.size w' e (ownOf 3 n.op n.name) ∧ Below w.heap.size w w' := by
 have h : n.op = 1 ∨ n.op = 2 ∨ n.op = 3 ∨ n.op = 4 := by omega
 rcases h with h | h | h | h <;> rw [h]
 ·exact l5Own_1 n vk vt ve w h1 h2 h3 hn h
 ·exact l5Own_2 n vk vt ve w h1 h2 h3 hn h
 ·exact l5Own_3 n vk vt ve w h1 h2 h3 hn h
 ·exact l5Own_4 n vk vt ve w h1 h2 h3 hn h
end Go.Proofs.YteeklmgkhacbcaaGreatDoor
