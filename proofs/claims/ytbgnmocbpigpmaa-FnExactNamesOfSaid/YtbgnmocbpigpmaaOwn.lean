/-
  ownB, kind by kind.
-/
import Derived.Test.YtbgnmocbpigpmaaTreeM
import Derived.Test.YtbgnmocbpigpmaaFaultM
namespace Go.Proofs.Ytbgnmocbpigpmaa
open Go.RowKit
set_option linter.unusedVariables false
attribute [local go_sem] bs_size bs_get bs_extract bs_append bs_eq bs_toList

/-- the variables that a call needs; K: what stands as their kind -/
def ownOf (K : Int) (op : Int) (nm : List UInt8) : List LVar :=
  if op = 1 then [⟨nm ++ [118], K, 1, 0⟩, ⟨nm ++ [109], K, 2, 0⟩, ⟨nm ++ [113], K, 2, 0⟩]
  else if op = 2 then [⟨nm ++ [118], K, 1, 0⟩, ⟨nm ++ [113], K, 2, 0⟩]
  else if op = 3 then [⟨nm ++ [109], K, 2, 0⟩, ⟨nm ++ [113], K, 2, 0⟩]
  else [⟨nm ++ [113], K, 2, 0⟩]
theorem ownOf_len (K op : Int) (nm : List UInt8) : 1 ≤ (ownOf K op nm).length ∧ (ownOf K op nm).length ≤ 3 := by
  unfold ownOf; split
  · simp
  split
  · simp
  split <;> simp
theorem ownOf_size (K op : Int) (nm : List UInt8) : ∀ v ∈ ownOf K op nm, v.size = 0 := by
  intro v hv; unfold ownOf at hv
  split at hv
  · simp at hv; rcases hv with rfl | rfl | rfl <;> rfl
  split at hv
  · simp at hv; rcases hv with rfl | rfl <;> rfl
  split at hv
  · simp at hv; rcases hv with rfl | rfl <;> rfl
  · simp at hv; subst hv; rfl
theorem ownOf_name (K op : Int) (nm : List UInt8) : ownOf K op nm = (ownOf K op []).map fun v => { v with name := nm ++ v.name } := by
  unfold ownOf
  split
  · rfl
  split
  · rfl
  split <;> rfl
theorem ownOf_get {K op : Int} {nm : List UInt8} {j : Nat} {v : LVar} (h : (ownOf K op [])[j]? = some v) : (ownOf K op nm)[j]? = some { v with name := nm ++ v.name } := by rw [ownOf_name, List.getElem?_map, h]; rfl
theorem ownOf_len2 (K op : Int) (nm : List UInt8) : (ownOf K op nm).length = (ownOf K op []).length := by rw [ownOf_name K op nm, List.length_map]
/-- what a block's call wants -/
def argsL (op : Int) : List Int := if op = 1 then [2, 2, 1] else if op = 2 then [2, 1] else if op = 3 then [2] else [2, 2]
end Go.Proofs.Ytbgnmocbpigpmaa
namespace Go.Proofs.Ytbgnmocbpigpmaa
open Go.RowKit
set_option linter.unusedVariables false

def ownN (K : Int) (n : LNode) : List LVar := if n.kind = 11 then ownOf K n.op n.name else []
def ownsL (K : Int) (N : List LNode) : List LVar := N.flatMap (ownN K)
def allL (K : Int) (T : LTree) : List LVar := T.vars ++ ownsL K T.nodes
def szV (v : LVar) : Int := max 1 v.size
def cellsL (V : List LVar) : Int := V.foldl (fun s v => s + szV v) 0

theorem ownsL_take {K : Int} {N : List LNode} {k : Nat} {n : LNode} (h : N[k]? = some n) : ownsL K (N.take (k + 1)) = ownsL K (N.take k) ++ ownN K n := by
  obtain ⟨hk, rfl⟩ := List.getElem?_eq_some_iff.1 h
  unfold ownsL; rw [List.take_succ_eq_append_getElem hk, List.flatMap_append]; simp
theorem ownN_len (K : Int) (n : LNode) : (ownN K n).length ≤ 3 := by
  unfold ownN; split
  · exact (ownOf_len K _ _).2
  · simp
theorem ownsL_len (K : Int) (N : List LNode) : (ownsL K N).length ≤ 3 * N.length := by
  unfold ownsL
  induction N with
  | nil => simp
  | cons n r ih => rw [List.flatMap_cons, List.length_append, List.length_cons]; have := ownN_len K n; omega
theorem cellsL_take {V : List LVar} {k : Nat} {v : LVar} (h : V[k]? = some v) : cellsL (V.take (k + 1)) = cellsL (V.take k) + szV v := by
  obtain ⟨hk, rfl⟩ := List.getElem?_eq_some_iff.1 h
  unfold cellsL; rw [List.take_succ_eq_append_getElem hk, List.foldl_append]; rfl
theorem cellsL_append (V W : List LVar) : cellsL (V ++ W) = cellsL V + cellsL W := by
  have gen : ∀ (W : List LVar) (a : Int), W.foldl (fun s v => s + szV v) a = a + W.foldl (fun s v => s + szV v) 0 := by
    intro W
    induction W with
    | nil => intro a; simp
    | cons v r ih => intro a; rw [List.foldl_cons, List.foldl_cons, ih, ih (0 + szV v)]; omega
  unfold cellsL; rw [List.foldl_append, gen]
theorem cellsL_snoc (V : List LVar) (v : LVar) : cellsL (V ++ [v]) = cellsL V + szV v := by rw [cellsL_append]; simp [cellsL]
/-- each size is within bounds -/
def SizesLe (V : List LVar) : Prop := ∀ v ∈ V, v.size ≤ 8
theorem ownsL_size (K : Int) (N : List LNode) : ∀ v ∈ ownsL K N, v.size = 0 := by
  intro v hv
  obtain ⟨n, _, h⟩ := List.mem_flatMap.1 hv
  unfold ownN at h
  split at h
  · exact ownOf_size _ _ _ v h
  · cases h
theorem cellsL_le : ∀ (V : List LVar), SizesLe V → 0 ≤ cellsL V ∧ cellsL V ≤ 8 * V.length := by
  intro V
  induction V with
  | nil => intro _; exact ⟨Int.le_refl 0, Int.le_refl 0⟩
  | cons v r ih =>
    intro h
    have h1 := ih (fun u hu => h u (by simp [hu]))
    have h2 := h v (by simp)
    have e : cellsL (v :: r) = szV v + cellsL r := by
      have := cellsL_append [v] r
      simp [cellsL] at this ⊢; exact this
    have h3 : 0 ≤ szV v ∧ szV v ≤ 8 := by unfold szV; omega
    rw [e]; simp; omega

/-- what lies at the places of a list, all together -/
def sumAtL (cs : List Int) (l : List Int) : Int := l.foldl (fun s x => s + cs.getD x.toNat 0) 0
theorem sumAt_take {cs l : List Int} {k : Nat} {x : Int} (h : l[k]? = some x) : sumAtL cs (l.take (k + 1)) = sumAtL cs (l.take k) + cs.getD x.toNat 0 := by
  obtain ⟨hk, rfl⟩ := List.getElem?_eq_some_iff.1 h
  unfold sumAtL; rw [List.take_succ_eq_append_getElem hk, List.foldl_append]; rfl
def costN (cs : List Int) (n : LNode) : Int :=
  min 100000 (if n.kind = 9 then 1 + sumAtL cs n.kids + max (sumAtL cs n.thn) (sumAtL cs n.els)
    else if n.kind = 10 then 1 + sumAtL cs n.kids + 2 + max 0 (n.far - n.num + 1) * (3 + sumAtL cs n.thn)
    else if n.kind = 11 then 1 + sumAtL cs n.kids + 12
    else 1 + sumAtL cs n.kids)
/-- the costs of the first k nodes -/
def costsF (N : List LNode) : Nat → List Int
  | 0 => []
  | k + 1 => costsF N k ++ [costN (costsF N k) (N.getD k default)]
theorem costsF_len (N : List LNode) : ∀ k, (costsF N k).length = k := by
  intro k
  induction k with
  | zero => rfl
  | succ k ih => simp [costsF, ih]
theorem costsF_get (N : List LNode) : ∀ (k i : Nat), i < k → (costsF N k)[i]? = some (costN (costsF N i) (N.getD i default)) := by
  intro k
  induction k with
  | zero => intro i h; omega
  | succ k ih =>
    intro i h
    rw [costsF, List.getElem?_append, costsF_len]
    by_cases e : i < k
    · rw [if_pos e]; exact ih i e
    · have : i = k := by omega
      subst this
      rw [if_neg e]; simp
/-- numbers between 0 and M -/
def Betw (M : Int) (cs : List Int) : Prop := ∀ i : Nat, 0 ≤ cs.getD i 0 ∧ cs.getD i 0 ≤ M
theorem sumAt_le {M : Int} {cs : List Int} (h : Betw M cs) (hM : 0 ≤ M) (l : List Int) : 0 ≤ sumAtL cs l ∧ sumAtL cs l ≤ M * l.length := by
  have gen : ∀ (l : List Int) (a : Int), a ≤ l.foldl (fun s x => s + cs.getD x.toNat 0) a ∧ l.foldl (fun s x => s + cs.getD x.toNat 0) a ≤ a + M * l.length := by
    intro l
    induction l with
    | nil => intro a; simp
    | cons x r ih =>
      intro a
      have h1 := ih (a + cs.getD x.toNat 0)
      have h2 := h x.toNat
      have e : M * ((x :: r).length : Int) = M + M * (r.length : Int) := by simp [Int.mul_add]; omega
      rw [List.foldl_cons, e]; omega
  have := gen l 0
  unfold sumAtL; omega
/-- a node's numbers and lists are within bounds -/
structure Tame (n : LNode) : Prop where
  num : 0 ≤ n.num ∧ n.num ≤ 65535
  far : 0 ≤ n.far ∧ n.far ≤ 65535
  kids : n.kids.length ≤ 1048576
  thn : n.thn.length ≤ 1048576
  els : n.els.length ≤ 1048576
theorem rounds_le {n : LNode} (h : Tame n) : 0 ≤ max 0 (n.far - n.num + 1) ∧ max 0 (n.far - n.num + 1) ≤ 65536 := by
  have := h.num; have := h.far; omega
theorem mul_le_of {a b A B : Int} (h0 : 0 ≤ a) (h1 : a ≤ A) (h2 : 0 ≤ b) (h3 : b ≤ B) : 0 ≤ a * b ∧ a * b ≤ A * B :=
  ⟨Int.mul_nonneg h0 h2, Int.mul_le_mul h1 h3 h2 (by omega)⟩
theorem sum_big {cs : List Int} (h : Betw 100000 cs) {l : List Int} (hl : l.length ≤ 1048576) : 0 ≤ sumAtL cs l ∧ sumAtL cs l ≤ 104857600000 := by
  have := sumAt_le h (by omega) l; omega
theorem costN_le {cs : List Int} {n : LNode} (h : Betw 100000 cs) (hn : Tame n) : 0 ≤ costN cs n ∧ costN cs n ≤ 100000 := by
  have h1 := sum_big h hn.kids
  have h2 := sum_big h hn.thn
  have h3 := sum_big h hn.els
  have h4 := mul_le_of (rounds_le hn).1 (rounds_le hn).2 (b := 3 + sumAtL cs n.thn) (by omega) (Int.add_le_add_left h2.2 3)
  unfold costN
  split
  · omega
  split
  · omega
  split <;> omega
theorem costsF_le (N : List LNode) (hN : ∀ n ∈ N, Tame n) : ∀ k : Nat, k ≤ N.length → Betw 100000 (costsF N k) := by
  intro k
  induction k with
  | zero => intro _ i; simp [costsF]
  | succ k ih =>
    intro hk i
    have hi := ih (by omega) i
    have hd := costN_le (ih (by omega)) (hN (N.getD k default) (by
      have : N.getD k default = N[k]'(by omega) := by simp [List.getD_eq_getElem?_getD, List.getElem?_eq_getElem (show k < N.length by omega)]
      rw [this]; exact List.getElem_mem _))
    rw [costsF, List.getD_eq_getElem?_getD, List.getElem?_append, costsF_len]
    rw [List.getD_eq_getElem?_getD] at hi
    split
    · exact hi
    · by_cases e : i - k = 0
      · rw [e]; simpa using hd
      · have : ([costN (costsF N k) (N.getD k default)] : List Int)[i - k]? = none := List.getElem?_eq_none (by simp; omega)
        rw [this]; simp
/-- what the first k tell of a place ahead is what all tell -/
theorem costsF_same (N : List LNode) (k m i : Nat) (h : i < k) (hm : i < m) : (costsF N k).getD i 0 = (costsF N m).getD i 0 := by
  rw [List.getD_eq_getElem?_getD, List.getD_eq_getElem?_getD, costsF_get _ _ _ h, costsF_get _ _ _ hm]
theorem getD_zeros (cs : List Int) (m i : Nat) : (cs ++ List.replicate m 0).getD i 0 = cs.getD i 0 := by
  rw [List.getD_eq_getElem?_getD, List.getD_eq_getElem?_getD, List.getElem?_append]
  split
  · rfl
  · rename_i h
    rw [List.getElem?_replicate, List.getElem?_eq_none (by omega : cs.length ≤ i)]
    split <;> rfl
theorem sumAt_zeros (cs : List Int) (m : Nat) (l : List Int) : sumAtL (cs ++ List.replicate m 0) l = sumAtL cs l := by
  unfold sumAtL
  congr 1
  funext s x
  rw [getD_zeros]
theorem Betw.zeros {M : Int} {cs : List Int} (h : Betw M cs) (m : Nat) : Betw M (cs ++ List.replicate m 0) := fun i => by rw [getD_zeros]; exact h i
theorem costs_put (N : List LNode) (k n : Nat) (hk : k < n) : (costsF N k ++ List.replicate (n - k) 0).set k (costN (costsF N k) (N.getD k default)) = costsF N (k + 1) ++ List.replicate (n - (k + 1)) 0 := by
  rw [List.set_append_right _ _ (by rw [costsF_len]; omega), costsF_len, Nat.sub_self]
  obtain ⟨m, hm⟩ : ∃ m, n - k = m + 1 := ⟨n - k - 1, by omega⟩
  rw [hm, List.replicate_succ, List.set_cons_zero, show n - (k + 1) = m by omega]
  simp [costsF]
end Go.Proofs.Ytbgnmocbpigpmaa
namespace Go.Proofs.Ytbgnmocbpigpmaa
open Go.RowKit
set_option linter.unusedVariables false

theorem isNameL_nil : isNameL [] = false := by decide +kernel
theorem ownK1 (op : Int) (name : List UInt8) (num far : Int) (kids thn els : List Int) : ownB (⟨1, op, name, num, far, kids, thn, els⟩ : LNode) = (decide (op = 0) && name.isEmpty && inB num 0 65535 && decide (far = 0) && kids.isEmpty && thn.isEmpty && els.isEmpty) := by
  have hn := isNameL_nil
  rw [Bool.eq_iff_iff]
  cases name <;> simp [ownB, wantsN, inB, hn] <;> (try (intros; constructor <;> intro h <;> (try simp_all) <;> (try omega)))
theorem ownK2 (op : Int) (name : List UInt8) (num far : Int) (kids thn els : List Int) : ownB (⟨2, op, name, num, far, kids, thn, els⟩ : LNode) = (decide (op = 0) && isNameL name && decide (num = 0) && decide (far = 0) && kids.isEmpty && thn.isEmpty && els.isEmpty) := by
  have hn := isNameL_nil
  rw [Bool.eq_iff_iff]
  cases name <;> simp [ownB, wantsN, inB, hn] <;> (try (intros; constructor <;> intro h <;> (try simp_all) <;> (try omega)))
theorem ownK3 (op : Int) (name : List UInt8) (num far : Int) (kids thn els : List Int) : ownB (⟨3, op, name, num, far, kids, thn, els⟩ : LNode) = (decide (op = 0) && isNameL name && decide (num = 0) && decide (far = 0) && decide (1 ≤ kids.length ∧ kids.length ≤ 1) && thn.isEmpty && els.isEmpty) := by
  have hn := isNameL_nil
  rw [Bool.eq_iff_iff]
  cases name <;> simp [ownB, wantsN, inB, hn] <;> (try (intros; constructor <;> intro h <;> (try simp_all) <;> (try omega)))
theorem ownK4 (op : Int) (name : List UInt8) (num far : Int) (kids thn els : List Int) : ownB (⟨4, op, name, num, far, kids, thn, els⟩ : LNode) = (decide (op = 0) && name.isEmpty && decide (num = 0) && decide (far = 0) && decide (1 ≤ kids.length ∧ kids.length ≤ 1) && thn.isEmpty && els.isEmpty) := by
  have hn := isNameL_nil
  rw [Bool.eq_iff_iff]
  cases name <;> simp [ownB, wantsN, inB, hn] <;> (try (intros; constructor <;> intro h <;> (try simp_all) <;> (try omega)))
theorem ownK5 (op : Int) (name : List UInt8) (num far : Int) (kids thn els : List Int) : ownB (⟨5, op, name, num, far, kids, thn, els⟩ : LNode) = (decide (op = 0) && name.isEmpty && decide (num = 0) && decide (far = 0) && decide (1 ≤ kids.length ∧ kids.length ≤ 1) && thn.isEmpty && els.isEmpty) := by
  have hn := isNameL_nil
  rw [Bool.eq_iff_iff]
  cases name <;> simp [ownB, wantsN, inB, hn] <;> (try (intros; constructor <;> intro h <;> (try simp_all) <;> (try omega)))
theorem ownK6 (op : Int) (name : List UInt8) (num far : Int) (kids thn els : List Int) : ownB (⟨6, op, name, num, far, kids, thn, els⟩ : LNode) = (inB op 1 10 && name.isEmpty && decide (num = 0) && decide (far = 0) && decide (2 ≤ kids.length ∧ kids.length ≤ 2) && thn.isEmpty && els.isEmpty) := by
  have hn := isNameL_nil
  rw [Bool.eq_iff_iff]
  cases name <;> simp [ownB, wantsN, inB, hn] <;> (try (intros; constructor <;> intro h <;> (try simp_all) <;> (try omega)))
theorem ownK7 (op : Int) (name : List UInt8) (num far : Int) (kids thn els : List Int) : ownB (⟨7, op, name, num, far, kids, thn, els⟩ : LNode) = (decide (op = 0) && isNameL name && decide (num = 0) && decide (far = 0) && decide (1 ≤ kids.length ∧ kids.length ≤ 1) && thn.isEmpty && els.isEmpty) := by
  have hn := isNameL_nil
  rw [Bool.eq_iff_iff]
  cases name <;> simp [ownB, wantsN, inB, hn] <;> (try (intros; constructor <;> intro h <;> (try simp_all) <;> (try omega)))
theorem ownK8 (op : Int) (name : List UInt8) (num far : Int) (kids thn els : List Int) : ownB (⟨8, op, name, num, far, kids, thn, els⟩ : LNode) = (decide (op = 0) && isNameL name && decide (num = 0) && decide (far = 0) && decide (2 ≤ kids.length ∧ kids.length ≤ 2) && thn.isEmpty && els.isEmpty) := by
  have hn := isNameL_nil
  rw [Bool.eq_iff_iff]
  cases name <;> simp [ownB, wantsN, inB, hn] <;> (try (intros; constructor <;> intro h <;> (try simp_all) <;> (try omega)))
theorem ownK9 (op : Int) (name : List UInt8) (num far : Int) (kids thn els : List Int) : ownB (⟨9, op, name, num, far, kids, thn, els⟩ : LNode) = (decide (op = 0) && name.isEmpty && decide (num = 0) && decide (far = 0) && decide (1 ≤ kids.length ∧ kids.length ≤ 1)) := by
  have hn := isNameL_nil
  rw [Bool.eq_iff_iff]
  cases name <;> simp [ownB, wantsN, inB, hn] <;> (try (intros; constructor <;> intro h <;> (try simp_all) <;> (try omega)))
theorem ownK10 (op : Int) (name : List UInt8) (num far : Int) (kids thn els : List Int) : ownB (⟨10, op, name, num, far, kids, thn, els⟩ : LNode) = (decide (op = 0) && isNameL name && inB num 0 65535 && inB far 0 65535 && kids.isEmpty && els.isEmpty) := by
  have hn := isNameL_nil
  rw [Bool.eq_iff_iff]
  cases name <;> simp [ownB, wantsN, inB, hn] <;> (try (intros; constructor <;> intro h <;> (try simp_all) <;> (try omega)))
theorem ownK11 (op : Int) (name : List UInt8) (num far : Int) (kids thn els : List Int) : ownB (⟨11, op, name, num, far, kids, thn, els⟩ : LNode) = (inB op 1 4 && isNameL name && decide (num = 0) && decide (far = 0) && decide (1 ≤ kids.length ∧ kids.length ≤ 3) && thn.isEmpty && els.isEmpty) := by
  have hn := isNameL_nil
  rw [Bool.eq_iff_iff]
  cases name <;> simp [ownB, wantsN, inB, hn] <;> (try (intros; constructor <;> intro h <;> (try simp_all) <;> (try omega)))
end Go.Proofs.Ytbgnmocbpigpmaa
