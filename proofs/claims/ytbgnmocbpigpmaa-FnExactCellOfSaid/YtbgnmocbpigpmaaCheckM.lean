/-
  What may be run, plainly: blocks' own variables, cells, costs.
-/
import Derived.Test.YtbgnmocbpigpmaaFaultM
import Derived.Test.YtbgnmocbpigpmaaSOwn
namespace Go.Proofs.Ytbgnmocbpigpmaa
open Go.RowKit
set_option linter.unusedVariables false

def ownN (K : Int) (n : LNode) : List LVar := if n.kind = 11 then ownOf K n.op n.name else []
def ownsL (K : Int) (N : List LNode) : List LVar := N.flatMap (ownN K)
def allL (K : Int) (T : LTree) : List LVar := T.vars ++ ownsL K T.nodes
def szV (v : LVar) : Int := max 1 v.size
def cellsL (V : List LVar) : Int := V.foldl (fun s v => s + szV v) 0

theorem ownsL_take {K : Int} {N : List LNode} {k : Nat} {n : LNode} (h : N[k]? = some n) : ownsL K (N.take (k + 1)) = ownsL K (N.take k) ++ ownN K n := by
  obtain ⟨hk, rfl⟩ := List.getElem?_eq_some_iff.1 h
  unfold ownsL; rw [List.take_succ_eq_append_getElem hk, List.flatMap_append]; simp
theorem ownN_len (K : Int) (n : LNode) : (ownN K n).length ≤ 3 := by
  unfold ownN; split
  · exact (ownOf_len K _ _).2
  · simp
theorem ownsL_len (K : Int) (N : List LNode) : (ownsL K N).length ≤ 3 * N.length := by
  unfold ownsL
  induction N with
  | nil => simp
  | cons n r ih => rw [List.flatMap_cons, List.length_append, List.length_cons]; have := ownN_len K n; omega
theorem cellsL_take {V : List LVar} {k : Nat} {v : LVar} (h : V[k]? = some v) : cellsL (V.take (k + 1)) = cellsL (V.take k) + szV v := by
  obtain ⟨hk, rfl⟩ := List.getElem?_eq_some_iff.1 h
  unfold cellsL; rw [List.take_succ_eq_append_getElem hk, List.foldl_append]; rfl
theorem cellsL_append (V W : List LVar) : cellsL (V ++ W) = cellsL V + cellsL W := by
  have gen : ∀ (W : List LVar) (a : Int), W.foldl (fun s v => s + szV v) a = a + W.foldl (fun s v => s + szV v) 0 := by
    intro W
    induction W with
    | nil => intro a; simp
    | cons v r ih => intro a; rw [List.foldl_cons, List.foldl_cons, ih, ih (0 + szV v)]; omega
  unfold cellsL; rw [List.foldl_append, gen]
theorem cellsL_snoc (V : List LVar) (v : LVar) : cellsL (V ++ [v]) = cellsL V + szV v := by rw [cellsL_append]; simp [cellsL]
/-- each size is within bounds -/
def SizesLe (V : List LVar) : Prop := ∀ v ∈ V, v.size ≤ 8
theorem ownsL_size (K : Int) (N : List LNode) : ∀ v ∈ ownsL K N, v.size = 0 := by
  intro v hv
  obtain ⟨n, _, h⟩ := List.mem_flatMap.1 hv
  unfold ownN at h
  split at h
  · exact ownOf_size _ _ _ v h
  · cases h
theorem cellsL_le : ∀ (V : List LVar), SizesLe V → 0 ≤ cellsL V ∧ cellsL V ≤ 8 * V.length := by
  intro V
  induction V with
  | nil => intro _; exact ⟨Int.le_refl 0, Int.le_refl 0⟩
  | cons v r ih =>
    intro h
    have h1 := ih (fun u hu => h u (by simp [hu]))
    have h2 := h v (by simp)
    have e : cellsL (v :: r) = szV v + cellsL r := by
      have := cellsL_append [v] r
      simp [cellsL] at this ⊢; exact this
    have h3 : 0 ≤ szV v ∧ szV v ≤ 8 := by unfold szV; omega
    rw [e]; simp; omega

/-- what lies at the places of a list, all together -/
def sumAtL (cs : List Int) (l : List Int) : Int := l.foldl (fun s x => s + cs.getD x.toNat 0) 0
theorem sumAt_take {cs l : List Int} {k : Nat} {x : Int} (h : l[k]? = some x) : sumAtL cs (l.take (k + 1)) = sumAtL cs (l.take k) + cs.getD x.toNat 0 := by
  obtain ⟨hk, rfl⟩ := List.getElem?_eq_some_iff.1 h
  unfold sumAtL; rw [List.take_succ_eq_append_getElem hk, List.foldl_append]; rfl
def costN (cs : List Int) (n : LNode) : Int :=
  min 100000 (if n.kind = 9 then 1 + sumAtL cs n.kids + max (sumAtL cs n.thn) (sumAtL cs n.els)
    else if n.kind = 10 then 1 + sumAtL cs n.kids + 2 + max 0 (n.far - n.num + 1) * (3 + sumAtL cs n.thn)
    else if n.kind = 11 then 1 + sumAtL cs n.kids + 12
    else 1 + sumAtL cs n.kids)
/-- the costs of the first k nodes -/
def costsF (N : List LNode) : Nat → List Int
  | 0 => []
  | k + 1 => costsF N k ++ [costN (costsF N k) (N.getD k default)]
theorem costsF_len (N : List LNode) : ∀ k, (costsF N k).length = k := by
  intro k
  induction k with
  | zero => rfl
  | succ k ih => simp [costsF, ih]
theorem costsF_get (N : List LNode) : ∀ (k i : Nat), i < k → (costsF N k)[i]? = some (costN (costsF N i) (N.getD i default)) := by
  intro k
  induction k with
  | zero => intro i h; omega
  | succ k ih =>
    intro i h
    rw [costsF, List.getElem?_append, costsF_len]
    by_cases e : i < k
    · rw [if_pos e]; exact ih i e
    · have : i = k := by omega
      subst this
      rw [if_neg e]; simp
/-- numbers between 0 and M -/
def Betw (M : Int) (cs : List Int) : Prop := ∀ i : Nat, 0 ≤ cs.getD i 0 ∧ cs.getD i 0 ≤ M
theorem sumAt_le {M : Int} {cs : List Int} (h : Betw M cs) (hM : 0 ≤ M) (l : List Int) : 0 ≤ sumAtL cs l ∧ sumAtL cs l ≤ M * l.length := by
  have gen : ∀ (l : List Int) (a : Int), a ≤ l.foldl (fun s x => s + cs.getD x.toNat 0) a ∧ l.foldl (fun s x => s + cs.getD x.toNat 0) a ≤ a + M * l.length := by
    intro l
    induction l with
    | nil => intro a; simp
    | cons x r ih =>
      intro a
      have h1 := ih (a + cs.getD x.toNat 0)
      have h2 := h x.toNat
      have e : M * ((x :: r).length : Int) = M + M * (r.length : Int) := by simp [Int.mul_add]; omega
      rw [List.foldl_cons, e]; omega
  have := gen l 0
  unfold sumAtL; omega
/-- a node's numbers and lists are within bounds -/
structure Tame (n : LNode) : Prop where
  num : 0 ≤ n.num ∧ n.num ≤ 65535
  far : 0 ≤ n.far ∧ n.far ≤ 65535
  kids : n.kids.length ≤ 1048576
  thn : n.thn.length ≤ 1048576
  els : n.els.length ≤ 1048576
theorem rounds_le {n : LNode} (h : Tame n) : 0 ≤ max 0 (n.far - n.num + 1) ∧ max 0 (n.far - n.num + 1) ≤ 65536 := by
  have := h.num; have := h.far; omega
theorem mul_le_of {a b A B : Int} (h0 : 0 ≤ a) (h1 : a ≤ A) (h2 : 0 ≤ b) (h3 : b ≤ B) : 0 ≤ a * b ∧ a * b ≤ A * B :=
  ⟨Int.mul_nonneg h0 h2, Int.mul_le_mul h1 h3 h2 (by omega)⟩
theorem sum_big {cs : List Int} (h : Betw 100000 cs) {l : List Int} (hl : l.length ≤ 1048576) : 0 ≤ sumAtL cs l ∧ sumAtL cs l ≤ 104857600000 := by
  have := sumAt_le h (by omega) l; omega
theorem costN_le {cs : List Int} {n : LNode} (h : Betw 100000 cs) (hn : Tame n) : 0 ≤ costN cs n ∧ costN cs n ≤ 100000 := by
  have h1 := sum_big h hn.kids
  have h2 := sum_big h hn.thn
  have h3 := sum_big h hn.els
  have h4 := mul_le_of (rounds_le hn).1 (rounds_le hn).2 (b := 3 + sumAtL cs n.thn) (by omega) (Int.add_le_add_left h2.2 3)
  unfold costN
  split
  · omega
  split
  · omega
  split <;> omega
theorem costsF_le (N : List LNode) (hN : ∀ n ∈ N, Tame n) : ∀ k : Nat, k ≤ N.length → Betw 100000 (costsF N k) := by
  intro k
  induction k with
  | zero => intro _ i; simp [costsF]
  | succ k ih =>
    intro hk i
    have hi := ih (by omega) i
    have hd := costN_le (ih (by omega)) (hN (N.getD k default) (by
      have : N.getD k default = N[k]'(by omega) := by simp [List.getD_eq_getElem?_getD, List.getElem?_eq_getElem (show k < N.length by omega)]
      rw [this]; exact List.getElem_mem _))
    rw [costsF, List.getD_eq_getElem?_getD, List.getElem?_append, costsF_len]
    rw [List.getD_eq_getElem?_getD] at hi
    split
    · exact hi
    · by_cases e : i - k = 0
      · rw [e]; simpa using hd
      · have : ([costN (costsF N k) (N.getD k default)] : List Int)[i - k]? = none := List.getElem?_eq_none (by simp; omega)
        rw [this]; simp
/-- what the first k tell of a place ahead is what all tell -/
theorem costsF_same (N : List LNode) (k m i : Nat) (h : i < k) (hm : i < m) : (costsF N k).getD i 0 = (costsF N m).getD i 0 := by
  rw [List.getD_eq_getElem?_getD, List.getD_eq_getElem?_getD, costsF_get _ _ _ h, costsF_get _ _ _ hm]
theorem getD_zeros (cs : List Int) (m i : Nat) : (cs ++ List.replicate m 0).getD i 0 = cs.getD i 0 := by
  rw [List.getD_eq_getElem?_getD, List.getD_eq_getElem?_getD, List.getElem?_append]
  split
  · rfl
  · rename_i h
    rw [List.getElem?_replicate, List.getElem?_eq_none (by omega : cs.length ≤ i)]
    split <;> rfl
theorem sumAt_zeros (cs : List Int) (m : Nat) (l : List Int) : sumAtL (cs ++ List.replicate m 0) l = sumAtL cs l := by
  unfold sumAtL
  congr 1
  funext s x
  rw [getD_zeros]
theorem Betw.zeros {M : Int} {cs : List Int} (h : Betw M cs) (m : Nat) : Betw M (cs ++ List.replicate m 0) := fun i => by rw [getD_zeros]; exact h i
theorem costs_put (N : List LNode) (k n : Nat) (hk : k < n) : (costsF N k ++ List.replicate (n - k) 0).set k (costN (costsF N k) (N.getD k default)) = costsF N (k + 1) ++ List.replicate (n - (k + 1)) 0 := by
  rw [List.set_append_right _ _ (by rw [costsF_len]; omega), costsF_len, Nat.sub_self]
  obtain ⟨m, hm⟩ : ∃ m, n - k = m + 1 := ⟨n - k - 1, by omega⟩
  rw [hm, List.replicate_succ, List.set_cons_zero, show n - (k + 1) = m by omega]
  simp [costsF]
end Go.Proofs.Ytbgnmocbpigpmaa
