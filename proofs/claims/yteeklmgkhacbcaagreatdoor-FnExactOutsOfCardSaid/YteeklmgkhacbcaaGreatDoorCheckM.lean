/-
  What may be run, plainly: blocks' own variables, cells, costs.
-/
import Derived.Test.YteeklmgkhacbcaaGreatDoorTreeMath
import Derived.Test.YteeklmgkhacbcaaGreatDoorTreeMath
namespace Go.Proofs.YteeklmgkhacbcaaGreatDoor
open Go.RowKit
set_option linter.unusedVariables false
def varsB : List LVar → Int
 | [] => 0
 | v :: r => if varB v = 0 then varsB r else varB v
def bump (cs : List Int) (x : Int) : List Int := cs.set x.toNat (cs.getD x.toNat 0 + 1)
def bumps (cs : List Int) (l : List Int) : List Int := l.foldl bump cs
def bumpN (cs : List Int) (n : LNode) : List Int := bumps (bumps (bumps cs n.kids) n.thn) n.els
def countsL (T : LTree) : List Int := bumps (T.nodes.foldl bumpN (List.replicate T.nodes.length 0)) T.body
def deepStep (ds : List Int) (i : Nat) (d x : Int) : Int := if inB x 0 ((i : Int) - 1) then max d (ds.getD x.toNat 0) else d
def deepG (ds : List Int) (i : Nat) (d : Int) (l : List Int) : Int := l.foldl (deepStep ds i) d
def deepN (ds : List Int) (i : Nat) (n : LNode) : Int := deepG ds i (deepG ds i (deepG ds i 0 n.kids) n.thn) n.els
def depthsF (N : List LNode) : Nat → List Int
 | 0 => []
 | k + 1 => depthsF N k ++ [deepN (depthsF N k) k (N.getD k default) + 1]
def rightsB (N : List LNode) : Bool := (List.range N.length).all (fun k => rightB N k)
def faultL (T : LTree) : Int :=
 if 24 < T.vars.length ∨ 200 < T.nodes.length then 2
 else if varsB T.vars ≠ 0 then varsB T.vars
 else if rightsB T.nodes = false then 1
 else if refsB T.nodes T.nodes.length T.body false = false then 1
 else if (countsL T).all (fun c => decide (c = 1)) = false then 1
 else if (depthsF T.nodes T.nodes.length).all (fun d => decide (d ≤ 20)) = false then 9
 else 0
def ownB (n : LNode) : Bool :=
 inB n.kind 1 11 &&
 ((wantsN n.kind).1 == isNameL n.name) && ((wantsN n.kind).1 || n.name.isEmpty) && (if 0 ≤ (wantsN n.kind).2.1 then decide ((n.kids.length : Int) = (wantsN n.kind).2.1) else inB n.kids.length 1 3) &&
 (if (wantsN n.kind).2.2 then inB n.num 0 65535 else decide (n.num = 0)) && (if n.kind = 10 then inB n.far 0 65535 else decide (n.far = 0)) &&
 (if n.kind = 6 then inB n.op 1 10 else if n.kind = 11 then inB n.op 1 4 else decide (n.op = 0)) &&
 (decide (n.kind = 9) || n.els.isEmpty) && (decide (n.kind = 9) || decide (n.kind = 10) || n.thn.isEmpty)
theorem rightB_eq (N : List LNode) (k : Nat) : rightB N k = (ownB (N.getD k default) && refsB N k (N.getD k default).kids true && refsB N k (N.getD k default).thn false && refsB N k (N.getD k default).els false) := rfl
theorem bump_len (cs : List Int) (x : Int) : (bump cs x).length = cs.length := by simp [bump]
theorem bumps_len (l : List Int) : ∀ cs : List Int, (bumps cs l).length = cs.length := by
 unfold bumps
 induction l with
 | nil => intro cs; rfl
 | cons x r ih => intro cs; rw [List.foldl_cons, ih, bump_len]
theorem bumpN_len (cs : List Int) (n : LNode) : (bumpN cs n).length = cs.length := by simp [bumpN, bumps_len]
theorem bumpsN_len (N : List LNode) : ∀ cs : List Int, (N.foldl bumpN cs).length = cs.length := by
 induction N with
 | nil => intro cs; rfl
 | cons x r ih => intro cs; rw [List.foldl_cons, ih, bumpN_len]
theorem bumps_take {cs l : List Int} {k : Nat} {x : Int} (h : l[k]? = some x) : bumps cs (l.take (k + 1)) = bump (bumps cs (l.take k)) x := by
 obtain ⟨hk, rfl⟩ := List.getElem?_eq_some_iff.1 h
 unfold bumps; rw [List.take_succ_eq_append_getElem hk, List.foldl_append]; rfl
theorem bumpNs_take {cs : List Int} {l : List LNode} {k : Nat} {x : LNode} (h : l[k]? = some x) : (l.take (k + 1)).foldl bumpN cs = bumpN ((l.take k).foldl bumpN cs) x := by
 obtain ⟨hk, rfl⟩ := List.getElem?_eq_some_iff.1 h
 rw [List.take_succ_eq_append_getElem hk, List.foldl_append]; rfl
def CntLe (M : Int) (cs : List Int) : Prop := ∀ i : Nat, 0 ≤ cs.getD i 0 ∧ cs.getD i 0 ≤ M
theorem bump_le {M : Int} {cs : List Int} (h : CntLe M cs) (x : Int) : CntLe (M + 1) (bump cs x) := by
 intro i
 have hi := h i
 have hx := h x.toNat
 unfold bump
 simp only [List.getD_eq_getElem?_getD, List.getElem?_set] at *
 by_cases e : x.toNat = i
 ·subst e
  by_cases hl : x.toNat < cs.length
  ·simp [hl] at *; omega
  ·simp [hl] at *; omega
 ·simp [e]; omega
theorem bumps_le (l : List Int) : ∀ {M : Int} {cs : List Int}, CntLe M cs → CntLe (M + l.length) (bumps cs l) := by
 unfold bumps
 induction l with
 | nil => intro M cs h; simpa using h
 | cons x r ih =>
  intro M cs h
  have := ih (bump_le h x)
  rw [List.foldl_cons]
  have e : M + ((x :: r).length : Int) = M + 1 + (r.length : Int) := by simp; omega
  rw [e]; exact this
theorem CntLe.mono {M M' : Int} {cs : List Int} (h : CntLe M cs) (hM : M ≤ M') : CntLe M' cs := fun i => ⟨(h i).1, Int.le_trans (h i).2 hM⟩
theorem bumpN_le {M B : Int} {cs : List Int} {n : LNode} (h : CntLe M cs) (h1 : n.kids.length ≤ B) (h2 : n.thn.length ≤ B) (h3 : n.els.length ≤ B) : CntLe (M + 3 * B) (bumpN cs n) :=
 (bumps_le _ (bumps_le _ (bumps_le _ h))).mono (by omega)
theorem bumpNs_le {B : Int} : ∀ (N : List LNode) {M : Int} {cs : List Int}, CntLe M cs → (∀ n ∈ N, (n.kids.length : Int) ≤ B ∧ (n.thn.length : Int) ≤ B ∧ (n.els.length : Int) ≤ B) → CntLe (M + 3 * B * N.length) (N.foldl bumpN cs) := by
 intro N
 induction N with
 | nil => intro M cs h _; simpa using h
 | cons n r ih =>
  intro M cs h hB
  have h1 := hB n (by simp)
  have := ih (bumpN_le (B := B) h h1.1 h1.2.1 h1.2.2) (fun n hn => hB n (by simp [hn]))
  rw [List.foldl_cons]
  have e : M + 3 * B * ((n :: r).length : Int) = M + 3 * B + 3 * B * (r.length : Int) := by simp [Int.mul_add]; omega
  rw [e]; exact this
theorem cnt_zero (n : Nat) : CntLe 0 (List.replicate n 0) := by
 intro i
 rw [List.getD_eq_getElem?_getD, List.getElem?_replicate]
 split <;> simp
theorem depthsF_len (N : List LNode) : ∀ k, (depthsF N k).length = k := by
 intro k
 induction k with
 | zero => rfl
 | succ k ih => simp [depthsF, ih]
theorem deepG_append (ds : List Int) (i : Nat) (d : Int) (a b : List Int) : deepG ds i d (a ++ b) = deepG ds i (deepG ds i d a) b := List.foldl_append
theorem deepG_take {ds l : List Int} {i k : Nat} {d x : Int} (h : l[k]? = some x) : deepG ds i d (l.take (k + 1)) = deepStep ds i (deepG ds i d (l.take k)) x := by
 obtain ⟨hk, rfl⟩ := List.getElem?_eq_some_iff.1 h
 rw [List.take_succ_eq_append_getElem hk, deepG_append]; rfl
def DepLe (M : Int) (ds : List Int) : Prop := ∀ i : Nat, 0 ≤ ds.getD i 0 ∧ ds.getD i 0 ≤ M
theorem deepStep_le {M d x : Int} {ds : List Int} {i : Nat} (h : DepLe M ds) (h0 : 0 ≤ d) (h1 : d ≤ M) : 0 ≤ deepStep ds i d x ∧ deepStep ds i d x ≤ M := by
 unfold deepStep
 split
 ·have := h x.toNat; omega
 ·exact ⟨h0, h1⟩
theorem deepG_le {M : Int} {ds : List Int} {i : Nat} (h : DepLe M ds) (l : List Int) : ∀ {d : Int}, 0 ≤ d → d ≤ M → 0 ≤ deepG ds i d l ∧ deepG ds i d l ≤ M := by
 unfold deepG
 induction l with
 | nil => intro d h0 h1; exact ⟨h0, h1⟩
 | cons x r ih => intro d h0 h1; have := deepStep_le (i := i) (x := x) h h0 h1; exact ih this.1 this.2
theorem deepN_le {M : Int} {ds : List Int} {i : Nat} (h : DepLe M ds) (hM : 0 ≤ M) (n : LNode) : 0 ≤ deepN ds i n ∧ deepN ds i n ≤ M := by
 have h1 := deepG_le (i := i) h n.kids (Int.le_refl 0) hM
 have h2 := deepG_le (i := i) h n.thn h1.1 h1.2
 exact deepG_le (i := i) h n.els h2.1 h2.2
theorem depthsF_le (N : List LNode) : ∀ k : Nat, DepLe k (depthsF N k) := by
 intro k
 induction k with
 | zero => intro i; simp [depthsF]
 | succ k ih =>
  intro i
  have hd := deepN_le (i := k) ih (by omega) (N.getD k default)
  have hi := ih i
  rw [depthsF]
  rw [List.getD_eq_getElem?_getD, List.getElem?_append, depthsF_len]
  rw [List.getD_eq_getElem?_getD] at hi
  split
  ·simp at hi ⊢; omega
  ·by_cases e : i - k = 0
   ·rw [e]; simp at hd ⊢; omega
   ·have : ([deepN (depthsF N k) k (N.getD k default) + 1] : List Int)[i - k]? = none := List.getElem?_eq_none (by simp; omega)
    rw [this]; simp; omega
theorem deepStep_max (ds : List Int) (i : Nat) (d x : Int) (h : 0 ≤ d) : deepStep ds i d x = max d (deepStep ds i 0 x) := by
 unfold deepStep; split <;> omega
theorem deepG_max (ds : List Int) (i : Nat) (l : List Int) : ∀ d : Int, 0 ≤ d → deepG ds i d l = max d (deepG ds i 0 l) := by
 unfold deepG
 induction l with
 | nil => intro d h; simp; omega
 | cons x r ih =>
  intro d h
  have h1 : 0 ≤ deepStep ds i 0 x := by
   unfold deepStep; split <;> omega
  have h2 : 0 ≤ deepStep ds i d x := by
   unfold deepStep; split <;> omega
  rw [List.foldl_cons, List.foldl_cons, ih _ h2, ih _ h1, deepStep_max ds i d x h]
  omega
theorem deepG_nonneg (ds : List Int) (i : Nat) (l : List Int) : 0 ≤ deepG ds i 0 l := by
 cases l with
 | nil => exact Int.le_refl 0
 | cons x r =>
  have h1 : 0 ≤ deepStep ds i 0 x := by
   unfold deepStep; split <;> omega
  show 0 ≤ deepG ds i (deepStep ds i 0 x) r
  rw [deepG_max _ _ _ _ h1]; omega
theorem deepN_max (ds : List Int) (i : Nat) (n : LNode) : deepN ds i n = max (max (deepG ds i 0 n.kids) (deepG ds i 0 n.thn)) (deepG ds i 0 n.els) := by
 unfold deepN
 have h1 := deepG_nonneg ds i n.kids
 rw [deepG_max ds i n.thn _ h1, deepG_max ds i n.els _ (by omega)]
theorem depthsF_get (N : List LNode) : ∀ (k i : Nat), i < k → (depthsF N k)[i]? = some (deepN (depthsF N i) i (N.getD i default) + 1) := by
 intro k
 induction k with
 | zero => intro i h; omega
 | succ k ih =>
  intro i h
  rw [depthsF, List.getElem?_append, depthsF_len]
  by_cases e : i < k
  ·rw [if_pos e]; exact ih i e
  ·have : i = k := by omega
   subst this
   rw [if_neg e]; simp
theorem depthsF_take (N : List LNode) (m : Nat) : ∀ k, k ≤ m → depthsF (N.take m) k = depthsF N k := by
 intro k
 induction k with
 | zero => intro _; rfl
 | succ k ih =>
  intro h
  rw [depthsF, depthsF, ih (by omega)]
  have : (N.take m).getD k default = N.getD k default := by
   rw [List.getD_eq_getElem?_getD, List.getD_eq_getElem?_getD, List.getElem?_take_of_lt (by omega)]
  rw [this]
theorem varsB_hit {V : List LVar} {k : Nat} {x : LVar} (hx : V[k]? = some x) (h : varB x ≠ 0) : varsB (V.drop k) = varB x := by
 rw [List.drop_eq_getElem_cons (List.getElem?_eq_some_iff.1 hx).1, (List.getElem?_eq_some_iff.1 hx).2, varsB, if_neg h]
theorem varsB_miss {V : List LVar} {k : Nat} {x : LVar} (hx : V[k]? = some x) (h : varB x = 0) : varsB (V.drop k) = varsB (V.drop (k + 1)) := by
 rw [List.drop_eq_getElem_cons (List.getElem?_eq_some_iff.1 hx).1, (List.getElem?_eq_some_iff.1 hx).2, varsB, if_pos h]
attribute [local go_sem] bs_size bs_get bs_extract bs_append bs_eq bs_toList
def ownOf (K : Int) (op : Int) (nm : List UInt8) : List LVar :=
 if op = 1 then [⟨nm ++ [118], K, 1, 0⟩, ⟨nm ++ [109], K, 2, 0⟩, ⟨nm ++ [113], K, 2, 0⟩]
 else if op = 2 then [⟨nm ++ [118], K, 1, 0⟩, ⟨nm ++ [113], K, 2, 0⟩]
 else if op = 3 then [⟨nm ++ [109], K, 2, 0⟩, ⟨nm ++ [113], K, 2, 0⟩]
 else [⟨nm ++ [113], K, 2, 0⟩]
theorem ownOf_len (K op : Int) (nm : List UInt8) : 1 ≤ (ownOf K op nm).length ∧ (ownOf K op nm).length ≤ 3 := by
 unfold ownOf; split
 ·simp
 split
 ·simp
 split <;> simp
theorem ownOf_size (K op : Int) (nm : List UInt8) : ∀ v ∈ ownOf K op nm, v.size = 0 := by
 intro v hv; unfold ownOf at hv
 split at hv
 ·simp at hv; rcases hv with rfl | rfl | rfl <;> rfl
 split at hv
 ·simp at hv; rcases hv with rfl | rfl <;> rfl
 split at hv
 ·simp at hv; rcases hv with rfl | rfl <;> rfl
 ·simp at hv; subst hv; rfl
theorem ownOf_name (K op : Int) (nm : List UInt8) : ownOf K op nm = (ownOf K op []).map fun v => { v with name := nm ++ v.name } := by
 unfold ownOf
 split
 ·rfl
 split
 ·rfl
 split <;> rfl
theorem ownOf_get {K op : Int} {nm : List UInt8} {j : Nat} {v : LVar} (h : (ownOf K op [])[j]? = some v) : (ownOf K op nm)[j]? = some { v with name := nm ++ v.name } := by rw [ownOf_name, List.getElem?_map, h]; rfl
theorem ownOf_len2 (K op : Int) (nm : List UInt8) : (ownOf K op nm).length = (ownOf K op []).length := by rw [ownOf_name K op nm, List.length_map]
def argsL (op : Int) : List Int := if op = 1 then [2, 2, 1] else if op = 2 then [2, 1] else if op = 3 then [2] else [2, 2]
end Go.Proofs.YteeklmgkhacbcaaGreatDoor
namespace Go.Proofs.YteeklmgkhacbcaaGreatDoor
open Go.RowKit
set_option linter.unusedVariables false
def ownN (K : Int) (n : LNode) : List LVar := if n.kind = 11 then ownOf K n.op n.name else []
def ownsL (K : Int) (N : List LNode) : List LVar := N.flatMap (ownN K)
def allL (K : Int) (T : LTree) : List LVar := T.vars ++ ownsL K T.nodes
def szV (v : LVar) : Int := max 1 v.size
def cellsL (V : List LVar) : Int := V.foldl (fun s v => s + szV v) 0
theorem ownsL_take {K : Int} {N : List LNode} {k : Nat} {n : LNode} (h : N[k]? = some n) : ownsL K (N.take (k + 1)) = ownsL K (N.take k) ++ ownN K n := by
 obtain ⟨hk, rfl⟩ := List.getElem?_eq_some_iff.1 h
 unfold ownsL; rw [List.take_succ_eq_append_getElem hk, List.flatMap_append]; simp
theorem ownN_len (K : Int) (n : LNode) : (ownN K n).length ≤ 3 := by
 unfold ownN; split
 ·exact (ownOf_len K _ _).2
 ·simp
theorem ownsL_len (K : Int) (N : List LNode) : (ownsL K N).length ≤ 3 * N.length := by
 unfold ownsL
 induction N with
 | nil => simp
 | cons n r ih => rw [List.flatMap_cons, List.length_append, List.length_cons]; have := ownN_len K n; omega
theorem cellsL_take {V : List LVar} {k : Nat} {v : LVar} (h : V[k]? = some v) : cellsL (V.take (k + 1)) = cellsL (V.take k) + szV v := by
 obtain ⟨hk, rfl⟩ := List.getElem?_eq_some_iff.1 h
 unfold cellsL; rw [List.take_succ_eq_append_getElem hk, List.foldl_append]; rfl
theorem cellsL_append (V W : List LVar) : cellsL (V ++ W) = cellsL V + cellsL W := by
 have gen : ∀ (W : List LVar) (a : Int), W.foldl (fun s v => s + szV v) a = a + W.foldl (fun s v => s + szV v) 0 := by
  intro W
  induction W with
  | nil => intro a; simp
  | cons v r ih => intro a; rw [List.foldl_cons, List.foldl_cons, ih, ih (0 + szV v)]; omega
 unfold cellsL; rw [List.foldl_append, gen]
theorem cellsL_snoc (V : List LVar) (v : LVar) : cellsL (V ++ [v]) = cellsL V + szV v := by rw [cellsL_append]; simp [cellsL]
def SizesLe (V : List LVar) : Prop := ∀ v ∈ V, v.size ≤ 8
theorem ownsL_size (K : Int) (N : List LNode) : ∀ v ∈ ownsL K N, v.size = 0 := by
 intro v hv
 obtain ⟨n, _, h⟩ := List.mem_flatMap.1 hv
 unfold ownN at h
 split at h
 ·exact ownOf_size _ _ _ v h
 ·cases h
theorem cellsL_le : ∀ (V : List LVar), SizesLe V → 0 ≤ cellsL V ∧ cellsL V ≤ 8 * V.length := by
 intro V
 induction V with
 | nil => intro _; exact ⟨Int.le_refl 0, Int.le_refl 0⟩
 | cons v r ih =>
  intro h
  have h1 := ih (fun u hu => h u (by simp [hu]))
  have h2 := h v (by simp)
  have e : cellsL (v :: r) = szV v + cellsL r := by
   have := cellsL_append [v] r
   simp [cellsL] at this ⊢; exact this
  have h3 : 0 ≤ szV v ∧ szV v ≤ 8 := by unfold szV; omega
  rw [e]; simp; omega
def sumAtL (cs : List Int) (l : List Int) : Int := l.foldl (fun s x => s + cs.getD x.toNat 0) 0
theorem sumAt_take {cs l : List Int} {k : Nat} {x : Int} (h : l[k]? = some x) : sumAtL cs (l.take (k + 1)) = sumAtL cs (l.take k) + cs.getD x.toNat 0 := by
 obtain ⟨hk, rfl⟩ := List.getElem?_eq_some_iff.1 h
 unfold sumAtL; rw [List.take_succ_eq_append_getElem hk, List.foldl_append]; rfl
def costN (cs : List Int) (n : LNode) : Int :=
 min 100000 (if n.kind = 9 then 1 + sumAtL cs n.kids + max (sumAtL cs n.thn) (sumAtL cs n.els)
  else if n.kind = 10 then 1 + sumAtL cs n.kids + 2 + max 0 (n.far - n.num + 1) * (3 + sumAtL cs n.thn)
  else if n.kind = 11 then 1 + sumAtL cs n.kids + 12
  else 1 + sumAtL cs n.kids)
def costsF (N : List LNode) : Nat → List Int
 | 0 => []
 | k + 1 => costsF N k ++ [costN (costsF N k) (N.getD k default)]
theorem costsF_len (N : List LNode) : ∀ k, (costsF N k).length = k := by
 intro k
 induction k with
 | zero => rfl
 | succ k ih => simp [costsF, ih]
theorem costsF_get (N : List LNode) : ∀ (k i : Nat), i < k → (costsF N k)[i]? = some (costN (costsF N i) (N.getD i default)) := by
 intro k
 induction k with
 | zero => intro i h; omega
 | succ k ih =>
  intro i h
  rw [costsF, List.getElem?_append, costsF_len]
  by_cases e : i < k
  ·rw [if_pos e]; exact ih i e
  ·have : i = k := by omega
   subst this
   rw [if_neg e]; simp
def Betw (M : Int) (cs : List Int) : Prop := ∀ i : Nat, 0 ≤ cs.getD i 0 ∧ cs.getD i 0 ≤ M
theorem sumAt_le {M : Int} {cs : List Int} (h : Betw M cs) (hM : 0 ≤ M) (l : List Int) : 0 ≤ sumAtL cs l ∧ sumAtL cs l ≤ M * l.length := by
 have gen : ∀ (l : List Int) (a : Int), a ≤ l.foldl (fun s x => s + cs.getD x.toNat 0) a ∧ l.foldl (fun s x => s + cs.getD x.toNat 0) a ≤ a + M * l.length := by
  intro l
  induction l with
  | nil => intro a; simp
  | cons x r ih =>
   intro a
   have h1 := ih (a + cs.getD x.toNat 0)
   have h2 := h x.toNat
   have e : M * ((x :: r).length : Int) = M + M * (r.length : Int) := by simp [Int.mul_add]; omega
   rw [List.foldl_cons, e]; omega
 have := gen l 0
 unfold sumAtL; omega
structure Tame (n : LNode) : Prop where
 num : 0 ≤ n.num ∧ n.num ≤ 65535
 far : 0 ≤ n.far ∧ n.far ≤ 65535
 kids : n.kids.length ≤ 1048576
 thn : n.thn.length ≤ 1048576
 els : n.els.length ≤ 1048576
theorem rounds_le {n : LNode} (h : Tame n) : 0 ≤ max 0 (n.far - n.num + 1) ∧ max 0 (n.far - n.num + 1) ≤ 65536 := by
 have := h.num; have := h.far; omega
theorem mul_le_of {a b A B : Int} (h0 : 0 ≤ a) (h1 : a ≤ A) (h2 : 0 ≤ b) (h3 : b ≤ B) : 0 ≤ a * b ∧ a * b ≤ A * B :=
 ⟨Int.mul_nonneg h0 h2, Int.mul_le_mul h1 h3 h2 (by omega)⟩
theorem sum_big {cs : List Int} (h : Betw 100000 cs) {l : List Int} (hl : l.length ≤ 1048576) : 0 ≤ sumAtL cs l ∧ sumAtL cs l ≤ 104857600000 := by
 have := sumAt_le h (by omega) l; omega
theorem costN_le {cs : List Int} {n : LNode} (h : Betw 100000 cs) (hn : Tame n) : 0 ≤ costN cs n ∧ costN cs n ≤ 100000 := by
 have h1 := sum_big h hn.kids
 have h2 := sum_big h hn.thn
 have h3 := sum_big h hn.els
 have h4 := mul_le_of (rounds_le hn).1 (rounds_le hn).2 (b := 3 + sumAtL cs n.thn) (by omega) (Int.add_le_add_left h2.2 3)
 unfold costN
 split
 ·omega
 split
 ·omega
 split <;> omega
theorem costsF_le (N : List LNode) (hN : ∀ n ∈ N, Tame n) : ∀ k : Nat, k ≤ N.length → Betw 100000 (costsF N k) := by
 intro k
 induction k with
 | zero => intro _ i; simp [costsF]
 | succ k ih =>
  intro hk i
  have hi := ih (by omega) i
  have hd := costN_le (ih (by omega)) (hN (N.getD k default) (by
   have : N.getD k default = N[k]'(by omega) := by simp [List.getD_eq_getElem?_getD, List.getElem?_eq_getElem (show k < N.length by omega)]
   rw [this]; exact List.getElem_mem _))
  rw [costsF, List.getD_eq_getElem?_getD, List.getElem?_append, costsF_len]
  rw [List.getD_eq_getElem?_getD] at hi
  split
  ·exact hi
  ·by_cases e : i - k = 0
   ·rw [e]; simpa using hd
   ·have : ([costN (costsF N k) (N.getD k default)] : List Int)[i - k]? = none := List.getElem?_eq_none (by simp; omega)
    rw [this]; simp
theorem costsF_same (N : List LNode) (k m i : Nat) (h : i < k) (hm : i < m) : (costsF N k).getD i 0 = (costsF N m).getD i 0 := by
 rw [List.getD_eq_getElem?_getD, List.getD_eq_getElem?_getD, costsF_get _ _ _ h, costsF_get _ _ _ hm]
theorem getD_zeros (cs : List Int) (m i : Nat) : (cs ++ List.replicate m 0).getD i 0 = cs.getD i 0 := by
 rw [List.getD_eq_getElem?_getD, List.getD_eq_getElem?_getD, List.getElem?_append]
 split
 ·rfl
 ·rename_i h
  rw [List.getElem?_replicate, List.getElem?_eq_none (by omega : cs.length ≤ i)]
  split <;> rfl
theorem sumAt_zeros (cs : List Int) (m : Nat) (l : List Int) : sumAtL (cs ++ List.replicate m 0) l = sumAtL cs l := by
 unfold sumAtL
 congr 1
 funext s x
 rw [getD_zeros]
theorem Betw.zeros {M : Int} {cs : List Int} (h : Betw M cs) (m : Nat) : Betw M (cs ++ List.replicate m 0) := fun i => by rw [getD_zeros]; exact h i
theorem costs_put (N : List LNode) (k n : Nat) (hk : k < n) : (costsF N k ++ List.replicate (n - k) 0).set k (costN (costsF N k) (N.getD k default)) = costsF N (k + 1) ++ List.replicate (n - (k + 1)) 0 := by
 rw [List.set_append_right _ _ (by rw [costsF_len]; omega), costsF_len, Nat.sub_self]
 obtain ⟨m, hm⟩ : ∃ m, n - k = m + 1 := ⟨n - k - 1, by omega⟩
 rw [hm, List.replicate_succ, List.set_cons_zero, show n - (k + 1) = m by omega]
 simp [costsF]
end Go.Proofs.YteeklmgkhacbcaaGreatDoor
