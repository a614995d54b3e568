/-
  spec.l5Type: an operation.
-/
import Derived.Test.YteeklmgkhacbcaaGreatDoorSMust
namespace Go.Proofs.YteeklmgkhacbcaaGreatDoor
open Go.RowKit
set_option linter.unusedVariables false
attribute [local go_sem] bs_size bs_get bs_extract bs_append bs_eq bs_toList
def Kin (N : List LNode) : Prop := ∀ (k : Nat) (n : LNode), N[k]? = some n → ∀ x ∈ n.kids, exprN (nodeOf N x) = true
theorem kin_of {T : LTree} (h : faultL T = 0) : Kin T.nodes := fun k n hk x hx => by
 obtain ⟨_, _, _, h4, _⟩ := fault_zero h
 have h1 := List.all_eq_true.1 (right_at h4 hk).2.1 x hx
 unfold refB at h1
 simp only [Bool.and_eq_true] at h1
 have h2 := h1.2
 unfold nodeOf
 revert h2
 cases exprN (T.nodes.getD x.toNat default) <;> simp
theorem node_get {N : List LNode} {x : Nat} (h : x < N.length) : N[x]? = some (nodeOf N (x : Int)) := by
 unfold nodeOf; rw [Int.toNat_natCast, List.getD_eq_getElem?_getD, List.getElem?_eq_getElem h]; rfl
theorem own_kids {n : LNode} (h : ownB n = true) (he : exprN n = true) : (n.kind = 1 ∨ n.kind = 2) ∨ ((n.kind = 3 ∨ n.kind = 4 ∨ n.kind = 5) ∧ n.kids.length = 1) ∨ (n.kind = 6 ∧ n.kids.length = 2 ∧ 1 ≤ n.op ∧ n.op ≤ 10) := by
 have hk := inB_iff.1 he
 unfold ownB at h
 simp only [Bool.and_eq_true] at h
 obtain ⟨⟨⟨⟨⟨⟨⟨_, _⟩, _⟩, hl⟩, _⟩, _⟩, ho⟩, _⟩ := h.1
 have hc : n.kind = 1 ∨ n.kind = 2 ∨ n.kind = 3 ∨ n.kind = 4 ∨ n.kind = 5 ∨ n.kind = 6 := by omega
 rcases hc with e | e | e | e | e | e <;> rw [e] at hl ho <;> simp [wantsN] at hl ho
 ·exact .inl (.inl e)
 ·exact .inl (.inr e)
 ·exact .inr (.inl ⟨.inl e, by omega⟩)
 ·exact .inr (.inl ⟨.inr (.inl e), by omega⟩)
 ·exact .inr (.inl ⟨.inr (.inr e), by omega⟩)
 ·have := inB_iff.1 ho
  exact .inr (.inr ⟨e, by omega, this.1, this.2⟩)
theorem kids_at {lo : Nat} {W : World} {vk : Value} {kids : List Int} (h : IntsV lo W vk kids) (hne : kids ≠ []) : ∃ b o c, vk = .slice (some ⟨b, o, none⟩) kids.length c ∧ b < W.heap.size ∧ ∀ (i : Nat) (y : Int), kids[i]? = some y → W.cell? ⟨b, o + i, none⟩ = some (.int .i64 y) := by
 obtain ⟨a, c, e, _, hh⟩ := h
 obtain ⟨b, o, rfl, _, hc⟩ := hh hne
 obtain ⟨y, r, rfl⟩ := List.exists_cons_of_ne_nil hne
 exact ⟨b, o, c, e, World.block_lt_of_cell? _ _ (hc 0 y rfl), hc⟩
theorem Chk.sole {W0 W W' : World} {kp : Nat} (h : Below W0.heap.size W0 W) (hl : W0.heap.size ≤ kp) (hs : Sole kp W W') {b o : Nat} {u : Value} (hb : b < W0.heap.size) (hc : W0.cell? ⟨b, o, none⟩ = some u) : W'.cell? ⟨b, o, none⟩ = some u :=
 hs.cell (p := ⟨b, o, none⟩) (by simp; omega) ((h.cell (p := ⟨b, o, none⟩) hb).trans hc)
set_option maxHeartbeats 6400000 in
set_option maxRecDepth 100000 in
theorem l5Type_num (lo : Nat) (W0 : World) (kp p cA : Nat) (vv vn vb : Value) (aA : Option Addr) (T : LTree) (V : List LVar) (vl : Value) (f x : Nat) (hE : ChkE lo W0 p kp vv vn vb aA T V) (hx : x < T.nodes.length) (hk : (nodeOf T.nodes (x : Int)).kind = 1) :
  TypeC W0 kp p cA aA T V vl (f + 1) x := by
 intro W st hC
 have HR : Hid (typeF V T.vars.length T.nodes (f + 1) (x : Int) st = (1, st)) := by unfold Hid; rw [typeF]; simp only [hk]; rfl
 obtain ⟨bn, on, cn, rfl, q1, vk, vt, ve, hnc, hkd, ⟨a, l, c, rfl⟩, ⟨a2, l2, c2, rfl⟩, ⟨a3, l3, c3, rfl⟩⟩ := hE.node hC.bel x hx
 have k0 := cell_of_row _ _ 0 _ _ _ hC.row
 simp at k0
 have hkl := blk_lt hC.row
 have hnl := hE.good.nodes
 have HCA : Hid (∀ o, Chk W0 (W.alloc o) kp p aA V.length cA vl st ∧ Sole kp W (W.alloc o)) := fun o =>
  have hb : Below W.heap.size W (W.alloc o) := (Below.refl _ _).alloc (Nat.le_refl _) _
  ⟨hC.below hb, hb.sole⟩
 generalize typeF V T.vars.length T.nodes (f + 1) (x : Int) st = Z at HR ⊢
 generalize nodeOf T.nodes (x : Int) = n at *
 obtain ⟨d0, d1, d2, d3, d4, d5, d6, d7⟩ := hnc
 rw [hk] at d0
 have hx0 : (0 : Int) ≤ (x : Int) := by omega
 have hx1 : (x : Int) < (T.nodes.length : Int) := by omega
 clear hE hC hkd hk
 go_enter Tryz.func116, Tryz.ntmps116
 go_wp2_with fail
 go_ret
 exact ⟨by rw [HR.out]; rfl, by rw [HR.out]; exact (HCA.out _).1, (HCA.out _).2⟩
set_option maxHeartbeats 6400000 in
set_option maxRecDepth 100000 in
theorem l5Type_name (lo : Nat) (W0 : World) (kp p cA : Nat) (vv vn vb : Value) (aA : Option Addr) (T : LTree) (V : List LVar) (vl : Value) (f x : Nat) (hE : ChkE lo W0 p kp vv vn vb aA T V) (hx : x < T.nodes.length) (hk : (nodeOf T.nodes (x : Int)).kind = 2) :
  TypeC W0 kp p cA aA T V vl (f + 1) x := by
 intro W st hC
 have HR : Hid (typeF V T.vars.length T.nodes (f + 1) (x : Int) st = nameF V T.vars.length (nodeOf T.nodes (x : Int)).name false (x : Int) st) := by unfold Hid; rw [typeF]; simp only [hk]; rfl
 have HNM : Hid (∀ W', Chk W0 W' kp p aA V.length cA vl st → Calls Tryz.prog 135 #[.pointer (some ⟨kp, 0, none⟩), .int .i64 (x : Int), .bool false] W' fun e w' => e = .returned (.int .i64 (nameF V T.vars.length (nodeOf T.nodes (x : Int)).name false (x : Int) st).1) ∧ Chk W0 w' kp p aA V.length cA vl (nameF V T.vars.length (nodeOf T.nodes (x : Int)).name false (x : Int) st).2 ∧ Sole kp W' w') := fun W' h => l5Name_any lo W0 W' kp p cA vv vn vb aA T V vl st x false hE h hx
 obtain ⟨bn, on, cn, rfl, q1, vk, vt, ve, hnc, hkd, ⟨a, l, c, rfl⟩, ⟨a2, l2, c2, rfl⟩, ⟨a3, l3, c3, rfl⟩⟩ := hE.node hC.bel x hx
 have k0 := cell_of_row _ _ 0 _ _ _ hC.row
 simp at k0
 have hkl := blk_lt hC.row
 have hnl := hE.good.nodes
 have HCA : Hid (∀ o, Chk W0 (W.alloc o) kp p aA V.length cA vl st ∧ Sole kp W (W.alloc o)) := fun o =>
  have hb : Below W.heap.size W (W.alloc o) := (Below.refl _ _).alloc (Nat.le_refl _) _
  ⟨hC.below hb, hb.sole⟩
 generalize typeF V T.vars.length T.nodes (f + 1) (x : Int) st = Z at HR ⊢
 generalize nameF V T.vars.length (nodeOf T.nodes (x : Int)).name false (x : Int) st = Y at HR HNM
 generalize nodeOf T.nodes (x : Int) = n at *
 obtain ⟨g, st2⟩ := Y
 obtain ⟨d0, d1, d2, d3, d4, d5, d6, d7⟩ := hnc
 rw [hk] at d0
 have hx0 : (0 : Int) ≤ (x : Int) := by omega
 have hx1 : (x : Int) < (T.nodes.length : Int) := by omega
 clear hE hC hkd hk
 go_enter Tryz.func116, Tryz.ntmps116
 go_wp2_with fail
 refine (HNM.out _ (HCA.out _).1).mono ?_
 rintro e w2 ⟨rfl, hc2, hs2⟩
 have HC2 : Hid (Chk W0 w2 kp p aA V.length cA vl st2 ∧ Sole kp W w2) := ⟨hc2, (HCA.out _).2.trans hs2⟩
 clear hc2 hs2
 go_wp2_with fail
 go_ret
 exact ⟨by rw [HR.out]; rfl, by rw [HR.out]; exact HC2.out.1, HC2.out.2⟩
set_option maxHeartbeats 6400000 in
set_option maxRecDepth 100000 in
theorem l5Type_neg (lo : Nat) (W0 : World) (kp p cA : Nat) (vv vn vb : Value) (aA : Option Addr) (T : LTree) (V : List LVar) (vl : Value) (f x : Nat) (hE : ChkE lo W0 p kp vv vn vb aA T V) (hx : x < T.nodes.length) (IH : ∀ y, y < x → TypeC W0 kp p cA aA T V vl f y ∨ exprN (nodeOf T.nodes (y : Int)) = false) (hX : Kin T.nodes) (hk : (nodeOf T.nodes (x : Int)).kind = 4) :
  TypeC W0 kp p cA aA T V vl (f + 1) x := by
 intro W st hC
 obtain ⟨y, hy⟩ : ∃ y, (nodeOf T.nodes (x : Int)).kids = [y] := by
  have h := own_kids (hE.good.node x _ (node_get hx)).1 (by unfold exprN; rw [hk]; rfl)
  rw [hk] at h
  simp at h
  exact List.length_eq_one_iff.1 h
 obtain ⟨yn, rfl, hyx, hT⟩ : ∃ yn : Nat, y = (yn : Int) ∧ yn < x ∧ TypeC W0 kp p cA aA T V vl f yn := by
  have h1 := (hE.good.node x _ (node_get hx)).2.1 y (by rw [hy]; simp)
  have h2 := hX x _ (node_get hx) y (by rw [hy]; simp)
  refine ⟨y.toNat, by omega, by omega, ?_⟩
  rcases IH y.toNat (by omega) with h | h
  ·exact h
  ·rw [Int.toNat_of_nonneg h1.1, h2] at h; cases h
 have HR : Hid (typeF V T.vars.length T.nodes (f + 1) (x : Int) st = (1, mustW (nodeOf T.nodes (yn : Int)) (yn : Int) 1 (typeF V T.vars.length T.nodes f (yn : Int) st))) := by unfold Hid; rw [typeF]; simp only [hk, hy]; rfl
 have HMU : Hid (∀ (W' : World) (s : Met), Chk W0 W' kp p aA V.length cA vl s → Calls Tryz.prog 88 #[.pointer (some ⟨kp, 0, none⟩), .int .i64 (yn : Int), .int .i64 1] W' fun e w' => e = .returned (.tuple #[]) ∧ Chk W0 w' kp p aA V.length cA vl (mustW (nodeOf T.nodes (yn : Int)) (yn : Int) 1 (typeF V T.vars.length T.nodes f (yn : Int) s)) ∧ Sole kp W' w') := fun W' s h => l5Must_any lo W0 W' kp p cA vv vn vb aA T V vl s yn 1 f hE h (by omega) hT
 obtain ⟨bn, on, cn, rfl, q1, vk, vt, ve, hnc, hkd, _, ⟨a2, l2, c2, rfl⟩, ⟨a3, l3, c3, rfl⟩⟩ := hE.node hC.bel x hx
 obtain ⟨bk, ok, ck, rfl, hbk, hkc⟩ := kids_at hkd (by rw [hy]; simp)
 have ky0 := hkc 0 (yn : Int) (by rw [hy]; rfl)
 rw [hy] at hnc
 simp only [List.length_singleton] at hnc
 have k0 := cell_of_row _ _ 0 _ _ _ hC.row
 simp at k0
 have hkl := blk_lt hC.row
 have hnl := hE.good.nodes
 have hW0 := hC.bel.size
 have HKY : Hid (∀ W', Sole kp W W' → W'.cell? ⟨bk, ok, none⟩ = some (.int .i64 (yn : Int))) := fun W' h => Chk.sole hC.bel hE.low h hbk ky0
 have ky : W.cell? ⟨bk, ok, none⟩ = some (.int .i64 (yn : Int)) := HKY.out W (Sole.refl _ _)
 have hbkW : bk < W.heap.size := by omega
 have HCA : Hid (∀ o, Chk W0 (W.alloc o) kp p aA V.length cA vl st ∧ Sole kp W (W.alloc o)) := fun o =>
  have hb : Below W.heap.size W (W.alloc o) := (Below.refl _ _).alloc (Nat.le_refl _) _
  ⟨hC.below hb, hb.sole⟩
 have hx0 : (0 : Int) ≤ (x : Int) := by omega
 have hx1 : (x : Int) < (T.nodes.length : Int) := by omega
 clear IH hT hX hE hC hkc ky0 hkd
 generalize typeF V T.vars.length T.nodes (f + 1) (x : Int) st = Z at HR ⊢
 generalize nodeOf T.nodes (x : Int) = n at *
 obtain ⟨d0, d1, d2, d3, d4, d5, d6, d7⟩ := hnc
 rw [hk] at d0
 clear hk hy
 go_enter Tryz.func116, Tryz.ntmps116
 go_wp2_with fail
 refine (HMU.out _ _ (HCA.out _).1).mono ?_
 rintro e w2 ⟨rfl, hc2, hs2⟩
 have HC2 : Hid (Chk W0 w2 kp p aA V.length cA vl (mustW (nodeOf T.nodes (yn : Int)) (yn : Int) 1 (typeF V T.vars.length T.nodes f (yn : Int) st)) ∧ Sole kp W w2) := ⟨hc2, (HCA.out _).2.trans hs2⟩
 clear hc2 hs2
 go_wp2_with fail
 go_ret
 exact ⟨by rw [HR.out]; rfl, by rw [HR.out]; exact HC2.out.1, HC2.out.2⟩
set_option maxHeartbeats 6400000 in
set_option maxRecDepth 100000 in
theorem l5Type_not (lo : Nat) (W0 : World) (kp p cA : Nat) (vv vn vb : Value) (aA : Option Addr) (T : LTree) (V : List LVar) (vl : Value) (f x : Nat) (hE : ChkE lo W0 p kp vv vn vb aA T V) (hx : x < T.nodes.length) (IH : ∀ y, y < x → TypeC W0 kp p cA aA T V vl f y ∨ exprN (nodeOf T.nodes (y : Int)) = false) (hX : Kin T.nodes) (hk : (nodeOf T.nodes (x : Int)).kind = 5) :
  TypeC W0 kp p cA aA T V vl (f + 1) x := by
 intro W st hC
 obtain ⟨y, hy⟩ : ∃ y, (nodeOf T.nodes (x : Int)).kids = [y] := by
  have h := own_kids (hE.good.node x _ (node_get hx)).1 (by unfold exprN; rw [hk]; rfl)
  rw [hk] at h
  simp at h
  exact List.length_eq_one_iff.1 h
 obtain ⟨yn, rfl, hyx, hT⟩ : ∃ yn : Nat, y = (yn : Int) ∧ yn < x ∧ TypeC W0 kp p cA aA T V vl f yn := by
  have h1 := (hE.good.node x _ (node_get hx)).2.1 y (by rw [hy]; simp)
  have h2 := hX x _ (node_get hx) y (by rw [hy]; simp)
  refine ⟨y.toNat, by omega, by omega, ?_⟩
  rcases IH y.toNat (by omega) with h | h
  ·exact h
  ·rw [Int.toNat_of_nonneg h1.1, h2] at h; cases h
 have HR : Hid (typeF V T.vars.length T.nodes (f + 1) (x : Int) st = (2, mustW (nodeOf T.nodes (yn : Int)) (yn : Int) 2 (typeF V T.vars.length T.nodes f (yn : Int) st))) := by unfold Hid; rw [typeF]; simp only [hk, hy]; rfl
 have HMU : Hid (∀ (W' : World) (s : Met), Chk W0 W' kp p aA V.length cA vl s → Calls Tryz.prog 88 #[.pointer (some ⟨kp, 0, none⟩), .int .i64 (yn : Int), .int .i64 2] W' fun e w' => e = .returned (.tuple #[]) ∧ Chk W0 w' kp p aA V.length cA vl (mustW (nodeOf T.nodes (yn : Int)) (yn : Int) 2 (typeF V T.vars.length T.nodes f (yn : Int) s)) ∧ Sole kp W' w') := fun W' s h => l5Must_any lo W0 W' kp p cA vv vn vb aA T V vl s yn 2 f hE h (by omega) hT
 obtain ⟨bn, on, cn, rfl, q1, vk, vt, ve, hnc, hkd, _, ⟨a2, l2, c2, rfl⟩, ⟨a3, l3, c3, rfl⟩⟩ := hE.node hC.bel x hx
 obtain ⟨bk, ok, ck, rfl, hbk, hkc⟩ := kids_at hkd (by rw [hy]; simp)
 have ky0 := hkc 0 (yn : Int) (by rw [hy]; rfl)
 rw [hy] at hnc
 simp only [List.length_singleton] at hnc
 have k0 := cell_of_row _ _ 0 _ _ _ hC.row
 simp at k0
 have hkl := blk_lt hC.row
 have hnl := hE.good.nodes
 have hW0 := hC.bel.size
 have HKY : Hid (∀ W', Sole kp W W' → W'.cell? ⟨bk, ok, none⟩ = some (.int .i64 (yn : Int))) := fun W' h => Chk.sole hC.bel hE.low h hbk ky0
 have ky : W.cell? ⟨bk, ok, none⟩ = some (.int .i64 (yn : Int)) := HKY.out W (Sole.refl _ _)
 have hbkW : bk < W.heap.size := by omega
 have HCA : Hid (∀ o, Chk W0 (W.alloc o) kp p aA V.length cA vl st ∧ Sole kp W (W.alloc o)) := fun o =>
  have hb : Below W.heap.size W (W.alloc o) := (Below.refl _ _).alloc (Nat.le_refl _) _
  ⟨hC.below hb, hb.sole⟩
 have hx0 : (0 : Int) ≤ (x : Int) := by omega
 have hx1 : (x : Int) < (T.nodes.length : Int) := by omega
 clear IH hT hX hE hC hkc ky0 hkd
 generalize typeF V T.vars.length T.nodes (f + 1) (x : Int) st = Z at HR ⊢
 generalize nodeOf T.nodes (x : Int) = n at *
 obtain ⟨d0, d1, d2, d3, d4, d5, d6, d7⟩ := hnc
 rw [hk] at d0
 clear hk hy
 go_enter Tryz.func116, Tryz.ntmps116
 go_wp2_with fail
 refine (HMU.out _ _ (HCA.out _).1).mono ?_
 rintro e w2 ⟨rfl, hc2, hs2⟩
 have HC2 : Hid (Chk W0 w2 kp p aA V.length cA vl (mustW (nodeOf T.nodes (yn : Int)) (yn : Int) 2 (typeF V T.vars.length T.nodes f (yn : Int) st)) ∧ Sole kp W w2) := ⟨hc2, (HCA.out _).2.trans hs2⟩
 clear hc2 hs2
 go_wp2_with fail
 go_ret
 exact ⟨by rw [HR.out]; rfl, by rw [HR.out]; exact HC2.out.1, HC2.out.2⟩
set_option maxHeartbeats 6400000 in
set_option maxRecDepth 100000 in
theorem l5Type_opB (lo : Nat) (W0 : World) (kp p cA : Nat) (vv vn vb : Value) (aA : Option Addr) (T : LTree) (V : List LVar) (vl : Value) (f x : Nat) (hE : ChkE lo W0 p kp vv vn vb aA T V) (hx : x < T.nodes.length) (IH : ∀ y, y < x → TypeC W0 kp p cA aA T V vl f y ∨ exprN (nodeOf T.nodes (y : Int)) = false) (hX : Kin T.nodes) (hk : (nodeOf T.nodes (x : Int)).kind = 6) (hop : 6 ≤ (nodeOf T.nodes (x : Int)).op ∧ (nodeOf T.nodes (x : Int)).op ≤ 8) :
  TypeC W0 kp p cA aA T V vl (f + 1) x := by
 intro W st hC
 obtain ⟨y1, y2, hy⟩ : ∃ y1 y2, (nodeOf T.nodes (x : Int)).kids = [y1, y2] := by
  have h := own_kids (hE.good.node x _ (node_get hx)).1 (by unfold exprN; rw [hk]; rfl)
  rw [hk] at h
  simp at h
  obtain ⟨h, _⟩ := h
  match hl : (nodeOf T.nodes (x : Int)).kids, h with
  | [a, b], _ => exact ⟨a, b, rfl⟩
 have kid : ∀ y ∈ (nodeOf T.nodes (x : Int)).kids, ∃ yn : Nat, y = (yn : Int) ∧ yn < x ∧ TypeC W0 kp p cA aA T V vl f yn := fun y hm => by
  have h1 := (hE.good.node x _ (node_get hx)).2.1 y hm
  have h2 := hX x _ (node_get hx) y hm
  refine ⟨y.toNat, by omega, by omega, ?_⟩
  rcases IH y.toNat (by omega) with h | h
  ·exact h
  ·rw [Int.toNat_of_nonneg h1.1, h2] at h; cases h
 obtain ⟨y1, rfl, hyx1, hT1⟩ := kid y1 (by rw [hy]; simp)
 obtain ⟨y2, rfl, hyx2, hT2⟩ := kid y2 (by rw [hy]; simp)
 have hw : wantF V T.nodes (nodeOf T.nodes (x : Int)) = 2 := by unfold wantF; rw [if_neg (by omega), if_pos hop]
 have HR : Hid (typeF V T.vars.length T.nodes (f + 1) (x : Int) st = (if (nodeOf T.nodes (x : Int)).op ≤ 5 then 1 else 2, mustW (nodeOf T.nodes (y2 : Int)) (y2 : Int) 2 (typeF V T.vars.length T.nodes f (y2 : Int) (mustW (nodeOf T.nodes (y1 : Int)) (y1 : Int) 2 (typeF V T.vars.length T.nodes f (y1 : Int) st))))) := by unfold Hid; rw [typeF]; simp only [hk, hy, hw]; rfl
 have HM1 : Hid (∀ (W' : World) (s : Met), Chk W0 W' kp p aA V.length cA vl s → Calls Tryz.prog 88 #[.pointer (some ⟨kp, 0, none⟩), .int .i64 (y1 : Int), .int .i64 2] W' fun e w' => e = .returned (.tuple #[]) ∧ Chk W0 w' kp p aA V.length cA vl (mustW (nodeOf T.nodes (y1 : Int)) (y1 : Int) 2 (typeF V T.vars.length T.nodes f (y1 : Int) s)) ∧ Sole kp W' w') := fun W' s h => l5Must_any lo W0 W' kp p cA vv vn vb aA T V vl s y1 2 f hE h (by omega) hT1
 have HM2 : Hid (∀ (W' : World) (s : Met), Chk W0 W' kp p aA V.length cA vl s → Calls Tryz.prog 88 #[.pointer (some ⟨kp, 0, none⟩), .int .i64 (y2 : Int), .int .i64 2] W' fun e w' => e = .returned (.tuple #[]) ∧ Chk W0 w' kp p aA V.length cA vl (mustW (nodeOf T.nodes (y2 : Int)) (y2 : Int) 2 (typeF V T.vars.length T.nodes f (y2 : Int) s)) ∧ Sole kp W' w') := fun W' s h => l5Must_any lo W0 W' kp p cA vv vn vb aA T V vl s y2 2 f hE h (by omega) hT2
 obtain ⟨bn, on, cn, rfl, q1, vk, vt, ve, hnc, hkd, _, ⟨a2, l2, c2, rfl⟩, ⟨a3, l3, c3, rfl⟩⟩ := hE.node hC.bel x hx
 obtain ⟨bk, ok, ck, rfl, hbk, hkc⟩ := kids_at hkd (by rw [hy]; simp)
 have ky1 := hkc 0 (y1 : Int) (by rw [hy]; rfl)
 have ky2 := hkc 1 (y2 : Int) (by rw [hy]; rfl)
 rw [hy] at hnc
 simp only [List.length_cons, List.length_nil, Nat.zero_add, Nat.reduceAdd] at hnc
 have k0 := cell_of_row _ _ 0 _ _ _ hC.row
 simp at k0
 have hkl := blk_lt hC.row
 have hnl := hE.good.nodes
 have hW0 := hC.bel.size
 have HK1 : Hid (∀ W', Sole kp W W' → W'.cell? ⟨bk, ok, none⟩ = some (.int .i64 (y1 : Int))) := fun W' h => Chk.sole hC.bel hE.low h hbk ky1
 have HK2 : Hid (∀ W', Sole kp W W' → W'.cell? ⟨bk, ok + 1, none⟩ = some (.int .i64 (y2 : Int))) := fun W' h => Chk.sole hC.bel hE.low h hbk ky2
 have hbkW : bk < W.heap.size := by omega
 have HCA : Hid (∀ o, Chk W0 (W.alloc o) kp p aA V.length cA vl st ∧ Sole kp W (W.alloc o)) := fun o =>
  have hb : Below W.heap.size W (W.alloc o) := (Below.refl _ _).alloc (Nat.le_refl _) _
  ⟨hC.below hb, hb.sole⟩
 have hx0 : (0 : Int) ≤ (x : Int) := by omega
 have hx1 : (x : Int) < (T.nodes.length : Int) := by omega
 clear IH hT1 hT2 kid hX hE hC hkc ky1 ky2 hkd hw hW0 hyx1 hyx2 hbk
 generalize typeF V T.vars.length T.nodes (f + 1) (x : Int) st = Z at HR ⊢
 generalize nodeOf T.nodes (x : Int) = n at *
 obtain ⟨d0, d1, d2, d3, d4, d5, d6, d7⟩ := hnc
 obtain ⟨O, hO⟩ : ∃ O, n.op = O := ⟨_, rfl⟩
 rw [hO] at d1 HR hop
 rw [hk] at d0
 clear hk hy hO
 have hq : inB O 6 8 = true := inB_iff.2 hop
 have ho1 : (O == 10) = false := by simp; omega
 have ho2 : decide (O = 10) = false := decide_eq_false (by omega)
 have ho3 : ¬ (O ≤ 5) := by omega
 have ho4 : decide (O ≤ 5) = false := decide_eq_false ho3
 rw [if_neg ho3] at HR
 have HIN : Hid (∀ w, Calls Tryz.prog 81 #[.int .i64 O, .int .i64 6, .int .i64 8] w fun e w' => e = .returned (.bool true) ∧ w' = w) := fun w => by rw [← hq]; exact l1In_any _ _ _ w
 clear hq
 go_enter Tryz.func116, Tryz.ntmps116
 go_wp2_with fail
 generalize hW5 : W.alloc (.cells #[.int .i64 6, .int .i64 O, .string (bs n.name), .int .i64 n.num, .int .i64 n.far, .slice (some ⟨bk, ok, none⟩) 2 ck, .slice a2 l2 c2, .slice a3 l3 c3] 88) = W5
 have hA := heap_alloc_new W (.cells #[.int .i64 6, .int .i64 O, .string (bs n.name), .int .i64 n.num, .int .i64 n.far, .slice (some ⟨bk, ok, none⟩) 2 ck, .slice a2 l2 c2, .slice a3 l3 c3] 88)
 rw [hW5] at hA
 have hC5 := HCA.out (.cells #[.int .i64 6, .int .i64 O, .string (bs n.name), .int .i64 n.num, .int .i64 n.far, .slice (some ⟨bk, ok, none⟩) 2 ck, .slice a2 l2 c2, .slice a3 l3 c3] 88)
 rw [hW5] at hC5
 obtain ⟨-, n1, -, -, -, n5⟩ := cl6 hA
 have hs5 := blk_lt hA
 have hne : W.heap.size ≠ kp := by omega
 have ky1 := HK1.out W5 hC5.2
 have ky2 := HK2.out W5 hC5.2
 have hbk5 : bk < W5.heap.size := by omega
 have HC5 := hid hC5
 clear hW5 hA hC5 d0 d1 d2 d3 d4 d5 d6 d7 q1 k0 HCA
 refine (HIN.out _).mono ?_
 rintro e w' ⟨rfl, rfl⟩
 clear HIN
 go_wp2_with fail
 refine (HM1.out _ _ HC5.out.1).mono ?_
 rintro e w3 ⟨rfl, hc3, hs3⟩
 have HC3 : Hid (Chk W0 w3 kp p aA V.length cA vl (mustW (nodeOf T.nodes (y1 : Int)) (y1 : Int) 2 (typeF V T.vars.length T.nodes f (y1 : Int) st)) ∧ Sole kp W w3) := ⟨hc3, HC5.out.2.trans hs3⟩
 have l1 : w3.cell? ⟨W.heap.size, 1, none⟩ = some (.int .i64 O) := hs3.cell (p := ⟨W.heap.size, 1, none⟩) hne n1
 have l5 : w3.cell? ⟨W.heap.size, 5, none⟩ = some (.slice (some ⟨bk, ok, none⟩) 2 ck) := hs3.cell (p := ⟨W.heap.size, 5, none⟩) hne n5
 have lk := HK2.out w3 HC3.out.2
 clear hc3 hs3 n1 n5 HC5 HM1 HK1 ky1 ky2
 go_wp2_with fail
 refine (HM2.out _ _ HC3.out.1).mono ?_
 rintro e w4 ⟨rfl, hc4, hs4⟩
 have HC4 : Hid (Chk W0 w4 kp p aA V.length cA vl (mustW (nodeOf T.nodes (y2 : Int)) (y2 : Int) 2 (typeF V T.vars.length T.nodes f (y2 : Int) (mustW (nodeOf T.nodes (y1 : Int)) (y1 : Int) 2 (typeF V T.vars.length T.nodes f (y1 : Int) st)))) ∧ Sole kp W w4) := ⟨hc4, HC3.out.2.trans hs4⟩
 have r1 : w4.cell? ⟨W.heap.size, 1, none⟩ = some (.int .i64 O) := hs4.cell (p := ⟨W.heap.size, 1, none⟩) hne l1
 clear hc4 hs4 l1 l5 lk HC3 HM2 HK2
 go_wp2_with fail
 go_ret
 exact ⟨by rw [HR.out]; rfl, by rw [HR.out]; exact HC4.out.1, HC4.out.2⟩
set_option maxHeartbeats 6400000 in
set_option maxRecDepth 100000 in
theorem l5Type_opS (lo : Nat) (W0 : World) (kp p cA : Nat) (vv vn vb : Value) (aA : Option Addr) (T : LTree) (V : List LVar) (vl : Value) (f x : Nat) (hE : ChkE lo W0 p kp vv vn vb aA T V) (hx : x < T.nodes.length) (IH : ∀ y, y < x → TypeC W0 kp p cA aA T V vl f y ∨ exprN (nodeOf T.nodes (y : Int)) = false) (hX : Kin T.nodes) (hk : (nodeOf T.nodes (x : Int)).kind = 6) (hop : (nodeOf T.nodes (x : Int)).op = 10) :
  TypeC W0 kp p cA aA T V vl (f + 1) x := by
 intro W st hC
 obtain ⟨y1, y2, hy⟩ : ∃ y1 y2, (nodeOf T.nodes (x : Int)).kids = [y1, y2] := by
  have h := own_kids (hE.good.node x _ (node_get hx)).1 (by unfold exprN; rw [hk]; rfl)
  rw [hk] at h
  simp at h
  obtain ⟨h, _⟩ := h
  match hl : (nodeOf T.nodes (x : Int)).kids, h with
  | [a, b], _ => exact ⟨a, b, rfl⟩
 have kid : ∀ y ∈ (nodeOf T.nodes (x : Int)).kids, ∃ yn : Nat, y = (yn : Int) ∧ yn < x ∧ TypeC W0 kp p cA aA T V vl f yn := fun y hm => by
  have h1 := (hE.good.node x _ (node_get hx)).2.1 y hm
  have h2 := hX x _ (node_get hx) y hm
  refine ⟨y.toNat, by omega, by omega, ?_⟩
  rcases IH y.toNat (by omega) with h | h
  ·exact h
  ·rw [Int.toNat_of_nonneg h1.1, h2] at h; cases h
 obtain ⟨y1, rfl, hyx1, hT1⟩ := kid y1 (by rw [hy]; simp)
 obtain ⟨y2, rfl, hyx2, hT2⟩ := kid y2 (by rw [hy]; simp)
 obtain ⟨w, hwe⟩ : ∃ w, sameF V T.nodes (y1 : Int) (y2 : Int) = w := ⟨_, rfl⟩
 have hw : wantF V T.nodes (nodeOf T.nodes (x : Int)) = w := by unfold wantF; rw [if_pos hop, hy]; exact hwe
 have HSA : Hid (∀ W', Chk W0 W' kp p aA V.length cA vl st → Calls Tryz.prog 136 #[.pointer (some ⟨kp, 0, none⟩), .int .i64 (y1 : Int), .int .i64 (y2 : Int)] W' fun e w' => e = .returned (.int .i64 w) ∧ Below W'.heap.size W' w') := fun W' h => by
  rw [← hwe]; exact l5Same_any lo W0 W' kp p cA vv vn vb aA T V vl st y1 y2 hE h (by omega) (by omega)
 have HR : Hid (typeF V T.vars.length T.nodes (f + 1) (x : Int) st = (if (nodeOf T.nodes (x : Int)).op ≤ 5 then 1 else 2, mustW (nodeOf T.nodes (y2 : Int)) (y2 : Int) w (typeF V T.vars.length T.nodes f (y2 : Int) (mustW (nodeOf T.nodes (y1 : Int)) (y1 : Int) w (typeF V T.vars.length T.nodes f (y1 : Int) st))))) := by unfold Hid; rw [typeF]; simp only [hk, hy, hw]; rfl
 have HM1 : Hid (∀ (W' : World) (s : Met), Chk W0 W' kp p aA V.length cA vl s → Calls Tryz.prog 88 #[.pointer (some ⟨kp, 0, none⟩), .int .i64 (y1 : Int), .int .i64 w] W' fun e w' => e = .returned (.tuple #[]) ∧ Chk W0 w' kp p aA V.length cA vl (mustW (nodeOf T.nodes (y1 : Int)) (y1 : Int) w (typeF V T.vars.length T.nodes f (y1 : Int) s)) ∧ Sole kp W' w') := fun W' s h => l5Must_any lo W0 W' kp p cA vv vn vb aA T V vl s y1 w f hE h (by omega) hT1
 have HM2 : Hid (∀ (W' : World) (s : Met), Chk W0 W' kp p aA V.length cA vl s → Calls Tryz.prog 88 #[.pointer (some ⟨kp, 0, none⟩), .int .i64 (y2 : Int), .int .i64 w] W' fun e w' => e = .returned (.tuple #[]) ∧ Chk W0 w' kp p aA V.length cA vl (mustW (nodeOf T.nodes (y2 : Int)) (y2 : Int) w (typeF V T.vars.length T.nodes f (y2 : Int) s)) ∧ Sole kp W' w') := fun W' s h => l5Must_any lo W0 W' kp p cA vv vn vb aA T V vl s y2 w f hE h (by omega) hT2
 obtain ⟨bn, on, cn, rfl, q1, vk, vt, ve, hnc, hkd, _, ⟨a2, l2, c2, rfl⟩, ⟨a3, l3, c3, rfl⟩⟩ := hE.node hC.bel x hx
 obtain ⟨bk, ok, ck, rfl, hbk, hkc⟩ := kids_at hkd (by rw [hy]; simp)
 have ky1 := hkc 0 (y1 : Int) (by rw [hy]; rfl)
 have ky2 := hkc 1 (y2 : Int) (by rw [hy]; rfl)
 rw [hy] at hnc
 simp only [List.length_cons, List.length_nil, Nat.zero_add, Nat.reduceAdd] at hnc
 have k0 := cell_of_row _ _ 0 _ _ _ hC.row
 simp at k0
 have hkl := blk_lt hC.row
 have hnl := hE.good.nodes
 have hW0 := hC.bel.size
 have HK1 : Hid (∀ W', Sole kp W W' → W'.cell? ⟨bk, ok, none⟩ = some (.int .i64 (y1 : Int))) := fun W' h => Chk.sole hC.bel hE.low h hbk ky1
 have HK2 : Hid (∀ W', Sole kp W W' → W'.cell? ⟨bk, ok + 1, none⟩ = some (.int .i64 (y2 : Int))) := fun W' h => Chk.sole hC.bel hE.low h hbk ky2
 have hbkW : bk < W.heap.size := by omega
 have HCA : Hid (∀ o, Chk W0 (W.alloc o) kp p aA V.length cA vl st ∧ Sole kp W (W.alloc o)) := fun o =>
  have hb : Below W.heap.size W (W.alloc o) := (Below.refl _ _).alloc (Nat.le_refl _) _
  ⟨hC.below hb, hb.sole⟩
 have hx0 : (0 : Int) ≤ (x : Int) := by omega
 have hx1 : (x : Int) < (T.nodes.length : Int) := by omega
 clear IH hT1 hT2 kid hX hE hC hkc ky1 ky2 hkd hw hwe hW0 hyx1 hyx2 hbk
 generalize typeF V T.vars.length T.nodes (f + 1) (x : Int) st = Z at HR ⊢
 generalize nodeOf T.nodes (x : Int) = n at *
 obtain ⟨d0, d1, d2, d3, d4, d5, d6, d7⟩ := hnc
 obtain ⟨O, hO⟩ : ∃ O, n.op = O := ⟨_, rfl⟩
 rw [hO] at d1 HR hop
 rw [hk] at d0
 clear hk hy hO
 subst hop
 have hq : inB 10 6 8 = false := rfl
 have HIN : Hid (∀ w, Calls Tryz.prog 81 #[.int .i64 10, .int .i64 6, .int .i64 8] w fun e w' => e = .returned (.bool false) ∧ w' = w) := fun w => by rw [← hq]; exact l1In_any _ _ _ w
 clear hq
 go_enter Tryz.func116, Tryz.ntmps116
 go_wp2_with fail
 generalize hW5 : W.alloc (.cells #[.int .i64 6, .int .i64 10, .string (bs n.name), .int .i64 n.num, .int .i64 n.far, .slice (some ⟨bk, ok, none⟩) 2 ck, .slice a2 l2 c2, .slice a3 l3 c3] 88) = W5
 have hA := heap_alloc_new W (.cells #[.int .i64 6, .int .i64 10, .string (bs n.name), .int .i64 n.num, .int .i64 n.far, .slice (some ⟨bk, ok, none⟩) 2 ck, .slice a2 l2 c2, .slice a3 l3 c3] 88)
 rw [hW5] at hA
 have hC5 := HCA.out (.cells #[.int .i64 6, .int .i64 10, .string (bs n.name), .int .i64 n.num, .int .i64 n.far, .slice (some ⟨bk, ok, none⟩) 2 ck, .slice a2 l2 c2, .slice a3 l3 c3] 88)
 rw [hW5] at hC5
 obtain ⟨-, n1, -, -, -, n5⟩ := cl6 hA
 have hs5 := blk_lt hA
 have hne : W.heap.size ≠ kp := by omega
 have ky1 := HK1.out W5 hC5.2
 have ky2 := HK2.out W5 hC5.2
 have hbk5 : bk < W5.heap.size := by omega
 have HC5 := hid hC5
 clear hW5 hA hC5 d0 d1 d2 d3 d4 d5 d6 d7 q1 k0 HCA
 refine (HIN.out _).mono ?_
 rintro e w' ⟨rfl, rfl⟩
 clear HIN
 go_wp2_with fail
 go_region_held3 (fun Z => Z.cell? ⟨W.heap.size, 5, none⟩ = some (.slice (some ⟨bk, ok, none⟩) 2 ck) ∧ Z.cell? ⟨bk, ok, none⟩ = some (.int .i64 (y1 : Int)) ∧ Z.cell? ⟨bk, ok + 1, none⟩ = some (.int .i64 (y2 : Int))) (go_keep) (first | (go_at_call 136; refine (HSA.out _ ⟨HC5.out.1.bel.drew, HC5.out.1.row⟩).mono ?_; rintro e w2 ⟨rfl, hb⟩; have hD : Below w'.heap.size w' w2 := ((Below.refl w'.heap.size w').drew).trans (Below.mono hb (Nat.le_refl _)); have m1 := (hD.cell (p := ⟨W.heap.size, 1, none⟩) hs5).trans n1; have m5 := (hD.cell (p := ⟨W.heap.size, 5, none⟩) hs5).trans n5; have k1 := (hD.cell (p := ⟨bk, ok, none⟩) hbk5).trans ky1; have k2 := (hD.cell (p := ⟨bk, ok + 1, none⟩) hbk5).trans ky2; have HC6 : Hid (Chk W0 w2 kp p aA V.length cA vl st ∧ Sole kp W w2) := ⟨HC5.out.1.below hD, HC5.out.2.trans hD.sole⟩; clear hb hD))
 clear n1 n5 ky1 ky2
 have HC5 : Hid (Chk W0 w2 kp p aA V.length cA vl st ∧ Sole kp W w2) := HC6
 clear HC6 HSA
 have n1 : w2.cell? ⟨W.heap.size, 1, none⟩ = _ := m1
 go_wp2_with fail
 refine (HM1.out _ _ HC5.out.1).mono ?_
 rintro e w3 ⟨rfl, hc3, hs3⟩
 have HC3 : Hid (Chk W0 w3 kp p aA V.length cA vl (mustW (nodeOf T.nodes (y1 : Int)) (y1 : Int) w (typeF V T.vars.length T.nodes f (y1 : Int) st)) ∧ Sole kp W w3) := ⟨hc3, HC5.out.2.trans hs3⟩
 have l1 : w3.cell? ⟨W.heap.size, 1, none⟩ = some (.int .i64 10) := hs3.cell (p := ⟨W.heap.size, 1, none⟩) hne n1
 have l5 : w3.cell? ⟨W.heap.size, 5, none⟩ = some (.slice (some ⟨bk, ok, none⟩) 2 ck) := hs3.cell (p := ⟨W.heap.size, 5, none⟩) hne m5
 have lk := HK2.out w3 HC3.out.2
 clear hc3 hs3 n1 m5 HC5 HM1 HK1 k1 k2
 go_wp2_with fail
 refine (HM2.out _ _ HC3.out.1).mono ?_
 rintro e w4 ⟨rfl, hc4, hs4⟩
 have HC4 : Hid (Chk W0 w4 kp p aA V.length cA vl (mustW (nodeOf T.nodes (y2 : Int)) (y2 : Int) w (typeF V T.vars.length T.nodes f (y2 : Int) (mustW (nodeOf T.nodes (y1 : Int)) (y1 : Int) w (typeF V T.vars.length T.nodes f (y1 : Int) st)))) ∧ Sole kp W w4) := ⟨hc4, HC3.out.2.trans hs4⟩
 have r1 : w4.cell? ⟨W.heap.size, 1, none⟩ = some (.int .i64 10) := hs4.cell (p := ⟨W.heap.size, 1, none⟩) hne l1
 clear hc4 hs4 l1 l5 lk HC3 HM2 HK2
 go_wp2_with fail
 go_ret
 exact ⟨by rw [HR.out]; rfl, by rw [HR.out]; exact HC4.out.1, HC4.out.2⟩
end Go.Proofs.YteeklmgkhacbcaaGreatDoor
