/-
  spec.l5Type: minus, not.
-/
import Derived.Test.YtdnhmpemkpjcaaaGreatDoorSTypA
namespace Go.Proofs.YtdnhmpemkpjcaaaGreatDoor
open Go.RowKit
set_option linter.unusedVariables false
attribute [local go_sem] bs_size bs_get bs_extract bs_append bs_eq bs_toList

set_option maxHeartbeats 6400000 in
set_option maxRecDepth 100000 in
theorem l5Type_neg (lo : Nat) (W0 : World) (kp p cA : Nat) (vv vn vb : Value) (aA : Option Addr) (T : LTree) (V : List LVar) (vl : Value) (f x : Nat) (hE : ChkE lo W0 p kp vv vn vb aA T V) (hx : x < T.nodes.length) (IH : ∀ y, y < x → TypeC W0 kp p cA aA T V vl f y ∨ exprN (nodeOf T.nodes (y : Int)) = false) (hX : Kin T.nodes) (hk : (nodeOf T.nodes (x : Int)).kind = 4) :
    TypeC W0 kp p cA aA T V vl (f + 1) x := by
  intro W st hC
  obtain ⟨y, hy⟩ : ∃ y, (nodeOf T.nodes (x : Int)).kids = [y] := by
    have h := own_kids (hE.good.node x _ (node_get hx)).1 (by unfold exprN; rw [hk]; rfl)
    rw [hk] at h
    simp at h
    exact List.length_eq_one_iff.1 h
  obtain ⟨yn, rfl, hyx, hT⟩ : ∃ yn : Nat, y = (yn : Int) ∧ yn < x ∧ TypeC W0 kp p cA aA T V vl f yn := by
    have h1 := (hE.good.node x _ (node_get hx)).2.1 y (by rw [hy]; simp)
    have h2 := hX x _ (node_get hx) y (by rw [hy]; simp)
    refine ⟨y.toNat, by omega, by omega, ?_⟩
    rcases IH y.toNat (by omega) with h | h
    · exact h
    · rw [Int.toNat_of_nonneg h1.1, h2] at h; cases h
  have HR : Hid (typeF V T.vars.length T.nodes (f + 1) (x : Int) st = (1, mustW (nodeOf T.nodes (yn : Int)) (yn : Int) 1 (typeF V T.vars.length T.nodes f (yn : Int) st))) := by unfold Hid; rw [typeF]; simp only [hk, hy]; rfl
  have HMU : Hid (∀ (W' : World) (s : Met), Chk W0 W' kp p aA V.length cA vl s → Calls Tryz.prog 127 #[.pointer (some ⟨kp, 0, none⟩), .int .i64 (yn : Int), .int .i64 1] W' fun e w' => e = .returned (.tuple #[]) ∧ Chk W0 w' kp p aA V.length cA vl (mustW (nodeOf T.nodes (yn : Int)) (yn : Int) 1 (typeF V T.vars.length T.nodes f (yn : Int) s)) ∧ Sole kp W' w') := fun W' s h => l5Must_any lo W0 W' kp p cA vv vn vb aA T V vl s yn 1 f hE h (by omega) hT
  obtain ⟨bn, on, cn, rfl, q1, vk, vt, ve, hnc, hkd, _, ⟨a2, l2, c2, rfl⟩, ⟨a3, l3, c3, rfl⟩⟩ := hE.node hC.bel x hx
  obtain ⟨bk, ok, ck, rfl, hbk, hkc⟩ := kids_at hkd (by rw [hy]; simp)
  have ky0 := hkc 0 (yn : Int) (by rw [hy]; rfl)
  rw [hy] at hnc
  simp only [List.length_singleton] at hnc
  have k0 := cell_of_row _ _ 0 _ _ _ hC.row
  simp at k0
  have hkl := blk_lt hC.row
  have hnl := hE.good.nodes
  have hW0 := hC.bel.size
  have HKY : Hid (∀ W', Sole kp W W' → W'.cell? ⟨bk, ok, none⟩ = some (.int .i64 (yn : Int))) := fun W' h => Chk.sole hC.bel hE.low h hbk ky0
  have ky : W.cell? ⟨bk, ok, none⟩ = some (.int .i64 (yn : Int)) := HKY.out W (Sole.refl _ _)
  have hbkW : bk < W.heap.size := by omega
  have HCA : Hid (∀ o, Chk W0 (W.alloc o) kp p aA V.length cA vl st ∧ Sole kp W (W.alloc o)) := fun o =>
    have hb : Below W.heap.size W (W.alloc o) := (Below.refl _ _).alloc (Nat.le_refl _) _
    ⟨hC.below hb, hb.sole⟩
  have hx0 : (0 : Int) ≤ (x : Int) := by omega
  have hx1 : (x : Int) < (T.nodes.length : Int) := by omega
  clear IH hT hX hE hC hkc ky0 hkd
  generalize typeF V T.vars.length T.nodes (f + 1) (x : Int) st = Z at HR ⊢
  generalize nodeOf T.nodes (x : Int) = n at *
  obtain ⟨d0, d1, d2, d3, d4, d5, d6, d7⟩ := hnc
  rw [hk] at d0
  clear hk hy
  go_enter Tryz.func66, Tryz.ntmps66
  go_wp2_with fail
  refine (HMU.out _ _ (HCA.out _).1).mono ?_
  rintro e w2 ⟨rfl, hc2, hs2⟩
  have HC2 : Hid (Chk W0 w2 kp p aA V.length cA vl (mustW (nodeOf T.nodes (yn : Int)) (yn : Int) 1 (typeF V T.vars.length T.nodes f (yn : Int) st)) ∧ Sole kp W w2) := ⟨hc2, (HCA.out _).2.trans hs2⟩
  clear hc2 hs2
  go_wp2_with fail
  go_ret
  exact ⟨by rw [HR.out]; rfl, by rw [HR.out]; exact HC2.out.1, HC2.out.2⟩

set_option maxHeartbeats 6400000 in
set_option maxRecDepth 100000 in
theorem l5Type_not (lo : Nat) (W0 : World) (kp p cA : Nat) (vv vn vb : Value) (aA : Option Addr) (T : LTree) (V : List LVar) (vl : Value) (f x : Nat) (hE : ChkE lo W0 p kp vv vn vb aA T V) (hx : x < T.nodes.length) (IH : ∀ y, y < x → TypeC W0 kp p cA aA T V vl f y ∨ exprN (nodeOf T.nodes (y : Int)) = false) (hX : Kin T.nodes) (hk : (nodeOf T.nodes (x : Int)).kind = 5) :
    TypeC W0 kp p cA aA T V vl (f + 1) x := by
  intro W st hC
  obtain ⟨y, hy⟩ : ∃ y, (nodeOf T.nodes (x : Int)).kids = [y] := by
    have h := own_kids (hE.good.node x _ (node_get hx)).1 (by unfold exprN; rw [hk]; rfl)
    rw [hk] at h
    simp at h
    exact List.length_eq_one_iff.1 h
  obtain ⟨yn, rfl, hyx, hT⟩ : ∃ yn : Nat, y = (yn : Int) ∧ yn < x ∧ TypeC W0 kp p cA aA T V vl f yn := by
    have h1 := (hE.good.node x _ (node_get hx)).2.1 y (by rw [hy]; simp)
    have h2 := hX x _ (node_get hx) y (by rw [hy]; simp)
    refine ⟨y.toNat, by omega, by omega, ?_⟩
    rcases IH y.toNat (by omega) with h | h
    · exact h
    · rw [Int.toNat_of_nonneg h1.1, h2] at h; cases h
  have HR : Hid (typeF V T.vars.length T.nodes (f + 1) (x : Int) st = (2, mustW (nodeOf T.nodes (yn : Int)) (yn : Int) 2 (typeF V T.vars.length T.nodes f (yn : Int) st))) := by unfold Hid; rw [typeF]; simp only [hk, hy]; rfl
  have HMU : Hid (∀ (W' : World) (s : Met), Chk W0 W' kp p aA V.length cA vl s → Calls Tryz.prog 127 #[.pointer (some ⟨kp, 0, none⟩), .int .i64 (yn : Int), .int .i64 2] W' fun e w' => e = .returned (.tuple #[]) ∧ Chk W0 w' kp p aA V.length cA vl (mustW (nodeOf T.nodes (yn : Int)) (yn : Int) 2 (typeF V T.vars.length T.nodes f (yn : Int) s)) ∧ Sole kp W' w') := fun W' s h => l5Must_any lo W0 W' kp p cA vv vn vb aA T V vl s yn 2 f hE h (by omega) hT
  obtain ⟨bn, on, cn, rfl, q1, vk, vt, ve, hnc, hkd, _, ⟨a2, l2, c2, rfl⟩, ⟨a3, l3, c3, rfl⟩⟩ := hE.node hC.bel x hx
  obtain ⟨bk, ok, ck, rfl, hbk, hkc⟩ := kids_at hkd (by rw [hy]; simp)
  have ky0 := hkc 0 (yn : Int) (by rw [hy]; rfl)
  rw [hy] at hnc
  simp only [List.length_singleton] at hnc
  have k0 := cell_of_row _ _ 0 _ _ _ hC.row
  simp at k0
  have hkl := blk_lt hC.row
  have hnl := hE.good.nodes
  have hW0 := hC.bel.size
  have HKY : Hid (∀ W', Sole kp W W' → W'.cell? ⟨bk, ok, none⟩ = some (.int .i64 (yn : Int))) := fun W' h => Chk.sole hC.bel hE.low h hbk ky0
  have ky : W.cell? ⟨bk, ok, none⟩ = some (.int .i64 (yn : Int)) := HKY.out W (Sole.refl _ _)
  have hbkW : bk < W.heap.size := by omega
  have HCA : Hid (∀ o, Chk W0 (W.alloc o) kp p aA V.length cA vl st ∧ Sole kp W (W.alloc o)) := fun o =>
    have hb : Below W.heap.size W (W.alloc o) := (Below.refl _ _).alloc (Nat.le_refl _) _
    ⟨hC.below hb, hb.sole⟩
  have hx0 : (0 : Int) ≤ (x : Int) := by omega
  have hx1 : (x : Int) < (T.nodes.length : Int) := by omega
  clear IH hT hX hE hC hkc ky0 hkd
  generalize typeF V T.vars.length T.nodes (f + 1) (x : Int) st = Z at HR ⊢
  generalize nodeOf T.nodes (x : Int) = n at *
  obtain ⟨d0, d1, d2, d3, d4, d5, d6, d7⟩ := hnc
  rw [hk] at d0
  clear hk hy
  go_enter Tryz.func66, Tryz.ntmps66
  go_wp2_with fail
  refine (HMU.out _ _ (HCA.out _).1).mono ?_
  rintro e w2 ⟨rfl, hc2, hs2⟩
  have HC2 : Hid (Chk W0 w2 kp p aA V.length cA vl (mustW (nodeOf T.nodes (yn : Int)) (yn : Int) 2 (typeF V T.vars.length T.nodes f (yn : Int) st)) ∧ Sole kp W w2) := ⟨hc2, (HCA.out _).2.trans hs2⟩
  clear hc2 hs2
  go_wp2_with fail
  go_ret
  exact ⟨by rw [HR.out]; rfl, by rw [HR.out]; exact HC2.out.1, HC2.out.2⟩
end Go.Proofs.YtdnhmpemkpjcaaaGreatDoor
