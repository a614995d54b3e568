/-
  spec.l5Target.
-/
import Derived.Test.YtcecfmdjicjngaaGreatDoorSTypA
import Derived.Test.YtcecfmdjicjngaaGreatDoorCheckM2
import Derived.Test.YtcecfmdjicjngaaGreatDoorRowE
import Derived.Test.YtcecfmdjicjngaaGreatDoorTreeC
import Derived.Test.YtcecfmdjicjngaaGreatDoorCheckS
import Derived.Test.YtcecfmdjicjngaaGreatDoorOwnI
import Derived.Test.YtcecfmdjicjngaaGreatDoorRowE
namespace Go.Proofs.YtcecfmdjicjngaaGreatDoor
open Go.RowKit
set_option linter.unusedVariables false
attribute [local go_sem] bs_size bs_get bs_extract bs_append bs_eq bs_toList
set_option maxHeartbeats 6400000 in
set_option maxRecDepth 100000 in
theorem l5Type_item (lo : Nat) (W0 : World) (kp p cA : Nat) (vv vn vb : Value) (aA : Option Addr) (T : LTree) (V : List LVar) (vl : Value) (f x : Nat) (hE : ChkE lo W0 p kp vv vn vb aA T V) (hx : x < T.nodes.length) (IH : ∀ y, y < x → TypeC W0 kp p cA aA T V vl f y ∨ exprN (nodeOf T.nodes (y : Int)) = false) (hX : Kin T.nodes) (hk : (nodeOf T.nodes (x : Int)).kind = 3) :
  TypeC W0 kp p cA aA T V vl (f + 1) x := by
 intro W st hC
 obtain ⟨y, hy⟩ : ∃ y, (nodeOf T.nodes (x : Int)).kids = [y] := by
  have h := own_kids (hE.good.node x _ (node_get hx)).1 (by unfold exprN; rw [hk]; rfl)
  rw [hk] at h
  simp at h
  exact List.length_eq_one_iff.1 h
 obtain ⟨yn, rfl, hyx, hT⟩ : ∃ yn : Nat, y = (yn : Int) ∧ yn < x ∧ TypeC W0 kp p cA aA T V vl f yn := by
  have h1 := (hE.good.node x _ (node_get hx)).2.1 y (by rw [hy]; simp)
  have h2 := hX x _ (node_get hx) y (by rw [hy]; simp)
  refine ⟨y.toNat, by omega, by omega, ?_⟩
  rcases IH y.toNat (by omega) with h | h
  ·exact h
  ·rw [Int.toNat_of_nonneg h1.1, h2] at h; cases h
 have HR : Hid (typeF V T.vars.length T.nodes (f + 1) (x : Int) st = ((nameF V T.vars.length (nodeOf T.nodes (x : Int)).name true (x : Int) st).1, mustW (nodeOf T.nodes (yn : Int)) (yn : Int) 1 (typeF V T.vars.length T.nodes f (yn : Int) (nameF V T.vars.length (nodeOf T.nodes (x : Int)).name true (x : Int) st).2))) := by unfold Hid; rw [typeF]; simp only [hk, hy]; rfl
 have HMU : Hid (∀ (W' : World) (s : Met), Chk W0 W' kp p aA V.length cA vl s → Calls Tryz.prog 213 #[.pointer (some ⟨kp, 0, none⟩), .int .i64 (yn : Int), .int .i64 1] W' fun e w' => e = .returned (.tuple #[]) ∧ Chk W0 w' kp p aA V.length cA vl (mustW (nodeOf T.nodes (yn : Int)) (yn : Int) 1 (typeF V T.vars.length T.nodes f (yn : Int) s)) ∧ Sole kp W' w') := fun W' s h => l5Must_any lo W0 W' kp p cA vv vn vb aA T V vl s yn 1 f hE h (by omega) hT
 have HNM : Hid (∀ W', Chk W0 W' kp p aA V.length cA vl st → Calls Tryz.prog 278 #[.pointer (some ⟨kp, 0, none⟩), .int .i64 (x : Int), .bool true] W' fun e w' => e = .returned (.int .i64 (nameF V T.vars.length (nodeOf T.nodes (x : Int)).name true (x : Int) st).1) ∧ Chk W0 w' kp p aA V.length cA vl (nameF V T.vars.length (nodeOf T.nodes (x : Int)).name true (x : Int) st).2 ∧ Sole kp W' w') := fun W' h => l5Name_any lo W0 W' kp p cA vv vn vb aA T V vl st x true hE h hx
 obtain ⟨bn, on, cn, rfl, q1, vk, vt, ve, hnc, hkd, _, ⟨a2, l2, c2, rfl⟩, ⟨a3, l3, c3, rfl⟩⟩ := hE.node hC.bel x hx
 obtain ⟨bk, ok, ck, rfl, hbk, hkc⟩ := kids_at hkd (by rw [hy]; simp)
 have ky0 := hkc 0 (yn : Int) (by rw [hy]; rfl)
 rw [hy] at hnc
 simp only [List.length_singleton] at hnc
 have k0 := cell_of_row _ _ 0 _ _ _ hC.row
 simp at k0
 have hkl := blk_lt hC.row
 have hnl := hE.good.nodes
 have hW0 := hC.bel.size
 have HKY : Hid (∀ W', Sole kp W W' → W'.cell? ⟨bk, ok, none⟩ = some (.int .i64 (yn : Int))) := fun W' h => Chk.sole hC.bel hE.low h hbk ky0
 have ky : W.cell? ⟨bk, ok, none⟩ = some (.int .i64 (yn : Int)) := HKY.out W (Sole.refl _ _)
 have hbkW : bk < W.heap.size := by omega
 have HCA : Hid (∀ o, Chk W0 (W.alloc o) kp p aA V.length cA vl st ∧ Sole kp W (W.alloc o)) := fun o =>
  have hb : Below W.heap.size W (W.alloc o) := (Below.refl _ _).alloc (Nat.le_refl _) _
  ⟨hC.below hb, hb.sole⟩
 have hx0 : (0 : Int) ≤ (x : Int) := by omega
 have hx1 : (x : Int) < (T.nodes.length : Int) := by omega
 clear IH hT hX hE hC hkc ky0 hkd
 generalize typeF V T.vars.length T.nodes (f + 1) (x : Int) st = Z at HR ⊢
 generalize nameF V T.vars.length (nodeOf T.nodes (x : Int)).name true (x : Int) st = Y at HR HNM
 obtain ⟨g, st2⟩ := Y
 generalize nodeOf T.nodes (x : Int) = n at *
 obtain ⟨d0, d1, d2, d3, d4, d5, d6, d7⟩ := hnc
 rw [hk] at d0
 clear hk hy
 go_enter Tryz.func261, Tryz.ntmps261
 go_wp2_with fail
 generalize hW5 : W.alloc (.cells #[.int .i64 3, .int .i64 n.op, .string (bs n.name), .int .i64 n.num, .int .i64 n.far, .slice (some ⟨bk, ok, none⟩) 1 ck, .slice a2 l2 c2, .slice a3 l3 c3] 40) = W5
 have hA := heap_alloc_new W (.cells #[.int .i64 3, .int .i64 n.op, .string (bs n.name), .int .i64 n.num, .int .i64 n.far, .slice (some ⟨bk, ok, none⟩) 1 ck, .slice a2 l2 c2, .slice a3 l3 c3] 40)
 rw [hW5] at hA
 have hC5 := HCA.out (.cells #[.int .i64 3, .int .i64 n.op, .string (bs n.name), .int .i64 n.num, .int .i64 n.far, .slice (some ⟨bk, ok, none⟩) 1 ck, .slice a2 l2 c2, .slice a3 l3 c3] 40)
 rw [hW5] at hC5
 have n5 : W5.cell? ⟨W.heap.size, 5, none⟩ = some (.slice (some ⟨bk, ok, none⟩) 1 ck) := cell_of_row _ _ 5 _ _ _ hA
 clear hW5 hA
 refine (HNM.out _ hC5.1).mono ?_
 rintro e w2 ⟨rfl, hc2, hs2⟩
 have HC2 : Hid (Chk W0 w2 kp p aA V.length cA vl st2 ∧ Sole kp W w2) := ⟨hc2, hC5.2.trans hs2⟩
 have n5' : w2.cell? ⟨W.heap.size, 5, none⟩ = some (.slice (some ⟨bk, ok, none⟩) 1 ck) := hs2.cell (p := ⟨W.heap.size, 5, none⟩) (by simp; omega) n5
 have ky2 : w2.cell? ⟨bk, ok, none⟩ = some (.int .i64 (yn : Int)) := HKY.out w2 HC2.out.2
 clear hc2 hs2 hC5 n5 ky HNM d0 d1 d2 d3 d4 d5 d6 d7 q1 k0
 go_wp2_with fail
 refine (HMU.out _ _ HC2.out.1).mono ?_
 rintro e w3 ⟨rfl, hc3, hs3⟩
 have HC3 : Hid (Chk W0 w3 kp p aA V.length cA vl (mustW (nodeOf T.nodes (yn : Int)) (yn : Int) 1 (typeF V T.vars.length T.nodes f (yn : Int) st2)) ∧ Sole kp W w3) := ⟨hc3, HC2.out.2.trans hs3⟩
 clear hc3 hs3
 go_wp2_with fail
 go_ret
 exact ⟨by rw [HR.out]; rfl, by rw [HR.out]; exact HC3.out.1, HC3.out.2⟩
end Go.Proofs.YtcecfmdjicjngaaGreatDoor
namespace Go.Proofs.YtcecfmdjicjngaaGreatDoor
open Go.RowKit
set_option linter.unusedVariables false
attribute [local go_sem] bs_size bs_get bs_extract bs_append bs_eq bs_toList
set_option maxHeartbeats 6400000 in
set_option maxRecDepth 100000 in
theorem l5Type_neg (lo : Nat) (W0 : World) (kp p cA : Nat) (vv vn vb : Value) (aA : Option Addr) (T : LTree) (V : List LVar) (vl : Value) (f x : Nat) (hE : ChkE lo W0 p kp vv vn vb aA T V) (hx : x < T.nodes.length) (IH : ∀ y, y < x → TypeC W0 kp p cA aA T V vl f y ∨ exprN (nodeOf T.nodes (y : Int)) = false) (hX : Kin T.nodes) (hk : (nodeOf T.nodes (x : Int)).kind = 4) :
  TypeC W0 kp p cA aA T V vl (f + 1) x := by
 intro W st hC
 obtain ⟨y, hy⟩ : ∃ y, (nodeOf T.nodes (x : Int)).kids = [y] := by
  have h := own_kids (hE.good.node x _ (node_get hx)).1 (by unfold exprN; rw [hk]; rfl)
  rw [hk] at h
  simp at h
  exact List.length_eq_one_iff.1 h
 obtain ⟨yn, rfl, hyx, hT⟩ : ∃ yn : Nat, y = (yn : Int) ∧ yn < x ∧ TypeC W0 kp p cA aA T V vl f yn := by
  have h1 := (hE.good.node x _ (node_get hx)).2.1 y (by rw [hy]; simp)
  have h2 := hX x _ (node_get hx) y (by rw [hy]; simp)
  refine ⟨y.toNat, by omega, by omega, ?_⟩
  rcases IH y.toNat (by omega) with h | h
  ·exact h
  ·rw [Int.toNat_of_nonneg h1.1, h2] at h; cases h
 have HR : Hid (typeF V T.vars.length T.nodes (f + 1) (x : Int) st = (1, mustW (nodeOf T.nodes (yn : Int)) (yn : Int) 1 (typeF V T.vars.length T.nodes f (yn : Int) st))) := by unfold Hid; rw [typeF]; simp only [hk, hy]; rfl
 have HMU : Hid (∀ (W' : World) (s : Met), Chk W0 W' kp p aA V.length cA vl s → Calls Tryz.prog 213 #[.pointer (some ⟨kp, 0, none⟩), .int .i64 (yn : Int), .int .i64 1] W' fun e w' => e = .returned (.tuple #[]) ∧ Chk W0 w' kp p aA V.length cA vl (mustW (nodeOf T.nodes (yn : Int)) (yn : Int) 1 (typeF V T.vars.length T.nodes f (yn : Int) s)) ∧ Sole kp W' w') := fun W' s h => l5Must_any lo W0 W' kp p cA vv vn vb aA T V vl s yn 1 f hE h (by omega) hT
 obtain ⟨bn, on, cn, rfl, q1, vk, vt, ve, hnc, hkd, _, ⟨a2, l2, c2, rfl⟩, ⟨a3, l3, c3, rfl⟩⟩ := hE.node hC.bel x hx
 obtain ⟨bk, ok, ck, rfl, hbk, hkc⟩ := kids_at hkd (by rw [hy]; simp)
 have ky0 := hkc 0 (yn : Int) (by rw [hy]; rfl)
 rw [hy] at hnc
 simp only [List.length_singleton] at hnc
 have k0 := cell_of_row _ _ 0 _ _ _ hC.row
 simp at k0
 have hkl := blk_lt hC.row
 have hnl := hE.good.nodes
 have hW0 := hC.bel.size
 have HKY : Hid (∀ W', Sole kp W W' → W'.cell? ⟨bk, ok, none⟩ = some (.int .i64 (yn : Int))) := fun W' h => Chk.sole hC.bel hE.low h hbk ky0
 have ky : W.cell? ⟨bk, ok, none⟩ = some (.int .i64 (yn : Int)) := HKY.out W (Sole.refl _ _)
 have hbkW : bk < W.heap.size := by omega
 have HCA : Hid (∀ o, Chk W0 (W.alloc o) kp p aA V.length cA vl st ∧ Sole kp W (W.alloc o)) := fun o =>
  have hb : Below W.heap.size W (W.alloc o) := (Below.refl _ _).alloc (Nat.le_refl _) _
  ⟨hC.below hb, hb.sole⟩
 have hx0 : (0 : Int) ≤ (x : Int) := by omega
 have hx1 : (x : Int) < (T.nodes.length : Int) := by omega
 clear IH hT hX hE hC hkc ky0 hkd
 generalize typeF V T.vars.length T.nodes (f + 1) (x : Int) st = Z at HR ⊢
 generalize nodeOf T.nodes (x : Int) = n at *
 obtain ⟨d0, d1, d2, d3, d4, d5, d6, d7⟩ := hnc
 rw [hk] at d0
 clear hk hy
 go_enter Tryz.func261, Tryz.ntmps261
 go_wp2_with fail
 refine (HMU.out _ _ (HCA.out _).1).mono ?_
 rintro e w2 ⟨rfl, hc2, hs2⟩
 have HC2 : Hid (Chk W0 w2 kp p aA V.length cA vl (mustW (nodeOf T.nodes (yn : Int)) (yn : Int) 1 (typeF V T.vars.length T.nodes f (yn : Int) st)) ∧ Sole kp W w2) := ⟨hc2, (HCA.out _).2.trans hs2⟩
 clear hc2 hs2
 go_wp2_with fail
 go_ret
 exact ⟨by rw [HR.out]; rfl, by rw [HR.out]; exact HC2.out.1, HC2.out.2⟩
set_option maxHeartbeats 6400000 in
set_option maxRecDepth 100000 in
theorem l5Type_not (lo : Nat) (W0 : World) (kp p cA : Nat) (vv vn vb : Value) (aA : Option Addr) (T : LTree) (V : List LVar) (vl : Value) (f x : Nat) (hE : ChkE lo W0 p kp vv vn vb aA T V) (hx : x < T.nodes.length) (IH : ∀ y, y < x → TypeC W0 kp p cA aA T V vl f y ∨ exprN (nodeOf T.nodes (y : Int)) = false) (hX : Kin T.nodes) (hk : (nodeOf T.nodes (x : Int)).kind = 5) :
  TypeC W0 kp p cA aA T V vl (f + 1) x := by
 intro W st hC
 obtain ⟨y, hy⟩ : ∃ y, (nodeOf T.nodes (x : Int)).kids = [y] := by
  have h := own_kids (hE.good.node x _ (node_get hx)).1 (by unfold exprN; rw [hk]; rfl)
  rw [hk] at h
  simp at h
  exact List.length_eq_one_iff.1 h
 obtain ⟨yn, rfl, hyx, hT⟩ : ∃ yn : Nat, y = (yn : Int) ∧ yn < x ∧ TypeC W0 kp p cA aA T V vl f yn := by
  have h1 := (hE.good.node x _ (node_get hx)).2.1 y (by rw [hy]; simp)
  have h2 := hX x _ (node_get hx) y (by rw [hy]; simp)
  refine ⟨y.toNat, by omega, by omega, ?_⟩
  rcases IH y.toNat (by omega) with h | h
  ·exact h
  ·rw [Int.toNat_of_nonneg h1.1, h2] at h; cases h
 have HR : Hid (typeF V T.vars.length T.nodes (f + 1) (x : Int) st = (2, mustW (nodeOf T.nodes (yn : Int)) (yn : Int) 2 (typeF V T.vars.length T.nodes f (yn : Int) st))) := by unfold Hid; rw [typeF]; simp only [hk, hy]; rfl
 have HMU : Hid (∀ (W' : World) (s : Met), Chk W0 W' kp p aA V.length cA vl s → Calls Tryz.prog 213 #[.pointer (some ⟨kp, 0, none⟩), .int .i64 (yn : Int), .int .i64 2] W' fun e w' => e = .returned (.tuple #[]) ∧ Chk W0 w' kp p aA V.length cA vl (mustW (nodeOf T.nodes (yn : Int)) (yn : Int) 2 (typeF V T.vars.length T.nodes f (yn : Int) s)) ∧ Sole kp W' w') := fun W' s h => l5Must_any lo W0 W' kp p cA vv vn vb aA T V vl s yn 2 f hE h (by omega) hT
 obtain ⟨bn, on, cn, rfl, q1, vk, vt, ve, hnc, hkd, _, ⟨a2, l2, c2, rfl⟩, ⟨a3, l3, c3, rfl⟩⟩ := hE.node hC.bel x hx
 obtain ⟨bk, ok, ck, rfl, hbk, hkc⟩ := kids_at hkd (by rw [hy]; simp)
 have ky0 := hkc 0 (yn : Int) (by rw [hy]; rfl)
 rw [hy] at hnc
 simp only [List.length_singleton] at hnc
 have k0 := cell_of_row _ _ 0 _ _ _ hC.row
 simp at k0
 have hkl := blk_lt hC.row
 have hnl := hE.good.nodes
 have hW0 := hC.bel.size
 have HKY : Hid (∀ W', Sole kp W W' → W'.cell? ⟨bk, ok, none⟩ = some (.int .i64 (yn : Int))) := fun W' h => Chk.sole hC.bel hE.low h hbk ky0
 have ky : W.cell? ⟨bk, ok, none⟩ = some (.int .i64 (yn : Int)) := HKY.out W (Sole.refl _ _)
 have hbkW : bk < W.heap.size := by omega
 have HCA : Hid (∀ o, Chk W0 (W.alloc o) kp p aA V.length cA vl st ∧ Sole kp W (W.alloc o)) := fun o =>
  have hb : Below W.heap.size W (W.alloc o) := (Below.refl _ _).alloc (Nat.le_refl _) _
  ⟨hC.below hb, hb.sole⟩
 have hx0 : (0 : Int) ≤ (x : Int) := by omega
 have hx1 : (x : Int) < (T.nodes.length : Int) := by omega
 clear IH hT hX hE hC hkc ky0 hkd
 generalize typeF V T.vars.length T.nodes (f + 1) (x : Int) st = Z at HR ⊢
 generalize nodeOf T.nodes (x : Int) = n at *
 obtain ⟨d0, d1, d2, d3, d4, d5, d6, d7⟩ := hnc
 rw [hk] at d0
 clear hk hy
 go_enter Tryz.func261, Tryz.ntmps261
 go_wp2_with fail
 refine (HMU.out _ _ (HCA.out _).1).mono ?_
 rintro e w2 ⟨rfl, hc2, hs2⟩
 have HC2 : Hid (Chk W0 w2 kp p aA V.length cA vl (mustW (nodeOf T.nodes (yn : Int)) (yn : Int) 2 (typeF V T.vars.length T.nodes f (yn : Int) st)) ∧ Sole kp W w2) := ⟨hc2, (HCA.out _).2.trans hs2⟩
 clear hc2 hs2
 go_wp2_with fail
 go_ret
 exact ⟨by rw [HR.out]; rfl, by rw [HR.out]; exact HC2.out.1, HC2.out.2⟩
end Go.Proofs.YtcecfmdjicjngaaGreatDoor
namespace Go.Proofs.YtcecfmdjicjngaaGreatDoor
open Go.RowKit
set_option linter.unusedVariables false
attribute [local go_sem] bs_size bs_get bs_extract bs_append bs_eq bs_toList
set_option maxHeartbeats 6400000 in
set_option maxRecDepth 100000 in
theorem l5Type_opB (lo : Nat) (W0 : World) (kp p cA : Nat) (vv vn vb : Value) (aA : Option Addr) (T : LTree) (V : List LVar) (vl : Value) (f x : Nat) (hE : ChkE lo W0 p kp vv vn vb aA T V) (hx : x < T.nodes.length) (IH : ∀ y, y < x → TypeC W0 kp p cA aA T V vl f y ∨ exprN (nodeOf T.nodes (y : Int)) = false) (hX : Kin T.nodes) (hk : (nodeOf T.nodes (x : Int)).kind = 6) (hop : 6 ≤ (nodeOf T.nodes (x : Int)).op ∧ (nodeOf T.nodes (x : Int)).op ≤ 8) :
  TypeC W0 kp p cA aA T V vl (f + 1) x := by
 intro W st hC
 obtain ⟨y1, y2, hy⟩ : ∃ y1 y2, (nodeOf T.nodes (x : Int)).kids = [y1, y2] := by
  have h := own_kids (hE.good.node x _ (node_get hx)).1 (by unfold exprN; rw [hk]; rfl)
  rw [hk] at h
  simp at h
  obtain ⟨h, _⟩ := h
  match hl : (nodeOf T.nodes (x : Int)).kids, h with
  | [a, b], _ => exact ⟨a, b, rfl⟩
 have kid : ∀ y ∈ (nodeOf T.nodes (x : Int)).kids, ∃ yn : Nat, y = (yn : Int) ∧ yn < x ∧ TypeC W0 kp p cA aA T V vl f yn := fun y hm => by
  have h1 := (hE.good.node x _ (node_get hx)).2.1 y hm
  have h2 := hX x _ (node_get hx) y hm
  refine ⟨y.toNat, by omega, by omega, ?_⟩
  rcases IH y.toNat (by omega) with h | h
  ·exact h
  ·rw [Int.toNat_of_nonneg h1.1, h2] at h; cases h
 obtain ⟨y1, rfl, hyx1, hT1⟩ := kid y1 (by rw [hy]; simp)
 obtain ⟨y2, rfl, hyx2, hT2⟩ := kid y2 (by rw [hy]; simp)
 have hw : wantF V T.nodes (nodeOf T.nodes (x : Int)) = 2 := by unfold wantF; rw [if_neg (by omega), if_pos hop]
 have HR : Hid (typeF V T.vars.length T.nodes (f + 1) (x : Int) st = (if (nodeOf T.nodes (x : Int)).op ≤ 5 then 1 else 2, mustW (nodeOf T.nodes (y2 : Int)) (y2 : Int) 2 (typeF V T.vars.length T.nodes f (y2 : Int) (mustW (nodeOf T.nodes (y1 : Int)) (y1 : Int) 2 (typeF V T.vars.length T.nodes f (y1 : Int) st))))) := by unfold Hid; rw [typeF]; simp only [hk, hy, hw]; rfl
 have HM1 : Hid (∀ (W' : World) (s : Met), Chk W0 W' kp p aA V.length cA vl s → Calls Tryz.prog 213 #[.pointer (some ⟨kp, 0, none⟩), .int .i64 (y1 : Int), .int .i64 2] W' fun e w' => e = .returned (.tuple #[]) ∧ Chk W0 w' kp p aA V.length cA vl (mustW (nodeOf T.nodes (y1 : Int)) (y1 : Int) 2 (typeF V T.vars.length T.nodes f (y1 : Int) s)) ∧ Sole kp W' w') := fun W' s h => l5Must_any lo W0 W' kp p cA vv vn vb aA T V vl s y1 2 f hE h (by omega) hT1
 have HM2 : Hid (∀ (W' : World) (s : Met), Chk W0 W' kp p aA V.length cA vl s → Calls Tryz.prog 213 #[.pointer (some ⟨kp, 0, none⟩), .int .i64 (y2 : Int), .int .i64 2] W' fun e w' => e = .returned (.tuple #[]) ∧ Chk W0 w' kp p aA V.length cA vl (mustW (nodeOf T.nodes (y2 : Int)) (y2 : Int) 2 (typeF V T.vars.length T.nodes f (y2 : Int) s)) ∧ Sole kp W' w') := fun W' s h => l5Must_any lo W0 W' kp p cA vv vn vb aA T V vl s y2 2 f hE h (by omega) hT2
 obtain ⟨bn, on, cn, rfl, q1, vk, vt, ve, hnc, hkd, _, ⟨a2, l2, c2, rfl⟩, ⟨a3, l3, c3, rfl⟩⟩ := hE.node hC.bel x hx
 obtain ⟨bk, ok, ck, rfl, hbk, hkc⟩ := kids_at hkd (by rw [hy]; simp)
 have ky1 := hkc 0 (y1 : Int) (by rw [hy]; rfl)
 have ky2 := hkc 1 (y2 : Int) (by rw [hy]; rfl)
 rw [hy] at hnc
 simp only [List.length_cons, List.length_nil, Nat.zero_add, Nat.reduceAdd] at hnc
 have k0 := cell_of_row _ _ 0 _ _ _ hC.row
 simp at k0
 have hkl := blk_lt hC.row
 have hnl := hE.good.nodes
 have hW0 := hC.bel.size
 have HK1 : Hid (∀ W', Sole kp W W' → W'.cell? ⟨bk, ok, none⟩ = some (.int .i64 (y1 : Int))) := fun W' h => Chk.sole hC.bel hE.low h hbk ky1
 have HK2 : Hid (∀ W', Sole kp W W' → W'.cell? ⟨bk, ok + 1, none⟩ = some (.int .i64 (y2 : Int))) := fun W' h => Chk.sole hC.bel hE.low h hbk ky2
 have hbkW : bk < W.heap.size := by omega
 have HCA : Hid (∀ o, Chk W0 (W.alloc o) kp p aA V.length cA vl st ∧ Sole kp W (W.alloc o)) := fun o =>
  have hb : Below W.heap.size W (W.alloc o) := (Below.refl _ _).alloc (Nat.le_refl _) _
  ⟨hC.below hb, hb.sole⟩
 have hx0 : (0 : Int) ≤ (x : Int) := by omega
 have hx1 : (x : Int) < (T.nodes.length : Int) := by omega
 clear IH hT1 hT2 kid hX hE hC hkc ky1 ky2 hkd hw hW0 hyx1 hyx2 hbk
 generalize typeF V T.vars.length T.nodes (f + 1) (x : Int) st = Z at HR ⊢
 generalize nodeOf T.nodes (x : Int) = n at *
 obtain ⟨d0, d1, d2, d3, d4, d5, d6, d7⟩ := hnc
 obtain ⟨O, hO⟩ : ∃ O, n.op = O := ⟨_, rfl⟩
 rw [hO] at d1 HR hop
 rw [hk] at d0
 clear hk hy hO
 have hq : inB O 6 8 = true := inB_iff.2 hop
 have ho1 : (O == 10) = false := by simp; omega
 have ho2 : decide (O = 10) = false := decide_eq_false (by omega)
 have ho3 : ¬ (O ≤ 5) := by omega
 have ho4 : decide (O ≤ 5) = false := decide_eq_false ho3
 rw [if_neg ho3] at HR
 have HIN : Hid (∀ w, Calls Tryz.prog 161 #[.int .i64 O, .int .i64 6, .int .i64 8] w fun e w' => e = .returned (.bool true) ∧ w' = w) := fun w => by rw [← hq]; exact l1In_any _ _ _ w
 clear hq
 go_enter Tryz.func261, Tryz.ntmps261
 go_wp2_with fail
 generalize hW5 : W.alloc (.cells #[.int .i64 6, .int .i64 O, .string (bs n.name), .int .i64 n.num, .int .i64 n.far, .slice (some ⟨bk, ok, none⟩) 2 ck, .slice a2 l2 c2, .slice a3 l3 c3] 40) = W5
 have hA := heap_alloc_new W (.cells #[.int .i64 6, .int .i64 O, .string (bs n.name), .int .i64 n.num, .int .i64 n.far, .slice (some ⟨bk, ok, none⟩) 2 ck, .slice a2 l2 c2, .slice a3 l3 c3] 40)
 rw [hW5] at hA
 have hC5 := HCA.out (.cells #[.int .i64 6, .int .i64 O, .string (bs n.name), .int .i64 n.num, .int .i64 n.far, .slice (some ⟨bk, ok, none⟩) 2 ck, .slice a2 l2 c2, .slice a3 l3 c3] 40)
 rw [hW5] at hC5
 obtain ⟨-, n1, -, -, -, n5⟩ := cl6 hA
 have hs5 := blk_lt hA
 have hne : W.heap.size ≠ kp := by omega
 have ky1 := HK1.out W5 hC5.2
 have ky2 := HK2.out W5 hC5.2
 have hbk5 : bk < W5.heap.size := by omega
 have HC5 := hid hC5
 clear hW5 hA hC5 d0 d1 d2 d3 d4 d5 d6 d7 q1 k0 HCA
 refine (HIN.out _).mono ?_
 rintro e w' ⟨rfl, rfl⟩
 clear HIN
 go_wp2_with fail
 refine (HM1.out _ _ HC5.out.1).mono ?_
 rintro e w3 ⟨rfl, hc3, hs3⟩
 have HC3 : Hid (Chk W0 w3 kp p aA V.length cA vl (mustW (nodeOf T.nodes (y1 : Int)) (y1 : Int) 2 (typeF V T.vars.length T.nodes f (y1 : Int) st)) ∧ Sole kp W w3) := ⟨hc3, HC5.out.2.trans hs3⟩
 have l1 : w3.cell? ⟨W.heap.size, 1, none⟩ = some (.int .i64 O) := hs3.cell (p := ⟨W.heap.size, 1, none⟩) hne n1
 have l5 : w3.cell? ⟨W.heap.size, 5, none⟩ = some (.slice (some ⟨bk, ok, none⟩) 2 ck) := hs3.cell (p := ⟨W.heap.size, 5, none⟩) hne n5
 have lk := HK2.out w3 HC3.out.2
 clear hc3 hs3 n1 n5 HC5 HM1 HK1 ky1 ky2
 go_wp2_with fail
 refine (HM2.out _ _ HC3.out.1).mono ?_
 rintro e w4 ⟨rfl, hc4, hs4⟩
 have HC4 : Hid (Chk W0 w4 kp p aA V.length cA vl (mustW (nodeOf T.nodes (y2 : Int)) (y2 : Int) 2 (typeF V T.vars.length T.nodes f (y2 : Int) (mustW (nodeOf T.nodes (y1 : Int)) (y1 : Int) 2 (typeF V T.vars.length T.nodes f (y1 : Int) st)))) ∧ Sole kp W w4) := ⟨hc4, HC3.out.2.trans hs4⟩
 have r1 : w4.cell? ⟨W.heap.size, 1, none⟩ = some (.int .i64 O) := hs4.cell (p := ⟨W.heap.size, 1, none⟩) hne l1
 clear hc4 hs4 l1 l5 lk HC3 HM2 HK2
 go_wp2_with fail
 go_ret
 exact ⟨by rw [HR.out]; rfl, by rw [HR.out]; exact HC4.out.1, HC4.out.2⟩
end Go.Proofs.YtcecfmdjicjngaaGreatDoor
namespace Go.Proofs.YtcecfmdjicjngaaGreatDoor
open Go.RowKit
set_option linter.unusedVariables false
attribute [local go_sem] bs_size bs_get bs_extract bs_append bs_eq bs_toList
set_option maxHeartbeats 6400000 in
set_option maxRecDepth 100000 in
theorem l5Type_opS (lo : Nat) (W0 : World) (kp p cA : Nat) (vv vn vb : Value) (aA : Option Addr) (T : LTree) (V : List LVar) (vl : Value) (f x : Nat) (hE : ChkE lo W0 p kp vv vn vb aA T V) (hx : x < T.nodes.length) (IH : ∀ y, y < x → TypeC W0 kp p cA aA T V vl f y ∨ exprN (nodeOf T.nodes (y : Int)) = false) (hX : Kin T.nodes) (hk : (nodeOf T.nodes (x : Int)).kind = 6) (hop : (nodeOf T.nodes (x : Int)).op = 10) :
  TypeC W0 kp p cA aA T V vl (f + 1) x := by
 intro W st hC
 obtain ⟨y1, y2, hy⟩ : ∃ y1 y2, (nodeOf T.nodes (x : Int)).kids = [y1, y2] := by
  have h := own_kids (hE.good.node x _ (node_get hx)).1 (by unfold exprN; rw [hk]; rfl)
  rw [hk] at h
  simp at h
  obtain ⟨h, _⟩ := h
  match hl : (nodeOf T.nodes (x : Int)).kids, h with
  | [a, b], _ => exact ⟨a, b, rfl⟩
 have kid : ∀ y ∈ (nodeOf T.nodes (x : Int)).kids, ∃ yn : Nat, y = (yn : Int) ∧ yn < x ∧ TypeC W0 kp p cA aA T V vl f yn := fun y hm => by
  have h1 := (hE.good.node x _ (node_get hx)).2.1 y hm
  have h2 := hX x _ (node_get hx) y hm
  refine ⟨y.toNat, by omega, by omega, ?_⟩
  rcases IH y.toNat (by omega) with h | h
  ·exact h
  ·rw [Int.toNat_of_nonneg h1.1, h2] at h; cases h
 obtain ⟨y1, rfl, hyx1, hT1⟩ := kid y1 (by rw [hy]; simp)
 obtain ⟨y2, rfl, hyx2, hT2⟩ := kid y2 (by rw [hy]; simp)
 obtain ⟨w, hwe⟩ : ∃ w, sameF V T.nodes (y1 : Int) (y2 : Int) = w := ⟨_, rfl⟩
 have hw : wantF V T.nodes (nodeOf T.nodes (x : Int)) = w := by unfold wantF; rw [if_pos hop, hy]; exact hwe
 have HSA : Hid (∀ W', Chk W0 W' kp p aA V.length cA vl st → Calls Tryz.prog 279 #[.pointer (some ⟨kp, 0, none⟩), .int .i64 (y1 : Int), .int .i64 (y2 : Int)] W' fun e w' => e = .returned (.int .i64 w) ∧ Below W'.heap.size W' w') := fun W' h => by
  rw [← hwe]; exact l5Same_any lo W0 W' kp p cA vv vn vb aA T V vl st y1 y2 hE h (by omega) (by omega)
 have HR : Hid (typeF V T.vars.length T.nodes (f + 1) (x : Int) st = (if (nodeOf T.nodes (x : Int)).op ≤ 5 then 1 else 2, mustW (nodeOf T.nodes (y2 : Int)) (y2 : Int) w (typeF V T.vars.length T.nodes f (y2 : Int) (mustW (nodeOf T.nodes (y1 : Int)) (y1 : Int) w (typeF V T.vars.length T.nodes f (y1 : Int) st))))) := by unfold Hid; rw [typeF]; simp only [hk, hy, hw]; rfl
 have HM1 : Hid (∀ (W' : World) (s : Met), Chk W0 W' kp p aA V.length cA vl s → Calls Tryz.prog 213 #[.pointer (some ⟨kp, 0, none⟩), .int .i64 (y1 : Int), .int .i64 w] W' fun e w' => e = .returned (.tuple #[]) ∧ Chk W0 w' kp p aA V.length cA vl (mustW (nodeOf T.nodes (y1 : Int)) (y1 : Int) w (typeF V T.vars.length T.nodes f (y1 : Int) s)) ∧ Sole kp W' w') := fun W' s h => l5Must_any lo W0 W' kp p cA vv vn vb aA T V vl s y1 w f hE h (by omega) hT1
 have HM2 : Hid (∀ (W' : World) (s : Met), Chk W0 W' kp p aA V.length cA vl s → Calls Tryz.prog 213 #[.pointer (some ⟨kp, 0, none⟩), .int .i64 (y2 : Int), .int .i64 w] W' fun e w' => e = .returned (.tuple #[]) ∧ Chk W0 w' kp p aA V.length cA vl (mustW (nodeOf T.nodes (y2 : Int)) (y2 : Int) w (typeF V T.vars.length T.nodes f (y2 : Int) s)) ∧ Sole kp W' w') := fun W' s h => l5Must_any lo W0 W' kp p cA vv vn vb aA T V vl s y2 w f hE h (by omega) hT2
 obtain ⟨bn, on, cn, rfl, q1, vk, vt, ve, hnc, hkd, _, ⟨a2, l2, c2, rfl⟩, ⟨a3, l3, c3, rfl⟩⟩ := hE.node hC.bel x hx
 obtain ⟨bk, ok, ck, rfl, hbk, hkc⟩ := kids_at hkd (by rw [hy]; simp)
 have ky1 := hkc 0 (y1 : Int) (by rw [hy]; rfl)
 have ky2 := hkc 1 (y2 : Int) (by rw [hy]; rfl)
 rw [hy] at hnc
 simp only [List.length_cons, List.length_nil, Nat.zero_add, Nat.reduceAdd] at hnc
 have k0 := cell_of_row _ _ 0 _ _ _ hC.row
 simp at k0
 have hkl := blk_lt hC.row
 have hnl := hE.good.nodes
 have hW0 := hC.bel.size
 have HK1 : Hid (∀ W', Sole kp W W' → W'.cell? ⟨bk, ok, none⟩ = some (.int .i64 (y1 : Int))) := fun W' h => Chk.sole hC.bel hE.low h hbk ky1
 have HK2 : Hid (∀ W', Sole kp W W' → W'.cell? ⟨bk, ok + 1, none⟩ = some (.int .i64 (y2 : Int))) := fun W' h => Chk.sole hC.bel hE.low h hbk ky2
 have hbkW : bk < W.heap.size := by omega
 have HCA : Hid (∀ o, Chk W0 (W.alloc o) kp p aA V.length cA vl st ∧ Sole kp W (W.alloc o)) := fun o =>
  have hb : Below W.heap.size W (W.alloc o) := (Below.refl _ _).alloc (Nat.le_refl _) _
  ⟨hC.below hb, hb.sole⟩
 have hx0 : (0 : Int) ≤ (x : Int) := by omega
 have hx1 : (x : Int) < (T.nodes.length : Int) := by omega
 clear IH hT1 hT2 kid hX hE hC hkc ky1 ky2 hkd hw hwe hW0 hyx1 hyx2 hbk
 generalize typeF V T.vars.length T.nodes (f + 1) (x : Int) st = Z at HR ⊢
 generalize nodeOf T.nodes (x : Int) = n at *
 obtain ⟨d0, d1, d2, d3, d4, d5, d6, d7⟩ := hnc
 obtain ⟨O, hO⟩ : ∃ O, n.op = O := ⟨_, rfl⟩
 rw [hO] at d1 HR hop
 rw [hk] at d0
 clear hk hy hO
 subst hop
 have hq : inB 10 6 8 = false := rfl
 have HIN : Hid (∀ w, Calls Tryz.prog 161 #[.int .i64 10, .int .i64 6, .int .i64 8] w fun e w' => e = .returned (.bool false) ∧ w' = w) := fun w => by rw [← hq]; exact l1In_any _ _ _ w
 clear hq
 go_enter Tryz.func261, Tryz.ntmps261
 go_wp2_with fail
 generalize hW5 : W.alloc (.cells #[.int .i64 6, .int .i64 10, .string (bs n.name), .int .i64 n.num, .int .i64 n.far, .slice (some ⟨bk, ok, none⟩) 2 ck, .slice a2 l2 c2, .slice a3 l3 c3] 40) = W5
 have hA := heap_alloc_new W (.cells #[.int .i64 6, .int .i64 10, .string (bs n.name), .int .i64 n.num, .int .i64 n.far, .slice (some ⟨bk, ok, none⟩) 2 ck, .slice a2 l2 c2, .slice a3 l3 c3] 40)
 rw [hW5] at hA
 have hC5 := HCA.out (.cells #[.int .i64 6, .int .i64 10, .string (bs n.name), .int .i64 n.num, .int .i64 n.far, .slice (some ⟨bk, ok, none⟩) 2 ck, .slice a2 l2 c2, .slice a3 l3 c3] 40)
 rw [hW5] at hC5
 obtain ⟨-, n1, -, -, -, n5⟩ := cl6 hA
 have hs5 := blk_lt hA
 have hne : W.heap.size ≠ kp := by omega
 have ky1 := HK1.out W5 hC5.2
 have ky2 := HK2.out W5 hC5.2
 have hbk5 : bk < W5.heap.size := by omega
 have HC5 := hid hC5
 clear hW5 hA hC5 d0 d1 d2 d3 d4 d5 d6 d7 q1 k0 HCA
 refine (HIN.out _).mono ?_
 rintro e w' ⟨rfl, rfl⟩
 clear HIN
 go_wp2_with fail
 go_region_held3 (fun Z => Z.cell? ⟨W.heap.size, 5, none⟩ = some (.slice (some ⟨bk, ok, none⟩) 2 ck) ∧ Z.cell? ⟨bk, ok, none⟩ = some (.int .i64 (y1 : Int)) ∧ Z.cell? ⟨bk, ok + 1, none⟩ = some (.int .i64 (y2 : Int))) (go_keep) (first | (go_at_call 279; refine (HSA.out _ ⟨HC5.out.1.bel.drew, HC5.out.1.row⟩).mono ?_; rintro e w2 ⟨rfl, hb⟩; have hD : Below w'.heap.size w' w2 := ((Below.refl w'.heap.size w').drew).trans (Below.mono hb (Nat.le_refl _)); have m1 := (hD.cell (p := ⟨W.heap.size, 1, none⟩) hs5).trans n1; have m5 := (hD.cell (p := ⟨W.heap.size, 5, none⟩) hs5).trans n5; have k1 := (hD.cell (p := ⟨bk, ok, none⟩) hbk5).trans ky1; have k2 := (hD.cell (p := ⟨bk, ok + 1, none⟩) hbk5).trans ky2; have HC6 : Hid (Chk W0 w2 kp p aA V.length cA vl st ∧ Sole kp W w2) := ⟨HC5.out.1.below hD, HC5.out.2.trans hD.sole⟩; clear hb hD))
 clear n1 n5 ky1 ky2
 have HC5 : Hid (Chk W0 w2 kp p aA V.length cA vl st ∧ Sole kp W w2) := HC6
 clear HC6 HSA
 have n1 : w2.cell? ⟨W.heap.size, 1, none⟩ = _ := m1
 go_wp2_with fail
 refine (HM1.out _ _ HC5.out.1).mono ?_
 rintro e w3 ⟨rfl, hc3, hs3⟩
 have HC3 : Hid (Chk W0 w3 kp p aA V.length cA vl (mustW (nodeOf T.nodes (y1 : Int)) (y1 : Int) w (typeF V T.vars.length T.nodes f (y1 : Int) st)) ∧ Sole kp W w3) := ⟨hc3, HC5.out.2.trans hs3⟩
 have l1 : w3.cell? ⟨W.heap.size, 1, none⟩ = some (.int .i64 10) := hs3.cell (p := ⟨W.heap.size, 1, none⟩) hne n1
 have l5 : w3.cell? ⟨W.heap.size, 5, none⟩ = some (.slice (some ⟨bk, ok, none⟩) 2 ck) := hs3.cell (p := ⟨W.heap.size, 5, none⟩) hne m5
 have lk := HK2.out w3 HC3.out.2
 clear hc3 hs3 n1 m5 HC5 HM1 HK1 k1 k2
 go_wp2_with fail
 refine (HM2.out _ _ HC3.out.1).mono ?_
 rintro e w4 ⟨rfl, hc4, hs4⟩
 have HC4 : Hid (Chk W0 w4 kp p aA V.length cA vl (mustW (nodeOf T.nodes (y2 : Int)) (y2 : Int) w (typeF V T.vars.length T.nodes f (y2 : Int) (mustW (nodeOf T.nodes (y1 : Int)) (y1 : Int) w (typeF V T.vars.length T.nodes f (y1 : Int) st)))) ∧ Sole kp W w4) := ⟨hc4, HC3.out.2.trans hs4⟩
 have r1 : w4.cell? ⟨W.heap.size, 1, none⟩ = some (.int .i64 10) := hs4.cell (p := ⟨W.heap.size, 1, none⟩) hne l1
 clear hc4 hs4 l1 l5 lk HC3 HM2 HK2
 go_wp2_with fail
 go_ret
 exact ⟨by rw [HR.out]; rfl, by rw [HR.out]; exact HC4.out.1, HC4.out.2⟩
end Go.Proofs.YtcecfmdjicjngaaGreatDoor
namespace Go.Proofs.YtcecfmdjicjngaaGreatDoor
open Go.RowKit
set_option linter.unusedVariables false
attribute [local go_sem] bs_size bs_get bs_extract bs_append bs_eq bs_toList
set_option maxHeartbeats 6400000 in
set_option maxRecDepth 100000 in
theorem l5Type_opI (lo : Nat) (W0 : World) (kp p cA : Nat) (vv vn vb : Value) (aA : Option Addr) (T : LTree) (V : List LVar) (vl : Value) (f x : Nat) (hE : ChkE lo W0 p kp vv vn vb aA T V) (hx : x < T.nodes.length) (IH : ∀ y, y < x → TypeC W0 kp p cA aA T V vl f y ∨ exprN (nodeOf T.nodes (y : Int)) = false) (hX : Kin T.nodes) (hk : (nodeOf T.nodes (x : Int)).kind = 6) (hop : (nodeOf T.nodes (x : Int)).op ≠ 10 ∧ ¬ (6 ≤ (nodeOf T.nodes (x : Int)).op ∧ (nodeOf T.nodes (x : Int)).op ≤ 8)) :
  TypeC W0 kp p cA aA T V vl (f + 1) x := by
 intro W st hC
 obtain ⟨y1, y2, hy⟩ : ∃ y1 y2, (nodeOf T.nodes (x : Int)).kids = [y1, y2] := by
  have h := own_kids (hE.good.node x _ (node_get hx)).1 (by unfold exprN; rw [hk]; rfl)
  rw [hk] at h
  simp at h
  obtain ⟨h, _⟩ := h
  match hl : (nodeOf T.nodes (x : Int)).kids, h with
  | [a, b], _ => exact ⟨a, b, rfl⟩
 have kid : ∀ y ∈ (nodeOf T.nodes (x : Int)).kids, ∃ yn : Nat, y = (yn : Int) ∧ yn < x ∧ TypeC W0 kp p cA aA T V vl f yn := fun y hm => by
  have h1 := (hE.good.node x _ (node_get hx)).2.1 y hm
  have h2 := hX x _ (node_get hx) y hm
  refine ⟨y.toNat, by omega, by omega, ?_⟩
  rcases IH y.toNat (by omega) with h | h
  ·exact h
  ·rw [Int.toNat_of_nonneg h1.1, h2] at h; cases h
 obtain ⟨y1, rfl, hyx1, hT1⟩ := kid y1 (by rw [hy]; simp)
 obtain ⟨y2, rfl, hyx2, hT2⟩ := kid y2 (by rw [hy]; simp)
 have hw : wantF V T.nodes (nodeOf T.nodes (x : Int)) = 1 := by unfold wantF; rw [if_neg hop.1, if_neg hop.2]
 have HR : Hid (typeF V T.vars.length T.nodes (f + 1) (x : Int) st = (if (nodeOf T.nodes (x : Int)).op ≤ 5 then 1 else 2, mustW (nodeOf T.nodes (y2 : Int)) (y2 : Int) 1 (typeF V T.vars.length T.nodes f (y2 : Int) (mustW (nodeOf T.nodes (y1 : Int)) (y1 : Int) 1 (typeF V T.vars.length T.nodes f (y1 : Int) st))))) := by unfold Hid; rw [typeF]; simp only [hk, hy, hw]; rfl
 have HM1 : Hid (∀ (W' : World) (s : Met), Chk W0 W' kp p aA V.length cA vl s → Calls Tryz.prog 213 #[.pointer (some ⟨kp, 0, none⟩), .int .i64 (y1 : Int), .int .i64 1] W' fun e w' => e = .returned (.tuple #[]) ∧ Chk W0 w' kp p aA V.length cA vl (mustW (nodeOf T.nodes (y1 : Int)) (y1 : Int) 1 (typeF V T.vars.length T.nodes f (y1 : Int) s)) ∧ Sole kp W' w') := fun W' s h => l5Must_any lo W0 W' kp p cA vv vn vb aA T V vl s y1 1 f hE h (by omega) hT1
 have HM2 : Hid (∀ (W' : World) (s : Met), Chk W0 W' kp p aA V.length cA vl s → Calls Tryz.prog 213 #[.pointer (some ⟨kp, 0, none⟩), .int .i64 (y2 : Int), .int .i64 1] W' fun e w' => e = .returned (.tuple #[]) ∧ Chk W0 w' kp p aA V.length cA vl (mustW (nodeOf T.nodes (y2 : Int)) (y2 : Int) 1 (typeF V T.vars.length T.nodes f (y2 : Int) s)) ∧ Sole kp W' w') := fun W' s h => l5Must_any lo W0 W' kp p cA vv vn vb aA T V vl s y2 1 f hE h (by omega) hT2
 obtain ⟨bn, on, cn, rfl, q1, vk, vt, ve, hnc, hkd, _, ⟨a2, l2, c2, rfl⟩, ⟨a3, l3, c3, rfl⟩⟩ := hE.node hC.bel x hx
 obtain ⟨bk, ok, ck, rfl, hbk, hkc⟩ := kids_at hkd (by rw [hy]; simp)
 have ky1 := hkc 0 (y1 : Int) (by rw [hy]; rfl)
 have ky2 := hkc 1 (y2 : Int) (by rw [hy]; rfl)
 rw [hy] at hnc
 simp only [List.length_cons, List.length_nil, Nat.zero_add, Nat.reduceAdd] at hnc
 have k0 := cell_of_row _ _ 0 _ _ _ hC.row
 simp at k0
 have hkl := blk_lt hC.row
 have hnl := hE.good.nodes
 have hW0 := hC.bel.size
 have HK1 : Hid (∀ W', Sole kp W W' → W'.cell? ⟨bk, ok, none⟩ = some (.int .i64 (y1 : Int))) := fun W' h => Chk.sole hC.bel hE.low h hbk ky1
 have HK2 : Hid (∀ W', Sole kp W W' → W'.cell? ⟨bk, ok + 1, none⟩ = some (.int .i64 (y2 : Int))) := fun W' h => Chk.sole hC.bel hE.low h hbk ky2
 have hbkW : bk < W.heap.size := by omega
 have HCA : Hid (∀ o, Chk W0 (W.alloc o) kp p aA V.length cA vl st ∧ Sole kp W (W.alloc o)) := fun o =>
  have hb : Below W.heap.size W (W.alloc o) := (Below.refl _ _).alloc (Nat.le_refl _) _
  ⟨hC.below hb, hb.sole⟩
 have hx0 : (0 : Int) ≤ (x : Int) := by omega
 have hx1 : (x : Int) < (T.nodes.length : Int) := by omega
 clear IH hT1 hT2 kid hX hE hC hkc ky1 ky2 hkd hw hW0 hyx1 hyx2 hbk
 generalize typeF V T.vars.length T.nodes (f + 1) (x : Int) st = Z at HR ⊢
 generalize nodeOf T.nodes (x : Int) = n at *
 obtain ⟨d0, d1, d2, d3, d4, d5, d6, d7⟩ := hnc
 obtain ⟨O, hO⟩ : ∃ O, n.op = O := ⟨_, rfl⟩
 rw [hO] at d1 HR hop
 rw [hk] at d0
 clear hk hy hO
 have hq : inB O 6 8 = false := inB_no.2 hop.2
 have ho1 : (O == 10) = false := by simp; exact hop.1
 have ho2 : decide (O = 10) = false := decide_eq_false hop.1
 have HIN : Hid (∀ w, Calls Tryz.prog 161 #[.int .i64 O, .int .i64 6, .int .i64 8] w fun e w' => e = .returned (.bool false) ∧ w' = w) := fun w => by rw [← hq]; exact l1In_any _ _ _ w
 clear hq
 go_enter Tryz.func261, Tryz.ntmps261
 go_wp2_with fail
 generalize hW5 : W.alloc (.cells #[.int .i64 6, .int .i64 O, .string (bs n.name), .int .i64 n.num, .int .i64 n.far, .slice (some ⟨bk, ok, none⟩) 2 ck, .slice a2 l2 c2, .slice a3 l3 c3] 40) = W5
 have hA := heap_alloc_new W (.cells #[.int .i64 6, .int .i64 O, .string (bs n.name), .int .i64 n.num, .int .i64 n.far, .slice (some ⟨bk, ok, none⟩) 2 ck, .slice a2 l2 c2, .slice a3 l3 c3] 40)
 rw [hW5] at hA
 have hC5 := HCA.out (.cells #[.int .i64 6, .int .i64 O, .string (bs n.name), .int .i64 n.num, .int .i64 n.far, .slice (some ⟨bk, ok, none⟩) 2 ck, .slice a2 l2 c2, .slice a3 l3 c3] 40)
 rw [hW5] at hC5
 obtain ⟨-, n1, -, -, -, n5⟩ := cl6 hA
 have hs5 := blk_lt hA
 have hne : W.heap.size ≠ kp := by omega
 have ky1 := HK1.out W5 hC5.2
 have ky2 := HK2.out W5 hC5.2
 have hbk5 : bk < W5.heap.size := by omega
 have HC5 := hid hC5
 clear hW5 hA hC5 d0 d1 d2 d3 d4 d5 d6 d7 q1 k0 HCA
 refine (HIN.out _).mono ?_
 rintro e w' ⟨rfl, rfl⟩
 clear HIN
 go_wp2_with fail
 refine (HM1.out _ _ HC5.out.1).mono ?_
 rintro e w3 ⟨rfl, hc3, hs3⟩
 have HC3 : Hid (Chk W0 w3 kp p aA V.length cA vl (mustW (nodeOf T.nodes (y1 : Int)) (y1 : Int) 1 (typeF V T.vars.length T.nodes f (y1 : Int) st)) ∧ Sole kp W w3) := ⟨hc3, HC5.out.2.trans hs3⟩
 have l1 : w3.cell? ⟨W.heap.size, 1, none⟩ = some (.int .i64 O) := hs3.cell (p := ⟨W.heap.size, 1, none⟩) hne n1
 have l5 : w3.cell? ⟨W.heap.size, 5, none⟩ = some (.slice (some ⟨bk, ok, none⟩) 2 ck) := hs3.cell (p := ⟨W.heap.size, 5, none⟩) hne n5
 have lk := HK2.out w3 HC3.out.2
 clear hc3 hs3 n1 n5 HC5 HM1 HK1 ky1 ky2
 go_wp2_with fail
 refine (HM2.out _ _ HC3.out.1).mono ?_
 rintro e w4 ⟨rfl, hc4, hs4⟩
 have HC4 : Hid (Chk W0 w4 kp p aA V.length cA vl (mustW (nodeOf T.nodes (y2 : Int)) (y2 : Int) 1 (typeF V T.vars.length T.nodes f (y2 : Int) (mustW (nodeOf T.nodes (y1 : Int)) (y1 : Int) 1 (typeF V T.vars.length T.nodes f (y1 : Int) st)))) ∧ Sole kp W w4) := ⟨hc4, HC3.out.2.trans hs4⟩
 have r1 : w4.cell? ⟨W.heap.size, 1, none⟩ = some (.int .i64 O) := hs4.cell (p := ⟨W.heap.size, 1, none⟩) hne l1
 clear hc4 hs4 l1 l5 lk HC3 HM2 HK2
 clear ho1 ho2 hop
 by_cases h5 : O ≤ 5
 ·rw [if_pos h5] at HR
  have h6 : decide (O ≤ 5) = true := decide_eq_true h5
  go_wp2_with fail
  go_ret
  exact ⟨by rw [HR.out]; rfl, by rw [HR.out]; exact HC4.out.1, HC4.out.2⟩
 ·rw [if_neg h5] at HR
  have h6 : decide (O ≤ 5) = false := decide_eq_false h5
  go_wp2_with fail
  go_ret
  exact ⟨by rw [HR.out]; rfl, by rw [HR.out]; exact HC4.out.1, HC4.out.2⟩
end Go.Proofs.YtcecfmdjicjngaaGreatDoor
namespace Go.Proofs.YtcecfmdjicjngaaGreatDoor
open Go.RowKit
set_option linter.unusedVariables false
theorem l5Type_all (lo : Nat) (W0 : World) (kp p cA : Nat) (vv vn vb : Value) (aA : Option Addr) (T : LTree) (V : List LVar) (vl : Value) (hE : ChkE lo W0 p kp vv vn vb aA T V) (hX : Kin T.nodes) :
  ∀ (f x : Nat), x < f → x < T.nodes.length → exprN (nodeOf T.nodes (x : Int)) = true → TypeC W0 kp p cA aA T V vl f x := by
 intro f
 induction f with
 | zero => intro x h; omega
 | succ f ih =>
  intro x hf hx he
  have IH : ∀ y, y < x → TypeC W0 kp p cA aA T V vl f y ∨ exprN (nodeOf T.nodes (y : Int)) = false := fun y hy => by
   cases hq : exprN (nodeOf T.nodes (y : Int)) with
   | true => exact .inl (ih y (by omega) (by omega) hq)
   | false => exact .inr rfl
  rcases own_kids (hE.good.node x _ (node_get hx)).1 he with (h | h) | ⟨h | h | h, _⟩ | ⟨h, _⟩
  ·exact l5Type_num lo W0 kp p cA vv vn vb aA T V vl f x hE hx h
  ·exact l5Type_name lo W0 kp p cA vv vn vb aA T V vl f x hE hx h
  ·exact l5Type_item lo W0 kp p cA vv vn vb aA T V vl f x hE hx IH hX h
  ·exact l5Type_neg lo W0 kp p cA vv vn vb aA T V vl f x hE hx IH hX h
  ·exact l5Type_not lo W0 kp p cA vv vn vb aA T V vl f x hE hx IH hX h
  ·by_cases h1 : 6 ≤ (nodeOf T.nodes (x : Int)).op ∧ (nodeOf T.nodes (x : Int)).op ≤ 8
   ·exact l5Type_opB lo W0 kp p cA vv vn vb aA T V vl f x hE hx IH hX h h1
   by_cases h2 : (nodeOf T.nodes (x : Int)).op = 10
   ·exact l5Type_opS lo W0 kp p cA vv vn vb aA T V vl f x hE hx IH hX h h2
   ·exact l5Type_opI lo W0 kp p cA vv vn vb aA T V vl f x hE hx IH hX h ⟨h2, h1⟩
abbrev typeT (V : List LVar) (T : LTree) (x : Int) (st : Met) : Int × Met := typeF V T.vars.length T.nodes T.nodes.length x st
theorem l5Type_any (lo : Nat) (W0 : World) (kp p cA : Nat) (vv vn vb : Value) (aA : Option Addr) (T : LTree) (V : List LVar) (vl : Value) (hE : ChkE lo W0 p kp vv vn vb aA T V) (hX : Kin T.nodes) (x : Nat) (hx : x < T.nodes.length) (he : exprN (nodeOf T.nodes (x : Int)) = true) : TypeC W0 kp p cA aA T V vl T.nodes.length x :=
 l5Type_all lo W0 kp p cA vv vn vb aA T V vl hE hX _ x hx hx he
theorem l5Must_all (lo : Nat) (W0 W : World) (kp p cA : Nat) (vv vn vb : Value) (aA : Option Addr) (T : LTree) (V : List LVar) (vl : Value) (st : Met) (y : Nat) (want : Int) (hE : ChkE lo W0 p kp vv vn vb aA T V) (hX : Kin T.nodes) (hC : Chk W0 W kp p aA V.length cA vl st) (hy : y < T.nodes.length) (he : exprN (nodeOf T.nodes (y : Int)) = true) :
  Calls Tryz.prog 213 #[.pointer (some ⟨kp, 0, none⟩), .int .i64 (y : Int), .int .i64 want] W fun e w' => e = .returned (.tuple #[]) ∧ Chk W0 w' kp p aA V.length cA vl (mustW (nodeOf T.nodes (y : Int)) (y : Int) want (typeT V T (y : Int) st)) ∧ Sole kp W w' :=
 l5Must_any lo W0 W kp p cA vv vn vb aA T V vl st y want _ hE hC hy (l5Type_any lo W0 kp p cA vv vn vb aA T V vl hE hX y hy he)
end Go.Proofs.YtcecfmdjicjngaaGreatDoor
namespace Go.Proofs.YtcecfmdjicjngaaGreatDoor
open Go.RowKit
set_option linter.unusedVariables false
def namesL (K : Int) (V : List LVar) : List (List UInt8) := (V.filter fun v => decide (v.kind = K)).map LVar.name
def namC (L : List (List UInt8)) : List Value := L.map fun n => .string (bs n)
theorem namesL_hit {K : Int} {V : List LVar} {k : Nat} {x : LVar} (h : V[k]? = some x) (e : x.kind = K) : namesL K (V.take (k + 1)) = namesL K (V.take k) ++ [x.name] := by
 obtain ⟨hk, rfl⟩ := List.getElem?_eq_some_iff.1 h
 unfold namesL; rw [List.take_succ_eq_append_getElem hk, List.filter_append, List.map_append]
 simp [e]
theorem namesL_miss {K : Int} {V : List LVar} {k : Nat} {x : LVar} (h : V[k]? = some x) (e : x.kind ≠ K) : namesL K (V.take (k + 1)) = namesL K (V.take k) := by
 obtain ⟨hk, rfl⟩ := List.getElem?_eq_some_iff.1 h
 unfold namesL; rw [List.take_succ_eq_append_getElem hk, List.filter_append, List.map_append]
 simp [e]
theorem namesL_len (K : Int) (V : List LVar) : (namesL K V).length ≤ V.length := by unfold namesL; rw [List.length_map]; exact List.length_filter_le _ _
theorem namC_len (L : List (List UInt8)) : (namC L).length = L.length := by unfold namC; rw [List.length_map]
theorem namC_snoc (L : List (List UInt8)) (n : List UInt8) : namC (L ++ [n]) = namC L ++ [.string (bs n)] := by unfold namC; rw [List.map_append]; rfl
theorem infoS : (Tryz.prog.info? 9).map (fun i => (i.zero, i.size, i.bytes)) = some (some (.string ⟨#[]⟩), 1, 16) := by kernel_rfl
def nmoC (T : LTree) (k : Int) : Int := if faultL T ≠ 0 then faultL T else if inB k 1 3 then 0 else 3
def nmoL (T : LTree) (k : Int) : List (List UInt8) := if faultL T ≠ 0 then [] else if inB k 1 3 then namesL k T.vars else []
def TreeNames (f : FuncId) (C : LTree → Int → Int) (L : LTree → Int → List (List UInt8)) : Prop := ∀ (lo : Nat) (vv vn vb : Value) (T : LTree) (k : Int) (w : World), TreeV lo w vv vn vb T → Sized 1048576 T →
 Calls Tryz.prog f #[treeV vv vn vb, .int .i64 k] w fun e w' => ∃ v, e = .returned (.agg #[.int .i64 (C T k), v]) ∧ w'.ownsRow w.heap.size 9 1 v (L T k).length (namC (L T k)) ∧ Below w.heap.size w w'
end Go.Proofs.YtcecfmdjicjngaaGreatDoor
namespace Go.Proofs.YtcecfmdjicjngaaGreatDoor
open Go.RowKit
set_option linter.unusedVariables false
attribute [local go_sem] bs_size bs_get bs_extract bs_append bs_eq bs_toList
abbrev LoopO (W : World) (B : Nat) (vl : Value) (L : List (List UInt8)) : Prop := W.ownsRow B 9 1 vl L.length (namC L)
theorem LoopO.form {W : World} {B : Nat} {vl : Value} {L : List (List UInt8)} (h : LoopO W B vl L) :
  ∃ a c, vl = .slice a L.length c ∧ (L ≠ [] → ∃ g, a = some ⟨g, 0, none⟩ ∧ B ≤ g ∧ ∀ (i : Nat) (nm : List UInt8), L[i]? = some nm → W.cell? ⟨g, i, none⟩ = some (.string (bs nm))) := by
 obtain ⟨_, h | ⟨g, cap, cur, rfl, hb, hg, hn, hm, hs, ht⟩⟩ := id h
 ·obtain ⟨rfl, h0⟩ := h
  exact ⟨none, 0, by rw [h0], fun hne => absurd (List.eq_nil_of_length_eq_zero h0) hne⟩
 ·refine ⟨_, _, rfl, fun _ => ⟨g, rfl, hb, fun i nm hi => ?_⟩⟩
  have hil := (List.getElem?_eq_some_iff.1 hi).1
  have h2 := World.ownsRow.cellAt h i (by omega)
  rw [h2]; unfold namC; rw [List.getElem?_map, hi]; rfl
theorem LoopO.nil (W : World) (B : Nat) : LoopO W B (.slice none 0 0) [] := World.ownsRow_nil W B _ _
theorem LoopO.pop {W : World} {B g cap : Nat} {L : List (List UInt8)} {nm : List UInt8} (h : LoopO W B (.slice (some ⟨g, 0, none⟩) (L.length + 1) cap) (L ++ [nm])) : LoopO W B (.slice (some ⟨g, 0, none⟩) L.length cap) L := by
 obtain ⟨_, h | ⟨g', cap', cur, e, hb, hg, hn, hm, hs, ht⟩⟩ := id h
 ·obtain ⟨e, _⟩ := h; simp at e
 ·have e2 : g' = g ∧ cap' = cap := by injection e with e1 e2 e3; injection e1 with e1; injection e1 with e1; exact ⟨e1.symm, e3.symm⟩
  obtain ⟨rfl, rfl⟩ := e2
  refine ⟨by rw [namC_len, Nat.mul_one], .inr ⟨g', cap', cur, rfl, hb, hg, by simp at hn; omega, hm, hs, ?_⟩⟩
  have h3 := congrArg (List.take L.length) ht
  rw [List.take_take, namC_snoc] at h3
  rw [show min L.length ((L ++ [nm]).length * 1) = L.length * 1 by simp] at h3
  rw [h3]
  rw [List.take_append_of_le_length (by rw [namC_len]; omega), List.take_of_length_le (by rw [namC_len]; omega)]
set_option maxHeartbeats 1600000 in
theorem l5InLoop_any (W0 W : World) (kp p lA cA B : Nat) (aA : Option Addr) (vl : Value) (st : Met) (L : List (List UInt8)) (nm : List UInt8) (hC : Chk W0 W kp p aA lA cA vl st) (hL : LoopO W B vl L) (hfew : L.length ≤ 1048576) :
  Calls Tryz.prog 260 #[.pointer (some ⟨kp, 0, none⟩), .string (bs nm)] W fun e w' => e = .returned (.bool (decide (nm ∈ L))) ∧ w' = W := by
 obtain ⟨a, c, rfl, hh⟩ := hL.form
 have HL := hid hh
 have k2 := cell_of_row _ _ 2 _ _ _ hC.row
 simp at k2
 have K2 : Hid (W.cell? ⟨kp, 2, none⟩ = some (.slice a L.length c)) := k2
 clear hh hC hL k2
 go_enter Tryz.func260, Tryz.ntmps260
 go_wp2
 go_loopw [5] (fun i wr => ∃ k : Nat, k ≤ L.length ∧ i = .int .i64 k ∧ (nm ∈ L ↔ nm ∈ L.drop k) ∧ SameW wr W) (fun i _ => L.length - (intOf i).toNat)
 case atStart => exact ⟨0, by omega, rfl, by rw [List.drop_zero], rfl⟩
 case round =>
  obtain ⟨k, hk, rfl, hv, hw⟩ := hrel
  have HF : Hid _ := hv
  clear hv
  have k2 : wr.cell? ⟨kp, 2, none⟩ = _ := (congrArg (fun W => World.cell? W ⟨kp, 2, none⟩) hw).trans K2.out
  by_cases hlt : k < L.length
  ·obtain ⟨x, hx⟩ : ∃ x, L[k]? = some x := ⟨L[k], List.getElem?_eq_getElem hlt⟩
   obtain ⟨g, rfl, _, hc1⟩ := HL.out (by intro e; rw [e] at hlt; simp at hlt)
   have c0 : wr.cell? ⟨g, k, none⟩ = _ := (congrArg (fun W => World.cell? W ⟨g, k, none⟩) hw).trans (hc1 k x hx)
   have HX : Hid (L.drop k = x :: L.drop (k + 1)) := by unfold Hid; rw [List.drop_eq_getElem_cons hlt]; rw [List.getElem?_eq_getElem hlt] at hx; injection hx with hx; rw [hx]
   have hk0 : (0 : Int) ≤ (k : Int) := by omega
   have hk1 : (k : Int) < (L.length : Int) := by omega
   clear hx hc1
   by_cases he : x = nm
   ·have HE : Hid (decide (nm ∈ L) = true) := by unfold Hid; rw [decide_eq_true_eq, HF.out, HX.out, he]; exact List.mem_cons_self
    subst he
    clear HF HX
    go_wp2
    go_ret
    exact ⟨by rw [HE.out]; rfl, hw⟩
   ·have hne : (x == nm) = false := by simpa using he
    have hne2 : decide (x = nm) = false := decide_eq_false he
    have HE : Hid (nm ∈ L ↔ nm ∈ L.drop (k + 1)) := by unfold Hid; rw [HF.out, HX.out, List.mem_cons]; exact ⟨fun h => h.resolve_left (fun e => he e.symm), .inr⟩
    clear HF HX
    go_wp2
    go_roundw
    case rel => exact ⟨k + 1, by omega, by go_num, HE.out, hw⟩
    case measure => simp [intOf]; omega
  ·have hke : k = L.length := by omega
   have HE : Hid (decide (nm ∈ L) = false) := by unfold Hid; rw [decide_eq_false_iff_not, HF.out, hke, List.drop_length]; exact List.not_mem_nil
   clear HF hke HL
   go_wp2
   go_ret
   exact ⟨by rw [HE.out]; rfl, hw⟩
end Go.Proofs.YtcecfmdjicjngaaGreatDoor
namespace Go.Proofs.YtcecfmdjicjngaaGreatDoor
open Go.RowKit
set_option linter.unusedVariables false
attribute [local go_sem] bs_size bs_get bs_extract bs_append bs_eq bs_toList
set_option maxHeartbeats 3200000 in
theorem l4Var_any (lo p : Nat) (vv vn vb : Value) (T : LTree) (nm : List UInt8) (w : World) (h : TreeP lo w p vv vn vb T) (hn : T.vars.length ≤ 24) :
  Calls Tryz.prog 258 #[.pointer (some ⟨p, 0, none⟩), .string (bs nm)] w fun e w' => e = .returned (.int .i64 (varFrom nm T.vars 0)) ∧ w' = w := by
 obtain ⟨av, cv, rfl, _, hhv⟩ := id h.tree.vars
 have H1 := hid hhv
 have p0 := h.c0
 clear h hhv
 go_enter Tryz.func258, Tryz.ntmps258
 go_wp2
 go_loopw [5] (fun i wr => ∃ k : Nat, k ≤ T.vars.length ∧ i = .int .i64 k ∧ varFrom nm T.vars 0 = varFrom nm (T.vars.drop k) k ∧ SameW wr w) (fun i _ => T.vars.length - (intOf i).toNat)
 case atStart => exact ⟨0, by omega, rfl, rfl, rfl⟩
 case round =>
  obtain ⟨k, hk, rfl, hv, hw⟩ := hrel
  have q0 : wr.cell? ⟨p, 0, none⟩ = _ := (congrArg (fun W => World.cell? W ⟨p, 0, none⟩) hw).trans p0
  have HV : Hid _ := hv
  clear hv
  by_cases hlt : k < T.vars.length
  ·obtain ⟨x, hx⟩ : ∃ x, T.vars[k]? = some x := ⟨T.vars[k], List.getElem?_eq_getElem hlt⟩
   obtain ⟨g, o, rfl, _, hc1⟩ := H1.out (by intro e; rw [e] at hlt; simp at hlt)
   have c0 : wr.cell? ⟨g, o + k * 4, none⟩ = _ := (congrArg (fun W => World.cell? W ⟨g, o + k * 4, none⟩) hw).trans (hc1 k x hx).1
   have HX : Hid (T.vars[k]? = some x) := hx
   clear hx hc1
   by_cases he : x.name = nm
   ·have e := HV.out.trans (varFrom_hit HX.out he)
    have HE : Hid _ := e
    clear e
    subst he
    go_wp2
    go_ret
    exact ⟨by rw [HE.out]; rfl, hw⟩
   ·have hne : (x.name == nm) = false := by simpa using he
    have hne2 : decide (x.name = nm) = false := decide_eq_false he
    have e := HV.out.trans (varFrom_miss HX.out he)
    have HE : Hid _ := e
    clear e
    go_wp2
    go_roundw
    case rel => exact ⟨k + 1, by omega, by go_num, HE.out, hw⟩
    case measure => simp [intOf]; omega
  ·have hke : k = T.vars.length := by omega
   have HKE : Hid (k = T.vars.length) := hke
   clear hke
   go_wp2
   go_ret
   refine ⟨?_, hw⟩
   rw [HV.out, HKE.out, List.drop_length]; rfl
end Go.Proofs.YtcecfmdjicjngaaGreatDoor
namespace Go.Proofs.YtcecfmdjicjngaaGreatDoor
open Go.RowKit
set_option linter.unusedVariables false
attribute [local go_sem] bs_size bs_get bs_extract bs_append bs_eq bs_toList
theorem Sole.grown {g : Nat} {w w' : World} (h : Sole g w w') : w.grownBy w' (some g) :=
 ⟨h.bel.os, h.bel.tape, h.bel.output, h.bel.size, fun k hk hne => h.rest k hk (fun e => hne (by rw [e]))⟩
theorem LoopO.sole {W W' : World} {B kp : Nat} {vl : Value} {L : List (List UInt8)} (h : LoopO W B vl L) (hs : Sole kp W W') (hk : kp < B) : LoopO W' B vl L :=
 World.ownsRow.kept h hs.grown (by
  cases hv : vl.ownBlock with
  | none => exact .inl rfl
  | some g => exact .inr (fun e => by injection e with e; have := (World.ownsRow.lt h g hv).1; omega))
theorem target_none {VS : List LVar} {loop : List (List UInt8)} {nm : List UInt8} {row : Bool} {x : Int} {st : Met} (h : varFrom nm VS 0 < 0) : targetF VS loop nm row x st = (0, metAt st 4 x) := by unfold targetF; rw [if_pos h]
theorem target_some {VS : List LVar} {loop : List (List UInt8)} {nm : List UInt8} {row : Bool} {x : Int} {st : Met} {i : Nat} {v : LVar} (h : varFrom nm VS 0 = i) (hv : VS[i]? = some v) :
  targetF VS loop nm row x st = (v.type, if v.kind = 1 ∨ nm ∈ loop then metAt (if decide (0 < v.size) ≠ row then metAt st 1 x else st) 10 x else (if decide (0 < v.size) ≠ row then metAt st 1 x else st)) := by
 have e : VS.getD ((i : Int)).toNat default = v := by rw [Int.toNat_natCast, List.getD_eq_getElem?_getD, hv]; rfl
 unfold targetF; rw [h, if_neg (by omega), e]
set_option maxHeartbeats 12800000 in
set_option maxRecDepth 100000 in
theorem l5Target_any (lo : Nat) (W0 W : World) (kp p cA B : Nat) (vv vn vb : Value) (aA : Option Addr) (T : LTree) (V : List LVar) (vl : Value) (st : Met) (L : List (List UInt8)) (j : Nat) (row : Bool) (hE : ChkE lo W0 p kp vv vn vb aA T V) (hC : Chk W0 W kp p aA V.length cA vl st) (hL : LoopO W B vl L) (hkB : kp < B) (hLl : L.length ≤ 1048576) (hj : j < T.nodes.length) :
  Calls Tryz.prog 212 #[.pointer (some ⟨kp, 0, none⟩), .int .i64 (j : Int), .bool row] W fun e w' => e = .returned (.int .i64 (targetF T.vars L (nodeOf T.nodes (j : Int)).name row (j : Int) st).1) ∧ Chk W0 w' kp p aA V.length cA vl (targetF T.vars L (nodeOf T.nodes (j : Int)).name row (j : Int) st).2 ∧ Sole kp W w' := by
 obtain ⟨bn, on, cn, rfl, q1, vk, vt, ve, hnc, _, ⟨a5, l5, c5, rfl⟩, ⟨a6, l6, c6, rfl⟩, ⟨a7, l7, c7, rfl⟩⟩ := hE.node hC.bel j hj
 have k0 := cell_of_row _ _ 0 _ _ _ hC.row
 simp at k0
 have hkW := blk_lt hC.row
 have hnl := hE.good.nodes
 have hvl := hE.good.vars
 obtain ⟨av, cv, rfl, _, hvv⟩ := id hE.tree.tree.vars
 have hpw : p < W0.heap.size := World.block_lt_of_cell? _ _ hE.tree.c0
 have hlow := hE.low
 have hW0 := hC.bel.size
 have HSTOP : Hid (∀ (c : Int) (s : Met) (W' : World), Chk W0 W' kp p aA V.length cA vl s → Calls Tryz.prog 259 #[.pointer (some ⟨kp, 0, none⟩), .int .i64 c, .int .i64 (j : Int)] W' fun e w' => e = .returned (.tuple #[]) ∧ Chk W0 w' kp p aA V.length cA vl (metAt s c (j : Int)) ∧ Sole kp W' w') := fun c s W' h => l5Stop_any W0 W' kp p V.length cA aA vl s c (j : Int) h hlow
 obtain ⟨nm, hnm⟩ : ∃ nm, nm = (nodeOf T.nodes (j : Int)).name := ⟨_, rfl⟩
 obtain ⟨d0, d1, d2, d3, d4, d5, d6, d7⟩ := hnc
 rw [← hnm] at d2 ⊢
 generalize nodeOf T.nodes (j : Int) = n at *
 have HLO : Hid (∀ W', Sole kp W W' → LoopO W' B vl L) := fun W' h => hL.sole h hkB
 have HINL : Hid (∀ (s : Met) (W' : World), Chk W0 W' kp p aA V.length cA vl s → LoopO W' B vl L → Calls Tryz.prog 260 #[.pointer (some ⟨kp, 0, none⟩), .string (bs nm)] W' fun e w' => e = .returned (.bool (decide (nm ∈ L))) ∧ w' = W') := fun s W' h h2 => l5InLoop_any W0 W' kp p V.length cA B aA vl s L nm h h2 hLl
 have HVA : Hid (∀ W', Below W0.heap.size W0 W' → Calls Tryz.prog 258 #[.pointer (some ⟨p, 0, none⟩), .string (bs nm)] W' fun e w' => e = .returned (.int .i64 (varFrom nm T.vars 0)) ∧ w' = W') := fun W' hb => l4Var_any lo p _ _ _ T nm W' (hE.tree.below hb) hvl
 have HQ0 : Hid (∀ W', Below W0.heap.size W0 W' → W'.cell? ⟨p, 0, none⟩ = some (.slice av T.vars.length cv)) := fun W' hb => (hb.cell (p := ⟨p, 0, none⟩) hpw).trans hE.tree.c0
 have HVV : Hid (∀ W', Below W0.heap.size W0 W' → T.vars ≠ [] → ∃ b o, av = some ⟨b, o, none⟩ ∧ ∀ (i : Nat) (x : LVar), T.vars[i]? = some x → VarAt W' b (o + i * 4) x) := fun W' hb hne => by
  obtain ⟨b, o, e, _, hc⟩ := hvv hne
  exact ⟨b, o, e, fun i x hx => (hc i x hx).keep (lo := 0) (Keeps.of_below hb) (Nat.zero_le _)⟩
 have HVO := varFrom_or nm T.vars 0
 have HCA : Hid (∀ o, Chk W0 (W.alloc o) kp p aA V.length cA vl st ∧ Sole kp W (W.alloc o)) := fun o =>
  have hb : Below W.heap.size W (W.alloc o) := (Below.refl _ _).alloc (Nat.le_refl _) _
  ⟨hC.below hb, hb.sole⟩
 obtain ⟨X, hX⟩ : ∃ X, varFrom nm T.vars 0 = X := ⟨_, rfl⟩
 have HXX := hid hX
 rw [hX] at HVA HVO
 have hj0 : (0 : Int) ≤ (j : Int) := by omega
 have hj1 : (j : Int) < (T.nodes.length : Int) := by omega
 have hpW : p < W.heap.size := by omega
 clear hC hE hL hX hvv hnm
 go_enter Tryz.func212, Tryz.ntmps212
 go_wp2_with fail
 have hA := heap_alloc_new W (.cells #[.int .i64 n.kind, .int .i64 n.op, .string (bs nm), .int .i64 n.num, .int .i64 n.far, .slice a5 l5 c5, .slice a6 l6 c6, .slice a7 l7 c7] 40)
 have hC5 := HCA.out (.cells #[.int .i64 n.kind, .int .i64 n.op, .string (bs nm), .int .i64 n.num, .int .i64 n.far, .slice a5 l5 c5, .slice a6 l6 c6, .slice a7 l7 c7] 40)
 generalize hW5 : W.alloc (.cells #[.int .i64 n.kind, .int .i64 n.op, .string (bs nm), .int .i64 n.num, .int .i64 n.far, .slice a5 l5 c5, .slice a6 l6 c6, .slice a7 l7 c7] 40) = W5
 rw [hW5] at hA hC5
 have n2 : W5.cell? ⟨W.heap.size, 2, none⟩ = some (.string (bs nm)) := cell_of_row _ _ 2 _ _ _ hA
 have k0 : W5.cell? ⟨kp, 0, none⟩ = some (.pointer (some ⟨p, 0, none⟩)) := by have := cell_of_row _ _ 0 _ _ _ hC5.1.row; simpa using this
 have HA : Hid (W5.drew.cell? ⟨W.heap.size, 2, none⟩ = some (.string (bs nm))) := n2
 have HC : Hid (Chk W0 W5.drew kp p aA V.length cA vl st ∧ Sole kp W W5.drew) := ⟨⟨hC5.1.bel.drew, hC5.1.row⟩, hC5.2.trans (((Below.refl W5.heap.size W5).drew).sole)⟩
 have HB5 : Hid (Below W0.heap.size W0 W5.drew) := hC5.1.bel.drew
 have hsz5 : W.heap.size < W5.heap.size := blk_lt hA
 clear hA hC5 hW5 d0 d1 d2 d3 d4 d5 d6 d7 q1
 go_region_held3 (fun Z => Z.cell? ⟨kp, 0, none⟩ = some (.pointer (some ⟨p, 0, none⟩)) ∧ Z.cell? ⟨W.heap.size, 2, none⟩ = some (.string (bs nm))) (go_keep) (first | (go_at_call 258; refine (HVA.out _ HB5.out).mono ?_; rintro e w2 ⟨rfl, rfl⟩))
 have hsz6 : W.heap.size < W5.drew.heap.size := hsz5
 clear n2 k0 hsz5 HVA
 generalize W5.drew = Wd at *
 rcases HVO with hX1 | ⟨i, rfl, hi⟩
 ·have hXn : X < 0 := by omega
  have HR : Hid (targetF T.vars L nm row (j : Int) st = (0, metAt st 4 (j : Int))) := target_none (by rw [HXX.out]; exact hXn)
  clear hX1 HVV
  go_wp2_with fail
  refine (HSTOP.out 4 st _ HC.out.1).mono ?_
  rintro e w2 ⟨rfl, hc2, hb2⟩
  have HC2 : Hid (Chk W0 w2 kp p aA V.length cA vl (metAt st 4 (j : Int)) ∧ Sole kp W w2) := ⟨hc2, HC.out.2.trans hb2⟩
  clear hc2 hb2
  go_wp2_with fail
  go_ret
  exact ⟨by rw [HR.out]; rfl, by rw [HR.out]; exact HC2.out.1, HC2.out.2⟩
 ·have hiV : i < T.vars.length := by omega
  obtain ⟨v, hv⟩ : ∃ v, T.vars[i]? = some v := ⟨T.vars[i], List.getElem?_eq_getElem hiV⟩
  have HT : Hid (targetF T.vars L nm row (j : Int) st = (v.type, if v.kind = 1 ∨ nm ∈ L then metAt (if decide (0 < v.size) ≠ row then metAt st 1 (j : Int) else st) 10 (j : Int) else (if decide (0 < v.size) ≠ row then metAt st 1 (j : Int) else st))) := target_some HXX.out hv
  obtain ⟨b, o, rfl, hcs⟩ := HVV.out Wd HC.out.1.bel (by intro e; rw [e] at hiV; simp at hiV)
  obtain ⟨c0, c1, c2, c3⟩ := hcs i v hv
  have q0 := HQ0.out Wd HC.out.1.bel
  have k0 : Wd.cell? ⟨kp, 0, none⟩ = some (.pointer (some ⟨p, 0, none⟩)) := by have := cell_of_row _ _ 0 _ _ _ HC.out.1.row; simpa using this
  have n2 : Wd.cell? ⟨W.heap.size, 2, none⟩ = some (.string (bs nm)) := HA.out
  have hi0 : (0 : Int) ≤ (i : Int) := by omega
  have hi1 : (i : Int) < (T.vars.length : Int) := by omega
  have hkd := blk_lt HC.out.1.row
  have HV8 : Hid (∀ o8, Chk W0 (Wd.alloc o8) kp p aA V.length cA vl st ∧ Sole kp W (Wd.alloc o8)) := fun o8 =>
   have hb : Below Wd.heap.size Wd (Wd.alloc o8) := (Below.refl _ _).alloc (Nat.le_refl _) _
   ⟨HC.out.1.below hb, HC.out.2.trans hb.sole⟩
  have hVb : Wd.heap.size ≠ kp := by omega
  have hnW : W.heap.size ≠ kp := by omega
  generalize v.kind = K at *
  generalize v.type = Ty at *
  generalize v.size = Sz at *
  generalize v.name = nv at *
  have HA8 : Hid ((Wd.alloc (.cells #[.string (bs nv), .int .i64 K, .int .i64 Ty, .int .i64 Sz] 45)).heap[Wd.heap.size]? = some (.cells #[.string (bs nv), .int .i64 K, .int .i64 Ty, .int .i64 Sz] 45 (0, 0))) := heap_alloc_new Wd _
  have HN8 : Hid ((Wd.alloc (.cells #[.string (bs nv), .int .i64 K, .int .i64 Ty, .int .i64 Sz] 45)).cell? ⟨W.heap.size, 2, none⟩ = some (.string (bs nm))) := (World.cell?_of_block (a := ⟨W.heap.size, 2, none⟩) (Below.heap_alloc Wd _ W.heap.size hsz6)).trans n2
  obtain ⟨q, hq⟩ : ∃ q, decide (nm ∈ L) = q := ⟨_, rfl⟩
  rw [hq] at HINL
  have HQ : Hid (decide (nm ∈ L) = q) := hq
  clear hcs HVV hv hq HXX HQ0 HC HA hi
  cases row with
  | false =>
   by_cases hs : 0 < Sz
   ·by_cases hk : K = 1
    ·subst hk
     have HR : Hid (targetF T.vars L nm false (j : Int) st = (Ty, metAt (metAt st 1 (j : Int)) 10 (j : Int))) := by
      unfold Hid
      rw [HT.out, if_pos (Or.inl rfl), decide_eq_true hs, if_pos (by decide)]
     clear HT
     go_wp2_with fail
     have H8 := HV8.out (.cells #[.string (bs nv), .int .i64 1, .int .i64 Ty, .int .i64 Sz] 45)
     have hA8 := HA8.out
     have hN8 := HN8.out
     clear HV8 HA8 HN8 c0 c1 c2 c3 q0 k0 n2
     generalize Wd.alloc (.cells #[.string (bs nv), .int .i64 1, .int .i64 Ty, .int .i64 Sz] 45) = W8 at *
     generalize Wd.heap.size = gv at *
     refine (HSTOP.out 1 st _ H8.1).mono ?_
     rintro e w9 ⟨rfl, hc9, hs9⟩
     have hA9 := (hs9.rest gv (blk_lt hA8) hVb).trans hA8
     have hN9 := hs9.cell (p := ⟨W.heap.size, 2, none⟩) hnW hN8
     clear hA8 hN8
     have hA8 := hA9
     have hN8 := hN9
     have H9 : Chk W0 w9 kp p aA V.length cA vl (metAt st 1 (j : Int)) ∧ Sole kp W w9 := ⟨hc9, H8.2.trans hs9⟩
     clear hA9 hN9 H8 hc9 hs9
     have H8 := H9
     clear H9
     have v1 : w9.cell? ⟨gv, 1, none⟩ = some (.int .i64 1) := by have := cell_of_row _ _ 1 _ _ _ hA8; simpa using this
     have v2 : w9.cell? ⟨gv, 2, none⟩ = some (.int .i64 Ty) := by have := cell_of_row _ _ 2 _ _ _ hA8; simpa using this
     clear hA8
     have HH : Hid (Chk W0 w9 kp p aA V.length cA vl (metAt st 1 (j : Int)) ∧ Sole kp W w9) := H8
     clear H8
     go_wp2_with fail
     refine (HSTOP.out 10 _ _ HH.out.1).mono ?_
     rintro e w11 ⟨rfl, hc11, hs11⟩
     have v2 := hs11.cell (p := ⟨gv, 2, none⟩) hVb v2
     have HH2 : Hid (Chk W0 w11 kp p aA V.length cA vl (metAt (metAt st 1 (j : Int)) 10 (j : Int)) ∧ Sole kp W w11) := ⟨hc11, HH.out.2.trans hs11⟩
     clear hc11 hs11 HH v1
     go_wp2_with fail
     go_ret
     exact ⟨by rw [HR.out]; rfl, by rw [HR.out]; exact HH2.out.1, HH2.out.2⟩
    ·cases q with
     | true =>
      have hmem : nm ∈ L := of_decide_eq_true HQ.out
      have HR : Hid (targetF T.vars L nm false (j : Int) st = (Ty, metAt (metAt st 1 (j : Int)) 10 (j : Int))) := by
       unfold Hid
       rw [HT.out, if_pos (Or.inr hmem), decide_eq_true hs, if_pos (by decide)]
      clear HT
      have hk1 : (K == 1) = false := by simpa using hk
      have hk2 : decide (K = 1) = false := decide_eq_false hk
      go_wp2_with fail
      have H8 := HV8.out (.cells #[.string (bs nv), .int .i64 K, .int .i64 Ty, .int .i64 Sz] 45)
      have hA8 := HA8.out
      have hN8 := HN8.out
      clear HV8 HA8 HN8 c0 c1 c2 c3 q0 k0 n2
      generalize Wd.alloc (.cells #[.string (bs nv), .int .i64 K, .int .i64 Ty, .int .i64 Sz] 45) = W8 at *
      generalize Wd.heap.size = gv at *
      refine (HSTOP.out 1 st _ H8.1).mono ?_
      rintro e w9 ⟨rfl, hc9, hs9⟩
      have hA9 := (hs9.rest gv (blk_lt hA8) hVb).trans hA8
      have hN9 := hs9.cell (p := ⟨W.heap.size, 2, none⟩) hnW hN8
      clear hA8 hN8
      have hA8 := hA9
      have hN8 := hN9
      have H9 : Chk W0 w9 kp p aA V.length cA vl (metAt st 1 (j : Int)) ∧ Sole kp W w9 := ⟨hc9, H8.2.trans hs9⟩
      clear hA9 hN9 H8 hc9 hs9
      have H8 := H9
      clear H9
      have v1 : w9.cell? ⟨gv, 1, none⟩ = some (.int .i64 K) := by have := cell_of_row _ _ 1 _ _ _ hA8; simpa using this
      have v2 : w9.cell? ⟨gv, 2, none⟩ = some (.int .i64 Ty) := by have := cell_of_row _ _ 2 _ _ _ hA8; simpa using this
      clear hA8
      have HH : Hid (Chk W0 w9 kp p aA V.length cA vl (metAt st 1 (j : Int)) ∧ Sole kp W w9) := H8
      clear H8
      go_wp2_with fail
      refine (HINL.out _ _ HH.out.1 (HLO.out _ HH.out.2)).mono ?_
      rintro e w10 ⟨rfl, rfl⟩
      go_wp2_with fail
      refine (HSTOP.out 10 _ _ HH.out.1).mono ?_
      rintro e w11 ⟨rfl, hc11, hs11⟩
      have v2 := hs11.cell (p := ⟨gv, 2, none⟩) hVb v2
      have HH2 : Hid (Chk W0 w11 kp p aA V.length cA vl (metAt (metAt st 1 (j : Int)) 10 (j : Int)) ∧ Sole kp W w11) := ⟨hc11, HH.out.2.trans hs11⟩
      clear hc11 hs11 HH v1
      go_wp2_with fail
      go_ret
      exact ⟨by rw [HR.out]; rfl, by rw [HR.out]; exact HH2.out.1, HH2.out.2⟩
     | false =>
      have hmem : ¬ nm ∈ L := of_decide_eq_false HQ.out
      have HR : Hid (targetF T.vars L nm false (j : Int) st = (Ty, metAt st 1 (j : Int))) := by
       unfold Hid
       rw [HT.out, if_neg (fun h => h.elim hk hmem), decide_eq_true hs, if_pos (by decide)]
      clear HT
      have hk1 : (K == 1) = false := by simpa using hk
      have hk2 : decide (K = 1) = false := decide_eq_false hk
      go_wp2_with fail
      have H8 := HV8.out (.cells #[.string (bs nv), .int .i64 K, .int .i64 Ty, .int .i64 Sz] 45)
      have hA8 := HA8.out
      have hN8 := HN8.out
      clear HV8 HA8 HN8 c0 c1 c2 c3 q0 k0 n2
      generalize Wd.alloc (.cells #[.string (bs nv), .int .i64 K, .int .i64 Ty, .int .i64 Sz] 45) = W8 at *
      generalize Wd.heap.size = gv at *
      refine (HSTOP.out 1 st _ H8.1).mono ?_
      rintro e w9 ⟨rfl, hc9, hs9⟩
      have hA9 := (hs9.rest gv (blk_lt hA8) hVb).trans hA8
      have hN9 := hs9.cell (p := ⟨W.heap.size, 2, none⟩) hnW hN8
      clear hA8 hN8
      have hA8 := hA9
      have hN8 := hN9
      have H9 : Chk W0 w9 kp p aA V.length cA vl (metAt st 1 (j : Int)) ∧ Sole kp W w9 := ⟨hc9, H8.2.trans hs9⟩
      clear hA9 hN9 H8 hc9 hs9
      have H8 := H9
      clear H9
      have v1 : w9.cell? ⟨gv, 1, none⟩ = some (.int .i64 K) := by have := cell_of_row _ _ 1 _ _ _ hA8; simpa using this
      have v2 : w9.cell? ⟨gv, 2, none⟩ = some (.int .i64 Ty) := by have := cell_of_row _ _ 2 _ _ _ hA8; simpa using this
      clear hA8
      have HH : Hid (Chk W0 w9 kp p aA V.length cA vl (metAt st 1 (j : Int)) ∧ Sole kp W w9) := H8
      clear H8
      go_wp2_with fail
      refine (HINL.out _ _ HH.out.1 (HLO.out _ HH.out.2)).mono ?_
      rintro e w10 ⟨rfl, rfl⟩
      go_wp2_with fail
      go_ret
      exact ⟨by rw [HR.out]; rfl, by rw [HR.out]; exact HH.out.1, HH.out.2⟩
   ·by_cases hk : K = 1
    ·subst hk
     have HR : Hid (targetF T.vars L nm false (j : Int) st = (Ty, metAt (st) 10 (j : Int))) := by
      unfold Hid
      rw [HT.out, if_pos (Or.inl rfl), decide_eq_false hs, if_neg (by decide)]
     clear HT
     go_wp2_with fail
     have H8 := HV8.out (.cells #[.string (bs nv), .int .i64 1, .int .i64 Ty, .int .i64 Sz] 45)
     have hA8 := HA8.out
     have hN8 := HN8.out
     clear HV8 HA8 HN8 c0 c1 c2 c3 q0 k0 n2
     generalize Wd.alloc (.cells #[.string (bs nv), .int .i64 1, .int .i64 Ty, .int .i64 Sz] 45) = W8 at *
     generalize Wd.heap.size = gv at *
     have v1 : W8.cell? ⟨gv, 1, none⟩ = some (.int .i64 1) := by have := cell_of_row _ _ 1 _ _ _ hA8; simpa using this
     have v2 : W8.cell? ⟨gv, 2, none⟩ = some (.int .i64 Ty) := by have := cell_of_row _ _ 2 _ _ _ hA8; simpa using this
     clear hA8
     have HH : Hid (Chk W0 W8 kp p aA V.length cA vl st ∧ Sole kp W W8) := H8
     clear H8
     refine (HSTOP.out 10 _ _ HH.out.1).mono ?_
     rintro e w11 ⟨rfl, hc11, hs11⟩
     have v2 := hs11.cell (p := ⟨gv, 2, none⟩) hVb v2
     have HH2 : Hid (Chk W0 w11 kp p aA V.length cA vl (metAt (st) 10 (j : Int)) ∧ Sole kp W w11) := ⟨hc11, HH.out.2.trans hs11⟩
     clear hc11 hs11 HH v1
     go_wp2_with fail
     go_ret
     exact ⟨by rw [HR.out]; rfl, by rw [HR.out]; exact HH2.out.1, HH2.out.2⟩
    ·cases q with
     | true =>
      have hmem : nm ∈ L := of_decide_eq_true HQ.out
      have HR : Hid (targetF T.vars L nm false (j : Int) st = (Ty, metAt (st) 10 (j : Int))) := by
       unfold Hid
       rw [HT.out, if_pos (Or.inr hmem), decide_eq_false hs, if_neg (by decide)]
      clear HT
      have hk1 : (K == 1) = false := by simpa using hk
      have hk2 : decide (K = 1) = false := decide_eq_false hk
      go_wp2_with fail
      have H8 := HV8.out (.cells #[.string (bs nv), .int .i64 K, .int .i64 Ty, .int .i64 Sz] 45)
      have hA8 := HA8.out
      have hN8 := HN8.out
      clear HV8 HA8 HN8 c0 c1 c2 c3 q0 k0 n2
      generalize Wd.alloc (.cells #[.string (bs nv), .int .i64 K, .int .i64 Ty, .int .i64 Sz] 45) = W8 at *
      generalize Wd.heap.size = gv at *
      have v1 : W8.cell? ⟨gv, 1, none⟩ = some (.int .i64 K) := by have := cell_of_row _ _ 1 _ _ _ hA8; simpa using this
      have v2 : W8.cell? ⟨gv, 2, none⟩ = some (.int .i64 Ty) := by have := cell_of_row _ _ 2 _ _ _ hA8; simpa using this
      clear hA8
      have HH : Hid (Chk W0 W8 kp p aA V.length cA vl st ∧ Sole kp W W8) := H8
      clear H8
      refine (HINL.out _ _ HH.out.1 (HLO.out _ HH.out.2)).mono ?_
      rintro e w10 ⟨rfl, rfl⟩
      go_wp2_with fail
      refine (HSTOP.out 10 _ _ HH.out.1).mono ?_
      rintro e w11 ⟨rfl, hc11, hs11⟩
      have v2 := hs11.cell (p := ⟨gv, 2, none⟩) hVb v2
      have HH2 : Hid (Chk W0 w11 kp p aA V.length cA vl (metAt (st) 10 (j : Int)) ∧ Sole kp W w11) := ⟨hc11, HH.out.2.trans hs11⟩
      clear hc11 hs11 HH v1
      go_wp2_with fail
      go_ret
      exact ⟨by rw [HR.out]; rfl, by rw [HR.out]; exact HH2.out.1, HH2.out.2⟩
     | false =>
      have hmem : ¬ nm ∈ L := of_decide_eq_false HQ.out
      have HR : Hid (targetF T.vars L nm false (j : Int) st = (Ty, st)) := by
       unfold Hid
       rw [HT.out, if_neg (fun h => h.elim hk hmem), decide_eq_false hs, if_neg (by decide)]
      clear HT
      have hk1 : (K == 1) = false := by simpa using hk
      have hk2 : decide (K = 1) = false := decide_eq_false hk
      go_wp2_with fail
      have H8 := HV8.out (.cells #[.string (bs nv), .int .i64 K, .int .i64 Ty, .int .i64 Sz] 45)
      have hA8 := HA8.out
      have hN8 := HN8.out
      clear HV8 HA8 HN8 c0 c1 c2 c3 q0 k0 n2
      generalize Wd.alloc (.cells #[.string (bs nv), .int .i64 K, .int .i64 Ty, .int .i64 Sz] 45) = W8 at *
      generalize Wd.heap.size = gv at *
      have v1 : W8.cell? ⟨gv, 1, none⟩ = some (.int .i64 K) := by have := cell_of_row _ _ 1 _ _ _ hA8; simpa using this
      have v2 : W8.cell? ⟨gv, 2, none⟩ = some (.int .i64 Ty) := by have := cell_of_row _ _ 2 _ _ _ hA8; simpa using this
      clear hA8
      have HH : Hid (Chk W0 W8 kp p aA V.length cA vl st ∧ Sole kp W W8) := H8
      clear H8
      refine (HINL.out _ _ HH.out.1 (HLO.out _ HH.out.2)).mono ?_
      rintro e w10 ⟨rfl, rfl⟩
      go_wp2_with fail
      go_ret
      exact ⟨by rw [HR.out]; rfl, by rw [HR.out]; exact HH.out.1, HH.out.2⟩
  | true =>
   by_cases hs : 0 < Sz
   ·by_cases hk : K = 1
    ·subst hk
     have HR : Hid (targetF T.vars L nm true (j : Int) st = (Ty, metAt (st) 10 (j : Int))) := by
      unfold Hid
      rw [HT.out, if_pos (Or.inl rfl), decide_eq_true hs, if_neg (by decide)]
     clear HT
     go_wp2_with fail
     have H8 := HV8.out (.cells #[.string (bs nv), .int .i64 1, .int .i64 Ty, .int .i64 Sz] 45)
     have hA8 := HA8.out
     have hN8 := HN8.out
     clear HV8 HA8 HN8 c0 c1 c2 c3 q0 k0 n2
     generalize Wd.alloc (.cells #[.string (bs nv), .int .i64 1, .int .i64 Ty, .int .i64 Sz] 45) = W8 at *
     generalize Wd.heap.size = gv at *
     have v1 : W8.cell? ⟨gv, 1, none⟩ = some (.int .i64 1) := by have := cell_of_row _ _ 1 _ _ _ hA8; simpa using this
     have v2 : W8.cell? ⟨gv, 2, none⟩ = some (.int .i64 Ty) := by have := cell_of_row _ _ 2 _ _ _ hA8; simpa using this
     clear hA8
     have HH : Hid (Chk W0 W8 kp p aA V.length cA vl st ∧ Sole kp W W8) := H8
     clear H8
     refine (HSTOP.out 10 _ _ HH.out.1).mono ?_
     rintro e w11 ⟨rfl, hc11, hs11⟩
     have v2 := hs11.cell (p := ⟨gv, 2, none⟩) hVb v2
     have HH2 : Hid (Chk W0 w11 kp p aA V.length cA vl (metAt (st) 10 (j : Int)) ∧ Sole kp W w11) := ⟨hc11, HH.out.2.trans hs11⟩
     clear hc11 hs11 HH v1
     go_wp2_with fail
     go_ret
     exact ⟨by rw [HR.out]; rfl, by rw [HR.out]; exact HH2.out.1, HH2.out.2⟩
    ·cases q with
     | true =>
      have hmem : nm ∈ L := of_decide_eq_true HQ.out
      have HR : Hid (targetF T.vars L nm true (j : Int) st = (Ty, metAt (st) 10 (j : Int))) := by
       unfold Hid
       rw [HT.out, if_pos (Or.inr hmem), decide_eq_true hs, if_neg (by decide)]
      clear HT
      have hk1 : (K == 1) = false := by simpa using hk
      have hk2 : decide (K = 1) = false := decide_eq_false hk
      go_wp2_with fail
      have H8 := HV8.out (.cells #[.string (bs nv), .int .i64 K, .int .i64 Ty, .int .i64 Sz] 45)
      have hA8 := HA8.out
      have hN8 := HN8.out
      clear HV8 HA8 HN8 c0 c1 c2 c3 q0 k0 n2
      generalize Wd.alloc (.cells #[.string (bs nv), .int .i64 K, .int .i64 Ty, .int .i64 Sz] 45) = W8 at *
      generalize Wd.heap.size = gv at *
      have v1 : W8.cell? ⟨gv, 1, none⟩ = some (.int .i64 K) := by have := cell_of_row _ _ 1 _ _ _ hA8; simpa using this
      have v2 : W8.cell? ⟨gv, 2, none⟩ = some (.int .i64 Ty) := by have := cell_of_row _ _ 2 _ _ _ hA8; simpa using this
      clear hA8
      have HH : Hid (Chk W0 W8 kp p aA V.length cA vl st ∧ Sole kp W W8) := H8
      clear H8
      refine (HINL.out _ _ HH.out.1 (HLO.out _ HH.out.2)).mono ?_
      rintro e w10 ⟨rfl, rfl⟩
      go_wp2_with fail
      refine (HSTOP.out 10 _ _ HH.out.1).mono ?_
      rintro e w11 ⟨rfl, hc11, hs11⟩
      have v2 := hs11.cell (p := ⟨gv, 2, none⟩) hVb v2
      have HH2 : Hid (Chk W0 w11 kp p aA V.length cA vl (metAt (st) 10 (j : Int)) ∧ Sole kp W w11) := ⟨hc11, HH.out.2.trans hs11⟩
      clear hc11 hs11 HH v1
      go_wp2_with fail
      go_ret
      exact ⟨by rw [HR.out]; rfl, by rw [HR.out]; exact HH2.out.1, HH2.out.2⟩
     | false =>
      have hmem : ¬ nm ∈ L := of_decide_eq_false HQ.out
      have HR : Hid (targetF T.vars L nm true (j : Int) st = (Ty, st)) := by
       unfold Hid
       rw [HT.out, if_neg (fun h => h.elim hk hmem), decide_eq_true hs, if_neg (by decide)]
      clear HT
      have hk1 : (K == 1) = false := by simpa using hk
      have hk2 : decide (K = 1) = false := decide_eq_false hk
      go_wp2_with fail
      have H8 := HV8.out (.cells #[.string (bs nv), .int .i64 K, .int .i64 Ty, .int .i64 Sz] 45)
      have hA8 := HA8.out
      have hN8 := HN8.out
      clear HV8 HA8 HN8 c0 c1 c2 c3 q0 k0 n2
      generalize Wd.alloc (.cells #[.string (bs nv), .int .i64 K, .int .i64 Ty, .int .i64 Sz] 45) = W8 at *
      generalize Wd.heap.size = gv at *
      have v1 : W8.cell? ⟨gv, 1, none⟩ = some (.int .i64 K) := by have := cell_of_row _ _ 1 _ _ _ hA8; simpa using this
      have v2 : W8.cell? ⟨gv, 2, none⟩ = some (.int .i64 Ty) := by have := cell_of_row _ _ 2 _ _ _ hA8; simpa using this
      clear hA8
      have HH : Hid (Chk W0 W8 kp p aA V.length cA vl st ∧ Sole kp W W8) := H8
      clear H8
      refine (HINL.out _ _ HH.out.1 (HLO.out _ HH.out.2)).mono ?_
      rintro e w10 ⟨rfl, rfl⟩
      go_wp2_with fail
      go_ret
      exact ⟨by rw [HR.out]; rfl, by rw [HR.out]; exact HH.out.1, HH.out.2⟩
   ·by_cases hk : K = 1
    ·subst hk
     have HR : Hid (targetF T.vars L nm true (j : Int) st = (Ty, metAt (metAt st 1 (j : Int)) 10 (j : Int))) := by
      unfold Hid
      rw [HT.out, if_pos (Or.inl rfl), decide_eq_false hs, if_pos (by decide)]
     clear HT
     go_wp2_with fail
     have H8 := HV8.out (.cells #[.string (bs nv), .int .i64 1, .int .i64 Ty, .int .i64 Sz] 45)
     have hA8 := HA8.out
     have hN8 := HN8.out
     clear HV8 HA8 HN8 c0 c1 c2 c3 q0 k0 n2
     generalize Wd.alloc (.cells #[.string (bs nv), .int .i64 1, .int .i64 Ty, .int .i64 Sz] 45) = W8 at *
     generalize Wd.heap.size = gv at *
     refine (HSTOP.out 1 st _ H8.1).mono ?_
     rintro e w9 ⟨rfl, hc9, hs9⟩
     have hA9 := (hs9.rest gv (blk_lt hA8) hVb).trans hA8
     have hN9 := hs9.cell (p := ⟨W.heap.size, 2, none⟩) hnW hN8
     clear hA8 hN8
     have hA8 := hA9
     have hN8 := hN9
     have H9 : Chk W0 w9 kp p aA V.length cA vl (metAt st 1 (j : Int)) ∧ Sole kp W w9 := ⟨hc9, H8.2.trans hs9⟩
     clear hA9 hN9 H8 hc9 hs9
     have H8 := H9
     clear H9
     have v1 : w9.cell? ⟨gv, 1, none⟩ = some (.int .i64 1) := by have := cell_of_row _ _ 1 _ _ _ hA8; simpa using this
     have v2 : w9.cell? ⟨gv, 2, none⟩ = some (.int .i64 Ty) := by have := cell_of_row _ _ 2 _ _ _ hA8; simpa using this
     clear hA8
     have HH : Hid (Chk W0 w9 kp p aA V.length cA vl (metAt st 1 (j : Int)) ∧ Sole kp W w9) := H8
     clear H8
     go_wp2_with fail
     refine (HSTOP.out 10 _ _ HH.out.1).mono ?_
     rintro e w11 ⟨rfl, hc11, hs11⟩
     have v2 := hs11.cell (p := ⟨gv, 2, none⟩) hVb v2
     have HH2 : Hid (Chk W0 w11 kp p aA V.length cA vl (metAt (metAt st 1 (j : Int)) 10 (j : Int)) ∧ Sole kp W w11) := ⟨hc11, HH.out.2.trans hs11⟩
     clear hc11 hs11 HH v1
     go_wp2_with fail
     go_ret
     exact ⟨by rw [HR.out]; rfl, by rw [HR.out]; exact HH2.out.1, HH2.out.2⟩
    ·cases q with
     | true =>
      have hmem : nm ∈ L := of_decide_eq_true HQ.out
      have HR : Hid (targetF T.vars L nm true (j : Int) st = (Ty, metAt (metAt st 1 (j : Int)) 10 (j : Int))) := by
       unfold Hid
       rw [HT.out, if_pos (Or.inr hmem), decide_eq_false hs, if_pos (by decide)]
      clear HT
      have hk1 : (K == 1) = false := by simpa using hk
      have hk2 : decide (K = 1) = false := decide_eq_false hk
      go_wp2_with fail
      have H8 := HV8.out (.cells #[.string (bs nv), .int .i64 K, .int .i64 Ty, .int .i64 Sz] 45)
      have hA8 := HA8.out
      have hN8 := HN8.out
      clear HV8 HA8 HN8 c0 c1 c2 c3 q0 k0 n2
      generalize Wd.alloc (.cells #[.string (bs nv), .int .i64 K, .int .i64 Ty, .int .i64 Sz] 45) = W8 at *
      generalize Wd.heap.size = gv at *
      refine (HSTOP.out 1 st _ H8.1).mono ?_
      rintro e w9 ⟨rfl, hc9, hs9⟩
      have hA9 := (hs9.rest gv (blk_lt hA8) hVb).trans hA8
      have hN9 := hs9.cell (p := ⟨W.heap.size, 2, none⟩) hnW hN8
      clear hA8 hN8
      have hA8 := hA9
      have hN8 := hN9
      have H9 : Chk W0 w9 kp p aA V.length cA vl (metAt st 1 (j : Int)) ∧ Sole kp W w9 := ⟨hc9, H8.2.trans hs9⟩
      clear hA9 hN9 H8 hc9 hs9
      have H8 := H9
      clear H9
      have v1 : w9.cell? ⟨gv, 1, none⟩ = some (.int .i64 K) := by have := cell_of_row _ _ 1 _ _ _ hA8; simpa using this
      have v2 : w9.cell? ⟨gv, 2, none⟩ = some (.int .i64 Ty) := by have := cell_of_row _ _ 2 _ _ _ hA8; simpa using this
      clear hA8
      have HH : Hid (Chk W0 w9 kp p aA V.length cA vl (metAt st 1 (j : Int)) ∧ Sole kp W w9) := H8
      clear H8
      go_wp2_with fail
      refine (HINL.out _ _ HH.out.1 (HLO.out _ HH.out.2)).mono ?_
      rintro e w10 ⟨rfl, rfl⟩
      go_wp2_with fail
      refine (HSTOP.out 10 _ _ HH.out.1).mono ?_
      rintro e w11 ⟨rfl, hc11, hs11⟩
      have v2 := hs11.cell (p := ⟨gv, 2, none⟩) hVb v2
      have HH2 : Hid (Chk W0 w11 kp p aA V.length cA vl (metAt (metAt st 1 (j : Int)) 10 (j : Int)) ∧ Sole kp W w11) := ⟨hc11, HH.out.2.trans hs11⟩
      clear hc11 hs11 HH v1
      go_wp2_with fail
      go_ret
      exact ⟨by rw [HR.out]; rfl, by rw [HR.out]; exact HH2.out.1, HH2.out.2⟩
     | false =>
      have hmem : ¬ nm ∈ L := of_decide_eq_false HQ.out
      have HR : Hid (targetF T.vars L nm true (j : Int) st = (Ty, metAt st 1 (j : Int))) := by
       unfold Hid
       rw [HT.out, if_neg (fun h => h.elim hk hmem), decide_eq_false hs, if_pos (by decide)]
      clear HT
      have hk1 : (K == 1) = false := by simpa using hk
      have hk2 : decide (K = 1) = false := decide_eq_false hk
      go_wp2_with fail
      have H8 := HV8.out (.cells #[.string (bs nv), .int .i64 K, .int .i64 Ty, .int .i64 Sz] 45)
      have hA8 := HA8.out
      have hN8 := HN8.out
      clear HV8 HA8 HN8 c0 c1 c2 c3 q0 k0 n2
      generalize Wd.alloc (.cells #[.string (bs nv), .int .i64 K, .int .i64 Ty, .int .i64 Sz] 45) = W8 at *
      generalize Wd.heap.size = gv at *
      refine (HSTOP.out 1 st _ H8.1).mono ?_
      rintro e w9 ⟨rfl, hc9, hs9⟩
      have hA9 := (hs9.rest gv (blk_lt hA8) hVb).trans hA8
      have hN9 := hs9.cell (p := ⟨W.heap.size, 2, none⟩) hnW hN8
      clear hA8 hN8
      have hA8 := hA9
      have hN8 := hN9
      have H9 : Chk W0 w9 kp p aA V.length cA vl (metAt st 1 (j : Int)) ∧ Sole kp W w9 := ⟨hc9, H8.2.trans hs9⟩
      clear hA9 hN9 H8 hc9 hs9
      have H8 := H9
      clear H9
      have v1 : w9.cell? ⟨gv, 1, none⟩ = some (.int .i64 K) := by have := cell_of_row _ _ 1 _ _ _ hA8; simpa using this
      have v2 : w9.cell? ⟨gv, 2, none⟩ = some (.int .i64 Ty) := by have := cell_of_row _ _ 2 _ _ _ hA8; simpa using this
      clear hA8
      have HH : Hid (Chk W0 w9 kp p aA V.length cA vl (metAt st 1 (j : Int)) ∧ Sole kp W w9) := H8
      clear H8
      go_wp2_with fail
      refine (HINL.out _ _ HH.out.1 (HLO.out _ HH.out.2)).mono ?_
      rintro e w10 ⟨rfl, rfl⟩
      go_wp2_with fail
      go_ret
      exact ⟨by rw [HR.out]; rfl, by rw [HR.out]; exact HH.out.1, HH.out.2⟩
end Go.Proofs.YtcecfmdjicjngaaGreatDoor
