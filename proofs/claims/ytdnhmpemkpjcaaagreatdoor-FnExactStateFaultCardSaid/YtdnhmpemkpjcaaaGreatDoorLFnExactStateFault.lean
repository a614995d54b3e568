/-
  The Go function laws.FnExactStateFault answers true at every input and writes nothing that was there. No condition beside the laid variable errors.errorType.
-/
import Derived.Test.YtdnhmpemkpjcaaaGreatDoorIChoice
import Derived.Test.YtdnhmpemkpjcaaaGreatDoorSSum
import Derived.Test.YtdnhmpemkpjcaaaGreatDoorThree
import Derived.Test.YtdnhmpemkpjcaaaGreatDoorSFault
import Derived.Deep.RegionHeld3
import Derived.Test.YtdnhmpemkpjcaaaGreatDoorSCall
import Derived.Test.YtdnhmpemkpjcaaaGreatDoorIPlain
import Derived.Test.YtdnhmpemkpjcaaaGreatDoorILex
import Derived.Test.YtdnhmpemkpjcaaaGreatDoorIMisfit
import Derived.Test.YtdnhmpemkpjcaaaGreatDoorIFault
import Derived.Test.YtdnhmpemkpjcaaaGreatDoorTyBr
import Derived.Test.YtdnhmpemkpjcaaaGreatDoorBase
import Derived.Test.YtdnhmpemkpjcaaaGreatDoorSTypA
import Derived.Test.YtdnhmpemkpjcaaaGreatDoorTreeC
import Derived.Test.YtdnhmpemkpjcaaaGreatDoorCopy
import Derived.Test.YtdnhmpemkpjcaaaGreatDoorOpenTree
import Derived.Test.YtdnhmpemkpjcaaaGreatDoorTreeEq
namespace Go.Proofs.YtdnhmpemkpjcaaaGreatDoor
open Go.RowKit
set_option linter.unusedVariables false
attribute [local go_sem] bs_size bs_get bs_extract bs_append bs_eq bs_toList
def budT (T : LTree) : Int := 1 + sumAtL (costsF T.nodes T.nodes.length) T.body
def chkT (T : LTree) : Met × Int :=
 if faultL T ≠ 0 then ((faultL T, -1), 0) else if namesF (allL 3 T) T.vars.length ≠ 0 then ((namesF (allL 3 T) T.vars.length, -1), 0)
 else if (bodyF (allL 3 T) T).1 ≠ 0 then (bodyF (allL 3 T) T, 0) else if 2000 < budT T ∨ 60 < cellsL (allL 3 T) then ((2, -1), 0) else ((0, 0), budT T)
theorem Duo.belowN {kp : Nat} {vl vl' : Value} {W W' : World} {B : Nat} (h : Duo kp vl vl' W W') (hB : B ≤ kp) (hs : B ≤ W.heap.size) (hv : vl.ownBlock = none) : Below B W W' :=
 ⟨h.bel.os, h.bel.tape, h.bel.output, h.bel.size, fun k hk => h.rest k (by omega) (by omega) (by rw [hv]; intro e; cases e)⟩
theorem three_set {w : World} {b : Nat} {T : TypeId} {a0 a1 a2 : Value} (x y z : Value) (h : w.heap[b]? = some (.cells #[a0, a1, a2] T (0, 0))) : (((w.setCell ⟨b, 0, none⟩ x).setCell ⟨b, 1, none⟩ y).setCell ⟨b, 2, none⟩ z).heap[b]? = some (.cells #[x, y, z] T (0, 0)) := by
 rw [heap_setCell_same _ _ _ _ _ _ (heap_setCell_same _ _ _ _ _ _ (heap_setCell_same _ _ _ _ _ _ h))]
 rfl
set_option maxHeartbeats 12800000 in
set_option maxRecDepth 100000 in
theorem l5Tree_any (lo p : Nat) (vv vn vb : Value) (T : LTree) (w : World) (h : TreeP lo w p vv vn vb T) (hS : Sized 1048576 T) :
  Calls Tryz.prog 77 #[.pointer (some ⟨p, 0, none⟩)] w fun e w' => e = .returned (.agg #[.int .i64 (chkT T).1.1, .int .i64 (chkT T).1.2, .int .i64 (chkT T).2]) ∧ Below w.heap.size w w' := by
 have HF : Hid (∀ (w' : World), Below w.heap.size w w' → Calls Tryz.prog 55 #[.pointer (some ⟨p, 0, none⟩)] w' fun e w2 => e = .returned (.int .i64 (faultL T)) ∧ Below w'.heap.size w' w2) := fun w' hb =>
  l4Fault_any lo p vv vn vb T w' (h.below hb) hS (fun hn k W hb2 hk => l4Right_any lo p vv vn vb T k W ((h.below hb).below hb2) hS hn hk)
 have HNM : Hid (faultL T = 0 → ∀ (w' : World), Below w.heap.size w w' → Calls Tryz.prog 135 #[.pointer (some ⟨p, 0, none⟩)] w' fun e w2 => e = .returned (.int .i64 (namesF (allL 3 T) T.vars.length)) ∧ Below w'.heap.size w' w2) := fun h0 w' hb => l5Names_any lo p vv vn vb T w' (h.below hb) (good_of h0)
 have HAL : Hid (faultL T = 0 → ∀ (w' : World), Below w.heap.size w w' → Calls Tryz.prog 57 #[.pointer (some ⟨p, 0, none⟩)] w' fun e w2 => ∃ v, e = .returned v ∧ w2.ownsRow w'.heap.size 38 4 v (allL 3 T).length (varCells (allL 3 T)) ∧ Below w'.heap.size w' w2) := fun h0 w' hb => l5All_any lo p vv vn vb T w' (h.below hb) (good_of h0)
 have HCO : Hid (faultL T = 0 → ∀ (w' : World), Below w.heap.size w w' → Calls Tryz.prog 138 #[.pointer (some ⟨p, 0, none⟩)] w' fun e w2 => ∃ v, e = .returned v ∧ Own w2 w'.heap.size v (costsF T.nodes T.nodes.length) ∧ Below w'.heap.size w' w2) := fun h0 w' hb => l5Costs_any lo p vv vn vb T w' (h.below hb) (good_of h0) hS
 have HLI : Hid (faultL T = 0 → ∀ (W0 : World) (kp cA : Nat) (aA : Option Addr), Below w.heap.size w W0 → RowV W0 aA (allL 3 T) → W0.heap.size ≤ kp → ListC lo W0 kp p cA (kp + 1) aA T (allL 3 T) T.nodes.length [] T.body) := fun h0 W0 kp cA aA hb hr hk =>
  l5List_all lo W0 kp p cA (kp + 1) vv vn vb aA T (allL 3 T) ⟨h.below hb, hr, (good_of h0).all_len 3, hk, good_of h0⟩ (kin_of h0) (stk_of h0) hS rfl T.nodes.length (Nat.le_refl _) [] T.body (by have := (good_of h0).nodes; simp; omega) hS.body (fun x hx => ⟨(good_of h0).body x hx, body_stat h0 x hx⟩)
 have HCE : Hid (faultL T = 0 → ∀ (ad : Option Addr) (c : Nat) (W : World), RowV W ad (allL 3 T) → Calls Tryz.prog 56 #[.slice ad (allL 3 T).length c] W fun e w' => e = .returned (.int .i64 (cellsL (allL 3 T))) ∧ Below W.heap.size W w') := fun h0 ad c W hr => by
  have := l5Cells_any (allL 3 T) ad (allL 3 T).length c W (Nat.le_refl _) hr ((good_of h0).sizes 3) ((good_of h0).all_len 3)
  rwa [List.take_length] at this
 have HBD : Hid (∀ W, Below w.heap.size w W → IntsV lo W vb T.body) := fun W hb => (h.tree.below hb).body
 have HC2 : Hid (∀ W, Below w.heap.size w W → W.cell? ⟨p, 2, none⟩ = some vb) := fun W hb => (h.below hb).c2
 have HSU : Hid (faultL T = 0 → ∀ (a : Option Addr) (c : Nat) (W : World), Below w.heap.size w W → Nums W a (costsF T.nodes T.nodes.length) → Calls Tryz.prog 137 #[.slice a T.nodes.length c, vb] W fun e w' => e = .returned (.int .i64 (sumAtL (costsF T.nodes T.nodes.length) T.body)) ∧ w' = W) := fun h0 a c W hb hn =>
  l5Sum_any (costsF T.nodes T.nodes.length) T.body a T.nodes.length c W.heap.size vb W (costsF_len _ _) (by have := (good_of h0).nodes; omega) hn (HBD.out W hb).toB (good_of h0).body (costsF_le T.nodes ((good_of h0).tame hS) _ (Nat.le_refl _)) hS.body
 have HSB : Hid (faultL T = 0 → 0 ≤ sumAtL (costsF T.nodes T.nodes.length) T.body ∧ sumAtL (costsF T.nodes T.nodes.length) T.body ≤ 104857600000) := fun h0 => sum_big (costsF_le T.nodes ((good_of h0).tame hS) _ (Nat.le_refl _)) hS.body
 have hpw : p < w.heap.size := World.block_lt_of_cell? _ _ h.c0
 obtain ⟨ab, cb, evb, _⟩ := id h.tree.body
 subst evb
 clear h hS
 obtain ⟨⟨⟨c1, c2⟩, c3⟩, hR⟩ : ∃ R, R = chkT T := ⟨_, rfl⟩
 rw [← hR]
 have HC : Hid (((c1, c2), c3) = if faultL T ≠ 0 then ((faultL T, -1), 0) else if namesF (allL 3 T) T.vars.length ≠ 0 then ((namesF (allL 3 T) T.vars.length, -1), 0)
   else if (bodyF (allL 3 T) T).1 ≠ 0 then (bodyF (allL 3 T) T, 0) else if 2000 < budT T ∨ 60 < cellsL (allL 3 T) then ((2, -1), 0) else ((0, 0), budT T)) := hR
 clear hR
 go_enter Tryz.func77, Tryz.ntmps77
 go_wp2_with fail
 have hA := heap_alloc_new w (.cells #[.int .i64 0, .int .i64 0, .int .i64 0] 34)
 have hB : Below w.heap.size w (w.alloc (.cells #[.int .i64 0, .int .i64 0, .int .i64 0] 34)) := (Below.refl _ _).alloc (Nat.le_refl _) _
 generalize w.alloc (.cells #[.int .i64 0, .int .i64 0, .int .i64 0] 34) = W1 at *
 refine (HF.out _ hB).mono ?_
 rintro e w2 ⟨rfl, hb⟩
 have HA : Hid (w2.heap[w.heap.size]? = some (.cells #[.int .i64 0, .int .i64 0, .int .i64 0] 34 (0, 0))) := blk hA hb
 have HB : Hid (Below w.heap.size w w2) := hB.trans (hb.mono hB.size)
 clear hA hB hb HF
 obtain ⟨F, hF⟩ : ∃ F, faultL T = F := ⟨_, rfl⟩
 have HFF : Hid (faultL T = F) := hF
 rw [hF]
 by_cases hz : F = 0
 ·subst hz
  have HCN : Hid (((c1, c2), c3) = if namesF (allL 3 T) T.vars.length ≠ 0 then ((namesF (allL 3 T) T.vars.length, -1), 0)
   else if (bodyF (allL 3 T) T).1 ≠ 0 then (bodyF (allL 3 T) T, 0) else if 2000 < budT T ∨ 60 < cellsL (allL 3 T) then ((2, -1), 0) else ((0, 0), budT T)) := by unfold Hid; rw [HC.out, hF, if_neg (by simp)]
  clear HC hF
  go_wp2_with fail
  refine (HNM.out HFF.out _ HB.out).mono ?_
  rintro e w3 ⟨rfl, hb⟩
  have HA3 : Hid (w3.heap[w.heap.size]? = some (.cells #[.int .i64 0, .int .i64 0, .int .i64 0] 34 (0, 0))) := blk HA.out hb
  have HB3 : Hid (Below w.heap.size w w3) := HB.out.trans (hb.mono HB.out.size)
  clear HA HB hb HNM
  obtain ⟨N, hN⟩ : ∃ N, namesF (allL 3 T) T.vars.length = N := ⟨_, rfl⟩
  rw [hN] at HCN ⊢
  clear hN
  by_cases hn : N = 0
  ·subst hn
   have HCB : Hid (((c1, c2), c3) = if (bodyF (allL 3 T) T).1 ≠ 0 then (bodyF (allL 3 T) T, 0) else if 2000 < budT T ∨ 60 < cellsL (allL 3 T) then ((2, -1), 0) else ((0, 0), budT T)) := by unfold Hid; rw [HCN.out, if_neg (by simp)]
   clear HCN
   go_wp2_with fail
   refine (HAL.out HFF.out _ HB3.out).mono ?_
   rintro e w4 ⟨v, rfl, hown, hb⟩
   obtain ⟨ad, cp, rfl⟩ := rowE_shape hown
   have HRV : Hid (RowV w4 ad (allL 3 T)) := RowV.of_own hown rfl
   have HA4 : Hid (w4.heap[w.heap.size]? = some (.cells #[.int .i64 0, .int .i64 0, .int .i64 0] 34 (0, 0))) := blk HA3.out hb
   have HB4 : Hid (Below w.heap.size w w4) := HB3.out.trans (hb.mono HB3.out.size)
   clear hown hb HA3 HB3 HAL
   have HLC := HLI.out HFF.out w4 w4.heap.size cp ad HB4.out HRV.out (Nat.le_refl _)
   have HL : Hid (ListC lo w4 w4.heap.size p cp (w4.heap.size + 1) ad T (allL 3 T) T.nodes.length [] T.body) := HLC
   clear HLC HLI
   have k5 := heap_alloc_new w4 (.cells #[.pointer (some ⟨p, 0, none⟩), .slice ad (allL 3 T).length cp, .slice none 0 0, .int .i64 0, .int .i64 0] 113)
   have hb5 : Below w4.heap.size w4 (w4.alloc (.cells #[.pointer (some ⟨p, 0, none⟩), .slice ad (allL 3 T).length cp, .slice none 0 0, .int .i64 0, .int .i64 0] 113)) := (Below.refl _ _).alloc (Nat.le_refl _) _
   have HCK : Hid (Chk w4 (w4.alloc (.cells #[.pointer (some ⟨p, 0, none⟩), .slice ad (allL 3 T).length cp, .slice none 0 0, .int .i64 0, .int .i64 0] 113)) w4.heap.size p ad (allL 3 T).length cp (.slice none 0 0) (0, 0)) := ⟨hb5, k5⟩
   have pc2 : (w4.alloc (.cells #[.pointer (some ⟨p, 0, none⟩), .slice ad (allL 3 T).length cp, .slice none 0 0, .int .i64 0, .int .i64 0] 113)).cell? ⟨p, 2, none⟩ = some (.slice ab T.body.length cb) := HC2.out _ (HB4.out.trans (hb5.mono HB4.out.size))
   have HB5 : Hid (Below w4.heap.size w4 (w4.alloc (.cells #[.pointer (some ⟨p, 0, none⟩), .slice ad (allL 3 T).length cp, .slice none 0 0, .int .i64 0, .int .i64 0] 113))) := hb5
   have hpw4 : p < w4.heap.size := Nat.lt_of_lt_of_le hpw HB4.out.size
   clear k5 hb5
   go_wp2_with fail
   generalize hW5 : w4.alloc (.cells #[.pointer (some ⟨p, 0, none⟩), .slice ad (allL 3 T).length cp, .slice none 0 0, .int .i64 0, .int .i64 0] 113) = W5 at *
   clear hW5
   refine (HL.out _ _ _ _ HCK.out (LoopO.nil _ _) (HBD.out _ HB4.out)).mono ?_
   rintro e w6 ⟨rfl, vl, hc6, hl6, hd6⟩
   have hb56 : Below w4.heap.size w4 w6 := hc6.bel
   have HA6 : Hid (w6.heap[w.heap.size]? = some (.cells #[.int .i64 0, .int .i64 0, .int .i64 0] 34 (0, 0))) := blk HA4.out hb56
   have HB6 : Hid (Below w.heap.size w w6) := HB4.out.trans (hb56.mono HB4.out.size)
   have HC6 : Hid (Chk w4 w6 w4.heap.size p ad (allL 3 T).length cp vl (bodyF (allL 3 T) T)) := hc6
   have HRV6 : Hid (RowV w6 ad (allL 3 T)) := HRV.out.below hb56
   clear hc6 hl6 hd6 hb56 HCK HB5 HL HA4 HB4 HRV pc2
   generalize w4.heap.size = kp at *
   obtain ⟨⟨s1, s2⟩, hs⟩ : ∃ s, s = bodyF (allL 3 T) T := ⟨_, rfl⟩
   rw [← hs] at HC6 HCB
   clear hs
   have k1 := cell_of_row _ _ 1 _ _ _ HC6.out.row
   have k3 := cell_of_row _ _ 3 _ _ _ HC6.out.row
   have k4 := cell_of_row _ _ 4 _ _ _ HC6.out.row
   have r0 := cell_of_row _ _ 0 _ _ _ HA6.out
   have r1 := cell_of_row _ _ 1 _ _ _ HA6.out
   have r2 := cell_of_row _ _ 2 _ _ _ HA6.out
   have f0 := frozen_of_row _ _ 0 _ _ HA6.out
   have f1 := frozen_of_row _ _ 1 _ _ HA6.out
   have f2 := frozen_of_row _ _ 2 _ _ HA6.out
   simp at k1 k3 k4 r0 r1 r2 f0 f1 f2
   by_cases hs1 : s1 = 0
   ·subst hs1
    have HCW : Hid (((c1, c2), c3) = if 2000 < budT T ∨ 60 < cellsL (allL 3 T) then ((2, -1), 0) else ((0, 0), budT T)) := by unfold Hid; rw [HCB.out, if_neg (by simp)]
    have pc2 := HC2.out _ HB6.out
    have hkl : kp < w6.heap.size := blk_lt HC6.out.row
    have hrl : w.heap.size < w6.heap.size := blk_lt HA6.out
    have hpl : p < w6.heap.size := Nat.lt_of_lt_of_le hpw HB6.out.size
    have HCX : Hid (Calls Tryz.prog 138 #[.pointer (some ⟨p, 0, none⟩)] w6.drew fun e w2 => ∃ v, e = .returned v ∧ Own w2 w6.drew.heap.size v (costsF T.nodes T.nodes.length) ∧ Below w6.drew.heap.size w6.drew w2) := HCO.out HFF.out w6.drew HB6.out.drew
    have HB7 : Hid (Below w.heap.size w w6.drew) := HB6.out.drew
    have HS7 : Hid (∀ (a : Option Addr) (c : Nat) (W : World), Below w.heap.size w W → Nums W a (costsF T.nodes T.nodes.length) → Calls Tryz.prog 137 #[.slice a T.nodes.length c, .slice ab T.body.length cb] W fun e w' => e = .returned (.int .i64 (sumAtL (costsF T.nodes T.nodes.length) T.body)) ∧ w' = W) := HSU.out HFF.out
    have hsb := HSB.out HFF.out
    have HCL : Hid (∀ (W : World), RowV W ad (allL 3 T) → Calls Tryz.prog 56 #[.slice ad (allL 3 T).length cp] W fun e w' => e = .returned (.int .i64 (cellsL (allL 3 T))) ∧ Below W.heap.size W w') := fun W hr => HCE.out HFF.out ad cp W hr
    have HBU : Hid (budT T = 1 + sumAtL (costsF T.nodes T.nodes.length) T.body) := rfl
    have HK1 : Hid (w6.cell? ⟨kp, 1, none⟩ = some (.slice ad (allL 3 T).length cp)) := k1
    clear HCB HCO HSU HSB HCE HC6 HFF k4 k1 r0 r1 r2 f0 f1 f2
    have HDL : Hid ((costsF T.nodes T.nodes.length).length = T.nodes.length) := costsF_len _ _
    obtain ⟨ds, hds⟩ : ∃ ds, ds = costsF T.nodes T.nodes.length := ⟨_, rfl⟩
    rw [← hds] at HCX HS7 hsb HBU HDL
    clear hds
    obtain ⟨sm, hsm⟩ : ∃ sm, sm = sumAtL ds T.body := ⟨_, rfl⟩
    rw [← hsm] at HS7 hsb HBU
    clear hsm
    go_wp2_with fail
    go_region_held3 (fun Z => Z.cell? ⟨p, 2, none⟩ = some (.slice ab T.body.length cb)) (go_keep) (first | (go_at_call 138; refine HCX.out.mono ?_; rintro e w7 ⟨v7, rfl, hown7, hb7⟩; obtain ⟨a7, c7, rfl⟩ := own_shape hown7; have q2 := (hb7.cell (p := ⟨p, 2, none⟩) hpl).trans pc2; have HNU : Hid (Nums w7 a7 ds) := (nums_of_own hown7).2; have HB8 : Hid (Below w6.drew.heap.size w6.drew w7) := hb7; have HB9 : Hid (Below w.heap.size w w7) := HB7.out.trans (hb7.mono HB7.out.size); rw [HDL.out]; clear hown7 hb7) | (go_at_call 137; refine (HS7.out _ _ _ HB9.out HNU.out).mono ?_; rintro e w8 ⟨rfl, rfl⟩))
    clear pc2 HCX HS7 k3
    have HB10 : Hid (Below w.heap.size w w8) := HB9
    have HA9 : Hid (w8.heap[w.heap.size]? = some (.cells #[.int .i64 0, .int .i64 0, .int .i64 0] 34 (0, 0))) := (HB8.out.block w.heap.size hrl).trans HA6.out
    have k1 : w8.cell? ⟨kp, 1, none⟩ = some (.slice ad (allL 3 T).length cp) := (HB8.out.cell (p := ⟨kp, 1, none⟩) hkl).trans HK1.out
    have HRV8 : Hid (RowV w8 ad (allL 3 T)) := by
     refine RowV.below (w := w6.drew) ?_ HB8.out
     exact rowV_drew HRV6.out
    try clear q2
    try clear HNU
    clear HB8 HA6 HK1 HRV6 HB6 HB7 HB9
    by_cases hbu : 2000 < 1 + sm
    ·have hb1 : decide ((2000 : Int) < 1 + sm) = true := decide_eq_true hbu
     have HCV : Hid (((c1, c2), c3) = ((2, -1), 0)) := by unfold Hid; rw [HCW.out, if_pos (Or.inl (by rw [HBU.out]; exact hbu))]
     have r0 := cell_of_row _ _ 0 _ _ _ HA9.out
     have r1 := cell_of_row _ _ 1 _ _ _ HA9.out
     have r2 := cell_of_row _ _ 2 _ _ _ HA9.out
     have f0 := frozen_of_row _ _ 0 _ _ HA9.out
     have f1 := frozen_of_row _ _ 1 _ _ HA9.out
     have f2 := frozen_of_row _ _ 2 _ _ HA9.out
     simp at r0 r1 r2 f0 f1 f2
     clear HCW hbu HCL
     go_wp2_with fail
     refine bodyPost_ret (v := .agg #[.int .i64 2, .int .i64 (-1), .int .i64 (0)]) (by simp [results, Tryz.results77, go_sem, r0, r1, r2]) rfl ⟨?_, ((HB10.out.setCell (by simp) _).setCell (by simp) _).setCell (by simp) _⟩
     have e := HCV.out
     injection e with e1 e3
     injection e1 with e1 e2
     rw [e1, e2, e3]
    ·have hb1 : decide ((2000 : Int) < 1 + sm) = false := decide_eq_false hbu
     by_cases hce : 60 < cellsL (allL 3 T)
     ·have HCV : Hid (((c1, c2), c3) = ((2, -1), 0)) := by unfold Hid; rw [HCW.out, if_pos (Or.inr hce)]
      clear HCW hbu
      go_wp2_with fail
      refine (HCL.out _ HRV8.out).mono ?_
      rintro e w10 ⟨rfl, hb⟩
      have HB11 : Hid (Below w.heap.size w w10) := HB10.out.trans (hb.mono HB10.out.size)
      have HA10 := blk HA9.out hb
      clear HA9 hb
      have HA9 : Hid _ := HA10
      have r0 := cell_of_row _ _ 0 _ _ _ HA9.out
      have r1 := cell_of_row _ _ 1 _ _ _ HA9.out
      have r2 := cell_of_row _ _ 2 _ _ _ HA9.out
      have f0 := frozen_of_row _ _ 0 _ _ HA9.out
      have f1 := frozen_of_row _ _ 1 _ _ HA9.out
      have f2 := frozen_of_row _ _ 2 _ _ HA9.out
      simp at r0 r1 r2 f0 f1 f2
      clear HA10 k1 HCL
      go_wp2_with fail
      refine bodyPost_ret (v := .agg #[.int .i64 2, .int .i64 (-1), .int .i64 (0)]) (by simp [results, Tryz.results77, go_sem, r0, r1, r2]) rfl ⟨?_, ((HB11.out.setCell (by simp) _).setCell (by simp) _).setCell (by simp) _⟩
      have e := HCV.out
      injection e with e1 e3
      injection e1 with e1 e2
      rw [e1, e2, e3]
     ·have HCV : Hid (((c1, c2), c3) = ((0, 0), 1 + sm)) := by unfold Hid; rw [HCW.out, if_neg (by rw [HBU.out]; exact fun h => h.elim hbu hce), HBU.out]
      clear HCW hbu
      go_wp2_with fail
      refine (HCL.out _ HRV8.out).mono ?_
      rintro e w10 ⟨rfl, hb⟩
      have HB11 : Hid (Below w.heap.size w w10) := HB10.out.trans (hb.mono HB10.out.size)
      have HA10 := blk HA9.out hb
      clear HA9 hb
      have HA9 : Hid _ := HA10
      have r0 := cell_of_row _ _ 0 _ _ _ HA9.out
      have r1 := cell_of_row _ _ 1 _ _ _ HA9.out
      have r2 := cell_of_row _ _ 2 _ _ _ HA9.out
      have f0 := frozen_of_row _ _ 0 _ _ HA9.out
      have f1 := frozen_of_row _ _ 1 _ _ HA9.out
      have f2 := frozen_of_row _ _ 2 _ _ HA9.out
      simp at r0 r1 r2 f0 f1 f2
      clear HA10 k1 HCL
      go_wp2_with fail
      refine bodyPost_ret (v := .agg #[.int .i64 0, .int .i64 (0), .int .i64 (1 + sm)]) (by simp [results, Tryz.results77, go_sem, r0, r1, r2]) rfl ⟨?_, ((HB11.out.setCell (by simp) _).setCell (by simp) _).setCell (by simp) _⟩
      have e := HCV.out
      injection e with e1 e3
      injection e1 with e1 e2
      rw [e1, e2, e3]
   ·have hsb : (s1 == 0) = false := by simpa using hs1
    have hsd : decide (s1 = 0) = false := decide_eq_false hs1
    have HCW : Hid (((c1, c2), c3) = ((s1, s2), 0)) := by unfold Hid; rw [HCB.out, if_pos hs1]
    clear HCB
    go_wp2_with fail
    refine bodyPost_ret (v := .agg #[.int .i64 s1, .int .i64 s2, .int .i64 0]) (by simp [results, Tryz.results77, go_sem, r0, r1, r2]) rfl ⟨?_, ((HB6.out.setCell (by simp) _).setCell (by simp) _).setCell (by simp) _⟩
    have e := HCW.out
    injection e with e1 e3
    injection e1 with e1 e2
    rw [e1, e2, e3]
  ·have hnb : (N == 0) = false := by simpa using hn
   have hnd : decide (N = 0) = false := decide_eq_false hn
   have HCW : Hid (((c1, c2), c3) = ((N, -1), 0)) := by unfold Hid; rw [HCN.out, if_pos hn]
   have r0 := cell_of_row _ _ 0 _ _ _ HA3.out
   have r1 := cell_of_row _ _ 1 _ _ _ HA3.out
   have r2 := cell_of_row _ _ 2 _ _ _ HA3.out
   have f0 := frozen_of_row _ _ 0 _ _ HA3.out
   have f1 := frozen_of_row _ _ 1 _ _ HA3.out
   have f2 := frozen_of_row _ _ 2 _ _ HA3.out
   simp at r0 r1 r2 f0 f1 f2
   clear HCN
   go_wp2_with fail
   refine bodyPost_ret (v := .agg #[.int .i64 N, .int .i64 (-1), .int .i64 0]) (by simp [results, Tryz.results77, go_sem, r0, r1, r2]) rfl ⟨?_, ((HB3.out.setCell (by simp) _).setCell (by simp) _).setCell (by simp) _⟩
   have e := HCW.out
   injection e with e1 e3
   injection e1 with e1 e2
   rw [e1, e2, e3]
 ·have hzb : (F == 0) = false := by simpa using hz
  have hzd : decide (F = 0) = false := decide_eq_false hz
  have HCW : Hid (((c1, c2), c3) = ((F, -1), 0)) := by unfold Hid; rw [HC.out, hF, if_pos hz]
  have r0 := cell_of_row _ _ 0 _ _ _ HA.out
  have r1 := cell_of_row _ _ 1 _ _ _ HA.out
  have r2 := cell_of_row _ _ 2 _ _ _ HA.out
  have f0 := frozen_of_row _ _ 0 _ _ HA.out
  have f1 := frozen_of_row _ _ 1 _ _ HA.out
  have f2 := frozen_of_row _ _ 2 _ _ HA.out
  simp at r0 r1 r2 f0 f1 f2
  clear HC hF
  go_wp2_with fail
  refine bodyPost_ret (v := .agg #[.int .i64 F, .int .i64 (-1), .int .i64 0]) (by simp [results, Tryz.results77, go_sem, r0, r1, r2]) rfl ⟨?_, ((HB.out.setCell (by simp) _).setCell (by simp) _).setCell (by simp) _⟩
  have e := HCW.out
  injection e with e1 e3
  injection e1 with e1 e2
  rw [e1, e2, e3]
theorem specCheckTree_of (lo : Nat) (vv vn vb : Value) (T : LTree) (w : World) (h : TreeV lo w vv vn vb T) (hS : Sized 1048576 T) :
  Calls Tryz.prog 23 #[treeV vv vn vb] w fun e w' => e = .returned (.agg #[.int .i64 (chkT T).1.1, .int .i64 (chkT T).1.2, .int .i64 (chkT T).2]) ∧ Below w.heap.size w w' := by
 have HX : Hid (∀ (W : World), Below w.heap.size w W → W.heap[w.heap.size]? = some (.cells #[vv, vn, vb] 28 (0, 0)) → Calls Tryz.prog 77 #[.pointer (some ⟨w.heap.size, 0, none⟩)] W fun e w' => e = .returned (.agg #[.int .i64 (chkT T).1.1, .int .i64 (chkT T).1.2, .int .i64 (chkT T).2]) ∧ Below W.heap.size W w') := fun W hb hA =>
  l5Tree_any lo w.heap.size vv vn vb T W ⟨cell_of_row _ _ 0 _ _ _ hA, cell_of_row _ _ 1 _ _ _ hA, cell_of_row _ _ 2 _ _ _ hA, h.below hb⟩ hS
 obtain ⟨av, cv, rfl, _⟩ := id h.vars
 obtain ⟨an, cn, rfl, _⟩ := id h.nodes
 obtain ⟨ab, cb, rfl, _⟩ := id h.body
 clear h hS
 generalize (chkT T).1.1 = c1 at *
 generalize (chkT T).1.2 = c2 at *
 generalize (chkT T).2 = c3 at *
 go_enter Tryz.func23, Tryz.ntmps23
 go_wp2_with fail
 obtain ⟨hA, hA2, hB⟩ := three_start w (.slice av T.vars.length cv) (.slice an T.nodes.length cn) (.slice ab T.body.length cb) 28 34
 generalize ((w.alloc (.cells #[.slice av T.vars.length cv, .slice an T.nodes.length cn, .slice ab T.body.length cb] 28)).alloc (.cells #[.int .i64 0, .int .i64 0, .int .i64 0] 34)) = W at *
 refine (HX.out _ hB hA).mono ?_
 rintro e w2 ⟨rfl, hb⟩
 have hA3 := blk hA2 hb
 have HB : Hid (Below w.heap.size w w2) := hB.trans (hb.mono hB.size)
 have r0 := cell_of_row _ _ 0 _ _ _ hA3
 have r1 := cell_of_row _ _ 1 _ _ _ hA3
 have r2 := cell_of_row _ _ 2 _ _ _ hA3
 have f0 := frozen_of_row _ _ 0 _ _ hA3
 have f1 := frozen_of_row _ _ 1 _ _ hA3
 have f2 := frozen_of_row _ _ 2 _ _ hA3
 simp at r0 r1 r2 f0 f1 f2
 clear hA hA2 hB hb hA3 HX
 go_wp2_with fail
 refine bodyPost_ret (v := .agg #[.int .i64 c1, .int .i64 c2, .int .i64 c3]) (by simp [results, Tryz.results23, go_sem, r0, r1, r2]) rfl ⟨rfl, ((HB.out.setCell (by simp) _).setCell (by simp) _).setCell (by simp) _⟩
set_option maxHeartbeats 6400000 in
set_option maxRecDepth 100000 in
theorem budgetOf_any (lo : Nat) (vv vn vb : Value) (T : LTree) (w : World) (h : TreeV lo w vv vn vb T) (hS : Sized 1048576 T) (hG : Good T) :
  Calls Tryz.prog 54 #[treeV vv vn vb] w fun e w' => e = .returned (.int .i64 (budT T)) ∧ Below w.heap.size w w' := by
 obtain ⟨av, cv, rfl, _⟩ := id h.vars
 obtain ⟨an, cn, rfl, _⟩ := id h.nodes
 obtain ⟨ab, cb, rfl, _⟩ := id h.body
 have HCO : Hid (∀ (w' : World), Below w.heap.size w w' → Calls Tryz.prog 116 #[.slice an T.nodes.length cn] w' fun e w2 => e = .returned (.slice (some ⟨w'.heap.size, 0, none⟩) T.nodes.length T.nodes.length) ∧ Cnt w2 w'.heap.size 2 (costsF T.nodes T.nodes.length) ∧ Below w'.heap.size w' w2) := fun w' hb =>
  costs_any lo an cn T.nodes w' (h.nodes.below hb) hG.nodes (hG.tame hS) (fun k n hk => (hG.node k n hk).2)
 have HSU : Hid (∀ (a : Option Addr) (c : Nat) (W : World), Below w.heap.size w W → Nums W a (costsF T.nodes T.nodes.length) → Calls Tryz.prog 115 #[.slice a T.nodes.length c, .slice ab T.body.length cb] W fun e w' => e = .returned (.int .i64 (sumAtL (costsF T.nodes T.nodes.length) T.body)) ∧ w' = W) := fun a c W hb hn =>
  sumAt_any (costsF T.nodes T.nodes.length) T.body a T.nodes.length c W.heap.size _ W (costsF_len _ _) (by have := hG.nodes; omega) hn ((h.below hb).body).toB hG.body (costsF_le T.nodes (hG.tame hS) _ (Nat.le_refl _)) hS.body
 have hsb := sum_big (costsF_le T.nodes (hG.tame hS) _ (Nat.le_refl _)) hS.body
 have HDL : Hid ((costsF T.nodes T.nodes.length).length = T.nodes.length) := costsF_len _ _
 have HBU : Hid (budT T = 1 + sumAtL (costsF T.nodes T.nodes.length) T.body) := rfl
 clear h hS hG
 obtain ⟨ds, hds⟩ : ∃ ds, ds = costsF T.nodes T.nodes.length := ⟨_, rfl⟩
 rw [← hds] at HCO HSU hsb HDL HBU
 clear hds
 obtain ⟨sm, hsm⟩ : ∃ sm, sm = sumAtL ds T.body := ⟨_, rfl⟩
 rw [← hsm] at HSU hsb HBU
 clear hsm
 go_enter Tryz.func54, Tryz.ntmps54
 go_wp2_with fail
 have hb1 : Below w.heap.size w (w.alloc (.cells #[.slice av T.vars.length cv, .slice an T.nodes.length cn, .slice ab T.body.length cb] 28)) := (Below.refl _ _).alloc (Nat.le_refl _) _
 have hA := heap_alloc_new w (.cells #[.slice av T.vars.length cv, .slice an T.nodes.length cn, .slice ab T.body.length cb] 28)
 generalize w.alloc (.cells #[.slice av T.vars.length cv, .slice an T.nodes.length cn, .slice ab T.body.length cb] 28) = W1 at *
 have p1 : W1.cell? ⟨w.heap.size, 1, none⟩ = some (.slice an T.nodes.length cn) := cell_of_row _ _ 1 _ _ _ hA
 have p2 : W1.cell? ⟨w.heap.size, 2, none⟩ = some (.slice ab T.body.length cb) := cell_of_row _ _ 2 _ _ _ hA
 have hlt := blk_lt hA
 have HB1 : Hid (Below w.heap.size w W1.drew) := hb1.drew
 clear hA hb1
 go_region_held3 (fun Z => Z.cell? ⟨w.heap.size, 1, none⟩ = some (.slice an T.nodes.length cn) ∧ Z.cell? ⟨w.heap.size, 2, none⟩ = some (.slice ab T.body.length cb)) (go_keep) (first | (go_at_call 116; refine (HCO.out _ HB1.out).mono ?_; rintro e w7 ⟨rfl, hcnt, hb7⟩; have q1 := (hb7.cell (p := ⟨w.heap.size, 1, none⟩) hlt).trans p1; have q2 := (hb7.cell (p := ⟨w.heap.size, 2, none⟩) hlt).trans p2; have HNU : Hid (Nums w7 (some ⟨W1.drew.heap.size, 0, none⟩) ds) := .inr ⟨_, 0, rfl, fun i hi => by rw [Nat.zero_add]; exact (hcnt.cell i hi).1⟩; have HB9 : Hid (Below w.heap.size w w7) := HB1.out.trans (hb7.mono HB1.out.size); clear hcnt hb7) | (go_at_call 115; refine (HSU.out _ _ _ HB9.out HNU.out).mono ?_; rintro e w8 ⟨rfl, rfl⟩))
 clear p1 p2 q1 q2 HCO HSU
 go_wp2_with fail
 go_ret
 have e : Ending.returned (Value.int .i64 (IntKind.i64.wrap (1 + sm))) = Ending.returned (Value.int .i64 (budT T)) := by rw [HBU.out, IntWalk.i64_in _ (by omega)]
 exact ⟨e, HB9.out⟩
end Go.Proofs.YtdnhmpemkpjcaaaGreatDoor
namespace Go.Proofs.YtdnhmpemkpjcaaaGreatDoor
open Go.RowKit
open Go.Maps
set_option linter.unusedVariables false
theorem first_some (V : List LVar) (nm : List UInt8) : ∀ k, k ≤ V.length → ((firstI V nm k).isSome = true ↔ ∃ v ∈ V.take k, v.name = nm) := by
 intro k
 induction k with
 | zero => intro _; simp [firstI]
 | succ k ih =>
  intro hk
  have hk2 : k < V.length := by omega
  rw [List.take_succ_eq_append_getElem hk2]
  have e : V.getD k default = V[k] := by rw [List.getD_eq_getElem?_getD, List.getElem?_eq_getElem hk2]; rfl
  cases hf : firstI V nm k with
  | some i =>
   rw [firstI_some hf]
   have h1 := (ih (by omega)).1 (by rw [hf]; rfl)
   obtain ⟨v, hv, e2⟩ := h1
   exact ⟨fun _ => ⟨v, List.mem_append.2 (.inl hv), e2⟩, fun _ => rfl⟩
  | none =>
   have h1 : ¬ ∃ v ∈ V.take k, v.name = nm := fun h => by
    have := (ih (by omega)).2 h
    rw [hf] at this; cases this
   by_cases he : (V.getD k default).name = nm
   ·rw [firstI_hit hf he]
    rw [e] at he
    exact ⟨fun _ => ⟨V[k], List.mem_append.2 (.inr (List.mem_singleton.2 rfl)), he⟩, fun _ => rfl⟩
   ·rw [firstI_miss hf he]
    rw [e] at he
    refine ⟨fun h => (by cases h), fun ⟨v, hv, e2⟩ => ?_⟩
    rcases List.mem_append.1 hv with hv | hv
    ·exact absurd ⟨v, hv, e2⟩ h1
    ·rw [List.mem_singleton] at hv; subst hv; exact absurd e2 he
theorem nameD_tidy (V : List LVar) (nv : Nat) : ∀ k, Tidy (nameD V nv k) := by
 intro k
 induction k with
 | zero => exact tidy_empty
 | succ k ih =>
  unfold nameD
  split
  ·exact ih
  ·exact ih.put (key_lit _) _
theorem nameD_size (V : List LVar) (nv : Nat) : ∀ k, k ≤ V.length → Maps.size (nameD V nv k) ≤ k ∧ (Maps.size (nameD V nv k) = k ↔ ∀ j, j < k → varFrom (V.getD j default).name (V.take j) 0 < 0) := by
 intro k
 induction k with
 | zero => intro _; exact ⟨Nat.le_refl _, ⟨fun _ j hj => by omega, fun _ => rfl⟩⟩
 | succ k ih =>
  intro hk
  obtain ⟨h1, h2⟩ := ih (by omega)
  have hfs := first_some V (V.getD k default).name k (by omega)
  have hvm := varFrom_mem (V.getD k default).name (V.take k) 0
  unfold nameD
  by_cases hs : (firstI V (V.getD k default).name k).isSome = true
  ·rw [if_pos hs]
   refine ⟨by omega, ⟨fun e => by omega, fun h => ?_⟩⟩
   have h3 := h k (by omega)
   have h4 := hvm.2 (hfs.1 hs)
   omega
  ·rw [if_neg hs, size_put (nameD_tidy V nv k)]
   rw [(nameD_at V nv (.held noVal) k (V.getD k default).name).1, if_neg hs]
   have h5 : varFrom (V.getD k default).name (V.take k) 0 < 0 := Classical.byContradiction fun h => hs (hfs.2 (hvm.1 (by omega)))
   refine ⟨by omega, ⟨fun e j hj => ?_, fun h => ?_⟩⟩
   ·by_cases ej : j = k
    ·rw [ej]; exact h5
    ·exact h2.1 (by omega) j (by omega)
   ·have := h2.2 (fun j hj => h j (by omega)); omega
theorem size_dup (V : List LVar) (nv : Nat) : Maps.size (nameD V nv V.length) ≤ V.length ∧ (Maps.size (nameD V nv V.length) < V.length ↔ dupB V = true) := by
 obtain ⟨h1, h2⟩ := nameD_size V nv V.length (Nat.le_refl _)
 refine ⟨h1, ⟨fun h => ?_, fun h => ?_⟩⟩
 ·cases hd : dupB V with
  | true => rfl
  | false =>
   exfalso
   have : Maps.size (nameD V nv V.length) = V.length := h2.2 fun j hj => by
    refine Classical.byContradiction fun hh => ?_
    rw [dup_hit hj (by omega)] at hd; cases hd
   omega
 ·refine Nat.lt_of_le_of_ne h1 fun e => ?_
  have := dup_none (h2.1 e)
  rw [this] at h; cases h
end Go.Proofs.YtdnhmpemkpjcaaaGreatDoor
namespace Go.Proofs.YtdnhmpemkpjcaaaGreatDoor
open Go.RowKit
set_option linter.unusedVariables false
attribute [local go_sem] bs_size bs_get bs_extract bs_append bs_eq bs_toList
set_option maxHeartbeats 6400000 in
set_option maxRecDepth 100000 in
theorem namesFault_any (V : List LVar) (nv : Nat) (ad : Option Addr) (k c : Nat) (w : World) (hk : k = V.length) (hV : RowE w ad V nv) (hl : V.length ≤ 624) (hn : ∀ x ∈ V, x.name.length ≤ 1048576) (hnv : nv ≤ V.length) :
  Calls Tryz.prog 113 #[.slice ad k c] w fun e w' => e = .returned (.int .i64 (namesF V nv)) ∧ Below w.heap.size w w' := by
 subst hk
 have HV : Hid (RowE w ad V nv) := hV
 have HBN : Hid (Calls Tryz.prog 58 #[.slice ad V.length c] w fun e w' => e = .returned (.map (some w.heap.size)) ∧ w'.ownsMap Tryz.prog 9 heldR w.heap.size V.length (nameD V nv V.length) ∧ Below w.heap.size w w') := byName_any V nv ad V.length c w rfl hV hl hn
 have HNM : Hid (∀ x ∈ V, x.name.length ≤ 1048576) := hn
 obtain ⟨hsd1, hsd2⟩ := size_dup V nv
 obtain ⟨sz, hsz⟩ : ∃ sz, sz = Maps.size (nameD V nv V.length) := ⟨_, rfl⟩
 have HLEN : Hid (∀ (W : World), W.ownsMap Tryz.prog 9 heldR w.heap.size V.length (nameD V nv V.length) → (Builtin.len_ #[102] 3 #[.map (some w.heap.size)]).run Tryz.prog W = .ok (.int .i64 (sz : Int)) W) := fun W h => by rw [hsz]; exact h.len Tryz.underlying102 _
 rw [← hsz] at hsd1 hsd2
 obtain ⟨R, hR⟩ : ∃ R, R = namesF V nv := ⟨_, rfl⟩
 rw [← hR]
 have HR : Hid (R = if dupB V then 7 else if (V.drop nv).any (fun v => !isNameL v.name) then 5 else 0) := hR
 clear hV hn hR hsz
 go_enter Tryz.func113, Tryz.ntmps113
 go_wp2_with fail
 refine HBN.out.mono ?_
 rintro e w1 ⟨rfl, hm, hb⟩
 have hlen := HLEN.out w1 hm
 have HB : Hid (Below w.heap.size w w1) := hb
 clear hm hb HBN HLEN
 by_cases hd : sz < V.length
 ·have HR2 : Hid (R = 7) := by unfold Hid; rw [HR.out, hsd2.1 hd, if_pos rfl]
  clear HR hsd2
  go_wp2_with fail
  go_ret
  exact ⟨by rw [HR2.out]; rfl, HB.out⟩
 ·have hdf : dupB V = false := by cases h : dupB V with
   | false => rfl
   | true => exact absurd (hsd2.2 h) hd
  have HR2 : Hid (R = if (V.drop (max nv 0)).any (fun v => !isNameL v.name) then 5 else 0) := by unfold Hid; rw [HR.out, hdf, Nat.max_zero]; rfl
  clear HR hsd2 hdf
  go_wp2_with fail
  go_loopw [13] (fun i wr => ∃ j : Nat, j ≤ V.length ∧ i = .int .i64 j ∧ Hid (R = if (V.drop (max nv j)).any (fun v => !isNameL v.name) then 5 else 0) ∧ Hid (Below w.heap.size w wr)) (fun i _ => V.length - (intOf i).toNat)
  case atStart => exact ⟨0, by omega, rfl, HR2, HB⟩
  case round =>
   clear HR2 HB hlen
   obtain ⟨j, hj, rfl, HR, HB⟩ := hrel
   by_cases hlt : j < V.length
   ·obtain ⟨x, hx⟩ : ∃ x, V[j]? = some x := ⟨V[j]'(by omega), List.getElem?_eq_getElem _⟩
    obtain ⟨g, rfl, hc⟩ := (HV.out.below HB.out) (by intro e; rw [e] at hx; simp at hx)
    obtain ⟨⟨c0, c1, c2, c3⟩, c4, c5⟩ := hc j x hx
    have hj0 : (0 : Int) ≤ (j : Int) := by omega
    have hj1 : (j : Int) < (V.length : Int) := by omega
    have hxn := HNM.out x (List.mem_of_getElem? hx)
    have hwz := HB.out.size
    have HBX : Hid (∀ o, Below w.heap.size w (wr.alloc o)) := fun o => HB.out.alloc hwz o
    by_cases hov : nv ≤ j
    ·have HST : Hid (R = if (!isNameL x.name || (V.drop (j + 1)).any (fun v => !isNameL v.name)) then 5 else 0) := by unfold Hid; rw [HR.out, show max nv j = j by omega, any_drop_step hx]
     have hod : decide (nv ≤ j) = true := decide_eq_true hov
     rw [hod] at c4
     obtain ⟨q, hq⟩ : ∃ q, isNameL x.name = q := ⟨_, rfl⟩
     have HIN : Hid (∀ w, Calls Tryz.prog 104 #[.string (bs x.name)] w fun e w' => e = .returned (.bool q) ∧ w' = w) := fun w => by rw [← hq]; exact iIsName_any x.name w (by omega)
     rw [hq] at HST
     clear hx hc HR hq hod HB
     generalize cellsL (V.take j) = s at *
     cases q with
     | true =>
      have HR3 : Hid (R = if (V.drop (max nv (j + 1))).any (fun v => !isNameL v.name) then 5 else 0) := by unfold Hid; rw [show max nv (j + 1) = j + 1 by omega]; exact HST.out
      clear HST hov
      go_wp2_with fail
      refine (HIN.out _).mono ?_
      rintro e w8 ⟨rfl, rfl⟩
      have HB8 : Hid (Below w.heap.size w _) := HBX.out (.cells #[.string (bs x.name), .int .i64 x.kind, .int .i64 x.type, .int .i64 x.size, .bool true, .int .i64 s] 100)
      clear HIN c0 c1 c2 c3 c4 c5
      go_wp2_with fail
      go_roundw
      case rel => exact ⟨j + 1, by omega, by go_num, HR3, HB8⟩
      case measure => simp [intOf]; omega
     | false =>
      have HR3 : Hid (R = 5) := by unfold Hid; rw [HST.out]; rfl
      clear HST hov
      go_wp2_with fail
      refine (HIN.out _).mono ?_
      rintro e w8 ⟨rfl, rfl⟩
      have HB8 : Hid (Below w.heap.size w _) := HBX.out (.cells #[.string (bs x.name), .int .i64 x.kind, .int .i64 x.type, .int .i64 x.size, .bool true, .int .i64 s] 100)
      clear HIN c0 c1 c2 c3 c4 c5
      go_wp2_with fail
      go_ret
      exact ⟨by rw [HR3.out]; rfl, HB8.out⟩
    ·have HR3 : Hid (R = if (V.drop (max nv (j + 1))).any (fun v => !isNameL v.name) then 5 else 0) := by unfold Hid; rw [HR.out, show max nv (j + 1) = max nv j by omega]
     have hod : decide (nv ≤ j) = false := decide_eq_false hov
     rw [hod] at c4
     clear hx hc HR hod HB hov
     generalize cellsL (V.take j) = s at *
     have HB8 : Hid (Below w.heap.size w _) := HBX.out (.cells #[.string (bs x.name), .int .i64 x.kind, .int .i64 x.type, .int .i64 x.size, .bool false, .int .i64 s] 100)
     go_wp2_with fail
     go_roundw
     case rel => exact ⟨j + 1, by omega, by go_num, HR3, HB8⟩
     case measure => simp [intOf]; omega
   ·have hje : j = V.length := by omega
    have HR3 : Hid (R = 0) := by unfold Hid; rw [HR.out, show max nv j = V.length by omega, List.drop_length]; rfl
    clear HR hje
    go_wp2_with fail
    go_ret
    exact ⟨by rw [HR3.out]; rfl, HB.out⟩
def mayF (T : LTree) : Met :=
 if namesF (allL 0 T) T.vars.length ≠ 0 then (namesF (allL 0 T) T.vars.length, -1)
 else if (bodyF (allL 0 T) T).1 ≠ 0 then bodyF (allL 0 T) T else if 2000 < budT T ∨ 60 < cellsL (allL 0 T) then (2, -1) else (0, 0)
set_option maxHeartbeats 12800000 in
set_option maxRecDepth 100000 in
theorem mayRun_any (lo : Nat) (vv vn vb : Value) (T : LTree) (w : World) (h : TreeV lo w vv vn vb T) (hS : Sized 1048576 T) (h0 : faultL T = 0) :
  Calls Tryz.prog 53 #[treeV vv vn vb] w fun e w' => e = .returned (errV (mayF T)) ∧ Below w.heap.size w w' := by
 have hG := good_of h0
 have HVA : Hid (∀ (w' : World), Below w.heap.size w w' → Calls Tryz.prog 51 #[treeV vv vn vb] w' fun e w2 => ∃ v, e = .returned v ∧ w2.ownsRow w'.heap.size 100 6 v (allL 0 T).length (entC (allL 0 T) T.vars.length (allL 0 T).length) ∧ Below w'.heap.size w' w2) := fun w' hb => variablesOf_any lo vv vn vb T w' (h.below hb) hG
 have HNF : Hid (∀ (ad : Option Addr) (c : Nat) (W : World), RowE W ad (allL 0 T) T.vars.length → Calls Tryz.prog 113 #[.slice ad (allL 0 T).length c] W fun e w' => e = .returned (.int .i64 (namesF (allL 0 T) T.vars.length)) ∧ Below W.heap.size W w') := fun ad c W hr =>
  namesFault_any (allL 0 T) T.vars.length ad _ c W rfl hr (hG.all_len 0) (fun x hx => by have := all_names hG 0 x hx; omega) (by unfold allL; rw [List.length_append]; omega)
 have HCC : Hid (∀ (ad : Option Addr) (c : Nat) (W : World), RowE W ad (allL 0 T) T.vars.length → Calls Tryz.prog 50 #[.slice ad (allL 0 T).length c] W fun e w' => e = .returned (.int .i64 (cellsL (allL 0 T))) ∧ Below W.heap.size W w') := fun ad c W hr => cellCount_any (allL 0 T) T.vars.length ad _ c W rfl hr (hG.sizes 0) (hG.all_len 0)
 have HBU : Hid (∀ (w' : World), Below w.heap.size w w' → Calls Tryz.prog 54 #[treeV vv vn vb] w' fun e w2 => e = .returned (.int .i64 (budT T)) ∧ Below w'.heap.size w' w2) := fun w' hb => budgetOf_any lo vv vn vb T w' (h.below hb) hS hG
 have HNC : Hid (∀ (w' : World), Below w.heap.size w w' → Calls Tryz.prog 72 #[treeV vv vn vb] w' fun e w2 => (∃ cp mp W0, e = .returned (.pointer (some ⟨cp, 0, none⟩)) ∧ CkB lo W0 cp mp vn T (allL 0 T) ∧ ICk W0 w2 cp mp vn (.slice none 0 0) ∧ Below w'.heap.size w' W0) ∧ Below w'.heap.size w' w2) := fun w' hb => newChecker_ctx lo vv vn vb T w' (h.below hb) hG
 have HST : Hid (∀ (W0 W : World) (cp mp : Nat), Below w.heap.size w W0 → CkB lo W0 cp mp vn T (allL 0 T) → ICk W0 W cp mp vn (.slice none 0 0) → Calls Tryz.prog 114 #[.pointer (some ⟨cp, 0, none⟩), vb] W fun e w' => e = .returned (errV (bodyF (allL 0 T) T)) ∧ Below W0.heap.size W w') := fun W0 W cp mp hb hck hic => by
  have hct : CkT lo W0 cp mp vn T (allL 0 T) := ⟨hck, fun vl f x hx hk hf => typeOf_all lo cp mp vn vl T (allL 0 T) (types_ok hG 0) (fits_of h0) (names_small hS) x hx hk f (by omega), fits_of h0, kin_of h0, stk_of h0, hS⟩
  refine (statements_all lo W0 cp mp (cp + 1) 0 vn T hct rfl T.nodes.length (Nat.le_refl _) [] T.body (by have := hG.nodes; simp; omega) hS.body (fun x hx => ⟨hG.body x hx, body_stat h0 x hx⟩) W vb _ hic (LoopO.nil _ _) (h.below hb).body).mono ?_
  rintro e w' ⟨he, vl, _, _, hd⟩
  exact ⟨he, hd.belowN hck.low hic.bel.size rfl⟩
 have hbb : 0 ≤ budT T ∧ budT T ≤ 104857600001 := by
  have := sum_big (costsF_le T.nodes (hG.tame hS) _ (Nat.le_refl _)) hS.body
  unfold budT; omega
 obtain ⟨av, cv, rfl, _⟩ := id h.vars
 obtain ⟨an, cn, rfl, _⟩ := id h.nodes
 obtain ⟨ab, cb, rfl, _⟩ := id h.body
 clear h hS h0 hG
 obtain ⟨R, hR⟩ : ∃ R, R = mayF T := ⟨_, rfl⟩
 rw [← hR]
 have HR : Hid (R = if namesF (allL 0 T) T.vars.length ≠ 0 then (namesF (allL 0 T) T.vars.length, -1)
  else if (bodyF (allL 0 T) T).1 ≠ 0 then bodyF (allL 0 T) T else if 2000 < budT T ∨ 60 < cellsL (allL 0 T) then (2, -1) else (0, 0)) := hR
 clear hR
 generalize namesF (allL 0 T) T.vars.length = F at *
 generalize bodyF (allL 0 T) T = Bd at *
 generalize budT T = bu at *
 obtain ⟨b1, b2⟩ := Bd
 go_enter Tryz.func53, Tryz.ntmps53
 go_wp2_with fail
 have hA := heap_alloc_new w (.cells #[.slice av T.vars.length cv, .slice an T.nodes.length cn, .slice ab T.body.length cb] 28)
 have hb1 : Below w.heap.size w (w.alloc (.cells #[.slice av T.vars.length cv, .slice an T.nodes.length cn, .slice ab T.body.length cb] 28)) := (Below.refl _ _).alloc (Nat.le_refl _) _
 generalize w.alloc (.cells #[.slice av T.vars.length cv, .slice an T.nodes.length cn, .slice ab T.body.length cb] 28) = W1 at *
 refine (HVA.out _ hb1).mono ?_
 rintro e w2 ⟨v, rfl, hown, hb⟩
 obtain ⟨ad, cp0, rfl⟩ := rowE_shape hown
 have HRE : Hid (RowE w2 ad (allL 0 T) T.vars.length) := RowE.of_own hown rfl
 have HA : Hid (w2.heap[w.heap.size]? = some (.cells #[.slice av T.vars.length cv, .slice an T.nodes.length cn, .slice ab T.body.length cb] 28 (0, 0))) := blk hA hb
 have HB : Hid (Below w.heap.size w w2) := hb1.trans (hb.mono hb1.size)
 clear hA hb1 hb hown HVA
 go_wp2_with fail
 refine (HNF.out _ _ _ HRE.out).mono ?_
 rintro e w3 ⟨rfl, hb⟩
 have HRE3 : Hid (RowE w3 ad (allL 0 T) T.vars.length) := HRE.out.below hb
 have hA3 := blk HA.out hb
 have HA3 : Hid (w3.heap[w.heap.size]? = some (.cells #[.slice av T.vars.length cv, .slice an T.nodes.length cn, .slice ab T.body.length cb] 28 (0, 0))) := hA3
 have HB3 : Hid (Below w.heap.size w w3) := HB.out.trans (hb.mono HB.out.size)
 clear hb hA3 HRE HA HB HNF
 by_cases hF : F = 0
 ·subst hF
  have HR2 : Hid (R = if b1 ≠ 0 then (b1, b2) else if 2000 < bu ∨ 60 < cellsL (allL 0 T) then (2, -1) else (0, 0)) := by unfold Hid; rw [HR.out, if_neg (by simp)]
  clear HR
  have p0 : w3.cell? ⟨w.heap.size, 0, none⟩ = some (.slice av T.vars.length cv) := cell_of_row _ _ 0 _ _ _ HA3.out
  have p1 : w3.cell? ⟨w.heap.size, 1, none⟩ = some (.slice an T.nodes.length cn) := cell_of_row _ _ 1 _ _ _ HA3.out
  have p2 : w3.cell? ⟨w.heap.size, 2, none⟩ = some (.slice ab T.body.length cb) := cell_of_row _ _ 2 _ _ _ HA3.out
  have hlt : w.heap.size < w3.heap.size := blk_lt HA3.out
  have HBD : Hid (Below w.heap.size w w3.drew) := HB3.out.drew
  have HX : Hid (w3.drew.heap[w.heap.size]? = some (.cells #[.slice av T.vars.length cv, .slice an T.nodes.length cn, .slice ab T.body.length cb] 28 (0, 0)) ∧ RowE w3.drew ad (allL 0 T) T.vars.length) := ⟨HA3.out, fun hne => HRE3.out hne⟩
  go_wp2_with fail
  go_region_held3 (fun Z => Z.cell? ⟨w.heap.size, 0, none⟩ = some (.slice av T.vars.length cv) ∧ Z.cell? ⟨w.heap.size, 1, none⟩ = some (.slice an T.nodes.length cn) ∧ Z.cell? ⟨w.heap.size, 2, none⟩ = some (.slice ab T.body.length cb)) (go_keep) (first | (go_at_call 72; refine (HNC.out _ HBD.out).mono ?_; rintro e w5 ⟨⟨cp, mp, W0, rfl, hck, hic, hw0⟩, hb5⟩; have s0 := (hb5.cell (p := ⟨w.heap.size, 0, none⟩) hlt).trans p0; have s1 := (hb5.cell (p := ⟨w.heap.size, 1, none⟩) hlt).trans p1; have s2 := (hb5.cell (p := ⟨w.heap.size, 2, none⟩) hlt).trans p2; have HS5 : Hid (Calls Tryz.prog 114 #[.pointer (some ⟨cp, 0, none⟩), .slice ab T.body.length cb] w5 fun e w' => e = .returned (errV (b1, b2)) ∧ Below W0.heap.size w5 w') := HST.out W0 w5 cp mp (HBD.out.trans (hw0.mono HBD.out.size)) hck hic; have HB5 : Hid (Below w3.drew.heap.size w3.drew w5) := hb5; have HW0 : Hid (w3.drew.heap.size ≤ W0.heap.size) := hw0.size; clear hck hic hw0 hb5) | (go_at_call 114; refine HS5.out.mono ?_; rintro e w6 ⟨rfl, hb6⟩; have HB6 : Hid (Below w3.drew.heap.size w3.drew w6) := HB5.out.trans (hb6.mono HW0.out); have u0 := (HB6.out.cell (p := ⟨w.heap.size, 0, none⟩) hlt).trans p0; have u1 := (HB6.out.cell (p := ⟨w.heap.size, 1, none⟩) hlt).trans p1; have u2 := (HB6.out.cell (p := ⟨w.heap.size, 2, none⟩) hlt).trans p2; clear hb6))
  have HB7 : Hid (Below w.heap.size w w6) := HBD.out.trans (HB6.out.mono HBD.out.size)
  have HRE7 : Hid (RowE w6 ad (allL 0 T) T.vars.length) := HX.out.2.below HB6.out
  clear p0 p1 p2 s0 s1 s2 HS5 HB5 HW0 HB6 HX HBD HRE3 HA3 HB3 HNC HST
  by_cases hb : b1 = 0
  ·subst hb
   have HR3 : Hid (R = if 2000 < bu ∨ 60 < cellsL (allL 0 T) then (2, -1) else (0, 0)) := by unfold Hid; rw [HR2.out, if_neg (by simp)]
   rw [errV_zero rfl]
   clear HR2
   go_wp2_with fail
   refine (HBU.out _ HB7.out).mono ?_
   rintro e w8 ⟨rfl, hb8⟩
   have HB8 : Hid (Below w.heap.size w w8) := HB7.out.trans (hb8.mono HB7.out.size)
   have HRE8 : Hid (RowE w8 ad (allL 0 T) T.vars.length) := HRE7.out.below hb8
   clear hb8 HB7 HRE7 u0 u1 u2 HBU
   by_cases hbu : 2000 < bu
   ·have hbd : decide ((2000 : Int) < bu) = true := decide_eq_true hbu
    have HRR : Hid (errV R = .iface 89 (.agg #[.int .i64 2, .int .i64 (-1)])) := by unfold Hid; rw [HR3.out, if_pos (Or.inl hbu), errV_met (show (((2 : Int), (-1 : Int)) : Met).1 ≠ 0 from by simp)]
    clear HR3 hbu HCC
    go_wp2_with fail
    go_ret
    exact ⟨by rw [HRR.out]; rfl, HB8.out⟩
   ·have hbd : decide ((2000 : Int) < bu) = false := decide_eq_false hbu
    by_cases hce : 60 < cellsL (allL 0 T)
    ·have HRR : Hid (errV R = .iface 89 (.agg #[.int .i64 2, .int .i64 (-1)])) := by unfold Hid; rw [HR3.out, if_pos (Or.inr hce), errV_met (show (((2 : Int), (-1 : Int)) : Met).1 ≠ 0 from by simp)]
     clear HR3 hbu
     go_wp2_with fail
     refine (HCC.out _ _ _ HRE8.out).mono ?_
     rintro e w9 ⟨rfl, hb9⟩
     have HB9 : Hid (Below w.heap.size w w9) := HB8.out.trans (hb9.mono HB8.out.size)
     clear hb9 HB8 HCC HRE8
     go_wp2_with fail
     go_ret
     exact ⟨by rw [HRR.out]; rfl, HB9.out⟩
    ·have HRR : Hid (errV R = .nilIface) := by unfold Hid; rw [HR3.out, if_neg (fun h => h.elim hbu hce), errV_zero rfl]
     clear HR3 hbu
     go_wp2_with fail
     refine (HCC.out _ _ _ HRE8.out).mono ?_
     rintro e w9 ⟨rfl, hb9⟩
     have HB9 : Hid (Below w.heap.size w w9) := HB8.out.trans (hb9.mono HB8.out.size)
     clear hb9 HB8 HCC HRE8
     go_wp2_with fail
     go_ret
     exact ⟨by rw [HRR.out]; rfl, HB9.out⟩
  ·have HRR : Hid (errV R = .iface 89 (.agg #[.int .i64 b1, .int .i64 b2])) := by unfold Hid; rw [HR2.out, if_pos hb, errV_met (show ((b1, b2) : Met).1 ≠ 0 from hb)]
   rw [errV_met (show ((b1, b2) : Met).1 ≠ 0 from hb)]
   clear HR2 hb HBU HCC
   go_wp2_with fail
   go_ret
   exact ⟨by rw [HRR.out]; rfl, HB7.out⟩
 ·have hFb : (F == 0) = false := by simpa using hF
  have hFd : decide (F = 0) = false := decide_eq_false hF
  have HRR : Hid (errV R = .iface 89 (.agg #[.int .i64 F, .int .i64 (-1)])) := by unfold Hid; rw [HR.out, if_pos hF, errV_met (show ((F, (-1 : Int)) : Met).1 ≠ 0 from hF)]
  clear HR hF HNC HST HBU HCC
  go_wp2_with fail
  go_ret
  exact ⟨by rw [HRR.out]; rfl, HB3.out⟩
theorem any_name (V W : List LVar) : V.map LVar.name = W.map LVar.name → V.any (fun v => !isNameL v.name) = W.any (fun v => !isNameL v.name) := by
 intro h
 have e : ∀ U : List LVar, U.any (fun v => !isNameL v.name) = (U.map LVar.name).any (fun l => !isNameL l) := fun U => by rw [List.any_map]; rfl
 rw [e, e, h]
theorem names_kind (T : LTree) : namesF (allL 3 T) T.vars.length = namesF (allL 0 T) T.vars.length := by
 unfold namesF
 rw [dup_kind T]
 have : (List.drop T.vars.length (allL 3 T)).any (fun v => !isNameL v.name) = (List.drop T.vars.length (allL 0 T)).any (fun v => !isNameL v.name) := by
  apply any_name
  rw [List.map_drop, List.map_drop, nts_names (allL_nts T)]
 rw [this]
theorem must_kind (T : LTree) : mustT (allL 3 T) T.vars.length T.nodes = mustT (allL 0 T) T.vars.length T.nodes := by
 funext y t st
 unfold mustT
 rw [typeF_kind]
theorem body_kind (T : LTree) : bodyF (allL 3 T) T = bodyF (allL 0 T) T := by unfold bodyF; rw [must_kind]
theorem cells_kind (T : LTree) : cellsL (allL 3 T) = cellsL (allL 0 T) := by
 have h := cellsL_kind T (allL 3 T).length
 rw [List.take_length, allL_len T, List.take_length] at h; exact h
theorem chk_may {T : LTree} (h0 : faultL T = 0) : chkT T = if (mayF T).1 ≠ 0 then (mayF T, 0) else ((0, 0), budT T) := by
 unfold chkT mayF
 rw [if_neg (by simp [h0]), names_kind, body_kind, cells_kind]
 by_cases h1 : namesF (allL 0 T) T.vars.length ≠ 0
 ·rw [if_pos h1, if_pos h1, if_pos h1]
 rw [if_neg h1, if_neg h1]
 by_cases h2 : (bodyF (allL 0 T) T).1 ≠ 0
 ·rw [if_pos h2, if_pos h2, if_pos h2]
 rw [if_neg h2, if_neg h2]
 by_cases h3 : 2000 < budT T ∨ 60 < cellsL (allL 0 T)
 ·rw [if_pos h3, if_pos h3, if_pos (by simp)]
 ·rw [if_neg h3, if_neg h3, if_neg (by simp)]
def Tree3 (f : FuncId) (R : LTree → Met × Int) : Prop := ∀ (lo : Nat) (vv vn vb : Value) (T : LTree) (w : World), TreeV lo w vv vn vb T → Sized 1048576 T →
 Calls Tryz.prog f #[treeV vv vn vb] w fun e w' => e = .returned (.agg #[.int .i64 (R T).1.1, .int .i64 (R T).1.2, .int .i64 (R T).2]) ∧ Below w.heap.size w w'
def Tree3G (f : FuncId) (R : LTree → Met × Int) : Prop := ∀ (lo : Nat) (vv vn vb : Value) (T : LTree) (w : World), TreeV lo w vv vn vb T → Sized 1048576 T → ErrT w →
 Calls Tryz.prog f #[treeV vv vn vb] w fun e w' => e = .returned (.agg #[.int .i64 (R T).1.1, .int .i64 (R T).1.2, .int .i64 (R T).2]) ∧ Below w.heap.size w w'
theorem specCheckTree : Tree3 23 chkT := fun lo vv vn vb T w h hS => specCheckTree_of lo vv vn vb T w h hS
set_option maxHeartbeats 6400000 in
set_option maxRecDepth 100000 in
theorem implCheckTree : Tree3G 13 chkT := by
 intro lo vv vn vb T w h hS hE
 have HF : Hid (∀ (w' : World), Below w.heap.size w w' → Calls Tryz.prog 49 #[treeV vv vn vb] w' fun e w2 => e = .returned (.int .i64 (faultL T)) ∧ Below w'.heap.size w' w2) := fun w' hb => implTreeFault lo _ _ _ T w' (h.below hb) hS
 have HM : Hid (faultL T = 0 → ∀ (w' : World), Below w.heap.size w w' → Calls Tryz.prog 53 #[treeV vv vn vb] w' fun e w2 => e = .returned (errV (mayF T)) ∧ Below w'.heap.size w' w2) := fun h0 w' hb => mayRun_any lo vv vn vb T w' (h.below hb) hS h0
 have HBU : Hid (faultL T = 0 → ∀ (w' : World), Below w.heap.size w w' → Calls Tryz.prog 54 #[treeV vv vn vb] w' fun e w2 => e = .returned (.int .i64 (budT T)) ∧ Below w'.heap.size w' w2) := fun h0 w' hb => budgetOf_any lo vv vn vb T w' (h.below hb) hS (good_of h0)
 have HER : Hid (∀ w', Below w.heap.size w w' → ErrT w') := fun w' hb => hE.kept hb
 obtain ⟨av, cv, rfl, _⟩ := id h.vars
 obtain ⟨an, cn, rfl, _⟩ := id h.nodes
 obtain ⟨ab, cb, rfl, _⟩ := id h.body
 have HCM : Hid (faultL T = 0 → chkT T = if (mayF T).1 ≠ 0 then (mayF T, 0) else ((0, 0), budT T)) := chk_may
 have HC0 : Hid (faultL T ≠ 0 → chkT T = ((faultL T, -1), 0)) := fun h0 => by unfold chkT; rw [if_pos h0]
 clear h hS hE
 obtain ⟨⟨⟨c1, c2⟩, c3⟩, hR⟩ : ∃ R, R = chkT T := ⟨_, rfl⟩
 rw [← hR] at HCM HC0 ⊢
 clear hR
 go_enter Tryz.func13, Tryz.ntmps13
 go_wp2_with fail
 obtain ⟨hA, hA2, hB⟩ := three_start w (.slice av T.vars.length cv) (.slice an T.nodes.length cn) (.slice ab T.body.length cb) 28 34
 generalize ((w.alloc (.cells #[.slice av T.vars.length cv, .slice an T.nodes.length cn, .slice ab T.body.length cb] 28)).alloc (.cells #[.int .i64 0, .int .i64 0, .int .i64 0] 34)) = W at *
 refine (HF.out _ hB).mono ?_
 rintro e w2 ⟨rfl, hb⟩
 have HA : Hid (w2.heap[w.heap.size]? = some (.cells #[.slice av T.vars.length cv, .slice an T.nodes.length cn, .slice ab T.body.length cb] 28 (0, 0))) := blk hA hb
 have HA2 : Hid (w2.heap[w.heap.size + 1]? = some (.cells #[.int .i64 0, .int .i64 0, .int .i64 0] 34 (0, 0))) := blk hA2 hb
 have HB : Hid (Below w.heap.size w w2) := hB.trans (hb.mono hB.size)
 clear hA hA2 hB hb HF
 obtain ⟨F, hF⟩ : ∃ F, faultL T = F := ⟨_, rfl⟩
 rw [hF] at HM HBU HCM HC0 ⊢
 clear hF
 by_cases hz : F = 0
 ·subst hz
  have HCV : Hid (((c1, c2), c3) = if (mayF T).1 ≠ 0 then (mayF T, 0) else ((0, 0), budT T)) := HCM.out rfl
  have p0 : w2.cell? ⟨w.heap.size, 0, none⟩ = some (.slice av T.vars.length cv) := cell_of_row _ _ 0 _ _ _ HA.out
  have p1 : w2.cell? ⟨w.heap.size, 1, none⟩ = some (.slice an T.nodes.length cn) := cell_of_row _ _ 1 _ _ _ HA.out
  have p2 : w2.cell? ⟨w.heap.size, 2, none⟩ = some (.slice ab T.body.length cb) := cell_of_row _ _ 2 _ _ _ HA.out
  have HM2 : Hid (∀ (w' : World), Below w.heap.size w w' → Calls Tryz.prog 53 #[treeV (.slice av T.vars.length cv) (.slice an T.nodes.length cn) (.slice ab T.body.length cb)] w' fun e w2 => e = .returned (errV (mayF T)) ∧ Below w'.heap.size w' w2) := HM.out rfl
  have HBU2 : Hid (∀ (w' : World), Below w.heap.size w w' → Calls Tryz.prog 54 #[treeV (.slice av T.vars.length cv) (.slice an T.nodes.length cn) (.slice ab T.body.length cb)] w' fun e w2 => e = .returned (.int .i64 (budT T)) ∧ Below w'.heap.size w' w2) := HBU.out rfl
  clear HCM HC0 HM HBU
  generalize mayF T = m at *
  generalize budT T = bu at *
  obtain ⟨m1, m2⟩ := m
  go_wp2_with fail
  refine (HM2.out _ HB.out).mono ?_
  rintro e w3 ⟨rfl, hb⟩
  have HA3 : Hid (w3.heap[w.heap.size]? = some (.cells #[.slice av T.vars.length cv, .slice an T.nodes.length cn, .slice ab T.body.length cb] 28 (0, 0))) := blk HA.out hb
  have HA4 : Hid (w3.heap[w.heap.size + 1]? = some (.cells #[.int .i64 0, .int .i64 0, .int .i64 0] 34 (0, 0))) := blk HA2.out hb
  have HB3 : Hid (Below w.heap.size w w3) := HB.out.trans (hb.mono HB.out.size)
  clear hb HA HA2 HB p0 p1 p2 HM2
  by_cases hm : m1 = 0
  ·subst hm
   have HCW : Hid (((c1, c2), c3) = ((0, 0), bu)) := by unfold Hid; rw [HCV.out, if_neg (by simp)]
   rw [errV_zero rfl]
   clear HCV
   go_wp2_with fail
   refine (misfit_nil _).mono ?_
   rintro e w4 ⟨rfl, hb⟩
   have hA5 := blk HA3.out hb
   have hA6 := blk HA4.out hb
   have hB4 : Below w.heap.size w w4 := HB3.out.trans (hb.mono HB3.out.size)
   have hbx : Below w4.heap.size w4 (w4.alloc (.cells #[.int .i64 0, .int .i64 0] 89)) := (Below.refl _ _).alloc (Nat.le_refl _) _
   have HA5 : Hid _ := blk hA5 hbx
   have HA6 : Hid _ := blk hA6 hbx
   have HB5 : Hid _ := hB4.trans (hbx.mono hB4.size)
   have hl1 : w.heap.size < w4.heap.size := blk_lt hA5
   have hl2 : w.heap.size + 1 < w4.heap.size := blk_lt hA6
   clear hb hA5 hA6 hB4 hbx HA3 HA4 HB3
   go_upto_region 7 with fail
   generalize w4.alloc (.cells #[.int .i64 0, .int .i64 0] 89) = W5 at *
   have p0 : W5.cell? ⟨w.heap.size, 0, none⟩ = some (.slice av T.vars.length cv) := cell_of_row _ _ 0 _ _ _ HA5.out
   have p1 : W5.cell? ⟨w.heap.size, 1, none⟩ = some (.slice an T.nodes.length cn) := cell_of_row _ _ 1 _ _ _ HA5.out
   have p2 : W5.cell? ⟨w.heap.size, 2, none⟩ = some (.slice ab T.body.length cb) := cell_of_row _ _ 2 _ _ _ HA5.out
   go_wp2_with fail
   refine (HBU2.out _ HB5.out).mono ?_
   rintro e w6 ⟨rfl, hb⟩
   have hA7 := blk HA6.out hb
   have HB6 : Hid (Below w.heap.size w w6) := HB5.out.trans (hb.mono HB5.out.size)
   have r0 := cell_of_row _ _ 0 _ _ _ hA7
   have r1 := cell_of_row _ _ 1 _ _ _ hA7
   have r2 := cell_of_row _ _ 2 _ _ _ hA7
   have f0 := frozen_of_row _ _ 0 _ _ hA7
   have f1 := frozen_of_row _ _ 1 _ _ hA7
   have f2 := frozen_of_row _ _ 2 _ _ hA7
   simp at r0 r1 r2 f0 f1 f2
   clear hA7 hb HA5 HA6 HB5 p0 p1 p2 HBU2
   go_wp2_with fail
   refine bodyPost_ret (v := .agg #[.int .i64 0, .int .i64 0, .int .i64 bu]) (by simp [results, Tryz.results13, go_sem, r0, r1, r2]) rfl ⟨?_, ((HB6.out.setCell (by simp) _).setCell (by simp) _).setCell (by simp) _⟩
   have e := HCW.out
   injection e with e1 e3
   injection e1 with e1 e2
   rw [e1, e2, e3]
  ·have HCW : Hid (((c1, c2), c3) = ((m1, m2), 0)) := by unfold Hid; rw [HCV.out, if_pos hm]
   rw [errV_met hm]
   clear HCV HBU2
   go_wp2_with fail
   refine (misfit_hit m1 m2 _ (HER.out _ HB3.out)).mono ?_
   rintro e w4 ⟨rfl, hb⟩
   have hA6 := blk HA4.out hb
   have hB4 : Below w.heap.size w w4 := HB3.out.trans (hb.mono HB3.out.size)
   have hbx : Below w4.heap.size w4 (w4.alloc (.cells #[.int .i64 m1, .int .i64 m2] 89)) := (Below.refl _ _).alloc (Nat.le_refl _) _
   have HA6 : Hid _ := blk hA6 hbx
   have HB5 : Hid _ := hB4.trans (hbx.mono hB4.size)
   have HV5 : Hid _ := heap_alloc_new w4 (.cells #[.int .i64 m1, .int .i64 m2] 89)
   have hl2 : w.heap.size + 1 < w4.heap.size := blk_lt hA6
   clear hb hA6 hB4 hbx HA3 HA4 HB3 hm
   go_upto_region 6 with fail
   generalize w4.alloc (.cells #[.int .i64 m1, .int .i64 m2] 89) = W5 at *
   generalize w4.heap.size = g4 at *
   have v0 := cell_of_row _ _ 0 _ _ _ HV5.out
   have v1 := cell_of_row _ _ 1 _ _ _ HV5.out
   have r0 := cell_of_row _ _ 0 _ _ _ HA6.out
   have r1 := cell_of_row _ _ 1 _ _ _ HA6.out
   have r2 := cell_of_row _ _ 2 _ _ _ HA6.out
   have f0 := frozen_of_row _ _ 0 _ _ HA6.out
   have f1 := frozen_of_row _ _ 1 _ _ HA6.out
   have f2 := frozen_of_row _ _ 2 _ _ HA6.out
   simp at v0 v1 r0 r1 r2 f0 f1 f2
   go_wp2_with fail
   refine bodyPost_ret (v := .agg #[.int .i64 m1, .int .i64 m2, .int .i64 0]) (by simp [results, Tryz.results13, go_sem, r0, r1, r2]) rfl ⟨?_, ((HB5.out.setCell (by simp) _).setCell (by simp) _).setCell (by simp) _⟩
   have e := HCW.out
   injection e with e1 e3
   injection e1 with e1 e2
   rw [e1, e2, e3]
 ·have hzb : (F == 0) = false := by simpa using hz
  have hzd : decide (F = 0) = false := decide_eq_false hz
  have HCW : Hid (((c1, c2), c3) = ((F, -1), 0)) := HC0.out hz
  have r0 := cell_of_row _ _ 0 _ _ _ HA2.out
  have r1 := cell_of_row _ _ 1 _ _ _ HA2.out
  have r2 := cell_of_row _ _ 2 _ _ _ HA2.out
  have f0 := frozen_of_row _ _ 0 _ _ HA2.out
  have f1 := frozen_of_row _ _ 1 _ _ HA2.out
  have f2 := frozen_of_row _ _ 2 _ _ HA2.out
  simp at r0 r1 r2 f0 f1 f2
  clear HCM HC0 HM HBU
  go_wp2_with fail
  refine bodyPost_ret (v := .agg #[.int .i64 F, .int .i64 (-1), .int .i64 0]) (by simp [results, Tryz.results13, go_sem, r0, r1, r2]) rfl ⟨?_, ((HB.out.setCell (by simp) _).setCell (by simp) _).setCell (by simp) _⟩
  have e := HCW.out
  injection e with e1 e3
  injection e1 with e1 e2
  rw [e1, e2, e3]
end Go.Proofs.YtdnhmpemkpjcaaaGreatDoor
namespace Go.Proofs.YtdnhmpemkpjcaaaGreatDoor
open Go.RowKit
def isWord (z : Int) : Prop := 0 ≤ z ∧ z ≤ 65535
theorem fitsWord_yes (z : Int) (w : World) (h1 : 0 ≤ z) (h2 : z ≤ 65535) :
  Calls Tryz.prog 141 #[.int .i64 z] w fun e w' => e = .returned (.bool true) ∧ w' = w := by
 go_enter Tryz.func141, Tryz.ntmps141
 go_wp2
 go_ret
 exact ⟨rfl, rfl⟩
theorem fitsWord_no (z : Int) (w : World) (h : z < 0 ∨ 65535 < z) :
  Calls Tryz.prog 141 #[.int .i64 z] w fun e w' => e = .returned (.bool false) ∧ w' = w := by
 rcases h with h | h
 ·have hd : decide (0 ≤ z) = false := decide_eq_false (by omega)
  go_enter Tryz.func141, Tryz.ntmps141
  go_wp2
  go_ret
  exact ⟨rfl, rfl⟩
 ·have h0 : 0 ≤ z := by omega
  have hd : decide (z ≤ 65535) = false := decide_eq_false (by omega)
  go_enter Tryz.func141, Tryz.ntmps141
  go_wp2
  go_ret
  exact ⟨rfl, rfl⟩
theorem l1In_yes (z a b : Int) (w : World) (h1 : a ≤ z) (h2 : z ≤ b) :
  Calls Tryz.prog 64 #[.int .i64 z, .int .i64 a, .int .i64 b] w fun e w' => e = .returned (.bool true) ∧ w' = w := by
 go_enter Tryz.func64, Tryz.ntmps64
 go_wp2
 go_ret
 exact ⟨rfl, rfl⟩
theorem l1In_no (z a b : Int) (w : World) (h : z < a ∨ b < z) :
  Calls Tryz.prog 64 #[.int .i64 z, .int .i64 a, .int .i64 b] w fun e w' => e = .returned (.bool false) ∧ w' = w := by
 by_cases h1 : a ≤ z
 ·have hd : decide (z ≤ b) = false := decide_eq_false (by omega)
  clear h
  go_enter Tryz.func64, Tryz.ntmps64
  go_wp2
  go_ret
  exact ⟨rfl, rfl⟩
 ·have hd : decide (a ≤ z) = false := decide_eq_false (by omega)
  clear h
  go_enter Tryz.func64, Tryz.ntmps64
  go_wp2
  go_ret
  exact ⟨rfl, rfl⟩
theorem l1Word_yes (z : Int) (w : World) (h1 : 0 ≤ z) (h2 : z ≤ 65535) :
  Calls Tryz.prog 171 #[.int .i64 z] w fun e w' => e = .returned (.bool true) ∧ w' = w := by
 go_enter Tryz.func171, Tryz.ntmps171
 go_wp2_with (go_at_call 64; refine (l1In_yes _ _ _ _ h1 h2).mono ?_; rintro e w' ⟨rfl, rfl⟩)
 go_ret
 exact ⟨rfl, rfl⟩
theorem l1Word_no (z : Int) (w : World) (h : z < 0 ∨ 65535 < z) :
  Calls Tryz.prog 171 #[.int .i64 z] w fun e w' => e = .returned (.bool false) ∧ w' = w := by
 go_enter Tryz.func171, Tryz.ntmps171
 go_wp2_with (go_at_call 64; refine (l1In_no _ _ _ _ h).mono ?_; rintro e w' ⟨rfl, rfl⟩)
 go_ret
 exact ⟨rfl, rfl⟩
def fault (zs : List Int) : Int := if 400 < zs.length then 2 else if ∀ z ∈ zs, 0 ≤ z ∧ z ≤ 65535 then 0 else 3
theorem fault_many {zs : List Int} (h : 400 < zs.length) : fault zs = 2 := by rw [fault, if_pos h]
theorem fault_ok {zs : List Int} (h : zs.length ≤ 400) (hz : ∀ i, i < zs.length → 0 ≤ zs.getD i 0 ∧ zs.getD i 0 ≤ 65535) : fault zs = 0 := by
 rw [fault, if_neg (by omega), if_pos]
 intro z hm
 obtain ⟨i, hi, rfl⟩ := List.getElem_of_mem hm
 have := hz i hi
 rw [List.getD_eq_getElem?_getD, List.getElem?_eq_getElem hi] at this
 simpa using this
theorem fault_bad {zs : List Int} (h : zs.length ≤ 400) (i : Nat) (hi : i < zs.length) (hz : zs.getD i 0 < 0 ∨ 65535 < zs.getD i 0) : fault zs = 3 := by
 rw [fault, if_neg (by omega), if_neg]
 intro ha
 have hm : zs.getD i 0 ∈ zs := by
  rw [List.getD_eq_getElem?_getD, List.getElem?_eq_getElem hi]; simp
 have := ha _ hm
 omega
set_option maxHeartbeats 400000 in
theorem implFault_any (a : Option Addr) (zs : List Int) (cap : Nat) (w : World) (hlen : zs.length ≤ 9223372036854775807) (hn : Nums w a zs) :
  Calls Tryz.prog 85 #[.slice a zs.length cap] w fun e w' => e = .returned (.int .i64 (fault zs)) ∧ w' = w := by
 by_cases h4 : 400 < zs.length
 ·rw [fault_many h4]
  go_enter Tryz.func85, Tryz.ntmps85
  go_wp2
  go_ret
  exact ⟨rfl, rfl⟩
 ·go_enter Tryz.func85, Tryz.ntmps85
  go_wp2
  go_loop [4, 10] (fun _ i => ∃ k : Nat, k ≤ zs.length ∧ i = .int .i64 k ∧ ∀ j, j < k → 0 ≤ zs.getD j 0 ∧ zs.getD j 0 ≤ 65535) (fun _ i => zs.length - (intOf i).toNat)
  case atStart => exact ⟨0, Nat.zero_le _, rfl, fun j hj => by omega⟩
  case round =>
   obtain ⟨k, hk, rfl, ho⟩ := hrel
   have HO : Hid _ := ho
   clear ho
   by_cases hlt : k < zs.length
   ·rcases hn with hn | ⟨b, off, rfl, hc⟩
    ·subst hn; simp at hlt
    have hcell := hc k hlt
    clear hc
    obtain ⟨z, hz⟩ : ∃ z, z = zs.getD k 0 := ⟨_, rfl⟩
    rw [← hz] at hcell
    have HZ : Hid _ := hz
    clear hz
    by_cases h5 : 0 ≤ z ∧ z ≤ 65535
    ·obtain ⟨h5, h6⟩ := h5
     go_wp2_with (go_at_call 141; refine (fitsWord_yes _ _ h5 h6).mono ?_; rintro e w' ⟨rfl, rfl⟩)
     go_round
     case rel =>
      refine ⟨k + 1, by omega, by go_num, fun j hj => ?_⟩
      by_cases hjk : j = k
      ·subst hjk; rw [← HZ.out]; exact ⟨h5, h6⟩
      ·exact HO.out j (by omega)
     case measure => simp [intOf]; omega
    ·have h6 : z < 0 ∨ 65535 < z := by omega
     have H6 : Hid _ := h6
     clear h6 h5
     go_wp2_with (go_at_call 141; refine (fitsWord_no _ _ H6.out).mono ?_; rintro e w' ⟨rfl, rfl⟩)
     go_ret
     have hf := fault_bad (zs := zs) (by omega) k hlt (by rw [← HZ.out]; exact H6.out)
     exact ⟨by rw [hf]; rfl, rfl⟩
   ·have hk2 : k = zs.length := by omega
    subst hk2
    go_wp2
    go_ret
    have hf := fault_ok (zs := zs) (by omega) HO.out
    exact ⟨by rw [hf]; rfl, rfl⟩
end Go.Proofs.YtdnhmpemkpjcaaaGreatDoor
namespace Go.Proofs.YtdnhmpemkpjcaaaGreatDoor
open Go.RowKit
set_option linter.unusedVariables false
def allW (zs : List Int) : Bool := zs.all fun z => decide (0 ≤ z ∧ z ≤ 65535)
theorem allW_iff {zs : List Int} : allW zs = true ↔ ∀ z ∈ zs, 0 ≤ z ∧ z ≤ 65535 := by unfold allW; rw [List.all_eq_true]; simp
theorem allW_ok {zs : List Int} (h : ∀ j, j < zs.length → 0 ≤ zs.getD j 0 ∧ zs.getD j 0 ≤ 65535) : allW zs = true := by
 rw [allW_iff]
 intro z hm
 obtain ⟨i, hi, rfl⟩ := List.getElem_of_mem hm
 have := h i hi
 rw [List.getD_eq_getElem?_getD, List.getElem?_eq_getElem hi] at this
 simpa using this
theorem allW_bad {zs : List Int} (i : Nat) (hi : i < zs.length) (h : zs.getD i 0 < 0 ∨ 65535 < zs.getD i 0) : allW zs = false := by
 cases hw : allW zs with
 | false => rfl
 | true =>
  have hm : zs.getD i 0 ∈ zs := by rw [List.getD_eq_getElem?_getD, List.getElem?_eq_getElem hi]; simp
  have := (allW_iff.1 hw) _ hm
  omega
theorem fault_allW {zs : List Int} (h : zs.length ≤ 400) : fault zs = if allW zs = true then 0 else 3 := by
 unfold fault
 rw [if_neg (by omega)]
 by_cases hw : ∀ z ∈ zs, 0 ≤ z ∧ z ≤ 65535
 ·rw [if_pos hw, if_pos (allW_iff.2 hw)]
 ·rw [if_neg hw, if_neg (fun h => hw (allW_iff.1 h))]
def staF (T : LTree) (zs : List Int) : Int := if (chkT T).1.1 ≠ 0 then (chkT T).1.1 else if (zs.length : Int) ≠ cellsL (allL 0 T) then 1 else if allW zs = true then 0 else 3
theorem chk_good {T : LTree} (h : (chkT T).1.1 = 0) : faultL T = 0 ∧ cellsL (allL 0 T) ≤ 60 := by
 unfold chkT at h
 by_cases h0 : faultL T = 0
 ·rw [if_neg (by simpa using h0)] at h
  refine ⟨h0, ?_⟩
  by_cases h1 : namesF (allL 3 T) T.vars.length = 0
  ·rw [if_neg (by simpa using h1)] at h
   by_cases h2 : (bodyF (allL 3 T) T).1 = 0
   ·rw [if_neg (by simpa using h2)] at h
    by_cases h3 : 2000 < budT T ∨ 60 < cellsL (allL 3 T)
    ·rw [if_pos h3] at h; simp at h
    ·rw [cells_kind] at h3; omega
   ·rw [if_pos h2] at h; exact absurd h h2
  ·rw [if_pos h1] at h; exact absurd h h1
 ·rw [if_pos h0] at h; exact absurd h h0
end Go.Proofs.YtdnhmpemkpjcaaaGreatDoor
namespace Go.Proofs.YtdnhmpemkpjcaaaGreatDoor
open Go.RowKit
set_option linter.unusedVariables false
attribute [local go_sem] bs_size bs_get bs_extract bs_append bs_eq bs_toList
set_option maxHeartbeats 800000 in
theorem l6AllW_any (a : Option Addr) (zs : List Int) (cap : Nat) (w : World) (hlen : zs.length ≤ 1048576) (hn : Nums w a zs) :
  Calls Tryz.prog 140 #[.slice a zs.length cap] w fun e w' => e = .returned (.bool (allW zs)) ∧ w' = w := by
 go_enter Tryz.func140, Tryz.ntmps140
 go_wp2
 go_loop [3] (fun i => ∃ k : Nat, k ≤ zs.length ∧ i = .int .i64 k ∧ ∀ j, j < k → 0 ≤ zs.getD j 0 ∧ zs.getD j 0 ≤ 65535) (fun i => zs.length - (intOf i).toNat)
 case atStart => exact ⟨0, Nat.zero_le _, rfl, fun j hj => by omega⟩
 case round =>
  obtain ⟨k, hk, rfl, ho⟩ := hrel
  have HO : Hid _ := ho
  clear ho
  by_cases hlt : k < zs.length
  ·rcases hn with hn | ⟨b, off, rfl, hc⟩
   ·subst hn; simp at hlt
   have hcell := hc k hlt
   clear hc
   obtain ⟨z, hz⟩ : ∃ z, z = zs.getD k 0 := ⟨_, rfl⟩
   rw [← hz] at hcell
   have HZ : Hid _ := hz
   clear hz
   by_cases h5 : 0 ≤ z ∧ z ≤ 65535
   ·obtain ⟨h5, h6⟩ := h5
    go_wp2_with (go_at_call 171; refine (l1Word_yes _ _ h5 h6).mono ?_; rintro e w' ⟨rfl, rfl⟩)
    go_round
    case rel =>
     refine ⟨k + 1, by omega, by go_num, fun j hj => ?_⟩
     by_cases hjk : j = k
     ·subst hjk; rw [← HZ.out]; exact ⟨h5, h6⟩
     ·exact HO.out j (by omega)
    case measure => simp [intOf]; omega
   ·have h6 : z < 0 ∨ 65535 < z := by omega
    have H6 : Hid _ := h6
    clear h6 h5
    go_wp2_with (go_at_call 171; refine (l1Word_no _ _ H6.out).mono ?_; rintro e w' ⟨rfl, rfl⟩)
    go_ret
    have hf := allW_bad k hlt (by rw [← HZ.out]; exact H6.out)
    exact ⟨by rw [hf]; rfl, rfl⟩
  ·have hk2 : k = zs.length := by omega
   subst hk2
   go_wp2
   go_ret
   have hf := allW_ok HO.out
   exact ⟨by rw [hf]; rfl, rfl⟩
set_option maxHeartbeats 6400000 in
set_option maxRecDepth 100000 in
theorem l6Fault_any (lo p q : Nat) (vv vn vb : Value) (T : LTree) (a : Option Addr) (zs : List Int) (cap : Nat) (w : World) (h : TreeP lo w p vv vn vb T) (hS : Sized 1048576 T) (hq : w.cell? ⟨q, 0, none⟩ = some (.slice a zs.length cap)) (hn : Nums w a zs) (hlen : zs.length ≤ 1048576) :
  Calls Tryz.prog 84 #[.pointer (some ⟨p, 0, none⟩), .pointer (some ⟨q, 0, none⟩)] w fun e w' => e = .returned (.int .i64 (staF T zs)) ∧ Below w.heap.size w w' := by
 have HX : Hid (Calls Tryz.prog 77 #[.pointer (some ⟨p, 0, none⟩)] w fun e w' => e = .returned (.agg #[.int .i64 (chkT T).1.1, .int .i64 (chkT T).1.2, .int .i64 (chkT T).2]) ∧ Below w.heap.size w w') := l5Tree_any lo p vv vn vb T w h hS
 have HAL : Hid ((chkT T).1.1 = 0 → ∀ (w' : World), Below w.heap.size w w' → Calls Tryz.prog 57 #[.pointer (some ⟨p, 0, none⟩)] w' fun e w2 => ∃ v, e = .returned v ∧ w2.ownsRow w'.heap.size 38 4 v (allL 3 T).length (varCells (allL 3 T)) ∧ Below w'.heap.size w' w2) := fun h0 w' hb => l5All_any lo p vv vn vb T w' (h.below hb) (good_of (chk_good h0).1)
 have HCE : Hid ((chkT T).1.1 = 0 → ∀ (ad : Option Addr) (c : Nat) (W : World), RowV W ad (allL 3 T) → Calls Tryz.prog 56 #[.slice ad (allL 3 T).length c] W fun e w' => e = .returned (.int .i64 (cellsL (allL 0 T))) ∧ Below W.heap.size W w') := fun h0 ad c W hr => by
  have g := good_of (chk_good h0).1
  have := l5Cells_any (allL 3 T) ad (allL 3 T).length c W (Nat.le_refl _) hr (g.sizes 3) (g.all_len 3)
  rwa [List.take_length, cells_kind] at this
 have HL6 : Hid (∀ W, Below w.heap.size w W → Calls Tryz.prog 140 #[.slice a zs.length cap] W fun e w' => e = .returned (.bool (allW zs)) ∧ w' = W) := fun W hb => l6AllW_any a zs cap W hlen (hn.below hb)
 have HQ : Hid (∀ W, Below w.heap.size w W → W.cell? ⟨q, 0, none⟩ = some (.slice a zs.length cap)) := fun W hb => (hb.cell (p := ⟨q, 0, none⟩) (World.block_lt_of_cell? _ _ hq)).trans hq
 have HST : Hid (staF T zs = if (chkT T).1.1 ≠ 0 then (chkT T).1.1 else if (zs.length : Int) ≠ cellsL (allL 0 T) then 1 else if allW zs = true then 0 else 3) := rfl
 clear h hS hq hn
 generalize staF T zs = R at *
 generalize (chkT T).1.1 = c1 at *
 generalize (chkT T).1.2 = c2 at *
 generalize (chkT T).2 = c3 at *
 generalize cellsL (allL 0 T) = z at *
 generalize allW zs = aw at *
 go_enter Tryz.func84, Tryz.ntmps84
 go_wp2_with fail
 refine HX.out.mono ?_
 rintro e w2 ⟨rfl, hb⟩
 have HB : Hid (Below w.heap.size w w2) := hb
 clear hb HX
 by_cases hc : c1 = 0
 ·subst hc
  have HST2 : Hid (R = if (zs.length : Int) ≠ z then 1 else if aw = true then 0 else 3) := by unfold Hid; rw [HST.out, if_neg (by simp)]
  have HAL2 := HAL.out rfl
  have HCE2 := HCE.out rfl
  clear HST HAL HCE
  have HAL : Hid _ := HAL2
  have HCE : Hid _ := HCE2
  clear HAL2 HCE2
  go_upto_region 4 with fail
  have HB3 : Hid (Below w.heap.size w (w2.alloc (.cells #[.int .i64 0, .int .i64 c2, .int .i64 c3] 34))) := HB.out.alloc HB.out.size _
  generalize w2.alloc (.cells #[.int .i64 0, .int .i64 c2, .int .i64 c3] 34) = W3 at *
  have q0 : W3.cell? ⟨q, 0, none⟩ = some (.slice a zs.length cap) := HQ.out _ HB3.out
  clear HB
  by_cases hz : (zs.length : Int) = z
  ·subst hz
   have HR : Hid (R = if aw = true then 0 else 3) := by unfold Hid; rw [HST2.out, if_neg (by simp)]
   clear HST2
   go_region_held3 (fun W => W.cell? ⟨q, 0, none⟩ = some (.slice a zs.length cap)) (go_keep) (first | (go_at_call 57; refine (HAL.out _ HB3.out.drew).mono ?_; rintro e w7 ⟨v, rfl, hown, hb⟩; obtain ⟨ad, cp, rfl⟩ := rowE_shape hown; have HRV : Hid (RowV w7 ad (allL 3 T)) := RowV.of_own hown rfl; have HD : Hid (Below w.heap.size w w7) := HB3.out.drew.trans (hb.mono HB3.out.drew.size); have q0 := HQ.out _ HD.out; clear hb hown) | (go_at_call 56; refine (HCE.out _ _ _ HRV.out).mono ?_; rintro e w8 ⟨rfl, hb⟩; have HE : Hid (Below w.heap.size w w8) := HD.out.trans (hb.mono HD.out.size); have q0 := HQ.out _ HE.out; clear hb))
   go_wp2_with fail
   refine (HL6.out _ HE.out).mono ?_
   rintro e w9 ⟨rfl, rfl⟩
   cases aw with
   | true =>
    go_wp2_with fail
    go_ret
    exact ⟨by rw [HR.out]; rfl, HE.out⟩
   | false =>
    go_wp2_with fail
    go_ret
    exact ⟨by rw [HR.out]; rfl, HE.out⟩
  ·have hz1 : ((zs.length : Int) == z) = false := by simpa using hz
   have hz2 : decide ((zs.length : Int) = z) = false := decide_eq_false hz
   have HR : Hid (R = 1) := by unfold Hid; rw [HST2.out, if_pos hz]
   clear HST2
   go_region_held3 (fun W => W.cell? ⟨q, 0, none⟩ = some (.slice a zs.length cap)) (go_keep) (first | (go_at_call 57; refine (HAL.out _ HB3.out.drew).mono ?_; rintro e w7 ⟨v, rfl, hown, hb⟩; obtain ⟨ad, cp, rfl⟩ := rowE_shape hown; have HRV : Hid (RowV w7 ad (allL 3 T)) := RowV.of_own hown rfl; have HD : Hid (Below w.heap.size w w7) := HB3.out.drew.trans (hb.mono HB3.out.drew.size); have q0 := HQ.out _ HD.out; clear hb hown) | (go_at_call 56; refine (HCE.out _ _ _ HRV.out).mono ?_; rintro e w8 ⟨rfl, hb⟩; have HE : Hid (Below w.heap.size w w8) := HD.out.trans (hb.mono HD.out.size); have q0 := HQ.out _ HE.out; clear hb))
   go_wp2_with fail
   go_ret
   exact ⟨by rw [HR.out]; rfl, HE.out⟩
 ·have hz1 : (c1 == 0) = false := by simpa using hc
  have hz2 : decide (c1 = 0) = false := decide_eq_false hc
  have HR : Hid (R = c1) := by unfold Hid; rw [HST.out, if_pos hc]
  clear HST HAL HCE HL6 HQ
  go_wp2_with fail
  go_ret
  exact ⟨by rw [HR.out]; rfl, HB.out.alloc HB.out.size _⟩
set_option maxHeartbeats 6400000 in
theorem szTreeLe_any (lo : Nat) (T : LTree) (vv vn vb : Value) (w : World) (h : TreeV lo w vv vn vb T) (hf : Fits T) :
  Calls Tryz.prog 17 #[treeV vv vn vb, .int .i64 1048576] w fun e w' => ∃ r : Int, e = .returned (.int .i64 r) ∧ (0 ≤ r → Sized 1048576 T ∧ r ≤ 1048576) ∧ Below w.heap.size w w' := by
 obtain ⟨av, cv, rfl, _⟩ := id h.vars
 obtain ⟨an, cn, rfl, _⟩ := id h.nodes
 obtain ⟨ab, cb, rfl, _⟩ := id h.body
 have HV : Hid (TreeV lo w (.slice av T.vars.length cv) (.slice an T.nodes.length cn) (.slice ab T.body.length cb) T) := h
 have HF : Hid (Fits T) := hf
 clear h hf
 go_enter Tryz.func17, Tryz.ntmps17
 go_wp2_with fail
 have hA := heap_alloc_new w (.cells #[.slice av T.vars.length cv, .slice an T.nodes.length cn, .slice ab T.body.length cb] 47)
 have hB : Below w.heap.size w (w.alloc (.cells #[.slice av T.vars.length cv, .slice an T.nodes.length cn, .slice ab T.body.length cb] 47)) := (Below.refl _ _).alloc (Nat.le_refl _) _
 generalize w.alloc (.cells #[.slice av T.vars.length cv, .slice an T.nodes.length cn, .slice ab T.body.length cb] 47) = W at *
 refine (szVars_any lo _ _ 1048576 _ (HV.out.below hB).vars (by omega) (by omega) HF.out.vars HF.out.names).mono ?_
 rintro e w0 ⟨L1, rfl, hr, hb⟩
 have hAc := blk hA hb
 have hBc := hB.trans (hb.mono hB.size)
 clear hA hB hb
 have a1 := cell_of_row _ _ 1 _ _ _ hAc
 simp at a1
 have HA : Hid _ := hAc
 have HB : Hid _ := hBc
 clear hAc hBc
 rcases hr with rfl | ⟨k1, m1, z1⟩
 ·go_wp2_with fail
  go_ret
  exact ⟨_, rfl, fun h => absurd h (by omega), HB.out⟩
 have HZ1 : Hid _ := z1
 clear z1
 go_wp2_with fail
 have hA := HA.out
 have hB := HB.out
 clear HA HB a1
 refine (szNodes_any lo _ _ _ _ (HV.out.below hB).nodes k1 (by omega) HF.out.nodes HF.out.node).mono ?_
 rintro e w1 ⟨L2, rfl, hr, hb⟩
 have hAc := blk hA hb
 have hBc := hB.trans (hb.mono hB.size)
 clear hA hB hb
 have a2 := cell_of_row _ _ 2 _ _ _ hAc
 simp at a2
 have HA : Hid _ := hAc
 have HB : Hid _ := hBc
 clear hAc hBc
 rcases hr with rfl | ⟨k2, m2, z2⟩
 ·go_wp2_with fail
  go_ret
  exact ⟨_, rfl, fun h => absurd h (by omega), HB.out⟩
 have HZ2 : Hid _ := z2
 clear z2
 go_wp2_with fail
 have hA := HA.out
 have hB := HB.out
 clear HA HB a2
 refine (szInts_any _ _ _ _ k2 (by omega) HF.out.body _).mono ?_
 rintro e w2 ⟨L3, rfl, hr, hb⟩
 have hAc := blk hA hb
 have hBc := hB.trans (hb.mono hB.size)
 clear hA hB hb
 have HA : Hid _ := hAc
 have HB : Hid _ := hBc
 clear hAc hBc
 rcases hr with rfl | ⟨k3, m3, z3⟩
 ·go_wp2_with fail
  go_ret
  exact ⟨_, rfl, fun h => absurd h (by omega), HB.out⟩
 have HZ3 : Hid _ := z3
 clear z3
 go_wp2_with fail
 go_ret
 exact ⟨_, rfl, fun _ => ⟨⟨HZ1.out.1, HZ2.out.1, HZ3.out, HZ1.out.2, HZ2.out.2⟩, by omega⟩, HB.out⟩
set_option maxHeartbeats 1600000 in
theorem szState_any (a : Option Addr) (n c : Nat) (left : Int) (h0 : 0 ≤ left) (h1 : left ≤ 1048576) (hl : n ≤ 9223372036854775807) (w : World) :
  Calls Tryz.prog 31 #[.agg #[.slice a n c], .int .i64 left] w fun e w' => ∃ r : Int, e = .returned (.int .i64 r) ∧ (0 ≤ r → n ≤ 1048576) ∧ Below w.heap.size w w' := by
 have HX : Hid (∀ W, Calls Tryz.prog 63 #[.slice a n c, .int .i64 left] W fun e w' => ∃ r : Int, e = .returned (.int .i64 r) ∧ Left left r (n ≤ 1048576) ∧ Below W.heap.size W w') := fun W => szInts_any a n c left h0 h1 hl W
 have hB : Below w.heap.size w (w.alloc (.cells #[.slice a n c] 66)) := (Below.refl _ _).alloc (Nat.le_refl _) _
 clear hl
 go_enter Tryz.func31, Tryz.ntmps31
 go_wp2_with fail
 generalize w.alloc (.cells #[.slice a n c] 66) = W at *
 refine (HX.out _).mono ?_
 rintro e w2 ⟨r, rfl, hr, hb⟩
 have HB : Hid (Below w.heap.size w w2) := hB.trans (hb.mono hB.size)
 clear hB hb HX
 rcases hr with rfl | ⟨k1, m1, z1⟩
 ·go_wp2_with fail
  go_ret
  exact ⟨_, rfl, fun h => absurd h (by omega), HB.out⟩
 ·have HZ1 : Hid _ := z1
  clear z1
  go_wp2_with fail
  go_ret
  exact ⟨_, rfl, fun _ => HZ1.out, HB.out⟩
theorem Nums.set {w : World} {a : Option Addr} {zs : List Int} {p : Addr} {v : Value} (h : Nums w a zs) (hp : ∀ b o, a = some ⟨b, o, none⟩ → p.block ≠ b) : Nums (w.setCell p v) a zs := by
 rcases h with h | ⟨b, o, rfl, hc⟩
 ·exact .inl h
 ·exact .inr ⟨b, o, rfl, fun i hi => (World.cell?_setCell_other _ _ _ _ (fun e => hp b o rfl (by have := congrArg Addr.block e; first | exact this | exact this.symm))).trans (hc i hi)⟩
set_option maxHeartbeats 1600000 in
theorem toState_any (a : Option Addr) (zs : List Int) (cap : Nat) (w : World) (hlen : zs.length ≤ 1048576) (hn : Nums w a zs) :
  Calls Tryz.prog 33 #[.agg #[.slice a zs.length cap]] w fun e w' => ∃ a2 c2, e = .returned (.agg #[.slice a2 zs.length c2]) ∧ Nums w' a2 zs ∧ Below w.heap.size w w' := by
 have HX : Hid (∀ W, Below w.heap.size w W → Calls Tryz.prog 69 #[.slice a zs.length cap] W fun e w' => e = .returned (.slice (some ⟨W.heap.size, 0, none⟩) zs.length zs.length) ∧ Nums w' (some ⟨W.heap.size, 0, none⟩) zs ∧ Below W.heap.size W w') := fun W hb =>
  (copy_any a zs cap W hlen (hn.below hb)).mono fun e w' h => ⟨h.1, (nums_of_own h.2.1).2, h.2.2⟩
 have a1 := heap_alloc_new w (.cells #[.slice a zs.length cap] 66)
 have b1 : Below w.heap.size w (w.alloc (.cells #[.slice a zs.length cap] 66)) := (Below.refl _ _).alloc (Nat.le_refl _) _
 have s1 : (w.alloc (.cells #[.slice a zs.length cap] 66)).heap.size = w.heap.size + 1 := by simp
 clear hn
 go_enter Tryz.func33, Tryz.ntmps33
 go_upto_region 2 with fail
 generalize w.alloc (.cells #[.slice a zs.length cap] 66) = W1 at *
 have a2 := heap_alloc_new W1 (.cells #[.slice none 0 0] 59)
 have b2 : Below W1.heap.size W1 (W1.alloc (.cells #[.slice none 0 0] 59)) := (Below.refl _ _).alloc (Nat.le_refl _) _
 have s2 : (W1.alloc (.cells #[.slice none 0 0] 59)).heap.size = w.heap.size + 2 := by simp; omega
 generalize W1.alloc (.cells #[.slice none 0 0] 59) = W2 at *
 have a3 := heap_alloc_new W2 (.cells #[.slice none 0 0] 59)
 have b3 : Below W2.heap.size W2 (W2.alloc (.cells #[.slice none 0 0] 59)) := (Below.refl _ _).alloc (Nat.le_refl _) _
 have s3 : (W2.alloc (.cells #[.slice none 0 0] 59)).heap.size = w.heap.size + 3 := by simp; omega
 generalize W2.alloc (.cells #[.slice none 0 0] 59) = W3 at *
 rw [s1] at a2
 rw [s2] at a3
 have A1 := blk (blk a1 b2) b3
 have A2 := blk a2 b3
 have B : Below w.heap.size w W3 := (b1.trans (b2.mono (by omega))).trans (b3.mono (by omega))
 have q0 := cell_of_row _ _ 0 _ _ _ A1
 simp at q0
 clear a1 a2 b1 b2 b3 s1 s2 A1
 go_wp2_with fail
 refine (HX.out _ B).mono ?_
 rintro e w4 ⟨rfl, hnn, hb⟩
 have d2 := blk A2 hb
 have d3 := blk a3 hb
 have HB : Hid (Below w.heap.size w w4) := B.trans (hb.mono B.size)
 have HN : Hid (Nums w4 (some ⟨W3.heap.size, 0, none⟩) zs) := hnn
 have HS3 : Hid (W3.heap.size = w.heap.size + 3) := s3
 have r0 := cell_of_row _ _ 0 _ _ _ d2
 have f0 := frozen_of_row _ _ 0 _ _ d2
 have r1 := cell_of_row _ _ 0 _ _ _ d3
 have f1 := frozen_of_row _ _ 0 _ _ d3
 simp at r0 r1 f0 f1
 clear a3 A2 B q0 hnn hb d2 d3 s3 HX
 generalize W3.heap.size = g at *
 go_wp2_with fail
 refine bodyPost_ret (v := .agg #[.slice (some ⟨g, 0, none⟩) zs.length zs.length]) (by simp [results, Tryz.results33, go_sem, r0]) rfl ⟨_, _, rfl, ?_, (HB.out.setCell (by simp <;> omega) _).setCell (by simp) _⟩
 exact (HN.out.set (fun b o e => by have := HS3.out; injection e with e; injection e with e; simp; omega)).set (fun b o e => by have := HS3.out; injection e with e; injection e with e; simp; omega)
set_option maxHeartbeats 1600000 in
theorem eqState_any (a b : Option Addr) (zs : List Int) (ca cb : Nat) (w : World) (hlen : zs.length ≤ 1048576) (ha : Nums w a zs) (hb : Nums w b zs) :
  Calls Tryz.prog 35 #[.agg #[.slice a zs.length ca], .agg #[.slice b zs.length cb]] w fun e w' => e = .returned (.bool true) ∧ Below w.heap.size w w' := by
 have HX : Hid (∀ W, Below w.heap.size w W → Calls Tryz.prog 76 #[.slice a zs.length ca, .slice b zs.length cb] W fun e w' => e = .returned (.bool true) ∧ Below W.heap.size W w') := fun W h => eqNums_any a b zs ca cb W (by omega) (ha.below h) (hb.below h)
 clear ha hb
 have b1 : Below w.heap.size w (w.alloc (.cells #[.slice a zs.length ca] 59)) := (Below.refl _ _).alloc (Nat.le_refl _) _
 have HB : Hid (Below w.heap.size w ((w.alloc (.cells #[.slice a zs.length ca] 59)).alloc (.cells #[.slice b zs.length cb] 59))) := b1.alloc b1.size _
 clear b1
 go_enter Tryz.func35, Tryz.ntmps35
 go_wp2_with fail
 refine (HX.out _ HB.out).mono ?_
 rintro e w2 ⟨rfl, hb⟩
 have HB2 : Hid (Below w.heap.size w w2) := HB.out.trans (hb.mono HB.out.size)
 clear hb HX HB
 go_wp2_with fail
 go_ret
 exact ⟨rfl, HB2.out⟩
set_option maxHeartbeats 1600000 in
theorem specStateFault (lo : Nat) (vv vn vb : Value) (T : LTree) (a : Option Addr) (zs : List Int) (cap : Nat) (w : World) (h : TreeV lo w vv vn vb T) (hS : Sized 1048576 T) (hn : Nums w a zs) (hlen : zs.length ≤ 1048576) :
  Calls Tryz.prog 32 #[treeV vv vn vb, .agg #[.slice a zs.length cap]] w fun e w' => e = .returned (.int .i64 (staF T zs)) ∧ Below w.heap.size w w' := by
 have HX : Hid (∀ W, Below w.heap.size w W → W.heap[w.heap.size]? = some (.cells #[vv, vn, vb] 28 (0, 0)) → W.heap[w.heap.size + 1]? = some (.cells #[.slice a zs.length cap] 59 (0, 0)) → Calls Tryz.prog 84 #[.pointer (some ⟨w.heap.size, 0, none⟩), .pointer (some ⟨w.heap.size + 1, 0, none⟩)] W fun e w' => e = .returned (.int .i64 (staF T zs)) ∧ Below W.heap.size W w') := fun W hb h1 h2 =>
  l6Fault_any lo w.heap.size (w.heap.size + 1) vv vn vb T a zs cap W ⟨cell_of_row _ _ 0 _ _ _ h1, cell_of_row _ _ 1 _ _ _ h1, cell_of_row _ _ 2 _ _ _ h1, h.below hb⟩ hS (cell_of_row _ _ 0 _ _ _ h2) (hn.below hb) hlen
 obtain ⟨av, cv, rfl, _⟩ := id h.vars
 obtain ⟨an, cn, rfl, _⟩ := id h.nodes
 obtain ⟨ab, cb, rfl, _⟩ := id h.body
 clear h hS hn
 have hA := heap_alloc_new w (.cells #[.slice av T.vars.length cv, .slice an T.nodes.length cn, .slice ab T.body.length cb] 28)
 have hB : Below w.heap.size w (w.alloc (.cells #[.slice av T.vars.length cv, .slice an T.nodes.length cn, .slice ab T.body.length cb] 28)) := (Below.refl _ _).alloc (Nat.le_refl _) _
 have hZ : (w.alloc (.cells #[.slice av T.vars.length cv, .slice an T.nodes.length cn, .slice ab T.body.length cb] 28)).heap.size = w.heap.size + 1 := by simp
 have hA2 := heap_alloc_new (w.alloc (.cells #[.slice av T.vars.length cv, .slice an T.nodes.length cn, .slice ab T.body.length cb] 28)) (.cells #[.slice a zs.length cap] 59)
 have hB2 : Below (w.alloc (.cells #[.slice av T.vars.length cv, .slice an T.nodes.length cn, .slice ab T.body.length cb] 28)).heap.size (w.alloc (.cells #[.slice av T.vars.length cv, .slice an T.nodes.length cn, .slice ab T.body.length cb] 28)) _ := (Below.refl _ _).alloc (Nat.le_refl _) (.cells #[.slice a zs.length cap] 59)
 have hA1 := blk hA hB2
 have hB3 := hB.trans (hB2.mono (by omega))
 rw [hZ] at hA2
 have HX2 : Hid (Calls Tryz.prog 84 #[.pointer (some ⟨w.heap.size, 0, none⟩), .pointer (some ⟨w.heap.size + 1, 0, none⟩)] ((w.alloc (.cells #[.slice av T.vars.length cv, .slice an T.nodes.length cn, .slice ab T.body.length cb] 28)).alloc (.cells #[.slice a zs.length cap] 59)) fun e w' => e = .returned (.int .i64 (staF T zs)) ∧ Below ((w.alloc (.cells #[.slice av T.vars.length cv, .slice an T.nodes.length cn, .slice ab T.body.length cb] 28)).alloc (.cells #[.slice a zs.length cap] 59)).heap.size ((w.alloc (.cells #[.slice av T.vars.length cv, .slice an T.nodes.length cn, .slice ab T.body.length cb] 28)).alloc (.cells #[.slice a zs.length cap] 59)) w') := HX.out _ hB3 hA1 hA2
 have HB3 : Hid _ := hB3
 clear hA hB hB2 hZ hA1 hA2 HX hB3
 go_enter Tryz.func32, Tryz.ntmps32
 go_wp2_with fail
 generalize ((w.alloc (.cells #[.slice av T.vars.length cv, .slice an T.nodes.length cn, .slice ab T.body.length cb] 28)).alloc (.cells #[.slice a zs.length cap] 59)) = W at *
 refine HX2.out.mono ?_
 rintro e w2 ⟨rfl, hb⟩
 have HB : Hid (Below w.heap.size w w2) := HB3.out.trans (hb.mono HB3.out.size)
 clear hb HB3 HX2
 go_wp2_with fail
 go_ret
 exact ⟨rfl, HB.out⟩
end Go.Proofs.YtdnhmpemkpjcaaaGreatDoor
namespace Go.Proofs.YtdnhmpemkpjcaaaGreatDoor
open Go.RowKit
set_option linter.unusedVariables false
theorem two_start (w : World) (vv vn vb : Value) (T1 T2 : TypeId) : let W := ((w.alloc (.cells #[vv, vn, vb] T1)).alloc (.cells #[.int .i64 0, .int .i64 0] T2))
  W.heap[w.heap.size]? = some (.cells #[vv, vn, vb] T1 (0, 0)) ∧ W.heap[w.heap.size + 1]? = some (.cells #[.int .i64 0, .int .i64 0] T2 (0, 0)) ∧ Below w.heap.size w W := by
 intro W
 have hA := heap_alloc_new w (.cells #[vv, vn, vb] T1)
 have hB : Below w.heap.size w (w.alloc (.cells #[vv, vn, vb] T1)) := (Below.refl _ _).alloc (Nat.le_refl _) _
 have hZ : (w.alloc (.cells #[vv, vn, vb] T1)).heap.size = w.heap.size + 1 := by simp
 have hA2 := heap_alloc_new (w.alloc (.cells #[vv, vn, vb] T1)) (.cells #[.int .i64 0, .int .i64 0] T2)
 have hB2 : Below (w.alloc (.cells #[vv, vn, vb] T1)).heap.size (w.alloc (.cells #[vv, vn, vb] T1)) W := (Below.refl _ _).alloc (Nat.le_refl _) _
 rw [hZ] at hA2
 exact ⟨blk hA hB2, hA2, hB.trans (hB2.mono (by omega))⟩
end Go.Proofs.YtdnhmpemkpjcaaaGreatDoor
namespace Go.Proofs.YtdnhmpemkpjcaaaGreatDoor
open Go.RowKit
set_option linter.unusedVariables false
attribute [local go_sem] bs_size bs_get bs_extract bs_append bs_eq bs_toList
def TreeNumI (f : FuncId) (C V : LTree → Int) : Prop := ∀ (lo : Nat) (vv vn vb : Value) (T : LTree) (w : World), TreeV lo w vv vn vb T → Sized 1048576 T →
 Calls Tryz.prog f #[treeV vv vn vb] w fun e w' => e = .returned (.agg #[.int .i64 (C T), .int .i64 (V T)]) ∧ Below w.heap.size w w'
def celC (T : LTree) : Int := faultL T
def celV (T : LTree) : Int := if faultL T ≠ 0 then 0 else cellsL (allL 0 T)
set_option maxHeartbeats 6400000 in
set_option maxRecDepth 100000 in
theorem implCellsOf : TreeNumI 12 celC celV := by
 intro lo vv vn vb T w h hS
 obtain ⟨av, cv, rfl, _⟩ := id h.vars
 obtain ⟨an, cn, rfl, _⟩ := id h.nodes
 obtain ⟨ab, cb, rfl, _⟩ := id h.body
 have HF : Hid (∀ (w' : World), Below w.heap.size w w' → Calls Tryz.prog 49 #[treeV (.slice av T.vars.length cv) (.slice an T.nodes.length cn) (.slice ab T.body.length cb)] w' fun e w2 => e = .returned (.int .i64 (faultL T)) ∧ Below w'.heap.size w' w2) := fun w' hb =>
  implTreeFault lo _ _ _ T w' (h.below hb) hS
 have HD : Hid (∀ (w' : World), Below w.heap.size w w' → faultL T = 0 → Calls Tryz.prog 51 #[.agg #[.slice av T.vars.length cv, .slice an T.nodes.length cn, .slice ab T.body.length cb]] w' fun e w2 => ∃ v, e = .returned v ∧ w2.ownsRow w'.heap.size 100 6 v (allL 0 T).length (entC (allL 0 T) T.vars.length (allL 0 T).length) ∧ Below w'.heap.size w' w2) := fun w' hb h0 =>
  variablesOf_any lo _ _ _ T w' (h.below hb) (good_of h0)
 have HSZ : Hid (faultL T = 0 → SizesLe (allL 0 T) ∧ (allL 0 T).length ≤ 624) := fun h => ⟨(good_of h).sizes 0, (good_of h).all_len 0⟩
 have HCC : Hid (∀ (ad : Option Addr) (c : Nat) (w : World), RowE w ad (allL 0 T) T.vars.length → SizesLe (allL 0 T) → (allL 0 T).length ≤ 624 → Calls Tryz.prog 50 #[.slice ad (allL 0 T).length c] w fun e w' => e = .returned (.int .i64 (cellsL (allL 0 T))) ∧ Below w.heap.size w w') := fun ad c w h1 h2 h3 =>
  cellCount_any (allL 0 T) T.vars.length ad (allL 0 T).length c w rfl h1 h2 h3
 have HV : Hid (celV T = if faultL T ≠ 0 then 0 else cellsL (allL 0 T)) := rfl
 have HC : Hid (celC T = faultL T) := rfl
 clear h hS
 go_enter Tryz.func12, Tryz.ntmps12
 go_wp2_with fail
 obtain ⟨hA, hA2, hB⟩ := two_start w (.slice av T.vars.length cv) (.slice an T.nodes.length cn) (.slice ab T.body.length cb) 28 31
 generalize ((w.alloc (.cells #[.slice av T.vars.length cv, .slice an T.nodes.length cn, .slice ab T.body.length cb] 28)).alloc (.cells #[.int .i64 0, .int .i64 0] 31)) = W at *
 refine (HF.out _ hB).mono ?_
 rintro e w2 ⟨rfl, hb⟩
 have HA : Hid (w2.heap[w.heap.size]? = some (.cells #[.slice av T.vars.length cv, .slice an T.nodes.length cn, .slice ab T.body.length cb] 28 (0, 0))) := blk hA hb
 have HA2 : Hid (w2.heap[w.heap.size + 1]? = some (.cells #[.int .i64 0, .int .i64 0] 31 (0, 0))) := blk hA2 hb
 have HB : Hid (Below w.heap.size w w2) := hB.trans (hb.mono hB.size)
 clear hA hA2 hB hb HF
 obtain ⟨F, hF⟩ : ∃ F, faultL T = F := ⟨_, rfl⟩
 rw [hF]
 by_cases hz : F = 0
 ·subst hz
  have HCV : Hid (celC T = 0 ∧ celV T = cellsL (allL 0 T)) := ⟨by rw [HC.out, hF], by rw [HV.out, hF, if_neg (by simp)]⟩
  have HDC : Hid (Calls Tryz.prog 51 #[.agg #[.slice av T.vars.length cv, .slice an T.nodes.length cn, .slice ab T.body.length cb]] w2 fun e w3 => ∃ v, e = .returned v ∧ w3.ownsRow w2.heap.size 100 6 v (allL 0 T).length (entC (allL 0 T) T.vars.length (allL 0 T).length) ∧ Below w2.heap.size w2 w3) := HD.out _ HB.out hF
  have HS2 : Hid (SizesLe (allL 0 T) ∧ (allL 0 T).length ≤ 624) := HSZ.out hF
  have p0 := cell_of_row _ _ 0 _ _ _ HA.out
  have p1 := cell_of_row _ _ 1 _ _ _ HA.out
  have p2 := cell_of_row _ _ 2 _ _ _ HA.out
  simp at p0 p1 p2
  clear hF HC HV HD HSZ
  go_wp2_with fail
  refine HDC.out.mono ?_
  rintro e w4 ⟨v, rfl, hown, hb⟩
  obtain ⟨ad, cp, rfl⟩ := rowE_shape hown
  have hRV := RowE.of_own hown rfl
  have HCX : Hid (Calls Tryz.prog 50 #[.slice ad (allL 0 T).length cp] w4 fun e w' => e = .returned (.int .i64 (cellsL (allL 0 T))) ∧ Below w4.heap.size w4 w') := HCC.out ad cp w4 hRV HS2.out.1 HS2.out.2
  have hA2 := blk HA2.out hb
  have HB2 : Hid (Below w.heap.size w w4) := HB.out.trans (hb.mono HB.out.size)
  clear hown hRV hb HCC HS2 HDC p0 p1 p2
  go_wp2_with fail
  refine HCX.out.mono ?_
  rintro e w5 ⟨rfl, hb⟩
  have hA5 := blk hA2 hb
  have HB5 : Hid (Below w.heap.size w w5) := HB2.out.trans (hb.mono HB2.out.size)
  clear hA2 hb
  have r0 := cell_of_row _ _ 0 _ _ _ hA5
  have r1 := cell_of_row _ _ 1 _ _ _ hA5
  have f0 := frozen_of_row _ _ 0 _ _ hA5
  have f1 := frozen_of_row _ _ 1 _ _ hA5
  simp at r0 r1 f0 f1
  clear hA5
  generalize cellsL (allL 0 T) = z at *
  go_wp2_with fail
  refine bodyPost_ret (v := .agg #[.int .i64 0, .int .i64 z]) (by simp [results, Tryz.results12, go_sem, r0, r1]) rfl ⟨by rw [HCV.out.1, HCV.out.2], (HB5.out.setCell (by simp) _).setCell (by simp) _⟩
 ·have HCV : Hid (celC T = F ∧ celV T = 0) := ⟨by rw [HC.out, hF], by rw [HV.out, hF, if_pos hz]⟩
  have hz1 : (F == 0) = false := by simpa using hz
  have hz2 : decide (F = 0) = false := decide_eq_false hz
  have r0 := cell_of_row _ _ 0 _ _ _ HA2.out
  have r1 := cell_of_row _ _ 1 _ _ _ HA2.out
  have f0 := frozen_of_row _ _ 0 _ _ HA2.out
  have f1 := frozen_of_row _ _ 1 _ _ HA2.out
  simp at r0 r1 f0 f1
  clear HC HV hF
  go_wp2_with fail
  refine bodyPost_ret (v := .agg #[.int .i64 F, .int .i64 0]) (by simp [results, Tryz.results12, go_sem, r0, r1]) rfl ⟨by rw [HCV.out.1, HCV.out.2], (HB.out.setCell (by simp) _).setCell (by simp) _⟩
def TreeStG (f : FuncId) (R : LTree → List Int → Int) : Prop := ∀ (lo : Nat) (vv vn vb : Value) (T : LTree) (a : Option Addr) (zs : List Int) (cap : Nat) (w : World), TreeV lo w vv vn vb T → Sized 1048576 T → Nums w a zs → zs.length ≤ 1048576 → ErrT w →
 Calls Tryz.prog f #[treeV vv vn vb, .agg #[.slice a zs.length cap]] w fun e w' => e = .returned (.int .i64 (R T zs)) ∧ Below w.heap.size w w'
theorem fldC (a b c : Int) (w : World) : (Instr.field 34 (.agg #[.int .i64 a, .int .i64 b, .int .i64 c]) 0).run Tryz.prog w = .ok (.int .i64 a) w := by kernel_rfl
theorem fldI (a b : Int) (w : World) : (Instr.field 31 (.agg #[.int .i64 a, .int .i64 b]) 1).run Tryz.prog w = .ok (.int .i64 b) w := by kernel_rfl
set_option maxHeartbeats 6400000 in
set_option maxRecDepth 100000 in
theorem implStateFault : TreeStG 34 staF := by
 intro lo vv vn vb T a zs cap w h hS hn hlen hE
 have HX : Hid (∀ W, Below w.heap.size w W → Calls Tryz.prog 13 #[treeV vv vn vb] W fun e w' => e = .returned (.agg #[.int .i64 (chkT T).1.1, .int .i64 (chkT T).1.2, .int .i64 (chkT T).2]) ∧ Below W.heap.size W w') := fun W hb => implCheckTree lo vv vn vb T W (h.below hb) hS (hE.kept hb)
 have HCE : Hid ((chkT T).1.1 = 0 → ∀ W, Below w.heap.size w W → Calls Tryz.prog 12 #[treeV vv vn vb] W fun e w' => e = .returned (.agg #[.int .i64 0, .int .i64 (cellsL (allL 0 T))]) ∧ Below W.heap.size W w') := fun h0 W hb => by
  have h1 := implCellsOf lo vv vn vb T W (h.below hb) hS
  have e1 : celC T = 0 := (chk_good h0).1
  have e2 : celV T = cellsL (allL 0 T) := by unfold celV; rw [if_neg (by rw [(chk_good h0).1]; simp)]
  rw [e1, e2] at h1
  exact h1
 have HL6 : Hid (∀ W, Below w.heap.size w W → Calls Tryz.prog 85 #[.slice a zs.length cap] W fun e w' => e = .returned (.int .i64 (fault zs)) ∧ w' = W) := fun W hb => implFault_any a zs cap W (by omega) (hn.below hb)
 have HFA : Hid (zs.length ≤ 400 → fault zs = if allW zs = true then 0 else 3) := fault_allW
 have HG : Hid ((chkT T).1.1 = 0 → cellsL (allL 0 T) ≤ 60) := fun h => (chk_good h).2
 have HST : Hid (staF T zs = if (chkT T).1.1 ≠ 0 then (chkT T).1.1 else if (zs.length : Int) ≠ cellsL (allL 0 T) then 1 else if allW zs = true then 0 else 3) := rfl
 obtain ⟨av, cv, rfl, _⟩ := id h.vars
 obtain ⟨an, cn, rfl, _⟩ := id h.nodes
 obtain ⟨ab, cb, rfl, _⟩ := id h.body
 clear h hS hn hE
 generalize staF T zs = R at *
 generalize (chkT T).1.1 = c1 at *
 generalize (chkT T).1.2 = c2 at *
 generalize (chkT T).2 = c3 at *
 generalize cellsL (allL 0 T) = z at *
 generalize allW zs = aw at *
 generalize fault zs = fz at *
 have hA := heap_alloc_new w (.cells #[.slice av T.vars.length cv, .slice an T.nodes.length cn, .slice ab T.body.length cb] 28)
 have hB : Below w.heap.size w (w.alloc (.cells #[.slice av T.vars.length cv, .slice an T.nodes.length cn, .slice ab T.body.length cb] 28)) := (Below.refl _ _).alloc (Nat.le_refl _) _
 have hZ : (w.alloc (.cells #[.slice av T.vars.length cv, .slice an T.nodes.length cn, .slice ab T.body.length cb] 28)).heap.size = w.heap.size + 1 := by simp
 have hA2 := heap_alloc_new (w.alloc (.cells #[.slice av T.vars.length cv, .slice an T.nodes.length cn, .slice ab T.body.length cb] 28)) (.cells #[.slice a zs.length cap] 59)
 have hB2 : Below (w.alloc (.cells #[.slice av T.vars.length cv, .slice an T.nodes.length cn, .slice ab T.body.length cb] 28)).heap.size (w.alloc (.cells #[.slice av T.vars.length cv, .slice an T.nodes.length cn, .slice ab T.body.length cb] 28)) _ := (Below.refl _ _).alloc (Nat.le_refl _) (.cells #[.slice a zs.length cap] 59)
 have hA1 := blk hA hB2
 have hB3 := hB.trans (hB2.mono (by omega))
 rw [hZ] at hA2
 clear hA hB hB2 hZ
 have hfl := fldC
 have hfi := fldI
 go_enter Tryz.func34, Tryz.ntmps34
 go_wp2_with fail
 generalize ((w.alloc (.cells #[.slice av T.vars.length cv, .slice an T.nodes.length cn, .slice ab T.body.length cb] 28)).alloc (.cells #[.slice a zs.length cap] 59)) = W at *
 refine (HX.out _ hB3).mono ?_
 rintro e w2 ⟨rfl, hb⟩
 have HA : Hid (w2.heap[w.heap.size]? = some (.cells #[.slice av T.vars.length cv, .slice an T.nodes.length cn, .slice ab T.body.length cb] 28 (0, 0))) := blk hA1 hb
 have HA2 : Hid (w2.heap[w.heap.size + 1]? = some (.cells #[.slice a zs.length cap] 59 (0, 0))) := blk hA2 hb
 have HB : Hid (Below w.heap.size w w2) := hB3.trans (hb.mono hB3.size)
 clear hA1 hA2 hB3 hb HX
 by_cases hc : c1 = 0
 ·subst hc
  have HR : Hid (R = if (zs.length : Int) ≠ z then 1 else if aw = true then 0 else 3) := by unfold Hid; rw [HST.out, if_neg (by simp)]
  have HCX : Hid (Calls Tryz.prog 12 #[treeV (.slice av T.vars.length cv) (.slice an T.nodes.length cn) (.slice ab T.body.length cb)] w2.drew fun e w' => e = .returned (.agg #[.int .i64 0, .int .i64 z]) ∧ Below w2.drew.heap.size w2.drew w') := HCE.out rfl _ HB.out.drew
  have HZ : Hid (z ≤ 60) := HG.out rfl
  clear HST HCE HG
  have q0 := cell_of_row _ _ 0 _ _ _ HA2.out
  have p0 := cell_of_row _ _ 0 _ _ _ HA.out
  have p1 := cell_of_row _ _ 1 _ _ _ HA.out
  have p2 := cell_of_row _ _ 2 _ _ _ HA.out
  simp at q0 p0 p1 p2
  by_cases hz : (zs.length : Int) = z
  ·subst hz
   have HR2 : Hid (R = if aw = true then 0 else 3) := by unfold Hid; rw [HR.out, if_neg (by simp)]
   have HFB : Hid (R = fz) := by unfold Hid; rw [HR2.out]; exact (HFA.out (by have := HZ.out; omega)).symm
   clear HR HR2 HFA HZ
   go_upto_region 4 with fail
   go_region_held3 (fun W => W.cell? ⟨w.heap.size + 1, 0, none⟩ = some (.slice a zs.length cap) ∧ W.cell? ⟨w.heap.size, 0, none⟩ = some (.slice av T.vars.length cv) ∧ W.cell? ⟨w.heap.size, 1, none⟩ = some (.slice an T.nodes.length cn) ∧ W.cell? ⟨w.heap.size, 2, none⟩ = some (.slice ab T.body.length cb)) (go_keep) (first | (go_at_call 12; refine HCX.out.mono ?_; rintro e w7 ⟨rfl, hb⟩; have HE : Hid (Below w.heap.size w w7) := HB.out.drew.trans (hb.mono HB.out.drew.size); have hx1 := blk HA.out (Below.mono (Below.trans ((Below.refl _ w2).drew) hb) (Nat.le_refl _)); have hx2 := blk HA2.out (Below.mono (Below.trans ((Below.refl _ w2).drew) hb) (Nat.le_refl _)); have q0 := cell_of_row _ _ 0 _ _ _ hx2; have p0 := cell_of_row _ _ 0 _ _ _ hx1; have p1 := cell_of_row _ _ 1 _ _ _ hx1; have p2 := cell_of_row _ _ 2 _ _ _ hx1; simp at q0 p0 p1 p2; clear hb hx1 hx2))
   go_wp2_with fail
   refine (HL6.out _ HE.out).mono ?_
   rintro e w9 ⟨rfl, rfl⟩
   go_wp2_with fail
   go_ret
   exact ⟨by rw [HFB.out]; rfl, HE.out⟩
  ·have hz1 : ((zs.length : Int) == z) = false := by simpa using hz
   have hz2 : decide ((zs.length : Int) = z) = false := decide_eq_false hz
   have HR2 : Hid (R = 1) := by unfold Hid; rw [HR.out, if_pos hz]
   clear HR HFA HZ
   go_upto_region 4 with fail
   go_region_held3 (fun W => W.cell? ⟨w.heap.size + 1, 0, none⟩ = some (.slice a zs.length cap) ∧ W.cell? ⟨w.heap.size, 0, none⟩ = some (.slice av T.vars.length cv) ∧ W.cell? ⟨w.heap.size, 1, none⟩ = some (.slice an T.nodes.length cn) ∧ W.cell? ⟨w.heap.size, 2, none⟩ = some (.slice ab T.body.length cb)) (go_keep) (first | (go_at_call 12; refine HCX.out.mono ?_; rintro e w7 ⟨rfl, hb⟩; have HE : Hid (Below w.heap.size w w7) := HB.out.drew.trans (hb.mono HB.out.drew.size); have hx1 := blk HA.out (Below.mono (Below.trans ((Below.refl _ w2).drew) hb) (Nat.le_refl _)); have hx2 := blk HA2.out (Below.mono (Below.trans ((Below.refl _ w2).drew) hb) (Nat.le_refl _)); have q0 := cell_of_row _ _ 0 _ _ _ hx2; have p0 := cell_of_row _ _ 0 _ _ _ hx1; have p1 := cell_of_row _ _ 1 _ _ _ hx1; have p2 := cell_of_row _ _ 2 _ _ _ hx1; simp at q0 p0 p1 p2; clear hb hx1 hx2))
   go_wp2_with fail
   go_ret
   exact ⟨by rw [HR2.out]; rfl, HE.out⟩
 ·have hz1 : (c1 == 0) = false := by simpa using hc
  have hz2 : decide (c1 = 0) = false := decide_eq_false hc
  have HR : Hid (R = c1) := by unfold Hid; rw [HST.out, if_pos hc]
  clear HST HCE HL6 HFA HG
  go_wp2_with fail
  go_ret
  exact ⟨by rw [HR.out]; rfl, HB.out⟩
set_option maxHeartbeats 6400000 in
set_option maxRecDepth 100000 in
theorem stateFault_law (vv vn vb : Value) (T : LTree) (a : Option Addr) (zs : List Int) (cap : Nat) (w : World) (h : IsTree w vv vn vb T) (hn : Nums w a zs) (hl : zs.length ≤ 9223372036854775807) (hE : ErrT w) :
  Calls Tryz.prog 7 #[treeV vv vn vb, .agg #[.slice a zs.length cap]] w fun e w' => e = .returned (.bool true) ∧ Below w.heap.size w w' := by
 obtain ⟨ht, hf⟩ := h
 have HET : Hid (∀ W, Below w.heap.size w W → ErrT W) := fun W hb => hE.kept hb
 have HNW : Hid (∀ W, Below w.heap.size w W → Nums W a zs) := fun W hb => hn.below hb
 have HSZ : Hid (∀ (left : Int) (W : World), 0 ≤ left → left ≤ 1048576 → Calls Tryz.prog 31 #[.agg #[.slice a zs.length cap], .int .i64 left] W fun e w' => ∃ r : Int, e = .returned (.int .i64 r) ∧ (0 ≤ r → zs.length ≤ 1048576) ∧ Below W.heap.size W w') := fun left W h0 h1 => szState_any a zs.length cap left h0 h1 hl W
 obtain ⟨av, cv, rfl, _⟩ := id ht.vars
 obtain ⟨an, cn, rfl, _⟩ := id ht.nodes
 obtain ⟨ab, cb, rfl, _⟩ := id ht.body
 have HT : Hid (TreeV 0 w (.slice av T.vars.length cv) (.slice an T.nodes.length cn) (.slice ab T.body.length cb) T) := ht
 have HF : Hid (Fits T) := hf
 have hA := heap_alloc_new w (.cells #[.slice av T.vars.length cv, .slice an T.nodes.length cn, .slice ab T.body.length cb] 47)
 have hB : Below w.heap.size w (w.alloc (.cells #[.slice av T.vars.length cv, .slice an T.nodes.length cn, .slice ab T.body.length cb] 47)) := (Below.refl _ _).alloc (Nat.le_refl _) _
 have hZ : (w.alloc (.cells #[.slice av T.vars.length cv, .slice an T.nodes.length cn, .slice ab T.body.length cb] 47)).heap.size = w.heap.size + 1 := by simp
 have hA2 := heap_alloc_new (w.alloc (.cells #[.slice av T.vars.length cv, .slice an T.nodes.length cn, .slice ab T.body.length cb] 47)) (.cells #[.slice a zs.length cap] 66)
 have hB2 : Below (w.alloc (.cells #[.slice av T.vars.length cv, .slice an T.nodes.length cn, .slice ab T.body.length cb] 47)).heap.size (w.alloc (.cells #[.slice av T.vars.length cv, .slice an T.nodes.length cn, .slice ab T.body.length cb] 47)) _ := (Below.refl _ _).alloc (Nat.le_refl _) (.cells #[.slice a zs.length cap] 66)
 have hA1 := blk hA hB2
 have hB3 := hB.trans (hB2.mono (by omega))
 rw [hZ] at hA2
 clear hA hB hB2 hZ ht hf hn hl hE
 go_enter Tryz.func7, Tryz.ntmps7
 go_wp2_with fail
 generalize ((w.alloc (.cells #[.slice av T.vars.length cv, .slice an T.nodes.length cn, .slice ab T.body.length cb] 47)).alloc (.cells #[.slice a zs.length cap] 66)) = W at *
 refine (szTreeLe_any 0 T _ _ _ _ (HT.out.below hB3) HF.out).mono ?_
 rintro e w1 ⟨r, rfl, hr, hb1⟩
 have HA : Hid (w1.heap[w.heap.size]? = some (.cells #[.slice av T.vars.length cv, .slice an T.nodes.length cn, .slice ab T.body.length cb] 47 (0, 0))) := blk hA1 hb1
 have HA2 : Hid (w1.heap[w.heap.size + 1]? = some (.cells #[.slice a zs.length cap] 66 (0, 0))) := blk hA2 hb1
 have HB : Hid (Below w.heap.size w w1) := hB3.trans (hb1.mono hB3.size)
 clear hb1 hA1 hA2 hB3
 by_cases h0 : 0 ≤ r
 ·obtain ⟨hz1, hr1⟩ := hr h0
  have HZ : Hid (Sized 1048576 T) := hz1
  clear hr hz1
  have s0 := cell_of_row _ _ 0 _ _ _ HA2.out
  simp at s0
  go_wp2_with fail
  refine (HSZ.out r _ h0 hr1).mono ?_
  rintro e w1b ⟨r2, rfl, hr2, hb⟩
  have HAb : Hid (w1b.heap[w.heap.size]? = some (.cells #[.slice av T.vars.length cv, .slice an T.nodes.length cn, .slice ab T.body.length cb] 47 (0, 0))) := blk HA.out hb
  have HA2b : Hid (w1b.heap[w.heap.size + 1]? = some (.cells #[.slice a zs.length cap] 66 (0, 0))) := blk HA2.out hb
  have HBb : Hid (Below w.heap.size w w1b) := HB.out.trans (hb.mono HB.out.size)
  clear hb HA HA2 HB s0 h0 hr1 HSZ
  by_cases h0 : 0 ≤ r2
  ·have HZ2 : Hid (zs.length ≤ 1048576) := hr2 h0
   clear hr2
   have HTO : Hid (∀ W, Below w.heap.size w W → Calls Tryz.prog 19 #[.agg #[.slice av T.vars.length cv, .slice an T.nodes.length cn, .slice ab T.body.length cb]] W fun e w' => ∃ a c a2 c2 a3 c3, e = .returned (treeV (.slice a T.vars.length c) (.slice a2 T.nodes.length c2) (.slice a3 T.body.length c3)) ∧ TreeV W.heap.size w' (.slice a T.vars.length c) (.slice a2 T.nodes.length c2) (.slice a3 T.body.length c3) T ∧ Below W.heap.size W w') := fun W hW =>
    (toTree_any 0 T _ _ _ W (HT.out.below hW) HZ.out).mono fun e w' h => by
     obtain ⟨_, _, _, rfl, h1, h2⟩ := h
     obtain ⟨_, _, rfl, _⟩ := id h1.vars
     obtain ⟨_, _, rfl, _⟩ := id h1.nodes
     obtain ⟨_, _, rfl, _⟩ := id h1.body
     exact ⟨_, _, _, _, _, _, rfl, h1, h2⟩
   have HSO : Hid (∀ W, Below w.heap.size w W → Calls Tryz.prog 33 #[.agg #[.slice a zs.length cap]] W fun e w' => ∃ a2 c2, e = .returned (.agg #[.slice a2 zs.length c2]) ∧ Nums w' a2 zs ∧ Below W.heap.size W w') := fun W hW => toState_any a zs cap W HZ2.out (HNW.out W hW)
   have a0 := cell_of_row _ _ 0 _ _ _ HAb.out
   have a1 := cell_of_row _ _ 1 _ _ _ HAb.out
   have a2 := cell_of_row _ _ 2 _ _ _ HAb.out
   have s0 := cell_of_row _ _ 0 _ _ _ HA2b.out
   simp at a0 a1 a2 s0
   have HSP : Hid (∀ (lo : Nat) (v1 v2 v3 : Value) (b : Option Addr) (c : Nat) (W : World), TreeV lo W v1 v2 v3 T → Nums W b zs → Calls Tryz.prog 32 #[treeV v1 v2 v3, .agg #[.slice b zs.length c]] W fun e w' => e = .returned (.int .i64 (staF T zs)) ∧ Below W.heap.size W w') := fun lo v1 v2 v3 b c W h1 h2 => specStateFault lo v1 v2 v3 T b zs c W h1 HZ.out h2 HZ2.out
   have HIM : Hid (∀ (lo : Nat) (v1 v2 v3 : Value) (b : Option Addr) (c : Nat) (W : World), TreeV lo W v1 v2 v3 T → Nums W b zs → ErrT W → Calls Tryz.prog 34 #[treeV v1 v2 v3, .agg #[.slice b zs.length c]] W fun e w' => e = .returned (.int .i64 (staF T zs)) ∧ Below W.heap.size W w') := fun lo v1 v2 v3 b c W h1 h2 h3 => implStateFault lo v1 v2 v3 T b zs c W h1 HZ.out h2 HZ2.out h3
   generalize staF T zs = R at *
   go_upto_region 8 with fail
   have HC1 : Hid (∀ W, Below w1b.heap.size w1b W → (W.heap[w.heap.size]? = some (.cells #[.slice av T.vars.length cv, .slice an T.nodes.length cn, .slice ab T.body.length cb] 47 (0, 0)) ∧ W.heap[w.heap.size + 1]? = some (.cells #[.slice a zs.length cap] 66 (0, 0))) ∧ (W.cell? ⟨w.heap.size, 0, none⟩ = some (.slice av T.vars.length cv) ∧ W.cell? ⟨w.heap.size, 1, none⟩ = some (.slice an T.nodes.length cn) ∧ W.cell? ⟨w.heap.size, 2, none⟩ = some (.slice ab T.body.length cb)) ∧ W.cell? ⟨w.heap.size + 1, 0, none⟩ = some (.slice a zs.length cap)) := fun W hb =>
    ⟨⟨blk HAb.out hb, blk HA2b.out hb⟩, ⟨cell_of_row _ _ 0 _ _ _ (blk HAb.out hb), cell_of_row _ _ 1 _ _ _ (blk HAb.out hb), cell_of_row _ _ 2 _ _ _ (blk HAb.out hb)⟩, cell_of_row _ _ 0 _ _ _ (blk HA2b.out hb)⟩
   go_region_held3 (fun W => (W.cell? ⟨w.heap.size, 0, none⟩ = some (.slice av T.vars.length cv) ∧ W.cell? ⟨w.heap.size, 1, none⟩ = some (.slice an T.nodes.length cn) ∧ W.cell? ⟨w.heap.size, 2, none⟩ = some (.slice ab T.body.length cb)) ∧ W.cell? ⟨w.heap.size + 1, 0, none⟩ = some (.slice a zs.length cap)) (go_keep) (first | (go_at_call 19; refine (HTO.out _ HBb.out.drew).mono ?_; rintro e w7 ⟨a7, c7, b7, d7, e7, f7, rfl, ht7, hb⟩; have HD : Hid (Below w1b.heap.size w1b w7) := (Below.refl w1b.heap.size w1b).drew.trans (Below.mono hb (Nat.le_refl _)); obtain ⟨_, ⟨a0, a1, a2⟩, s0⟩ := HC1.out _ HD.out; have HT7 : Hid (TreeV _ w7 _ _ _ T) := ht7; clear hb ht7) | (go_at_call 33; refine (HSO.out _ (HBb.out.trans (HD.out.mono HBb.out.size))).mono ?_; rintro e w8 ⟨a8, c8, rfl, hn8, hb⟩; have HE : Hid (Below w1b.heap.size w1b w8) := HD.out.trans (Below.mono hb HD.out.size); obtain ⟨_, ⟨a0, a1, a2⟩, s0⟩ := HC1.out _ HE.out; have HT8 : Hid (TreeV _ w8 _ _ _ T) := HT7.out.below hb; have HN8 : Hid (Nums w8 a8 zs) := hn8; clear hb hn8) | (go_at_call 32; refine (HSP.out _ _ _ _ _ _ _ HT8.out HN8.out).mono ?_; rintro e w9 ⟨rfl, hb⟩; have HG : Hid (Below w1b.heap.size w1b w9) := HE.out.trans (Below.mono hb HE.out.size); obtain ⟨_, ⟨a0, a1, a2⟩, s0⟩ := HC1.out _ HG.out; clear hb))
   have hA9 := (HC1.out _ HG.out).1
   have HA9 : Hid (w9.heap[w.heap.size]? = some (.cells #[.slice av T.vars.length cv, .slice an T.nodes.length cn, .slice ab T.body.length cb] 47 (0, 0))) := hA9.1
   have HS9 : Hid (w9.heap[w.heap.size + 1]? = some (.cells #[.slice a zs.length cap] 66 (0, 0))) := hA9.2
   have HB9 : Hid (Below w.heap.size w w9) := HBb.out.trans (HG.out.mono HBb.out.size)
   clear HC1 HAb HA2b HBb HD HE HG HT7 HT8 HN8 hA9 HSP
   go_wp2_with fail
   refine (HTO.out _ HB9.out).mono ?_
   rintro e w10 ⟨a10, c10, b10, d10, e10, f10, rfl, ht, hb⟩
   have hA := blk HA9.out hb
   have hS := blk HS9.out hb
   have hB := HB9.out.trans (hb.mono HB9.out.size)
   have hbx : Below w10.heap.size w10 (w10.alloc (.cells #[.slice a10 T.vars.length c10, .slice b10 T.nodes.length d10, .slice e10 T.body.length f10] 28)) := (Below.refl _ _).alloc (Nat.le_refl _) _
   have HX : Hid ((w10.alloc (.cells #[.slice a10 T.vars.length c10, .slice b10 T.nodes.length d10, .slice e10 T.body.length f10] 28)).heap[w10.heap.size]? = some (.cells #[.slice a10 T.vars.length c10, .slice b10 T.nodes.length d10, .slice e10 T.body.length f10] 28 (0, 0))) := heap_alloc_new w10 _
   have HA11 : Hid ((w10.alloc (.cells #[.slice a10 T.vars.length c10, .slice b10 T.nodes.length d10, .slice e10 T.body.length f10] 28)).heap[w.heap.size]? = some (.cells #[.slice av T.vars.length cv, .slice an T.nodes.length cn, .slice ab T.body.length cb] 47 (0, 0))) := blk hA hbx
   have HS11 : Hid ((w10.alloc (.cells #[.slice a10 T.vars.length c10, .slice b10 T.nodes.length d10, .slice e10 T.body.length f10] 28)).heap[w.heap.size + 1]? = some (.cells #[.slice a zs.length cap] 66 (0, 0))) := blk hS hbx
   have HB11 : Hid (Below w.heap.size w (w10.alloc (.cells #[.slice a10 T.vars.length c10, .slice b10 T.nodes.length d10, .slice e10 T.body.length f10] 28))) := hB.trans (hbx.mono hB.size)
   have HT11 : Hid (TreeV w9.heap.size (w10.alloc (.cells #[.slice a10 T.vars.length c10, .slice b10 T.nodes.length d10, .slice e10 T.body.length f10] 28)) (.slice a10 T.vars.length c10) (.slice b10 T.nodes.length d10) (.slice e10 T.body.length f10) T) := ht.below hbx
   clear a0 a1 a2 s0 ht hb hA hS hB hbx HA9 HS9 HB9
   go_upto_region 10 with fail
   generalize w10.alloc (.cells #[.slice a10 T.vars.length c10, .slice b10 T.nodes.length d10, .slice e10 T.body.length f10] 28) = W11 at *
   generalize w10.heap.size = g11 at *
   have s0 := cell_of_row _ _ 0 _ _ _ HS11.out
   simp at s0
   go_wp2_with fail
   refine (HSO.out _ HB11.out).mono ?_
   rintro e w12 ⟨a12, c12, rfl, hn, hb⟩
   have hX := blk HX.out hb
   have hA := blk HA11.out hb
   have hS := blk HS11.out hb
   have hB := HB11.out.trans (hb.mono HB11.out.size)
   have hT := HT11.out.below hb
   have hbx : Below w12.heap.size w12 (w12.alloc (.cells #[.slice a12 zs.length c12] 59)) := (Below.refl _ _).alloc (Nat.le_refl _) _
   have HY : Hid ((w12.alloc (.cells #[.slice a12 zs.length c12] 59)).heap[w12.heap.size]? = some (.cells #[.slice a12 zs.length c12] 59 (0, 0))) := heap_alloc_new w12 _
   have HX13 : Hid ((w12.alloc (.cells #[.slice a12 zs.length c12] 59)).heap[g11]? = some (.cells #[.slice a10 T.vars.length c10, .slice b10 T.nodes.length d10, .slice e10 T.body.length f10] 28 (0, 0))) := blk hX hbx
   have HA13 : Hid ((w12.alloc (.cells #[.slice a12 zs.length c12] 59)).heap[w.heap.size]? = some (.cells #[.slice av T.vars.length cv, .slice an T.nodes.length cn, .slice ab T.body.length cb] 47 (0, 0))) := blk hA hbx
   have HS13 : Hid ((w12.alloc (.cells #[.slice a12 zs.length c12] 59)).heap[w.heap.size + 1]? = some (.cells #[.slice a zs.length cap] 66 (0, 0))) := blk hS hbx
   have HB13 : Hid (Below w.heap.size w (w12.alloc (.cells #[.slice a12 zs.length c12] 59))) := hB.trans (hbx.mono hB.size)
   have HT13 : Hid (TreeV w9.heap.size (w12.alloc (.cells #[.slice a12 zs.length c12] 59)) (.slice a10 T.vars.length c10) (.slice b10 T.nodes.length d10) (.slice e10 T.body.length f10) T) := hT.below hbx
   have HN13 : Hid (Nums (w12.alloc (.cells #[.slice a12 zs.length c12] 59)) a12 zs) := hn.below hbx
   clear s0 hn hb hX hA hS hB hT hbx HX HA11 HS11 HB11 HT11
   go_upto_region 11 with fail
   generalize w12.alloc (.cells #[.slice a12 zs.length c12] 59) = W13 at *
   generalize w12.heap.size = g13 at *
   have x0 := cell_of_row _ _ 0 _ _ _ HX13.out
   have x1 := cell_of_row _ _ 1 _ _ _ HX13.out
   have x2 := cell_of_row _ _ 2 _ _ _ HX13.out
   have y0 := cell_of_row _ _ 0 _ _ _ HY.out
   simp at x0 x1 x2 y0
   go_wp2_with fail
   refine (HIM.out _ _ _ _ _ _ _ HT13.out HN13.out (HET.out _ HB13.out)).mono ?_
   rintro e w14 ⟨rfl, hb⟩
   have HX14 : Hid (w14.heap[g11]? = some (.cells #[.slice a10 T.vars.length c10, .slice b10 T.nodes.length d10, .slice e10 T.body.length f10] 28 (0, 0))) := blk HX13.out hb
   have HY14 : Hid (w14.heap[g13]? = some (.cells #[.slice a12 zs.length c12] 59 (0, 0))) := blk HY.out hb
   have HA14 : Hid (w14.heap[w.heap.size]? = some (.cells #[.slice av T.vars.length cv, .slice an T.nodes.length cn, .slice ab T.body.length cb] 47 (0, 0))) := blk HA13.out hb
   have HS14 : Hid (w14.heap[w.heap.size + 1]? = some (.cells #[.slice a zs.length cap] 66 (0, 0))) := blk HS13.out hb
   have HB14 : Hid (Below w.heap.size w w14) := HB13.out.trans (hb.mono HB13.out.size)
   have HT14 : Hid (TreeV w9.heap.size w14 (.slice a10 T.vars.length c10) (.slice b10 T.nodes.length d10) (.slice e10 T.body.length f10) T) := HT13.out.below hb
   have HN14 : Hid (Nums w14 a12 zs) := HN13.out.below hb
   clear x0 x1 x2 y0 hb HX13 HY HA13 HS13 HB13 HT13 HN13 HIM HET
   have HC1 : Hid (∀ W, Below w14.heap.size w14 W → (W.cell? ⟨w.heap.size, 0, none⟩ = some (.slice av T.vars.length cv) ∧ W.cell? ⟨w.heap.size, 1, none⟩ = some (.slice an T.nodes.length cn) ∧ W.cell? ⟨w.heap.size, 2, none⟩ = some (.slice ab T.body.length cb)) ∧ (W.cell? ⟨g11, 0, none⟩ = some (.slice a10 T.vars.length c10) ∧ W.cell? ⟨g11, 1, none⟩ = some (.slice b10 T.nodes.length d10) ∧ W.cell? ⟨g11, 2, none⟩ = some (.slice e10 T.body.length f10))) := fun W hb =>
    ⟨⟨cell_of_row _ _ 0 _ _ _ (blk HA14.out hb), cell_of_row _ _ 1 _ _ _ (blk HA14.out hb), cell_of_row _ _ 2 _ _ _ (blk HA14.out hb)⟩, cell_of_row _ _ 0 _ _ _ (blk HX14.out hb), cell_of_row _ _ 1 _ _ _ (blk HX14.out hb), cell_of_row _ _ 2 _ _ _ (blk HX14.out hb)⟩
   have HC2 : Hid (∀ W, Below w14.heap.size w14 W → W.cell? ⟨w.heap.size + 1, 0, none⟩ = some (.slice a zs.length cap) ∧ W.cell? ⟨g13, 0, none⟩ = some (.slice a12 zs.length c12)) := fun W hb =>
    ⟨cell_of_row _ _ 0 _ _ _ (blk HS14.out hb), cell_of_row _ _ 0 _ _ _ (blk HY14.out hb)⟩
   have HTE : Hid (∀ W lo v1 v2 v3, Below w14.heap.size w14 W → TreeV lo W v1 v2 v3 T → Calls Tryz.prog 22 #[.agg #[.slice a10 T.vars.length c10, .slice b10 T.nodes.length d10, .slice e10 T.body.length f10], treeV v1 v2 v3] W fun e w' => e = .returned (.bool true) ∧ Below W.heap.size W w') := fun W lo v1 v2 v3 hW h =>
    eqTree_any _ _ T _ _ _ _ _ _ W (HT14.out.below hW) h HZ.out
   have HSE : Hid (∀ W b c, Below w14.heap.size w14 W → Nums W b zs → Calls Tryz.prog 35 #[.agg #[.slice a12 zs.length c12], .agg #[.slice b zs.length c]] W fun e w' => e = .returned (.bool true) ∧ Below W.heap.size W w') := fun W b c hW h =>
    eqState_any _ _ zs _ _ W HZ2.out (HN14.out.below hW) h
   clear HX14 HY14 HA14 HS14 HT14 HN14
   obtain ⟨⟨a0, a1, a2⟩, x0, x1, x2⟩ := HC1.out _ (Below.refl _ _)
   go_upto_region 14 with fail
   go_region_held3 (fun W => (W.cell? ⟨w.heap.size, 0, none⟩ = some (.slice av T.vars.length cv) ∧ W.cell? ⟨w.heap.size, 1, none⟩ = some (.slice an T.nodes.length cn) ∧ W.cell? ⟨w.heap.size, 2, none⟩ = some (.slice ab T.body.length cb)) ∧ (W.cell? ⟨g11, 0, none⟩ = some (.slice a10 T.vars.length c10) ∧ W.cell? ⟨g11, 1, none⟩ = some (.slice b10 T.nodes.length d10) ∧ W.cell? ⟨g11, 2, none⟩ = some (.slice e10 T.body.length f10))) (go_keep) (first | (go_at_call 19; refine (HTO.out _ HB14.out.drew).mono ?_; rintro e w7 ⟨a7, c7, b7, d7, e7, f7, rfl, ht7, hb⟩; have HD : Hid (Below w14.heap.size w14 w7) := (Below.refl w14.heap.size w14).drew.trans (Below.mono hb (Nat.le_refl _)); obtain ⟨⟨a0, a1, a2⟩, x0, x1, x2⟩ := HC1.out _ HD.out; have HT7 : Hid (TreeV _ w7 _ _ _ T) := ht7; clear hb ht7) | (go_at_call 22; refine (HTE.out _ _ _ _ _ HD.out HT7.out).mono ?_; rintro e w8 ⟨rfl, hb⟩; have HE : Hid (Below w14.heap.size w14 w8) := HD.out.trans (Below.mono hb HD.out.size); obtain ⟨⟨a0, a1, a2⟩, x0, x1, x2⟩ := HC1.out _ HE.out; clear hb))
   clear HC1 HTE HTO a0 a1 a2 x0 x1 x2 HD HT7
   obtain ⟨s0, y0⟩ := HC2.out _ HE.out
   go_upto_region 16 with fail
   have HB8 : Hid (Below w.heap.size w w8) := HB14.out.trans (HE.out.mono HB14.out.size)
   go_region_held3 (fun W => W.cell? ⟨w.heap.size + 1, 0, none⟩ = some (.slice a zs.length cap) ∧ W.cell? ⟨g13, 0, none⟩ = some (.slice a12 zs.length c12)) (go_keep) (first | (go_at_call 33; refine (HSO.out _ HB8.out.drew).mono ?_; rintro e w17 ⟨a17, c17, rfl, hn17, hb⟩; have HD : Hid (Below w14.heap.size w14 w17) := HE.out.drew.trans (Below.mono hb HE.out.drew.size); obtain ⟨s0, y0⟩ := HC2.out _ HD.out; have HN17 : Hid (Nums w17 a17 zs) := hn17; clear hb hn17) | (go_at_call 35; refine (HSE.out _ _ _ HD.out HN17.out).mono ?_; rintro e w18 ⟨rfl, hb⟩; have HG : Hid (Below w14.heap.size w14 w18) := HD.out.trans (Below.mono hb HD.out.size); obtain ⟨s0, y0⟩ := HC2.out _ HG.out; clear hb))
   have HBB : Hid (Below w.heap.size w w18) := HB14.out.trans (HG.out.mono HB14.out.size)
   go_wp2
   go_ret
   exact ⟨rfl, HBB.out⟩
  ·go_wp2_with fail
   go_ret
   exact ⟨rfl, HBb.out⟩
 ·clear HSZ
  go_wp2_with fail
  go_ret
  exact ⟨rfl, HB.out⟩
end Go.Proofs.YtdnhmpemkpjcaaaGreatDoor
namespace Go.Proofs.YtdnhmpemkpjcaaaGreatDoor
open Go.RowKit Go.ChangeShapes Go.WideShapes Go.Deep Go.Lib Go.Joins
set_option linter.unusedVariables false
def IsSt (w : World) (a : Option Addr) (zs : List Int) : Prop := Nums w a zs ∧ zs.length ≤ 9223372036854775807
theorem cellsState : Tryz.prog.cellsOf 66 = 1 := by kernel_rfl
section
variable {H : Type} {enc : TypeId × Value → H} {W : World}
theorem one_of {α : Type} {cs : Array α} (h : cs.size = 1) : ∃ c, cs = #[c] := by
 obtain ⟨l⟩ := cs
 cases l with
 | nil => simp at h
 | cons c l => cases l with
  | nil => exact ⟨c, rfl⟩
  | cons d l => simp at h
set_option maxRecDepth 100000 in
theorem open_state {base : Nat} {v : Value} {d : DataW H} {p : List MemPlace} (hv : Value.okWide Tryz.prog W .any base 66 v) (h : DataW.Trod enc Tryz.prog W 0 (fun _ => true) true 66 v d p) :
  ∃ (a : Option Addr) (zs : List Int) (c : Nat), v = .agg #[.slice a zs.length c] ∧ IsSt W a zs := by
 obtain ⟨cs, rfl, hsz⟩ := okWide_struct Tryz.underlying66 hv
 obtain ⟨c0, rfl⟩ := one_of (hsz.trans cellsState)
 obtain ⟨fuel, hf⟩ := h
 obtain ⟨y0, n, hx, _, h0⟩ := trod_struct1 Tryz.underlying66 hf
 have h1 : DataW.trod enc Tryz.prog W 0 (fun _ => true) true n 26 [c0] = some y0 := by simpa [Value.cells, cellsInts] using h0
 obtain ⟨xs, hxs, lx⟩ := open_intsV h1
 obtain ⟨a, c, rfl, _⟩ := id hxs
 exact ⟨a, xs, c, rfl, nums_of_ints hxs, lx⟩
end
end Go.Proofs.YtdnhmpemkpjcaaaGreatDoor
namespace Go.Proofs.YtdnhmpemkpjcaaaGreatDoor
open Go.RowKit
set_option linter.unusedVariables false
theorem fnExactStateFault_walk (vv0 vn0 vb0 : Value) (T0 : LTree) (a1 : Option Addr) (z1 : List Int) (cap1 : Nat) (w : World) (w0 : IsTree w vv0 vn0 vb0 T0) (w1 : IsSt w a1 z1) (hE : ErrT w) :
  Calls Tryz.prog 7 #[treeV vv0 vn0 vb0, .agg #[.slice a1 z1.length cap1]] w fun e w' => e = .returned (.bool true) ∧ Below w.heap.size w w' :=
 stateFault_law vv0 vn0 vb0 T0 a1 z1 cap1 w w0 w1.1 w1.2 hE
end Go.Proofs.YtdnhmpemkpjcaaaGreatDoor
