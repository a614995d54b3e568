/-
  The Go function laws.FnBlocksteps answers true at every input and writes nothing that was there. No condition.
-/
import Derived.Test.YtalopffpaepaaaaDrawK
import Derived.Test.YtalopffpaepaaaaBlkP
import Derived.Test.YtalopffpaepaaaaSBlk3
import Derived.Test.YtalopffpaepaaaaIBlk
import Derived.Test.YtalopffpaepaaaaBin
import Derived.Test.YtalopffpaepaaaaBig
import Derived.RegionTactic
import Derived.Deep.RegionHeld3
import Derived.Deep.QuietTactic
import Derived.BigQuiet
namespace Go.Proofs.Ytalopffpaepaaaa
open Go.RowKit
set_option linter.unusedVariables false

theorem fieldL0 (c : Int) (a : Option Addr) (n k : Nat) (w : World) : (Instr.field 28 (resL c (.slice a n k)) 0).run Try.prog w = .ok (.int .i64 c) w := by kernel_rfl
theorem fieldI1 (a b : Int) (w : World) : (Instr.field 31 (res a b) 1).run Try.prog w = .ok (.int .i64 b) w := by kernel_rfl

set_option maxHeartbeats 12800000 in
set_option maxRecDepth 100000 in
theorem fnBlocksteps_walk (a0 : Option Addr) (len0 cap0 : Nat) (z0 : List Int) (w : World) (w0 : IsRow .u8 w a0 len0 cap0 z0) :
    Calls Try.prog 3 #[.slice a0 len0 cap0] w fun e w' => e = .returned (.bool true) ∧ Below w.heap.size w w' := by
  obtain ⟨hb0, ha0⟩ := bytes_of_row w0
  have hfl0 := fieldL0
  have hfl1 := fieldI1
  clear w0
  by_cases hbig : 1048576 < len0
  · go_enter Try.func3, Try.ntmps3
    go_wp2_with fail
    refine (big_yes _ _ _ _ hbig).mono ?_
    rintro e w1 ⟨rfl, rfl⟩
    go_wp2
    go_ret
    exact ⟨rfl, Below.refl _ _⟩
  have hs : len0 ≤ 1048576 := by omega
  have HA : Hid (len0 ≠ 0 → ∀ b o s, a0 = some ⟨b, o, s⟩ → b < w.heap.size) := ha0
  have HY : Hid (Bytes w a0 len0) := hb0
  clear hbig ha0 hb0
  go_enter Try.func3, Try.ntmps3
  go_wp2_with fail
  refine (big_any _ _ _ _ hs).mono ?_
  rintro e w1 ⟨rfl, rfl⟩
  go_wp2_with fail
  refine (drawStep_any a0 len0 cap0 w1 hs HY.out HA.out).mono ?_
  rintro e w2 ⟨op, zs, ys, ak, ay, ck, cy, rfl, hzl, hyl, hoz, hoy, hB2⟩
  have hz2 := (nums_of_own hoz).2
  have hy2 := (nums_of_own hoy).2
  have HB2 : Hid (Below w1.heap.size w1 w2) := hB2
  clear hoz hoy hB2 HA HY hs
  by_cases hf : blkC op zs ys = 0
  case neg =>
    have HSP : Hid (∀ W, Nums W ak zs → Nums W ay ys → Calls Try.prog 11 #[.int .i64 op, .slice ak zs.length ck, .slice ay ys.length cy] W fun e w' => (∃ a n c, e = .returned (resL (blkC op zs ys) (.slice a n c))) ∧ Below W.heap.size W w') := fun W h1 h2 => (specBlk_any op ak zs ck ay ys cy W (by omega) (by omega) h1 h2).mono (fun e w' h => by
      obtain ⟨v, he, ho, hb⟩ := h
      obtain ⟨a, c, rfl⟩ := own_shape ho
      exact ⟨⟨_, _, _, he⟩, hb⟩)
    have HIM : Hid (∀ W, Nums W ak zs → Nums W ay ys → Calls Try.prog 10 #[.int .i64 op, .slice ak zs.length ck, .slice ay ys.length cy] W fun e w' => (∃ a n c, e = .returned (resL (blkC op zs ys) (.slice a n c))) ∧ Below W.heap.size W w') := fun W h1 h2 => (implBlk_any op ak zs ck ay ys cy W (by omega) (by omega) h1 h2).mono (fun e w' h => by
      obtain ⟨v, he, ho, hb⟩ := h
      obtain ⟨a, c, rfl⟩ := own_shape ho
      exact ⟨⟨_, _, _, he⟩, hb⟩)
    generalize blkC op zs ys = f at *
    have hfb : (f != 0) = true := by simpa using hf
    clear hf
    go_wp2_with fail
    refine (HIM.out _ hz2 hy2).mono ?_
    rintro e w3 ⟨⟨a1, n1, c1, rfl⟩, hb⟩
    have hb4 := hb.trans (((Below.refl w3.heap.size w3).alloc (Nat.le_refl _) (.cells #[.int .i64 f, .slice a1 n1 c1] 28)).mono hb.size)
    have hz4 := hz2.below hb4
    have hy4 := hy2.below hb4
    have hB4 := HB2.out.trans (hb4.mono HB2.out.size)
    clear hb hb4 hz2 hy2 HIM HB2
    go_wp2_with fail
    have hv0 : (w3.alloc (.cells #[.int .i64 f, .slice a1 n1 c1] 28)).cell? ⟨w3.heap.size, 0, none⟩ = some (.int .i64 f) := cell_of_row _ _ 0 _ _ _ (heap_alloc_new w3 _)
    have hlv : w3.heap.size < (w3.alloc (.cells #[.int .i64 f, .slice a1 n1 c1] 28)).heap.size := by simp
    generalize hW : w3.alloc (.cells #[.int .i64 f, .slice a1 n1 c1] 28) = w4 at *
    clear hW
    go_region_held3 (fun W => W.cell? ⟨w3.heap.size, 0, none⟩ = some (.int .i64 f)) (go_keep) (first | (go_at_call 11; refine (HSP.out _ ?_ ?_).mono ?_; exact hz4; exact hy4; rintro e w5 ⟨⟨a5, n5, c5, rfl⟩, hb⟩; have hD : Below w4.heap.size w4 w5 := ((Below.refl w4.heap.size w4).drew).trans (Below.mono hb (Nat.le_refl _)); have k0 := (hD.cell (p := ⟨w3.heap.size, 0, none⟩) hlv).trans hv0; have hB5 : Below w1.heap.size w1 w5 := hB4.trans (hD.mono hB4.size); clear hb hD))
    go_wp2
    go_ret
    exact ⟨rfl, by assumption⟩
  have hf2 := blkC_again hf
  obtain ⟨⟨h1, h4⟩, hz, hy, hzw, hyw⟩ := blkC_zero hf
  have hkw := word_at hzw (by rw [hz]; exact (bk_pos op).1)
  have HIM : Hid (∀ (W : World) (a : Option Addr) (c : Nat) (xs : List Int), xs.length ≤ 5 → blkC op xs ys = 0 → Nums W a xs → Nums W ay ys → Calls Try.prog 10 #[.int .i64 op, .slice a xs.length c, .slice ay ys.length cy] W fun e w' => ∃ ad cp, e = .returned (resL 0 (.slice ad (blkL op xs ys).length cp)) ∧ Nums w' ad (blkL op xs ys) ∧ Below W.heap.size W w') := fun W a c xs hx h0 h1 h2 => (implBlk_any op a xs c ay ys cy W (by omega) (by omega) h1 h2).mono (fun e w' h => by
    obtain ⟨v, he, ho, hb⟩ := h
    unfold blkV at ho
    rw [if_pos h0] at ho
    rw [h0] at he
    obtain ⟨a, c, rfl⟩ := own_shape ho
    exact ⟨_, _, he, (nums_of_own ho).2, hb⟩)
  have HBI : Hid (∀ (a b : Int) (W : World), Calls Try.prog 12 #[.int .i64 2, .int .i64 a, .int .i64 b] W fun e w' => e = .returned (res 0 (binW 2 a b)) ∧ Below W.heap.size W w') := fun a b W => implBin_2 a b W
  have hop : op = 1 ∨ op = 2 ∨ op = 3 ∨ op = 4 := by omega
  clear hzw hyw h1 h4
  rcases hop with rfl | rfl | rfl | rfl
  · obtain ⟨k0, k1, k2, rfl⟩ : ∃ k0 k1 k2 : Int, zs = [k0, k1, k2] := ⟨_, _, _, list3 hz⟩
    obtain ⟨a0, a1, a2, rfl⟩ : ∃ a0 a1 a2 : Int, ys = [a0, a1, a2] := ⟨_, _, _, list3 hy⟩
    replace hkw : 0 ≤ k0 ∧ k0 ≤ 65535 := hkw
    obtain ⟨C, hC⟩ : ∃ x : Int, x = ctuC k0 k1 a0 a1 := ⟨_, rfl⟩
    obtain ⟨M, hM⟩ : ∃ x : Int, x = b01 (decide (a0 ≠ 0)) := ⟨_, rfl⟩
    obtain ⟨Q, hQ⟩ : ∃ x : Int, x = b01 (decide (sg a2 ≤ sg (ctuC k0 k1 a0 a1))) := ⟨_, rfl⟩
    obtain ⟨C2, hC2⟩ : ∃ x : Int, x = ctuC C M a0 a1 := ⟨_, rfl⟩
    obtain ⟨M2, hM2⟩ : ∃ x : Int, x = b01 (decide (a0 ≠ 0)) := ⟨_, rfl⟩
    obtain ⟨Q2, hQ2⟩ : ∃ x : Int, x = b01 (decide (sg a2 ≤ sg (ctuC C M a0 a1))) := ⟨_, rfl⟩
    have eL1 : blkL 1 [k0, k1, k2] [a0, a1, a2] = [C, M, Q] := by unfold blkL; rw [if_pos rfl]; rw [hC, hM, hQ]; rfl
    have eL2 : blkL 1 [C, M, Q] [a0, a1, a2] = [C2, M2, Q2] := by unfold blkL; rw [if_pos rfl]; rw [hC2, hM2, hQ2]; rfl
    rw [eL1] at hf2
    have HI1 : Hid (∀ (W : World), Nums W ak [k0, k1, k2] → Nums W ay [a0, a1, a2] → Calls Try.prog 10 #[.int .i64 1, .slice ak 3 ck, .slice ay 3 cy] W fun e w' => ∃ ad cp, e = .returned (resL 0 (.slice ad 3 cp)) ∧ Nums w' ad [C, M, Q] ∧ Below W.heap.size W w') := fun W h1 h2 => by
      have := HIM.out W ak ck [k0, k1, k2] (by simp) hf h1 h2
      rw [eL1] at this
      exact this
    have HI2 : Hid (∀ (W : World) (a : Option Addr) (c : Nat), Nums W a [C, M, Q] → Nums W ay [a0, a1, a2] → Calls Try.prog 10 #[.int .i64 1, .slice a 3 c, .slice ay 3 cy] W fun e w' => ∃ ad cp, e = .returned (resL 0 (.slice ad 3 cp)) ∧ Nums w' ad [C2, M2, Q2] ∧ Below W.heap.size W w') := fun W a c h1 h2 => by
      have := HIM.out W a c [C, M, Q] (by simp) hf2 h1 h2
      rw [eL2] at this
      exact this
    have HF : Hid ((a1 ≠ 0 → C = 0) ∧ (a1 = 0 → C2 = C ∧ (binW 2 C k0 = 0 ∨ binW 2 C k0 = 1))) := ⟨fun h => by rw [hC]; exact ctuC_reset h, fun h => by subst h; rw [hC2, hM, hC]; exact ⟨ctu_again k0 k1 a0, ctu_step hkw⟩⟩
    clear hC hM hQ hC2 hM2 hQ2 eL1 eL2 hf hf2 hz hy hzl hyl HIM hkw
    go_wp2_with fail
    refine (HI1.out _ hz2 hy2).mono ?_
    rintro e w3 ⟨ad, cp, rfl, hn3, hb⟩
    have hbA := (Below.refl w3.heap.size w3).alloc (Nat.le_refl _) (.cells #[.int .i64 0, .slice ad 3 cp] 28)
    have hb4 := hb.trans (hbA.mono hb.size)
    have hz4 := hz2.below hb4
    have hy4 := hy2.below hb4
    have hn4 := hn3.below hbA
    have hB4 := HB2.out.trans (hb4.mono HB2.out.size)
    have hv4 := heap_alloc_new w3 (.cells #[.int .i64 0, .slice ad 3 cp] 28)
    have HB4 : Hid _ := hB4
    clear hb hbA hb4 hz2 hy2 hn3 hB4 HB2 HI1
    go_wp2_with fail
    refine (HI2.out _ _ _ hn4 hy4).mono ?_
    rintro e w5 ⟨ad2, cp2, rfl, hn5, hb⟩
    have hbA := (Below.refl w5.heap.size w5).alloc (Nat.le_refl _) (.cells #[.int .i64 0, .slice ad2 3 cp2] 28)
    have hb6 := hb.trans (hbA.mono hb.size)
    have hz6 := hz4.below hb6
    have hy6 := hy4.below hb6
    have hn6 := hn4.below hb6
    have hm6 := hn5.below hbA
    have HB6 : Hid _ := HB4.out.trans (hb6.mono HB4.out.size)
    have hv6 := (hb6.block w3.heap.size (by simp)).trans hv4
    have hu6 := heap_alloc_new w5 (.cells #[.int .i64 0, .slice ad2 3 cp2] 28)
    have hlv : w3.heap.size < w5.heap.size := Nat.lt_of_lt_of_le (by simp) hb.size
    clear hb hbA hb6 hz4 hy4 hn4 hn5 HB4 HI2 hv4
    obtain ⟨bk, ok, rfl, hck⟩ := hz6.at (by simp)
    obtain ⟨ba, oa, rfl, hca⟩ := hy6.at (by simp)
    obtain ⟨b1, o1, rfl, hc1⟩ := hn6.at (by simp)
    obtain ⟨b2, o2, rfl, hc2⟩ := hm6.at (by simp)
    have r0 : (w5.alloc (.cells #[.int .i64 0, .slice (some ⟨b2, o2, none⟩) 3 cp2] 28)).cell? ⟨w3.heap.size, 0, none⟩ = some (.int .i64 0) := cell_of_row _ _ 0 _ _ _ hv6
    have r1 : (w5.alloc (.cells #[.int .i64 0, .slice (some ⟨b2, o2, none⟩) 3 cp2] 28)).cell? ⟨w3.heap.size, 1, none⟩ = some (.slice (some ⟨b1, o1, none⟩) 3 cp) := cell_of_row _ _ 1 _ _ _ hv6
    have s0 : (w5.alloc (.cells #[.int .i64 0, .slice (some ⟨b2, o2, none⟩) 3 cp2] 28)).cell? ⟨w5.heap.size, 0, none⟩ = some (.int .i64 0) := cell_of_row _ _ 0 _ _ _ hu6
    have s1 : (w5.alloc (.cells #[.int .i64 0, .slice (some ⟨b2, o2, none⟩) 3 cp2] 28)).cell? ⟨w5.heap.size, 1, none⟩ = some (.slice (some ⟨b2, o2, none⟩) 3 cp2) := cell_of_row _ _ 1 _ _ _ hu6
    have ck0 := hck 0 (by simp)
    have ck1 := hck 1 (by simp)
    have ck2 := hck 2 (by simp)
    have ca0 := hca 0 (by simp)
    have ca1 := hca 1 (by simp)
    have ca2 := hca 2 (by simp)
    have cC := hc1 0 (by simp)
    have cM := hc1 1 (by simp)
    have cQ := hc1 2 (by simp)
    have cC2 := hc2 0 (by simp)
    have cM2 := hc2 1 (by simp)
    have cQ2 := hc2 2 (by simp)
    simp only [Nat.add_zero, List.getD_cons_zero, List.getD_cons_succ] at ck0 ck1 ck2 ca0 ca1 ca2 cC cM cQ cC2 cM2 cQ2
    clear hck hca hc1 hc2 hz6 hy6 hn6 hm6 hv6 hu6
    go_wp2_with fail
    generalize hW : w5.alloc (.cells #[.int .i64 0, .slice (some ⟨b2, o2, none⟩) 3 cp2] 28) = w6 at *
    clear hW
    obtain ⟨st, hst⟩ : ∃ st, st = binW 2 C k0 := ⟨_, rfl⟩
    have HBC : Hid (∀ (W : World), Calls Try.prog 12 #[.int .i64 2, .int .i64 C, .int .i64 k0] W fun e w' => e = .returned (res 0 st) ∧ Below W.heap.size W w') := fun W => by rw [hst]; exact HBI.out C k0 W
    rw [← hst] at HF
    clear hst HBI
    have l_r1 := World.block_lt_of_cell? _ _ r1
    have l_cC := World.block_lt_of_cell? _ _ cC
    have l_ck0 := World.block_lt_of_cell? _ _ ck0
    have l_ca1 := World.block_lt_of_cell? _ _ ca1
    have l_s1 := World.block_lt_of_cell? _ _ s1
    have l_cC2 := World.block_lt_of_cell? _ _ cC2
    by_cases ha : a1 = 0
    · obtain ⟨hc, hst⟩ := HF.out.2 ha
      subst ha hc
      clear HF
      rcases hst with rfl | rfl
      · go_region_held3 (fun W => W.cell? ⟨w3.heap.size, 1, none⟩ = some (.slice (some ⟨b1, o1, none⟩) 3 cp) ∧ W.cell? ⟨b1, o1, none⟩ = some (.int .i64 C2) ∧ W.cell? ⟨bk, ok, none⟩ = some (.int .i64 k0)) (go_keep) (first | (go_at_call 12; refine (HBC.out _).mono ?_; rintro e w7 ⟨rfl, hb⟩; have hD : Below w6.heap.size w6 w7 := ((Below.refl w6.heap.size w6).drew).trans (Below.mono hb (Nat.le_refl _)); have n_r1 := (hD.cell (p := ⟨w3.heap.size, 1, none⟩) l_r1).trans r1; have n_cC := (hD.cell (p := ⟨b1, o1, none⟩) l_cC).trans cC; have n_ck0 := (hD.cell (p := ⟨bk, ok, none⟩) l_ck0).trans ck0; have n_ca1 := (hD.cell (p := ⟨ba, oa + 1, none⟩) l_ca1).trans ca1; have n_s1 := (hD.cell (p := ⟨w5.heap.size, 1, none⟩) l_s1).trans s1; have n_cC2 := (hD.cell (p := ⟨b2, o2, none⟩) l_cC2).trans cC2; have HB7 : Hid (Below w1.heap.size w1 w7) := HB6.out.trans (hD.mono HB6.out.size); clear hb hD))
        go_wp2_with fail
        go_quiet (fail)
        go_wp2
        go_ret
        exact ⟨rfl, by first | exact HB7.out | exact HB7.out.drew | exact ⟨HB7.out.os, HB7.out.tape, HB7.out.output, HB7.out.size, HB7.out.block⟩⟩
      · go_region_held3 (fun W => W.cell? ⟨w3.heap.size, 1, none⟩ = some (.slice (some ⟨b1, o1, none⟩) 3 cp) ∧ W.cell? ⟨b1, o1, none⟩ = some (.int .i64 C2) ∧ W.cell? ⟨bk, ok, none⟩ = some (.int .i64 k0)) (go_keep) (first | (go_at_call 12; refine (HBC.out _).mono ?_; rintro e w7 ⟨rfl, hb⟩; have hD : Below w6.heap.size w6 w7 := ((Below.refl w6.heap.size w6).drew).trans (Below.mono hb (Nat.le_refl _)); have n_r1 := (hD.cell (p := ⟨w3.heap.size, 1, none⟩) l_r1).trans r1; have n_cC := (hD.cell (p := ⟨b1, o1, none⟩) l_cC).trans cC; have n_ck0 := (hD.cell (p := ⟨bk, ok, none⟩) l_ck0).trans ck0; have n_ca1 := (hD.cell (p := ⟨ba, oa + 1, none⟩) l_ca1).trans ca1; have n_s1 := (hD.cell (p := ⟨w5.heap.size, 1, none⟩) l_s1).trans s1; have n_cC2 := (hD.cell (p := ⟨b2, o2, none⟩) l_cC2).trans cC2; have HB7 : Hid (Below w1.heap.size w1 w7) := HB6.out.trans (hD.mono HB6.out.size); clear hb hD))
        go_wp2_with fail
        go_quiet (fail)
        go_wp2
        go_ret
        exact ⟨rfl, by first | exact HB7.out | exact HB7.out.drew | exact ⟨HB7.out.os, HB7.out.tape, HB7.out.output, HB7.out.size, HB7.out.block⟩⟩
    have hc := HF.out.1 ha
    have ea : (a1 != 0) = true := by simpa using ha
    subst hc
    clear HF ha
    by_cases hs0 : st = 0
    · subst hs0
      go_region_held3 (fun W => W.cell? ⟨w3.heap.size, 1, none⟩ = some (.slice (some ⟨b1, o1, none⟩) 3 cp) ∧ W.cell? ⟨b1, o1, none⟩ = some (.int .i64 0) ∧ W.cell? ⟨bk, ok, none⟩ = some (.int .i64 k0)) (go_keep) (first | (go_at_call 12; refine (HBC.out _).mono ?_; rintro e w7 ⟨rfl, hb⟩; have hD : Below w6.heap.size w6 w7 := ((Below.refl w6.heap.size w6).drew).trans (Below.mono hb (Nat.le_refl _)); have n_r1 := (hD.cell (p := ⟨w3.heap.size, 1, none⟩) l_r1).trans r1; have n_cC := (hD.cell (p := ⟨b1, o1, none⟩) l_cC).trans cC; have n_ck0 := (hD.cell (p := ⟨bk, ok, none⟩) l_ck0).trans ck0; have n_ca1 := (hD.cell (p := ⟨ba, oa + 1, none⟩) l_ca1).trans ca1; have n_s1 := (hD.cell (p := ⟨w5.heap.size, 1, none⟩) l_s1).trans s1; have n_cC2 := (hD.cell (p := ⟨b2, o2, none⟩) l_cC2).trans cC2; have HB7 : Hid (Below w1.heap.size w1 w7) := HB6.out.trans (hD.mono HB6.out.size); clear hb hD))
      go_wp2_with fail
      go_quiet (fail)
      go_wp2
      go_ret
      exact ⟨rfl, by first | exact HB7.out | exact HB7.out.drew | exact ⟨HB7.out.os, HB7.out.tape, HB7.out.output, HB7.out.size, HB7.out.block⟩⟩
    have e0 : (st == 0) = false := by simpa using hs0
    by_cases hs1 : st = 1
    · subst hs1
      clear hs0 e0
      go_region_held3 (fun W => W.cell? ⟨w3.heap.size, 1, none⟩ = some (.slice (some ⟨b1, o1, none⟩) 3 cp) ∧ W.cell? ⟨b1, o1, none⟩ = some (.int .i64 0) ∧ W.cell? ⟨bk, ok, none⟩ = some (.int .i64 k0)) (go_keep) (first | (go_at_call 12; refine (HBC.out _).mono ?_; rintro e w7 ⟨rfl, hb⟩; have hD : Below w6.heap.size w6 w7 := ((Below.refl w6.heap.size w6).drew).trans (Below.mono hb (Nat.le_refl _)); have n_r1 := (hD.cell (p := ⟨w3.heap.size, 1, none⟩) l_r1).trans r1; have n_cC := (hD.cell (p := ⟨b1, o1, none⟩) l_cC).trans cC; have n_ck0 := (hD.cell (p := ⟨bk, ok, none⟩) l_ck0).trans ck0; have n_ca1 := (hD.cell (p := ⟨ba, oa + 1, none⟩) l_ca1).trans ca1; have n_s1 := (hD.cell (p := ⟨w5.heap.size, 1, none⟩) l_s1).trans s1; have n_cC2 := (hD.cell (p := ⟨b2, o2, none⟩) l_cC2).trans cC2; have HB7 : Hid (Below w1.heap.size w1 w7) := HB6.out.trans (hD.mono HB6.out.size); clear hb hD))
      go_wp2_with fail
      go_quiet (fail)
      go_wp2
      go_ret
      exact ⟨rfl, by first | exact HB7.out | exact HB7.out.drew | exact ⟨HB7.out.os, HB7.out.tape, HB7.out.output, HB7.out.size, HB7.out.block⟩⟩
    have e1 : (st == 1) = false := by simpa using hs1
    clear hs0 hs1
    go_region_held3 (fun W => W.cell? ⟨w3.heap.size, 1, none⟩ = some (.slice (some ⟨b1, o1, none⟩) 3 cp) ∧ W.cell? ⟨b1, o1, none⟩ = some (.int .i64 0) ∧ W.cell? ⟨bk, ok, none⟩ = some (.int .i64 k0)) (go_keep) (first | (go_at_call 12; refine (HBC.out _).mono ?_; rintro e w7 ⟨rfl, hb⟩; have hD : Below w6.heap.size w6 w7 := ((Below.refl w6.heap.size w6).drew).trans (Below.mono hb (Nat.le_refl _)); have n_r1 := (hD.cell (p := ⟨w3.heap.size, 1, none⟩) l_r1).trans r1; have n_cC := (hD.cell (p := ⟨b1, o1, none⟩) l_cC).trans cC; have n_ck0 := (hD.cell (p := ⟨bk, ok, none⟩) l_ck0).trans ck0; have n_ca1 := (hD.cell (p := ⟨ba, oa + 1, none⟩) l_ca1).trans ca1; have n_s1 := (hD.cell (p := ⟨w5.heap.size, 1, none⟩) l_s1).trans s1; have n_cC2 := (hD.cell (p := ⟨b2, o2, none⟩) l_cC2).trans cC2; have HB7 : Hid (Below w1.heap.size w1 w7) := HB6.out.trans (hD.mono HB6.out.size); clear hb hD))
    go_wp2_with fail
    go_quiet (fail)
    go_wp2
    go_ret
    exact ⟨rfl, by first | exact HB7.out | exact HB7.out.drew | exact ⟨HB7.out.os, HB7.out.tape, HB7.out.output, HB7.out.size, HB7.out.block⟩⟩
  · obtain ⟨k0, k1, rfl⟩ : ∃ k0 k1 : Int, zs = [k0, k1] := ⟨_, _, list2 hz⟩
    obtain ⟨a0, a1, rfl⟩ : ∃ a0 a1 : Int, ys = [a0, a1] := ⟨_, _, list2 hy⟩
    replace hkw : 0 ≤ k0 ∧ k0 ≤ 65535 := hkw
    obtain ⟨C, hC⟩ : ∃ x : Int, x = tonC k0 a0 a1 := ⟨_, rfl⟩
    obtain ⟨Q, hQ⟩ : ∃ x : Int, x = b01 (decide (a0 ≠ 0 ∧ sg a1 ≤ sg (tonC k0 a0 a1))) := ⟨_, rfl⟩
    obtain ⟨C2, hC2⟩ : ∃ x : Int, x = tonC C a0 a1 := ⟨_, rfl⟩
    obtain ⟨Q2, hQ2⟩ : ∃ x : Int, x = b01 (decide (a0 ≠ 0 ∧ sg a1 ≤ sg (tonC C a0 a1))) := ⟨_, rfl⟩
    have eL1 : blkL 2 [k0, k1] [a0, a1] = [C, Q] := by unfold blkL; rw [if_neg (by decide), if_pos rfl]; rw [hC, hQ]; rfl
    have eL2 : blkL 2 [C, Q] [a0, a1] = [C2, Q2] := by unfold blkL; rw [if_neg (by decide), if_pos rfl]; rw [hC2, hQ2]; rfl
    rw [eL1] at hf2
    have HI1 : Hid (∀ (W : World), Nums W ak [k0, k1] → Nums W ay [a0, a1] → Calls Try.prog 10 #[.int .i64 2, .slice ak 2 ck, .slice ay 2 cy] W fun e w' => ∃ ad cp, e = .returned (resL 0 (.slice ad 2 cp)) ∧ Nums w' ad [C, Q] ∧ Below W.heap.size W w') := fun W h1 h2 => by
      have := HIM.out W ak ck [k0, k1] (by simp) hf h1 h2
      rw [eL1] at this
      exact this
    have HI2 : Hid (∀ (W : World) (a : Option Addr) (c : Nat), Nums W a [C, Q] → Nums W ay [a0, a1] → Calls Try.prog 10 #[.int .i64 2, .slice a 2 c, .slice ay 2 cy] W fun e w' => ∃ ad cp, e = .returned (resL 0 (.slice ad 2 cp)) ∧ Nums w' ad [C2, Q2] ∧ Below W.heap.size W w') := fun W a c h1 h2 => by
      have := HIM.out W a c [C, Q] (by simp) hf2 h1 h2
      rw [eL2] at this
      exact this
    have HF : Hid ((a0 = 0 → C = 0 ∧ Q = 0) ∧ (a0 ≠ 0 → (binW 2 C k0 = 0 ∨ binW 2 C k0 = 1))) := ⟨fun h => by subst h; rw [hC, hQ]; exact ⟨tonC_off k0 a1, by simp [b01]⟩, fun h => by rw [hC]; exact ton_step hkw h⟩
    clear hC hQ hC2 hQ2 eL1 eL2 hf hf2 hz hy hzl hyl HIM hkw
    go_wp2_with fail
    refine (HI1.out _ hz2 hy2).mono ?_
    rintro e w3 ⟨ad, cp, rfl, hn3, hb⟩
    have hbA := (Below.refl w3.heap.size w3).alloc (Nat.le_refl _) (.cells #[.int .i64 0, .slice ad 2 cp] 28)
    have hb4 := hb.trans (hbA.mono hb.size)
    have hz4 := hz2.below hb4
    have hy4 := hy2.below hb4
    have hn4 := hn3.below hbA
    have hB4 := HB2.out.trans (hb4.mono HB2.out.size)
    have hv4 := heap_alloc_new w3 (.cells #[.int .i64 0, .slice ad 2 cp] 28)
    have HB4 : Hid _ := hB4
    clear hb hbA hb4 hz2 hy2 hn3 hB4 HB2 HI1
    go_wp2_with fail
    refine (HI2.out _ _ _ hn4 hy4).mono ?_
    rintro e w5 ⟨ad2, cp2, rfl, hn5, hb⟩
    have hbA := (Below.refl w5.heap.size w5).alloc (Nat.le_refl _) (.cells #[.int .i64 0, .slice ad2 2 cp2] 28)
    have hb6 := hb.trans (hbA.mono hb.size)
    have hz6 := hz4.below hb6
    have hy6 := hy4.below hb6
    have hn6 := hn4.below hb6
    have hm6 := hn5.below hbA
    have HB6 : Hid _ := HB4.out.trans (hb6.mono HB4.out.size)
    have hv6 := (hb6.block w3.heap.size (by simp)).trans hv4
    have hu6 := heap_alloc_new w5 (.cells #[.int .i64 0, .slice ad2 2 cp2] 28)
    have hlv : w3.heap.size < w5.heap.size := Nat.lt_of_lt_of_le (by simp) hb.size
    clear hb hbA hb6 hz4 hy4 hn4 hn5 HB4 HI2 hv4
    obtain ⟨bk, ok, rfl, hck⟩ := hz6.at (by simp)
    obtain ⟨ba, oa, rfl, hca⟩ := hy6.at (by simp)
    obtain ⟨b1, o1, rfl, hc1⟩ := hn6.at (by simp)
    obtain ⟨b2, o2, rfl, hc2⟩ := hm6.at (by simp)
    have r0 : (w5.alloc (.cells #[.int .i64 0, .slice (some ⟨b2, o2, none⟩) 2 cp2] 28)).cell? ⟨w3.heap.size, 0, none⟩ = some (.int .i64 0) := cell_of_row _ _ 0 _ _ _ hv6
    have r1 : (w5.alloc (.cells #[.int .i64 0, .slice (some ⟨b2, o2, none⟩) 2 cp2] 28)).cell? ⟨w3.heap.size, 1, none⟩ = some (.slice (some ⟨b1, o1, none⟩) 2 cp) := cell_of_row _ _ 1 _ _ _ hv6
    have s0 : (w5.alloc (.cells #[.int .i64 0, .slice (some ⟨b2, o2, none⟩) 2 cp2] 28)).cell? ⟨w5.heap.size, 0, none⟩ = some (.int .i64 0) := cell_of_row _ _ 0 _ _ _ hu6
    have s1 : (w5.alloc (.cells #[.int .i64 0, .slice (some ⟨b2, o2, none⟩) 2 cp2] 28)).cell? ⟨w5.heap.size, 1, none⟩ = some (.slice (some ⟨b2, o2, none⟩) 2 cp2) := cell_of_row _ _ 1 _ _ _ hu6
    have ck0 := hck 0 (by simp)
    have ck1 := hck 1 (by simp)
    have ca0 := hca 0 (by simp)
    have ca1 := hca 1 (by simp)
    have cC := hc1 0 (by simp)
    have cQ := hc1 1 (by simp)
    have cC2 := hc2 0 (by simp)
    have cQ2 := hc2 1 (by simp)
    simp only [Nat.add_zero, List.getD_cons_zero, List.getD_cons_succ] at ck0 ck1 ca0 ca1 cC cQ cC2 cQ2
    clear hck hca hc1 hc2 hz6 hy6 hn6 hm6 hv6 hu6
    go_wp2_with fail
    generalize hW : w5.alloc (.cells #[.int .i64 0, .slice (some ⟨b2, o2, none⟩) 2 cp2] 28) = w6 at *
    clear hW
    obtain ⟨st, hst⟩ : ∃ st, st = binW 2 C k0 := ⟨_, rfl⟩
    have HBC : Hid (∀ (W : World), Calls Try.prog 12 #[.int .i64 2, .int .i64 C, .int .i64 k0] W fun e w' => e = .returned (res 0 st) ∧ Below W.heap.size W w') := fun W => by rw [hst]; exact HBI.out C k0 W
    rw [← hst] at HF
    clear hst HBI
    have l_r1 := World.block_lt_of_cell? _ _ r1
    have l_cC := World.block_lt_of_cell? _ _ cC
    have l_ck0 := World.block_lt_of_cell? _ _ ck0
    have l_ca0 := World.block_lt_of_cell? _ _ ca0
    have l_cQ := World.block_lt_of_cell? _ _ cQ
    by_cases ha : a0 = 0
    · obtain ⟨hc, hq⟩ := HF.out.1 ha
      subst ha hc hq
      clear HF
      by_cases hs0 : st = 0
      · subst hs0
        go_region_held3 (fun W => W.cell? ⟨w3.heap.size, 1, none⟩ = some (.slice (some ⟨b1, o1, none⟩) 2 cp) ∧ W.cell? ⟨b1, o1, none⟩ = some (.int .i64 0) ∧ W.cell? ⟨bk, ok, none⟩ = some (.int .i64 k0)) (go_keep) (first | (go_at_call 12; refine (HBC.out _).mono ?_; rintro e w7 ⟨rfl, hb⟩; have hD : Below w6.heap.size w6 w7 := ((Below.refl w6.heap.size w6).drew).trans (Below.mono hb (Nat.le_refl _)); have n_r1 := (hD.cell (p := ⟨w3.heap.size, 1, none⟩) l_r1).trans r1; have n_cC := (hD.cell (p := ⟨b1, o1, none⟩) l_cC).trans cC; have n_ck0 := (hD.cell (p := ⟨bk, ok, none⟩) l_ck0).trans ck0; have n_ca0 := (hD.cell (p := ⟨ba, oa, none⟩) l_ca0).trans ca0; have n_cQ := (hD.cell (p := ⟨b1, o1 + 1, none⟩) l_cQ).trans cQ; have HB7 : Hid (Below w1.heap.size w1 w7) := HB6.out.trans (hD.mono HB6.out.size); clear hb hD))
        go_wp2
        go_ret
        exact ⟨rfl, by first | exact HB7.out | exact HB7.out.drew | exact ⟨HB7.out.os, HB7.out.tape, HB7.out.output, HB7.out.size, HB7.out.block⟩⟩
      have e0 : (st == 0) = false := by simpa using hs0
      by_cases hs1 : st = 1
      · subst hs1
        clear hs0 e0
        go_region_held3 (fun W => W.cell? ⟨w3.heap.size, 1, none⟩ = some (.slice (some ⟨b1, o1, none⟩) 2 cp) ∧ W.cell? ⟨b1, o1, none⟩ = some (.int .i64 0) ∧ W.cell? ⟨bk, ok, none⟩ = some (.int .i64 k0)) (go_keep) (first | (go_at_call 12; refine (HBC.out _).mono ?_; rintro e w7 ⟨rfl, hb⟩; have hD : Below w6.heap.size w6 w7 := ((Below.refl w6.heap.size w6).drew).trans (Below.mono hb (Nat.le_refl _)); have n_r1 := (hD.cell (p := ⟨w3.heap.size, 1, none⟩) l_r1).trans r1; have n_cC := (hD.cell (p := ⟨b1, o1, none⟩) l_cC).trans cC; have n_ck0 := (hD.cell (p := ⟨bk, ok, none⟩) l_ck0).trans ck0; have n_ca0 := (hD.cell (p := ⟨ba, oa, none⟩) l_ca0).trans ca0; have n_cQ := (hD.cell (p := ⟨b1, o1 + 1, none⟩) l_cQ).trans cQ; have HB7 : Hid (Below w1.heap.size w1 w7) := HB6.out.trans (hD.mono HB6.out.size); clear hb hD))
        go_wp2
        go_ret
        exact ⟨rfl, by first | exact HB7.out | exact HB7.out.drew | exact ⟨HB7.out.os, HB7.out.tape, HB7.out.output, HB7.out.size, HB7.out.block⟩⟩
      have e1 : (st == 1) = false := by simpa using hs1
      clear hs0 hs1
      go_region_held3 (fun W => W.cell? ⟨w3.heap.size, 1, none⟩ = some (.slice (some ⟨b1, o1, none⟩) 2 cp) ∧ W.cell? ⟨b1, o1, none⟩ = some (.int .i64 0) ∧ W.cell? ⟨bk, ok, none⟩ = some (.int .i64 k0)) (go_keep) (first | (go_at_call 12; refine (HBC.out _).mono ?_; rintro e w7 ⟨rfl, hb⟩; have hD : Below w6.heap.size w6 w7 := ((Below.refl w6.heap.size w6).drew).trans (Below.mono hb (Nat.le_refl _)); have n_r1 := (hD.cell (p := ⟨w3.heap.size, 1, none⟩) l_r1).trans r1; have n_cC := (hD.cell (p := ⟨b1, o1, none⟩) l_cC).trans cC; have n_ck0 := (hD.cell (p := ⟨bk, ok, none⟩) l_ck0).trans ck0; have n_ca0 := (hD.cell (p := ⟨ba, oa, none⟩) l_ca0).trans ca0; have n_cQ := (hD.cell (p := ⟨b1, o1 + 1, none⟩) l_cQ).trans cQ; have HB7 : Hid (Below w1.heap.size w1 w7) := HB6.out.trans (hD.mono HB6.out.size); clear hb hD))
      go_wp2
      go_ret
      exact ⟨rfl, by first | exact HB7.out | exact HB7.out.drew | exact ⟨HB7.out.os, HB7.out.tape, HB7.out.output, HB7.out.size, HB7.out.block⟩⟩
    have hst := HF.out.2 ha
    have ea : (a0 != 0) = true := by simpa using ha
    have eb : (a0 == 0) = false := by simpa using ha
    clear HF ha
    rcases hst with rfl | rfl
    · go_region_held3 (fun W => W.cell? ⟨w3.heap.size, 1, none⟩ = some (.slice (some ⟨b1, o1, none⟩) 2 cp) ∧ W.cell? ⟨b1, o1, none⟩ = some (.int .i64 C) ∧ W.cell? ⟨bk, ok, none⟩ = some (.int .i64 k0)) (go_keep) (first | (go_at_call 12; refine (HBC.out _).mono ?_; rintro e w7 ⟨rfl, hb⟩; have hD : Below w6.heap.size w6 w7 := ((Below.refl w6.heap.size w6).drew).trans (Below.mono hb (Nat.le_refl _)); have n_r1 := (hD.cell (p := ⟨w3.heap.size, 1, none⟩) l_r1).trans r1; have n_cC := (hD.cell (p := ⟨b1, o1, none⟩) l_cC).trans cC; have n_ck0 := (hD.cell (p := ⟨bk, ok, none⟩) l_ck0).trans ck0; have n_ca0 := (hD.cell (p := ⟨ba, oa, none⟩) l_ca0).trans ca0; have n_cQ := (hD.cell (p := ⟨b1, o1 + 1, none⟩) l_cQ).trans cQ; have HB7 : Hid (Below w1.heap.size w1 w7) := HB6.out.trans (hD.mono HB6.out.size); clear hb hD))
      go_wp2
      go_ret
      exact ⟨rfl, by first | exact HB7.out | exact HB7.out.drew | exact ⟨HB7.out.os, HB7.out.tape, HB7.out.output, HB7.out.size, HB7.out.block⟩⟩
    · go_region_held3 (fun W => W.cell? ⟨w3.heap.size, 1, none⟩ = some (.slice (some ⟨b1, o1, none⟩) 2 cp) ∧ W.cell? ⟨b1, o1, none⟩ = some (.int .i64 C) ∧ W.cell? ⟨bk, ok, none⟩ = some (.int .i64 k0)) (go_keep) (first | (go_at_call 12; refine (HBC.out _).mono ?_; rintro e w7 ⟨rfl, hb⟩; have hD : Below w6.heap.size w6 w7 := ((Below.refl w6.heap.size w6).drew).trans (Below.mono hb (Nat.le_refl _)); have n_r1 := (hD.cell (p := ⟨w3.heap.size, 1, none⟩) l_r1).trans r1; have n_cC := (hD.cell (p := ⟨b1, o1, none⟩) l_cC).trans cC; have n_ck0 := (hD.cell (p := ⟨bk, ok, none⟩) l_ck0).trans ck0; have n_ca0 := (hD.cell (p := ⟨ba, oa, none⟩) l_ca0).trans ca0; have n_cQ := (hD.cell (p := ⟨b1, o1 + 1, none⟩) l_cQ).trans cQ; have HB7 : Hid (Below w1.heap.size w1 w7) := HB6.out.trans (hD.mono HB6.out.size); clear hb hD))
      go_wp2
      go_ret
      exact ⟨rfl, by first | exact HB7.out | exact HB7.out.drew | exact ⟨HB7.out.os, HB7.out.tape, HB7.out.output, HB7.out.size, HB7.out.block⟩⟩
  · obtain ⟨k0, k1, rfl⟩ : ∃ k0 k1 : Int, zs = [k0, k1] := ⟨_, _, list2 hz⟩
    obtain ⟨a0, rfl⟩ : ∃ a0 : Int, ys = [a0] := ⟨_, list1 hy⟩
    replace hkw : 0 ≤ k0 ∧ k0 ≤ 65535 := hkw
    obtain ⟨M, hM⟩ : ∃ x : Int, x = b01 (decide (a0 ≠ 0)) := ⟨_, rfl⟩
    obtain ⟨Q, hQ⟩ : ∃ x : Int, x = b01 (decide (a0 ≠ 0 ∧ k0 = 0)) := ⟨_, rfl⟩
    obtain ⟨M2, hM2⟩ : ∃ x : Int, x = b01 (decide (a0 ≠ 0)) := ⟨_, rfl⟩
    obtain ⟨Q2, hQ2⟩ : ∃ x : Int, x = b01 (decide (a0 ≠ 0 ∧ M = 0)) := ⟨_, rfl⟩
    have eL1 : blkL 3 [k0, k1] [a0] = [M, Q] := by unfold blkL; rw [if_neg (by decide), if_neg (by decide), if_pos rfl]; rw [hM, hQ]; rfl
    have eL2 : blkL 3 [M, Q] [a0] = [M2, Q2] := by unfold blkL; rw [if_neg (by decide), if_neg (by decide), if_pos rfl]; rw [hM2, hQ2]; rfl
    rw [eL1] at hf2
    have HI1 : Hid (∀ (W : World), Nums W ak [k0, k1] → Nums W ay [a0] → Calls Try.prog 10 #[.int .i64 3, .slice ak 2 ck, .slice ay 1 cy] W fun e w' => ∃ ad cp, e = .returned (resL 0 (.slice ad 2 cp)) ∧ Nums w' ad [M, Q] ∧ Below W.heap.size W w') := fun W h1 h2 => by
      have := HIM.out W ak ck [k0, k1] (by simp) hf h1 h2
      rw [eL1] at this
      exact this
    have HI2 : Hid (∀ (W : World) (a : Option Addr) (c : Nat), Nums W a [M, Q] → Nums W ay [a0] → Calls Try.prog 10 #[.int .i64 3, .slice a 2 c, .slice ay 1 cy] W fun e w' => ∃ ad cp, e = .returned (resL 0 (.slice ad 2 cp)) ∧ Nums w' ad [M2, Q2] ∧ Below W.heap.size W w') := fun W a c h1 h2 => by
      have := HIM.out W a c [M, Q] (by simp) hf2 h1 h2
      rw [eL2] at this
      exact this
    have HF : Hid (Q2 = 0 ∧ (Q = 0 ∨ (Q ≠ 0 ∧ k0 = 0 ∧ a0 ≠ 0))) := ⟨by rw [hQ2, hM]; exact trig_again a0, by
              by_cases h : a0 ≠ 0 ∧ k0 = 0
              · exact .inr ⟨by rw [hQ]; unfold b01; rw [decide_eq_true h]; decide, h.2, h.1⟩
              · exact .inl (by rw [hQ]; unfold b01; rw [decide_eq_false h]; rfl)⟩
    clear hM hQ hM2 hQ2 eL1 eL2 hf hf2 hz hy hzl hyl HIM hkw
    go_wp2_with fail
    refine (HI1.out _ hz2 hy2).mono ?_
    rintro e w3 ⟨ad, cp, rfl, hn3, hb⟩
    have hbA := (Below.refl w3.heap.size w3).alloc (Nat.le_refl _) (.cells #[.int .i64 0, .slice ad 2 cp] 28)
    have hb4 := hb.trans (hbA.mono hb.size)
    have hz4 := hz2.below hb4
    have hy4 := hy2.below hb4
    have hn4 := hn3.below hbA
    have hB4 := HB2.out.trans (hb4.mono HB2.out.size)
    have hv4 := heap_alloc_new w3 (.cells #[.int .i64 0, .slice ad 2 cp] 28)
    have HB4 : Hid _ := hB4
    clear hb hbA hb4 hz2 hy2 hn3 hB4 HB2 HI1
    go_wp2_with fail
    refine (HI2.out _ _ _ hn4 hy4).mono ?_
    rintro e w5 ⟨ad2, cp2, rfl, hn5, hb⟩
    have hbA := (Below.refl w5.heap.size w5).alloc (Nat.le_refl _) (.cells #[.int .i64 0, .slice ad2 2 cp2] 28)
    have hb6 := hb.trans (hbA.mono hb.size)
    have hz6 := hz4.below hb6
    have hy6 := hy4.below hb6
    have hn6 := hn4.below hb6
    have hm6 := hn5.below hbA
    have HB6 : Hid _ := HB4.out.trans (hb6.mono HB4.out.size)
    have hv6 := (hb6.block w3.heap.size (by simp)).trans hv4
    have hu6 := heap_alloc_new w5 (.cells #[.int .i64 0, .slice ad2 2 cp2] 28)
    have hlv : w3.heap.size < w5.heap.size := Nat.lt_of_lt_of_le (by simp) hb.size
    clear hb hbA hb6 hz4 hy4 hn4 hn5 HB4 HI2 hv4
    obtain ⟨bk, ok, rfl, hck⟩ := hz6.at (by simp)
    obtain ⟨ba, oa, rfl, hca⟩ := hy6.at (by simp)
    obtain ⟨b1, o1, rfl, hc1⟩ := hn6.at (by simp)
    obtain ⟨b2, o2, rfl, hc2⟩ := hm6.at (by simp)
    have r0 : (w5.alloc (.cells #[.int .i64 0, .slice (some ⟨b2, o2, none⟩) 2 cp2] 28)).cell? ⟨w3.heap.size, 0, none⟩ = some (.int .i64 0) := cell_of_row _ _ 0 _ _ _ hv6
    have r1 : (w5.alloc (.cells #[.int .i64 0, .slice (some ⟨b2, o2, none⟩) 2 cp2] 28)).cell? ⟨w3.heap.size, 1, none⟩ = some (.slice (some ⟨b1, o1, none⟩) 2 cp) := cell_of_row _ _ 1 _ _ _ hv6
    have s0 : (w5.alloc (.cells #[.int .i64 0, .slice (some ⟨b2, o2, none⟩) 2 cp2] 28)).cell? ⟨w5.heap.size, 0, none⟩ = some (.int .i64 0) := cell_of_row _ _ 0 _ _ _ hu6
    have s1 : (w5.alloc (.cells #[.int .i64 0, .slice (some ⟨b2, o2, none⟩) 2 cp2] 28)).cell? ⟨w5.heap.size, 1, none⟩ = some (.slice (some ⟨b2, o2, none⟩) 2 cp2) := cell_of_row _ _ 1 _ _ _ hu6
    have ck0 := hck 0 (by simp)
    have ck1 := hck 1 (by simp)
    have ca0 := hca 0 (by simp)
    have cM := hc1 0 (by simp)
    have cQ := hc1 1 (by simp)
    have cM2 := hc2 0 (by simp)
    have cQ2 := hc2 1 (by simp)
    simp only [Nat.add_zero, List.getD_cons_zero, List.getD_cons_succ] at ck0 ck1 ca0 cM cQ cM2 cQ2
    clear hck hca hc1 hc2 hz6 hy6 hn6 hm6 hv6 hu6
    obtain ⟨hq2, hq⟩ := HF.out
    subst hq2
    clear HF HBI
    rcases hq with rfl | ⟨hq, rfl, ha⟩
    · go_wp2
      go_ret
      exact ⟨rfl, by first | exact HB6.out | exact HB6.out.drew | exact ⟨HB6.out.os, HB6.out.tape, HB6.out.output, HB6.out.size, HB6.out.block⟩⟩
    · have e1 : (Q == 0) = false := by simpa using hq
      have e2 : (a0 != 0) = true := by simpa using ha
      clear hq ha
      go_wp2
      go_ret
      exact ⟨rfl, by first | exact HB6.out | exact HB6.out.drew | exact ⟨HB6.out.os, HB6.out.tape, HB6.out.output, HB6.out.size, HB6.out.block⟩⟩
  · obtain ⟨k0, rfl⟩ : ∃ k0 : Int, zs = [k0] := ⟨_, list1 hz⟩
    obtain ⟨a0, a1, rfl⟩ : ∃ a0 a1 : Int, ys = [a0, a1] := ⟨_, _, list2 hy⟩
    replace hkw : 0 ≤ k0 ∧ k0 ≤ 65535 := hkw
    obtain ⟨Q, hQ⟩ : ∃ x : Int, x = b01 (decide (a0 ≠ 0 ∨ (k0 ≠ 0 ∧ a1 = 0))) := ⟨_, rfl⟩
    obtain ⟨Q2, hQ2⟩ : ∃ x : Int, x = b01 (decide (a0 ≠ 0 ∨ (Q ≠ 0 ∧ a1 = 0))) := ⟨_, rfl⟩
    have eL1 : blkL 4 [k0] [a0, a1] = [Q] := by unfold blkL; rw [if_neg (by decide), if_neg (by decide), if_neg (by decide)]; rw [hQ]; rfl
    have eL2 : blkL 4 [Q] [a0, a1] = [Q2] := by unfold blkL; rw [if_neg (by decide), if_neg (by decide), if_neg (by decide)]; rw [hQ2]; rfl
    rw [eL1] at hf2
    have HI1 : Hid (∀ (W : World), Nums W ak [k0] → Nums W ay [a0, a1] → Calls Try.prog 10 #[.int .i64 4, .slice ak 1 ck, .slice ay 2 cy] W fun e w' => ∃ ad cp, e = .returned (resL 0 (.slice ad 1 cp)) ∧ Nums w' ad [Q] ∧ Below W.heap.size W w') := fun W h1 h2 => by
      have := HIM.out W ak ck [k0] (by simp) hf h1 h2
      rw [eL1] at this
      exact this
    have HI2 : Hid (∀ (W : World) (a : Option Addr) (c : Nat), Nums W a [Q] → Nums W ay [a0, a1] → Calls Try.prog 10 #[.int .i64 4, .slice a 1 c, .slice ay 2 cy] W fun e w' => ∃ ad cp, e = .returned (resL 0 (.slice ad 1 cp)) ∧ Nums w' ad [Q2] ∧ Below W.heap.size W w') := fun W a c h1 h2 => by
      have := HIM.out W a c [Q] (by simp) hf2 h1 h2
      rw [eL2] at this
      exact this
    have HF : Hid (Q2 = Q ∧ (a0 ≠ 0 → Q = 1)) := ⟨by rw [hQ2, hQ]; exact sr_again k0 a0 a1, fun h => by rw [hQ]; unfold b01; rw [decide_eq_true (Or.inl h)]; rfl⟩
    clear hQ hQ2 eL1 eL2 hf hf2 hz hy hzl hyl HIM hkw
    go_wp2_with fail
    refine (HI1.out _ hz2 hy2).mono ?_
    rintro e w3 ⟨ad, cp, rfl, hn3, hb⟩
    have hbA := (Below.refl w3.heap.size w3).alloc (Nat.le_refl _) (.cells #[.int .i64 0, .slice ad 1 cp] 28)
    have hb4 := hb.trans (hbA.mono hb.size)
    have hz4 := hz2.below hb4
    have hy4 := hy2.below hb4
    have hn4 := hn3.below hbA
    have hB4 := HB2.out.trans (hb4.mono HB2.out.size)
    have hv4 := heap_alloc_new w3 (.cells #[.int .i64 0, .slice ad 1 cp] 28)
    have HB4 : Hid _ := hB4
    clear hb hbA hb4 hz2 hy2 hn3 hB4 HB2 HI1
    go_wp2_with fail
    refine (HI2.out _ _ _ hn4 hy4).mono ?_
    rintro e w5 ⟨ad2, cp2, rfl, hn5, hb⟩
    have hbA := (Below.refl w5.heap.size w5).alloc (Nat.le_refl _) (.cells #[.int .i64 0, .slice ad2 1 cp2] 28)
    have hb6 := hb.trans (hbA.mono hb.size)
    have hz6 := hz4.below hb6
    have hy6 := hy4.below hb6
    have hn6 := hn4.below hb6
    have hm6 := hn5.below hbA
    have HB6 : Hid _ := HB4.out.trans (hb6.mono HB4.out.size)
    have hv6 := (hb6.block w3.heap.size (by simp)).trans hv4
    have hu6 := heap_alloc_new w5 (.cells #[.int .i64 0, .slice ad2 1 cp2] 28)
    have hlv : w3.heap.size < w5.heap.size := Nat.lt_of_lt_of_le (by simp) hb.size
    clear hb hbA hb6 hz4 hy4 hn4 hn5 HB4 HI2 hv4
    obtain ⟨bk, ok, rfl, hck⟩ := hz6.at (by simp)
    obtain ⟨ba, oa, rfl, hca⟩ := hy6.at (by simp)
    obtain ⟨b1, o1, rfl, hc1⟩ := hn6.at (by simp)
    obtain ⟨b2, o2, rfl, hc2⟩ := hm6.at (by simp)
    have r0 : (w5.alloc (.cells #[.int .i64 0, .slice (some ⟨b2, o2, none⟩) 1 cp2] 28)).cell? ⟨w3.heap.size, 0, none⟩ = some (.int .i64 0) := cell_of_row _ _ 0 _ _ _ hv6
    have r1 : (w5.alloc (.cells #[.int .i64 0, .slice (some ⟨b2, o2, none⟩) 1 cp2] 28)).cell? ⟨w3.heap.size, 1, none⟩ = some (.slice (some ⟨b1, o1, none⟩) 1 cp) := cell_of_row _ _ 1 _ _ _ hv6
    have s0 : (w5.alloc (.cells #[.int .i64 0, .slice (some ⟨b2, o2, none⟩) 1 cp2] 28)).cell? ⟨w5.heap.size, 0, none⟩ = some (.int .i64 0) := cell_of_row _ _ 0 _ _ _ hu6
    have s1 : (w5.alloc (.cells #[.int .i64 0, .slice (some ⟨b2, o2, none⟩) 1 cp2] 28)).cell? ⟨w5.heap.size, 1, none⟩ = some (.slice (some ⟨b2, o2, none⟩) 1 cp2) := cell_of_row _ _ 1 _ _ _ hu6
    have ck0 := hck 0 (by simp)
    have ca0 := hca 0 (by simp)
    have ca1 := hca 1 (by simp)
    have cQ := hc1 0 (by simp)
    have cQ2 := hc2 0 (by simp)
    simp only [Nat.add_zero, List.getD_cons_zero, List.getD_cons_succ] at ck0 ca0 ca1 cQ cQ2
    clear hck hca hc1 hc2 hz6 hy6 hn6 hm6 hv6 hu6
    go_wp2_with fail
    generalize hW : w5.alloc (.cells #[.int .i64 0, .slice (some ⟨b2, o2, none⟩) 1 cp2] 28) = w6 at *
    clear hW
    obtain ⟨hq2, hq⟩ := HF.out
    subst hq2
    clear HF HBI
    by_cases ha : a0 = 0
    · subst ha
      clear hq
      go_quiet (fail)
      go_wp2
      go_ret
      exact ⟨rfl, by first | exact HB6.out | exact HB6.out.drew | exact ⟨HB6.out.os, HB6.out.tape, HB6.out.output, HB6.out.size, HB6.out.block⟩⟩
    have hq1 := hq ha
    subst hq1
    have e1 : (a0 == 0) = false := by simpa using ha
    clear hq ha
    go_quiet (fail)
    go_wp2
    go_ret
    exact ⟨rfl, by first | exact HB6.out | exact HB6.out.drew | exact ⟨HB6.out.os, HB6.out.tape, HB6.out.output, HB6.out.size, HB6.out.block⟩⟩
end Go.Proofs.Ytalopffpaepaaaa
