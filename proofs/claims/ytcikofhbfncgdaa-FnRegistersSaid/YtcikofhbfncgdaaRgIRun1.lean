/-
  impl's RunRegs.
-/
import Derived.Test.YtcikofhbfncgdaaRgRep
import Derived.Test.YtcikofhbfncgdaaRgRep
import Derived.Test.YtcikofhbfncgdaaRgLw
import Derived.Test.YtcikofhbfncgdaaRgSpend
import Derived.Test.YtcikofhbfncgdaaRgSRun2
namespace Go.Proofs.Ytcikofhbfncgdaa
open Go.RowKit
set_option linter.unusedVariables false
attribute [local go_sem ↓] Go.wp_at_zero Go.wp_at_succ

set_option maxHeartbeats 6400000 in
set_option maxRecDepth 100000 in
theorem iStartR_any (a : Option Addr) (zs : List Int) (c : Nat) (w : World) (hn : Nums w a zs) (hc : a = none → c = 0) (hl : zs.length ≤ 1048576) :
    Calls Try.prog 25 #[.slice a zs.length c] w fun e w' => ResR w w' e (startRC zs) (startRR zs) := by
  have hW := (Below.refl w.heap.size w).alloc (Nat.le_refl _) (.cells zero8 30)
  have HW : Hid (Below w.heap.size w (w.alloc (.cells zero8 30)) ∧ (w.alloc (.cells zero8 30)).heap[w.heap.size]? = some (.cells zero8 30 (0, 0))) := ⟨hW, heap_alloc_new _ _⟩
  have HRP : Hid (∀ (W : World) (b : Nat), W.cell? ⟨b, 0, none⟩ = some (.int .i64 65535) → Calls Try.prog 81 #[.slice (some ⟨b, 0, none⟩) 1 1, .int .i64 24] W fun e w' => ∃ g, e = .returned (.slice (some ⟨g, 0, none⟩) 24 24) ∧ Own w' W.heap.size (.slice (some ⟨g, 0, none⟩) 24 24) (startRM zs).stk ∧ Below W.heap.size W w') := fun W b h => rep_any b 0 65535 W h
  have HCC : Hid (∀ W, Below w.heap.size w W → Calls Try.prog 80 #[.slice a zs.length c] W fun e w' => ∃ a' c', e = .returned (.slice a' zs.length c') ∧ Own w' W.heap.size (.slice a' zs.length c') (startRM zs).cells ∧ Below W.heap.size W w') := fun W h => (clone_any _ zs W (RowV.below ⟨a, c, rfl, hn, hc⟩ h) hl).mono fun e w' ⟨v', h1, h2, h3⟩ => by
    obtain ⟨a', c', rfl⟩ := own_shape h2
    exact ⟨a', c', h1, h2, h3⟩
  have HCF : Hid (∀ W s v, RowV W s (startRM zs).stk → RowV W v (startRM zs).cells → Calls Try.prog 21 #[.agg #[.int .i64 0, s, v, .int .i64 0, .int .i64 0, .int .i64 0, .bool false]] W fun e w' => e = .returned (.int .i64 (startRC zs)) ∧ Below W.heap.size W w') := fun W s v hs hv => irgFault_any (startRM zs) _ _ W hs hv (by show (List.replicate 24 _).length ≤ _; simp) hl
  have HR : Hid ((startRC zs = 0 → startRR zs = startRM zs) ∧ (startRC zs ≠ 0 → startRR zs = zeroM)) := ⟨fun h => if_pos h, fun h => if_neg h⟩
  have HV : Hid (∀ s v, resV 0 (startRM zs) s v = .agg #[.int .i64 0, .int .i64 0, s, v, .int .i64 0, .int .i64 0, .int .i64 0, .bool false]) := fun _ _ => rfl
  have HMA : Hid (∀ (W : World) (r B : Nat) (sv cv : Value), w.heap.size ≤ r → r < B → Own W B sv (startRM zs).stk → Own W B cv (startRM zs).cells → (∀ g, sv.ownBlock = some g → cv.ownBlock ≠ some g) → Below w.heap.size w W → ResR w ((((((((W.setCell ⟨r, 0, none⟩ (.int .i64 0)).setCell ⟨r, 1, none⟩ (.int .i64 0)).setCell ⟨r, 2, none⟩ sv).setCell ⟨r, 3, none⟩ cv).setCell ⟨r, 4, none⟩ (.int .i64 0)).setCell ⟨r, 5, none⟩ (.int .i64 0)).setCell ⟨r, 6, none⟩ (.int .i64 0)).setCell ⟨r, 7, none⟩ (.bool false)) (.returned (resV 0 (startRM zs) sv cv)) 0 (startRM zs)) := fun W r B sv cv h1 h2 h3 h4 h5 h6 => res_mach w W r B (startRM zs) sv cv h1 h2 h3 h4 h5 h6
  clear hW hn hc hl
  generalize startRC zs = F at *
  generalize startRR zs = R at *
  generalize startRM zs = M at *
  generalize hL : zs.length = L at *
  go_enter Try.func25, Try.ntmps25
  go_upto_region 1 with fail
  generalize w.alloc (.cells zero8 30) = W at *
  obtain ⟨x1, x2⟩ := HW.out
  have HB := hid x1
  have HA0 := hid x2
  have HWS : Hid (w.heap.size < W.heap.size) := (Array.getElem?_eq_some_iff.1 x2).1
  have b1 := (Below.refl W.heap.size W).alloc (Nat.le_refl _) (.cells #[.int .i64 65535] 2)
  have y1 := heap_alloc_new W (.cells #[.int .i64 65535] 2)
  have HB1 := hid b1
  have HC1 : Hid ((W.alloc (.cells #[.int .i64 65535] 2)).cell? ⟨W.heap.size, 0, none⟩ = some (.int .i64 65535)) := cell_of_row _ _ 0 _ _ _ y1
  clear x1 x2 HW b1 y1
  go_wp2_with fail
  refine (HRP.out _ _ HC1.out).mono ?_
  rintro e w2 ⟨g, rfl, o1, b2⟩
  have HB2 := hid (HB1.out.trans (b2.mono HB1.out.size))
  have HO1 := hid (own_mono o1 HB1.out.size)
  have HB2w := hid (HB.out.trans (HB2.out.mono HB.out.size))
  clear o1 b2 HB1 HC1 HRP
  go_wp2_with fail
  refine (HCC.out w2 HB2w.out).mono ?_
  rintro e w3 ⟨a', c', rfl, o2, b3⟩
  have HO13 := hid (own_kept HO1.out b3)
  have HO23 := hid (own_mono o2 (C := W.heap.size) HB2.out.size)
  have HD : Hid (∀ k, (Value.slice (some ⟨g, 0, none⟩) 24 24).ownBlock = some k → (Value.slice a' L c').ownBlock ≠ some k) := fun k h1 h2 => by
    have := (HO1.out.lt k h1).2
    have := (o2.lt k h2).1
    omega
  have HB3 := hid (HB2.out.trans (b3.mono HB2.out.size))
  clear o2 b3 HO1 HB2 HB2w HCC
  go_upto_region 2 with fail
  have y3 := heap_alloc_new w3 (.cells #[.int .i64 0, .slice (some ⟨g, 0, none⟩) 24 24, .slice a' L c', .int .i64 0, .int .i64 0, .int .i64 0, .bool false] 28)
  have b4 := (Below.refl w3.heap.size w3).alloc (Nat.le_refl _) (.cells #[.int .i64 0, .slice (some ⟨g, 0, none⟩) 24 24, .slice a' L c', .int .i64 0, .int .i64 0, .int .i64 0, .bool false] 28)
  have HO14 := hid (HO13.out.alloc (.cells #[.int .i64 0, .slice (some ⟨g, 0, none⟩) 24 24, .slice a' L c', .int .i64 0, .int .i64 0, .int .i64 0, .bool false] 28))
  have HO24 := hid (HO23.out.alloc (.cells #[.int .i64 0, .slice (some ⟨g, 0, none⟩) 24 24, .slice a' L c', .int .i64 0, .int .i64 0, .int .i64 0, .bool false] 28))
  have HB4 := hid (HB3.out.trans (b4.mono HB3.out.size))
  have HY := hid y3
  clear y3 b4 HO13 HO23 HB3
  generalize w3.alloc (.cells #[.int .i64 0, .slice (some ⟨g, 0, none⟩) 24 24, .slice a' L c', .int .i64 0, .int .i64 0, .int .i64 0, .bool false] 28) = W4 at *
  generalize w3.heap.size = q at *
  obtain ⟨d0, d1, d2, d3, d4, d5, d6⟩ := cl7 HY.out
  have HC := hid (HCF.out W4 _ _ (by have := own_row HO14.out; exact this) (by have := own_row HO24.out; exact this))
  clear HCF
  go_upto_region 3 with (go_at_call 21; refine HC.out.mono ?_; rintro e w5 ⟨rfl, hb5⟩)
  have HY5 := hid (blk8 HY.out hb5)
  have HB5 := hid (HB4.out.trans (hb5.mono HB4.out.size))
  have HO15 := hid (own_kept HO14.out hb5)
  have HO25 := hid (own_kept HO24.out hb5)
  have HA5 := hid (blk8 HA0.out HB5.out)
  have HBW : Hid (Below w.heap.size w w5) := HB.out.trans (HB5.out.mono HB.out.size)
  clear hb5 HY HB4 HO14 HO24 HC HA0 HB HB5 d0 d1 d2 d3 d4 d5 d6
  obtain ⟨d0, d1, d2, d3, d4, d5, d6⟩ := cl7 HY5.out
  obtain ⟨g0, g1, g2, g3, g4, g5, g6, g7⟩ := cl8 HA5.out
  obtain ⟨f0, f1, f2, f3, f4, f5, f6, f7⟩ := fl8 HA5.out
  by_cases hF : F = 0
  · have hR := HR.out.1 hF
    have HF := hid (HMA.out w5 w.heap.size W.heap.size _ _ (Nat.le_refl _) HWS.out HO15.out HO25.out HD.out HBW.out)
    rw [HV.out] at HF
    subst hF hR
    clear HO15 HO25 HD HBW HA5 HY5 HR HWS HMA HV
    go_wp2_with fail
    refine bodyPost_ret (v := .agg #[.int .i64 0, .int .i64 0, .slice (some ⟨g, 0, none⟩) 24 24, .slice a' L c', .int .i64 0, .int .i64 0, .int .i64 0, .bool false]) (by simp [results, Try.results25, go_sem, g0, g1, g2, g3, g4, g5, g6, g7]; try rfl) rfl ?_
    exact HF.out
  · have hR := HR.out.2 hF
    subst hR
    have eF : (F != 0) = true := by simpa using hF
    have HF : Hid _ := res_code w w5 w.heap.size F (Nat.le_refl _) HBW.out
    clear HO15 HO25 HD HBW HA5 HY5 HR HWS hF HMA HV
    go_wp2_with fail
    refine bodyPost_ret (v := codeV F) (by simp [results, Try.results25, go_sem, g0, g1, g2, g3, g4, g5, g6, g7]; try rfl) rfl ?_
    exact HF.out
end Go.Proofs.Ytcikofhbfncgdaa
namespace Go.Proofs.Ytcikofhbfncgdaa
open Go.RowKit
set_option linter.unusedVariables false
attribute [local go_sem ↓] Go.wp_at_zero Go.wp_at_succ

set_option maxHeartbeats 6400000 in
set_option maxRecDepth 100000 in
theorem iRunR_any (a : Option Addr) (zs : List Int) (c : Nat) (a3 : Option Addr) (ys : List Int) (c3 : Nat) (b : Int) (R : SM) (w : World) (hn : Nums w a zs) (hab : ∀ b off, a = some ⟨b, off, none⟩ → b < w.heap.size) (hzc : zs.length ≤ c) (hl : zs.length ≤ 1048576) (hy : Nums w a3 ys) (hc3 : a3 = none → c3 = 0) (hyl : ys.length ≤ 1048576) (hR : RunRG zs ys b R) :
    Calls Try.prog 17 #[.slice a zs.length c, .slice a3 ys.length c3, .int .i64 b] w fun e w' => ResR w w' e (runRC zs ys b) R := by
  have hW := (Below.refl w.heap.size w).alloc (Nat.le_refl _) (.cells zero8 30)
  have hA := heap_alloc_new w (.cells zero8 30)
  have hS : (w.alloc (.cells zero8 30)).heap.size = w.heap.size + 1 := by simp
  have HCW : Hid (∀ W, Below w.heap.size w W → Calls Try.prog 66 #[.slice a zs.length c] W fun e w' => e = .returned (.int .i64 (fault zs)) ∧ Below W.heap.size W w') := fun W h => implFault_any a zs c W (by omega) (hn.below h)
  have HCS : Hid (∀ W, Below w.heap.size w W → Calls Try.prog 25 #[.slice a3 ys.length c3] W fun e w' => ResR W w' e (startRC ys) (startRR ys)) := fun W h => iStartR_any a3 ys c3 W (hy.below h) hc3 hyl
  have HCI : Hid (∀ W, Calls Try.prog 67 #[.int .i64 b, .int .i64 0, .int .i64 20000] W fun e w' => e = .returned (.bool (inB b 0 20000)) ∧ w' = W) := fun W => within_any b 0 20000 W
  have HCT : Hid (fault zs = 0 → ∀ (B g : Nat) (m : SM) (W : World), Below w.heap.size w W → w.heap.size ≤ B → RunJ [] B W g m → RGood m → m.used = 0 → 0 ≤ b ∧ b ≤ 20000 → Calls Try.prog 69 #[.pointer (some ⟨g, 0, none⟩), .slice a zs.length c, .int .i64 b] W fun e w' => e = .returned (.tuple #[]) ∧ ∃ r, REnds zs b m r ∧ RunJ [] B w' g r ∧ Below B W w') := fun h1 B g m W hb hB hr hg hu0 hbb =>
    spend_any B g m zs a c b W hr hg (hn.below hb) (fun b off hab2 => by have := hab b off hab2; omega) (fault_good h1).2 hzc (fault_good h1).1 hbb.1 hbb.2 (by omega)
  have HR : Hid ((fault zs ≠ 0 → runRC zs ys b = fault zs ∧ R = zeroM) ∧ (fault zs = 0 → startRC ys ≠ 0 → runRC zs ys b = startRC ys ∧ R = startRR ys) ∧ (fault zs = 0 → startRC ys = 0 → inB b 0 20000 = false → runRC zs ys b = 3 ∧ R = zeroM) ∧ (fault zs = 0 → startRC ys = 0 → inB b 0 20000 = true → runRC zs ys b = 0 ∧ (0 ≤ b ∧ b ≤ 20000) ∧ (RGood (startRR ys) ∧ (startRR ys).used = 0) ∧ ∀ r, REnds zs b (startRR ys) r → R = r)) := by
    refine ⟨fun h => ?_, fun h h2 => ?_, fun h h2 h3 => ?_, fun h h2 h3 => ?_⟩
    · have e : runRC zs ys b = fault zs := if_neg h
      exact ⟨e, hR.2 (by rw [e]; exact h)⟩
    · have e : runRC zs ys b = startRC ys := by unfold runRC; rw [if_pos h, if_neg h2]
      exact ⟨e, by rw [hR.2 (by rw [e]; exact h2)]; exact (if_neg h2).symm⟩
    · have e : runRC zs ys b = 3 := by unfold runRC; rw [if_pos h, if_pos h2, h3]; rfl
      exact ⟨e, hR.2 (by rw [e]; omega)⟩
    · have e : runRC zs ys b = 0 := by unfold runRC; rw [if_pos h, if_pos h2, h3]; rfl
      have e2 : startRR ys = startRM ys := if_pos h2
      rw [e2]
      exact ⟨e, inB_iff.1 h3, ⟨startM_goodG h2, rfl⟩, fun r hr => (hR.1 e).det hr⟩
  have HST : Hid (∀ {W w' : World} {e : Ending}, ResR W w' e (startRC ys) (startRR ys) → ∃ a1 c1 a2 c2, e = .returned (resV (startRC ys) (startRR ys) (.slice a1 (startRR ys).stk.length c1) (.slice a2 (startRR ys).cells.length c2)) ∧ Own w' W.heap.size (.slice a1 (startRR ys).stk.length c1) (startRR ys).stk ∧ Own w' W.heap.size (.slice a2 (startRR ys).cells.length c2) (startRR ys).cells ∧ (∀ g, (Value.slice a1 (startRR ys).stk.length c1).ownBlock = some g → (Value.slice a2 (startRR ys).cells.length c2).ownBlock ≠ some g) ∧ Below W.heap.size W w') := fun h => start_resG h
  have HSL : Hid ((startRR ys).stk.length ≤ 1048576 ∧ (startRR ys).cells.length ≤ 1048576) := by
    unfold startRR
    split
    · exact ⟨by show (List.replicate 24 _).length ≤ _; simp, hyl⟩
    · exact ⟨by show 0 ≤ _; omega, by show 0 ≤ _; omega⟩
  clear hn hab hzc hl hy hc3 hyl hR
  generalize fault zs = fz at *
  generalize startRC ys = F at *
  generalize startRR ys = S at *
  generalize runRC zs ys b = C at *
  generalize inB b 0 20000 = I at *
  generalize zs.length = L at *
  generalize ys.length = L2 at *
  go_enter Try.func17, Try.ntmps17
  go_upto_region 1 with fail
  generalize w.alloc (.cells zero8 30) = W at *
  have HB0 := hid hW
  have HZ0 := hid hA
  have HS := hid hS
  clear hW hA hS
  go_upto_region 2 with (go_at_call 66; refine (HCW.out W HB0.out).mono ?_; rintro e w1 ⟨rfl, hb1⟩)
  have HB := hid (HB0.out.trans (hb1.mono HB0.out.size))
  have HZ := hid (blk8 HZ0.out hb1)
  have HSS : Hid (w.heap.size < w1.heap.size) := (Array.getElem?_eq_some_iff.1 HZ.out).1
  clear hb1 HB0 HZ0 HS HCW
  obtain ⟨g0, g1, g2, g3, g4, g5, g6, g7⟩ := cl8 HZ.out
  obtain ⟨f0, f1, f2, f3, f4, f5, f6, f7⟩ := fl8 HZ.out
  by_cases hz : fz = 0
  case neg =>
    obtain ⟨rfl, rfl⟩ := HR.out.1 hz
    have e0 : (C != 0) = true := by simpa using hz
    have HF := hid (res_code w w1 w.heap.size C (Nat.le_refl _) HB.out)
    clear hz HCS HCI HCT HR HST HZ HSL
    go_wp2_with fail
    refine bodyPost_ret (v := codeV C) (by simp [results, Try.results17, go_sem, g0, g1, g2, g3, g4, g5, g6, g7]; try rfl) rfl ?_
    exact HF.out
  subst hz
  go_upto_region 4 with fail
  clear g0 g1 g2 g3 g4 g5 g6 g7 f0 f1 f2 f3 f4 f5 f6 f7
  go_wp2_with fail
  refine (HCS.out w1 HB.out).mono ?_
  intro e w3 hres
  obtain ⟨x1, y1, x2, y2, rfl, o1, o2, o3, b3⟩ := HST.out hres
  have hb4 := b3.trans ((Below.refl _ _).alloc b3.size (.cells (line8 F S (.slice x1 S.stk.length y1) (.slice x2 S.cells.length y2)) 30))
  have hrow := heap_alloc_new w3 (.cells (line8 F S (.slice x1 S.stk.length y1) (.slice x2 S.cells.length y2)) 30)
  have HB4 := hid (HB.out.trans (hb4.mono HB.out.size))
  have HZ4 := hid (blk8 HZ.out hb4)
  have HO1 := hid (own_kept o1 ((Below.refl w3.heap.size w3).alloc (Nat.le_refl _) (.cells (line8 F S (.slice x1 S.stk.length y1) (.slice x2 S.cells.length y2)) 30)))
  have HO2 := hid (own_kept o2 ((Below.refl w3.heap.size w3).alloc (Nat.le_refl _) (.cells (line8 F S (.slice x1 S.stk.length y1) (.slice x2 S.cells.length y2)) 30)))
  have HO3 := hid o3
  have HRW := hid hrow
  clear hres o1 o2 o3 b3 hb4 hrow HB HZ HST HCS
  go_upto_region 5 with fail
  generalize w3.alloc (.cells (line8 F S (.slice x1 S.stk.length y1) (.slice x2 S.cells.length y2)) 30) = W4 at *
  generalize w3.heap.size = q at *
  obtain ⟨g0, g1, g2, g3, g4, g5, g6, g7⟩ := cl8 HZ4.out
  obtain ⟨f0, f1, f2, f3, f4, f5, f6, f7⟩ := fl8 HZ4.out
  obtain ⟨d0, d1, d2, d3, d4, d5, d6, d7⟩ := row8 HRW.out
  by_cases hf : F = 0
  case neg =>
    obtain ⟨rfl, rfl⟩ := HR.out.2.1 (by first | rfl | trivial) hf
    have e0 : (C != 0) = true := by simpa using hf
    have HF := hid (res_genG w W4 w.heap.size w1.heap.size C R _ _ (Nat.le_refl _) HSS.out HO1.out HO2.out HO3.out HB4.out)
    clear hf HCI HCT HR HO1 HO2 HO3 HRW HZ4 HB4 HSL
    generalize R.stk.length = l1 at *
    generalize R.cells.length = l2 at *
    go_wp2_with fail
    refine bodyPost_ret (v := .agg #[.int .i64 C, .int .i64 R.pc, .slice x1 l1 y1, .slice x2 l2 y2, .int .i64 R.sig, .int .i64 R.used, .int .i64 R.trap, .bool R.done]) (by simp [results, Try.results17, go_sem, g0, g1, g2, g3, g4, g5, g6, g7]; try rfl) rfl ?_
    exact HF.out
  subst hf
  cases I
  · obtain ⟨rfl, rfl⟩ := HR.out.2.2.1 (by first | rfl | trivial) (by first | rfl | trivial) (by first | rfl | trivial)
    have HF := hid (res_code w W4 w.heap.size 3 (Nat.le_refl _) HB4.out)
    clear HCT HR HRW HZ4 HB4 HO1 HO2 HO3 HSL d1 d2 d3 d4 d5 d6 d7
    go_wp2_with (go_at_call 67; refine (HCI.out _).mono ?_; rintro e w5 ⟨rfl, hw5⟩; have hw6 := hw5.symm; clear hw5; subst hw6)
    refine bodyPost_ret (v := codeV 3) (by simp [results, Try.results17, go_sem, g0, g1, g2, g3, g4, g5, g6, g7]; try rfl) rfl ?_
    exact HF.out
  obtain ⟨hC, hbb, ⟨hgS, huS⟩, hEQ⟩ := HR.out.2.2.2 (by first | rfl | trivial) (by first | rfl | trivial) (by first | rfl | trivial)
  subst hC
  have HBB := hid hbb
  have HGS := hid hgS
  have HUS := hid huS
  have HE0 := hid hEQ
  have HN := hid (newRunR_any S _ _ W4 (own_row HO1.out) (own_row HO2.out) hgS.rl HSL.out.2)
  clear hbb hgS huS hEQ HR HO1 HO2 HO3 HSL HRW g0 g1 g2 g3 g4 g5 g6 g7 f0 f1 f2 f3 f4 f5 f6 f7
  go_upto_region 9 with (go_at_call 67; refine (HCI.out _).mono ?_; rintro e w5 ⟨rfl, hw5⟩; have hw6 := hw5.symm; clear hw5; subst hw6)
  clear HCI d0
  have HS4 : Hid (w.heap.size < W4.heap.size) := (Array.getElem?_eq_some_iff.1 HZ4.out).1
  generalize S.stk.length = l1 at *
  generalize S.cells.length = l2 at *
  go_wp2_with fail
  refine HN.out.mono ?_
  rintro e w5 ⟨g, rfl, hr5, hb5⟩
  have HR5 := hid hr5
  have HB5 := hid (HB4.out.trans (hb5.mono HB4.out.size))
  have HZ5 := hid (blk8 HZ4.out hb5)
  have HS5 := hid hb5.size
  clear hr5 hb5 HN HB4 HZ4 d1 d2 d3 d4 d5 d6 d7
  go_wp2_with fail
  refine (HCT.out (by first | rfl | trivial) W4.heap.size g S w5 HB5.out (Nat.le_of_lt HS4.out) HR5.out HGS.out HUS.out HBB.out).mono ?_
  rintro e w6 ⟨rfl, r, hend, hr6, hb6⟩
  have HEQ := hid (HE0.out r hend)
  have HR6 := hid hr6
  have HB6 := hid (HB5.out.trans (hb6.mono (Nat.le_of_lt HS4.out)))
  have HZ6 := hid ((hb6.block _ HS4.out).trans HZ5.out)
  have HS6 : Hid (W4.heap.size ≤ w6.heap.size) := Nat.le_trans HS5.out hb6.size
  clear hend hr6 hb6 HR5 HB5 HZ5 HS5 HCT HE0 HGS HBB HUS
  go_wp2_with fail
  refine (imachineR_any W4.heap.size g r w6 HR6.out HS6.out).mono ?_
  rintro e w7 ⟨s6, c6, rfl, o1, o2, o3, b6⟩
  obtain ⟨q1, t1, rfl⟩ := own_shape o1
  obtain ⟨q2, t2, rfl⟩ := own_shape o2
  have HB7 := hid (HB6.out.trans (b6.mono HB6.out.size))
  have hz6 := blk8 HZ6.out b6
  have HF := hid (res_genG w w7 w.heap.size W4.heap.size 0 r _ _ (Nat.le_refl _) HS4.out o1 o2 o3 HB7.out)
  obtain ⟨g0, g1, g2, g3, g4, g5, g6, g7⟩ := cl8 hz6
  obtain ⟨f0, f1, f2, f3, f4, f5, f6, f7⟩ := fl8 hz6
  clear o1 o2 o3 b6 hz6 HB7 HR6 HB6 HZ6 HS6
  generalize r.stk.length = l1 at *
  generalize r.cells.length = l2 at *
  go_wp2_with fail
  refine bodyPost_ret (v := .agg #[.int .i64 0, .int .i64 r.pc, .slice q1 l1 t1, .slice q2 l2 t2, .int .i64 r.sig, .int .i64 r.used, .int .i64 r.trap, .bool r.done]) (by simp [results, Try.results17, go_sem, g0, g1, g2, g3, g4, g5, g6, g7]; try rfl) rfl ?_
  rw [HEQ.out]
  exact HF.out
end Go.Proofs.Ytcikofhbfncgdaa
