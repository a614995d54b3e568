/-
  spec's RunRegs.
-/
import Derived.Test.YtcikofhbfncgdaaRgSRun1
import Derived.Test.YtcikofhbfncgdaaRgLw
import Derived.Deep.RegionHeld3
import Derived.Test.YtcikofhbfncgdaaRgSRun1
namespace Go.Proofs.Ytcikofhbfncgdaa
open Go.RowKit
set_option linter.unusedVariables false
attribute [local go_sem ↓] Go.wp_at_zero Go.wp_at_succ

set_option maxHeartbeats 6400000 in
set_option maxRecDepth 100000 in
theorem sStartR_any (a : Option Addr) (zs : List Int) (c : Nat) (w : World) (hn : Nums w a zs) (hc : a = none → c = 0) (hl : zs.length ≤ 1048576) :
    Calls Try.prog 28 #[.slice a zs.length c] w fun e w' => ResR w w' e (startRC zs) (startRR zs) := by
  have hW := (Below.refl w.heap.size w).alloc (Nat.le_refl _) (.cells zero8 30)
  have HW : Hid (Below w.heap.size w (w.alloc (.cells zero8 30)) ∧ (w.alloc (.cells zero8 30)).heap[w.heap.size]? = some (.cells zero8 30 (0, 0))) := ⟨hW, heap_alloc_new _ _⟩
  have HST : Hid (∀ W, Below w.heap.size w W → Calls Try.prog 84 #[.slice a zs.length c] W fun e w' => ∃ a1 c1 a2 c2, e = .returned (.agg #[.int .i64 0, .slice a1 (startRM zs).stk.length c1, .slice a2 (startRM zs).cells.length c2, .int .i64 0, .int .i64 0, .int .i64 0, .bool false]) ∧ Own w' W.heap.size (.slice a1 (startRM zs).stk.length c1) (startRM zs).stk ∧ Own w' W.heap.size (.slice a2 (startRM zs).cells.length c2) (startRM zs).cells ∧ (∀ g, (Value.slice a1 (startRM zs).stk.length c1).ownBlock = some g → (Value.slice a2 (startRM zs).cells.length c2).ownBlock ≠ some g) ∧ Below W.heap.size W w') := fun W h => (l10Start_any a zs c W (hn.below h) hc hl).mono fun e w' ⟨s, v, h1, h2, h3, h4, h5⟩ => by
    obtain ⟨a1, c1, rfl⟩ := own_shape h2
    obtain ⟨a2, c2, rfl⟩ := own_shape h3
    exact ⟨a1, c1, a2, c2, h1, h2, h3, h4, h5⟩
  have HCF : Hid (∀ W q s v, W.heap[q]? = some (.cells #[.int .i64 0, s, v, .int .i64 0, .int .i64 0, .int .i64 0, .bool false] 28 (0, 0)) → RowV W s (startRM zs).stk → RowV W v (startRM zs).cells → Calls Try.prog 85 #[.pointer (some ⟨q, 0, none⟩)] W fun e w' => e = .returned (.int .i64 (startRC zs)) ∧ w' = W) := fun W q s v hq hs hv => l10Fault_any q (startRM zs) _ _ W hq hs hv (by show (List.replicate 24 _).length ≤ _; simp) hl
  have HR : Hid ((startRC zs = 0 → startRR zs = startRM zs) ∧ (startRC zs ≠ 0 → startRR zs = zeroM)) := ⟨fun h => if_pos h, fun h => if_neg h⟩
  have HV : Hid (∀ s v, resV 0 (startRM zs) s v = .agg #[.int .i64 0, .int .i64 0, s, v, .int .i64 0, .int .i64 0, .int .i64 0, .bool false]) := fun _ _ => rfl
  have HMA : Hid (∀ (W : World) (r B : Nat) (sv cv : Value), w.heap.size ≤ r → r < B → Own W B sv (startRM zs).stk → Own W B cv (startRM zs).cells → (∀ g, sv.ownBlock = some g → cv.ownBlock ≠ some g) → Below w.heap.size w W → ResR w ((((((((W.setCell ⟨r, 0, none⟩ (.int .i64 0)).setCell ⟨r, 1, none⟩ (.int .i64 0)).setCell ⟨r, 2, none⟩ sv).setCell ⟨r, 3, none⟩ cv).setCell ⟨r, 4, none⟩ (.int .i64 0)).setCell ⟨r, 5, none⟩ (.int .i64 0)).setCell ⟨r, 6, none⟩ (.int .i64 0)).setCell ⟨r, 7, none⟩ (.bool false)) (.returned (resV 0 (startRM zs) sv cv)) 0 (startRM zs)) := fun W r B sv cv h1 h2 h3 h4 h5 h6 => res_mach w W r B (startRM zs) sv cv h1 h2 h3 h4 h5 h6
  clear hW hn hc hl
  generalize startRC zs = F at *
  generalize startRR zs = R at *
  generalize startRM zs = M at *
  generalize hL : zs.length = L at *
  generalize hM1 : M.stk.length = l1 at *
  generalize hM2 : M.cells.length = l2 at *
  go_enter Try.func28, Try.ntmps28
  go_upto_region 1 with fail
  generalize w.alloc (.cells zero8 30) = W at *
  obtain ⟨x1, x2⟩ := HW.out
  have HB := hid x1
  have HA0 := hid x2
  have HWS : Hid (w.heap.size < W.heap.size) := (Array.getElem?_eq_some_iff.1 x2).1
  clear x1 x2 HW
  go_upto_region 2 with (go_at_call 84; refine (HST.out W HB.out).mono ?_; rintro e w2 ⟨a1, c1, a2, c2, rfl, o1, o2, o3, b2⟩)
  have y3 := heap_alloc_new w2 (.cells #[.int .i64 0, .slice a1 l1 c1, .slice a2 l2 c2, .int .i64 0, .int .i64 0, .int .i64 0, .bool false] 28)
  have b3 := (Below.refl w2.heap.size w2).alloc (Nat.le_refl _) (.cells #[.int .i64 0, .slice a1 l1 c1, .slice a2 l2 c2, .int .i64 0, .int .i64 0, .int .i64 0, .bool false] 28)
  have HO1 := hid (o1.alloc (.cells #[.int .i64 0, .slice a1 l1 c1, .slice a2 l2 c2, .int .i64 0, .int .i64 0, .int .i64 0, .bool false] 28))
  have HO2 := hid (o2.alloc (.cells #[.int .i64 0, .slice a1 l1 c1, .slice a2 l2 c2, .int .i64 0, .int .i64 0, .int .i64 0, .bool false] 28))
  have HD := hid o3
  have HB3 := hid (b2.trans (b3.mono b2.size))
  have HY := hid y3
  clear o1 o2 o3 b2 b3 y3
  generalize w2.alloc (.cells #[.int .i64 0, .slice a1 l1 c1, .slice a2 l2 c2, .int .i64 0, .int .i64 0, .int .i64 0, .bool false] 28) = W3 at *
  generalize w2.heap.size = q at *
  have HA3 := hid (blk8 HA0.out HB3.out)
  have HBW : Hid (Below w.heap.size w W3) := HB.out.trans (HB3.out.mono HB.out.size)
  have HC := hid (HCF.out W3 q _ _ HY.out (by have := own_row HO1.out; exact this) (by have := own_row HO2.out; exact this))
  obtain ⟨d0, d1, d2, d3, d4, d5, d6⟩ := cl7 HY.out
  obtain ⟨g0, g1, g2, g3, g4, g5, g6, g7⟩ := cl8 HA3.out
  obtain ⟨f0, f1, f2, f3, f4, f5, f6, f7⟩ := fl8 HA3.out
  clear HCF HA0 HB HB3 HST
  by_cases hF : F = 0
  · have hR := HR.out.1 hF
    have HF := hid (HMA.out W3 w.heap.size W.heap.size _ _ (Nat.le_refl _) HWS.out HO1.out HO2.out HD.out HBW.out)
    rw [HV.out] at HF
    subst hF hR
    clear HO1 HO2 HD HBW HA3 HY HR HWS HMA HV
    go_wp2_with (go_at_call 85; refine HC.out.mono ?_; rintro e w5 ⟨rfl, hw5⟩; have hw6 := hw5.symm; clear hw5; subst hw6)
    refine bodyPost_ret (v := .agg #[.int .i64 0, .int .i64 0, .slice a1 l1 c1, .slice a2 l2 c2, .int .i64 0, .int .i64 0, .int .i64 0, .bool false]) (by simp [results, Try.results28, go_sem, g0, g1, g2, g3, g4, g5, g6, g7]; try rfl) rfl ?_
    exact HF.out
  · have hR := HR.out.2 hF
    subst hR
    have eF : (F != 0) = true := by simpa using hF
    have HF : Hid _ := res_code w W3 w.heap.size F (Nat.le_refl _) HBW.out
    clear HO1 HO2 HD HBW HA3 HY HR HWS hF HMA HV
    go_wp2_with (go_at_call 85; refine HC.out.mono ?_; rintro e w5 ⟨rfl, hw5⟩; have hw6 := hw5.symm; clear hw5; subst hw6)
    refine bodyPost_ret (v := codeV F) (by simp [results, Try.results28, go_sem, g0, g1, g2, g3, g4, g5, g6, g7]; try rfl) rfl ?_
    exact HF.out
end Go.Proofs.Ytcikofhbfncgdaa
namespace Go.Proofs.Ytcikofhbfncgdaa
open Go.RowKit
set_option linter.unusedVariables false
attribute [local go_sem ↓] Go.wp_at_zero Go.wp_at_succ

/-- the answer with any code and machine -/
theorem res_genG (w W : World) (r B : Nat) (C : Int) (M : SM) (sv cv : Value) (hr : w.heap.size ≤ r) (hrB : r < B) (hs : Own W B sv M.stk) (hc : Own W B cv M.cells) (hd : ∀ g, sv.ownBlock = some g → cv.ownBlock ≠ some g) (hB : Below w.heap.size w W) : ResR w ((((((((W.setCell ⟨r, 0, none⟩ (.int .i64 C)).setCell ⟨r, 1, none⟩ (.int .i64 M.pc)).setCell ⟨r, 2, none⟩ sv).setCell ⟨r, 3, none⟩ cv).setCell ⟨r, 4, none⟩ (.int .i64 M.sig)).setCell ⟨r, 5, none⟩ (.int .i64 M.used)).setCell ⟨r, 6, none⟩ (.int .i64 M.trap)).setCell ⟨r, 7, none⟩ (.bool M.done)) (.returned (resV C M sv cv)) C M :=
  have hE := fill8 r W (.int .i64 C) (.int .i64 M.pc) sv cv (.int .i64 M.sig) (.int .i64 M.used) (.int .i64 M.trap) (.bool M.done)
  ⟨_, _, rfl, own_mono (own_sole hs hE (fun e => by have := (hs.lt _ e).1; omega)) (by omega), own_mono (own_sole hc hE (fun e => by have := (hc.lt _ e).1; omega)) (by omega), hd, hB.trans (hE.bel.mono hr)⟩
/-- what a run answers -/
def RunRG (zs ys : List Int) (b : Int) (R : SM) : Prop := (runRC zs ys b = 0 → REnds zs b (startRM ys) R) ∧ (runRC zs ys b ≠ 0 → R = zeroM)
theorem runR_anyG (zs ys : List Int) (b : Int) : ∃ R, RunRG zs ys b R := by
  by_cases h : runRC zs ys b = 0
  · obtain ⟨h1, h2, h3, h4⟩ := runC_okG h
    obtain ⟨r, hr⟩ := REnds.of zs b h4 20000 (startRM ys) (by show (0 : Int) ≤ 0; omega) (by show b - 0 ≤ _; omega)
    exact ⟨r, fun _ => hr, fun h' => absurd h h'⟩
  · exact ⟨zeroM, fun h' => absurd h' h, fun _ => rfl⟩
theorem start_resG {w W : World} {e : Ending} {ys : List Int} (h : ResR w W e (startRC ys) (startRR ys)) : ∃ a1 c1 a2 c2, e = .returned (resV (startRC ys) (startRR ys) (.slice a1 (startRR ys).stk.length c1) (.slice a2 (startRR ys).cells.length c2)) ∧ Own W w.heap.size (.slice a1 (startRR ys).stk.length c1) (startRR ys).stk ∧ Own W w.heap.size (.slice a2 (startRR ys).cells.length c2) (startRR ys).cells ∧ (∀ g, (Value.slice a1 (startRR ys).stk.length c1).ownBlock = some g → (Value.slice a2 (startRR ys).cells.length c2).ownBlock ≠ some g) ∧ Below w.heap.size w W := by
  obtain ⟨sv, cv, h1, h2, h3, h4, h5⟩ := h
  obtain ⟨a1, c1, rfl⟩ := own_shape h2
  obtain ⟨a2, c2, rfl⟩ := own_shape h3
  exact ⟨a1, c1, a2, c2, h1, h2, h3, h4, h5⟩

set_option maxHeartbeats 6400000 in
set_option maxRecDepth 100000 in
theorem sRun_anyG (a : Option Addr) (zs : List Int) (c : Nat) (a3 : Option Addr) (ys : List Int) (c3 : Nat) (b : Int) (R : SM) (w : World) (hn : Nums w a zs) (hl : zs.length ≤ 1048576) (hzc : zs.length ≤ c) (hy : Nums w a3 ys) (hc3 : a3 = none → c3 = 0) (hyl : ys.length ≤ 1048576) (hR : RunRG zs ys b R) :
    Calls Try.prog 18 #[.slice a zs.length c, .slice a3 ys.length c3, .int .i64 b] w fun e w' => ResR w w' e (runRC zs ys b) R := by
  have hW := (Below.refl w.heap.size w).alloc (Nat.le_refl _) (.cells zero8 30)
  have hA := heap_alloc_new w (.cells zero8 30)
  have hS : (w.alloc (.cells zero8 30)).heap.size = w.heap.size + 1 := by simp
  have HCW : Hid (∀ W, Below w.heap.size w W → Calls Try.prog 26 #[.slice a zs.length c] W fun e w' => e = .returned (.int .i64 (fault zs)) ∧ w' = W) := fun W h => sFault_any a zs c W (by omega) (hn.below h)
  have HCS : Hid (∀ W, Below w.heap.size w W → Calls Try.prog 28 #[.slice a3 ys.length c3] W fun e w' => ResR W w' e (startRC ys) (startRR ys)) := fun W h => sStartR_any a3 ys c3 W (hy.below h) hc3 hyl
  have HCI : Hid (∀ W, Calls Try.prog 71 #[.int .i64 b, .int .i64 0, .int .i64 20000] W fun e w' => e = .returned (.bool (inB b 0 20000)) ∧ w' = W) := fun W => l1In_any b 0 20000 W
  have HCR : Hid (runRC zs ys b = 0 → ∀ W, Below w.heap.size w W → Calls Try.prog 72 #[.slice a zs.length c, .slice a3 ys.length c3, .int .i64 b] W fun e w' => MachR W.heap.size W w' e R) := fun h W hb => by
    obtain ⟨h1, h2, h3, h4⟩ := runC_okG h
    refine (l10Run_any a zs c a3 ys c3 b W (hn.below hb) (fault_good h1).2 hzc (fault_good h1).1 (hy.below hb) hc3 hyl (startM_goodG h2) h3 h4).mono ?_
    rintro e w' ⟨r, hr, hm⟩
    rw [(hR.1 h).det hr]
    exact hm
  have HR : Hid ((fault zs ≠ 0 → runRC zs ys b = fault zs ∧ R = zeroM) ∧ (fault zs = 0 → startRC ys ≠ 0 → runRC zs ys b = startRC ys ∧ R = startRR ys) ∧ (fault zs = 0 → startRC ys = 0 → inB b 0 20000 = false → runRC zs ys b = 3 ∧ R = zeroM) ∧ (fault zs = 0 → startRC ys = 0 → inB b 0 20000 = true → runRC zs ys b = 0)) := by
    refine ⟨fun h => ?_, fun h h2 => ?_, fun h h2 h3 => ?_, fun h h2 h3 => ?_⟩
    · have e : runRC zs ys b = fault zs := if_neg h
      exact ⟨e, hR.2 (by rw [e]; exact h)⟩
    · have e : runRC zs ys b = startRC ys := by unfold runRC; rw [if_pos h, if_neg h2]
      exact ⟨e, by rw [hR.2 (by rw [e]; exact h2)]; exact (if_neg h2).symm⟩
    · have e : runRC zs ys b = 3 := by unfold runRC; rw [if_pos h, if_pos h2, h3]; rfl
      exact ⟨e, hR.2 (by rw [e]; omega)⟩
    · unfold runRC; rw [if_pos h, if_pos h2, h3]; rfl
  have HST : Hid (∀ {W w' : World} {e : Ending}, ResR W w' e (startRC ys) (startRR ys) → ∃ a1 c1 a2 c2, e = .returned (resV (startRC ys) (startRR ys) (.slice a1 (startRR ys).stk.length c1) (.slice a2 (startRR ys).cells.length c2)) ∧ Own w' W.heap.size (.slice a1 (startRR ys).stk.length c1) (startRR ys).stk ∧ Own w' W.heap.size (.slice a2 (startRR ys).cells.length c2) (startRR ys).cells ∧ (∀ g, (Value.slice a1 (startRR ys).stk.length c1).ownBlock = some g → (Value.slice a2 (startRR ys).cells.length c2).ownBlock ≠ some g) ∧ Below W.heap.size W w') := fun h => start_resG h
  clear hn hl hzc hy hc3 hyl hR
  generalize fault zs = fz at *
  generalize startRC ys = F at *
  generalize startRR ys = S at *
  generalize runRC zs ys b = C at *
  generalize inB b 0 20000 = I at *
  generalize zs.length = L at *
  generalize ys.length = L2 at *
  go_enter Try.func18, Try.ntmps18
  go_upto_region 1 with fail
  generalize w.alloc (.cells zero8 30) = W at *
  have HB := hid hW
  have HZ := hid hA
  have HS := hid hS
  clear hW hA hS
  obtain ⟨g0, g1, g2, g3, g4, g5, g6, g7⟩ := cl8 HZ.out
  obtain ⟨f0, f1, f2, f3, f4, f5, f6, f7⟩ := fl8 HZ.out
  by_cases hz : fz = 0
  case neg =>
    obtain ⟨rfl, rfl⟩ := HR.out.1 hz
    have e0 : (C != 0) = true := by simpa using hz
    have HF := hid (res_code w W w.heap.size C (Nat.le_refl _) HB.out)
    clear hz HCS HCI HCR HR HST HZ
    go_wp2_with (go_at_call 26; refine (HCW.out W HB.out).mono ?_; rintro e w5 ⟨rfl, hw5⟩; have hw6 := hw5.symm; clear hw5; subst hw6)
    refine bodyPost_ret (v := codeV C) (by simp [results, Try.results18, go_sem, g0, g1, g2, g3, g4, g5, g6, g7]; try rfl) rfl ?_
    exact HF.out
  subst hz
  go_upto_region 4 with (go_at_call 26; refine (HCW.out W HB.out).mono ?_; rintro e w5 ⟨rfl, hw5⟩; have hw6 := hw5.symm; clear hw5; subst hw6)
  clear HCW g0 g1 g2 g3 g4 g5 g6 g7 f0 f1 f2 f3 f4 f5 f6 f7
  go_wp2_with fail
  refine (HCS.out W HB.out).mono ?_
  intro e w3 hres
  obtain ⟨x1, y1, x2, y2, rfl, o1, o2, o3, b3⟩ := HST.out hres
  have hb4 := b3.trans ((Below.refl _ _).alloc b3.size (.cells (line8 F S (.slice x1 S.stk.length y1) (.slice x2 S.cells.length y2)) 30))
  have hrow := heap_alloc_new w3 (.cells (line8 F S (.slice x1 S.stk.length y1) (.slice x2 S.cells.length y2)) 30)
  have HB4 := hid (HB.out.trans (hb4.mono HB.out.size))
  have HZ4 := hid (blk8 HZ.out hb4)
  have HO1 := hid (own_kept o1 ((Below.refl w3.heap.size w3).alloc (Nat.le_refl _) (.cells (line8 F S (.slice x1 S.stk.length y1) (.slice x2 S.cells.length y2)) 30)))
  have HO2 := hid (own_kept o2 ((Below.refl w3.heap.size w3).alloc (Nat.le_refl _) (.cells (line8 F S (.slice x1 S.stk.length y1) (.slice x2 S.cells.length y2)) 30)))
  have HO3 := hid o3
  have HRW := hid hrow
  clear hres o1 o2 o3 b3 hb4 hrow HB HZ HST HCS
  go_upto_region 5 with fail
  generalize w3.alloc (.cells (line8 F S (.slice x1 S.stk.length y1) (.slice x2 S.cells.length y2)) 30) = W4 at *
  generalize w3.heap.size = q at *
  obtain ⟨g0, g1, g2, g3, g4, g5, g6, g7⟩ := cl8 HZ4.out
  obtain ⟨f0, f1, f2, f3, f4, f5, f6, f7⟩ := fl8 HZ4.out
  obtain ⟨d0, d1, d2, d3, d4, d5, d6, d7⟩ := row8 HRW.out
  by_cases hf : F = 0
  case neg =>
    obtain ⟨rfl, rfl⟩ := HR.out.2.1 (by first | rfl | trivial) hf
    have e0 : (C != 0) = true := by simpa using hf
    have HF := hid (res_genG w W4 w.heap.size W.heap.size C R _ _ (Nat.le_refl _) (by have := HS.out; omega) HO1.out HO2.out HO3.out HB4.out)
    clear hf HCI HCR HR HO1 HO2 HO3 HRW HZ4 HB4
    generalize R.stk.length = l1 at *
    generalize R.cells.length = l2 at *
    go_wp2_with fail
    refine bodyPost_ret (v := .agg #[.int .i64 C, .int .i64 R.pc, .slice x1 l1 y1, .slice x2 l2 y2, .int .i64 R.sig, .int .i64 R.used, .int .i64 R.trap, .bool R.done]) (by simp [results, Try.results18, go_sem, g0, g1, g2, g3, g4, g5, g6, g7]; try rfl) rfl ?_
    exact HF.out
  subst hf
  clear d1 d2 d3 d4 d5 d6 d7 HO1 HO2 HO3
  cases I
  · obtain ⟨rfl, rfl⟩ := HR.out.2.2.1 (by first | rfl | trivial) (by first | rfl | trivial) (by first | rfl | trivial)
    have HF := hid (res_code w W4 w.heap.size 3 (Nat.le_refl _) HB4.out)
    clear HCR HR HRW HZ4 HB4
    go_wp2_with (go_at_call 71; refine (HCI.out _).mono ?_; rintro e w5 ⟨rfl, hw5⟩; have hw6 := hw5.symm; clear hw5; subst hw6)
    refine bodyPost_ret (v := codeV 3) (by simp [results, Try.results18, go_sem, g0, g1, g2, g3, g4, g5, g6, g7]; try rfl) rfl ?_
    exact HF.out
  · have hC := HR.out.2.2.2 (by first | rfl | trivial) (by first | rfl | trivial) (by first | rfl | trivial)
    subst hC
    have HC := hid (HCR.out (by first | rfl | trivial) W4 HB4.out)
    clear HCR HR HRW g0 g1 g2 g3 g4 g5 g6 g7 f0 f1 f2 f3 f4 f5 f6 f7
    go_upto_region 9 with (go_at_call 71; refine (HCI.out _).mono ?_; rintro e w5 ⟨rfl, hw5⟩; have hw6 := hw5.symm; clear hw5; subst hw6)
    clear HCI d0
    go_wp2_with fail
    refine HC.out.mono ?_
    rintro e w6 ⟨s', c', rfl, ho1, ho2, hd3, hb6⟩
    obtain ⟨x3, y3, rfl⟩ := own_shape ho1
    obtain ⟨x4, y4, rfl⟩ := own_shape ho2
    have HB6 := hid (HB4.out.trans (hb6.mono HB4.out.size))
    have hz6 := blk8 HZ4.out hb6
    obtain ⟨g0, g1, g2, g3, g4, g5, g6, g7⟩ := cl8 hz6
    obtain ⟨f0, f1, f2, f3, f4, f5, f6, f7⟩ := fl8 hz6
    have HF := hid (res_genG w w6 w.heap.size W4.heap.size 0 R _ _ (Nat.le_refl _) (Array.getElem?_eq_some_iff.1 HZ4.out).1 ho1 ho2 hd3 HB6.out)
    clear hz6 hb6 ho1 ho2 hd3 HC HB4 HZ4 HB6
    generalize R.stk.length = l1 at *
    generalize R.cells.length = l2 at *
    go_wp2_with fail
    refine bodyPost_ret (v := .agg #[.int .i64 0, .int .i64 R.pc, .slice x3 l1 y3, .slice x4 l2 y4, .int .i64 R.sig, .int .i64 R.used, .int .i64 R.trap, .bool R.done]) (by simp [results, Try.results18, go_sem, g0, g1, g2, g3, g4, g5, g6, g7]; try rfl) rfl ?_
    exact HF.out
end Go.Proofs.Ytcikofhbfncgdaa
