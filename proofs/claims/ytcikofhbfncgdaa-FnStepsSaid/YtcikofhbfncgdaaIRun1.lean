/-
  impl's RunStack.
-/
import Derived.Test.YtcikofhbfncgdaaIStk12
import Derived.Test.YtcikofhbfncgdaaRunDef
import Derived.Test.YtcikofhbfncgdaaRunDef
namespace Go.Proofs.Ytcikofhbfncgdaa
open Go.RowKit
set_option linter.unusedVariables false
attribute [local go_sem ↓] Go.wp_at_zero Go.wp_at_succ

set_option maxHeartbeats 6400000 in
set_option maxRecDepth 100000 in
theorem iRun_any (a : Option Addr) (zs : List Int) (c : Nat) (a3 : Option Addr) (ys : List Int) (c3 : Nat) (b : Int) (R : SM) (w : World) (hn : Nums w a zs) (hab : ∀ b off, a = some ⟨b, off, none⟩ → b < w.heap.size) (hzc : zs.length ≤ c) (hl : zs.length ≤ 1048576) (hy : Nums w a3 ys) (hc3 : a3 = none → c3 = 0) (hyl : ys.length ≤ 1048576) (hR : RunR zs ys b R) :
    Calls Try.prog 29 #[.slice a zs.length c, .slice a3 ys.length c3, .int .i64 b] w fun e w' => ResR w w' e (runC zs ys b) R := by
  have hW := (Below.refl w.heap.size w).alloc (Nat.le_refl _) (.cells zero8 41)
  have hA := heap_alloc_new w (.cells zero8 41)
  have hS : (w.alloc (.cells zero8 41)).heap.size = w.heap.size + 1 := by simp
  have HCW : Hid (∀ W, Below w.heap.size w W → Calls Try.prog 66 #[.slice a zs.length c] W fun e w' => e = .returned (.int .i64 (fault zs)) ∧ Below W.heap.size W w') := fun W h => implFault_any a zs c W (by omega) (hn.below h)
  have HCS : Hid (∀ W, Below w.heap.size w W → Calls Try.prog 24 #[.slice a3 ys.length c3] W fun e w' => ResR W w' e (startC ys) (startR ys)) := fun W h => iStart_any a3 ys c3 W (hy.below h) hc3 hyl
  have HCI : Hid (∀ W, Calls Try.prog 67 #[.int .i64 b, .int .i64 0, .int .i64 20000] W fun e w' => e = .returned (.bool (inB b 0 20000)) ∧ w' = W) := fun W => within_any b 0 20000 W
  have HCT : Hid (fault zs = 0 → ∀ (B g : Nat) (m : SM) (W : World), Below w.heap.size w W → w.heap.size ≤ B → RunI B W g m → Good m → Calls Try.prog 87 #[.pointer (some ⟨g, 0, none⟩), .slice a zs.length c] W fun e w' => e = .returned (.tuple #[]) ∧ RunI B w' g (stepL zs m) ∧ Below B W w') := fun h1 B g m W hb hB hr hg =>
    istep_any B g m zs a c W hr hg (hn.below hb) (fun b off hab2 => by have := hab b off hab2; omega) (fault_good h1).2 hzc (fault_good h1).1
  have HGD : Hid (fault zs = 0 → ∀ m, Good m → Good (stepL zs m)) := fun h1 m h => stepL_good h (fault_good h1).1 (fault_good h1).2
  have HR : Hid ((fault zs ≠ 0 → runC zs ys b = fault zs ∧ R = zeroM) ∧ (fault zs = 0 → startC ys ≠ 0 → runC zs ys b = startC ys ∧ R = startR ys) ∧ (fault zs = 0 → startC ys = 0 → inB b 0 20000 = false → runC zs ys b = 3 ∧ R = zeroM) ∧ (fault zs = 0 → startC ys = 0 → inB b 0 20000 = true → runC zs ys b = 0 ∧ (0 ≤ b ∧ b ≤ 20000) ∧ Good (startR ys) ∧ ∀ r, Ends zs b (startR ys) r → R = r)) := by
    refine ⟨fun h => ?_, fun h h2 => ?_, fun h h2 h3 => ?_, fun h h2 h3 => ?_⟩
    · have e : runC zs ys b = fault zs := if_neg h
      exact ⟨e, hR.2 (by rw [e]; exact h)⟩
    · have e : runC zs ys b = startC ys := by unfold runC; rw [if_pos h, if_neg h2]
      exact ⟨e, by rw [hR.2 (by rw [e]; exact h2)]; exact (if_neg h2).symm⟩
    · have e : runC zs ys b = 3 := by unfold runC; rw [if_pos h, if_pos h2, h3]; rfl
      exact ⟨e, hR.2 (by rw [e]; omega)⟩
    · have e : runC zs ys b = 0 := by unfold runC; rw [if_pos h, if_pos h2, h3]; rfl
      have e2 : startR ys = startM ys := if_pos h2
      rw [e2]
      exact ⟨e, inB_iff.1 h3, startM_good h2, fun r hr => (hR.1 e).det hr⟩
  have HST : Hid (∀ {W w' : World} {e : Ending}, ResR W w' e (startC ys) (startR ys) → ∃ a1 c1 a2 c2, e = .returned (resV (startC ys) (startR ys) (.slice a1 (startR ys).stk.length c1) (.slice a2 (startR ys).cells.length c2)) ∧ Own w' W.heap.size (.slice a1 (startR ys).stk.length c1) (startR ys).stk ∧ Own w' W.heap.size (.slice a2 (startR ys).cells.length c2) (startR ys).cells ∧ (∀ g, (Value.slice a1 (startR ys).stk.length c1).ownBlock = some g → (Value.slice a2 (startR ys).cells.length c2).ownBlock ≠ some g) ∧ Below W.heap.size W w') := fun h => start_res h
  have HSL : Hid ((startR ys).stk.length ≤ 1048576 ∧ (startR ys).cells.length ≤ 1048576) := by
    unfold startR
    split
    · exact ⟨by show 0 ≤ _; omega, hyl⟩
    · exact ⟨by show 0 ≤ _; omega, by show 0 ≤ _; omega⟩
  clear hn hab hzc hl hy hc3 hyl hR
  generalize fault zs = fz at *
  generalize startC ys = F at *
  generalize startR ys = S at *
  generalize runC zs ys b = C at *
  generalize inB b 0 20000 = I at *
  generalize zs.length = L at *
  generalize ys.length = L2 at *
  go_enter Try.func29, Try.ntmps29
  go_upto_region 1 with fail
  generalize w.alloc (.cells zero8 41) = W at *
  have HB0 := hid hW
  have HZ0 := hid hA
  have HS := hid hS
  clear hW hA hS
  go_upto_region 2 with (go_at_call 66; refine (HCW.out W HB0.out).mono ?_; rintro e w1 ⟨rfl, hb1⟩)
  have HB := hid (HB0.out.trans (hb1.mono HB0.out.size))
  have HZ := hid (blk8 HZ0.out hb1)
  have HSS : Hid (w.heap.size < w1.heap.size) := (Array.getElem?_eq_some_iff.1 HZ.out).1
  clear hb1 HB0 HZ0 HS HCW
  obtain ⟨g0, g1, g2, g3, g4, g5, g6, g7⟩ := cl8 HZ.out
  obtain ⟨f0, f1, f2, f3, f4, f5, f6, f7⟩ := fl8 HZ.out
  by_cases hz : fz = 0
  case neg =>
    obtain ⟨rfl, rfl⟩ := HR.out.1 hz
    have e0 : (C != 0) = true := by simpa using hz
    have HF := hid (res_code w w1 w.heap.size C (Nat.le_refl _) HB.out)
    clear hz HCS HCI HCT HGD HR HST HZ HSL
    go_wp2_with fail
    refine bodyPost_ret (v := codeV C) (by simp [results, Try.results29, go_sem, g0, g1, g2, g3, g4, g5, g6, g7]; try rfl) rfl ?_
    exact HF.out
  subst hz
  go_upto_region 4 with fail
  clear g0 g1 g2 g3 g4 g5 g6 g7 f0 f1 f2 f3 f4 f5 f6 f7
  go_wp2_with fail
  refine (HCS.out w1 HB.out).mono ?_
  intro e w3 hres
  obtain ⟨x1, y1, x2, y2, rfl, o1, o2, o3, b3⟩ := HST.out hres
  have hb4 := b3.trans ((Below.refl _ _).alloc b3.size (.cells (line8 F S (.slice x1 S.stk.length y1) (.slice x2 S.cells.length y2)) 41))
  have hrow := heap_alloc_new w3 (.cells (line8 F S (.slice x1 S.stk.length y1) (.slice x2 S.cells.length y2)) 41)
  have HB4 := hid (HB.out.trans (hb4.mono HB.out.size))
  have HZ4 := hid (blk8 HZ.out hb4)
  have HO1 := hid (own_kept o1 ((Below.refl w3.heap.size w3).alloc (Nat.le_refl _) (.cells (line8 F S (.slice x1 S.stk.length y1) (.slice x2 S.cells.length y2)) 41)))
  have HO2 := hid (own_kept o2 ((Below.refl w3.heap.size w3).alloc (Nat.le_refl _) (.cells (line8 F S (.slice x1 S.stk.length y1) (.slice x2 S.cells.length y2)) 41)))
  have HO3 := hid o3
  have HRW := hid hrow
  clear hres o1 o2 o3 b3 hb4 hrow HB HZ HST HCS
  go_upto_region 5 with fail
  generalize w3.alloc (.cells (line8 F S (.slice x1 S.stk.length y1) (.slice x2 S.cells.length y2)) 41) = W4 at *
  generalize w3.heap.size = q at *
  obtain ⟨g0, g1, g2, g3, g4, g5, g6, g7⟩ := cl8 HZ4.out
  obtain ⟨f0, f1, f2, f3, f4, f5, f6, f7⟩ := fl8 HZ4.out
  obtain ⟨d0, d1, d2, d3, d4, d5, d6, d7⟩ := row8 HRW.out
  by_cases hf : F = 0
  case neg =>
    obtain ⟨rfl, rfl⟩ := HR.out.2.1 (by first | rfl | trivial) hf
    have e0 : (C != 0) = true := by simpa using hf
    have HF := hid (res_gen w W4 w.heap.size w1.heap.size C R _ _ (Nat.le_refl _) HSS.out HO1.out HO2.out HO3.out HB4.out)
    clear hf HCI HCT HGD HR HO1 HO2 HO3 HRW HZ4 HB4 HSL
    generalize R.stk.length = l1 at *
    generalize R.cells.length = l2 at *
    go_wp2_with fail
    refine bodyPost_ret (v := .agg #[.int .i64 C, .int .i64 R.pc, .slice x1 l1 y1, .slice x2 l2 y2, .int .i64 R.sig, .int .i64 R.used, .int .i64 R.trap, .bool R.done]) (by simp [results, Try.results29, go_sem, g0, g1, g2, g3, g4, g5, g6, g7]; try rfl) rfl ?_
    exact HF.out
  subst hf
  cases I
  · obtain ⟨rfl, rfl⟩ := HR.out.2.2.1 (by first | rfl | trivial) (by first | rfl | trivial) (by first | rfl | trivial)
    have HF := hid (res_code w W4 w.heap.size 3 (Nat.le_refl _) HB4.out)
    clear HCT HGD HR HRW HZ4 HB4 HO1 HO2 HO3 HSL d1 d2 d3 d4 d5 d6 d7
    go_wp2_with (go_at_call 67; refine (HCI.out _).mono ?_; rintro e w5 ⟨rfl, hw5⟩; have hw6 := hw5.symm; clear hw5; subst hw6)
    refine bodyPost_ret (v := codeV 3) (by simp [results, Try.results29, go_sem, g0, g1, g2, g3, g4, g5, g6, g7]; try rfl) rfl ?_
    exact HF.out
  obtain ⟨hC, hbb, hgS, hEQ⟩ := HR.out.2.2.2 (by first | rfl | trivial) (by first | rfl | trivial) (by first | rfl | trivial)
  subst hC
  have HBB := hid hbb
  have HGS := hid hgS
  have HE0 := hid hEQ
  have HN := hid (newRun_any S _ _ W4 (own_row HO1.out) (own_row HO2.out) HSL.out.1 HSL.out.2)
  clear hbb hgS hEQ HR HO1 HO2 HO3 HSL HRW g0 g1 g2 g3 g4 g5 g6 g7 f0 f1 f2 f3 f4 f5 f6 f7
  go_upto_region 9 with (go_at_call 67; refine (HCI.out _).mono ?_; rintro e w5 ⟨rfl, hw5⟩; have hw6 := hw5.symm; clear hw5; subst hw6)
  clear HCI d0
  have HS4 : Hid (w.heap.size < W4.heap.size) := (Array.getElem?_eq_some_iff.1 HZ4.out).1
  generalize S.stk.length = l1 at *
  generalize S.cells.length = l2 at *
  go_wp2_with fail
  refine HN.out.mono ?_
  rintro e w5 ⟨g, rfl, hr5, hb5⟩
  have HR5 := hid hr5
  have HB5 := hid (HB4.out.trans (hb5.mono HB4.out.size))
  have HZ5 := hid (blk8 HZ4.out hb5)
  have HS5 := hid hb5.size
  clear hr5 hb5 HN HB4 HZ4 d1 d2 d3 d4 d5 d6 d7
  go_wp2_with fail
  go_loopw [] (fun wr => ∃ m : SM, RunI W4.heap.size wr g m ∧ Good m ∧ (∀ r, Ends zs b m r → Ends zs b S r) ∧ Below w.heap.size w wr ∧ wr.heap[w.heap.size]? = some (.cells zero8 41 (0, 0)) ∧ W4.heap.size ≤ wr.heap.size)
    (fun wr => (b - intOf ((wr.cell? ⟨g, 4, none⟩).getD (.int .i64 0))).toNat)
  case atStart => exact ⟨S, HR5.out, HGS.out, fun r h => h, HB5.out, HZ5.out, HS5.out⟩
  case round =>
    clear HR5 HB5 HZ5 HS5
    obtain ⟨m, hrs, hgm, hen, hbl, hz, hsz⟩ := hrel
    obtain ⟨sv, cv, hrow, hmem⟩ := id hrs
    obtain ⟨-, -, d2, d3, d4, d5, d6⟩ := cl7 hrow
    have HEN := hid hen
    have HBL := hid hbl
    have HZR := hid hz
    have HRI := hid hrs
    have HGM := hid hgm
    have HSZ := hid hsz
    have HU4 := hid d4
    clear hen hbl hz hrow hmem hgm hrs hsz
    go_wp2_with fail
    refine (pgoes_any m wr).mono ?_
    rintro e Wx ⟨rfl, hbx⟩
    have HRX := hid (HRI.out.kept hbx)
    have HBX := hid (HBL.out.trans (hbx.mono HBL.out.size))
    have HZX := hid (blk8 HZR.out hbx)
    have HSX : Hid (W4.heap.size ≤ Wx.heap.size) := by have := hbx.size; have := HSZ.out; show _ ≤ _; omega
    obtain ⟨sx, cx, hrow, _⟩ := id HRX.out
    obtain ⟨-, -, x2, x3, x4, x5, x6⟩ := cl7 hrow
    obtain ⟨-, -, -, -, -, k5, -⟩ := fl7 hrow
    clear hrow hbx HRI HBL HZR HSZ d2 d3 d4 d5 d6
    cases hgo : goes m
    · have HEQ := hid (HE0.out m (HEN.out _ (.stop hgo)))
      have HGO := hid hgo
      clear HCT HGD HE0 HEN HGM HGS HBB
      go_wp2_with fail
      refine (pgoes_any m Wx).mono ?_
      rintro e Wy ⟨rfl, hby⟩
      rw [hgo]
      have HRE := hid (HRX.out.kept hby)
      have HBE := hid (HBX.out.trans (hby.mono HBX.out.size))
      have HZE := hid (blk8 HZX.out hby)
      have HSE : Hid (W4.heap.size ≤ Wy.heap.size) := by have := hby.size; have := HSX.out; show _ ≤ _; omega
      clear hgo HU4 hby HRX HBX HZX HSX x2 x3 x4 x5 x6 k5
      go_wp2_with fail
      refine (imachine_any W4.heap.size g m Wy HRE.out (by have := HBE.out; have := HSE.out; omega)).mono ?_
      rintro e w6 ⟨s6, c6, rfl, o1, o2, o3, b6⟩
      obtain ⟨q1, t1, rfl⟩ := own_shape o1
      obtain ⟨q2, t2, rfl⟩ := own_shape o2
      have HB6 := hid (HBE.out.trans (b6.mono HBE.out.size))
      have hz6 := blk8 HZE.out b6
      have HF := hid (res_gen w w6 w.heap.size W4.heap.size 0 m _ _ (Nat.le_refl _) HS4.out o1 o2 o3 HB6.out)
      obtain ⟨g0, g1, g2, g3, g4, g5, g6, g7⟩ := cl8 hz6
      obtain ⟨f0, f1, f2, f3, f4, f5, f6, f7⟩ := fl8 hz6
      clear o1 o2 o3 b6 hz6 HB6 HRE HBE HZE HSE
      generalize hrr : m = r at *
      generalize r.stk.length = l1 at *
      generalize r.cells.length = l2 at *
      go_wp2_with fail
      refine bodyPost_ret (v := .agg #[.int .i64 0, .int .i64 r.pc, .slice q1 l1 t1, .slice q2 l2 t2, .int .i64 r.sig, .int .i64 r.used, .int .i64 r.trap, .bool r.done]) (by simp [results, Try.results29, go_sem, g0, g1, g2, g3, g4, g5, g6, g7]; try rfl) rfl ?_
      rw [HEQ.out]
      exact HF.out
    · by_cases hu : m.used < b
      · have hq7 : decide (m.used < b) = true := decide_eq_true hu
        have HU := hid hu
        have HGO := hid hgo
        clear hu hgo
        go_wp2_with fail
        refine (HCT.out (by first | rfl | trivial) W4.heap.size g m Wx HBX.out (Nat.le_of_lt HS4.out) HRX.out HGM.out).mono ?_
        rintro e w6 ⟨rfl, hr6, hb6⟩
        have HR6 := hid hr6
        have HB6 := hid hb6
        clear hr6 hb6 hq7 x2 x3 x4 x5 x6 k5
        go_wp2_with fail
        have hcm : w6.cell? ⟨g, 4, none⟩ = some (.int .i64 (stepL zs m).used) := by
          obtain ⟨_, _, hr, _⟩ := HR6.out
          exact (cl7 hr).2.2.2.2.1
        refine ⟨⟨stepL zs m, HR6.out, HGD.out (by first | rfl | trivial) m HGM.out, fun r h => HEN.out r (.step HGO.out HU.out h), HBX.out.trans (HB6.out.mono (Nat.le_of_lt HS4.out)), (HB6.out.block _ HS4.out).trans HZX.out, Nat.le_trans HSX.out HB6.out.size⟩, ?_⟩
        rw [hcm, HU4.out, stepL_used, usedM_more HGM.out.used0 (by have := HU.out; have := HBB.out.2; omega)]
        have h2 := HU.out
        simp [intOf]
        omega
      · have hq7 : decide (m.used < b) = false := decide_eq_false hu
        have HEQ := hid (HE0.out _ (HEN.out _ (.many hgo (by omega))))
        have HGO := hid hgo
        go_wp2_with fail
        refine (pgoes_any m Wx).mono ?_
        rintro e Wy ⟨rfl, hby⟩
        rw [hgo]
        have HRY := hid (HRX.out.kept hby)
        have hBY := HBX.out.trans (hby.mono HBX.out.size)
        have hZY := blk8 HZX.out hby
        have hSY : W4.heap.size ≤ Wy.heap.size := by have := hby.size; have := HSX.out; omega
        have hRE : RunI W4.heap.size (Wy.setCell ⟨g, 5, none⟩ (.int .i64 2)) g (manyM m) := RunI.fld (m' := manyM m) HRY.out 5 _ (fun _ _ => rfl) rfl rfl
        have hgB : W4.heap.size ≤ g := by obtain ⟨_, _, _, hm⟩ := HRY.out; exact hm.pB
        have hws := HS4.out
        have HRE := hid hRE
        have HBE := hid (hBY.setCell (p := ⟨g, 5, none⟩) (by show w.heap.size ≤ g; omega) (.int .i64 2))
        have HZE := hid ((heap_setCell_other Wy ⟨g, 5, none⟩ w.heap.size (.int .i64 2) (by show w.heap.size ≠ g; omega)).trans hZY)
        have HSE : Hid (W4.heap.size ≤ (Wy.setCell ⟨g, 5, none⟩ (.int .i64 2)).heap.size) := by unfold Hid; rw [World.size_setCell]; exact hSY
        obtain ⟨_, _, hrow, _⟩ := id HRY.out
        obtain ⟨-, -, -, -, -, v5, -⟩ := cl7 hrow
        obtain ⟨-, -, -, -, -, k6, -⟩ := fl7 hrow
        clear hu hRE hgB hws hrow HCT HGD HE0 HEN HGM HGS HBB hby hBY hZY hSY HRX HBX HZX HSX x2 x3 x4 x5 x6 k5 HU4 hgo hq7 HRY
        go_upto_region 14 with fail
        generalize Wy.setCell ⟨g, 5, none⟩ (.int .i64 2) = Z at *
        clear v5 k6
        generalize manyM m = M at *
        go_wp2_with fail
        refine (imachine_any W4.heap.size g M Z HRE.out (by have := HBE.out; have := HSE.out; omega)).mono ?_
        rintro e w6 ⟨s6, c6, rfl, o1, o2, o3, b6⟩
        obtain ⟨q1, t1, rfl⟩ := own_shape o1
        obtain ⟨q2, t2, rfl⟩ := own_shape o2
        have HB6 := hid (HBE.out.trans (b6.mono HBE.out.size))
        have hz6 := blk8 HZE.out b6
        have HF := hid (res_gen w w6 w.heap.size W4.heap.size 0 M _ _ (Nat.le_refl _) HS4.out o1 o2 o3 HB6.out)
        obtain ⟨g0, g1, g2, g3, g4, g5, g6, g7⟩ := cl8 hz6
        obtain ⟨f0, f1, f2, f3, f4, f5, f6, f7⟩ := fl8 hz6
        clear o1 o2 o3 b6 hz6 HB6 HRE HBE HZE HSE
        generalize hrr : M = r at *
        generalize r.stk.length = l1 at *
        generalize r.cells.length = l2 at *
        go_wp2_with fail
        refine bodyPost_ret (v := .agg #[.int .i64 0, .int .i64 r.pc, .slice q1 l1 t1, .slice q2 l2 t2, .int .i64 r.sig, .int .i64 r.used, .int .i64 r.trap, .bool r.done]) (by simp [results, Try.results29, go_sem, g0, g1, g2, g3, g4, g5, g6, g7]; try rfl) rfl ?_
        rw [HEQ.out]
        exact HF.out
end Go.Proofs.Ytcikofhbfncgdaa
