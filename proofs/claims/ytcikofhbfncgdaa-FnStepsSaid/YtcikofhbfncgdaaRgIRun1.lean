/-
  impl's RunRegs.
-/
import Derived.Test.YtcikofhbfncgdaaStpM
import Derived.Test.YtcikofhbfncgdaaIRgOp
import Derived.Test.YtcikofhbfncgdaaRgSpend
namespace Go.Proofs.Ytcikofhbfncgdaa
open Go.RowKit
set_option linter.unusedVariables false

/-- the answer with any code and machine -/
theorem res_genG (w W : World) (r B : Nat) (C : Int) (M : SM) (sv cv : Value) (hr : w.heap.size ≤ r) (hrB : r < B) (hs : Own W B sv M.stk) (hc : Own W B cv M.cells) (hd : ∀ g, sv.ownBlock = some g → cv.ownBlock ≠ some g) (hB : Below w.heap.size w W) : ResR w ((((((((W.setCell ⟨r, 0, none⟩ (.int .i64 C)).setCell ⟨r, 1, none⟩ (.int .i64 M.pc)).setCell ⟨r, 2, none⟩ sv).setCell ⟨r, 3, none⟩ cv).setCell ⟨r, 4, none⟩ (.int .i64 M.sig)).setCell ⟨r, 5, none⟩ (.int .i64 M.used)).setCell ⟨r, 6, none⟩ (.int .i64 M.trap)).setCell ⟨r, 7, none⟩ (.bool M.done)) (.returned (resV C M sv cv)) C M :=
  have hE := fill8 r W (.int .i64 C) (.int .i64 M.pc) sv cv (.int .i64 M.sig) (.int .i64 M.used) (.int .i64 M.trap) (.bool M.done)
  ⟨_, _, rfl, own_mono (own_sole hs hE (fun e => by have := (hs.lt _ e).1; omega)) (by omega), own_mono (own_sole hc hE (fun e => by have := (hc.lt _ e).1; omega)) (by omega), hd, hB.trans (hE.bel.mono hr)⟩
/-- what a run answers -/
def RunRG (zs ys : List Int) (b : Int) (R : SM) : Prop := (runRC zs ys b = 0 → REnds zs b (startRM ys) R) ∧ (runRC zs ys b ≠ 0 → R = zeroM)
theorem runR_anyG (zs ys : List Int) (b : Int) : ∃ R, RunRG zs ys b R := by
  by_cases h : runRC zs ys b = 0
  · obtain ⟨h1, h2, h3, h4⟩ := runC_okG h
    obtain ⟨r, hr⟩ := REnds.of zs b h4 20000 (startRM ys) (by show (0 : Int) ≤ 0; omega) (by show b - 0 ≤ _; omega)
    exact ⟨r, fun _ => hr, fun h' => absurd h h'⟩
  · exact ⟨zeroM, fun h' => absurd h' h, fun _ => rfl⟩
theorem start_resG {w W : World} {e : Ending} {ys : List Int} (h : ResR w W e (startRC ys) (startRR ys)) : ∃ a1 c1 a2 c2, e = .returned (resV (startRC ys) (startRR ys) (.slice a1 (startRR ys).stk.length c1) (.slice a2 (startRR ys).cells.length c2)) ∧ Own W w.heap.size (.slice a1 (startRR ys).stk.length c1) (startRR ys).stk ∧ Own W w.heap.size (.slice a2 (startRR ys).cells.length c2) (startRR ys).cells ∧ (∀ g, (Value.slice a1 (startRR ys).stk.length c1).ownBlock = some g → (Value.slice a2 (startRR ys).cells.length c2).ownBlock ≠ some g) ∧ Below w.heap.size w W := by
  obtain ⟨sv, cv, h1, h2, h3, h4, h5⟩ := h
  obtain ⟨a1, c1, rfl⟩ := own_shape h2
  obtain ⟨a2, c2, rfl⟩ := own_shape h3
  exact ⟨a1, c1, a2, c2, h1, h2, h3, h4, h5⟩

end Go.Proofs.Ytcikofhbfncgdaa
namespace Go.Proofs.Ytcikofhbfncgdaa
open Go.RowKit
set_option linter.unusedVariables false
attribute [local go_sem ↓] Go.wp_at_zero Go.wp_at_succ

set_option maxHeartbeats 6400000 in
set_option maxRecDepth 100000 in
theorem iRunR_any (a : Option Addr) (zs : List Int) (c : Nat) (a3 : Option Addr) (ys : List Int) (c3 : Nat) (b : Int) (R : SM) (w : World) (hn : Nums w a zs) (hab : ∀ b off, a = some ⟨b, off, none⟩ → b < w.heap.size) (hzc : zs.length ≤ c) (hl : zs.length ≤ 1048576) (hy : Nums w a3 ys) (hc3 : a3 = none → c3 = 0) (hyl : ys.length ≤ 1048576) (hR : RunRG zs ys b R) :
    Calls Try.prog 17 #[.slice a zs.length c, .slice a3 ys.length c3, .int .i64 b] w fun e w' => ResR w w' e (runRC zs ys b) R := by
  have hW := (Below.refl w.heap.size w).alloc (Nat.le_refl _) (.cells zero8 30)
  have hA := heap_alloc_new w (.cells zero8 30)
  have hS : (w.alloc (.cells zero8 30)).heap.size = w.heap.size + 1 := by simp
  have HCW : Hid (∀ W, Below w.heap.size w W → Calls Try.prog 66 #[.slice a zs.length c] W fun e w' => e = .returned (.int .i64 (fault zs)) ∧ Below W.heap.size W w') := fun W h => implFault_any a zs c W (by omega) (hn.below h)
  have HCS : Hid (∀ W, Below w.heap.size w W → Calls Try.prog 25 #[.slice a3 ys.length c3] W fun e w' => ResR W w' e (startRC ys) (startRR ys)) := fun W h => iStartR_any a3 ys c3 W (hy.below h) hc3 hyl
  have HCI : Hid (∀ W, Calls Try.prog 67 #[.int .i64 b, .int .i64 0, .int .i64 20000] W fun e w' => e = .returned (.bool (inB b 0 20000)) ∧ w' = W) := fun W => within_any b 0 20000 W
  have HCT : Hid (fault zs = 0 → ∀ (B g : Nat) (m : SM) (W : World), Below w.heap.size w W → w.heap.size ≤ B → RunJ [] B W g m → RGood m → m.used = 0 → 0 ≤ b ∧ b ≤ 20000 → Calls Try.prog 69 #[.pointer (some ⟨g, 0, none⟩), .slice a zs.length c, .int .i64 b] W fun e w' => e = .returned (.tuple #[]) ∧ ∃ r, REnds zs b m r ∧ RunJ [] B w' g r ∧ Below B W w') := fun h1 B g m W hb hB hr hg hu0 hbb =>
    spend_any B g m zs a c b W hr hg (hn.below hb) (fun b off hab2 => by have := hab b off hab2; omega) (fault_good h1).2 hzc (fault_good h1).1 hbb.1 hbb.2 (by omega)
  have HR : Hid ((fault zs ≠ 0 → runRC zs ys b = fault zs ∧ R = zeroM) ∧ (fault zs = 0 → startRC ys ≠ 0 → runRC zs ys b = startRC ys ∧ R = startRR ys) ∧ (fault zs = 0 → startRC ys = 0 → inB b 0 20000 = false → runRC zs ys b = 3 ∧ R = zeroM) ∧ (fault zs = 0 → startRC ys = 0 → inB b 0 20000 = true → runRC zs ys b = 0 ∧ (0 ≤ b ∧ b ≤ 20000) ∧ (RGood (startRR ys) ∧ (startRR ys).used = 0) ∧ ∀ r, REnds zs b (startRR ys) r → R = r)) := by
    refine ⟨fun h => ?_, fun h h2 => ?_, fun h h2 h3 => ?_, fun h h2 h3 => ?_⟩
    · have e : runRC zs ys b = fault zs := if_neg h
      exact ⟨e, hR.2 (by rw [e]; exact h)⟩
    · have e : runRC zs ys b = startRC ys := by unfold runRC; rw [if_pos h, if_neg h2]
      exact ⟨e, by rw [hR.2 (by rw [e]; exact h2)]; exact (if_neg h2).symm⟩
    · have e : runRC zs ys b = 3 := by unfold runRC; rw [if_pos h, if_pos h2, h3]; rfl
      exact ⟨e, hR.2 (by rw [e]; omega)⟩
    · have e : runRC zs ys b = 0 := by unfold runRC; rw [if_pos h, if_pos h2, h3]; rfl
      have e2 : startRR ys = startRM ys := if_pos h2
      rw [e2]
      exact ⟨e, inB_iff.1 h3, ⟨startM_goodG h2, rfl⟩, fun r hr => (hR.1 e).det hr⟩
  have HST : Hid (∀ {W w' : World} {e : Ending}, ResR W w' e (startRC ys) (startRR ys) → ∃ a1 c1 a2 c2, e = .returned (resV (startRC ys) (startRR ys) (.slice a1 (startRR ys).stk.length c1) (.slice a2 (startRR ys).cells.length c2)) ∧ Own w' W.heap.size (.slice a1 (startRR ys).stk.length c1) (startRR ys).stk ∧ Own w' W.heap.size (.slice a2 (startRR ys).cells.length c2) (startRR ys).cells ∧ (∀ g, (Value.slice a1 (startRR ys).stk.length c1).ownBlock = some g → (Value.slice a2 (startRR ys).cells.length c2).ownBlock ≠ some g) ∧ Below W.heap.size W w') := fun h => start_resG h
  have HSL : Hid ((startRR ys).stk.length ≤ 1048576 ∧ (startRR ys).cells.length ≤ 1048576) := by
    unfold startRR
    split
    · exact ⟨by show (List.replicate 24 _).length ≤ _; simp, hyl⟩
    · exact ⟨by show 0 ≤ _; omega, by show 0 ≤ _; omega⟩
  clear hn hab hzc hl hy hc3 hyl hR
  generalize fault zs = fz at *
  generalize startRC ys = F at *
  generalize startRR ys = S at *
  generalize runRC zs ys b = C at *
  generalize inB b 0 20000 = I at *
  generalize zs.length = L at *
  generalize ys.length = L2 at *
  go_enter Try.func17, Try.ntmps17
  go_upto_region 1 with fail
  generalize w.alloc (.cells zero8 30) = W at *
  have HB0 := hid hW
  have HZ0 := hid hA
  have HS := hid hS
  clear hW hA hS
  go_upto_region 2 with (go_at_call 66; refine (HCW.out W HB0.out).mono ?_; rintro e w1 ⟨rfl, hb1⟩)
  have HB := hid (HB0.out.trans (hb1.mono HB0.out.size))
  have HZ := hid (blk8 HZ0.out hb1)
  have HSS : Hid (w.heap.size < w1.heap.size) := (Array.getElem?_eq_some_iff.1 HZ.out).1
  clear hb1 HB0 HZ0 HS HCW
  obtain ⟨g0, g1, g2, g3, g4, g5, g6, g7⟩ := cl8 HZ.out
  obtain ⟨f0, f1, f2, f3, f4, f5, f6, f7⟩ := fl8 HZ.out
  by_cases hz : fz = 0
  case neg =>
    obtain ⟨rfl, rfl⟩ := HR.out.1 hz
    have e0 : (C != 0) = true := by simpa using hz
    have HF := hid (res_code w w1 w.heap.size C (Nat.le_refl _) HB.out)
    clear hz HCS HCI HCT HR HST HZ HSL
    go_wp2_with fail
    refine bodyPost_ret (v := codeV C) (by simp [results, Try.results17, go_sem, g0, g1, g2, g3, g4, g5, g6, g7]; try rfl) rfl ?_
    exact HF.out
  subst hz
  go_upto_region 4 with fail
  clear g0 g1 g2 g3 g4 g5 g6 g7 f0 f1 f2 f3 f4 f5 f6 f7
  go_wp2_with fail
  refine (HCS.out w1 HB.out).mono ?_
  intro e w3 hres
  obtain ⟨x1, y1, x2, y2, rfl, o1, o2, o3, b3⟩ := HST.out hres
  have hb4 := b3.trans ((Below.refl _ _).alloc b3.size (.cells (line8 F S (.slice x1 S.stk.length y1) (.slice x2 S.cells.length y2)) 30))
  have hrow := heap_alloc_new w3 (.cells (line8 F S (.slice x1 S.stk.length y1) (.slice x2 S.cells.length y2)) 30)
  have HB4 := hid (HB.out.trans (hb4.mono HB.out.size))
  have HZ4 := hid (blk8 HZ.out hb4)
  have HO1 := hid (own_kept o1 ((Below.refl w3.heap.size w3).alloc (Nat.le_refl _) (.cells (line8 F S (.slice x1 S.stk.length y1) (.slice x2 S.cells.length y2)) 30)))
  have HO2 := hid (own_kept o2 ((Below.refl w3.heap.size w3).alloc (Nat.le_refl _) (.cells (line8 F S (.slice x1 S.stk.length y1) (.slice x2 S.cells.length y2)) 30)))
  have HO3 := hid o3
  have HRW := hid hrow
  clear hres o1 o2 o3 b3 hb4 hrow HB HZ HST HCS
  go_upto_region 5 with fail
  generalize w3.alloc (.cells (line8 F S (.slice x1 S.stk.length y1) (.slice x2 S.cells.length y2)) 30) = W4 at *
  generalize w3.heap.size = q at *
  obtain ⟨g0, g1, g2, g3, g4, g5, g6, g7⟩ := cl8 HZ4.out
  obtain ⟨f0, f1, f2, f3, f4, f5, f6, f7⟩ := fl8 HZ4.out
  obtain ⟨d0, d1, d2, d3, d4, d5, d6, d7⟩ := row8 HRW.out
  by_cases hf : F = 0
  case neg =>
    obtain ⟨rfl, rfl⟩ := HR.out.2.1 (by first | rfl | trivial) hf
    have e0 : (C != 0) = true := by simpa using hf
    have HF := hid (res_genG w W4 w.heap.size w1.heap.size C R _ _ (Nat.le_refl _) HSS.out HO1.out HO2.out HO3.out HB4.out)
    clear hf HCI HCT HR HO1 HO2 HO3 HRW HZ4 HB4 HSL
    generalize R.stk.length = l1 at *
    generalize R.cells.length = l2 at *
    go_wp2_with fail
    refine bodyPost_ret (v := .agg #[.int .i64 C, .int .i64 R.pc, .slice x1 l1 y1, .slice x2 l2 y2, .int .i64 R.sig, .int .i64 R.used, .int .i64 R.trap, .bool R.done]) (by simp [results, Try.results17, go_sem, g0, g1, g2, g3, g4, g5, g6, g7]; try rfl) rfl ?_
    exact HF.out
  subst hf
  cases I
  · obtain ⟨rfl, rfl⟩ := HR.out.2.2.1 (by first | rfl | trivial) (by first | rfl | trivial) (by first | rfl | trivial)
    have HF := hid (res_code w W4 w.heap.size 3 (Nat.le_refl _) HB4.out)
    clear HCT HR HRW HZ4 HB4 HO1 HO2 HO3 HSL d1 d2 d3 d4 d5 d6 d7
    go_wp2_with (go_at_call 67; refine (HCI.out _).mono ?_; rintro e w5 ⟨rfl, hw5⟩; have hw6 := hw5.symm; clear hw5; subst hw6)
    refine bodyPost_ret (v := codeV 3) (by simp [results, Try.results17, go_sem, g0, g1, g2, g3, g4, g5, g6, g7]; try rfl) rfl ?_
    exact HF.out
  obtain ⟨hC, hbb, ⟨hgS, huS⟩, hEQ⟩ := HR.out.2.2.2 (by first | rfl | trivial) (by first | rfl | trivial) (by first | rfl | trivial)
  subst hC
  have HBB := hid hbb
  have HGS := hid hgS
  have HUS := hid huS
  have HE0 := hid hEQ
  have HN := hid (newRunR_any S _ _ W4 (own_row HO1.out) (own_row HO2.out) hgS.rl HSL.out.2)
  clear hbb hgS huS hEQ HR HO1 HO2 HO3 HSL HRW g0 g1 g2 g3 g4 g5 g6 g7 f0 f1 f2 f3 f4 f5 f6 f7
  go_upto_region 9 with (go_at_call 67; refine (HCI.out _).mono ?_; rintro e w5 ⟨rfl, hw5⟩; have hw6 := hw5.symm; clear hw5; subst hw6)
  clear HCI d0
  have HS4 : Hid (w.heap.size < W4.heap.size) := (Array.getElem?_eq_some_iff.1 HZ4.out).1
  generalize S.stk.length = l1 at *
  generalize S.cells.length = l2 at *
  go_wp2_with fail
  refine HN.out.mono ?_
  rintro e w5 ⟨g, rfl, hr5, hb5⟩
  have HR5 := hid hr5
  have HB5 := hid (HB4.out.trans (hb5.mono HB4.out.size))
  have HZ5 := hid (blk8 HZ4.out hb5)
  have HS5 := hid hb5.size
  clear hr5 hb5 HN HB4 HZ4 d1 d2 d3 d4 d5 d6 d7
  go_wp2_with fail
  refine (HCT.out (by first | rfl | trivial) W4.heap.size g S w5 HB5.out (Nat.le_of_lt HS4.out) HR5.out HGS.out HUS.out HBB.out).mono ?_
  rintro e w6 ⟨rfl, r, hend, hr6, hb6⟩
  have HEQ := hid (HE0.out r hend)
  have HR6 := hid hr6
  have HB6 := hid (HB5.out.trans (hb6.mono (Nat.le_of_lt HS4.out)))
  have HZ6 := hid ((hb6.block _ HS4.out).trans HZ5.out)
  have HS6 : Hid (W4.heap.size ≤ w6.heap.size) := Nat.le_trans HS5.out hb6.size
  clear hend hr6 hb6 HR5 HB5 HZ5 HS5 HCT HE0 HGS HBB HUS
  go_wp2_with fail
  refine (imachineR_any W4.heap.size g r w6 HR6.out HS6.out).mono ?_
  rintro e w7 ⟨s6, c6, rfl, o1, o2, o3, b6⟩
  obtain ⟨q1, t1, rfl⟩ := own_shape o1
  obtain ⟨q2, t2, rfl⟩ := own_shape o2
  have HB7 := hid (HB6.out.trans (b6.mono HB6.out.size))
  have hz6 := blk8 HZ6.out b6
  have HF := hid (res_genG w w7 w.heap.size W4.heap.size 0 r _ _ (Nat.le_refl _) HS4.out o1 o2 o3 HB7.out)
  obtain ⟨g0, g1, g2, g3, g4, g5, g6, g7⟩ := cl8 hz6
  obtain ⟨f0, f1, f2, f3, f4, f5, f6, f7⟩ := fl8 hz6
  clear o1 o2 o3 b6 hz6 HB7 HR6 HB6 HZ6 HS6
  generalize r.stk.length = l1 at *
  generalize r.cells.length = l2 at *
  go_wp2_with fail
  refine bodyPost_ret (v := .agg #[.int .i64 0, .int .i64 r.pc, .slice q1 l1 t1, .slice q2 l2 t2, .int .i64 r.sig, .int .i64 r.used, .int .i64 r.trap, .bool r.done]) (by simp [results, Try.results17, go_sem, g0, g1, g2, g3, g4, g5, g6, g7]; try rfl) rfl ?_
  rw [HEQ.out]
  exact HF.out
end Go.Proofs.Ytcikofhbfncgdaa
