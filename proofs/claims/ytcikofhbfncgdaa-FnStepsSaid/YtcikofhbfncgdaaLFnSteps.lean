/-
  The Go function laws.FnSteps answers true at every input and writes nothing that was there. No condition.
-/
import Derived.Test.YtcikofhbfncgdaaInvM
import Derived.Test.YtcikofhbfncgdaaStpM
import Derived.Test.YtcikofhbfncgdaaIRun1
import Derived.Test.YtcikofhbfncgdaaRgIRun1
import Derived.Test.YtcikofhbfncgdaaRgS8a
import Derived.Test.YtcikofhbfncgdaaBig
import Derived.Test.YtcikofhbfncgdaaRgS8a
import Derived.Test.YtcikofhbfncgdaaBig
import Derived.Test.YtcikofhbfncgdaaBig
import Derived.Deep.RegionHeld3
import Derived.Deep.CutRange
namespace Go.Proofs.Ytcikofhbfncgdaa
open Go.RowKit
set_option linter.unusedVariables false
attribute [local go_sem ↓] Go.wp_at_zero Go.wp_at_succ

theorem fieldS_0 (C : Int) (M : SM) (sv cv : Value) (w : World) : (Instr.field 41 (resV C M sv cv) 0).run Try.prog w = .ok (.int .i64 C) w := by kernel_rfl
theorem fieldR_0 (C : Int) (M : SM) (sv cv : Value) (w : World) : (Instr.field 30 (resV C M sv cv) 0).run Try.prog w = .ok (.int .i64 C) w := by kernel_rfl
theorem own_nil {w : World} {B n c : Nat} {a : Option Addr} {zs : List Int} (h : Own w B (.slice a n c) zs) : a = none → c = 0 := by
  rcases h.2 with ⟨h1, h2⟩ | ⟨g, c', cur, h1, _⟩
  · simp at h1; exact fun _ => h1.2.2
  · simp at h1; intro e; rw [e] at h1; cases h1.1
theorem own_cap {w : World} {B c : Nat} {a : Option Addr} {zs : List Int} (h : Own w B (.slice a zs.length c) zs) : zs.length ≤ c := by
  rcases h.2 with ⟨h1, h2⟩ | ⟨g, c', cur, h1, _, _, h3, _⟩
  · omega
  · simp at h1; rw [h1.2]; exact h3
theorem own_ahead {w : World} {B n c b off : Nat} {a : Option Addr} {zs : List Int} (h : Own w B (.slice a n c) zs) (e : a = some ⟨b, off, none⟩) : b < w.heap.size := by
  rcases h.2 with ⟨h1, h2⟩ | ⟨g, c', cur, h1, _⟩
  · simp at h1; rw [h1.1] at e; cases e
  · simp at h1
    have k := (own_lt h (g := g) (by rw [h1.1])).2
    rw [h1.1] at e
    have := Option.some.inj e
    have := congrArg Addr.block this
    simp at this
    omega
theorem belT {a b c : World} (h : Below a.heap.size a b) (hb : Below b.heap.size b c) : Below a.heap.size a c := h.trans (hb.mono h.size)
theorem InB.shape {W : World} {T : TypeId} {p q : Nat} {M : SM} {sv cv : Value} (h : InB W T p q M sv cv) : ∃ a1 k1 a2 k2, sv = .slice a1 M.stk.length k1 ∧ cv = .slice a2 M.cells.length k2 := by
  obtain ⟨a1, k1, e1⟩ := own_shape h.s
  obtain ⟨a2, k2, e2⟩ := own_shape h.c
  exact ⟨a1, k1, a2, k2, e1, e2⟩
theorem goes_nos {m : SM} (h : goes m = false) : m.done = true ∨ (m.done = false ∧ (m.trap == 0) = false) := by
  unfold goes at h
  cases hq : m.done
  · right
    rw [hq] at h
    exact ⟨rfl, by simpa using h⟩
  · exact .inl rfl
theorem goes_yess {m : SM} (h : goes m = true) : m.done = false ∧ (m.trap == 0) = true := by
  unfold goes at h
  simpa using h

set_option maxHeartbeats 12800000 in
set_option maxRecDepth 100000 in
theorem fnSteps_walk (a0 : Option Addr) (len0 cap0 : Nat) (z0 : List Int) (w : World) (w0 : IsRow .u8 w a0 len0 cap0 z0) :
    Calls Try.prog 4 #[.slice a0 len0 cap0] w fun e w' => e = .returned (.bool true) ∧ Below w.heap.size w w' := by
  obtain ⟨hb0, ha0⟩ := bytes_of_row w0
  clear w0
  by_cases hbig : 1048576 < len0
  · go_enter Try.func4, Try.ntmps4
    go_wp2_with fail
    refine (big_yes _ _ _ _ hbig).mono ?_
    rintro e w1 ⟨rfl, rfl⟩
    go_wp2
    go_ret
    exact ⟨rfl, Below.refl _ _⟩
  have hs : len0 ≤ 1048576 := by omega
  have HA := hid ha0
  have HY := hid hb0
  clear hbig ha0 hb0
  go_enter Try.func4, Try.ntmps4
  go_wp2_with fail
  refine (big_any _ _ _ _ hs).mono ?_
  rintro e w1 ⟨rfl, rfl⟩
  go_wp2_with fail
  refine (drawRun_any a0 len0 cap0 w1 hs HY.out HA.out).mono ?_
  rintro e w2 ⟨zs, ys, bud, a1, a2, c1, c2, rfl, hzl, hyl, hoz, hoy, hB2⟩
  have HB2 := hid hB2
  have HSS : Hid (∀ W, Below w2.heap.size w2 W → Calls Try.prog 24 #[.slice a2 ys.length c2] W fun e w' => ∃ x1 k1 x2 k2, e = .returned (resV (startC ys) (startR ys) (.slice x1 (startR ys).stk.length k1) (.slice x2 (startR ys).cells.length k2)) ∧ Own w' W.heap.size (.slice x1 (startR ys).stk.length k1) (startR ys).stk ∧ Own w' W.heap.size (.slice x2 (startR ys).cells.length k2) (startR ys).cells ∧ Below W.heap.size W w') := fun W hb => (iStart_any a2 ys c2 W ((nums_of_own hoy).2.below hb) (own_nil hoy) (by omega)).mono fun e w' ⟨sv, cv, h1, h2, h3, _, h5⟩ => by
    obtain ⟨x1, k1, rfl⟩ := own_shape h2
    obtain ⟨x2, k2, rfl⟩ := own_shape h3
    exact ⟨x1, k1, x2, k2, h1, h2, h3, h5⟩
  have HSR : Hid (∀ W, Below w2.heap.size w2 W → Calls Try.prog 25 #[.slice a2 ys.length c2] W fun e w' => ∃ x1 k1 x2 k2, e = .returned (resV (startRC ys) (startRR ys) (.slice x1 (startRR ys).stk.length k1) (.slice x2 (startRR ys).cells.length k2)) ∧ Own w' W.heap.size (.slice x1 (startRR ys).stk.length k1) (startRR ys).stk ∧ Own w' W.heap.size (.slice x2 (startRR ys).cells.length k2) (startRR ys).cells ∧ Below W.heap.size W w') := fun W hb => (iStartR_any a2 ys c2 W ((nums_of_own hoy).2.below hb) (own_nil hoy) (by omega)).mono fun e w' ⟨sv, cv, h1, h2, h3, _, h5⟩ => by
    obtain ⟨x1, k1, rfl⟩ := own_shape h2
    obtain ⟨x2, k2, rfl⟩ := own_shape h3
    exact ⟨x1, k1, x2, k2, h1, h2, h3, h5⟩
  have HPS : Hid (∀ W, Below w2.heap.size w2 W → Calls Try.prog 27 #[.slice a2 ys.length c2] W fun e w' => ∃ sv cv, e = .returned (resV (startC ys) (startR ys) sv cv) ∧ Below W.heap.size W w') := fun W hb => (sStart_any a2 ys c2 W ((nums_of_own hoy).2.below hb) (own_nil hoy) (by omega)).mono fun e w' ⟨sv, cv, h1, _, _, _, h5⟩ => ⟨sv, cv, h1, h5⟩
  have HPR : Hid (∀ W, Below w2.heap.size w2 W → Calls Try.prog 28 #[.slice a2 ys.length c2] W fun e w' => ∃ sv cv, e = .returned (resV (startRC ys) (startRR ys) sv cv) ∧ Below W.heap.size W w') := fun W hb => (sStartR_any a2 ys c2 W ((nums_of_own hoy).2.below hb) (own_nil hoy) (by omega)).mono fun e w' ⟨sv, cv, h1, _, _, _, h5⟩ => ⟨sv, cv, h1, h5⟩
  have HWF : Hid (∀ W, Below w2.heap.size w2 W → Calls Try.prog 26 #[.slice a1 zs.length c1] W fun e w' => e = .returned (.int .i64 (fault zs)) ∧ w' = W) := fun W hb => sFault_any a1 zs c1 W (by omega) ((nums_of_own hoz).2.below hb)
  -- what holds where no code is told
  have HGS : Hid (fault zs = 0 → startC ys = 0 → startR ys = startM ys ∧ (∀ k, Good (itS zs ys k))) := fun h1 h2 => ⟨if_pos h2, itS_good (startM_good h2) (fault_good h1).1 (fault_good h1).2⟩
  have HGR : Hid (fault zs = 0 → startRC ys = 0 → startRR ys = startRM ys ∧ (∀ k, RGood (itR zs ys k))) := fun h1 h2 => ⟨if_pos h2, itR_good (startM_goodG h2) (fault_good h1).1 (fault_good h1).2⟩
  have HRS : Hid (fault zs = 0 → startC ys = 0 → ∀ (k : Nat) (W : World), k ≤ 12 → Below w2.heap.size w2 W → Calls Try.prog 29 #[.slice a1 zs.length c1, .slice a2 ys.length c2, .int .i64 (k : Int)] W fun e w' => ∃ (M : SM) (x1 : Option Addr) (k1 : Nat) (x2 : Option Addr) (k2 : Nat), e = .returned (resV 0 M (.slice x1 M.stk.length k1) (.slice x2 M.cells.length k2)) ∧ Nums w' x2 M.cells ∧ (goes (itS zs ys k) = true → M = manyM (itS zs ys k)) ∧ Below W.heap.size W w') := fun h1 h2 k W hk hb => by
    have hC : runC zs ys (k : Int) = 0 := by unfold runC; rw [if_pos h1, if_pos h2, inB_iff.2 ⟨by omega, by omega⟩]; rfl
    obtain ⟨M, hM⟩ := runR_any zs ys (k : Int)
    have := iRun_any a1 zs c1 a2 ys c2 (k : Int) M W ((nums_of_own hoz).2.below hb) (fun b off e => own_ahead (own_kept hoz hb) e) (own_cap hoz) (by omega) ((nums_of_own hoy).2.below hb) (own_nil hoy) (by omega) hM
    rw [hC] at this
    refine this.mono fun e w' ⟨sv, cv, g1, g2, g3, _, g5⟩ => ?_
    obtain ⟨x1, k1, rfl⟩ := own_shape g2
    obtain ⟨x2, k2, rfl⟩ := own_shape g3
    exact ⟨M, x1, k1, x2, k2, g1, (nums_of_own g3).2, fun hg => runS_it (by omega) (hM.1 hC) hg, g5⟩
  have HRR : Hid (fault zs = 0 → startRC ys = 0 → ∀ (k : Nat) (W : World), k ≤ 12 → Below w2.heap.size w2 W → Calls Try.prog 17 #[.slice a1 zs.length c1, .slice a2 ys.length c2, .int .i64 (k : Int)] W fun e w' => ∃ (M : SM) (x1 : Option Addr) (k1 : Nat) (x2 : Option Addr) (k2 : Nat), e = .returned (resV 0 M (.slice x1 M.stk.length k1) (.slice x2 M.cells.length k2)) ∧ Nums w' x1 M.stk ∧ (goes (itR zs ys k) = true → M = manyM (itR zs ys k)) ∧ Below W.heap.size W w') := fun h1 h2 k W hk hb => by
    have hC : runRC zs ys (k : Int) = 0 := by unfold runRC; rw [if_pos h1, if_pos h2, inB_iff.2 ⟨by omega, by omega⟩]; rfl
    obtain ⟨M, hM⟩ := runR_anyG zs ys (k : Int)
    have := iRunR_any a1 zs c1 a2 ys c2 (k : Int) M W ((nums_of_own hoz).2.below hb) (fun b off e => own_ahead (own_kept hoz hb) e) (own_cap hoz) (by omega) ((nums_of_own hoy).2.below hb) (own_nil hoy) (by omega) hM
    rw [hC] at this
    refine this.mono fun e w' ⟨sv, cv, g1, g2, g3, _, g5⟩ => ?_
    obtain ⟨x1, k1, rfl⟩ := own_shape g2
    obtain ⟨x2, k2, rfl⟩ := own_shape g3
    exact ⟨M, x1, k1, x2, k2, g1, (nums_of_own g2).2, fun hg => runR_it (by omega) (hM.1 hC) hg, g5⟩
  have HTS : Hid (fault zs = 0 → ∀ (m : SM) (sv cv : Value) (W : World), Good m → Below w2.heap.size w2 W → RowV W sv m.stk → RowV W cv m.cells → Calls Try.prog 30 #[.slice a1 zs.length c1, machL m sv cv] W fun e w' => ∃ x1 k1 x2 k2, e = .returned (resV 0 (stepM zs m) (.slice x1 (stepM zs m).stk.length k1) (.slice x2 (stepM zs m).cells.length k2)) ∧ Own w' W.heap.size (.slice x1 (stepM zs m).stk.length k1) (stepM zs m).stk ∧ Own w' W.heap.size (.slice x2 (stepM zs m).cells.length k2) (stepM zs m).cells ∧ Below W.heap.size W w') := fun h1 m sv cv W hg hb hr1 hr2 => by
    have e1 : stepC zs m = 0 := (if_pos h1).trans (good_F hg)
    have e2 : stepR zs m = stepM zs m := if_pos e1
    have := iStep_any a1 zs c1 m sv cv W ((nums_of_own hoz).2.below hb) (fun b off e => own_ahead (own_kept hoz hb) e) (by omega) (own_cap hoz) hr1 hr2 (by have := hg.sl; omega) (by have := hg.cl; omega)
    rw [e1, e2] at this
    refine this.mono fun e w' ⟨sv, cv, g1, g2, g3, _, g5⟩ => ?_
    obtain ⟨x1, k1, rfl⟩ := own_shape g2
    obtain ⟨x2, k2, rfl⟩ := own_shape g3
    exact ⟨x1, k1, x2, k2, g1, g2, g3, g5⟩
  have HTR : Hid (fault zs = 0 → ∀ (m : SM) (sv cv : Value) (W : World), RGood m → Below w2.heap.size w2 W → RowV W sv m.stk → RowV W cv m.cells → Calls Try.prog 19 #[.slice a1 zs.length c1, machL m sv cv] W fun e w' => ∃ x1 k1 x2 k2, e = .returned (resV 0 (stepRM zs m) (.slice x1 (stepRM zs m).stk.length k1) (.slice x2 (stepRM zs m).cells.length k2)) ∧ Own w' W.heap.size (.slice x1 (stepRM zs m).stk.length k1) (stepRM zs m).stk ∧ Own w' W.heap.size (.slice x2 (stepRM zs m).cells.length k2) (stepRM zs m).cells ∧ Below W.heap.size W w') := fun h1 m sv cv W hg hb hr1 hr2 => by
    have e1 : stepRC zs m = 0 := (if_pos h1).trans (rgood_F hg)
    have e2 : stepRR zs m = stepRM zs m := if_pos e1
    have := iStepR_any a1 zs c1 m sv cv W ((nums_of_own hoz).2.below hb) (fun b off e => own_ahead (own_kept hoz hb) e) (by omega) (own_cap hoz) hr1 hr2 (by have := hg.sl; omega) (by have := hg.cl; omega)
    rw [e1, e2] at this
    refine this.mono fun e w' ⟨sv, cv, g1, g2, g3, _, g5⟩ => ?_
    obtain ⟨x1, k1, rfl⟩ := own_shape g2
    obtain ⟨x2, k2, rfl⟩ := own_shape g3
    exact ⟨x1, k1, x2, k2, g1, g2, g3, g5⟩
  clear hoz hoy hB2 HA HY hs hyl hzl
  go_wp2_with fail
  refine (HSS.out _ (Below.refl _ _)).mono ?_
  rintro e w3 ⟨x1, k1, x2, k2, rfl, o1, o2, hb⟩
  have hb3 := hb.trans ((Below.refl _ _).alloc hb.size (.cells (line8 (startC ys) (startR ys) (.slice x1 (startR ys).stk.length k1) (.slice x2 (startR ys).cells.length k2)) 41))
  have HB3 := hid hb3
  have HP3 := hid (heap_alloc_new w3 (.cells (line8 (startC ys) (startR ys) (.slice x1 (startR ys).stk.length k1) (.slice x2 (startR ys).cells.length k2)) 41))
  have HO3 : Hid (Own (w3.alloc (.cells (line8 (startC ys) (startR ys) (.slice x1 (startR ys).stk.length k1) (.slice x2 (startR ys).cells.length k2)) 41)) 0 (.slice x1 (startR ys).stk.length k1) (startR ys).stk ∧ Own (w3.alloc (.cells (line8 (startC ys) (startR ys) (.slice x1 (startR ys).stk.length k1) (.slice x2 (startR ys).cells.length k2)) 41)) 0 (.slice x2 (startR ys).cells.length k2) (startR ys).cells ∧ (∀ g, (Value.slice x1 (startR ys).stk.length k1).ownBlock = some g → g < w3.heap.size) ∧ (∀ g, (Value.slice x2 (startR ys).cells.length k2).ownBlock = some g → g < w3.heap.size)) := ⟨own_mono (o1.alloc _) (Nat.zero_le _), own_mono (o2.alloc _) (Nat.zero_le _), fun g hg => (o1.lt g hg).2, fun g hg => (o2.lt g hg).2⟩
  have HWP : Hid (w2.heap.size ≤ w3.heap.size) := hb.size
  clear o1 o2 hb hb3 HSS
  go_upto_region 5 with fail
  generalize w3.alloc (.cells (line8 (startC ys) (startR ys) (.slice x1 (startR ys).stk.length k1) (.slice x2 (startR ys).cells.length k2)) 41) = W3 at *
  have HPL : Hid (w3.heap.size < W3.heap.size) := (Array.getElem?_eq_some_iff.1 HP3.out).1
  generalize w3.heap.size = p at *
  go_wp2_with fail
  refine (HSR.out W3 HB3.out).mono ?_
  rintro e w4 ⟨y1, l1, y2, l2, rfl, o1, o2, hb⟩
  have hb4 := hb.trans ((Below.refl _ _).alloc hb.size (.cells (line8 (startRC ys) (startRR ys) (.slice y1 (startRR ys).stk.length l1) (.slice y2 (startRR ys).cells.length l2)) 30))
  have HB4 := hid (belT HB3.out hb4)
  have HP4 := hid (blk8 HP3.out hb4)
  have HQ4 := hid (heap_alloc_new w4 (.cells (line8 (startRC ys) (startRR ys) (.slice y1 (startRR ys).stk.length l1) (.slice y2 (startRR ys).cells.length l2)) 30))
  have HPQ : Hid (p < w4.heap.size) := by have := HPL.out; have := hb.size; show p < _; omega
  have HOA : Hid (startC ys = 0 → startR ys = startM ys → InB (w4.alloc (.cells (line8 (startRC ys) (startRR ys) (.slice y1 (startRR ys).stk.length l1) (.slice y2 (startRR ys).cells.length l2)) 30)) 41 p w4.heap.size (itS zs ys 0) (.slice x1 (startR ys).stk.length k1) (.slice x2 (startR ys).cells.length k2)) := fun h0 hm => by
    have hr := blk8 HP3.out hb4
    rw [h0, hm] at hr
    have ho := HO3.out
    rw [hm] at ho ⊢
    have := HPL.out
    have := hb.size
    exact ⟨hr, own_kept ho.1 hb4, own_kept ho.2.1 hb4, fun g hg => by have := ho.2.2.1 g hg; omega, fun g hg => by have := ho.2.2.2 g hg; omega⟩
  have HOB : Hid (startRC ys = 0 → startRR ys = startRM ys → InB (w4.alloc (.cells (line8 (startRC ys) (startRR ys) (.slice y1 (startRR ys).stk.length l1) (.slice y2 (startRR ys).cells.length l2)) 30)) 30 w4.heap.size p (itR zs ys 0) (.slice y1 (startRR ys).stk.length l1) (.slice y2 (startRR ys).cells.length l2)) := fun h0 hm => by
    have hr := heap_alloc_new w4 (.cells (line8 (startRC ys) (startRR ys) (.slice y1 (startRR ys).stk.length l1) (.slice y2 (startRR ys).cells.length l2)) 30)
    have q1 : ∀ g, (Value.slice y1 (startRR ys).stk.length l1).ownBlock = some g → g ≠ w4.heap.size ∧ g ≠ p := fun g hg => by have := o1.lt g hg; have := HPL.out; omega
    have q2 : ∀ g, (Value.slice y2 (startRR ys).cells.length l2).ownBlock = some g → g ≠ w4.heap.size ∧ g ≠ p := fun g hg => by have := o2.lt g hg; have := HPL.out; omega
    have r1 := own_mono (o1.alloc (.cells (line8 (startRC ys) (startRR ys) (.slice y1 (startRR ys).stk.length l1) (.slice y2 (startRR ys).cells.length l2)) 30)) (Nat.zero_le _)
    have r2 := own_mono (o2.alloc (.cells (line8 (startRC ys) (startRR ys) (.slice y1 (startRR ys).stk.length l1) (.slice y2 (startRR ys).cells.length l2)) 30)) (Nat.zero_le _)
    have hM : itR zs ys 0 = startRR ys := hm.symm
    refine ⟨?_, by rw [hM]; exact r1, by rw [hM]; exact r2, q1, q2⟩
    rw [hM]
    rw [h0] at hr ⊢
    exact hr
  clear o1 o2 hb hb4 HSR HB3 HP3 HO3 HPL
  go_upto_region 6 with fail
  generalize w4.alloc (.cells (line8 (startRC ys) (startRR ys) (.slice y1 (startRR ys).stk.length l1) (.slice y2 (startRR ys).cells.length l2)) 30) = W4 at *
  generalize w4.heap.size = q at *
  have HBW := hid HB4.out
  obtain ⟨v0, -⟩ := row8 HP4.out
  obtain ⟨u0, -⟩ := row8 HQ4.out
  by_cases hall : startC ys = 0 ∧ startRC ys = 0 ∧ fault zs = 0
  case neg =>
    have hcs : (startC ys != 0) = true ∨ ((startC ys != 0) = false ∧ (startRC ys != 0) = true) ∨ ((startC ys != 0) = false ∧ (startRC ys != 0) = false ∧ (fault zs != 0) = true) := by
      by_cases h1 : startC ys = 0
      · by_cases h2 : startRC ys = 0
        · by_cases h3 : fault zs = 0
          · exact absurd ⟨h1, h2, h3⟩ hall
          · exact .inr (.inr ⟨by rw [h1]; rfl, by rw [h2]; rfl, by simpa using h3⟩)
        · exact .inr (.inl ⟨by rw [h1]; rfl, by simpa using h2⟩)
      · exact .inl (by simpa using h1)
    have HC4 : Hid (∀ W, Below W4.heap.size W4 W → W.cell? ⟨p, 0, none⟩ = some (.int .i64 (startC ys)) ∧ W.cell? ⟨q, 0, none⟩ = some (.int .i64 (startRC ys))) := fun W hb => ⟨(row8 (blk8 HP4.out hb)).1, (row8 (blk8 HQ4.out hb)).1⟩
    clear hall HGS HGR HRS HRR HTS HTR HOA HOB HP4 HQ4
    generalize startR ys = S0 at *
    generalize startRR ys = R0 at *
    generalize startC ys = C0 at *
    generalize startRC ys = D0 at *
    generalize fault zs = fz at *
    have hf0 := fieldS_0
    have hf1 := fieldR_0
    have HEND : Hid (∀ W5, Below W4.heap.size W4 W5 → W5.cell? ⟨p, 0, none⟩ = some (.int .i64 C0) ∧ W5.cell? ⟨q, 0, none⟩ = some (.int .i64 D0) ∧ Below w1.heap.size w1 W5) := fun W5 hb => ⟨(HC4.out W5 hb).1, (HC4.out W5 hb).2, belT HB2.out (belT HBW.out hb)⟩
    rcases hcs with h1 | ⟨h1, h2⟩ | ⟨h1, h2, h3⟩
    all_goals
      go_upto_region 7 with (first | (go_at_call 26; refine (HWF.out _ HBW.out).mono ?_; rintro e w5 ⟨rfl, hw5⟩; have hw6 := hw5.symm; clear hw5; subst hw6) | fail)
      have hS0 : Below W4.heap.size W4 W4 := Below.refl _ _
      go_region_held3 (fun W => Below W4.heap.size W4 W ∧ W.cell? ⟨p, 0, none⟩ = some (.int .i64 C0) ∧ W.cell? ⟨q, 0, none⟩ = some (.int .i64 D0)) (first | (with_reducible exact ⟨by assumption, HC4.out _ (by assumption)⟩) | (with_reducible exact ⟨hS0.drew, HC4.out _ hS0.drew⟩) | fail) (first | (go_at_call 27; refine (HPS.out _ (HBW.out.trans (Below.mono (And.left (by with_reducible assumption)) HBW.out.size))).mono ?_; rintro e wa ⟨sv, cv, rfl, hb⟩; have hD3 : Below W4.heap.size W4 wa := belT (And.left (by with_reducible assumption)) hb; clear hb) | (go_at_call 28; refine (HPR.out _ (HBW.out.trans (Below.mono (And.left (by with_reducible assumption)) HBW.out.size))).mono ?_; rintro e wb ⟨sv, cv, rfl, hb⟩; have hD4 : Below W4.heap.size W4 wb := belT (And.left (by with_reducible assumption)) hb; clear hb) | fail)
      have HF := hid (HEND.out _ hD4).2.2
      clear hD3 hD4 hS0
      go_wp2_with fail
      go_ret
      exact ⟨rfl, HF.out⟩
  obtain ⟨h1, h2, h3⟩ := hall
  obtain ⟨hm1, hgd1⟩ := HGS.out h3 h1
  obtain ⟨hm2, hgd2⟩ := HGR.out h3 h2
  have HIA := hid (HOA.out h1 hm1)
  have HIB := hid (HOB.out h2 hm2)
  have HGA := hid hgd1
  have HGB := hid hgd2
  have HRSc := hid (HRS.out h3 h1)
  have HRRc := hid (HRR.out h3 h2)
  have HTSc := hid (HTS.out h3)
  have HTRc := hid (HTR.out h3)
  rw [h1] at v0
  rw [h2] at u0
  rw [h3] at HWF
  clear h1 h2 h3 hm1 hm2 hgd1 hgd2 HGS HGR HRS HRR HTS HTR HOA HOB HP4 HQ4 HPS HPR HB4
  generalize Value.slice x1 (startR ys).stk.length k1 = s1 at *
  generalize Value.slice x2 (startR ys).cells.length k2 = s2 at *
  generalize Value.slice y1 (startRR ys).stk.length l1 = s3 at *
  generalize Value.slice y2 (startRR ys).cells.length l2 = s4 at *
  go_wp2_with (first | (go_at_call 26; refine (HWF.out _ HBW.out).mono ?_; rintro e w5 ⟨rfl, hw5⟩; have hw6 := hw5.symm; clear hw5; subst hw6) | fail)
  clear v0 u0 HWF
  go_loopw [8] (fun i wr => ∃ (k : Nat) (sv cv su cu : Value), k ≤ 12 ∧ i = .int .i64 k ∧ Hid (InB wr 41 p q (itS zs ys k) sv cv) ∧ Hid (InB wr 30 q p (itR zs ys k) su cu) ∧ Hid (Below w2.heap.size w2 wr)) (fun i _ => 12 - (intOf i).toNat)
  case atStart => exact ⟨0, _, _, _, _, by omega, rfl, HIA, HIB, HBW⟩
  case round =>
    clear HIA HIB HBW
    obtain ⟨k, sv, cv, su, cu, hk, rfl, HIA, HIB, HBW⟩ := hrel
    by_cases hlt : k < 12
    · obtain ⟨ea1, ek1, ea2, ek2, rfl, rfl⟩ := HIA.out.shape
      obtain ⟨fa1, fk1, fa2, fk2, rfl, rfl⟩ := HIB.out.shape
      have HRk := hid (HRSc.out k wr (by omega) HBW.out)
      have HQk := hid (fun W => HRRc.out k W (by omega))
      have HGAk := hid (HGA.out k)
      have HGBk := hid (HGB.out k)
      have HNA : Hid (itS zs ys (k + 1) = stepM zs (itS zs ys k)) := rfl
      have HNB : Hid (itR zs ys (k + 1) = stepRM zs (itR zs ys k)) := rfl
      have HKK := hid hlt
      have hkl : (k : Int) < 12 := by omega
      clear hlt hk
      go_wp2_with fail
      refine HRk.out.mono ?_
      rintro e w5 ⟨M, m1, n1, m2, n2, rfl, hnm, hit, hb⟩
      have hb5 := hb.trans ((Below.refl _ _).alloc hb.size (.cells (line8 0 M (.slice m1 M.stk.length n1) (.slice m2 M.cells.length n2)) 41))
      have HIA5 := hid (HIA.out.below hb5)
      have HIB5 := hid (HIB.out.below hb5)
      have HBW5 := hid (belT HBW.out hb5)
      have HR5 := hid (heap_alloc_new w5 (.cells (line8 0 M (.slice m1 M.stk.length n1) (.slice m2 M.cells.length n2)) 41))
      have HN5 := hid (hnm.below ((Below.refl _ _).alloc (Nat.le_refl _) (.cells (line8 0 M (.slice m1 M.stk.length n1) (.slice m2 M.cells.length n2)) 41)))
      have HIT := hid hit
      clear hnm hit hb hb5 HIA HIB HBW HRk hkl
      go_upto_region 12 with fail
      generalize w5.alloc (.cells (line8 0 M (.slice m1 M.stk.length n1) (.slice m2 M.cells.length n2)) 41) = W5 at *
      generalize w5.heap.size = r at *
      go_wp2_with fail
      refine (HQk.out W5 HBW5.out).mono ?_
      rintro e w6 ⟨N, i1, j1, i2, j2, rfl, hnm, hiu, hb⟩
      have hb6 := hb.trans ((Below.refl _ _).alloc hb.size (.cells (line8 0 N (.slice i1 N.stk.length j1) (.slice i2 N.cells.length j2)) 30))
      have HIA6 := hid (HIA5.out.below hb6)
      have HIB6 := hid (HIB5.out.below hb6)
      have HBW6 := hid (belT HBW5.out hb6)
      have HR6 := hid (blk8 HR5.out hb6)
      have HN6 := hid (HN5.out.below hb6)
      have HT6 := hid (heap_alloc_new w6 (.cells (line8 0 N (.slice i1 N.stk.length j1) (.slice i2 N.cells.length j2)) 30))
      have HO6 := hid (hnm.below ((Below.refl _ _).alloc (Nat.le_refl _) (.cells (line8 0 N (.slice i1 N.stk.length j1) (.slice i2 N.cells.length j2)) 30)))
      have HIU := hid hiu
      clear hnm hiu hb hb6 HIA5 HIB5 HBW5 HR5 HN5 HQk
      go_upto_region 13 with fail
      generalize w6.alloc (.cells (line8 0 N (.slice i1 N.stk.length j1) (.slice i2 N.cells.length j2)) 30) = W6 at *
      generalize w6.heap.size = t at *
      clear HGA HGB HRSc HRRc
      generalize hA1 : itS zs ys (k + 1) = A1 at *
      have HA1 := hid hA1
      clear hA1
      generalize hB1 : itR zs ys (k + 1) = B1 at *
      have HB1 := hid hB1
      clear hB1
      generalize itS zs ys k = A at *
      generalize itR zs ys k = Bm at *
      go_cut [96] from 97 to 147 (fun x W' => x = .bool false ∧ Hid (Below W6.heap.size W6 W'))
      case first =>
        obtain ⟨a0, a1', a2', a3', a4', a5', a6', a7'⟩ := row8 HIA6.out.row
        obtain ⟨r0, r1', r2', r3', r4', r5', r6', r7'⟩ := row8 HR6.out
        cases hga : goes A
        · rcases goes_nos hga with hd | ⟨hd, ht⟩
          · rw [hd] at a7'
            go_wp2_with fail
            go_meet
            case rel => exact ⟨rfl, Below.refl _ _⟩
          · rw [hd] at a7'
            go_wp2_with fail
            go_meet
            case rel => exact ⟨rfl, Below.refl _ _⟩
        · obtain ⟨hd, ht⟩ := goes_yess hga
          have hM := HIT.out hga
          have e1 : M.pc = A.pc := by rw [hM]; rfl
          have e2 : M.trap = 2 := by rw [hM]; rfl
          have e3 : M.cells = A.cells := by rw [hM]; rfl
          have hn6 := HN6.out
          rw [e3] at r3' hn6
          rw [e1] at r1'
          rw [e2] at r6'
          rw [hd] at a7'
          have HLW := hid (lwNums_any m2 ea2 A.cells n2 ek2 W6 (by have := HGAk.out.cl; omega) hn6 (nums_of_own HIA6.out.c).2)
          clear hM e1 e2 e3 hn6 hd hga
          go_wp2_with (first | (go_at_call 22; refine HLW.out.mono ?_; rintro e w7 ⟨rfl, hb7⟩) | fail)
          go_meet
          case rel => exact ⟨rfl, hb7⟩
      case rest =>
        obtain ⟨rfl, HB7⟩ := hcut
        have HIA7 := hid (HIA6.out.below HB7.out)
        have HIB7 := hid (HIB6.out.below HB7.out)
        have HBW7 := hid (belT HBW6.out HB7.out)
        have HT7 := hid (blk8 HT6.out HB7.out)
        have HO7 := hid (HO6.out.below HB7.out)
        clear HIA6 HIB6 HBW6 HR6 HN6 HT6 HO6 HB7 HIT
        generalize wc = W7 at *
        go_upto_region 15 with fail
        go_cut [131] from 132 to 147 (fun x W' => x = .bool false ∧ Hid (Below W7.heap.size W7 W'))
        case first =>
          obtain ⟨a0, a1', a2', a3', a4', a5', a6', a7'⟩ := row8 HIB7.out.row
          obtain ⟨r0, r1', r2', r3', r4', r5', r6', r7'⟩ := row8 HT7.out
          cases hga : goes Bm
          · rcases goes_nos hga with hd | ⟨hd, ht⟩
            · rw [hd] at a7'
              go_wp2_with fail
              go_meet
              case rel => exact ⟨rfl, Below.refl _ _⟩
            · rw [hd] at a7'
              go_wp2_with fail
              go_meet
              case rel => exact ⟨rfl, Below.refl _ _⟩
          · obtain ⟨hd, ht⟩ := goes_yess hga
            have hM := HIU.out hga
            have e1 : N.pc = Bm.pc := by rw [hM]; rfl
            have e2 : N.trap = 2 := by rw [hM]; rfl
            have e3 : N.stk = Bm.stk := by rw [hM]; rfl
            have hn6 := HO7.out
            rw [e3] at r2' hn6
            rw [e1] at r1'
            rw [e2] at r6'
            rw [hd] at a7'
            have HLW := hid (lwNums_any i1 fa1 Bm.stk j1 fk1 W7 (by have := HGBk.out.rl; omega) hn6 (nums_of_own HIB7.out.s).2)
            clear hM e1 e2 e3 hn6 hd hga
            go_wp2_with (first | (go_at_call 22; refine HLW.out.mono ?_; rintro e w7 ⟨rfl, hb7⟩) | fail)
            go_meet
            case rel => exact ⟨rfl, hb7⟩
        case rest =>
          obtain ⟨rfl, HB8⟩ := hcut
          have HIA8 := hid (HIA7.out.below HB8.out)
          have HIB8 := hid (HIB7.out.below HB8.out)
          have HBW8 := hid (belT HBW7.out HB8.out)
          clear HIA7 HIB7 HBW7 HT7 HO7 HB8 HIU
          generalize wc = W8 at *
          obtain ⟨a0, a1', a2', a3', a4', a5', a6', a7'⟩ := row8 HIA8.out.row
          have HTa := hid (HTSc.out A _ _ W8 HGAk.out HBW8.out HIA8.out.rows.1 HIA8.out.rows.2)
          go_wp2_with fail
          refine HTa.out.mono ?_
          rintro e w9 ⟨x1, k1, x2, k2, rfl, o1, o2, hb⟩
          have hrow := blk8 HIA8.out.row hb
          have hq8 : q < W8.heap.size := (Array.getElem?_eq_some_iff.1 HIB8.out.row).1
          have hput := HIA8.out.put hq8 hb o1 o2
          have hsol := fill8 p w9 (.int .i64 0) (.int .i64 (stepM zs A).pc) (.slice x1 (stepM zs A).stk.length k1) (.slice x2 (stepM zs A).cells.length k2) (.int .i64 (stepM zs A).sig) (.int .i64 (stepM zs A).used) (.int .i64 (stepM zs A).trap) (.bool (stepM zs A).done)
          have hswap := (HIB8.out.below hb).swap hsol (by have := HPQ.out; omega)
          have hbw := (belT HBW8.out hb).trans (hsol.bel.mono HWP.out)
          have HPUT := hid hput
          have HSW := hid hswap
          have HBW9 := hid hbw
          clear a0 a1' a2' a3' a4' a5' a6' a7'
          obtain ⟨a0, a1', a2', a3', a4', a5', a6', a7'⟩ := row8 hrow
          obtain ⟨f0, f1, f2, f3, f4, f5, f6, f7⟩ := fl8 hrow
          clear hrow hq8 hput hsol hswap hbw hb o1 o2 HIA8 HIB8 HBW8 HTa
          rw [← HNA.out] at HPUT HSW HBW9 ⊢
          generalize hl1 : A1.stk.length = la1 at *
          generalize hl2 : A1.cells.length = la2 at *
          clear hl1 hl2
          go_upto_region 18 with fail
          generalize ((((((((w9.setCell ⟨p, 0, none⟩ (.int .i64 0)).setCell ⟨p, 1, none⟩ (.int .i64 A1.pc)).setCell ⟨p, 2, none⟩ (.slice x1 la1 k1)).setCell ⟨p, 3, none⟩ (.slice x2 la2 k2)).setCell ⟨p, 4, none⟩ (.int .i64 A1.sig)).setCell ⟨p, 5, none⟩ (.int .i64 A1.used)).setCell ⟨p, 6, none⟩ (.int .i64 A1.trap)).setCell ⟨p, 7, none⟩ (.bool A1.done)) = W9 at *
          clear a0 a1' a2' a3' a4' a5' a6' a7' f0 f1 f2 f3 f4 f5 f6 f7
          obtain ⟨a0, a1', a2', a3', a4', a5', a6', a7'⟩ := row8 HSW.out.row
          have HTb := hid (HTRc.out Bm _ _ W9 HGBk.out HBW9.out HSW.out.rows.1 HSW.out.rows.2)
          go_wp2_with fail
          refine HTb.out.mono ?_
          rintro e w10 ⟨u1, v1, u2, v2, rfl, o1, o2, hb⟩
          have hrow := blk8 HSW.out.row hb
          have hp9 : p < W9.heap.size := (Array.getElem?_eq_some_iff.1 HPUT.out.row).1
          have hput := HSW.out.put hp9 hb o1 o2
          have hsol := fill8 q w10 (.int .i64 0) (.int .i64 (stepRM zs Bm).pc) (.slice u1 (stepRM zs Bm).stk.length v1) (.slice u2 (stepRM zs Bm).cells.length v2) (.int .i64 (stepRM zs Bm).sig) (.int .i64 (stepRM zs Bm).used) (.int .i64 (stepRM zs Bm).trap) (.bool (stepRM zs Bm).done)
          have hswap := (HPUT.out.below hb).swap hsol (by have := HPQ.out; omega)
          have hbw := (belT HBW9.out hb).trans (hsol.bel.mono (by have := HWP.out; have := HPQ.out; omega))
          have HPUT2 := hid hput
          have HSW2 := hid hswap
          have HBW10 := hid hbw
          clear a0 a1' a2' a3' a4' a5' a6' a7'
          obtain ⟨a0, a1', a2', a3', a4', a5', a6', a7'⟩ := row8 hrow
          obtain ⟨f0, f1, f2, f3, f4, f5, f6, f7⟩ := fl8 hrow
          clear hrow hp9 hput hsol hswap hbw hb o1 o2 HPUT HSW HBW9 HTb
          rw [← HNB.out] at HPUT2 HSW2 HBW10 ⊢
          generalize hl1 : B1.stk.length = lb1 at *
          generalize hl2 : B1.cells.length = lb2 at *
          clear hl1 hl2
          go_upto_region 19 with fail
          generalize ((((((((w10.setCell ⟨q, 0, none⟩ (.int .i64 0)).setCell ⟨q, 1, none⟩ (.int .i64 B1.pc)).setCell ⟨q, 2, none⟩ (.slice u1 lb1 v1)).setCell ⟨q, 3, none⟩ (.slice u2 lb2 v2)).setCell ⟨q, 4, none⟩ (.int .i64 B1.sig)).setCell ⟨q, 5, none⟩ (.int .i64 B1.used)).setCell ⟨q, 6, none⟩ (.int .i64 B1.trap)).setCell ⟨q, 7, none⟩ (.bool B1.done)) = W10 at *
          clear a0 a1' a2' a3' a4' a5' a6' a7' f0 f1 f2 f3 f4 f5 f6 f7
          obtain ⟨a0, -⟩ := row8 HSW2.out.row
          obtain ⟨b0, -⟩ := row8 HPUT2.out.row
          have hwk : IntKind.i64.wrap ((k : Int) + 1) = ((k + 1 : Nat) : Int) := by rw [IntWalk.i64_in _ ⟨by have := HKK.out; omega, by have := HKK.out; omega⟩]; omega
          go_wp2_with fail
          clear hwk
          refine ⟨⟨k + 1, _, _, _, _, by have := HKK.out; omega, by first | rfl | go_num, by rw [HA1.out]; exact HSW2, by rw [HB1.out]; exact HPUT2, HBW10⟩, ?_⟩
          have := HKK.out
          simp [intOf]
          omega
    · go_wp2_with fail
      go_ret
      exact ⟨rfl, belT HB2.out HBW.out⟩
end Go.Proofs.Ytcikofhbfncgdaa
