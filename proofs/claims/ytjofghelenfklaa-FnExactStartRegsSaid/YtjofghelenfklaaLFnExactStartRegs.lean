/-
  The Go function laws.FnExactStartRegs answers true at every input and leaves its arguments as they were. No condition.
-/
import Derived.Test.YtjofghelenfklaaRgVar
import Derived.Test.YtjofghelenfklaaRgI12
import Derived.Test.YtjofghelenfklaaRgS8
import Derived.Deep.RegionHeld3
namespace Go.Proofs.Ytjofghelenfklaa
open Go.RowKit
set_option linter.unusedVariables false

theorem start_smallG (zs : List Int) : (startRR zs).stk.length ≤ 1000 ∧ (startRR zs).cells.length ≤ 1000 := by
  unfold startRR
  by_cases h : startRC zs = 0
  · rw [if_pos h]
    have := startM_goodG h
    exact ⟨by have := this.sl; omega, by have := this.cl; omega⟩
  · rw [if_neg h]
    exact ⟨by simp [zeroM], by simp [zeroM]⟩

set_option maxHeartbeats 6400000 in
set_option maxRecDepth 100000 in
theorem fnExactStartRegs_walk (a0 : Option Addr) (len0 cap0 : Nat) (z0 : List Int) (w : World) (w0 : IsRow .i64 w a0 len0 cap0 z0) :
    Calls Try.prog 6 #[.slice a0 len0 cap0] w fun e w' => e = .returned (.bool true) ∧ Below w.heap.size w w' := by
  obtain ⟨hl, hn⟩ := nums_of_row w0
  obtain ⟨zs, hzs⟩ : ∃ zs, zs = z0.take len0 := ⟨_, rfl⟩
  rw [← hzs] at hl hn
  subst hl
  clear hzs w0
  by_cases hbig : 1048576 < zs.length
  · go_enter Try.func6, Try.ntmps6
    go_wp2
    go_ret
    exact ⟨rfl, Below.refl _ _⟩
  have hs : zs.length ≤ 1048576 := by omega
  clear hbig
  have HTO : Hid (∀ W, Below w.heap.size w W → Calls Try.prog 35 #[.slice a0 zs.length cap0] W fun e w' => e = .returned (.slice (some ⟨W.heap.size, 0, none⟩) zs.length zs.length) ∧ Own w' W.heap.size (.slice (some ⟨W.heap.size, 0, none⟩) zs.length zs.length) zs ∧ Below W.heap.size W w') := fun W h => copy_any a0 zs cap0 W hs (hn.below h)
  have HSP : Hid (∀ (g : Nat) W, Nums W (some ⟨g, 0, none⟩) zs → Calls Try.prog 28 #[.slice (some ⟨g, 0, none⟩) zs.length zs.length] W fun e w' => ResSG W w' e (startRC zs) (startRR zs)) := fun g W h => (sStartR_any (some ⟨g, 0, none⟩) zs zs.length W h (by intro e; cases e) hs).mono fun e w' h => h.sG
  have HIM : Hid (∀ (g : Nat) W, Nums W (some ⟨g, 0, none⟩) zs → Calls Try.prog 25 #[.slice (some ⟨g, 0, none⟩) zs.length zs.length] W fun e w' => ResSG W w' e (startRC zs) (startRR zs)) := fun g W h => (iStartR_any (some ⟨g, 0, none⟩) zs zs.length W h (by intro e; cases e) hs).mono fun e w' h => h.sG
  obtain ⟨hm1, hm2⟩ := start_smallG zs
  generalize startRC zs = C at *
  generalize startRR zs = M at *
  have HEN : Hid (∀ (a b : Option Addr) (W : World), Nums W a zs → Nums W b zs → Calls Try.prog 37 #[.slice a zs.length zs.length, .slice b zs.length zs.length] W fun e w' => e = .returned (.bool true) ∧ Below W.heap.size W w') := fun a b W h1 h2 => eqNums_any a b zs _ _ W (by omega) h1 h2
  have HER : Hid (∀ (a1 a2 b1 b2 : Option Addr) (c1 c2 d1 d2 B p B' p' : Nat) (W : World), Var8G W B p C M a1 a2 c1 c2 → Var8G W B' p' C M b1 b2 d1 d2 → Calls Try.prog 36 #[resV C M (.slice a1 M.stk.length c1) (.slice a2 M.cells.length c2), resV C M (.slice b1 M.stk.length d1) (.slice b2 M.cells.length d2)] W fun e w' => e = .returned (.bool true) ∧ Below W.heap.size W w') := fun a1 a2 b1 b2 c1 c2 d1 d2 B p B' p' W h1 h2 => eqRes8_anyG C M _ _ _ _ W h1.rows.1 h1.rows.2 h2.rows.1 h2.rows.2 (by omega) (by omega)
  have HMK : Hid (∀ (W : World) (g : Nat), Own W g (.slice (some ⟨g, 0, none⟩) zs.length zs.length) zs → Calls Try.prog 38 #[.slice (some ⟨g, 0, none⟩) zs.length zs.length, .int .i64 1] W fun e w' => e = .returned (.int .i64 (1 + zs.length)) ∧ Below g W w' ∧ w'.heap.size = W.heap.size ∧ (∀ q, q ≠ g → w'.heap[q]? = W.heap[q]?)) := fun W g h => (mark_any _ zs _ g 1 W hs (by omega) (by omega) h).mono fun e w' h => ⟨h.1, h.2.2.1, h.2.2.2.1, fun q hq => h.2.2.2.2 q (fun e => hq (by have := Option.some.inj e; have := congrArg Addr.block this; exact this.symm))⟩
  have HMR : Hid (∀ (a1 a2 : Option Addr) (c1 c2 B p : Nat) (W : World), B ≤ W.heap.size → Var8G W B p C M a1 a2 c1 c2 → Calls Try.prog 39 #[resV C M (.slice a1 M.stk.length c1) (.slice a2 M.cells.length c2), .int .i64 1] W fun e w' => e = .returned (.int .i64 (1 + M.stk.length + M.cells.length)) ∧ Marked B W w' 1 a1 a2 M.stk.length M.cells.length) := fun a1 a2 c1 c2 B p W hB h => markRes8_anyG C M a1 a2 c1 c2 B 1 W h.s h.c h.d hB hm1 hm2 (by omega) (by omega)
  have HHD : Hid (∀ (a1 a2 : Option Addr) (c1 c2 : Nat) (W : World), Nums W a1 (marks 1 M.stk.length) → Nums W a2 (marks (1 + M.stk.length) M.cells.length) → Calls Try.prog 40 #[resV C M (.slice a1 M.stk.length c1) (.slice a2 M.cells.length c2), .int .i64 1] W fun e w' => e = .returned (.int .i64 (1 + M.stk.length + M.cells.length)) ∧ Below W.heap.size W w') := fun a1 a2 c1 c2 W h1 h2 => heldRes8_anyG C M a1 a2 _ _ c1 c2 1 W h1 h2 hm1 hm2 (by omega) (by omega)
  clear hn
  go_enter Try.func6, Try.ntmps6
  go_wp2_with fail
  refine (HTO.out _ (Below.refl _ _)).mono ?_
  rintro e w1 ⟨rfl, ho1, hb1⟩
  have HN1 : Hid _ := (nums_of_own ho1).2
  have HB1 : Hid _ := hb1
  clear ho1 hb1
  go_wp2_with fail
  refine (HSP.out _ _ HN1.out).mono ?_
  rintro e w2 ⟨a1, a2, c1, c2, rfl, hb, hv⟩
  have HB2 : Hid (Below w.heap.size w (w2.alloc (.cells (line8 C M (.slice a1 M.stk.length c1) (.slice a2 M.cells.length c2)) 30))) := (HB1.out.trans (hb.mono HB1.out.size)).alloc ((HB1.out.trans (hb.mono HB1.out.size))).size _
  have HV2 : Hid _ := hv
  have HP : Hid ((w2.alloc (.cells (line8 C M (.slice a1 M.stk.length c1) (.slice a2 M.cells.length c2)) 30)).heap.size = w2.heap.size + 1) := by show _ = _; simp
  clear hb hv HB1 HN1 HSP
  go_upto_region 4 with fail
  generalize w2.alloc (.cells (line8 C M (.slice a1 M.stk.length c1) (.slice a2 M.cells.length c2)) 30) = W2 at *
  generalize w2.heap.size = p at *
  generalize w1.heap.size = B at *
  go_wp2_with fail
  refine (HTO.out _ HB2.out).mono ?_
  rintro e w3 ⟨rfl, ho3, hb⟩
  have HV3 : Hid _ := HV2.out.below hb
  have HB3 : Hid (Below w.heap.size w w3) := HB2.out.trans (hb.mono HB2.out.size)
  have HX3 : Hid _ := ho3
  have HXL : Hid (p < W2.heap.size ∧ W2.heap.size < w3.heap.size) := ⟨by have := HP.out; omega, (own_lt ho3 rfl).2⟩
  have HN3 : Hid _ := (nums_of_own ho3).2
  clear ho3 hb HV2 HP
  have HWX : Hid (w.heap.size ≤ W2.heap.size) := HB2.out.size
  clear HB2
  generalize W2.heap.size = x at *
  go_wp2_with fail
  refine (HIM.out _ _ HN3.out).mono ?_
  rintro e w4 ⟨b1, b2, d1, d2, rfl, hb, hv⟩
  have hb4 := hb.trans ((Below.refl _ _).alloc hb.size (.cells (line8 C M (.slice b1 M.stk.length d1) (.slice b2 M.cells.length d2)) 30))
  have HV4 : Hid _ := HV3.out.below hb4
  have HX4 : Hid _ := own_kept HX3.out hb4
  have HB4 : Hid (Below w.heap.size w _) := HB3.out.trans (hb4.mono HB3.out.size)
  have HU4 : Hid _ := hv
  have HQ : Hid (w3.heap.size ≤ w4.heap.size) := hb.size
  clear hb hv hb4 HV3 HX3 HB3 HN3
  go_upto_region 6 with fail
  generalize w4.alloc (.cells (line8 C M (.slice b1 M.stk.length d1) (.slice b2 M.cells.length d2)) 30) = W4 at *
  generalize w4.heap.size = q at *
  generalize w3.heap.size = D at *
  obtain ⟨v0, v1, v2, v3, v4, v5, v6, v7⟩ := row8 HV4.out.row
  obtain ⟨u0, u1, u2, u3, u4, u5, u6, u7⟩ := row8 HU4.out.row
  go_wp2_with fail
  refine (HER.out _ _ _ _ _ _ _ _ _ _ _ _ _ HU4.out HV4.out).mono ?_
  rintro e w5 ⟨rfl, hb⟩
  have HV5 : Hid _ := HV4.out.below hb
  have HU5 : Hid _ := HU4.out.below hb
  have HX5 : Hid _ := own_kept HX4.out hb
  have HB5 : Hid (Below w.heap.size w w5) := HB4.out.trans (hb.mono HB4.out.size)
  clear hb HV4 HU4 HX4 HB4 v0 v1 v2 v3 v4 v5 v6 v7 u0 u1 u2 u3 u4 u5 u6 u7
  go_wp2_with fail
  refine (HTO.out _ HB5.out).mono ?_
  rintro e w6 ⟨rfl, ho6, hb⟩
  have HV6 : Hid _ := HV5.out.below hb
  have HU6 : Hid _ := HU5.out.below hb
  have HX6 : Hid _ := own_kept HX5.out hb
  have HB6 : Hid (Below w.heap.size w w6) := HB5.out.trans (hb.mono HB5.out.size)
  have HN6 : Hid _ := (nums_of_own ho6).2
  clear hb ho6 HV5 HU5 HX5 HB5
  go_wp2_with fail
  refine (HEN.out _ _ _ (nums_of_own HX6.out).2 HN6.out).mono ?_
  rintro e w7 ⟨rfl, hb⟩
  have HV7 : Hid _ := HV6.out.below hb
  have HU7 : Hid _ := HU6.out.below hb
  have HX7 : Hid _ := own_kept HX6.out hb
  have HB7 : Hid (Below w.heap.size w w7) := HB6.out.trans (hb.mono HB6.out.size)
  clear hb HN6 HV6 HU6 HX6 HB6
  go_wp2_with fail
  refine (HMK.out _ _ HX7.out).mono ?_
  rintro e w8 ⟨rfl, hb, hz, hoth⟩
  have HV8 : Hid _ := HV7.out.keep (hoth _ (by have := HXL.out; omega)) (fun g hg => hoth g (by have := HXL.out; have := HV7.out.b1 g hg; omega)) (fun g hg => hoth g (by have := HXL.out; have := HV7.out.b2 g hg; omega))
  have HU8 : Hid _ := HU7.out.keep (hoth _ (by have := HXL.out; have := HQ.out; omega)) (fun g hg => hoth g (by have := HXL.out; have := HU7.out.b1 g hg; omega)) (fun g hg => hoth g (by have := HXL.out; have := HU7.out.b2 g hg; omega))
  have HB8 : Hid (Below w.heap.size w w8) := HB7.out.trans (hb.mono HWX.out)
  clear hb hz hoth HV7 HU7 HX7 HB7
  obtain ⟨v0, v1, v2, v3, v4, v5, v6, v7⟩ := row8 HV8.out.row
  obtain ⟨u0, u1, u2, u3, u4, u5, u6, u7⟩ := row8 HU8.out.row
  go_wp2_with fail
  refine (HER.out _ _ _ _ _ _ _ _ _ _ _ _ _ HU8.out HV8.out).mono ?_
  rintro e w9 ⟨rfl, hb⟩
  have HV9 : Hid _ := HV8.out.below hb
  have HU9 : Hid _ := HU8.out.below hb
  have HB9 : Hid (Below w.heap.size w w9) := HB8.out.trans (hb.mono HB8.out.size)
  clear hb HV8 HU8 HB8 v0 v1 v2 v3 v4 v5 v6 v7 u0 u1 u2 u3 u4 u5 u6 u7
  obtain ⟨u0, u1, u2, u3, u4, u5, u6, u7⟩ := row8 HU9.out.row
  go_wp2_with fail
  refine (HMR.out _ _ _ _ _ _ _ (by have := HU9.out.lt; have := HQ.out; omega) HU9.out).mono ?_
  rintro e w10 ⟨rfl, m1, m2, hb, hz, hoth⟩
  have HV10 : Hid _ := HV9.out.keep (hoth _ HV9.out.lt (fun e => by have := HXL.out; have := HU9.out.b1 _ e; omega) (fun e => by have := HXL.out; have := HU9.out.b2 _ e; omega)) (fun g hg => hoth g (own_lt HV9.out.s hg).2 (fun e => by have := HXL.out; have := HU9.out.b1 _ e; have := HV9.out.b1 g hg; omega) (fun e => by have := HXL.out; have := HU9.out.b2 _ e; have := HV9.out.b1 g hg; omega)) (fun g hg => hoth g (own_lt HV9.out.c hg).2 (fun e => by have := HXL.out; have := HU9.out.b1 _ e; have := HV9.out.b2 g hg; omega) (fun e => by have := HXL.out; have := HU9.out.b2 _ e; have := HV9.out.b2 g hg; omega))
  have HU10 : Hid _ := (hoth _ HU9.out.lt (fun e => by have := HU9.out.b1 _ e; omega) (fun e => by have := HU9.out.b2 _ e; omega)).trans HU9.out.row
  have HB10 : Hid (Below w.heap.size w w10) := HB9.out.trans (hb.mono (by have := HXL.out; have := HWX.out; omega))
  have HM1 := hid (m1)
  have HM2 := hid (m2)
  clear m1 m2 hb hz hoth HV9 HU9 HB9 u0 u1 u2 u3 u4 u5 u6 u7
  obtain ⟨u0, u1, u2, u3, u4, u5, u6, u7⟩ := row8 HU10.out
  go_wp2_with fail
  refine (HHD.out _ _ _ _ _ HM1.out HM2.out).mono ?_
  rintro e w11 ⟨rfl, hb⟩
  have HV11 : Hid _ := HV10.out.below hb
  have HU11 : Hid _ := blk8 HU10.out hb
  have HM3 := hid (HM1.out.below hb)
  have HM4 := hid (HM2.out.below hb)
  have HB11 : Hid (Below w.heap.size w w11) := HB10.out.trans (hb.mono HB10.out.size)
  clear hb HV10 HU10 HM1 HM2 HB10 u0 u1 u2 u3 u4 u5 u6 u7
  go_wp2_with fail
  refine (HTO.out _ HB11.out).mono ?_
  rintro e w12 ⟨rfl, ho, hb⟩
  have HV12 : Hid _ := HV11.out.below hb
  have HU12 : Hid _ := blk8 HU11.out hb
  have HM5 := hid (HM3.out.below hb)
  have HM6 := hid (HM4.out.below hb)
  have HB12 : Hid (Below w.heap.size w w12) := HB11.out.trans (hb.mono HB11.out.size)
  have HN12 : Hid _ := (nums_of_own ho).2
  clear hb ho HV11 HU11 HM3 HM4 HB11
  go_wp2_with fail
  refine (HIM.out _ _ HN12.out).mono ?_
  rintro e w13 ⟨f1, f2, i1, i2, rfl, hb, hv⟩
  have hb4 := hb.trans ((Below.refl _ _).alloc hb.size (.cells (line8 C M (.slice f1 M.stk.length i1) (.slice f2 M.cells.length i2)) 30))
  have HV13 : Hid _ := HV12.out.below hb4
  have HU13 : Hid _ := blk8 HU12.out hb4
  have HM7 := hid (HM5.out.below hb4)
  have HM8 := hid (HM6.out.below hb4)
  have HB13 : Hid (Below w.heap.size w _) := HB12.out.trans (hb4.mono HB12.out.size)
  have HH13 : Hid _ := hv
  clear hb hv hb4 HV12 HU12 HM5 HM6 HB12 HN12
  go_upto_region 23 with fail
  generalize w13.alloc (.cells (line8 C M (.slice f1 M.stk.length i1) (.slice f2 M.cells.length i2)) 30) = W13 at *
  generalize w13.heap.size = q2 at *
  obtain ⟨v0, v1, v2, v3, v4, v5, v6, v7⟩ := row8 HV13.out.row
  obtain ⟨h0, h1, h2, h3, h4, h5, h6, h7⟩ := row8 HH13.out.row
  go_wp2_with fail
  refine (HER.out _ _ _ _ _ _ _ _ _ _ _ _ _ HH13.out HV13.out).mono ?_
  rintro e w14 ⟨rfl, hb⟩
  have HU14 : Hid _ := blk8 HU13.out hb
  have HM9 := hid (HM7.out.below hb)
  have HM10 := hid (HM8.out.below hb)
  have HB14 : Hid (Below w.heap.size w w14) := HB13.out.trans (hb.mono HB13.out.size)
  clear hb HV13 HU13 HM7 HM8 HB13 HH13 v0 v1 v2 v3 v4 v5 v6 v7 h0 h1 h2 h3 h4 h5 h6 h7
  obtain ⟨u0, u1, u2, u3, u4, u5, u6, u7⟩ := row8 HU14.out
  go_wp2_with fail
  refine (HHD.out _ _ _ _ _ HM9.out HM10.out).mono ?_
  rintro e w15 ⟨rfl, hb⟩
  have HB15 : Hid (Below w.heap.size w w15) := HB14.out.trans (hb.mono HB14.out.size)
  clear hb HU14 HM9 HM10 HB14 u0 u1 u2 u3 u4 u5 u6 u7
  go_wp2_with fail
  go_ret
  exact ⟨rfl, HB15.out⟩
end Go.Proofs.Ytjofghelenfklaa
