/-
  The Go function laws.FnExactRunRegs answers true at every input and leaves its arguments as they were. No condition.
-/
import Derived.Test.YtcikofhbfncgdaaRgRun3
namespace Go.Proofs.Ytcikofhbfncgdaa
open Go.RowKit
set_option linter.unusedVariables false

set_option maxHeartbeats 6400000 in
set_option maxRecDepth 100000 in
theorem fnExactRunRegs_walk (a0 : Option Addr) (len0 cap0 : Nat) (z0 : List Int) (a1 : Option Addr) (len1 cap1 : Nat) (z1 : List Int) (i2 : Int) (w : World) (w0 : IsRow .i64 w a0 len0 cap0 z0) (w1 : IsRow .i64 w a1 len1 cap1 z1) (hwf : (Lit.int .i64 i2).wf = true) :
    Calls Try.prog 8 #[.slice a0 len0 cap0, .slice a1 len1 cap1, .int .i64 i2] w fun e w' => e = .returned (.bool true) ∧ Below w.heap.size w w' := by
  obtain ⟨hl, hn⟩ := nums_of_row w0
  obtain ⟨zs, hzs⟩ : ∃ zs, zs = z0.take len0 := ⟨_, rfl⟩
  rw [← hzs] at hl hn
  subst hl
  clear hzs w0
  obtain ⟨hl, hn1⟩ := nums_of_row w1
  obtain ⟨ys, hys⟩ : ∃ ys, ys = z1.take len1 := ⟨_, rfl⟩
  rw [← hys] at hl hn1
  subst hl
  clear hys w1
  by_cases hbig : 1048576 < zs.length
  · go_enter Try.func8, Try.ntmps8
    go_wp2
    go_ret
    exact ⟨rfl, Below.refl _ _⟩
  have hs : zs.length ≤ 1048576 := by omega
  clear hbig
  by_cases hbig : 1048576 < ys.length
  · go_enter Try.func8, Try.ntmps8
    go_wp2
    go_ret
    exact ⟨rfl, Below.refl _ _⟩
  have hs1 : ys.length ≤ 1048576 := by omega
  clear hbig
  obtain ⟨M, hM⟩ := runR_anyG zs ys i2
  obtain ⟨hm1, hm2⟩ := run_smallG hM
  have HTO : Hid (∀ W, Below w.heap.size w W → Calls Try.prog 35 #[.slice a0 zs.length cap0] W fun e w' => e = .returned (.slice (some ⟨W.heap.size, 0, none⟩) zs.length zs.length) ∧ Own w' W.heap.size (.slice (some ⟨W.heap.size, 0, none⟩) zs.length zs.length) zs ∧ Below W.heap.size W w') := fun W h => copy_any a0 zs cap0 W hs (hn.below h)
  have HTY : Hid (∀ W, Below w.heap.size w W → Calls Try.prog 35 #[.slice a1 ys.length cap1] W fun e w' => e = .returned (.slice (some ⟨W.heap.size, 0, none⟩) ys.length ys.length) ∧ Own w' W.heap.size (.slice (some ⟨W.heap.size, 0, none⟩) ys.length ys.length) ys ∧ Below W.heap.size W w') := fun W h => copy_any a1 ys cap1 W hs1 (hn1.below h)
  have HSP : Hid (∀ (g h : Nat) W, Nums W (some ⟨g, 0, none⟩) zs → Nums W (some ⟨h, 0, none⟩) ys → Calls Try.prog 18 #[.slice (some ⟨g, 0, none⟩) zs.length zs.length, .slice (some ⟨h, 0, none⟩) ys.length ys.length, .int .i64 i2] W fun e w' => ResSG W w' e (runRC zs ys i2) M) := fun g h W h1 h2 => (sRun_anyG (some ⟨g, 0, none⟩) zs zs.length (some ⟨h, 0, none⟩) ys ys.length i2 M W h1 hs (Nat.le_refl _) h2 (by intro e; cases e) hs1 hM).mono fun e w' h => h.sG
  have HIM : Hid (∀ (g h B C : Nat) W, Own W B (.slice (some ⟨g, 0, none⟩) zs.length zs.length) zs → Own W C (.slice (some ⟨h, 0, none⟩) ys.length ys.length) ys → Calls Try.prog 17 #[.slice (some ⟨g, 0, none⟩) zs.length zs.length, .slice (some ⟨h, 0, none⟩) ys.length ys.length, .int .i64 i2] W fun e w' => ResSG W w' e (runRC zs ys i2) M) := fun g h B C W h1 h2 => (iRunR_any (some ⟨g, 0, none⟩) zs zs.length (some ⟨h, 0, none⟩) ys ys.length i2 M W (nums_of_own h1).2 (fun b off e => by have k := (own_lt h1 rfl).2; have := Option.some.inj e; have := congrArg Addr.block this; simp at this; omega) (Nat.le_refl _) hs (nums_of_own h2).2 (by intro e; cases e) hs1 hM).mono fun e w' h => h.sG
  clear hM
  generalize runRC zs ys i2 = C at *
  have HEN : Hid (∀ (a b : Option Addr) (W : World), Nums W a zs → Nums W b zs → Calls Try.prog 37 #[.slice a zs.length zs.length, .slice b zs.length zs.length] W fun e w' => e = .returned (.bool true) ∧ Below W.heap.size W w') := fun a b W h1 h2 => eqNums_any a b zs _ _ W (by omega) h1 h2
  have HEY : Hid (∀ (a b : Option Addr) (W : World), Nums W a ys → Nums W b ys → Calls Try.prog 37 #[.slice a ys.length ys.length, .slice b ys.length ys.length] W fun e w' => e = .returned (.bool true) ∧ Below W.heap.size W w') := fun a b W h1 h2 => eqNums_any a b ys _ _ W (by omega) h1 h2
  have HER : Hid (∀ (a1 a2 b1 b2 : Option Addr) (c1 c2 d1 d2 : Nat) (W : World), RowV W (.slice a1 M.stk.length c1) M.stk ∧ RowV W (.slice a2 M.cells.length c2) M.cells → RowV W (.slice b1 M.stk.length d1) M.stk ∧ RowV W (.slice b2 M.cells.length d2) M.cells → Calls Try.prog 36 #[resV C M (.slice a1 M.stk.length c1) (.slice a2 M.cells.length c2), resV C M (.slice b1 M.stk.length d1) (.slice b2 M.cells.length d2)] W fun e w' => e = .returned (.bool true) ∧ Below W.heap.size W w') := fun a1 a2 b1 b2 c1 c2 d1 d2 W h1 h2 => eqRes8_anyG C M _ _ _ _ W h1.1 h1.2 h2.1 h2.2 (by omega) (by omega)
  have HMK : Hid (∀ (W : World) (g : Nat), Own W g (.slice (some ⟨g, 0, none⟩) zs.length zs.length) zs → Calls Try.prog 38 #[.slice (some ⟨g, 0, none⟩) zs.length zs.length, .int .i64 1] W fun e w' => e = .returned (.int .i64 (1 + zs.length)) ∧ Below g W w' ∧ w'.heap.size = W.heap.size ∧ (∀ q, q ≠ g → w'.heap[q]? = W.heap[q]?)) := fun W g h => (mark_any _ zs _ g 1 W hs (by omega) (by omega) h).mono fun e w' h => ⟨h.1, h.2.2.1, h.2.2.2.1, fun q hq => h.2.2.2.2 q (fun e => hq (by have := Option.some.inj e; have := congrArg Addr.block this; exact this.symm))⟩
  have HMY : Hid (∀ (W : World) (g : Nat), Own W g (.slice (some ⟨g, 0, none⟩) ys.length ys.length) ys → Calls Try.prog 38 #[.slice (some ⟨g, 0, none⟩) ys.length ys.length, .int .i64 (1 + zs.length)] W fun e w' => e = .returned (.int .i64 (1 + zs.length + ys.length)) ∧ Below g W w' ∧ w'.heap.size = W.heap.size ∧ (∀ q, q ≠ g → w'.heap[q]? = W.heap[q]?)) := fun W g h => (mark_any _ ys _ g (1 + zs.length) W hs1 (by omega) (by omega) h).mono fun e w' h => ⟨h.1, h.2.2.1, h.2.2.2.1, fun q hq => h.2.2.2.2 q (fun e => hq (by have := Option.some.inj e; have := congrArg Addr.block this; exact this.symm))⟩
  have HMR : Hid (∀ (a1 a2 : Option Addr) (c1 c2 B p : Nat) (W : World), B ≤ W.heap.size → Var8G W B p C M a1 a2 c1 c2 → Calls Try.prog 39 #[resV C M (.slice a1 M.stk.length c1) (.slice a2 M.cells.length c2), .int .i64 1] W fun e w' => e = .returned (.int .i64 (1 + M.stk.length + M.cells.length)) ∧ Marked B W w' 1 a1 a2 M.stk.length M.cells.length) := fun a1 a2 c1 c2 B p W hB h => markRes8_anyG C M a1 a2 c1 c2 B 1 W h.s h.c h.d hB hm1 hm2 (by omega) (by omega)
  have HHD : Hid (∀ (a1 a2 : Option Addr) (c1 c2 : Nat) (W : World), Nums W a1 (marks 1 M.stk.length) → Nums W a2 (marks (1 + M.stk.length) M.cells.length) → Calls Try.prog 40 #[resV C M (.slice a1 M.stk.length c1) (.slice a2 M.cells.length c2), .int .i64 1] W fun e w' => e = .returned (.int .i64 (1 + M.stk.length + M.cells.length)) ∧ Below W.heap.size W w') := fun a1 a2 c1 c2 W h1 h2 => heldRes8_anyG C M a1 a2 _ _ c1 c2 1 W h1 h2 hm1 hm2 (by omega) (by omega)
  have HNN : Hid (0 ≤ (1 : Int) + zs.length + ys.length) := by unfold Hid; omega
  have HNM : Hid (0 ≤ (1 : Int) + M.stk.length + M.cells.length) := by unfold Hid; omega
  clear hn hn1 hm1 hm2
  go_enter Try.func8, Try.ntmps8
  go_wp2_with fail
  refine (HTO.out _ (Below.refl _ _)).mono ?_
  rintro e w1 ⟨rfl, ho1, hb1⟩
  have HN1 := hid (nums_of_own ho1).2
  have HB1 := hid hb1
  clear ho1 hb1
  go_wp2_with fail
  refine (HTY.out _ HB1.out).mono ?_
  rintro e w2 ⟨rfl, ho2, hb2⟩
  have HN2 := hid (HN1.out.below hb2)
  have HY2 := hid (nums_of_own ho2).2
  have HB2 := hid (bel_trG HB1.out hb2)
  clear ho2 hb2 HN1 HB1
  go_wp2_with fail
  refine (HSP.out _ _ _ HN2.out HY2.out).mono ?_
  rintro e w3 ⟨a1, a2, c1, c2, rfl, hb, hv⟩
  have hb3 := hb.trans ((Below.refl _ _).alloc hb.size (.cells (line8 C M (.slice a1 M.stk.length c1) (.slice a2 M.cells.length c2)) 30))
  have HB3 := hid (bel_trG HB2.out hb3)
  have HV3 := hid hv
  have HP : Hid ((w3.alloc (.cells (line8 C M (.slice a1 M.stk.length c1) (.slice a2 M.cells.length c2)) 30)).heap.size = w3.heap.size + 1 ∧ w.heap.size ≤ w3.heap.size) := ⟨by simp, (bel_trG HB2.out hb).size⟩
  clear hb hv hb3 HB2 HN2 HY2 HSP
  go_upto_region 6 with fail
  generalize w3.alloc (.cells (line8 C M (.slice a1 M.stk.length c1) (.slice a2 M.cells.length c2)) 30) = W3 at *
  generalize w3.heap.size = p at *
  generalize w2.heap.size = B at *
  go_wp2_with fail
  refine (HTO.out _ HB3.out).mono ?_
  rintro e w4 ⟨rfl, ho4, hb⟩
  have HV4 := hid (HV3.out.below hb)
  have HB4 := hid (bel_trG HB3.out hb)
  have HX4 := hid ho4
  have HL4 : Hid (w.heap.size ≤ p ∧ p < W3.heap.size ∧ W3.heap.size < w4.heap.size) := ⟨HP.out.2, by have := HP.out.1; omega, (own_lt ho4 rfl).2⟩
  clear ho4 hb HV3 HB3 HP
  generalize W3.heap.size = x at *
  go_wp2_with fail
  refine (HTY.out _ HB4.out).mono ?_
  rintro e w5 ⟨rfl, ho5, hb⟩
  have HW5 : Hid (RunWG w w5 zs ys C M B p x w4.heap.size a1 a2 c1 c2) := ⟨HV4.out.below hb, own_kept HX4.out hb, ho5, bel_trG HB4.out hb, HL4.out.1, HL4.out.2.1, HL4.out.2.2, (own_lt ho5 rfl).2⟩
  clear ho5 hb HV4 HB4 HX4 HL4
  generalize w4.heap.size = y at *
  go_wp2_with fail
  refine (HIM.out _ _ _ _ _ HW5.out.xo HW5.out.yo).mono ?_
  rintro e w6 ⟨b1, b2, d1, d2, rfl, hb, hv⟩
  have hb6 := hb.trans ((Below.refl _ _).alloc hb.size (.cells (line8 C M (.slice b1 M.stk.length d1) (.slice b2 M.cells.length d2)) 30))
  have HW6 := hid (HW5.out.below hb6)
  have HU6 := hid hv
  have HQ : Hid (y < w5.heap.size ∧ w5.heap.size ≤ w6.heap.size) := ⟨HW5.out.l.2.2.2, hb.size⟩
  clear hb hv hb6 HW5
  go_upto_region 9 with fail
  generalize w6.alloc (.cells (line8 C M (.slice b1 M.stk.length d1) (.slice b2 M.cells.length d2)) 30) = W6 at *
  generalize w6.heap.size = q at *
  generalize w5.heap.size = D at *
  obtain ⟨v0, v1, v2, v3, v4, v5, v6, v7⟩ := row8 HW6.out.v.row
  obtain ⟨u0, u1, u2, u3, u4, u5, u6, u7⟩ := row8 HU6.out.row
  go_wp2_with fail
  refine (HER.out _ _ _ _ _ _ _ _ _ HU6.out.rows HW6.out.v.rows).mono ?_
  rintro e w7 ⟨rfl, hb⟩
  have HW7 := hid (HW6.out.below hb)
  have HU7 := hid (HU6.out.below hb)
  clear hb HW6 HU6 v0 v1 v2 v3 v4 v5 v6 v7 u0 u1 u2 u3 u4 u5 u6 u7
  go_wp2_with fail
  refine (HTO.out _ HW7.out.b).mono ?_
  rintro e w8 ⟨rfl, ho, hb⟩
  have HW8 := hid (HW7.out.below hb)
  have HU8 := hid (HU7.out.below hb)
  have HN8 := hid (nums_of_own ho).2
  clear hb ho HW7 HU7
  go_wp2_with fail
  refine (HEN.out _ _ _ (nums_of_own HW8.out.xo).2 HN8.out).mono ?_
  rintro e w9 ⟨rfl, hb⟩
  have HW9 := hid (HW8.out.below hb)
  have HU9 := hid (HU8.out.below hb)
  clear hb HW8 HU8 HN8 HEN
  go_wp2_with fail
  refine (HTY.out _ HW9.out.b).mono ?_
  rintro e w10 ⟨rfl, ho, hb⟩
  have HW10 := hid (HW9.out.below hb)
  have HU10 := hid (HU9.out.below hb)
  have HN10 := hid (nums_of_own ho).2
  clear hb ho HW9 HU9
  go_wp2_with fail
  refine (HEY.out _ _ _ (nums_of_own HW10.out.yo).2 HN10.out).mono ?_
  rintro e w11 ⟨rfl, hb⟩
  have HW11 := hid (HW10.out.below hb)
  have HU11 := hid (HU10.out.below hb)
  clear hb HW10 HU10 HN10 HEY
  go_wp2_with fail
  refine (HMK.out _ _ HW11.out.xo).mono ?_
  rintro e w12 ⟨rfl, hb, hz, hoth⟩
  have HL : Hid (p < x ∧ x < y ∧ y < D) := ⟨HW11.out.l.2.1, HW11.out.l.2.2.1, HQ.out.1⟩
  have HZ11 : Hid (RunZG w w11 C M B p D q a1 a2 b1 b2 c1 c2 d1 d2) := ⟨HW11.out.v, HU11.out, HW11.out.b, HW11.out.l.1, by have := HL.out; omega, HQ.out.2, HU11.out.lt⟩
  have HZ12 := hid (HZ11.out.but x (by have := HL.out; omega) hb hz hoth)
  have HY12 := hid (own_other HW11.out.yo (w' := w12) (fun g hg => hoth g (by have := own_at HW11.out.yo hg; have := Option.some.inj this; have := congrArg Addr.block this; simp at this; have := HL.out; omega)))
  clear hb hz hoth HW11 HU11 HZ11 HQ HMK
  go_wp2_with fail
  refine (HMY.out _ _ HY12.out).mono ?_
  rintro e w13 ⟨rfl, hb, hz, hoth⟩
  have HZ13 := hid (HZ12.out.but y (by have := HL.out; omega) hb hz hoth)
  clear hb hz hoth HZ12 HY12 HMY HL
  obtain ⟨v0, v1, v2, v3, v4, v5, v6, v7⟩ := row8 HZ13.out.v.row
  obtain ⟨u0, u1, u2, u3, u4, u5, u6, u7⟩ := row8 HZ13.out.u.row
  have hkd : decide ((1 : Int) + zs.length + ys.length < 0) = false := decide_eq_false (by have := HNN.out; omega)
  go_wp2_with fail
  refine (HER.out _ _ _ _ _ _ _ _ _ HZ13.out.u.rows HZ13.out.v.rows).mono ?_
  rintro e w14 ⟨rfl, hb⟩
  have HZ14 := hid (HZ13.out.below hb)
  clear hb hkd HZ13 v0 v1 v2 v3 v4 v5 v6 v7 u0 u1 u2 u3 u4 u5 u6 u7
  obtain ⟨u0, u1, u2, u3, u4, u5, u6, u7⟩ := row8 HZ14.out.u.row
  go_wp2_with fail
  refine (HMR.out _ _ _ _ _ _ _ (by have := HZ14.out.l; omega) HZ14.out.u).mono ?_
  rintro e w15 ⟨rfl, hm⟩
  have HN15 := hid (HZ14.out.marked hm)
  clear hm HZ14 HMR u0 u1 u2 u3 u4 u5 u6 u7
  obtain ⟨u0, u1, u2, u3, u4, u5, u6, u7⟩ := row8 HN15.out.u
  go_wp2_with fail
  refine (HHD.out _ _ _ _ _ HN15.out.n1 HN15.out.n2).mono ?_
  rintro e w16 ⟨rfl, hb⟩
  have HN16 := hid (HN15.out.below hb)
  clear hb HN15 u0 u1 u2 u3 u4 u5 u6 u7
  have hkd : decide ((1 : Int) + M.stk.length + M.cells.length < 0) = false := decide_eq_false (by have := HNM.out; omega)
  go_upto_region 28 with fail
  clear hkd
  go_wp2_with fail
  refine (HTO.out _ HN16.out.b).mono ?_
  rintro e w17 ⟨rfl, ho, hb⟩
  have HN17 := hid (HN16.out.below hb)
  have HX17 := hid ho
  clear hb ho HN16
  go_wp2_with fail
  refine (HTY.out _ HN17.out.b).mono ?_
  rintro e w18 ⟨rfl, ho, hb⟩
  have HN18 := hid (HN17.out.below hb)
  have HX18 := hid (own_kept HX17.out hb)
  have HY18 := hid ho
  clear hb ho HN17 HX17
  go_wp2_with fail
  refine (HIM.out _ _ _ _ _ HX18.out HY18.out).mono ?_
  rintro e w19 ⟨f1, f2, i1, i3, rfl, hb, hv⟩
  have hb19 := hb.trans ((Below.refl _ _).alloc hb.size (.cells (line8 C M (.slice f1 M.stk.length i1) (.slice f2 M.cells.length i3)) 30))
  have HN19 := hid (HN18.out.below hb19)
  have HH19 := hid hv
  clear hb hv hb19 HN18 HX18 HY18
  go_upto_region 29 with fail
  generalize w19.alloc (.cells (line8 C M (.slice f1 M.stk.length i1) (.slice f2 M.cells.length i3)) 30) = W19 at *
  generalize w19.heap.size = q2 at *
  obtain ⟨v0, v1, v2, v3, v4, v5, v6, v7⟩ := row8 HN19.out.v.row
  obtain ⟨h0, h1, h2, h3, h4, h5, h6, h7⟩ := row8 HH19.out.row
  go_wp2_with fail
  refine (HER.out _ _ _ _ _ _ _ _ _ HH19.out.rows HN19.out.v.rows).mono ?_
  rintro e w20 ⟨rfl, hb⟩
  have HN20 := hid (HN19.out.below hb)
  clear hb HN19 HH19 v0 v1 v2 v3 v4 v5 v6 v7 h0 h1 h2 h3 h4 h5 h6 h7
  obtain ⟨u0, u1, u2, u3, u4, u5, u6, u7⟩ := row8 HN20.out.u
  go_wp2_with fail
  refine (HHD.out _ _ _ _ _ HN20.out.n1 HN20.out.n2).mono ?_
  rintro e w21 ⟨rfl, hb⟩
  have HB21 := hid (HN20.out.below hb).b
  clear hb HN20 u0 u1 u2 u3 u4 u5 u6 u7
  go_wp2_with fail
  go_ret
  exact ⟨rfl, HB21.out⟩
end Go.Proofs.Ytcikofhbfncgdaa
