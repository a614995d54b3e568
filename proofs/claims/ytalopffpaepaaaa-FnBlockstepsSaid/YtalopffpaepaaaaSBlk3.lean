/-
  spec.BlockStep.
-/
import Derived.Test.YtalopffpaepaaaaSBlk2
import Derived.Test.YtalopffpaepaaaaBlkH
namespace Go.Proofs.Ytalopffpaepaaaa
open Go.RowKit
set_option linter.unusedVariables false

theorem l6Block_any (op : Int) (a : Option Addr) (zs : List Int) (ca : Nat) (b : Option Addr) (ys : List Int) (cb : Nat) (w : World) (h1 : 1 ≤ op) (h4 : op ≤ 4) (hz : zs.length = bkN op) (hy : ys.length = bkA op) (hw : wordsB zs = true) (ha : Nums w a zs) (hb : Nums w b ys) :
    Calls Try.prog 46 #[.int .i64 op, .slice a zs.length ca, .slice b ys.length cb] w fun e w' => StepR w w' e (blkL op zs ys) := by
  obtain ⟨p1, p2⟩ := bk_pos op
  obtain ⟨w1, w2⟩ := word_at hw (by omega)
  obtain ⟨bk, ok, rfl, hk⟩ := ha.at (by omega)
  obtain ⟨ba, oa, rfl, hq⟩ := hb.at (by omega)
  rw [hz] at hk ⊢
  rw [hy] at hq ⊢
  clear ha hb hw p1 p2 hz hy
  have h : op = 1 ∨ op = 2 ∨ op = 3 ∨ op = 4 := by omega
  rcases h with rfl | rfl | rfl | rfl
  · exact l6Block_1 (zs.getD 0 0) (zs.getD 1 0) (zs.getD 2 0) (ys.getD 0 0) (ys.getD 1 0) (ys.getD 2 0) bk ok ba oa ca cb w w1 w2 (hk 0 (by decide)) (hk 1 (by decide)) (hk 2 (by decide)) (hq 0 (by decide)) (hq 1 (by decide)) (hq 2 (by decide))
  · exact l6Block_2 (zs.getD 0 0) (zs.getD 1 0) (ys.getD 0 0) (ys.getD 1 0) bk ok ba oa ca cb w w1 w2 (hk 0 (by decide)) (hk 1 (by decide)) (hq 0 (by decide)) (hq 1 (by decide))
  · exact l6Block_3 (zs.getD 0 0) (zs.getD 1 0) (ys.getD 0 0) bk ok ba oa ca cb w (hk 0 (by decide)) (hk 1 (by decide)) (hq 0 (by decide))
  · exact l6Block_4 (zs.getD 0 0) (ys.getD 0 0) (ys.getD 1 0) bk ok ba oa ca cb w (hk 0 (by decide)) (hq 0 (by decide)) (hq 1 (by decide))

set_option maxHeartbeats 3200000 in
set_option maxRecDepth 100000 in
theorem specBlk_any (op : Int) (a : Option Addr) (zs : List Int) (ca : Nat) (b : Option Addr) (ys : List Int) (cb : Nat) (w : World) (hs : zs.length ≤ 1048576) (ht : ys.length ≤ 1048576) (ha : Nums w a zs) (hb : Nums w b ys) :
    Calls Try.prog 11 #[.int .i64 op, .slice a zs.length ca, .slice b ys.length cb] w fun e w' => ∃ v, e = .returned (resL (blkC op zs ys) v) ∧ Own w' w.heap.size v (blkV op zs ys) ∧ Below w.heap.size w w' := by
  have hb1 : Below w.heap.size w (w.alloc (.cells #[.int .i64 0, .slice none 0 0] 28)) := (Below.refl _ _).alloc (Nat.le_refl _) _
  have ha1 := ha.below hb1
  have hb2 := hb.below hb1
  clear ha hb hb1
  obtain ⟨q, hq⟩ : ∃ q, inB op 1 4 = q := ⟨_, rfl⟩
  have HI : Hid (∀ w, Calls Try.prog 34 #[.int .i64 op, .int .i64 1, .int .i64 4] w fun e w' => e = .returned (.bool q) ∧ w' = w) := fun w => by have h := l1In_any op 1 4 w; rwa [hq] at h
  cases q with
  | false =>
    have hn := inB_no.1 hq
    have e1 : Hid (blkC op zs ys = 3) := by unfold Hid blkC; rw [if_pos (by omega)]
    have e2 : Hid (blkV op zs ys = []) := by unfold Hid blkV; rw [e1.out, if_neg (by decide)]
    clear hq hn
    go_enter Try.func11, Try.ntmps11
    go_wp2_with fail
    refine (HI.out _).mono ?_
    rintro e w1 ⟨rfl, rfl⟩
    go_wp2_with fail
    go_returns
    refine ⟨_, by rw [e1.out], ?_, by go_grown⟩
    rw [e2.out]
    exact World.ownsRow_nil _ _ _ _
  | true =>
    obtain ⟨h1, h4⟩ := inB_iff.1 hq
    have hC : blkC op zs ys = if fitB op zs ys = false then 1 else 0 := by unfold blkC; rw [if_neg (by omega)]
    have HO : Hid (∀ w, Calls Try.prog 35 #[.int .i64 op] w fun e w' => e = .returned (.int .i64 (bkN op)) ∧ Below w.heap.size w w') := fun w => l6Own_any op w h1 h4
    have HA : Hid (∀ w, Calls Try.prog 37 #[.int .i64 op] w fun e w' => (∃ g, e = .returned (.slice (some ⟨g, 0, none⟩) (bkA op) (bkA op))) ∧ Below w.heap.size w w') := fun w => (l5Args_any op w h1 h4).mono (fun e w' h => by
      obtain ⟨⟨g, he, _, _⟩, hb⟩ := h
      rw [argsL_len] at he
      exact ⟨⟨g, he⟩, hb⟩)
    have HL : Hid (∀ (w : World), Nums w a zs → Calls Try.prog 45 #[.slice a zs.length ca] w fun e w' => e = .returned (.bool (wordsB zs)) ∧ w' = w) := fun w h => l6All_any a zs ca w hs h
    have HL2 : Hid (∀ (w : World), Nums w b ys → Calls Try.prog 45 #[.slice b ys.length cb] w fun e w' => e = .returned (.bool (wordsB ys)) ∧ w' = w) := fun w h => l6All_any b ys cb w ht h
    have HBL : Hid (zs.length = bkN op → ys.length = bkA op → wordsB zs = true → ∀ (w : World), Nums w a zs → Nums w b ys → Calls Try.prog 46 #[.int .i64 op, .slice a zs.length ca, .slice b ys.length cb] w fun e w' => ∃ g, e = .returned (.slice (some ⟨g, 0, none⟩) (bkN op) (bkN op)) ∧ Own w' w.heap.size (.slice (some ⟨g, 0, none⟩) (bkN op) (bkN op)) (blkL op zs ys) ∧ Below w.heap.size w w') := fun e1 e2 e3 w h5 h6 =>
      (l6Block_any op a zs ca b ys cb w h1 h4 e1 e2 e3 h5 h6).mono (fun e w' h => by
        have h := h.own (by rw [blkL_len]; unfold bkN; split; omega; split; omega; split <;> omega)
        rw [blkL_len] at h
        exact ⟨_, h⟩)
    have HCC : Hid (blkC op zs ys = if fitB op zs ys = false then 1 else 0) := hC
    clear hC hq h1 h4
    have hNN : bkN op ≤ 3 ∧ bkA op ≤ 3 := ⟨by unfold bkN; split; omega; split; omega; split <;> omega, by unfold bkA; split; omega; split; omega; split <;> omega⟩
    obtain ⟨hN1, hN2⟩ := hNN
    obtain ⟨N, hN⟩ : ∃ N, N = bkN op := ⟨_, rfl⟩
    obtain ⟨A, hA⟩ : ∃ A, A = bkA op := ⟨_, rfl⟩
    have HFIT : Hid (fitB op zs ys = (decide (zs.length = N) && decide (ys.length = A) && wordsB zs && wordsB ys)) := by unfold Hid fitB; rw [hN, hA]
    rw [← hN] at HO HBL hN1
    rw [← hA] at HA HBL hN2
    clear hN hA
    obtain ⟨q1, hq1⟩ : ∃ q, q = wordsB zs := ⟨_, rfl⟩
    obtain ⟨q2, hq2⟩ : ∃ q, q = wordsB ys := ⟨_, rfl⟩
    rw [← hq1] at HL HBL HFIT
    rw [← hq2] at HL2 HFIT
    clear hq1 hq2
    have HBAD : Hid (fitB op zs ys = false → blkC op zs ys = 1 ∧ blkV op zs ys = []) := fun h => by
      have e1 : blkC op zs ys = 1 := by rw [HCC.out, if_pos h]
      exact ⟨e1, by unfold blkV; rw [e1, if_neg (by decide)]⟩
    by_cases hz : zs.length = N
    case neg =>
      have e1 : ((zs.length : Int) != (N : Int)) = true := by rw [bne_iff_ne]; omega
      have HX := HBAD.out (by rw [HFIT.out, decide_eq_false hz]; rfl)
      obtain ⟨x1, x2⟩ := HX
      have X1 : Hid (blkC op zs ys = 1) := x1
      have X2 : Hid (blkV op zs ys = []) := x2
      clear x1 x2 hz HBL HFIT HBAD HCC
      generalize hZ : zs.length = Z at *
      go_enter Try.func11, Try.ntmps11
      go_wp2_with fail
      refine (HI.out _).mono ?_
      rintro e w1 ⟨rfl, rfl⟩
      go_wp2_with fail
      refine (HO.out _).mono ?_
      rintro e w2 ⟨rfl, hb⟩
      obtain ⟨hc0, hc1, hf0, hf1, hz⟩ := own2 hb
      have HB := back hb
      clear hb ha1 hb2
      go_wp2_with fail
      refine bodyPost_ret (v := resL 1 (.slice none 0 0)) (by simp [results, Try.results11, go_sem, hc0, hc1]) rfl ⟨_, by rw [X1.out], by rw [X2.out]; exact World.ownsRow_nil _ _ _ _, by go_grown⟩
    have e1 : ((zs.length : Int) != (N : Int)) = false := by rw [bne_eq_false_iff_eq]; omega
    by_cases hy : ys.length = A
    case neg =>
      have e2 : ((ys.length : Int) != (A : Int)) = true := by rw [bne_iff_ne]; omega
      have HX := HBAD.out (by rw [HFIT.out, decide_eq_false hy, Bool.and_false]; rfl)
      obtain ⟨x1, x2⟩ := HX
      have X1 : Hid (blkC op zs ys = 1) := x1
      have X2 : Hid (blkV op zs ys = []) := x2
      clear x1 x2 hy hz HBL HFIT HBAD HCC
      generalize hZ : zs.length = Z at *
      generalize hY : ys.length = Y at *
      go_enter Try.func11, Try.ntmps11
      go_wp2_with fail
      refine (HI.out _).mono ?_
      rintro e w1 ⟨rfl, rfl⟩
      go_wp2_with fail
      refine (HO.out _).mono ?_
      rintro e w2 ⟨rfl, hb⟩
      clear ha1 hb2
      have HB1 : Hid _ := hb
      clear hb
      go_wp2_with fail
      refine (HA.out _).mono ?_
      rintro e w3 ⟨⟨g, rfl⟩, hb⟩
      have hb := HB1.out.trans (hb.mono HB1.out.size)
      obtain ⟨hc0, hc1, hf0, hf1, hz⟩ := own2 hb
      have HB := back hb
      clear hb
      go_wp2_with fail
      refine bodyPost_ret (v := resL 1 (.slice none 0 0)) (by simp [results, Try.results11, go_sem, hc0, hc1]) rfl ⟨_, by rw [X1.out], by rw [X2.out]; exact World.ownsRow_nil _ _ _ _, by go_grown⟩
    have e2 : ((ys.length : Int) != (A : Int)) = false := by rw [bne_eq_false_iff_eq]; omega
    have HFIT2 : Hid (fitB op zs ys = (q1 && q2)) := by unfold Hid; rw [HFIT.out, decide_eq_true hz, decide_eq_true hy]; rfl
    have HBL2 : Hid (q1 = true → ∀ (w : World), Nums w a zs → Nums w b ys → Calls Try.prog 46 #[.int .i64 op, .slice a zs.length ca, .slice b ys.length cb] w fun e w' => ∃ g, e = .returned (.slice (some ⟨g, 0, none⟩) N N) ∧ Own w' w.heap.size (.slice (some ⟨g, 0, none⟩) N N) (blkL op zs ys) ∧ Below w.heap.size w w') := HBL.out hz hy
    clear HFIT HBL hz hy
    cases q1 with
    | false =>
      have HX := HBAD.out (by rw [HFIT2.out]; rfl)
      obtain ⟨x1, x2⟩ := HX
      have X1 : Hid (blkC op zs ys = 1) := x1
      have X2 : Hid (blkV op zs ys = []) := x2
      clear x1 x2 HFIT2 HBL2 HBAD HCC
      go_enter Try.func11, Try.ntmps11
      go_wp2_with fail
      refine (HI.out _).mono ?_
      rintro e w1 ⟨rfl, rfl⟩
      go_wp2_with fail
      refine (HO.out _).mono ?_
      rintro e w2 ⟨rfl, hb⟩
      have ha2 := ha1.below hb
      clear ha1 hb2
      have HB1 : Hid _ := hb
      clear hb
      go_wp2_with fail
      refine (HA.out _).mono ?_
      rintro e w3 ⟨⟨g, rfl⟩, hb⟩
      have ha3 := ha2.below hb
      have hb := HB1.out.trans (hb.mono HB1.out.size)
      obtain ⟨hc0, hc1, hf0, hf1, hz⟩ := own2 hb
      have HB := back hb
      clear hb ha2
      go_wp2_with fail
      refine (HL.out _ ha3).mono ?_
      rintro e w4 ⟨rfl, rfl⟩
      go_wp2_with fail
      refine bodyPost_ret (v := resL 1 (.slice none 0 0)) (by simp [results, Try.results11, go_sem, hc0, hc1]) rfl ⟨_, by rw [X1.out], by rw [X2.out]; exact World.ownsRow_nil _ _ _ _, by go_grown⟩
    | true =>
    have HBL3 := HBL2.out rfl
    have HBL4 : Hid _ := HBL3
    clear HBL3 HBL2
    cases q2 with
    | false =>
      have HX := HBAD.out (by rw [HFIT2.out]; rfl)
      obtain ⟨x1, x2⟩ := HX
      have X1 : Hid (blkC op zs ys = 1) := x1
      have X2 : Hid (blkV op zs ys = []) := x2
      clear x1 x2 HFIT2 HBL4 HBAD HCC
      go_enter Try.func11, Try.ntmps11
      go_wp2_with fail
      refine (HI.out _).mono ?_
      rintro e w1 ⟨rfl, rfl⟩
      go_wp2_with fail
      refine (HO.out _).mono ?_
      rintro e w2 ⟨rfl, hb⟩
      have ha2 := ha1.below hb
      have hy2 := hb2.below hb
      clear ha1 hb2
      have HB1 : Hid _ := hb
      clear hb
      go_wp2_with fail
      refine (HA.out _).mono ?_
      rintro e w3 ⟨⟨g, rfl⟩, hb⟩
      have ha3 := ha2.below hb
      have hy3 := hy2.below hb
      have hb := HB1.out.trans (hb.mono HB1.out.size)
      obtain ⟨hc0, hc1, hf0, hf1, hz⟩ := own2 hb
      have HB := back hb
      clear hb ha2 hy2
      go_wp2_with fail
      refine (HL.out _ ha3).mono ?_
      rintro e w4 ⟨rfl, rfl⟩
      go_wp2_with fail
      refine (HL2.out _ hy3).mono ?_
      rintro e w5 ⟨rfl, rfl⟩
      go_wp2_with fail
      refine bodyPost_ret (v := resL 1 (.slice none 0 0)) (by simp [results, Try.results11, go_sem, hc0, hc1]) rfl ⟨_, by rw [X1.out], by rw [X2.out]; exact World.ownsRow_nil _ _ _ _, by go_grown⟩
    | true =>
      have X1 : Hid (blkC op zs ys = 0) := by unfold Hid; rw [HCC.out, HFIT2.out]; rfl
      have X2 : Hid (blkV op zs ys = blkL op zs ys) := by unfold Hid blkV; rw [if_pos X1.out]
      clear HFIT2 HBAD HCC
      go_enter Try.func11, Try.ntmps11
      go_wp2_with fail
      refine (HI.out _).mono ?_
      rintro e w1 ⟨rfl, rfl⟩
      go_wp2_with fail
      refine (HO.out _).mono ?_
      rintro e w2 ⟨rfl, hb⟩
      have ha2 := ha1.below hb
      have hy2 := hb2.below hb
      clear ha1 hb2
      have HB1 : Hid _ := hb
      clear hb
      go_wp2_with fail
      refine (HA.out _).mono ?_
      rintro e w3 ⟨⟨g, rfl⟩, hb⟩
      have ha3 := ha2.below hb
      have hy3 := hy2.below hb
      have hb := HB1.out.trans (hb.mono HB1.out.size)
      have HB3 : Hid _ := hb
      clear hb ha2 hy2
      go_wp2_with fail
      refine (HL.out _ ha3).mono ?_
      rintro e w4 ⟨rfl, rfl⟩
      go_wp2_with fail
      refine (HL2.out _ hy3).mono ?_
      rintro e w5 ⟨rfl, rfl⟩
      go_wp2_with fail
      refine (HBL4.out _ ha3 hy3).mono ?_
      rintro e w6 ⟨g6, rfl, ho6, hb⟩
      have hb := HB3.out.trans (hb.mono HB3.out.size)
      obtain ⟨hc0, hc1, hf0, hf1, hz⟩ := own2 hb
      have HB := back hb
      have hsz := HB3.out.size
      simp at hsz
      have hfin : Own ((w6.setCell ⟨w.heap.size, 0, none⟩ (.int .i64 0)).setCell ⟨w.heap.size, 1, none⟩ (.slice (some ⟨g6, 0, none⟩) N N)) w.heap.size (.slice (some ⟨g6, 0, none⟩) N N) (blkL op zs ys) :=
        own_mono (ownsRow_setCell_below (ownsRow_setCell_below ho6 (a := ⟨w.heap.size, 0, none⟩) (by simp; omega) (.int .i64 0)) (a := ⟨w.heap.size, 1, none⟩) (by simp; omega) _) (by omega)
      have HFIN : Hid _ := hfin
      clear hb ho6 hfin hsz ha3 hy3
      go_wp2_with fail
      refine bodyPost_ret (v := resL 0 (.slice (some ⟨g6, 0, none⟩) N N)) (by simp [results, Try.results11, go_sem, hc0, hc1]) rfl ⟨_, by rw [X1.out], by rw [X2.out]; exact HFIN.out, by go_grown⟩
end Go.Proofs.Ytalopffpaepaaaa
