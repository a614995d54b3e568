/-
  impl.BlockStep.
-/
import Derived.Test.YtalopffpaepaaaaBlkH
import Derived.Test.YtalopffpaepaaaaIBlk1
import Derived.Laws.EntriesVeiled
namespace Go.Proofs.Ytalopffpaepaaaa
open Go.RowKit
set_option linter.unusedVariables false

abbrev stepF (k : Nat) : Value := .func (.func k) #[] #[]
abbrev stepT : Value := .agg #[.nilFunc, stepF 41, stepF 42, stepF 43, stepF 44]

set_option maxHeartbeats 800000 in
theorem iwithin (z a b : Int) (w : World) : Calls Try.prog 38 #[.int .i64 z, .int .i64 a, .int .i64 b] w fun e w' => e = .returned (.bool (inB z a b)) ∧ w' = w := by
  by_cases h1 : a ≤ z
  · by_cases h2 : z ≤ b
    · have e : inB z a b = true := inB_iff.2 ⟨h1, h2⟩
      rw [e]
      go_enter Try.func38, Try.ntmps38
      go_wp2
      go_ret
      exact ⟨rfl, rfl⟩
    · have e : inB z a b = false := inB_no.2 (fun h => h2 h.2)
      rw [e]
      go_enter Try.func38, Try.ntmps38
      go_wp2
      go_ret
      exact ⟨rfl, rfl⟩
  · have e : inB z a b = false := inB_no.2 (fun h => h1 h.1)
    rw [e]
    go_enter Try.func38, Try.ntmps38
    go_wp2
    go_ret
    exact ⟨rfl, rfl⟩

set_option maxHeartbeats 3200000 in
set_option maxRecDepth 100000 in
theorem implBlk_any (op : Int) (a : Option Addr) (zs : List Int) (ca : Nat) (b : Option Addr) (ys : List Int) (cb : Nat) (w : World) (hs : zs.length ≤ 1048576) (ht : ys.length ≤ 1048576) (ha : Nums w a zs) (hb : Nums w b ys) :
    Calls Try.prog 10 #[.int .i64 op, .slice a zs.length ca, .slice b ys.length cb] w fun e w' => ∃ v, e = .returned (resL (blkC op zs ys) v) ∧ Own w' w.heap.size v (blkV op zs ys) ∧ Below w.heap.size w w' := by
  have hb1 : Below w.heap.size w (w.alloc (.cells #[.int .i64 0, .slice none 0 0] 28)) := (Below.refl _ _).alloc (Nat.le_refl _) _
  have ha1 := ha.below hb1
  have hb2 := hb.below hb1
  clear ha hb hb1
  obtain ⟨q, hq⟩ : ∃ q, inB op 1 4 = q := ⟨_, rfl⟩
  have HI : Hid (∀ w, Calls Try.prog 38 #[.int .i64 op, .int .i64 1, .int .i64 4] w fun e w' => e = .returned (.bool q) ∧ w' = w) := fun w => by have h := iwithin op 1 4 w; rwa [hq] at h
  cases q with
  | false =>
    have hn := inB_no.1 hq
    have e1 : Hid (blkC op zs ys = 3) := by unfold Hid blkC; rw [if_pos (by omega)]
    have e2 : Hid (blkV op zs ys = []) := by unfold Hid blkV; rw [e1.out, if_neg (by decide)]
    clear hq hn
    go_enter Try.func10, Try.ntmps10
    go_wp2_with fail
    refine (HI.out _).mono ?_
    rintro e w1 ⟨rfl, rfl⟩
    go_wp2_with fail
    go_returns
    refine ⟨_, by rw [e1.out], ?_, by go_grown⟩
    rw [e2.out]
    exact World.ownsRow_nil _ _ _ _
  | true =>
    obtain ⟨h1, h4⟩ := inB_iff.1 hq
    have hC : blkC op zs ys = if fitB op zs ys = false then 1 else 0 := by unfold blkC; rw [if_neg (by omega)]
    have HO : Hid (∀ w, Calls Try.prog 39 #[.int .i64 op] w fun e w' => (∃ g a2 c2, e = .returned (.agg #[.slice (some ⟨g, 0, none⟩) (bkN op) (bkN op), .slice a2 (bkA op) c2])) ∧ Below w.heap.size w w') := fun w => (blockOf_any op h1 h4 w).mono (fun e w' h => by
      obtain ⟨⟨g, v2, he, _, _, hi⟩, hb⟩ := h
      obtain ⟨a2, c2, e2, _⟩ := hi
      rw [bkOf_len] at he
      rw [argsL_len] at e2
      subst e2
      exact ⟨⟨g, a2, c2, he⟩, hb⟩)
    have hNN : bkN op ≤ 3 ∧ bkA op ≤ 3 := ⟨by unfold bkN; split; omega; split; omega; split <;> omega, by unfold bkA; split; omega; split; omega; split <;> omega⟩
    obtain ⟨hN1, hN2⟩ := hNN
    have HL : Hid (∀ (w : World), Nums w a zs → Calls Try.prog 40 #[.slice a zs.length ca, .int .i64 (bkN op)] w fun e w' => e = .returned (.bool (decide (zs.length = bkN op) && wordsB zs)) ∧ Below w.heap.size w w') := fun w h => areWords_any a zs ca (bkN op) w hs hN1 h
    have HL2 : Hid (∀ (w : World), Nums w b ys → Calls Try.prog 40 #[.slice b ys.length cb, .int .i64 (bkA op)] w fun e w' => e = .returned (.bool (decide (ys.length = bkA op) && wordsB ys)) ∧ Below w.heap.size w w') := fun w h => areWords_any b ys cb (bkA op) w ht hN2 h
    have HCC : Hid (blkC op zs ys = if fitB op zs ys = false then 1 else 0) := hC
    have HBAD : Hid (fitB op zs ys = false → blkC op zs ys = 1 ∧ blkV op zs ys = []) := fun h => by
      have e1 : blkC op zs ys = 1 := by rw [HCC.out, if_pos h]
      exact ⟨e1, by unfold blkV; rw [e1, if_neg (by decide)]⟩
    have HFIT : Hid (fitB op zs ys = ((decide (zs.length = bkN op) && wordsB zs) && (decide (ys.length = bkA op) && wordsB ys))) := by
      unfold Hid fitB
      cases decide (zs.length = bkN op) <;> cases decide (ys.length = bkA op) <;> cases wordsB zs <;> cases wordsB ys <;> rfl
    clear hC
    obtain ⟨q1, hq1⟩ : ∃ q, q = (decide (zs.length = bkN op) && wordsB zs) := ⟨_, rfl⟩
    obtain ⟨q2, hq2⟩ : ∃ q, q = (decide (ys.length = bkA op) && wordsB ys) := ⟨_, rfl⟩
    rw [← hq1] at HL HFIT
    rw [← hq2] at HL2 HFIT
    cases q1 with
    | false =>
      have HX := HBAD.out (by rw [HFIT.out]; rfl)
      obtain ⟨x1, x2⟩ := HX
      have X1 : Hid (blkC op zs ys = 1) := x1
      have X2 : Hid (blkV op zs ys = []) := x2
      clear x1 x2 HFIT HBAD HCC hq1 hq2 h1 h4 hq
      generalize bkN op = N at *
      generalize bkA op = A at *
      go_enter Try.func10, Try.ntmps10
      go_wp2_with fail
      refine (HI.out _).mono ?_
      rintro e w1 ⟨rfl, rfl⟩
      go_wp2_with fail
      refine (HO.out _).mono ?_
      rintro e w2 ⟨⟨g, a2, c2, rfl⟩, hb⟩
      have hb5 := (Below.refl w2.heap.size w2).alloc (Nat.le_refl _) (.cells #[.slice (some ⟨g, 0, none⟩) N N, .slice a2 A c2] 66)
      have ha3 := (ha1.below hb).below hb5
      have hy3 := (hb2.below hb).below hb5
      have HB6 := hid (hb.trans (hb5.mono hb.size))
      have HBK := hid (heap_alloc_new w2 (.cells #[.slice (some ⟨g, 0, none⟩) N N, .slice a2 A c2] 66))
      clear hb ha1 hb2 hb5
      go_wp2_with fail
      refine (HL.out _ ha3).mono ?_
      rintro e w4 ⟨rfl, hb4⟩
      obtain ⟨-, k1⟩ := cl2 ((hb4.block w2.heap.size (by simp)).trans HBK.out)
      have hy4 := hy3.below hb4
      have hb7 := HB6.out.trans (hb4.mono HB6.out.size)
      clear hb4 ha3 hy3 HB6 HBK
      obtain ⟨hc0, hc1, hf0, hf1, hz⟩ := own2 hb7
      have HB := back hb7
      clear hb7 k1 hy4
      go_wp2_with fail
      refine bodyPost_ret (v := resL 1 (.slice none 0 0)) (by simp [results, Try.results10, go_sem, hc0, hc1]) rfl ⟨_, by rw [X1.out], by rw [X2.out]; exact World.ownsRow_nil _ _ _ _, by go_grown⟩
    | true =>
    cases q2 with
    | false =>
      have HX := HBAD.out (by rw [HFIT.out]; rfl)
      obtain ⟨x1, x2⟩ := HX
      have X1 : Hid (blkC op zs ys = 1) := x1
      have X2 : Hid (blkV op zs ys = []) := x2
      clear x1 x2 HFIT HBAD HCC hq1 hq2 h1 h4 hq
      generalize bkN op = N at *
      generalize bkA op = A at *
      go_enter Try.func10, Try.ntmps10
      go_wp2_with fail
      refine (HI.out _).mono ?_
      rintro e w1 ⟨rfl, rfl⟩
      go_wp2_with fail
      refine (HO.out _).mono ?_
      rintro e w2 ⟨⟨g, a2, c2, rfl⟩, hb⟩
      have hb5 := (Below.refl w2.heap.size w2).alloc (Nat.le_refl _) (.cells #[.slice (some ⟨g, 0, none⟩) N N, .slice a2 A c2] 66)
      have ha3 := (ha1.below hb).below hb5
      have hy3 := (hb2.below hb).below hb5
      have HB6 := hid (hb.trans (hb5.mono hb.size))
      have HBK := hid (heap_alloc_new w2 (.cells #[.slice (some ⟨g, 0, none⟩) N N, .slice a2 A c2] 66))
      clear hb ha1 hb2 hb5
      go_wp2_with fail
      refine (HL.out _ ha3).mono ?_
      rintro e w4 ⟨rfl, hb4⟩
      obtain ⟨-, k1⟩ := cl2 ((hb4.block w2.heap.size (by simp)).trans HBK.out)
      have hy4 := hy3.below hb4
      have hb7 := HB6.out.trans (hb4.mono HB6.out.size)
      clear hb4 ha3 hy3 HB6 HBK
      have HB7 := hid hb7
      clear hb7
      go_wp2_with fail
      refine (HL2.out _ hy4).mono ?_
      rintro e w5 ⟨rfl, hb5⟩
      have hb8 := HB7.out.trans (hb5.mono HB7.out.size)
      obtain ⟨hc0, hc1, hf0, hf1, hz⟩ := own2 hb8
      have HB := back hb8
      clear hb5 hb8 HB7 k1
      go_wp2_with fail
      refine bodyPost_ret (v := resL 1 (.slice none 0 0)) (by simp [results, Try.results10, go_sem, hc0, hc1]) rfl ⟨_, by rw [X1.out], by rw [X2.out]; exact World.ownsRow_nil _ _ _ _, by go_grown⟩
    | true =>
      have X1 : Hid (blkC op zs ys = 0) := by unfold Hid; rw [HCC.out, HFIT.out]; rfl
      have X2 : Hid (blkV op zs ys = blkL op zs ys) := by unfold Hid blkV; rw [if_pos X1.out]
      clear HFIT HBAD HCC hq
      have g1 : zs.length = bkN op ∧ wordsB zs = true := by
        have h := hq1.symm
        rw [Bool.and_eq_true] at h
        exact ⟨of_decide_eq_true h.1, h.2⟩
      have g2 : ys.length = bkA op := by
        have h := hq2.symm
        rw [Bool.and_eq_true] at h
        exact of_decide_eq_true h.1
      obtain ⟨g1, gw⟩ := g1
      clear hq1 hq2
      obtain ⟨p1, p2⟩ := bk_pos op
      obtain ⟨kw1, kw2⟩ := word_at gw (by omega)
      have HG1 : Hid (zs.length = bkN op) := g1
      have HG2 : Hid (ys.length = bkA op) := g2
      have HKW : Hid (0 ≤ zs.getD 0 0 ∧ zs.getD 0 0 ≤ 65535) := ⟨kw1, kw2⟩
      clear gw p1 p2 kw1 kw2 g1 g2 hs ht
      have h : op = 1 ∨ op = 2 ∨ op = 3 ∨ op = 4 := by omega
      clear h1 h4
      rcases h with rfl | rfl | rfl | rfl
      · have hz3 : zs.length = 3 := HG1.out
        have hy3 : ys.length = 3 := HG2.out
        rw [hz3] at HL ⊢
        rw [hy3] at HL2 ⊢
        have HST : Hid (∀ (w' : World), Nums w' a zs → Nums w' b ys → Calls Try.prog 41 #[.slice a 3 ca, .slice b 3 cb] w' fun e w2 => (e = .returned (.slice (some ⟨w'.heap.size, 0, none⟩) 3 3) ∧ Own w2 w'.heap.size (.slice (some ⟨w'.heap.size, 0, none⟩) 3 3) (blkL 1 zs ys) ∧ Below w'.heap.size w' w2)) := fun w' ha hb => by
          obtain ⟨bk, ok, rfl, hk⟩ := ha.at (by omega)
          obtain ⟨ba, oa, rfl, hq⟩ := hb.at (by omega)
          rw [hz3] at hk
          rw [hy3] at hq
          exact (stepCtu_any (zs.getD 0 0) (zs.getD 1 0) (zs.getD 2 0) (ys.getD 0 0) (ys.getD 1 0) (ys.getD 2 0) bk ok ba oa ca cb w' HKW.out.1 HKW.out.2 (hk 0 (by decide)) (hk 1 (by decide)) (hk 2 (by decide)) (hq 0 (by decide)) (hq 1 (by decide)) (hq 2 (by decide))).mono (fun e w2 h => StepR.own (zs := blkL 1 zs ys) h (by rw [blkL_len]; decide))
        clear hz3 hy3 HG1 HG2 HKW
        go_enter Try.func10, Try.ntmps10
        go_wp2_with fail
        refine (HI.out _).mono ?_
        rintro e w1 ⟨rfl, rfl⟩
        go_wp2_with fail
        refine (HO.out _).mono ?_
        rintro e w2 ⟨⟨g, a2, c2, rfl⟩, hb⟩
        have hb5 := (Below.refl w2.heap.size w2).alloc (Nat.le_refl _) (.cells #[.slice (some ⟨g, 0, none⟩) (bkN 1) (bkN 1), .slice a2 (bkA 1) c2] 66)
        have hb6 := hb.trans (hb5.mono hb.size)
        have HB6 : Hid _ := hb6
        have HBK := hid (heap_alloc_new w2 (.cells #[.slice (some ⟨g, 0, none⟩) (bkN 1) (bkN 1), .slice a2 (bkA 1) c2] 66))
        have ha3 := ha1.below hb6
        have hy3 := hb2.below hb6
        clear hb hb5 hb6 ha1 hb2
        go_wp2_with fail
        refine (HL.out _ ha3).mono ?_
        rintro e w4 ⟨rfl, hb4⟩
        obtain ⟨-, k1⟩ := cl2 ((hb4.block w2.heap.size (by simp)).trans HBK.out)
        have ha4 := ha3.below hb4
        have hy4 := hy3.below hb4
        have HB7 := hid (HB6.out.trans (hb4.mono HB6.out.size))
        clear hb4 ha3 hy3 HB6 HBK
        go_wp2_with fail
        refine (HL2.out _ hy4).mono ?_
        rintro e w5 ⟨rfl, hb5⟩
        have ha5 := ha4.below hb5
        have hy5 := hy4.below hb5
        have HB8 := hid (HB7.out.trans (hb5.mono HB7.out.size))
        clear hb5 ha4 hy4 HB7 k1
        go_wp2_with fail
        refine (HST.out _ (ha5.below ((Below.refl _ _).alloc (Nat.le_refl _) _)) (hy5.below ((Below.refl _ _).alloc (Nat.le_refl _) _))).mono ?_
        rintro e w6 ⟨rfl, ho6, hb⟩
        have hb7 := HB8.out.trans (Below.mono (((Below.refl _ _).alloc (Nat.le_refl _) _).trans (Below.mono hb (by simp))) HB8.out.size)
        obtain ⟨hc0, hc1, hf0, hf1, hz⟩ := own2 hb7
        have HB := back hb7
        have hsz := HB8.out.size
        simp at hsz ho6
        have hfin : Own ((w6.setCell ⟨w.heap.size, 0, none⟩ (.int .i64 0)).setCell ⟨w.heap.size, 1, none⟩ (.slice (some ⟨w5.heap.size + 1, 0, none⟩) 3 3)) w.heap.size (.slice (some ⟨w5.heap.size + 1, 0, none⟩) 3 3) (blkL 1 zs ys) :=
          own_mono (ownsRow_setCell_below (ownsRow_setCell_below ho6 (a := ⟨w.heap.size, 0, none⟩) (by simp; omega) (.int .i64 0)) (a := ⟨w.heap.size, 1, none⟩) (by simp; omega) _) (by omega)
        have HFIN : Hid _ := hfin
        clear hb ho6 hfin hsz ha5 hy5 hb7
        go_wp2_with fail
        refine bodyPost_ret (v := resL 0 (.slice (some ⟨w5.heap.size + 1, 0, none⟩) 3 3)) (by simp [results, Try.results10, go_sem, hc0, hc1]) rfl ⟨_, by rw [X1.out], by rw [X2.out]; exact HFIN.out, by go_grown⟩
      · have hz3 : zs.length = 2 := HG1.out
        have hy3 : ys.length = 2 := HG2.out
        rw [hz3] at HL ⊢
        rw [hy3] at HL2 ⊢
        have HST : Hid (∀ (w' : World), Nums w' a zs → Nums w' b ys → Calls Try.prog 42 #[.slice a 2 ca, .slice b 2 cb] w' fun e w2 => (e = .returned (.slice (some ⟨w'.heap.size, 0, none⟩) 2 2) ∧ Own w2 w'.heap.size (.slice (some ⟨w'.heap.size, 0, none⟩) 2 2) (blkL 2 zs ys) ∧ Below w'.heap.size w' w2)) := fun w' ha hb => by
          obtain ⟨bk, ok, rfl, hk⟩ := ha.at (by omega)
          obtain ⟨ba, oa, rfl, hq⟩ := hb.at (by omega)
          rw [hz3] at hk
          rw [hy3] at hq
          exact (stepTon_any (zs.getD 0 0) (zs.getD 1 0) (ys.getD 0 0) (ys.getD 1 0) bk ok ba oa ca cb w' HKW.out.1 HKW.out.2 (hk 0 (by decide)) (hk 1 (by decide)) (hq 0 (by decide)) (hq 1 (by decide))).mono (fun e w2 h => StepR.own (zs := blkL 2 zs ys) h (by rw [blkL_len]; decide))
        clear hz3 hy3 HG1 HG2 HKW
        go_enter Try.func10, Try.ntmps10
        go_wp2_with fail
        refine (HI.out _).mono ?_
        rintro e w1 ⟨rfl, rfl⟩
        go_wp2_with fail
        refine (HO.out _).mono ?_
        rintro e w2 ⟨⟨g, a2, c2, rfl⟩, hb⟩
        have hb5 := (Below.refl w2.heap.size w2).alloc (Nat.le_refl _) (.cells #[.slice (some ⟨g, 0, none⟩) (bkN 2) (bkN 2), .slice a2 (bkA 2) c2] 66)
        have hb6 := hb.trans (hb5.mono hb.size)
        have HB6 : Hid _ := hb6
        have HBK := hid (heap_alloc_new w2 (.cells #[.slice (some ⟨g, 0, none⟩) (bkN 2) (bkN 2), .slice a2 (bkA 2) c2] 66))
        have ha3 := ha1.below hb6
        have hy3 := hb2.below hb6
        clear hb hb5 hb6 ha1 hb2
        go_wp2_with fail
        refine (HL.out _ ha3).mono ?_
        rintro e w4 ⟨rfl, hb4⟩
        obtain ⟨-, k1⟩ := cl2 ((hb4.block w2.heap.size (by simp)).trans HBK.out)
        have ha4 := ha3.below hb4
        have hy4 := hy3.below hb4
        have HB7 := hid (HB6.out.trans (hb4.mono HB6.out.size))
        clear hb4 ha3 hy3 HB6 HBK
        go_wp2_with fail
        refine (HL2.out _ hy4).mono ?_
        rintro e w5 ⟨rfl, hb5⟩
        have ha5 := ha4.below hb5
        have hy5 := hy4.below hb5
        have HB8 := hid (HB7.out.trans (hb5.mono HB7.out.size))
        clear hb5 ha4 hy4 HB7 k1
        go_wp2_with fail
        refine (HST.out _ (ha5.below ((Below.refl _ _).alloc (Nat.le_refl _) _)) (hy5.below ((Below.refl _ _).alloc (Nat.le_refl _) _))).mono ?_
        rintro e w6 ⟨rfl, ho6, hb⟩
        have hb7 := HB8.out.trans (Below.mono (((Below.refl _ _).alloc (Nat.le_refl _) _).trans (Below.mono hb (by simp))) HB8.out.size)
        obtain ⟨hc0, hc1, hf0, hf1, hz⟩ := own2 hb7
        have HB := back hb7
        have hsz := HB8.out.size
        simp at hsz ho6
        have hfin : Own ((w6.setCell ⟨w.heap.size, 0, none⟩ (.int .i64 0)).setCell ⟨w.heap.size, 1, none⟩ (.slice (some ⟨w5.heap.size + 1, 0, none⟩) 2 2)) w.heap.size (.slice (some ⟨w5.heap.size + 1, 0, none⟩) 2 2) (blkL 2 zs ys) :=
          own_mono (ownsRow_setCell_below (ownsRow_setCell_below ho6 (a := ⟨w.heap.size, 0, none⟩) (by simp; omega) (.int .i64 0)) (a := ⟨w.heap.size, 1, none⟩) (by simp; omega) _) (by omega)
        have HFIN : Hid _ := hfin
        clear hb ho6 hfin hsz ha5 hy5 hb7
        go_wp2_with fail
        refine bodyPost_ret (v := resL 0 (.slice (some ⟨w5.heap.size + 1, 0, none⟩) 2 2)) (by simp [results, Try.results10, go_sem, hc0, hc1]) rfl ⟨_, by rw [X1.out], by rw [X2.out]; exact HFIN.out, by go_grown⟩
      · have hz3 : zs.length = 2 := HG1.out
        have hy3 : ys.length = 1 := HG2.out
        rw [hz3] at HL ⊢
        rw [hy3] at HL2 ⊢
        have HST : Hid (∀ (w' : World), Nums w' a zs → Nums w' b ys → Calls Try.prog 43 #[.slice a 2 ca, .slice b 1 cb] w' fun e w2 => (e = .returned (.slice (some ⟨w'.heap.size, 0, none⟩) 2 2) ∧ Own w2 w'.heap.size (.slice (some ⟨w'.heap.size, 0, none⟩) 2 2) (blkL 3 zs ys) ∧ Below w'.heap.size w' w2)) := fun w' ha hb => by
          obtain ⟨bk, ok, rfl, hk⟩ := ha.at (by omega)
          obtain ⟨ba, oa, rfl, hq⟩ := hb.at (by omega)
          rw [hz3] at hk
          rw [hy3] at hq
          exact (stepRtrig_any (zs.getD 0 0) (zs.getD 1 0) (ys.getD 0 0) bk ok ba oa ca cb w' (hk 0 (by decide)) (hk 1 (by decide)) (hq 0 (by decide))).mono (fun e w2 h => StepR.own (zs := blkL 3 zs ys) h (by rw [blkL_len]; decide))
        clear hz3 hy3 HG1 HG2 HKW
        go_enter Try.func10, Try.ntmps10
        go_wp2_with fail
        refine (HI.out _).mono ?_
        rintro e w1 ⟨rfl, rfl⟩
        go_wp2_with fail
        refine (HO.out _).mono ?_
        rintro e w2 ⟨⟨g, a2, c2, rfl⟩, hb⟩
        have hb5 := (Below.refl w2.heap.size w2).alloc (Nat.le_refl _) (.cells #[.slice (some ⟨g, 0, none⟩) (bkN 3) (bkN 3), .slice a2 (bkA 3) c2] 66)
        have hb6 := hb.trans (hb5.mono hb.size)
        have HB6 : Hid _ := hb6
        have HBK := hid (heap_alloc_new w2 (.cells #[.slice (some ⟨g, 0, none⟩) (bkN 3) (bkN 3), .slice a2 (bkA 3) c2] 66))
        have ha3 := ha1.below hb6
        have hy3 := hb2.below hb6
        clear hb hb5 hb6 ha1 hb2
        go_wp2_with fail
        refine (HL.out _ ha3).mono ?_
        rintro e w4 ⟨rfl, hb4⟩
        obtain ⟨-, k1⟩ := cl2 ((hb4.block w2.heap.size (by simp)).trans HBK.out)
        have ha4 := ha3.below hb4
        have hy4 := hy3.below hb4
        have HB7 := hid (HB6.out.trans (hb4.mono HB6.out.size))
        clear hb4 ha3 hy3 HB6 HBK
        go_wp2_with fail
        refine (HL2.out _ hy4).mono ?_
        rintro e w5 ⟨rfl, hb5⟩
        have ha5 := ha4.below hb5
        have hy5 := hy4.below hb5
        have HB8 := hid (HB7.out.trans (hb5.mono HB7.out.size))
        clear hb5 ha4 hy4 HB7 k1
        go_wp2_with fail
        refine (HST.out _ (ha5.below ((Below.refl _ _).alloc (Nat.le_refl _) _)) (hy5.below ((Below.refl _ _).alloc (Nat.le_refl _) _))).mono ?_
        rintro e w6 ⟨rfl, ho6, hb⟩
        have hb7 := HB8.out.trans (Below.mono (((Below.refl _ _).alloc (Nat.le_refl _) _).trans (Below.mono hb (by simp))) HB8.out.size)
        obtain ⟨hc0, hc1, hf0, hf1, hz⟩ := own2 hb7
        have HB := back hb7
        have hsz := HB8.out.size
        simp at hsz ho6
        have hfin : Own ((w6.setCell ⟨w.heap.size, 0, none⟩ (.int .i64 0)).setCell ⟨w.heap.size, 1, none⟩ (.slice (some ⟨w5.heap.size + 1, 0, none⟩) 2 2)) w.heap.size (.slice (some ⟨w5.heap.size + 1, 0, none⟩) 2 2) (blkL 3 zs ys) :=
          own_mono (ownsRow_setCell_below (ownsRow_setCell_below ho6 (a := ⟨w.heap.size, 0, none⟩) (by simp; omega) (.int .i64 0)) (a := ⟨w.heap.size, 1, none⟩) (by simp; omega) _) (by omega)
        have HFIN : Hid _ := hfin
        clear hb ho6 hfin hsz ha5 hy5 hb7
        go_wp2_with fail
        refine bodyPost_ret (v := resL 0 (.slice (some ⟨w5.heap.size + 1, 0, none⟩) 2 2)) (by simp [results, Try.results10, go_sem, hc0, hc1]) rfl ⟨_, by rw [X1.out], by rw [X2.out]; exact HFIN.out, by go_grown⟩
      · have hz3 : zs.length = 1 := HG1.out
        have hy3 : ys.length = 2 := HG2.out
        rw [hz3] at HL ⊢
        rw [hy3] at HL2 ⊢
        have HST : Hid (∀ (w' : World), Nums w' a zs → Nums w' b ys → Calls Try.prog 44 #[.slice a 1 ca, .slice b 2 cb] w' fun e w2 => (e = .returned (.slice (some ⟨w'.heap.size, 0, none⟩) 1 1) ∧ Own w2 w'.heap.size (.slice (some ⟨w'.heap.size, 0, none⟩) 1 1) (blkL 4 zs ys) ∧ Below w'.heap.size w' w2)) := fun w' ha hb => by
          obtain ⟨bk, ok, rfl, hk⟩ := ha.at (by omega)
          obtain ⟨ba, oa, rfl, hq⟩ := hb.at (by omega)
          rw [hz3] at hk
          rw [hy3] at hq
          exact (stepSr_any (zs.getD 0 0) (ys.getD 0 0) (ys.getD 1 0) bk ok ba oa ca cb w' (hk 0 (by decide)) (hq 0 (by decide)) (hq 1 (by decide))).mono (fun e w2 h => StepR.own (zs := blkL 4 zs ys) h (by rw [blkL_len]; decide))
        clear hz3 hy3 HG1 HG2 HKW
        go_enter Try.func10, Try.ntmps10
        go_wp2_with fail
        refine (HI.out _).mono ?_
        rintro e w1 ⟨rfl, rfl⟩
        go_wp2_with fail
        refine (HO.out _).mono ?_
        rintro e w2 ⟨⟨g, a2, c2, rfl⟩, hb⟩
        have hb5 := (Below.refl w2.heap.size w2).alloc (Nat.le_refl _) (.cells #[.slice (some ⟨g, 0, none⟩) (bkN 4) (bkN 4), .slice a2 (bkA 4) c2] 66)
        have hb6 := hb.trans (hb5.mono hb.size)
        have HB6 : Hid _ := hb6
        have HBK := hid (heap_alloc_new w2 (.cells #[.slice (some ⟨g, 0, none⟩) (bkN 4) (bkN 4), .slice a2 (bkA 4) c2] 66))
        have ha3 := ha1.below hb6
        have hy3 := hb2.below hb6
        clear hb hb5 hb6 ha1 hb2
        go_wp2_with fail
        refine (HL.out _ ha3).mono ?_
        rintro e w4 ⟨rfl, hb4⟩
        obtain ⟨-, k1⟩ := cl2 ((hb4.block w2.heap.size (by simp)).trans HBK.out)
        have ha4 := ha3.below hb4
        have hy4 := hy3.below hb4
        have HB7 := hid (HB6.out.trans (hb4.mono HB6.out.size))
        clear hb4 ha3 hy3 HB6 HBK
        go_wp2_with fail
        refine (HL2.out _ hy4).mono ?_
        rintro e w5 ⟨rfl, hb5⟩
        have ha5 := ha4.below hb5
        have hy5 := hy4.below hb5
        have HB8 := hid (HB7.out.trans (hb5.mono HB7.out.size))
        clear hb5 ha4 hy4 HB7 k1
        go_wp2_with fail
        refine (HST.out _ (ha5.below ((Below.refl _ _).alloc (Nat.le_refl _) _)) (hy5.below ((Below.refl _ _).alloc (Nat.le_refl _) _))).mono ?_
        rintro e w6 ⟨rfl, ho6, hb⟩
        have hb7 := HB8.out.trans (Below.mono (((Below.refl _ _).alloc (Nat.le_refl _) _).trans (Below.mono hb (by simp))) HB8.out.size)
        obtain ⟨hc0, hc1, hf0, hf1, hz⟩ := own2 hb7
        have HB := back hb7
        have hsz := HB8.out.size
        simp at hsz ho6
        have hfin : Own ((w6.setCell ⟨w.heap.size, 0, none⟩ (.int .i64 0)).setCell ⟨w.heap.size, 1, none⟩ (.slice (some ⟨w5.heap.size + 1, 0, none⟩) 1 1)) w.heap.size (.slice (some ⟨w5.heap.size + 1, 0, none⟩) 1 1) (blkL 4 zs ys) :=
          own_mono (ownsRow_setCell_below (ownsRow_setCell_below ho6 (a := ⟨w.heap.size, 0, none⟩) (by simp; omega) (.int .i64 0)) (a := ⟨w.heap.size, 1, none⟩) (by simp; omega) _) (by omega)
        have HFIN : Hid _ := hfin
        clear hb ho6 hfin hsz ha5 hy5 hb7
        go_wp2_with fail
        refine bodyPost_ret (v := resL 0 (.slice (some ⟨w5.heap.size + 1, 0, none⟩) 1 1)) (by simp [results, Try.results10, go_sem, hc0, hc1]) rfl ⟨_, by rw [X1.out], by rw [X2.out]; exact HFIN.out, by go_grown⟩
end Go.Proofs.Ytalopffpaepaaaa
