/-
  impl.BuildFault.
-/
import Derived.Test.YtpobajblngblfaaBldF
import Derived.Deep.RegionHeld3
namespace Go.Proofs.Ytpobajblngblfaa
open Go.RowKit
set_option linter.unusedVariables false

theorem step_belowB {a b c : World} (h : Below a.heap.size a b) (hb : Below b.heap.size b c) : Below a.heap.size a c := h.trans (hb.mono h.size)
theorem below_alB {a b : World} {o : Obj} (h : Below a.heap.size a b) : Below a.heap.size a (b.alloc o) := h.alloc h.size o
theorem or_zero (a b X : Int) : (if a ≠ 0 then a else if b ≠ 0 then b else X) = (if (if a ≠ 0 then a else b) ≠ 0 then (if a ≠ 0 then a else b) else X) := by
  by_cases h : a = 0
  · subst h; simp
  · simp [h]

set_option maxHeartbeats 6400000 in
set_option maxRecDepth 100000 in
theorem implBuildFault (m : LBuild) (vp vo va vb vs vt : Value) (w : World) (h : BldR w vp vo va vb vs vt m) (hl : BldLe m 1048576) :
    Calls Try.prog 9 #[buildL m vp vo va vb vs vt] w fun e w' => e = .returned (.int .i64 (bdF m)) ∧ Below w.heap.size w w' := by
  have HSA : Hid (∀ W, Below w.heap.size w W → Calls Try.prog 34 #[va, vs] W fun e w' => e = .returned (.bool (decide (sumsV m.codeA = m.sumsA))) ∧ Below W.heap.size W w') := fun W hb => areSums_any va vs _ _ W (h.a.below hb) (h.s.below hb) hl.a hl.s
  have HSB : Hid (∀ W, Below w.heap.size w W → Calls Try.prog 34 #[vb, vt] W fun e w' => e = .returned (.bool (decide (sumsV m.codeB = m.sumsB))) ∧ Below W.heap.size W w') := fun W hb => areSums_any vb vt _ _ W (h.b.below hb) (h.t.below hb) hl.b hl.t
  obtain ⟨⟨a1, k1, rfl, _, n1⟩, ⟨a2, k2, rfl, _, n2, _⟩, ⟨a3, k3, rfl, _, n3, _⟩, ⟨a4, k4, rfl, _, n4, _⟩, ⟨a5, k5, rfl, _, n5, _⟩, a6, k6, rfl, _, n6, _⟩ := h
  have HC1 : Hid (∀ W, Calls Try.prog 29 #[.int .i64 m.cells, .int .i64 0, .int .i64 80] W fun e w' => e = .returned (.bool (inB m.cells 0 80)) ∧ w' = W) := fun W => withinB_any _ _ _ W
  have HC2 : Hid (∀ W, Calls Try.prog 29 #[.int .i64 m.budA, .int .i64 0, .int .i64 20000] W fun e w' => e = .returned (.bool (inB m.budA 0 20000)) ∧ w' = W) := fun W => withinB_any _ _ _ W
  have HC3 : Hid (∀ W, Calls Try.prog 29 #[.int .i64 m.budB, .int .i64 0, .int .i64 20000] W fun e w' => e = .returned (.bool (inB m.budB 0 20000)) ∧ w' = W) := fun W => withinB_any _ _ _ W
  have HCP : Hid (∀ W, Below w.heap.size w W → Calls Try.prog 31 #[.slice a1 m.ports.length k1] W fun e w' => ∃ a c, e = .returned (.slice a m.ports.length c) ∧ Nums w' a (m.ports.map (·.cell)) ∧ Below W.heap.size W w') := fun W hb => (cellsOfPorts_any a1 m.ports k1 W (n1.below hb) hl.p).mono fun e w' hh => by
    obtain ⟨v, rfl, ho, hb2⟩ := hh
    obtain ⟨a, c, rfl⟩ := own_shape ho
    exact ⟨a, c, by rw [List.length_map], (nums_of_own ho).2, hb2⟩
  have HAC : Hid (inB m.cells 0 80 = true → ∀ a c W, Nums W a (m.ports.map (·.cell)) → Calls Try.prog 30 #[.slice a m.ports.length c, .int .i64 m.cells] W fun e w' => e = .returned (.bool (cellsB m.cells (m.ports.map (·.cell)))) ∧ w' = W) := fun hc a c W hn => by
    obtain ⟨c0, c1⟩ := inB_iff.1 hc
    have := areCells_any a (m.ports.map (·.cell)) c m.cells W c0 c1 (by rw [List.length_map]; exact hl.p) hn
    rwa [List.length_map] at this
  have HAO : Hid (inB m.cells 0 80 = true → ∀ W, Below w.heap.size w W → Calls Try.prog 30 #[.slice a2 m.outs.length k2, .int .i64 m.cells] W fun e w' => e = .returned (.bool (cellsB m.cells m.outs)) ∧ w' = W) := fun hc W hb => by
    obtain ⟨c0, c1⟩ := inB_iff.1 hc
    exact areCells_any a2 m.outs k2 m.cells W c0 c1 hl.o (n2.below hb)
  have HFA : Hid (∀ W, Below w.heap.size w W → Calls Try.prog 33 #[.slice a3 m.codeA.length k3] W fun e w' => e = .returned (.int .i64 (fault m.codeA)) ∧ Below W.heap.size W w') := fun W hb => implFault_any a3 _ k3 W (by have := hl.a; omega) (n3.below hb)
  have HFB : Hid (∀ W, Below w.heap.size w W → Calls Try.prog 33 #[.slice a4 m.codeB.length k4] W fun e w' => e = .returned (.int .i64 (fault m.codeB)) ∧ Below W.heap.size W w') := fun W hb => implFault_any a4 _ k4 W (by have := hl.b; omega) (n4.below hb)
  have hF : bdF m = bdF m := rfl
  conv at hF => rhs; unfold bdF
  rw [or_zero] at hF
  have hl1 := hl.p
  have hl2 := hl.o
  clear n1 n2 n3 n4 n5 n6 hl
  generalize decide (sumsV m.codeA = m.sumsA) = s1 at *
  generalize decide (sumsV m.codeB = m.sumsB) = s2 at *
  generalize cellsB m.cells (m.ports.map (·.cell)) = c1 at *
  generalize cellsB m.cells m.outs = c2 at *
  generalize inB m.cells 0 80 = b1 at *
  generalize inB m.budA 0 20000 = b2 at *
  generalize inB m.budB 0 20000 = b3 at *
  generalize fault m.codeA = f1 at *
  generalize fault m.codeB = f2 at *
  generalize m.ports.map (·.cell) = PC at *
  generalize m.ports.length = l1 at *
  generalize m.outs.length = l2 at *
  generalize m.codeA.length = l3 at *
  generalize m.codeB.length = l4 at *
  generalize m.sumsA.length = l5 at *
  generalize m.sumsB.length = l6 at *
  generalize bdF m = R at *
  have HOR : Hid (∀ (g c : Nat) (W : World), W.cell? ⟨g, 0, none⟩ = some (.int .i64 f1) → W.cell? ⟨g, 1, none⟩ = some (.int .i64 f2) → Calls Try.prog 32 #[.slice (some ⟨g, 0, none⟩) 2 c] W fun e w' => e = .returned (.int .i64 (if f1 ≠ 0 then f1 else f2)) ∧ w' = W) := fun g c W h0 h1 => cmpOr_any g f1 f2 c W h0 h1
  generalize (if f1 ≠ 0 then f1 else f2) = fo at *
  have HF := hid hF
  clear hF
  have hA := heap_alloc_new w (.cells (lineB m (.slice a1 l1 k1) (.slice a2 l2 k2) (.slice a3 l3 k3) (.slice a4 l4 k4) (.slice a5 l5 k5) (.slice a6 l6 k6)) 30)
  have hB : Below w.heap.size w (w.alloc (.cells (lineB m (.slice a1 l1 k1) (.slice a2 l2 k2) (.slice a3 l3 k3) (.slice a4 l4 k4) (.slice a5 l5 k5) (.slice a6 l6 k6)) 30)) := (Below.refl _ _).alloc (Nat.le_refl _) _
  go_enter Try.func9, Try.ntmps9
  go_upto_region 1 with fail
  generalize w.alloc (.cells (lineB m (.slice a1 l1 k1) (.slice a2 l2 k2) (.slice a3 l3 k3) (.slice a4 l4 k4) (.slice a5 l5 k5) (.slice a6 l6 k6)) 30) = W at *
  have HA := hid hA
  have HB := hid hB
  obtain ⟨q0, q1, q2, q3, q4, q5, q6, q7, q8⟩ := cl9 hA
  clear hA hB
  cases b1 with
  | false =>
    have HR : Hid (R = 3) := by unfold Hid; rw [HF.out, if_pos (by simp)]
    go_wp2_with fail
    refine (HC1.out _).mono ?_
    rintro e W ⟨rfl, rfl⟩
    go_wp2_with fail
    go_ret
    exact ⟨by rw [HR.out]; rfl, HB.out⟩
  | true =>
  have HAC1 := hid (HAC.out rfl)
  have HAO1 := hid (HAO.out rfl)
  clear HAC HAO
  cases b2 with
  | false =>
    have HR : Hid (R = 3) := by unfold Hid; rw [HF.out, if_pos (by simp)]
    go_wp2_with fail
    refine (HC1.out _).mono ?_
    rintro e W ⟨rfl, rfl⟩
    go_wp2_with fail
    refine (HC2.out _).mono ?_
    rintro e W ⟨rfl, rfl⟩
    go_wp2_with fail
    go_ret
    exact ⟨by rw [HR.out]; rfl, HB.out⟩
  | true =>
  cases b3 with
  | false =>
    have HR : Hid (R = 3) := by unfold Hid; rw [HF.out, if_pos (by simp)]
    go_wp2_with fail
    refine (HC1.out _).mono ?_
    rintro e W ⟨rfl, rfl⟩
    go_wp2_with fail
    refine (HC2.out _).mono ?_
    rintro e W ⟨rfl, rfl⟩
    go_wp2_with fail
    refine (HC3.out _).mono ?_
    rintro e W ⟨rfl, rfl⟩
    go_wp2_with fail
    go_ret
    exact ⟨by rw [HR.out]; rfl, HB.out⟩
  | true =>
  have HF2 := hid (HF.out.trans (if_neg (by simp)))
  clear HF
  go_wp2_with fail
  refine (HC1.out _).mono ?_
  rintro e W ⟨rfl, rfl⟩
  go_wp2_with fail
  refine (HC2.out _).mono ?_
  rintro e W ⟨rfl, rfl⟩
  go_wp2_with fail
  refine (HC3.out _).mono ?_
  rintro e W ⟨rfl, rfl⟩
  go_upto_region 3 with fail
  clear HC1 HC2 HC3 q7 q8
  by_cases h1 : 24 < l1
  · have HR : Hid (R = 2) := by unfold Hid; rw [HF2.out, if_pos (by simp [h1])]
    have hd1 : decide ((24 : Int) < (l1 : Int)) = true := decide_eq_true (by omega)
    clear HF2
    go_wp2_with fail
    go_ret
    exact ⟨by rw [HR.out]; rfl, HB.out⟩
  by_cases h2 : 60 < l2
  · have HR : Hid (R = 2) := by unfold Hid; rw [HF2.out, if_pos (by simp [h2])]
    have hd1 : decide ((24 : Int) < (l1 : Int)) = false := decide_eq_false (by omega)
    have hd2 : decide ((60 : Int) < (l2 : Int)) = true := decide_eq_true (by omega)
    clear HF2
    go_wp2_with fail
    go_ret
    exact ⟨by rw [HR.out]; rfl, HB.out⟩
  have HF3 := hid (HF2.out.trans (if_neg (by simp; omega)))
  have hd1 : decide ((24 : Int) < (l1 : Int)) = false := decide_eq_false (by omega)
  have hd2 : decide ((60 : Int) < (l2 : Int)) = false := decide_eq_false (by omega)
  clear HF2
  go_upto_region 5 with fail
  clear hd1 hd2 h1 h2
  have HC : Hid (∀ Z, Below W.heap.size W Z → Z.cell? ⟨w.heap.size, 0, none⟩ = some (.int .i64 m.cells) ∧ Z.cell? ⟨w.heap.size, 1, none⟩ = some (.slice a1 l1 k1) ∧ Z.cell? ⟨w.heap.size, 2, none⟩ = some (.slice a2 l2 k2)) := fun Z hb => ⟨(cl9 (blkB HA.out hb)).1, (cl9 (blkB HA.out hb)).2.1, (cl9 (blkB HA.out hb)).2.2.1⟩
  have hS0 : Below W.heap.size W W := Below.refl _ _
  cases c1 with
  | false =>
    have HR : Hid (R = 3) := by unfold Hid; rw [HF3.out, if_pos (by simp)]
    clear HF3
    first | (go_region_with (first | (go_at_call 31; refine (HCP.out _ HB.out.drew).mono ?_; rintro e w3 ⟨a, c, rfl, hn, hb⟩; obtain ⟨q0, q1, q2⟩ := HC.out _ (step_belowB hS0.drew hb); have HN3 := hid hn; have HB3 := hid (HB.out.trans ((step_belowB hS0.drew hb).mono HB.out.size)); clear hb hn) | (go_at_call 30; refine (HAC1.out _ _ _ HN3.out).mono ?_; rintro e w4 ⟨rfl, rfl⟩))) | fail
    all_goals
      go_wp2_with fail
      go_ret
      exact ⟨by rw [HR.out]; rfl, HB3.out⟩
  | true =>
  go_region_held3 (fun Z => Below W.heap.size W Z ∧ (Z.cell? ⟨w.heap.size, 0, none⟩ = some (.int .i64 m.cells) ∧ Z.cell? ⟨w.heap.size, 1, none⟩ = some (.slice a1 l1 k1) ∧ Z.cell? ⟨w.heap.size, 2, none⟩ = some (.slice a2 l2 k2))) (first | (with_reducible exact ⟨by assumption, HC.out _ (by assumption)⟩) | (with_reducible exact ⟨hS0.drew, HC.out _ hS0.drew⟩) | fail) (first | (go_at_call 31; refine (HCP.out _ (HB.out.trans (Below.mono (And.left (by with_reducible assumption)) HB.out.size))).mono ?_; rintro e w3 ⟨a, c, rfl, hn, hb⟩; have hD3 : Below W.heap.size W w3 := step_belowB (And.left (by with_reducible assumption)) hb; have HN3 := hid hn; clear hb hn) | (go_at_call 30; (first | ((with_reducible show Calls _ _ #[Value.slice a2 l2 k2, _] _ _); refine (HAO1.out _ (HB.out.trans (Below.mono hD3 HB.out.size))).mono ?_; rintro e w4 ⟨rfl, he⟩; rw [he]; clear he w4) | (refine (HAC1.out _ _ _ HN3.out).mono ?_; rintro e w4 ⟨rfl, he⟩; rw [he]; clear he w4))) | fail)
  have HA3 := hid (blkB HA.out hD3)
  have HB3 := hid (HB.out.trans (hD3.mono HB.out.size))
  clear hD3 HN3 hS0 HC HA HB HAC1 HAO1 HCP q0 q1 q2 q3 q4 q5 q6
  rename World => W3
  cases c2 with
  | false =>
    have HR : Hid (R = 3) := by unfold Hid; rw [HF3.out, if_pos (by simp)]
    go_wp2_with fail
    go_ret
    exact ⟨by rw [HR.out]; rfl, HB3.out⟩
  | true =>
  have HF4 := hid (HF3.out.trans (if_neg (by simp)))
  clear HF3
  have hS0 : Below W3.heap.size W3 W3 := Below.refl _ _
  have HC : Hid (∀ Z, Below W3.heap.size W3 Z → Z.cell? ⟨w.heap.size, 3, none⟩ = some (.slice a3 l3 k3) ∧ Z.cell? ⟨w.heap.size, 4, none⟩ = some (.slice a4 l4 k4)) := fun Z hb => ⟨(cl9 (blkB HA3.out hb)).2.2.2.1, (cl9 (blkB HA3.out hb)).2.2.2.2.1⟩
  obtain ⟨q3, q4⟩ := HC.out _ hS0
  go_upto_region 7 with fail
  go_region_held3 (fun Z => Below W3.heap.size W3 Z ∧ (Z.cell? ⟨w.heap.size, 3, none⟩ = some (.slice a3 l3 k3) ∧ Z.cell? ⟨w.heap.size, 4, none⟩ = some (.slice a4 l4 k4))) (first | (with_reducible exact ⟨by assumption, HC.out _ (by assumption)⟩) | (with_reducible exact ⟨hS0.drew, HC.out _ hS0.drew⟩) | (with_reducible exact ⟨below_alB hD6, HC.out _ (below_alB hD6)⟩) | (with_reducible exact ⟨below_alB hD5, HC.out _ (below_alB hD5)⟩) | fail) (first | (go_at_call 33; (first | ((with_reducible show Calls _ _ #[Value.slice a3 l3 k3] _ _); refine (HFA.out _ (HB3.out.trans (Below.mono (And.left (by with_reducible assumption)) HB3.out.size))).mono ?_; rintro e w5 ⟨rfl, hb⟩; have hD5 : Below W3.heap.size W3 w5 := step_belowB (And.left (by with_reducible assumption)) hb; clear hb) | ((with_reducible show Calls _ _ #[Value.slice a4 l4 k4] _ _); refine (HFB.out _ (HB3.out.trans (Below.mono (And.left (by with_reducible assumption)) HB3.out.size))).mono ?_; rintro e w5 ⟨rfl, hb⟩; have hD6 : Below W3.heap.size W3 w5 := step_belowB (And.left (by with_reducible assumption)) hb; clear hb))) | (go_at_call 32; refine (HOR.out _ _ _ (by simp [go_sem]) (by simp [go_sem])).mono ?_; rintro e w6 ⟨rfl, he⟩; rw [he]; clear he w6) | fail)
  rename World => w5
  have hD7 : Below W3.heap.size W3 (w5.alloc (.cells #[.int .i64 f1, .int .i64 f2] 2)) := (by first | exact below_alB hD6 | exact below_alB hD5)
  have HA7 := hid (blkB HA3.out hD7)
  have HB7 := hid (HB3.out.trans (hD7.mono HB3.out.size))
  clear hD7 hD5 hD6 hS0 HC HA3 HB3 HFA HFB q3 q4
  generalize w5.alloc (.cells #[.int .i64 f1, .int .i64 f2] 2) = W7 at *
  by_cases hfo : fo = 0
  · have HF5 := hid (HF4.out.trans (if_neg (by simpa using hfo)))
    have hfb : (fo != 0) = false := by simpa using hfo
    clear HF4 hfo
    obtain ⟨q0, q1, q2, q3, q4, q5, q6, q7, q8⟩ := cl9 HA7.out
    go_upto_region 10 with fail
    clear hfb
    go_wp2_with fail
    refine (HSA.out _ HB7.out).mono ?_
    rintro e w8 ⟨rfl, hb⟩
    have HA8 := hid (blkB HA7.out hb)
    have HB8 := hid (HB7.out.trans (hb.mono HB7.out.size))
    clear hb HA7 HB7 HSA q0 q1 q2 q3 q4 q5 q6 q7 q8
    obtain ⟨q0, q1, q2, q3, q4, q5, q6, q7, q8⟩ := cl9 HA8.out
    cases s1 with
    | false =>
      have HR : Hid (R = 6) := by unfold Hid; rw [HF5.out, if_pos (by simp)]
      go_wp2_with fail
      go_ret
      exact ⟨by rw [HR.out]; rfl, HB8.out⟩
    | true =>
      go_wp2_with fail
      refine (HSB.out _ HB8.out).mono ?_
      rintro e w9 ⟨rfl, hb⟩
      have HB9 := hid (HB8.out.trans (hb.mono HB8.out.size))
      clear hb HA8 HB8 HSB q0 q1 q2 q3 q4 q5 q6 q7 q8
      cases s2 with
      | false =>
        have HR : Hid (R = 6) := by unfold Hid; rw [HF5.out, if_pos (by simp)]
        go_wp2_with fail
        go_ret
        exact ⟨by rw [HR.out]; rfl, HB9.out⟩
      | true =>
        have HR : Hid (R = 0) := by unfold Hid; rw [HF5.out, if_neg (by simp)]
        go_wp2_with fail
        go_ret
        exact ⟨by rw [HR.out]; rfl, HB9.out⟩
  · have HR : Hid (R = fo) := HF4.out.trans (if_pos hfo)
    have hfb : (fo != 0) = true := by simpa using hfo
    clear hfo HF4
    go_wp2_with fail
    go_ret
    exact ⟨by rw [HR.out]; rfl, HB7.out⟩
end Go.Proofs.Ytpobajblngblfaa
