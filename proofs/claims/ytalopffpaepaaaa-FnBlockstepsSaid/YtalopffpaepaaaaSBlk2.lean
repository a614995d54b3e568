/-
  spec.l6Block at ton, rtrig, sr.
-/
import Derived.Test.YtalopffpaepaaaaSBlk1
namespace Go.Proofs.Ytalopffpaepaaaa
open Go.RowKit
set_option linter.unusedVariables false

set_option maxHeartbeats 3200000 in
set_option maxRecDepth 100000 in
theorem l6Block_2 (k0 k1 a0 a1 : Int) (bk ok ba oa ck ca : Nat) (w : World) (hk0 : 0 ≤ k0) (hk1 : k0 ≤ 65535) (ek0 : w.cell? ⟨bk, ok + 0, none⟩ = some (.int .i64 k0)) (ek1 : w.cell? ⟨bk, ok + 1, none⟩ = some (.int .i64 k1)) (ea0 : w.cell? ⟨ba, oa + 0, none⟩ = some (.int .i64 a0)) (ea1 : w.cell? ⟨ba, oa + 1, none⟩ = some (.int .i64 a1)) :
    Calls Try.prog 46 #[.int .i64 2, .slice (some ⟨bk, ok, none⟩) 2 ck, .slice (some ⟨ba, oa, none⟩) 2 ca] w fun e w' => StepR w w' e [tonC k0 a0 a1, b01 (decide (a0 ≠ 0 ∧ sg a1 ≤ sg (tonC k0 a0 a1)))] := by
  have HS : Hid (∀ (x : Int) (w : World), Calls Try.prog 72 #[.int .i64 x] w fun e w' => e = .returned (.int .i64 (sg x)) ∧ w' = w) := specSignedOf
  have HL : Hid (∀ (x : Int) (w : World), Calls Try.prog 74 #[.int .i64 x] w fun e w' => e = .returned (.int .i64 (b01 (decide (x ≠ 0)))) ∧ w' = w) := l6Least_any
  have HB : Hid (∀ (b : Bool) (w : World), Calls Try.prog 75 #[.bool b] w fun e w' => e = .returned (.int .i64 (b01 b)) ∧ w' = w) := fun b w => l2Bit_any b w
  have HW : Hid (∀ (x : Int) (w : World), Calls Try.prog 73 #[.int .i64 x] w fun e w' => e = .returned (.int .i64 (wd x)) ∧ w' = w) := specWordOf
  simp only [Nat.add_zero] at ek0 ea0
  obtain ⟨C, hC⟩ : ∃ C, C = tonC k0 a0 a1 := ⟨_, rfl⟩
  rw [← hC]
  have HC : Hid (C = tonC k0 a0 a1) := hC
  clear hC
  by_cases h0 : a0 = 0
  · subst h0
    have e0 : Hid (C = 0) := by unfold Hid; rw [HC.out]; unfold tonC; rw [if_pos rfl]
    go_enter Try.func46, Try.ntmps46
    go_wp2_with fail
    first | (go_region_with (first | (go_at_call 72; refine (HS.out _ _).mono ?_; rintro e w2 ⟨rfl, rfl⟩) | (go_at_call 74; refine (HL.out _ _).mono ?_; rintro e w2 ⟨rfl, rfl⟩) | (go_at_call 75; refine (HB.out _ _).mono ?_; rintro e w2 ⟨rfl, rfl⟩))) | fail
    all_goals (go_wp2_with fail; go_ret; refine ⟨rfl, (heap_alloc_new _ _).trans (cells_eq ?_), by go_grown⟩; rw [e0.out]; simp <;> rfl)
  have e1 : (a0 != 0) = true := by simpa using h0
  have e2 : (a0 == 0) = false := by simpa using h0
  have e5 : (decide (a0 = 0)) = false := decide_eq_false h0
  by_cases hs : sg k0 < sg a1
  · have e3 : decide (sg k0 < sg a1) = true := decide_eq_true hs
    have e0 : Hid (C = wd (k0 + 1)) := by unfold Hid; rw [HC.out]; unfold tonC; rw [if_neg h0, if_pos hs]
    clear hs h0
    go_enter Try.func46, Try.ntmps46
    go_wp2_with fail
    go_region_held3 (fun Z => Z.cell? ⟨ba, oa + 1, none⟩ = some (.int .i64 a1)) (go_keep) (first | (go_at_call 72; refine (HS.out _ _).mono ?_; rintro e w2 ⟨rfl, rfl⟩) | (go_at_call 74; refine (HL.out _ _).mono ?_; rintro e w2 ⟨rfl, rfl⟩) | (go_at_call 75; refine (HB.out _ _).mono ?_; rintro e w2 ⟨rfl, rfl⟩))
    go_wp2_with fail
    refine (HW.out _ _).mono ?_
    rintro e w3 ⟨rfl, rfl⟩
    go_wp2_with fail
    go_region_held3 (fun Z => Z.cell? ⟨ba, oa, none⟩ = some (.int .i64 a0) ∧ Z.cell? ⟨ba, oa + 1, none⟩ = some (.int .i64 a1)) (go_keep) (first | (go_at_call 72; refine (HS.out _ _).mono ?_; rintro e w2 ⟨rfl, rfl⟩) | (go_at_call 74; refine (HL.out _ _).mono ?_; rintro e w2 ⟨rfl, rfl⟩) | (go_at_call 75; refine (HB.out _ _).mono ?_; rintro e w2 ⟨rfl, rfl⟩))
    all_goals (go_wp2_with fail; go_ret; refine ⟨rfl, (heap_alloc_new _ _).trans (cells_eq ?_), by go_grown⟩; rw [e0.out]; simp [e5] <;> rfl)
  have e3 : decide (sg k0 < sg a1) = false := decide_eq_false hs
  have e0 : Hid (C = k0) := by unfold Hid; rw [HC.out]; unfold tonC; rw [if_neg h0, if_neg hs]
  clear hs h0
  go_enter Try.func46, Try.ntmps46
  go_wp2_with fail
  go_region_held3 (fun Z => Z.cell? ⟨ba, oa + 1, none⟩ = some (.int .i64 a1)) (go_keep) (first | (go_at_call 72; refine (HS.out _ _).mono ?_; rintro e w2 ⟨rfl, rfl⟩) | (go_at_call 74; refine (HL.out _ _).mono ?_; rintro e w2 ⟨rfl, rfl⟩) | (go_at_call 75; refine (HB.out _ _).mono ?_; rintro e w2 ⟨rfl, rfl⟩))
  go_wp2_with fail
  go_region_held3 (fun Z => Z.cell? ⟨ba, oa, none⟩ = some (.int .i64 a0) ∧ Z.cell? ⟨ba, oa + 1, none⟩ = some (.int .i64 a1)) (go_keep) (first | (go_at_call 72; refine (HS.out _ _).mono ?_; rintro e w2 ⟨rfl, rfl⟩) | (go_at_call 74; refine (HL.out _ _).mono ?_; rintro e w2 ⟨rfl, rfl⟩) | (go_at_call 75; refine (HB.out _ _).mono ?_; rintro e w2 ⟨rfl, rfl⟩))
  all_goals (go_wp2_with fail; go_ret; refine ⟨rfl, (heap_alloc_new _ _).trans (cells_eq ?_), by go_grown⟩; rw [e0.out]; simp [e5] <;> rfl)

set_option maxHeartbeats 3200000 in
set_option maxRecDepth 100000 in
theorem l6Block_3 (k0 k1 a0 : Int) (bk ok ba oa ck ca : Nat) (w : World) (ek0 : w.cell? ⟨bk, ok + 0, none⟩ = some (.int .i64 k0)) (ek1 : w.cell? ⟨bk, ok + 1, none⟩ = some (.int .i64 k1)) (ea0 : w.cell? ⟨ba, oa + 0, none⟩ = some (.int .i64 a0)) :
    Calls Try.prog 46 #[.int .i64 3, .slice (some ⟨bk, ok, none⟩) 2 ck, .slice (some ⟨ba, oa, none⟩) 1 ca] w fun e w' => StepR w w' e [b01 (decide (a0 ≠ 0)), b01 (decide (a0 ≠ 0 ∧ k0 = 0))] := by
  have HS : Hid (∀ (x : Int) (w : World), Calls Try.prog 72 #[.int .i64 x] w fun e w' => e = .returned (.int .i64 (sg x)) ∧ w' = w) := specSignedOf
  have HL : Hid (∀ (x : Int) (w : World), Calls Try.prog 74 #[.int .i64 x] w fun e w' => e = .returned (.int .i64 (b01 (decide (x ≠ 0)))) ∧ w' = w) := l6Least_any
  have HB : Hid (∀ (b : Bool) (w : World), Calls Try.prog 75 #[.bool b] w fun e w' => e = .returned (.int .i64 (b01 b)) ∧ w' = w) := fun b w => l2Bit_any b w
  have HW : Hid (∀ (x : Int) (w : World), Calls Try.prog 73 #[.int .i64 x] w fun e w' => e = .returned (.int .i64 (wd x)) ∧ w' = w) := specWordOf
  simp only [Nat.add_zero] at ek0 ea0
  by_cases h0 : a0 = 0
  · subst h0
    go_enter Try.func46, Try.ntmps46
    go_wp2_with fail
    first | (go_region_with (first | (go_at_call 72; refine (HS.out _ _).mono ?_; rintro e w2 ⟨rfl, rfl⟩) | (go_at_call 74; refine (HL.out _ _).mono ?_; rintro e w2 ⟨rfl, rfl⟩) | (go_at_call 75; refine (HB.out _ _).mono ?_; rintro e w2 ⟨rfl, rfl⟩))) | fail
    all_goals (go_wp2_with fail; go_ret; refine ⟨rfl, (heap_alloc_new _ _).trans (cells_eq ?_), by go_grown⟩; simp <;> rfl)
  have e1 : (a0 != 0) = true := by simpa using h0
  have e5 : (decide (a0 = 0)) = false := decide_eq_false h0
  clear h0
  go_enter Try.func46, Try.ntmps46
  go_wp2_with fail
  go_region_held3 (fun Z => Z.cell? ⟨ba, oa, none⟩ = some (.int .i64 a0) ∧ Z.cell? ⟨bk, ok, none⟩ = some (.int .i64 k0)) (go_keep) (first | (go_at_call 72; refine (HS.out _ _).mono ?_; rintro e w2 ⟨rfl, rfl⟩) | (go_at_call 74; refine (HL.out _ _).mono ?_; rintro e w2 ⟨rfl, rfl⟩) | (go_at_call 75; refine (HB.out _ _).mono ?_; rintro e w2 ⟨rfl, rfl⟩))
  all_goals (go_wp2_with fail; go_ret; refine ⟨rfl, (heap_alloc_new _ _).trans (cells_eq ?_), by go_grown⟩; simp [e5] <;> rfl)

set_option maxHeartbeats 3200000 in
set_option maxRecDepth 100000 in
theorem l6Block_4 (k0 a0 a1 : Int) (bk ok ba oa ck ca : Nat) (w : World) (ek0 : w.cell? ⟨bk, ok + 0, none⟩ = some (.int .i64 k0)) (ea0 : w.cell? ⟨ba, oa + 0, none⟩ = some (.int .i64 a0)) (ea1 : w.cell? ⟨ba, oa + 1, none⟩ = some (.int .i64 a1)) :
    Calls Try.prog 46 #[.int .i64 4, .slice (some ⟨bk, ok, none⟩) 1 ck, .slice (some ⟨ba, oa, none⟩) 2 ca] w fun e w' => StepR w w' e [b01 (decide (a0 ≠ 0 ∨ (k0 ≠ 0 ∧ a1 = 0)))] := by
  have HS : Hid (∀ (x : Int) (w : World), Calls Try.prog 72 #[.int .i64 x] w fun e w' => e = .returned (.int .i64 (sg x)) ∧ w' = w) := specSignedOf
  have HL : Hid (∀ (x : Int) (w : World), Calls Try.prog 74 #[.int .i64 x] w fun e w' => e = .returned (.int .i64 (b01 (decide (x ≠ 0)))) ∧ w' = w) := l6Least_any
  have HB : Hid (∀ (b : Bool) (w : World), Calls Try.prog 75 #[.bool b] w fun e w' => e = .returned (.int .i64 (b01 b)) ∧ w' = w) := fun b w => l2Bit_any b w
  have HW : Hid (∀ (x : Int) (w : World), Calls Try.prog 73 #[.int .i64 x] w fun e w' => e = .returned (.int .i64 (wd x)) ∧ w' = w) := specWordOf
  simp only [Nat.add_zero] at ek0 ea0
  by_cases h0 : a0 = 0
  · subst h0
    by_cases h1 : k0 = 0
    · subst h1
      go_enter Try.func46, Try.ntmps46
      go_wp2_with fail
      refine (HB.out _ _).mono ?_
      rintro e w2 ⟨rfl, rfl⟩
      all_goals (go_wp2_with fail; go_ret; refine ⟨rfl, (heap_alloc_new _ _).trans (cells_eq ?_), by go_grown⟩; simp <;> rfl)
    have e1 : (k0 != 0) = true := by simpa using h1
    have e5 : (decide (k0 = 0)) = false := decide_eq_false h1
    clear h1
    go_enter Try.func46, Try.ntmps46
    go_wp2_with fail
    refine (HB.out _ _).mono ?_
    rintro e w2 ⟨rfl, rfl⟩
    all_goals (go_wp2_with fail; go_ret; refine ⟨rfl, (heap_alloc_new _ _).trans (cells_eq ?_), by go_grown⟩; simp [e5] <;> rfl)
  have e1 : (a0 != 0) = true := by simpa using h0
  have e5 : (decide (a0 = 0)) = false := decide_eq_false h0
  clear h0
  go_enter Try.func46, Try.ntmps46
  go_wp2_with fail
  refine (HB.out _ _).mono ?_
  rintro e w2 ⟨rfl, rfl⟩
  all_goals (go_wp2_with fail; go_ret; refine ⟨rfl, (heap_alloc_new _ _).trans (cells_eq ?_), by go_grown⟩; simp [e5] <;> rfl)
end Go.Proofs.Ytalopffpaepaaaa
