/-
  spec.l6Block.
-/
import Derived.Test.YtalopffpaepaaaaSBlk
namespace Go.Proofs.Ytalopffpaepaaaa
open Go.RowKit
set_option linter.unusedVariables false

/-- what a step answers: a row of its own -/
def StepR (w w' : World) (e : Ending) (zs : List Int) : Prop := e = .returned (.slice (some ⟨w.heap.size, 0, none⟩) zs.length zs.length) ∧ w'.heap[w.heap.size]? = some (.cells (zs.map (Value.int .i64)).toArray 2 (0, 0)) ∧ Below w.heap.size w w'
theorem cells_eq {xs : List Value} {ys : List Int} {T : TypeId} (h : xs = ys.map (Value.int .i64)) : some (Obj.cells xs.toArray T (0, 0)) = some (Obj.cells (ys.map (Value.int .i64)).toArray T (0, 0)) := by rw [h]

set_option maxHeartbeats 3200000 in
set_option maxRecDepth 100000 in
theorem l6Block_1 (k0 k1 k2 a0 a1 a2 : Int) (bk ok ba oa ck ca : Nat) (w : World) (hk0 : 0 ≤ k0) (hk1 : k0 ≤ 65535) (ek0 : w.cell? ⟨bk, ok + 0, none⟩ = some (.int .i64 k0)) (ek1 : w.cell? ⟨bk, ok + 1, none⟩ = some (.int .i64 k1)) (ek2 : w.cell? ⟨bk, ok + 2, none⟩ = some (.int .i64 k2)) (ea0 : w.cell? ⟨ba, oa + 0, none⟩ = some (.int .i64 a0)) (ea1 : w.cell? ⟨ba, oa + 1, none⟩ = some (.int .i64 a1)) (ea2 : w.cell? ⟨ba, oa + 2, none⟩ = some (.int .i64 a2)) :
    Calls Try.prog 46 #[.int .i64 1, .slice (some ⟨bk, ok, none⟩) 3 ck, .slice (some ⟨ba, oa, none⟩) 3 ca] w fun e w' => StepR w w' e [ctuC k0 k1 a0 a1, b01 (decide (a0 ≠ 0)), b01 (decide (sg a2 ≤ sg (ctuC k0 k1 a0 a1)))] := by
  have HS : Hid (∀ (x : Int) (w : World), Calls Try.prog 72 #[.int .i64 x] w fun e w' => e = .returned (.int .i64 (sg x)) ∧ w' = w) := specSignedOf
  have HL : Hid (∀ (x : Int) (w : World), Calls Try.prog 74 #[.int .i64 x] w fun e w' => e = .returned (.int .i64 (b01 (decide (x ≠ 0)))) ∧ w' = w) := l6Least_any
  have HB : Hid (∀ (b : Bool) (w : World), Calls Try.prog 75 #[.bool b] w fun e w' => e = .returned (.int .i64 (b01 b)) ∧ w' = w) := fun b w => l2Bit_any b w
  have HW : Hid (∀ (x : Int) (w : World), Calls Try.prog 73 #[.int .i64 x] w fun e w' => e = .returned (.int .i64 (wd x)) ∧ w' = w) := specWordOf
  simp only [Nat.add_zero] at ek0 ea0
  obtain ⟨C, hC⟩ : ∃ C, C = ctuC k0 k1 a0 a1 := ⟨_, rfl⟩
  rw [← hC]
  have HC : Hid (C = ctuC k0 k1 a0 a1) := hC
  clear hC
  by_cases h1 : a1 = 0
  case neg =>
    have e1 : (a1 != 0) = true := by simpa using h1
    have e0 : Hid (C = 0) := by unfold Hid; rw [HC.out]; unfold ctuC; rw [if_pos h1]
    clear h1
    go_enter Try.func46, Try.ntmps46
    go_wp2_with fail
    go_region_held3 (fun Z => Z.cell? ⟨ba, oa, none⟩ = some (.int .i64 a0) ∧ Z.cell? ⟨ba, oa + 2, none⟩ = some (.int .i64 a2)) (go_keep) (first | (go_at_call 72; refine (HS.out _ _).mono ?_; rintro e w2 ⟨rfl, rfl⟩) | (go_at_call 74; refine (HL.out _ _).mono ?_; rintro e w2 ⟨rfl, rfl⟩) | (go_at_call 75; refine (HB.out _ _).mono ?_; rintro e w2 ⟨rfl, rfl⟩))
    go_wp2_with fail
    go_ret
    refine ⟨rfl, (heap_alloc_new w _).trans (cells_eq ?_), by go_grown⟩
    rw [e0.out]; simp
  subst h1
  by_cases h0 : a0 = 0
  · subst h0
    have e0 : Hid (C = k0) := by unfold Hid; rw [HC.out]; unfold ctuC; rw [if_neg (by simp), if_neg (by simp)]
    go_enter Try.func46, Try.ntmps46
    go_wp2_with fail
    go_region_held3 (fun Z => Z.cell? ⟨ba, oa, none⟩ = some (.int .i64 0) ∧ Z.cell? ⟨ba, oa + 2, none⟩ = some (.int .i64 a2)) (go_keep) (first | (go_at_call 72; refine (HS.out _ _).mono ?_; rintro e w2 ⟨rfl, rfl⟩) | (go_at_call 74; refine (HL.out _ _).mono ?_; rintro e w2 ⟨rfl, rfl⟩) | (go_at_call 75; refine (HB.out _ _).mono ?_; rintro e w2 ⟨rfl, rfl⟩))
    go_wp2_with fail
    go_ret
    refine ⟨rfl, (heap_alloc_new w _).trans (cells_eq ?_), by go_grown⟩
    rw [e0.out]; simp
  have e1 : (a0 != 0) = true := by simpa using h0
  have e2 : (decide (a0 = 0)) = false := decide_eq_false h0
  by_cases hk : k1 = 0
  case neg =>
    have e3 : (k1 == 0) = false := by simpa using hk
    have e0 : Hid (C = k0) := by unfold Hid; rw [HC.out]; unfold ctuC; rw [if_neg (by simp), if_neg (fun h => hk h.2.1)]
    clear hk h0
    go_enter Try.func46, Try.ntmps46
    go_wp2_with fail
    go_region_held3 (fun Z => Z.cell? ⟨ba, oa, none⟩ = some (.int .i64 a0) ∧ Z.cell? ⟨ba, oa + 2, none⟩ = some (.int .i64 a2)) (go_keep) (first | (go_at_call 72; refine (HS.out _ _).mono ?_; rintro e w2 ⟨rfl, rfl⟩) | (go_at_call 74; refine (HL.out _ _).mono ?_; rintro e w2 ⟨rfl, rfl⟩) | (go_at_call 75; refine (HB.out _ _).mono ?_; rintro e w2 ⟨rfl, rfl⟩))
    go_wp2_with fail
    go_ret
    refine ⟨rfl, (heap_alloc_new w _).trans (cells_eq ?_), by go_grown⟩
    rw [e0.out]; simp [e2]
  subst hk
  by_cases hs : sg k0 < 32767
  case neg =>
    have e3 : decide (sg k0 < 32767) = false := decide_eq_false hs
    have e0 : Hid (C = k0) := by unfold Hid; rw [HC.out]; unfold ctuC; rw [if_neg (by simp), if_neg (fun h => hs h.2.2)]
    clear hs h0
    go_enter Try.func46, Try.ntmps46
    go_wp2_with fail
    refine (HS.out _ _).mono ?_
    rintro e w2 ⟨rfl, rfl⟩
    go_wp2_with fail
    go_region_held3 (fun Z => Z.cell? ⟨ba, oa, none⟩ = some (.int .i64 a0) ∧ Z.cell? ⟨ba, oa + 2, none⟩ = some (.int .i64 a2)) (go_keep) (first | (go_at_call 72; refine (HS.out _ _).mono ?_; rintro e w2 ⟨rfl, rfl⟩) | (go_at_call 74; refine (HL.out _ _).mono ?_; rintro e w2 ⟨rfl, rfl⟩) | (go_at_call 75; refine (HB.out _ _).mono ?_; rintro e w2 ⟨rfl, rfl⟩))
    go_wp2_with fail
    go_ret
    refine ⟨rfl, (heap_alloc_new _ _).trans (cells_eq ?_), by go_grown⟩
    rw [e0.out]; simp [e2]
  have e3 : decide (sg k0 < 32767) = true := decide_eq_true hs
  have e0 : Hid (C = wd (k0 + 1)) := by unfold Hid; rw [HC.out]; unfold ctuC; rw [if_neg (by simp), if_pos ⟨h0, rfl, hs⟩]
  clear hs h0
  go_enter Try.func46, Try.ntmps46
  go_wp2_with fail
  refine (HS.out _ _).mono ?_
  rintro e w2 ⟨rfl, rfl⟩
  go_wp2_with fail
  refine (HW.out _ _).mono ?_
  rintro e w3 ⟨rfl, rfl⟩
  go_wp2_with fail
  go_region_held3 (fun Z => Z.cell? ⟨ba, oa, none⟩ = some (.int .i64 a0) ∧ Z.cell? ⟨ba, oa + 2, none⟩ = some (.int .i64 a2)) (go_keep) (first | (go_at_call 72; refine (HS.out _ _).mono ?_; rintro e w2 ⟨rfl, rfl⟩) | (go_at_call 74; refine (HL.out _ _).mono ?_; rintro e w2 ⟨rfl, rfl⟩) | (go_at_call 75; refine (HB.out _ _).mono ?_; rintro e w2 ⟨rfl, rfl⟩))
  go_wp2_with fail
  go_ret
  refine ⟨rfl, (heap_alloc_new _ _).trans (cells_eq ?_), by go_grown⟩
  rw [e0.out]; simp [e2]
end Go.Proofs.Ytalopffpaepaaaa
