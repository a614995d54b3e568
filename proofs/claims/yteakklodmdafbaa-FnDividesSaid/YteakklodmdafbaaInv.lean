/-
  impl.BinaryInv, spec.BinaryOf and spec.BinaryInv answer the plain code and word; two equal results are found equal.
-/
import Derived.Test.YteakklodmdafbaaBin
import Derived.Test.YteakklodmdafbaaSBin
namespace Go.Proofs.Yteakklodmdafbaa
open Go.RowKit
set_option linter.unusedVariables false

set_option maxHeartbeats 400000 in
theorem specBin_any (op a b : Int) (w : World) : Calls Try.prog 17 #[.int .i64 op, .int .i64 a, .int .i64 b] w fun e w' => e = .returned (res (binC op b) (binV op a b)) ∧ Below w.heap.size w w' := by
  have h1 := binV_lo op a b
  have h2 := binV_hi op a b
  go_enter Try.func17, Try.ntmps17
  go_wp2_with (go_at_call 36; refine (l2_any _ _ _ _).mono ?_; rintro e w' ⟨rfl, rfl⟩)
  go_returns
  exact ⟨rfl, by go_grown⟩

/-- what BinaryInv answers -/
def invC (op b : Int) : Int := binC op (cm b)
def invV (op a b : Int) : Int := if invC op b = 0 then cm (binV op (cm a) (cm b)) else 0
theorem bin_none (op a b : Int) (h : binC op b ≠ 0) : binV op a b = 0 := if_neg h

set_option maxHeartbeats 800000 in
theorem implInv_any (op a b : Int) (w : World) : Calls Try.prog 15 #[.int .i64 op, .int .i64 a, .int .i64 b] w fun e w' => e = .returned (res (invC op b) (invV op a b)) ∧ Below w.heap.size w w' := by
  by_cases hc : binC op (cm b) = 0
  · have hv : invV op a b = cm (binV op (cm a) (cm b)) := if_pos hc
    have hC : invC op b = 0 := hc
    rw [hv, hC]
    have hres : Hid (∀ w, Calls Try.prog 14 #[.int .i64 op, .int .i64 (cm a), .int .i64 (cm b)] w fun e w' => e = .returned (res 0 (binV op (cm a) (cm b))) ∧ Below w.heap.size w w') := by
      intro w; have h := implBin_any op (cm a) (cm b) w; rw [hc] at h; exact h
    clear hc hv hC
    go_enter Try.func15, Try.ntmps15
    go_wp2_with (first | (go_at_call 16; refine (implComplement _ _).mono ?_; rintro e w' ⟨rfl, rfl⟩) | (go_at_call 14; refine (hres.out _).mono ?_; rintro e w' ⟨rfl, hb⟩; obtain ⟨hc0, hc1, hf0, hf1, hz⟩ := own2 hb; have hB := back hb; clear hb))
    refine bodyPost_ret (v := res 0 (cm (binV op (cm a) (cm b)))) (by simp [results, Try.results15, go_sem, hc0, hc1, hz]) rfl ⟨rfl, ?_⟩
    go_grown
  · have hv : invV op a b = 0 := if_neg hc
    have hC : invC op b = binC op (cm b) := rfl
    rw [hv, hC]
    have hres : Hid (∀ w, Calls Try.prog 14 #[.int .i64 op, .int .i64 (cm a), .int .i64 (cm b)] w fun e w' => e = .returned (res (binC op (cm b)) 0) ∧ Below w.heap.size w w') := by
      intro w; have h := implBin_any op (cm a) (cm b) w; rw [bin_none op (cm a) (cm b) hc] at h; exact h
    have hnb : (binC op (cm b) != 0) = true := by simpa using hc
    clear hc hv hC
    generalize binC op (cm b) = C at *
    go_enter Try.func15, Try.ntmps15
    go_wp2_with (first | (go_at_call 16; refine (implComplement _ _).mono ?_; rintro e w' ⟨rfl, rfl⟩) | (go_at_call 14; refine (hres.out _).mono ?_; rintro e w' ⟨rfl, hb⟩; obtain ⟨hc0, hc1, hf0, hf1, hz⟩ := own2 hb; have hB := back hb; clear hb))
    refine bodyPost_ret (v := res C 0) (by simp [results, Try.results15, go_sem, hc0, hc1, hz]) rfl ⟨rfl, ?_⟩
    go_grown

set_option maxHeartbeats 800000 in
theorem specInv_any (op a b : Int) (w : World) : Calls Try.prog 29 #[.int .i64 op, .int .i64 a, .int .i64 b] w fun e w' => e = .returned (res (invC op b) (invV op a b)) ∧ Below w.heap.size w w' := by
  have hl := l2_any op (cm a) (cm b)
  by_cases hc : binC op (cm b) = 0
  · have hv : invV op a b = cm (binV op (cm a) (cm b)) := if_pos hc
    have hC : invC op b = 0 := hc
    rw [hv, hC]
    rw [hc] at hl
    have HL : Hid (∀ w, Calls Try.prog 36 #[.int .i64 op, .int .i64 (cm a), .int .i64 (cm b)] w fun e w' => e = .returned (.tuple #[.int .i64 (binV op (cm a) (cm b)), .int .i64 0]) ∧ w' = w) := hl
    clear hc hv hC hl
    generalize binV op (cm a) (cm b) = V at *
    have h1 := cm_lo V
    have h2 := cm_hi V
    go_enter Try.func29, Try.ntmps29
    go_wp2_with (first | (go_at_call 26; refine (specComplement _ _).mono ?_; rintro e w' ⟨rfl, rfl⟩) | (go_at_call 36; refine (HL.out _).mono ?_; rintro e w' ⟨rfl, rfl⟩))
    go_returns
    exact ⟨rfl, by go_grown⟩
  · have hv : invV op a b = 0 := if_neg hc
    have hC : invC op b = binC op (cm b) := rfl
    rw [hv, hC]
    have HL : Hid (∀ w, Calls Try.prog 36 #[.int .i64 op, .int .i64 (cm a), .int .i64 (cm b)] w fun e w' => e = .returned (.tuple #[.int .i64 (binV op (cm a) (cm b)), .int .i64 (binC op (cm b))]) ∧ w' = w) := hl
    have hnb : (binC op (cm b) != 0) = true := by simpa using hc
    clear hc hv hC hl
    generalize binC op (cm b) = C at *
    generalize binV op (cm a) (cm b) = V at *
    go_enter Try.func29, Try.ntmps29
    go_wp2_with (first | (go_at_call 26; refine (specComplement _ _).mono ?_; rintro e w' ⟨rfl, rfl⟩) | (go_at_call 36; refine (HL.out _).mono ?_; rintro e w' ⟨rfl, rfl⟩))
    go_returns
    exact ⟨rfl, by go_grown⟩

set_option maxHeartbeats 400000 in
theorem eqRes_any (a b : Int) (w : World) :
    Calls Try.prog 27 #[res a b, res a b] w fun e w' => e = .returned (.bool true) ∧ Below w.heap.size w w' := by
  go_enter Try.func27, Try.ntmps27
  go_wp2
  go_ret
  exact ⟨rfl, by go_grown⟩
end Go.Proofs.Yteakklodmdafbaa
