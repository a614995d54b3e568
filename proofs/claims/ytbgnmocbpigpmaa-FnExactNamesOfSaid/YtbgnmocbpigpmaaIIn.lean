/-
  impl.within, isPlace, isExpression, isStatement, fitsWord.
-/
import Derived.Test.YtbgnmocbpigpmaaFaultM
namespace Go.Proofs.Ytbgnmocbpigpmaa
open Go.RowKit
set_option linter.unusedVariables false

set_option maxHeartbeats 800000 in
theorem within_any (z a b : Int) (w : World) :
    Calls Try.prog 62 #[.int .i64 z, .int .i64 a, .int .i64 b] w fun e w' => e = .returned (.bool (inB z a b)) ∧ w' = w := by
  by_cases h1 : a ≤ z
  · by_cases h2 : z ≤ b
    · have e : inB z a b = true := inB_iff.2 ⟨h1, h2⟩
      rw [e]
      go_enter Try.func62, Try.ntmps62
      go_wp2
      go_ret
      exact ⟨rfl, rfl⟩
    · have e : inB z a b = false := inB_no.2 (fun h => h2 h.2)
      rw [e]
      go_enter Try.func62, Try.ntmps62
      go_wp2
      go_ret
      exact ⟨rfl, rfl⟩
  · have e : inB z a b = false := inB_no.2 (fun h => h1 h.1)
    rw [e]
    go_enter Try.func62, Try.ntmps62
    go_wp2
    go_ret
    exact ⟨rfl, rfl⟩

theorem within_as (z a b b' : Int) (h : b' = b) (w : World) :
    Calls Try.prog 62 #[.int .i64 z, .int .i64 a, .int .i64 b'] w fun e w' => e = .returned (.bool (inB z a b)) ∧ w' = w := by
  subst h; exact within_any z a b' w

set_option maxHeartbeats 800000 in
theorem isExpression_any (z : Int) (w : World) : Calls Try.prog 149 #[.int .i64 z] w fun e w' => e = .returned (.bool (inB z 1 6)) ∧ w' = w := by
  have H : Hid (∀ w, Calls Try.prog 62 #[.int .i64 z, .int .i64 1, .int .i64 6] w fun e w' => e = .returned (.bool (inB z 1 6)) ∧ w' = w) := fun w => within_any z 1 6 w
  go_enter Try.func149, Try.ntmps149
  go_wp2_with fail
  refine (H.out _).mono ?_
  rintro e w' ⟨rfl, rfl⟩
  go_wp2_with fail
  go_ret
  exact ⟨rfl, rfl⟩
set_option maxHeartbeats 800000 in
theorem isStatement_any (z : Int) (w : World) : Calls Try.prog 125 #[.int .i64 z] w fun e w' => e = .returned (.bool (inB z 7 11)) ∧ w' = w := by
  have H : Hid (∀ w, Calls Try.prog 62 #[.int .i64 z, .int .i64 7, .int .i64 11] w fun e w' => e = .returned (.bool (inB z 7 11)) ∧ w' = w) := fun w => within_any z 7 11 w
  go_enter Try.func125, Try.ntmps125
  go_wp2_with fail
  refine (H.out _).mono ?_
  rintro e w' ⟨rfl, rfl⟩
  go_wp2_with fail
  go_ret
  exact ⟨rfl, rfl⟩
set_option maxHeartbeats 800000 in
theorem isPlace_any (a : Option Addr) (n c : Nat) (z : Int) (w : World) (hn : n ≤ 1048577) : Calls Try.prog 51 #[.slice a n c, .int .i64 z] w fun e w' => e = .returned (.bool (inB z 0 ((n : Int) - 1))) ∧ w' = w := by
  have H2 : Hid (∀ w, Calls Try.prog 62 #[.int .i64 z, .int .i64 0, .int .i64 ((n : Int) - 1)] w fun e w' => e = .returned (.bool (inB z 0 ((n : Int) - 1))) ∧ w' = w) := fun w => within_any z 0 ((n : Int) - 1) w
  go_enter Try.func51, Try.ntmps51
  go_wp2_with fail
  refine (H2.out _).mono ?_
  rintro e w' ⟨rfl, rfl⟩
  go_wp2_with fail
  go_ret
  exact ⟨rfl, rfl⟩
set_option maxHeartbeats 800000 in
theorem fitsWord_any (z : Int) (w : World) :
    Calls Try.prog 123 #[.int .i64 z] w fun e w' => e = .returned (.bool (inB z 0 65535)) ∧ w' = w := by
  by_cases h1 : 0 ≤ z
  · by_cases h2 : z ≤ 65535
    · have e : inB z 0 65535 = true := inB_iff.2 ⟨h1, h2⟩
      rw [e]
      go_enter Try.func123, Try.ntmps123
      go_wp2
      go_ret
      exact ⟨rfl, rfl⟩
    · have e : inB z 0 65535 = false := inB_no.2 (fun h => h2 h.2)
      rw [e]
      go_enter Try.func123, Try.ntmps123
      go_wp2
      go_ret
      exact ⟨rfl, rfl⟩
  · have e : inB z 0 65535 = false := inB_no.2 (fun h => h1 h.1)
    rw [e]
    go_enter Try.func123, Try.ntmps123
    go_wp2
    go_ret
    exact ⟨rfl, rfl⟩

end Go.Proofs.Ytbgnmocbpigpmaa
