/-
  impl.isExpressionPlace.
-/
import Derived.Test.YtbgnmocbpigpmaaIIn
namespace Go.Proofs.Ytbgnmocbpigpmaa
open Go.RowKit
set_option linter.unusedVariables false

set_option maxHeartbeats 1600000 in
theorem iep_no (a : Option Addr) (n c : Nat) (z : Int) (w : World) (hn : n ≤ 1048577) (hq : inB z 0 ((n : Int) - 1) = false) : Calls Try.prog 124 #[.slice a n c, .int .i64 z] w fun e w' => e = .returned (.bool false) ∧ w' = w := by
  have hI : Hid (∀ w, Calls Try.prog 51 #[.slice a n c, .int .i64 z] w fun e w' => e = .returned (.bool false) ∧ w' = w) := fun w => by have h := isPlace_any a n c z w hn; rwa [hq] at h
  clear hq
  go_enter Try.func124, Try.ntmps124
  go_wp2_with fail
  refine (hI.out _).mono ?_
  rintro e w1 ⟨rfl, rfl⟩
  go_wp2_with fail
  go_ret
  exact ⟨rfl, rfl⟩

set_option maxHeartbeats 1600000 in
theorem iep_yes (g o n c j : Nat) (kd : Int) (w : World) (hn : n ≤ 1048577) (hj : j < n) (d0 : w.cell? ⟨g, o + j * 8, none⟩ = some (.int .i64 kd)) : Calls Try.prog 124 #[.slice (some ⟨g, o, none⟩) n c, .int .i64 (j : Int)] w fun e w' => e = .returned (.bool (inB kd 1 6)) ∧ w' = w := by
  have hq : inB (j : Int) 0 ((n : Int) - 1) = true := inB_iff.2 ⟨by omega, by omega⟩
  have hI : Hid (∀ w, Calls Try.prog 51 #[.slice (some ⟨g, o, none⟩) n c, .int .i64 (j : Int)] w fun e w' => e = .returned (.bool true) ∧ w' = w) := fun w => by have h := isPlace_any (some ⟨g, o, none⟩) n c (j : Int) w hn; rwa [hq] at h
  have HX : Hid (∀ w, Calls Try.prog 149 #[.int .i64 kd] w fun e w' => e = .returned (.bool (inB kd 1 6)) ∧ w' = w) := fun w => isExpression_any kd w
  generalize inB kd 1 6 = r at *
  have hj0 : (0 : Int) ≤ (j : Int) := by omega
  have hj1 : (j : Int) < (n : Int) := by omega
  clear hq hj
  go_enter Try.func124, Try.ntmps124
  go_wp2_with fail
  refine (hI.out _).mono ?_
  rintro e w1 ⟨rfl, rfl⟩
  go_wp2_with fail
  refine (HX.out _).mono ?_
  rintro e w1 ⟨rfl, rfl⟩
  go_wp2_with fail
  go_ret
  exact ⟨rfl, rfl⟩
end Go.Proofs.Ytbgnmocbpigpmaa
