/-
  spec.l10Args, ArgsOfRegs.
-/
import Derived.Test.YtjofghelenfklaaRgM
import Derived.Test.YtjofghelenfklaaStkSm
namespace Go.Proofs.Ytjofghelenfklaa
open Go.RowKit
set_option linter.unusedVariables false

set_option maxHeartbeats 800000 in
theorem l10Args_any (op : Int) (w : World) : Calls Try.prog 93 #[.int .i64 op] w fun e w' => e = .returned (.int .i64 (argR op)) ∧ w' = w := by
  by_cases h4 : op = 4
  · subst h4; go_enter Try.func93, Try.ntmps93; go_wp2; go_ret; exact ⟨rfl, rfl⟩
  by_cases h5 : op = 5
  · subst h5; go_enter Try.func93, Try.ntmps93; go_wp2; go_ret; exact ⟨rfl, rfl⟩
  by_cases h6 : op = 6
  · subst h6; go_enter Try.func93, Try.ntmps93; go_wp2; go_ret; exact ⟨rfl, rfl⟩
  by_cases h9 : op = 9
  · subst h9; go_enter Try.func93, Try.ntmps93; go_wp2; go_ret; exact ⟨rfl, rfl⟩
  by_cases h10 : op = 10
  · subst h10; go_enter Try.func93, Try.ntmps93; go_wp2; go_ret; exact ⟨rfl, rfl⟩
  by_cases h12 : op = 12
  · subst h12; go_enter Try.func93, Try.ntmps93; go_wp2; go_ret; exact ⟨rfl, rfl⟩
  by_cases h13 : op = 13
  · subst h13; go_enter Try.func93, Try.ntmps93; go_wp2; go_ret; exact ⟨rfl, rfl⟩
  have e : argR op = 2 := by unfold argR; rw [if_neg (by omega), if_neg (by omega), if_neg (by omega)]
  have e4 : (op == 4) = false := by simpa using h4
  have e5 : (op == 5) = false := by simpa using h5
  have e6 : (op == 6) = false := by simpa using h6
  have e9 : (op == 9) = false := by simpa using h9
  have e10 : (op == 10) = false := by simpa using h10
  have e12 : (op == 12) = false := by simpa using h12
  have e13 : (op == 13) = false := by simpa using h13
  rw [e]
  clear e h4 h5 h6 h9 h10 h12 h13
  go_enter Try.func93, Try.ntmps93
  go_wp2
  go_ret
  exact ⟨rfl, rfl⟩
set_option maxHeartbeats 800000 in
theorem specArgsR (op : Int) (w : World) : Calls Try.prog 43 #[.int .i64 op] w fun e w' => e = .returned (.agg #[.int .i64 (if inB op 1 13 then 0 else 3), .int .i64 (if inB op 1 13 then argR op else 0)]) ∧ Below w.heap.size w w' := by
  have HI : Hid (∀ W, Calls Try.prog 71 #[.int .i64 op, .int .i64 1, .int .i64 13] W fun e w' => e = .returned (.bool (inB op 1 13)) ∧ w' = W) := l1In_any op 1 13
  have HO : Hid (∀ W, Calls Try.prog 93 #[.int .i64 op] W fun e w' => e = .returned (.int .i64 (argR op)) ∧ w' = W) := l10Args_any op
  generalize argR op = A at *
  cases hq : inB op 1 13
  · rw [hq] at HI
    go_enter Try.func43, Try.ntmps43
    go_wp2_with fail
    refine (HI.out _).mono ?_
    rintro e w1 ⟨rfl, rfl⟩
    go_wp2_with fail
    refine bodyPost_ret (v := .agg #[.int .i64 3, .int .i64 0]) (by simp [results, Try.results43, go_sem]) rfl ⟨rfl, ?_⟩
    go_grown
  · rw [hq] at HI
    go_enter Try.func43, Try.ntmps43
    go_wp2_with fail
    refine (HI.out _).mono ?_
    rintro e w1 ⟨rfl, rfl⟩
    go_wp2_with fail
    refine (HO.out _).mono ?_
    rintro e w1 ⟨rfl, rfl⟩
    go_wp2_with fail
    refine bodyPost_ret (v := .agg #[.int .i64 0, .int .i64 A]) (by simp [results, Try.results43, go_sem]) rfl ⟨rfl, ?_⟩
    go_grown
end Go.Proofs.Ytjofghelenfklaa
