/-
  SignOf, ArgsOfStack, what an op takes and gives.
-/
import Derived.Test.YtlofagpffeaebaaStkM
import Derived.Deep.RegionHeld3
namespace Go.Proofs.Ytlofagpffeaebaa
open Go.RowKit
set_option linter.unusedVariables false

/-- a row's block behind a call -/
theorem blk8 {w w' : World} {g : Nat} {cs : Array Value} {T : TypeId} (h : w.heap[g]? = some (.cells cs T (0, 0))) (hb : Below w.heap.size w w') : w'.heap[g]? = some (.cells cs T (0, 0)) :=
  (hb.block g (Array.getElem?_eq_some_iff.1 h).1).trans h
set_option maxHeartbeats 400000 in
theorem implSignOf (s k : Int) (w : World) : Calls Try.prog 111 #[.int .i64 s, .int .i64 k] w fun e w' => e = .returned (.int .i64 (sgn s k)) ∧ w' = w := by
  have h1 := wd_lo s; have h2 := wd_hi s; have h3 := wd_lo k; have h4 := wd_hi k
  have HA : Hid (∀ W, Calls Try.prog 120 #[.int .i64 s] W fun e w' => e = .returned (.int .i64 (wd s)) ∧ w' = W) := implWordOf s
  have HB : Hid (∀ W, Calls Try.prog 120 #[.int .i64 k] W fun e w' => e = .returned (.int .i64 (wd k)) ∧ w' = W) := implWordOf k
  have HE : Hid (sgn s k = (wd s * 31 + wd k + 1) % 65521) := rfl
  generalize wd s = a at *
  generalize wd k = b at *
  rw [HE.out]
  clear HE
  go_enter Try.func111, Try.ntmps111
  go_wp2_with fail
  refine (HA.out _).mono ?_
  rintro e w1 ⟨rfl, rfl⟩
  go_wp2_with fail
  refine (HB.out _).mono ?_
  rintro e w1 ⟨rfl, rfl⟩
  go_wp2_with fail
  go_ret
  exact ⟨rfl, rfl⟩
set_option maxHeartbeats 400000 in
theorem specSignOf (s k : Int) (w : World) : Calls Try.prog 131 #[.int .i64 s, .int .i64 k] w fun e w' => e = .returned (.int .i64 (sgn s k)) ∧ w' = w := by
  have h1 := wd_lo s; have h2 := wd_hi s; have h3 := wd_lo k; have h4 := wd_hi k
  have HA : Hid (∀ W, Calls Try.prog 144 #[.int .i64 s] W fun e w' => e = .returned (.int .i64 (wd s)) ∧ w' = W) := specWordOf s
  have HB : Hid (∀ W, Calls Try.prog 144 #[.int .i64 k] W fun e w' => e = .returned (.int .i64 (wd k)) ∧ w' = W) := specWordOf k
  have HE : Hid (sgn s k = (wd s * 31 + wd k + 1) % 65521) := rfl
  generalize wd s = a at *
  generalize wd k = b at *
  rw [HE.out]
  clear HE
  go_enter Try.func131, Try.ntmps131
  go_wp2_with fail
  refine (HA.out _).mono ?_
  rintro e w1 ⟨rfl, rfl⟩
  go_wp2_with fail
  refine (HB.out _).mono ?_
  rintro e w1 ⟨rfl, rfl⟩
  go_wp2_with fail
  go_ret
  exact ⟨rfl, rfl⟩

set_option maxHeartbeats 800000 in
theorem within_any (z a b : Int) (w : World) : Calls Try.prog 39 #[.int .i64 z, .int .i64 a, .int .i64 b] w fun e w' => e = .returned (.bool (inB z a b)) ∧ w' = w := by
  by_cases h1 : a ≤ z
  · by_cases h2 : z ≤ b
    · have e : inB z a b = true := inB_iff.2 ⟨h1, h2⟩
      rw [e]
      go_enter Try.func39, Try.ntmps39
      go_wp2
      go_ret
      exact ⟨rfl, rfl⟩
    · have e : inB z a b = false := inB_no.2 (fun h => h2 h.2)
      rw [e]
      go_enter Try.func39, Try.ntmps39
      go_wp2
      go_ret
      exact ⟨rfl, rfl⟩
  · have e : inB z a b = false := inB_no.2 (fun h => h1 h.1)
    rw [e]
    go_enter Try.func39, Try.ntmps39
    go_wp2
    go_ret
    exact ⟨rfl, rfl⟩

set_option maxHeartbeats 800000 in
theorem l8Args_any (op : Int) (w : World) : Calls Try.prog 73 #[.int .i64 op] w fun e w' => e = .returned (.int .i64 (argN op)) ∧ w' = w := by
  by_cases h4 : op = 4
  · subst h4; go_enter Try.func73, Try.ntmps73; go_wp2; go_ret; exact ⟨rfl, rfl⟩
  by_cases h5 : op = 5
  · subst h5; go_enter Try.func73, Try.ntmps73; go_wp2; go_ret; exact ⟨rfl, rfl⟩
  by_cases h7 : op = 7
  · subst h7; go_enter Try.func73, Try.ntmps73; go_wp2; go_ret; exact ⟨rfl, rfl⟩
  by_cases h8 : op = 8
  · subst h8; go_enter Try.func73, Try.ntmps73; go_wp2; go_ret; exact ⟨rfl, rfl⟩
  by_cases h9 : op = 9
  · subst h9; go_enter Try.func73, Try.ntmps73; go_wp2; go_ret; exact ⟨rfl, rfl⟩
  by_cases h13 : op = 13
  · subst h13; go_enter Try.func73, Try.ntmps73; go_wp2; go_ret; exact ⟨rfl, rfl⟩
  have e : argN op = 1 := by unfold argN; rw [if_neg (by omega), if_neg (by omega)]
  have e4 : (op == 4) = false := by simpa using h4
  have e5 : (op == 5) = false := by simpa using h5
  have e7 : (op == 7) = false := by simpa using h7
  have e8 : (op == 8) = false := by simpa using h8
  have e9 : (op == 9) = false := by simpa using h9
  have e13 : (op == 13) = false := by simpa using h13
  rw [e]
  clear e h4 h5 h7 h8 h9 h13
  go_enter Try.func73, Try.ntmps73
  go_wp2
  go_ret
  exact ⟨rfl, rfl⟩
end Go.Proofs.Ytlofagpffeaebaa
