/-
  impl's progress, which both machines embed: goesOn, inBounds, count; stackProgress.
-/
import Derived.Test.YtlofagpffeaebaaStkMem
import Derived.Test.YtlofagpffeaebaaStkRun
import Derived.Deep.RegionHeld3
import Derived.Deep.Cut
namespace Go.Proofs.Ytlofagpffeaebaa
open Go.RowKit
set_option linter.unusedVariables false

abbrev progV (m : SM) : Value := .agg #[.int .i64 m.pc, .int .i64 m.sig, .int .i64 m.used, .int .i64 m.trap, .bool m.done]
set_option maxHeartbeats 1600000 in
theorem pgoes_any (m : SM) (w : World) :
    Calls Try.prog 41 #[progV m] w fun e w' => e = .returned (.bool (goes m)) ∧ Below w.heap.size w w' := by
  obtain ⟨pc, st, ce, sg, us, t, d⟩ := m
  show Calls Try.prog 41 #[.agg #[.int .i64 pc, .int .i64 sg, .int .i64 us, .int .i64 t, .bool d]] w _
  have HG : Hid (goes ⟨pc, st, ce, sg, us, t, d⟩ = (!d && (t == 0))) := rfl
  generalize goes ⟨pc, st, ce, sg, us, t, d⟩ = g at *
  cases d
  · by_cases ht : t = 0
    · subst ht
      have e2 : g = true := HG.out
      subst e2
      clear HG
      go_enter Try.func41, Try.ntmps41
      go_wp2
      go_ret
      exact ⟨rfl, by go_grown⟩
    · have e : (t == 0) = false := by simpa using ht
      have e2 : g = false := by rw [HG.out, e]; rfl
      subst e2
      clear HG ht
      go_enter Try.func41, Try.ntmps41
      go_wp2
      go_ret
      exact ⟨rfl, by go_grown⟩
  · have e2 : g = false := HG.out
    subst e2
    clear HG
    go_enter Try.func41, Try.ntmps41
    go_wp2
    go_ret
    exact ⟨rfl, by go_grown⟩

set_option maxHeartbeats 800000 in
theorem fitsW_any (z : Int) (w : World) : Calls Try.prog 87 #[.int .i64 z] w fun e w' => e = .returned (.bool (inB z 0 65535)) ∧ w' = w := by
  cases h : inB z 0 65535
  · exact fitsWord_no z w (by have := inB_no.1 h; omega)
  · have := inB_iff.1 h
    exact fitsWord_yes z w this.1 this.2

def progFit (m : SM) : Bool := inB m.pc 0 65535 && inB m.sig 0 65535 && inB m.used 0 1000000 && inB m.trap 0 10
set_option maxHeartbeats 1600000 in
set_option maxRecDepth 100000 in
theorem pbounds_any (m : SM) (w : World) :
    Calls Try.prog 48 #[progV m] w fun e w' => e = .returned (.bool (progFit m)) ∧ Below w.heap.size w w' := by
  obtain ⟨pc, st, ce, sg, us, t, d⟩ := m
  show Calls Try.prog 48 #[.agg #[.int .i64 pc, .int .i64 sg, .int .i64 us, .int .i64 t, .bool d]] w _
  have HP : Hid (∀ W, Calls Try.prog 87 #[.int .i64 pc] W fun e w' => e = .returned (.bool (inB pc 0 65535)) ∧ w' = W) := fitsW_any pc
  have HG : Hid (∀ W, Calls Try.prog 87 #[.int .i64 sg] W fun e w' => e = .returned (.bool (inB sg 0 65535)) ∧ w' = W) := fitsW_any sg
  have HU : Hid (∀ W, Calls Try.prog 39 #[.int .i64 us, .int .i64 0, .int .i64 1000000] W fun e w' => e = .returned (.bool (inB us 0 1000000)) ∧ w' = W) := within_any us 0 1000000
  have HT : Hid (∀ W, Calls Try.prog 39 #[.int .i64 t, .int .i64 0, .int .i64 10] W fun e w' => e = .returned (.bool (inB t 0 10)) ∧ w' = W) := within_any t 0 10
  have HF : Hid (progFit ⟨pc, st, ce, sg, us, t, d⟩ = (inB pc 0 65535 && inB sg 0 65535 && inB us 0 1000000 && inB t 0 10)) := rfl
  generalize progFit ⟨pc, st, ce, sg, us, t, d⟩ = F at *
  generalize inB pc 0 65535 = q1 at *
  generalize inB sg 0 65535 = q2 at *
  generalize inB us 0 1000000 = q3 at *
  generalize inB t 0 10 = q4 at *
  have hq : (q1 = false) ∨ (q1 = true ∧ q2 = false) ∨ (q1 = true ∧ q2 = true ∧ q3 = false) ∨ (q1 = true ∧ q2 = true ∧ q3 = true ∧ q4 = false) ∨ (q1 = true ∧ q2 = true ∧ q3 = true ∧ q4 = true) := by
    cases q1 <;> cases q2 <;> cases q3 <;> cases q4 <;> simp
  rcases hq with rfl | ⟨rfl, rfl⟩ | ⟨rfl, rfl, rfl⟩ | ⟨rfl, rfl, rfl, rfl⟩ | ⟨rfl, rfl, rfl, rfl⟩
  all_goals
    have hF := HF.out
    simp only [Bool.and_true, Bool.false_and, Bool.and_false] at hF
    subst hF
    clear HF
    go_enter Try.func48, Try.ntmps48
    go_wp2_with (first | (with_reducible show Calls _ _ #[.int .i64 pc] _ _; refine (HP.out _).mono ?_; rintro e w4 ⟨rfl, rfl⟩) | (with_reducible show Calls _ _ #[.int .i64 sg] _ _; refine (HG.out _).mono ?_; rintro e w4 ⟨rfl, rfl⟩) | (with_reducible show Calls _ _ #[_, _, .int .i64 1000000] _ _; refine (HU.out _).mono ?_; rintro e w4 ⟨rfl, rfl⟩) | (with_reducible show Calls _ _ #[_, _, .int .i64 10] _ _; refine (HT.out _).mono ?_; rintro e w4 ⟨rfl, rfl⟩))
    go_ret
    exact ⟨rfl, by go_grown⟩

/-- Used is one more: k: where the progress begins -/
theorem pcount_any (p k : Nat) (u : Int) (w : World) (h0 : 0 ≤ u) (h1 : u ≤ 1000000) (hc : w.cell? ⟨p, k + 2, none⟩ = some (.int .i64 u)) (hf : w.frozen? ⟨p, k + 2, none⟩ = false) :
    Calls Try.prog 77 #[.pointer (some ⟨p, k, none⟩)] w fun e w' => e = .returned (.tuple #[]) ∧ w' = w.setCell ⟨p, k + 2, none⟩ (.int .i64 (if u + 1 ≤ 1000000 then u + 1 else 1000000)) := by
  by_cases h : u + 1 ≤ 1000000
  · rw [if_pos h]
    go_enter Try.func77, Try.ntmps77
    go_wp2_with fail
    all_goals
      first
        | (exfalso; omega)
        | (go_end0; exact ⟨rfl, rfl⟩)
  · rw [if_neg h]
    go_enter Try.func77, Try.ntmps77
    go_wp2_with fail
    all_goals
      first
        | (exfalso; omega)
        | (go_end0; exact ⟨rfl, rfl⟩)

abbrev machW (m : SM) (sv cv : Value) : Value := .agg #[.int .i64 m.pc, sv, cv, .int .i64 m.sig, .int .i64 m.used, .int .i64 m.trap, .bool m.done]
set_option maxHeartbeats 1600000 in
theorem sprog_any (m : SM) (a1 a2 : Option Addr) (n1 n2 k1 k2 : Nat) (w : World) :
    Calls Try.prog 47 #[machW m (.slice a1 n1 k1) (.slice a2 n2 k2)] w fun e w' => e = .returned (progV m) ∧ Below w.heap.size w w' := by
  go_enter Try.func47, Try.ntmps47
  go_wp2_with fail
  refine bodyPost_ret (v := progV m) (by simp [results, Try.results47, go_sem]) rfl ⟨rfl, ?_⟩
  go_grown
end Go.Proofs.Ytlofagpffeaebaa
