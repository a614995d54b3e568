/-
  impl and spec: NegOf, NotOf.
-/
import Derived.Test.YtlofagpffeaebaaReck0
namespace Go.Proofs.Ytlofagpffeaebaa
open Go.RowKit
theorem neg_wd (x : Int) : wd (-(wd x)) = wd (-x) := by unfold wd; omega
def nt (x : Int) : Int := if wd x = 0 then 1 else 0

set_option maxHeartbeats 400000 in
theorem implNegOf (x : Int) (w : World) : Calls Try.prog 108 #[.int .i64 x] w fun e w' => e = .returned (.int .i64 (wd (-x))) ∧ w' = w := by
  go_enter Try.func108, Try.ntmps108
  go_wp2
  go_ret
  refine ⟨ret64 ?_, rfl⟩
  rw [wrap_wd, wrap_wd, neg_wd, w64_wd]
set_option maxHeartbeats 400000 in
theorem specNegOf (x : Int) (w : World) : Calls Try.prog 128 #[.int .i64 x] w fun e w' => e = .returned (.int .i64 (wd (-x))) ∧ w' = w := by
  have h1 := sg_lo x
  have h2 := sg_hi x
  go_enter Try.func128, Try.ntmps128
  go_wp2_with fail
  refine (specSignedOf _ _).mono ?_
  rintro e w1 ⟨rfl, rfl⟩
  go_wp2_with fail
  refine (specWordOf _ _).mono ?_
  rintro e w1 ⟨rfl, rfl⟩
  go_wp2
  go_ret
  refine ⟨ret64 ?_, rfl⟩
  exact wd_neg_sg x
set_option maxHeartbeats 400000 in
theorem implNotOf (x : Int) (w : World) : Calls Try.prog 109 #[.int .i64 x] w fun e w' => e = .returned (.int .i64 (nt x)) ∧ w' = w := by
  go_enter Try.func109, Try.ntmps109
  go_wp2_with fail
  refine (oneIf_any _ _).mono ?_
  rintro e w1 ⟨rfl, rfl⟩
  go_wp2
  · go_ret
    refine ⟨ret64 ?_, rfl⟩
    rw [wrap_wd] at h
    exact (if_pos h).symm
  · go_ret
    refine ⟨ret64 ?_, rfl⟩
    rw [wrap_wd] at h
    exact (if_neg h).symm
set_option maxHeartbeats 400000 in
theorem specNotOf (x : Int) (w : World) : Calls Try.prog 129 #[.int .i64 x] w fun e w' => e = .returned (.int .i64 (nt x)) ∧ w' = w := by
  by_cases h : wd x = 0
  · have hn : nt x = 1 := if_pos h
    rw [hn]
    have hb : (wd x == 0) = true := by rw [h]; rfl
    go_enter Try.func129, Try.ntmps129
    go_wp2_with fail
    refine (specWordOf _ _).mono ?_
    rintro e w1 ⟨rfl, rfl⟩
    go_wp2
    go_ret
    exact ⟨rfl, rfl⟩
  · have hn : nt x = 0 := if_neg h
    rw [hn]
    have hb : (wd x == 0) = false := by simpa using h
    go_enter Try.func129, Try.ntmps129
    go_wp2_with fail
    refine (specWordOf _ _).mono ?_
    rintro e w1 ⟨rfl, rfl⟩
    go_wp2
    go_ret
    exact ⟨rfl, rfl⟩
end Go.Proofs.Ytlofagpffeaebaa
