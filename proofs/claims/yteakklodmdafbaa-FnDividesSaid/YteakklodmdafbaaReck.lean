/-
  impl and spec: SignedOf, WordOf, Complement, NegOf, NotOf answer the plain word at every number.
-/
import Derived.Test.YteakklodmdafbaaBase
import Derived.Test.YteakklodmdafbaaWord
namespace Go.Proofs.Yteakklodmdafbaa
open Go.RowKit

theorem ret64 {a b : Int} (h : a = b) : Ending.returned (.int .i64 a) = Ending.returned (.int .i64 b) := by rw [h]
theorem ret16 {a b : Int} (h : a = b) : Ending.returned (.int .u16 a) = Ending.returned (.int .u16 b) := by rw [h]
theorem w64_wd (x : Int) : wrap64 (wd x) = wd x := by have := wd_lo x; have := wd_hi x; unfold wrap64; omega
theorem w64_sg (x : Int) : wrap64 (sg x) = sg x := by have := sg_lo x; have := sg_hi x; unfold wrap64; omega
theorem w64_cm (x : Int) : wrap64 (cm x) = cm x := by have := cm_lo x; have := cm_hi x; unfold wrap64; omega
theorem neg_wd (x : Int) : wd (-(wd x)) = wd (-x) := by unfold wd; omega
theorem xor_all (x : Int) : bits .xor .u16 IntKind.u16.max (wd x) = cm x := by
  have h1 := wd_lo x
  have h2 := wd_hi x
  have h3 : cm x = 65535 - wd x := rfl
  obtain ⟨n, hn⟩ := Int.eq_ofNat_of_zero_le h1
  rw [h3, hn, show IntKind.u16.max = ((65535 : Nat) : Int) from by rfl]
  rw [u16_xor_nat 65535 n (by omega) (by omega)]
  have e := both_or 65535 n
  have hl : 65535 ||| n < 2 ^ 16 := Nat.or_lt_two_pow (by omega) (by omega)
  have hg : 65535 ≤ 65535 ||| n := Nat.left_le_or
  have ha : 65535 &&& n = n % 2 ^ 16 := by rw [Nat.and_comm]; exact Nat.and_two_pow_sub_one_eq_mod n 16
  omega
def nt (x : Int) : Int := if wd x = 0 then 1 else 0

set_option maxHeartbeats 400000 in
theorem implWordOf (x : Int) (w : World) : Calls Try.prog 19 #[.int .i64 x] w fun e w' => e = .returned (.int .i64 (wd x)) ∧ w' = w := by
  go_enter Try.func19, Try.ntmps19
  go_wp2
  go_ret
  refine ⟨ret64 ?_, rfl⟩
  rw [wrap_wd, w64_wd]
set_option maxHeartbeats 400000 in
theorem specWordOf (x : Int) (w : World) : Calls Try.prog 20 #[.int .i64 x] w fun e w' => e = .returned (.int .i64 (wd x)) ∧ w' = w := by
  go_enter Try.func20, Try.ntmps20
  go_wp2
  go_ret
  refine ⟨ret64 ?_, rfl⟩
  rw [wrap_wd, w64_wd]
set_option maxHeartbeats 400000 in
theorem implSignedOf (x : Int) (w : World) : Calls Try.prog 23 #[.int .i64 x] w fun e w' => e = .returned (.int .i64 (sg x)) ∧ w' = w := by
  go_enter Try.func23, Try.ntmps23
  go_wp2
  go_ret
  refine ⟨ret64 ?_, rfl⟩
  rw [wrap_sg, w64_sg]
set_option maxHeartbeats 400000 in
theorem specSignedOf (x : Int) (w : World) : Calls Try.prog 25 #[.int .i64 x] w fun e w' => e = .returned (.int .i64 (sg x)) ∧ w' = w := by
  go_enter Try.func25, Try.ntmps25
  go_wp2
  go_ret
  refine ⟨ret64 ?_, rfl⟩
  rw [wrap_sg, wrap_wd, sg_wd, w64_sg]
set_option maxHeartbeats 400000 in
theorem implComplement (x : Int) (w : World) : Calls Try.prog 16 #[.int .i64 x] w fun e w' => e = .returned (.int .i64 (cm x)) ∧ w' = w := by
  go_enter Try.func16, Try.ntmps16
  go_wp2
  go_ret
  refine ⟨ret64 ?_, rfl⟩
  rw [wrap_wd, xor_all, w64_cm]
set_option maxHeartbeats 400000 in
theorem specComplement (x : Int) (w : World) : Calls Try.prog 26 #[.int .i64 x] w fun e w' => e = .returned (.int .i64 (cm x)) ∧ w' = w := by
  have h1 := wd_lo x
  have h2 := wd_hi x
  go_enter Try.func26, Try.ntmps26
  go_wp2_with fail
  refine (specWordOf _ _).mono ?_
  rintro e w1 ⟨rfl, rfl⟩
  go_wp2
  go_ret
  exact ⟨rfl, rfl⟩
set_option maxHeartbeats 400000 in
theorem implNegOf (x : Int) (w : World) : Calls Try.prog 18 #[.int .i64 x] w fun e w' => e = .returned (.int .i64 (wd (-x))) ∧ w' = w := by
  go_enter Try.func18, Try.ntmps18
  go_wp2
  go_ret
  refine ⟨ret64 ?_, rfl⟩
  rw [wrap_wd, wrap_wd, neg_wd, w64_wd]
set_option maxHeartbeats 400000 in
theorem specNegOf (x : Int) (w : World) : Calls Try.prog 28 #[.int .i64 x] w fun e w' => e = .returned (.int .i64 (wd (-x))) ∧ w' = w := by
  have h1 := sg_lo x
  have h2 := sg_hi x
  go_enter Try.func28, Try.ntmps28
  go_wp2_with fail
  refine (specSignedOf _ _).mono ?_
  rintro e w1 ⟨rfl, rfl⟩
  go_wp2_with fail
  refine (specWordOf _ _).mono ?_
  rintro e w1 ⟨rfl, rfl⟩
  go_wp2
  go_ret
  refine ⟨ret64 ?_, rfl⟩
  exact wd_neg_sg x
set_option maxHeartbeats 400000 in
theorem oneIf_any (b : Bool) (w : World) : Calls Try.prog 37 #[.bool b] w fun e w' => e = .returned (.int .u16 (if b then 1 else 0)) ∧ w' = w := by
  cases b <;> (go_enter Try.func37, Try.ntmps37; go_wp2; go_ret; exact ⟨rfl, rfl⟩)
set_option maxHeartbeats 400000 in
theorem l2Bit_any (b : Bool) (w : World) : Calls Try.prog 49 #[.bool b] w fun e w' => e = .returned (.int .i64 (if b then 1 else 0)) ∧ w' = w := by
  cases b <;> (go_enter Try.func49, Try.ntmps49; go_wp2; go_ret; exact ⟨rfl, rfl⟩)
set_option maxHeartbeats 400000 in
theorem implNotOf (x : Int) (w : World) : Calls Try.prog 21 #[.int .i64 x] w fun e w' => e = .returned (.int .i64 (nt x)) ∧ w' = w := by
  go_enter Try.func21, Try.ntmps21
  go_wp2_with fail
  refine (oneIf_any _ _).mono ?_
  rintro e w1 ⟨rfl, rfl⟩
  go_wp2
  · go_ret
    refine ⟨ret64 ?_, rfl⟩
    rw [wrap_wd] at h
    exact (if_pos h).symm
  · go_ret
    refine ⟨ret64 ?_, rfl⟩
    rw [wrap_wd] at h
    exact (if_neg h).symm
set_option maxHeartbeats 400000 in
theorem specNotOf (x : Int) (w : World) : Calls Try.prog 22 #[.int .i64 x] w fun e w' => e = .returned (.int .i64 (nt x)) ∧ w' = w := by
  by_cases h : wd x = 0
  · have hn : nt x = 1 := if_pos h
    rw [hn]
    have hb : (wd x == 0) = true := by rw [h]; rfl
    go_enter Try.func22, Try.ntmps22
    go_wp2_with fail
    refine (specWordOf _ _).mono ?_
    rintro e w1 ⟨rfl, rfl⟩
    go_wp2
    go_ret
    exact ⟨rfl, rfl⟩
  · have hn : nt x = 0 := if_neg h
    rw [hn]
    have hb : (wd x == 0) = false := by simpa using h
    go_enter Try.func22, Try.ntmps22
    go_wp2_with fail
    refine (specWordOf _ _).mono ?_
    rintro e w1 ⟨rfl, rfl⟩
    go_wp2
    go_ret
    exact ⟨rfl, rfl⟩
end Go.Proofs.Yteakklodmdafbaa
