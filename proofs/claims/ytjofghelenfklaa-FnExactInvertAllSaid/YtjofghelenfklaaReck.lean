/-
  impl and spec: Complement; with it SignedOf, WordOf, NegOf, NotOf.
-/
import Derived.Test.YtjofghelenfklaaReck1
namespace Go.Proofs.Ytjofghelenfklaa
open Go.RowKit
theorem w64_cm (x : Int) : wrap64 (cm x) = cm x := by have := cm_lo x; have := cm_hi x; unfold wrap64; omega
theorem xor_all (x : Int) : bits .xor .u16 IntKind.u16.max (wd x) = cm x := by
  have h1 := wd_lo x
  have h2 := wd_hi x
  have h3 : cm x = 65535 - wd x := rfl
  obtain ⟨n, hn⟩ := Int.eq_ofNat_of_zero_le h1
  rw [h3, hn, show IntKind.u16.max = ((65535 : Nat) : Int) from by rfl]
  rw [u16_xor_nat 65535 n (by omega) (by omega)]
  have e := both_or 65535 n
  have hl : 65535 ||| n < 2 ^ 16 := Nat.or_lt_two_pow (by omega) (by omega)
  have hg : 65535 ≤ 65535 ||| n := Nat.left_le_or
  have ha : 65535 &&& n = n % 2 ^ 16 := by rw [Nat.and_comm]; exact Nat.and_two_pow_sub_one_eq_mod n 16
  omega
set_option maxHeartbeats 400000 in
theorem implComplement (x : Int) (w : World) : Calls Try.prog 75 #[.int .i64 x] w fun e w' => e = .returned (.int .i64 (cm x)) ∧ w' = w := by
  go_enter Try.func75, Try.ntmps75
  go_wp2
  go_ret
  refine ⟨ret64 ?_, rfl⟩
  rw [wrap_wd, xor_all, w64_cm]
set_option maxHeartbeats 400000 in
theorem specComplement (x : Int) (w : World) : Calls Try.prog 124 #[.int .i64 x] w fun e w' => e = .returned (.int .i64 (cm x)) ∧ w' = w := by
  have h1 := wd_lo x
  have h2 := wd_hi x
  go_enter Try.func124, Try.ntmps124
  go_wp2_with fail
  refine (specWordOf _ _).mono ?_
  rintro e w1 ⟨rfl, rfl⟩
  go_wp2
  go_ret
  exact ⟨rfl, rfl⟩
end Go.Proofs.Ytjofghelenfklaa
