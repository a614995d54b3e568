/-
  impl.sumByte and spec.l1Crc answer the plain sum of a byte, at each word and byte.
-/
import Derived.Test.YtpobajblngblfaaBase
namespace Go.Proofs.Ytpobajblngblfaa
open Go.RowKit

theorem and_high (t : Nat) (h : t < 65536) : bits .and .u16 (t : Int) 32768 = if 32768 ≤ t then 32768 else 0 := by
  have e := u16_and_nat t 32768 h (by omega)
  rw [show ((32768 : Nat) : Int) = 32768 from rfl] at e
  rw [e, show (32768 : Nat) = 2 ^ 15 from rfl, nat_bit]
  split
  · rw [show t / 2 ^ 15 % 2 = 1 from by omega]; rfl
  · rw [show t / 2 ^ 15 % 2 = 0 from by omega]; rfl

set_option maxHeartbeats 400000 in
theorem sumByte_nat (s b : Nat) (w : World) (hs : s < 65536) (hb : b < 256) :
    Calls Try.prog 60 #[.int .u16 (s : Int), .int .u8 (b : Int)] w fun e w' => e = .returned (.int .u16 (Crc.byte s b : Nat)) ∧ w' = w := by
  go_enter Try.func60, Try.ntmps60
  go_wp2
  go_loop [0, 5, 11] (fun x _ i => ∃ k t : Nat, k ≤ 8 ∧ t < 65536 ∧ i = .int .i64 k ∧ x = .int .u16 t ∧ Crc.many (8 - k) t = Crc.byte s b) (fun _ _ i => 8 - (intOf i).toNat)
  case atStart =>
    refine ⟨0, s ^^^ b * 256, by omega, Crc.xor_lt _ _ hs (by omega), rfl, ?_, rfl⟩
    have e := u16_xor_nat s (b * 256) hs (by omega)
    rw [← e]; simp
  case round =>
    obtain ⟨k, t, hk, ht, rfl, rfl, hm⟩ := hrel
    by_cases hlt : k < 8
    · by_cases h2 : 32768 ≤ t
      · have ha : bits .and .u16 (t : Int) 32768 = 32768 := by rw [and_high t ht, if_pos h2]
        go_wp2
        go_round
        case rel =>
          refine ⟨k + 1, Crc.one t, by omega, Crc.one_lt t, by go_num, ?_, ?_⟩
          · have e := u16_xor_nat (t * 2 % 65536) 4129 (by omega) (by omega)
            rw [IntKind.wrap_u16, Crc.one, if_pos h2, ← e]; simp
          · rw [← hm, show 8 - k = (8 - (k + 1)) + 1 from by omega]; rfl
        case measure => simp [intOf]; omega
      · have ha : bits .and .u16 (t : Int) 32768 = 0 := by rw [and_high t ht, if_neg h2]
        go_wp2
        go_round
        case rel =>
          refine ⟨k + 1, Crc.one t, by omega, Crc.one_lt t, by go_num, ?_, ?_⟩
          · rw [Crc.one, if_neg h2, show t * 2 % 65536 = t * 2 from by omega]; simp
          · rw [← hm, show 8 - k = (8 - (k + 1)) + 1 from by omega]; rfl
        case measure => simp [intOf]; omega
    · have hk8 : k = 8 := by omega
      subst hk8
      rw [show 8 - 8 = 0 from rfl, Crc.many] at hm
      subst hm
      go_wp2
      go_ret
      exact ⟨rfl, rfl⟩

theorem sumByte_any (s b : Int) (w : World) (h1 : 0 ≤ s) (h2 : s < 65536) (h3 : 0 ≤ b) (h4 : b < 256) :
    Calls Try.prog 60 #[.int .u16 s, .int .u8 b] w fun e w' => e = .returned (.int .u16 (Crc.byte s.toNat b.toNat : Nat)) ∧ w' = w := by
  obtain ⟨S, rfl⟩ := Int.eq_ofNat_of_zero_le h1
  obtain ⟨B, rfl⟩ := Int.eq_ofNat_of_zero_le h3
  exact sumByte_nat S B w (by omega) (by omega)

theorem i64_xor_nat (a b : Nat) (ha : a < 65536) (hb : b < 65536) : bits .xor .i64 (a : Int) (b : Int) = ((a ^^^ b : Nat) : Int) := by
  have hx : a ^^^ b < 2 ^ 16 := Nat.xor_lt_two_pow (by omega) (by omega)
  have h1 : (BitVec.ofInt 64 (a : Int)).toNat = a := by
    rw [BitVec.ofInt_natCast, BitVec.toNat_ofNat]; exact Nat.mod_eq_of_lt (by omega)
  have h2 : (BitVec.ofInt 64 (b : Int)).toNat = b := by
    rw [BitVec.ofInt_natCast, BitVec.toNat_ofNat]; exact Nat.mod_eq_of_lt (by omega)
  show IntKind.i64.wrap ((BitVec.ofInt 64 (a : Int) ^^^ BitVec.ofInt 64 (b : Int)).toNat : Int) = _
  rw [BitVec.toNat_xor, h1, h2, IntKind.wrap_i64]

  omega

set_option maxRecDepth 100000 in
set_option maxHeartbeats 400000 in
theorem l1Crc_nat (s b : Nat) (w : World) (hs : s < 65536) (hb : b < 256) :
    Calls Try.prog 62 #[.int .i64 (s : Int), .int .i64 (b : Int)] w fun e w' => e = .returned (.int .i64 (Crc.byte s b : Nat)) ∧ w' = w := by
  go_enter Try.func62, Try.ntmps62
  go_wp2
  go_loop [0, 5, 6] (fun x i _ => ∃ k t : Nat, k ≤ 8 ∧ t < 65536 ∧ i = .int .i64 k ∧ x = .int .i64 t ∧ Crc.many (8 - k) t = Crc.byte s b) (fun _ i _ => 8 - (intOf i).toNat)
  case atStart =>
    refine ⟨0, s ^^^ b * 256, by omega, Crc.xor_lt _ _ hs (by omega), rfl, ?_, rfl⟩
    have e := i64_xor_nat s (b * 256) hs (by omega)
    rw [← e]; simp
  case round =>
    obtain ⟨k, t, hk, ht, rfl, rfl, hm⟩ := hrel
    by_cases hlt : k < 8
    · by_cases h2 : 32768 ≤ t
      · have hd : decide ((32768 : Int) ≤ (t : Int)) = true := decide_eq_true (by omega)
        have H2 : Hid (32768 ≤ t) := h2
        clear h2
        go_wp2
        have h2 := H2.out
        go_round
        case rel =>
          refine ⟨k + 1, Crc.one t, by omega, Crc.one_lt t, by go_num, ?_, ?_⟩
          · have e := i64_xor_nat (t * 2 % 65536) 4129 (by omega) (by omega)
            rw [Crc.one, if_pos h2, ← e]; simp
          · rw [← hm, show 8 - k = (8 - (k + 1)) + 1 from by omega]; rfl
        case measure => simp [intOf]; omega
      · have hd : decide ((32768 : Int) ≤ (t : Int)) = false := decide_eq_false (by omega)
        have H2 : Hid (¬ 32768 ≤ t) := h2
        clear h2
        go_wp2
        have h2 := H2.out
        go_round
        case rel =>
          refine ⟨k + 1, Crc.one t, by omega, Crc.one_lt t, by go_num, ?_, ?_⟩
          · rw [Crc.one, if_neg h2]; simp
          · rw [← hm, show 8 - k = (8 - (k + 1)) + 1 from by omega]; rfl
        case measure => simp [intOf]; omega
    · have hk8 : k = 8 := by omega
      subst hk8
      rw [show 8 - 8 = 0 from rfl, Crc.many] at hm
      subst hm
      go_wp2
      go_ret
      exact ⟨rfl, rfl⟩

theorem l1Crc_any (s b : Int) (w : World) (h1 : 0 ≤ s) (h2 : s < 65536) (h3 : 0 ≤ b) (h4 : b < 256) :
    Calls Try.prog 62 #[.int .i64 s, .int .i64 b] w fun e w' => e = .returned (.int .i64 (Crc.byte s.toNat b.toNat : Nat)) ∧ w' = w := by
  obtain ⟨S, rfl⟩ := Int.eq_ofNat_of_zero_le h1
  obtain ⟨B, rfl⟩ := Int.eq_ofNat_of_zero_le h3
  exact l1Crc_nat S B w (by omega) (by omega)

end Go.Proofs.Ytpobajblngblfaa
