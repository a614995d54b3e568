/-
  spec.BinaryOf answers the plain code and word at every op and all numbers.
-/
import Derived.Test.YtcikofhbfncgdaaReck1
namespace Go.Proofs.Ytcikofhbfncgdaa
open Go.RowKit
set_option linter.unusedVariables false

theorem tup64 {a b : Int} (h : a = b) : Ending.returned (.tuple #[.int .i64 a, .int .i64 0]) = Ending.returned (.tuple #[.int .i64 b, .int .i64 0]) := by rw [h]
theorem wd_w64 (x : Int) : wd (wrap64 x) = wd x := by unfold wd wrap64; omega
theorem w64and (a b : Nat) (ha : a < 65536) (hb : b < 65536) : bits .and .i64 (a : Int) (b : Int) = ((a &&& b : Nat) : Int) := by
  have hx : a &&& b < 2 ^ 16 := Nat.and_lt_two_pow _ (by omega)
  have h1 : (BitVec.ofInt 64 (a : Int)).toNat = a := by
    rw [BitVec.ofInt_natCast, BitVec.toNat_ofNat]; exact Nat.mod_eq_of_lt (by omega)
  have h2 : (BitVec.ofInt 64 (b : Int)).toNat = b := by
    rw [BitVec.ofInt_natCast, BitVec.toNat_ofNat]; exact Nat.mod_eq_of_lt (by omega)
  show IntKind.i64.wrap ((BitVec.ofInt 64 (a : Int) &&& BitVec.ofInt 64 (b : Int)).toNat : Int) = _
  rw [BitVec.toNat_and, h1, h2, IntKind.wrap_i64]
  omega
theorem w64or (a b : Nat) (ha : a < 65536) (hb : b < 65536) : bits .or .i64 (a : Int) (b : Int) = ((a ||| b : Nat) : Int) := by
  have hx : a ||| b < 2 ^ 16 := Nat.or_lt_two_pow (by omega) (by omega)
  have h1 : (BitVec.ofInt 64 (a : Int)).toNat = a := by
    rw [BitVec.ofInt_natCast, BitVec.toNat_ofNat]; exact Nat.mod_eq_of_lt (by omega)
  have h2 : (BitVec.ofInt 64 (b : Int)).toNat = b := by
    rw [BitVec.ofInt_natCast, BitVec.toNat_ofNat]; exact Nat.mod_eq_of_lt (by omega)
  show IntKind.i64.wrap ((BitVec.ofInt 64 (a : Int) ||| BitVec.ofInt 64 (b : Int)).toNat : Int) = _
  rw [BitVec.toNat_or, h1, h2, IntKind.wrap_i64]
  omega
theorem w64xor (a b : Nat) (ha : a < 65536) (hb : b < 65536) : bits .xor .i64 (a : Int) (b : Int) = ((a ^^^ b : Nat) : Int) := by
  have hx : a ^^^ b < 2 ^ 16 := Nat.xor_lt_two_pow (by omega) (by omega)
  have h1 : (BitVec.ofInt 64 (a : Int)).toNat = a := by
    rw [BitVec.ofInt_natCast, BitVec.toNat_ofNat]; exact Nat.mod_eq_of_lt (by omega)
  have h2 : (BitVec.ofInt 64 (b : Int)).toNat = b := by
    rw [BitVec.ofInt_natCast, BitVec.toNat_ofNat]; exact Nat.mod_eq_of_lt (by omega)
  show IntKind.i64.wrap ((BitVec.ofInt 64 (a : Int) ^^^ BitVec.ofInt 64 (b : Int)).toNat : Int) = _
  rw [BitVec.toNat_xor, h1, h2, IntKind.wrap_i64]
  omega
theorem b64_and (a b : Int) : bits .and .i64 (wd a) (wd b) = (((wd a).toNat &&& (wd b).toNat : Nat) : Int) := by
  have h1 := wd_lo a; have h2 := wd_hi a; have h3 := wd_lo b; have h4 := wd_hi b
  obtain ⟨m, hm⟩ := Int.eq_ofNat_of_zero_le h1
  obtain ⟨n, hn⟩ := Int.eq_ofNat_of_zero_le h3
  rw [hm, hn, w64and m n (by omega) (by omega)]; rfl
theorem b64_or (a b : Int) : bits .or .i64 (wd a) (wd b) = (((wd a).toNat ||| (wd b).toNat : Nat) : Int) := by
  have h1 := wd_lo a; have h2 := wd_hi a; have h3 := wd_lo b; have h4 := wd_hi b
  obtain ⟨m, hm⟩ := Int.eq_ofNat_of_zero_le h1
  obtain ⟨n, hn⟩ := Int.eq_ofNat_of_zero_le h3
  rw [hm, hn, w64or m n (by omega) (by omega)]; rfl
theorem b64_xor (a b : Int) : bits .xor .i64 (wd a) (wd b) = (((wd a).toNat ^^^ (wd b).toNat : Nat) : Int) := by
  have h1 := wd_lo a; have h2 := wd_hi a; have h3 := wd_lo b; have h4 := wd_hi b
  obtain ⟨m, hm⟩ := Int.eq_ofNat_of_zero_le h1
  obtain ⟨n, hn⟩ := Int.eq_ofNat_of_zero_le h3
  rw [hm, hn, w64xor m n (by omega) (by omega)]; rfl
set_option maxHeartbeats 400000 in
theorem l2_1 (a b : Int) (w : World) : Calls Try.prog 156 #[.int .i64 1, .int .i64 a, .int .i64 b] w fun e w' => e = .returned (.tuple #[.int .i64 (binW 1 a b), .int .i64 0]) ∧ w' = w := by
  have h1 := sg_lo a; have h2 := sg_hi a; have h3 := sg_lo b; have h4 := sg_hi b
  go_enter Try.func156, Try.ntmps156
  go_wp2_with (first | (go_at_call 163; refine (specSignedOf _ _).mono ?_; rintro e w' ⟨rfl, rfl⟩) | (go_at_call 151; refine (specWordOf _ _).mono ?_; rintro e w' ⟨rfl, rfl⟩) | (go_at_call 165; refine (l2Bit_any _ _).mono ?_; rintro e w' ⟨rfl, rfl⟩))
  go_ret2
  refine ⟨tup64 ?_, rfl⟩
  rw [sg_add]; rfl
set_option maxHeartbeats 400000 in
theorem l2_2 (a b : Int) (w : World) : Calls Try.prog 156 #[.int .i64 2, .int .i64 a, .int .i64 b] w fun e w' => e = .returned (.tuple #[.int .i64 (binW 2 a b), .int .i64 0]) ∧ w' = w := by
  have h1 := sg_lo a; have h2 := sg_hi a; have h3 := sg_lo b; have h4 := sg_hi b
  go_enter Try.func156, Try.ntmps156
  go_wp2_with (first | (go_at_call 163; refine (specSignedOf _ _).mono ?_; rintro e w' ⟨rfl, rfl⟩) | (go_at_call 151; refine (specWordOf _ _).mono ?_; rintro e w' ⟨rfl, rfl⟩) | (go_at_call 165; refine (l2Bit_any _ _).mono ?_; rintro e w' ⟨rfl, rfl⟩))
  go_ret2
  refine ⟨tup64 ?_, rfl⟩
  rw [sg_sub]; rfl
set_option maxHeartbeats 400000 in
theorem l2_3 (a b : Int) (w : World) : Calls Try.prog 156 #[.int .i64 3, .int .i64 a, .int .i64 b] w fun e w' => e = .returned (.tuple #[.int .i64 (binW 3 a b), .int .i64 0]) ∧ w' = w := by
  have h1 := sg_lo a; have h2 := sg_hi a; have h3 := sg_lo b; have h4 := sg_hi b
  go_enter Try.func156, Try.ntmps156
  go_wp2_with (first | (go_at_call 163; refine (specSignedOf _ _).mono ?_; rintro e w' ⟨rfl, rfl⟩) | (go_at_call 151; refine (specWordOf _ _).mono ?_; rintro e w' ⟨rfl, rfl⟩) | (go_at_call 165; refine (l2Bit_any _ _).mono ?_; rintro e w' ⟨rfl, rfl⟩))
  go_ret2
  refine ⟨tup64 ?_, rfl⟩
  rw [wd_w64, sg_mul]; rfl
set_option maxHeartbeats 400000 in
theorem l2_4 (a b : Int) (w : World) (hz : wd b ≠ 0) : Calls Try.prog 156 #[.int .i64 4, .int .i64 a, .int .i64 b] w fun e w' => e = .returned (.tuple #[.int .i64 (binW 4 a b), .int .i64 0]) ∧ w' = w := by
  have h1 := sg_lo a; have h2 := sg_hi a; have h3 := sg_lo b; have h4 := sg_hi b
  have hb : (sg b == 0) = false := by rw [beq_eq_false_iff_ne]; intro e; exact hz ((sg_zero b).1 e)
  have hb' : sg b ≠ 0 := by intro e; exact hz ((sg_zero b).1 e)
  clear hz
  go_enter Try.func156, Try.ntmps156
  go_wp2_with (first | (go_at_call 163; refine (specSignedOf _ _).mono ?_; rintro e w' ⟨rfl, rfl⟩) | (go_at_call 151; refine (specWordOf _ _).mono ?_; rintro e w' ⟨rfl, rfl⟩) | (go_at_call 165; refine (l2Bit_any _ _).mono ?_; rintro e w' ⟨rfl, rfl⟩))
  go_ret2
  refine ⟨tup64 ?_, rfl⟩
  rw [wd_w64]; rfl
set_option maxHeartbeats 400000 in
theorem l2_5 (a b : Int) (w : World) (hz : wd b ≠ 0) : Calls Try.prog 156 #[.int .i64 5, .int .i64 a, .int .i64 b] w fun e w' => e = .returned (.tuple #[.int .i64 (binW 5 a b), .int .i64 0]) ∧ w' = w := by
  have h1 := sg_lo a; have h2 := sg_hi a; have h3 := sg_lo b; have h4 := sg_hi b
  have hb : (sg b == 0) = false := by rw [beq_eq_false_iff_ne]; intro e; exact hz ((sg_zero b).1 e)
  have hb' : sg b ≠ 0 := by intro e; exact hz ((sg_zero b).1 e)
  clear hz
  go_enter Try.func156, Try.ntmps156
  go_wp2_with (first | (go_at_call 163; refine (specSignedOf _ _).mono ?_; rintro e w' ⟨rfl, rfl⟩) | (go_at_call 151; refine (specWordOf _ _).mono ?_; rintro e w' ⟨rfl, rfl⟩) | (go_at_call 165; refine (l2Bit_any _ _).mono ?_; rintro e w' ⟨rfl, rfl⟩))
  go_ret2
  refine ⟨tup64 ?_, rfl⟩
  first | rfl | (rw [wd_w64]; rfl)
set_option maxHeartbeats 400000 in
theorem l2_6 (a b : Int) (w : World) : Calls Try.prog 156 #[.int .i64 6, .int .i64 a, .int .i64 b] w fun e w' => e = .returned (.tuple #[.int .i64 (binW 6 a b), .int .i64 0]) ∧ w' = w := by
  have h1 := wd_lo a; have h2 := wd_hi a; have h3 := wd_lo b; have h4 := wd_hi b
  go_enter Try.func156, Try.ntmps156
  go_wp2_with (first | (go_at_call 163; refine (specSignedOf _ _).mono ?_; rintro e w' ⟨rfl, rfl⟩) | (go_at_call 151; refine (specWordOf _ _).mono ?_; rintro e w' ⟨rfl, rfl⟩) | (go_at_call 165; refine (l2Bit_any _ _).mono ?_; rintro e w' ⟨rfl, rfl⟩))
  go_ret2
  refine ⟨tup64 ?_, rfl⟩
  rw [b64_and]; rfl
set_option maxHeartbeats 400000 in
theorem l2_7 (a b : Int) (w : World) : Calls Try.prog 156 #[.int .i64 7, .int .i64 a, .int .i64 b] w fun e w' => e = .returned (.tuple #[.int .i64 (binW 7 a b), .int .i64 0]) ∧ w' = w := by
  have h1 := wd_lo a; have h2 := wd_hi a; have h3 := wd_lo b; have h4 := wd_hi b
  go_enter Try.func156, Try.ntmps156
  go_wp2_with (first | (go_at_call 163; refine (specSignedOf _ _).mono ?_; rintro e w' ⟨rfl, rfl⟩) | (go_at_call 151; refine (specWordOf _ _).mono ?_; rintro e w' ⟨rfl, rfl⟩) | (go_at_call 165; refine (l2Bit_any _ _).mono ?_; rintro e w' ⟨rfl, rfl⟩))
  go_ret2
  refine ⟨tup64 ?_, rfl⟩
  rw [b64_or]; rfl
set_option maxHeartbeats 400000 in
theorem l2_8 (a b : Int) (w : World) : Calls Try.prog 156 #[.int .i64 8, .int .i64 a, .int .i64 b] w fun e w' => e = .returned (.tuple #[.int .i64 (binW 8 a b), .int .i64 0]) ∧ w' = w := by
  have h1 := wd_lo a; have h2 := wd_hi a; have h3 := wd_lo b; have h4 := wd_hi b
  go_enter Try.func156, Try.ntmps156
  go_wp2_with (first | (go_at_call 163; refine (specSignedOf _ _).mono ?_; rintro e w' ⟨rfl, rfl⟩) | (go_at_call 151; refine (specWordOf _ _).mono ?_; rintro e w' ⟨rfl, rfl⟩) | (go_at_call 165; refine (l2Bit_any _ _).mono ?_; rintro e w' ⟨rfl, rfl⟩))
  go_ret2
  refine ⟨tup64 ?_, rfl⟩
  rw [b64_xor]; rfl
set_option maxHeartbeats 400000 in
theorem l2_9 (a b : Int) (w : World) : Calls Try.prog 156 #[.int .i64 9, .int .i64 a, .int .i64 b] w fun e w' => e = .returned (.tuple #[.int .i64 (binW 9 a b), .int .i64 0]) ∧ w' = w := by
  have h1 := sg_lo a; have h2 := sg_hi a; have h3 := sg_lo b; have h4 := sg_hi b
  go_enter Try.func156, Try.ntmps156
  go_wp2_with (first | (go_at_call 163; refine (specSignedOf _ _).mono ?_; rintro e w' ⟨rfl, rfl⟩) | (go_at_call 151; refine (specWordOf _ _).mono ?_; rintro e w' ⟨rfl, rfl⟩) | (go_at_call 165; refine (l2Bit_any _ _).mono ?_; rintro e w' ⟨rfl, rfl⟩))
  · go_ret2
    refine ⟨tup64 ?_, rfl⟩
    exact (if_pos h).symm
  · go_ret2
    refine ⟨tup64 ?_, rfl⟩
    exact (if_neg (Int.not_lt.2 h)).symm
set_option maxHeartbeats 400000 in
theorem l2_10 (a b : Int) (w : World) : Calls Try.prog 156 #[.int .i64 10, .int .i64 a, .int .i64 b] w fun e w' => e = .returned (.tuple #[.int .i64 (binW 10 a b), .int .i64 0]) ∧ w' = w := by
  have h1 := sg_lo a; have h2 := sg_hi a; have h3 := sg_lo b; have h4 := sg_hi b
  go_enter Try.func156, Try.ntmps156
  go_wp2_with (first | (go_at_call 163; refine (specSignedOf _ _).mono ?_; rintro e w' ⟨rfl, rfl⟩) | (go_at_call 151; refine (specWordOf _ _).mono ?_; rintro e w' ⟨rfl, rfl⟩) | (go_at_call 165; refine (l2Bit_any _ _).mono ?_; rintro e w' ⟨rfl, rfl⟩))
  · go_ret2
    refine ⟨tup64 ?_, rfl⟩
    exact (if_pos ((sg_same a b).1 h)).symm
  · go_ret2
    refine ⟨tup64 ?_, rfl⟩
    exact (if_neg (fun e => h ((sg_same a b).2 e))).symm

set_option maxHeartbeats 400000 in
theorem l2_out (op a b : Int) (w : World) (h : op < 1 ∨ 10 < op) : Calls Try.prog 156 #[.int .i64 op, .int .i64 a, .int .i64 b] w fun e w' => e = .returned (.tuple #[.int .i64 0, .int .i64 3]) ∧ w' = w := by
  have e1 : (op == 1) = false := by simp; omega
  have e2 : (op == 2) = false := by simp; omega
  have e3 : (op == 3) = false := by simp; omega
  have e4 : (op == 4) = false := by simp; omega
  have e5 : (op == 5) = false := by simp; omega
  have e6 : (op == 6) = false := by simp; omega
  have e7 : (op == 7) = false := by simp; omega
  have e8 : (op == 8) = false := by simp; omega
  have e9 : (op == 9) = false := by simp; omega
  have e10 : (op == 10) = false := by simp; omega
  clear h
  go_enter Try.func156, Try.ntmps156
  go_wp2_with (first | (go_at_call 163; refine (specSignedOf _ _).mono ?_; rintro e w' ⟨rfl, rfl⟩) | (go_at_call 151; refine (specWordOf _ _).mono ?_; rintro e w' ⟨rfl, rfl⟩))
  go_ret2
  exact ⟨rfl, rfl⟩
set_option maxHeartbeats 400000 in
theorem l2_zero (op a b : Int) (w : World) (h : op = 4 ∨ op = 5) (hz : wd b = 0) : Calls Try.prog 156 #[.int .i64 op, .int .i64 a, .int .i64 b] w fun e w' => e = .returned (.tuple #[.int .i64 0, .int .i64 4]) ∧ w' = w := by
  have hb : (sg b == 0) = true := by rw [(sg_zero b).2 hz]; rfl
  clear hz
  rcases h with rfl | rfl
  all_goals
    go_enter Try.func156, Try.ntmps156
    go_wp2_with (first | (go_at_call 163; refine (specSignedOf _ _).mono ?_; rintro e w' ⟨rfl, rfl⟩) | (go_at_call 151; refine (specWordOf _ _).mono ?_; rintro e w' ⟨rfl, rfl⟩))
    go_ret2
    exact ⟨rfl, rfl⟩
theorem l2_any (op a b : Int) (w : World) : Calls Try.prog 156 #[.int .i64 op, .int .i64 a, .int .i64 b] w fun e w' => e = .returned (.tuple #[.int .i64 (binV op a b), .int .i64 (binC op b)]) ∧ w' = w := by
  by_cases h : op < 1 ∨ 10 < op
  · have hc : binC op b = 3 := if_pos h
    rw [binV, hc]
    exact l2_out op a b w h
  by_cases hz : (op = 4 ∨ op = 5) ∧ wd b = 0
  · have hc : binC op b = 4 := by unfold binC; rw [if_neg h, if_pos hz]
    rw [binV, hc]
    exact l2_zero op a b w hz.1 hz.2
  have hc : binC op b = 0 := by unfold binC; rw [if_neg h, if_neg hz]
  rw [binV, hc, if_pos rfl]
  have hop : op = 1 ∨ op = 2 ∨ op = 3 ∨ op = 4 ∨ op = 5 ∨ op = 6 ∨ op = 7 ∨ op = 8 ∨ op = 9 ∨ op = 10 := by omega
  rcases hop with rfl | rfl | rfl | rfl | rfl | rfl | rfl | rfl | rfl | rfl
  · exact l2_1 a b w
  · exact l2_2 a b w
  · exact l2_3 a b w
  · exact l2_4 a b w (fun e => hz ⟨.inl rfl, e⟩)
  · exact l2_5 a b w (fun e => hz ⟨.inr rfl, e⟩)
  · exact l2_6 a b w
  · exact l2_7 a b w
  · exact l2_8 a b w
  · exact l2_9 a b w
  · exact l2_10 a b w
end Go.Proofs.Ytcikofhbfncgdaa
