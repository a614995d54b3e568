/-
  impl.CrcByte, spec.CrcByte, impl.CrcTable, spec.CrcTable answer the plain sum or its code at every input; two equal results are found equal.
-/
import Derived.Test.YtafngcmgmdmciabWords
import Derived.Test.YtafngcmgmdmciabResE
namespace Go.Proofs.Ytafngcmgmdmciab
open Go.RowKit

set_option maxHeartbeats 400000 in
theorem implByte_ok (s b : Int) (w : World) (h1 : 0 ≤ s) (h2 : s ≤ 65535) (h3 : 0 ≤ b) (h4 : b ≤ 255) :
    Calls Try.prog 12 #[.int .i64 s, .int .i64 b] w fun e w' => e = .returned (res 0 (Crc.byte s.toNat b.toNat : Nat)) ∧ Below w.heap.size w w' := by
  have hlt := Crc.byte_lt s.toNat b.toNat (by omega) (by omega)
  go_enter Try.func12, Try.ntmps12
  go_wp2_with (first | (go_at_call 36; refine (fitsWord_yes _ _ h1 h2).mono ?_; rintro e w' ⟨rfl, rfl⟩) | (go_at_call 37; refine (fitsByte_yes _ _ h3 h4).mono ?_; rintro e w' ⟨rfl, rfl⟩) | (go_at_call 38; refine (sumByte_any s b _ h1 (by omega) h3 (by omega)).mono ?_; rintro e w' ⟨rfl, rfl⟩))
  go_returns
  exact ⟨rfl, by go_grown⟩

set_option maxHeartbeats 400000 in
theorem implByte_no (s b : Int) (w : World) (h : (s < 0 ∨ 65535 < s) ∨ (b < 0 ∨ 255 < b)) :
    Calls Try.prog 12 #[.int .i64 s, .int .i64 b] w fun e w' => e = .returned (res 3 0) ∧ Below w.heap.size w w' := by
  by_cases hs : 0 ≤ s ∧ s ≤ 65535
  · obtain ⟨h1, h2⟩ := hs
    have h3 : Hid (b < 0 ∨ 255 < b) := by rcases h with h | h; (· omega); exact h
    clear h
    go_enter Try.func12, Try.ntmps12
    go_wp2_with (first | (go_at_call 36; refine (fitsWord_yes _ _ h1 h2).mono ?_; rintro e w' ⟨rfl, rfl⟩) | (go_at_call 37; refine (fitsByte_no _ _ h3.out).mono ?_; rintro e w' ⟨rfl, rfl⟩))
    go_returns
    exact ⟨rfl, by go_grown⟩
  · have h1 : Hid (s < 0 ∨ 65535 < s) := by show _ ∨ _; omega
    clear h hs
    go_enter Try.func12, Try.ntmps12
    go_wp2_with (go_at_call 36; refine (fitsWord_no _ _ h1.out).mono ?_; rintro e w' ⟨rfl, rfl⟩)
    go_returns
    exact ⟨rfl, by go_grown⟩

set_option maxHeartbeats 400000 in
theorem specByte_ok (s b : Int) (w : World) (h1 : 0 ≤ s) (h2 : s ≤ 65535) (h3 : 0 ≤ b) (h4 : b ≤ 255) :
    Calls Try.prog 14 #[.int .i64 s, .int .i64 b] w fun e w' => e = .returned (res 0 (Crc.byte s.toNat b.toNat : Nat)) ∧ Below w.heap.size w w' := by
  go_enter Try.func14, Try.ntmps14
  go_wp2_with (first | (go_at_call 39; refine (l1Word_yes _ _ h1 h2).mono ?_; rintro e w' ⟨rfl, rfl⟩) | (go_at_call 40; refine (l1In_yes _ _ _ _ h3 h4).mono ?_; rintro e w' ⟨rfl, rfl⟩) | (go_at_call 41; refine (l1Crc_any s b _ h1 (by omega) h3 (by omega)).mono ?_; rintro e w' ⟨rfl, rfl⟩))
  go_returns
  exact ⟨rfl, by go_grown⟩

set_option maxHeartbeats 400000 in
theorem specByte_no (s b : Int) (w : World) (h : (s < 0 ∨ 65535 < s) ∨ (b < 0 ∨ 255 < b)) :
    Calls Try.prog 14 #[.int .i64 s, .int .i64 b] w fun e w' => e = .returned (res 3 0) ∧ Below w.heap.size w w' := by
  by_cases hs : 0 ≤ s ∧ s ≤ 65535
  · obtain ⟨h1, h2⟩ := hs
    have h3 : Hid (b < 0 ∨ 255 < b) := by rcases h with h | h; (· omega); exact h
    clear h
    go_enter Try.func14, Try.ntmps14
    go_wp2_with (first | (go_at_call 39; refine (l1Word_yes _ _ h1 h2).mono ?_; rintro e w' ⟨rfl, rfl⟩) | (go_at_call 40; refine (l1In_no _ _ _ _ h3.out).mono ?_; rintro e w' ⟨rfl, rfl⟩))
    go_returns
    exact ⟨rfl, by go_grown⟩
  · have h1 : Hid (s < 0 ∨ 65535 < s) := by show _ ∨ _; omega
    clear h hs
    go_enter Try.func14, Try.ntmps14
    go_wp2_with (go_at_call 39; refine (l1Word_no _ _ h1.out).mono ?_; rintro e w' ⟨rfl, rfl⟩)
    go_returns
    exact ⟨rfl, by go_grown⟩

/-- what CrcByte answers -/
def byteC (s b : Int) : Int := if (0 ≤ s ∧ s ≤ 65535) ∧ (0 ≤ b ∧ b ≤ 255) then 0 else 3
def byteV (s b : Int) : Int := if (0 ≤ s ∧ s ≤ 65535) ∧ (0 ≤ b ∧ b ≤ 255) then (Crc.byte s.toNat b.toNat : Nat) else 0

theorem implByte_any (s b : Int) (w : World) :
    Calls Try.prog 12 #[.int .i64 s, .int .i64 b] w fun e w' => e = .returned (res (byteC s b) (byteV s b)) ∧ Below w.heap.size w w' := by
  by_cases h : (0 ≤ s ∧ s ≤ 65535) ∧ (0 ≤ b ∧ b ≤ 255)
  · rw [byteC, byteV, if_pos h, if_pos h]; exact implByte_ok s b w h.1.1 h.1.2 h.2.1 h.2.2
  · rw [byteC, byteV, if_neg h, if_neg h]; exact implByte_no s b w (by omega)
theorem specByte_any (s b : Int) (w : World) :
    Calls Try.prog 14 #[.int .i64 s, .int .i64 b] w fun e w' => e = .returned (res (byteC s b) (byteV s b)) ∧ Below w.heap.size w w' := by
  by_cases h : (0 ≤ s ∧ s ≤ 65535) ∧ (0 ≤ b ∧ b ≤ 255)
  · rw [byteC, byteV, if_pos h, if_pos h]; exact specByte_ok s b w h.1.1 h.1.2 h.2.1 h.2.2
  · rw [byteC, byteV, if_neg h, if_neg h]; exact specByte_no s b w (by omega)

set_option maxHeartbeats 400000 in
theorem implTable_any (b : Int) (w : World) :
    Calls Try.prog 13 #[.int .i64 b] w fun e w' => e = .returned (res (byteC 0 b) (byteV 0 b)) ∧ Below w.heap.size w w' := by
  by_cases h : 0 ≤ b ∧ b ≤ 255
  · obtain ⟨h3, h4⟩ := h
    have hlt := Crc.byte_lt 0 b.toNat (by omega) (by omega)
    rw [byteC, byteV, if_pos ⟨⟨by omega, by omega⟩, h3, h4⟩, if_pos ⟨⟨by omega, by omega⟩, h3, h4⟩]
    go_enter Try.func13, Try.ntmps13
    go_wp2_with (first | (go_at_call 37; refine (fitsByte_yes _ _ h3 h4).mono ?_; rintro e w' ⟨rfl, rfl⟩) | (go_at_call 38; refine (sumByte_any 0 b _ (by omega) (by omega) h3 (by omega)).mono ?_; rintro e w' ⟨rfl, rfl⟩))
    go_returns
    exact ⟨rfl, by go_grown⟩
  · rw [byteC, byteV, if_neg (by omega), if_neg (by omega)]
    have h3 : Hid (b < 0 ∨ 255 < b) := by show _ ∨ _; omega
    clear h
    go_enter Try.func13, Try.ntmps13
    go_wp2_with (go_at_call 37; refine (fitsByte_no _ _ h3.out).mono ?_; rintro e w' ⟨rfl, rfl⟩)
    go_returns
    exact ⟨rfl, by go_grown⟩

end Go.Proofs.Ytafngcmgmdmciab
