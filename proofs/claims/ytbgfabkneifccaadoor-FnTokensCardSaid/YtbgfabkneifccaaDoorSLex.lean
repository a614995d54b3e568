/-
  spec.l3Digit, l3Hex, l3Marks, l3Piece.
-/
import Derived.Test.YtbgfabkneifccaaDoorSWord
namespace Go.Proofs.YtbgfabkneifccaaDoor
open Go.RowKit
set_option linter.unusedVariables false
attribute [local go_sem] bs_size bs_get bs_extract bs_append bs_eq

set_option maxHeartbeats 400000 in
theorem digit_any (n : Int) (w : World) : Calls Tryd.prog 51 #[.int .u8 n] w fun e w' => e = .returned (.bool (isDigI n)) ∧ w' = w := by
  by_cases h1 : 48 ≤ n
  all_goals
    go_enter Tryd.func51, Tryd.ntmps51
    go_wp2
    go_ret
    refine ⟨retB ?_, rfl⟩
    simp only [isDigI]
    first | rfl | (rw [Bool.eq_iff_iff]; simp; omega) | (symm; simp; omega)
set_option maxHeartbeats 400000 in
theorem hex_any (n : Int) (w : World) : Calls Tryd.prog 61 #[.int .u8 n] w fun e w' => e = .returned (.bool (isHexI n)) ∧ w' = w := by
  by_cases h1 : 65 ≤ n
  all_goals
    go_enter Tryd.func61, Tryd.ntmps61
    go_wp2
    go_ret
    refine ⟨retB ?_, rfl⟩
    simp only [isHexI]
    first | rfl | (rw [Bool.eq_iff_iff]; simp; omega) | (symm; simp; omega)

set_option maxHeartbeats 400000 in
theorem marks_any (w : World) : Calls Tryd.prog 44 #[] w fun e w' => e = .returned (.slice (some ⟨w.heap.size, 0, none⟩) 18 18) ∧ w' = w.alloc (.cells (marksL.map (fun l => Value.string (bs l))).toArray 9) := by
  go_enter Tryd.func44, Tryd.ntmps44
  go_wp2
  go_ret
  exact ⟨rfl, rfl⟩

/-- how long the piece at p is: letters, or what numbers are made of -/
def pieceL (l : List UInt8) (p : Nat) : List UInt8 := if isLet (ch l p) then (l.drop p).takeWhile isLet else (l.drop p).takeWhile isNum
theorem take_len {f : UInt8 → Bool} {l : List UInt8} {p k : Nat} (hk : p + k ≤ l.length) (h : (l.drop p).takeWhile f = (l.drop p).take k) : ((l.drop p).takeWhile f).length = k := by rw [h]; simp; omega

set_option maxHeartbeats 1600000 in
theorem piece_any (l : List UInt8) (p : Nat) (hp : p < l.length) (w : World) (hl : l.length ≤ 2000000) : Calls Tryd.prog 48 #[.string (bs l), .int .i64 p] w fun e w' => e = .returned (.int .i64 ((p + (pieceL l p).length : Nat) : Int)) ∧ w' = w := by
  cases hc : isLetI ((ch l p).toNat : Int)
  · have hpl : pieceL l p = (l.drop p).takeWhile isNum := by unfold pieceL; rw [if_neg (by unfold isLet; rw [hc]; simp)]
    have HPL : Hid (pieceL l p = (l.drop p).takeWhile isNum) := hpl
    clear hpl
    generalize pieceL l p = Z at HPL
    go_enter Tryd.func48, Tryd.ntmps48
    go_wp2_with (first | (go_at_call 47; refine (letter_any _ _).mono ?_; rintro e w' ⟨rfl, rfl⟩))
    go_loop [5] (fun v => ∃ k : Nat, p + k ≤ l.length ∧ v = .int .i64 ((p + k : Nat) : Int) ∧ ∀ j, j < k → isNum (ch l (p + j)) = true) (fun v => l.length - (intOf v).toNat)
    case atStart => exact ⟨0, by omega, rfl, by omega⟩
    case round =>
      obtain ⟨k, hk, rfl, hno⟩ := hrel
      have HNO : Hid (∀ j, j < k → isNum (ch l (p + j)) = true) := hno
      clear hno
      obtain ⟨q, hq⟩ : ∃ q, q = p + k := ⟨_, rfl⟩
      rw [← hq] at hk ⊢
      have HQ : Hid (q = p + k) := hq
      clear hq
      by_cases hlt : q < l.length
      · cases hn : isNum (ch l q)
        · have HN : Hid (isNum (ch l q) = false) := hn
          unfold isNum isDig isHex at hn
          simp only [Bool.or_eq_false_iff, decide_eq_false_iff_not] at hn
          obtain ⟨⟨hd, hx⟩, h35⟩ := hn
          go_wp2_with (first | (go_at_call 51; refine (digit_any _ _).mono ?_; rintro e w' ⟨rfl, rfl⟩) | (go_at_call 61; refine (hex_any _ _).mono ?_; rintro e w' ⟨rfl, rfl⟩))
          go_ret
          refine ⟨retI ?_, rfl⟩
          rw [HPL.out, take_len (k := k) (by have := HQ.out; omega) (while_take (by have := HQ.out; omega) HNO.out (.inr (by rw [← HQ.out]; exact HN.out)))]
          have e := HQ.out
          omega
        · have HN : Hid (isNum (ch l q) = true) := hn
          unfold isNum isDig isHex at hn
          cases hd : isDigI ((ch l q).toNat : Int)
          · cases hx : isHexI ((ch l q).toNat : Int)
            · have h35 : ((ch l q).toNat : Int) = 35 := by rw [hd, hx] at hn; simpa using hn
              clear hn
              go_wp2_with (first | (go_at_call 51; refine (digit_any _ _).mono ?_; rintro e w' ⟨rfl, rfl⟩) | (go_at_call 61; refine (hex_any _ _).mono ?_; rintro e w' ⟨rfl, rfl⟩))
              go_round
              case rel => exact ⟨k + 1, by have := HQ.out; omega, by have := HQ.out; subst this; go_num, fun j hj => by rcases Nat.lt_succ_iff_lt_or_eq.1 hj with h | rfl; exact HNO.out j h; rw [← HQ.out]; exact HN.out⟩
              case measure => simp [intOf]; omega
            · clear hn
              go_wp2_with (first | (go_at_call 51; refine (digit_any _ _).mono ?_; rintro e w' ⟨rfl, rfl⟩) | (go_at_call 61; refine (hex_any _ _).mono ?_; rintro e w' ⟨rfl, rfl⟩))
              go_round
              case rel => exact ⟨k + 1, by have := HQ.out; omega, by have := HQ.out; subst this; go_num, fun j hj => by rcases Nat.lt_succ_iff_lt_or_eq.1 hj with h | rfl; exact HNO.out j h; rw [← HQ.out]; exact HN.out⟩
              case measure => simp [intOf]; omega
          · clear hn
            go_wp2_with (first | (go_at_call 51; refine (digit_any _ _).mono ?_; rintro e w' ⟨rfl, rfl⟩) | (go_at_call 61; refine (hex_any _ _).mono ?_; rintro e w' ⟨rfl, rfl⟩))
            go_round
            case rel => exact ⟨k + 1, by have := HQ.out; omega, by have := HQ.out; subst this; go_num, fun j hj => by rcases Nat.lt_succ_iff_lt_or_eq.1 hj with h | rfl; exact HNO.out j h; rw [← HQ.out]; exact HN.out⟩
            case measure => simp [intOf]; omega
      · go_wp2_with (first | (go_at_call 51; refine (digit_any _ _).mono ?_; rintro e w' ⟨rfl, rfl⟩) | (go_at_call 61; refine (hex_any _ _).mono ?_; rintro e w' ⟨rfl, rfl⟩))
        go_ret
        refine ⟨retI ?_, rfl⟩
        rw [HPL.out, take_len (k := k) (by have := HQ.out; omega) (while_take (by have := HQ.out; omega) HNO.out (.inl (by have := HQ.out; omega)))]
        have e := HQ.out
        omega
  · have hpl : pieceL l p = (l.drop p).takeWhile isLet := by unfold pieceL; rw [if_pos (by unfold isLet; rw [hc])]
    have HPL : Hid (pieceL l p = (l.drop p).takeWhile isLet) := hpl
    clear hpl
    generalize pieceL l p = Z at HPL
    go_enter Tryd.func48, Tryd.ntmps48
    go_wp2_with (first | (go_at_call 47; refine (letter_any _ _).mono ?_; rintro e w' ⟨rfl, rfl⟩))
    go_loop [5] (fun v => ∃ k : Nat, p + k ≤ l.length ∧ v = .int .i64 ((p + k : Nat) : Int) ∧ ∀ j, j < k → isLet (ch l (p + j)) = true) (fun v => l.length - (intOf v).toNat)
    case atStart => exact ⟨0, by omega, rfl, by omega⟩
    case round =>
      obtain ⟨k, hk, rfl, hno⟩ := hrel
      have HNO : Hid (∀ j, j < k → isLet (ch l (p + j)) = true) := hno
      clear hno
      obtain ⟨q, hq⟩ : ∃ q, q = p + k := ⟨_, rfl⟩
      rw [← hq] at hk ⊢
      have HQ : Hid (q = p + k) := hq
      clear hq
      by_cases hlt : q < l.length
      · cases hd : isLetI ((ch l q).toNat : Int)
        · go_wp2_with (first | (go_at_call 47; refine (letter_any _ _).mono ?_; rintro e w' ⟨rfl, rfl⟩))
          go_ret
          refine ⟨retI ?_, rfl⟩
          rw [HPL.out, take_len (k := k) (by have := HQ.out; omega) (while_take (by have := HQ.out; omega) HNO.out (.inr (by rw [← HQ.out]; exact hd)))]
          have e := HQ.out
          omega
        · go_wp2_with (first | (go_at_call 47; refine (letter_any _ _).mono ?_; rintro e w' ⟨rfl, rfl⟩))
          go_round
          case rel => exact ⟨k + 1, by have := HQ.out; omega, by have := HQ.out; subst this; go_num, fun j hj => by rcases Nat.lt_succ_iff_lt_or_eq.1 hj with h | rfl; exact HNO.out j h; rw [← HQ.out]; exact hd⟩
          case measure => simp [intOf]; omega
      · go_wp2_with (first | (go_at_call 47; refine (letter_any _ _).mono ?_; rintro e w' ⟨rfl, rfl⟩))
        go_ret
        refine ⟨retI ?_, rfl⟩
        rw [HPL.out, take_len (k := k) (by have := HQ.out; omega) (while_take (by have := HQ.out; omega) HNO.out (.inl (by have := HQ.out; omega)))]
        have e := HQ.out
        omega
end Go.Proofs.YtbgfabkneifccaaDoor
