/-
  impl.isLetter, IsWord, IsName: as the plain ones say.
-/
import Derived.Test.YtepjaoapjpmjkaaGreatDoorTreeMath
namespace Go.Proofs.YtepjaoapjpmjkaaGreatDoor
open Go.RowKit
set_option linter.unusedVariables false
attribute [local go_sem] bs_size bs_get bs_extract bs_append bs_eq bs_toList
set_option maxHeartbeats 400000 in
theorem iletter_any (n : Int) (w : World) : Calls Tryz.prog 111 #[.int .u8 n] w fun e w' => e = .returned (.bool (isLetI n)) ∧ w' = w := by
 by_cases h1 : 97 ≤ n
 ·by_cases h2 : n ≤ 122
  ·have hv : isLetI n = true := decide_eq_true (.inl ⟨h1, h2⟩)
   rw [hv]; clear hv
   go_enter Tryz.func111, Tryz.ntmps111
   go_wp2
   go_ret
   exact ⟨rfl, rfl⟩
  ·have hv : isLetI n = false := decide_eq_false (by omega)
   rw [hv]; clear hv
   have h3 : (n == 95) = false := by simpa using (by omega : n ≠ 95)
   go_enter Tryz.func111, Tryz.ntmps111
   go_wp2
   go_ret
   exact ⟨rfl, rfl⟩
 ·by_cases h2 : n = 95
  ·subst h2
   go_enter Tryz.func111, Tryz.ntmps111
   go_wp2
   go_ret
   exact ⟨rfl, rfl⟩
  ·have hv : isLetI n = false := decide_eq_false (by omega)
   rw [hv]; clear hv
   have h3 : (n == 95) = false := by simpa using h2
   go_enter Tryz.func111, Tryz.ntmps111
   go_wp2
   go_ret
   exact ⟨rfl, rfl⟩
set_option maxHeartbeats 1600000 in
theorem iIsWord_any (l : List UInt8) (w : World) : Calls Tryz.prog 110 #[.string (bs l)] w fun e w' => e = .returned (.bool (isWordL l)) ∧ w' = w := by
 cases h : isWordL l
 ·
  have b0 : (l == [97, 110, 100]) = false := beq_eq_false_iff_ne.2 fun e => by subst e; exact absurd h (by decide)
  have b1 : (l == [98, 111, 111, 108]) = false := beq_eq_false_iff_ne.2 fun e => by subst e; exact absurd h (by decide)
  have b2 : (l == [99, 116, 117]) = false := beq_eq_false_iff_ne.2 fun e => by subst e; exact absurd h (by decide)
  have b3 : (l == [100, 111]) = false := beq_eq_false_iff_ne.2 fun e => by subst e; exact absurd h (by decide)
  have b4 : (l == [101, 108, 115, 101]) = false := beq_eq_false_iff_ne.2 fun e => by subst e; exact absurd h (by decide)
  have b5 : (l == [101, 110, 100]) = false := beq_eq_false_iff_ne.2 fun e => by subst e; exact absurd h (by decide)
  have b6 : (l == [102, 97, 108, 115, 101]) = false := beq_eq_false_iff_ne.2 fun e => by subst e; exact absurd h (by decide)
  have b7 : (l == [102, 111, 114]) = false := beq_eq_false_iff_ne.2 fun e => by subst e; exact absurd h (by decide)
  have b8 : (l == [105, 102]) = false := beq_eq_false_iff_ne.2 fun e => by subst e; exact absurd h (by decide)
  have b9 : (l == [105, 110]) = false := beq_eq_false_iff_ne.2 fun e => by subst e; exact absurd h (by decide)
  have b10 : (l == [105, 110, 116]) = false := beq_eq_false_iff_ne.2 fun e => by subst e; exact absurd h (by decide)
  have b11 : (l == [109, 111, 100]) = false := beq_eq_false_iff_ne.2 fun e => by subst e; exact absurd h (by decide)
  have b12 : (l == [110, 111, 116]) = false := beq_eq_false_iff_ne.2 fun e => by subst e; exact absurd h (by decide)
  have b13 : (l == [111, 114]) = false := beq_eq_false_iff_ne.2 fun e => by subst e; exact absurd h (by decide)
  have b14 : (l == [111, 117, 116]) = false := beq_eq_false_iff_ne.2 fun e => by subst e; exact absurd h (by decide)
  have b15 : (l == [114, 116, 114, 105, 103]) = false := beq_eq_false_iff_ne.2 fun e => by subst e; exact absurd h (by decide)
  have b16 : (l == [115, 114]) = false := beq_eq_false_iff_ne.2 fun e => by subst e; exact absurd h (by decide)
  have b17 : (l == [116, 104, 101, 110]) = false := beq_eq_false_iff_ne.2 fun e => by subst e; exact absurd h (by decide)
  have b18 : (l == [116, 111]) = false := beq_eq_false_iff_ne.2 fun e => by subst e; exact absurd h (by decide)
  have b19 : (l == [116, 111, 110]) = false := beq_eq_false_iff_ne.2 fun e => by subst e; exact absurd h (by decide)
  have b20 : (l == [116, 114, 117, 101]) = false := beq_eq_false_iff_ne.2 fun e => by subst e; exact absurd h (by decide)
  have b21 : (l == [118, 97, 114]) = false := beq_eq_false_iff_ne.2 fun e => by subst e; exact absurd h (by decide)
  have b22 : (l == [120, 111, 114]) = false := beq_eq_false_iff_ne.2 fun e => by subst e; exact absurd h (by decide)
  clear h
  go_enter Tryz.func110, Tryz.ntmps110
  go_wp2
  go_ret
  exact ⟨rfl, rfl⟩
 ·unfold isWordL at h
  obtain ⟨x, hx, hxl⟩ := List.any_eq_true.1 h
  have hxl : x = l := by simpa using hxl
  subst hxl
  clear h
  simp only [wordsL, List.mem_cons, List.not_mem_nil, or_false] at hx
  rcases hx with rfl | rfl | rfl | rfl | rfl | rfl | rfl | rfl | rfl | rfl | rfl | rfl | rfl | rfl | rfl | rfl | rfl | rfl | rfl | rfl | rfl | rfl | rfl
  all_goals
   go_enter Tryz.func110, Tryz.ntmps110
   go_wp2
   go_ret
   exact ⟨rfl, rfl⟩
set_option maxHeartbeats 800000 in
theorem iIsName_any (l : List UInt8) (w : World) (hl0 : l.length ≤ 9223372036854775807) : Calls Tryz.prog 72 #[.string (bs l)] w fun e w' => e = .returned (.bool (isNameL l)) ∧ w' = w := by
 have hw := iIsWord_any l w
 by_cases h1 : 1 ≤ l.length ∧ l.length ≤ 8
 ·have hn0 : isNameL l = (!isWordL l && l.all isLet) := by unfold isNameL; rw [decide_eq_true h1]; rfl
  obtain ⟨h1, h2⟩ := h1
  rw [hn0]
  clear hn0
  generalize isWordL l = b at hw
  cases b
  ·go_enter Tryz.func72, Tryz.ntmps72
   go_wp2_with (first | (go_at_call 110; refine hw.mono ?_; rintro e w' ⟨rfl, rfl⟩))
   clear hw
   go_loop [18] (fun i => ∃ k : Nat, k ≤ l.length ∧ i = .int .i64 k ∧ ∀ j, j < k → isLet (ch l j) = true) (fun i => l.length - (intOf i).toNat)
   case atStart => exact ⟨0, by omega, rfl, by omega⟩
   case round =>
    obtain ⟨k, hk, rfl, hno⟩ := hrel
    have HNO := hid hno
    clear hno
    by_cases hlt : k < l.length
    ·cases hc : isLetI ((ch l k).toNat : Int)
     ·go_wp2_with (first | (go_at_call 111; refine (iletter_any _ _).mono ?_; rintro e w' ⟨rfl, rfl⟩))
      go_ret
      exact ⟨retB (by rw [all_no hlt hc]; rfl), rfl⟩
     ·go_wp2_with (first | (go_at_call 111; refine (iletter_any _ _).mono ?_; rintro e w' ⟨rfl, rfl⟩))
      go_round
      case rel => exact ⟨k + 1, by omega, by go_num, fun j hj => by rcases Nat.lt_succ_iff_lt_or_eq.1 hj with h | rfl; exact HNO.out j h; exact hc⟩
      case measure => simp [intOf]; omega
    ·have hk3 : k = l.length := by omega
     subst hk3
     go_wp2
     go_ret
     exact ⟨retB (by rw [all_yes HNO.out]), rfl⟩
  ·go_enter Tryz.func72, Tryz.ntmps72
   go_wp2_with (first | (go_at_call 110; refine hw.mono ?_; rintro e w' ⟨rfl, rfl⟩))
   go_ret
   exact ⟨rfl, rfl⟩
 ·have hn0 : isNameL l = false := by unfold isNameL; rw [decide_eq_false h1]; rfl
  rw [hn0]
  clear hn0 hw
  by_cases h2 : 1 ≤ l.length
  ·have h3 : 8 < l.length := by omega
   clear h1
   go_enter Tryz.func72, Tryz.ntmps72
   go_wp2
   go_ret
   exact ⟨rfl, rfl⟩
  ·have h3 : l.length = 0 := by omega
   clear h1
   go_enter Tryz.func72, Tryz.ntmps72
   go_wp2
   go_ret
   exact ⟨rfl, rfl⟩
end Go.Proofs.YtepjaoapjpmjkaaGreatDoor
