/-
  impl.isBlank, isDigit, isOfNumber, isMark: as the plain ones say.
-/
import Derived.Test.YtbgfabkneifccaaDoorILex
import Derived.Test.YtbgfabkneifccaaDoorSLex
namespace Go.Proofs.YtbgfabkneifccaaDoor
open Go.RowKit
set_option linter.unusedVariables false
attribute [local go_sem] bs_size bs_get bs_extract bs_append bs_eq bs_toList

set_option maxHeartbeats 400000 in
theorem iblank_any (n : Int) (w : World) : Calls Tryd.prog 29 #[.int .u8 n] w fun e w' => e = .returned (.bool (decide (n = 32) || decide (n = 10))) ∧ w' = w := by
  by_cases h1 : n = 32
  · subst h1
    go_enter Tryd.func29, Tryd.ntmps29
    go_wp2
    go_ret
    exact ⟨rfl, rfl⟩
  · by_cases h2 : n = 10
    · subst h2
      go_enter Tryd.func29, Tryd.ntmps29
      go_wp2
      go_ret
      exact ⟨rfl, rfl⟩
    · have hv : (decide (n = 32) || decide (n = 10)) = false := by simp [h1, h2]
      rw [hv]; clear hv
      have b1 : (n == 32) = false := by simpa using h1
      have b2 : (n == 10) = false := by simpa using h2
      go_enter Tryd.func29, Tryd.ntmps29
      go_wp2
      go_ret
      exact ⟨rfl, rfl⟩

set_option maxHeartbeats 400000 in
theorem idigit_any (n : Int) (w : World) : Calls Tryd.prog 31 #[.int .u8 n] w fun e w' => e = .returned (.bool (isDigI n)) ∧ w' = w := by
  by_cases h1 : 48 ≤ n
  · by_cases h2 : n ≤ 57
    · have hv : isDigI n = true := decide_eq_true ⟨h1, h2⟩
      rw [hv]; clear hv
      go_enter Tryd.func31, Tryd.ntmps31
      go_wp2
      go_ret
      exact ⟨rfl, rfl⟩
    · have hv : isDigI n = false := decide_eq_false (by omega)
      rw [hv]; clear hv
      go_enter Tryd.func31, Tryd.ntmps31
      go_wp2
      go_ret
      exact ⟨rfl, rfl⟩
  · have hv : isDigI n = false := decide_eq_false (by omega)
    rw [hv]; clear hv
    go_enter Tryd.func31, Tryd.ntmps31
    go_wp2
    go_ret
    exact ⟨rfl, rfl⟩

/-- what numbers are made of -/
def isNumI (n : Int) : Bool := isDigI n || isHexI n || decide (n = 35)
theorem isNum_I (c : UInt8) : isNum c = isNumI (c.toNat : Int) := rfl
set_option maxHeartbeats 400000 in
theorem inum_any (n : Int) (w : World) : Calls Tryd.prog 32 #[.int .u8 n] w fun e w' => e = .returned (.bool (isNumI n)) ∧ w' = w := by
  cases hd : isDigI n
  · by_cases h3 : n = 35
    · subst h3
      go_enter Tryd.func32, Tryd.ntmps32
      go_wp2_with (first | (go_at_call 31; refine (idigit_any _ _).mono ?_; rintro e w' ⟨rfl, rfl⟩))
      go_ret
      exact ⟨rfl, rfl⟩
    · have b1 : (n == 35) = false := by simpa using h3
      have hv : isNumI n = isHexI n := by unfold isNumI; rw [hd, decide_eq_false h3]; simp
      rw [hv]; clear hv h3
      by_cases h1 : 65 ≤ n
      · by_cases h2 : n ≤ 70
        · have hv : isHexI n = true := decide_eq_true ⟨h1, h2⟩
          rw [hv]; clear hv
          go_enter Tryd.func32, Tryd.ntmps32
          go_wp2_with (first | (go_at_call 31; refine (idigit_any _ _).mono ?_; rintro e w' ⟨rfl, rfl⟩))
          go_ret
          exact ⟨rfl, rfl⟩
        · have hv : isHexI n = false := decide_eq_false (by omega)
          rw [hv]; clear hv
          have b2 : decide (n ≤ 70) = false := decide_eq_false h2
          clear h2
          go_enter Tryd.func32, Tryd.ntmps32
          go_wp2_with (first | (go_at_call 31; refine (idigit_any _ _).mono ?_; rintro e w' ⟨rfl, rfl⟩))
          go_ret
          exact ⟨rfl, rfl⟩
      · have hv : isHexI n = false := decide_eq_false (by omega)
        rw [hv]; clear hv
        go_enter Tryd.func32, Tryd.ntmps32
        go_wp2_with (first | (go_at_call 31; refine (idigit_any _ _).mono ?_; rintro e w' ⟨rfl, rfl⟩))
        go_ret
        exact ⟨rfl, rfl⟩
  · have hv : isNumI n = true := by unfold isNumI; rw [hd]; rfl
    rw [hv]; clear hv
    go_enter Tryd.func32, Tryd.ntmps32
    go_wp2_with (first | (go_at_call 31; refine (idigit_any _ _).mono ?_; rintro e w' ⟨rfl, rfl⟩))
    go_ret
    exact ⟨rfl, rfl⟩

/-- is a text a mark? -/
def isMarkL (l : List UInt8) : Bool := marksL.any (fun x => x == l)
set_option maxHeartbeats 1600000 in
theorem iMark_any (l : List UInt8) (w : World) : Calls Tryd.prog 33 #[.string (bs l)] w fun e w' => e = .returned (.bool (isMarkL l)) ∧ w' = w := by
  cases h : isMarkL l
  ·
    have b0 : (l == [58, 61]) = false := beq_eq_false_iff_ne.2 fun e => by subst e; exact absurd h (by decide)
    have b1 : (l == [60, 62]) = false := beq_eq_false_iff_ne.2 fun e => by subst e; exact absurd h (by decide)
    have b2 : (l == [60, 61]) = false := beq_eq_false_iff_ne.2 fun e => by subst e; exact absurd h (by decide)
    have b3 : (l == [62, 61]) = false := beq_eq_false_iff_ne.2 fun e => by subst e; exact absurd h (by decide)
    have b4 : (l == [43]) = false := beq_eq_false_iff_ne.2 fun e => by subst e; exact absurd h (by decide)
    have b5 : (l == [45]) = false := beq_eq_false_iff_ne.2 fun e => by subst e; exact absurd h (by decide)
    have b6 : (l == [42]) = false := beq_eq_false_iff_ne.2 fun e => by subst e; exact absurd h (by decide)
    have b7 : (l == [47]) = false := beq_eq_false_iff_ne.2 fun e => by subst e; exact absurd h (by decide)
    have b8 : (l == [61]) = false := beq_eq_false_iff_ne.2 fun e => by subst e; exact absurd h (by decide)
    have b9 : (l == [60]) = false := beq_eq_false_iff_ne.2 fun e => by subst e; exact absurd h (by decide)
    have b10 : (l == [62]) = false := beq_eq_false_iff_ne.2 fun e => by subst e; exact absurd h (by decide)
    have b11 : (l == [40]) = false := beq_eq_false_iff_ne.2 fun e => by subst e; exact absurd h (by decide)
    have b12 : (l == [41]) = false := beq_eq_false_iff_ne.2 fun e => by subst e; exact absurd h (by decide)
    have b13 : (l == [91]) = false := beq_eq_false_iff_ne.2 fun e => by subst e; exact absurd h (by decide)
    have b14 : (l == [93]) = false := beq_eq_false_iff_ne.2 fun e => by subst e; exact absurd h (by decide)
    have b15 : (l == [59]) = false := beq_eq_false_iff_ne.2 fun e => by subst e; exact absurd h (by decide)
    have b16 : (l == [58]) = false := beq_eq_false_iff_ne.2 fun e => by subst e; exact absurd h (by decide)
    have b17 : (l == [44]) = false := beq_eq_false_iff_ne.2 fun e => by subst e; exact absurd h (by decide)
    clear h
    go_enter Tryd.func33, Tryd.ntmps33
    go_wp2
    go_ret
    exact ⟨rfl, rfl⟩
  · unfold isMarkL at h
    obtain ⟨x, hx, hxl⟩ := List.any_eq_true.1 h
    have hxl : x = l := by simpa using hxl
    subst hxl
    clear h
    simp only [marksL, List.mem_cons, List.not_mem_nil, or_false] at hx
    rcases hx with rfl | rfl | rfl | rfl | rfl | rfl | rfl | rfl | rfl | rfl | rfl | rfl | rfl | rfl | rfl | rfl | rfl | rfl
    all_goals
      go_enter Tryd.func33, Tryd.ntmps33
      go_wp2
      go_ret
      exact ⟨rfl, rfl⟩
end Go.Proofs.YtbgfabkneifccaaDoor
