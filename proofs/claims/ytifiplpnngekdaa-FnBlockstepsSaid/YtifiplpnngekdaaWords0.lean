/-
  impl.WordsFault answers its plain fault at every list of numbers that lies in memory; the small tests (fitsWord, l1In, l1Word) answer as they should.
-/
import Derived.Test.YtifiplpnngekdaaBase
namespace Go.Proofs.Ytifiplpnngekdaa
open Go.RowKit

/-- the numbers that are words -/
def isWord (z : Int) : Prop := 0 ≤ z ∧ z ≤ 65535

theorem fitsWord_yes (z : Int) (w : World) (h1 : 0 ≤ z) (h2 : z ≤ 65535) :
    Calls Try.prog 48 #[.int .i64 z] w fun e w' => e = .returned (.bool true) ∧ w' = w := by
  go_enter Try.func48, Try.ntmps48
  go_wp2
  go_ret
  exact ⟨rfl, rfl⟩

theorem fitsWord_no (z : Int) (w : World) (h : z < 0 ∨ 65535 < z) :
    Calls Try.prog 48 #[.int .i64 z] w fun e w' => e = .returned (.bool false) ∧ w' = w := by
  rcases h with h | h
  · have hd : decide (0 ≤ z) = false := decide_eq_false (by omega)
    go_enter Try.func48, Try.ntmps48
    go_wp2
    go_ret
    exact ⟨rfl, rfl⟩
  · have h0 : 0 ≤ z := by omega
    have hd : decide (z ≤ 65535) = false := decide_eq_false (by omega)
    go_enter Try.func48, Try.ntmps48
    go_wp2
    go_ret
    exact ⟨rfl, rfl⟩

theorem l1In_yes (z a b : Int) (w : World) (h1 : a ≤ z) (h2 : z ≤ b) :
    Calls Try.prog 11 #[.int .i64 z, .int .i64 a, .int .i64 b] w fun e w' => e = .returned (.bool true) ∧ w' = w := by
  go_enter Try.func11, Try.ntmps11
  go_wp2
  go_ret
  exact ⟨rfl, rfl⟩

theorem l1In_no (z a b : Int) (w : World) (h : z < a ∨ b < z) :
    Calls Try.prog 11 #[.int .i64 z, .int .i64 a, .int .i64 b] w fun e w' => e = .returned (.bool false) ∧ w' = w := by
  by_cases h1 : a ≤ z
  · have hd : decide (z ≤ b) = false := decide_eq_false (by omega)
    clear h
    go_enter Try.func11, Try.ntmps11
    go_wp2
    go_ret
    exact ⟨rfl, rfl⟩
  · have hd : decide (a ≤ z) = false := decide_eq_false (by omega)
    clear h
    go_enter Try.func11, Try.ntmps11
    go_wp2
    go_ret
    exact ⟨rfl, rfl⟩

theorem l1Word_yes (z : Int) (w : World) (h1 : 0 ≤ z) (h2 : z ≤ 65535) :
    Calls Try.prog 31 #[.int .i64 z] w fun e w' => e = .returned (.bool true) ∧ w' = w := by
  go_enter Try.func31, Try.ntmps31
  go_wp2_with (go_at_call 11; refine (l1In_yes _ _ _ _ h1 h2).mono ?_; rintro e w' ⟨rfl, rfl⟩)
  go_ret
  exact ⟨rfl, rfl⟩

theorem l1Word_no (z : Int) (w : World) (h : z < 0 ∨ 65535 < z) :
    Calls Try.prog 31 #[.int .i64 z] w fun e w' => e = .returned (.bool false) ∧ w' = w := by
  go_enter Try.func31, Try.ntmps31
  go_wp2_with (go_at_call 11; refine (l1In_no _ _ _ _ h).mono ?_; rintro e w' ⟨rfl, rfl⟩)
  go_ret
  exact ⟨rfl, rfl⟩

/-- what WordsFault answers -/
def fault (zs : List Int) : Int := if 400 < zs.length then 2 else if ∀ z ∈ zs, 0 ≤ z ∧ z ≤ 65535 then 0 else 3

theorem fault_many {zs : List Int} (h : 400 < zs.length) : fault zs = 2 := by rw [fault, if_pos h]
theorem fault_ok {zs : List Int} (h : zs.length ≤ 400) (hz : ∀ i, i < zs.length → 0 ≤ zs.getD i 0 ∧ zs.getD i 0 ≤ 65535) : fault zs = 0 := by
  rw [fault, if_neg (by omega), if_pos]
  intro z hm
  obtain ⟨i, hi, rfl⟩ := List.getElem_of_mem hm
  have := hz i hi
  rw [List.getD_eq_getElem?_getD, List.getElem?_eq_getElem hi] at this
  simpa using this
theorem fault_bad {zs : List Int} (h : zs.length ≤ 400) (i : Nat) (hi : i < zs.length) (hz : zs.getD i 0 < 0 ∨ 65535 < zs.getD i 0) : fault zs = 3 := by
  rw [fault, if_neg (by omega), if_neg]
  intro ha
  have hm : zs.getD i 0 ∈ zs := by
    rw [List.getD_eq_getElem?_getD, List.getElem?_eq_getElem hi]; simp
  have := ha _ hm
  omega

set_option maxHeartbeats 400000 in
theorem implFault_any (a : Option Addr) (zs : List Int) (cap : Nat) (w : World) (hlen : zs.length ≤ 9223372036854775807) (hn : Nums w a zs) :
    Calls Try.prog 28 #[.slice a zs.length cap] w fun e w' => e = .returned (.int .i64 (fault zs)) ∧ w' = w := by
  by_cases h4 : 400 < zs.length
  · rw [fault_many h4]
    go_enter Try.func28, Try.ntmps28
    go_wp2
    go_ret
    exact ⟨rfl, rfl⟩
  · go_enter Try.func28, Try.ntmps28
    go_wp2
    go_loop [4, 10] (fun _ i => ∃ k : Nat, k ≤ zs.length ∧ i = .int .i64 k ∧ ∀ j, j < k → 0 ≤ zs.getD j 0 ∧ zs.getD j 0 ≤ 65535) (fun _ i => zs.length - (intOf i).toNat)
    case atStart => exact ⟨0, Nat.zero_le _, rfl, fun j hj => by omega⟩
    case round =>
      obtain ⟨k, hk, rfl, ho⟩ := hrel
      have HO : Hid _ := ho
      clear ho
      by_cases hlt : k < zs.length
      · rcases hn with hn | ⟨b, off, rfl, hc⟩
        · subst hn; simp at hlt
        have hcell := hc k hlt
        clear hc
        obtain ⟨z, hz⟩ : ∃ z, z = zs.getD k 0 := ⟨_, rfl⟩
        rw [← hz] at hcell
        have HZ : Hid _ := hz
        clear hz
        by_cases h5 : 0 ≤ z ∧ z ≤ 65535
        · obtain ⟨h5, h6⟩ := h5
          go_wp2_with (go_at_call 48; refine (fitsWord_yes _ _ h5 h6).mono ?_; rintro e w' ⟨rfl, rfl⟩)
          go_round
          case rel =>
            refine ⟨k + 1, by omega, by go_num, fun j hj => ?_⟩
            by_cases hjk : j = k
            · subst hjk; rw [← HZ.out]; exact ⟨h5, h6⟩
            · exact HO.out j (by omega)
          case measure => simp [intOf]; omega
        · have h6 : z < 0 ∨ 65535 < z := by omega
          have H6 : Hid _ := h6
          clear h6 h5
          go_wp2_with (go_at_call 48; refine (fitsWord_no _ _ H6.out).mono ?_; rintro e w' ⟨rfl, rfl⟩)
          go_ret
          have hf := fault_bad (zs := zs) (by omega) k hlt (by rw [← HZ.out]; exact H6.out)
          exact ⟨by rw [hf]; rfl, rfl⟩
      · have hk2 : k = zs.length := by omega
        subst hk2
        go_wp2
        go_ret
        have hf := fault_ok (zs := zs) (by omega) HO.out
        exact ⟨by rw [hf]; rfl, rfl⟩
end Go.Proofs.Ytifiplpnngekdaa
