/-
  spec.BlockStep and what it calls.
-/
import Derived.Test.YtalopffpaepaaaaBlkM
import Derived.Test.YtalopffpaepaaaaSArgs
import Derived.Test.YtalopffpaepaaaaSOwn
import Derived.Test.YtalopffpaepaaaaOwnI
import Derived.Deep.RegionHeld3
namespace Go.Proofs.Ytalopffpaepaaaa
open Go.RowKit
set_option linter.unusedVariables false
attribute [local go_sem] bs_size bs_get bs_extract bs_append bs_eq bs_toList

set_option maxHeartbeats 800000 in
theorem l6Least_any (n : Int) (w : World) : Calls Try.prog 74 #[.int .i64 n] w fun e w' => e = .returned (.int .i64 (b01 (decide (n ≠ 0)))) ∧ w' = w := by
  have HB : Hid (∀ (b : Bool) (w : World), Calls Try.prog 75 #[.bool b] w fun e w' => e = .returned (.int .i64 (b01 b)) ∧ w' = w) := fun b w => l2Bit_any b w
  by_cases h : n = 0
  · subst h
    go_enter Try.func74, Try.ntmps74
    go_wp2_with fail
    refine (HB.out _ _).mono ?_
    rintro e w2 ⟨rfl, rfl⟩
    go_wp2_with fail
    go_ret
    exact ⟨rfl, rfl⟩
  · have e1 : (n != 0) = true := by simpa using h
    have e2 : decide (n ≠ 0) = true := decide_eq_true h
    rw [e2]
    go_enter Try.func74, Try.ntmps74
    go_wp2_with fail
    refine (HB.out _ _).mono ?_
    rintro e w2 ⟨rfl, rfl⟩
    go_wp2_with fail
    go_ret
    exact ⟨rfl, rfl⟩

set_option maxHeartbeats 800000 in
theorem l6Own_any (op : Int) (w : World) (h1 : 1 ≤ op) (h4 : op ≤ 4) : Calls Try.prog 35 #[.int .i64 op] w fun e w' => e = .returned (.int .i64 (bkN op)) ∧ Below w.heap.size w w' := by
  have HO : Hid (∀ (w : World), Calls Try.prog 68 #[.agg #[.int .i64 0, .int .i64 op, .string ⟨#[]⟩, .int .i64 0, .int .i64 0, .slice none 0 0, .slice none 0 0, .slice none 0 0]] w fun e w' => VarsR w.heap.size w' e (ownOf 3 op []) ∧ Below w.heap.size w w') := fun w => l5Own_any ⟨0, op, [], 0, 0, [], [], []⟩ (.slice none 0 0) (.slice none 0 0) (.slice none 0 0) w ⟨_, _, _, rfl⟩ ⟨_, _, _, rfl⟩ ⟨_, _, _, rfl⟩ (by simp) h1 h4
  have hl : (ownOf 3 op []).length = bkN op := bkOf_len op 3 []
  go_enter Try.func35, Try.ntmps35
  go_wp2_with fail
  refine (HO.out _).mono ?_
  rintro e w2 ⟨⟨g, rfl, hg, hc⟩, hb⟩
  rw [hl]
  have HB : Hid (Below w.heap.size w w2) := hb
  clear hb hc hg hl HO
  go_wp2_with fail
  go_ret
  exact ⟨rfl, HB.out⟩

set_option maxHeartbeats 800000 in
theorem l6All_any (a : Option Addr) (zs : List Int) (cap : Nat) (w : World) (hlen : zs.length ≤ 1048576) (hn : Nums w a zs) :
    Calls Try.prog 45 #[.slice a zs.length cap] w fun e w' => e = .returned (.bool (wordsB zs)) ∧ w' = w := by
  go_enter Try.func45, Try.ntmps45
  go_wp2
  go_loop [3] (fun i => ∃ k : Nat, k ≤ zs.length ∧ i = .int .i64 k ∧ ∀ j, j < k → 0 ≤ zs.getD j 0 ∧ zs.getD j 0 ≤ 65535) (fun i => zs.length - (intOf i).toNat)
  case atStart => exact ⟨0, Nat.zero_le _, rfl, fun j hj => by omega⟩
  case round =>
    obtain ⟨k, hk, rfl, ho⟩ := hrel
    have HO : Hid _ := ho
    clear ho
    by_cases hlt : k < zs.length
    · rcases hn with hn | ⟨b, off, rfl, hc⟩
      · subst hn; simp at hlt
      have hcell := hc k hlt
      clear hc
      obtain ⟨z, hz⟩ : ∃ z, z = zs.getD k 0 := ⟨_, rfl⟩
      rw [← hz] at hcell
      have HZ : Hid _ := hz
      clear hz
      by_cases h5 : 0 ≤ z ∧ z ≤ 65535
      · obtain ⟨h5, h6⟩ := h5
        go_wp2_with (go_at_call 71; refine (l1Word_yes _ _ h5 h6).mono ?_; rintro e w' ⟨rfl, rfl⟩)
        go_round
        case rel =>
          refine ⟨k + 1, by omega, by go_num, fun j hj => ?_⟩
          by_cases hjk : j = k
          · subst hjk; rw [← HZ.out]; exact ⟨h5, h6⟩
          · exact HO.out j (by omega)
        case measure => simp [intOf]; omega
      · have h6 : z < 0 ∨ 65535 < z := by omega
        have H6 : Hid _ := h6
        clear h6 h5
        go_wp2_with (go_at_call 71; refine (l1Word_no _ _ H6.out).mono ?_; rintro e w' ⟨rfl, rfl⟩)
        go_ret
        have hf := wordsB_bad k hlt (by rw [← HZ.out]; exact H6.out)
        exact ⟨by rw [hf]; rfl, rfl⟩
    · have hk2 : k = zs.length := by omega
      subst hk2
      go_wp2
      go_ret
      have hf := wordsB_ok HO.out
      exact ⟨by rw [hf]; rfl, rfl⟩
end Go.Proofs.Ytalopffpaepaaaa
