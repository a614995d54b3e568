/-
  spec.WordsFault answers its plain fault.
-/
import Derived.Test.YtpobajblngblfaaWords0
namespace Go.Proofs.Ytpobajblngblfaa
open Go.RowKit
set_option maxHeartbeats 400000 in
theorem sFault_any (a : Option Addr) (zs : List Int) (cap : Nat) (w : World) (hlen : zs.length ≤ 9223372036854775807) (hn : Nums w a zs) :
    Calls Try.prog 51 #[.slice a zs.length cap] w fun e w' => e = .returned (.int .i64 (fault zs)) ∧ w' = w := by
  by_cases h4 : 400 < zs.length
  · rw [fault_many h4]
    go_enter Try.func51, Try.ntmps51
    go_wp2
    go_ret
    exact ⟨rfl, rfl⟩
  · go_enter Try.func51, Try.ntmps51
    go_wp2
    go_loop [3] (fun i => ∃ k : Nat, k ≤ zs.length ∧ i = .int .i64 k ∧ ∀ j, j < k → 0 ≤ zs.getD j 0 ∧ zs.getD j 0 ≤ 65535) (fun i => zs.length - (intOf i).toNat)
    case atStart => exact ⟨0, Nat.zero_le _, rfl, fun j hj => by omega⟩
    case round =>
      obtain ⟨k, hk, rfl, ho⟩ := hrel
      have HO : Hid _ := ho
      clear ho
      by_cases hlt : k < zs.length
      · rcases hn with hn | ⟨b, off, rfl, hc⟩
        · subst hn; simp at hlt
        have hcell := hc k hlt
        clear hc
        obtain ⟨z, hz⟩ : ∃ z, z = zs.getD k 0 := ⟨_, rfl⟩
        rw [← hz] at hcell
        have HZ : Hid _ := hz
        clear hz
        by_cases h5 : 0 ≤ z ∧ z ≤ 65535
        · obtain ⟨h5, h6⟩ := h5
          go_wp2_with (go_at_call 61; refine (l1Word_yes _ _ h5 h6).mono ?_; rintro e w' ⟨rfl, rfl⟩)
          go_round
          case rel =>
            refine ⟨k + 1, by omega, by go_num, fun j hj => ?_⟩
            by_cases hjk : j = k
            · subst hjk; rw [← HZ.out]; exact ⟨h5, h6⟩
            · exact HO.out j (by omega)
          case measure => simp [intOf]; omega
        · have h6 : z < 0 ∨ 65535 < z := by omega
          have H6 : Hid _ := h6
          clear h6 h5
          go_wp2_with (go_at_call 61; refine (l1Word_no _ _ H6.out).mono ?_; rintro e w' ⟨rfl, rfl⟩)
          go_ret
          have hf := fault_bad (zs := zs) (by omega) k hlt (by rw [← HZ.out]; exact H6.out)
          exact ⟨by rw [hf]; rfl, rfl⟩
      · have hk2 : k = zs.length := by omega
        subst hk2
        go_wp2
        go_ret
        have hf := fault_ok (zs := zs) (by omega) HO.out
        exact ⟨by rw [hf]; rfl, rfl⟩
end Go.Proofs.Ytpobajblngblfaa
