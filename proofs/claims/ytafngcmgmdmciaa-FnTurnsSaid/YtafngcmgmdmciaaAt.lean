/-
  laws.lwAt chooses a place that lies within its bound; it writes nothing.
-/
import Derived.Test.YtafngcmgmdmciaaDraws
namespace Go.Proofs.Ytafngcmgmdmciaa
open Go.RowKit

set_option maxHeartbeats 1600000 in
theorem at_any (K cap A : Nat) (c : Option Addr) (n : Int) (w : World) (hK : K ≤ 1048576) (hA : A ≤ 1000) (hn0 : 0 ≤ n) (hn1 : n ≤ 100000) (hb : Bytes w c K) :
    Calls Try.prog 46 #[.slice c K cap, .int .i64 (A : Int), .int .i64 n] w fun e w' =>
      ∃ r : Int, e = .returned (.int .i64 r) ∧ 0 ≤ r ∧ (r < n ∨ r = 0) ∧ Below w.heap.size w w' := by
  by_cases h1 : n ≤ 1
  · clear hb
    go_enter Try.func46, Try.ntmps46
    go_wp2
    go_ret
    exact ⟨0, rfl, by omega, .inr rfl, Below.refl _ _⟩
  by_cases h2 : K = 0
  · subst h2
    clear hb
    go_enter Try.func46, Try.ntmps46
    go_wp2
    go_ret
    have hp : 0 < n := by omega
    exact ⟨_, rfl, Int.emod_nonneg _ (by omega), .inl (Int.emod_lt_of_pos _ hp), Below.refl _ _⟩
  rcases hb with hb | ⟨b, off, rfl, hby⟩
  · exact absurd hb h2
  obtain ⟨y1, hy1, hy2, hy3⟩ := hby (A % K) (Nat.mod_lt _ (by omega))
  obtain ⟨y2, hy4, hy5, hy6⟩ := hby ((A + 1) % K) (Nat.mod_lt _ (by omega))
  have hq : (A : Int) / (K : Int) ≤ 1000 := by
    have h := Int.ediv_le_self (a := (A : Int)) (K : Int) (by omega)
    omega
  have hq0 : 0 ≤ (A : Int) / (K : Int) := Int.ediv_nonneg (by omega) (by omega)
  have hm1 : A % K < K := Nat.mod_lt _ (by omega)
  have hm2 : (A + 1) % K < K := Nat.mod_lt _ (by omega)
  have hi1 : ((A : Int) + 1) % (K : Int) < (K : Int) := Int.emod_lt_of_pos _ (by omega)
  have hi2 : 0 ≤ ((A : Int) + 1) % (K : Int) := Int.emod_nonneg _ (by omega)
  have hp : 0 < n := by omega
  clear hby
  by_cases h3 : 200 < n
  · go_enter Try.func46, Try.ntmps46
    go_wp2
    go_region
    go_wp2
    go_ret
    exact ⟨_, rfl, Int.emod_nonneg _ (by omega), .inl (Int.emod_lt_of_pos _ hp), (Below.refl _ _).drew⟩
  · go_enter Try.func46, Try.ntmps46
    go_wp2
    go_region
    go_wp2
    go_ret
    exact ⟨_, rfl, Int.emod_nonneg _ (by omega), .inl (Int.emod_lt_of_pos _ hp), (Below.refl _ _).drew⟩
end Go.Proofs.Ytafngcmgmdmciaa
