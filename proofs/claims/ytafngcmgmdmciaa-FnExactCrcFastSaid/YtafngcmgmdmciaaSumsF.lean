/-
  spec.CrcFast answers the plain sum or the fault.
-/
import Derived.Test.YtafngcmgmdmciaaSums
namespace Go.Proofs.Ytafngcmgmdmciaa
open Go.RowKit

set_option maxHeartbeats 800000 in
theorem specFast_any (a : Option Addr) (zs : List Int) (cap : Nat) (w : World) (hlen : zs.length ≤ 9223372036854775807) (hn : Nums w a zs) :
    Calls Try.prog 43 #[.slice a zs.length cap] w fun e w' => e = .returned (res (fault zs) (sumV zs)) ∧ Below w.heap.size w w' := by
  have hn1 : Nums (w.alloc (.cells #[.int .i64 0, .int .i64 0] 46)) a zs := hn.below ((Below.refl _ _).alloc (Nat.le_refl _) _)
  go_enter Try.func43, Try.ntmps43
  go_wp2_with fail
  refine (specWords_any a zs cap _ hlen hn1).mono ?_
  rintro e w1 ⟨rfl, hb⟩
  obtain ⟨hc0, hc1, hf0, hf1, hz⟩ := own2 hb
  go_wp2
  refine bodyPost_ret (v := res (fault zs) (sumV zs)) (by simp [results, Try.results43, go_sem, hc0, hc1]) rfl ⟨rfl, ?_⟩
  have hb2 := back hb
  go_grown
end Go.Proofs.Ytafngcmgmdmciaa
