/-
  spec.DrawCrcWords.
-/
import Derived.Test.YtafngcmgmdmciabDraws
namespace Go.Proofs.Ytafngcmgmdmciab
open Go.RowKit

set_option maxHeartbeats 400000 in
theorem drawWords_any (a : Option Addr) (K cap : Nat) (w : World) (hK : K ≤ 1048576) (hb : Bytes w a K) (ha : K ≠ 0 → ∀ b o s, a = some ⟨b, o, s⟩ → b < w.heap.size) :
    Calls Try.prog 7 #[.slice a K cap] w fun e w' => ∃ v, e = .returned v ∧ Drawn w w' v := by
  have HA : Hid (K ≠ 0 → ∀ b o s, a = some ⟨b, o, s⟩ → b < w.heap.size) := ha
  clear ha
  go_enter Try.func7, Try.ntmps7
  go_wp2_with fail
  refine (source_any a K cap w).mono ?_
  rintro e w1 ⟨rfl, rfl⟩
  go_wp2_with fail
  refine (words_new a K cap w hK hb HA.out).mono ?_
  rintro e w2 ⟨v, rfl, hd⟩
  have HD : Hid (Drawn w w2 v) := hd
  clear hd
  go_wp2
  go_ret
  exact ⟨v, rfl, HD.out⟩

end Go.Proofs.Ytafngcmgmdmciab
