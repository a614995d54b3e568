/-
  strings.Clone.
-/
import Derived.Test.YtanalajojjpjnaaShelf
import Derived.Test.YtanalajojjpjnaaStr
import Derived.Test.YtanalajojjpjnaaBase
namespace Go.Proofs.Ytanalajojjpjnaa
open Go.RowKit
set_option linter.unusedVariables false
attribute [local go_sem] bs_size bs_get bs_extract bs_append bs_eq bs_toList
theorem clone_any (l : List UInt8) (hl : l.length ≤ 2000000) (w : World) : Calls Try.prog 45 #[.string (bs l)] w fun e w' => e = .returned (.string (bs l)) ∧ Below w.heap.size w w' := by
  have hsz : (bs l).size ≤ 281474976710656 := by rw [bs_size]; omega
  go_enter Try.func45, Try.ntmps45
  go_wp2_with (go_at_call 77; refine (Try.stringslite_Clone _ _ hsz).mono ?_; rintro e w1 ⟨rfl, hb⟩)
  go_ret
  exact ⟨rfl, hb⟩
end Go.Proofs.Ytanalajojjpjnaa
