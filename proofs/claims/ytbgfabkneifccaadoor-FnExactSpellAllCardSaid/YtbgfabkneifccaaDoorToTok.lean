/-
  laws.szToken, toToken, eqTextResult.
-/
import Derived.Test.YtbgfabkneifccaaDoorSSpell
namespace Go.Proofs.YtbgfabkneifccaaDoor
open Go.RowKit
set_option linter.unusedVariables false
attribute [local go_sem] bs_size bs_get bs_extract bs_append bs_eq bs_toList

set_option maxHeartbeats 1600000 in
theorem szTok_any (t : Tok) (q left : Int) (h0 : 0 ≤ left) (h1 : left ≤ 1048576) (hl : t.text.length ≤ 9223372036854775807) (w : World) :
    Calls Tryd.prog 18 #[tokV t q, .int .i64 left] w fun e w' => e = .returned (.int .i64 (if left < t.text.length then -1 else left - t.text.length)) ∧ Below w.heap.size w w' := by
  by_cases hb : left < t.text.length
  · rw [if_pos hb]
    go_enter Tryd.func18, Tryd.ntmps18
    go_wp2
    go_ret
    exact ⟨rfl, by go_grown⟩
  · rw [if_neg hb]
    go_enter Tryd.func18, Tryd.ntmps18
    go_wp2
    go_ret
    exact ⟨rfl, by go_grown⟩

set_option maxHeartbeats 1600000 in
theorem toTok_any (t : Tok) (q : Int) (w : World) : Calls Tryd.prog 20 #[tokV t q] w fun e w' => e = .returned (tokV t q) ∧ Below w.heap.size w w' := by
  go_enter Tryd.func20, Tryd.ntmps20
  go_wp2
  refine bodyPost_ret (v := tokV t q) (by simp [results, Tryd.results20, go_sem]) rfl ⟨rfl, ?_⟩
  go_grown

set_option maxHeartbeats 1600000 in
theorem eqText_any (C : Int) (X : List UInt8) (w : World) : Calls Tryd.prog 21 #[txt C X, txt C X] w fun e w' => e = .returned (.bool true) ∧ Below w.heap.size w w' := by
  go_enter Tryd.func21, Tryd.ntmps21
  go_wp2
  go_ret
  exact ⟨rfl, by go_grown⟩
end Go.Proofs.YtbgfabkneifccaaDoor
