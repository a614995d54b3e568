/-
  The Go function laws.FnExactWordsFault answers true at every input and writes nothing that was there. No condition.
-/
import Derived.Test.YtafngcmgmdmciaaWords0
import Derived.Test.YtafngcmgmdmciaaSFlt
import Derived.Test.YtafngcmgmdmciaaCopy
namespace Go.Proofs.Ytafngcmgmdmciaa
open Go.RowKit
set_option linter.unusedVariables false

set_option maxHeartbeats 800000 in
theorem fnExactWordsFault_walk (a0 : Option Addr) (len0 cap0 : Nat) (z0 : List Int) (w : World) (w0 : IsRow .i64 w a0 len0 cap0 z0) :
    Calls Try.prog 10 #[.slice a0 len0 cap0] w fun e w' => e = .returned (.bool true) ∧ Below w.heap.size w w' := by
  obtain ⟨hl, hn⟩ := nums_of_row w0
  obtain ⟨zs, hzs⟩ : ∃ zs, zs = z0.take len0 := ⟨_, rfl⟩
  rw [← hzs] at hl hn
  subst hl
  clear hzs w0
  by_cases hbig : 1048576 < zs.length
  · go_enter Try.func10, Try.ntmps10
    go_wp2
    go_ret
    exact ⟨rfl, Below.refl _ _⟩
  have hs : zs.length ≤ 1048576 := by omega
  clear hbig
  go_enter Try.func10, Try.ntmps10
  go_wp2_with fail
  refine (copy_any a0 zs cap0 w hs hn).mono ?_
  rintro e w1 ⟨rfl, ho1, hb1⟩
  have hn1 := (nums_of_own ho1).2
  go_wp2_with fail
  refine (sFault_any _ zs _ _ (by omega) hn1).mono ?_
  rintro e w1 ⟨rfl, rfl⟩
  have hn0 := hn.below hb1
  clear ho1 hn1
  go_wp2_with fail
  refine (copy_any a0 zs cap0 w1 hs hn0).mono ?_
  rintro e w2 ⟨rfl, ho2, hb2⟩
  have hn2 := (nums_of_own ho2).2
  have hn02 := hn0.below hb2
  have hB2 : Below w.heap.size w w2 := hb1.trans (hb2.mono hb1.size)
  clear ho2 hb2 hn0 hb1
  go_wp2_with fail
  refine (implFault_any _ zs _ _ (by omega) hn2).mono ?_
  rintro e w2' ⟨rfl, hbF⟩
  have hn2 := hn2.below hbF
  have hn02 := hn02.below hbF
  have hB2 : Below w.heap.size w w2' := hB2.trans (hbF.mono hB2.size)
  clear hbF
  go_wp2_with fail
  refine (copy_any a0 zs cap0 w2' hs hn02).mono ?_
  rintro e w3 ⟨rfl, ho3, hb3⟩
  have hn3 := (nums_of_own ho3).2
  have hn23 := hn2.below hb3
  have hB3 : Below w.heap.size w w3 := hB2.trans (hb3.mono hB2.size)
  clear ho3 hb3 hB2
  go_wp2_with fail
  refine (eqNums_any _ _ zs _ _ w3 (by omega) hn23 hn3).mono ?_
  rintro e w4 ⟨rfl, hb4⟩
  have hB4 : Below w.heap.size w w4 := hB3.trans (hb4.mono hB3.size)
  clear hb4 hB3 hn23 hn3 hn02 hn2 hn
  go_wp2
  go_ret
  exact ⟨rfl, hB4⟩
end Go.Proofs.Ytafngcmgmdmciaa
