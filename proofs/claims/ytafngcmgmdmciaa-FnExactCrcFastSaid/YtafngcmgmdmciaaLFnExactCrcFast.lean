/-
  The Go function laws.FnExactCrcFast answers true at every input and writes nothing that was there. No condition.
-/
import Derived.Test.YtafngcmgmdmciaaQuick
import Derived.Test.YtafngcmgmdmciaaSumsF
import Derived.Test.YtafngcmgmdmciaaCopy
namespace Go.Proofs.Ytafngcmgmdmciaa
open Go.RowKit
set_option linter.unusedVariables false

set_option maxHeartbeats 800000 in
theorem fnExactCrcFast_walk (a0 : Option Addr) (len0 cap0 : Nat) (z0 : List Int) (w : World) (w0 : IsRow .i64 w a0 len0 cap0 z0) :
    Calls Try.prog 12 #[.slice a0 len0 cap0] w fun e w' => e = .returned (.bool true) ∧ Below w.heap.size w w' := by
  obtain ⟨hl, hn⟩ := nums_of_row w0
  obtain ⟨zs, hzs⟩ : ∃ zs, zs = z0.take len0 := ⟨_, rfl⟩
  rw [← hzs] at hl hn
  subst hl
  clear hzs w0
  by_cases hbig : 1048576 < zs.length
  · go_enter Try.func12, Try.ntmps12
    go_wp2
    go_ret
    exact ⟨rfl, Below.refl _ _⟩
  have hs : zs.length ≤ 1048576 := by omega
  clear hbig
  go_enter Try.func12, Try.ntmps12
  go_wp2_with fail
  refine (copy_any a0 zs cap0 w hs hn).mono ?_
  rintro e w1 ⟨rfl, ho1, hb1⟩
  have hn1 := (nums_of_own ho1).2
  have hn0 := hn.below hb1
  clear ho1 hn
  go_wp2_with fail
  refine (specFast_any _ zs _ _ (by omega) hn1).mono ?_
  rintro e w2 ⟨rfl, hb2⟩
  have hB2 : Below w.heap.size w w2 := hb1.trans (hb2.mono hb1.size)
  have hn2 := hn0.below hb2
  clear hb2 hn1 hn0 hb1
  go_wp2_with fail
  refine (copy_any a0 zs cap0 _ hs ?_).mono ?_
  · exact hn2.below ((Below.refl _ _).alloc (Nat.le_refl _) _)
  rintro e w3 ⟨rfl, ho3, hb3⟩
  obtain ⟨hc0, hc1, hf0, hf1, hz⟩ := own2 hb3
  have hn3 : Nums w3 (some ⟨w2.heap.size + 1, 0, none⟩) zs := by have h := (nums_of_own ho3).2; rw [World.size_alloc] at h; exact h
  have hB3 : Below w.heap.size w w3 := hB2.trans ((back hb3).mono hB2.size)
  have hn23 := hn2.below (back hb3)
  clear ho3 hb3 hB2 hn2
  go_wp2_with fail
  refine (implFast_any _ zs _ _ (by omega) hn3).mono ?_
  rintro e w4 ⟨rfl, hb4⟩
  have hn34 := hn3.below hb4
  have hn24 := hn23.below hb4
  have hB4 : Below w.heap.size w w4 := hB3.trans (hb4.mono hB3.size)
  have hc40 := (hb4.cell (p := ⟨w2.heap.size, 0, none⟩) hz).trans hc0
  have hc41 := (hb4.cell (p := ⟨w2.heap.size, 1, none⟩) hz).trans hc1
  have hz4 : w2.heap.size < w4.heap.size := Nat.lt_of_lt_of_le hz hb4.size
  clear hc0 hc1 hf0 hf1 hb4 hz hB3 hn23 hn3
  go_wp2_with fail
  refine (eqRes_any _ _ _).mono ?_
  rintro e w5 ⟨rfl, hb5⟩
  have hn35 := hn34.below (back hb5)
  have hn25 := hn24.below (back hb5)
  have hB5 : Below w.heap.size w w5 := hB4.trans ((back hb5).mono hB4.size)
  clear hb5 hc40 hc41 hB4 hn34 hn24
  go_wp2_with fail
  refine (copy_any a0 zs cap0 _ hs hn25).mono ?_
  rintro e w6 ⟨rfl, ho6, hb6⟩
  have hn6 := (nums_of_own ho6).2
  have hn36 := hn35.below hb6
  have hB6 : Below w.heap.size w w6 := hB5.trans (hb6.mono hB5.size)
  clear ho6 hb6 hB5 hn35 hn25
  go_wp2_with fail
  refine (eqNums_any _ _ zs _ _ w6 (by omega) hn36 hn6).mono ?_
  rintro e w7 ⟨rfl, hb7⟩
  have hB7 : Below w.heap.size w w7 := hB6.trans (hb7.mono hB6.size)
  clear hb7 hB6 hn36 hn6
  go_wp2
  go_ret
  exact ⟨rfl, hB7⟩
end Go.Proofs.Ytafngcmgmdmciaa
