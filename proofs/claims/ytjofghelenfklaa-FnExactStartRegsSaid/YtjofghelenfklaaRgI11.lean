/-
  impl.RegFault.
-/
import Derived.Test.YtjofghelenfklaaRgRun
import Derived.Test.YtjofghelenfklaaIStk8
import Derived.Test.YtjofghelenfklaaIStk11
import Derived.Test.YtjofghelenfklaaRgPrg
namespace Go.Proofs.Ytjofghelenfklaa
open Go.RowKit
set_option linter.unusedVariables false

set_option maxHeartbeats 3200000 in
set_option maxRecDepth 100000 in
theorem irgFault_any (m : SM) (sv cv : Value) (w : World) (hs : RowV w sv m.stk) (hc : RowV w cv m.cells) (hl1 : m.stk.length ≤ 1048576) (hl2 : m.cells.length ≤ 1048576) :
    Calls Try.prog 21 #[machV m sv cv] w fun e w' => e = .returned (.int .i64 (rmF m)) ∧ Below w.heap.size w w' := by
  obtain ⟨a1, k1, rfl, hn1, _⟩ := hs
  obtain ⟨a2, k2, rfl, hn2, _⟩ := hc
  have hA := heap_alloc_new w (.cells (lineS m (.slice a1 m.stk.length k1) (.slice a2 m.cells.length k2)) 28)
  have hB := (Below.refl w.heap.size w).alloc (Nat.le_refl _) (.cells (lineS m (.slice a1 m.stk.length k1) (.slice a2 m.cells.length k2)) 28)
  have hAL : Hid (∀ W3, Below w.heap.size w W3 → Calls Try.prog 78 #[.slice (some ⟨W3.heap.size, 0, none⟩) 2 2] (W3.alloc (.cells #[.slice a1 m.stk.length k1, .slice a2 m.cells.length k2] 24)) fun e w' => e = .returned (.bool (wordsB m.stk && wordsB m.cells)) ∧ w' = W3.alloc (.cells #[.slice a1 m.stk.length k1, .slice a2 m.cells.length k2] 24)) := fun W3 hb => words_two a1 a2 _ _ k1 k2 w W3 hn1 hn2 hl1 hl2 hb
  have HSP : Hid (∀ W, Calls Try.prog 76 #[machV m (.slice a1 m.stk.length k1) (.slice a2 m.cells.length k2)] W fun e w' => e = .returned (progV m) ∧ Below W.heap.size W w') := fun W => rprog_any m a1 a2 _ _ k1 k2 W
  have HIB : Hid (∀ W, Calls Try.prog 77 #[progV m] W fun e w' => e = .returned (.bool (progFit m)) ∧ Below W.heap.size W w') := fun W => pbounds_any m W
  have hF : Hid (rmFit m = (progFit m && (wordsB m.stk && wordsB m.cells))) := fit_two m
  have HS : Hid (rmF m = if rmFit m then (if m.stk.length ≠ 24 then 1 else if 80 < m.cells.length then 2 else 0) else 3) := rfl
  clear hn1 hn2
  generalize (wordsB m.stk && wordsB m.cells) = q at *
  generalize progFit m = qu at *
  generalize m.stk.length = l1 at *
  generalize m.cells.length = l2 at *
  go_enter Try.func21, Try.ntmps21
  go_upto_region 1 with fail
  generalize w.alloc (.cells (lineS m (.slice a1 l1 k1) (.slice a2 l2 k2)) 28) = W at *
  obtain ⟨c0, c1, c2, c3, c4, c5, c6⟩ := cl7 hA
  have HA := hid hA
  have HB := hid hB
  clear hA hB
  go_cut [15] from 3 (fun x W1 => x = .bool (!(qu && q)) ∧ Hid (Below w.heap.size w W1 ∧ W1.heap[w.heap.size]? = some (.cells (lineS m (.slice a1 l1 k1) (.slice a2 l2 k2)) 28 (0, 0))))
  case first =>
    clear HS hF
    cases qu
    · go_wp2_with (first | (go_at_call 76; refine (HSP.out _).mono ?_; rintro e w4 ⟨rfl, hb4⟩; have HB4 := hid (HB.out.trans (hb4.mono HB.out.size)); have HA4 := hid (blk8 HA.out hb4); clear hb4) | (go_at_call 77; refine (HIB.out _).mono ?_; rintro e w5 ⟨rfl, hb5⟩; have HB5 := hid (HB4.out.trans (hb5.mono HB4.out.size)); have HA5 := hid (blk8 HA4.out hb5); clear hb5))
      go_meet
      case rel => exact ⟨rfl, HB5.out, HA5.out⟩
    · go_wp2_with (first | (go_at_call 76; refine (HSP.out _).mono ?_; rintro e w4 ⟨rfl, hb4⟩; have HB4 := hid (HB.out.trans (hb4.mono HB.out.size)); have HA4 := hid (blk8 HA.out hb4); clear hb4) | (go_at_call 77; refine (HIB.out _).mono ?_; rintro e w5 ⟨rfl, hb5⟩; have HB5 := hid (HB4.out.trans (hb5.mono HB4.out.size)); have hA5 := blk8 HA4.out hb5; clear hb5; obtain ⟨-, d1, d2, -, -, -, -⟩ := cl7 hA5; have HA5 := hid hA5; clear hA5) | (go_at_call 78; refine (hAL.out _ HB5.out).mono ?_; rintro e w6 ⟨rfl, hw6⟩; have HB6 := hid (HB5.out.alloc HB5.out.size (.cells #[.slice a1 l1 k1, .slice a2 l2 k2] 24)); have HA6 := hid (blk8 HA5.out ((Below.refl _ _).alloc (Nat.le_refl _) (.cells #[.slice a1 l1 k1, .slice a2 l2 k2] 24))); subst hw6))
      go_meet
      case rel => exact ⟨by cases q <;> rfl, HB6.out, HA6.out⟩
  case rest =>
    obtain ⟨rfl, hw⟩ := hcut
    obtain ⟨c0, c1, c2, c3, c4, c5, c6⟩ := cl7 hw.out.2
    have HB2 : Hid (Below w.heap.size w wc) := hw.out.1
    clear hw hAL HSP HIB HA HB
    cases hb : (qu && q)
    · have E : Hid (rmF m = 3) := by unfold Hid; rw [HS.out, hF.out, hb]; rfl
      clear HS hF hb
      go_wp2_with fail
      go_ret
      exact ⟨by rw [E.out]; rfl, HB2.out⟩
    · have E : Hid (rmF m = if l1 ≠ 24 then 1 else if 80 < l2 then 2 else 0) := by unfold Hid; rw [HS.out, hF.out, hb]; rfl
      clear HS hF hb
      by_cases h1 : l1 = 24
      · have E1 : Hid (rmF m = if 80 < l2 then 2 else 0) := by unfold Hid; rw [E.out, if_neg (by omega)]
        have e1 : ((l1 : Int) != 24) = false := by rw [h1]; rfl
        clear E h1
        by_cases h2 : 80 < l2
        · go_wp2_with fail
          go_ret
          exact ⟨by rw [E1.out, if_pos h2]; rfl, HB2.out⟩
        · go_wp2_with fail
          go_ret
          exact ⟨by rw [E1.out, if_neg h2]; rfl, HB2.out⟩
      · have E1 : Hid (rmF m = 1) := by unfold Hid; rw [E.out, if_pos h1]
        have e1 : ((l1 : Int) != 24) = true := by rw [bne_iff_ne]; omega
        clear E h1
        go_wp2_with fail
        go_ret
        exact ⟨by rw [E1.out]; rfl, HB2.out⟩
end Go.Proofs.Ytjofghelenfklaa
