/-
  impl.RegFault.
-/
import Derived.Test.YtcikofhbfncgdaaSStk1
import Derived.Test.YtcikofhbfncgdaaIStk8
import Derived.Test.YtcikofhbfncgdaaRgPrg
namespace Go.Proofs.Ytcikofhbfncgdaa
open Go.RowKit
set_option linter.unusedVariables false

theorem allB_two (Z : Nat → List Int) : allB Z 2 = (wordsB (Z 0) && wordsB (Z 1)) := by
  unfold allB; simp [List.range_succ]
theorem fit_two (m : SM) : smFit m = (progFit m && (wordsB m.stk && wordsB m.cells)) := by
  unfold smFit progFit
  generalize inB m.pc 0 65535 = q1
  generalize inB m.sig 0 65535 = q2
  generalize inB m.used 0 1000000 = q3
  generalize inB m.trap 0 10 = q4
  generalize wordsB m.stk = q5
  generalize wordsB m.cells = q6
  cases q1 <;> cases q2 <;> cases q3 <;> cases q4 <;> cases q5 <;> cases q6 <;> rfl
/-- allWords of two rows -/
theorem words_two (a1 a2 : Option Addr) (xs ys : List Int) (k1 k2 : Nat) (w W3 : World) (h1 : Nums w a1 xs) (h2 : Nums w a2 ys) (l1 : xs.length ≤ 1048576) (l2 : ys.length ≤ 1048576) (hb : Below w.heap.size w W3) :
    Calls Try.prog 78 #[.slice (some ⟨W3.heap.size, 0, none⟩) 2 2] (W3.alloc (.cells #[.slice a1 xs.length k1, .slice a2 ys.length k2] 24)) fun e w' => e = .returned (.bool (wordsB xs && wordsB ys)) ∧ w' = W3.alloc (.cells #[.slice a1 xs.length k1, .slice a2 ys.length k2] 24) := by
  have x3 := heap_alloc_new W3 (.cells #[.slice a1 xs.length k1, .slice a2 ys.length k2] 24)
  have y3 := (Below.refl W3.heap.size W3).alloc (Nat.le_refl _) (.cells #[.slice a1 xs.length k1, .slice a2 ys.length k2] 24)
  have B3 : Below w.heap.size w (W3.alloc (.cells #[.slice a1 xs.length k1, .slice a2 ys.length k2] 24)) := hb.trans (y3.mono hb.size)
  generalize W3.alloc (.cells #[.slice a1 xs.length k1, .slice a2 ys.length k2] 24) = W at *
  have := allWords_any W3.heap.size 2 2 (fun i => if i = 0 then a1 else a2) (fun i => if i = 0 then xs else ys) (fun i => if i = 0 then k1 else k2) W (by omega)
    (fun i hi => by
      have h : i = 0 ∨ i = 1 := by omega
      rcases h with rfl | rfl
      · exact cell_of_row _ _ 0 _ _ _ x3
      · exact cell_of_row _ _ 1 _ _ _ x3)
    (fun i hi => by
      have h : i = 0 ∨ i = 1 := by omega
      rcases h with rfl | rfl
      · show xs.length ≤ _; omega
      · show ys.length ≤ _; omega)
    (fun i hi => by
      have h : i = 0 ∨ i = 1 := by omega
      rcases h with rfl | rfl
      · exact h1.below B3
      · exact h2.below B3)
  rw [allB_two] at this
  exact this
set_option maxHeartbeats 3200000 in
set_option maxRecDepth 100000 in
theorem istkFault_any (m : SM) (sv cv : Value) (w : World) (hs : RowV w sv m.stk) (hc : RowV w cv m.cells) (hl1 : m.stk.length ≤ 1048576) (hl2 : m.cells.length ≤ 1048576) :
    Calls Try.prog 53 #[machV m sv cv] w fun e w' => e = .returned (.int .i64 (smF m)) ∧ Below w.heap.size w w' := by
  obtain ⟨a1, k1, rfl, hn1, _⟩ := hs
  obtain ⟨a2, k2, rfl, hn2, _⟩ := hc
  have hA := heap_alloc_new w (.cells (lineS m (.slice a1 m.stk.length k1) (.slice a2 m.cells.length k2)) 39)
  have hB := (Below.refl w.heap.size w).alloc (Nat.le_refl _) (.cells (lineS m (.slice a1 m.stk.length k1) (.slice a2 m.cells.length k2)) 39)
  have hAL : Hid (∀ W3, Below w.heap.size w W3 → Calls Try.prog 78 #[.slice (some ⟨W3.heap.size, 0, none⟩) 2 2] (W3.alloc (.cells #[.slice a1 m.stk.length k1, .slice a2 m.cells.length k2] 24)) fun e w' => e = .returned (.bool (wordsB m.stk && wordsB m.cells)) ∧ w' = W3.alloc (.cells #[.slice a1 m.stk.length k1, .slice a2 m.cells.length k2] 24)) := fun W3 hb => words_two a1 a2 _ _ k1 k2 w W3 hn1 hn2 hl1 hl2 hb
  have HSP : Hid (∀ W, Calls Try.prog 97 #[machV m (.slice a1 m.stk.length k1) (.slice a2 m.cells.length k2)] W fun e w' => e = .returned (progV m) ∧ Below W.heap.size W w') := fun W => sprog_any m a1 a2 _ _ k1 k2 W
  have HIB : Hid (∀ W, Calls Try.prog 77 #[progV m] W fun e w' => e = .returned (.bool (progFit m)) ∧ Below W.heap.size W w') := fun W => pbounds_any m W
  have hF : Hid (smFit m = (progFit m && (wordsB m.stk && wordsB m.cells))) := fit_two m
  have HS : Hid (smF m = if smFit m then (if 40 < m.stk.length ∨ 80 < m.cells.length then 2 else 0) else 3) := rfl
  clear hn1 hn2
  generalize (wordsB m.stk && wordsB m.cells) = q at *
  generalize progFit m = qu at *
  generalize m.stk.length = l1 at *
  generalize m.cells.length = l2 at *
  go_enter Try.func53, Try.ntmps53
  go_upto_region 1 with fail
  generalize w.alloc (.cells (lineS m (.slice a1 l1 k1) (.slice a2 l2 k2)) 39) = W at *
  obtain ⟨c0, c1, c2, c3, c4, c5, c6⟩ := cl7 hA
  have HA := hid hA
  have HB := hid hB
  clear hA hB
  go_cut [15] from 3 (fun x W1 => x = .bool (!(qu && q)) ∧ Hid (Below w.heap.size w W1 ∧ W1.heap[w.heap.size]? = some (.cells (lineS m (.slice a1 l1 k1) (.slice a2 l2 k2)) 39 (0, 0))))
  case first =>
    clear HS hF
    cases qu
    · go_wp2_with (first | (go_at_call 97; refine (HSP.out _).mono ?_; rintro e w4 ⟨rfl, hb4⟩; have HB4 := hid (HB.out.trans (hb4.mono HB.out.size)); have HA4 := hid (blk8 HA.out hb4); clear hb4) | (go_at_call 77; refine (HIB.out _).mono ?_; rintro e w5 ⟨rfl, hb5⟩; have HB5 := hid (HB4.out.trans (hb5.mono HB4.out.size)); have HA5 := hid (blk8 HA4.out hb5); clear hb5))
      go_meet
      case rel => exact ⟨rfl, HB5.out, HA5.out⟩
    · go_wp2_with (first | (go_at_call 97; refine (HSP.out _).mono ?_; rintro e w4 ⟨rfl, hb4⟩; have HB4 := hid (HB.out.trans (hb4.mono HB.out.size)); have HA4 := hid (blk8 HA.out hb4); clear hb4) | (go_at_call 77; refine (HIB.out _).mono ?_; rintro e w5 ⟨rfl, hb5⟩; have HB5 := hid (HB4.out.trans (hb5.mono HB4.out.size)); have hA5 := blk8 HA4.out hb5; clear hb5; obtain ⟨-, d1, d2, -, -, -, -⟩ := cl7 hA5; have HA5 := hid hA5; clear hA5) | (go_at_call 78; refine (hAL.out _ HB5.out).mono ?_; rintro e w6 ⟨rfl, hw6⟩; have HB6 := hid (HB5.out.alloc HB5.out.size (.cells #[.slice a1 l1 k1, .slice a2 l2 k2] 24)); have HA6 := hid (blk8 HA5.out ((Below.refl _ _).alloc (Nat.le_refl _) (.cells #[.slice a1 l1 k1, .slice a2 l2 k2] 24))); subst hw6))
      go_meet
      case rel => exact ⟨by cases q <;> rfl, HB6.out, HA6.out⟩
  case rest =>
    obtain ⟨rfl, hw⟩ := hcut
    obtain ⟨c0, c1, c2, c3, c4, c5, c6⟩ := cl7 hw.out.2
    have HB2 : Hid (Below w.heap.size w wc) := hw.out.1
    clear hw hAL HSP HIB HA HB
    cases hb : (qu && q)
    · have E : Hid (smF m = 3) := by unfold Hid; rw [HS.out, hF.out, hb]; rfl
      clear HS hF hb
      go_wp2_with fail
      go_ret
      exact ⟨by rw [E.out]; rfl, HB2.out⟩
    · have E : Hid (smF m = if 40 < l1 ∨ 80 < l2 then 2 else 0) := by unfold Hid; rw [HS.out, hF.out, hb]; rfl
      clear HS hF hb
      by_cases h1 : 40 < l1
      · go_wp2_with fail
        go_ret
        exact ⟨by rw [E.out, if_pos (.inl h1)]; rfl, HB2.out⟩
      · by_cases h2 : 80 < l2
        · go_wp2_with fail
          go_ret
          exact ⟨by rw [E.out, if_pos (.inr h2)]; rfl, HB2.out⟩
        · go_wp2_with fail
          go_ret
          exact ⟨by rw [E.out, if_neg (by omega)]; rfl, HB2.out⟩
end Go.Proofs.Ytcikofhbfncgdaa
namespace Go.Proofs.Ytcikofhbfncgdaa
open Go.RowKit
set_option linter.unusedVariables false

set_option maxHeartbeats 3200000 in
set_option maxRecDepth 100000 in
theorem irgFault_any (m : SM) (sv cv : Value) (w : World) (hs : RowV w sv m.stk) (hc : RowV w cv m.cells) (hl1 : m.stk.length ≤ 1048576) (hl2 : m.cells.length ≤ 1048576) :
    Calls Try.prog 21 #[machV m sv cv] w fun e w' => e = .returned (.int .i64 (rmF m)) ∧ Below w.heap.size w w' := by
  obtain ⟨a1, k1, rfl, hn1, _⟩ := hs
  obtain ⟨a2, k2, rfl, hn2, _⟩ := hc
  have hA := heap_alloc_new w (.cells (lineS m (.slice a1 m.stk.length k1) (.slice a2 m.cells.length k2)) 28)
  have hB := (Below.refl w.heap.size w).alloc (Nat.le_refl _) (.cells (lineS m (.slice a1 m.stk.length k1) (.slice a2 m.cells.length k2)) 28)
  have hAL : Hid (∀ W3, Below w.heap.size w W3 → Calls Try.prog 78 #[.slice (some ⟨W3.heap.size, 0, none⟩) 2 2] (W3.alloc (.cells #[.slice a1 m.stk.length k1, .slice a2 m.cells.length k2] 24)) fun e w' => e = .returned (.bool (wordsB m.stk && wordsB m.cells)) ∧ w' = W3.alloc (.cells #[.slice a1 m.stk.length k1, .slice a2 m.cells.length k2] 24)) := fun W3 hb => words_two a1 a2 _ _ k1 k2 w W3 hn1 hn2 hl1 hl2 hb
  have HSP : Hid (∀ W, Calls Try.prog 76 #[machV m (.slice a1 m.stk.length k1) (.slice a2 m.cells.length k2)] W fun e w' => e = .returned (progV m) ∧ Below W.heap.size W w') := fun W => rprog_any m a1 a2 _ _ k1 k2 W
  have HIB : Hid (∀ W, Calls Try.prog 77 #[progV m] W fun e w' => e = .returned (.bool (progFit m)) ∧ Below W.heap.size W w') := fun W => pbounds_any m W
  have hF : Hid (rmFit m = (progFit m && (wordsB m.stk && wordsB m.cells))) := fit_two m
  have HS : Hid (rmF m = if rmFit m then (if m.stk.length ≠ 24 then 1 else if 80 < m.cells.length then 2 else 0) else 3) := rfl
  clear hn1 hn2
  generalize (wordsB m.stk && wordsB m.cells) = q at *
  generalize progFit m = qu at *
  generalize m.stk.length = l1 at *
  generalize m.cells.length = l2 at *
  go_enter Try.func21, Try.ntmps21
  go_upto_region 1 with fail
  generalize w.alloc (.cells (lineS m (.slice a1 l1 k1) (.slice a2 l2 k2)) 28) = W at *
  obtain ⟨c0, c1, c2, c3, c4, c5, c6⟩ := cl7 hA
  have HA := hid hA
  have HB := hid hB
  clear hA hB
  go_cut [15] from 3 (fun x W1 => x = .bool (!(qu && q)) ∧ Hid (Below w.heap.size w W1 ∧ W1.heap[w.heap.size]? = some (.cells (lineS m (.slice a1 l1 k1) (.slice a2 l2 k2)) 28 (0, 0))))
  case first =>
    clear HS hF
    cases qu
    · go_wp2_with (first | (go_at_call 76; refine (HSP.out _).mono ?_; rintro e w4 ⟨rfl, hb4⟩; have HB4 := hid (HB.out.trans (hb4.mono HB.out.size)); have HA4 := hid (blk8 HA.out hb4); clear hb4) | (go_at_call 77; refine (HIB.out _).mono ?_; rintro e w5 ⟨rfl, hb5⟩; have HB5 := hid (HB4.out.trans (hb5.mono HB4.out.size)); have HA5 := hid (blk8 HA4.out hb5); clear hb5))
      go_meet
      case rel => exact ⟨rfl, HB5.out, HA5.out⟩
    · go_wp2_with (first | (go_at_call 76; refine (HSP.out _).mono ?_; rintro e w4 ⟨rfl, hb4⟩; have HB4 := hid (HB.out.trans (hb4.mono HB.out.size)); have HA4 := hid (blk8 HA.out hb4); clear hb4) | (go_at_call 77; refine (HIB.out _).mono ?_; rintro e w5 ⟨rfl, hb5⟩; have HB5 := hid (HB4.out.trans (hb5.mono HB4.out.size)); have hA5 := blk8 HA4.out hb5; clear hb5; obtain ⟨-, d1, d2, -, -, -, -⟩ := cl7 hA5; have HA5 := hid hA5; clear hA5) | (go_at_call 78; refine (hAL.out _ HB5.out).mono ?_; rintro e w6 ⟨rfl, hw6⟩; have HB6 := hid (HB5.out.alloc HB5.out.size (.cells #[.slice a1 l1 k1, .slice a2 l2 k2] 24)); have HA6 := hid (blk8 HA5.out ((Below.refl _ _).alloc (Nat.le_refl _) (.cells #[.slice a1 l1 k1, .slice a2 l2 k2] 24))); subst hw6))
      go_meet
      case rel => exact ⟨by cases q <;> rfl, HB6.out, HA6.out⟩
  case rest =>
    obtain ⟨rfl, hw⟩ := hcut
    obtain ⟨c0, c1, c2, c3, c4, c5, c6⟩ := cl7 hw.out.2
    have HB2 : Hid (Below w.heap.size w wc) := hw.out.1
    clear hw hAL HSP HIB HA HB
    cases hb : (qu && q)
    · have E : Hid (rmF m = 3) := by unfold Hid; rw [HS.out, hF.out, hb]; rfl
      clear HS hF hb
      go_wp2_with fail
      go_ret
      exact ⟨by rw [E.out]; rfl, HB2.out⟩
    · have E : Hid (rmF m = if l1 ≠ 24 then 1 else if 80 < l2 then 2 else 0) := by unfold Hid; rw [HS.out, hF.out, hb]; rfl
      clear HS hF hb
      by_cases h1 : l1 = 24
      · have E1 : Hid (rmF m = if 80 < l2 then 2 else 0) := by unfold Hid; rw [E.out, if_neg (by omega)]
        have e1 : ((l1 : Int) != 24) = false := by rw [h1]; rfl
        clear E h1
        by_cases h2 : 80 < l2
        · go_wp2_with fail
          go_ret
          exact ⟨by rw [E1.out, if_pos h2]; rfl, HB2.out⟩
        · go_wp2_with fail
          go_ret
          exact ⟨by rw [E1.out, if_neg h2]; rfl, HB2.out⟩
      · have E1 : Hid (rmF m = 1) := by unfold Hid; rw [E.out, if_pos h1]
        have e1 : ((l1 : Int) != 24) = true := by rw [bne_iff_ne]; omega
        clear E h1
        go_wp2_with fail
        go_ret
        exact ⟨by rw [E1.out]; rfl, HB2.out⟩
end Go.Proofs.Ytcikofhbfncgdaa
