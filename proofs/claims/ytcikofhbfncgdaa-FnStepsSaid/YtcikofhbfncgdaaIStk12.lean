/-
  impl's StartStack, StepStack.
-/
import Derived.Test.YtcikofhbfncgdaaStkRun
import Derived.Test.YtcikofhbfncgdaaIStk8
import Derived.Test.YtcikofhbfncgdaaStpM
namespace Go.Proofs.Ytcikofhbfncgdaa
open Go.RowKit
set_option linter.unusedVariables false

theorem allB_two (Z : Nat → List Int) : allB Z 2 = (wordsB (Z 0) && wordsB (Z 1)) := by
  unfold allB; simp [List.range_succ]
theorem fit_two (m : SM) : smFit m = (progFit m && (wordsB m.stk && wordsB m.cells)) := by
  unfold smFit progFit
  generalize inB m.pc 0 65535 = q1
  generalize inB m.sig 0 65535 = q2
  generalize inB m.used 0 1000000 = q3
  generalize inB m.trap 0 10 = q4
  generalize wordsB m.stk = q5
  generalize wordsB m.cells = q6
  cases q1 <;> cases q2 <;> cases q3 <;> cases q4 <;> cases q5 <;> cases q6 <;> rfl
/-- allWords of two rows -/
theorem words_two (a1 a2 : Option Addr) (xs ys : List Int) (k1 k2 : Nat) (w W3 : World) (h1 : Nums w a1 xs) (h2 : Nums w a2 ys) (l1 : xs.length ≤ 1048576) (l2 : ys.length ≤ 1048576) (hb : Below w.heap.size w W3) :
    Calls Try.prog 78 #[.slice (some ⟨W3.heap.size, 0, none⟩) 2 2] (W3.alloc (.cells #[.slice a1 xs.length k1, .slice a2 ys.length k2] 24)) fun e w' => e = .returned (.bool (wordsB xs && wordsB ys)) ∧ w' = W3.alloc (.cells #[.slice a1 xs.length k1, .slice a2 ys.length k2] 24) := by
  have x3 := heap_alloc_new W3 (.cells #[.slice a1 xs.length k1, .slice a2 ys.length k2] 24)
  have y3 := (Below.refl W3.heap.size W3).alloc (Nat.le_refl _) (.cells #[.slice a1 xs.length k1, .slice a2 ys.length k2] 24)
  have B3 : Below w.heap.size w (W3.alloc (.cells #[.slice a1 xs.length k1, .slice a2 ys.length k2] 24)) := hb.trans (y3.mono hb.size)
  generalize W3.alloc (.cells #[.slice a1 xs.length k1, .slice a2 ys.length k2] 24) = W at *
  have := allWords_any W3.heap.size 2 2 (fun i => if i = 0 then a1 else a2) (fun i => if i = 0 then xs else ys) (fun i => if i = 0 then k1 else k2) W (by omega)
    (fun i hi => by
      have h : i = 0 ∨ i = 1 := by omega
      rcases h with rfl | rfl
      · exact cell_of_row _ _ 0 _ _ _ x3
      · exact cell_of_row _ _ 1 _ _ _ x3)
    (fun i hi => by
      have h : i = 0 ∨ i = 1 := by omega
      rcases h with rfl | rfl
      · show xs.length ≤ _; omega
      · show ys.length ≤ _; omega)
    (fun i hi => by
      have h : i = 0 ∨ i = 1 := by omega
      rcases h with rfl | rfl
      · exact h1.below B3
      · exact h2.below B3)
  rw [allB_two] at this
  exact this
set_option maxHeartbeats 3200000 in
set_option maxRecDepth 100000 in
theorem istkFault_any (m : SM) (sv cv : Value) (w : World) (hs : RowV w sv m.stk) (hc : RowV w cv m.cells) (hl1 : m.stk.length ≤ 1048576) (hl2 : m.cells.length ≤ 1048576) :
    Calls Try.prog 53 #[machV m sv cv] w fun e w' => e = .returned (.int .i64 (smF m)) ∧ Below w.heap.size w w' := by
  obtain ⟨a1, k1, rfl, hn1, _⟩ := hs
  obtain ⟨a2, k2, rfl, hn2, _⟩ := hc
  have hA := heap_alloc_new w (.cells (lineS m (.slice a1 m.stk.length k1) (.slice a2 m.cells.length k2)) 39)
  have hB := (Below.refl w.heap.size w).alloc (Nat.le_refl _) (.cells (lineS m (.slice a1 m.stk.length k1) (.slice a2 m.cells.length k2)) 39)
  have hAL : Hid (∀ W3, Below w.heap.size w W3 → Calls Try.prog 78 #[.slice (some ⟨W3.heap.size, 0, none⟩) 2 2] (W3.alloc (.cells #[.slice a1 m.stk.length k1, .slice a2 m.cells.length k2] 24)) fun e w' => e = .returned (.bool (wordsB m.stk && wordsB m.cells)) ∧ w' = W3.alloc (.cells #[.slice a1 m.stk.length k1, .slice a2 m.cells.length k2] 24)) := fun W3 hb => words_two a1 a2 _ _ k1 k2 w W3 hn1 hn2 hl1 hl2 hb
  have HSP : Hid (∀ W, Calls Try.prog 97 #[machV m (.slice a1 m.stk.length k1) (.slice a2 m.cells.length k2)] W fun e w' => e = .returned (progV m) ∧ Below W.heap.size W w') := fun W => sprog_any m a1 a2 _ _ k1 k2 W
  have HIB : Hid (∀ W, Calls Try.prog 77 #[progV m] W fun e w' => e = .returned (.bool (progFit m)) ∧ Below W.heap.size W w') := fun W => pbounds_any m W
  have hF : Hid (smFit m = (progFit m && (wordsB m.stk && wordsB m.cells))) := fit_two m
  have HS : Hid (smF m = if smFit m then (if 40 < m.stk.length ∨ 80 < m.cells.length then 2 else 0) else 3) := rfl
  clear hn1 hn2
  generalize (wordsB m.stk && wordsB m.cells) = q at *
  generalize progFit m = qu at *
  generalize m.stk.length = l1 at *
  generalize m.cells.length = l2 at *
  go_enter Try.func53, Try.ntmps53
  go_upto_region 1 with fail
  generalize w.alloc (.cells (lineS m (.slice a1 l1 k1) (.slice a2 l2 k2)) 39) = W at *
  obtain ⟨c0, c1, c2, c3, c4, c5, c6⟩ := cl7 hA
  have HA := hid hA
  have HB := hid hB
  clear hA hB
  go_cut [15] from 3 (fun x W1 => x = .bool (!(qu && q)) ∧ Hid (Below w.heap.size w W1 ∧ W1.heap[w.heap.size]? = some (.cells (lineS m (.slice a1 l1 k1) (.slice a2 l2 k2)) 39 (0, 0))))
  case first =>
    clear HS hF
    cases qu
    · go_wp2_with (first | (go_at_call 97; refine (HSP.out _).mono ?_; rintro e w4 ⟨rfl, hb4⟩; have HB4 := hid (HB.out.trans (hb4.mono HB.out.size)); have HA4 := hid (blk8 HA.out hb4); clear hb4) | (go_at_call 77; refine (HIB.out _).mono ?_; rintro e w5 ⟨rfl, hb5⟩; have HB5 := hid (HB4.out.trans (hb5.mono HB4.out.size)); have HA5 := hid (blk8 HA4.out hb5); clear hb5))
      go_meet
      case rel => exact ⟨rfl, HB5.out, HA5.out⟩
    · go_wp2_with (first | (go_at_call 97; refine (HSP.out _).mono ?_; rintro e w4 ⟨rfl, hb4⟩; have HB4 := hid (HB.out.trans (hb4.mono HB.out.size)); have HA4 := hid (blk8 HA.out hb4); clear hb4) | (go_at_call 77; refine (HIB.out _).mono ?_; rintro e w5 ⟨rfl, hb5⟩; have HB5 := hid (HB4.out.trans (hb5.mono HB4.out.size)); have hA5 := blk8 HA4.out hb5; clear hb5; obtain ⟨-, d1, d2, -, -, -, -⟩ := cl7 hA5; have HA5 := hid hA5; clear hA5) | (go_at_call 78; refine (hAL.out _ HB5.out).mono ?_; rintro e w6 ⟨rfl, hw6⟩; have HB6 := hid (HB5.out.alloc HB5.out.size (.cells #[.slice a1 l1 k1, .slice a2 l2 k2] 24)); have HA6 := hid (blk8 HA5.out ((Below.refl _ _).alloc (Nat.le_refl _) (.cells #[.slice a1 l1 k1, .slice a2 l2 k2] 24))); subst hw6))
      go_meet
      case rel => exact ⟨by cases q <;> rfl, HB6.out, HA6.out⟩
  case rest =>
    obtain ⟨rfl, hw⟩ := hcut
    obtain ⟨c0, c1, c2, c3, c4, c5, c6⟩ := cl7 hw.out.2
    have HB2 : Hid (Below w.heap.size w wc) := hw.out.1
    clear hw hAL HSP HIB HA HB
    cases hb : (qu && q)
    · have E : Hid (smF m = 3) := by unfold Hid; rw [HS.out, hF.out, hb]; rfl
      clear HS hF hb
      go_wp2_with fail
      go_ret
      exact ⟨by rw [E.out]; rfl, HB2.out⟩
    · have E : Hid (smF m = if 40 < l1 ∨ 80 < l2 then 2 else 0) := by unfold Hid; rw [HS.out, hF.out, hb]; rfl
      clear HS hF hb
      by_cases h1 : 40 < l1
      · go_wp2_with fail
        go_ret
        exact ⟨by rw [E.out, if_pos (.inl h1)]; rfl, HB2.out⟩
      · by_cases h2 : 80 < l2
        · go_wp2_with fail
          go_ret
          exact ⟨by rw [E.out, if_pos (.inr h2)]; rfl, HB2.out⟩
        · go_wp2_with fail
          go_ret
          exact ⟨by rw [E.out, if_neg (by omega)]; rfl, HB2.out⟩
end Go.Proofs.Ytcikofhbfncgdaa
namespace Go.Proofs.Ytcikofhbfncgdaa
open Go.RowKit
set_option linter.unusedVariables false
attribute [local go_sem ↓] Go.wp_at_zero Go.wp_at_succ

set_option maxHeartbeats 6400000 in
set_option maxRecDepth 100000 in
theorem iStart_any (a : Option Addr) (zs : List Int) (c : Nat) (w : World) (hn : Nums w a zs) (hc : a = none → c = 0) (hl : zs.length ≤ 1048576) :
    Calls Try.prog 24 #[.slice a zs.length c] w fun e w' => ResR w w' e (startC zs) (startR zs) := by
  have hW := (Below.refl w.heap.size w).alloc (Nat.le_refl _) (.cells zero8 41)
  have HW : Hid (Below w.heap.size w (w.alloc (.cells zero8 41)) ∧ (w.alloc (.cells zero8 41)).heap[w.heap.size]? = some (.cells zero8 41 (0, 0))) := ⟨hW, heap_alloc_new _ _⟩
  have HCF : Hid (∀ W, Below w.heap.size w W → Calls Try.prog 53 #[.agg #[.int .i64 0, .slice none 0 0, .slice a zs.length c, .int .i64 0, .int .i64 0, .int .i64 0, .bool false]] W fun e w' => e = .returned (.int .i64 (startC zs)) ∧ Below W.heap.size W w') := fun W h => istkFault_any (startM zs) _ _ W ⟨none, 0, rfl, .inl rfl, fun _ => rfl⟩ (RowV.below ⟨a, c, rfl, hn, hc⟩ h) (by show 0 ≤ _; omega) hl
  have HCC : Hid (∀ W, Below w.heap.size w W → Calls Try.prog 80 #[.slice a zs.length c] W fun e w' => ∃ a' c', e = .returned (.slice a' zs.length c') ∧ Own w' W.heap.size (.slice a' zs.length c') zs ∧ Below W.heap.size W w') := fun W h => (clone_any _ zs W (RowV.below ⟨a, c, rfl, hn, hc⟩ h) hl).mono fun e w' ⟨v', h1, h2, h3⟩ => by
    obtain ⟨a', c', rfl⟩ := own_shape h2
    exact ⟨a', c', h1, h2, h3⟩
  have HR : Hid ((startC zs = 0 → startR zs = startM zs) ∧ (startC zs ≠ 0 → startR zs = zeroM)) := ⟨fun h => if_pos h, fun h => if_neg h⟩
  clear hW hn hc hl
  generalize startC zs = F at *
  generalize startR zs = R at *
  generalize hL : zs.length = L at *
  go_enter Try.func24, Try.ntmps24
  go_upto_region 1 with fail
  generalize w.alloc (.cells zero8 41) = W at *
  obtain ⟨x1, x2⟩ := HW.out
  have HB : Hid (Below w.heap.size w W) := x1
  have HZ : Hid (W.heap[w.heap.size]? = some (.cells zero8 41 (0, 0))) := x2
  clear x1 x2 HW
  go_upto_region 2 with (go_at_call 53; refine (HCF.out W HB.out).mono ?_; rintro e w3 ⟨rfl, hb3⟩)
  have HB3 : Hid (Below w.heap.size w w3) := HB.out.trans (hb3.mono HB.out.size)
  have HZ3 : Hid (w3.heap[w.heap.size]? = some (.cells zero8 41 (0, 0))) := blk8 HZ.out hb3
  clear hb3 HB HZ HCF
  by_cases hF : F = 0
  case neg =>
    have hR := HR.out.2 hF
    subst hR
    have eF : (F != 0) = true := by simpa using hF
    have HF : Hid _ := res_code w w3 w.heap.size F (Nat.le_refl _) HB3.out
    have g0 := cell_of_row _ _ 0 _ _ _ HZ3.out
    have g1 := cell_of_row _ _ 1 _ _ _ HZ3.out
    have g2 := cell_of_row _ _ 2 _ _ _ HZ3.out
    have g3 := cell_of_row _ _ 3 _ _ _ HZ3.out
    have g4 := cell_of_row _ _ 4 _ _ _ HZ3.out
    have g5 := cell_of_row _ _ 5 _ _ _ HZ3.out
    have g6 := cell_of_row _ _ 6 _ _ _ HZ3.out
    have g7 := cell_of_row _ _ 7 _ _ _ HZ3.out
    have f0 := frozen_of_row _ _ 0 _ _ HZ3.out
    have f1 := frozen_of_row _ _ 1 _ _ HZ3.out
    have f2 := frozen_of_row _ _ 2 _ _ HZ3.out
    have f3 := frozen_of_row _ _ 3 _ _ HZ3.out
    have f4 := frozen_of_row _ _ 4 _ _ HZ3.out
    have f5 := frozen_of_row _ _ 5 _ _ HZ3.out
    have f6 := frozen_of_row _ _ 6 _ _ HZ3.out
    have f7 := frozen_of_row _ _ 7 _ _ HZ3.out
    simp at g0 g1 g2 g3 g4 g5 g6 g7
    clear HCC HR HB3 HZ3 hF
    go_wp2_with fail
    refine bodyPost_ret (v := codeV F) (by simp [results, Try.results24, go_sem, g0, g1, g2, g3, g4, g5, g6, g7]; try rfl) rfl ?_
    exact HF.out
  have hR := HR.out.1 hF
  subst hF hR
  go_wp2_with fail
  refine (HCC.out w3 HB3.out).mono ?_
  rintro e w4 ⟨a', c', rfl, ho, hb4⟩
  have HB4 : Hid (Below w.heap.size w w4) := HB3.out.trans (hb4.mono HB3.out.size)
  have HZ4 := blk8 HZ3.out hb4
  have hlt : w.heap.size < w3.heap.size := (Array.getElem?_eq_some_iff.1 HZ3.out).1
  have HF : Hid _ := res_mach w w4 w.heap.size w3.heap.size (startM zs) (.slice none 0 0) (.slice a' L c') (Nat.le_refl _) hlt (World.ownsRow_nil _ _ _ _) ho (fun g h => by simp [Value.ownBlock] at h) HB4.out
  have g0 := cell_of_row _ _ 0 _ _ _ HZ4
  have g1 := cell_of_row _ _ 1 _ _ _ HZ4
  have g2 := cell_of_row _ _ 2 _ _ _ HZ4
  have g3 := cell_of_row _ _ 3 _ _ _ HZ4
  have g4 := cell_of_row _ _ 4 _ _ _ HZ4
  have g5 := cell_of_row _ _ 5 _ _ _ HZ4
  have g6 := cell_of_row _ _ 6 _ _ _ HZ4
  have g7 := cell_of_row _ _ 7 _ _ _ HZ4
  have f0 := frozen_of_row _ _ 0 _ _ HZ4
  have f1 := frozen_of_row _ _ 1 _ _ HZ4
  have f2 := frozen_of_row _ _ 2 _ _ HZ4
  have f3 := frozen_of_row _ _ 3 _ _ HZ4
  have f4 := frozen_of_row _ _ 4 _ _ HZ4
  have f5 := frozen_of_row _ _ 5 _ _ HZ4
  have f6 := frozen_of_row _ _ 6 _ _ HZ4
  have f7 := frozen_of_row _ _ 7 _ _ HZ4
  simp at g0 g1 g2 g3 g4 g5 g6 g7
  clear HCC HR HB3 HZ3 HZ4 HB4 ho hb4 hlt
  go_wp2_with fail
  refine bodyPost_ret (v := .agg #[.int .i64 0, .int .i64 0, .slice none 0 0, .slice a' L c', .int .i64 0, .int .i64 0, .int .i64 0, .bool false]) (by simp [results, Try.results24, go_sem, g0, g1, g2, g3, g4, g5, g6, g7]; try rfl) rfl ?_
  exact HF.out
end Go.Proofs.Ytcikofhbfncgdaa
