/-
  impl.StackFault, StartStack.
-/
import Derived.Test.YtalopffpaepaaaaStkRun
import Derived.Test.YtalopffpaepaaaaIStk8
namespace Go.Proofs.Ytalopffpaepaaaa
open Go.RowKit
set_option linter.unusedVariables false

theorem words_two (a b : Int) : wordsB [a, b] = (inB a 0 65535 && inB b 0 65535) := by simp [wordsB]
set_option maxHeartbeats 3200000 in
set_option maxRecDepth 100000 in
theorem istkFault_any (m : SM) (sv cv : Value) (w : World) (hs : RowV w sv m.stk) (hc : RowV w cv m.cells) (hl1 : m.stk.length ≤ 1048576) (hl2 : m.cells.length ≤ 1048576) :
    Calls Try.prog 17 #[machV m sv cv] w fun e w' => e = .returned (.int .i64 (smF m)) ∧ Below w.heap.size w w' := by
  obtain ⟨a1, k1, rfl, hn1, _⟩ := hs
  obtain ⟨a2, k2, rfl, hn2, _⟩ := hc
  have hAL : Hid (∀ W, W = ((w.alloc (.cells (lineS m (.slice a1 m.stk.length k1) (.slice a2 m.cells.length k2)) 36)).alloc (.cells #[.int .i64 m.pc, .int .i64 m.sig] 2)).alloc (.cells #[.slice (some ⟨w.heap.size + 1, 0, none⟩) 2 2, .slice a1 m.stk.length k1, .slice a2 m.cells.length k2] 24) →
      Calls Try.prog 61 #[.slice (some ⟨w.heap.size + 2, 0, none⟩) 3 3] W (fun e w' => e = .returned (.bool (wordsB [m.pc, m.sig] && wordsB m.stk && wordsB m.cells)) ∧ w' = W) ∧ Below w.heap.size w W ∧ W.heap[w.heap.size]? = some (.cells (lineS m (.slice a1 m.stk.length k1) (.slice a2 m.cells.length k2)) 36 (0, 0))) := fun W e => by
    subst e
    have x1 := heap_alloc_new w (.cells (lineS m (.slice a1 m.stk.length k1) (.slice a2 m.cells.length k2)) 36)
    have y1 := (Below.refl w.heap.size w).alloc (Nat.le_refl _) (.cells (lineS m (.slice a1 m.stk.length k1) (.slice a2 m.cells.length k2)) 36)
    have s1 : (w.alloc (.cells (lineS m (.slice a1 m.stk.length k1) (.slice a2 m.cells.length k2)) 36)).heap.size = w.heap.size + 1 := by simp
    generalize w.alloc (.cells (lineS m (.slice a1 m.stk.length k1) (.slice a2 m.cells.length k2)) 36) = W1 at *
    have x2 := heap_alloc_new W1 (.cells #[.int .i64 m.pc, .int .i64 m.sig] 2)
    have y2 := (Below.refl W1.heap.size W1).alloc (Nat.le_refl _) (.cells #[.int .i64 m.pc, .int .i64 m.sig] 2)
    have s2 : (W1.alloc (.cells #[.int .i64 m.pc, .int .i64 m.sig] 2)).heap.size = w.heap.size + 2 := by simp [s1]
    generalize W1.alloc (.cells #[.int .i64 m.pc, .int .i64 m.sig] 2) = W2 at *
    have x3 := heap_alloc_new W2 (.cells #[.slice (some ⟨w.heap.size + 1, 0, none⟩) 2 2, .slice a1 m.stk.length k1, .slice a2 m.cells.length k2] 24)
    have y3 := (Below.refl W2.heap.size W2).alloc (Nat.le_refl _) (.cells #[.slice (some ⟨w.heap.size + 1, 0, none⟩) 2 2, .slice a1 m.stk.length k1, .slice a2 m.cells.length k2] 24)
    generalize W2.alloc (.cells #[.slice (some ⟨w.heap.size + 1, 0, none⟩) 2 2, .slice a1 m.stk.length k1, .slice a2 m.cells.length k2] 24) = W3 at *
    rw [s1] at x2
    rw [s2] at x3
    have B3 : Below w.heap.size w W3 := (y1.trans (y2.mono (by omega))).trans (y3.mono (by omega))
    refine ⟨?_, B3, blk8 (blk8 x1 y2) y3⟩
    have hx2 := blk8 x2 y3
    have := allWords_any (w.heap.size + 2) 3 3 (fun i => if i = 0 then some ⟨w.heap.size + 1, 0, none⟩ else if i = 1 then a1 else a2) (fun i => if i = 0 then [m.pc, m.sig] else if i = 1 then m.stk else m.cells) (fun i => if i = 0 then 2 else if i = 1 then k1 else k2) W3 (by omega)
      (fun i hi => by
        have h : i = 0 ∨ i = 1 ∨ i = 2 := by omega
        rcases h with rfl | rfl | rfl
        · exact cell_of_row _ _ 0 _ _ _ x3
        · exact cell_of_row _ _ 1 _ _ _ x3
        · exact cell_of_row _ _ 2 _ _ _ x3)
      (fun i hi => by
        have h : i = 0 ∨ i = 1 ∨ i = 2 := by omega
        rcases h with rfl | rfl | rfl
        · show 2 ≤ _; omega
        · show m.stk.length ≤ _; omega
        · show m.cells.length ≤ _; omega)
      (fun i hi => by
        have h : i = 0 ∨ i = 1 ∨ i = 2 := by omega
        rcases h with rfl | rfl | rfl
        · refine .inr ⟨_, 0, rfl, fun j hj => ?_⟩
          have hj2 : j = 0 ∨ j = 1 := by
            have : j < 2 := hj
            omega
          rcases hj2 with rfl | rfl
          · exact cell_of_row _ _ 0 _ _ _ hx2
          · exact cell_of_row _ _ 1 _ _ _ hx2
        · exact hn1.below B3
        · exact hn2.below B3)
    rw [allB_three] at this
    exact this
  have hF : Hid (smFit m = ((wordsB [m.pc, m.sig] && wordsB m.stk && wordsB m.cells) && inB m.used 0 1000000 && inB m.trap 0 10)) := by
    show smFit m = _
    unfold smFit
    rw [words_two]
  have HS : Hid (smF m = if smFit m then (if 40 < m.stk.length ∨ 80 < m.cells.length then 2 else 0) else 3) := rfl
  have HU : Hid (∀ W, Calls Try.prog 38 #[.int .i64 m.used, .int .i64 0, .int .i64 1000000] W fun e w' => e = .returned (.bool (inB m.used 0 1000000)) ∧ w' = W) := within_any m.used 0 1000000
  have HT : Hid (∀ W, Calls Try.prog 38 #[.int .i64 m.trap, .int .i64 0, .int .i64 10] W fun e w' => e = .returned (.bool (inB m.trap 0 10)) ∧ w' = W) := within_any m.trap 0 10
  clear hn1 hn2
  generalize (wordsB [m.pc, m.sig] && wordsB m.stk && wordsB m.cells) = q at *
  generalize inB m.used 0 1000000 = qu at *
  generalize inB m.trap 0 10 = qt at *
  go_enter Try.func17, Try.ntmps17
  go_upto_region 1 with fail
  go_cut [26] from 3 (fun x W1 => x = .bool (!(q && qu && qt)) ∧ Hid (Below w.heap.size w W1 ∧ W1.heap[w.heap.size]? = some (.cells (lineS m (.slice a1 m.stk.length k1) (.slice a2 m.cells.length k2)) 36 (0, 0))))
  case first =>
    clear HS hF
    cases q <;> cases qu <;> cases qt
    all_goals
      go_wp2_with (first | (go_at_call 61; refine ((hAL.out _ rfl).1).mono ?_; rintro e w4 ⟨rfl, rfl⟩) | (with_reducible show Calls _ _ #[_, _, .int .i64 1000000] _ _; refine (HU.out _).mono ?_; rintro e w4 ⟨rfl, rfl⟩) | (with_reducible show Calls _ _ #[_, _, .int .i64 10] _ _; refine (HT.out _).mono ?_; rintro e w4 ⟨rfl, rfl⟩))
      go_meet
      case rel => exact ⟨rfl, (hAL.out _ rfl).2⟩
  case rest =>
    obtain ⟨rfl, hw⟩ := hcut
    have c1 := cell_of_row _ _ 1 _ _ _ hw.out.2
    have c2 := cell_of_row _ _ 2 _ _ _ hw.out.2
    simp at c1 c2
    have HB : Hid (Below w.heap.size w wc) := hw.out.1
    clear hw hAL HU HT
    cases hb : (q && qu && qt)
    · have E : Hid (smF m = 3) := by unfold Hid; rw [HS.out, hF.out, hb]; rfl
      clear HS hF hb
      go_wp2_with fail
      go_ret
      exact ⟨by rw [E.out]; rfl, HB.out⟩
    · have E : Hid (smF m = if 40 < m.stk.length ∨ 80 < m.cells.length then 2 else 0) := by unfold Hid; rw [HS.out, hF.out, hb]; rfl
      clear HS hF hb
      generalize m.stk.length = l1 at *
      generalize m.cells.length = l2 at *
      by_cases h1 : 40 < l1
      · go_wp2_with fail
        go_ret
        exact ⟨by rw [E.out, if_pos (.inl h1)]; rfl, HB.out⟩
      · by_cases h2 : 80 < l2
        · go_wp2_with fail
          go_ret
          exact ⟨by rw [E.out, if_pos (.inr h2)]; rfl, HB.out⟩
        · go_wp2_with fail
          go_ret
          exact ⟨by rw [E.out, if_neg (by omega)]; rfl, HB.out⟩
end Go.Proofs.Ytalopffpaepaaaa
