/-
  spec's l8Copy, l8Ready.
-/
import Derived.Test.YtcikofhbfncgdaaCopy
import Derived.Test.YtcikofhbfncgdaaCopy
import Derived.Test.YtcikofhbfncgdaaSStk1
namespace Go.Proofs.Ytcikofhbfncgdaa
open Go.RowKit
set_option linter.unusedVariables false
attribute [local go_sem ↓] Go.wp_at_zero Go.wp_at_succ

set_option maxHeartbeats 3200000 in
theorem l10Copy_any (m : SM) (sv cv : Value) (w : World) (hs : RowV w sv m.stk) (hc : RowV w cv m.cells) (hl1 : m.stk.length ≤ 1048576) (hl2 : m.cells.length ≤ 1048576) :
    Calls Try.prog 92 #[machVs m sv cv] w fun e w' => ∃ sv' cv', e = .returned (machVs m sv' cv') ∧ Own w' w.heap.size sv' m.stk ∧ Own w' w.heap.size cv' m.cells ∧ (∀ g, sv'.ownBlock = some g → cv'.ownBlock ≠ some g) ∧ Below w.heap.size w w' := by
  obtain ⟨b1, k1, rfl, hn1, hk1⟩ := hs
  obtain ⟨b2, k2, rfl, hn2, hk2⟩ := hc
  have HN1 : Hid (∀ W, Below w.heap.size w W → Nums W b1 m.stk) := fun W h => hn1.below h
  have HN2 : Hid (∀ W, Below w.heap.size w W → Nums W b2 m.cells) := fun W h => hn2.below h
  have HZ1 : Hid ((b1 = none → k1 = 0) ∧ (b1 = none → m.stk = [])) := ⟨hk1, rowZ hn1⟩
  have HZ2 : Hid ((b2 = none → k2 = 0) ∧ (b2 = none → m.cells = [])) := ⟨hk2, rowZ hn2⟩
  have HL : Hid (m.stk.length ≤ 1048576 ∧ m.cells.length ≤ 1048576) := ⟨hl1, hl2⟩
  have hX : Hid (∀ W, W = (w.alloc (.cells (lineS m (.slice b1 m.stk.length k1) (.slice b2 m.cells.length k2)) 28)).alloc (.cells #[.int .i64 0, .slice none 0 0, .slice none 0 0, .int .i64 0, .int .i64 0, .int .i64 0, .bool false] 28) →
      Below w.heap.size w W ∧ W.heap.size = w.heap.size + 2 ∧ W.heap[w.heap.size]? = some (.cells (lineS m (.slice b1 m.stk.length k1) (.slice b2 m.cells.length k2)) 28 (0, 0)) ∧ W.heap[w.heap.size + 1]? = some (.cells #[.int .i64 0, .slice none 0 0, .slice none 0 0, .int .i64 0, .int .i64 0, .int .i64 0, .bool false] 28 (0, 0))) := fun W e => by
    subst e
    have a1 := heap_alloc_new w (.cells (lineS m (.slice b1 m.stk.length k1) (.slice b2 m.cells.length k2)) 28)
    have y1 := (Below.refl w.heap.size w).alloc (Nat.le_refl _) (.cells (lineS m (.slice b1 m.stk.length k1) (.slice b2 m.cells.length k2)) 28)
    have s1 : (w.alloc (.cells (lineS m (.slice b1 m.stk.length k1) (.slice b2 m.cells.length k2)) 28)).heap.size = w.heap.size + 1 := by simp
    generalize w.alloc (.cells (lineS m (.slice b1 m.stk.length k1) (.slice b2 m.cells.length k2)) 28) = W1 at *
    have a2 := heap_alloc_new W1 (.cells #[.int .i64 0, .slice none 0 0, .slice none 0 0, .int .i64 0, .int .i64 0, .int .i64 0, .bool false] 28)
    have y2 := (Below.refl W1.heap.size W1).alloc (Nat.le_refl _) (.cells #[.int .i64 0, .slice none 0 0, .slice none 0 0, .int .i64 0, .int .i64 0, .int .i64 0, .bool false] 28)
    rw [s1] at a2
    exact ⟨y1.trans (y2.mono (by omega)), by simp [s1], blk8 a1 y2, a2⟩
  clear hn1 hn2 hk1 hk2 hl1 hl2
  generalize hL1 : m.stk.length = l1 at *
  generalize hL2 : m.cells.length = l2 at *
  go_enter Try.func92, Try.ntmps92
  go_upto_region 1 with fail
  have hXX := hX.out _ rfl
  generalize (w.alloc (.cells (lineS m (.slice b1 l1 k1) (.slice b2 l2 k2)) 28)).alloc (.cells #[.int .i64 0, .slice none 0 0, .slice none 0 0, .int .i64 0, .int .i64 0, .int .i64 0, .bool false] 28) = W at *
  obtain ⟨x1, x2, x3, x4⟩ := hXX
  have HB0 : Hid (Below w.heap.size w W) := x1
  have HS0 : Hid (W.heap.size = w.heap.size + 2) := x2
  have HA0 : Hid (W.heap[w.heap.size]? = _) := x3
  have HR0 : Hid (W.heap[w.heap.size + 1]? = _) := x4
  have c1 := (RunT.cells x3).2.1
  have hA := (Below.refl W.heap.size W).alloc (Nat.le_refl _) (.cells #[] 2)
  have HA : Hid (Below W.heap.size W (W.alloc (.cells #[] 2))) := hA
  have HO : Hid (Own (W.alloc (.cells #[] 2)) W.heap.size (.slice (some ⟨W.heap.size, 0, none⟩) 0 0) []) := own_new W _ (Nat.le_refl _)
  have HN : Hid (Nums (W.alloc (.cells #[] 2)) b1 m.stk) := HN1.out _ (x1.trans (hA.mono (by omega)))
  have c1a : (W.alloc (.cells #[] 2)).cell? ⟨w.heap.size, 1, none⟩ = some (.slice b1 l1 k1) := (hA.cell (p := ⟨w.heap.size, 1, none⟩) (by show w.heap.size < W.heap.size; omega)).trans c1
  clear x1 x2 x3 x4 hA hX c1
  go_wp2_with (at_builtin; refine wpList_append_nums rfl _ _ rfl W.heap.size _ [] m.stk (by rfl) HO.out b1 k1 (by rw [hL1]; rfl) HN.out HZ1.out.1 HZ1.out.2 (by have := HL.out; simp; omega) (by simp) ?_)
  intro v' w2 ho hg hv
  obtain ⟨a2, q2, rfl⟩ := own_shape ho.out
  try simp only [List.nil_append] at ho
  try simp only [List.nil_append] at hv
  try simp only [List.nil_append]
  try rw [hL1] at ho
  try rw [hL1] at hv
  try rw [hL1]
  have hz2 : W.heap.size + 1 ≤ w2.heap.size := by have := hg.out.size; simp at this; omega
  have HB2 : Hid (Below W.heap.size W w2) := HA.out.grown hg.out (by simp) (fun k hk => by simp [Value.ownBlock] at hk; omega)
  have HO2 : Hid (Own w2 W.heap.size (.slice a2 l1 q2) m.stk) := ho.out
  have HA2 : Hid (w2.heap[w.heap.size]? = some (.cells (lineS m (.slice b1 l1 k1) (.slice b2 l2 k2)) 28 (0, 0))) := blk8 HA0.out HB2.out
  have HR2 : Hid (w2.heap[w.heap.size + 1]? = some (.cells #[.int .i64 0, .slice none 0 0, .slice none 0 0, .int .i64 0, .int .i64 0, .int .i64 0, .bool false] 28 (0, 0))) := blk8 HR0.out HB2.out
  have d1 := (RunT.cells HA2.out).2.1
  have f1 := frozen_of_row _ _ 1 _ _ HA2.out
  have HZ : Hid (W.heap.size + 1 ≤ w2.heap.size) := hz2
  clear ho hg hv hz2 HA HO HN c1a HA0 HR0
  go_upto_region 2 with fail
  have HA3 : Hid ((w2.setCell ⟨w.heap.size, 1, none⟩ (.slice a2 l1 q2)).heap[w.heap.size]? = some (.cells (lineS m (.slice a2 l1 q2) (.slice b2 l2 k2)) 28 (0, 0))) := heap_setCell_same w2 w.heap.size 1 _ _ (.slice a2 l1 q2) HA2.out
  have HR3 : Hid ((w2.setCell ⟨w.heap.size, 1, none⟩ (.slice a2 l1 q2)).heap[w.heap.size + 1]? = some (.cells #[.int .i64 0, .slice none 0 0, .slice none 0 0, .int .i64 0, .int .i64 0, .int .i64 0, .bool false] 28 (0, 0))) := (heap_setCell_other w2 _ (w.heap.size + 1) _ (by simp)).trans HR2.out
  have HB3 : Hid (Below w.heap.size w (w2.setCell ⟨w.heap.size, 1, none⟩ (.slice a2 l1 q2))) := (HB0.out.trans (HB2.out.mono (by have := HS0.out; omega))).setCell (Nat.le_refl _) _
  have HO3 : Hid (Own (w2.setCell ⟨w.heap.size, 1, none⟩ (.slice a2 l1 q2)) W.heap.size (.slice a2 l1 q2) m.stk) := own_other HO2.out (fun g hg => heap_setCell_other _ _ _ _ (by have := (HO2.out.lt g hg).1; have := HS0.out; show g ≠ w.heap.size; omega))
  have HS3 : Hid (w.heap.size + 2 ≤ (w2.setCell ⟨w.heap.size, 1, none⟩ (.slice a2 l1 q2)).heap.size) := by have := HZ.out; have := HS0.out; show _ ≤ _; simp; omega
  clear HA2 HR2 HB2 HO2 HZ d1 f1
  generalize w2.setCell ⟨w.heap.size, 1, none⟩ (.slice a2 l1 q2) = W3 at *
  have c2 := (RunT.cells HA3.out).2.2.1
  have hA := (Below.refl W3.heap.size W3).alloc (Nat.le_refl _) (.cells #[] 2)
  have HA : Hid (Below W3.heap.size W3 (W3.alloc (.cells #[] 2))) := hA
  have HO : Hid (Own (W3.alloc (.cells #[] 2)) W3.heap.size (.slice (some ⟨W3.heap.size, 0, none⟩) 0 0) []) := own_new W3 _ (Nat.le_refl _)
  have HN : Hid (Nums (W3.alloc (.cells #[] 2)) b2 m.cells) := HN2.out _ (HB3.out.trans (hA.mono HB3.out.size))
  have c2a : (W3.alloc (.cells #[] 2)).cell? ⟨w.heap.size, 2, none⟩ = some (.slice b2 l2 k2) := (hA.cell (p := ⟨w.heap.size, 2, none⟩) (by have := HS3.out; show w.heap.size < W3.heap.size; omega)).trans c2
  clear hA c2
  go_wp2_with (at_builtin; refine wpList_append_nums rfl _ _ rfl W3.heap.size _ [] m.cells (by rfl) HO.out b2 k2 (by rw [hL2]; rfl) HN.out HZ2.out.1 HZ2.out.2 (by have := HL.out; simp; omega) (by simp) ?_)
  intro v' w4 ho hg hv
  obtain ⟨a4, q4, rfl⟩ := own_shape ho.out
  try simp only [List.nil_append] at ho
  try simp only [List.nil_append] at hv
  try simp only [List.nil_append]
  try rw [hL2] at ho
  try rw [hL2] at hv
  try rw [hL2]
  have HB4 : Hid (Below W3.heap.size W3 w4) := HA.out.grown hg.out (by simp) (fun k hk => by simp [Value.ownBlock] at hk; omega)
  have HO4 : Hid (Own w4 W3.heap.size (.slice a4 l2 q4) m.cells) := ho.out
  have HA4 : Hid (w4.heap[w.heap.size]? = some (.cells (lineS m (.slice a2 l1 q2) (.slice b2 l2 k2)) 28 (0, 0))) := blk8 HA3.out HB4.out
  have HR4 : Hid (w4.heap[w.heap.size + 1]? = some (.cells #[.int .i64 0, .slice none 0 0, .slice none 0 0, .int .i64 0, .int .i64 0, .int .i64 0, .bool false] 28 (0, 0))) := blk8 HR3.out HB4.out
  have HS4 : Hid (Own w4 W.heap.size (.slice a2 l1 q2) m.stk) := own_kept HO3.out HB4.out
  have f2 := frozen_of_row _ _ 2 _ _ HA4.out
  have d2 := (RunT.cells HA4.out).2.2.1
  clear ho hg hv HA HO HN c2a HR3 HA3
  go_upto_region 3 with fail
  have HA5 : Hid ((w4.setCell ⟨w.heap.size, 2, none⟩ (.slice a4 l2 q4)).heap[w.heap.size]? = some (.cells (lineS m (.slice a2 l1 q2) (.slice a4 l2 q4)) 28 (0, 0))) := heap_setCell_same w4 w.heap.size 2 _ _ (.slice a4 l2 q4) HA4.out
  have HR5 : Hid ((w4.setCell ⟨w.heap.size, 2, none⟩ (.slice a4 l2 q4)).heap[w.heap.size + 1]? = some (.cells #[.int .i64 0, .slice none 0 0, .slice none 0 0, .int .i64 0, .int .i64 0, .int .i64 0, .bool false] 28 (0, 0))) := (heap_setCell_other w4 _ (w.heap.size + 1) _ (by simp)).trans HR4.out
  have HB5 : Hid (Below w.heap.size w (w4.setCell ⟨w.heap.size, 2, none⟩ (.slice a4 l2 q4))) := (HB3.out.trans (HB4.out.mono HB3.out.size)).setCell (Nat.le_refl _) _
  have HO5 : Hid (Own (w4.setCell ⟨w.heap.size, 2, none⟩ (.slice a4 l2 q4)) (w.heap.size + 2) (.slice a2 l1 q2) m.stk) := own_mono (own_other HS4.out (fun g hg => heap_setCell_other _ _ _ _ (by have := (HS4.out.lt g hg).1; have := HS0.out; show g ≠ w.heap.size; omega))) (by have := HS0.out; omega)
  have HC5 : Hid (Own (w4.setCell ⟨w.heap.size, 2, none⟩ (.slice a4 l2 q4)) (w.heap.size + 2) (.slice a4 l2 q4) m.cells) := own_mono (own_other HO4.out (fun g hg => heap_setCell_other _ _ _ _ (by have := (HO4.out.lt g hg).1; have := HS3.out; show g ≠ w.heap.size; omega))) HS3.out
  have HD : Hid (∀ g, (Value.slice a2 l1 q2).ownBlock = some g → (Value.slice a4 l2 q4).ownBlock ≠ some g) := fun g hg e => by
    have := (HO3.out.lt g hg).2
    have := (HO4.out.lt g e).1
    omega
  clear HA4 HR4 HB4 HO4 HS4 HO3 HB3 f2 d2 HS3
  generalize w4.setCell ⟨w.heap.size, 2, none⟩ (.slice a4 l2 q4) = W5 at *
  obtain ⟨e0, e1, e2, e3, e4, e5, e6⟩ := RunT.cells HA5.out
  have g0 := cell_of_row _ _ 0 _ _ _ HR5.out
  have g1 := cell_of_row _ _ 1 _ _ _ HR5.out
  have g2 := cell_of_row _ _ 2 _ _ _ HR5.out
  have g3 := cell_of_row _ _ 3 _ _ _ HR5.out
  have g4 := cell_of_row _ _ 4 _ _ _ HR5.out
  have g5 := cell_of_row _ _ 5 _ _ _ HR5.out
  have g6 := cell_of_row _ _ 6 _ _ _ HR5.out
  have f0 := frozen_of_row _ _ 0 _ _ HR5.out
  have f1 := frozen_of_row _ _ 1 _ _ HR5.out
  have f2 := frozen_of_row _ _ 2 _ _ HR5.out
  have f3 := frozen_of_row _ _ 3 _ _ HR5.out
  have f4 := frozen_of_row _ _ 4 _ _ HR5.out
  have f5 := frozen_of_row _ _ 5 _ _ HR5.out
  have f6 := frozen_of_row _ _ 6 _ _ HR5.out
  simp at g0 g1 g2 g3 g4 g5 g6
  clear HA5 HR5
  have HE : Hid _ := (((((((Sole1.refl (w.heap.size + 1) W5).set 0 (.int .i64 m.pc)).set 1 (.slice a2 l1 q2)).set 2 (.slice a4 l2 q4)).set 3 (.int .i64 m.sig)).set 4 (.int .i64 m.used)).set 5 (.int .i64 m.trap)).set 6 (.bool m.done)
  go_wp2_with fail
  refine bodyPost_ret (v := machVs m (.slice a2 l1 q2) (.slice a4 l2 q4)) (by simp [results, Try.results92, go_sem, g0, g1, g2, g3, g4, g5, g6]) rfl ⟨_, _, rfl, ?_, ?_, HD.out, HB5.out.trans (HE.out.bel.mono (by omega))⟩
  · exact own_mono (own_other HO5.out (fun g hg => HE.out.oth g (by have := (HO5.out.lt g hg).1; omega))) (by omega)
  · exact own_mono (own_other HC5.out (fun g hg => HE.out.oth g (by have := (HC5.out.lt g hg).1; omega))) (by omega)
end Go.Proofs.Ytcikofhbfncgdaa
