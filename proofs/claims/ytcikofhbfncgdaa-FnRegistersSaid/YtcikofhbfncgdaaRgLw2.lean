/-
  The laws' own on a machine of the stack: eq, to.
-/
import Derived.Test.YtcikofhbfncgdaaRgLw
import Derived.Test.YtcikofhbfncgdaaStkLw2
namespace Go.Proofs.Ytcikofhbfncgdaa
open Go.RowKit
set_option linter.unusedVariables false

set_option maxHeartbeats 3200000 in
set_option maxRecDepth 100000 in
theorem eqMach_anyG (m : SM) (sv cv sv' cv' : Value) (w : World) (h1 : RowV w sv m.stk) (h2 : RowV w cv m.cells) (h3 : RowV w sv' m.stk) (h4 : RowV w cv' m.cells) (hl1 : m.stk.length ≤ 1048576) (hl2 : m.cells.length ≤ 1048576) :
    Calls Try.prog 34 #[machL m sv cv, machL m sv' cv'] w fun e w' => e = .returned (.bool true) ∧ Below w.heap.size w w' := by
  obtain ⟨a1, k1, rfl, n1, _⟩ := h1
  obtain ⟨a2, k2, rfl, n2, _⟩ := h2
  obtain ⟨a3, k3, rfl, n3, _⟩ := h3
  obtain ⟨a4, k4, rfl, n4, _⟩ := h4
  have HX : Hid (∀ W, Below w.heap.size w W → Calls Try.prog 37 #[.slice a1 m.stk.length k1, .slice a3 m.stk.length k3] W fun e w' => e = .returned (.bool true) ∧ Below W.heap.size W w') := fun W h => eqNums_any a1 a3 m.stk k1 k3 W (by omega) (n1.below h) (n3.below h)
  have HY : Hid (∀ W, Below w.heap.size w W → Calls Try.prog 37 #[.slice a2 m.cells.length k2, .slice a4 m.cells.length k4] W fun e w' => e = .returned (.bool true) ∧ Below W.heap.size W w') := fun W h => eqNums_any a2 a4 m.cells k2 k4 W (by omega) (n2.below h) (n4.below h)
  generalize m.stk.length = l1 at *
  generalize m.cells.length = l2 at *
  have x1 := heap_alloc_new w (.cells (lineL m (.slice a1 l1 k1) (.slice a2 l2 k2)) 28)
  have y1 := (Below.refl w.heap.size w).alloc (Nat.le_refl _) (.cells (lineL m (.slice a1 l1 k1) (.slice a2 l2 k2)) 28)
  have s1 : (w.alloc (.cells (lineL m (.slice a1 l1 k1) (.slice a2 l2 k2)) 28)).heap.size = w.heap.size + 1 := by simp
  clear n1 n2 n3 n4 hl1 hl2
  go_enter Try.func34, Try.ntmps34
  go_upto_region 1 with fail
  generalize w.alloc (.cells (lineL m (.slice a1 l1 k1) (.slice a2 l2 k2)) 28) = W1 at *
  have x2 := heap_alloc_new W1 (.cells (lineL m (.slice a3 l1 k3) (.slice a4 l2 k4)) 28)
  have y2 := (Below.refl W1.heap.size W1).alloc (Nat.le_refl _) (.cells (lineL m (.slice a3 l1 k3) (.slice a4 l2 k4)) 28)
  generalize W1.alloc (.cells (lineL m (.slice a3 l1 k3) (.slice a4 l2 k4)) 28) = W2 at *
  rw [s1] at x2
  have HA : Hid (W2.heap[w.heap.size]? = some (.cells (lineL m (.slice a1 l1 k1) (.slice a2 l2 k2)) 28 (0, 0))) := blk8 x1 y2
  have HC : Hid (W2.heap[w.heap.size + 1]? = some (.cells (lineL m (.slice a3 l1 k3) (.slice a4 l2 k4)) 28 (0, 0))) := x2
  have HB : Hid (Below w.heap.size w W2) := y1.trans (y2.mono (by omega))
  clear x1 x2 y1 y2 s1
  obtain ⟨p0, p1, p2, p3, p4, p5, p6⟩ := row7 HA.out
  obtain ⟨q0, q1, q2, q3, q4, q5, q6⟩ := row7 HC.out
  go_wp2_with fail
  refine (HX.out _ HB.out).mono ?_
  rintro e w3 ⟨rfl, hb⟩
  have HA3 : Hid _ := blk8 HA.out hb
  have HC3 : Hid _ := blk8 HC.out hb
  have HB3 : Hid (Below w.heap.size w w3) := HB.out.trans (hb.mono HB.out.size)
  clear p0 p1 p2 p3 p4 p5 p6 q0 q1 q2 q3 q4 q5 q6 hb HB HA HC HX
  obtain ⟨p0, p1, p2, p3, p4, p5, p6⟩ := row7 HA3.out
  obtain ⟨q0, q1, q2, q3, q4, q5, q6⟩ := row7 HC3.out
  go_wp2_with fail
  refine (HY.out _ HB3.out).mono ?_
  rintro e w4 ⟨rfl, hb⟩
  have HA4 : Hid _ := blk8 HA3.out hb
  have HC4 : Hid _ := blk8 HC3.out hb
  have HB4 : Hid (Below w.heap.size w w4) := HB3.out.trans (hb.mono HB3.out.size)
  clear p0 p1 p2 p3 p4 p5 p6 q0 q1 q2 q3 q4 q5 q6 hb HB3 HA3 HC3 HY
  obtain ⟨p0, p1, p2, p3, p4, p5, p6⟩ := row7 HA4.out
  obtain ⟨q0, q1, q2, q3, q4, q5, q6⟩ := row7 HC4.out
  go_wp2_with fail
  go_ret
  exact ⟨rfl, HB4.out⟩

set_option maxHeartbeats 6400000 in
set_option maxRecDepth 100000 in
theorem toMach_anyG (m : SM) (sv cv : Value) (w : World) (h1 : RowV w sv m.stk) (h2 : RowV w cv m.cells) (hl1 : m.stk.length ≤ 1048576) (hl2 : m.cells.length ≤ 1048576) :
    Calls Try.prog 33 #[machL m sv cv] w fun e w' => ∃ g1 g2, g1 ≠ g2 ∧ e = .returned (machL m (.slice (some ⟨g1, 0, none⟩) m.stk.length m.stk.length) (.slice (some ⟨g2, 0, none⟩) m.cells.length m.cells.length)) ∧ Own w' w.heap.size (.slice (some ⟨g1, 0, none⟩) m.stk.length m.stk.length) m.stk ∧ Own w' w.heap.size (.slice (some ⟨g2, 0, none⟩) m.cells.length m.cells.length) m.cells ∧ Below w.heap.size w w' := by
  obtain ⟨a1, k1, rfl, n1, _⟩ := h1
  obtain ⟨a2, k2, rfl, n2, _⟩ := h2
  have HX : Hid (∀ W, Below w.heap.size w W → Calls Try.prog 35 #[.slice a1 m.stk.length k1] W fun e w' => e = .returned (.slice (some ⟨W.heap.size, 0, none⟩) m.stk.length m.stk.length) ∧ Own w' W.heap.size (.slice (some ⟨W.heap.size, 0, none⟩) m.stk.length m.stk.length) m.stk ∧ Below W.heap.size W w') := fun W h => copy_any a1 m.stk k1 W hl1 (n1.below h)
  have HY : Hid (∀ W, Below w.heap.size w W → Calls Try.prog 35 #[.slice a2 m.cells.length k2] W fun e w' => e = .returned (.slice (some ⟨W.heap.size, 0, none⟩) m.cells.length m.cells.length) ∧ Own w' W.heap.size (.slice (some ⟨W.heap.size, 0, none⟩) m.cells.length m.cells.length) m.cells ∧ Below W.heap.size W w') := fun W h => copy_any a2 m.cells k2 W hl2 (n2.below h)
  have HO : Hid (∀ (W W' : World) (B : Nat) (v : Value) (zs : List Int), Own W B v zs → (∀ g, v.ownBlock = some g → W'.heap[g]? = W.heap[g]?) → Own W' B v zs) := fun W W' B v zs h hs => own_other h hs
  have x1 := heap_alloc_new w (.cells (lineL m (.slice a1 m.stk.length k1) (.slice a2 m.cells.length k2)) 47)
  have y1 := (Below.refl w.heap.size w).alloc (Nat.le_refl _) (.cells (lineL m (.slice a1 m.stk.length k1) (.slice a2 m.cells.length k2)) 47)
  have s1 : (w.alloc (.cells (lineL m (.slice a1 m.stk.length k1) (.slice a2 m.cells.length k2)) 47)).heap.size = w.heap.size + 1 := by simp
  clear n1 n2 hl1 hl2
  go_enter Try.func33, Try.ntmps33
  go_upto_region 2 with fail
  generalize hr : w.heap.size + 1 + 1 = r at *
  generalize w.alloc (.cells (lineL m (.slice a1 m.stk.length k1) (.slice a2 m.cells.length k2)) 47) = W1 at *
  have x2 := heap_alloc_new W1 (.cells zeroL 28)
  have y2 := (Below.refl W1.heap.size W1).alloc (Nat.le_refl _) (.cells zeroL 28)
  have s2 : (W1.alloc (.cells zeroL 28)).heap.size = w.heap.size + 2 := by simp; omega
  generalize W1.alloc (.cells zeroL 28) = W2 at *
  have x3 := heap_alloc_new W2 (.cells zeroL 28)
  have y3 := (Below.refl W2.heap.size W2).alloc (Nat.le_refl _) (.cells zeroL 28)
  have s3 : (W2.alloc (.cells zeroL 28)).heap.size = w.heap.size + 3 := by simp; omega
  generalize W2.alloc (.cells zeroL 28) = W3 at *
  rw [s1] at x2
  rw [s2, show w.heap.size + 2 = r from hr] at x3
  have hA := blk8 (blk8 x1 y2) y3
  have hR := blk8 x2 y3
  have hB : Below w.heap.size w W3 := (y1.trans (y2.mono (by omega))).trans (y3.mono (by omega))
  clear x1 x2 y1 y2 y3 s1 s2
  -- the first field
  have hA4 := (heap_setCell_other W3 ⟨r, 0, none⟩ w.heap.size (.int .i64 m.pc) (by simp; omega)).trans hA
  have hR4 := (heap_setCell_other W3 ⟨r, 0, none⟩ (w.heap.size + 1) (.int .i64 m.pc) (by simp; omega)).trans hR
  have hO4 := heap_setCell_same W3 r 0 _ _ (.int .i64 m.pc) x3
  have hB4 : Below w.heap.size w (W3.setCell ⟨r, 0, none⟩ (.int .i64 m.pc)) := hB.setCell (by simp; omega) _
  have hs4 : (W3.setCell ⟨r, 0, none⟩ (.int .i64 m.pc)).heap.size = w.heap.size + 3 := by simp [s3]
  simp at hO4
  have f0 := frozen_of_row _ _ 0 _ _ x3
  have u0 := cell_of_row _ _ 0 _ _ _ x3
  simp at u0
  obtain ⟨p0, _⟩ := row7 hA
  clear hA hR x3 hB s3
  go_upto_region 3 with fail
  clear p0 f0 u0
  generalize W3.setCell ⟨r, 0, none⟩ (.int .i64 m.pc) = W4 at *
  obtain ⟨_, p1, _⟩ := row7 hA4
  go_wp2_with fail
  refine (HX.out _ hB4).mono ?_
  rintro e w5 ⟨rfl, ho, hb⟩
  rw [hs4] at ho
  have hA5 := blk8 hA4 hb
  have hR5 := blk8 hR4 hb
  have hO5 := blk8 hO4 hb
  have hB5 : Below w.heap.size w w5 := hB4.trans (hb.mono hB4.size)
  have hz5 : w.heap.size + 3 < w5.heap.size := (ho.lt _ rfl).2
  have hA6 := (heap_setCell_other w5 ⟨r, 1, none⟩ w.heap.size (.slice (some ⟨w.heap.size + 3, 0, none⟩) m.stk.length m.stk.length) (by simp; omega)).trans hA5
  have hR6 := (heap_setCell_other w5 ⟨r, 1, none⟩ (w.heap.size + 1) (.slice (some ⟨w.heap.size + 3, 0, none⟩) m.stk.length m.stk.length) (by simp; omega)).trans hR5
  have hO6 := heap_setCell_same w5 r 1 _ _ (.slice (some ⟨w.heap.size + 3, 0, none⟩) m.stk.length m.stk.length) hO5
  have HS6 : Hid (Own (w5.setCell ⟨r, 1, none⟩ (.slice (some ⟨w.heap.size + 3, 0, none⟩) m.stk.length m.stk.length)) (w.heap.size + 3) (.slice (some ⟨w.heap.size + 3, 0, none⟩) m.stk.length m.stk.length) m.stk) := own_other ho (fun g hg => heap_setCell_other _ _ _ _ (by have := (ho.lt g hg).1; simp; omega))
  have hB6 : Below w.heap.size w (w5.setCell ⟨r, 1, none⟩ (.slice (some ⟨w.heap.size + 3, 0, none⟩) m.stk.length m.stk.length)) := hB5.setCell (by simp; omega) _
  have hs6 : w.heap.size + 3 < (w5.setCell ⟨r, 1, none⟩ (.slice (some ⟨w.heap.size + 3, 0, none⟩) m.stk.length m.stk.length)).heap.size := by simpa using hz5
  simp at hO6
  have f1 := frozen_of_row _ _ 1 _ _ hO5
  have u1 := cell_of_row _ _ 1 _ _ _ hO5
  simp at u1
  clear hA4 hR4 hO4 hB4 hA5 hR5 hO5 hB5 p1 hb ho hz5
  rw [hs4]
  clear hs4
  go_upto_region 4 with fail
  clear f1 u1
  generalize w5.setCell ⟨r, 1, none⟩ (.slice (some ⟨w.heap.size + 3, 0, none⟩) m.stk.length m.stk.length) = W6 at *
  obtain ⟨_, _, p2, _⟩ := row7 hA6
  go_wp2_with fail
  refine (HY.out _ hB6).mono ?_
  rintro e w7 ⟨rfl, ho, hb⟩
  have hA7 := blk8 hA6 hb
  have hR7 := blk8 hR6 hb
  have hO7 := blk8 hO6 hb
  have hB7 : Below w.heap.size w w7 := hB6.trans (hb.mono hB6.size)
  have HS7 : Hid (Own w7 (w.heap.size + 3) (.slice (some ⟨w.heap.size + 3, 0, none⟩) m.stk.length m.stk.length) m.stk) := own_other HS6.out (fun g hg => hb.block g (HS6.out.lt g hg).2)
  have HC7 : Hid (Own w7 (w.heap.size + 3) (.slice (some ⟨W6.heap.size, 0, none⟩) m.cells.length m.cells.length) m.cells) := own_mono ho (by omega)
  have HN : Hid (w.heap.size + 3 ≠ W6.heap.size) := by show _ ≠ _; omega
  clear hA6 hR6 hO6 hB6 hs6 HS6 hb ho p2 HX HY HO
  generalize W6.heap.size = g at *
  have E1 : Sole1 r w7 (((((w7.setCell ⟨r, 2, none⟩ (.slice (some ⟨g, 0, none⟩) m.cells.length m.cells.length)).setCell ⟨r, 3, none⟩ (.int .i64 m.sig)).setCell ⟨r, 4, none⟩ (.int .i64 m.used)).setCell ⟨r, 5, none⟩ (.int .i64 m.trap)).setCell ⟨r, 6, none⟩ (.bool m.done)) :=
    (((((Sole1.refl r w7).set 2 (.slice (some ⟨g, 0, none⟩) m.cells.length m.cells.length)).set 3 (.int .i64 m.sig)).set 4 (.int .i64 m.used)).set 5 (.int .i64 m.trap)).set 6 (.bool m.done)
  have hO8 := heap_setCell_same _ r 6 _ _ (.bool m.done) (heap_setCell_same _ r 5 _ _ (.int .i64 m.trap) (heap_setCell_same _ r 4 _ _ (.int .i64 m.used) (heap_setCell_same _ r 3 _ _ (.int .i64 m.sig) (heap_setCell_same w7 r 2 _ _ (.slice (some ⟨g, 0, none⟩) m.cells.length m.cells.length) hO7))))
  simp at hO8
  have HO8 : Hid ((((((w7.setCell ⟨r, 2, none⟩ (.slice (some ⟨g, 0, none⟩) m.cells.length m.cells.length)).setCell ⟨r, 3, none⟩ (.int .i64 m.sig)).setCell ⟨r, 4, none⟩ (.int .i64 m.used)).setCell ⟨r, 5, none⟩ (.int .i64 m.trap)).setCell ⟨r, 6, none⟩ (.bool m.done)).heap[r]? = some (.cells (lineL m (.slice (some ⟨w.heap.size + 3, 0, none⟩) m.stk.length m.stk.length) (.slice (some ⟨g, 0, none⟩) m.cells.length m.cells.length)) 28 (0, 0))) := hO8
  have HR8 : Hid ((((((w7.setCell ⟨r, 2, none⟩ (.slice (some ⟨g, 0, none⟩) m.cells.length m.cells.length)).setCell ⟨r, 3, none⟩ (.int .i64 m.sig)).setCell ⟨r, 4, none⟩ (.int .i64 m.used)).setCell ⟨r, 5, none⟩ (.int .i64 m.trap)).setCell ⟨r, 6, none⟩ (.bool m.done)).heap[w.heap.size + 1]? = some (.cells zeroL 28 (0, 0))) := (E1.oth (w.heap.size + 1) (by omega)).trans hR7
  have HS8 : Hid (Own (((((w7.setCell ⟨r, 2, none⟩ (.slice (some ⟨g, 0, none⟩) m.cells.length m.cells.length)).setCell ⟨r, 3, none⟩ (.int .i64 m.sig)).setCell ⟨r, 4, none⟩ (.int .i64 m.used)).setCell ⟨r, 5, none⟩ (.int .i64 m.trap)).setCell ⟨r, 6, none⟩ (.bool m.done)) (w.heap.size + 3) (.slice (some ⟨w.heap.size + 3, 0, none⟩) m.stk.length m.stk.length) m.stk) := own_sole HS7.out E1 (fun e => by have := (HS7.out.lt _ e).1; omega)
  have HC8 : Hid (Own (((((w7.setCell ⟨r, 2, none⟩ (.slice (some ⟨g, 0, none⟩) m.cells.length m.cells.length)).setCell ⟨r, 3, none⟩ (.int .i64 m.sig)).setCell ⟨r, 4, none⟩ (.int .i64 m.used)).setCell ⟨r, 5, none⟩ (.int .i64 m.trap)).setCell ⟨r, 6, none⟩ (.bool m.done)) (w.heap.size + 3) (.slice (some ⟨g, 0, none⟩) m.cells.length m.cells.length) m.cells) := own_sole HC7.out E1 (fun e => by have := (HC7.out.lt _ e).1; omega)
  have HB8 : Hid (Below w.heap.size w (((((w7.setCell ⟨r, 2, none⟩ (.slice (some ⟨g, 0, none⟩) m.cells.length m.cells.length)).setCell ⟨r, 3, none⟩ (.int .i64 m.sig)).setCell ⟨r, 4, none⟩ (.int .i64 m.used)).setCell ⟨r, 5, none⟩ (.int .i64 m.trap)).setCell ⟨r, 6, none⟩ (.bool m.done))) := hB7.trans (E1.bel.mono (by omega))
  clear E1 HS7 HC7 hB7 hR7 hO8
  obtain ⟨_, _, _, p3, p4, p5, p6⟩ := row7 hA7
  have u2 := cell_of_row _ _ 2 _ _ _ hO7
  have u3 := cell_of_row _ _ 3 _ _ _ hO7
  have u4 := cell_of_row _ _ 4 _ _ _ hO7
  have u5 := cell_of_row _ _ 5 _ _ _ hO7
  have u6 := cell_of_row _ _ 6 _ _ _ hO7
  simp at u2 u3 u4 u5 u6
  have f2 := frozen_of_row _ _ 2 _ _ hO7
  have f3 := frozen_of_row _ _ 3 _ _ hO7
  have f4 := frozen_of_row _ _ 4 _ _ hO7
  have f5 := frozen_of_row _ _ 5 _ _ hO7
  have f6 := frozen_of_row _ _ 6 _ _ hO7
  have hne3 : w.heap.size ≠ r := by omega
  have hne4 : r ≠ w.heap.size := by omega
  have HR : Hid (w.heap.size + 2 = r) := hr
  clear hA7 hO7 hr
  go_upto_region 9 with fail
  clear p3 p4 p5 p6 u2 u3 u4 u5 u6 f2 f3 f4 f5 f6
  generalize (((((w7.setCell ⟨r, 2, none⟩ (.slice (some ⟨g, 0, none⟩) m.cells.length m.cells.length)).setCell ⟨r, 3, none⟩ (.int .i64 m.sig)).setCell ⟨r, 4, none⟩ (.int .i64 m.used)).setCell ⟨r, 5, none⟩ (.int .i64 m.trap)).setCell ⟨r, 6, none⟩ (.bool m.done)) = W8 at *
  have E2 := fillL (w.heap.size + 1) W8 (.int .i64 m.pc) (.slice (some ⟨w.heap.size + 3, 0, none⟩) m.stk.length m.stk.length) (.slice (some ⟨g, 0, none⟩) m.cells.length m.cells.length) (.int .i64 m.sig) (.int .i64 m.used) (.int .i64 m.trap) (.bool m.done)
  have HF : Hid (∃ g1 g2, g1 ≠ g2 ∧ Ending.returned (machL m (.slice (some ⟨w.heap.size + 3, 0, none⟩) m.stk.length m.stk.length) (.slice (some ⟨g, 0, none⟩) m.cells.length m.cells.length)) = Ending.returned (machL m (.slice (some ⟨g1, 0, none⟩) m.stk.length m.stk.length) (.slice (some ⟨g2, 0, none⟩) m.cells.length m.cells.length)) ∧ Own (((((((W8.setCell ⟨w.heap.size + 1, 0, none⟩ (.int .i64 m.pc)).setCell ⟨w.heap.size + 1, 1, none⟩ (.slice (some ⟨w.heap.size + 3, 0, none⟩) m.stk.length m.stk.length)).setCell ⟨w.heap.size + 1, 2, none⟩ (.slice (some ⟨g, 0, none⟩) m.cells.length m.cells.length)).setCell ⟨w.heap.size + 1, 3, none⟩ (.int .i64 m.sig)).setCell ⟨w.heap.size + 1, 4, none⟩ (.int .i64 m.used)).setCell ⟨w.heap.size + 1, 5, none⟩ (.int .i64 m.trap)).setCell ⟨w.heap.size + 1, 6, none⟩ (.bool m.done)) w.heap.size (.slice (some ⟨g1, 0, none⟩) m.stk.length m.stk.length) m.stk ∧ Own (((((((W8.setCell ⟨w.heap.size + 1, 0, none⟩ (.int .i64 m.pc)).setCell ⟨w.heap.size + 1, 1, none⟩ (.slice (some ⟨w.heap.size + 3, 0, none⟩) m.stk.length m.stk.length)).setCell ⟨w.heap.size + 1, 2, none⟩ (.slice (some ⟨g, 0, none⟩) m.cells.length m.cells.length)).setCell ⟨w.heap.size + 1, 3, none⟩ (.int .i64 m.sig)).setCell ⟨w.heap.size + 1, 4, none⟩ (.int .i64 m.used)).setCell ⟨w.heap.size + 1, 5, none⟩ (.int .i64 m.trap)).setCell ⟨w.heap.size + 1, 6, none⟩ (.bool m.done)) w.heap.size (.slice (some ⟨g2, 0, none⟩) m.cells.length m.cells.length) m.cells ∧ Below w.heap.size w (((((((W8.setCell ⟨w.heap.size + 1, 0, none⟩ (.int .i64 m.pc)).setCell ⟨w.heap.size + 1, 1, none⟩ (.slice (some ⟨w.heap.size + 3, 0, none⟩) m.stk.length m.stk.length)).setCell ⟨w.heap.size + 1, 2, none⟩ (.slice (some ⟨g, 0, none⟩) m.cells.length m.cells.length)).setCell ⟨w.heap.size + 1, 3, none⟩ (.int .i64 m.sig)).setCell ⟨w.heap.size + 1, 4, none⟩ (.int .i64 m.used)).setCell ⟨w.heap.size + 1, 5, none⟩ (.int .i64 m.trap)).setCell ⟨w.heap.size + 1, 6, none⟩ (.bool m.done))) :=
    ⟨w.heap.size + 3, g, HN.out, rfl,
      own_mono (own_sole HS8.out E2 (fun e => by have := (HS8.out.lt _ e).1; omega)) (by omega),
      own_mono (own_sole HC8.out E2 (fun e => by have := (HC8.out.lt _ e).1; omega)) (by omega),
      HB8.out.trans (E2.bel.mono (by omega))⟩
  clear E2 HS8 HC8 HN HB8 HR hne3 hne4
  obtain ⟨u0, u1, u2, u3, u4, u5, u6⟩ := row7 HO8.out
  have t0 := cell_of_row _ _ 0 _ _ _ HR8.out
  have t1 := cell_of_row _ _ 1 _ _ _ HR8.out
  have t2 := cell_of_row _ _ 2 _ _ _ HR8.out
  have t3 := cell_of_row _ _ 3 _ _ _ HR8.out
  have t4 := cell_of_row _ _ 4 _ _ _ HR8.out
  have t5 := cell_of_row _ _ 5 _ _ _ HR8.out
  have t6 := cell_of_row _ _ 6 _ _ _ HR8.out
  simp at t0 t1 t2 t3 t4 t5 t6
  have e0 := frozen_of_row _ _ 0 _ _ HR8.out
  have e1 := frozen_of_row _ _ 1 _ _ HR8.out
  have e2 := frozen_of_row _ _ 2 _ _ HR8.out
  have e3 := frozen_of_row _ _ 3 _ _ HR8.out
  have e4 := frozen_of_row _ _ 4 _ _ HR8.out
  have e5 := frozen_of_row _ _ 5 _ _ HR8.out
  have e6 := frozen_of_row _ _ 6 _ _ HR8.out
  clear HO8 HR8
  go_wp2_with fail
  refine bodyPost_ret (v := machL m (.slice (some ⟨w.heap.size + 3, 0, none⟩) m.stk.length m.stk.length) (.slice (some ⟨g, 0, none⟩) m.cells.length m.cells.length)) (by simp [results, Try.results33, go_sem, t0, t1, t2, t3, t4, t5, t6]) rfl ?_
  exact HF.out
end Go.Proofs.Ytcikofhbfncgdaa
