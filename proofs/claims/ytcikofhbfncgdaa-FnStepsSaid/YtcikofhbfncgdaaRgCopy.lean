/-
  impl's copied: the run as it stands, its cells in a row of their own.
-/
import Derived.Test.YtcikofhbfncgdaaRgJ
import Derived.Laws.CopyOwn
import Derived.Deep.WholeRow
namespace Go.Proofs.Ytcikofhbfncgdaa
open Go.RowKit
set_option linter.unusedVariables false

abbrev zero30 : Array Value := #[.slice none 0 0, .int .i64 0, .int .i64 0, .int .i64 0, .int .i64 0, .bool false, .int .i64 0, .int .i64 0, .int .i64 0, .int .i64 0, .int .i64 0, .int .i64 0, .int .i64 0, .int .i64 0, .int .i64 0, .int .i64 0, .int .i64 0, .int .i64 0, .int .i64 0, .int .i64 0, .int .i64 0, .int .i64 0, .int .i64 0, .int .i64 0, .int .i64 0, .int .i64 0, .int .i64 0, .int .i64 0, .int .i64 0, .int .i64 0]
theorem zeroV30 (W : World) : (zeroValue 96).run Try.prog W = .ok (.agg zero30) W := by kernel_rfl
theorem info30 : (Try.prog.info? 96).map (·.size) = some 30 := by kernel_rfl
theorem ld30 {W : World} {g : Nat} {cs : Array Value} (hg : W.heap[g]? = some (.cells cs 96 (0, 0))) (hs : cs.size = 30) : (Instr.loadAt 96 (.pointer (some ⟨g, 0, none⟩))).run Try.prog W = .ok (.agg cs) W := by
  have := run_loadVar_row (P := Try.prog) W g 96 96 cs (0, 0) _ hg Try.underlying96 rfl (by rw [hs]; exact info30)
  simp only [Instr.loadAt, Instr.sureAddr, Sem.run_bind, Sem.run_pure, Result.andThen_ok, this]
theorem lv30 {W : World} {g : Nat} {cs : Array Value} (hg : W.heap[g]? = some (.cells cs 96 (0, 0))) (hs : cs.size = 30) : (loadVar 96 ⟨g, 0, none⟩).run Try.prog W = .ok (.agg cs) W :=
  run_loadVar_row (P := Try.prog) W g 96 96 cs (0, 0) _ hg Try.underlying96 rfl (by rw [hs]; exact info30)
theorem st30 {W : World} {g : Nat} {old cs : Array Value} (hg : W.heap[g]? = some (.cells old 96 (0, 0))) (ho : old.size = 30) (hs : cs.size = 30) (h1 : cs.all (·.oneCell') = true) : (Instr.storeAt 96 (.pointer (some ⟨g, 0, none⟩)) (.agg cs)).run Try.prog W = .ok () (W.setRow g cs) := by
  have := run_storeVar_row (P := Try.prog) W g 96 96 old cs hg (by rw [hs]; exact info30) (by omega) h1
  simp only [Instr.storeAt, Instr.sureAddr, Sem.run_bind, Sem.run_pure, Result.andThen_ok, this]
theorem sv30 {W : World} {g : Nat} {old cs : Array Value} (hg : W.heap[g]? = some (.cells old 96 (0, 0))) (ho : old.size = 30) (hs : cs.size = 30) (h1 : cs.all (·.oneCell') = true) : (storeVar 96 ⟨g, 0, none⟩ (.agg cs)).run Try.prog W = .ok () (W.setRow g cs) :=
  run_storeVar_row (P := Try.prog) W g 96 96 old cs hg (by rw [hs]; exact info30) (by omega) h1
theorem stn30 (W : World) {cs : Array Value} (hs : cs.size = 30) (h1 : cs.all (·.oneCell') = true) : (Instr.storeAt 96 (.pointer (some ⟨W.heap.size, 0, none⟩)) (.agg cs)).run Try.prog (W.alloc (.cells zero30 96)) = .ok () (W.alloc (.cells cs 96)) :=
  run_storeAt_new W 96 zero30 cs (by rw [hs]; exact info30) (by rw [hs]; rfl) h1
theorem wpList_ld30 {ops : Array Oper} {rest : List Oper} {op : Oper} {a : Act} {w : World} {Q : Exit → Act → World → Prop} (hgd : op.guard = none) (x : Operand) (ho : op.op = .load 96 x)
    (g : Nat) (hx : a.eval x = .pointer (some ⟨g, 0, none⟩)) (cs : Array Value) (hg : w.heap[g]? = some (.cells cs 96 (0, 0))) (hs : cs.size = 30)
    (h : wpList Try.prog ops Q rest (a.put op.dst (.agg cs)) w) : wpList Try.prog ops Q (op :: rest) a w :=
  wpList_plain hgd fun _ hK => by
    unfold Oper.wp execOp
    simp only [ho, hx, Instr.loadAt, Instr.sureAddr, Sem.run_bind, Sem.run_pure, Result.andThen_ok, lv30 hg hs]
    exact hK _ _ h
theorem wpList_st30 {ops : Array Oper} {rest : List Oper} {op : Oper} {a : Act} {w : World} {Q : Exit → Act → World → Prop} (hgd : op.guard = none) (x y : Operand) (ho : op.op = .store 96 x y)
    (g : Nat) (cs old : Array Value) (hx : a.eval x = .pointer (some ⟨g, 0, none⟩)) (hy : a.eval y = .agg cs) (hg : w.heap[g]? = some (.cells old 96 (0, 0))) (ho2 : old.size = 30) (hs : cs.size = 30) (h1 : cs.all (·.oneCell') = true)
    (h : wpList Try.prog ops Q rest (a.put op.dst undef) (w.setRow g cs)) : wpList Try.prog ops Q (op :: rest) a w :=
  wpList_plain hgd fun _ hK => by
    unfold Oper.wp execOp
    simp only [ho, hx, hy, Instr.storeAt, Instr.sureAddr, Sem.run_bind, Sem.run_pure, Result.andThen_ok, sv30 hg ho2 hs h1]
    exact hK _ _ h
theorem lineRR_size {m : SM} {cv : Value} (h : m.stk.length = 24) : (lineRR m cv).size = 30 := by simp [lineRR, h]
theorem lineRR_one {m : SM} {cv : Value} (h : cv.oneCell' = true) : (lineRR m cv).all (·.oneCell') = true :=
  all_oneCell_toArray (fun v hv => by
    rcases List.mem_append.1 hv with hv | hv
    · simp at hv
      rcases hv with rfl | rfl | rfl | rfl | rfl | rfl <;> first | exact h | rfl
    · obtain ⟨x, _, rfl⟩ := List.mem_map.1 hv
      rfl)
end Go.Proofs.Ytcikofhbfncgdaa
namespace Go.Proofs.Ytcikofhbfncgdaa
open Go.RowKit
set_option linter.unusedVariables false
attribute [local go_sem ↓] Go.wp_at_zero Go.wp_at_succ

set_option maxHeartbeats 6400000 in
set_option maxRecDepth 100000 in
theorem copied_any (B p : Nat) (m : SM) (cv : Value) (w : World) (h : RunRI B w p m cv) (hl : m.cells.length ≤ 1048576) :
    Calls Try.prog 105 #[.pointer (some ⟨p, 0, none⟩)] w fun e w' => ∃ cv', e = .returned (.agg (lineRR m cv')) ∧ Own w' w.heap.size cv' m.cells ∧ Below w.heap.size w w' := by
  obtain ⟨a, c, rfl⟩ := own_shape h.cs
  have hp : p < w.heap.size := (Array.getElem?_eq_some_iff.1 h.row).1
  have hb1 := (Below.refl w.heap.size w).alloc (Nat.le_refl _) (.cells zero30 96)
  have hr1 := heap_alloc_new w (.cells zero30 96)
  have hq1 := blk8 h.row hb1
  have hz := zeroV30
  have HZ0 : Hid (zero30.size = 30) := rfl
  have hsz : (lineRR m (.slice a m.cells.length c)).size = 30 := lineRR_size h.rl
  have hone : (lineRR m (.slice a m.cells.length c)).all (·.oneCell') = true := lineRR_one rfl
  have HNZ : Hid (∀ W : World, (W.alloc (.cells zero30 96)).setRow W.heap.size (lineRR m (.slice a m.cells.length c)) = W.alloc (.cells (lineRR m (.slice a m.cells.length c)) 96)) := fun W => World.setRow_alloc_new _ _ _ _
  have HCC : Hid (∀ W, Below w.heap.size w W → Calls Try.prog 80 #[.slice a m.cells.length c] W fun e w' => ∃ a' c', e = .returned (.slice a' m.cells.length c') ∧ Own w' W.heap.size (.slice a' m.cells.length c') m.cells ∧ Below W.heap.size W w') := fun W hb => (clone_any _ m.cells W (own_row (own_kept h.cs hb)) hl).mono fun e w' ⟨v', h1, h2, h3⟩ => by
    obtain ⟨a', c', rfl⟩ := own_shape h2
    exact ⟨a', c', h1, h2, h3⟩
  have HRL := hid h.rl
  have HR1 := hid hr1
  have HB1 := hid hb1
  have HQ1 := hid hq1
  have HA0 : Hid (∀ v, (lineRR m v)[0]? = some v ∧ (lineRR m (.slice a m.cells.length c)).setIfInBounds 0 v = lineRR m v) := fun v => ⟨by simp [lineRR], by simp [lineRR]⟩
  clear hr1 hb1 hq1 h
  have HA1 : Hid ((lineRR m (.slice a m.cells.length c))[0]? = some (.slice a m.cells.length c)) := by unfold Hid; simp [lineRR]
  have hone2 : Hid (∀ a' c', (lineRR m (.slice a' m.cells.length c')).all (·.oneCell') = true ∧ (lineRR m (.slice a' m.cells.length c')).size = 30) := fun a' c' => ⟨lineRR_one rfl, lineRR_size HRL.out⟩
  generalize zero30 = Z at *
  obtain ⟨A, hA⟩ : ∃ A, A = lineRR m (.slice a m.cells.length c) := ⟨_, rfl⟩
  rw [← hA] at HNZ HQ1 HA0 HA1 hsz hone
  have HA := hid hA
  clear hA
  go_enter Try.func105, Try.ntmps105
  go_upto_region 1 with fail
  generalize hW1 : w.alloc (.cells Z 96) = W1 at *
  have HW1 : Hid (w.heap.size < W1.heap.size) := (Array.getElem?_eq_some_iff.1 HR1.out).1
  have hr2 := heap_alloc_new W1 (.cells A 96)
  have hb2 := (Below.refl W1.heap.size W1).alloc (Nat.le_refl _) (.cells A 96)
  have hzn := heap_alloc_new W1 (.cells Z 96)
  have HR2 := hid hr2
  have HZN := hid hzn
  have HR1b := hid (blk8 HR1.out hb2)
  have hq2 := blk8 HQ1.out hb2
  have HP0 : Hid ((W1.alloc (.cells A 96)).cell? ⟨p, 0, none⟩ = some (.slice a m.cells.length c)) := (cell_of_row _ _ 0 _ _ _ hq2).trans HA1.out
  have HB2 := hid (HB1.out.trans (hb2.mono HB1.out.size))
  clear hr2 hb2 HR1 HB1 hW1 hzn hq2
  go_upto_region 2 with (first | (show Go.wpList _ _ _ (Go.Oper.mk _ (Go.Op.load 96 _) _ _ _ _ :: _) _ _; refine wpList_ld30 rfl _ rfl p (by simp [go_sem]) A HQ1.out hsz ?_) | (show Go.wpList _ _ _ (Go.Oper.mk _ (Go.Op.store 96 _ _) _ _ _ _ :: _) _ _; refine wpList_st30 rfl _ _ rfl W1.heap.size A Z (by simp [go_sem]) (by simp [go_sem]) HZN.out HZ0.out hsz hone ?_) | fail)
  rw [HNZ.out]
  generalize hW2 : W1.alloc (.cells A 96) = W2 at *
  have p0 := HP0.out
  clear HP0 HQ1 HZN HNZ hsz hone
  go_wp2_with fail
  refine (HCC.out W2 HB2.out).mono ?_
  rintro e w3 ⟨a', c', rfl, ho, hb3⟩
  have HO3 := hid ho
  have HB3 := hid (HB2.out.trans (hb3.mono HB2.out.size))
  have hr3 := blk8 HR2.out hb3
  have HR3 := hid hr3
  have HR1c := hid (blk8 HR1b.out hb3)
  have c0 := (cell_of_row _ _ 0 _ _ _ hr3).trans HA1.out
  have f0 := frozen_of_row _ _ 0 _ _ hr3
  have HS3 : Hid (W2.heap.size ≤ w3.heap.size ∧ W1.heap.size < W2.heap.size) := ⟨hb3.size, (Array.getElem?_eq_some_iff.1 HR2.out).1⟩
  clear ho hb3 hr3 p0 HB2 HR1b HCC HR2
  generalize hg3 : W1.heap.size = g3 at *
  go_upto_region 3 with fail
  have hr4 := heap_setCell_same w3 g3 0 _ _ (.slice a' m.cells.length c') HR3.out
  rw [((HA0.out (.slice a' m.cells.length c')).2)] at hr4
  have hr1d := (heap_setCell_other w3 ⟨g3, 0, none⟩ w.heap.size (.slice a' m.cells.length c') (by have := HW1.out; show w.heap.size ≠ g3; omega)).trans HR1c.out
  have HO4 : Hid (Own (w3.setCell ⟨g3, 0, none⟩ (.slice a' m.cells.length c')) W2.heap.size (.slice a' m.cells.length c') m.cells) := own_other HO3.out (fun g hg => heap_setCell_other _ _ _ _ (fun e => by have := (HO3.out.lt g hg).1; have := HS3.out; simp only at e; omega))
  have HB4 : Hid (Below w.heap.size w (w3.setCell ⟨g3, 0, none⟩ (.slice a' m.cells.length c'))) := HB3.out.setCell (by have := HW1.out; show w.heap.size ≤ g3; omega) _
  have HR4 := hid hr4
  have HR1d := hid hr1d
  clear hr4 hr1d c0 f0 HR3 HR1c HB3 HO3
  generalize w3.setCell ⟨g3, 0, none⟩ (.slice a' m.cells.length c') = W4 at *
  have HO5 : Hid (Own (W4.setRow w.heap.size (lineRR m (.slice a' m.cells.length c'))) w.heap.size (.slice a' m.cells.length c') m.cells) := own_mono (own_other HO4.out (fun g hg => setRow_other _ _ _ _ (by have := (HO4.out.lt g hg).1; have := HS3.out; have := HW1.out; omega))) (by have := HS3.out; have := HW1.out; omega)
  have HB5 : Hid (Below w.heap.size w (W4.setRow w.heap.size (lineRR m (.slice a' m.cells.length c')))) := below_setRow HB4.out (Nat.le_refl _) _
  have hr5 := setRow_heap W4 w.heap.size Z (lineRR m (.slice a' m.cells.length c')) _ _ HR1d.out
  have h2 := hone2.out a' c'
  have HLV := hid (lv30 hr5 h2.2)
  clear hr5
  obtain ⟨A2, hA2⟩ : ∃ A2, A2 = lineRR m (.slice a' m.cells.length c') := ⟨_, rfl⟩
  rw [← hA2] at HR4 HO5 HB5 h2 HLV
  have HA2 := hid hA2
  clear hA2 hone2 HA0
  obtain ⟨k1, k2⟩ := h2
  go_wp2_with (first | (show Go.wpList _ _ _ (Go.Oper.mk _ (Go.Op.load 96 _) _ _ _ _ :: _) _ _; refine wpList_ld30 rfl _ rfl g3 (by simp [go_sem]) A2 HR4.out k2 ?_) | (show Go.wpList _ _ _ (Go.Oper.mk _ (Go.Op.store 96 _ _) _ _ _ _ :: _) _ _; refine wpList_st30 rfl _ _ rfl w.heap.size A2 Z (by simp [go_sem]) (by simp [go_sem]) HR1d.out HZ0.out k2 k1 ?_) | fail)
  generalize W4.setRow w.heap.size A2 = W5 at *
  have hlv := HLV.out
  refine bodyPost_ret (v := .agg A2) (by simp [results, Try.results105, Act.put, asAddr, hlv]) rfl ⟨_, by rw [HA2.out], HO5.out, HB5.out⟩
end Go.Proofs.Ytcikofhbfncgdaa
