/-
  impl's told: what an instruction may fail to get.
-/
import Derived.Test.YtlofagpffeaebaaIStk2
import Derived.Test.YtlofagpffeaebaaBin
import Derived.Deep.QuietTactic
import Derived.Deep.DrawnRows
namespace Go.Proofs.Ytlofagpffeaebaa
open Go.RowKit
set_option linter.unusedVariables false
attribute [local go_sem ↓] Go.wp_at_zero Go.wp_at_succ

/-- the words of an instruction, below block B -/
def WordsV (B : Nat) (w : World) (wv : Value) (op u v : Int) : Prop :=
  ∃ a c, wv = .slice a (argN op).toNat c ∧ (1 ≤ argN op → ∃ b off, a = some ⟨b, off, none⟩ ∧ b < B ∧ w.cell? ⟨b, off, none⟩ = some (.int .i64 u) ∧ (argN op = 2 → w.cell? ⟨b, off + 1, none⟩ = some (.int .i64 v)))
theorem WordsV.kept {B : Nat} {w w' : World} {wv : Value} {op u v : Int} (h : WordsV B w wv op u v) (hb : Below B w w') : WordsV B w' wv op u v := by
  obtain ⟨a, c, rfl, h1⟩ := h
  refine ⟨a, c, rfl, fun h => ?_⟩
  obtain ⟨b, off, e, hlt, h2, h3⟩ := h1 h
  exact ⟨b, off, e, hlt, (hb.cell (p := ⟨b, off, none⟩) hlt).trans h2, fun h => (hb.cell (p := ⟨b, off + 1, none⟩) hlt).trans (h3 h)⟩
abbrev oneV (op : Int) (wv : Value) (nx : Int) : Value := .agg #[.int .i64 op, wv, .int .i64 nx]

/-- the box of an instruction and the answer's block: what every later world holds -/
theorem told_pre (B p b off c n : Nat) (m : SM) (op u nx : Int) (w W : World) (h : RunI B w p m) (hlt : b < B) (h2 : w.cell? ⟨b, off, none⟩ = some (.int .i64 u))
    (e : W = (w.alloc (.cells #[.int .i64 op, .slice (some ⟨b, off, none⟩) n c, .int .i64 nx] 118)).alloc (.cells #[.int .i64 0, .int .i64 0] 29)) :
    Below w.heap.size w W ∧ W.heap.size = w.heap.size + 2 ∧ ∀ Z, Below W.heap.size W Z → Z.cell? ⟨w.heap.size, 1, none⟩ = some (.slice (some ⟨b, off, none⟩) n c) ∧ Z.cell? ⟨b, off, none⟩ = some (.int .i64 u) ∧ RunI B Z p m ∧ Z.cell? ⟨w.heap.size + 1, 0, none⟩ = some (.int .i64 0) ∧ Z.cell? ⟨w.heap.size + 1, 1, none⟩ = some (.int .i64 0) ∧ Z.frozen? ⟨w.heap.size + 1, 0, none⟩ = false ∧ Z.frozen? ⟨w.heap.size + 1, 1, none⟩ = false := by
  have hBp := h.lt
  subst e
  have a1 := heap_alloc_new w (.cells #[.int .i64 op, .slice (some ⟨b, off, none⟩) n c, .int .i64 nx] 118)
  have b1 := (Below.refl w.heap.size w).alloc (Nat.le_refl _) (.cells #[.int .i64 op, .slice (some ⟨b, off, none⟩) n c, .int .i64 nx] 118)
  have a2 := heap_alloc_new (w.alloc (.cells #[.int .i64 op, .slice (some ⟨b, off, none⟩) n c, .int .i64 nx] 118)) (.cells #[.int .i64 0, .int .i64 0] 29)
  have b2 := (Below.refl (w.alloc (.cells #[.int .i64 op, .slice (some ⟨b, off, none⟩) n c, .int .i64 nx] 118)).heap.size (w.alloc (.cells #[.int .i64 op, .slice (some ⟨b, off, none⟩) n c, .int .i64 nx] 118))).alloc (Nat.le_refl _) (.cells #[.int .i64 0, .int .i64 0] 29)
  have s1 : (w.alloc (.cells #[.int .i64 op, .slice (some ⟨b, off, none⟩) n c, .int .i64 nx] 118)).heap.size = w.heap.size + 1 := by simp
  rw [s1] at a2
  have b3 := b1.trans (b2.mono (by omega))
  refine ⟨b3, by simp, fun Z hz => ?_⟩
  have b4 := b3.trans (hz.mono (by simp; omega))
  have r1 := blk8 (blk8 a1 b2) hz
  have r2 := blk8 a2 hz
  exact ⟨cell_of_row _ _ 1 _ _ _ r1, (b4.cell (p := ⟨b, off, none⟩) (by show b < w.heap.size; omega)).trans h2, h.kept b4, cell_of_row _ _ 0 _ _ _ r2, cell_of_row _ _ 1 _ _ _ r2, frozen_of_row _ _ 0 _ _ r2, frozen_of_row _ _ 1 _ _ r2⟩

/-- below block N all is as it was; in block N lies an answer -/
def Keep (N : Nat) (W Z : World) : Prop := Below N W Z ∧ ∃ x y, Z.heap[N]? = some (.cells #[.int .i64 x, .int .i64 y] 29 (0, 0))
theorem Keep.drew {N : Nat} {W Z : World} (h : Keep N W Z) : Keep N W Z.drew := ⟨h.1.drew, h.2⟩
theorem Keep.lt {N : Nat} {W Z : World} (h : Keep N W Z) : N < Z.heap.size := by
  obtain ⟨x, y, hz⟩ := h.2
  exact (Array.getElem?_eq_some_iff.1 hz).1
theorem Keep.below {N : Nat} {W Z Z' : World} (h : Keep N W Z) (hb : Below Z.heap.size Z Z') : Keep N W Z' := by
  have hl := h.lt
  obtain ⟨x, y, hz⟩ := h.2
  exact ⟨h.1.trans (hb.mono (by omega)), x, y, blk8 hz hb⟩
theorem Keep.set0 {N : Nat} {W Z : World} (h : Keep N W Z) (c : Int) : Keep N W (Z.setCell ⟨N, 0, none⟩ (.int .i64 c)) := by
  obtain ⟨x, y, hz⟩ := h.2
  exact ⟨h.1.setCell (Nat.le_refl _) _, c, y, heap_setCell_same _ _ 0 _ _ _ hz⟩
theorem Keep.set1 {N : Nat} {W Z : World} (h : Keep N W Z) (c : Int) : Keep N W (Z.setCell ⟨N, 1, none⟩ (.int .i64 c)) := by
  obtain ⟨x, y, hz⟩ := h.2
  exact ⟨h.1.setCell (Nat.le_refl _) _, x, c, heap_setCell_same _ _ 1 _ _ _ hz⟩
theorem Keep.cells {N : Nat} {W Z : World} (h : Keep N W Z) : ∃ x y, Z.cell? ⟨N, 0, none⟩ = some (.int .i64 x) ∧ Z.cell? ⟨N, 1, none⟩ = some (.int .i64 y) ∧ Z.frozen? ⟨N, 0, none⟩ = false ∧ Z.frozen? ⟨N, 1, none⟩ = false := by
  obtain ⟨x, y, hz⟩ := h.2
  exact ⟨x, y, cell_of_row _ _ 0 _ _ _ hz, cell_of_row _ _ 1 _ _ _ hz, frozen_of_row _ _ 0 _ _ hz, frozen_of_row _ _ 1 _ _ hz⟩
theorem last4 {A B C D : Prop} (h : A ∧ B ∧ C ∧ D) : D := h.2.2.2
theorem told_keep (B p b off c n : Nat) (m : SM) (op u nx : Int) (w W : World) (h : RunI B w p m) (hlt : b < B) (h2 : w.cell? ⟨b, off, none⟩ = some (.int .i64 u))
    (e : W = (w.alloc (.cells #[.int .i64 op, .slice (some ⟨b, off, none⟩) n c, .int .i64 nx] 118)).alloc (.cells #[.int .i64 0, .int .i64 0] 29)) :
    Below w.heap.size w W ∧ Keep (w.heap.size + 1) W W ∧ ∀ Z, Keep (w.heap.size + 1) W Z → Z.cell? ⟨w.heap.size, 1, none⟩ = some (.slice (some ⟨b, off, none⟩) n c) ∧ Z.cell? ⟨b, off, none⟩ = some (.int .i64 u) ∧ RunI B Z p m := by
  have hBp := h.lt
  subst e
  have a1 := heap_alloc_new w (.cells #[.int .i64 op, .slice (some ⟨b, off, none⟩) n c, .int .i64 nx] 118)
  have b1 := (Below.refl w.heap.size w).alloc (Nat.le_refl _) (.cells #[.int .i64 op, .slice (some ⟨b, off, none⟩) n c, .int .i64 nx] 118)
  have a2 := heap_alloc_new (w.alloc (.cells #[.int .i64 op, .slice (some ⟨b, off, none⟩) n c, .int .i64 nx] 118)) (.cells #[.int .i64 0, .int .i64 0] 29)
  have b2 := (Below.refl (w.alloc (.cells #[.int .i64 op, .slice (some ⟨b, off, none⟩) n c, .int .i64 nx] 118)).heap.size (w.alloc (.cells #[.int .i64 op, .slice (some ⟨b, off, none⟩) n c, .int .i64 nx] 118))).alloc (Nat.le_refl _) (.cells #[.int .i64 0, .int .i64 0] 29)
  have s1 : (w.alloc (.cells #[.int .i64 op, .slice (some ⟨b, off, none⟩) n c, .int .i64 nx] 118)).heap.size = w.heap.size + 1 := by simp
  rw [s1] at a2
  have b3 := b1.trans (b2.mono (by omega))
  refine ⟨b3, ⟨Below.refl _ _, 0, 0, a2⟩, fun Z hz => ?_⟩
  have b4 := b3.trans (hz.1.mono (by omega))
  have r1 := blk8 a1 b2
  exact ⟨(hz.1.cell (p := ⟨w.heap.size, 1, none⟩) (by simp)).trans (cell_of_row _ _ 1 _ _ _ r1), (b4.cell (p := ⟨b, off, none⟩) (by show b < w.heap.size; omega)).trans h2, h.kept b4⟩

set_option maxHeartbeats 1600000 in
theorem told_23 (B p : Nat) (m : SM) (op u v nx : Int) (wv : Value) (w : World) (hop : op = 2 ∨ op = 3) (h : RunI B w p m) (hl : m.cells.length ≤ 80) (hw : WordsV B w wv op u v) (hu0 : 0 ≤ u) :
    Calls Try.prog 82 #[.pointer (some ⟨p, 0, none⟩), oneV op wv nx] w fun e w' => e = .returned (ir (toldC op u v m) (toldV op u v m)) ∧ Below w.heap.size w w' := by
  have eC : toldC op u v m = cellC m.cells.length u := if_pos hop
  have eV : toldV op u v m = cellV m.cells.length u := if_pos hop
  have ea : argN op = 1 := by rcases hop with rfl | rfl <;> rfl
  rw [eC, eV]
  obtain ⟨a, c, rfl, h1⟩ := hw
  obtain ⟨b, off, rfl, hlt, h2, _⟩ := h1 (by omega)
  rw [ea]
  clear h1 eC eV ea
  have hBp := h.lt
  have HCL : Hid (∀ W, RunI B W p m → Calls Try.prog 99 #[.pointer (some ⟨p, 1, none⟩), .int .i64 u] W fun e w' => e = .returned (ir (cellC m.cells.length u) (cellV m.cells.length u)) ∧ Below W.heap.size W w') := fun W hr => cell_any B p m u W hr hl hu0
  generalize cellC m.cells.length u = C at *
  generalize cellV m.cells.length u = V at *
  have hX : Hid (∀ W, W = (w.alloc (.cells #[.int .i64 op, .slice (some ⟨b, off, none⟩) 1 c, .int .i64 nx] 118)).alloc (.cells #[.int .i64 0, .int .i64 0] 29) → _) := fun W e => told_pre B p b off c 1 m op u nx w W h hlt h2 e
  clear h h2
  have hT : (op == 2) = true ∨ ((op == 2) = false ∧ (op == 3) = true) := by
    rcases hop with rfl | rfl
    · exact .inl rfl
    · exact .inr ⟨rfl, rfl⟩
  clear hop
  rcases hT with e2 | ⟨e2, e3⟩
  all_goals
    go_enter Try.func82, Try.ntmps82
    go_upto_region 4 with fail
    have hXX := hX.out _ rfl
    generalize (w.alloc (.cells #[.int .i64 op, .slice (some ⟨b, off, none⟩) 1 c, .int .i64 nx] 118)).alloc (.cells #[.int .i64 0, .int .i64 0] 29) = W at *
    obtain ⟨x3, x4, x5⟩ := hXX
    have HB : Hid (Below w.heap.size w W) := x3
    have HS : Hid (W.heap.size = w.heap.size + 2) := x4
    have HX : Hid _ := x5
    obtain ⟨y1, y2, _⟩ := x5 W.drew (Below.refl _ _).drew
    clear x3 x4 x5 hX
    go_region_with (go_at_call 99; refine (HCL.out _ (HX.out W.drew (Below.refl _ _).drew).2.2.1).mono ?_; rintro e w3 ⟨rfl, hb⟩; have hb2 : Below W.heap.size W w3 := (Below.refl _ _).drew.trans hb; clear hb; obtain ⟨_, _, _, r0, r1, f0, f1⟩ := HX.out w3 hb2)
    go_wp2_with fail
    refine bodyPost_ret (v := ir C V) (by simp [results, Try.results82, go_sem, r0, r1]) rfl ⟨rfl, ?_⟩
    exact ((HB.out.trans (hb2.mono (by have := HS.out; omega))).setCell (by simp) _).setCell (by simp) _
end Go.Proofs.Ytlofagpffeaebaa
