/-
  impl.regOpOf: what an op is called, what its words are.
-/
import Derived.Test.YtcikofhbfncgdaaBin
import Derived.Test.YtcikofhbfncgdaaBin
import Derived.Deep.QuietTactic
import Derived.Deep.DrawnRows
import Derived.WalkKit
import Derived.Test.YtcikofhbfncgdaaDrawG
import Derived.Test.YtcikofhbfncgdaaStkMem
import Derived.Deep.WholeRow
namespace Go.Proofs.Ytcikofhbfncgdaa
open Go.RowKit
set_option linter.unusedVariables false
attribute [local go_sem ↓] Go.wp_at_zero Go.wp_at_succ

/-- the words of an instruction, below block B -/
def WordsV (B : Nat) (w : World) (wv : Value) (op u v : Int) : Prop :=
  ∃ a c, wv = .slice a (argN op).toNat c ∧ (1 ≤ argN op → ∃ b off, a = some ⟨b, off, none⟩ ∧ b < B ∧ w.cell? ⟨b, off, none⟩ = some (.int .i64 u) ∧ (argN op = 2 → w.cell? ⟨b, off + 1, none⟩ = some (.int .i64 v)))
theorem WordsV.kept {B : Nat} {w w' : World} {wv : Value} {op u v : Int} (h : WordsV B w wv op u v) (hb : Below B w w') : WordsV B w' wv op u v := by
  obtain ⟨a, c, rfl, h1⟩ := h
  refine ⟨a, c, rfl, fun h => ?_⟩
  obtain ⟨b, off, e, hlt, h2, h3⟩ := h1 h
  exact ⟨b, off, e, hlt, (hb.cell (p := ⟨b, off, none⟩) hlt).trans h2, fun h => (hb.cell (p := ⟨b, off + 1, none⟩) hlt).trans (h3 h)⟩
abbrev oneV (op : Int) (wv : Value) (nx : Int) : Value := .agg #[.int .i64 op, wv, .int .i64 nx]

/-- the box of an instruction and the answer's block: what every later world holds -/
theorem told_pre (B p b off c n : Nat) (m : SM) (op u nx : Int) (w W : World) (h : RunI B w p m) (hlt : b < B) (h2 : w.cell? ⟨b, off, none⟩ = some (.int .i64 u))
    (e : W = (w.alloc (.cells #[.int .i64 op, .slice (some ⟨b, off, none⟩) n c, .int .i64 nx] 130)).alloc (.cells #[.int .i64 0, .int .i64 0] 61)) :
    Below w.heap.size w W ∧ W.heap.size = w.heap.size + 2 ∧ ∀ Z, Below W.heap.size W Z → Z.cell? ⟨w.heap.size, 1, none⟩ = some (.slice (some ⟨b, off, none⟩) n c) ∧ Z.cell? ⟨b, off, none⟩ = some (.int .i64 u) ∧ RunI B Z p m ∧ Z.cell? ⟨w.heap.size + 1, 0, none⟩ = some (.int .i64 0) ∧ Z.cell? ⟨w.heap.size + 1, 1, none⟩ = some (.int .i64 0) ∧ Z.frozen? ⟨w.heap.size + 1, 0, none⟩ = false ∧ Z.frozen? ⟨w.heap.size + 1, 1, none⟩ = false := by
  have hBp := h.lt
  subst e
  have a1 := heap_alloc_new w (.cells #[.int .i64 op, .slice (some ⟨b, off, none⟩) n c, .int .i64 nx] 130)
  have b1 := (Below.refl w.heap.size w).alloc (Nat.le_refl _) (.cells #[.int .i64 op, .slice (some ⟨b, off, none⟩) n c, .int .i64 nx] 130)
  have a2 := heap_alloc_new (w.alloc (.cells #[.int .i64 op, .slice (some ⟨b, off, none⟩) n c, .int .i64 nx] 130)) (.cells #[.int .i64 0, .int .i64 0] 61)
  have b2 := (Below.refl (w.alloc (.cells #[.int .i64 op, .slice (some ⟨b, off, none⟩) n c, .int .i64 nx] 130)).heap.size (w.alloc (.cells #[.int .i64 op, .slice (some ⟨b, off, none⟩) n c, .int .i64 nx] 130))).alloc (Nat.le_refl _) (.cells #[.int .i64 0, .int .i64 0] 61)
  have s1 : (w.alloc (.cells #[.int .i64 op, .slice (some ⟨b, off, none⟩) n c, .int .i64 nx] 130)).heap.size = w.heap.size + 1 := by simp
  rw [s1] at a2
  have b3 := b1.trans (b2.mono (by omega))
  refine ⟨b3, by simp, fun Z hz => ?_⟩
  have b4 := b3.trans (hz.mono (by simp; omega))
  have r1 := blk8 (blk8 a1 b2) hz
  have r2 := blk8 a2 hz
  exact ⟨cell_of_row _ _ 1 _ _ _ r1, (b4.cell (p := ⟨b, off, none⟩) (by show b < w.heap.size; omega)).trans h2, h.kept b4, cell_of_row _ _ 0 _ _ _ r2, cell_of_row _ _ 1 _ _ _ r2, frozen_of_row _ _ 0 _ _ r2, frozen_of_row _ _ 1 _ _ r2⟩

/-- below block N all is as it was; in block N lies an answer -/
def Keep (N : Nat) (W Z : World) : Prop := Below N W Z ∧ ∃ x y, Z.heap[N]? = some (.cells #[.int .i64 x, .int .i64 y] 61 (0, 0))
theorem Keep.drew {N : Nat} {W Z : World} (h : Keep N W Z) : Keep N W Z.drew := ⟨h.1.drew, h.2⟩
theorem Keep.lt {N : Nat} {W Z : World} (h : Keep N W Z) : N < Z.heap.size := by
  obtain ⟨x, y, hz⟩ := h.2
  exact (Array.getElem?_eq_some_iff.1 hz).1
theorem Keep.below {N : Nat} {W Z Z' : World} (h : Keep N W Z) (hb : Below Z.heap.size Z Z') : Keep N W Z' := by
  have hl := h.lt
  obtain ⟨x, y, hz⟩ := h.2
  exact ⟨h.1.trans (hb.mono (by omega)), x, y, blk8 hz hb⟩
theorem Keep.set0 {N : Nat} {W Z : World} (h : Keep N W Z) (c : Int) : Keep N W (Z.setCell ⟨N, 0, none⟩ (.int .i64 c)) := by
  obtain ⟨x, y, hz⟩ := h.2
  exact ⟨h.1.setCell (Nat.le_refl _) _, c, y, heap_setCell_same _ _ 0 _ _ _ hz⟩
theorem Keep.set1 {N : Nat} {W Z : World} (h : Keep N W Z) (c : Int) : Keep N W (Z.setCell ⟨N, 1, none⟩ (.int .i64 c)) := by
  obtain ⟨x, y, hz⟩ := h.2
  exact ⟨h.1.setCell (Nat.le_refl _) _, x, c, heap_setCell_same _ _ 1 _ _ _ hz⟩
theorem Keep.cells {N : Nat} {W Z : World} (h : Keep N W Z) : ∃ x y, Z.cell? ⟨N, 0, none⟩ = some (.int .i64 x) ∧ Z.cell? ⟨N, 1, none⟩ = some (.int .i64 y) ∧ Z.frozen? ⟨N, 0, none⟩ = false ∧ Z.frozen? ⟨N, 1, none⟩ = false := by
  obtain ⟨x, y, hz⟩ := h.2
  exact ⟨x, y, cell_of_row _ _ 0 _ _ _ hz, cell_of_row _ _ 1 _ _ _ hz, frozen_of_row _ _ 0 _ _ hz, frozen_of_row _ _ 1 _ _ hz⟩
theorem last4 {A B C D : Prop} (h : A ∧ B ∧ C ∧ D) : D := h.2.2.2
theorem told_keep (B p b off c n : Nat) (m : SM) (op u nx : Int) (w W : World) (h : RunI B w p m) (hlt : b < B) (h2 : w.cell? ⟨b, off, none⟩ = some (.int .i64 u))
    (e : W = (w.alloc (.cells #[.int .i64 op, .slice (some ⟨b, off, none⟩) n c, .int .i64 nx] 130)).alloc (.cells #[.int .i64 0, .int .i64 0] 61)) :
    Below w.heap.size w W ∧ Keep (w.heap.size + 1) W W ∧ ∀ Z, Keep (w.heap.size + 1) W Z → Z.cell? ⟨w.heap.size, 1, none⟩ = some (.slice (some ⟨b, off, none⟩) n c) ∧ Z.cell? ⟨b, off, none⟩ = some (.int .i64 u) ∧ RunI B Z p m := by
  have hBp := h.lt
  subst e
  have a1 := heap_alloc_new w (.cells #[.int .i64 op, .slice (some ⟨b, off, none⟩) n c, .int .i64 nx] 130)
  have b1 := (Below.refl w.heap.size w).alloc (Nat.le_refl _) (.cells #[.int .i64 op, .slice (some ⟨b, off, none⟩) n c, .int .i64 nx] 130)
  have a2 := heap_alloc_new (w.alloc (.cells #[.int .i64 op, .slice (some ⟨b, off, none⟩) n c, .int .i64 nx] 130)) (.cells #[.int .i64 0, .int .i64 0] 61)
  have b2 := (Below.refl (w.alloc (.cells #[.int .i64 op, .slice (some ⟨b, off, none⟩) n c, .int .i64 nx] 130)).heap.size (w.alloc (.cells #[.int .i64 op, .slice (some ⟨b, off, none⟩) n c, .int .i64 nx] 130))).alloc (Nat.le_refl _) (.cells #[.int .i64 0, .int .i64 0] 61)
  have s1 : (w.alloc (.cells #[.int .i64 op, .slice (some ⟨b, off, none⟩) n c, .int .i64 nx] 130)).heap.size = w.heap.size + 1 := by simp
  rw [s1] at a2
  have b3 := b1.trans (b2.mono (by omega))
  refine ⟨b3, ⟨Below.refl _ _, 0, 0, a2⟩, fun Z hz => ?_⟩
  have b4 := b3.trans (hz.1.mono (by omega))
  have r1 := blk8 a1 b2
  exact ⟨(hz.1.cell (p := ⟨w.heap.size, 1, none⟩) (by simp)).trans (cell_of_row _ _ 1 _ _ _ r1), (b4.cell (p := ⟨b, off, none⟩) (by show b < w.heap.size; omega)).trans h2, h.kept b4⟩

set_option maxHeartbeats 1600000 in
theorem told_23 (B p : Nat) (m : SM) (op u v nx : Int) (wv : Value) (w : World) (hop : op = 2 ∨ op = 3) (h : RunI B w p m) (hl : m.cells.length ≤ 80) (hw : WordsV B w wv op u v) (hu0 : 0 ≤ u) :
    Calls Try.prog 119 #[.pointer (some ⟨p, 0, none⟩), oneV op wv nx] w fun e w' => e = .returned (ir (toldC op u v m) (toldV op u v m)) ∧ Below w.heap.size w w' := by
  have eC : toldC op u v m = cellC m.cells.length u := if_pos hop
  have eV : toldV op u v m = cellV m.cells.length u := if_pos hop
  have ea : argN op = 1 := by rcases hop with rfl | rfl <;> rfl
  rw [eC, eV]
  obtain ⟨a, c, rfl, h1⟩ := hw
  obtain ⟨b, off, rfl, hlt, h2, _⟩ := h1 (by omega)
  rw [ea]
  clear h1 eC eV ea
  have hBp := h.lt
  have HCL : Hid (∀ W, RunI B W p m → Calls Try.prog 128 #[.pointer (some ⟨p, 1, none⟩), .int .i64 u] W fun e w' => e = .returned (ir (cellC m.cells.length u) (cellV m.cells.length u)) ∧ Below W.heap.size W w') := fun W hr => cell_any B p m u W hr hl hu0
  generalize cellC m.cells.length u = C at *
  generalize cellV m.cells.length u = V at *
  have hX : Hid (∀ W, W = (w.alloc (.cells #[.int .i64 op, .slice (some ⟨b, off, none⟩) 1 c, .int .i64 nx] 130)).alloc (.cells #[.int .i64 0, .int .i64 0] 61) → _) := fun W e => told_pre B p b off c 1 m op u nx w W h hlt h2 e
  clear h h2
  have hT : (op == 2) = true ∨ ((op == 2) = false ∧ (op == 3) = true) := by
    rcases hop with rfl | rfl
    · exact .inl rfl
    · exact .inr ⟨rfl, rfl⟩
  clear hop
  rcases hT with e2 | ⟨e2, e3⟩
  all_goals
    go_enter Try.func119, Try.ntmps119
    go_upto_region 4 with fail
    have hXX := hX.out _ rfl
    generalize (w.alloc (.cells #[.int .i64 op, .slice (some ⟨b, off, none⟩) 1 c, .int .i64 nx] 130)).alloc (.cells #[.int .i64 0, .int .i64 0] 61) = W at *
    obtain ⟨x3, x4, x5⟩ := hXX
    have HB : Hid (Below w.heap.size w W) := x3
    have HS : Hid (W.heap.size = w.heap.size + 2) := x4
    have HX : Hid _ := x5
    obtain ⟨y1, y2, _⟩ := x5 W.drew (Below.refl _ _).drew
    clear x3 x4 x5 hX
    go_region_with (go_at_call 128; refine (HCL.out _ (HX.out W.drew (Below.refl _ _).drew).2.2.1).mono ?_; rintro e w3 ⟨rfl, hb⟩; have hb2 : Below W.heap.size W w3 := (Below.refl _ _).drew.trans hb; clear hb; obtain ⟨_, _, _, r0, r1, f0, f1⟩ := HX.out w3 hb2)
    go_wp2_with fail
    refine bodyPost_ret (v := ir C V) (by simp [results, Try.results119, go_sem, r0, r1]) rfl ⟨rfl, ?_⟩
    exact ((HB.out.trans (hb2.mono (by have := HS.out; omega))).setCell (by simp) _).setCell (by simp) _
end Go.Proofs.Ytcikofhbfncgdaa
namespace Go.Proofs.Ytcikofhbfncgdaa
open Go.RowKit
set_option linter.unusedVariables false

theorem wpList_buildS {P : Program} (w : World) {ops : Array Oper} {rest : List Oper} {o : Oper} {a : Act} {Q : Exit → Act → World → Prop}
    (hg : o.guard = none) (t : TypeId) (parts : Array (Nat × Operand)) (hop : o.op = Op.build t parts) (V : Value) (args : Array (Nat × Value)) (hargs : parts.map (fun (i, x) => (i, a.eval x)) = args)
    (hrun : (Instr.build t args).run P w = .ok V w) (hK : wpList P ops Q rest (a.put o.dst V) w) : wpList P ops Q (o :: rest) a w := by
  refine wpList_plain hg fun K hK' => ?_
  unfold Oper.wp
  simp [execOp, hop, hargs, hrun, Result.andThen]
  exact hK' _ _ hK
end Go.Proofs.Ytcikofhbfncgdaa
namespace Go.Proofs.Ytcikofhbfncgdaa
open Go.RowKit
set_option linter.unusedVariables false

abbrev ropV (nm ws : ByteArray) : Value := .agg #[.string nm, .string ws]
abbrev ropZ : Array Value := #[.string ⟨#[]⟩, .string ⟨#[]⟩, .string ⟨#[]⟩, .string ⟨#[]⟩, .string ⟨#[]⟩, .string ⟨#[]⟩, .string ⟨#[]⟩, .string ⟨#[]⟩, .string ⟨#[]⟩, .string ⟨#[]⟩, .string ⟨#[]⟩, .string ⟨#[]⟩, .string ⟨#[]⟩, .string ⟨#[]⟩, .string ⟨#[]⟩, .string ⟨#[]⟩, .string ⟨#[]⟩, .string ⟨#[]⟩, .string ⟨#[]⟩, .string ⟨#[]⟩, .string ⟨#[]⟩, .string ⟨#[]⟩, .string ⟨#[]⟩, .string ⟨#[]⟩, .string ⟨#[]⟩, .string ⟨#[]⟩, .string ⟨#[]⟩, .string ⟨#[]⟩]
abbrev ropA : Array Value := #[.string ⟨#[]⟩, .string ⟨#[]⟩, .string ⟨#[99, 111, 110, 115, 116]⟩, .string ⟨#[114, 45]⟩, .string ⟨#[108, 111, 97, 100]⟩, .string ⟨#[114, 99]⟩, .string ⟨#[115, 116, 111, 114, 101]⟩, .string ⟨#[99, 114]⟩, .string ⟨#[108, 111, 97, 100, 120]⟩, .string ⟨#[114, 114, 45, 45]⟩, .string ⟨#[115, 116, 111, 114, 101, 120]⟩, .string ⟨#[114, 114, 45, 45]⟩, .string ⟨#[116, 119, 111]⟩, .string ⟨#[114, 114, 114, 45]⟩, .string ⟨#[110, 101, 103]⟩, .string ⟨#[114, 114]⟩, .string ⟨#[110, 111, 116]⟩, .string ⟨#[114, 114]⟩, .string ⟨#[98, 111, 111, 108]⟩, .string ⟨#[114]⟩, .string ⟨#[106, 117, 109, 112]⟩, .string ⟨#[45]⟩, .string ⟨#[122, 101, 114, 111]⟩, .string ⟨#[114, 45]⟩, .string ⟨#[109, 97, 114, 107]⟩, .string ⟨#[45]⟩, .string ⟨#[101, 110, 100]⟩, .string ⟨#[]⟩]
theorem rzero14 (W : World) : (zeroValue 148).run Try.prog W = .ok (.agg ropZ) W := by kernel_rfl
theorem rbuild14 (W : World) : (Instr.build 148 #[(1, .agg #[.string ⟨#[99, 111, 110, 115, 116]⟩, .string ⟨#[114, 45]⟩]), (2, .agg #[.string ⟨#[108, 111, 97, 100]⟩, .string ⟨#[114, 99]⟩]), (3, .agg #[.string ⟨#[115, 116, 111, 114, 101]⟩, .string ⟨#[99, 114]⟩]), (4, .agg #[.string ⟨#[108, 111, 97, 100, 120]⟩, .string ⟨#[114, 114, 45, 45]⟩]), (5, .agg #[.string ⟨#[115, 116, 111, 114, 101, 120]⟩, .string ⟨#[114, 114, 45, 45]⟩]), (6, .agg #[.string ⟨#[116, 119, 111]⟩, .string ⟨#[114, 114, 114, 45]⟩]), (7, .agg #[.string ⟨#[110, 101, 103]⟩, .string ⟨#[114, 114]⟩]), (8, .agg #[.string ⟨#[110, 111, 116]⟩, .string ⟨#[114, 114]⟩]), (9, .agg #[.string ⟨#[98, 111, 111, 108]⟩, .string ⟨#[114]⟩]), (10, .agg #[.string ⟨#[106, 117, 109, 112]⟩, .string ⟨#[45]⟩]), (11, .agg #[.string ⟨#[122, 101, 114, 111]⟩, .string ⟨#[114, 45]⟩]), (12, .agg #[.string ⟨#[109, 97, 114, 107]⟩, .string ⟨#[45]⟩]), (13, .agg #[.string ⟨#[101, 110, 100]⟩, .string ⟨#[]⟩])]).run Try.prog W = .ok (.agg ropA) W := by kernel_rfl
theorem rstore14 (w : World) : (storeCells ⟨w.heap.size, 0, none⟩ ropA.toList 0).run Try.prog (w.alloc (.cells ropZ 148)) = .ok () (w.alloc (.cells ropA 148)) :=
  run_storeCells_new w 148 ropZ ropA (by kernel_rfl) (by rfl) (by decide +kernel)
theorem rstore14' (w : World) (o : Obj) : (storeCells ⟨w.heap.size + 1, 0, none⟩ ropA.toList 0).run Try.prog ((w.alloc o).alloc (.cells ropZ 148)) = .ok () ((w.alloc o).alloc (.cells ropA 148)) := by
  have := rstore14 (w.alloc o)
  simpa using this
abbrev ROpOf (k : Int) (v : Value) : Prop := ∀ w : World, Calls Try.prog 94 #[.int .i64 k] w fun e w' => e = .returned v ∧ Below w.heap.size w w'
set_option maxHeartbeats 1600000 in
set_option maxRecDepth 100000 in
theorem rop_k (k : Nat) (hk0 : (0 : Int) ≤ (k : Int)) (hk1 : (k : Int) < 14) (nm ws : ByteArray) (hv : ∀ j u, #[Value.string nm, .string ws][j]? = some u → ropA[k * 2 + j]? = some u) :
    ROpOf k (ropV nm ws) := by
  intro w
  have hz := rzero14
  have hb := rbuild14
  have hst := rstore14'
  have hs : ropA.size = 28 := rfl
  have hs0 : ropZ.size = 28 := rfl
  generalize ropA = A at *
  generalize ropZ = Z at *
  have hc : ∀ j u, #[Value.string nm, .string ws][j]? = some u → ((w.alloc (.cells #[.string ⟨#[]⟩, .string ⟨#[]⟩] 117)).alloc (.cells A 148)).cell? ⟨w.heap.size + 1, k * 2 + j, none⟩ = some u := fun j u hj => by
    have e := heap_alloc_new (w.alloc (.cells #[.string ⟨#[]⟩, .string ⟨#[]⟩] 117)) (.cells A 148)
    rw [show (w.alloc (.cells #[.string ⟨#[]⟩, .string ⟨#[]⟩] 117)).heap.size = w.heap.size + 1 from by simp] at e
    rw [cell_of_row _ _ _ _ _ _ e]
    exact hv j u hj
  have c0 := hc 0 _ rfl
  have c1 := hc 1 _ rfl
  clear hc hv
  simp only [Nat.add_zero] at c0
  go_enter Try.func94, Try.ntmps94
  go_wp2_with (show Go.wpList _ _ _ (Go.Oper.mk _ (Go.Op.build 148 _) _ _ _ _ :: _) _ _; refine wpList_buildS _ rfl 148 _ rfl (.agg A) _ (by simp [go_sem]) (hb _) ?_)
  have e1 := heap_alloc_new w (.cells #[.string nm, .string ws] 117)
  have e2 : ((w.alloc (.cells #[.string nm, .string ws] 117)).alloc (.cells A 148)).heap[w.heap.size]? = _ := (Below.heap_alloc _ _ _ (by simp)).trans e1
  have hB : Below w.heap.size w ((w.alloc (.cells #[.string nm, .string ws] 117)).alloc (.cells A 148)) := ((Below.refl _ _).alloc (Nat.le_refl _) _).alloc (by simp) _
  generalize ((w.alloc (.cells #[.string nm, .string ws] 117)).alloc (.cells A 148)) = W at *
  have r0 : W.cell? ⟨w.heap.size, 0, none⟩ = some (.string nm) := cell_of_row _ _ 0 _ _ _ e2
  have r1 : W.cell? ⟨w.heap.size, 1, none⟩ = some (.string ws) := cell_of_row _ _ 1 _ _ _ e2
  refine bodyPost_ret (v := ropV nm ws) (by simp [results, Try.results94, go_sem, r0, r1]) rfl ⟨rfl, hB⟩
/-- what an op is called, what its words are -/
def ropNm (op : Int) : List UInt8 := if op = 1 then [99, 111, 110, 115, 116] else if op = 2 then [108, 111, 97, 100] else if op = 3 then [115, 116, 111, 114, 101] else if op = 4 then [108, 111, 97, 100, 120] else if op = 5 then [115, 116, 111, 114, 101, 120] else if op = 6 then [116, 119, 111] else if op = 7 then [110, 101, 103] else if op = 8 then [110, 111, 116] else if op = 9 then [98, 111, 111, 108] else if op = 10 then [106, 117, 109, 112] else if op = 11 then [122, 101, 114, 111] else if op = 12 then [109, 97, 114, 107] else [101, 110, 100]
def ropWd (op : Int) : List UInt8 := if op = 1 then [114, 45] else if op = 2 then [114, 99] else if op = 3 then [99, 114] else if op = 4 then [114, 114, 45, 45] else if op = 5 then [114, 114, 45, 45] else if op = 6 then [114, 114, 114, 45] else if op = 7 then [114, 114] else if op = 8 then [114, 114] else if op = 9 then [114] else if op = 10 then [45] else if op = 11 then [114, 45] else if op = 12 then [45] else []
theorem regOp_any (op : Int) (h1 : 1 ≤ op) (h2 : op ≤ 13) : ROpOf op (ropV (bs (ropNm op)) (bs (ropWd op))) := by
  have hop : op = 1 ∨ op = 2 ∨ op = 3 ∨ op = 4 ∨ op = 5 ∨ op = 6 ∨ op = 7 ∨ op = 8 ∨ op = 9 ∨ op = 10 ∨ op = 11 ∨ op = 12 ∨ op = 13 := by omega
  rcases hop with rfl | rfl | rfl | rfl | rfl | rfl | rfl | rfl | rfl | rfl | rfl | rfl | rfl
  · exact rop_k 1 (by omega) (by omega) _ _ (fun j u h => by
      match j, h with
      | 0, h => exact h
      | 1, h => exact h
      | j + 2, h => simp at h)
  · exact rop_k 2 (by omega) (by omega) _ _ (fun j u h => by
      match j, h with
      | 0, h => exact h
      | 1, h => exact h
      | j + 2, h => simp at h)
  · exact rop_k 3 (by omega) (by omega) _ _ (fun j u h => by
      match j, h with
      | 0, h => exact h
      | 1, h => exact h
      | j + 2, h => simp at h)
  · exact rop_k 4 (by omega) (by omega) _ _ (fun j u h => by
      match j, h with
      | 0, h => exact h
      | 1, h => exact h
      | j + 2, h => simp at h)
  · exact rop_k 5 (by omega) (by omega) _ _ (fun j u h => by
      match j, h with
      | 0, h => exact h
      | 1, h => exact h
      | j + 2, h => simp at h)
  · exact rop_k 6 (by omega) (by omega) _ _ (fun j u h => by
      match j, h with
      | 0, h => exact h
      | 1, h => exact h
      | j + 2, h => simp at h)
  · exact rop_k 7 (by omega) (by omega) _ _ (fun j u h => by
      match j, h with
      | 0, h => exact h
      | 1, h => exact h
      | j + 2, h => simp at h)
  · exact rop_k 8 (by omega) (by omega) _ _ (fun j u h => by
      match j, h with
      | 0, h => exact h
      | 1, h => exact h
      | j + 2, h => simp at h)
  · exact rop_k 9 (by omega) (by omega) _ _ (fun j u h => by
      match j, h with
      | 0, h => exact h
      | 1, h => exact h
      | j + 2, h => simp at h)
  · exact rop_k 10 (by omega) (by omega) _ _ (fun j u h => by
      match j, h with
      | 0, h => exact h
      | 1, h => exact h
      | j + 2, h => simp at h)
  · exact rop_k 11 (by omega) (by omega) _ _ (fun j u h => by
      match j, h with
      | 0, h => exact h
      | 1, h => exact h
      | j + 2, h => simp at h)
  · exact rop_k 12 (by omega) (by omega) _ _ (fun j u h => by
      match j, h with
      | 0, h => exact h
      | 1, h => exact h
      | j + 2, h => simp at h)
  · exact rop_k 13 (by omega) (by omega) _ _ (fun j u h => by
      match j, h with
      | 0, h => exact h
      | 1, h => exact h
      | j + 2, h => simp at h)
theorem ropWd_len (op : Int) (h1 : 1 ≤ op) (h2 : op ≤ 13) : ((ropWd op).length : Int) = argR op := by
  have hop : op = 1 ∨ op = 2 ∨ op = 3 ∨ op = 4 ∨ op = 5 ∨ op = 6 ∨ op = 7 ∨ op = 8 ∨ op = 9 ∨ op = 10 ∨ op = 11 ∨ op = 12 ∨ op = 13 := by omega
  rcases hop with rfl | rfl | rfl | rfl | rfl | rfl | rfl | rfl | rfl | rfl | rfl | rfl | rfl <;> rfl
attribute [local go_sem] bs_size
set_option maxHeartbeats 800000 in
theorem implArgsR (op : Int) (w : World) : Calls Try.prog 44 #[.int .i64 op] w fun e w' => e = .returned (.agg #[.int .i64 (if inB op 1 13 then 0 else 3), .int .i64 (if inB op 1 13 then argR op else 0)]) ∧ Below w.heap.size w w' := by
  have HI : Hid (∀ W, Calls Try.prog 67 #[.int .i64 op, .int .i64 1, .int .i64 13] W fun e w' => e = .returned (.bool (inB op 1 13)) ∧ w' = W) := within_any op 1 13
  cases hq : inB op 1 13
  · rw [hq] at HI
    have hB : Below w.heap.size w (w.alloc (.cells #[.int .i64 3, .int .i64 0] 61)) := (Below.refl _ _).alloc (Nat.le_refl _) _
    go_enter Try.func44, Try.ntmps44
    go_wp2_with fail
    refine (HI.out _).mono ?_
    rintro e w1 ⟨rfl, rfl⟩
    go_wp2_with fail
    refine bodyPost_ret (v := .agg #[.int .i64 3, .int .i64 0]) (by simp [results, Try.results44, go_sem]) rfl ⟨rfl, ?_⟩
    go_grown
  · rw [hq] at HI
    have h12 := inB_iff.1 hq
    have HO : Hid (ROpOf op (ropV (bs (ropNm op)) (bs (ropWd op)))) := regOp_any op h12.1 h12.2
    have HL : Hid (((ropWd op).length : Int) = argR op) := ropWd_len op h12.1 h12.2
    have HA := argR_lo op
    clear h12 hq
    generalize argR op = A at *
    generalize bs (ropNm op) = nm at *
    generalize ropWd op = ws at *
    have hf : ∀ W, (Instr.field 117 (.agg #[.string nm, .string (bs ws)]) 1).run Try.prog W = .ok (.string (bs ws)) W := fun W => by kernel_rfl
    go_enter Try.func44, Try.ntmps44
    go_wp2_with fail
    refine (HI.out _).mono ?_
    rintro e w1 ⟨rfl, rfl⟩
    go_wp2_with fail
    have hB : Below w.heap.size w (w.alloc (.cells #[.int .i64 0, .int .i64 0] 61)) := (Below.refl _ _).alloc (Nat.le_refl _) _
    have hN := heap_alloc_new w (.cells #[.int .i64 0, .int .i64 0] 61)
    generalize w.alloc (.cells #[.int .i64 0, .int .i64 0] 61) = W at *
    refine (HO.out _).mono ?_
    rintro e w2 ⟨rfl, hb⟩
    have hN2 := blk8 hN hb
    have HB : Hid (Below w.heap.size w w2) := hB.trans (hb.mono hB.size)
    clear hN hb hB
    have r0 := cell_of_row _ _ 0 _ _ _ hN2
    have f0 := frozen_of_row _ _ 0 _ _ hN2
    have r1 := cell_of_row _ _ 1 _ _ _ hN2
    have f1 := frozen_of_row _ _ 1 _ _ hN2
    simp at r0 r1 f0 f1
    go_wp2_with fail
    refine bodyPost_ret (v := .agg #[.int .i64 0, .int .i64 A]) (by simp [results, Try.results44, go_sem, r0, r1]; exact HL.out) rfl ⟨rfl, (HB.out.setCell (Nat.le_refl _) _).setCell (Nat.le_refl _) _⟩
end Go.Proofs.Ytcikofhbfncgdaa
