/-
  impl's register run in memory: what newRegRun wants.
-/
import Derived.Test.YtcikofhbfncgdaaRgRep
import Derived.Test.YtcikofhbfncgdaaRgMem
import Derived.Test.YtcikofhbfncgdaaIStk8
import Derived.Laws.Cover3
import Derived.Deep.MidRow
import Derived.Deep.RegionHeld3
namespace Go.Proofs.Ytcikofhbfncgdaa
open Go.RowKit
set_option linter.unusedVariables false
attribute [local go_sem ↓] Go.wp_at_zero Go.wp_at_succ

/-- a run's cells: the cells' row, the progress, the registers themselves -/
abbrev lineRR (m : SM) (cv : Value) : Array Value := ([cv, .int .i64 m.pc, .int .i64 m.sig, .int .i64 m.used, .int .i64 m.trap, .bool m.done] ++ m.stk.map (Value.int .i64)).toArray
/-- impl's run, in block g -/
structure RunRI (B : Nat) (w : World) (g : Nat) (m : SM) (cv : Value) : Prop where
  row : w.heap[g]? = some (.cells (lineRR m cv) 96 (0, 0))
  cs : Own w B cv m.cells
  gB : B ≤ g
  d : cv.ownBlock ≠ some g
  rl : m.stk.length = 24
theorem belR {a b c : World} (h : Below a.heap.size a b) (hb : Below b.heap.size b c) : Below a.heap.size a c := h.trans (hb.mono h.size)
theorem belR_al {W Z : World} (h : Below W.heap.size W Z) {o : Obj} : Below W.heap.size W (Z.alloc o) := h.alloc h.size o
theorem list24 : ∀ {l : List Int}, l.length = 24 → ∃ x0 x1 x2 x3 x4 x5 x6 x7 x8 x9 x10 x11 x12 x13 x14 x15 x16 x17 x18 x19 x20 x21 x22 x23, l = [x0, x1, x2, x3, x4, x5, x6, x7, x8, x9, x10, x11, x12, x13, x14, x15, x16, x17, x18, x19, x20, x21, x22, x23]
  | [x0, x1, x2, x3, x4, x5, x6, x7, x8, x9, x10, x11, x12, x13, x14, x15, x16, x17, x18, x19, x20, x21, x22, x23], _ => ⟨x0, x1, x2, x3, x4, x5, x6, x7, x8, x9, x10, x11, x12, x13, x14, x15, x16, x17, x18, x19, x20, x21, x22, x23, rfl⟩
theorem build30 (a : Option Addr) (n c : Nat) (pc sig used trap : Int) (done : Bool) (x0 x1 x2 x3 x4 x5 x6 x7 x8 x9 x10 x11 x12 x13 x14 x15 x16 x17 x18 x19 x20 x21 x22 x23 : Int) (w : World) : (Instr.build 96 #[(0, .agg #[.slice a n c]), (1, .agg #[.int .i64 pc, .int .i64 sig, .int .i64 used, .int .i64 trap, .bool done]), (2, .agg #[.int .i64 x0, .int .i64 x1, .int .i64 x2, .int .i64 x3, .int .i64 x4, .int .i64 x5, .int .i64 x6, .int .i64 x7, .int .i64 x8, .int .i64 x9, .int .i64 x10, .int .i64 x11, .int .i64 x12, .int .i64 x13, .int .i64 x14, .int .i64 x15, .int .i64 x16, .int .i64 x17, .int .i64 x18, .int .i64 x19, .int .i64 x20, .int .i64 x21, .int .i64 x22, .int .i64 x23])]).run Try.prog w = .ok (.agg #[.slice a n c, .int .i64 pc, .int .i64 sig, .int .i64 used, .int .i64 trap, .bool done, .int .i64 x0, .int .i64 x1, .int .i64 x2, .int .i64 x3, .int .i64 x4, .int .i64 x5, .int .i64 x6, .int .i64 x7, .int .i64 x8, .int .i64 x9, .int .i64 x10, .int .i64 x11, .int .i64 x12, .int .i64 x13, .int .i64 x14, .int .i64 x15, .int .i64 x16, .int .i64 x17, .int .i64 x18, .int .i64 x19, .int .i64 x20, .int .i64 x21, .int .i64 x22, .int .i64 x23]) w := by kernel_rfl
theorem arr24 (b off n c : Nat) (hn : 24 ≤ n) (w : World) : (Instr.arrayAt 94 (.slice (some ⟨b, off, none⟩) n c)).run Try.prog w = .ok (.pointer (some ⟨b, off, none⟩)) w :=
  run_arrayAt w 94 _ 24 _ n c Try.underlying94 hn
theorem info24 : (Try.prog.info? 94).map (·.size) = some 24 := by kernel_rfl

set_option maxHeartbeats 6400000 in
set_option maxRecDepth 100000 in
theorem newRegRun_any (m : SM) (sv cv : Value) (w : World) (hs : RowV w sv m.stk) (hc : RowV w cv m.cells) (h24 : m.stk.length = 24) (hl2 : m.cells.length ≤ 1048576) :
    Calls Try.prog 68 #[machW m sv cv] w fun e w' => ∃ g v, e = .returned (.pointer (some ⟨g, 0, none⟩)) ∧ RunRI w.heap.size w' g m v ∧ Below w.heap.size w w' := by
  have hA := (Below.refl w.heap.size w).alloc (Nat.le_refl _) (.cells (lineS m sv cv) 28)
  have a0 := heap_alloc_new w (.cells (lineS m sv cv) 28)
  obtain ⟨b1, k1, rfl, hn1, hk1⟩ := hs
  obtain ⟨b2, k2, rfl, hn2, hk2⟩ := hc
  obtain ⟨bb, off, rfl, hcc⟩ : ∃ b off, b1 = some ⟨b, off, none⟩ ∧ ∀ i, i < m.stk.length → w.cell? ⟨b, off + i, none⟩ = some (.int .i64 (m.stk.getD i 0)) := by
    rcases hn1 with h | h
    · rw [h] at h24; simp at h24
    · exact h
  have hRA : w.rangeAt bb off (m.stk.map (Value.int .i64)) := fun j v hv => by
    have hj : j < m.stk.length := by have := (List.getElem?_eq_some_iff.1 hv).1; simpa using this
    rw [hcc j hj]
    rw [List.getElem?_map, List.getElem?_eq_getElem hj] at hv
    rw [List.getD_eq_getElem?_getD, List.getElem?_eq_getElem hj]
    simpa using hv
  have hbw : bb < w.heap.size := World.block_lt_of_cell? _ _ (hcc 0 (by omega))
  have HX : Hid (∀ W, W = w.alloc (.cells (lineS m (.slice (some ⟨bb, off, none⟩) m.stk.length k1) (.slice b2 m.cells.length k2)) 28) → Below w.heap.size w W ∧ ∀ Z, Below W.heap.size W Z →
      (Z.cell? ⟨w.heap.size, 0, none⟩ = some (.int .i64 m.pc) ∧ Z.cell? ⟨w.heap.size, 1, none⟩ = some (.slice (some ⟨bb, off, none⟩) m.stk.length k1) ∧ Z.cell? ⟨w.heap.size, 2, none⟩ = some (.slice b2 m.cells.length k2) ∧ Z.cell? ⟨w.heap.size, 3, none⟩ = some (.int .i64 m.sig) ∧ Z.cell? ⟨w.heap.size, 4, none⟩ = some (.int .i64 m.used) ∧ Z.cell? ⟨w.heap.size, 5, none⟩ = some (.int .i64 m.trap) ∧ Z.cell? ⟨w.heap.size, 6, none⟩ = some (.bool m.done)) ∧ Z.rangeAt bb off (m.stk.map (Value.int .i64))) := fun W e => by
    subst e
    refine ⟨hA, fun Z hz => ?_⟩
    have a1 := blk8 a0 hz
    refine ⟨⟨cell_of_row _ _ 0 _ _ _ a1, cell_of_row _ _ 1 _ _ _ a1, cell_of_row _ _ 2 _ _ _ a1, cell_of_row _ _ 3 _ _ _ a1, cell_of_row _ _ 4 _ _ _ a1, cell_of_row _ _ 5 _ _ _ a1, cell_of_row _ _ 6 _ _ _ a1⟩, fun j v hv => ?_⟩
    have h1 := hRA j v hv
    have hb := hA.trans (hz.mono hA.size)
    rw [hb.cell (p := ⟨bb, off + j, none⟩) hbw]
    exact h1
  have HCC : Hid (∀ W, Below w.heap.size w W → Calls Try.prog 80 #[.slice b2 m.cells.length k2] W fun e w' => ∃ a' c', e = .returned (.slice a' m.cells.length c') ∧ Own w' W.heap.size (.slice a' m.cells.length c') m.cells ∧ Below W.heap.size W w') := fun W hb => (clone_any _ m.cells W (RowV.below ⟨b2, k2, rfl, hn2, hk2⟩ hb) hl2).mono fun e w' ⟨v', h1, h2, h3⟩ => by
    obtain ⟨a', c', rfl⟩ := own_shape h2
    exact ⟨a', c', h1, h2, h3⟩
  have HPR : Hid (∀ W, Calls Try.prog 76 #[machW m (.slice (some ⟨bb, off, none⟩) m.stk.length k1) (.slice b2 m.cells.length k2)] W fun e w' => e = .returned (progV m) ∧ Below W.heap.size W w') := fun W => rprog_any m (some ⟨bb, off, none⟩) b2 _ _ k1 k2 W
  obtain ⟨x0, x1, x2, x3, x4, x5, x6, x7, x8, x9, x10, x11, x12, x13, x14, x15, x16, x17, x18, x19, x20, x21, x22, x23, hxs⟩ := list24 h24
  have HNEW : Hid (∀ (wx W9 : World) (vc : Value), Own wx w.heap.size vc m.cells → Below wx.heap.size wx W9 → w.heap.size ≤ wx.heap.size → RunRI w.heap.size (W9.alloc (.cells (lineRR m vc) 96)) W9.heap.size m vc) := fun wx W9 vc h1 h2 h3 =>
    ⟨heap_alloc_new _ _, (own_kept h1 h2).alloc _, Nat.le_trans h3 h2.size, fun e => by have := ((own_kept h1 h2).lt _ e).2; omega, h24⟩
  have hB30 := build30
  have har := arr24 bb off m.stk.length k1 (by omega)
  have hi24 := info24
  have hu24 := Try.underlying94
  clear hA a0 hn1 hn2 hk1 hk2 hl2 hRA hbw hcc
  rw [h24] at HX HPR har ⊢
  clear h24
  have HNX : Hid (∀ vc, lineRR m vc = #[vc, .int .i64 m.pc, .int .i64 m.sig, .int .i64 m.used, .int .i64 m.trap, .bool m.done, .int .i64 x0, .int .i64 x1, .int .i64 x2, .int .i64 x3, .int .i64 x4, .int .i64 x5, .int .i64 x6, .int .i64 x7, .int .i64 x8, .int .i64 x9, .int .i64 x10, .int .i64 x11, .int .i64 x12, .int .i64 x13, .int .i64 x14, .int .i64 x15, .int .i64 x16, .int .i64 x17, .int .i64 x18, .int .i64 x19, .int .i64 x20, .int .i64 x21, .int .i64 x22, .int .i64 x23]) := fun vc => by unfold lineRR; rw [hxs]; rfl
  rw [hxs] at HX
  simp only [List.map_cons, List.map_nil] at HX
  clear hxs
  generalize hL2 : m.cells.length = l2 at *
  go_enter Try.func68, Try.ntmps68
  go_upto_region 1 with fail
  have hX := HX.out _ rfl
  generalize w.alloc (.cells (lineS m (.slice (some ⟨bb, off, none⟩) 24 k1) (.slice b2 l2 k2)) 28) = W at *
  have HB : Hid (Below w.heap.size w W) := hX.1
  have HK := hid hX.2
  have hS0 : Below W.heap.size W W := Below.refl _ _
  have hir : (Try.prog.info? 94).map (·.size) = some ([Value.int .i64 x0, Value.int .i64 x1, Value.int .i64 x2, Value.int .i64 x3, Value.int .i64 x4, Value.int .i64 x5, Value.int .i64 x6, Value.int .i64 x7, Value.int .i64 x8, Value.int .i64 x9, Value.int .i64 x10, Value.int .i64 x11, Value.int .i64 x12, Value.int .i64 x13, Value.int .i64 x14, Value.int .i64 x15, Value.int .i64 x16, Value.int .i64 x17, Value.int .i64 x18, Value.int .i64 x19, Value.int .i64 x20, Value.int .i64 x21, Value.int .i64 x22, Value.int .i64 x23].length) := hi24
  have hB0d : Below w.heap.size w W.drew := HB.out.drew
  clear hX HX hi24
  go_cut [2] from 15 (fun v W1 => ∃ g vc, v = .pointer (some ⟨g, 0, none⟩) ∧ Hid (RunRI w.heap.size W1 g m vc) ∧ Hid (Below w.heap.size w W1))
  case first =>
    refine wp_region_held_drew (S := (fun Z => Below W.heap.size W Z ∧ (Z.cell? ⟨w.heap.size, 0, none⟩ = some (.int .i64 m.pc) ∧ Z.cell? ⟨w.heap.size, 1, none⟩ = some (.slice (some ⟨bb, off, none⟩) 24 k1) ∧ Z.cell? ⟨w.heap.size, 2, none⟩ = some (.slice b2 l2 k2) ∧ Z.cell? ⟨w.heap.size, 3, none⟩ = some (.int .i64 m.sig) ∧ Z.cell? ⟨w.heap.size, 4, none⟩ = some (.int .i64 m.used) ∧ Z.cell? ⟨w.heap.size, 5, none⟩ = some (.int .i64 m.trap) ∧ Z.cell? ⟨w.heap.size, 6, none⟩ = some (.bool m.done)) ∧ Z.rangeAt bb off [Value.int .i64 x0, Value.int .i64 x1, Value.int .i64 x2, Value.int .i64 x3, Value.int .i64 x4, Value.int .i64 x5, Value.int .i64 x6, Value.int .i64 x7, Value.int .i64 x8, Value.int .i64 x9, Value.int .i64 x10, Value.int .i64 x11, Value.int .i64 x12, Value.int .i64 x13, Value.int .i64 x14, Value.int .i64 x15, Value.int .i64 x16, Value.int .i64 x17, Value.int .i64 x18, Value.int .i64 x19, Value.int .i64 x20, Value.int .i64 x21, Value.int .i64 x22, Value.int .i64 x23])) (by kernel_rfl) ⟨hS0.drew, HK.out _ hS0.drew⟩ (fun hHeld => ?_)
    refine wpAnyH_take (i := 0) (oi := { dst := some 3, op := Op.fieldAddr 28 (Operand.tmp 1) 2, type := 0, pos := "l10_regs.go:158", after := #[], guard := none }) (v := ?_) rfl (by kernel_rfl) (by kernel_rfl) (by kernel_rfl) (fun _ _ _ h => h) (Or.inl ⟨by rfl, ?_⟩) (by assumption) ?_
    rotate_left 1
    · intro w hSw
      (try dsimp only at hSw)
      first | (go_simp; done) | (go_simp; with_reducible rfl)
    try simp only [Act.put, List.setIfInBounds_toArray, List.set_cons_zero, List.set_cons_succ]
    refine wpAnyH_take (i := 1) (oi := { dst := some 4, op := Op.load 24 (Operand.tmp 3), type := 24, pos := "l10_regs.go:158", after := #[{ on := 0, ground := Ground.data }], guard := none }) (v := ?_) rfl (by kernel_rfl) (by kernel_rfl) (by kernel_rfl) (fun _ _ _ h => h) (Or.inl ⟨by rfl, ?_⟩) (by assumption) ?_
    rotate_left 1
    · intro w hSw
      (try dsimp only at hSw)
      first | (go_simp; done) | (go_simp; with_reducible rfl)
    try simp only [Act.put, List.setIfInBounds_toArray, List.set_cons_zero, List.set_cons_succ]
    refine wpAnyH_take (i := 4) (oi := { dst := some 7, op := Op.load 28 (Operand.tmp 1), type := 28, pos := "l10_regs.go:158", after := #[], guard := none }) (v := ?_) rfl (by kernel_rfl) (by kernel_rfl) (by kernel_rfl) (fun _ _ _ h => h) (Or.inl ⟨by rfl, ?_⟩) (by assumption) ?_
    rotate_left 1
    · intro w hSw
      (try dsimp only at hSw)
      first | (go_simp; done) | (go_simp; with_reducible rfl)
    try simp only [Act.put, List.setIfInBounds_toArray, List.set_cons_zero, List.set_cons_succ]
    refine wpAnyH_take (i := 6) (oi := { dst := some 9, op := Op.fieldAddr 28 (Operand.tmp 1) 1, type := 0, pos := "l10_regs.go:158", after := #[], guard := none }) (v := ?_) rfl (by kernel_rfl) (by kernel_rfl) (by kernel_rfl) (fun _ _ _ h => h) (Or.inl ⟨by rfl, ?_⟩) (by assumption) ?_
    rotate_left 1
    · intro w hSw
      (try dsimp only at hSw)
      first | (go_simp; done) | (go_simp; with_reducible rfl)
    try simp only [Act.put, List.setIfInBounds_toArray, List.set_cons_zero, List.set_cons_succ]
    refine wpAnyH_take (i := 7) (oi := { dst := some 10, op := Op.load 24 (Operand.tmp 9), type := 24, pos := "l10_regs.go:158", after := #[{ on := 6, ground := Ground.data }], guard := none }) (v := ?_) rfl (by kernel_rfl) (by kernel_rfl) (by kernel_rfl) (fun _ _ _ h => h) (Or.inl ⟨by rfl, ?_⟩) (by assumption) ?_
    rotate_left 1
    · intro w hSw
      (try dsimp only at hSw)
      first | (go_simp; done) | (go_simp; with_reducible rfl)
    try simp only [Act.put, List.setIfInBounds_toArray, List.set_cons_zero, List.set_cons_succ]
    refine wpAnyH_take (i := 8) (oi := { dst := some 11, op := Op.sliceToArrayPointer 94 (Operand.tmp 10), type := 0, pos := "l10_regs.go:158", after := #[{ on := 7, ground := Ground.data }], guard := none }) (v := ?_) rfl (by kernel_rfl) (by kernel_rfl) (by kernel_rfl) (fun _ _ _ h => h) (Or.inl ⟨by rfl, ?_⟩) (by assumption) ?_
    rotate_left 1
    · intro w hSw
      (try dsimp only at hSw)
      first | (go_simp; done) | (go_simp; with_reducible rfl)
    try simp only [Act.put, List.setIfInBounds_toArray, List.set_cons_zero, List.set_cons_succ]
    refine wpAnyH_take (i := 9) (oi := { dst := some 12, op := Op.load 94 (Operand.tmp 11), type := 94, pos := "l10_regs.go:158", after := #[{ on := 8, ground := Ground.data }], guard := none }) (v := .agg (List.toArray [Value.int .i64 x0, Value.int .i64 x1, Value.int .i64 x2, Value.int .i64 x3, Value.int .i64 x4, Value.int .i64 x5, Value.int .i64 x6, Value.int .i64 x7, Value.int .i64 x8, Value.int .i64 x9, Value.int .i64 x10, Value.int .i64 x11, Value.int .i64 x12, Value.int .i64 x13, Value.int .i64 x14, Value.int .i64 x15, Value.int .i64 x16, Value.int .i64 x17, Value.int .i64 x18, Value.int .i64 x19, Value.int .i64 x20, Value.int .i64 x21, Value.int .i64 x22, Value.int .i64 x23])) rfl (by kernel_rfl) (by kernel_rfl) (by kernel_rfl) (fun _ _ _ h => h) (yieldsIf_load_mid (by rfl) 94 (Operand.tmp 11) rfl bb off rfl [Value.int .i64 x0, Value.int .i64 x1, Value.int .i64 x2, Value.int .i64 x3, Value.int .i64 x4, Value.int .i64 x5, Value.int .i64 x6, Value.int .i64 x7, Value.int .i64 x8, Value.int .i64 x9, Value.int .i64 x10, Value.int .i64 x11, Value.int .i64 x12, Value.int .i64 x13, Value.int .i64 x14, Value.int .i64 x15, Value.int .i64 x16, Value.int .i64 x17, Value.int .i64 x18, Value.int .i64 x19, Value.int .i64 x20, Value.int .i64 x21, Value.int .i64 x22, Value.int .i64 x23] _ (fun Z h => h.2.2) hu24 rfl hir) (by assumption) ?_
    try simp only [Act.put, List.setIfInBounds_toArray, List.set_cons_zero, List.set_cons_succ]
    refine wpAnyH_ready (rs := [2]) (by kernel_rfl) (by simp) ?_
    refine AllReadyH.cons (o := { dst := some 5, op := Op.call { callee := Callee.value (Operand.func 80), args := #[Operand.tmp 4], argTypes := #[24] }, type := 24, pos := "l10_regs.go:159", after := #[{ on := 1, ground := Ground.data }], guard := none }) rfl (fun K hK => ?_) AllReadyH.nil
    go_simp
    refine (HCC.out _ hB0d).mono ?_
    rintro e wa ⟨aq, cq, rfl, hq, hb⟩
    have hD3 : Below W.heap.size W wa := belR hS0.drew hb
    go_wp2_with fail
    refine hK.out _ _ ⟨hD3, HK.out _ hD3⟩ (fun hHeld => ?_)
    clear hK K
    try simp only [Act.put, List.setIfInBounds_toArray, List.set_cons_zero, List.set_cons_succ]
    refine wpAnyH_take (i := 3) (oi := { dst := some 6, op := Op.build 90 #[(0, Operand.tmp 5)], type := 90, pos := "l10_regs.go:158", after := #[{ on := 2, ground := Ground.data }], guard := none }) (v := ?_) rfl (by kernel_rfl) (by kernel_rfl) (by kernel_rfl) (fun _ _ _ h => h) (Or.inl ⟨by rfl, ?_⟩) (by assumption) ?_
    rotate_left 1
    · intro w hSw
      (try dsimp only at hSw)
      first | (go_simp; done) | (go_simp; with_reducible rfl)
    try simp only [Act.put, List.setIfInBounds_toArray, List.set_cons_zero, List.set_cons_succ]
    refine wpAnyH_ready (rs := [5]) (by kernel_rfl) (by simp) ?_
    refine AllReadyH.cons (o := { dst := some 8, op := Op.call { callee := Callee.value (Operand.func 76), args := #[Operand.tmp 7], argTypes := #[28] }, type := 92, pos := "l10_regs.go:160", after := #[{ on := 4, ground := Ground.data }, { on := 2, ground := Ground.chain }], guard := none }) rfl (fun K hK => ?_) AllReadyH.nil
    go_simp
    refine (HPR.out _).mono ?_
    rintro e wb ⟨rfl, hb4⟩
    have hD4 : Below W.heap.size W wb := belR hD3 hb4
    go_wp2_with fail
    refine hK.out _ _ ⟨hD4, HK.out _ hD4⟩ (fun hHeld => ?_)
    clear hK K
    try simp only [Act.put, List.setIfInBounds_toArray, List.set_cons_zero, List.set_cons_succ]
    refine wpAnyH_take (i := 10) (oi := { dst := some 13, op := Op.build 96 #[(0, Operand.tmp 6), (1, Operand.tmp 8), (2, Operand.tmp 12)], type := 96, pos := "l10_regs.go:158", after := #[{ on := 3, ground := Ground.data }, { on := 5, ground := Ground.data }, { on := 9, ground := Ground.data }], guard := none }) (v := ?_) rfl (by kernel_rfl) (by kernel_rfl) (by kernel_rfl) (fun _ _ _ h => h) (Or.inl ⟨by rfl, ?_⟩) (by assumption) ?_
    rotate_left 1
    · intro w hSw
      (try dsimp only at hSw)
      first | (go_simp; done) | (go_simp; with_reducible rfl)
    try simp only [Act.put, List.setIfInBounds_toArray, List.set_cons_zero, List.set_cons_succ]
    refine wpAnyH_ready (rs := [11]) (by kernel_rfl) (by simp) ?_
    refine AllReadyH.cons (o := { dst := some 14, op := Op.box 96 (Operand.tmp 13), type := 83, pos := "l10_regs.go:158", after := #[{ on := 10, ground := Ground.data }], guard := none }) rfl (fun K hK => ?_) AllReadyH.nil
    go_simp
    refine hK.out _ _ ⟨belR_al hD4, HK.out _ (belR_al hD4)⟩ (fun hHeld => ?_)
    clear hK K
    try simp only [Act.put, List.setIfInBounds_toArray, List.set_cons_zero, List.set_cons_succ]
    refine wpAnyH_take (i := 12) (oi := { dst := some 2, op := Op.assign (Operand.tmp 14), type := 83, pos := "l10_regs.go:158", after := #[{ on := 11, ground := Ground.data }, { on := 5, ground := Ground.chain }, { on := 0, ground := Ground.phase }, { on := 1, ground := Ground.phase }, { on := 2, ground := Ground.phase }, { on := 3, ground := Ground.phase }, { on := 4, ground := Ground.phase }, { on := 5, ground := Ground.phase }, { on := 6, ground := Ground.phase }, { on := 7, ground := Ground.phase }, { on := 8, ground := Ground.phase }, { on := 9, ground := Ground.phase }, { on := 10, ground := Ground.phase }, { on := 11, ground := Ground.phase }], guard := none }) (v := ?_) rfl (by kernel_rfl) (by kernel_rfl) (by kernel_rfl) (fun _ _ _ h => h) (Or.inl ⟨by rfl, ?_⟩) (by assumption) ?_
    rotate_left 1
    · intro w hSw
      (try dsimp only at hSw)
      first | (go_simp; done) | (go_simp; with_reducible rfl)
    try simp only [Act.put, List.setIfInBounds_toArray, List.set_cons_zero, List.set_cons_succ]
    refine wpAnyH_done (by kernel_rfl) ?_ _
    go_wp2_with fail
    go_meet
    case rel =>
      refine ⟨_, .slice aq l2 cq, rfl, ?_, ?_⟩
      · have := HNEW.out wa wb (.slice aq l2 cq) (own_mono hq (Nat.le_trans HB.out.size hS0.size)) hb4 (Nat.le_trans HB.out.size hD3.size)
        rw [HNX.out] at this
        exact this
      · exact HB.out.trans ((belR_al hD4).mono HB.out.size)
  case rest =>
    obtain ⟨g, vc, rfl, h1, h2⟩ := hcut
    go_wp2_with fail
    go_ret
    exact ⟨_, _, rfl, h1.out, h2.out⟩
end Go.Proofs.Ytcikofhbfncgdaa
