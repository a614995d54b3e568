/-
  impl's register run as a place in memory: what keeps it, a field or a register stored, its memory of cells.
-/
import Derived.Test.YtcikofhbfncgdaaRgI8m
import Derived.Test.YtcikofhbfncgdaaOps
namespace Go.Proofs.Ytcikofhbfncgdaa
open Go.RowKit
set_option linter.unusedVariables false
/-- blocks that stay as they are -/
abbrev Kept := List (Nat × Obj)
variable {Ks : Kept}

/-- impl's run, in block p -/
def RunJ (Ks : Kept) (B : Nat) (w : World) (p : Nat) (m : SM) : Prop := ∃ cv, RunRI B w p m cv ∧ ∀ x ∈ Ks, w.heap[x.1]? = some x.2 ∧ x.1 ≠ p ∧ cv.ownBlock ≠ some x.1
theorem RunJ.lt {B p : Nat} {w : World} {m : SM} (h : RunJ Ks B w p m) : B ≤ p ∧ p < w.heap.size := by
  obtain ⟨cv, h, -⟩ := h
  exact ⟨h.gB, (Array.getElem?_eq_some_iff.1 h.row).1⟩
theorem RunJ.rl {B p : Nat} {w : World} {m : SM} (h : RunJ Ks B w p m) : m.stk.length = 24 := by
  obtain ⟨cv, h, -⟩ := h
  exact h.rl
theorem RunJ.kept {B p : Nat} {w w' : World} {m : SM} (h : RunJ Ks B w p m) (hb : Below w.heap.size w w') : RunJ Ks B w' p m := by
  obtain ⟨cv, h, hk⟩ := h
  exact ⟨cv, ⟨blk8 h.row hb, own_kept h.cs hb, h.gB, h.d, h.rl⟩, fun x hx => ⟨(hb.block _ (Array.getElem?_eq_some_iff.1 (hk x hx).1).1).trans (hk x hx).1, (hk x hx).2⟩⟩
theorem RunJ.heap {B p : Nat} {w w' : World} {m : SM} (h : RunJ Ks B w p m) (e : w'.heap = w.heap) : RunJ Ks B w' p m := by
  obtain ⟨cv, h, hk⟩ := h
  exact ⟨cv, ⟨by rw [e]; exact h.row, own_other h.cs (fun g _ => by rw [e]), h.gB, h.d, h.rl⟩, fun x hx => by rw [e]; exact hk x hx⟩
theorem RunRI.cells {B p : Nat} {w : World} {m : SM} {cv : Value} (h : RunRI B w p m cv) :
    w.cell? ⟨p, 0, none⟩ = some cv ∧ w.cell? ⟨p, 1, none⟩ = some (.int .i64 m.pc) ∧ w.cell? ⟨p, 2, none⟩ = some (.int .i64 m.sig) ∧ w.cell? ⟨p, 3, none⟩ = some (.int .i64 m.used) ∧ w.cell? ⟨p, 4, none⟩ = some (.int .i64 m.trap) ∧ w.cell? ⟨p, 5, none⟩ = some (.bool m.done) :=
  ⟨cell_of_row _ _ 0 _ _ _ h.row, cell_of_row _ _ 1 _ _ _ h.row, cell_of_row _ _ 2 _ _ _ h.row, cell_of_row _ _ 3 _ _ _ h.row, cell_of_row _ _ 4 _ _ _ h.row, cell_of_row _ _ 5 _ _ _ h.row⟩
theorem lineRR_reg {m : SM} {cv : Value} {k : Nat} (hk : k < m.stk.length) : (lineRR m cv)[6 + k]? = some (.int .i64 (m.stk.getD k 0)) := by
  simp only [List.getElem?_toArray]
  rw [show 6 + k = k + 6 from by omega]
  show (m.stk.map (Value.int .i64))[k]? = _
  rw [List.getElem?_map, List.getElem?_eq_getElem hk, List.getD_eq_getElem?_getD, List.getElem?_eq_getElem hk]; rfl
theorem RunRI.reg {B p : Nat} {w : World} {m : SM} {cv : Value} (h : RunRI B w p m cv) {k : Nat} (hk : k < 24) : w.cell? ⟨p, 6 + k, none⟩ = some (.int .i64 (m.stk.getD k 0)) := by
  rw [cell_of_row _ _ _ _ _ _ h.row]
  exact lineRR_reg (by rw [h.rl]; exact hk)
theorem RunRI.froz {B p : Nat} {w : World} {m : SM} {cv : Value} (h : RunRI B w p m cv) (k : Nat) : w.frozen? ⟨p, k, none⟩ = false := frozen_of_row _ _ k _ _ h.row
theorem RunJ.fld {B p : Nat} {w : World} {m m' : SM} (h : RunJ Ks B w p m) (i : Nat) (v : Value) (hf : ∀ cv, (lineRR m cv).setIfInBounds i v = lineRR m' cv) (e1 : m'.stk.length = m.stk.length) (e2 : m'.cells = m.cells) : RunJ Ks B (w.setCell ⟨p, i, none⟩ v) p m' := by
  obtain ⟨cv, h, hk⟩ := h
  refine ⟨cv, ⟨?_, ?_, h.gB, h.d, by rw [e1]; exact h.rl⟩, fun x hx => ⟨(heap_setCell_other _ _ _ _ (hk x hx).2.1).trans (hk x hx).1, (hk x hx).2⟩⟩
  · have := heap_setCell_same w p i _ _ v h.row
    rw [hf cv] at this
    exact this
  · rw [e2]
    exact own_other h.cs (fun g hg => heap_setCell_other _ _ _ _ (fun e => h.d (by rw [hg, e])))
theorem lineRR_pc (m : SM) (x : Int) (cv : Value) : (lineRR m cv).setIfInBounds 1 (.int .i64 x) = lineRR { m with pc := x } cv := by simp [lineRR]
theorem lineRR_sig (m : SM) (x : Int) (cv : Value) : (lineRR m cv).setIfInBounds 2 (.int .i64 x) = lineRR { m with sig := x } cv := by simp [lineRR]
theorem lineRR_used (m : SM) (x : Int) (cv : Value) : (lineRR m cv).setIfInBounds 3 (.int .i64 x) = lineRR { m with used := x } cv := by simp [lineRR]
theorem lineRR_trap (m : SM) (x : Int) (cv : Value) : (lineRR m cv).setIfInBounds 4 (.int .i64 x) = lineRR { m with trap := x } cv := by simp [lineRR]
theorem lineRR_done (m : SM) (x : Bool) (cv : Value) : (lineRR m cv).setIfInBounds 5 (.bool x) = lineRR { m with done := x } cv := by simp [lineRR]
theorem lineRR_str (m : SM) (k : Nat) (x : Int) (cv : Value) : (lineRR m cv).setIfInBounds (6 + k) (.int .i64 x) = lineRR { m with stk := m.stk.set k x } cv := by
  rw [show 6 + k = k + 6 from by omega]
  simp [lineRR, List.map_set]
theorem RunJ.pc {B p : Nat} {w : World} {m : SM} (h : RunJ Ks B w p m) (x : Int) : RunJ Ks B (w.setCell ⟨p, 1, none⟩ (.int .i64 x)) p { m with pc := x } := h.fld 1 _ (lineRR_pc m x) rfl rfl
theorem RunJ.sig {B p : Nat} {w : World} {m : SM} (h : RunJ Ks B w p m) (x : Int) : RunJ Ks B (w.setCell ⟨p, 2, none⟩ (.int .i64 x)) p { m with sig := x } := h.fld 2 _ (lineRR_sig m x) rfl rfl
theorem RunJ.used {B p : Nat} {w : World} {m : SM} (h : RunJ Ks B w p m) (x : Int) : RunJ Ks B (w.setCell ⟨p, 3, none⟩ (.int .i64 x)) p { m with used := x } := h.fld 3 _ (lineRR_used m x) rfl rfl
theorem RunJ.trap {B p : Nat} {w : World} {m : SM} (h : RunJ Ks B w p m) (x : Int) : RunJ Ks B (w.setCell ⟨p, 4, none⟩ (.int .i64 x)) p { m with trap := x } := h.fld 4 _ (lineRR_trap m x) rfl rfl
theorem RunJ.done {B p : Nat} {w : World} {m : SM} (h : RunJ Ks B w p m) (x : Bool) : RunJ Ks B (w.setCell ⟨p, 5, none⟩ (.bool x)) p { m with done := x } := h.fld 5 _ (lineRR_done m x) rfl rfl
theorem RunJ.reg {B p : Nat} {w : World} {m : SM} (h : RunJ Ks B w p m) (k : Nat) (x : Int) : RunJ Ks B (w.setCell ⟨p, 6 + k, none⟩ (.int .i64 x)) p { m with stk := m.stk.set k x } :=
  h.fld (6 + k) _ (lineRR_str m k x) List.length_set rfl

set_option maxHeartbeats 1600000 in
theorem rload_any (B p : Nat) (m : SM) (k : Nat) (w : World) (h : RunJ Ks B w p m) (hk : k < m.cells.length) (hl : m.cells.length ≤ 80) :
    Calls Try.prog 132 #[.pointer (some ⟨p, 0, none⟩), .int .i64 k] w fun e w' => e = .returned (.int .i64 (m.cells.getD k 0)) ∧ w' = w := by
  obtain ⟨cv, h, hk9⟩ := h
  obtain ⟨a, c, rfl⟩ := own_shape h.cs
  have hn := (nums_of_own h.cs).2
  rcases hn with hn | ⟨b, off, rfl, hcc⟩
  · rw [hn] at hk; simp at hk
  have hcell := hcc k hk
  have c1 := h.cells.1
  clear h hcc hk9
  generalize m.cells.getD k 0 = t at *
  generalize m.cells.length = n at *
  have q0 : (0 : Int) ≤ (k : Int) := by omega
  have q1 : (k : Int) < (n : Int) := by omega
  go_enter Try.func132, Try.ntmps132
  go_wp2
  go_ret
  exact ⟨rfl, rfl⟩

set_option maxHeartbeats 1600000 in
theorem rstore_any (B p : Nat) (m : SM) (k : Nat) (x : Int) (w : World) (h : RunJ Ks B w p m) (hk : k < m.cells.length) (hl : m.cells.length ≤ 80) :
    Calls Try.prog 133 #[.pointer (some ⟨p, 0, none⟩), .int .i64 k, .int .i64 x] w fun e w' => e = .returned (.tuple #[]) ∧ RunJ Ks B w' p (sto m k x) ∧ Below B w w' := by
  obtain ⟨cv, h, hk9⟩ := h
  obtain ⟨a, c, rfl⟩ := own_shape h.cs
  obtain ⟨g, hg⟩ : ∃ g, a = some ⟨g, 0, none⟩ := by
    rcases h.cs.2 with ⟨h1, h2⟩ | ⟨g, c2, cur, h1, _⟩
    · omega
    · simp at h1; exact ⟨g, h1.1⟩
  subst hg
  have hdst := h.cs.cellAt k (by omega)
  have hfr := h.cs.frozenAt k
  obtain ⟨y, hy⟩ : ∃ y, w.cell? ⟨g, k, none⟩ = some y := by
    rw [hdst]; exact ⟨_, List.getElem?_eq_getElem (by simpa using hk)⟩
  have c1 := h.cells.1
  have HX : Hid (RunJ Ks B (w.setCell ⟨g, k, none⟩ (.int .i64 x)) p (sto m k x)) := by
    have hgp : p ≠ g := fun e => h.d (by rw [← e]; rfl)
    have hb2 : (w.setCell ⟨g, k, none⟩ (.int .i64 x)).heap[p]? = w.heap[p]? := heap_setCell_other _ _ _ _ hgp
    exact ⟨_, ⟨hb2.trans h.row, own_put h.cs x, h.gB, h.d, h.rl⟩, fun y hy => ⟨(heap_setCell_other _ _ _ _ (fun e => (hk9 y hy).2.2 (by rw [e]; rfl))).trans (hk9 y hy).1, (hk9 y hy).2⟩⟩
  have HB : Hid (Below B w (w.setCell ⟨g, k, none⟩ (.int .i64 x))) := (Below.refl _ _).setCell (h.cs.lt g rfl).1 _
  clear h hdst hk9
  generalize hn : m.cells.length = n at *
  clear hn
  have q0 : (0 : Int) ≤ (k : Int) := by omega
  have q1 : (k : Int) < (n : Int) := by omega
  go_enter Try.func133, Try.ntmps133
  go_wp2
  go_end0
  exact ⟨rfl, HX.out, HB.out⟩

set_option maxHeartbeats 1600000 in
theorem rcell_any (B p : Nat) (m : SM) (u : Int) (w : World) (h : RunJ Ks B w p m) (hl : m.cells.length ≤ 80) (hu : 0 ≤ u) :
    Calls Try.prog 128 #[.pointer (some ⟨p, 0, none⟩), .int .i64 u] w fun e w' => e = .returned (ir (cellC m.cells.length u) (cellV m.cells.length u)) ∧ Below w.heap.size w w' := by
  obtain ⟨cv, h, hk9⟩ := h
  obtain ⟨a, c, rfl⟩ := own_shape h.cs
  have c1 := h.cells.1
  have hp := (Array.getElem?_eq_some_iff.1 h.row).1
  have hne := World.new_ne w ⟨p, 0, none⟩ c1
  have HC : Hid (∀ n : Nat, cellC n u = (if u < n then 0 else 1) ∧ cellV n u = (if u < n then u else 0)) := fun n => ⟨rfl, rfl⟩
  clear h hk9
  generalize hn : m.cells.length = n at *
  clear hn
  have HI : Hid (∀ W, Calls Try.prog 67 #[.int .i64 u, .int .i64 0, .int .i64 (n - 1)] W fun e w' => e = .returned (.bool (inB u 0 (n - 1))) ∧ w' = W) := within_any u 0 (n - 1)
  by_cases hlt : u < n
  · have hq : inB u 0 ((n : Int) - 1) = true := inB_iff.2 ⟨hu, by omega⟩
    rw [hq] at HI
    rw [(HC.out n).1, (HC.out n).2, if_pos hlt, if_pos hlt]
    clear hq HC hlt
    go_enter Try.func128, Try.ntmps128
    go_wp2_with fail
    refine (HI.out _).mono ?_
    rintro e w1 ⟨rfl, rfl⟩
    go_wp2_with fail
    refine bodyPost_ret (v := ir 0 u) (by simp [results, Try.results128, go_sem]) rfl ⟨rfl, ?_⟩
    go_grown
  · have hq : inB u 0 ((n : Int) - 1) = false := inB_no.2 (by omega)
    rw [hq] at HI
    rw [(HC.out n).1, (HC.out n).2, if_neg hlt, if_neg hlt]
    clear hq HC hlt
    go_enter Try.func128, Try.ntmps128
    go_wp2_with fail
    refine (HI.out _).mono ?_
    rintro e w1 ⟨rfl, rfl⟩
    go_wp2_with fail
    refine bodyPost_ret (v := ir 1 0) (by simp [results, Try.results128, go_sem]) rfl ⟨rfl, ?_⟩
    go_grown

set_option maxHeartbeats 1600000 in
theorem ritem_any (B p : Nat) (m : SM) (f s i : Int) (w : World) (h : RunJ Ks B w p m) (hl : m.cells.length ≤ 80) (hf0 : 0 ≤ f) (hf1 : f ≤ 65535) (hs0 : 0 ≤ s) (hs1 : s ≤ 65535) :
    Calls Try.prog 129 #[.pointer (some ⟨p, 0, none⟩), .int .i64 f, .int .i64 s, .int .i64 i] w fun e w' => e = .returned (ir (itC m.cells.length f s i) (itV m.cells.length f s i)) ∧ Below w.heap.size w w' := by
  have HA : Hid (∀ W, Calls Try.prog 158 #[.int .i64 f, .int .i64 s, .int .i64 i] W fun e w' => e = .returned (ir (if inB (sg i) 0 (s - 1) then 0 else 3) (if inB (sg i) 0 (s - 1) then f + sg i else 0)) ∧ Below W.heap.size W w') := fun W => cellAt_any f s i W hf0 hf1 hs0 hs1
  have h1 := sg_lo i
  have h2 := sg_hi i
  have HE : Hid (∀ n : Nat, (itC n f s i = if inB (sg i) 0 (s - 1) then (if f + sg i < n then 0 else 1) else 3) ∧ (itV n f s i = if itC n f s i = 0 then f + sg i else 0)) := fun n => ⟨rfl, rfl⟩
  have HR : Hid (RunJ Ks B w p m) := h
  have hB0 : Below w.heap.size w (w.alloc (.cells #[.int .i64 0, .int .i64 0] 61)) := (Below.refl _ _).alloc (Nat.le_refl _) _
  have hN0 := heap_alloc_new w (.cells #[.int .i64 0, .int .i64 0] 61)
  have HB0 : Hid (Below w.heap.size w (w.alloc (.cells #[.int .i64 0, .int .i64 0] 61))) := hB0
  have HN0 : Hid ((w.alloc (.cells #[.int .i64 0, .int .i64 0] 61)).heap[w.heap.size]? = some (.cells #[.int .i64 0, .int .i64 0] 61 (0, 0))) := hN0
  clear h hB0 hN0
  generalize sg i = k at *
  cases hq : inB k 0 (s - 1)
  · have e3 : Hid (∀ n : Nat, itC n f s i = 3 ∧ itV n f s i = 0) := fun n => by
      have e : itC n f s i = 3 := by rw [(HE.out n).1, hq, if_neg (by simp)]
      exact ⟨e, by rw [(HE.out n).2, e, if_neg (by omega)]⟩
    rw [hq, if_neg (by simp), if_neg (by simp)] at HA
    rw [(e3.out _).1, (e3.out _).2]
    clear HE hq e3
    go_enter Try.func129, Try.ntmps129
    go_wp2_with fail
    generalize w.alloc (.cells #[.int .i64 0, .int .i64 0] 61) = W at *
    refine (HA.out _).mono ?_
    rintro e w1 ⟨rfl, hb⟩
    have hN1 := blk8 HN0.out hb
    have HB1 : Hid (Below w.heap.size w w1) := HB0.out.trans (hb.mono HB0.out.size)
    have hlt : w.heap.size < w1.heap.size := (Array.getElem?_eq_some_iff.1 hN1).1
    clear hb HB0 HN0 HA HR
    go_upto_region 3 with fail
    have a1 := heap_alloc_new w1 (.cells #[.int .i64 3, .int .i64 0] 61)
    have b1 : Below w1.heap.size w1 (w1.alloc (.cells #[.int .i64 3, .int .i64 0] 61)) := (Below.refl _ _).alloc (Nat.le_refl _) _
    have hN2 := blk8 hN1 b1
    have HB2 : Hid (Below w.heap.size w (w1.alloc (.cells #[.int .i64 3, .int .i64 0] 61))) := HB1.out.trans (b1.mono (by omega))
    clear hN1 HB1 b1
    generalize w1.alloc (.cells #[.int .i64 3, .int .i64 0] 61) = W2 at *
    have r0 := cell_of_row _ _ 0 _ _ _ hN2
    have f0 := frozen_of_row _ _ 0 _ _ hN2
    have r1 := cell_of_row _ _ 1 _ _ _ hN2
    have f1 := frozen_of_row _ _ 1 _ _ hN2
    have q0 := cell_of_row _ _ 0 _ _ _ a1
    have q1 := cell_of_row _ _ 1 _ _ _ a1
    simp at r0 r1 f0 f1 q0 q1
    go_wp2_with fail
    refine bodyPost_ret (v := ir 3 0) (by simp [results, Try.results129, go_sem, r0, r1]) rfl ⟨rfl, ?_⟩
    exact (HB2.out.setCell (Nat.le_refl _) _).setCell (Nat.le_refl _) _
  · have hk := inB_iff.1 hq
    rw [hq, if_pos rfl, if_pos rfl] at HA
    have HCE : Hid (∀ n : Nat, itC n f s i = cellC n (f + k) ∧ itV n f s i = cellV n (f + k)) := fun n => by
      have e : itC n f s i = cellC n (f + k) := by rw [(HE.out n).1, hq, if_pos rfl]; rfl
      refine ⟨e, ?_⟩
      rw [(HE.out n).2, e]
      unfold cellC cellV
      by_cases h : f + k < n
      · rw [if_pos h, if_pos rfl, if_pos h]
      · rw [if_neg h, if_neg (by omega), if_neg h]
    rw [(HCE.out _).1, (HCE.out _).2]
    have HCL : Hid (∀ W, RunJ Ks B W p m → Calls Try.prog 128 #[.pointer (some ⟨p, 0, none⟩), .int .i64 (f + k)] W fun e w' => e = .returned (ir (cellC m.cells.length (f + k)) (cellV m.cells.length (f + k))) ∧ Below W.heap.size W w') := fun W hr => rcell_any B p m (f + k) W hr hl (by omega)
    clear HE hq HCE
    generalize cellC m.cells.length (f + k) = C at *
    generalize cellV m.cells.length (f + k) = V at *
    go_enter Try.func129, Try.ntmps129
    go_wp2_with fail
    generalize w.alloc (.cells #[.int .i64 0, .int .i64 0] 61) = W at *
    refine (HA.out _).mono ?_
    rintro e w1 ⟨rfl, hb⟩
    have hN1 := blk8 HN0.out hb
    have HB1 : Hid (Below w.heap.size w w1) := HB0.out.trans (hb.mono HB0.out.size)
    have HR1 : Hid (RunJ Ks B w1 p m) := HR.out.kept HB1.out
    have hlt : w.heap.size < w1.heap.size := (Array.getElem?_eq_some_iff.1 hN1).1
    clear hb HB0 HN0 HA HR
    have a1 := heap_alloc_new w1 (.cells #[.int .i64 0, .int .i64 (f + k)] 61)
    have b1 : Below w1.heap.size w1 (w1.alloc (.cells #[.int .i64 0, .int .i64 (f + k)] 61)) := (Below.refl _ _).alloc (Nat.le_refl _) _
    have HR2 : Hid (RunJ Ks B (w1.alloc (.cells #[.int .i64 0, .int .i64 (f + k)] 61)) p m) := HR1.out.kept b1
    have hN2 := blk8 hN1 b1
    have HB2 : Hid (Below w.heap.size w (w1.alloc (.cells #[.int .i64 0, .int .i64 (f + k)] 61))) := HB1.out.trans (b1.mono (by omega))
    clear hN1 HB1 HR1 a1 b1
    go_wp2_with fail
    generalize w1.alloc (.cells #[.int .i64 0, .int .i64 (f + k)] 61) = W2 at *
    refine (HCL.out _ HR2.out).mono ?_
    rintro e w3 ⟨rfl, hb⟩
    have hN3 := blk8 hN2 hb
    have HB3 : Hid (Below w.heap.size w w3) := HB2.out.trans (hb.mono HB2.out.size)
    clear hb HB2 HR2 hN2 HCL
    have r0 := cell_of_row _ _ 0 _ _ _ hN3
    have f0 := frozen_of_row _ _ 0 _ _ hN3
    have r1 := cell_of_row _ _ 1 _ _ _ hN3
    have f1 := frozen_of_row _ _ 1 _ _ hN3
    simp at r0 r1 f0 f1
    go_wp2_with fail
    refine bodyPost_ret (v := ir C V) (by simp [results, Try.results129, go_sem, r0, r1]) rfl ⟨rfl, ?_⟩
    exact (HB3.out.setCell (Nat.le_refl _) _).setCell (Nat.le_refl _) _
end Go.Proofs.Ytcikofhbfncgdaa
