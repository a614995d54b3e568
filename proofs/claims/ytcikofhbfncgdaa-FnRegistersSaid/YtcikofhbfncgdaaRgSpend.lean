/-
  impl's spend: the run goes on till it ends or the budget is spent; rounds that it goes again are counted.
-/
import Derived.Test.YtcikofhbfncgdaaSStk1
import Derived.Test.YtcikofhbfncgdaaRgCopy
import Derived.Test.YtcikofhbfncgdaaRgStands
import Derived.BigRegion
namespace Go.Proofs.Ytcikofhbfncgdaa
open Go.RowKit
set_option linter.unusedVariables false

/-- Used further on -/
def shU (m : SM) (k : Int) : SM := { m with used := m.used + k }
theorem shU_shU (m : SM) (j k : Int) : shU (shU m j) k = shU m (j + k) := by
  unfold shU
  simp only [Int.add_assoc]
theorem shU_0 (m : SM) : shU m 0 = m := by
  unfold shU
  rw [Int.add_zero]
theorem goes_sh (m : SM) (k : Int) : goes (shU m k) = goes m := rfl
theorem usedM_sh {m : SM} {k : Int} (h1 : m.used + 1 ≤ 1000000) (h2 : m.used + k + 1 ≤ 1000000) : usedM (shU m k) = shU (usedM m) k := by
  have e1 : usedM m = { m with used := m.used + 1 } := by unfold usedM; rw [if_pos h1]
  have e2 : usedM (shU m k) = { m with used := m.used + k + 1 } := by unfold usedM; rw [if_pos (show (shU m k).used + 1 ≤ 1000000 from h2)]; rfl
  rw [e1, e2]
  unfold shU
  simp only [SM.mk.injEq, true_and, and_true]
  omega
theorem doR_sh (op a b t : Int) (m : SM) (k : Int) : doR op a b t (shU m k) = shU (doR op a b t m) k := by
  unfold doR
  by_cases h1 : op = 1
  · rw [if_pos h1, if_pos h1]; rfl
  rw [if_neg h1, if_neg h1]
  by_cases h2 : op = 2
  · rw [if_pos h2, if_pos h2]; rfl
  rw [if_neg h2, if_neg h2]
  by_cases h3 : op = 3
  · rw [if_pos h3, if_pos h3]; rfl
  rw [if_neg h3, if_neg h3]
  by_cases h4 : op = 4
  · rw [if_pos h4, if_pos h4]; rfl
  rw [if_neg h4, if_neg h4]
  by_cases h5 : op = 5
  · rw [if_pos h5, if_pos h5]; rfl
  rw [if_neg h5, if_neg h5]
  by_cases h6 : op = 6
  · rw [if_pos h6, if_pos h6]; rfl
  rw [if_neg h6, if_neg h6]
  by_cases h7 : op = 7
  · rw [if_pos h7, if_pos h7]; rfl
  rw [if_neg h7, if_neg h7]
  by_cases h8 : op = 8
  · rw [if_pos h8, if_pos h8]; rfl
  rw [if_neg h8, if_neg h8]
  by_cases h9 : op = 9
  · rw [if_pos h9, if_pos h9]; rfl
  rw [if_neg h9, if_neg h9]
  by_cases h10 : op = 10
  · rw [if_pos h10, if_pos h10]; rfl
  rw [if_neg h10, if_neg h10]
  by_cases h11 : op = 11
  · rw [if_pos h11, if_pos h11]; rfl
  rw [if_neg h11, if_neg h11]
  by_cases h12 : op = 12
  · rw [if_pos h12, if_pos h12]; rfl
  rw [if_neg h12, if_neg h12]
  rfl
theorem goR_sh (op a b c d nx : Int) {m : SM} {k : Int} (h1 : m.used + 1 ≤ 1000000) (h2 : m.used + k + 1 ≤ 1000000) : goR op a b c d nx (shU m k) = shU (goR op a b c d nx m) k := by
  have eU := usedM_sh h1 h2
  have eT : toldRC op a b c d (shU m k) = toldRC op a b c d m := rfl
  have eV : toldRV op a b c d (shU m k) = toldRV op a b c d m := rfl
  unfold goR
  rw [eT, eV, eU]
  by_cases hh : hasR op a b c m.cells.length = false
  · rw [if_pos (show hasR op a b c (shU m k).cells.length = false from hh), if_pos hh]; rfl
  rw [if_neg (show ¬ hasR op a b c (shU m k).cells.length = false from hh), if_neg hh]
  by_cases ht : toldRC op a b c d m ≠ 0
  · rw [if_pos ht, if_pos ht]; rfl
  rw [if_neg ht, if_neg ht]
  exact doR_sh op a b _ (atP (usedM m) nx) k
theorem stepRL_sh (zs : List Int) {m : SM} {k : Int} (h1 : m.used + 1 ≤ 1000000) (h2 : m.used + k + 1 ≤ 1000000) : stepRL zs (shU m k) = shU (stepRL zs m) k := by
  have eU := usedM_sh h1 h2
  have eP : (shU m k).pc = m.pc := rfl
  unfold stepRL
  rw [eP]
  by_cases hr : readyR zs m.pc = false
  · rw [if_pos hr, if_pos hr, eU]; rfl
  rw [if_neg hr, if_neg hr]
  exact goR_sh _ _ _ _ _ _ h1 h2
/-- so many steps of a machine that goes on within the budget -/
inductive Path (zs : List Int) (b : Int) : Nat → SM → SM → Prop
  | refl (m : SM) : Path zs b 0 m m
  | step {n : Nat} {m m' : SM} (h : goes m = true) (h2 : m.used < b) (h3 : Path zs b n (stepRL zs m) m') : Path zs b (n + 1) m m'
theorem Path.snoc {zs : List Int} {b : Int} {n : Nat} {s m : SM} (h : Path zs b n s m) (hg : goes m = true) (hu : m.used < b) : Path zs b (n + 1) s (stepRL zs m) := by
  induction h with
  | refl m => exact .step hg hu (.refl _)
  | step h h2 _ ih => exact .step h h2 (ih hg hu)
theorem Path.trans {zs : List Int} {b : Int} {n k : Nat} {s m r : SM} (h : Path zs b n s m) (h2 : Path zs b k m r) : Path zs b (k + n) s r := by
  induction h with
  | refl m => exact h2
  | step g g2 _ ih => exact .step g g2 (ih h2)
theorem Path.ends {zs : List Int} {b : Int} {n : Nat} {s m r : SM} (h : Path zs b n s m) (hr : REnds zs b m r) : REnds zs b s r := by
  induction h with
  | refl m => exact hr
  | step g g2 _ ih => exact .step g g2 (ih hr)
theorem Path.used {zs : List Int} {b : Int} {n : Nat} {s m : SM} (h : Path zs b n s m) (hb : b ≤ 20000) (h0 : 0 ≤ s.used) : m.used = s.used + n := by
  induction h with
  | refl m => simp
  | @step n m m' g g2 _ ih =>
    have hu := usedM_more h0 (by omega)
    have e : (stepRL zs m).used = m.used + 1 := by rw [stepL_usedG, hu]
    have := ih (by omega)
    omega
theorem Path.sh {zs : List Int} {b : Int} {n : Nat} {s m : SM} (h : Path zs b n s m) (hb : b ≤ 20000) (h0 : 0 ≤ s.used) (k : Int) (hk : 0 ≤ k) (hm : m.used + k ≤ b) : Path zs b n (shU s k) (shU m k) := by
  induction h with
  | refl m => exact .refl _
  | @step n m m' g g2 h3 ih =>
    have hu := usedM_more h0 (by omega)
    have e : (stepRL zs m).used = m.used + 1 := by rw [stepL_usedG, hu]
    have hm2 := h3.used hb (by omega)
    refine .step g (by show m.used + k < b; omega) ?_
    rw [stepRL_sh zs (by omega) (by omega)]
    exact ih (by omega) hm
/-- rounds that are counted -/
theorem Path.many {zs : List Int} {b : Int} {n : Nat} {s m : SM} (h : Path zs b n s m) (hb : b ≤ 20000) (h0 : 0 ≤ s.used) (he : m = shU s n) (q : Nat) (hq : m.used + (q : Int) * n ≤ b) : Path zs b (q * n) m (shU m ((q : Int) * n)) := by
  induction q with
  | zero =>
    rw [show ((0 : Nat) : Int) * (n : Int) = 0 from by simp, shU_0, Nat.zero_mul]
    exact .refl _
  | succ q ih =>
    have e : ((q + 1 : Nat) : Int) * (n : Int) = (q : Int) * n + n := by rw [Int.natCast_succ, Int.add_mul, Int.one_mul]
    rw [e] at hq ⊢
    have hn : (0 : Int) ≤ (q : Int) * n := Int.mul_nonneg (by omega) (by omega)
    have h1 := ih (by omega)
    have h2 := h.sh hb h0 ((n : Int) + (q : Int) * n) (by omega) (by omega)
    rw [← shU_shU s, ← he, Int.add_comm (n : Int)] at h2
    have := h1.trans h2
    rw [show (q + 1) * n = n + q * n from by rw [Nat.succ_mul, Nat.add_comm]]
    exact this
theorem shU_good {m : SM} (h : RGood m) {k : Int} (h0 : 0 ≤ m.used + k) (h1 : m.used + k ≤ 1000000) : RGood (shU m k) := ⟨h.pc0, h.pc1, h.sig0, h.sig1, h.stk, h.cells, h0, h1, h.trap0, h.trap1, h.rl, h.cl⟩
theorem same_sh {m s : SM} (h1 : m.pc = s.pc) (h2 : m.sig = s.sig) (h3 : m.trap = s.trap) (h4 : m.done = s.done) (h5 : m.stk = s.stk) (h6 : m.cells = s.cells) : m = shU s (m.used - s.used) := by
  obtain ⟨a, b, c, d, e, f, g⟩ := m
  obtain ⟨a', b', c', d', e', f', g'⟩ := s
  simp only at h1 h2 h3 h4 h5 h6
  subst h1 h2 h3 h4 h5 h6
  unfold shU
  simp only [SM.mk.injEq, true_and, and_true]
  omega
end Go.Proofs.Ytcikofhbfncgdaa
namespace Go.Proofs.Ytcikofhbfncgdaa
open Go.RowKit
set_option linter.unusedVariables false

/-- the run cur in block p, what it was (s) in block g6 with the cells cvs -/
def Stood (B : Nat) (W : World) (p g6 : Nat) (cur s : SM) (cvs : Value) : Prop :=
  ∃ (Ks : Kept) (C : Nat), RunJ Ks B W p cur ∧ (g6, Obj.cells (lineRR s cvs) 96 (0, 0)) ∈ Ks ∧ Own W C cvs s.cells ∧ ∀ g, cvs.ownBlock = some g → ∃ o, (g, o) ∈ Ks
theorem stood_new {B C p g6 : Nat} {W : World} {cur s : SM} {cv cvs : Value} (h : RunRI B W p cur cv) (hg : W.heap[g6]? = some (.cells (lineRR s cvs) 96 (0, 0))) (hg1 : g6 ≠ p) (hg2 : cv.ownBlock ≠ some g6) (ho : Own W C cvs s.cells) (hC : p < C) (hC2 : ∀ g, cv.ownBlock = some g → g < C) : Stood B W p g6 cur s cvs := by
  cases hq : cvs.ownBlock with
  | none => exact ⟨[(g6, Obj.cells (lineRR s cvs) 96 (0, 0))], C, ⟨cv, h, fun x hx => by
      rcases List.mem_singleton.1 hx with rfl
      exact ⟨hg, hg1, hg2⟩⟩, List.mem_singleton.2 rfl, ho, fun g hgg => by rw [hq] at hgg; cases hgg⟩
  | some q =>
    have hl := ho.lt q hq
    have hqo : W.heap[q]? = some (W.heap[q]'hl.2) := Array.getElem?_eq_getElem hl.2
    refine ⟨[(g6, Obj.cells (lineRR s cvs) 96 (0, 0)), (q, W.heap[q]'hl.2)], C, ⟨cv, h, fun x hx => ?_⟩, List.mem_cons_self, ho, fun g hgg => ?_⟩
    · rcases List.mem_cons.1 hx with rfl | hx
      · exact ⟨hg, hg1, hg2⟩
      · rcases List.mem_singleton.1 hx with rfl
        exact ⟨hqo, by show q ≠ p; omega, fun e => by have := hC2 q e; omega⟩
    · rw [hq] at hgg
      cases hgg
      exact ⟨_, List.mem_cons_of_mem _ (List.mem_singleton.2 rfl)⟩
theorem Stood.run {B p g6 : Nat} {W : World} {cur s : SM} {cvs : Value} (h : Stood B W p g6 cur s cvs) : ∃ cv, RunRI B W p cur cv ∧ cv.ownBlock ≠ some g6 := by
  obtain ⟨Ks, C, ⟨cv, h1, hk⟩, h2, _⟩ := h
  exact ⟨cv, h1, (hk _ h2).2.2⟩
theorem Stood.row {B p g6 : Nat} {W : World} {cur s : SM} {cvs : Value} (h : Stood B W p g6 cur s cvs) : W.heap[g6]? = some (.cells (lineRR s cvs) 96 (0, 0)) ∧ g6 ≠ p := by
  obtain ⟨Ks, C, ⟨cv, h1, hk⟩, h2, _⟩ := h
  exact ⟨(hk _ h2).1, (hk _ h2).2.1⟩
theorem Stood.rowV {B p g6 : Nat} {W : World} {cur s : SM} {cvs : Value} (h : Stood B W p g6 cur s cvs) : RowV W cvs s.cells := by
  obtain ⟨Ks, C, _, _, h3, _⟩ := h
  exact own_row h3
theorem Stood.lt {B p g6 : Nat} {W : World} {cur s : SM} {cvs : Value} (h : Stood B W p g6 cur s cvs) : B ≤ p ∧ p < W.heap.size := by
  obtain ⟨Ks, C, h1, _⟩ := h
  exact h1.lt
theorem Stood.by {B p g6 : Nat} {W W' : World} {cur cur' s : SM} {cvs : Value} {Ks : Kept} {C : Nat} (h1 : RunJ Ks B W p cur) (h2 : (g6, Obj.cells (lineRR s cvs) 96 (0, 0)) ∈ Ks) (h3 : Own W C cvs s.cells) (h4 : ∀ g, cvs.ownBlock = some g → ∃ o, (g, o) ∈ Ks) (h : RunJ Ks B W' p cur') : Stood B W' p g6 cur' s cvs := by
  refine ⟨Ks, C, h, h2, own_other h3 (fun g hg => ?_), h4⟩
  obtain ⟨o, ho⟩ := h4 g hg
  obtain ⟨_, _, hk⟩ := h1
  obtain ⟨_, _, hk'⟩ := h
  exact (hk' _ ho).1.trans (hk _ ho).1.symm
theorem Stood.below {B p g6 : Nat} {W W' : World} {cur s : SM} {cvs : Value} (h : Stood B W p g6 cur s cvs) (hb : Below W.heap.size W W') : Stood B W' p g6 cur s cvs := by
  obtain ⟨Ks, C, h1, h2, h3, h4⟩ := h
  exact Stood.by h1 h2 h3 h4 (h1.kept hb)
theorem Stood.heap {B p g6 : Nat} {W W' : World} {cur s : SM} {cvs : Value} (h : Stood B W p g6 cur s cvs) (e : W'.heap = W.heap) : Stood B W' p g6 cur s cvs := by
  obtain ⟨Ks, C, h1, h2, h3, h4⟩ := h
  exact Stood.by h1 h2 h3 h4 (h1.heap e)
theorem Stood.used {B p g6 : Nat} {W : World} {cur s : SM} {cvs : Value} (h : Stood B W p g6 cur s cvs) (x : Int) : Stood B (W.setCell ⟨p, 3, none⟩ (.int .i64 x)) p g6 { cur with used := x } s cvs := by
  obtain ⟨Ks, C, h1, h2, h3, h4⟩ := h
  exact Stood.by h1 h2 h3 h4 (h1.used x)
theorem Stood.runJ {B p g6 : Nat} {W : World} {cur s : SM} {cvs : Value} (h : Stood B W p g6 cur s cvs) : RunJ [] B W p cur := by
  obtain ⟨Ks, C, ⟨cv, h1, _⟩, _⟩ := h
  exact ⟨cv, h1, fun x hx => by cases hx⟩
/-- a step, beside the copy -/
theorem Stood.step {B p g6 : Nat} {W : World} {cur s : SM} {cvs : Value} (h : Stood B W p g6 cur s cvs) (zs : List Int) (a : Option Addr) (c : Nat) (hg : RGood cur) (hn : Nums W a zs) (hB : ∀ b off, a = some ⟨b, off, none⟩ → b < B) (hl : zs.length ≤ 400) (hc : zs.length ≤ c) (hw : wordsB zs = true) :
    Calls Try.prog 74 #[.pointer (some ⟨p, 0, none⟩), .slice a zs.length c] W fun e w' => e = .returned (.tuple #[]) ∧ Stood B w' p g6 (stepRL zs cur) s cvs ∧ Below B W w' := by
  obtain ⟨Ks, C, h1, h2, h3, h4⟩ := h
  exact (istepR_any B p cur zs a c W h1 hg hn hB hl hc hw).mono fun e w' ⟨e1, e2, e3⟩ => ⟨e1, Stood.by h1 h2 h3 h4 e2, e3⟩
/-- a new copy is put into the block of the old one -/
theorem Stood.again {B p g6 : Nat} {W W' : World} {cur s : SM} {cvs v : Value} (h : Stood B W p g6 cur s cvs) (hb : Below W.heap.size W W') (ho : Own W' W.heap.size v cur.cells) : Stood B (W'.setRow g6 (lineRR cur v)) p g6 cur cur v := by
  obtain ⟨cv, hr, hne⟩ := h.run
  have hrow := h.row
  have hlt := h.lt
  have hg6 : g6 < W.heap.size := (Array.getElem?_eq_some_iff.1 hrow.1).1
  have hcl : ∀ g, cv.ownBlock = some g → g < W.heap.size := fun g hg => (hr.cs.lt g hg).2
  refine stood_new (C := W.heap.size) (cv := cv) ⟨?_, ?_, hr.gB, hr.d, hr.rl⟩ (setRow_heap _ _ _ _ _ _ (blk8 hrow.1 hb)) hrow.2 hne (own_other ho (fun g hg => setRow_other _ _ _ _ (by have := (ho.lt g hg).1; omega))) hlt.2 hcl
  · rw [setRow_other _ _ _ _ (Ne.symm hrow.2)]
    exact blk8 hr.row hb
  · exact own_other (own_kept hr.cs hb) (fun g hg => setRow_other _ _ _ _ (fun e => hne (by rw [hg, e])))
end Go.Proofs.Ytcikofhbfncgdaa
namespace Go.Proofs.Ytcikofhbfncgdaa
open Go.RowKit
set_option linter.unusedVariables false
attribute [local go_sem ↓] Go.wp_at_zero Go.wp_at_succ

/-- what the loop carries -/
structure SpW (zs : List Int) (b : Int) (w W : World) (B p g6 : Nat) (M cur s : SM) (cvs : Value) (n : Nat) : Prop where
  st : Stood B W p g6 cur s cvs
  good : RGood cur
  ends : ∀ r, REnds zs b cur r → REnds zs b M r
  path : Path zs b n s cur
  s0 : 0 ≤ s.used
  sgood : RGood s
  ub : cur.used ≤ b
  b : Below B w W
theorem SpW.below {zs : List Int} {b : Int} {w W W' : World} {B p g6 : Nat} {M cur s : SM} {cvs : Value} {n : Nat} (h : SpW zs b w W B p g6 M cur s cvs n) (hb : Below W.heap.size W W') : SpW zs b w W' B p g6 M cur s cvs n :=
  ⟨h.st.below hb, h.good, h.ends, h.path, h.s0, h.sgood, h.ub, h.b.trans (hb.mono (by have := h.st.lt; omega))⟩
theorem SpW.drewN {zs : List Int} {b : Int} {w W : World} {B p g6 : Nat} {M cur s : SM} {cvs : Value} {n : Nat} (h : SpW zs b w W B p g6 M cur s cvs n) : SpW zs b w W.drew B p g6 M cur s cvs n :=
  ⟨h.st.heap rfl, h.good, h.ends, h.path, h.s0, h.sgood, h.ub, h.b.drew⟩
theorem SpW.cells {zs : List Int} {b : Int} {w W : World} {B p g6 : Nat} {M cur s : SM} {cvs : Value} {n : Nat} (h : SpW zs b w W B p g6 M cur s cvs n) :
    W.cell? ⟨p, 1, none⟩ = some (.int .i64 cur.pc) ∧ W.cell? ⟨p, 2, none⟩ = some (.int .i64 cur.sig) ∧ W.cell? ⟨p, 3, none⟩ = some (.int .i64 cur.used) ∧ W.cell? ⟨p, 4, none⟩ = some (.int .i64 cur.trap) ∧ W.cell? ⟨p, 5, none⟩ = some (.bool cur.done) ∧ W.cell? ⟨g6, 3, none⟩ = some (.int .i64 s.used) ∧ W.frozen? ⟨p, 3, none⟩ = false ∧ W.frozen? ⟨p, 4, none⟩ = false := by
  obtain ⟨cv, hr, _⟩ := h.st.run
  have hg := row6 h.st.row.1
  exact ⟨hr.cells.2.1, hr.cells.2.2.1, hr.cells.2.2.2.1, hr.cells.2.2.2.2.1, hr.cells.2.2.2.2.2, hg.2.2.2.1, hr.froz 3, hr.froz 4⟩

set_option maxHeartbeats 6400000 in
set_option maxRecDepth 100000 in
theorem spend_any (B p : Nat) (M : SM) (zs : List Int) (a : Option Addr) (c : Nat) (b : Int) (w : World) (h : RunJ [] B w p M) (hg : RGood M) (hn : Nums w a zs) (hB : ∀ b off, a = some ⟨b, off, none⟩ → b < B) (hl : zs.length ≤ 400) (hc : zs.length ≤ c) (hw : wordsB zs = true) (hb0 : 0 ≤ b) (hb1 : b ≤ 20000) (hu : M.used ≤ b) :
    Calls Try.prog 69 #[.pointer (some ⟨p, 0, none⟩), .slice a zs.length c, .int .i64 b] w fun e w' => e = .returned (.tuple #[]) ∧ ∃ r, REnds zs b M r ∧ RunJ [] B w' p r ∧ Below B w w' := by
  have hBp := h.lt
  obtain ⟨cv, hrun, -⟩ := id h
  have HCO : Hid (∀ (W : World) (cur : SM) (cv : Value), RunRI B W p cur cv → RGood cur → Calls Try.prog 105 #[.pointer (some ⟨p, 0, none⟩)] W fun e w' => ∃ cv', e = .returned (.agg (lineRR cur cv')) ∧ Own w' W.heap.size cv' cur.cells ∧ Below W.heap.size W w') := fun W cur cv h1 h2 => copied_any B p cur cv W h1 (by have := h2.cl; omega)
  have HST : Hid (∀ (W : World) (g6 n : Nat) (cur s : SM) (cvs : Value), SpW zs b w W B p g6 M cur s cvs n → goes cur = true → cur.used < b → Calls Try.prog 74 #[.pointer (some ⟨p, 0, none⟩), .slice a zs.length c] W fun e w' => e = .returned (.tuple #[]) ∧ SpW zs b w w' B p g6 M (stepRL zs cur) s cvs (n + 1)) := fun W g6 n cur s cvs hS hgo hu => (hS.st.step zs a c hS.good (nums_kept hn hB hS.b) hB hl hc hw).mono fun e w' ⟨e1, e2, e3⟩ => by
    have hus := usedM_more hS.good.used0 (by omega)
    refine ⟨e1, e2, stepRL_good hS.good hw hl, fun r hr => hS.ends r (.step hgo hu hr), hS.path.snoc hgo hu, hS.s0, hS.sgood, ?_, hS.b.trans e3⟩
    rw [stepL_usedG, hus]
    omega
  have HB1 := hid hb1
  have HM0 : Hid (0 ≤ M.used) := hg.used0
  have HSP0 : Hid (∀ (w1 W : World) (cv' : Value), Own w1 w.heap.size cv' M.cells → Below w.heap.size w w1 → W = w1.alloc (.cells (lineRR M cv') 96) → SpW zs b w W B p w1.heap.size M M M cv' 0) := fun w1 W cv' ho hb e => by
    subst e
    have hba := hb.trans ((Below.refl w1.heap.size w1).alloc (Nat.le_refl _) (.cells (lineRR M cv') 96) |>.mono hb.size)
    have hcl : ∀ g, cv.ownBlock = some g → g < w.heap.size := fun g hg => (hrun.cs.lt g hg).2
    have hz := hb.size
    refine ⟨stood_new (C := w.heap.size) (cv := cv) ⟨blk8 hrun.row hba, own_kept hrun.cs hba, hrun.gB, hrun.d, hrun.rl⟩ (heap_alloc_new _ _) (by omega) (fun e => by have := hcl _ e; omega) (ho.alloc _) hBp.2 hcl, hg, fun r hr => hr, .refl _, hg.used0, hg, hu, hba.mono (by omega)⟩
  have HRUN := hid hrun
  have HGM := hid hg
  have HBP := hid hBp
  have hz30 := zeroV30
  have HNZ : Hid (∀ (W : World) (v : Value), (W.alloc (.cells zero30 96)).setRow W.heap.size (lineRR M v) = W.alloc (.cells (lineRR M v) 96)) := fun W v => World.setRow_alloc_new _ _ _ _
  have HZ0 : Hid (zero30.size = 30) := rfl
  have HSZ : Hid (∀ (m : SM) (cv' : Value), RGood m → cv'.oneCell' = true → (lineRR m cv').size = 30 ∧ (lineRR m cv').all (·.oneCell') = true) := fun m cv' h1 h2 => ⟨lineRR_size h1.rl, lineRR_one h2⟩
  clear h hg hn hB hl hc hw hu hrun hBp hb1
  generalize zero30 = Z at *
  generalize zs.length = L at *
  go_enter Try.func69, Try.ntmps69
  go_wp2_with fail
  refine (HCO.out w M cv HRUN.out HGM.out).mono ?_
  rintro e w1 ⟨cv', rfl, ho, hbw⟩
  obtain ⟨ak, ck, rfl⟩ := own_shape ho
  have HS0 := hid (HSP0.out w1 _ _ ho hbw rfl)
  have hsz := HSZ.out M (.slice ak M.cells.length ck) HGM.out rfl
  have hnz := HNZ.out w1 (.slice ak M.cells.length ck)
  have hzn := heap_alloc_new w1 (.cells Z 96)
  have HG6 : Hid (B ≤ w1.heap.size) := by have := hbw.size; have := HBP.out; show B ≤ _; omega
  clear ho hbw HSP0 HRUN
  go_wp2_with (first | (show Go.wpList _ _ _ (Go.Oper.mk _ (Go.Op.store 96 _ _) _ _ _ _ :: _) _ _; refine wpList_st30 rfl _ _ rfl w1.heap.size (lineRR M (.slice ak M.cells.length ck)) Z (by simp [go_sem]) (by simp [go_sem]) hzn HZ0.out hsz.1 hsz.2 ?_) | fail)
  rw [hnz]
  clear hnz hzn hsz
  simp only [Act.put]
  generalize w1.alloc (.cells (lineRR M (.slice ak M.cells.length ck)) 96) = W2 at *
  generalize w1.heap.size = g6 at *
  go_loopw [] (fun wr => ∃ (cur s : SM) (cvs : Value) (n : Nat), Hid (SpW zs b w wr B p g6 M cur s cvs n))
    (fun wr => (b - intOf ((wr.cell? ⟨p, 3, none⟩).getD (.int .i64 0))).toNat)
  case atStart => exact ⟨_, _, _, _, HS0⟩
  case round =>
    clear HS0
    obtain ⟨cur, s, cvs, n, HS⟩ := hrel
    obtain ⟨d1, d2, d3, d4, d5, d6, k3, k4⟩ := HS.out.cells
    have HU3 := hid d3
    have HPB := hid HS.out.st.lt
    go_wp2_with fail
    refine (pgoes_any cur wr).mono ?_
    rintro e Wx ⟨rfl, hbx⟩
    have HX := hid (HS.out.below hbx)
    clear hbx HS d1 d2 d3 d4 d5 d6 k3 k4
    obtain ⟨d1, d2, d3, d4, d5, d6, k3, k4⟩ := HX.out.cells
    cases hgo : goes cur
    · have HEQ := hid (HX.out.ends cur (.stop hgo))
      have HGO := hid hgo
      clear HST
      go_wp2_with fail
      refine (pgoes_any cur Wx).mono ?_
      rintro e Wy ⟨rfl, hby⟩
      rw [hgo]
      have HY := hid (HX.out.below hby)
      clear hby HX d1 d2 d3 d4 d5 d6 k3 k4 hgo
      go_wp2_with fail
      go_end0
      exact ⟨rfl, cur, HEQ.out, HY.out.st.runJ, HY.out.b⟩
    · by_cases hu : cur.used < b
      · have hq7 : decide (cur.used < b) = true := decide_eq_true hu
        have HU := hid hu
        have HGO := hid hgo
        have HSTc := hid (HST.out Wx g6 n cur s cvs HX.out hgo hu)
        clear hu hgo
        go_wp2_with fail
        refine HSTc.out.mono ?_
        rintro e w6 ⟨rfl, hs6⟩
        have H6 := hid hs6
        have HUP := hid (usedM_more HX.out.good.used0 (by have := HU.out; have := HB1.out; omega))
        have HU6 : Hid ((stepRL zs cur).used = cur.used + 1) := by unfold Hid; rw [stepL_usedG, HUP.out]
        have HPT : Hid ((stepRL zs cur).used = s.used + ((n + 1 : Nat) : Int)) := H6.out.path.used HB1.out H6.out.s0
        clear hs6 HSTc HX hq7 d1 d2 d3 d4 d5 d6 k3 k4 HUP HGO
        generalize stepRL zs cur = m1 at *
        have hrow6 := H6.out.st.row.1
        have hsz6 := lineRR_size (cv := cvs) H6.out.sgood.rl
        obtain ⟨cv6, hr6, hne6⟩ := H6.out.st.run
        have HSA := hid (stands_any B p m1 s cv6 cvs w6 hr6 H6.out.st.rowV H6.out.sgood.rl H6.out.good.cl H6.out.sgood.cl)
        clear hr6 hne6
        obtain ⟨st, hst⟩ : ∃ st, st = standsB m1 s := ⟨_, rfl⟩
        rw [← hst] at HSA
        have HSTB := hid hst
        clear hst
        have HGO6 : Hid (p < w6.heap.size) := H6.out.st.lt.2
        go_upto_region 3 with fail
        cases st
        · go_wp2_with (first | (show Go.wpList _ _ _ (Go.Oper.mk _ (Go.Op.load 96 _) _ _ _ _ :: _) _ _; refine wpList_ld30 rfl _ rfl g6 (by simp [go_sem]) (lineRR s cvs) hrow6 hsz6 ?_) | (refine HSA.out.mono ?_; rintro e w7 ⟨rfl, hb7⟩) | fail)
          have H7 := hid (H6.out.below hb7)
          clear hb7 H6 HSA hrow6 hsz6
          obtain ⟨d1, d2, d3, d4, d5, d6, k3, k4⟩ := H7.out.cells
          have hs0 := H7.out.s0
          have hsb : s.used ≤ 20000 := by have := HPT.out; have := H7.out.ub; have := HB1.out; omega
          have hwr : IntKind.i64.wrap (2 * s.used) = 2 * s.used := IntWalk.i64_in _ ⟨by omega, by omega⟩
          by_cases hq : 2 * s.used ≤ m1.used
          · have hqd : decide (2 * s.used ≤ m1.used) = true := decide_eq_true hq
            clear hq hs0 hsb
            go_region
            have H8 := hid H7.out.drewN
            clear H7 d1 d2 d3 d4 d5 d6 k3 k4 hwr hqd HST
            generalize w7.drew = W8 at *
            obtain ⟨cv8, hr8, -⟩ := H8.out.st.run
            have HCO8 := hid (HCO.out W8 m1 cv8 hr8 H8.out.good)
            clear hr8
            go_upto_region 7 with fail
            go_wp2_with fail
            refine HCO8.out.mono ?_
            rintro e w9 ⟨v, rfl, ho, hb9⟩
            obtain ⟨av, kv, rfl⟩ := own_shape ho
            have hsz := HSZ.out m1 (.slice av m1.cells.length kv) H8.out.good rfl
            have hrow9 := blk8 H8.out.st.row.1 hb9
            have hsz9 := lineRR_size (cv := cvs) H8.out.sgood.rl
            have HF : Hid (SpW zs b w (w9.setRow g6 (lineRR m1 (.slice av m1.cells.length kv))) B p g6 M m1 m1 (.slice av m1.cells.length kv) 0) := ⟨H8.out.st.again hb9 ho, H8.out.good, H8.out.ends, .refl _, H8.out.good.used0, H8.out.good, H8.out.ub, below_setRow (H8.out.b.trans (hb9.mono (by have := H8.out.st.lt; omega))) HG6.out _⟩
            clear ho hb9 HCO8
            go_wp2_with (first | (show Go.wpList _ _ _ (Go.Oper.mk _ (Go.Op.store 96 _ _) _ _ _ _ :: _) _ _; refine wpList_st30 rfl _ _ rfl g6 (lineRR m1 (.slice av m1.cells.length kv)) (lineRR s cvs) (by simp [go_sem]) (by simp [go_sem]) hrow9 hsz9 hsz.1 hsz.2 ?_) | fail)
            clear hsz hrow9 hsz9
            generalize w9.setRow g6 (lineRR m1 (.slice av m1.cells.length kv)) = W9 at *
            have hcm := HF.out.cells.2.2.1
            simp only [Act.put]
            go_roundw
            case rel => exact ⟨_, _, _, _, HF⟩
            case measure =>
              rw [hcm, HU3.out]
              have h1 := HU.out
              have h2 := HU6.out
              simp only [intOf, Option.getD_some]
              omega
          · have hqd : decide (2 * s.used ≤ m1.used) = false := decide_eq_false hq
            clear hq hs0 hsb
            go_region
            have HF := hid H7.out.drewN
            clear H7 d1 d2 d3 d4 d5 d6 k3 k4 hwr hqd HST
            generalize w7.drew = W8 at *
            go_wp2_with fail
            have hcm := HF.out.cells.2.2.1
            refine ⟨⟨_, _, _, _, HF⟩, ?_⟩
            rw [hcm, HU3.out]
            have h1 := HU.out
            have h2 := HU6.out
            simp only [intOf, Option.getD_some]
            omega
        · have HSM : Hid (m1 = shU s ((n + 1 : Nat) : Int)) := by
            have hh := of_decide_eq_true HSTB.out.symm
            have := same_sh hh.1 hh.2.1 hh.2.2.1 hh.2.2.2.1 hh.2.2.2.2.1 hh.2.2.2.2.2
            unfold Hid
            rw [this]
            congr 1
            have := HPT.out
            omega
          go_wp2_with (first | (show Go.wpList _ _ _ (Go.Oper.mk _ (Go.Op.load 96 _) _ _ _ _ :: _) _ _; refine wpList_ld30 rfl _ rfl g6 (by simp [go_sem]) (lineRR s cvs) hrow6 hsz6 ?_) | (refine HSA.out.mono ?_; rintro e w7 ⟨rfl, hb7⟩) | fail)
          have H7 := hid (H6.out.below hb7)
          clear hb7 H6 HSA hrow6 hsz6
          obtain ⟨d1, d2, d3, d4, d5, d6, k3, k4⟩ := H7.out.cells
          have hpt := HPT.out
          have hub := H7.out.ub
          have hs0 := H7.out.s0
          have hbb := HB1.out
          obtain ⟨R, hR⟩ : ∃ R : Nat, R = n + 1 := ⟨_, rfl⟩
          have e1 : IntKind.i64.wrap (m1.used - s.used) = (R : Int) := by rw [IntWalk.i64_in _ ⟨by omega, by omega⟩]; omega
          have e2 : IntKind.i64.wrap (b - m1.used) = b - m1.used := IntWalk.i64_in _ ⟨by omega, by omega⟩
          have hdv : (b - m1.used).tdiv (R : Int) = (b - m1.used) / (R : Int) := Int.tdiv_eq_ediv_of_nonneg (by omega)
          have hq0 : 0 ≤ (b - m1.used) / (R : Int) := Int.ediv_nonneg (by omega) (by omega)
          have hq1 : (b - m1.used) / (R : Int) * (R : Int) ≤ b - m1.used := Int.ediv_mul_le _ (by omega)
          obtain ⟨q, hq⟩ := Int.eq_ofNat_of_zero_le hq0
          rw [hq] at hdv hq1
          have hqR : (0 : Int) ≤ (q : Int) * (R : Int) := Int.mul_nonneg (by omega) (by omega)
          have hR1 : (1 : Int) ≤ (R : Int) := by omega
          have hqle : (q : Int) ≤ (q : Int) * (R : Int) := by
            have := Int.mul_le_mul_of_nonneg_left hR1 (show (0 : Int) ≤ (q : Int) by omega)
            rw [Int.mul_one] at this
            exact this
          have e3 : IntKind.i64.wrap ((b - m1.used).tdiv (R : Int)) = (q : Int) := by rw [hdv]; exact IntWalk.i64_in _ ⟨by omega, by omega⟩
          have e4 : IntKind.i64.wrap ((q : Int) * (R : Int)) = (q : Int) * (R : Int) := IntWalk.i64_in _ ⟨by omega, by omega⟩
          have e5 : IntKind.i64.wrap (m1.used + (q : Int) * (R : Int)) = m1.used + (q : Int) * (R : Int) := IntWalk.i64_in _ ⟨by omega, by omega⟩
          have hnz : ¬ (R : Int) = 0 := by omega
          have HQ := hid (show m1.used + (q : Int) * (R : Int) ≤ b by omega)
          have HRR := hid hR
          have HQR := hid hqR
          have HR1 := hid hR1
          clear hpt hub hs0 hbb hR hdv hq0 hq1 hq hqR hqle hR1
          go_region
          have H8 := hid H7.out.drewN
          clear H7 d1 d2 d3 d4 d5 d6 k3 k4 e1
          generalize w7.drew = W8 at *
          obtain ⟨d1, d2, d3, d4, d5, d6, k3, k4⟩ := H8.out.cells
          go_upto_region 5 with fail
          go_region
          have h8 := H8.out.st.used (m1.used + (q : Int) * (R : Int))
          have hp8 := H8.out.path
          rw [← HRR.out] at hp8 HSM
          have hmany := hp8.many HB1.out H8.out.s0 HSM.out q HQ.out
          have HF : Hid (SpW zs b w ((W8.setCell ⟨p, 3, none⟩ (.int .i64 (m1.used + (q : Int) * (R : Int)))).drew) B p g6 M (shU m1 ((q : Int) * (R : Int))) s cvs (q * R + R)) := ⟨h8.heap rfl, shU_good H8.out.good (by have := H8.out.good.used0; have := HQR.out; omega) (by have := HQ.out; have := HB1.out; omega), fun r hr => H8.out.ends r (hmany.ends hr), hp8.trans hmany, H8.out.s0, H8.out.sgood, HQ.out, (H8.out.b.setCell (p := ⟨p, 3, none⟩) (by have := H8.out.st.lt; show B ≤ p; omega) _).drew⟩
          clear hp8 hmany h8 H8 d1 d2 d3 d4 d5 d6 k3 k4 e2 e3 e4 e5 hnz HST HSM
          generalize (W8.setCell ⟨p, 3, none⟩ (.int .i64 (m1.used + (q : Int) * (R : Int)))).drew = W9 at *
          go_wp2_with fail
          have hcm := HF.out.cells.2.2.1
          refine ⟨⟨_, _, _, _, HF⟩, ?_⟩
          rw [hcm, HU3.out]
          have h1 := HU.out
          have h2 := HU6.out
          have h3 := HQR.out
          show (b - (m1.used + (q : Int) * (R : Int))).toNat < (b - cur.used).toNat
          omega
      · have hq7 : decide (cur.used < b) = false := decide_eq_false hu
        have HEQ := hid (HX.out.ends _ (.many hgo (by omega)))
        clear HST hu
        go_wp2_with fail
        refine (pgoes_any cur Wx).mono ?_
        rintro e Wy ⟨rfl, hby⟩
        rw [hgo]
        have HY := hid (HX.out.below hby)
        clear hby HX d1 d2 d3 d4 d5 d6 k3 k4 hgo hq7
        obtain ⟨d1, d2, d3, d4, d5, d6, k3, k4⟩ := HY.out.cells
        have HPB2 := hid HY.out.st.lt.1
        go_wp2_with fail
        go_end0
        exact ⟨rfl, manyM cur, HEQ.out, HY.out.st.runJ.trap 2, HY.out.b.setCell HPB2.out _⟩
end Go.Proofs.Ytcikofhbfncgdaa
