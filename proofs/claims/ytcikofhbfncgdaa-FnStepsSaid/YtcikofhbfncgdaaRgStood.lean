/-
  A run under way beside the copy of what it was: what keeps both.
-/
import Derived.Test.YtcikofhbfncgdaaStpM
import Derived.Test.YtcikofhbfncgdaaRgI13
import Derived.Test.YtcikofhbfncgdaaRgCopy
import Derived.Test.YtcikofhbfncgdaaRgStands
namespace Go.Proofs.Ytcikofhbfncgdaa
open Go.RowKit
set_option linter.unusedVariables false

/-- Used further on -/
def shU (m : SM) (k : Int) : SM := { m with used := m.used + k }
theorem shU_shU (m : SM) (j k : Int) : shU (shU m j) k = shU m (j + k) := by
  unfold shU
  simp only [Int.add_assoc]
theorem shU_0 (m : SM) : shU m 0 = m := by
  unfold shU
  rw [Int.add_zero]
theorem goes_sh (m : SM) (k : Int) : goes (shU m k) = goes m := rfl
theorem usedM_sh {m : SM} {k : Int} (h1 : m.used + 1 ≤ 1000000) (h2 : m.used + k + 1 ≤ 1000000) : usedM (shU m k) = shU (usedM m) k := by
  have e1 : usedM m = { m with used := m.used + 1 } := by unfold usedM; rw [if_pos h1]
  have e2 : usedM (shU m k) = { m with used := m.used + k + 1 } := by unfold usedM; rw [if_pos (show (shU m k).used + 1 ≤ 1000000 from h2)]; rfl
  rw [e1, e2]
  unfold shU
  simp only [SM.mk.injEq, true_and, and_true]
  omega
theorem doR_sh (op a b t : Int) (m : SM) (k : Int) : doR op a b t (shU m k) = shU (doR op a b t m) k := by
  unfold doR
  by_cases h1 : op = 1
  · rw [if_pos h1, if_pos h1]; rfl
  rw [if_neg h1, if_neg h1]
  by_cases h2 : op = 2
  · rw [if_pos h2, if_pos h2]; rfl
  rw [if_neg h2, if_neg h2]
  by_cases h3 : op = 3
  · rw [if_pos h3, if_pos h3]; rfl
  rw [if_neg h3, if_neg h3]
  by_cases h4 : op = 4
  · rw [if_pos h4, if_pos h4]; rfl
  rw [if_neg h4, if_neg h4]
  by_cases h5 : op = 5
  · rw [if_pos h5, if_pos h5]; rfl
  rw [if_neg h5, if_neg h5]
  by_cases h6 : op = 6
  · rw [if_pos h6, if_pos h6]; rfl
  rw [if_neg h6, if_neg h6]
  by_cases h7 : op = 7
  · rw [if_pos h7, if_pos h7]; rfl
  rw [if_neg h7, if_neg h7]
  by_cases h8 : op = 8
  · rw [if_pos h8, if_pos h8]; rfl
  rw [if_neg h8, if_neg h8]
  by_cases h9 : op = 9
  · rw [if_pos h9, if_pos h9]; rfl
  rw [if_neg h9, if_neg h9]
  by_cases h10 : op = 10
  · rw [if_pos h10, if_pos h10]; rfl
  rw [if_neg h10, if_neg h10]
  by_cases h11 : op = 11
  · rw [if_pos h11, if_pos h11]; rfl
  rw [if_neg h11, if_neg h11]
  by_cases h12 : op = 12
  · rw [if_pos h12, if_pos h12]; rfl
  rw [if_neg h12, if_neg h12]
  rfl
theorem goR_sh (op a b c d nx : Int) {m : SM} {k : Int} (h1 : m.used + 1 ≤ 1000000) (h2 : m.used + k + 1 ≤ 1000000) : goR op a b c d nx (shU m k) = shU (goR op a b c d nx m) k := by
  have eU := usedM_sh h1 h2
  have eT : toldRC op a b c d (shU m k) = toldRC op a b c d m := rfl
  have eV : toldRV op a b c d (shU m k) = toldRV op a b c d m := rfl
  unfold goR
  rw [eT, eV, eU]
  by_cases hh : hasR op a b c m.cells.length = false
  · rw [if_pos (show hasR op a b c (shU m k).cells.length = false from hh), if_pos hh]; rfl
  rw [if_neg (show ¬ hasR op a b c (shU m k).cells.length = false from hh), if_neg hh]
  by_cases ht : toldRC op a b c d m ≠ 0
  · rw [if_pos ht, if_pos ht]; rfl
  rw [if_neg ht, if_neg ht]
  exact doR_sh op a b _ (atP (usedM m) nx) k
theorem stepRL_sh (zs : List Int) {m : SM} {k : Int} (h1 : m.used + 1 ≤ 1000000) (h2 : m.used + k + 1 ≤ 1000000) : stepRL zs (shU m k) = shU (stepRL zs m) k := by
  have eU := usedM_sh h1 h2
  have eP : (shU m k).pc = m.pc := rfl
  unfold stepRL
  rw [eP]
  by_cases hr : readyR zs m.pc = false
  · rw [if_pos hr, if_pos hr, eU]; rfl
  rw [if_neg hr, if_neg hr]
  exact goR_sh _ _ _ _ _ _ h1 h2
/-- so many steps of a machine that goes on within the budget -/
inductive Path (zs : List Int) (b : Int) : Nat → SM → SM → Prop
  | refl (m : SM) : Path zs b 0 m m
  | step {n : Nat} {m m' : SM} (h : goes m = true) (h2 : m.used < b) (h3 : Path zs b n (stepRL zs m) m') : Path zs b (n + 1) m m'
theorem Path.snoc {zs : List Int} {b : Int} {n : Nat} {s m : SM} (h : Path zs b n s m) (hg : goes m = true) (hu : m.used < b) : Path zs b (n + 1) s (stepRL zs m) := by
  induction h with
  | refl m => exact .step hg hu (.refl _)
  | step h h2 _ ih => exact .step h h2 (ih hg hu)
theorem Path.trans {zs : List Int} {b : Int} {n k : Nat} {s m r : SM} (h : Path zs b n s m) (h2 : Path zs b k m r) : Path zs b (k + n) s r := by
  induction h with
  | refl m => exact h2
  | step g g2 _ ih => exact .step g g2 (ih h2)
theorem Path.ends {zs : List Int} {b : Int} {n : Nat} {s m r : SM} (h : Path zs b n s m) (hr : REnds zs b m r) : REnds zs b s r := by
  induction h with
  | refl m => exact hr
  | step g g2 _ ih => exact .step g g2 (ih hr)
theorem Path.used {zs : List Int} {b : Int} {n : Nat} {s m : SM} (h : Path zs b n s m) (hb : b ≤ 20000) (h0 : 0 ≤ s.used) : m.used = s.used + n := by
  induction h with
  | refl m => simp
  | @step n m m' g g2 _ ih =>
    have hu := usedM_more h0 (by omega)
    have e : (stepRL zs m).used = m.used + 1 := by rw [stepL_usedG, hu]
    have := ih (by omega)
    omega
theorem Path.sh {zs : List Int} {b : Int} {n : Nat} {s m : SM} (h : Path zs b n s m) (hb : b ≤ 20000) (h0 : 0 ≤ s.used) (k : Int) (hk : 0 ≤ k) (hm : m.used + k ≤ b) : Path zs b n (shU s k) (shU m k) := by
  induction h with
  | refl m => exact .refl _
  | @step n m m' g g2 h3 ih =>
    have hu := usedM_more h0 (by omega)
    have e : (stepRL zs m).used = m.used + 1 := by rw [stepL_usedG, hu]
    have hm2 := h3.used hb (by omega)
    refine .step g (by show m.used + k < b; omega) ?_
    rw [stepRL_sh zs (by omega) (by omega)]
    exact ih (by omega) hm
/-- rounds that are counted -/
theorem Path.many {zs : List Int} {b : Int} {n : Nat} {s m : SM} (h : Path zs b n s m) (hb : b ≤ 20000) (h0 : 0 ≤ s.used) (he : m = shU s n) (q : Nat) (hq : m.used + (q : Int) * n ≤ b) : Path zs b (q * n) m (shU m ((q : Int) * n)) := by
  induction q with
  | zero =>
    rw [show ((0 : Nat) : Int) * (n : Int) = 0 from by simp, shU_0, Nat.zero_mul]
    exact .refl _
  | succ q ih =>
    have e : ((q + 1 : Nat) : Int) * (n : Int) = (q : Int) * n + n := by rw [Int.natCast_succ, Int.add_mul, Int.one_mul]
    rw [e] at hq ⊢
    have hn : (0 : Int) ≤ (q : Int) * n := Int.mul_nonneg (by omega) (by omega)
    have h1 := ih (by omega)
    have h2 := h.sh hb h0 ((n : Int) + (q : Int) * n) (by omega) (by omega)
    rw [← shU_shU s, ← he, Int.add_comm (n : Int)] at h2
    have := h1.trans h2
    rw [show (q + 1) * n = n + q * n from by rw [Nat.succ_mul, Nat.add_comm]]
    exact this
theorem shU_good {m : SM} (h : RGood m) {k : Int} (h0 : 0 ≤ m.used + k) (h1 : m.used + k ≤ 1000000) : RGood (shU m k) := ⟨h.pc0, h.pc1, h.sig0, h.sig1, h.stk, h.cells, h0, h1, h.trap0, h.trap1, h.rl, h.cl⟩
theorem same_sh {m s : SM} (h1 : m.pc = s.pc) (h2 : m.sig = s.sig) (h3 : m.trap = s.trap) (h4 : m.done = s.done) (h5 : m.stk = s.stk) (h6 : m.cells = s.cells) : m = shU s (m.used - s.used) := by
  obtain ⟨a, b, c, d, e, f, g⟩ := m
  obtain ⟨a', b', c', d', e', f', g'⟩ := s
  simp only at h1 h2 h3 h4 h5 h6
  subst h1 h2 h3 h4 h5 h6
  unfold shU
  simp only [SM.mk.injEq, true_and, and_true]
  omega
end Go.Proofs.Ytcikofhbfncgdaa
namespace Go.Proofs.Ytcikofhbfncgdaa
open Go.RowKit
set_option linter.unusedVariables false

/-- the run cur in block p, what it was (s) in block g6 with the cells cvs -/
def Stood (B : Nat) (W : World) (p g6 : Nat) (cur s : SM) (cvs : Value) : Prop :=
  ∃ (Ks : Kept) (C : Nat), RunJ Ks B W p cur ∧ (g6, Obj.cells (lineRR s cvs) 96 (0, 0)) ∈ Ks ∧ Own W C cvs s.cells ∧ ∀ g, cvs.ownBlock = some g → ∃ o, (g, o) ∈ Ks
theorem stood_new {B C p g6 : Nat} {W : World} {cur s : SM} {cv cvs : Value} (h : RunRI B W p cur cv) (hg : W.heap[g6]? = some (.cells (lineRR s cvs) 96 (0, 0))) (hg1 : g6 ≠ p) (hg2 : cv.ownBlock ≠ some g6) (ho : Own W C cvs s.cells) (hC : p < C) (hC2 : ∀ g, cv.ownBlock = some g → g < C) : Stood B W p g6 cur s cvs := by
  cases hq : cvs.ownBlock with
  | none => exact ⟨[(g6, Obj.cells (lineRR s cvs) 96 (0, 0))], C, ⟨cv, h, fun x hx => by
      rcases List.mem_singleton.1 hx with rfl
      exact ⟨hg, hg1, hg2⟩⟩, List.mem_singleton.2 rfl, ho, fun g hgg => by rw [hq] at hgg; cases hgg⟩
  | some q =>
    have hl := ho.lt q hq
    have hqo : W.heap[q]? = some (W.heap[q]'hl.2) := Array.getElem?_eq_getElem hl.2
    refine ⟨[(g6, Obj.cells (lineRR s cvs) 96 (0, 0)), (q, W.heap[q]'hl.2)], C, ⟨cv, h, fun x hx => ?_⟩, List.mem_cons_self, ho, fun g hgg => ?_⟩
    · rcases List.mem_cons.1 hx with rfl | hx
      · exact ⟨hg, hg1, hg2⟩
      · rcases List.mem_singleton.1 hx with rfl
        exact ⟨hqo, by show q ≠ p; omega, fun e => by have := hC2 q e; omega⟩
    · rw [hq] at hgg
      cases hgg
      exact ⟨_, List.mem_cons_of_mem _ (List.mem_singleton.2 rfl)⟩
theorem Stood.run {B p g6 : Nat} {W : World} {cur s : SM} {cvs : Value} (h : Stood B W p g6 cur s cvs) : ∃ cv, RunRI B W p cur cv ∧ cv.ownBlock ≠ some g6 := by
  obtain ⟨Ks, C, ⟨cv, h1, hk⟩, h2, _⟩ := h
  exact ⟨cv, h1, (hk _ h2).2.2⟩
theorem Stood.row {B p g6 : Nat} {W : World} {cur s : SM} {cvs : Value} (h : Stood B W p g6 cur s cvs) : W.heap[g6]? = some (.cells (lineRR s cvs) 96 (0, 0)) ∧ g6 ≠ p := by
  obtain ⟨Ks, C, ⟨cv, h1, hk⟩, h2, _⟩ := h
  exact ⟨(hk _ h2).1, (hk _ h2).2.1⟩
theorem Stood.rowV {B p g6 : Nat} {W : World} {cur s : SM} {cvs : Value} (h : Stood B W p g6 cur s cvs) : RowV W cvs s.cells := by
  obtain ⟨Ks, C, _, _, h3, _⟩ := h
  exact own_row h3
theorem Stood.lt {B p g6 : Nat} {W : World} {cur s : SM} {cvs : Value} (h : Stood B W p g6 cur s cvs) : B ≤ p ∧ p < W.heap.size := by
  obtain ⟨Ks, C, h1, _⟩ := h
  exact h1.lt
theorem Stood.by {B p g6 : Nat} {W W' : World} {cur cur' s : SM} {cvs : Value} {Ks : Kept} {C : Nat} (h1 : RunJ Ks B W p cur) (h2 : (g6, Obj.cells (lineRR s cvs) 96 (0, 0)) ∈ Ks) (h3 : Own W C cvs s.cells) (h4 : ∀ g, cvs.ownBlock = some g → ∃ o, (g, o) ∈ Ks) (h : RunJ Ks B W' p cur') : Stood B W' p g6 cur' s cvs := by
  refine ⟨Ks, C, h, h2, own_other h3 (fun g hg => ?_), h4⟩
  obtain ⟨o, ho⟩ := h4 g hg
  obtain ⟨_, _, hk⟩ := h1
  obtain ⟨_, _, hk'⟩ := h
  exact (hk' _ ho).1.trans (hk _ ho).1.symm
theorem Stood.below {B p g6 : Nat} {W W' : World} {cur s : SM} {cvs : Value} (h : Stood B W p g6 cur s cvs) (hb : Below W.heap.size W W') : Stood B W' p g6 cur s cvs := by
  obtain ⟨Ks, C, h1, h2, h3, h4⟩ := h
  exact Stood.by h1 h2 h3 h4 (h1.kept hb)
theorem Stood.heap {B p g6 : Nat} {W W' : World} {cur s : SM} {cvs : Value} (h : Stood B W p g6 cur s cvs) (e : W'.heap = W.heap) : Stood B W' p g6 cur s cvs := by
  obtain ⟨Ks, C, h1, h2, h3, h4⟩ := h
  exact Stood.by h1 h2 h3 h4 (h1.heap e)
theorem Stood.used {B p g6 : Nat} {W : World} {cur s : SM} {cvs : Value} (h : Stood B W p g6 cur s cvs) (x : Int) : Stood B (W.setCell ⟨p, 3, none⟩ (.int .i64 x)) p g6 { cur with used := x } s cvs := by
  obtain ⟨Ks, C, h1, h2, h3, h4⟩ := h
  exact Stood.by h1 h2 h3 h4 (h1.used x)
theorem Stood.runJ {B p g6 : Nat} {W : World} {cur s : SM} {cvs : Value} (h : Stood B W p g6 cur s cvs) : RunJ [] B W p cur := by
  obtain ⟨Ks, C, ⟨cv, h1, _⟩, _⟩ := h
  exact ⟨cv, h1, fun x hx => by cases hx⟩
/-- a step, beside the copy -/
theorem Stood.step {B p g6 : Nat} {W : World} {cur s : SM} {cvs : Value} (h : Stood B W p g6 cur s cvs) (zs : List Int) (a : Option Addr) (c : Nat) (hg : RGood cur) (hn : Nums W a zs) (hB : ∀ b off, a = some ⟨b, off, none⟩ → b < B) (hl : zs.length ≤ 400) (hc : zs.length ≤ c) (hw : wordsB zs = true) :
    Calls Try.prog 74 #[.pointer (some ⟨p, 0, none⟩), .slice a zs.length c] W fun e w' => e = .returned (.tuple #[]) ∧ Stood B w' p g6 (stepRL zs cur) s cvs ∧ Below B W w' := by
  obtain ⟨Ks, C, h1, h2, h3, h4⟩ := h
  exact (istepR_any B p cur zs a c W h1 hg hn hB hl hc hw).mono fun e w' ⟨e1, e2, e3⟩ => ⟨e1, Stood.by h1 h2 h3 h4 e2, e3⟩
/-- a new copy is put into the block of the old one -/
theorem Stood.again {B p g6 : Nat} {W W' : World} {cur s : SM} {cvs v : Value} (h : Stood B W p g6 cur s cvs) (hb : Below W.heap.size W W') (ho : Own W' W.heap.size v cur.cells) : Stood B (W'.setRow g6 (lineRR cur v)) p g6 cur cur v := by
  obtain ⟨cv, hr, hne⟩ := h.run
  have hrow := h.row
  have hlt := h.lt
  have hg6 : g6 < W.heap.size := (Array.getElem?_eq_some_iff.1 hrow.1).1
  have hcl : ∀ g, cv.ownBlock = some g → g < W.heap.size := fun g hg => (hr.cs.lt g hg).2
  refine stood_new (C := W.heap.size) (cv := cv) ⟨?_, ?_, hr.gB, hr.d, hr.rl⟩ (setRow_heap _ _ _ _ _ _ (blk8 hrow.1 hb)) hrow.2 hne (own_other ho (fun g hg => setRow_other _ _ _ _ (by have := (ho.lt g hg).1; omega))) hlt.2 hcl
  · rw [setRow_other _ _ _ _ (Ne.symm hrow.2)]
    exact blk8 hr.row hb
  · exact own_other (own_kept hr.cs hb) (fun g hg => setRow_other _ _ _ _ (fun e => hne (by rw [hg, e])))
end Go.Proofs.Ytcikofhbfncgdaa
