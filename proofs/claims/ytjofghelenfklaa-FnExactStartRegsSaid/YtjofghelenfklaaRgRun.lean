/-
  A run of the stack machine, plainly: it ends, and in one way.
-/
import Derived.Test.YtjofghelenfklaaRgM
import Derived.Test.YtjofghelenfklaaWords0
import Derived.Test.YtjofghelenfklaaStkRun
namespace Go.Proofs.Ytjofghelenfklaa
open Go.RowKit
set_option linter.unusedVariables false

def startRM (zs : List Int) : SM := ⟨0, List.replicate 24 65535, zs, 0, 0, 0, false⟩
/-- from m on the run ends with r -/
inductive REnds (zs : List Int) (b : Int) : SM → SM → Prop
  | stop {m : SM} (h : goes m = false) : REnds zs b m m
  | many {m : SM} (h : goes m = true) (h2 : b ≤ m.used) : REnds zs b m (manyM m)
  | step {m r : SM} (h : goes m = true) (h2 : m.used < b) (h3 : REnds zs b (stepRL zs m) r) : REnds zs b m r
theorem REnds.det {zs : List Int} {b : Int} {m r r' : SM} (h : REnds zs b m r) (h' : REnds zs b m r') : r = r' := by
  induction h with
  | stop h =>
    cases h' with
    | stop => rfl
    | many g => rw [h] at g; cases g
    | step g => rw [h] at g; cases g
  | many h h2 =>
    cases h' with
    | stop g => rw [h] at g; cases g
    | many => rfl
    | step g g2 => omega
  | step h h2 _ ih =>
    cases h' with
    | stop g => rw [h] at g; cases g
    | many g g2 => omega
    | step g g2 g3 => exact ih g3
theorem doR_used (op a b t : Int) (m : SM) : (doR op a b t m).used = m.used := by
  unfold doR
  iterate 12 refine ite_all (P := fun x : SM => x.used = m.used) rfl ?_
  rfl
theorem doR_cells (op a b t : Int) (m : SM) : (doR op a b t m).cells.length = m.cells.length := by
  unfold doR
  refine ite_all (P := fun x : SM => x.cells.length = m.cells.length) rfl ?_
  refine ite_all (P := fun x : SM => x.cells.length = m.cells.length) rfl ?_
  refine ite_all (P := fun x : SM => x.cells.length = m.cells.length) List.length_set ?_
  refine ite_all (P := fun x : SM => x.cells.length = m.cells.length) rfl ?_
  refine ite_all (P := fun x : SM => x.cells.length = m.cells.length) List.length_set ?_
  iterate 7 refine ite_all (P := fun x : SM => x.cells.length = m.cells.length) rfl ?_
  rfl
theorem doR_trap (op a b t : Int) (m : SM) : (doR op a b t m).trap = m.trap := by
  unfold doR
  iterate 12 refine ite_all (P := fun x : SM => x.trap = m.trap) rfl ?_
  rfl
theorem stepL_usedG (zs : List Int) (m : SM) : (stepRL zs m).used = (usedM m).used := by
  unfold stepRL goR
  split
  · rfl
  split
  · rfl
  split
  · rfl
  · rw [doR_used]; rfl
theorem stepL_cellsG (zs : List Int) (m : SM) : (stepRL zs m).cells.length = m.cells.length := by
  unfold stepRL goR
  split
  · rfl
  split
  · rfl
  split
  · rfl
  · rw [doR_cells]; rfl
theorem stepL_oneG (zs : List Int) {m : SM} (h : goes m = true) : One (stepRL zs m) := by
  unfold goes at h
  simp only [Bool.and_eq_true, Bool.not_eq_true', beq_iff_eq] at h
  have hd : m.done = false := h.1
  have ht : m.trap = 0 := h.2
  unfold stepRL goR
  split
  · intro e; have : m.done = true := e; rw [hd] at this; cases this
  split
  · intro e; have : m.done = true := e; rw [hd] at this; cases this
  split
  · intro e; have : m.done = true := e; rw [hd] at this; cases this
  · intro _; rw [doR_trap]; exact ht
theorem REnds.of (zs : List Int) (b : Int) (hb : b ≤ 20000) : ∀ (n : Nat) (m : SM), 0 ≤ m.used → b - m.used ≤ n → ∃ r, REnds zs b m r := by
  intro n
  induction n with
  | zero =>
    intro m h0 hn
    cases hg : goes m
    · exact ⟨m, .stop hg⟩
    · exact ⟨_, .many hg (by omega)⟩
  | succ n ih =>
    intro m h0 hn
    cases hg : goes m
    · exact ⟨m, .stop hg⟩
    by_cases hu : b ≤ m.used
    · exact ⟨_, .many hg hu⟩
    · have hu2 := usedM_more h0 (by omega)
      obtain ⟨r, hr⟩ := ih (stepRL zs m) (by rw [stepL_usedG, hu2]; omega) (by rw [stepL_usedG, hu2]; omega)
      exact ⟨r, .step hg (by omega) hr⟩
/-- what a run ends with -/
theorem REnds.props {zs : List Int} {b : Int} (hb : b ≤ 20000) (hz : wordsB zs = true) (hl : zs.length ≤ 400) {m r : SM} (h : REnds zs b m r) (hg : RGood m) (h1 : One m) (hu : m.used ≤ b ∨ goes m = false) (hu2 : m.used ≤ b) :
    RGood r ∧ One r ∧ goes r = false ∧ r.used ≤ b ∧ r.cells.length = m.cells.length := by
  induction h with
  | stop h => exact ⟨hg, h1, h, hu2, rfl⟩
  | @many m h h2 =>
    refine ⟨trpR_good hg (by omega) (by omega), fun e => ?_, ?_, hu2, rfl⟩
    · have hd : m.done = true := e
      unfold goes at h; rw [hd] at h; simp at h
    · show (!m.done && ((2 : Int) == 0)) = false
      simp
  | @step m r h h2 h3 ih =>
    have hs := usedM_more hg.used0 (by omega)
    have hst : (stepRL zs m).used = m.used + 1 := by rw [stepL_usedG, hs]
    have := ih (stepRL_good hg hz hl) (stepL_oneG zs h) (.inl (by omega)) (by omega)
    exact ⟨this.1, this.2.1, this.2.2.1, this.2.2.2.1, by rw [this.2.2.2.2, stepL_cellsG]⟩
theorem startM_goodG {zs : List Int} (h : rmF (startRM zs) = 0) : RGood (startRM zs) := rgood_of h
/-- code and machine of the answers -/
def stepRC (zs : List Int) (m : SM) : Int := if fault zs = 0 then rmF m else fault zs
def stepRR (zs : List Int) (m : SM) : SM := if stepRC zs m = 0 then stepRM zs m else zeroM
def startRC (zs : List Int) : Int := rmF (startRM zs)
def startRR (zs : List Int) : SM := if startRC zs = 0 then startRM zs else zeroM
def runRC (zs ys : List Int) (b : Int) : Int := if fault zs = 0 then (if startRC ys = 0 then (if inB b 0 20000 then 0 else 3) else startRC ys) else fault zs
theorem runC_okG {zs ys : List Int} {b : Int} (h : runRC zs ys b = 0) : fault zs = 0 ∧ startRC ys = 0 ∧ 0 ≤ b ∧ b ≤ 20000 := by
  unfold runRC at h
  split at h
  · rename_i h1
    split at h
    · rename_i h2
      split at h
      · rename_i h3
        exact ⟨h1, h2, inB_iff.1 h3⟩
      · omega
    · rename_i h2; exact absurd h h2
  · rename_i h1; exact absurd h h1
end Go.Proofs.Ytjofghelenfklaa
