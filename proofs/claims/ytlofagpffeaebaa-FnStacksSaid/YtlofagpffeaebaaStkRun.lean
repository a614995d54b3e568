/-
  A run of the stack machine, plainly: it ends, and in one way.
-/
import Derived.Test.YtlofagpffeaebaaStkM
import Derived.Test.YtlofagpffeaebaaWords0
namespace Go.Proofs.Ytlofagpffeaebaa
open Go.RowKit
set_option linter.unusedVariables false

def zeroM : SM := ⟨0, [], [], 0, 0, 0, false⟩
def startM (zs : List Int) : SM := ⟨0, [], zs, 0, 0, 0, false⟩
def manyM (m : SM) : SM := { m with trap := 2 }
/-- from m on the run ends with r -/
inductive Ends (zs : List Int) (b : Int) : SM → SM → Prop
  | stop {m : SM} (h : goes m = false) : Ends zs b m m
  | many {m : SM} (h : goes m = true) (h2 : b ≤ m.used) : Ends zs b m (manyM m)
  | step {m r : SM} (h : goes m = true) (h2 : m.used < b) (h3 : Ends zs b (stepL zs m) r) : Ends zs b m r
theorem Ends.det {zs : List Int} {b : Int} {m r r' : SM} (h : Ends zs b m r) (h' : Ends zs b m r') : r = r' := by
  induction h with
  | stop h =>
    cases h' with
    | stop => rfl
    | many g => rw [h] at g; cases g
    | step g => rw [h] at g; cases g
  | many h h2 =>
    cases h' with
    | stop g => rw [h] at g; cases g
    | many => rfl
    | step g g2 => omega
  | step h h2 _ ih =>
    cases h' with
    | stop g => rw [h] at g; cases g
    | many g g2 => omega
    | step g g2 g3 => exact ih g3
theorem ite_all {α : Type} {P : α → Prop} {c : Prop} [Decidable c] {a b : α} (ha : P a) (hb : P b) : P (if c then a else b) := by split <;> assumption
theorem doM_used (op u t : Int) (m : SM) : (doM op u t m).used = m.used := by
  unfold doM
  iterate 12 refine ite_all (P := fun x : SM => x.used = m.used) rfl ?_
  rfl
theorem doM_cells (op u t : Int) (m : SM) : (doM op u t m).cells.length = m.cells.length := by
  unfold doM
  refine ite_all (P := fun x : SM => x.cells.length = m.cells.length) rfl ?_
  refine ite_all (P := fun x : SM => x.cells.length = m.cells.length) rfl ?_
  refine ite_all (P := fun x : SM => x.cells.length = m.cells.length) List.length_set ?_
  refine ite_all (P := fun x : SM => x.cells.length = m.cells.length) rfl ?_
  refine ite_all (P := fun x : SM => x.cells.length = m.cells.length) List.length_set ?_
  iterate 7 refine ite_all (P := fun x : SM => x.cells.length = m.cells.length) rfl ?_
  rfl
theorem doM_trap (op u t : Int) (m : SM) : (doM op u t m).trap = m.trap := by
  unfold doM
  iterate 12 refine ite_all (P := fun x : SM => x.trap = m.trap) rfl ?_
  rfl
theorem stepL_used (zs : List Int) (m : SM) : (stepL zs m).used = (usedM m).used := by
  unfold stepL
  split
  · rfl
  split
  · rfl
  split
  · rfl
  · rw [doM_used]
theorem stepL_cells (zs : List Int) (m : SM) : (stepL zs m).cells.length = m.cells.length := by
  unfold stepL
  split
  · rfl
  split
  · rfl
  split
  · rfl
  · rw [doM_cells]; rfl
/-- done or trapped, not both -/
def One (m : SM) : Prop := m.done = true → m.trap = 0
theorem stepL_one (zs : List Int) {m : SM} (h : goes m = true) : One (stepL zs m) := by
  unfold goes at h
  simp only [Bool.and_eq_true, Bool.not_eq_true', beq_iff_eq] at h
  have hd : m.done = false := h.1
  have ht : m.trap = 0 := h.2
  unfold stepL
  split
  · intro e; have : m.done = true := e; rw [hd] at this; cases this
  split
  · intro e; have : m.done = true := e; rw [hd] at this; cases this
  split
  · intro e; have : m.done = true := e; rw [hd] at this; cases this
  · intro _; rw [doM_trap]; exact ht
theorem usedM_more {m : SM} (h0 : 0 ≤ m.used) (h : m.used < 20000) : (usedM m).used = m.used + 1 := by
  show ite _ _ _ = _
  rw [if_pos (by omega)]
theorem Ends.of (zs : List Int) (b : Int) (hb : b ≤ 20000) : ∀ (n : Nat) (m : SM), 0 ≤ m.used → b - m.used ≤ n → ∃ r, Ends zs b m r := by
  intro n
  induction n with
  | zero =>
    intro m h0 hn
    cases hg : goes m
    · exact ⟨m, .stop hg⟩
    · exact ⟨_, .many hg (by omega)⟩
  | succ n ih =>
    intro m h0 hn
    cases hg : goes m
    · exact ⟨m, .stop hg⟩
    by_cases hu : b ≤ m.used
    · exact ⟨_, .many hg hu⟩
    · have hu2 := usedM_more h0 (by omega)
      obtain ⟨r, hr⟩ := ih (stepL zs m) (by rw [stepL_used, hu2]; omega) (by rw [stepL_used, hu2]; omega)
      exact ⟨r, .step hg (by omega) hr⟩
/-- what a run ends with -/
theorem Ends.props {zs : List Int} {b : Int} (hb : b ≤ 20000) (hz : wordsB zs = true) (hl : zs.length ≤ 400) {m r : SM} (h : Ends zs b m r) (hg : Good m) (h1 : One m) (hu : m.used ≤ b ∨ goes m = false) (hu2 : m.used ≤ b) :
    Good r ∧ One r ∧ goes r = false ∧ r.used ≤ b ∧ r.cells.length = m.cells.length := by
  induction h with
  | stop h => exact ⟨hg, h1, h, hu2, rfl⟩
  | @many m h h2 =>
    refine ⟨trap_good hg (by omega) (by omega), fun e => ?_, ?_, hu2, rfl⟩
    · have hd : m.done = true := e
      unfold goes at h; rw [hd] at h; simp at h
    · show (!m.done && ((2 : Int) == 0)) = false
      simp
  | @step m r h h2 h3 ih =>
    have hs := usedM_more hg.used0 (by omega)
    have hst : (stepL zs m).used = m.used + 1 := by rw [stepL_used, hs]
    have := ih (stepL_good hg hz hl) (stepL_one zs h) (.inl (by omega)) (by omega)
    exact ⟨this.1, this.2.1, this.2.2.1, this.2.2.2.1, by rw [this.2.2.2.2, stepL_cells]⟩
theorem startM_good {zs : List Int} (h : smF (startM zs) = 0) : Good (startM zs) := good_of h
/-- code and machine of the answers -/
def stepC (zs : List Int) (m : SM) : Int := if fault zs = 0 then smF m else fault zs
def stepR (zs : List Int) (m : SM) : SM := if stepC zs m = 0 then stepM zs m else zeroM
def startC (zs : List Int) : Int := smF (startM zs)
def startR (zs : List Int) : SM := if startC zs = 0 then startM zs else zeroM
def runC (zs ys : List Int) (b : Int) : Int := if fault zs = 0 then (if startC ys = 0 then (if inB b 0 20000 then 0 else 3) else startC ys) else fault zs
theorem fault_good {zs : List Int} (h : fault zs = 0) : wordsB zs = true ∧ zs.length ≤ 400 := by
  by_cases h4 : 400 < zs.length
  · rw [fault_many h4] at h; omega
  · rw [fault_all (by omega)] at h
    cases hw : wordsB zs
    · rw [hw] at h; simp at h
    · exact ⟨rfl, by omega⟩
theorem runC_ok {zs ys : List Int} {b : Int} (h : runC zs ys b = 0) : fault zs = 0 ∧ startC ys = 0 ∧ 0 ≤ b ∧ b ≤ 20000 := by
  unfold runC at h
  split at h
  · rename_i h1
    split at h
    · rename_i h2
      split at h
      · rename_i h3
        exact ⟨h1, h2, inB_iff.1 h3⟩
      · omega
    · rename_i h2; exact absurd h h2
  · rename_i h1; exact absurd h h1
end Go.Proofs.Ytlofagpffeaebaa
