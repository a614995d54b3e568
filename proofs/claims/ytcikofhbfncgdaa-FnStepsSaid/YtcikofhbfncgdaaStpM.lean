/-
  A run with a budget of k is k steps, plainly, for both machines.
-/
import Derived.Test.YtcikofhbfncgdaaRgM
import Derived.Test.YtcikofhbfncgdaaStkRun
import Derived.Test.YtcikofhbfncgdaaCopy
import Derived.Test.YtcikofhbfncgdaaStkMem
namespace Go.Proofs.Ytcikofhbfncgdaa
open Go.RowKit
set_option linter.unusedVariables false

def startRM (zs : List Int) : SM := ⟨0, List.replicate 24 65535, zs, 0, 0, 0, false⟩
/-- from m on the run ends with r -/
inductive REnds (zs : List Int) (b : Int) : SM → SM → Prop
  | stop {m : SM} (h : goes m = false) : REnds zs b m m
  | many {m : SM} (h : goes m = true) (h2 : b ≤ m.used) : REnds zs b m (manyM m)
  | step {m r : SM} (h : goes m = true) (h2 : m.used < b) (h3 : REnds zs b (stepRL zs m) r) : REnds zs b m r
theorem REnds.det {zs : List Int} {b : Int} {m r r' : SM} (h : REnds zs b m r) (h' : REnds zs b m r') : r = r' := by
  induction h with
  | stop h =>
    cases h' with
    | stop => rfl
    | many g => rw [h] at g; cases g
    | step g => rw [h] at g; cases g
  | many h h2 =>
    cases h' with
    | stop g => rw [h] at g; cases g
    | many => rfl
    | step g g2 => omega
  | step h h2 _ ih =>
    cases h' with
    | stop g => rw [h] at g; cases g
    | many g g2 => omega
    | step g g2 g3 => exact ih g3
theorem doR_used (op a b t : Int) (m : SM) : (doR op a b t m).used = m.used := by
  unfold doR
  iterate 12 refine ite_all (P := fun x : SM => x.used = m.used) rfl ?_
  rfl
theorem doR_cells (op a b t : Int) (m : SM) : (doR op a b t m).cells.length = m.cells.length := by
  unfold doR
  refine ite_all (P := fun x : SM => x.cells.length = m.cells.length) rfl ?_
  refine ite_all (P := fun x : SM => x.cells.length = m.cells.length) rfl ?_
  refine ite_all (P := fun x : SM => x.cells.length = m.cells.length) List.length_set ?_
  refine ite_all (P := fun x : SM => x.cells.length = m.cells.length) rfl ?_
  refine ite_all (P := fun x : SM => x.cells.length = m.cells.length) List.length_set ?_
  iterate 7 refine ite_all (P := fun x : SM => x.cells.length = m.cells.length) rfl ?_
  rfl
theorem doR_trap (op a b t : Int) (m : SM) : (doR op a b t m).trap = m.trap := by
  unfold doR
  iterate 12 refine ite_all (P := fun x : SM => x.trap = m.trap) rfl ?_
  rfl
theorem stepL_usedG (zs : List Int) (m : SM) : (stepRL zs m).used = (usedM m).used := by
  unfold stepRL goR
  split
  · rfl
  split
  · rfl
  split
  · rfl
  · rw [doR_used]; rfl
theorem stepL_cellsG (zs : List Int) (m : SM) : (stepRL zs m).cells.length = m.cells.length := by
  unfold stepRL goR
  split
  · rfl
  split
  · rfl
  split
  · rfl
  · rw [doR_cells]; rfl
theorem stepL_oneG (zs : List Int) {m : SM} (h : goes m = true) : One (stepRL zs m) := by
  unfold goes at h
  simp only [Bool.and_eq_true, Bool.not_eq_true', beq_iff_eq] at h
  have hd : m.done = false := h.1
  have ht : m.trap = 0 := h.2
  unfold stepRL goR
  split
  · intro e; have : m.done = true := e; rw [hd] at this; cases this
  split
  · intro e; have : m.done = true := e; rw [hd] at this; cases this
  split
  · intro e; have : m.done = true := e; rw [hd] at this; cases this
  · intro _; rw [doR_trap]; exact ht
theorem REnds.of (zs : List Int) (b : Int) (hb : b ≤ 20000) : ∀ (n : Nat) (m : SM), 0 ≤ m.used → b - m.used ≤ n → ∃ r, REnds zs b m r := by
  intro n
  induction n with
  | zero =>
    intro m h0 hn
    cases hg : goes m
    · exact ⟨m, .stop hg⟩
    · exact ⟨_, .many hg (by omega)⟩
  | succ n ih =>
    intro m h0 hn
    cases hg : goes m
    · exact ⟨m, .stop hg⟩
    by_cases hu : b ≤ m.used
    · exact ⟨_, .many hg hu⟩
    · have hu2 := usedM_more h0 (by omega)
      obtain ⟨r, hr⟩ := ih (stepRL zs m) (by rw [stepL_usedG, hu2]; omega) (by rw [stepL_usedG, hu2]; omega)
      exact ⟨r, .step hg (by omega) hr⟩
/-- what a run ends with -/
theorem REnds.props {zs : List Int} {b : Int} (hb : b ≤ 20000) (hz : wordsB zs = true) (hl : zs.length ≤ 400) {m r : SM} (h : REnds zs b m r) (hg : RGood m) (h1 : One m) (hu : m.used ≤ b ∨ goes m = false) (hu2 : m.used ≤ b) :
    RGood r ∧ One r ∧ goes r = false ∧ r.used ≤ b ∧ r.cells.length = m.cells.length := by
  induction h with
  | stop h => exact ⟨hg, h1, h, hu2, rfl⟩
  | @many m h h2 =>
    refine ⟨trpR_good hg (by omega) (by omega), fun e => ?_, ?_, hu2, rfl⟩
    · have hd : m.done = true := e
      unfold goes at h; rw [hd] at h; simp at h
    · show (!m.done && ((2 : Int) == 0)) = false
      simp
  | @step m r h h2 h3 ih =>
    have hs := usedM_more hg.used0 (by omega)
    have hst : (stepRL zs m).used = m.used + 1 := by rw [stepL_usedG, hs]
    have := ih (stepRL_good hg hz hl) (stepL_oneG zs h) (.inl (by omega)) (by omega)
    exact ⟨this.1, this.2.1, this.2.2.1, this.2.2.2.1, by rw [this.2.2.2.2, stepL_cellsG]⟩
theorem startM_goodG {zs : List Int} (h : rmF (startRM zs) = 0) : RGood (startRM zs) := rgood_of h
/-- code and machine of the answers -/
def stepRC (zs : List Int) (m : SM) : Int := if fault zs = 0 then rmF m else fault zs
def stepRR (zs : List Int) (m : SM) : SM := if stepRC zs m = 0 then stepRM zs m else zeroM
def startRC (zs : List Int) : Int := rmF (startRM zs)
def startRR (zs : List Int) : SM := if startRC zs = 0 then startRM zs else zeroM
def runRC (zs ys : List Int) (b : Int) : Int := if fault zs = 0 then (if startRC ys = 0 then (if inB b 0 20000 then 0 else 3) else startRC ys) else fault zs
theorem runC_okG {zs ys : List Int} {b : Int} (h : runRC zs ys b = 0) : fault zs = 0 ∧ startRC ys = 0 ∧ 0 ≤ b ∧ b ≤ 20000 := by
  unfold runRC at h
  split at h
  · rename_i h1
    split at h
    · rename_i h2
      split at h
      · rename_i h3
        exact ⟨h1, h2, inB_iff.1 h3⟩
      · omega
    · rename_i h2; exact absurd h h2
  · rename_i h1; exact absurd h h1
end Go.Proofs.Ytcikofhbfncgdaa
namespace Go.Proofs.Ytcikofhbfncgdaa
open Go.RowKit
set_option linter.unusedVariables false

/-- block r alone has turned -/
structure Sole1 (r : Nat) (W Z : World) : Prop where
  bel : Below r W Z
  oth : ∀ g, g ≠ r → Z.heap[g]? = W.heap[g]?
theorem Sole1.refl (r : Nat) (W : World) : Sole1 r W W := ⟨Below.refl _ _, fun _ _ => rfl⟩
theorem Sole1.set {r : Nat} {W Z : World} (h : Sole1 r W Z) (i : Nat) (v : Value) : Sole1 r W (Z.setCell ⟨r, i, none⟩ v) :=
  ⟨h.bel.setCell (Nat.le_refl _) v, fun g hg => (heap_setCell_other Z ⟨r, i, none⟩ g v hg).trans (h.oth g hg)⟩

theorem own_sole {w w' : World} {B r n : Nat} {v : Value} {xs : List Value} (h : w.ownsRow B 2 1 v n xs) (hs : Sole1 r w w') (hr : v.ownBlock ≠ some r) : w'.ownsRow B 2 1 v n xs :=
  own_other h (fun g hg => hs.oth g (fun e => hr (by rw [hg, e])))

end Go.Proofs.Ytcikofhbfncgdaa
namespace Go.Proofs.Ytcikofhbfncgdaa
open Go.RowKit
set_option linter.unusedVariables false
/-- a machine as its cells -/
abbrev lineL (m : SM) (sv cv : Value) : Array Value := #[.int .i64 m.pc, sv, cv, .int .i64 m.sig, .int .i64 m.used, .int .i64 m.trap, .bool m.done]
abbrev machL (m : SM) (sv cv : Value) : Value := .agg (lineL m sv cv)
theorem row7 {p : Nat} {w : World} {m : SM} {sv cv : Value} {T : TypeId} (h : w.heap[p]? = some (.cells (lineL m sv cv) T (0, 0))) :
    w.cell? ⟨p, 0, none⟩ = some (.int .i64 m.pc) ∧ w.cell? ⟨p, 1, none⟩ = some sv ∧ w.cell? ⟨p, 2, none⟩ = some cv ∧ w.cell? ⟨p, 3, none⟩ = some (.int .i64 m.sig) ∧ w.cell? ⟨p, 4, none⟩ = some (.int .i64 m.used) ∧ w.cell? ⟨p, 5, none⟩ = some (.int .i64 m.trap) ∧ w.cell? ⟨p, 6, none⟩ = some (.bool m.done) :=
  ⟨cell_of_row _ _ 0 _ _ _ h, cell_of_row _ _ 1 _ _ _ h, cell_of_row _ _ 2 _ _ _ h, cell_of_row _ _ 3 _ _ _ h, cell_of_row _ _ 4 _ _ _ h, cell_of_row _ _ 5 _ _ _ h, cell_of_row _ _ 6 _ _ _ h⟩

abbrev resV (C : Int) (M : SM) (sv cv : Value) : Value := .agg #[.int .i64 C, .int .i64 M.pc, sv, cv, .int .i64 M.sig, .int .i64 M.used, .int .i64 M.trap, .bool M.done]
abbrev zero8 : Array Value := #[.int .i64 0, .int .i64 0, .slice none 0 0, .slice none 0 0, .int .i64 0, .int .i64 0, .int .i64 0, .bool false]
abbrev line8 (C : Int) (M : SM) (sv cv : Value) : Array Value := #[.int .i64 C, .int .i64 M.pc, sv, cv, .int .i64 M.sig, .int .i64 M.used, .int .i64 M.trap, .bool M.done]
theorem row8 {p : Nat} {w : World} {C : Int} {m : SM} {sv cv : Value} {T : TypeId} (h : w.heap[p]? = some (.cells (line8 C m sv cv) T (0, 0))) :
    w.cell? ⟨p, 0, none⟩ = some (.int .i64 C) ∧ w.cell? ⟨p, 1, none⟩ = some (.int .i64 m.pc) ∧ w.cell? ⟨p, 2, none⟩ = some sv ∧ w.cell? ⟨p, 3, none⟩ = some cv ∧ w.cell? ⟨p, 4, none⟩ = some (.int .i64 m.sig) ∧ w.cell? ⟨p, 5, none⟩ = some (.int .i64 m.used) ∧ w.cell? ⟨p, 6, none⟩ = some (.int .i64 m.trap) ∧ w.cell? ⟨p, 7, none⟩ = some (.bool m.done) :=
  ⟨cell_of_row _ _ 0 _ _ _ h, cell_of_row _ _ 1 _ _ _ h, cell_of_row _ _ 2 _ _ _ h, cell_of_row _ _ 3 _ _ _ h, cell_of_row _ _ 4 _ _ _ h, cell_of_row _ _ 5 _ _ _ h, cell_of_row _ _ 6 _ _ _ h, cell_of_row _ _ 7 _ _ _ h⟩
/-- a code and nothing else -/
abbrev codeV (F : Int) : Value := .agg #[.int .i64 F, .int .i64 0, .slice none 0 0, .slice none 0 0, .int .i64 0, .int .i64 0, .int .i64 0, .bool false]
/-- a StackResult that a call made -/
def ResR (w w' : World) (e : Ending) (C : Int) (M : SM) : Prop := ∃ sv cv, e = .returned (resV C M sv cv) ∧ Own w' w.heap.size sv M.stk ∧ Own w' w.heap.size cv M.cells ∧ (∀ g, sv.ownBlock = some g → cv.ownBlock ≠ some g) ∧ Below w.heap.size w w'
theorem fill8 (r : Nat) (W : World) (v0 v1 v2 v3 v4 v5 v6 v7 : Value) : Sole1 r W ((((((((W.setCell ⟨r, 0, none⟩ v0).setCell ⟨r, 1, none⟩ v1).setCell ⟨r, 2, none⟩ v2).setCell ⟨r, 3, none⟩ v3).setCell ⟨r, 4, none⟩ v4).setCell ⟨r, 5, none⟩ v5).setCell ⟨r, 6, none⟩ v6).setCell ⟨r, 7, none⟩ v7) :=
  ((((((((Sole1.refl r W).set 0 v0).set 1 v1).set 2 v2).set 3 v3).set 4 v4).set 5 v5).set 6 v6).set 7 v7
/-- the answer with a code alone -/
theorem res_code (w W : World) (r : Nat) (F : Int) (hr : w.heap.size ≤ r) (hB : Below w.heap.size w W) : ResR w ((((((((W.setCell ⟨r, 0, none⟩ (.int .i64 F)).setCell ⟨r, 1, none⟩ (.int .i64 0)).setCell ⟨r, 2, none⟩ (.slice none 0 0)).setCell ⟨r, 3, none⟩ (.slice none 0 0)).setCell ⟨r, 4, none⟩ (.int .i64 0)).setCell ⟨r, 5, none⟩ (.int .i64 0)).setCell ⟨r, 6, none⟩ (.int .i64 0)).setCell ⟨r, 7, none⟩ (.bool false)) (.returned (resV F zeroM (.slice none 0 0) (.slice none 0 0))) F zeroM :=
  ⟨_, _, rfl, World.ownsRow_nil _ _ _ _, World.ownsRow_nil _ _ _ _, fun g h => by simp [Value.ownBlock] at h, hB.trans ((fill8 r W (.int .i64 F) (.int .i64 0) (.slice none 0 0) (.slice none 0 0) (.int .i64 0) (.int .i64 0) (.int .i64 0) (.bool false)).bel.mono hr)⟩
/-- the answer with a machine -/
theorem res_mach (w W : World) (r B : Nat) (M : SM) (sv cv : Value) (hr : w.heap.size ≤ r) (hrB : r < B) (hs : Own W B sv M.stk) (hc : Own W B cv M.cells) (hd : ∀ g, sv.ownBlock = some g → cv.ownBlock ≠ some g) (hB : Below w.heap.size w W) : ResR w ((((((((W.setCell ⟨r, 0, none⟩ (.int .i64 0)).setCell ⟨r, 1, none⟩ (.int .i64 M.pc)).setCell ⟨r, 2, none⟩ sv).setCell ⟨r, 3, none⟩ cv).setCell ⟨r, 4, none⟩ (.int .i64 M.sig)).setCell ⟨r, 5, none⟩ (.int .i64 M.used)).setCell ⟨r, 6, none⟩ (.int .i64 M.trap)).setCell ⟨r, 7, none⟩ (.bool M.done)) (.returned (resV 0 M sv cv)) 0 M :=
  have hE := fill8 r W (.int .i64 0) (.int .i64 M.pc) sv cv (.int .i64 M.sig) (.int .i64 M.used) (.int .i64 M.trap) (.bool M.done)
  ⟨_, _, rfl, own_mono (own_sole hs hE (fun e => by have := (hs.lt _ e).1; omega)) (by omega), own_mono (own_sole hc hE (fun e => by have := (hc.lt _ e).1; omega)) (by omega), hd, hB.trans (hE.bel.mono hr)⟩
end Go.Proofs.Ytcikofhbfncgdaa
namespace Go.Proofs.Ytcikofhbfncgdaa
open Go.RowKit
set_option linter.unusedVariables false

def itS (zs ys : List Int) : Nat → SM
  | 0 => startM ys
  | k + 1 => stepM zs (itS zs ys k)
def itR (zs ys : List Int) : Nat → SM
  | 0 => startRM ys
  | k + 1 => stepRM zs (itR zs ys k)
theorem itS_good {zs ys : List Int} (h : Good (startM ys)) (hc : wordsB zs = true) (hl : zs.length ≤ 400) : ∀ k, Good (itS zs ys k)
  | 0 => h
  | k + 1 => stepM_good (itS_good h hc hl k) hc hl
theorem itR_good {zs ys : List Int} (h : RGood (startRM ys)) (hc : wordsB zs = true) (hl : zs.length ≤ 400) : ∀ k, RGood (itR zs ys k)
  | 0 => h
  | k + 1 => stepRM_good (itR_good h hc hl k) hc hl
theorem itS_goes {zs ys : List Int} {k : Nat} (h : goes (itS zs ys (k + 1)) = true) : goes (itS zs ys k) = true := by
  cases hg : goes (itS zs ys k)
  · have e : itS zs ys (k + 1) = itS zs ys k := if_neg (by rw [hg]; simp)
    rw [e, hg] at h
    exact h
  · rfl
theorem itR_goes {zs ys : List Int} {k : Nat} (h : goes (itR zs ys (k + 1)) = true) : goes (itR zs ys k) = true := by
  cases hg : goes (itR zs ys k)
  · have e : itR zs ys (k + 1) = itR zs ys k := if_neg (by rw [hg]; simp)
    rw [e, hg] at h
    exact h
  · rfl
theorem itS_used {zs ys : List Int} : ∀ {k : Nat}, k ≤ 100 → goes (itS zs ys k) = true → (itS zs ys k).used = k
  | 0, _, _ => rfl
  | k + 1, hk, h => by
    have hg := itS_goes h
    have hu := itS_used (k := k) (by omega) hg
    have e : itS zs ys (k + 1) = stepL zs (itS zs ys k) := if_pos hg
    rw [e, stepL_used, usedM_more (by omega) (by omega), hu]
    omega
theorem itR_used {zs ys : List Int} : ∀ {k : Nat}, k ≤ 100 → goes (itR zs ys k) = true → (itR zs ys k).used = k
  | 0, _, _ => rfl
  | k + 1, hk, h => by
    have hg := itR_goes h
    have hu := itR_used (k := k) (by omega) hg
    have e : itR zs ys (k + 1) = stepRL zs (itR zs ys k) := if_pos hg
    rw [e, stepL_usedG, usedM_more (by omega) (by omega), hu]
    omega
theorem itS_ends {zs ys : List Int} {b : Nat} (hb : b ≤ 100) : ∀ {k : Nat} {r : SM}, k ≤ b → goes (itS zs ys k) = true → Ends zs b (itS zs ys k) r → Ends zs b (startM ys) r
  | 0, r, _, _, h => h
  | k + 1, r, hk, hg, h => by
    have hg0 := itS_goes hg
    have e : itS zs ys (k + 1) = stepL zs (itS zs ys k) := if_pos hg0
    refine itS_ends hb (k := k) (by omega) hg0 (.step hg0 ?_ (by rw [← e]; exact h))
    rw [itS_used (by omega) hg0]
    omega
theorem itR_ends {zs ys : List Int} {b : Nat} (hb : b ≤ 100) : ∀ {k : Nat} {r : SM}, k ≤ b → goes (itR zs ys k) = true → REnds zs b (itR zs ys k) r → REnds zs b (startRM ys) r
  | 0, r, _, _, h => h
  | k + 1, r, hk, hg, h => by
    have hg0 := itR_goes hg
    have e : itR zs ys (k + 1) = stepRL zs (itR zs ys k) := if_pos hg0
    refine itR_ends hb (k := k) (by omega) hg0 (.step hg0 ?_ (by rw [← e]; exact h))
    rw [itR_used (by omega) hg0]
    omega
/-- a run of budget k stands where k steps lead, as long as the machine goes on -/
theorem runS_it {zs ys : List Int} {k : Nat} {R : SM} (hk : k ≤ 100) (h : Ends zs k (startM ys) R) (hg : goes (itS zs ys k) = true) : R = manyM (itS zs ys k) :=
  h.det (itS_ends hk (Nat.le_refl k) hg (.many hg (by rw [itS_used hk hg]; omega)))
theorem runR_it {zs ys : List Int} {k : Nat} {R : SM} (hk : k ≤ 100) (h : REnds zs k (startRM ys) R) (hg : goes (itR zs ys k) = true) : R = manyM (itR zs ys k) :=
  h.det (itR_ends hk (Nat.le_refl k) hg (.many hg (by rw [itR_used hk hg]; omega)))

/-- a result in its block p, its rows in other blocks than p and q -/
structure InB (W : World) (T : TypeId) (p q : Nat) (M : SM) (sv cv : Value) : Prop where
  row : W.heap[p]? = some (.cells (line8 0 M sv cv) T (0, 0))
  s : Own W 0 sv M.stk
  c : Own W 0 cv M.cells
  ds : ∀ g, sv.ownBlock = some g → g ≠ p ∧ g ≠ q
  dc : ∀ g, cv.ownBlock = some g → g ≠ p ∧ g ≠ q
theorem InB.below {W W' : World} {T : TypeId} {p q : Nat} {M : SM} {sv cv : Value} (h : InB W T p q M sv cv) (hb : Below W.heap.size W W') : InB W' T p q M sv cv :=
  ⟨(hb.block _ (Array.getElem?_eq_some_iff.1 h.row).1).trans h.row, own_kept h.s hb, own_kept h.c hb, h.ds, h.dc⟩
theorem InB.swap {W W' : World} {T : TypeId} {p q : Nat} {M : SM} {sv cv : Value} (h : InB W T p q M sv cv) (hs : Sole1 q W W') (hpq : p ≠ q) : InB W' T p q M sv cv :=
  ⟨(hs.oth _ hpq).trans h.row, own_other h.s (fun g hg => hs.oth g (h.ds g hg).2), own_other h.c (fun g hg => hs.oth g (h.dc g hg).2), h.ds, h.dc⟩
theorem InB.rows {W : World} {T : TypeId} {p q : Nat} {M : SM} {sv cv : Value} (h : InB W T p q M sv cv) : RowV W sv M.stk ∧ RowV W cv M.cells := ⟨own_row h.s, own_row h.c⟩
theorem InB.put {W W6 : World} {T : TypeId} {p q : Nat} {M M' : SM} {sv cv s' c' : Value} (h : InB W T p q M sv cv) (hq : q < W.heap.size) (hb : Below W.heap.size W W6) (hs : Own W6 W.heap.size s' M'.stk) (hc : Own W6 W.heap.size c' M'.cells) : InB ((((((((W6.setCell ⟨p, 0, none⟩ (.int .i64 0)).setCell ⟨p, 1, none⟩ (.int .i64 M'.pc)).setCell ⟨p, 2, none⟩ s').setCell ⟨p, 3, none⟩ c').setCell ⟨p, 4, none⟩ (.int .i64 M'.sig)).setCell ⟨p, 5, none⟩ (.int .i64 M'.used)).setCell ⟨p, 6, none⟩ (.int .i64 M'.trap)).setCell ⟨p, 7, none⟩ (.bool M'.done)) T p q M' s' c' := by
  have hp := (Array.getElem?_eq_some_iff.1 h.row).1
  have hr := (hb.block _ hp).trans h.row
  have hE := fill8 p W6 (.int .i64 0) (.int .i64 M'.pc) s' c' (.int .i64 M'.sig) (.int .i64 M'.used) (.int .i64 M'.trap) (.bool M'.done)
  have hO := heap_setCell_same _ p 7 _ _ (.bool M'.done) (heap_setCell_same _ p 6 _ _ (.int .i64 M'.trap) (heap_setCell_same _ p 5 _ _ (.int .i64 M'.used) (heap_setCell_same _ p 4 _ _ (.int .i64 M'.sig) (heap_setCell_same _ p 3 _ _ c' (heap_setCell_same _ p 2 _ _ s' (heap_setCell_same _ p 1 _ _ (.int .i64 M'.pc) (heap_setCell_same W6 p 0 _ _ (.int .i64 0) hr)))))))
  simp at hO
  exact ⟨hO, own_mono (own_other hs (fun g hg => hE.oth g (by have := (hs.lt g hg).1; omega))) (Nat.zero_le _), own_mono (own_other hc (fun g hg => hE.oth g (by have := (hc.lt g hg).1; omega))) (Nat.zero_le _), fun g hg => by have := (hs.lt g hg).1; omega, fun g hg => by have := (hc.lt g hg).1; omega⟩
end Go.Proofs.Ytcikofhbfncgdaa
