/-
  spec.l8Fault, StackFault.
-/
import Derived.Test.YtcikofhbfncgdaaStkMem
import Derived.Test.YtcikofhbfncgdaaWords0
import Derived.Test.YtcikofhbfncgdaaDrawG
import Derived.Test.YtcikofhbfncgdaaStkMem
import Derived.Deep.Cut
import Derived.Deep.DrawnRows
namespace Go.Proofs.Ytcikofhbfncgdaa
open Go.RowKit
set_option linter.unusedVariables false

def zeroM : SM := ⟨0, [], [], 0, 0, 0, false⟩
def startM (zs : List Int) : SM := ⟨0, [], zs, 0, 0, 0, false⟩
def manyM (m : SM) : SM := { m with trap := 2 }
/-- from m on the run ends with r -/
inductive Ends (zs : List Int) (b : Int) : SM → SM → Prop
  | stop {m : SM} (h : goes m = false) : Ends zs b m m
  | many {m : SM} (h : goes m = true) (h2 : b ≤ m.used) : Ends zs b m (manyM m)
  | step {m r : SM} (h : goes m = true) (h2 : m.used < b) (h3 : Ends zs b (stepL zs m) r) : Ends zs b m r
theorem Ends.det {zs : List Int} {b : Int} {m r r' : SM} (h : Ends zs b m r) (h' : Ends zs b m r') : r = r' := by
  induction h with
  | stop h =>
    cases h' with
    | stop => rfl
    | many g => rw [h] at g; cases g
    | step g => rw [h] at g; cases g
  | many h h2 =>
    cases h' with
    | stop g => rw [h] at g; cases g
    | many => rfl
    | step g g2 => omega
  | step h h2 _ ih =>
    cases h' with
    | stop g => rw [h] at g; cases g
    | many g g2 => omega
    | step g g2 g3 => exact ih g3
theorem ite_all {α : Type} {P : α → Prop} {c : Prop} [Decidable c] {a b : α} (ha : P a) (hb : P b) : P (if c then a else b) := by split <;> assumption
theorem doM_used (op u t : Int) (m : SM) : (doM op u t m).used = m.used := by
  unfold doM
  iterate 12 refine ite_all (P := fun x : SM => x.used = m.used) rfl ?_
  rfl
theorem doM_cells (op u t : Int) (m : SM) : (doM op u t m).cells.length = m.cells.length := by
  unfold doM
  refine ite_all (P := fun x : SM => x.cells.length = m.cells.length) rfl ?_
  refine ite_all (P := fun x : SM => x.cells.length = m.cells.length) rfl ?_
  refine ite_all (P := fun x : SM => x.cells.length = m.cells.length) List.length_set ?_
  refine ite_all (P := fun x : SM => x.cells.length = m.cells.length) rfl ?_
  refine ite_all (P := fun x : SM => x.cells.length = m.cells.length) List.length_set ?_
  iterate 7 refine ite_all (P := fun x : SM => x.cells.length = m.cells.length) rfl ?_
  rfl
theorem doM_trap (op u t : Int) (m : SM) : (doM op u t m).trap = m.trap := by
  unfold doM
  iterate 12 refine ite_all (P := fun x : SM => x.trap = m.trap) rfl ?_
  rfl
theorem stepL_used (zs : List Int) (m : SM) : (stepL zs m).used = (usedM m).used := by
  unfold stepL
  split
  · rfl
  split
  · rfl
  split
  · rfl
  · rw [doM_used]
theorem stepL_cells (zs : List Int) (m : SM) : (stepL zs m).cells.length = m.cells.length := by
  unfold stepL
  split
  · rfl
  split
  · rfl
  split
  · rfl
  · rw [doM_cells]; rfl
/-- done or trapped, not both -/
def One (m : SM) : Prop := m.done = true → m.trap = 0
theorem stepL_one (zs : List Int) {m : SM} (h : goes m = true) : One (stepL zs m) := by
  unfold goes at h
  simp only [Bool.and_eq_true, Bool.not_eq_true', beq_iff_eq] at h
  have hd : m.done = false := h.1
  have ht : m.trap = 0 := h.2
  unfold stepL
  split
  · intro e; have : m.done = true := e; rw [hd] at this; cases this
  split
  · intro e; have : m.done = true := e; rw [hd] at this; cases this
  split
  · intro e; have : m.done = true := e; rw [hd] at this; cases this
  · intro _; rw [doM_trap]; exact ht
theorem usedM_more {m : SM} (h0 : 0 ≤ m.used) (h : m.used < 20000) : (usedM m).used = m.used + 1 := by
  show ite _ _ _ = _
  rw [if_pos (by omega)]
theorem Ends.of (zs : List Int) (b : Int) (hb : b ≤ 20000) : ∀ (n : Nat) (m : SM), 0 ≤ m.used → b - m.used ≤ n → ∃ r, Ends zs b m r := by
  intro n
  induction n with
  | zero =>
    intro m h0 hn
    cases hg : goes m
    · exact ⟨m, .stop hg⟩
    · exact ⟨_, .many hg (by omega)⟩
  | succ n ih =>
    intro m h0 hn
    cases hg : goes m
    · exact ⟨m, .stop hg⟩
    by_cases hu : b ≤ m.used
    · exact ⟨_, .many hg hu⟩
    · have hu2 := usedM_more h0 (by omega)
      obtain ⟨r, hr⟩ := ih (stepL zs m) (by rw [stepL_used, hu2]; omega) (by rw [stepL_used, hu2]; omega)
      exact ⟨r, .step hg (by omega) hr⟩
/-- what a run ends with -/
theorem Ends.props {zs : List Int} {b : Int} (hb : b ≤ 20000) (hz : wordsB zs = true) (hl : zs.length ≤ 400) {m r : SM} (h : Ends zs b m r) (hg : Good m) (h1 : One m) (hu : m.used ≤ b ∨ goes m = false) (hu2 : m.used ≤ b) :
    Good r ∧ One r ∧ goes r = false ∧ r.used ≤ b ∧ r.cells.length = m.cells.length := by
  induction h with
  | stop h => exact ⟨hg, h1, h, hu2, rfl⟩
  | @many m h h2 =>
    refine ⟨trap_good hg (by omega) (by omega), fun e => ?_, ?_, hu2, rfl⟩
    · have hd : m.done = true := e
      unfold goes at h; rw [hd] at h; simp at h
    · show (!m.done && ((2 : Int) == 0)) = false
      simp
  | @step m r h h2 h3 ih =>
    have hs := usedM_more hg.used0 (by omega)
    have hst : (stepL zs m).used = m.used + 1 := by rw [stepL_used, hs]
    have := ih (stepL_good hg hz hl) (stepL_one zs h) (.inl (by omega)) (by omega)
    exact ⟨this.1, this.2.1, this.2.2.1, this.2.2.2.1, by rw [this.2.2.2.2, stepL_cells]⟩
theorem startM_good {zs : List Int} (h : smF (startM zs) = 0) : Good (startM zs) := good_of h
/-- code and machine of the answers -/
def stepC (zs : List Int) (m : SM) : Int := if fault zs = 0 then smF m else fault zs
def stepR (zs : List Int) (m : SM) : SM := if stepC zs m = 0 then stepM zs m else zeroM
def startC (zs : List Int) : Int := smF (startM zs)
def startR (zs : List Int) : SM := if startC zs = 0 then startM zs else zeroM
def runC (zs ys : List Int) (b : Int) : Int := if fault zs = 0 then (if startC ys = 0 then (if inB b 0 20000 then 0 else 3) else startC ys) else fault zs
theorem fault_good {zs : List Int} (h : fault zs = 0) : wordsB zs = true ∧ zs.length ≤ 400 := by
  by_cases h4 : 400 < zs.length
  · rw [fault_many h4] at h; omega
  · rw [fault_all (by omega)] at h
    cases hw : wordsB zs
    · rw [hw] at h; simp at h
    · exact ⟨rfl, by omega⟩
theorem runC_ok {zs ys : List Int} {b : Int} (h : runC zs ys b = 0) : fault zs = 0 ∧ startC ys = 0 ∧ 0 ≤ b ∧ b ≤ 20000 := by
  unfold runC at h
  split at h
  · rename_i h1
    split at h
    · rename_i h2
      split at h
      · rename_i h3
        exact ⟨h1, h2, inB_iff.1 h3⟩
      · omega
    · rename_i h2; exact absurd h h2
  · rename_i h1; exact absurd h h1
end Go.Proofs.Ytcikofhbfncgdaa
namespace Go.Proofs.Ytcikofhbfncgdaa
open Go.RowKit
set_option linter.unusedVariables false

def startRM (zs : List Int) : SM := ⟨0, List.replicate 24 65535, zs, 0, 0, 0, false⟩
/-- from m on the run ends with r -/
inductive REnds (zs : List Int) (b : Int) : SM → SM → Prop
  | stop {m : SM} (h : goes m = false) : REnds zs b m m
  | many {m : SM} (h : goes m = true) (h2 : b ≤ m.used) : REnds zs b m (manyM m)
  | step {m r : SM} (h : goes m = true) (h2 : m.used < b) (h3 : REnds zs b (stepRL zs m) r) : REnds zs b m r
theorem REnds.det {zs : List Int} {b : Int} {m r r' : SM} (h : REnds zs b m r) (h' : REnds zs b m r') : r = r' := by
  induction h with
  | stop h =>
    cases h' with
    | stop => rfl
    | many g => rw [h] at g; cases g
    | step g => rw [h] at g; cases g
  | many h h2 =>
    cases h' with
    | stop g => rw [h] at g; cases g
    | many => rfl
    | step g g2 => omega
  | step h h2 _ ih =>
    cases h' with
    | stop g => rw [h] at g; cases g
    | many g g2 => omega
    | step g g2 g3 => exact ih g3
theorem doR_used (op a b t : Int) (m : SM) : (doR op a b t m).used = m.used := by
  unfold doR
  iterate 12 refine ite_all (P := fun x : SM => x.used = m.used) rfl ?_
  rfl
theorem doR_cells (op a b t : Int) (m : SM) : (doR op a b t m).cells.length = m.cells.length := by
  unfold doR
  refine ite_all (P := fun x : SM => x.cells.length = m.cells.length) rfl ?_
  refine ite_all (P := fun x : SM => x.cells.length = m.cells.length) rfl ?_
  refine ite_all (P := fun x : SM => x.cells.length = m.cells.length) List.length_set ?_
  refine ite_all (P := fun x : SM => x.cells.length = m.cells.length) rfl ?_
  refine ite_all (P := fun x : SM => x.cells.length = m.cells.length) List.length_set ?_
  iterate 7 refine ite_all (P := fun x : SM => x.cells.length = m.cells.length) rfl ?_
  rfl
theorem doR_trap (op a b t : Int) (m : SM) : (doR op a b t m).trap = m.trap := by
  unfold doR
  iterate 12 refine ite_all (P := fun x : SM => x.trap = m.trap) rfl ?_
  rfl
theorem stepL_usedG (zs : List Int) (m : SM) : (stepRL zs m).used = (usedM m).used := by
  unfold stepRL goR
  split
  · rfl
  split
  · rfl
  split
  · rfl
  · rw [doR_used]; rfl
theorem stepL_cellsG (zs : List Int) (m : SM) : (stepRL zs m).cells.length = m.cells.length := by
  unfold stepRL goR
  split
  · rfl
  split
  · rfl
  split
  · rfl
  · rw [doR_cells]; rfl
theorem stepL_oneG (zs : List Int) {m : SM} (h : goes m = true) : One (stepRL zs m) := by
  unfold goes at h
  simp only [Bool.and_eq_true, Bool.not_eq_true', beq_iff_eq] at h
  have hd : m.done = false := h.1
  have ht : m.trap = 0 := h.2
  unfold stepRL goR
  split
  · intro e; have : m.done = true := e; rw [hd] at this; cases this
  split
  · intro e; have : m.done = true := e; rw [hd] at this; cases this
  split
  · intro e; have : m.done = true := e; rw [hd] at this; cases this
  · intro _; rw [doR_trap]; exact ht
theorem REnds.of (zs : List Int) (b : Int) (hb : b ≤ 20000) : ∀ (n : Nat) (m : SM), 0 ≤ m.used → b - m.used ≤ n → ∃ r, REnds zs b m r := by
  intro n
  induction n with
  | zero =>
    intro m h0 hn
    cases hg : goes m
    · exact ⟨m, .stop hg⟩
    · exact ⟨_, .many hg (by omega)⟩
  | succ n ih =>
    intro m h0 hn
    cases hg : goes m
    · exact ⟨m, .stop hg⟩
    by_cases hu : b ≤ m.used
    · exact ⟨_, .many hg hu⟩
    · have hu2 := usedM_more h0 (by omega)
      obtain ⟨r, hr⟩ := ih (stepRL zs m) (by rw [stepL_usedG, hu2]; omega) (by rw [stepL_usedG, hu2]; omega)
      exact ⟨r, .step hg (by omega) hr⟩
/-- what a run ends with -/
theorem REnds.props {zs : List Int} {b : Int} (hb : b ≤ 20000) (hz : wordsB zs = true) (hl : zs.length ≤ 400) {m r : SM} (h : REnds zs b m r) (hg : RGood m) (h1 : One m) (hu : m.used ≤ b ∨ goes m = false) (hu2 : m.used ≤ b) :
    RGood r ∧ One r ∧ goes r = false ∧ r.used ≤ b ∧ r.cells.length = m.cells.length := by
  induction h with
  | stop h => exact ⟨hg, h1, h, hu2, rfl⟩
  | @many m h h2 =>
    refine ⟨trpR_good hg (by omega) (by omega), fun e => ?_, ?_, hu2, rfl⟩
    · have hd : m.done = true := e
      unfold goes at h; rw [hd] at h; simp at h
    · show (!m.done && ((2 : Int) == 0)) = false
      simp
  | @step m r h h2 h3 ih =>
    have hs := usedM_more hg.used0 (by omega)
    have hst : (stepRL zs m).used = m.used + 1 := by rw [stepL_usedG, hs]
    have := ih (stepRL_good hg hz hl) (stepL_oneG zs h) (.inl (by omega)) (by omega)
    exact ⟨this.1, this.2.1, this.2.2.1, this.2.2.2.1, by rw [this.2.2.2.2, stepL_cellsG]⟩
theorem startM_goodG {zs : List Int} (h : rmF (startRM zs) = 0) : RGood (startRM zs) := rgood_of h
/-- code and machine of the answers -/
def stepRC (zs : List Int) (m : SM) : Int := if fault zs = 0 then rmF m else fault zs
def stepRR (zs : List Int) (m : SM) : SM := if stepRC zs m = 0 then stepRM zs m else zeroM
def startRC (zs : List Int) : Int := rmF (startRM zs)
def startRR (zs : List Int) : SM := if startRC zs = 0 then startRM zs else zeroM
def runRC (zs ys : List Int) (b : Int) : Int := if fault zs = 0 then (if startRC ys = 0 then (if inB b 0 20000 then 0 else 3) else startRC ys) else fault zs
theorem runC_okG {zs ys : List Int} {b : Int} (h : runRC zs ys b = 0) : fault zs = 0 ∧ startRC ys = 0 ∧ 0 ≤ b ∧ b ≤ 20000 := by
  unfold runRC at h
  split at h
  · rename_i h1
    split at h
    · rename_i h2
      split at h
      · rename_i h3
        exact ⟨h1, h2, inB_iff.1 h3⟩
      · omega
    · rename_i h2; exact absurd h h2
  · rename_i h1; exact absurd h h1
end Go.Proofs.Ytcikofhbfncgdaa
namespace Go.Proofs.Ytcikofhbfncgdaa
open Go.RowKit
set_option linter.unusedVariables false
attribute [local go_sem ↓] Go.wp_at_zero Go.wp_at_succ

abbrev machVs (m : SM) (sv cv : Value) : Value := .agg #[.int .i64 m.pc, sv, cv, .int .i64 m.sig, .int .i64 m.used, .int .i64 m.trap, .bool m.done]
set_option maxHeartbeats 800000 in
theorem sAll_any (a : Option Addr) (zs : List Int) (cap : Nat) (w : World) (hlen : zs.length ≤ 1048576) (hn : Nums w a zs) :
    Calls Try.prog 115 #[.slice a zs.length cap] w fun e w' => e = .returned (.bool (wordsB zs)) ∧ w' = w := by
  go_enter Try.func115, Try.ntmps115
  go_wp2
  go_loop [3] (fun i => ∃ k : Nat, k ≤ zs.length ∧ i = .int .i64 k ∧ ∀ j, j < k → 0 ≤ zs.getD j 0 ∧ zs.getD j 0 ≤ 65535) (fun i => zs.length - (intOf i).toNat)
  case atStart => exact ⟨0, Nat.zero_le _, rfl, fun j hj => by omega⟩
  case round =>
    obtain ⟨k, hk, rfl, ho⟩ := hrel
    have HO : Hid _ := ho
    clear ho
    by_cases hlt : k < zs.length
    · rcases hn with hn | ⟨b, off, rfl, hc⟩
      · subst hn; simp at hlt
      have hcell := hc k hlt
      clear hc
      obtain ⟨z, hz⟩ : ∃ z, z = zs.getD k 0 := ⟨_, rfl⟩
      rw [← hz] at hcell
      have HZ : Hid _ := hz
      clear hz
      by_cases h5 : 0 ≤ z ∧ z ≤ 65535
      · obtain ⟨h5, h6⟩ := h5
        go_wp2_with (go_at_call 82; refine (l1Word_yes _ _ h5 h6).mono ?_; rintro e w' ⟨rfl, rfl⟩)
        go_round
        case rel =>
          refine ⟨k + 1, by omega, by go_num, fun j hj => ?_⟩
          by_cases hjk : j = k
          · subst hjk; rw [← HZ.out]; exact ⟨h5, h6⟩
          · exact HO.out j (by omega)
        case measure => simp [intOf]; omega
      · have h6 : z < 0 ∨ 65535 < z := by omega
        have H6 : Hid _ := h6
        clear h6 h5
        go_wp2_with (go_at_call 82; refine (l1Word_no _ _ H6.out).mono ?_; rintro e w' ⟨rfl, rfl⟩)
        go_ret
        have hf := wordsB_bad k hlt (by rw [← HZ.out]; exact H6.out)
        exact ⟨by rw [hf]; rfl, rfl⟩
    · have hk2 : k = zs.length := by omega
      subst hk2
      go_wp2
      go_ret
      have hf := wordsB_ok HO.out
      exact ⟨by rw [hf]; rfl, rfl⟩

theorem RunS.cells {p : Nat} {w : World} {m : SM} {sv cv : Value} (h : w.heap[p]? = some (.cells (lineS m sv cv) 39 (0, 0))) :
    w.cell? ⟨p, 0, none⟩ = some (.int .i64 m.pc) ∧ w.cell? ⟨p, 1, none⟩ = some sv ∧ w.cell? ⟨p, 2, none⟩ = some cv ∧ w.cell? ⟨p, 3, none⟩ = some (.int .i64 m.sig) ∧ w.cell? ⟨p, 4, none⟩ = some (.int .i64 m.used) ∧ w.cell? ⟨p, 5, none⟩ = some (.int .i64 m.trap) ∧ w.cell? ⟨p, 6, none⟩ = some (.bool m.done) :=
  ⟨cell_of_row _ _ 0 _ _ _ h, cell_of_row _ _ 1 _ _ _ h, cell_of_row _ _ 2 _ _ _ h, cell_of_row _ _ 3 _ _ _ h, cell_of_row _ _ 4 _ _ _ h, cell_of_row _ _ 5 _ _ _ h, cell_of_row _ _ 6 _ _ _ h⟩

set_option maxHeartbeats 6400000 in
set_option maxRecDepth 100000 in
theorem l8Fault_any (p : Nat) (m : SM) (sv cv : Value) (w : World) (hp : w.heap[p]? = some (.cells (lineS m sv cv) 39 (0, 0))) (hs : RowV w sv m.stk) (hc : RowV w cv m.cells) (hl1 : m.stk.length ≤ 1048576) (hl2 : m.cells.length ≤ 1048576) :
    Calls Try.prog 83 #[.pointer (some ⟨p, 0, none⟩)] w fun e w' => e = .returned (.int .i64 (smF m)) ∧ w' = w := by
  obtain ⟨a1, k1, rfl, hn1, _⟩ := hs
  obtain ⟨a2, k2, rfl, hn2, _⟩ := hc
  obtain ⟨c0, c1, c2, c3, c4, c5, _⟩ := RunS.cells hp
  have HP : Hid (Calls Try.prog 82 #[.int .i64 m.pc] w fun e w' => e = .returned (.bool (inB m.pc 0 65535)) ∧ w' = w) := l1Word_any m.pc w
  have HG : Hid (Calls Try.prog 82 #[.int .i64 m.sig] w fun e w' => e = .returned (.bool (inB m.sig 0 65535)) ∧ w' = w) := l1Word_any m.sig w
  have H1 : Hid (Calls Try.prog 115 #[.slice a1 m.stk.length k1] w fun e w' => e = .returned (.bool (wordsB m.stk)) ∧ w' = w) := sAll_any a1 m.stk k1 w hl1 hn1
  have H2 : Hid (Calls Try.prog 115 #[.slice a2 m.cells.length k2] w fun e w' => e = .returned (.bool (wordsB m.cells)) ∧ w' = w) := sAll_any a2 m.cells k2 w hl2 hn2
  have HU : Hid (Calls Try.prog 71 #[.int .i64 m.used, .int .i64 0, .int .i64 1000000] w fun e w' => e = .returned (.bool (inB m.used 0 1000000)) ∧ w' = w) := l1In_any m.used 0 1000000 w
  have HT : Hid (Calls Try.prog 71 #[.int .i64 m.trap, .int .i64 0, .int .i64 10] w fun e w' => e = .returned (.bool (inB m.trap 0 10)) ∧ w' = w) := l1In_any m.trap 0 10 w
  have hF : Hid (smFit m = (inB m.pc 0 65535 && inB m.sig 0 65535 && wordsB m.stk && wordsB m.cells && inB m.used 0 1000000 && inB m.trap 0 10)) := rfl
  have HS : Hid (smF m = if smFit m then (if 40 < m.stk.length ∨ 80 < m.cells.length then 2 else 0) else 3) := rfl
  clear hn1 hn2 hp
  generalize inB m.pc 0 65535 = q1 at *
  generalize inB m.sig 0 65535 = q2 at *
  generalize wordsB m.stk = q3 at *
  generalize wordsB m.cells = q4 at *
  generalize inB m.used 0 1000000 = q5 at *
  generalize inB m.trap 0 10 = q6 at *
  go_enter Try.func83, Try.ntmps83
  go_upto_region 1 with fail
  go_cut [48] from 3 (fun x W1 => x = .bool (!(q1 && q2 && q3 && q4 && q5 && q6)) ∧ W1 = w)
  case first =>
    clear HS hF
    have hq : (q1 = false) ∨ (q1 = true ∧ q2 = false) ∨ (q1 = true ∧ q2 = true ∧ q3 = false) ∨ (q1 = true ∧ q2 = true ∧ q3 = true ∧ q4 = false) ∨ (q1 = true ∧ q2 = true ∧ q3 = true ∧ q4 = true ∧ q5 = false) ∨ (q1 = true ∧ q2 = true ∧ q3 = true ∧ q4 = true ∧ q5 = true ∧ q6 = false) ∨ (q1 = true ∧ q2 = true ∧ q3 = true ∧ q4 = true ∧ q5 = true ∧ q6 = true) := by
      cases q1 <;> cases q2 <;> cases q3 <;> cases q4 <;> cases q5 <;> cases q6 <;> simp
    rcases hq with rfl | ⟨rfl, rfl⟩ | ⟨rfl, rfl, rfl⟩ | ⟨rfl, rfl, rfl, rfl⟩ | ⟨rfl, rfl, rfl, rfl, rfl⟩ | ⟨rfl, rfl, rfl, rfl, rfl, rfl⟩ | ⟨rfl, rfl, rfl, rfl, rfl, rfl⟩
    all_goals
      go_wp2_with (first | (with_reducible show Calls _ _ #[.int .i64 m.pc] _ _; refine HP.out.mono ?_; rintro e w4 ⟨rfl, rfl⟩) | (with_reducible show Calls _ _ #[.int .i64 m.sig] _ _; refine HG.out.mono ?_; rintro e w4 ⟨rfl, rfl⟩) | (with_reducible show Calls _ _ #[.slice a1 _ k1] _ _; refine H1.out.mono ?_; rintro e w4 ⟨rfl, rfl⟩) | (with_reducible show Calls _ _ #[.slice a2 _ k2] _ _; refine H2.out.mono ?_; rintro e w4 ⟨rfl, rfl⟩) | (with_reducible show Calls _ _ #[_, _, .int .i64 1000000] _ _; refine HU.out.mono ?_; rintro e w4 ⟨rfl, rfl⟩) | (with_reducible show Calls _ _ #[_, _, .int .i64 10] _ _; refine HT.out.mono ?_; rintro e w4 ⟨rfl, rfl⟩))
      go_meet
      case rel => exact ⟨by simp, rfl⟩
  case rest =>
    obtain ⟨rfl, rfl⟩ := hcut
    clear HP HG H1 H2 HU HT
    cases hb : (q1 && q2 && q3 && q4 && q5 && q6)
    · have E : Hid (smF m = 3) := by unfold Hid; rw [HS.out, hF.out, hb]; rfl
      clear HS hF hb
      go_wp2_with fail
      go_ret
      exact ⟨by rw [E.out]; rfl, rfl⟩
    · have E : Hid (smF m = if 40 < m.stk.length ∨ 80 < m.cells.length then 2 else 0) := by unfold Hid; rw [HS.out, hF.out, hb]; rfl
      clear HS hF hb
      generalize m.stk.length = l1 at *
      generalize m.cells.length = l2 at *
      by_cases h1 : 40 < l1
      · go_wp2_with fail
        go_ret
        exact ⟨by rw [E.out, if_pos (.inl h1)]; rfl, rfl⟩
      · by_cases h2 : 80 < l2
        · go_wp2_with fail
          go_ret
          exact ⟨by rw [E.out, if_pos (.inr h2)]; rfl, rfl⟩
        · go_wp2_with fail
          go_ret
          exact ⟨by rw [E.out, if_neg (by omega)]; rfl, rfl⟩
end Go.Proofs.Ytcikofhbfncgdaa
