/-
  The stack machine, plainly.
-/
import Derived.Test.YtcikofhbfncgdaaReck1
import Derived.Test.YtcikofhbfncgdaaReck1
namespace Go.Proofs.Ytcikofhbfncgdaa
open Go.RowKit
set_option linter.unusedVariables false

structure SM where
  pc : Int
  stk : List Int
  cells : List Int
  sig : Int
  used : Int
  trap : Int
  done : Bool

def smFit (m : SM) : Bool := inB m.pc 0 65535 && inB m.sig 0 65535 && wordsB m.stk && wordsB m.cells && inB m.used 0 1000000 && inB m.trap 0 10
def smF (m : SM) : Int := if smFit m then (if 40 < m.stk.length ∨ 80 < m.cells.length then 2 else 0) else 3
/-- a machine without a fault -/
structure Good (m : SM) : Prop where
  pc0 : 0 ≤ m.pc
  pc1 : m.pc ≤ 65535
  sig0 : 0 ≤ m.sig
  sig1 : m.sig ≤ 65535
  stk : wordsB m.stk = true
  cells : wordsB m.cells = true
  used0 : 0 ≤ m.used
  used1 : m.used ≤ 1000000
  trap0 : 0 ≤ m.trap
  trap1 : m.trap ≤ 10
  sl : m.stk.length ≤ 40
  cl : m.cells.length ≤ 80
theorem good_of {m : SM} (h : smF m = 0) : Good m := by
  unfold smF at h
  split at h
  · rename_i hf
    split at h
    · omega
    rename_i hl
    unfold smFit at hf
    simp only [Bool.and_eq_true, inB_iff] at hf
    obtain ⟨⟨⟨⟨⟨a, b⟩, c⟩, d⟩, e⟩, f⟩ := hf
    exact ⟨a.1, a.2, b.1, b.2, c, d, e.1, e.2, f.1, f.2, by omega, by omega⟩
  · omega
theorem good_F {m : SM} (h : Good m) : smF m = 0 := by
  have hf : smFit m = true := by
    unfold smFit
    simp only [Bool.and_eq_true, inB_iff]
    exact ⟨⟨⟨⟨⟨⟨h.pc0, h.pc1⟩, h.sig0, h.sig1⟩, h.stk⟩, h.cells⟩, h.used0, h.used1⟩, h.trap0, h.trap1⟩
  have := h.sl
  have := h.cl
  rw [smF, if_pos hf, if_neg (by omega)]

def argN (op : Int) : Int := if op = 4 ∨ op = 5 then 2 else if op = 7 ∨ op = 8 ∨ op = 9 ∨ op = 13 then 0 else 1
def tkN (op : Int) : Int := if op = 3 ∨ op = 4 ∨ op = 7 ∨ op = 8 ∨ op = 9 ∨ op = 11 then 1 else if op = 5 ∨ op = 6 then 2 else 0
def gvN (op : Int) : Int := if op = 1 ∨ op = 2 ∨ op = 4 ∨ op = 6 ∨ op = 7 ∨ op = 8 ∨ op = 9 then 1 else 0
/-- the j-th from the top -/
def tp (m : SM) (j : Nat) : Int := m.stk.getD (m.stk.length - 1 - j) 0
def pop (m : SM) : SM := { m with stk := m.stk.take (m.stk.length - 1) }
def psh (m : SM) (x : Int) : SM := { m with stk := m.stk ++ [x] }
def sto (m : SM) (k : Nat) (x : Int) : SM := { m with cells := m.cells.set k x }
def sgn (s k : Int) : Int := (wd s * 31 + wd k + 1) % 65521
def readyB (code : List Int) (pc : Int) : Bool := decide (pc < code.length) && inB (code.getD pc.toNat 0) 1 13 && decide (pc + argN (code.getD pc.toNat 0) < code.length)
def fitsB (n : Nat) (op : Int) : Bool := decide (tkN op ≤ n) && decide (n - tkN op + gvN op ≤ 40)
def itemC (n : Nat) (f s i : Int) : Int := if inB (sg i) 0 (s - 1) then (if f + sg i < n then 0 else 1) else 3
def itemV (n : Nat) (f s i : Int) : Int := if itemC n f s i = 0 then f + sg i else 0
def cellC (n : Nat) (u : Int) : Int := if u < n then 0 else 1
def cellV (n : Nat) (u : Int) : Int := if u < n then u else 0
def twoC (u b : Int) : Int := if binC u b = 3 then 1 else binC u b
def toldC (op u v : Int) (m : SM) : Int :=
  if op = 2 ∨ op = 3 then cellC m.cells.length u else if op = 4 then itemC m.cells.length u v (tp m 0)
  else if op = 5 then itemC m.cells.length u v (tp m 1) else if op = 6 then twoC u (tp m 0) else 0
def toldV (op u v : Int) (m : SM) : Int :=
  if op = 2 ∨ op = 3 then cellV m.cells.length u else if op = 4 then itemV m.cells.length u v (tp m 0)
  else if op = 5 then itemV m.cells.length u v (tp m 1) else if op = 6 then binV u (tp m 1) (tp m 0) else 0
/-- an instruction done (the pc is behind it already) -/
def doM (op u t : Int) (m : SM) : SM :=
  if op = 1 then psh m u
  else if op = 2 then psh m (m.cells.getD t.toNat 0)
  else if op = 3 then sto (pop m) t.toNat (tp m 0)
  else if op = 4 then psh (pop m) (m.cells.getD t.toNat 0)
  else if op = 5 then sto (pop (pop m)) t.toNat (tp m 0)
  else if op = 6 then psh (pop (pop m)) t
  else if op = 7 then psh (pop m) (wd (-(tp m 0)))
  else if op = 8 then psh (pop m) (nt (tp m 0))
  else if op = 9 then psh (pop m) (b01 (decide (tp m 0 ≠ 0)))
  else if op = 10 then { m with pc := u }
  else if op = 11 then { pop m with pc := if tp m 0 = 0 then u else m.pc }
  else if op = 12 then { m with sig := sgn m.sig u }
  else { m with done := true }
def usedM (m : SM) : SM := { m with used := if m.used + 1 ≤ 1000000 then m.used + 1 else 1000000 }
/-- a step of a machine that goes on -/
def stepL (code : List Int) (m : SM) : SM :=
  if readyB code m.pc = false then { usedM m with trap := 1 }
  else if fitsB m.stk.length (code.getD m.pc.toNat 0) = false then { usedM m with trap := 1 }
  else if toldC (code.getD m.pc.toNat 0) (code.getD (m.pc.toNat + 1) 0) (code.getD (m.pc.toNat + 2) 0) m ≠ 0 then { usedM m with trap := toldC (code.getD m.pc.toNat 0) (code.getD (m.pc.toNat + 1) 0) (code.getD (m.pc.toNat + 2) 0) m }
  else doM (code.getD m.pc.toNat 0) (code.getD (m.pc.toNat + 1) 0) (toldV (code.getD m.pc.toNat 0) (code.getD (m.pc.toNat + 1) 0) (code.getD (m.pc.toNat + 2) 0) m) { usedM m with pc := m.pc + 1 + argN (code.getD m.pc.toNat 0) }
def goes (m : SM) : Bool := !m.done && (m.trap == 0)
def stepM (code : List Int) (m : SM) : SM := if goes m then stepL code m else m

theorem argN_lo (op : Int) : 0 ≤ argN op ∧ argN op ≤ 2 := by
  unfold argN
  repeat' split
  all_goals omega
theorem tkN_lo (op : Int) : 0 ≤ tkN op ∧ tkN op ≤ 2 := by
  unfold tkN
  repeat' split
  all_goals omega
theorem gvN_lo (op : Int) : 0 ≤ gvN op ∧ gvN op ≤ 1 := by
  unfold gvN
  repeat' split
  all_goals omega
theorem sgn_lo (s k : Int) : 0 ≤ sgn s k ∧ sgn s k ≤ 65520 := by unfold sgn; omega
theorem sgn_w64 (s k : Int) : wrap64 (wd s * 31 + wd k + 1) = wd s * 31 + wd k + 1 := by
  have := wd_lo s; have := wd_hi s; have := wd_lo k; have := wd_hi k; unfold wrap64; omega
theorem nt_lo (x : Int) : 0 ≤ nt x ∧ nt x ≤ 1 := by unfold nt; split <;> omega
theorem b01_lo (b : Bool) : 0 ≤ b01 b ∧ b01 b ≤ 1 := by cases b <;> decide
theorem twoC_lo (u b : Int) : 0 ≤ twoC u b ∧ twoC u b ≤ 10 := by
  unfold twoC binC
  repeat' split
  all_goals omega
theorem itemC_lo (n : Nat) (f s i : Int) : 0 ≤ itemC n f s i ∧ itemC n f s i ≤ 10 := by
  unfold itemC
  repeat' split
  all_goals omega
theorem toldC_lo (op u v : Int) (m : SM) : 0 ≤ toldC op u v m ∧ toldC op u v m ≤ 10 := by
  unfold toldC cellC
  repeat' split
  all_goals first | exact itemC_lo _ _ _ _ | exact twoC_lo _ _ | omega
theorem tp_word {m : SM} (h : wordsB m.stk = true) {j : Nat} (hj : j < m.stk.length) : 0 ≤ tp m j ∧ tp m j ≤ 65535 := wordsB_get h (by omega)
theorem pop_good {m : SM} (h : Good m) : Good (pop m) := ⟨h.pc0, h.pc1, h.sig0, h.sig1, wordsB_take h.stk _, h.cells, h.used0, h.used1, h.trap0, h.trap1, by
  have := h.sl
  show (m.stk.take (m.stk.length - 1)).length ≤ 40
  simp only [List.length_take]; omega, h.cl⟩
theorem pop_len (m : SM) : (pop m).stk.length = m.stk.length - 1 := by
  show (m.stk.take (m.stk.length - 1)).length = _
  simp only [List.length_take]; omega
theorem tp_pop (m : SM) (h : 1 < m.stk.length) : tp (pop m) 0 = tp m 1 := by
  unfold tp
  rw [pop_len]
  show (m.stk.take (m.stk.length - 1)).getD _ 0 = _
  rw [List.getD_eq_getElem?_getD, List.getD_eq_getElem?_getD, List.getElem?_take_of_lt (by omega)]
  congr 2
theorem psh_good {m : SM} (h : Good m) {x : Int} (h0 : 0 ≤ x) (h1 : x ≤ 65535) (hl : m.stk.length ≤ 39) : Good (psh m x) :=
  ⟨h.pc0, h.pc1, h.sig0, h.sig1, wordsB_snoc h.stk h0 h1, h.cells, h.used0, h.used1, h.trap0, h.trap1, by show (m.stk ++ [x]).length ≤ 40; simp; omega, h.cl⟩
theorem sto_good {m : SM} (h : Good m) (k : Nat) {x : Int} (h0 : 0 ≤ x) (h1 : x ≤ 65535) : Good (sto m k x) :=
  ⟨h.pc0, h.pc1, h.sig0, h.sig1, h.stk, wordsB_set h.cells k h0 h1, h.used0, h.used1, h.trap0, h.trap1, h.sl, by show (m.cells.set k x).length ≤ 80; simp; exact h.cl⟩
theorem usedM_good {m : SM} (h : Good m) : Good (usedM m) :=
  ⟨h.pc0, h.pc1, h.sig0, h.sig1, h.stk, h.cells, by have := h.used0; show 0 ≤ ite _ _ _; split <;> omega, by show ite _ _ _ ≤ (1000000 : Int); split <;> omega, h.trap0, h.trap1, h.sl, h.cl⟩
theorem trap_good {m : SM} (h : Good m) {t : Int} (h0 : 0 ≤ t) (h1 : t ≤ 10) : Good { m with trap := t } := ⟨h.pc0, h.pc1, h.sig0, h.sig1, h.stk, h.cells, h.used0, h.used1, h0, h1, h.sl, h.cl⟩
theorem pc_good {m : SM} (h : Good m) {t : Int} (h0 : 0 ≤ t) (h1 : t ≤ 65535) : Good { m with pc := t } := ⟨h0, h1, h.sig0, h.sig1, h.stk, h.cells, h.used0, h.used1, h.trap0, h.trap1, h.sl, h.cl⟩
theorem sig_good {m : SM} (h : Good m) {t : Int} (h0 : 0 ≤ t) (h1 : t ≤ 65535) : Good { m with sig := t } := ⟨h.pc0, h.pc1, h0, h1, h.stk, h.cells, h.used0, h.used1, h.trap0, h.trap1, h.sl, h.cl⟩
theorem done_good {m : SM} (h : Good m) (b : Bool) : Good { m with done := b } := ⟨h.pc0, h.pc1, h.sig0, h.sig1, h.stk, h.cells, h.used0, h.used1, h.trap0, h.trap1, h.sl, h.cl⟩

theorem ready_of {code : List Int} {pc : Int} (h : readyB code pc = true) : pc < code.length ∧ 1 ≤ code.getD pc.toNat 0 ∧ code.getD pc.toNat 0 ≤ 13 ∧ pc + argN (code.getD pc.toNat 0) < code.length := by
  unfold readyB at h
  simp only [Bool.and_eq_true, decide_eq_true_eq, inB_iff] at h
  exact ⟨h.1.1, h.1.2.1, h.1.2.2, h.2⟩
theorem fits_of {n : Nat} {op : Int} (h : fitsB n op = true) : tkN op ≤ n ∧ n - tkN op + gvN op ≤ 40 := by
  unfold fitsB at h
  simpa only [Bool.and_eq_true, decide_eq_true_eq] using h

theorem doM_good {op u t : Int} {m : SM} (h : Good m) (h1 : 1 ≤ op) (h2 : op ≤ 13) (hf : fitsB m.stk.length op = true) (hu0 : 0 ≤ u) (hu1 : u ≤ 65535) (ht0 : 0 ≤ t) (ht1 : t ≤ 65535) (htc : op = 2 ∨ op = 4 → t < m.cells.length) : Good (doM op u t m) := by
  have hF := fits_of hf
  clear hf
  have hop : op = 1 ∨ op = 2 ∨ op = 3 ∨ op = 4 ∨ op = 5 ∨ op = 6 ∨ op = 7 ∨ op = 8 ∨ op = 9 ∨ op = 10 ∨ op = 11 ∨ op = 12 ∨ op = 13 := by omega
  have hp := pop_len m
  have hcell : ∀ _ : op = 2 ∨ op = 4, 0 ≤ m.cells.getD t.toNat 0 ∧ m.cells.getD t.toNat 0 ≤ 65535 := fun e => wordsB_get h.cells (by have := htc e; omega)
  rcases hop with rfl | rfl | rfl | rfl | rfl | rfl | rfl | rfl | rfl | rfl | rfl | rfl | rfl
  all_goals simp only [tkN, gvN] at hF; simp at hF
  · exact psh_good h hu0 hu1 (by omega)
  · have := hcell (.inl rfl); exact psh_good h this.1 this.2 (by omega)
  · have := tp_word h.stk (j := 0) (by omega); exact sto_good (pop_good h) _ this.1 this.2
  · have := hcell (.inr rfl); exact psh_good (pop_good h) this.1 this.2 (by omega)
  · have := tp_word h.stk (j := 0) (by omega); exact sto_good (pop_good (pop_good h)) _ this.1 this.2
  · exact psh_good (pop_good (pop_good h)) ht0 ht1 (by rw [pop_len]; omega)
  · have := wd_lo (-(tp m 0)); have := wd_hi (-(tp m 0)); exact psh_good (pop_good h) (by assumption) (by assumption) (by omega)
  · have := nt_lo (tp m 0); exact psh_good (pop_good h) this.1 (by omega) (by omega)
  · have := b01_lo (decide (tp m 0 ≠ 0)); exact psh_good (pop_good h) this.1 (by omega) (by omega)
  · exact pc_good h hu0 hu1
  · refine pc_good (pop_good h) ?_ ?_
    · have := h.pc0; split <;> omega
    · have := h.pc1; split <;> omega
  · have := sgn_lo m.sig u; exact sig_good h this.1 (by omega)
  · exact done_good h true
theorem toldV_lo {op u v : Int} {m : SM} (h : Good m) (hc : toldC op u v m = 0) (hu : 0 ≤ u) : 0 ≤ toldV op u v m ∧ toldV op u v m ≤ 65535 ∧ (op = 2 ∨ op = 3 ∨ op = 4 ∨ op = 5 → toldV op u v m < m.cells.length) := by
  have hcl := h.cl
  have hi : ∀ i, itemC m.cells.length u v i = 0 → 0 ≤ itemV m.cells.length u v i ∧ itemV m.cells.length u v i < m.cells.length := fun i hi => by
    unfold itemV
    rw [if_pos hi]
    unfold itemC at hi
    split at hi
    · rename_i hb
      have := (inB_iff.1 hb).1
      split at hi
      · omega
      · omega
    · omega
  unfold toldC at hc
  unfold toldV
  split at hc
  · rename_i e
    rw [if_pos e]
    unfold cellC at hc
    unfold cellV
    split at hc
    · rename_i e2; rw [if_pos e2]; exact ⟨hu, by omega, fun _ => e2⟩
    · omega
  rename_i e
  rw [if_neg e]
  split at hc
  · rename_i e2; rw [if_pos e2]; have := hi _ hc; exact ⟨this.1, by omega, fun _ => this.2⟩
  rename_i e2
  rw [if_neg e2]
  split at hc
  · rename_i e3; rw [if_pos e3]; have := hi _ hc; exact ⟨this.1, by omega, fun _ => this.2⟩
  rename_i e3
  rw [if_neg e3]
  split
  · exact ⟨binV_lo _ _ _, binV_hi _ _ _, fun e4 => by omega⟩
  · exact ⟨by omega, by omega, fun e4 => by omega⟩
theorem stepL_good {code : List Int} {m : SM} (h : Good m) (hc : wordsB code = true) (hl : code.length ≤ 400) : Good (stepL code m) := by
  unfold stepL
  split
  · exact trap_good (usedM_good h) (by omega) (by omega)
  rename_i hr
  rw [Bool.not_eq_false] at hr
  obtain ⟨r1, r2, r3, r4⟩ := ready_of hr
  have hpc := h.pc0
  have ha := argN_lo (code.getD m.pc.toNat 0)
  split
  · exact trap_good (usedM_good h) (by omega) (by omega)
  rename_i hf
  rw [Bool.not_eq_false] at hf
  have hw : ∀ i, 0 ≤ code.getD i 0 ∧ code.getD i 0 ≤ 65535 := fun i => by
    by_cases hi : i < code.length
    · exact wordsB_get hc hi
    · rw [List.getD_eq_getElem?_getD, List.getElem?_eq_none (by omega)]; simp
  split
  · have := toldC_lo (code.getD m.pc.toNat 0) (code.getD (m.pc.toNat + 1) 0) (code.getD (m.pc.toNat + 2) 0) m
    exact trap_good (usedM_good h) this.1 this.2
  rename_i ht
  rw [Decidable.not_not] at ht
  have hv := toldV_lo h ht (hw _).1
  exact doM_good (pc_good (usedM_good h) (by omega) (by omega)) r2 r3 hf (hw _).1 (hw _).2 hv.1 hv.2.1 (fun e => hv.2.2 (by omega))
theorem stepM_good {code : List Int} {m : SM} (h : Good m) (hc : wordsB code = true) (hl : code.length ≤ 400) : Good (stepM code m) := by
  unfold stepM; split
  · exact stepL_good h hc hl
  · exact h
end Go.Proofs.Ytcikofhbfncgdaa
