/-
  The register machine, plainly.
-/
import Derived.Test.YtcikofhbfncgdaaInvM
import Derived.Test.YtcikofhbfncgdaaInvM
namespace Go.Proofs.Ytcikofhbfncgdaa
open Go.RowKit
set_option linter.unusedVariables false

/- A register machine is told like a stack machine: its Regs stand in the place of the Stack. -/
def rmFit (m : SM) : Bool := inB m.pc 0 65535 && inB m.sig 0 65535 && wordsB m.stk && wordsB m.cells && inB m.used 0 1000000 && inB m.trap 0 10
def rmF (m : SM) : Int := if rmFit m then (if m.stk.length ≠ 24 then 1 else if 80 < m.cells.length then 2 else 0) else 3
/-- a machine without a fault -/
structure RGood (m : SM) : Prop where
  pc0 : 0 ≤ m.pc
  pc1 : m.pc ≤ 65535
  sig0 : 0 ≤ m.sig
  sig1 : m.sig ≤ 65535
  stk : wordsB m.stk = true
  cells : wordsB m.cells = true
  used0 : 0 ≤ m.used
  used1 : m.used ≤ 1000000
  trap0 : 0 ≤ m.trap
  trap1 : m.trap ≤ 10
  rl : m.stk.length = 24
  cl : m.cells.length ≤ 80
theorem RGood.sl {m : SM} (h : RGood m) : m.stk.length ≤ 40 := by have := h.rl; omega
theorem rgood_of {m : SM} (h : rmF m = 0) : RGood m := by
  unfold rmF at h
  split at h
  · rename_i hf
    split at h
    · omega
    rename_i hl
    split at h
    · omega
    unfold rmFit at hf
    simp only [Bool.and_eq_true, inB_iff] at hf
    obtain ⟨⟨⟨⟨⟨a, b⟩, c⟩, d⟩, e⟩, f⟩ := hf
    exact ⟨a.1, a.2, b.1, b.2, c, d, e.1, e.2, f.1, f.2, by omega, by omega⟩
  · omega
theorem rgood_F {m : SM} (h : RGood m) : rmF m = 0 := by
  have hf : rmFit m = true := by
    unfold rmFit
    simp only [Bool.and_eq_true, inB_iff]
    exact ⟨⟨⟨⟨⟨⟨h.pc0, h.pc1⟩, h.sig0, h.sig1⟩, h.stk⟩, h.cells⟩, h.used0, h.used1⟩, h.trap0, h.trap1⟩
  have := h.rl
  have := h.cl
  rw [rmF, if_pos hf, if_neg (by omega), if_neg (by omega)]

def argR (op : Int) : Int := if op = 4 ∨ op = 5 ∨ op = 6 then 4 else if op = 9 ∨ op = 10 ∨ op = 12 then 1 else if op = 13 then 0 else 2
theorem argR_lo (op : Int) : 0 ≤ argR op ∧ argR op ≤ 4 := by
  unfold argR
  repeat' split
  all_goals omega
/-- a register -/
def rg (m : SM) (k : Int) : Int := m.stk.getD k.toNat 0
def str (m : SM) (k x : Int) : SM := { m with stk := m.stk.set k.toNat x }
def stc (m : SM) (k x : Int) : SM := { m with cells := m.cells.set k.toNat x }
/-- the registers and the cell that an instruction names are there -/
def hasR (op a b c : Int) (n : Nat) : Bool :=
  if op = 1 ∨ op = 9 ∨ op = 11 then decide (a < 24)
  else if op = 2 then decide (a < 24) && decide (b < n)
  else if op = 3 then decide (b < 24) && decide (a < n)
  else if op = 4 ∨ op = 5 ∨ op = 7 ∨ op = 8 then decide (a < 24) && decide (b < 24)
  else if op = 6 then decide (a < 24) && decide (b < 24) && decide (c < 24)
  else true
def readyR (code : List Int) (pc : Int) : Bool := decide (pc < code.length) && inB (code.getD pc.toNat 0) 1 13 && decide (pc + argR (code.getD pc.toNat 0) < code.length)
def twoI (u b : Int) : Int := if invC u b = 3 then 1 else invC u b
def itC (n : Nat) (f s i : Int) : Int := if inB (sg i) 0 (s - 1) then (if f + sg i < n then 0 else 1) else 3
def itV (n : Nat) (f s i : Int) : Int := if itC n f s i = 0 then f + sg i else 0
def toldRC (op a b c d : Int) (m : SM) : Int :=
  if op = 4 then itC m.cells.length c d (cm (rg m b)) else if op = 5 then itC m.cells.length c d (cm (rg m a)) else if op = 6 then twoI d (rg m c) else 0
def toldRV (op a b c d : Int) (m : SM) : Int :=
  if op = 4 then itV m.cells.length c d (cm (rg m b)) else if op = 5 then itV m.cells.length c d (cm (rg m a)) else if op = 6 then invV d (rg m b) (rg m c) else 0
/-- an instruction done (the pc is behind it already) -/
def doR (op a b t : Int) (m : SM) : SM :=
  if op = 1 then str m a b
  else if op = 2 then str m a (m.cells.getD b.toNat 0)
  else if op = 3 then stc m a (rg m b)
  else if op = 4 then str m a (m.cells.getD t.toNat 0)
  else if op = 5 then stc m t (rg m b)
  else if op = 6 then str m a t
  else if op = 7 then str m a (cm (wd (-(cm (rg m b)))))
  else if op = 8 then str m a (cm (nt (cm (rg m b))))
  else if op = 9 then str m a (cm (b01 (decide (rg m a ≠ 65535))))
  else if op = 10 then { m with pc := a }
  else if op = 11 then { m with pc := if rg m a = 65535 then b else m.pc }
  else if op = 12 then { m with sig := sgn m.sig a }
  else { m with done := true }
/-- what a step of a ready machine comes to -/
def goR (op a b c d nx : Int) (m : SM) : SM :=
  if hasR op a b c m.cells.length = false then trp (usedM m) 1
  else if toldRC op a b c d m ≠ 0 then trp (usedM m) (toldRC op a b c d m)
  else doR op a b (toldRV op a b c d m) (atP (usedM m) nx)
/-- a step of a machine that goes on -/
def stepRL (code : List Int) (m : SM) : SM :=
  if readyR code m.pc = false then trp (usedM m) 1
  else goR (code.getD m.pc.toNat 0) (code.getD (m.pc.toNat + 1) 0) (code.getD (m.pc.toNat + 2) 0) (code.getD (m.pc.toNat + 3) 0) (code.getD (m.pc.toNat + 4) 0) (m.pc + 1 + argR (code.getD m.pc.toNat 0)) m
def stepRM (code : List Int) (m : SM) : SM := if goes m then stepRL code m else m

theorem readyR_of {code : List Int} {pc : Int} (h : readyR code pc = true) : pc < code.length ∧ 1 ≤ code.getD pc.toNat 0 ∧ code.getD pc.toNat 0 ≤ 13 ∧ pc + argR (code.getD pc.toNat 0) < code.length := by
  unfold readyR at h
  simp only [Bool.and_eq_true, decide_eq_true_eq, inB_iff] at h
  exact ⟨h.1.1, h.1.2.1, h.1.2.2, h.2⟩
theorem twoI_lo (u b : Int) : 0 ≤ twoI u b ∧ twoI u b ≤ 10 := by
  unfold twoI invC binC
  repeat' split
  all_goals omega
theorem itC_lo (n : Nat) (f s i : Int) : 0 ≤ itC n f s i ∧ itC n f s i ≤ 10 := by
  unfold itC
  repeat' split
  all_goals omega
theorem toldRC_lo (op a b c d : Int) (m : SM) : 0 ≤ toldRC op a b c d m ∧ toldRC op a b c d m ≤ 10 := by
  unfold toldRC
  repeat' split
  all_goals first | exact itC_lo _ _ _ _ | exact twoI_lo _ _ | omega
theorem itV_of {n : Nat} {f s i : Int} (hf : 0 ≤ f) (h : itC n f s i = 0) : 0 ≤ itV n f s i ∧ itV n f s i < n := by
  unfold itV
  rw [if_pos h]
  unfold itC at h
  split at h
  · rename_i hb
    have := (inB_iff.1 hb).1
    split at h
    · omega
    · omega
  · omega
theorem invV_lo (u a b : Int) : 0 ≤ invV u a b ∧ invV u a b ≤ 65535 := by
  unfold invV
  split
  · exact ⟨cm_lo _, cm_hi _⟩
  · omega
theorem toldRV_lo {op a b c d : Int} {m : SM} (h : RGood m) (hc : toldRC op a b c d m = 0) (hw : 0 ≤ c) : 0 ≤ toldRV op a b c d m ∧ toldRV op a b c d m ≤ 65535 ∧ (op = 4 ∨ op = 5 → toldRV op a b c d m < m.cells.length) := by
  have hcl := h.cl
  unfold toldRC at hc
  unfold toldRV
  split at hc
  · rename_i e; rw [if_pos e]; have := itV_of hw hc; exact ⟨this.1, by omega, fun _ => this.2⟩
  rename_i e
  rw [if_neg e]
  split at hc
  · rename_i e2; rw [if_pos e2]; have := itV_of hw hc; exact ⟨this.1, by omega, fun _ => this.2⟩
  rename_i e2
  rw [if_neg e2]
  split
  · have := invV_lo d (rg m b) (rg m c); exact ⟨this.1, this.2, fun e4 => by omega⟩
  · exact ⟨by omega, by omega, fun e4 => by omega⟩
theorem usedR_good {m : SM} (h : RGood m) : RGood (usedM m) :=
  ⟨h.pc0, h.pc1, h.sig0, h.sig1, h.stk, h.cells, by have := h.used0; show 0 ≤ ite _ _ _; split <;> omega, by show ite _ _ _ ≤ (1000000 : Int); split <;> omega, h.trap0, h.trap1, h.rl, h.cl⟩
theorem trpR_good {m : SM} (h : RGood m) {t : Int} (h0 : 0 ≤ t) (h1 : t ≤ 10) : RGood (trp m t) := ⟨h.pc0, h.pc1, h.sig0, h.sig1, h.stk, h.cells, h.used0, h.used1, h0, h1, h.rl, h.cl⟩
theorem atP_good {m : SM} (h : RGood m) {t : Int} (h0 : 0 ≤ t) (h1 : t ≤ 65535) : RGood (atP m t) := ⟨h0, h1, h.sig0, h.sig1, h.stk, h.cells, h.used0, h.used1, h.trap0, h.trap1, h.rl, h.cl⟩
theorem str_good {m : SM} (h : RGood m) (k : Int) {x : Int} (h0 : 0 ≤ x) (h1 : x ≤ 65535) : RGood (str m k x) :=
  ⟨h.pc0, h.pc1, h.sig0, h.sig1, wordsB_set h.stk _ h0 h1, h.cells, h.used0, h.used1, h.trap0, h.trap1, by show (m.stk.set _ x).length = 24; simp; exact h.rl, h.cl⟩
theorem stc_good {m : SM} (h : RGood m) (k : Int) {x : Int} (h0 : 0 ≤ x) (h1 : x ≤ 65535) : RGood (stc m k x) :=
  ⟨h.pc0, h.pc1, h.sig0, h.sig1, h.stk, wordsB_set h.cells _ h0 h1, h.used0, h.used1, h.trap0, h.trap1, h.rl, by show (m.cells.set _ x).length ≤ 80; simp; exact h.cl⟩
theorem rg_word {m : SM} (h : RGood m) (k : Int) : 0 ≤ rg m k ∧ rg m k ≤ 65535 := by
  unfold rg
  by_cases hk : k.toNat < m.stk.length
  · exact wordsB_get h.stk hk
  · rw [List.getD_eq_getElem?_getD, List.getElem?_eq_none (by omega)]; simp
theorem cl_word {m : SM} (h : RGood m) (k : Nat) : 0 ≤ m.cells.getD k 0 ∧ m.cells.getD k 0 ≤ 65535 := by
  by_cases hk : k < m.cells.length
  · exact wordsB_get h.cells hk
  · rw [List.getD_eq_getElem?_getD, List.getElem?_eq_none (by omega)]; simp
theorem ite_P {α : Type} {P : α → Prop} {c : Prop} [Decidable c] {a b : α} (ha : P a) (hb : P b) : P (if c then a else b) := by split <;> assumption
theorem doR_good {op a b t : Int} {m : SM} (h : RGood m) (ha0 : 0 ≤ a) (ha1 : a ≤ 65535) (hb0 : 0 ≤ b) (hb1 : b ≤ 65535) (ht0 : 0 ≤ t) (ht1 : t ≤ 65535) : RGood (doR op a b t m) := by
  unfold doR
  refine ite_P (P := RGood) (str_good h _ hb0 hb1) ?_
  refine ite_P (P := RGood) (str_good h _ (cl_word h _).1 (cl_word h _).2) ?_
  refine ite_P (P := RGood) (stc_good h _ (rg_word h _).1 (rg_word h _).2) ?_
  refine ite_P (P := RGood) (str_good h _ (cl_word h _).1 (cl_word h _).2) ?_
  refine ite_P (P := RGood) (stc_good h _ (rg_word h _).1 (rg_word h _).2) ?_
  refine ite_P (P := RGood) (str_good h _ ht0 ht1) ?_
  refine ite_P (P := RGood) (str_good h _ (cm_lo _) (cm_hi _)) ?_
  refine ite_P (P := RGood) (str_good h _ (cm_lo _) (cm_hi _)) ?_
  refine ite_P (P := RGood) (str_good h _ (cm_lo _) (cm_hi _)) ?_
  refine ite_P (P := RGood) (atP_good h ha0 ha1) ?_
  refine ite_P (P := RGood) (atP_good h ?_ ?_) ?_
  · have := h.pc0; split <;> omega
  · have := h.pc1; split <;> omega
  refine ite_P (P := RGood) ?_ ?_
  · have := sgn_lo m.sig a
    exact ⟨h.pc0, h.pc1, this.1, by show sgn _ _ ≤ _; omega, h.stk, h.cells, h.used0, h.used1, h.trap0, h.trap1, h.rl, h.cl⟩
  · exact ⟨h.pc0, h.pc1, h.sig0, h.sig1, h.stk, h.cells, h.used0, h.used1, h.trap0, h.trap1, h.rl, h.cl⟩
theorem code_word {code : List Int} (hc : wordsB code = true) (i : Nat) : 0 ≤ code.getD i 0 ∧ code.getD i 0 ≤ 65535 := by
  by_cases hi : i < code.length
  · exact wordsB_get hc hi
  · rw [List.getD_eq_getElem?_getD, List.getElem?_eq_none (by omega)]; simp
theorem goR_good {op a b c d nx : Int} {m : SM} (h : RGood m) (ha0 : 0 ≤ a) (ha1 : a ≤ 65535) (hb0 : 0 ≤ b) (hb1 : b ≤ 65535) (hc0 : 0 ≤ c) (hn0 : 0 ≤ nx) (hn1 : nx ≤ 65535) : RGood (goR op a b c d nx m) := by
  unfold goR
  split
  · exact trpR_good (usedR_good h) (by omega) (by omega)
  split
  · have := toldRC_lo op a b c d m
    exact trpR_good (usedR_good h) this.1 this.2
  · rename_i ht
    rw [Decidable.not_not] at ht
    have hv := toldRV_lo h ht hc0
    exact doR_good (atP_good (usedR_good h) hn0 hn1) ha0 ha1 hb0 hb1 hv.1 hv.2.1
theorem stepRL_good {code : List Int} {m : SM} (h : RGood m) (hc : wordsB code = true) (hl : code.length ≤ 400) : RGood (stepRL code m) := by
  unfold stepRL
  split
  · exact trpR_good (usedR_good h) (by omega) (by omega)
  rename_i hr
  rw [Bool.not_eq_false] at hr
  obtain ⟨r1, r2, r3, r4⟩ := readyR_of hr
  have hpc := h.pc0
  have ha := argR_lo (code.getD m.pc.toNat 0)
  exact goR_good h (code_word hc _).1 (code_word hc _).2 (code_word hc _).1 (code_word hc _).2 (code_word hc _).1 (by omega) (by omega)
theorem stepRM_good {code : List Int} {m : SM} (h : RGood m) (hc : wordsB code = true) (hl : code.length ≤ 400) : RGood (stepRM code m) := by
  unfold stepRM; split
  · exact stepRL_good h hc hl
  · exact h
/-- the code that the instruction at k ends with, and what it comes to -/
def tlC (zs : List Int) (k : Nat) (m : SM) : Int := toldRC (zs.getD k 0) (zs.getD (k + 1) 0) (zs.getD (k + 2) 0) (zs.getD (k + 3) 0) (zs.getD (k + 4) 0) m
def tlD (zs : List Int) (k : Nat) (m : SM) : SM := doR (zs.getD k 0) (zs.getD (k + 1) 0) (zs.getD (k + 2) 0) (toldRV (zs.getD k 0) (zs.getD (k + 1) 0) (zs.getD (k + 2) 0) (zs.getD (k + 3) 0) (zs.getD (k + 4) 0) m) (atP m ((k : Int) + 1 + argR (zs.getD k 0)))
def rdyR (zs : List Int) (k : Nat) (m : SM) : Bool := readyR zs k && hasR (zs.getD k 0) (zs.getD (k + 1) 0) (zs.getD (k + 2) 0) (zs.getD (k + 3) 0) m.cells.length
theorem rdyR_no {zs : List Int} {k : Nat} {m : SM} (hk : m.pc = k) (h : rdyR zs k m = false) : stepRL zs m = trp (usedM m) 1 := by
  unfold rdyR at h
  unfold stepRL
  rw [hk]
  cases hr : readyR zs k
  · rw [if_pos rfl]
  · rw [hr, Bool.true_and] at h
    rw [if_neg (by simp), Int.toNat_natCast]
    unfold goR
    rw [if_pos h]
theorem rdyR_yes {zs : List Int} {k : Nat} {m : SM} (hk : m.pc = k) (h : rdyR zs k m = true) :
    k < zs.length ∧ 1 ≤ zs.getD k 0 ∧ zs.getD k 0 ≤ 13 ∧ (k : Int) + argR (zs.getD k 0) < zs.length ∧ hasR (zs.getD k 0) (zs.getD (k + 1) 0) (zs.getD (k + 2) 0) (zs.getD (k + 3) 0) m.cells.length = true ∧ True ∧ stepRL zs m = if tlC zs k m ≠ 0 then trp (usedM m) (tlC zs k m) else tlD zs k (usedM m) := by
  unfold rdyR at h
  rw [Bool.and_eq_true] at h
  have hq := readyR_of h.1
  simp only [Int.toNat_natCast] at hq
  refine ⟨by omega, hq.2.1, hq.2.2.1, hq.2.2.2, h.2, trivial, ?_⟩
  unfold stepRL
  rw [hk, if_neg (by rw [h.1]; simp), Int.toNat_natCast]
  unfold goR
  rw [if_neg (by rw [h.2]; simp)]
  rfl
end Go.Proofs.Ytcikofhbfncgdaa
