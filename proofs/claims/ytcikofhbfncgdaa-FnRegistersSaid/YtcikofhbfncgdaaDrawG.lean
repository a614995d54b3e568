/-
  spec.l10Code: some code of at most 500 words in new memory. Nothing that was there turns but the source.
-/
import Derived.Test.YtcikofhbfncgdaaInvM
import Derived.Test.YtcikofhbfncgdaaStkMem
import Derived.Deep.CutRange
namespace Go.Proofs.Ytcikofhbfncgdaa
open Go.RowKit
set_option linter.unusedVariables false

/- A register machine is told like a stack machine: its Regs stand in the place of the Stack. -/
def rmFit (m : SM) : Bool := inB m.pc 0 65535 && inB m.sig 0 65535 && wordsB m.stk && wordsB m.cells && inB m.used 0 1000000 && inB m.trap 0 10
def rmF (m : SM) : Int := if rmFit m then (if m.stk.length ≠ 24 then 1 else if 80 < m.cells.length then 2 else 0) else 3
/-- a machine without a fault -/
structure RGood (m : SM) : Prop where
  pc0 : 0 ≤ m.pc
  pc1 : m.pc ≤ 65535
  sig0 : 0 ≤ m.sig
  sig1 : m.sig ≤ 65535
  stk : wordsB m.stk = true
  cells : wordsB m.cells = true
  used0 : 0 ≤ m.used
  used1 : m.used ≤ 1000000
  trap0 : 0 ≤ m.trap
  trap1 : m.trap ≤ 10
  rl : m.stk.length = 24
  cl : m.cells.length ≤ 80
theorem RGood.sl {m : SM} (h : RGood m) : m.stk.length ≤ 40 := by have := h.rl; omega
theorem rgood_of {m : SM} (h : rmF m = 0) : RGood m := by
  unfold rmF at h
  split at h
  · rename_i hf
    split at h
    · omega
    rename_i hl
    split at h
    · omega
    unfold rmFit at hf
    simp only [Bool.and_eq_true, inB_iff] at hf
    obtain ⟨⟨⟨⟨⟨a, b⟩, c⟩, d⟩, e⟩, f⟩ := hf
    exact ⟨a.1, a.2, b.1, b.2, c, d, e.1, e.2, f.1, f.2, by omega, by omega⟩
  · omega
theorem rgood_F {m : SM} (h : RGood m) : rmF m = 0 := by
  have hf : rmFit m = true := by
    unfold rmFit
    simp only [Bool.and_eq_true, inB_iff]
    exact ⟨⟨⟨⟨⟨⟨h.pc0, h.pc1⟩, h.sig0, h.sig1⟩, h.stk⟩, h.cells⟩, h.used0, h.used1⟩, h.trap0, h.trap1⟩
  have := h.rl
  have := h.cl
  rw [rmF, if_pos hf, if_neg (by omega), if_neg (by omega)]

def argR (op : Int) : Int := if op = 4 ∨ op = 5 ∨ op = 6 then 4 else if op = 9 ∨ op = 10 ∨ op = 12 then 1 else if op = 13 then 0 else 2
theorem argR_lo (op : Int) : 0 ≤ argR op ∧ argR op ≤ 4 := by
  unfold argR
  repeat' split
  all_goals omega
/-- a register -/
def rg (m : SM) (k : Int) : Int := m.stk.getD k.toNat 0
def str (m : SM) (k x : Int) : SM := { m with stk := m.stk.set k.toNat x }
def stc (m : SM) (k x : Int) : SM := { m with cells := m.cells.set k.toNat x }
/-- the registers and the cell that an instruction names are there -/
def hasR (op a b c : Int) (n : Nat) : Bool :=
  if op = 1 ∨ op = 9 ∨ op = 11 then decide (a < 24)
  else if op = 2 then decide (a < 24) && decide (b < n)
  else if op = 3 then decide (b < 24) && decide (a < n)
  else if op = 4 ∨ op = 5 ∨ op = 7 ∨ op = 8 then decide (a < 24) && decide (b < 24)
  else if op = 6 then decide (a < 24) && decide (b < 24) && decide (c < 24)
  else true
def readyR (code : List Int) (pc : Int) : Bool := decide (pc < code.length) && inB (code.getD pc.toNat 0) 1 13 && decide (pc + argR (code.getD pc.toNat 0) < code.length)
def twoI (u b : Int) : Int := if invC u b = 3 then 1 else invC u b
def itC (n : Nat) (f s i : Int) : Int := if inB (sg i) 0 (s - 1) then (if f + sg i < n then 0 else 1) else 3
def itV (n : Nat) (f s i : Int) : Int := if itC n f s i = 0 then f + sg i else 0
def toldRC (op a b c d : Int) (m : SM) : Int :=
  if op = 4 then itC m.cells.length c d (cm (rg m b)) else if op = 5 then itC m.cells.length c d (cm (rg m a)) else if op = 6 then twoI d (rg m c) else 0
def toldRV (op a b c d : Int) (m : SM) : Int :=
  if op = 4 then itV m.cells.length c d (cm (rg m b)) else if op = 5 then itV m.cells.length c d (cm (rg m a)) else if op = 6 then invV d (rg m b) (rg m c) else 0
/-- an instruction done (the pc is behind it already) -/
def doR (op a b t : Int) (m : SM) : SM :=
  if op = 1 then str m a b
  else if op = 2 then str m a (m.cells.getD b.toNat 0)
  else if op = 3 then stc m a (rg m b)
  else if op = 4 then str m a (m.cells.getD t.toNat 0)
  else if op = 5 then stc m t (rg m b)
  else if op = 6 then str m a t
  else if op = 7 then str m a (cm (wd (-(cm (rg m b)))))
  else if op = 8 then str m a (cm (nt (cm (rg m b))))
  else if op = 9 then str m a (cm (b01 (decide (rg m a ≠ 65535))))
  else if op = 10 then { m with pc := a }
  else if op = 11 then { m with pc := if rg m a = 65535 then b else m.pc }
  else if op = 12 then { m with sig := sgn m.sig a }
  else { m with done := true }
/-- what a step of a ready machine comes to -/
def goR (op a b c d nx : Int) (m : SM) : SM :=
  if hasR op a b c m.cells.length = false then trp (usedM m) 1
  else if toldRC op a b c d m ≠ 0 then trp (usedM m) (toldRC op a b c d m)
  else doR op a b (toldRV op a b c d m) (atP (usedM m) nx)
/-- a step of a machine that goes on -/
def stepRL (code : List Int) (m : SM) : SM :=
  if readyR code m.pc = false then trp (usedM m) 1
  else goR (code.getD m.pc.toNat 0) (code.getD (m.pc.toNat + 1) 0) (code.getD (m.pc.toNat + 2) 0) (code.getD (m.pc.toNat + 3) 0) (code.getD (m.pc.toNat + 4) 0) (m.pc + 1 + argR (code.getD m.pc.toNat 0)) m
def stepRM (code : List Int) (m : SM) : SM := if goes m then stepRL code m else m

theorem readyR_of {code : List Int} {pc : Int} (h : readyR code pc = true) : pc < code.length ∧ 1 ≤ code.getD pc.toNat 0 ∧ code.getD pc.toNat 0 ≤ 13 ∧ pc + argR (code.getD pc.toNat 0) < code.length := by
  unfold readyR at h
  simp only [Bool.and_eq_true, decide_eq_true_eq, inB_iff] at h
  exact ⟨h.1.1, h.1.2.1, h.1.2.2, h.2⟩
theorem twoI_lo (u b : Int) : 0 ≤ twoI u b ∧ twoI u b ≤ 10 := by
  unfold twoI invC binC
  repeat' split
  all_goals omega
theorem itC_lo (n : Nat) (f s i : Int) : 0 ≤ itC n f s i ∧ itC n f s i ≤ 10 := by
  unfold itC
  repeat' split
  all_goals omega
theorem toldRC_lo (op a b c d : Int) (m : SM) : 0 ≤ toldRC op a b c d m ∧ toldRC op a b c d m ≤ 10 := by
  unfold toldRC
  repeat' split
  all_goals first | exact itC_lo _ _ _ _ | exact twoI_lo _ _ | omega
theorem itV_of {n : Nat} {f s i : Int} (hf : 0 ≤ f) (h : itC n f s i = 0) : 0 ≤ itV n f s i ∧ itV n f s i < n := by
  unfold itV
  rw [if_pos h]
  unfold itC at h
  split at h
  · rename_i hb
    have := (inB_iff.1 hb).1
    split at h
    · omega
    · omega
  · omega
theorem invV_lo (u a b : Int) : 0 ≤ invV u a b ∧ invV u a b ≤ 65535 := by
  unfold invV
  split
  · exact ⟨cm_lo _, cm_hi _⟩
  · omega
theorem toldRV_lo {op a b c d : Int} {m : SM} (h : RGood m) (hc : toldRC op a b c d m = 0) (hw : 0 ≤ c) : 0 ≤ toldRV op a b c d m ∧ toldRV op a b c d m ≤ 65535 ∧ (op = 4 ∨ op = 5 → toldRV op a b c d m < m.cells.length) := by
  have hcl := h.cl
  unfold toldRC at hc
  unfold toldRV
  split at hc
  · rename_i e; rw [if_pos e]; have := itV_of hw hc; exact ⟨this.1, by omega, fun _ => this.2⟩
  rename_i e
  rw [if_neg e]
  split at hc
  · rename_i e2; rw [if_pos e2]; have := itV_of hw hc; exact ⟨this.1, by omega, fun _ => this.2⟩
  rename_i e2
  rw [if_neg e2]
  split
  · have := invV_lo d (rg m b) (rg m c); exact ⟨this.1, this.2, fun e4 => by omega⟩
  · exact ⟨by omega, by omega, fun e4 => by omega⟩
theorem usedR_good {m : SM} (h : RGood m) : RGood (usedM m) :=
  ⟨h.pc0, h.pc1, h.sig0, h.sig1, h.stk, h.cells, by have := h.used0; show 0 ≤ ite _ _ _; split <;> omega, by show ite _ _ _ ≤ (1000000 : Int); split <;> omega, h.trap0, h.trap1, h.rl, h.cl⟩
theorem trpR_good {m : SM} (h : RGood m) {t : Int} (h0 : 0 ≤ t) (h1 : t ≤ 10) : RGood (trp m t) := ⟨h.pc0, h.pc1, h.sig0, h.sig1, h.stk, h.cells, h.used0, h.used1, h0, h1, h.rl, h.cl⟩
theorem atP_good {m : SM} (h : RGood m) {t : Int} (h0 : 0 ≤ t) (h1 : t ≤ 65535) : RGood (atP m t) := ⟨h0, h1, h.sig0, h.sig1, h.stk, h.cells, h.used0, h.used1, h.trap0, h.trap1, h.rl, h.cl⟩
theorem str_good {m : SM} (h : RGood m) (k : Int) {x : Int} (h0 : 0 ≤ x) (h1 : x ≤ 65535) : RGood (str m k x) :=
  ⟨h.pc0, h.pc1, h.sig0, h.sig1, wordsB_set h.stk _ h0 h1, h.cells, h.used0, h.used1, h.trap0, h.trap1, by show (m.stk.set _ x).length = 24; simp; exact h.rl, h.cl⟩
theorem stc_good {m : SM} (h : RGood m) (k : Int) {x : Int} (h0 : 0 ≤ x) (h1 : x ≤ 65535) : RGood (stc m k x) :=
  ⟨h.pc0, h.pc1, h.sig0, h.sig1, h.stk, wordsB_set h.cells _ h0 h1, h.used0, h.used1, h.trap0, h.trap1, h.rl, by show (m.cells.set _ x).length ≤ 80; simp; exact h.cl⟩
theorem rg_word {m : SM} (h : RGood m) (k : Int) : 0 ≤ rg m k ∧ rg m k ≤ 65535 := by
  unfold rg
  by_cases hk : k.toNat < m.stk.length
  · exact wordsB_get h.stk hk
  · rw [List.getD_eq_getElem?_getD, List.getElem?_eq_none (by omega)]; simp
theorem cl_word {m : SM} (h : RGood m) (k : Nat) : 0 ≤ m.cells.getD k 0 ∧ m.cells.getD k 0 ≤ 65535 := by
  by_cases hk : k < m.cells.length
  · exact wordsB_get h.cells hk
  · rw [List.getD_eq_getElem?_getD, List.getElem?_eq_none (by omega)]; simp
theorem ite_P {α : Type} {P : α → Prop} {c : Prop} [Decidable c] {a b : α} (ha : P a) (hb : P b) : P (if c then a else b) := by split <;> assumption
theorem doR_good {op a b t : Int} {m : SM} (h : RGood m) (ha0 : 0 ≤ a) (ha1 : a ≤ 65535) (hb0 : 0 ≤ b) (hb1 : b ≤ 65535) (ht0 : 0 ≤ t) (ht1 : t ≤ 65535) : RGood (doR op a b t m) := by
  unfold doR
  refine ite_P (P := RGood) (str_good h _ hb0 hb1) ?_
  refine ite_P (P := RGood) (str_good h _ (cl_word h _).1 (cl_word h _).2) ?_
  refine ite_P (P := RGood) (stc_good h _ (rg_word h _).1 (rg_word h _).2) ?_
  refine ite_P (P := RGood) (str_good h _ (cl_word h _).1 (cl_word h _).2) ?_
  refine ite_P (P := RGood) (stc_good h _ (rg_word h _).1 (rg_word h _).2) ?_
  refine ite_P (P := RGood) (str_good h _ ht0 ht1) ?_
  refine ite_P (P := RGood) (str_good h _ (cm_lo _) (cm_hi _)) ?_
  refine ite_P (P := RGood) (str_good h _ (cm_lo _) (cm_hi _)) ?_
  refine ite_P (P := RGood) (str_good h _ (cm_lo _) (cm_hi _)) ?_
  refine ite_P (P := RGood) (atP_good h ha0 ha1) ?_
  refine ite_P (P := RGood) (atP_good h ?_ ?_) ?_
  · have := h.pc0; split <;> omega
  · have := h.pc1; split <;> omega
  refine ite_P (P := RGood) ?_ ?_
  · have := sgn_lo m.sig a
    exact ⟨h.pc0, h.pc1, this.1, by show sgn _ _ ≤ _; omega, h.stk, h.cells, h.used0, h.used1, h.trap0, h.trap1, h.rl, h.cl⟩
  · exact ⟨h.pc0, h.pc1, h.sig0, h.sig1, h.stk, h.cells, h.used0, h.used1, h.trap0, h.trap1, h.rl, h.cl⟩
theorem code_word {code : List Int} (hc : wordsB code = true) (i : Nat) : 0 ≤ code.getD i 0 ∧ code.getD i 0 ≤ 65535 := by
  by_cases hi : i < code.length
  · exact wordsB_get hc hi
  · rw [List.getD_eq_getElem?_getD, List.getElem?_eq_none (by omega)]; simp
theorem goR_good {op a b c d nx : Int} {m : SM} (h : RGood m) (ha0 : 0 ≤ a) (ha1 : a ≤ 65535) (hb0 : 0 ≤ b) (hb1 : b ≤ 65535) (hc0 : 0 ≤ c) (hn0 : 0 ≤ nx) (hn1 : nx ≤ 65535) : RGood (goR op a b c d nx m) := by
  unfold goR
  split
  · exact trpR_good (usedR_good h) (by omega) (by omega)
  split
  · have := toldRC_lo op a b c d m
    exact trpR_good (usedR_good h) this.1 this.2
  · rename_i ht
    rw [Decidable.not_not] at ht
    have hv := toldRV_lo h ht hc0
    exact doR_good (atP_good (usedR_good h) hn0 hn1) ha0 ha1 hb0 hb1 hv.1 hv.2.1
theorem stepRL_good {code : List Int} {m : SM} (h : RGood m) (hc : wordsB code = true) (hl : code.length ≤ 400) : RGood (stepRL code m) := by
  unfold stepRL
  split
  · exact trpR_good (usedR_good h) (by omega) (by omega)
  rename_i hr
  rw [Bool.not_eq_false] at hr
  obtain ⟨r1, r2, r3, r4⟩ := readyR_of hr
  have hpc := h.pc0
  have ha := argR_lo (code.getD m.pc.toNat 0)
  exact goR_good h (code_word hc _).1 (code_word hc _).2 (code_word hc _).1 (code_word hc _).2 (code_word hc _).1 (by omega) (by omega)
theorem stepRM_good {code : List Int} {m : SM} (h : RGood m) (hc : wordsB code = true) (hl : code.length ≤ 400) : RGood (stepRM code m) := by
  unfold stepRM; split
  · exact stepRL_good h hc hl
  · exact h
/-- the code that the instruction at k ends with, and what it comes to -/
def tlC (zs : List Int) (k : Nat) (m : SM) : Int := toldRC (zs.getD k 0) (zs.getD (k + 1) 0) (zs.getD (k + 2) 0) (zs.getD (k + 3) 0) (zs.getD (k + 4) 0) m
def tlD (zs : List Int) (k : Nat) (m : SM) : SM := doR (zs.getD k 0) (zs.getD (k + 1) 0) (zs.getD (k + 2) 0) (toldRV (zs.getD k 0) (zs.getD (k + 1) 0) (zs.getD (k + 2) 0) (zs.getD (k + 3) 0) (zs.getD (k + 4) 0) m) (atP m ((k : Int) + 1 + argR (zs.getD k 0)))
def rdyR (zs : List Int) (k : Nat) (m : SM) : Bool := readyR zs k && hasR (zs.getD k 0) (zs.getD (k + 1) 0) (zs.getD (k + 2) 0) (zs.getD (k + 3) 0) m.cells.length
theorem rdyR_no {zs : List Int} {k : Nat} {m : SM} (hk : m.pc = k) (h : rdyR zs k m = false) : stepRL zs m = trp (usedM m) 1 := by
  unfold rdyR at h
  unfold stepRL
  rw [hk]
  cases hr : readyR zs k
  · rw [if_pos rfl]
  · rw [hr, Bool.true_and] at h
    rw [if_neg (by simp), Int.toNat_natCast]
    unfold goR
    rw [if_pos h]
theorem rdyR_yes {zs : List Int} {k : Nat} {m : SM} (hk : m.pc = k) (h : rdyR zs k m = true) :
    k < zs.length ∧ 1 ≤ zs.getD k 0 ∧ zs.getD k 0 ≤ 13 ∧ (k : Int) + argR (zs.getD k 0) < zs.length ∧ hasR (zs.getD k 0) (zs.getD (k + 1) 0) (zs.getD (k + 2) 0) (zs.getD (k + 3) 0) m.cells.length = true ∧ True ∧ stepRL zs m = if tlC zs k m ≠ 0 then trp (usedM m) (tlC zs k m) else tlD zs k (usedM m) := by
  unfold rdyR at h
  rw [Bool.and_eq_true] at h
  have hq := readyR_of h.1
  simp only [Int.toNat_natCast] at hq
  refine ⟨by omega, hq.2.1, hq.2.2.1, hq.2.2.2, h.2, trivial, ?_⟩
  unfold stepRL
  rw [hk, if_neg (by rw [h.1]; simp), Int.toNat_natCast]
  unfold goR
  rw [if_neg (by rw [h.2]; simp)]
  rfl
end Go.Proofs.Ytcikofhbfncgdaa
namespace Go.Proofs.Ytcikofhbfncgdaa
open Go.RowKit
set_option linter.unusedVariables false

set_option maxHeartbeats 800000 in
theorem l10Args_any (op : Int) (w : World) : Calls Try.prog 93 #[.int .i64 op] w fun e w' => e = .returned (.int .i64 (argR op)) ∧ w' = w := by
  by_cases h4 : op = 4
  · subst h4; go_enter Try.func93, Try.ntmps93; go_wp2; go_ret; exact ⟨rfl, rfl⟩
  by_cases h5 : op = 5
  · subst h5; go_enter Try.func93, Try.ntmps93; go_wp2; go_ret; exact ⟨rfl, rfl⟩
  by_cases h6 : op = 6
  · subst h6; go_enter Try.func93, Try.ntmps93; go_wp2; go_ret; exact ⟨rfl, rfl⟩
  by_cases h9 : op = 9
  · subst h9; go_enter Try.func93, Try.ntmps93; go_wp2; go_ret; exact ⟨rfl, rfl⟩
  by_cases h10 : op = 10
  · subst h10; go_enter Try.func93, Try.ntmps93; go_wp2; go_ret; exact ⟨rfl, rfl⟩
  by_cases h12 : op = 12
  · subst h12; go_enter Try.func93, Try.ntmps93; go_wp2; go_ret; exact ⟨rfl, rfl⟩
  by_cases h13 : op = 13
  · subst h13; go_enter Try.func93, Try.ntmps93; go_wp2; go_ret; exact ⟨rfl, rfl⟩
  have e : argR op = 2 := by unfold argR; rw [if_neg (by omega), if_neg (by omega), if_neg (by omega)]
  have e4 : (op == 4) = false := by simpa using h4
  have e5 : (op == 5) = false := by simpa using h5
  have e6 : (op == 6) = false := by simpa using h6
  have e9 : (op == 9) = false := by simpa using h9
  have e10 : (op == 10) = false := by simpa using h10
  have e12 : (op == 12) = false := by simpa using h12
  have e13 : (op == 13) = false := by simpa using h13
  rw [e]
  clear e h4 h5 h6 h9 h10 h12 h13
  go_enter Try.func93, Try.ntmps93
  go_wp2
  go_ret
  exact ⟨rfl, rfl⟩
set_option maxHeartbeats 800000 in
theorem specArgsR (op : Int) (w : World) : Calls Try.prog 43 #[.int .i64 op] w fun e w' => e = .returned (.agg #[.int .i64 (if inB op 1 13 then 0 else 3), .int .i64 (if inB op 1 13 then argR op else 0)]) ∧ Below w.heap.size w w' := by
  have HI : Hid (∀ W, Calls Try.prog 71 #[.int .i64 op, .int .i64 1, .int .i64 13] W fun e w' => e = .returned (.bool (inB op 1 13)) ∧ w' = W) := l1In_any op 1 13
  have HO : Hid (∀ W, Calls Try.prog 93 #[.int .i64 op] W fun e w' => e = .returned (.int .i64 (argR op)) ∧ w' = W) := l10Args_any op
  generalize argR op = A at *
  cases hq : inB op 1 13
  · rw [hq] at HI
    go_enter Try.func43, Try.ntmps43
    go_wp2_with fail
    refine (HI.out _).mono ?_
    rintro e w1 ⟨rfl, rfl⟩
    go_wp2_with fail
    refine bodyPost_ret (v := .agg #[.int .i64 3, .int .i64 0]) (by simp [results, Try.results43, go_sem]) rfl ⟨rfl, ?_⟩
    go_grown
  · rw [hq] at HI
    go_enter Try.func43, Try.ntmps43
    go_wp2_with fail
    refine (HI.out _).mono ?_
    rintro e w1 ⟨rfl, rfl⟩
    go_wp2_with fail
    refine (HO.out _).mono ?_
    rintro e w1 ⟨rfl, rfl⟩
    go_wp2_with fail
    refine bodyPost_ret (v := .agg #[.int .i64 0, .int .i64 A]) (by simp [results, Try.results43, go_sem]) rfl ⟨rfl, ?_⟩
    go_grown
end Go.Proofs.Ytcikofhbfncgdaa
namespace Go.Proofs.Ytcikofhbfncgdaa
open Go.RowKit
set_option linter.unusedVariables false

set_option maxHeartbeats 6400000 in
set_option maxRecDepth 100000 in
theorem code_anyG (S K cap A : Nat) (c : Option Addr) (w : World) (hK : K ≤ 1048576) (hA : A ≤ 50000) (h : Ready w S c K cap A) :
    Calls Try.prog 62 #[.pointer (some ⟨S, 0, none⟩)] w fun e w' => ∃ (ad : Option Addr) (cp A' : Nat) (zs : List Int), e = .returned (.slice ad zs.length cp) ∧ zs.length ≤ 500 ∧ A' ≤ A + 3000 ∧ DQ S K cap c w.heap.size w w' A' (.slice ad zs.length cp) zs := by
  have HD0 : Hid (DQ S K cap c w.heap.size w (w.alloc (.cells #[] 2)) A (.slice (some ⟨w.heap.size, 0, none⟩) 0 0) []) :=
    ⟨h.below (alloc_bel _ _), Only.of_below (alloc_bel _ _) (Nat.le_of_lt h.src.lt), own_new w _ (Nat.le_refl _), h.src.lt, (alloc_bel _ _).size⟩
  clear h
  go_enter Try.func62, Try.ntmps62
  go_wp2_with fail
  generalize w.alloc (.cells #[] 2) = W at *
  refine (draw_next S K cap A c 14 W hK (by omega) (by omega) (by omega) HD0.out.r).mono ?_
  rintro e w1 ⟨r, rfl, hr0, hr1, hr, ho⟩
  have HD1 := hid (HD0.out.draw hr ho)
  obtain ⟨N, rfl⟩ := Int.eq_ofNat_of_zero_le hr0
  have hN : N < 14 := by omega
  clear hr ho hr0 hr1 HD0
  generalize Value.slice (some ⟨w.heap.size, 0, none⟩) 0 0 = v0 at *
  go_wp2_with fail
  go_loopw [3, 4] (fun v i wr => ∃ (zs : List Int) (r A1 : Nat), i = .int .i64 r ∧ zs.length + 5 * r ≤ 70 ∧ A1 + 30 * r ≤ A + 450 ∧ Hid (DQ S K cap c w.heap.size w wr A1 v zs)) (fun _ i _ => (intOf i).toNat)
  case atStart => exact ⟨[], N, A + 1, rfl, by simp; omega, by omega, HD1⟩
  case round =>
    clear HD1
    obtain ⟨zs, r, A1, rfl, hzr, hA1, HD⟩ := hrel
    by_cases hlt : 0 < r
    · go_wp2_with fail
      refine (draw_next S K cap A1 c 13 wr hK (by omega) (by omega) (by omega) HD.out.r).mono ?_
      rintro e w2 ⟨q, rfl, hq0, hq1, hr, ho⟩
      have HD2 := hid (HD.out.draw hr ho)
      clear hr ho HD
      have hq2 : q < 13 := by omega
      clear hq1
      obtain ⟨op, hop⟩ : ∃ op, op = 1 + q := ⟨_, rfl⟩
      have hwq : IntKind.i64.wrap (1 + q) = op := by rw [IntWalk.i64_in _ ⟨by omega, by omega⟩, hop]
      clear hop hq0 hq2
      go_upto_region 6 with fail
      clear hwq
      have HDX := hid HD2.out
      clear HD2
      generalize w2 = wc at *
      have HD5 := hid (HDX.out.below (alloc_bel wc (.cells #[.int .i64 op] 2)))
      clear HDX
      go_wp2_with (at_builtin; refine wpList_append_nums rfl _ _ rfl w.heap.size _ zs [op] (by rfl) HD5.out.z (some ⟨wc.heap.size, 0, none⟩) 1 (by rfl) (one_nums wc op) (fun e => by cases e) (fun e => by cases e) (by simp; omega) HD5.out.l.2 ?_)
      intro v6 w6 ho hg hv
      have HD6 := hid (HD5.out.grow (Nat.le_refl _) ho.out hg.out)
      clear ho hg hv HD5
      have hag := argR_lo op
      go_wp2_with fail
      go_loopw [3, 6] (fun v j wr => ∃ (ys : List Int) (jj A4 : Nat), j = .int .i64 jj ∧ (jj : Int) ≤ argR op ∧ ys.length = zs.length + 1 + jj ∧ A4 ≤ A1 + 1 + 6 * jj ∧ Hid (DQ S K cap c w.heap.size w wr A4 v ys)) (fun _ j _ => (argR op).toNat - (intOf j).toNat)
      case atStart => exact ⟨zs ++ [op], 0, A1 + 1, rfl, by omega, by simp, by omega, HD6⟩
      case round =>
        clear HD6
        obtain ⟨ys, jj, A4, rfl, hj, hy, hA4, HDY⟩ := hrel
        go_wp2_with fail
        refine (l10Args_any op wr).mono ?_
        rintro e w7 ⟨rfl, hw7⟩
        have hw8 := hw7.symm
        clear hw7
        subst hw8
        by_cases hlt2 : (jj : Int) < argR op
        · go_wp2_with fail
          refine (draw_next S K cap A4 c 6 wr hK (by omega) (by omega) (by omega) HDY.out.r).mono ?_
          rintro e w8 ⟨r1, rfl, _, _, hr, ho⟩
          have HD8 := hid (HDY.out.draw hr ho)
          clear hr ho HDY
          go_wp2_with fail
          refine (draw_next S K cap (A4 + 1) c 4 w8 hK (by omega) (by omega) (by omega) HD8.out.r).mono ?_
          rintro e w9 ⟨r2, rfl, _, _, hr, ho⟩
          have HD9 := hid (HD8.out.draw hr ho)
          clear hr ho HD8
          go_wp2_with fail
          refine (draw_next S K cap (A4 + 2) c 20 w9 hK (by omega) (by omega) (by omega) HD9.out.r).mono ?_
          rintro e w10 ⟨r3, rfl, _, _, hr, ho⟩
          have HD10 := hid (HD9.out.draw hr ho)
          clear hr ho HD9
          go_wp2_with fail
          refine (draw_next S K cap (A4 + 3) c 5 w10 hK (by omega) (by omega) (by omega) HD10.out.r).mono ?_
          rintro e w11 ⟨r4, rfl, g40, g41, hr, ho⟩
          have HD11 := hid (HD10.out.draw hr ho)
          clear hr ho HD10
          go_wp2_with fail
          refine (draw_next S K cap (A4 + 4) c 2 w11 hK (by omega) (by omega) (by omega) HD11.out.r).mono ?_
          rintro e w12 ⟨r5, rfl, g50, g51, hr, ho⟩
          have HD12 := hid (HD11.out.draw hr ho)
          clear hr ho HD11
          have hr6 : ∃ r6 : Int, r6 = 65535 - r4 * r5 := ⟨_, rfl⟩
          have hr5 : r5 = 0 ∨ r5 = 1 := by omega
          have hm5 : 0 ≤ r4 * r5 ∧ r4 * r5 ≤ 4 := by
            rcases hr5 with rfl | rfl
            · rw [Int.mul_zero]; omega
            · rw [Int.mul_one]; omega
          have hw5 : IntKind.i64.wrap (r4 * r5) = r4 * r5 := IntWalk.i64_in _ ⟨by omega, by omega⟩
          obtain ⟨r6, hr6⟩ := hr6
          have hw6 : IntKind.i64.wrap (65535 - r4 * r5) = r6 := by rw [hr6]; exact IntWalk.i64_in _ ⟨by omega, by omega⟩
          clear hr6 hr5 hm5 g40 g41 g50 g51
          have HDA := hid (HD12.out.below (alloc_bel w12 (.cells #[.int .i64 r1, .int .i64 r2, .int .i64 r3, .int .i64 r6] 2)))
          have HPA : Hid (Picks (w12.alloc (.cells #[.int .i64 r1, .int .i64 r2, .int .i64 r3, .int .i64 r6] 2)) w12.heap.size [r1, r2, r3, r6]) := picks_new w12 [r1, r2, r3, r6] 2
          have hne : w12.heap.size ≠ S := by have := HD12.out.r.src.lt; omega
          go_wp2_with fail
          refine (draw_pick S K cap (A4 + 5) c w12.heap.size [r1, r2, r3, r6] 4 4 _ hK (by omega) rfl (by omega) (by omega) HPA.out hne HDA.out.r).mono ?_
          rintro e wB ⟨x, rfl, _, hr, ho⟩
          have HDB := hid (HDA.out.draw hr ho)
          have HD13 := hid (HDB.out.below (alloc_bel wB (.cells #[.int .i64 x] 2)))
          clear hr ho HD12 HDA HPA hne HDB hw5 hw6
          go_wp2_with (at_builtin; refine wpList_append_nums rfl _ _ rfl w.heap.size _ ys [x] (by rfl) HD13.out.z (some ⟨wB.heap.size, 0, none⟩) 1 (by rfl) (one_nums wB x) (fun e => by cases e) (fun e => by cases e) (by simp; omega) HD13.out.l.2 ?_)
          intro v14 w14 ho hg hv
          have HD14 := hid (HD13.out.grow (Nat.le_refl _) ho.out hg.out)
          clear ho hg hv HD13
          go_wp2_with fail
          refine ⟨⟨ys ++ [x], jj + 1, A4 + 6, by go_num, by omega, by simp; omega, by omega, HD14⟩, ?_⟩
          simp [intOf]; omega
        · go_wp2_with fail
          refine ⟨⟨ys, r - 1, A4, ?_, by omega, by omega, HDY⟩, ?_⟩
          · congr 1; omega
          · simp [intOf]; omega
    · have hr0 : r = 0 := by omega
      subst hr0
      have hr0 : ¬ (0 : Int) < ((0 : Nat) : Int) := by omega
      clear hlt
      go_wp2_with fail
      refine (chance_any S K cap A1 c 2 wr hK (by omega) (by omega) (by omega) HD.out.r).mono ?_
      rintro e w2 ⟨bb, rfl, hr, ho⟩
      have HD2 := hid (HD.out.draw hr ho)
      clear hr ho HD
      go_upto_if 46 with fail
      go_cut [3] from 4 (fun v W' => ∃ (ys : List Int) (A2 : Nat), ys.length ≤ 71 ∧ A2 ≤ A1 + 1 ∧ Hid (DQ S K cap c w.heap.size w W' A2 v ys))
      case first =>
        cases bb with
        | false =>
          go_wp2_with fail
          go_meet
          case rel => exact ⟨zs, A1 + 1, by omega, by omega, HD2⟩
        | true =>
          have HD3 := hid (HD2.out.below (alloc_bel w2 (.cells #[.int .i64 13] 2)))
          go_wp2_with (at_builtin; refine wpList_append_nums rfl _ _ rfl w.heap.size _ zs [13] (by rfl) HD3.out.z (some ⟨w2.heap.size, 0, none⟩) 1 (by rfl) (one_nums w2 13) (fun e => by cases e) (fun e => by cases e) (by simp; omega) HD3.out.l.2 ?_)
          intro v14 w14 ho hg hv
          have HD14 := hid (HD3.out.grow (Nat.le_refl _) ho.out hg.out)
          clear ho hg hv HD2 HD3
          go_wp2_with fail
          go_meet
          case rel => exact ⟨zs ++ [13], A1 + 1, by simp; omega, by omega, HD14⟩
      case rest =>
        clear HD2
        obtain ⟨ys, A2, hy, hA2, HD3⟩ := hcut
        obtain ⟨ad, cp, he⟩ := own_shape HD3.out.z
        go_wp2_with fail
        refine (chance_any S K cap A2 c 14 wc hK (by omega) (by omega) (by omega) HD3.out.r).mono ?_
        rintro e w4 ⟨bb, rfl, hr, ho⟩
        have HD4 := hid (HD3.out.draw hr ho)
        clear hr ho HD3
        cases bb with
        | false =>
          subst he
          go_wp2_with fail
          go_ret
          exact ⟨ad, cp, A2 + 1, ys, rfl, by omega, by omega, HD4.out⟩
        | true =>
          clear he
          go_wp2_with fail
          refine (words_any S K cap (A2 + 1) c w4 hK (by omega) HD4.out.r).mono ?_
          rintro e w5 ⟨ad5, cp5, A5, xs, rfl, hxl, hown, hA5, hr, ho⟩
          have HD5 : Hid (DQ S K cap c w.heap.size w w5 A5 (.slice ad5 xs.length cp5) xs) := ⟨hr, HD4.out.o.trans ho, own_mono hown HD4.out.l.2, HD4.out.l.1, Nat.le_trans HD4.out.l.2 ho.1.size⟩
          clear hown hr ho HD4
          go_wp2_with fail
          go_ret
          exact ⟨ad5, cp5, A5, xs, rfl, by omega, by omega, HD5.out⟩
end Go.Proofs.Ytcikofhbfncgdaa
