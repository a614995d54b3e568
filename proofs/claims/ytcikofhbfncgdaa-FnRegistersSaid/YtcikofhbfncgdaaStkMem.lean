/-
  A machine in memory: its block, its rows; what a store, an append make of it.
-/
import Derived.Test.YtcikofhbfncgdaaReck1
import Derived.Deep.RegionHeld3
import Derived.Test.YtcikofhbfncgdaaDraws
import Derived.Maps.AppendAt
import Derived.Laws.AppendOwn
namespace Go.Proofs.Ytcikofhbfncgdaa
open Go.RowKit
set_option linter.unusedVariables false

structure SM where
  pc : Int
  stk : List Int
  cells : List Int
  sig : Int
  used : Int
  trap : Int
  done : Bool

def smFit (m : SM) : Bool := inB m.pc 0 65535 && inB m.sig 0 65535 && wordsB m.stk && wordsB m.cells && inB m.used 0 1000000 && inB m.trap 0 10
def smF (m : SM) : Int := if smFit m then (if 40 < m.stk.length ∨ 80 < m.cells.length then 2 else 0) else 3
/-- a machine without a fault -/
structure Good (m : SM) : Prop where
  pc0 : 0 ≤ m.pc
  pc1 : m.pc ≤ 65535
  sig0 : 0 ≤ m.sig
  sig1 : m.sig ≤ 65535
  stk : wordsB m.stk = true
  cells : wordsB m.cells = true
  used0 : 0 ≤ m.used
  used1 : m.used ≤ 1000000
  trap0 : 0 ≤ m.trap
  trap1 : m.trap ≤ 10
  sl : m.stk.length ≤ 40
  cl : m.cells.length ≤ 80
theorem good_of {m : SM} (h : smF m = 0) : Good m := by
  unfold smF at h
  split at h
  · rename_i hf
    split at h
    · omega
    rename_i hl
    unfold smFit at hf
    simp only [Bool.and_eq_true, inB_iff] at hf
    obtain ⟨⟨⟨⟨⟨a, b⟩, c⟩, d⟩, e⟩, f⟩ := hf
    exact ⟨a.1, a.2, b.1, b.2, c, d, e.1, e.2, f.1, f.2, by omega, by omega⟩
  · omega
theorem good_F {m : SM} (h : Good m) : smF m = 0 := by
  have hf : smFit m = true := by
    unfold smFit
    simp only [Bool.and_eq_true, inB_iff]
    exact ⟨⟨⟨⟨⟨⟨h.pc0, h.pc1⟩, h.sig0, h.sig1⟩, h.stk⟩, h.cells⟩, h.used0, h.used1⟩, h.trap0, h.trap1⟩
  have := h.sl
  have := h.cl
  rw [smF, if_pos hf, if_neg (by omega)]

def argN (op : Int) : Int := if op = 4 ∨ op = 5 then 2 else if op = 7 ∨ op = 8 ∨ op = 9 ∨ op = 13 then 0 else 1
def tkN (op : Int) : Int := if op = 3 ∨ op = 4 ∨ op = 7 ∨ op = 8 ∨ op = 9 ∨ op = 11 then 1 else if op = 5 ∨ op = 6 then 2 else 0
def gvN (op : Int) : Int := if op = 1 ∨ op = 2 ∨ op = 4 ∨ op = 6 ∨ op = 7 ∨ op = 8 ∨ op = 9 then 1 else 0
/-- the j-th from the top -/
def tp (m : SM) (j : Nat) : Int := m.stk.getD (m.stk.length - 1 - j) 0
def pop (m : SM) : SM := { m with stk := m.stk.take (m.stk.length - 1) }
def psh (m : SM) (x : Int) : SM := { m with stk := m.stk ++ [x] }
def sto (m : SM) (k : Nat) (x : Int) : SM := { m with cells := m.cells.set k x }
def sgn (s k : Int) : Int := (wd s * 31 + wd k + 1) % 65521
def readyB (code : List Int) (pc : Int) : Bool := decide (pc < code.length) && inB (code.getD pc.toNat 0) 1 13 && decide (pc + argN (code.getD pc.toNat 0) < code.length)
def fitsB (n : Nat) (op : Int) : Bool := decide (tkN op ≤ n) && decide (n - tkN op + gvN op ≤ 40)
def itemC (n : Nat) (f s i : Int) : Int := if inB (sg i) 0 (s - 1) then (if f + sg i < n then 0 else 1) else 3
def itemV (n : Nat) (f s i : Int) : Int := if itemC n f s i = 0 then f + sg i else 0
def cellC (n : Nat) (u : Int) : Int := if u < n then 0 else 1
def cellV (n : Nat) (u : Int) : Int := if u < n then u else 0
def twoC (u b : Int) : Int := if binC u b = 3 then 1 else binC u b
def toldC (op u v : Int) (m : SM) : Int :=
  if op = 2 ∨ op = 3 then cellC m.cells.length u else if op = 4 then itemC m.cells.length u v (tp m 0)
  else if op = 5 then itemC m.cells.length u v (tp m 1) else if op = 6 then twoC u (tp m 0) else 0
def toldV (op u v : Int) (m : SM) : Int :=
  if op = 2 ∨ op = 3 then cellV m.cells.length u else if op = 4 then itemV m.cells.length u v (tp m 0)
  else if op = 5 then itemV m.cells.length u v (tp m 1) else if op = 6 then binV u (tp m 1) (tp m 0) else 0
/-- an instruction done (the pc is behind it already) -/
def doM (op u t : Int) (m : SM) : SM :=
  if op = 1 then psh m u
  else if op = 2 then psh m (m.cells.getD t.toNat 0)
  else if op = 3 then sto (pop m) t.toNat (tp m 0)
  else if op = 4 then psh (pop m) (m.cells.getD t.toNat 0)
  else if op = 5 then sto (pop (pop m)) t.toNat (tp m 0)
  else if op = 6 then psh (pop (pop m)) t
  else if op = 7 then psh (pop m) (wd (-(tp m 0)))
  else if op = 8 then psh (pop m) (nt (tp m 0))
  else if op = 9 then psh (pop m) (b01 (decide (tp m 0 ≠ 0)))
  else if op = 10 then { m with pc := u }
  else if op = 11 then { pop m with pc := if tp m 0 = 0 then u else m.pc }
  else if op = 12 then { m with sig := sgn m.sig u }
  else { m with done := true }
def usedM (m : SM) : SM := { m with used := if m.used + 1 ≤ 1000000 then m.used + 1 else 1000000 }
/-- a step of a machine that goes on -/
def stepL (code : List Int) (m : SM) : SM :=
  if readyB code m.pc = false then { usedM m with trap := 1 }
  else if fitsB m.stk.length (code.getD m.pc.toNat 0) = false then { usedM m with trap := 1 }
  else if toldC (code.getD m.pc.toNat 0) (code.getD (m.pc.toNat + 1) 0) (code.getD (m.pc.toNat + 2) 0) m ≠ 0 then { usedM m with trap := toldC (code.getD m.pc.toNat 0) (code.getD (m.pc.toNat + 1) 0) (code.getD (m.pc.toNat + 2) 0) m }
  else doM (code.getD m.pc.toNat 0) (code.getD (m.pc.toNat + 1) 0) (toldV (code.getD m.pc.toNat 0) (code.getD (m.pc.toNat + 1) 0) (code.getD (m.pc.toNat + 2) 0) m) { usedM m with pc := m.pc + 1 + argN (code.getD m.pc.toNat 0) }
def goes (m : SM) : Bool := !m.done && (m.trap == 0)
def stepM (code : List Int) (m : SM) : SM := if goes m then stepL code m else m

theorem argN_lo (op : Int) : 0 ≤ argN op ∧ argN op ≤ 2 := by
  unfold argN
  repeat' split
  all_goals omega
theorem tkN_lo (op : Int) : 0 ≤ tkN op ∧ tkN op ≤ 2 := by
  unfold tkN
  repeat' split
  all_goals omega
theorem gvN_lo (op : Int) : 0 ≤ gvN op ∧ gvN op ≤ 1 := by
  unfold gvN
  repeat' split
  all_goals omega
theorem sgn_lo (s k : Int) : 0 ≤ sgn s k ∧ sgn s k ≤ 65520 := by unfold sgn; omega
theorem sgn_w64 (s k : Int) : wrap64 (wd s * 31 + wd k + 1) = wd s * 31 + wd k + 1 := by
  have := wd_lo s; have := wd_hi s; have := wd_lo k; have := wd_hi k; unfold wrap64; omega
theorem nt_lo (x : Int) : 0 ≤ nt x ∧ nt x ≤ 1 := by unfold nt; split <;> omega
theorem b01_lo (b : Bool) : 0 ≤ b01 b ∧ b01 b ≤ 1 := by cases b <;> decide
theorem twoC_lo (u b : Int) : 0 ≤ twoC u b ∧ twoC u b ≤ 10 := by
  unfold twoC binC
  repeat' split
  all_goals omega
theorem itemC_lo (n : Nat) (f s i : Int) : 0 ≤ itemC n f s i ∧ itemC n f s i ≤ 10 := by
  unfold itemC
  repeat' split
  all_goals omega
theorem toldC_lo (op u v : Int) (m : SM) : 0 ≤ toldC op u v m ∧ toldC op u v m ≤ 10 := by
  unfold toldC cellC
  repeat' split
  all_goals first | exact itemC_lo _ _ _ _ | exact twoC_lo _ _ | omega
theorem tp_word {m : SM} (h : wordsB m.stk = true) {j : Nat} (hj : j < m.stk.length) : 0 ≤ tp m j ∧ tp m j ≤ 65535 := wordsB_get h (by omega)
theorem pop_good {m : SM} (h : Good m) : Good (pop m) := ⟨h.pc0, h.pc1, h.sig0, h.sig1, wordsB_take h.stk _, h.cells, h.used0, h.used1, h.trap0, h.trap1, by
  have := h.sl
  show (m.stk.take (m.stk.length - 1)).length ≤ 40
  simp only [List.length_take]; omega, h.cl⟩
theorem pop_len (m : SM) : (pop m).stk.length = m.stk.length - 1 := by
  show (m.stk.take (m.stk.length - 1)).length = _
  simp only [List.length_take]; omega
theorem tp_pop (m : SM) (h : 1 < m.stk.length) : tp (pop m) 0 = tp m 1 := by
  unfold tp
  rw [pop_len]
  show (m.stk.take (m.stk.length - 1)).getD _ 0 = _
  rw [List.getD_eq_getElem?_getD, List.getD_eq_getElem?_getD, List.getElem?_take_of_lt (by omega)]
  congr 2
theorem psh_good {m : SM} (h : Good m) {x : Int} (h0 : 0 ≤ x) (h1 : x ≤ 65535) (hl : m.stk.length ≤ 39) : Good (psh m x) :=
  ⟨h.pc0, h.pc1, h.sig0, h.sig1, wordsB_snoc h.stk h0 h1, h.cells, h.used0, h.used1, h.trap0, h.trap1, by show (m.stk ++ [x]).length ≤ 40; simp; omega, h.cl⟩
theorem sto_good {m : SM} (h : Good m) (k : Nat) {x : Int} (h0 : 0 ≤ x) (h1 : x ≤ 65535) : Good (sto m k x) :=
  ⟨h.pc0, h.pc1, h.sig0, h.sig1, h.stk, wordsB_set h.cells k h0 h1, h.used0, h.used1, h.trap0, h.trap1, h.sl, by show (m.cells.set k x).length ≤ 80; simp; exact h.cl⟩
theorem usedM_good {m : SM} (h : Good m) : Good (usedM m) :=
  ⟨h.pc0, h.pc1, h.sig0, h.sig1, h.stk, h.cells, by have := h.used0; show 0 ≤ ite _ _ _; split <;> omega, by show ite _ _ _ ≤ (1000000 : Int); split <;> omega, h.trap0, h.trap1, h.sl, h.cl⟩
theorem trap_good {m : SM} (h : Good m) {t : Int} (h0 : 0 ≤ t) (h1 : t ≤ 10) : Good { m with trap := t } := ⟨h.pc0, h.pc1, h.sig0, h.sig1, h.stk, h.cells, h.used0, h.used1, h0, h1, h.sl, h.cl⟩
theorem pc_good {m : SM} (h : Good m) {t : Int} (h0 : 0 ≤ t) (h1 : t ≤ 65535) : Good { m with pc := t } := ⟨h0, h1, h.sig0, h.sig1, h.stk, h.cells, h.used0, h.used1, h.trap0, h.trap1, h.sl, h.cl⟩
theorem sig_good {m : SM} (h : Good m) {t : Int} (h0 : 0 ≤ t) (h1 : t ≤ 65535) : Good { m with sig := t } := ⟨h.pc0, h.pc1, h0, h1, h.stk, h.cells, h.used0, h.used1, h.trap0, h.trap1, h.sl, h.cl⟩
theorem done_good {m : SM} (h : Good m) (b : Bool) : Good { m with done := b } := ⟨h.pc0, h.pc1, h.sig0, h.sig1, h.stk, h.cells, h.used0, h.used1, h.trap0, h.trap1, h.sl, h.cl⟩

theorem ready_of {code : List Int} {pc : Int} (h : readyB code pc = true) : pc < code.length ∧ 1 ≤ code.getD pc.toNat 0 ∧ code.getD pc.toNat 0 ≤ 13 ∧ pc + argN (code.getD pc.toNat 0) < code.length := by
  unfold readyB at h
  simp only [Bool.and_eq_true, decide_eq_true_eq, inB_iff] at h
  exact ⟨h.1.1, h.1.2.1, h.1.2.2, h.2⟩
theorem fits_of {n : Nat} {op : Int} (h : fitsB n op = true) : tkN op ≤ n ∧ n - tkN op + gvN op ≤ 40 := by
  unfold fitsB at h
  simpa only [Bool.and_eq_true, decide_eq_true_eq] using h

theorem doM_good {op u t : Int} {m : SM} (h : Good m) (h1 : 1 ≤ op) (h2 : op ≤ 13) (hf : fitsB m.stk.length op = true) (hu0 : 0 ≤ u) (hu1 : u ≤ 65535) (ht0 : 0 ≤ t) (ht1 : t ≤ 65535) (htc : op = 2 ∨ op = 4 → t < m.cells.length) : Good (doM op u t m) := by
  have hF := fits_of hf
  clear hf
  have hop : op = 1 ∨ op = 2 ∨ op = 3 ∨ op = 4 ∨ op = 5 ∨ op = 6 ∨ op = 7 ∨ op = 8 ∨ op = 9 ∨ op = 10 ∨ op = 11 ∨ op = 12 ∨ op = 13 := by omega
  have hp := pop_len m
  have hcell : ∀ _ : op = 2 ∨ op = 4, 0 ≤ m.cells.getD t.toNat 0 ∧ m.cells.getD t.toNat 0 ≤ 65535 := fun e => wordsB_get h.cells (by have := htc e; omega)
  rcases hop with rfl | rfl | rfl | rfl | rfl | rfl | rfl | rfl | rfl | rfl | rfl | rfl | rfl
  all_goals simp only [tkN, gvN] at hF; simp at hF
  · exact psh_good h hu0 hu1 (by omega)
  · have := hcell (.inl rfl); exact psh_good h this.1 this.2 (by omega)
  · have := tp_word h.stk (j := 0) (by omega); exact sto_good (pop_good h) _ this.1 this.2
  · have := hcell (.inr rfl); exact psh_good (pop_good h) this.1 this.2 (by omega)
  · have := tp_word h.stk (j := 0) (by omega); exact sto_good (pop_good (pop_good h)) _ this.1 this.2
  · exact psh_good (pop_good (pop_good h)) ht0 ht1 (by rw [pop_len]; omega)
  · have := wd_lo (-(tp m 0)); have := wd_hi (-(tp m 0)); exact psh_good (pop_good h) (by assumption) (by assumption) (by omega)
  · have := nt_lo (tp m 0); exact psh_good (pop_good h) this.1 (by omega) (by omega)
  · have := b01_lo (decide (tp m 0 ≠ 0)); exact psh_good (pop_good h) this.1 (by omega) (by omega)
  · exact pc_good h hu0 hu1
  · refine pc_good (pop_good h) ?_ ?_
    · have := h.pc0; split <;> omega
    · have := h.pc1; split <;> omega
  · have := sgn_lo m.sig u; exact sig_good h this.1 (by omega)
  · exact done_good h true
theorem toldV_lo {op u v : Int} {m : SM} (h : Good m) (hc : toldC op u v m = 0) (hu : 0 ≤ u) : 0 ≤ toldV op u v m ∧ toldV op u v m ≤ 65535 ∧ (op = 2 ∨ op = 3 ∨ op = 4 ∨ op = 5 → toldV op u v m < m.cells.length) := by
  have hcl := h.cl
  have hi : ∀ i, itemC m.cells.length u v i = 0 → 0 ≤ itemV m.cells.length u v i ∧ itemV m.cells.length u v i < m.cells.length := fun i hi => by
    unfold itemV
    rw [if_pos hi]
    unfold itemC at hi
    split at hi
    · rename_i hb
      have := (inB_iff.1 hb).1
      split at hi
      · omega
      · omega
    · omega
  unfold toldC at hc
  unfold toldV
  split at hc
  · rename_i e
    rw [if_pos e]
    unfold cellC at hc
    unfold cellV
    split at hc
    · rename_i e2; rw [if_pos e2]; exact ⟨hu, by omega, fun _ => e2⟩
    · omega
  rename_i e
  rw [if_neg e]
  split at hc
  · rename_i e2; rw [if_pos e2]; have := hi _ hc; exact ⟨this.1, by omega, fun _ => this.2⟩
  rename_i e2
  rw [if_neg e2]
  split at hc
  · rename_i e3; rw [if_pos e3]; have := hi _ hc; exact ⟨this.1, by omega, fun _ => this.2⟩
  rename_i e3
  rw [if_neg e3]
  split
  · exact ⟨binV_lo _ _ _, binV_hi _ _ _, fun e4 => by omega⟩
  · exact ⟨by omega, by omega, fun e4 => by omega⟩
theorem stepL_good {code : List Int} {m : SM} (h : Good m) (hc : wordsB code = true) (hl : code.length ≤ 400) : Good (stepL code m) := by
  unfold stepL
  split
  · exact trap_good (usedM_good h) (by omega) (by omega)
  rename_i hr
  rw [Bool.not_eq_false] at hr
  obtain ⟨r1, r2, r3, r4⟩ := ready_of hr
  have hpc := h.pc0
  have ha := argN_lo (code.getD m.pc.toNat 0)
  split
  · exact trap_good (usedM_good h) (by omega) (by omega)
  rename_i hf
  rw [Bool.not_eq_false] at hf
  have hw : ∀ i, 0 ≤ code.getD i 0 ∧ code.getD i 0 ≤ 65535 := fun i => by
    by_cases hi : i < code.length
    · exact wordsB_get hc hi
    · rw [List.getD_eq_getElem?_getD, List.getElem?_eq_none (by omega)]; simp
  split
  · have := toldC_lo (code.getD m.pc.toNat 0) (code.getD (m.pc.toNat + 1) 0) (code.getD (m.pc.toNat + 2) 0) m
    exact trap_good (usedM_good h) this.1 this.2
  rename_i ht
  rw [Decidable.not_not] at ht
  have hv := toldV_lo h ht (hw _).1
  exact doM_good (pc_good (usedM_good h) (by omega) (by omega)) r2 r3 hf (hw _).1 (hw _).2 hv.1 hv.2.1 (fun e => hv.2.2 (by omega))
theorem stepM_good {code : List Int} {m : SM} (h : Good m) (hc : wordsB code = true) (hl : code.length ≤ 400) : Good (stepM code m) := by
  unfold stepM; split
  · exact stepL_good h hc hl
  · exact h
end Go.Proofs.Ytcikofhbfncgdaa
namespace Go.Proofs.Ytcikofhbfncgdaa
open Go.RowKit
set_option linter.unusedVariables false

/-- a row's block behind a call -/
theorem blk8 {w w' : World} {g : Nat} {cs : Array Value} {T : TypeId} (h : w.heap[g]? = some (.cells cs T (0, 0))) (hb : Below w.heap.size w w') : w'.heap[g]? = some (.cells cs T (0, 0)) :=
  (hb.block g (Array.getElem?_eq_some_iff.1 h).1).trans h
set_option maxHeartbeats 400000 in
theorem implSignOf (s k : Int) (w : World) : Calls Try.prog 138 #[.int .i64 s, .int .i64 k] w fun e w' => e = .returned (.int .i64 (sgn s k)) ∧ w' = w := by
  have h1 := wd_lo s; have h2 := wd_hi s; have h3 := wd_lo k; have h4 := wd_hi k
  have HA : Hid (∀ W, Calls Try.prog 160 #[.int .i64 s] W fun e w' => e = .returned (.int .i64 (wd s)) ∧ w' = W) := implWordOf s
  have HB : Hid (∀ W, Calls Try.prog 160 #[.int .i64 k] W fun e w' => e = .returned (.int .i64 (wd k)) ∧ w' = W) := implWordOf k
  have HE : Hid (sgn s k = (wd s * 31 + wd k + 1) % 65521) := rfl
  generalize wd s = a at *
  generalize wd k = b at *
  rw [HE.out]
  clear HE
  go_enter Try.func138, Try.ntmps138
  go_wp2_with fail
  refine (HA.out _).mono ?_
  rintro e w1 ⟨rfl, rfl⟩
  go_wp2_with fail
  refine (HB.out _).mono ?_
  rintro e w1 ⟨rfl, rfl⟩
  go_wp2_with fail
  go_ret
  exact ⟨rfl, rfl⟩
set_option maxHeartbeats 400000 in
theorem specSignOf (s k : Int) (w : World) : Calls Try.prog 150 #[.int .i64 s, .int .i64 k] w fun e w' => e = .returned (.int .i64 (sgn s k)) ∧ w' = w := by
  have h1 := wd_lo s; have h2 := wd_hi s; have h3 := wd_lo k; have h4 := wd_hi k
  have HA : Hid (∀ W, Calls Try.prog 151 #[.int .i64 s] W fun e w' => e = .returned (.int .i64 (wd s)) ∧ w' = W) := specWordOf s
  have HB : Hid (∀ W, Calls Try.prog 151 #[.int .i64 k] W fun e w' => e = .returned (.int .i64 (wd k)) ∧ w' = W) := specWordOf k
  have HE : Hid (sgn s k = (wd s * 31 + wd k + 1) % 65521) := rfl
  generalize wd s = a at *
  generalize wd k = b at *
  rw [HE.out]
  clear HE
  go_enter Try.func150, Try.ntmps150
  go_wp2_with fail
  refine (HA.out _).mono ?_
  rintro e w1 ⟨rfl, rfl⟩
  go_wp2_with fail
  refine (HB.out _).mono ?_
  rintro e w1 ⟨rfl, rfl⟩
  go_wp2_with fail
  go_ret
  exact ⟨rfl, rfl⟩

set_option maxHeartbeats 800000 in
theorem within_any (z a b : Int) (w : World) : Calls Try.prog 67 #[.int .i64 z, .int .i64 a, .int .i64 b] w fun e w' => e = .returned (.bool (inB z a b)) ∧ w' = w := by
  by_cases h1 : a ≤ z
  · by_cases h2 : z ≤ b
    · have e : inB z a b = true := inB_iff.2 ⟨h1, h2⟩
      rw [e]
      go_enter Try.func67, Try.ntmps67
      go_wp2
      go_ret
      exact ⟨rfl, rfl⟩
    · have e : inB z a b = false := inB_no.2 (fun h => h2 h.2)
      rw [e]
      go_enter Try.func67, Try.ntmps67
      go_wp2
      go_ret
      exact ⟨rfl, rfl⟩
  · have e : inB z a b = false := inB_no.2 (fun h => h1 h.1)
    rw [e]
    go_enter Try.func67, Try.ntmps67
    go_wp2
    go_ret
    exact ⟨rfl, rfl⟩

set_option maxHeartbeats 800000 in
theorem l8Args_any (op : Int) (w : World) : Calls Try.prog 113 #[.int .i64 op] w fun e w' => e = .returned (.int .i64 (argN op)) ∧ w' = w := by
  by_cases h4 : op = 4
  · subst h4; go_enter Try.func113, Try.ntmps113; go_wp2; go_ret; exact ⟨rfl, rfl⟩
  by_cases h5 : op = 5
  · subst h5; go_enter Try.func113, Try.ntmps113; go_wp2; go_ret; exact ⟨rfl, rfl⟩
  by_cases h7 : op = 7
  · subst h7; go_enter Try.func113, Try.ntmps113; go_wp2; go_ret; exact ⟨rfl, rfl⟩
  by_cases h8 : op = 8
  · subst h8; go_enter Try.func113, Try.ntmps113; go_wp2; go_ret; exact ⟨rfl, rfl⟩
  by_cases h9 : op = 9
  · subst h9; go_enter Try.func113, Try.ntmps113; go_wp2; go_ret; exact ⟨rfl, rfl⟩
  by_cases h13 : op = 13
  · subst h13; go_enter Try.func113, Try.ntmps113; go_wp2; go_ret; exact ⟨rfl, rfl⟩
  have e : argN op = 1 := by unfold argN; rw [if_neg (by omega), if_neg (by omega)]
  have e4 : (op == 4) = false := by simpa using h4
  have e5 : (op == 5) = false := by simpa using h5
  have e7 : (op == 7) = false := by simpa using h7
  have e8 : (op == 8) = false := by simpa using h8
  have e9 : (op == 9) = false := by simpa using h9
  have e13 : (op == 13) = false := by simpa using h13
  rw [e]
  clear e h4 h5 h7 h8 h9 h13
  go_enter Try.func113, Try.ntmps113
  go_wp2
  go_ret
  exact ⟨rfl, rfl⟩
end Go.Proofs.Ytcikofhbfncgdaa
namespace Go.Proofs.Ytcikofhbfncgdaa
open Go.RowKit
set_option linter.unusedVariables false

/-- a slice of the numbers zs, wherever it lies -/
def RowV (w : World) (v : Value) (zs : List Int) : Prop := ∃ a c, v = .slice a zs.length c ∧ Nums w a zs ∧ (a = none → c = 0)
theorem RowV.below {w w' : World} {v : Value} {zs : List Int} (h : RowV w v zs) (hb : Below w.heap.size w w') : RowV w' v zs := by
  obtain ⟨a, c, rfl, hn, hc⟩ := h
  exact ⟨a, c, rfl, hn.below hb, hc⟩
theorem own_row {w : World} {B : Nat} {v : Value} {zs : List Int} (h : Own w B v zs) : RowV w v zs := by
  obtain ⟨a, c, rfl⟩ := own_shape h
  refine ⟨a, c, rfl, (nums_of_own h).2, fun ha => ?_⟩
  subst ha
  rcases h.2 with ⟨h1, _⟩ | ⟨g, c2, cur, h1, _⟩
  · simp at h1; exact h1.2
  · simp at h1
/-- appending a row of numbers to a row of one's own -/
theorem append_nums (w : World) (B : Nat) (ty : TypeId) (v : Value) (xs zs : List Int) (hown : Own w B v xs) (a : Option Addr) (c : Nat) (hn : Nums w a zs) (hc : a = none → c = 0) (hz : a = none → zs = []) (hl : xs.length + zs.length ≤ 2097152) (hbase : B ≤ w.heap.size) :
    ∃ v' w', (Builtin.append_ #[24, 24] ty #[v, .slice a zs.length c]).run Try.prog w = .ok v' w' ∧ Own w' B v' (xs ++ zs) ∧ w.grownBy w' v.ownBlock ∧ (v'.ownBlock = v.ownBlock ∨ v'.ownBlock = some w.heap.size) := by
  obtain ⟨i0, hi, hz0, hz1, hz2⟩ := info_parts infoInt
  cases a with
  | none =>
    rw [hc rfl, hz rfl]
    refine ⟨v, w, ?_, by simpa using hown, World.grownBy.refl _ _, .inl rfl⟩
    exact run_append_owned_none (P := Try.prog) w B 24 ty 2 i0 1 Try.underlying24 hi v xs.length (xs.map (Value.int .i64)) hown
  | some ad =>
    have hcells : ∀ j u, (zs.map (Value.int .i64))[j]? = some u → w.cell? (ad.add j) = some u := fun j u hu => by
      rcases hn with hn | ⟨b, off, hab, hcc⟩
      · subst hn; simp at hu
      · have hab2 := Option.some.inj hab
        subst hab2
        have hj : j < zs.length := by
          have := (List.getElem?_eq_some_iff.1 hu).1
          simpa using this
        rw [Addr.add_lit, hcc j hj]
        rw [List.getElem?_map, List.getElem?_eq_getElem hj] at hu
        rw [List.getD_eq_getElem?_getD, List.getElem?_eq_getElem hj]
        simpa using hu
    obtain ⟨v', w', hr, h2, h3, _, h5⟩ := run_append_own_at (P := Try.prog) w B 24 ty 2 i0 (.int .i64 0) 1 8 Try.underlying24 hi hz0 hz1 hz2 rfl (by omega) v xs.length (xs.map (Value.int .i64)) hown ad zs.length c (zs.map (Value.int .i64)) (by simp) hcells (ints_oneCell _ _) (by unfold maxLen; omega) (by omega) hbase
    refine ⟨v', w', hr, ?_, h3, h5⟩
    show World.ownsRow _ _ _ _ _ _ _
    rw [List.length_append, List.map_append]
    exact h2
theorem wpList_append_nums {w : World} {ops : Array Oper} {rest : List Oper} {o : Oper} {a : Act} {Q : Exit → Act → World → Prop} (hgd : o.guard = none) (s x : Operand)
    (ho : o.op = .call { callee := .builtin .append, args := #[s, x], argTypes := #[24, 24] }) (B : Nat) (v : Value) (xs zs : List Int) (hs : a.eval s = v) (hown : Own w B v xs) (ad : Option Addr) (c : Nat) (hx : a.eval x = .slice ad zs.length c)
    (hn : Nums w ad zs) (hc : ad = none → c = 0) (hz : ad = none → zs = []) (hl : xs.length + zs.length ≤ 2097152) (hbase : B ≤ w.heap.size)
    (h : ∀ v' w', Hid (Own w' B v' (xs ++ zs)) → Hid (w.grownBy w' v.ownBlock) → Hid (v'.ownBlock = v.ownBlock ∨ v'.ownBlock = some w.heap.size) → wpList Try.prog ops Q rest (a.put o.dst v') w') : wpList Try.prog ops Q (o :: rest) a w := by
  refine wpList_plain hgd fun K hK => ?_
  obtain ⟨v', w', hr, h2, h3, h4⟩ := append_nums w B o.type v xs zs hown ad c hn hc hz hl hbase
  unfold Oper.wp execOp
  simp only [ho, resolve, invoke, builtin, Sem.run_bind, Sem.run_pure, Result.andThen_ok, List.map_toArray, List.map_cons, List.map_nil, hs, hx, hr]
  exact hK _ _ (h v' w' h2 h3 h4)
theorem rowZ {w : World} {a : Option Addr} {zs : List Int} (h : Nums w a zs) : a = none → zs = [] := by
  rintro rfl
  rcases h with h | ⟨b, o, h, _⟩
  · exact h
  · cases h
/-- a new empty row -/
theorem own_new (w : World) (B : Nat) (h : B ≤ w.heap.size) : Own (w.alloc (.cells #[] 2)) B (.slice (some ⟨w.heap.size, 0, none⟩) 0 0) [] :=
  World.ownsRow_made w #[] 0 h (Nat.zero_le _) rfl

/-- the two rows of a machine in block p: of one's own, apart -/
structure MemO (B : Nat) (w : World) (p : Nat) (sv cv : Value) (m : SM) : Prop where
  ss : Own w B sv m.stk
  cs : Own w B cv m.cells
  pB : B ≤ p
  d1 : sv.ownBlock ≠ some p
  d2 : cv.ownBlock ≠ some p
  d3 : ∀ g, sv.ownBlock = some g → cv.ownBlock ≠ some g
abbrev lineI (m : SM) (sv cv : Value) : Array Value := #[sv, cv, .int .i64 m.pc, .int .i64 m.sig, .int .i64 m.used, .int .i64 m.trap, .bool m.done]
abbrev lineS (m : SM) (sv cv : Value) : Array Value := #[.int .i64 m.pc, sv, cv, .int .i64 m.sig, .int .i64 m.used, .int .i64 m.trap, .bool m.done]
/-- impl's run of a machine, spec's machine, in block p -/
def RunI (B : Nat) (w : World) (p : Nat) (m : SM) : Prop := ∃ sv cv, w.heap[p]? = some (.cells (lineI m sv cv) 112 (0, 0)) ∧ MemO B w p sv cv m
def RunS (B : Nat) (w : World) (p : Nat) (m : SM) : Prop := ∃ sv cv, w.heap[p]? = some (.cells (lineS m sv cv) 39 (0, 0)) ∧ MemO B w p sv cv m

theorem MemO.of {B p : Nat} {w w' : World} {sv cv : Value} {m m' : SM} (h : MemO B w p sv cv m) (hb : ∀ g, g < w.heap.size → g ≠ p → w'.heap[g]? = w.heap[g]?) (e1 : m'.stk = m.stk) (e2 : m'.cells = m.cells) : MemO B w' p sv cv m' :=
  ⟨by rw [e1]; exact own_other h.ss (fun g hg => hb g (h.ss.lt g hg).2 (fun e => h.d1 (by rw [hg, e]))), by rw [e2]; exact own_other h.cs (fun g hg => hb g (h.cs.lt g hg).2 (fun e => h.d2 (by rw [hg, e]))), h.pB, h.d1, h.d2, h.d3⟩
theorem RunI.kept {B p : Nat} {w w' : World} {m : SM} (h : RunI B w p m) (hb : Below w.heap.size w w') : RunI B w' p m := by
  obtain ⟨sv, cv, hl, hm⟩ := h
  exact ⟨sv, cv, blk8 hl hb, hm.of (fun g hg _ => hb.block g hg) rfl rfl⟩
theorem RunS.kept {B p : Nat} {w w' : World} {m : SM} (h : RunS B w p m) (hb : Below w.heap.size w w') : RunS B w' p m := by
  obtain ⟨sv, cv, hl, hm⟩ := h
  exact ⟨sv, cv, blk8 hl hb, hm.of (fun g hg _ => hb.block g hg) rfl rfl⟩
/-- a row that is cut by one at its end -/
theorem own_cut {w : World} {B n cap : Nat} {a : Option Addr} {zs : List Int} (h : Own w B (.slice a n cap) zs) (h0 : 0 < n) : Own w B (.slice a (n - 1) cap) (zs.take (n - 1)) := by
  have hn := (nums_of_own h).1
  subst hn
  have hl : (zs.take (zs.length - 1)).length = zs.length - 1 := by simp only [List.length_take]; omega
  show World.ownsRow _ _ _ _ _ _ _
  refine ⟨by simp, ?_⟩
  rcases h.2 with ⟨h1, h2⟩ | ⟨g, c, cur, h1, hg, hh, q1, q2, q3, q4⟩
  · omega
  · simp at h1
    obtain ⟨rfl, rfl⟩ := h1
    refine .inr ⟨g, cap, cur, by rw [hl], hg, hh, by rw [hl]; omega, q2, q3, ?_⟩
    rw [hl, Nat.mul_one, List.map_take, ← q4, List.take_take]
    congr 1
    omega
/-- a store into a row of numbers -/
theorem own_put {w : World} {B n cap g k : Nat} {zs : List Int} (h : Own w B (.slice (some ⟨g, 0, none⟩) n cap) zs) (x : Int) : Own (w.setCell ⟨g, k, none⟩ (.int .i64 x)) B (.slice (some ⟨g, 0, none⟩) n cap) (zs.set k x) := by
  have hn := (nums_of_own h).1
  subst hn
  have := (h.stored k (.int .i64 x)).1
  show World.ownsRow _ _ _ _ _ _ _
  rw [List.length_set, List.map_set]
  exact this
/-- a store of another field of the block -/
theorem RunI.fld {B p : Nat} {w : World} {m m' : SM} (h : RunI B w p m) (i : Nat) (v : Value) (hf : ∀ sv cv, (lineI m sv cv).setIfInBounds i v = lineI m' sv cv) (e1 : m'.stk = m.stk) (e2 : m'.cells = m.cells) : RunI B (w.setCell ⟨p, i, none⟩ v) p m' := by
  obtain ⟨sv, cv, hl, hm⟩ := h
  refine ⟨sv, cv, ?_, hm.of (fun g hg hne => heap_setCell_other _ _ _ _ hne) e1 e2⟩
  have := heap_setCell_same w p i _ _ v hl
  rw [hf sv cv] at this
  exact this
theorem RunS.fld {B p : Nat} {w : World} {m m' : SM} (h : RunS B w p m) (i : Nat) (v : Value) (hf : ∀ sv cv, (lineS m sv cv).setIfInBounds i v = lineS m' sv cv) (e1 : m'.stk = m.stk) (e2 : m'.cells = m.cells) : RunS B (w.setCell ⟨p, i, none⟩ v) p m' := by
  obtain ⟨sv, cv, hl, hm⟩ := h
  refine ⟨sv, cv, ?_, hm.of (fun g hg hne => heap_setCell_other _ _ _ _ hne) e1 e2⟩
  have := heap_setCell_same w p i _ _ v hl
  rw [hf sv cv] at this
  exact this
/-- another row is put in the place of the Stack -/
theorem MemO.stk {B p : Nat} {w w' : World} {sv cv sv' : Value} {m m' : SM} (h : MemO B w p sv cv m) (ho : Own w' B sv' m'.stk) (hk : ∀ g, g < w.heap.size → some g ≠ sv.ownBlock → w'.heap[g]? = w.heap[g]?) (hv : sv'.ownBlock = sv.ownBlock ∨ ∃ q, w.heap.size ≤ q ∧ sv'.ownBlock = some q) (hp : p < w.heap.size) (e2 : m'.cells = m.cells) (x : Value) (i : Nat) : MemO B (w'.setCell ⟨p, i, none⟩ x) p sv' cv m' := by
  have hd1 : sv'.ownBlock ≠ some p := by
    rcases hv with hv | ⟨q, hq, hv⟩
    · rw [hv]; exact h.d1
    · rw [hv]; intro e; injection e with e; omega
  refine ⟨own_other ho (fun g hg => heap_setCell_other _ _ _ _ (fun e => hd1 (by rw [hg, e]))), ?_, h.pB, hd1, h.d2, fun g hg => ?_⟩
  · rw [e2]
    refine own_other h.cs (fun g hg => (heap_setCell_other _ _ _ _ (fun e => h.d2 (by rw [hg, e]))).trans (hk g (h.cs.lt g hg).2 (fun e => h.d3 g e.symm hg)))
  · rcases hv with hv | ⟨q, hq, hv⟩
    · exact h.d3 g (by rw [← hv]; exact hg)
    · intro hc
      have := (h.cs.lt g hc).2
      rw [hg] at hv; injection hv with hv; omega
theorem MemO.lt {B p : Nat} {w : World} {sv cv : Value} {m : SM} (h : MemO B w p sv cv m) : (∀ g, sv.ownBlock = some g → B ≤ g) ∧ (∀ g, cv.ownBlock = some g → B ≤ g) := ⟨fun g hg => (h.ss.lt g hg).1, fun g hg => (h.cs.lt g hg).1⟩
/-- a word is stored into the cells -/
theorem MemO.put {B p g n c k : Nat} {w : World} {sv : Value} {m : SM} (h : MemO B w p sv (.slice (some ⟨g, 0, none⟩) n c) m) (x : Int) : MemO B (w.setCell ⟨g, k, none⟩ (.int .i64 x)) p sv (.slice (some ⟨g, 0, none⟩) n c) (sto m k x) :=
  ⟨own_other h.ss (fun j hj => heap_setCell_other _ _ _ _ (fun e => h.d3 j hj (by rw [e]; rfl))), own_put h.cs x, h.pB, h.d1, h.d2, h.d3⟩
theorem MemO.heap {B p : Nat} {w w' : World} {sv cv : Value} {m : SM} (h : MemO B w p sv cv m) (e : w'.heap = w.heap) : MemO B w' p sv cv m :=
  h.of (fun g _ _ => by rw [e]) rfl rfl
theorem RunI.heap {B p : Nat} {w w' : World} {m : SM} (h : RunI B w p m) (e : w'.heap = w.heap) : RunI B w' p m := by
  obtain ⟨sv, cv, hl, hm⟩ := h
  exact ⟨sv, cv, by rw [e]; exact hl, hm.heap e⟩
theorem RunS.heap {B p : Nat} {w w' : World} {m : SM} (h : RunS B w p m) (e : w'.heap = w.heap) : RunS B w' p m := by
  obtain ⟨sv, cv, hl, hm⟩ := h
  exact ⟨sv, cv, by rw [e]; exact hl, hm.heap e⟩
/-- what stays of a block behind an append to the Stack -/
theorem MemO.grown {B p : Nat} {w W w2 : World} {sv cv : Value} {m : SM} {cs : Array Value} {T : TypeId} (h : MemO B w p sv cv m) (hb : w.heap[p]? = some (.cells cs T (0, 0))) (hA : Below w.heap.size w W) (hBw : B ≤ w.heap.size) (hg : W.grownBy w2 sv.ownBlock) : w2.heap[p]? = some (.cells cs T (0, 0)) ∧ Below B w w2 := by
  have hp := (Array.getElem?_eq_some_iff.1 hb).1
  refine ⟨?_, ?_⟩
  · rw [hg.block p (by have := hA.size; omega) (fun e => h.d1 e.symm), hA.block p hp]
    exact hb
  · exact (hA.mono hBw).grown hg (by have := hA.size; omega) (fun k hk => h.lt.1 k hk)
theorem lineS_cells {p : Nat} {w : World} {m : SM} {sv cv : Value} (h : w.heap[p]? = some (.cells (lineS m sv cv) 39 (0, 0))) :
    w.cell? ⟨p, 0, none⟩ = some (.int .i64 m.pc) ∧ w.cell? ⟨p, 1, none⟩ = some sv ∧ w.cell? ⟨p, 2, none⟩ = some cv ∧ w.cell? ⟨p, 3, none⟩ = some (.int .i64 m.sig) ∧ w.cell? ⟨p, 4, none⟩ = some (.int .i64 m.used) ∧ w.cell? ⟨p, 5, none⟩ = some (.int .i64 m.trap) ∧ w.cell? ⟨p, 6, none⟩ = some (.bool m.done) :=
  ⟨cell_of_row _ _ 0 _ _ _ h, cell_of_row _ _ 1 _ _ _ h, cell_of_row _ _ 2 _ _ _ h, cell_of_row _ _ 3 _ _ _ h, cell_of_row _ _ 4 _ _ _ h, cell_of_row _ _ 5 _ _ _ h, cell_of_row _ _ 6 _ _ _ h⟩
end Go.Proofs.Ytcikofhbfncgdaa
