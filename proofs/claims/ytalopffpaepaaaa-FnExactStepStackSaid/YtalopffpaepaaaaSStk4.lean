/-
  spec's l8Ready.
-/
import Derived.Test.YtalopffpaepaaaaSDo0
import Derived.Deep.RegionHeld3
namespace Go.Proofs.Ytalopffpaepaaaa
open Go.RowKit
set_option linter.unusedVariables false
attribute [local go_sem ↓] Go.wp_at_zero Go.wp_at_succ

/-- what l8Ready answers -/
def rdyL (zs : List Int) (k : Nat) (m : SM) : Bool :=
  readyB zs k && fitsB m.stk.length (zs.getD k 0) && (if zs.getD k 0 = 2 ∨ zs.getD k 0 = 3 then decide (zs.getD (k + 1) 0 < m.cells.length) else true)

set_option maxHeartbeats 3200000 in
set_option maxRecDepth 100000 in
theorem ready_end (a : Option Addr) (n c k p : Nat) (w : World) (hk : n ≤ k) (c0 : w.cell? ⟨p, 0, none⟩ = some (.int .i64 k)) :
    Calls Try.prog 100 #[.slice a n c, .pointer (some ⟨p, 0, none⟩)] w fun e w' => e = .returned (.bool false) ∧ Below w.heap.size w w' := by
  have h1 : decide ((n : Int) ≤ (k : Int)) = true := decide_eq_true (by omega)
  go_enter Try.func100, Try.ntmps100
  go_wp2_with fail
  go_ret
  exact ⟨rfl, Below.refl _ _⟩

set_option maxHeartbeats 3200000 in
set_option maxRecDepth 100000 in
theorem ready_op (b off n c k p : Nat) (op : Int) (w : World) (hk : k < n) (c0 : w.cell? ⟨p, 0, none⟩ = some (.int .i64 k)) (h0 : w.cell? ⟨b, off + k, none⟩ = some (.int .i64 op)) (hop : inB op 1 13 = false) :
    Calls Try.prog 100 #[.slice (some ⟨b, off, none⟩) n c, .pointer (some ⟨p, 0, none⟩)] w fun e w' => e = .returned (.bool false) ∧ Below w.heap.size w w' := by
  have h1 : decide ((n : Int) ≤ (k : Int)) = false := decide_eq_false (by omega)
  have q0 : (0 : Int) ≤ (k : Int) := by omega
  have q1 : (k : Int) < (n : Int) := by omega
  have HI : Hid (∀ W, Calls Try.prog 34 #[.int .i64 op, .int .i64 1, .int .i64 13] W fun e w' => e = .returned (.bool false) ∧ w' = W) := fun W => by have := l1In_any op 1 13 W; rwa [hop] at this
  clear hk hop
  go_enter Try.func100, Try.ntmps100
  go_wp2_with (go_at_call 34; refine (HI.out _).mono ?_; rintro e w1 ⟨rfl, rfl⟩)
  go_ret
  exact ⟨rfl, Below.refl _ _⟩

set_option maxHeartbeats 6400000 in
set_option maxRecDepth 100000 in
theorem ready_on (b off n c k p : Nat) (m : SM) (sv cv : Value) (op u : Int) (w : World) (hk : k < n) (hn : n ≤ 400) (hp : w.heap[p]? = some (.cells (lineS m sv cv) 36 (0, 0))) (hpc : m.pc = k) (hs : RowV w sv m.stk) (hc : RowV w cv m.cells) (hsl : m.stk.length ≤ 40) (hcl : m.cells.length ≤ 80) (h0 : w.cell? ⟨b, off + k, none⟩ = some (.int .i64 op)) (hop : inB op 1 13 = true) (h1 : 1 ≤ argN op → k + 1 < n → w.cell? ⟨b, off + (k + 1), none⟩ = some (.int .i64 u)) (R : Bool)
    (hR : R = (decide (k + argN op < n) && fitsB m.stk.length op && (if op = 2 ∨ op = 3 then decide (u < m.cells.length) else true))) :
    Calls Try.prog 100 #[.slice (some ⟨b, off, none⟩) n c, .pointer (some ⟨p, 0, none⟩)] w fun e w' => e = .returned (.bool R) ∧ Below w.heap.size w w' := by
  have e1 : decide ((n : Int) ≤ (k : Int)) = false := decide_eq_false (by omega)
  have q0 : (0 : Int) ≤ (k : Int) := by omega
  have q1 : (k : Int) < (n : Int) := by omega
  obtain ⟨a1, k1, rfl, _, _⟩ := hs
  obtain ⟨a2, k2, rfl, _, _⟩ := hc
  have HP : Hid (w.heap[p]? = _) := hp
  have c0 := (RunS.cells hp).1
  rw [hpc] at c0
  have HI : Hid (∀ W, Calls Try.prog 34 #[.int .i64 op, .int .i64 1, .int .i64 13] W fun e w' => e = .returned (.bool true) ∧ w' = W) := fun W => by have := l1In_any op 1 13 W; rwa [hop] at this
  have HA : Hid (∀ W, Calls Try.prog 88 #[.int .i64 op] W fun e w' => e = .returned (.int .i64 (argN op)) ∧ w' = W) := l8Args_any op
  have HT : Hid (∀ W, Calls Try.prog 113 #[.int .i64 op] W fun e w' => e = .returned (.tuple #[.int .i64 (tkN op), .int .i64 (gvN op)]) ∧ w' = W) := fun W => l8Takes_any op W (inB_iff.1 hop).1 (inB_iff.1 hop).2
  have hA := argN_lo op
  have ht := tkN_lo op
  have hg := gvN_lo op
  have HF : Hid (fitsB m.stk.length op = (decide (tkN op ≤ m.stk.length) && decide (m.stk.length - tkN op + gvN op ≤ 40))) := rfl
  have HA1 : Hid (op = 2 ∨ op = 3 → argN op = 1) := fun h => by rcases h with rfl | rfl <;> rfl
  have H1 : Hid (1 ≤ argN op → k + 1 < n → w.cell? ⟨b, off + (k + 1), none⟩ = some (.int .i64 u)) := h1
  have HR : Hid (R = (decide (k + argN op < n) && fitsB m.stk.length op && (if op = 2 ∨ op = 3 then decide (u < m.cells.length) else true))) := hR
  have HH0 : Hid (w.cell? ⟨b, off + k, none⟩ = some (.int .i64 op)) := h0
  have HPC : Hid (m.pc = k) := hpc
  clear hop h1 hR hp hpc
  generalize hS : m.stk.length = ls at *
  generalize hC : m.cells.length = lc at *
  generalize fitsB ls op = FB at *
  generalize argN op = A at *
  generalize tkN op = tk at *
  generalize gvN op = gv at *
  obtain ⟨A0, A1⟩ := hA
  obtain ⟨t0, t1⟩ := ht
  obtain ⟨g0, g1⟩ := hg
  have Z1 : IntKind.i64.wrap ((k : Int) + A) = (k : Int) + A := IntWalk.i64_in _ ⟨by omega, by omega⟩
  have HN : Hid (n ≤ 400 ∧ k < n) := ⟨hn, hk⟩
  clear hn hk
  go_enter Try.func100, Try.ntmps100
  go_upto_region 5 with (go_at_call 34; refine (HI.out _).mono ?_; rintro e w1 ⟨rfl, hw1⟩; have hw2 := hw1.symm; clear hw1; subst hw2)
  go_cut [43] from 9 (fun x W1 => x = .bool (decide ((n : Int) ≤ (k : Int) + A)) ∧ W1 = w.drew)
  case first =>
    go_region_with (go_at_call 88; refine (HA.out _).mono ?_; rintro e w6 ⟨rfl, rfl⟩)
    all_goals
      go_wp2_with fail
      go_meet
      case rel => exact ⟨rfl, rfl⟩
  case rest =>
  obtain ⟨rfl, rfl⟩ := hcut
  have HB : Hid (Below w.heap.size w w.drew) := (Below.refl _ _).drew
  have HP2 : Hid (w.drew.heap[p]? = some (.cells (lineS m (.slice a1 ls k1) (.slice a2 lc k2)) 36 (0, 0))) := HP.out
  have H12 : Hid (1 ≤ A → k + 1 < n → w.drew.cell? ⟨b, off + (k + 1), none⟩ = some (.int .i64 u)) := H1.out
  clear HP H1 c0 h0 Z1 HI HA HH0
  generalize w.drew = W at *
  obtain ⟨d0, d1, d2, _⟩ := RunS.cells HP2.out
  rw [HPC.out] at d0
  by_cases hA : (n : Int) ≤ (k : Int) + A
  · have hb : decide ((n : Int) ≤ (k : Int) + A) = true := decide_eq_true hA
    have E : Hid (R = false) := by unfold Hid; rw [HR.out, decide_eq_false (by omega : ¬ (k : Int) + A < n)]; rfl
    rw [hb]
    clear HR hA hb
    go_wp2_with fail
    go_ret
    exact ⟨by rw [E.out]; rfl, HB.out⟩
  have hb : decide ((n : Int) ≤ (k : Int) + A) = false := decide_eq_false hA
  rw [decide_eq_true (by omega : (k : Int) + A < n), Bool.true_and] at HR
  rw [hb]
  have HKA : Hid ((k : Int) + A < n) := by show _ < _; omega
  clear hb hA
  by_cases hf1 : tk ≤ ls
  case neg =>
    have E : Hid (R = false) := by unfold Hid; rw [HR.out, HF.out, decide_eq_false hf1]; rfl
    clear HR HF
    go_wp2_with (go_at_call 113; refine (HT.out _).mono ?_; rintro e w6 ⟨rfl, rfl⟩)
    go_ret
    exact ⟨by rw [E.out]; rfl, HB.out⟩
  by_cases hf2 : ls - tk + gv ≤ 40
  case neg =>
    have E : Hid (R = false) := by unfold Hid; rw [HR.out, HF.out, decide_eq_false hf2, Bool.and_false]; rfl
    clear HR HF
    go_wp2_with (go_at_call 113; refine (HT.out _).mono ?_; rintro e w6 ⟨rfl, rfl⟩)
    go_ret
    exact ⟨by rw [E.out]; rfl, HB.out⟩
  rw [decide_eq_true hf1, decide_eq_true hf2] at HF
  have hFB : FB = true := HF.out
  rw [hFB, Bool.true_and] at HR
  clear HF hFB
  by_cases hop : op = 2 ∨ op = 3
  · have hA1 := HA1.out hop
    subst hA1
    have hcu := H12.out (by omega) (by have := HKA.out; omega)
    rw [if_pos hop] at HR
    have hT : (op == 2) = true ∨ ((op == 2) = false ∧ (op == 3) = true) := by
      rcases hop with rfl | rfl
      · exact .inl rfl
      · exact .inr ⟨rfl, rfl⟩
    obtain ⟨L, hL⟩ : ∃ L : Nat, L = k + 1 := ⟨_, rfl⟩
    rw [← hL] at hcu
    have Z1 : IntKind.i64.wrap ((k : Int) + 1) = (L : Int) := by have := HN.out; rw [IntWalk.i64_in _ ⟨by omega, by omega⟩]; omega
    have l0 : (0 : Int) ≤ (L : Int) := by omega
    have l1 : (L : Int) < (n : Int) := by have := HKA.out; omega
    clear hop hL HA1 H12
    rcases hT with e2 | ⟨e2, e3⟩
    all_goals
      go_upto_region 11 with (go_at_call 113; refine (HT.out _).mono ?_; rintro e w6 ⟨rfl, rfl⟩)
      go_region_held3 (fun Z => Z.cell? ⟨p, 0, none⟩ = some (.int .i64 k) ∧ Z.cell? ⟨p, 2, none⟩ = some (.slice a2 lc k2) ∧ Z.cell? ⟨b, off + L, none⟩ = some (.int .i64 u)) (go_keep) (fail)
      go_wp2_with fail
      go_ret
      exact ⟨by rw [HR.out]; rfl, HB.out.drew⟩
  · rw [if_neg hop] at HR
    have hT : (op == 2) = false ∧ (op == 3) = false := by
      refine ⟨?_, ?_⟩ <;> (rw [beq_eq_false_iff_ne]; omega)
    obtain ⟨e2, e3⟩ := hT
    have e4 : decide (op = 2) = false := decide_eq_false (by omega)
    have e5 : decide (op = 3) = false := decide_eq_false (by omega)
    clear hop
    go_wp2_with (go_at_call 113; refine (HT.out _).mono ?_; rintro e w6 ⟨rfl, rfl⟩)
    go_ret
    exact ⟨by rw [HR.out]; rfl, HB.out⟩

theorem l8Ready_any (a : Option Addr) (zs : List Int) (c k p : Nat) (m : SM) (sv cv : Value) (w : World) (hz : Nums w a zs) (hl : zs.length ≤ 400) (hp : w.heap[p]? = some (.cells (lineS m sv cv) 36 (0, 0))) (hpc : m.pc = k) (hs : RowV w sv m.stk) (hc : RowV w cv m.cells) (hsl : m.stk.length ≤ 40) (hcl : m.cells.length ≤ 80) :
    Calls Try.prog 100 #[.slice a zs.length c, .pointer (some ⟨p, 0, none⟩)] w fun e w' => e = .returned (.bool (rdyL zs k m)) ∧ Below w.heap.size w w' := by
  have c0 := (RunS.cells hp).1
  rw [hpc] at c0
  by_cases hk : k < zs.length
  · rcases hz with hz | ⟨b, off, rfl, hcc⟩
    · rw [hz] at hk; simp at hk
    have h0 := hcc k hk
    cases hop : inB (zs.getD k 0) 1 13
    · have e : rdyL zs k m = false := by unfold rdyL readyB; rw [Int.toNat_natCast, hop]; simp
      rw [e]
      exact ready_op b off zs.length c k p (zs.getD k 0) w hk c0 h0 hop
    · refine ready_on b off zs.length c k p m sv cv (zs.getD k 0) (zs.getD (k + 1) 0) w hk hl hp hpc hs hc hsl hcl h0 hop (fun _ h => hcc (k + 1) h) (rdyL zs k m) ?_
      unfold rdyL readyB
      rw [Int.toNat_natCast, hop, decide_eq_true (by omega : (k : Int) < zs.length), Bool.true_and, Bool.true_and]
  · have e : rdyL zs k m = false := by unfold rdyL readyB; rw [decide_eq_false (by omega : ¬ (k : Int) < zs.length)]; simp
    rw [e]
    exact ready_end a zs.length c k p w (by omega) c0
end Go.Proofs.Ytalopffpaepaaaa
