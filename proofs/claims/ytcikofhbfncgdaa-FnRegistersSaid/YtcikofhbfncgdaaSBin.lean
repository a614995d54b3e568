/-
  spec.BinaryOf answers the plain code and word at every op and all numbers.
-/
import Derived.Test.YtcikofhbfncgdaaWords0
import Derived.Deep.RegionHeld3
import Derived.Deep.DrawnRows
import Derived.Test.YtcikofhbfncgdaaDrawG
import Derived.Deep.Cut
import Derived.Deep.QuietTactic
import Derived.BigQuiet
import Derived.Test.YtcikofhbfncgdaaReck1
namespace Go.Proofs.Ytcikofhbfncgdaa
open Go.RowKit
set_option linter.unusedVariables false
attribute [local go_sem ↓] Go.wp_at_zero Go.wp_at_succ

set_option maxHeartbeats 3200000 in
set_option maxRecDepth 100000 in
theorem ready_endG (a : Option Addr) (n c k p : Nat) (w : World) (hk : n ≤ k) (c0 : w.cell? ⟨p, 0, none⟩ = some (.int .i64 k)) :
    Calls Try.prog 122 #[.slice a n c, .pointer (some ⟨p, 0, none⟩)] w fun e w' => e = .returned (.bool false) ∧ Below w.heap.size w w' := by
  have h1 : decide ((n : Int) ≤ (k : Int)) = true := decide_eq_true (by omega)
  go_enter Try.func122, Try.ntmps122
  go_wp2_with fail
  go_ret
  exact ⟨rfl, Below.refl _ _⟩

set_option maxHeartbeats 3200000 in
set_option maxRecDepth 100000 in
theorem ready_opG (b off n c k p : Nat) (op : Int) (w : World) (hk : k < n) (c0 : w.cell? ⟨p, 0, none⟩ = some (.int .i64 k)) (h0 : w.cell? ⟨b, off + k, none⟩ = some (.int .i64 op)) (hop : inB op 1 13 = false) :
    Calls Try.prog 122 #[.slice (some ⟨b, off, none⟩) n c, .pointer (some ⟨p, 0, none⟩)] w fun e w' => e = .returned (.bool false) ∧ Below w.heap.size w w' := by
  have h1 : decide ((n : Int) ≤ (k : Int)) = false := decide_eq_false (by omega)
  have q0 : (0 : Int) ≤ (k : Int) := by omega
  have q1 : (k : Int) < (n : Int) := by omega
  have HI : Hid (∀ W, Calls Try.prog 71 #[.int .i64 op, .int .i64 1, .int .i64 13] W fun e w' => e = .returned (.bool false) ∧ w' = W) := fun W => by have := l1In_any op 1 13 W; rwa [hop] at this
  clear hk hop
  go_enter Try.func122, Try.ntmps122
  go_wp2_with (go_at_call 71; refine (HI.out _).mono ?_; rintro e w1 ⟨rfl, rfl⟩)
  go_ret
  exact ⟨rfl, Below.refl _ _⟩
end Go.Proofs.Ytcikofhbfncgdaa
namespace Go.Proofs.Ytcikofhbfncgdaa
open Go.RowKit
set_option linter.unusedVariables false

def plR (op : Int) : List Int := if op = 1 ∨ op = 9 ∨ op = 11 ∨ op = 2 then [1] else if op = 3 then [2] else if op = 4 ∨ op = 5 ∨ op = 7 ∨ op = 8 then [1, 2] else if op = 6 then [1, 2, 3] else []
def pcR (op : Int) : Int := if op = 2 then 2 else if op = 3 then 1 else -1
theorem ops13 {op : Int} (h1 : 1 ≤ op) (h13 : op ≤ 13) : op = 1 ∨ op = 2 ∨ op = 3 ∨ op = 4 ∨ op = 5 ∨ op = 6 ∨ op = 7 ∨ op = 8 ∨ op = 9 ∨ op = 10 ∨ op = 11 ∨ op = 12 ∨ op = 13 := by omega
theorem hasR_eq {op : Int} (h1 : 1 ≤ op) (h13 : op ≤ 13) (f : Int → Int) (n : Nat) : hasR op (f 1) (f 2) (f 3) n = ((plR op).all (fun p => decide (f p < 24)) && (decide (pcR op < 0) || decide (f (pcR op) < n))) := by
  rcases ops13 h1 h13 with rfl | rfl | rfl | rfl | rfl | rfl | rfl | rfl | rfl | rfl | rfl | rfl | rfl <;> simp [hasR, plR, pcR, Bool.and_assoc]
theorem plR_in {op : Int} (h1 : 1 ≤ op) (h13 : op ≤ 13) : ∀ p ∈ plR op, 1 ≤ p ∧ p ≤ argR op := by
  rcases ops13 h1 h13 with rfl | rfl | rfl | rfl | rfl | rfl | rfl | rfl | rfl | rfl | rfl | rfl | rfl <;> simp [plR, argR]
theorem pcR_in {op : Int} (h1 : 1 ≤ op) (h13 : op ≤ 13) : pcR op ≤ argR op ∧ -1 ≤ pcR op := by
  rcases ops13 h1 h13 with rfl | rfl | rfl | rfl | rfl | rfl | rfl | rfl | rfl | rfl | rfl | rfl | rfl <;> simp [pcR, argR]
theorem plR_len (op : Int) : (plR op).length ≤ 3 := by
  unfold plR
  split
  · simp
  split
  · simp
  split
  · simp
  split <;> simp

theorem nums_made (w : World) (xs : List Int) (T : TypeId) : Nums (w.alloc (.cells (xs.map (Value.int .i64)).toArray T)) (some ⟨w.heap.size, 0, none⟩) xs := .inr ⟨_, 0, rfl, fun i hi => by
  rw [Nat.zero_add, cell_of_row _ _ i _ _ _ (heap_alloc_new w _)]
  simp [List.getD_eq_getElem?_getD, hi]⟩
set_option maxHeartbeats 1600000 in
theorem l10Places_any (op : Int) (w : World) (h1 : 1 ≤ op) (h13 : op ≤ 13) : Calls Try.prog 145 #[.int .i64 op] w fun e w' => ∃ a c, e = .returned (.tuple #[.slice a (plR op).length c, .int .i64 (pcR op)]) ∧ Nums w' a (plR op) ∧ Below w.heap.size w w' := by
  have HB : ∀ o : Obj, Below w.heap.size w (w.alloc o) := fun o => (Below.refl _ _).alloc (Nat.le_refl _) o
  have HB := hid HB
  have H1 := hid (nums_made w [1] 2)
  have H2 := hid (nums_made w [2] 2)
  have H12 := hid (nums_made w [1, 2] 2)
  have H123 := hid (nums_made w [1, 2, 3] 2)
  rcases ops13 h1 h13 with rfl | rfl | rfl | rfl | rfl | rfl | rfl | rfl | rfl | rfl | rfl | rfl | rfl
  all_goals
    clear h1 h13
    go_enter Try.func145, Try.ntmps145
    go_wp2
    go_returns
    first
      | exact ⟨_, _, rfl, H1.out, HB.out _⟩
      | exact ⟨_, _, rfl, H2.out, HB.out _⟩
      | exact ⟨_, _, rfl, H12.out, HB.out _⟩
      | exact ⟨_, _, rfl, H123.out, HB.out _⟩
      | exact ⟨none, 0, rfl, .inl rfl, Below.refl _ _⟩
end Go.Proofs.Ytcikofhbfncgdaa
namespace Go.Proofs.Ytcikofhbfncgdaa
open Go.RowKit
set_option linter.unusedVariables false
attribute [local go_sem ↓] Go.wp_at_zero Go.wp_at_succ

set_option maxHeartbeats 6400000 in
set_option maxRecDepth 100000 in
theorem ready_onR (b off c k p : Nat) (m : SM) (sv cv : Value) (zs : List Int) (op : Int) (w : World) (hk : k < zs.length) (hn : zs.length ≤ 400) (hp : w.heap[p]? = some (.cells (lineS m sv cv) 28 (0, 0))) (hpc : m.pc = k) (hs : RowV w sv m.stk) (hc : RowV w cv m.cells) (hcl : m.cells.length ≤ 80)
    (hcc : ∀ i, i < zs.length → w.cell? ⟨b, off + i, none⟩ = some (.int .i64 (zs.getD i 0))) (hop0 : zs.getD k 0 = op) (hop : inB op 1 13 = true) (hnn : ∀ i, 0 ≤ zs.getD i 0) (R : Bool)
    (hR : R = (decide (k + argR op < zs.length) && ((plR op).all (fun p => decide (zs.getD (k + p.toNat) 0 < 24)) && (decide (pcR op < 0) || decide (zs.getD (k + (pcR op).toNat) 0 < m.cells.length))))) :
    Calls Try.prog 122 #[.slice (some ⟨b, off, none⟩) zs.length c, .pointer (some ⟨p, 0, none⟩)] w fun e w' => e = .returned (.bool R) ∧ Below w.heap.size w w' := by
  have e1 : decide ((zs.length : Int) ≤ (k : Int)) = false := decide_eq_false (by omega)
  have q0 : (0 : Int) ≤ (k : Int) := by omega
  have q1 : (k : Int) < (zs.length : Int) := by omega
  obtain ⟨a1, k1, rfl, _, _⟩ := hs
  obtain ⟨a2, k2, rfl, _, _⟩ := hc
  have HP := hid hp
  have c0 := (RunT.cells hp).1
  rw [hpc] at c0
  have h0 := hcc k hk
  rw [hop0] at h0
  have HI : Hid (∀ W, Calls Try.prog 71 #[.int .i64 op, .int .i64 1, .int .i64 13] W fun e w' => e = .returned (.bool true) ∧ w' = W) := fun W => by have := l1In_any op 1 13 W; rwa [hop] at this
  have HA : Hid (∀ W, Calls Try.prog 93 #[.int .i64 op] W fun e w' => e = .returned (.int .i64 (argR op)) ∧ w' = W) := l10Args_any op
  have hin := inB_iff.1 hop
  have HPL : Hid (∀ W, Calls Try.prog 145 #[.int .i64 op] W fun e w' => ∃ a c, e = .returned (.tuple #[.slice a (plR op).length c, .int .i64 (pcR op)]) ∧ Nums w' a (plR op) ∧ Below W.heap.size W w') := fun W => l10Places_any op W hin.1 hin.2
  have HPI := hid (plR_in hin.1 hin.2)
  have HCI := hid (pcR_in hin.1 hin.2)
  have HPN := hid (plR_len op)
  have hA := argR_lo op
  have HR := hid hR
  have HCC := hid hcc
  have HPC := hid hpc
  have HNN := hid hnn
  have HN : Hid (zs.length ≤ 400 ∧ k < zs.length ∧ m.cells.length ≤ 80) := ⟨hn, hk, hcl⟩
  clear hop hR hp hpc hop0 hin hcc hnn hn hk hcl
  generalize hS : m.stk.length = ls at *
  generalize hC : m.cells.length = lc at *
  generalize argR op = A at *
  generalize plR op = ps at *
  generalize pcR op = pc at *
  generalize hN : zs.length = n at *
  obtain ⟨A0, A1⟩ := hA
  have Z1 : IntKind.i64.wrap ((k : Int) + A) = (k : Int) + A := by have := HN.out; exact IntWalk.i64_in _ ⟨by omega, by omega⟩
  go_enter Try.func122, Try.ntmps122
  go_upto_region 5 with (go_at_call 71; refine (HI.out _).mono ?_; rintro e w1 ⟨rfl, hw1⟩; have hw2 := hw1.symm; clear hw1; subst hw2)
  go_cut [44] from 10 (fun x W1 => x = .bool (decide ((n : Int) ≤ (k : Int) + A)) ∧ W1 = w.drew)
  case first =>
    go_region_with (go_at_call 93; refine (HA.out _).mono ?_; rintro e w6 ⟨rfl, rfl⟩)
    all_goals
      go_wp2_with fail
      go_meet
      case rel => exact ⟨rfl, rfl⟩
  case rest =>
  obtain ⟨rfl, rfl⟩ := hcut
  have HB : Hid (Below w.heap.size w w.drew) := (Below.refl _ _).drew
  have HP2 : Hid (w.drew.heap[p]? = some (.cells (lineS m (.slice a1 ls k1) (.slice a2 lc k2)) 28 (0, 0))) := HP.out
  have HC2 : Hid (∀ i, i < n → w.drew.cell? ⟨b, off + i, none⟩ = some (.int .i64 (zs.getD i 0))) := HCC.out
  clear HP HCC c0 h0 Z1 HI HA
  generalize w.drew = W at *
  by_cases hA : (n : Int) ≤ (k : Int) + A
  · have hb : decide ((n : Int) ≤ (k : Int) + A) = true := decide_eq_true hA
    have E : Hid (R = false) := by unfold Hid; rw [HR.out, decide_eq_false (by omega : ¬ (k : Int) + A < n)]; rfl
    rw [hb]
    clear HR hA hb
    go_wp2_with fail
    go_ret
    exact ⟨by rw [E.out]; rfl, HB.out⟩
  have hb : decide ((n : Int) ≤ (k : Int) + A) = false := decide_eq_false hA
  have HR2 : Hid (R = ((ps.all (fun p => decide (zs.getD (k + p.toNat) 0 < 24)) && (decide (pc < 0) || decide (zs.getD (k + pc.toNat) 0 < lc))))) := by
    unfold Hid
    rw [HR.out, decide_eq_true (by omega : (k : Int) + A < n), Bool.true_and]
  rw [hb]
  have HKA : Hid ((k : Int) + A < n) := by show _ < _; omega
  clear hb hA HR
  go_wp2_with fail
  refine (HPL.out _).mono ?_
  rintro e w6 ⟨a9, c9, rfl, hn9, hb6⟩
  have HP6 := hid (blk8 HP2.out hb6)
  have HB6 := hid (HB.out.trans (hb6.mono HB.out.size))
  have HC6 : Hid (∀ i, i < n → w6.cell? ⟨b, off + i, none⟩ = some (.int .i64 (zs.getD i 0))) := fun i hi => (hb6.cell (p := ⟨b, off + i, none⟩) (World.block_lt_of_cell? _ _ (HC2.out i hi))).trans (HC2.out i hi)
  have HN9 := hid hn9
  clear hb6 hn9 HP2 HB HC2 HPL
  generalize hPN : ps.length = N at *
  have HNP := hid hPN
  have hN3 : N ≤ 3 := by have := HPN.out; omega
  clear hPN
  go_wp2_with fail
  go_loopw [9] (fun i wr => ∃ j : Nat, j ≤ N ∧ i = .int .i64 j ∧ (∀ q, q < j → zs.getD (k + (ps.getD q 0).toNat) 0 < 24) ∧ Below w6.heap.size w6 wr) (fun i _ => N - (intOf i).toNat)
  case atStart => exact ⟨0, Nat.zero_le _, rfl, fun q hq => by omega, Below.refl _ _⟩
  case round =>
    obtain ⟨j, hj, rfl, hq, hbl⟩ := hrel
    have HQ := hid hq
    have HBL := hid hbl
    have hrow := blk8 HP6.out hbl
    obtain ⟨d0, -, d2, -, -, -, -⟩ := cl7 hrow
    rw [HPC.out] at d0
    clear hq hrow
    by_cases hlt : j < N
    · have hmem : ps.getD j 0 ∈ ps := by
        have : j < ps.length := by rw [HNP.out]; exact hlt
        rw [List.getD_eq_getElem?_getD, List.getElem?_eq_getElem this]; simp
      have hpj := HPI.out _ hmem
      have HQN := hid (HQ.out)
      have hcell9 : ∃ b9 o9, a9 = some ⟨b9, o9, none⟩ ∧ wr.cell? ⟨b9, o9 + j, none⟩ = some (.int .i64 (ps.getD j 0)) := by
        rcases HN9.out with h | ⟨b9, o9, h, h2⟩
        · rw [h] at hmem; simp at hmem
        · have := h2 j (by rw [HNP.out]; exact hlt)
          exact ⟨b9, o9, h, (hbl.cell (p := ⟨b9, o9 + j, none⟩) (World.block_lt_of_cell? _ _ this)).trans this⟩
      obtain ⟨b9, o9, rfl, hcell9⟩ := hcell9
      obtain ⟨P, hP⟩ : ∃ P, P = ps.getD j 0 := ⟨_, rfl⟩
      rw [← hP] at hcell9 hpj
      obtain ⟨L, hL⟩ : ∃ L : Nat, (L : Int) = (k : Int) + P := ⟨k + P.toNat, by omega⟩
      have hLn : L < n := by have := HKA.out; omega
      have hcv := (hbl.cell (p := ⟨b, off + L, none⟩) (World.block_lt_of_cell? _ _ (HC6.out L hLn))).trans (HC6.out L hLn)
      have HLE : Hid (L = k + P.toNat) := by show _ = _; omega
      have Z1 : IntKind.i64.wrap ((k : Int) + P) = (L : Int) := by have := HN.out; rw [IntWalk.i64_in _ ⟨by omega, by omega⟩]; omega
      have l0 : (0 : Int) ≤ (L : Int) := by omega
      have l1 : (L : Int) < (n : Int) := by omega
      have j0 : (0 : Int) ≤ (j : Int) := by omega
      have j1 : (j : Int) < (N : Int) := by omega
      have HPD := hid hP
      have HLN := hid hLn
      obtain ⟨v, hv⟩ : ∃ v, v = zs.getD L 0 := ⟨_, rfl⟩
      rw [← hv] at hcv
      have HV := hid hv
      clear hP hL hLn hv hmem hpj hbl
      by_cases h24 : v < 24
      · have g24 : decide ((24 : Int) ≤ v) = false := decide_eq_false (by omega)
        have H24 := hid h24
        clear h24
        go_wp2_with fail
        go_region_held3 (fun Z => Z.cell? ⟨p, 0, none⟩ = some (.int .i64 k) ∧ Z.cell? ⟨b9, o9 + j, none⟩ = some (.int .i64 P) ∧ Z.cell? ⟨b, off + L, none⟩ = some (.int .i64 v)) (go_keep) (fail)
        all_goals
          go_wp2_with fail
          go_roundw
          case rel =>
            refine ⟨j + 1, by omega, by have := HN.out; have := HPN.out; have := HNP.out; go_num, fun q hq => ?_, HBL.out.drew⟩
            by_cases hqj : q = j
            · subst hqj
              rw [← HPD.out, ← HLE.out, ← HV.out]
              exact H24.out
            · exact HQ.out q (by omega)
          case measure => have := HN.out; have := HPN.out; have := HNP.out; simp [intOf]; omega
      · have g24 : decide ((24 : Int) ≤ v) = true := decide_eq_true (by omega)
        have E : Hid (R = false) := by
          unfold Hid
          rw [HR2.out]
          have hfl : ps.all (fun p => decide (zs.getD (k + p.toNat) 0 < 24)) = false := by
            rw [List.all_eq_false]
            refine ⟨P, ?_, ?_⟩
            · rw [HPD.out, List.getD_eq_getElem?_getD, List.getElem?_eq_getElem (by rw [HNP.out]; exact hlt)]; simp
            · rw [← HLE.out, ← HV.out]; simpa using h24
          rw [hfl]; rfl
        clear h24 HR2
        go_wp2_with fail
        go_region_held3 (fun Z => Z.cell? ⟨p, 0, none⟩ = some (.int .i64 k) ∧ Z.cell? ⟨b9, o9 + j, none⟩ = some (.int .i64 P) ∧ Z.cell? ⟨b, off + L, none⟩ = some (.int .i64 v)) (go_keep) (fail)
        all_goals
          go_wp2_with fail
          go_ret
          exact ⟨by rw [E.out]; rfl, HB6.out.trans (HBL.out.drew.mono HB6.out.size)⟩
    · have hjN : j = N := by omega
      subst hjN
      have hall : ps.all (fun p => decide (zs.getD (k + p.toNat) 0 < 24)) = true := by
        rw [List.all_eq_true]
        intro x hx
        obtain ⟨q, hq, rfl⟩ := List.getElem_of_mem hx
        have := HQ.out q (by have := HNP.out; omega)
        rw [List.getD_eq_getElem?_getD (l := ps), List.getElem?_eq_getElem hq] at this
        simpa using this
      have HR3 : Hid (R = (decide (pc < 0) || decide (zs.getD (k + pc.toNat) 0 < lc))) := by
        unfold Hid; rw [HR2.out, hall, Bool.true_and]
      clear hall HR2 hlt hj HQ
      by_cases hpc0 : pc < 0
      · have E : Hid (R = true) := by unfold Hid; rw [HR3.out, decide_eq_true hpc0]; rfl
        have g0 : decide (pc < 0) = true := decide_eq_true hpc0
        clear HR3 hbl
        go_wp2_with fail
        go_quiet (fail)
        all_goals
          go_wp2_with fail
          go_ret
          have h6 := HB6.out.trans (HBL.out.mono HB6.out.size)
          exact ⟨by rw [E.out]; rfl, ⟨h6.os, h6.tape, h6.output, h6.size, h6.block⟩⟩
      · have hci := HCI.out
        obtain ⟨L, hL⟩ : ∃ L : Nat, (L : Int) = (k : Int) + pc := ⟨k + pc.toNat, by omega⟩
        have hLn : L < n := by have := HKA.out; omega
        have hcv := (hbl.cell (p := ⟨b, off + L, none⟩) (World.block_lt_of_cell? _ _ (HC6.out L hLn))).trans (HC6.out L hLn)
        have Z1 : IntKind.i64.wrap ((k : Int) + pc) = (L : Int) := by have := HN.out; rw [IntWalk.i64_in _ ⟨by omega, by omega⟩]; omega
        have l0 : (0 : Int) ≤ (L : Int) := by omega
        have l1 : (L : Int) < (n : Int) := by omega
        have E : Hid (R = decide (zs.getD L 0 < lc)) := by
          unfold Hid
          rw [HR3.out, decide_eq_false hpc0, Bool.false_or, show L = k + pc.toNat by omega]
        generalize zs.getD L 0 = v at *
        have g0 : decide (pc < 0) = false := decide_eq_false hpc0
        have g1 : 0 ≤ pc := by omega
        clear HR3 hbl hL hLn hci hpc0
        go_wp2_with fail
        go_region_held3 (fun Z => Z.cell? ⟨p, 0, none⟩ = some (.int .i64 k) ∧ Z.cell? ⟨p, 2, none⟩ = some (.slice a2 lc k2) ∧ Z.cell? ⟨b, off + L, none⟩ = some (.int .i64 v)) (go_keep) (fail)
        all_goals
          go_wp2_with fail
          go_ret
          exact ⟨by rw [E.out]; rfl, HB6.out.trans (HBL.out.drew.mono HB6.out.size)⟩
end Go.Proofs.Ytcikofhbfncgdaa
namespace Go.Proofs.Ytcikofhbfncgdaa
open Go.RowKit
set_option linter.unusedVariables false

theorem tup64 {a b : Int} (h : a = b) : Ending.returned (.tuple #[.int .i64 a, .int .i64 0]) = Ending.returned (.tuple #[.int .i64 b, .int .i64 0]) := by rw [h]
theorem wd_w64 (x : Int) : wd (wrap64 x) = wd x := by unfold wd wrap64; omega
theorem w64and (a b : Nat) (ha : a < 65536) (hb : b < 65536) : bits .and .i64 (a : Int) (b : Int) = ((a &&& b : Nat) : Int) := by
  have hx : a &&& b < 2 ^ 16 := Nat.and_lt_two_pow _ (by omega)
  have h1 : (BitVec.ofInt 64 (a : Int)).toNat = a := by
    rw [BitVec.ofInt_natCast, BitVec.toNat_ofNat]; exact Nat.mod_eq_of_lt (by omega)
  have h2 : (BitVec.ofInt 64 (b : Int)).toNat = b := by
    rw [BitVec.ofInt_natCast, BitVec.toNat_ofNat]; exact Nat.mod_eq_of_lt (by omega)
  show IntKind.i64.wrap ((BitVec.ofInt 64 (a : Int) &&& BitVec.ofInt 64 (b : Int)).toNat : Int) = _
  rw [BitVec.toNat_and, h1, h2, IntKind.wrap_i64]
  omega
theorem w64or (a b : Nat) (ha : a < 65536) (hb : b < 65536) : bits .or .i64 (a : Int) (b : Int) = ((a ||| b : Nat) : Int) := by
  have hx : a ||| b < 2 ^ 16 := Nat.or_lt_two_pow (by omega) (by omega)
  have h1 : (BitVec.ofInt 64 (a : Int)).toNat = a := by
    rw [BitVec.ofInt_natCast, BitVec.toNat_ofNat]; exact Nat.mod_eq_of_lt (by omega)
  have h2 : (BitVec.ofInt 64 (b : Int)).toNat = b := by
    rw [BitVec.ofInt_natCast, BitVec.toNat_ofNat]; exact Nat.mod_eq_of_lt (by omega)
  show IntKind.i64.wrap ((BitVec.ofInt 64 (a : Int) ||| BitVec.ofInt 64 (b : Int)).toNat : Int) = _
  rw [BitVec.toNat_or, h1, h2, IntKind.wrap_i64]
  omega
theorem w64xor (a b : Nat) (ha : a < 65536) (hb : b < 65536) : bits .xor .i64 (a : Int) (b : Int) = ((a ^^^ b : Nat) : Int) := by
  have hx : a ^^^ b < 2 ^ 16 := Nat.xor_lt_two_pow (by omega) (by omega)
  have h1 : (BitVec.ofInt 64 (a : Int)).toNat = a := by
    rw [BitVec.ofInt_natCast, BitVec.toNat_ofNat]; exact Nat.mod_eq_of_lt (by omega)
  have h2 : (BitVec.ofInt 64 (b : Int)).toNat = b := by
    rw [BitVec.ofInt_natCast, BitVec.toNat_ofNat]; exact Nat.mod_eq_of_lt (by omega)
  show IntKind.i64.wrap ((BitVec.ofInt 64 (a : Int) ^^^ BitVec.ofInt 64 (b : Int)).toNat : Int) = _
  rw [BitVec.toNat_xor, h1, h2, IntKind.wrap_i64]
  omega
theorem b64_and (a b : Int) : bits .and .i64 (wd a) (wd b) = (((wd a).toNat &&& (wd b).toNat : Nat) : Int) := by
  have h1 := wd_lo a; have h2 := wd_hi a; have h3 := wd_lo b; have h4 := wd_hi b
  obtain ⟨m, hm⟩ := Int.eq_ofNat_of_zero_le h1
  obtain ⟨n, hn⟩ := Int.eq_ofNat_of_zero_le h3
  rw [hm, hn, w64and m n (by omega) (by omega)]; rfl
theorem b64_or (a b : Int) : bits .or .i64 (wd a) (wd b) = (((wd a).toNat ||| (wd b).toNat : Nat) : Int) := by
  have h1 := wd_lo a; have h2 := wd_hi a; have h3 := wd_lo b; have h4 := wd_hi b
  obtain ⟨m, hm⟩ := Int.eq_ofNat_of_zero_le h1
  obtain ⟨n, hn⟩ := Int.eq_ofNat_of_zero_le h3
  rw [hm, hn, w64or m n (by omega) (by omega)]; rfl
theorem b64_xor (a b : Int) : bits .xor .i64 (wd a) (wd b) = (((wd a).toNat ^^^ (wd b).toNat : Nat) : Int) := by
  have h1 := wd_lo a; have h2 := wd_hi a; have h3 := wd_lo b; have h4 := wd_hi b
  obtain ⟨m, hm⟩ := Int.eq_ofNat_of_zero_le h1
  obtain ⟨n, hn⟩ := Int.eq_ofNat_of_zero_le h3
  rw [hm, hn, w64xor m n (by omega) (by omega)]; rfl
set_option maxHeartbeats 400000 in
theorem l2_1 (a b : Int) (w : World) : Calls Try.prog 156 #[.int .i64 1, .int .i64 a, .int .i64 b] w fun e w' => e = .returned (.tuple #[.int .i64 (binW 1 a b), .int .i64 0]) ∧ w' = w := by
  have h1 := sg_lo a; have h2 := sg_hi a; have h3 := sg_lo b; have h4 := sg_hi b
  go_enter Try.func156, Try.ntmps156
  go_wp2_with (first | (go_at_call 163; refine (specSignedOf _ _).mono ?_; rintro e w' ⟨rfl, rfl⟩) | (go_at_call 151; refine (specWordOf _ _).mono ?_; rintro e w' ⟨rfl, rfl⟩) | (go_at_call 165; refine (l2Bit_any _ _).mono ?_; rintro e w' ⟨rfl, rfl⟩))
  go_ret2
  refine ⟨tup64 ?_, rfl⟩
  rw [sg_add]; rfl
set_option maxHeartbeats 400000 in
theorem l2_2 (a b : Int) (w : World) : Calls Try.prog 156 #[.int .i64 2, .int .i64 a, .int .i64 b] w fun e w' => e = .returned (.tuple #[.int .i64 (binW 2 a b), .int .i64 0]) ∧ w' = w := by
  have h1 := sg_lo a; have h2 := sg_hi a; have h3 := sg_lo b; have h4 := sg_hi b
  go_enter Try.func156, Try.ntmps156
  go_wp2_with (first | (go_at_call 163; refine (specSignedOf _ _).mono ?_; rintro e w' ⟨rfl, rfl⟩) | (go_at_call 151; refine (specWordOf _ _).mono ?_; rintro e w' ⟨rfl, rfl⟩) | (go_at_call 165; refine (l2Bit_any _ _).mono ?_; rintro e w' ⟨rfl, rfl⟩))
  go_ret2
  refine ⟨tup64 ?_, rfl⟩
  rw [sg_sub]; rfl
set_option maxHeartbeats 400000 in
theorem l2_3 (a b : Int) (w : World) : Calls Try.prog 156 #[.int .i64 3, .int .i64 a, .int .i64 b] w fun e w' => e = .returned (.tuple #[.int .i64 (binW 3 a b), .int .i64 0]) ∧ w' = w := by
  have h1 := sg_lo a; have h2 := sg_hi a; have h3 := sg_lo b; have h4 := sg_hi b
  go_enter Try.func156, Try.ntmps156
  go_wp2_with (first | (go_at_call 163; refine (specSignedOf _ _).mono ?_; rintro e w' ⟨rfl, rfl⟩) | (go_at_call 151; refine (specWordOf _ _).mono ?_; rintro e w' ⟨rfl, rfl⟩) | (go_at_call 165; refine (l2Bit_any _ _).mono ?_; rintro e w' ⟨rfl, rfl⟩))
  go_ret2
  refine ⟨tup64 ?_, rfl⟩
  rw [wd_w64, sg_mul]; rfl
set_option maxHeartbeats 400000 in
theorem l2_4 (a b : Int) (w : World) (hz : wd b ≠ 0) : Calls Try.prog 156 #[.int .i64 4, .int .i64 a, .int .i64 b] w fun e w' => e = .returned (.tuple #[.int .i64 (binW 4 a b), .int .i64 0]) ∧ w' = w := by
  have h1 := sg_lo a; have h2 := sg_hi a; have h3 := sg_lo b; have h4 := sg_hi b
  have hb : (sg b == 0) = false := by rw [beq_eq_false_iff_ne]; intro e; exact hz ((sg_zero b).1 e)
  have hb' : sg b ≠ 0 := by intro e; exact hz ((sg_zero b).1 e)
  clear hz
  go_enter Try.func156, Try.ntmps156
  go_wp2_with (first | (go_at_call 163; refine (specSignedOf _ _).mono ?_; rintro e w' ⟨rfl, rfl⟩) | (go_at_call 151; refine (specWordOf _ _).mono ?_; rintro e w' ⟨rfl, rfl⟩) | (go_at_call 165; refine (l2Bit_any _ _).mono ?_; rintro e w' ⟨rfl, rfl⟩))
  go_ret2
  refine ⟨tup64 ?_, rfl⟩
  rw [wd_w64]; rfl
set_option maxHeartbeats 400000 in
theorem l2_5 (a b : Int) (w : World) (hz : wd b ≠ 0) : Calls Try.prog 156 #[.int .i64 5, .int .i64 a, .int .i64 b] w fun e w' => e = .returned (.tuple #[.int .i64 (binW 5 a b), .int .i64 0]) ∧ w' = w := by
  have h1 := sg_lo a; have h2 := sg_hi a; have h3 := sg_lo b; have h4 := sg_hi b
  have hb : (sg b == 0) = false := by rw [beq_eq_false_iff_ne]; intro e; exact hz ((sg_zero b).1 e)
  have hb' : sg b ≠ 0 := by intro e; exact hz ((sg_zero b).1 e)
  clear hz
  go_enter Try.func156, Try.ntmps156
  go_wp2_with (first | (go_at_call 163; refine (specSignedOf _ _).mono ?_; rintro e w' ⟨rfl, rfl⟩) | (go_at_call 151; refine (specWordOf _ _).mono ?_; rintro e w' ⟨rfl, rfl⟩) | (go_at_call 165; refine (l2Bit_any _ _).mono ?_; rintro e w' ⟨rfl, rfl⟩))
  go_ret2
  refine ⟨tup64 ?_, rfl⟩
  first | rfl | (rw [wd_w64]; rfl)
set_option maxHeartbeats 400000 in
theorem l2_6 (a b : Int) (w : World) : Calls Try.prog 156 #[.int .i64 6, .int .i64 a, .int .i64 b] w fun e w' => e = .returned (.tuple #[.int .i64 (binW 6 a b), .int .i64 0]) ∧ w' = w := by
  have h1 := wd_lo a; have h2 := wd_hi a; have h3 := wd_lo b; have h4 := wd_hi b
  go_enter Try.func156, Try.ntmps156
  go_wp2_with (first | (go_at_call 163; refine (specSignedOf _ _).mono ?_; rintro e w' ⟨rfl, rfl⟩) | (go_at_call 151; refine (specWordOf _ _).mono ?_; rintro e w' ⟨rfl, rfl⟩) | (go_at_call 165; refine (l2Bit_any _ _).mono ?_; rintro e w' ⟨rfl, rfl⟩))
  go_ret2
  refine ⟨tup64 ?_, rfl⟩
  rw [b64_and]; rfl
set_option maxHeartbeats 400000 in
theorem l2_7 (a b : Int) (w : World) : Calls Try.prog 156 #[.int .i64 7, .int .i64 a, .int .i64 b] w fun e w' => e = .returned (.tuple #[.int .i64 (binW 7 a b), .int .i64 0]) ∧ w' = w := by
  have h1 := wd_lo a; have h2 := wd_hi a; have h3 := wd_lo b; have h4 := wd_hi b
  go_enter Try.func156, Try.ntmps156
  go_wp2_with (first | (go_at_call 163; refine (specSignedOf _ _).mono ?_; rintro e w' ⟨rfl, rfl⟩) | (go_at_call 151; refine (specWordOf _ _).mono ?_; rintro e w' ⟨rfl, rfl⟩) | (go_at_call 165; refine (l2Bit_any _ _).mono ?_; rintro e w' ⟨rfl, rfl⟩))
  go_ret2
  refine ⟨tup64 ?_, rfl⟩
  rw [b64_or]; rfl
set_option maxHeartbeats 400000 in
theorem l2_8 (a b : Int) (w : World) : Calls Try.prog 156 #[.int .i64 8, .int .i64 a, .int .i64 b] w fun e w' => e = .returned (.tuple #[.int .i64 (binW 8 a b), .int .i64 0]) ∧ w' = w := by
  have h1 := wd_lo a; have h2 := wd_hi a; have h3 := wd_lo b; have h4 := wd_hi b
  go_enter Try.func156, Try.ntmps156
  go_wp2_with (first | (go_at_call 163; refine (specSignedOf _ _).mono ?_; rintro e w' ⟨rfl, rfl⟩) | (go_at_call 151; refine (specWordOf _ _).mono ?_; rintro e w' ⟨rfl, rfl⟩) | (go_at_call 165; refine (l2Bit_any _ _).mono ?_; rintro e w' ⟨rfl, rfl⟩))
  go_ret2
  refine ⟨tup64 ?_, rfl⟩
  rw [b64_xor]; rfl
set_option maxHeartbeats 400000 in
theorem l2_9 (a b : Int) (w : World) : Calls Try.prog 156 #[.int .i64 9, .int .i64 a, .int .i64 b] w fun e w' => e = .returned (.tuple #[.int .i64 (binW 9 a b), .int .i64 0]) ∧ w' = w := by
  have h1 := sg_lo a; have h2 := sg_hi a; have h3 := sg_lo b; have h4 := sg_hi b
  go_enter Try.func156, Try.ntmps156
  go_wp2_with (first | (go_at_call 163; refine (specSignedOf _ _).mono ?_; rintro e w' ⟨rfl, rfl⟩) | (go_at_call 151; refine (specWordOf _ _).mono ?_; rintro e w' ⟨rfl, rfl⟩) | (go_at_call 165; refine (l2Bit_any _ _).mono ?_; rintro e w' ⟨rfl, rfl⟩))
  · go_ret2
    refine ⟨tup64 ?_, rfl⟩
    exact (if_pos h).symm
  · go_ret2
    refine ⟨tup64 ?_, rfl⟩
    exact (if_neg (Int.not_lt.2 h)).symm
set_option maxHeartbeats 400000 in
theorem l2_10 (a b : Int) (w : World) : Calls Try.prog 156 #[.int .i64 10, .int .i64 a, .int .i64 b] w fun e w' => e = .returned (.tuple #[.int .i64 (binW 10 a b), .int .i64 0]) ∧ w' = w := by
  have h1 := sg_lo a; have h2 := sg_hi a; have h3 := sg_lo b; have h4 := sg_hi b
  go_enter Try.func156, Try.ntmps156
  go_wp2_with (first | (go_at_call 163; refine (specSignedOf _ _).mono ?_; rintro e w' ⟨rfl, rfl⟩) | (go_at_call 151; refine (specWordOf _ _).mono ?_; rintro e w' ⟨rfl, rfl⟩) | (go_at_call 165; refine (l2Bit_any _ _).mono ?_; rintro e w' ⟨rfl, rfl⟩))
  · go_ret2
    refine ⟨tup64 ?_, rfl⟩
    exact (if_pos ((sg_same a b).1 h)).symm
  · go_ret2
    refine ⟨tup64 ?_, rfl⟩
    exact (if_neg (fun e => h ((sg_same a b).2 e))).symm

set_option maxHeartbeats 400000 in
theorem l2_out (op a b : Int) (w : World) (h : op < 1 ∨ 10 < op) : Calls Try.prog 156 #[.int .i64 op, .int .i64 a, .int .i64 b] w fun e w' => e = .returned (.tuple #[.int .i64 0, .int .i64 3]) ∧ w' = w := by
  have e1 : (op == 1) = false := by simp; omega
  have e2 : (op == 2) = false := by simp; omega
  have e3 : (op == 3) = false := by simp; omega
  have e4 : (op == 4) = false := by simp; omega
  have e5 : (op == 5) = false := by simp; omega
  have e6 : (op == 6) = false := by simp; omega
  have e7 : (op == 7) = false := by simp; omega
  have e8 : (op == 8) = false := by simp; omega
  have e9 : (op == 9) = false := by simp; omega
  have e10 : (op == 10) = false := by simp; omega
  clear h
  go_enter Try.func156, Try.ntmps156
  go_wp2_with (first | (go_at_call 163; refine (specSignedOf _ _).mono ?_; rintro e w' ⟨rfl, rfl⟩) | (go_at_call 151; refine (specWordOf _ _).mono ?_; rintro e w' ⟨rfl, rfl⟩))
  go_ret2
  exact ⟨rfl, rfl⟩
set_option maxHeartbeats 400000 in
theorem l2_zero (op a b : Int) (w : World) (h : op = 4 ∨ op = 5) (hz : wd b = 0) : Calls Try.prog 156 #[.int .i64 op, .int .i64 a, .int .i64 b] w fun e w' => e = .returned (.tuple #[.int .i64 0, .int .i64 4]) ∧ w' = w := by
  have hb : (sg b == 0) = true := by rw [(sg_zero b).2 hz]; rfl
  clear hz
  rcases h with rfl | rfl
  all_goals
    go_enter Try.func156, Try.ntmps156
    go_wp2_with (first | (go_at_call 163; refine (specSignedOf _ _).mono ?_; rintro e w' ⟨rfl, rfl⟩) | (go_at_call 151; refine (specWordOf _ _).mono ?_; rintro e w' ⟨rfl, rfl⟩))
    go_ret2
    exact ⟨rfl, rfl⟩
theorem l2_any (op a b : Int) (w : World) : Calls Try.prog 156 #[.int .i64 op, .int .i64 a, .int .i64 b] w fun e w' => e = .returned (.tuple #[.int .i64 (binV op a b), .int .i64 (binC op b)]) ∧ w' = w := by
  by_cases h : op < 1 ∨ 10 < op
  · have hc : binC op b = 3 := if_pos h
    rw [binV, hc]
    exact l2_out op a b w h
  by_cases hz : (op = 4 ∨ op = 5) ∧ wd b = 0
  · have hc : binC op b = 4 := by unfold binC; rw [if_neg h, if_pos hz]
    rw [binV, hc]
    exact l2_zero op a b w hz.1 hz.2
  have hc : binC op b = 0 := by unfold binC; rw [if_neg h, if_neg hz]
  rw [binV, hc, if_pos rfl]
  have hop : op = 1 ∨ op = 2 ∨ op = 3 ∨ op = 4 ∨ op = 5 ∨ op = 6 ∨ op = 7 ∨ op = 8 ∨ op = 9 ∨ op = 10 := by omega
  rcases hop with rfl | rfl | rfl | rfl | rfl | rfl | rfl | rfl | rfl | rfl
  · exact l2_1 a b w
  · exact l2_2 a b w
  · exact l2_3 a b w
  · exact l2_4 a b w (fun e => hz ⟨.inl rfl, e⟩)
  · exact l2_5 a b w (fun e => hz ⟨.inr rfl, e⟩)
  · exact l2_6 a b w
  · exact l2_7 a b w
  · exact l2_8 a b w
  · exact l2_9 a b w
  · exact l2_10 a b w
end Go.Proofs.Ytcikofhbfncgdaa
