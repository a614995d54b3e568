/-
  spec.l12Fault, spec.BuildFault.
-/
import Derived.Test.YtpobajblngblfaaBldS
namespace Go.Proofs.Ytpobajblngblfaa
open Go.RowKit
set_option linter.unusedVariables false

set_option maxHeartbeats 6400000 in
set_option maxRecDepth 100000 in
theorem l12Fault_any (p : Nat) (m : LBuild) (vp vo va vb vs vt : Value) (w : World) (hp : w.heap[p]? = some (.cells (lineB m vp vo va vb vs vt) 30 (0, 0))) (h : BldR w vp vo va vb vs vt m) (hl : BldLe m 1048576) :
    Calls Try.prog 27 #[.pointer (some ⟨p, 0, none⟩)] w fun e w' => e = .returned (.int .i64 (bdF m)) ∧ Below w.heap.size w w' := by
  have HRW : Hid (∀ W, Below w.heap.size w W → RowV W vs m.sumsA ∧ RowV W vt m.sumsB) := fun W hb => ⟨(h.s.below hb).row, (h.t.below hb).row⟩
  obtain ⟨⟨a1, k1, rfl, _, n1⟩, ⟨a2, k2, rfl, _, n2, _⟩, ⟨a3, k3, rfl, hc3, n3, _⟩, ⟨a4, k4, rfl, hc4, n4, _⟩, ⟨a5, k5, rfl, _, n5, _⟩, a6, k6, rfl, _, n6, _⟩ := h
  have HC1 : Hid (∀ W, Calls Try.prog 49 #[.int .i64 m.cells, .int .i64 0, .int .i64 80] W fun e w' => e = .returned (.bool (inB m.cells 0 80)) ∧ w' = W) := fun W => l1In_any _ _ _ W
  have HC2 : Hid (∀ W, Calls Try.prog 49 #[.int .i64 m.budA, .int .i64 0, .int .i64 20000] W fun e w' => e = .returned (.bool (inB m.budA 0 20000)) ∧ w' = W) := fun W => l1In_any _ _ _ W
  have HC3 : Hid (∀ W, Calls Try.prog 49 #[.int .i64 m.budB, .int .i64 0, .int .i64 20000] W fun e w' => e = .returned (.bool (inB m.budB 0 20000)) ∧ w' = W) := fun W => l1In_any _ _ _ W
  have HLC : Hid (inB m.cells 0 80 = true → ∀ z, Calls Try.prog 50 #[.pointer (some ⟨p, 0, none⟩), .int .i64 z] w fun e w' => e = .returned (.bool (inB z 0 (m.cells - 1))) ∧ w' = w) := fun hc z => by
    obtain ⟨c0, c1⟩ := inB_iff.1 hc
    exact l12Cell_any p m.cells z w c0 c1 (cl9 hp).1
  have HPA : Hid (∀ (k : Nat), k < m.ports.length → ∃ b o y, a1 = some ⟨b, o, none⟩ ∧ w.cell? ⟨b, o + k * 2, none⟩ = some (.int .i64 ((m.ports.map (·.cell)).getD k 0)) ∧ w.cell? ⟨b, o + k * 2 + 1, none⟩ = some (.bool y)) := fun k hk => by
    obtain ⟨b, o, e, c0, c1⟩ := n1.at (List.getElem?_eq_getElem hk)
    refine ⟨b, o, _, e, ?_, c1⟩
    rw [List.getD_eq_getElem?_getD, List.getElem?_map, List.getElem?_eq_getElem hk]
    exact c0
  have HOA : Hid (∀ (k : Nat), k < m.outs.length → ∃ b o, a2 = some ⟨b, o, none⟩ ∧ w.cell? ⟨b, o + k, none⟩ = some (.int .i64 (m.outs.getD k 0))) := fun k hk => by
    rcases n2 with e | ⟨b, o, e, hc⟩
    · rw [e] at hk; simp at hk
    · exact ⟨b, o, e, hc k hk⟩
  have HB1 : Hid (∀ i, i < m.ports.length → inB ((m.ports.map (·.cell)).getD i 0) 0 (m.cells - 1) = false → cellsB m.cells (m.ports.map (·.cell)) = false) := fun i hi h => cellsB_bad i (by rw [List.length_map]; exact hi) h
  have HK1 : Hid ((∀ j, j < m.ports.length → inB ((m.ports.map (·.cell)).getD j 0) 0 (m.cells - 1) = true) → cellsB m.cells (m.ports.map (·.cell)) = true) := fun h => cellsB_ok (fun j hj => h j (by rwa [List.length_map] at hj))
  have HB2 : Hid (∀ i, i < m.outs.length → inB (m.outs.getD i 0) 0 (m.cells - 1) = false → cellsB m.cells m.outs = false) := fun i hi h => cellsB_bad i hi h
  have HK2 : Hid ((∀ j, j < m.outs.length → inB (m.outs.getD j 0) 0 (m.cells - 1) = true) → cellsB m.cells m.outs = true) := cellsB_ok
  have HFA : Hid (Calls Try.prog 51 #[.slice a3 m.codeA.length k3] w fun e w' => e = .returned (.int .i64 (fault m.codeA)) ∧ w' = w) := sFault_any a3 _ k3 w (by have := hl.a; omega) n3
  have HFB : Hid (Calls Try.prog 51 #[.slice a4 m.codeB.length k4] w fun e w' => e = .returned (.int .i64 (fault m.codeB)) ∧ w' = w) := sFault_any a4 _ k4 w (by have := hl.b; omega) n4
  have HBA : Hid (fault m.codeA = 0 → ∀ W, Below w.heap.size w W → Calls Try.prog 52 #[.slice a3 m.codeA.length k3] W fun e w' => ∃ v, e = .returned v ∧ RowV w' v (sumsV m.codeA) ∧ Below W.heap.size W w') := fun h0 W hb => by
    obtain ⟨h4, hw⟩ := fault_words h0
    refine (l1Blocks_any a3 _ k3 W hc3 h4 hw (n3.below hb)).mono fun e w' hh => ?_
    obtain ⟨v, rfl, ho, hb2⟩ := hh
    exact ⟨v, rfl, by rw [sumsV, if_pos h0]; exact own_row ho, hb2⟩
  have HBB : Hid (fault m.codeB = 0 → ∀ W, Below w.heap.size w W → Calls Try.prog 52 #[.slice a4 m.codeB.length k4] W fun e w' => ∃ v, e = .returned v ∧ RowV w' v (sumsV m.codeB) ∧ Below W.heap.size W w') := fun h0 W hb => by
    obtain ⟨h4, hw⟩ := fault_words h0
    refine (l1Blocks_any a4 _ k4 W hc4 h4 hw (n4.below hb)).mono fun e w' hh => ?_
    obtain ⟨v, rfl, ho, hb2⟩ := hh
    exact ⟨v, rfl, by rw [sumsV, if_pos h0]; exact own_row ho, hb2⟩
  have hsl : ∀ zs : List Int, zs.length ≤ 1048576 → (sumsV zs).length ≤ 1048576 := fun zs hz => by
    unfold sumsV
    split
    · rw [sumsTo_length]; unfold cnt; omega
    · simp
  have HSA : Hid (∀ v W, Below w.heap.size w W → RowV W v (sumsV m.codeA) → Calls Try.prog 44 #[.slice a5 m.sumsA.length k5, v] W fun e w' => e = .returned (.bool (decide (sumsV m.codeA = m.sumsA))) ∧ Below W.heap.size W w') := fun v W hb hv => (l12Same_any _ _ _ _ W (HRW.out W hb).1 hv hl.s (hsl _ hl.a)).mono fun e w' hh => by
    obtain ⟨rfl, q, rfl⟩ := hh
    exact ⟨rfl, (Below.refl W.heap.size W).os, (Below.refl W.heap.size W).tape, (Below.refl W.heap.size W).output, Nat.le_refl _, fun _ _ => rfl⟩
  have HSB : Hid (∀ v W, Below w.heap.size w W → RowV W v (sumsV m.codeB) → Calls Try.prog 44 #[.slice a6 m.sumsB.length k6, v] W fun e w' => e = .returned (.bool (decide (sumsV m.codeB = m.sumsB))) ∧ Below W.heap.size W w') := fun v W hb hv => (l12Same_any _ _ _ _ W (HRW.out W hb).2 hv hl.t (hsl _ hl.b)).mono fun e w' hh => by
    obtain ⟨rfl, q, rfl⟩ := hh
    exact ⟨rfl, (Below.refl W.heap.size W).os, (Below.refl W.heap.size W).tape, (Below.refl W.heap.size W).output, Nat.le_refl _, fun _ _ => rfl⟩
  have hF : bdF m = bdF m := rfl
  conv at hF => rhs; unfold bdF
  have hl1 := hl.p
  have hl2 := hl.o
  have HA := hid hp
  clear n1 n2 n3 n4 n5 n6 hl hsl hc3 hc4 HRW hp
  generalize decide (sumsV m.codeA = m.sumsA) = s1 at *
  generalize decide (sumsV m.codeB = m.sumsB) = s2 at *
  generalize cellsB m.cells (m.ports.map (·.cell)) = c1 at *
  generalize cellsB m.cells m.outs = c2 at *
  generalize inB m.cells 0 80 = b1 at *
  generalize inB m.budA 0 20000 = b2 at *
  generalize inB m.budB 0 20000 = b3 at *
  generalize fault m.codeA = f1 at *
  generalize fault m.codeB = f2 at *
  generalize m.ports.map (·.cell) = PC at *
  generalize m.ports.length = l1 at *
  generalize sumsV m.codeA = SA at *
  generalize sumsV m.codeB = SB at *
  generalize m.outs.length = l2 at *
  generalize m.codeA.length = l3 at *
  generalize m.codeB.length = l4 at *
  generalize m.sumsA.length = l5 at *
  generalize m.sumsB.length = l6 at *
  generalize bdF m = R at *
  have HF := hid hF
  clear hF
  obtain ⟨q0, q1, q2, q3, q4, q5, q6, q7, q8⟩ := cl9 HA.out
  go_enter Try.func27, Try.ntmps27
  cases b1 with
  | false =>
    have HR : Hid (R = 3) := by unfold Hid; rw [HF.out, if_pos (by simp)]
    go_wp2_with fail
    refine (HC1.out _).mono ?_
    rintro e w ⟨rfl, rfl⟩
    go_wp2_with fail
    go_ret
    exact ⟨by rw [HR.out]; rfl, Below.refl _ _⟩
  | true =>
  have HLC1 := hid (HLC.out rfl)
  clear HLC
  cases b2 with
  | false =>
    have HR : Hid (R = 3) := by unfold Hid; rw [HF.out, if_pos (by simp)]
    go_wp2_with fail
    refine (HC1.out _).mono ?_
    rintro e w ⟨rfl, rfl⟩
    go_wp2_with fail
    refine (HC2.out _).mono ?_
    rintro e w ⟨rfl, rfl⟩
    go_wp2_with fail
    go_ret
    exact ⟨by rw [HR.out]; rfl, Below.refl _ _⟩
  | true =>
  cases b3 with
  | false =>
    have HR : Hid (R = 3) := by unfold Hid; rw [HF.out, if_pos (by simp)]
    go_wp2_with fail
    refine (HC1.out _).mono ?_
    rintro e w ⟨rfl, rfl⟩
    go_wp2_with fail
    refine (HC2.out _).mono ?_
    rintro e w ⟨rfl, rfl⟩
    go_wp2_with fail
    refine (HC3.out _).mono ?_
    rintro e w ⟨rfl, rfl⟩
    go_wp2_with fail
    go_ret
    exact ⟨by rw [HR.out]; rfl, Below.refl _ _⟩
  | true =>
  have HF2 := hid (HF.out.trans (if_neg (by simp)))
  clear HF
  go_wp2_with fail
  refine (HC1.out _).mono ?_
  rintro e w ⟨rfl, rfl⟩
  go_wp2_with fail
  refine (HC2.out _).mono ?_
  rintro e w ⟨rfl, rfl⟩
  go_wp2_with fail
  refine (HC3.out _).mono ?_
  rintro e w ⟨rfl, rfl⟩
  go_upto_region 3 with fail
  clear HC1 HC2 HC3 q7 q8
  by_cases h1 : 24 < l1
  · have HR : Hid (R = 2) := by unfold Hid; rw [HF2.out, if_pos (by simp [h1])]
    have hd1 : decide ((24 : Int) < (l1 : Int)) = true := decide_eq_true (by omega)
    clear HF2
    go_wp2_with fail
    go_ret
    exact ⟨by rw [HR.out]; rfl, Below.refl _ _⟩
  by_cases h2 : 60 < l2
  · have HR : Hid (R = 2) := by unfold Hid; rw [HF2.out, if_pos (by simp [h2])]
    have hd1 : decide ((24 : Int) < (l1 : Int)) = false := decide_eq_false (by omega)
    have hd2 : decide ((60 : Int) < (l2 : Int)) = true := decide_eq_true (by omega)
    clear HF2
    go_wp2_with fail
    go_ret
    exact ⟨by rw [HR.out]; rfl, Below.refl _ _⟩
  have HF3 := hid (HF2.out.trans (if_neg (by simp; omega)))
  have hd1 : decide ((24 : Int) < (l1 : Int)) = false := decide_eq_false (by omega)
  have hd2 : decide ((60 : Int) < (l2 : Int)) = false := decide_eq_false (by omega)
  clear HF2
  go_wp2_with fail
  clear hd1 hd2 h1 h2
  go_loop [3] (fun i => ∃ k : Nat, k ≤ l1 ∧ i = .int .i64 k ∧ Hid (∀ j, j < k → inB (PC.getD j 0) 0 (m.cells - 1) = true)) (fun i => l1 - (intOf i).toNat)
  case atStart => exact ⟨0, Nat.zero_le _, rfl, fun j hj => by omega⟩
  case round =>
    obtain ⟨k, hk, rfl, HO⟩ := hrel
    by_cases hlt : k < l1
    · obtain ⟨b, o, y, rfl, d0, d1⟩ := HPA.out k hlt
      have HN : Hid (inB (PC.getD k 0) 0 (m.cells - 1) = true → ∀ j, j < k + 1 → inB (PC.getD j 0) 0 (m.cells - 1) = true) := fun h j hj => by
        by_cases e : j = k
        · subst e; exact h
        · exact HO.out j (by omega)
      have HX := hid (HB1.out k hlt)
      have HLCz := hid (HLC1.out (PC.getD k 0))
      generalize PC.getD k 0 = z at *
      have hk0 : (0 : Int) ≤ (k : Int) := by omega
      have hk1 : (k : Int) < (l1 : Int) := by omega
      clear HO HB1 HPA HK1
      go_wp2_with fail
      refine HLCz.out.mono ?_
      rintro e w ⟨rfl, rfl⟩
      cases hb : inB z 0 (m.cells - 1) with
      | true =>
        have HN2 := hid (HN.out hb)
        clear HN HX hb
        go_wp2_with fail
        go_round
        case rel => exact ⟨k + 1, by omega, by go_num, HN2⟩
        case measure => simp [intOf]; omega
      | false =>
        have HCF := hid (HX.out hb)
        have HR : Hid (R = 3) := by unfold Hid; rw [HF3.out, if_pos (by rw [HCF.out]; simp)]
        clear HN HX hb
        go_wp2_with fail
        go_ret
        exact ⟨by rw [HR.out]; rfl, Below.refl _ _⟩
    · have hke : k = l1 := by omega
      subst hke
      have HCT := hid (HK1.out HO.out)
      clear HO hk HB1 HPA HK1
      go_wp2_with fail
      go_loop [4] (fun i => ∃ k : Nat, k ≤ l2 ∧ i = .int .i64 k ∧ Hid (∀ j, j < k → inB (m.outs.getD j 0) 0 (m.cells - 1) = true)) (fun i => l2 - (intOf i).toNat)
      case atStart => exact ⟨0, Nat.zero_le _, rfl, fun j hj => by omega⟩
      case round =>
        obtain ⟨k2, hk, rfl, HO⟩ := hrel
        by_cases hlt : k2 < l2
        · obtain ⟨b, o, rfl, d0⟩ := HOA.out k2 hlt
          have HN : Hid (inB (m.outs.getD k2 0) 0 (m.cells - 1) = true → ∀ j, j < k2 + 1 → inB (m.outs.getD j 0) 0 (m.cells - 1) = true) := fun h j hj => by
            by_cases e : j = k2
            · subst e; exact h
            · exact HO.out j (by omega)
          have HX := hid (HB2.out k2 hlt)
          have HLCz := hid (HLC1.out (m.outs.getD k2 0))
          generalize m.outs.getD k2 0 = z at *
          have hk0 : (0 : Int) ≤ (k2 : Int) := by omega
          have hk1 : (k2 : Int) < (l2 : Int) := by omega
          clear HO HB2 HOA HK2
          go_wp2_with fail
          refine HLCz.out.mono ?_
          rintro e w ⟨rfl, rfl⟩
          cases hb : inB z 0 (m.cells - 1) with
          | true =>
            have HN2 := hid (HN.out hb)
            clear HN HX hb
            go_wp2_with fail
            go_round
            case rel => exact ⟨k2 + 1, by omega, by go_num, HN2⟩
            case measure => simp [intOf]; omega
          | false =>
            have HCF := hid (HX.out hb)
            have HR : Hid (R = 3) := by unfold Hid; rw [HF3.out, if_pos (by rw [HCT.out, HCF.out]; simp)]
            clear HN HX hb
            go_wp2_with fail
            go_ret
            exact ⟨by rw [HR.out]; rfl, Below.refl _ _⟩
        · have hke : k2 = l2 := by omega
          subst hke
          have HCU := hid (HK2.out HO.out)
          have HF4 := hid (HF3.out.trans (if_neg (by rw [HCT.out, HCU.out]; simp)))
          clear HO hk HB2 HOA HK2 HF3 HCT HCU HLC1
          go_wp2_with fail
          refine HFA.out.mono ?_
          rintro e w ⟨rfl, rfl⟩
          by_cases h1 : f1 = 0
          · have HBA1 := hid (HBA.out h1)
            have hfb : (f1 != 0) = false := by simpa using h1
            have HF5 := hid (HF4.out.trans (if_neg (by simpa using h1)))
            clear HBA HF4 h1
            go_wp2_with fail
            refine HFB.out.mono ?_
            rintro e w ⟨rfl, rfl⟩
            by_cases h2 : f2 = 0
            · have HBB1 := hid (HBB.out h2)
              have hfb2 : (f2 != 0) = false := by simpa using h2
              have HF6 := hid (HF5.out.trans (if_neg (by simpa using h2)))
              clear HBB HF5 h2
              go_upto_region 21 with fail
              clear hfb hfb2 HFA HFB
              have hS0 : Below w.heap.size w w := Below.refl _ _
              have HC : Hid (∀ Z, Below w.heap.size w Z → Z.cell? ⟨p, 3, none⟩ = some (.slice a3 l3 k3) ∧ Z.cell? ⟨p, 4, none⟩ = some (.slice a4 l4 k4) ∧ Z.cell? ⟨p, 5, none⟩ = some (.slice a5 l5 k5) ∧ Z.cell? ⟨p, 6, none⟩ = some (.slice a6 l6 k6)) := fun Z hb => have t := cl9 (blkB HA.out hb); ⟨t.2.2.2.1, t.2.2.2.2.1, t.2.2.2.2.2.1, t.2.2.2.2.2.2.1⟩
              cases s1 with
              | false =>
                have HR : Hid (R = 6) := by unfold Hid; rw [HF6.out, if_pos (by simp)]
                clear HF6
                refine wp_region_held_drew (S := fun Z => Below w.heap.size w Z ∧ (Z.cell? ⟨p, 3, none⟩ = some (.slice a3 l3 k3) ∧ Z.cell? ⟨p, 4, none⟩ = some (.slice a4 l4 k4) ∧ Z.cell? ⟨p, 5, none⟩ = some (.slice a5 l5 k5) ∧ Z.cell? ⟨p, 6, none⟩ = some (.slice a6 l6 k6))) (by kernel_rfl) ⟨hS0.drew, HC.out _ hS0.drew⟩ (fun hHeld => ?_)
                refine wpAnyH_take (i := 0) (oi := { dst := some 98, op := Op.move (Operand.tmp 0), type := 51, pos := "l12_build.go:44", after := #[], guard := none }) (v := ?_) rfl (by kernel_rfl) (by kernel_rfl) (by kernel_rfl) (fun _ _ _ h => h) (Or.inl ⟨by rfl, ?_⟩) (by assumption) ?_
                rotate_left 1
                · intro w hSw
                  (try dsimp only at hSw)
                  first | (go_simp; done) | (go_simp; with_reducible rfl)
                try simp only [Act.put, List.setIfInBounds_toArray, List.set_cons_zero, List.set_cons_succ]
                refine wpAnyH_take (i := 1) (oi := { dst := some 99, op := Op.nilCheck (Operand.tmp 98), type := 0, pos := "l12_build.go:44", after := #[{ on := 0, ground := Ground.data }], guard := none }) (v := ?_) rfl (by kernel_rfl) (by kernel_rfl) (by kernel_rfl) (fun _ _ _ h => h) (Or.inl ⟨by rfl, ?_⟩) (by assumption) ?_
                rotate_left 1
                · intro w hSw
                  (try dsimp only at hSw)
                  first | (go_simp; done) | (go_simp; with_reducible rfl)
                try simp only [Act.put, List.setIfInBounds_toArray, List.set_cons_zero, List.set_cons_succ]
                refine wpAnyH_take (i := 2) (oi := { dst := some 100, op := Op.fieldAddr 30 (Operand.tmp 99) 5, type := 0, pos := "l12_build.go:44", after := #[{ on := 1, ground := Ground.data }], guard := none }) (v := ?_) rfl (by kernel_rfl) (by kernel_rfl) (by kernel_rfl) (fun _ _ _ h => h) (Or.inl ⟨by rfl, ?_⟩) (by assumption) ?_
                rotate_left 1
                · intro w hSw
                  (try dsimp only at hSw)
                  first | (go_simp; done) | (go_simp; with_reducible rfl)
                try simp only [Act.put, List.setIfInBounds_toArray, List.set_cons_zero, List.set_cons_succ]
                refine wpAnyH_take (i := 3) (oi := { dst := some 101, op := Op.load 23 (Operand.tmp 100), type := 23, pos := "l12_build.go:44", after := #[{ on := 2, ground := Ground.data }], guard := none }) (v := ?_) rfl (by kernel_rfl) (by kernel_rfl) (by kernel_rfl) (fun _ _ _ h => h) (Or.inl ⟨by rfl, ?_⟩) (by assumption) ?_
                rotate_left 1
                · intro w hSw
                  (try dsimp only at hSw)
                  first | (go_simp; done) | (go_simp; with_reducible rfl)
                try simp only [Act.put, List.setIfInBounds_toArray, List.set_cons_zero, List.set_cons_succ]
                refine wpAnyH_take (i := 4) (oi := { dst := some 102, op := Op.move (Operand.tmp 0), type := 51, pos := "l12_build.go:44", after := #[], guard := none }) (v := ?_) rfl (by kernel_rfl) (by kernel_rfl) (by kernel_rfl) (fun _ _ _ h => h) (Or.inl ⟨by rfl, ?_⟩) (by assumption) ?_
                rotate_left 1
                · intro w hSw
                  (try dsimp only at hSw)
                  first | (go_simp; done) | (go_simp; with_reducible rfl)
                try simp only [Act.put, List.setIfInBounds_toArray, List.set_cons_zero, List.set_cons_succ]
                refine wpAnyH_take (i := 5) (oi := { dst := some 103, op := Op.nilCheck (Operand.tmp 102), type := 0, pos := "l12_build.go:44", after := #[{ on := 4, ground := Ground.data }], guard := none }) (v := ?_) rfl (by kernel_rfl) (by kernel_rfl) (by kernel_rfl) (fun _ _ _ h => h) (Or.inl ⟨by rfl, ?_⟩) (by assumption) ?_
                rotate_left 1
                · intro w hSw
                  (try dsimp only at hSw)
                  first | (go_simp; done) | (go_simp; with_reducible rfl)
                try simp only [Act.put, List.setIfInBounds_toArray, List.set_cons_zero, List.set_cons_succ]
                refine wpAnyH_take (i := 6) (oi := { dst := some 104, op := Op.fieldAddr 30 (Operand.tmp 103) 3, type := 0, pos := "l12_build.go:44", after := #[{ on := 5, ground := Ground.data }], guard := none }) (v := ?_) rfl (by kernel_rfl) (by kernel_rfl) (by kernel_rfl) (fun _ _ _ h => h) (Or.inl ⟨by rfl, ?_⟩) (by assumption) ?_
                rotate_left 1
                · intro w hSw
                  (try dsimp only at hSw)
                  first | (go_simp; done) | (go_simp; with_reducible rfl)
                try simp only [Act.put, List.setIfInBounds_toArray, List.set_cons_zero, List.set_cons_succ]
                refine wpAnyH_take (i := 7) (oi := { dst := some 105, op := Op.load 23 (Operand.tmp 104), type := 23, pos := "l12_build.go:44", after := #[{ on := 6, ground := Ground.data }], guard := none }) (v := ?_) rfl (by kernel_rfl) (by kernel_rfl) (by kernel_rfl) (fun _ _ _ h => h) (Or.inl ⟨by rfl, ?_⟩) (by assumption) ?_
                rotate_left 1
                · intro w hSw
                  (try dsimp only at hSw)
                  first | (go_simp; done) | (go_simp; with_reducible rfl)
                try simp only [Act.put, List.setIfInBounds_toArray, List.set_cons_zero, List.set_cons_succ]
                refine wpAnyH_ready (rs := [8]) (by kernel_rfl) (by simp) ?_
                refine AllReadyH.cons (o := { dst := some 106, op := Op.call { callee := Callee.value (Operand.func 52), args := #[Operand.tmp 105], argTypes := #[23] }, type := 23, pos := "l12_build.go:44", after := #[{ on := 7, ground := Ground.data }], guard := none }) rfl (fun K hK => ?_) AllReadyH.nil
                go_simp
                refine (HBA1.out _ hS0.drew).mono ?_
                rintro e w3 ⟨v, rfl, hv, hb⟩
                have hD3 : Below w.heap.size w w3 := step_belowBS hS0.drew hb
                have HV3 := hid hv
                clear hb hv
                go_wp2_with fail
                refine hK.out _ _ ⟨hD3, HC.out _ hD3⟩ (fun hHeld => ?_)
                clear hK K
                try simp only [Act.put, List.setIfInBounds_toArray, List.set_cons_zero, List.set_cons_succ]
                refine wpAnyH_ready (rs := [9]) (by kernel_rfl) (by simp) ?_
                refine AllReadyH.cons (o := { dst := some 107, op := Op.call { callee := Callee.value (Operand.func 44), args := #[Operand.tmp 101, Operand.tmp 106], argTypes := #[23, 23] }, type := 4, pos := "l12_build.go:44", after := #[{ on := 3, ground := Ground.data }, { on := 8, ground := Ground.data }, { on := 8, ground := Ground.chain }], guard := none }) rfl (fun K hK => ?_) AllReadyH.nil
                go_simp
                refine (HSA.out _ _ hD3 HV3.out).mono ?_
                rintro e w4 ⟨rfl, hb⟩
                have hD4 : Below w.heap.size w w4 := step_belowBS hD3 hb
                clear hb
                go_wp2_with fail
                refine hK.out _ _ ⟨hD4, HC.out _ hD4⟩ (fun hHeld => ?_)
                clear hK K
                try simp only [Act.put, List.setIfInBounds_toArray, List.set_cons_zero, List.set_cons_succ]
                refine wpAnyH_take (i := 10) (oi := { dst := some 108, op := Op.unOp UnOp.not 4 (Operand.tmp 107), type := 4, pos := "l12_build.go:44", after := #[{ on := 9, ground := Ground.data }], guard := none }) (v := ?_) rfl (by kernel_rfl) (by kernel_rfl) (by kernel_rfl) (fun _ _ _ h => h) (Or.inl ⟨by rfl, ?_⟩) (by assumption) ?_
                rotate_left 1
                · intro w hSw
                  (try dsimp only at hSw)
                  first | (go_simp; done) | (go_simp; with_reducible rfl)
                try simp only [Act.put, List.setIfInBounds_toArray, List.set_cons_zero, List.set_cons_succ]
                refine wpAnyH_take (i := 11) (oi := { dst := some 109, op := Op.move (Operand.tmp 108), type := 4, pos := "l12_build.go:44", after := #[{ on := 10, ground := Ground.data }, { on := 9, ground := Ground.chain }], guard := none }) (v := ?_) rfl (by kernel_rfl) (by kernel_rfl) (by kernel_rfl) (fun _ _ _ h => h) (Or.inl ⟨by rfl, ?_⟩) (by assumption) ?_
                rotate_left 1
                · intro w hSw
                  (try dsimp only at hSw)
                  first | (go_simp; done) | (go_simp; with_reducible rfl)
                try simp only [Act.put, List.setIfInBounds_toArray, List.set_cons_zero, List.set_cons_succ]
                refine wpAnyH_take (i := 12) (oi := { dst := some 110, op := Op.move (Operand.tmp 0), type := 51, pos := "l12_build.go:44", after := #[{ on := 11, ground := Ground.guard }], guard := some (11, false) }) (v := undef) rfl (by kernel_rfl) (by kernel_rfl) (by kernel_rfl) (fun _ _ _ h => h) (Or.inr ⟨by go_simp, rfl⟩) (by assumption) ?_
                try simp only [Act.put, List.setIfInBounds_toArray, List.set_cons_zero, List.set_cons_succ]
                refine wpAnyH_take (i := 13) (oi := { dst := some 111, op := Op.nilCheck (Operand.tmp 110), type := 0, pos := "l12_build.go:44", after := #[{ on := 12, ground := Ground.data }, { on := 11, ground := Ground.guard }], guard := some (11, false) }) (v := undef) rfl (by kernel_rfl) (by kernel_rfl) (by kernel_rfl) (fun _ _ _ h => h) (Or.inr ⟨by go_simp, rfl⟩) (by assumption) ?_
                try simp only [Act.put, List.setIfInBounds_toArray, List.set_cons_zero, List.set_cons_succ]
                refine wpAnyH_take (i := 14) (oi := { dst := some 112, op := Op.fieldAddr 30 (Operand.tmp 111) 6, type := 0, pos := "l12_build.go:44", after := #[{ on := 13, ground := Ground.data }, { on := 11, ground := Ground.guard }], guard := some (11, false) }) (v := undef) rfl (by kernel_rfl) (by kernel_rfl) (by kernel_rfl) (fun _ _ _ h => h) (Or.inr ⟨by go_simp, rfl⟩) (by assumption) ?_
                try simp only [Act.put, List.setIfInBounds_toArray, List.set_cons_zero, List.set_cons_succ]
                refine wpAnyH_take (i := 15) (oi := { dst := some 113, op := Op.load 23 (Operand.tmp 112), type := 23, pos := "l12_build.go:44", after := #[{ on := 14, ground := Ground.data }, { on := 11, ground := Ground.guard }], guard := some (11, false) }) (v := undef) rfl (by kernel_rfl) (by kernel_rfl) (by kernel_rfl) (fun _ _ _ h => h) (Or.inr ⟨by go_simp, rfl⟩) (by assumption) ?_
                try simp only [Act.put, List.setIfInBounds_toArray, List.set_cons_zero, List.set_cons_succ]
                refine wpAnyH_take (i := 16) (oi := { dst := some 114, op := Op.move (Operand.tmp 0), type := 51, pos := "l12_build.go:44", after := #[{ on := 11, ground := Ground.guard }], guard := some (11, false) }) (v := undef) rfl (by kernel_rfl) (by kernel_rfl) (by kernel_rfl) (fun _ _ _ h => h) (Or.inr ⟨by go_simp, rfl⟩) (by assumption) ?_
                try simp only [Act.put, List.setIfInBounds_toArray, List.set_cons_zero, List.set_cons_succ]
                refine wpAnyH_take (i := 17) (oi := { dst := some 115, op := Op.nilCheck (Operand.tmp 114), type := 0, pos := "l12_build.go:44", after := #[{ on := 16, ground := Ground.data }, { on := 11, ground := Ground.guard }], guard := some (11, false) }) (v := undef) rfl (by kernel_rfl) (by kernel_rfl) (by kernel_rfl) (fun _ _ _ h => h) (Or.inr ⟨by go_simp, rfl⟩) (by assumption) ?_
                try simp only [Act.put, List.setIfInBounds_toArray, List.set_cons_zero, List.set_cons_succ]
                refine wpAnyH_take (i := 18) (oi := { dst := some 116, op := Op.fieldAddr 30 (Operand.tmp 115) 4, type := 0, pos := "l12_build.go:44", after := #[{ on := 17, ground := Ground.data }, { on := 11, ground := Ground.guard }], guard := some (11, false) }) (v := undef) rfl (by kernel_rfl) (by kernel_rfl) (by kernel_rfl) (fun _ _ _ h => h) (Or.inr ⟨by go_simp, rfl⟩) (by assumption) ?_
                try simp only [Act.put, List.setIfInBounds_toArray, List.set_cons_zero, List.set_cons_succ]
                refine wpAnyH_take (i := 19) (oi := { dst := some 117, op := Op.load 23 (Operand.tmp 116), type := 23, pos := "l12_build.go:44", after := #[{ on := 18, ground := Ground.data }, { on := 11, ground := Ground.guard }], guard := some (11, false) }) (v := undef) rfl (by kernel_rfl) (by kernel_rfl) (by kernel_rfl) (fun _ _ _ h => h) (Or.inr ⟨by go_simp, rfl⟩) (by assumption) ?_
                try simp only [Act.put, List.setIfInBounds_toArray, List.set_cons_zero, List.set_cons_succ]
                refine wpAnyH_take (i := 20) (oi := { dst := some 118, op := Op.call { callee := Callee.value (Operand.func 52), args := #[Operand.tmp 117], argTypes := #[23] }, type := 23, pos := "l12_build.go:44", after := #[{ on := 19, ground := Ground.data }, { on := 11, ground := Ground.chain }, { on := 11, ground := Ground.guard }], guard := some (11, false) }) (v := undef) rfl (by kernel_rfl) (by kernel_rfl) (by kernel_rfl) (fun _ _ _ h => h) (Or.inr ⟨by go_simp, rfl⟩) (by assumption) ?_
                try simp only [Act.put, List.setIfInBounds_toArray, List.set_cons_zero, List.set_cons_succ]
                refine wpAnyH_take (i := 21) (oi := { dst := some 119, op := Op.call { callee := Callee.value (Operand.func 44), args := #[Operand.tmp 113, Operand.tmp 118], argTypes := #[23, 23] }, type := 4, pos := "l12_build.go:44", after := #[{ on := 15, ground := Ground.data }, { on := 20, ground := Ground.data }, { on := 20, ground := Ground.chain }, { on := 11, ground := Ground.guard }], guard := some (11, false) }) (v := undef) rfl (by kernel_rfl) (by kernel_rfl) (by kernel_rfl) (fun _ _ _ h => h) (Or.inr ⟨by go_simp, rfl⟩) (by assumption) ?_
                try simp only [Act.put, List.setIfInBounds_toArray, List.set_cons_zero, List.set_cons_succ]
                refine wpAnyH_take (i := 22) (oi := { dst := some 120, op := Op.unOp UnOp.not 4 (Operand.tmp 119), type := 4, pos := "l12_build.go:44", after := #[{ on := 21, ground := Ground.data }, { on := 11, ground := Ground.guard }], guard := some (11, false) }) (v := undef) rfl (by kernel_rfl) (by kernel_rfl) (by kernel_rfl) (fun _ _ _ h => h) (Or.inr ⟨by go_simp, rfl⟩) (by assumption) ?_
                try simp only [Act.put, List.setIfInBounds_toArray, List.set_cons_zero, List.set_cons_succ]
                refine wpAnyH_take (i := 23) (oi := { dst := some 121, op := Op.pick (Operand.tmp 109) (Operand.const (Value.bool true)) (Operand.tmp 120), type := 4, pos := "l12_build.go:44", after := #[{ on := 11, ground := Ground.data }, { on := 22, ground := Ground.data }], guard := none }) (v := ?_) rfl (by kernel_rfl) (by kernel_rfl) (by kernel_rfl) (fun _ _ _ h => h) (Or.inl ⟨by rfl, ?_⟩) (by assumption) ?_
                rotate_left 1
                · intro w hSw
                  (try dsimp only at hSw)
                  first | (go_simp; done) | (go_simp; with_reducible rfl)
                try simp only [Act.put, List.setIfInBounds_toArray, List.set_cons_zero, List.set_cons_succ]
                refine wpAnyH_done (by kernel_rfl) ?_ _
                have HB4 := hid hD4
                go_wp2_with fail
                go_ret
                exact ⟨by rw [HR.out]; rfl, HB4.out⟩
              | true =>
              go_region_held3 (fun Z => Below w.heap.size w Z ∧ (Z.cell? ⟨p, 3, none⟩ = some (.slice a3 l3 k3) ∧ Z.cell? ⟨p, 4, none⟩ = some (.slice a4 l4 k4) ∧ Z.cell? ⟨p, 5, none⟩ = some (.slice a5 l5 k5) ∧ Z.cell? ⟨p, 6, none⟩ = some (.slice a6 l6 k6))) (first | (with_reducible exact ⟨by assumption, HC.out _ (by assumption)⟩) | (with_reducible exact ⟨hS0.drew, HC.out _ hS0.drew⟩) | fail) (first | (go_at_call 52; (first | ((with_reducible show Calls _ _ #[Value.slice a3 l3 k3] _ _); refine (HBA1.out _ (And.left (by with_reducible assumption))).mono ?_; rintro e w3 ⟨v, rfl, hv, hb⟩; have hD3 : Below w.heap.size w w3 := step_belowBS (And.left (by with_reducible assumption)) hb; have HV3 := hid hv; clear hb hv) | ((with_reducible show Calls _ _ #[Value.slice a4 l4 k4] _ _); refine (HBB1.out _ (And.left (by with_reducible assumption))).mono ?_; rintro e w3 ⟨v, rfl, hv, hb⟩; have hD5 : Below w.heap.size w w3 := step_belowBS (And.left (by with_reducible assumption)) hb; have HV5 := hid hv; clear hb hv))) | (go_at_call 44; (first | ((with_reducible show Calls _ _ #[Value.slice a5 l5 k5, _] _ _); refine (HSA.out _ _ hD3 HV3.out).mono ?_; rintro e w4 ⟨rfl, hb⟩; have hD4 : Below w.heap.size w w4 := step_belowBS hD3 hb; clear hb) | ((with_reducible show Calls _ _ #[Value.slice a6 l6 k6, _] _ _); refine (HSB.out _ _ hD5 HV5.out).mono ?_; rintro e w4 ⟨rfl, hb⟩; have hD6 : Below w.heap.size w w4 := step_belowBS hD5 hb; clear hb))) | fail)
              have HB6 := hid hD6
              clear hD3 hD4 hD5 hD6 HV3 HV5 hS0 HC
              cases s2 with
              | false =>
                have HR : Hid (R = 6) := by unfold Hid; rw [HF6.out, if_pos (by simp)]
                go_wp2_with fail
                go_ret
                exact ⟨by rw [HR.out]; rfl, HB6.out⟩
              | true =>
                have HR : Hid (R = 0) := by unfold Hid; rw [HF6.out, if_neg (by simp)]
                go_wp2_with fail
                go_ret
                exact ⟨by rw [HR.out]; rfl, HB6.out⟩
            · have hfb2 : (f2 != 0) = true := by simpa using h2
              have HR : Hid (R = f2) := HF5.out.trans (if_pos h2)
              clear h2 HF5 HBB
              go_wp2_with fail
              go_ret
              exact ⟨by rw [HR.out]; rfl, Below.refl _ _⟩
          · have hfb : (f1 != 0) = true := by simpa using h1
            have HR : Hid (R = f1) := HF4.out.trans (if_pos h1)
            clear h1 HF4 HBA
            go_wp2_with fail
            go_ret
            exact ⟨by rw [HR.out]; rfl, Below.refl _ _⟩

set_option maxHeartbeats 1600000 in
theorem specBuildFault (m : LBuild) (vp vo va vb vs vt : Value) (w : World) (h : BldR w vp vo va vb vs vt m) (hl : BldLe m 1048576) :
    Calls Try.prog 7 #[buildL m vp vo va vb vs vt] w fun e w' => e = .returned (.int .i64 (bdF m)) ∧ Below w.heap.size w w' := by
  have hB : Below w.heap.size w (w.alloc (.cells (lineB m vp vo va vb vs vt) 30)) := (Below.refl _ _).alloc (Nat.le_refl _) _
  have HX : Hid (Calls Try.prog 27 #[.pointer (some ⟨w.heap.size, 0, none⟩)] (w.alloc (.cells (lineB m vp vo va vb vs vt) 30)) fun e w' => e = .returned (.int .i64 (bdF m)) ∧ Below (w.alloc (.cells (lineB m vp vo va vb vs vt) 30)).heap.size (w.alloc (.cells (lineB m vp vo va vb vs vt) 30)) w') :=
    l12Fault_any w.heap.size m vp vo va vb vs vt _ (heap_alloc_new w _) (h.below hB) hl
  have HB := hid hB
  obtain ⟨⟨a1, k1, rfl, _, _⟩, ⟨a2, k2, rfl, _, _, _⟩, ⟨a3, k3, rfl, _, _, _⟩, ⟨a4, k4, rfl, _, _, _⟩, ⟨a5, k5, rfl, _, _, _⟩, a6, k6, rfl, _, _, _⟩ := h
  clear hB hl
  generalize bdF m = F at *
  go_enter Try.func7, Try.ntmps7
  go_wp2_with fail
  refine HX.out.mono ?_
  rintro e w2 ⟨rfl, hb⟩
  have HB2 := hid (HB.out.trans (hb.mono HB.out.size))
  clear hb HB HX
  go_wp2_with fail
  go_ret
  exact ⟨rfl, HB2.out⟩
end Go.Proofs.Ytpobajblngblfaa
