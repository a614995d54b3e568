/-
  laws.markTokenS writes k, k+1, .. into tokens of its caller's own; laws.heldTokenS finds them there.
-/
import Derived.Test.YtbgfabkneifccaaDoorMarkT
import Derived.Laws.Rows
import Derived.Deep.QuietTactic
namespace Go.Proofs.YtbgfabkneifccaaDoor
open Go.RowKit
set_option linter.unusedVariables false
attribute [local go_sem] bs_size bs_get bs_extract bs_append bs_eq bs_toList

def markCell (k i : Nat) : Value := if i % 4 = 1 then .string (bs (mt (k + i))) else .int .i64 ((k + i : Nat) : Int)
theorem markText_succ (m : Nat) (w : World) (hm : m ≤ 50000000) : Calls Tryd.prog 57 #[.int .i64 ((m : Int) + 1)] w fun e w' => e = .returned (.string (bs (mt (m + 1)))) ∧ Below w.heap.size w w' := by
  have h := markText_any (m + 1) w (by omega)
  have e : ((m + 1 : Nat) : Int) = (m : Int) + 1 := by omega
  rw [e] at h
  exact h
/-- the row of tokens lies whole in block g; its first cells are marks -/
def Marked (w : World) (g : Nat) (cap k c : Nat) : Prop := ∃ cur : Array Value, w.heap[g]? = some (.cells cur 33 (0, 0)) ∧ cur.size = cap * 4 ∧ ∀ i, i < c → cur[i]? = some (markCell k i)
theorem Marked.below {w w' : World} {g cap k c : Nat} (h : Marked w g cap k c) (hb : Below w.heap.size w w') : Marked w' g cap k c := by
  obtain ⟨cur, h1, h2, h3⟩ := h
  exact ⟨cur, (hb.block g (Array.getElem?_eq_some_iff.1 h1).1).trans h1, h2, h3⟩
theorem Marked.cell {w : World} {g cap k c i : Nat} (h : Marked w g cap k c) (hi : i < cap * 4) : (∃ y, w.cell? ⟨g, i, none⟩ = some y) ∧ w.frozen? ⟨g, i, none⟩ = false := by
  obtain ⟨cur, h1, h2, h3⟩ := h
  refine ⟨⟨cur[i]'(by omega), ?_⟩, frozen_of_row _ _ _ _ _ h1⟩
  rw [cell_of_row _ _ _ _ _ _ h1]
  exact Array.getElem?_eq_getElem (by omega)
theorem Marked.read {w : World} {g cap k c i : Nat} (h : Marked w g cap k c) (hi : i < c) : w.cell? ⟨g, i, none⟩ = some (markCell k i) := by
  obtain ⟨cur, h1, h2, h3⟩ := h
  rw [cell_of_row _ _ _ _ _ _ h1]
  exact h3 i hi
theorem Marked.store {w : World} {g cap k c : Nat} (h : Marked w g cap k c) (hc : c < cap * 4) : Marked (w.setCell ⟨g, c, none⟩ (markCell k c)) g cap k (c + 1) := by
  obtain ⟨cur, h1, h2, h3⟩ := h
  refine ⟨cur.setIfInBounds c (markCell k c), heap_setCell_same w g c _ _ _ h1, by simpa using h2, fun i hi => ?_⟩
  by_cases e : c = i
  · subst e; rw [Array.getElem?_setIfInBounds_self_of_lt (by omega)]
  · rw [Array.getElem?_setIfInBounds_ne e]; exact h3 i (by omega)

set_option maxHeartbeats 3200000 in
theorem markTok_any (g n cap B k : Nat) (w : World) (hn : n ≤ cap) (hc : n ≤ 1048577) (hk : k ≤ 1000000) (hB : B ≤ g) (hg : Marked w g cap k 0) :
    Calls Tryd.prog 37 #[.slice (some ⟨g, 0, none⟩) n cap, .int .i64 k] w fun e w' => e = .returned (.int .i64 ((k + 4 * n : Nat) : Int)) ∧ Marked w' g cap k (4 * n) ∧ Below B w w' ∧ (∀ g', g' < w.heap.size → g' ≠ g → w'.heap[g']? = w.heap[g']?) := by
  have hgw : g < w.heap.size := by obtain ⟨cur, h1, _⟩ := hg; exact (Array.getElem?_eq_some_iff.1 h1).1
  have HG : Hid (Marked w g cap k 0) := hg
  clear hg
  go_enter Tryd.func37, Tryd.ntmps37
  go_wp2
  go_loopw [1, 5] (fun x i wr => ∃ j : Nat, j ≤ n ∧ i = .int .i64 j ∧ x = .int .i64 ((k + 4 * j : Nat) : Int) ∧ Marked wr g cap k (4 * j) ∧ Below B w wr ∧ (∀ g', g' < w.heap.size → g' ≠ g → wr.heap[g']? = w.heap[g']?)) (fun _ i _ => n - (intOf i).toNat)
  case atStart => exact ⟨0, by omega, rfl, rfl, HG.out, Below.refl _ _, fun _ _ _ => rfl⟩
  case round =>
    clear HG
    obtain ⟨j, hj, rfl, rfl, hM, hb, ho⟩ := hrel
    by_cases hlt : j < n
    · obtain ⟨⟨y0, c0⟩, f0⟩ := hM.cell (i := j * 4) (by omega)
      have hgr : g < wr.heap.size := World.block_lt_of_cell? _ _ c0
      obtain ⟨M, hMM⟩ : ∃ M, M = k + 4 * j := ⟨_, rfl⟩
      have v0 : markCell k (j * 4) = .int .i64 (M : Int) := by unfold markCell; rw [if_neg (by omega)]; congr 2; omega
      have v1 : markCell k (j * 4 + 1) = .string (bs (mt (M + 1))) := by unfold markCell; rw [if_pos (by omega)]; congr 3; omega
      have v2 : markCell k (j * 4 + 2) = .int .i64 ((M : Int) + 1 + 1) := by unfold markCell; rw [if_neg (by omega)]; congr 1; omega
      have v3 : markCell k (j * 4 + 3) = .int .i64 ((M : Int) + 1 + 1 + 1) := by unfold markCell; rw [if_neg (by omega)]; congr 1; omega
      have hM1 : Marked (wr.setCell ⟨g, j * 4, none⟩ (.int .i64 (M : Int))) g cap k (j * 4 + 1) := by
        have h := Marked.store (c := j * 4) (show Marked wr g cap k (j * 4) by rwa [Nat.mul_comm] at hM) (by omega)
        rwa [v0] at h
      have hO1 : ∀ g', g' < w.heap.size → g' ≠ g → (wr.setCell ⟨g, j * 4, none⟩ (.int .i64 (M : Int))).heap[g']? = w.heap[g']? := fun g' h1 h2 => by rw [Below.heap_setCell _ _ _ _ (by simpa using h2)]; exact ho g' h1 h2
      have hB1 : Below B w (wr.setCell ⟨g, j * 4, none⟩ (.int .i64 (M : Int))) := hb.setCell (by simpa using hB) _
      have hT : Hid (∀ w, Calls Tryd.prog 57 #[.int .i64 ((M : Int) + 1)] w fun e w' => e = .returned (.string (bs (mt (M + 1)))) ∧ Below w.heap.size w w') := fun w => markText_succ M w (by omega)
      have HM1 : Hid (Marked (wr.setCell ⟨g, j * 4, none⟩ (.int .i64 (M : Int))) g cap k (j * 4 + 1)) := hM1
      have HO1 : Hid (∀ g', g' < w.heap.size → g' ≠ g → (wr.setCell ⟨g, j * 4, none⟩ (.int .i64 (M : Int))).heap[g']? = w.heap[g']?) := hO1
      have HB1 : Hid (Below B w (wr.setCell ⟨g, j * 4, none⟩ (.int .i64 (M : Int)))) := hB1
      have HV1 : Hid (markCell k (j * 4 + 1) = .string (bs (mt (M + 1)))) := v1
      have HV2 : Hid (markCell k (j * 4 + 2) = .int .i64 ((M : Int) + 1 + 1)) := v2
      have HV3 : Hid (markCell k (j * 4 + 3) = .int .i64 ((M : Int) + 1 + 1 + 1)) := v3
      have HMM : Hid (M = k + 4 * j) := hMM
      have hMb : (M : Int) ≤ 100000000 := by omega
      rw [← hMM]
      clear hM hb ho v0 v1 v2 v3 hM1 hO1 hB1 hMM
      go_wp2_with fail
      refine (hT.out _).mono ?_
      rintro e w2 ⟨rfl, hb⟩
      have hM2 := HM1.out.below hb
      obtain ⟨⟨y1, c1⟩, f1⟩ := hM2.cell (i := j * 4 + 1) (by omega)
      obtain ⟨⟨y2, c2⟩, f2⟩ := hM2.cell (i := j * 4 + 2) (by omega)
      obtain ⟨⟨y3, c3⟩, f3⟩ := hM2.cell (i := j * 4 + 3) (by omega)
      have e1 := hM2.store (by omega)
      rw [HV1.out] at e1
      have e2 := e1.store (by omega)
      rw [HV2.out] at e2
      have e3 := e2.store (by omega)
      rw [HV3.out] at e3
      have hB2 : Below B w w2 := HB1.out.trans (hb.mono (by simp; omega))
      have hO2 : ∀ g', g' < w.heap.size → g' ≠ g → w2.heap[g']? = w.heap[g']? := fun g' h1 h2 => (hb.block g' (by have := HB1.out.size; omega)).trans (HO1.out g' h1 h2)
      have E3 : Hid (Marked (((w2.setCell ⟨g, j * 4 + 1, none⟩ (.string (bs (mt (M + 1))))).setCell ⟨g, j * 4 + 2, none⟩ (.int .i64 ((M : Int) + 1 + 1))).setCell ⟨g, j * 4 + 3, none⟩ (.int .i64 ((M : Int) + 1 + 1 + 1))) g cap k (j * 4 + 1 + 1 + 1 + 1)) := e3
      have O3 : Hid (∀ g', g' < w.heap.size → g' ≠ g → (((w2.setCell ⟨g, j * 4 + 1, none⟩ (.string (bs (mt (M + 1))))).setCell ⟨g, j * 4 + 2, none⟩ (.int .i64 ((M : Int) + 1 + 1))).setCell ⟨g, j * 4 + 3, none⟩ (.int .i64 ((M : Int) + 1 + 1 + 1))).heap[g']? = w.heap[g']?) := fun g' h1 h2 => by
        rw [Below.heap_setCell _ _ _ _ (by simpa using h2), Below.heap_setCell _ _ _ _ (by simpa using h2), Below.heap_setCell _ _ _ _ (by simpa using h2)]; exact hO2 g' h1 h2
      have B3 : Hid (Below B w (((w2.setCell ⟨g, j * 4 + 1, none⟩ (.string (bs (mt (M + 1))))).setCell ⟨g, j * 4 + 2, none⟩ (.int .i64 ((M : Int) + 1 + 1))).setCell ⟨g, j * 4 + 3, none⟩ (.int .i64 ((M : Int) + 1 + 1 + 1)))) := ((hB2.setCell (by simpa using hB) _).setCell (by simpa using hB) _).setCell (by simpa using hB) _
      clear hM2 e1 e2 e3 hB2 hO2 hb
      go_wp2
      go_roundw
      case rel => exact ⟨j + 1, by omega, by go_num, by have := HMM.out; subst this; go_num, by have h := E3.out; rwa [show j * 4 + 1 + 1 + 1 + 1 = 4 * (j + 1) from by omega] at h, B3.out, O3.out⟩
      case measure => simp [intOf]; omega
    · have hje : j = n := by omega
      subst hje
      have HM : Hid (Marked wr g cap k (4 * j)) := hM
      have HO : Hid (∀ g', g' < w.heap.size → g' ≠ g → wr.heap[g']? = w.heap[g']?) := ho
      clear hM ho
      go_wp2
      go_ret
      exact ⟨rfl, HM.out, hb, HO.out⟩

set_option maxHeartbeats 3200000 in
theorem heldTok_any (g n cap k : Nat) (w : World) (hn : n ≤ cap) (hc : n ≤ 1048577) (hk : k ≤ 1000000) (hg : Marked w g cap k (4 * n)) :
    Calls Tryd.prog 38 #[.slice (some ⟨g, 0, none⟩) n cap, .int .i64 k] w fun e w' => e = .returned (.int .i64 ((k + 4 * n : Nat) : Int)) ∧ Below w.heap.size w w' := by
  have hgw : g < w.heap.size := by obtain ⟨cur, h1, _⟩ := hg; exact (Array.getElem?_eq_some_iff.1 h1).1
  have HG : Hid (Marked w g cap k (4 * n)) := hg
  clear hg
  go_enter Tryd.func38, Tryd.ntmps38
  go_wp2
  go_loopw [1, 5] (fun x i wr => ∃ j : Nat, j ≤ n ∧ i = .int .i64 j ∧ x = .int .i64 ((k + 4 * j : Nat) : Int) ∧ Below w.heap.size w wr) (fun _ i _ => n - (intOf i).toNat)
  case atStart => exact ⟨0, by omega, rfl, rfl, Below.refl _ _⟩
  case round =>
    obtain ⟨j, hj, rfl, rfl, hB⟩ := hrel
    by_cases hlt : j < n
    · have hcell : ∀ i, i < 4 * n → wr.cell? ⟨g, i, none⟩ = some (markCell k i) := fun i hi => (hB.cell (p := ⟨g, i, none⟩) hgw).trans (HG.out.read hi)
      obtain ⟨M, hMM⟩ : ∃ M, M = k + 4 * j := ⟨_, rfl⟩
      have v0 : markCell k (j * 4) = .int .i64 (M : Int) := by unfold markCell; rw [if_neg (by omega)]; congr 2; omega
      have v1 : markCell k (j * 4 + 1) = .string (bs (mt (M + 1))) := by unfold markCell; rw [if_pos (by omega)]; congr 3; omega
      have v2 : markCell k (j * 4 + 2) = .int .i64 ((M : Int) + 1 + 1) := by unfold markCell; rw [if_neg (by omega)]; congr 1; omega
      have v3 : markCell k (j * 4 + 3) = .int .i64 ((M : Int) + 1 + 1 + 1) := by unfold markCell; rw [if_neg (by omega)]; congr 1; omega
      have c0 := hcell (j * 4) (by omega)
      have c1 := hcell (j * 4 + 1) (by omega)
      have c2 := hcell (j * 4 + 2) (by omega)
      have c3 := hcell (j * 4 + 3) (by omega)
      rw [v0] at c0
      rw [v1] at c1
      rw [v2] at c2
      rw [v3] at c3
      have hT : Hid (∀ w, Calls Tryd.prog 57 #[.int .i64 ((M : Int) + 1)] w fun e w' => e = .returned (.string (bs (mt (M + 1)))) ∧ Below w.heap.size w w') := fun w => markText_succ M w (by omega)
      have HMM : Hid (M = k + 4 * j) := hMM
      have hMb : (M : Int) ≤ 100000000 := by omega
      have hk0 : (0 : Int) ≤ (j : Int) := by omega
      have hk1 : (j : Int) < (n : Int) := by omega
      have hgr : g < wr.heap.size := Nat.lt_of_lt_of_le hgw hB.size
      rw [← hMM]
      clear hcell v0 v1 v2 v3 hMM
      go_wp2_with fail
      go_region_held3 (fun W => W.cell? ⟨g, j * 4 + 1, none⟩ = some (.string (bs (mt (M + 1)))) ∧ W.cell? ⟨g, j * 4 + 2, none⟩ = some (.int .i64 ((M : Int) + 1 + 1)) ∧ W.cell? ⟨g, j * 4 + 3, none⟩ = some (.int .i64 ((M : Int) + 1 + 1 + 1))) (go_keep) (first | (go_at_call 57; refine (hT.out _).mono ?_; rintro e w2 ⟨rfl, hb⟩; have hD : Below wr.heap.size wr w2 := ((Below.refl wr.heap.size wr).drew).trans (Below.mono hb (Nat.le_refl _)); have d1 := (hD.cell (p := ⟨g, j * 4 + 1, none⟩) hgr).trans c1; have d2 := (hD.cell (p := ⟨g, j * 4 + 2, none⟩) hgr).trans c2; have d3 := (hD.cell (p := ⟨g, j * 4 + 3, none⟩) hgr).trans c3; have hB2 := hB.trans (hD.mono hB.size); clear hb hD))
      go_wp2
      go_roundw
      case rel => exact ⟨j + 1, by omega, by go_num, by have := HMM.out; subst this; go_num, by assumption⟩
      case measure => simp [intOf]; omega
    · have hje : j = n := by omega
      subst hje
      go_wp2
      go_ret
      exact ⟨rfl, hB⟩
end Go.Proofs.YtbgfabkneifccaaDoor
