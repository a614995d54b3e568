/-
  impl's register run answers its machine.
-/
import Derived.Test.YtcikofhbfncgdaaStkRun
import Derived.Test.YtcikofhbfncgdaaStkMem
import Derived.Deep.Cut
import Derived.Deep.DrawnRows
import Derived.Test.YtcikofhbfncgdaaStpM
import Derived.Test.YtcikofhbfncgdaaRgI8
namespace Go.Proofs.Ytcikofhbfncgdaa
open Go.RowKit
set_option linter.unusedVariables false
attribute [local go_sem ↓] Go.wp_at_zero Go.wp_at_succ

abbrev machVs (m : SM) (sv cv : Value) : Value := .agg #[.int .i64 m.pc, sv, cv, .int .i64 m.sig, .int .i64 m.used, .int .i64 m.trap, .bool m.done]
set_option maxHeartbeats 800000 in
theorem sAll_any (a : Option Addr) (zs : List Int) (cap : Nat) (w : World) (hlen : zs.length ≤ 1048576) (hn : Nums w a zs) :
    Calls Try.prog 115 #[.slice a zs.length cap] w fun e w' => e = .returned (.bool (wordsB zs)) ∧ w' = w := by
  go_enter Try.func115, Try.ntmps115
  go_wp2
  go_loop [3] (fun i => ∃ k : Nat, k ≤ zs.length ∧ i = .int .i64 k ∧ ∀ j, j < k → 0 ≤ zs.getD j 0 ∧ zs.getD j 0 ≤ 65535) (fun i => zs.length - (intOf i).toNat)
  case atStart => exact ⟨0, Nat.zero_le _, rfl, fun j hj => by omega⟩
  case round =>
    obtain ⟨k, hk, rfl, ho⟩ := hrel
    have HO : Hid _ := ho
    clear ho
    by_cases hlt : k < zs.length
    · rcases hn with hn | ⟨b, off, rfl, hc⟩
      · subst hn; simp at hlt
      have hcell := hc k hlt
      clear hc
      obtain ⟨z, hz⟩ : ∃ z, z = zs.getD k 0 := ⟨_, rfl⟩
      rw [← hz] at hcell
      have HZ : Hid _ := hz
      clear hz
      by_cases h5 : 0 ≤ z ∧ z ≤ 65535
      · obtain ⟨h5, h6⟩ := h5
        go_wp2_with (go_at_call 82; refine (l1Word_yes _ _ h5 h6).mono ?_; rintro e w' ⟨rfl, rfl⟩)
        go_round
        case rel =>
          refine ⟨k + 1, by omega, by go_num, fun j hj => ?_⟩
          by_cases hjk : j = k
          · subst hjk; rw [← HZ.out]; exact ⟨h5, h6⟩
          · exact HO.out j (by omega)
        case measure => simp [intOf]; omega
      · have h6 : z < 0 ∨ 65535 < z := by omega
        have H6 : Hid _ := h6
        clear h6 h5
        go_wp2_with (go_at_call 82; refine (l1Word_no _ _ H6.out).mono ?_; rintro e w' ⟨rfl, rfl⟩)
        go_ret
        have hf := wordsB_bad k hlt (by rw [← HZ.out]; exact H6.out)
        exact ⟨by rw [hf]; rfl, rfl⟩
    · have hk2 : k = zs.length := by omega
      subst hk2
      go_wp2
      go_ret
      have hf := wordsB_ok HO.out
      exact ⟨by rw [hf]; rfl, rfl⟩

theorem RunS.cells {p : Nat} {w : World} {m : SM} {sv cv : Value} (h : w.heap[p]? = some (.cells (lineS m sv cv) 39 (0, 0))) :
    w.cell? ⟨p, 0, none⟩ = some (.int .i64 m.pc) ∧ w.cell? ⟨p, 1, none⟩ = some sv ∧ w.cell? ⟨p, 2, none⟩ = some cv ∧ w.cell? ⟨p, 3, none⟩ = some (.int .i64 m.sig) ∧ w.cell? ⟨p, 4, none⟩ = some (.int .i64 m.used) ∧ w.cell? ⟨p, 5, none⟩ = some (.int .i64 m.trap) ∧ w.cell? ⟨p, 6, none⟩ = some (.bool m.done) :=
  ⟨cell_of_row _ _ 0 _ _ _ h, cell_of_row _ _ 1 _ _ _ h, cell_of_row _ _ 2 _ _ _ h, cell_of_row _ _ 3 _ _ _ h, cell_of_row _ _ 4 _ _ _ h, cell_of_row _ _ 5 _ _ _ h, cell_of_row _ _ 6 _ _ _ h⟩

set_option maxHeartbeats 6400000 in
set_option maxRecDepth 100000 in
theorem l8Fault_any (p : Nat) (m : SM) (sv cv : Value) (w : World) (hp : w.heap[p]? = some (.cells (lineS m sv cv) 39 (0, 0))) (hs : RowV w sv m.stk) (hc : RowV w cv m.cells) (hl1 : m.stk.length ≤ 1048576) (hl2 : m.cells.length ≤ 1048576) :
    Calls Try.prog 83 #[.pointer (some ⟨p, 0, none⟩)] w fun e w' => e = .returned (.int .i64 (smF m)) ∧ w' = w := by
  obtain ⟨a1, k1, rfl, hn1, _⟩ := hs
  obtain ⟨a2, k2, rfl, hn2, _⟩ := hc
  obtain ⟨c0, c1, c2, c3, c4, c5, _⟩ := RunS.cells hp
  have HP : Hid (Calls Try.prog 82 #[.int .i64 m.pc] w fun e w' => e = .returned (.bool (inB m.pc 0 65535)) ∧ w' = w) := l1Word_any m.pc w
  have HG : Hid (Calls Try.prog 82 #[.int .i64 m.sig] w fun e w' => e = .returned (.bool (inB m.sig 0 65535)) ∧ w' = w) := l1Word_any m.sig w
  have H1 : Hid (Calls Try.prog 115 #[.slice a1 m.stk.length k1] w fun e w' => e = .returned (.bool (wordsB m.stk)) ∧ w' = w) := sAll_any a1 m.stk k1 w hl1 hn1
  have H2 : Hid (Calls Try.prog 115 #[.slice a2 m.cells.length k2] w fun e w' => e = .returned (.bool (wordsB m.cells)) ∧ w' = w) := sAll_any a2 m.cells k2 w hl2 hn2
  have HU : Hid (Calls Try.prog 71 #[.int .i64 m.used, .int .i64 0, .int .i64 1000000] w fun e w' => e = .returned (.bool (inB m.used 0 1000000)) ∧ w' = w) := l1In_any m.used 0 1000000 w
  have HT : Hid (Calls Try.prog 71 #[.int .i64 m.trap, .int .i64 0, .int .i64 10] w fun e w' => e = .returned (.bool (inB m.trap 0 10)) ∧ w' = w) := l1In_any m.trap 0 10 w
  have hF : Hid (smFit m = (inB m.pc 0 65535 && inB m.sig 0 65535 && wordsB m.stk && wordsB m.cells && inB m.used 0 1000000 && inB m.trap 0 10)) := rfl
  have HS : Hid (smF m = if smFit m then (if 40 < m.stk.length ∨ 80 < m.cells.length then 2 else 0) else 3) := rfl
  clear hn1 hn2 hp
  generalize inB m.pc 0 65535 = q1 at *
  generalize inB m.sig 0 65535 = q2 at *
  generalize wordsB m.stk = q3 at *
  generalize wordsB m.cells = q4 at *
  generalize inB m.used 0 1000000 = q5 at *
  generalize inB m.trap 0 10 = q6 at *
  go_enter Try.func83, Try.ntmps83
  go_upto_region 1 with fail
  go_cut [48] from 3 (fun x W1 => x = .bool (!(q1 && q2 && q3 && q4 && q5 && q6)) ∧ W1 = w)
  case first =>
    clear HS hF
    have hq : (q1 = false) ∨ (q1 = true ∧ q2 = false) ∨ (q1 = true ∧ q2 = true ∧ q3 = false) ∨ (q1 = true ∧ q2 = true ∧ q3 = true ∧ q4 = false) ∨ (q1 = true ∧ q2 = true ∧ q3 = true ∧ q4 = true ∧ q5 = false) ∨ (q1 = true ∧ q2 = true ∧ q3 = true ∧ q4 = true ∧ q5 = true ∧ q6 = false) ∨ (q1 = true ∧ q2 = true ∧ q3 = true ∧ q4 = true ∧ q5 = true ∧ q6 = true) := by
      cases q1 <;> cases q2 <;> cases q3 <;> cases q4 <;> cases q5 <;> cases q6 <;> simp
    rcases hq with rfl | ⟨rfl, rfl⟩ | ⟨rfl, rfl, rfl⟩ | ⟨rfl, rfl, rfl, rfl⟩ | ⟨rfl, rfl, rfl, rfl, rfl⟩ | ⟨rfl, rfl, rfl, rfl, rfl, rfl⟩ | ⟨rfl, rfl, rfl, rfl, rfl, rfl⟩
    all_goals
      go_wp2_with (first | (with_reducible show Calls _ _ #[.int .i64 m.pc] _ _; refine HP.out.mono ?_; rintro e w4 ⟨rfl, rfl⟩) | (with_reducible show Calls _ _ #[.int .i64 m.sig] _ _; refine HG.out.mono ?_; rintro e w4 ⟨rfl, rfl⟩) | (with_reducible show Calls _ _ #[.slice a1 _ k1] _ _; refine H1.out.mono ?_; rintro e w4 ⟨rfl, rfl⟩) | (with_reducible show Calls _ _ #[.slice a2 _ k2] _ _; refine H2.out.mono ?_; rintro e w4 ⟨rfl, rfl⟩) | (with_reducible show Calls _ _ #[_, _, .int .i64 1000000] _ _; refine HU.out.mono ?_; rintro e w4 ⟨rfl, rfl⟩) | (with_reducible show Calls _ _ #[_, _, .int .i64 10] _ _; refine HT.out.mono ?_; rintro e w4 ⟨rfl, rfl⟩))
      go_meet
      case rel => exact ⟨by simp, rfl⟩
  case rest =>
    obtain ⟨rfl, rfl⟩ := hcut
    clear HP HG H1 H2 HU HT
    cases hb : (q1 && q2 && q3 && q4 && q5 && q6)
    · have E : Hid (smF m = 3) := by unfold Hid; rw [HS.out, hF.out, hb]; rfl
      clear HS hF hb
      go_wp2_with fail
      go_ret
      exact ⟨by rw [E.out]; rfl, rfl⟩
    · have E : Hid (smF m = if 40 < m.stk.length ∨ 80 < m.cells.length then 2 else 0) := by unfold Hid; rw [HS.out, hF.out, hb]; rfl
      clear HS hF hb
      generalize m.stk.length = l1 at *
      generalize m.cells.length = l2 at *
      by_cases h1 : 40 < l1
      · go_wp2_with fail
        go_ret
        exact ⟨by rw [E.out, if_pos (.inl h1)]; rfl, rfl⟩
      · by_cases h2 : 80 < l2
        · go_wp2_with fail
          go_ret
          exact ⟨by rw [E.out, if_pos (.inr h2)]; rfl, rfl⟩
        · go_wp2_with fail
          go_ret
          exact ⟨by rw [E.out, if_neg (by omega)]; rfl, rfl⟩
end Go.Proofs.Ytcikofhbfncgdaa
namespace Go.Proofs.Ytcikofhbfncgdaa
open Go.RowKit
set_option linter.unusedVariables false

/-- a machine by value that a call made, in blocks from B on -/
def MachR (B : Nat) (w w' : World) (e : Ending) (m : SM) : Prop := ∃ sv cv, e = .returned (machVs m sv cv) ∧ Own w' B sv m.stk ∧ Own w' B cv m.cells ∧ (∀ g, sv.ownBlock = some g → cv.ownBlock ≠ some g) ∧ Below w.heap.size w w'
abbrev zeroLine : Array Value := #[.int .i64 0, .slice none 0 0, .slice none 0 0, .int .i64 0, .int .i64 0, .int .i64 0, .bool false]

/-- the result's block filled with a machine -/
theorem fill7 (r : Nat) (W : World) (m : SM) (sv cv : Value) : Sole1 r W (((((((W.setCell ⟨r, 0, none⟩ (.int .i64 m.pc)).setCell ⟨r, 1, none⟩ sv).setCell ⟨r, 2, none⟩ cv).setCell ⟨r, 3, none⟩ (.int .i64 m.sig)).setCell ⟨r, 4, none⟩ (.int .i64 m.used)).setCell ⟨r, 5, none⟩ (.int .i64 m.trap)).setCell ⟨r, 6, none⟩ (.bool m.done)) :=
  (((((((Sole1.refl r W).set 0 (.int .i64 m.pc)).set 1 sv).set 2 cv).set 3 (.int .i64 m.sig)).set 4 (.int .i64 m.used)).set 5 (.int .i64 m.trap)).set 6 (.bool m.done)
end Go.Proofs.Ytcikofhbfncgdaa
namespace Go.Proofs.Ytcikofhbfncgdaa
open Go.RowKit
set_option linter.unusedVariables false
attribute [local go_sem ↓] Go.wp_at_zero Go.wp_at_succ

theorem belS7 {w Z : World} (h : Below w.heap.size w Z) {a b c d e f g : Value} : Below w.heap.size w (((((((Z.setCell ⟨w.heap.size, 0, none⟩ a).setCell ⟨w.heap.size, 1, none⟩ b).setCell ⟨w.heap.size, 2, none⟩ c).setCell ⟨w.heap.size, 3, none⟩ d).setCell ⟨w.heap.size, 4, none⟩ e).setCell ⟨w.heap.size, 5, none⟩ f).setCell ⟨w.heap.size, 6, none⟩ g) :=
  ((((((h.setCell (Nat.le_refl _) _).setCell (Nat.le_refl _) _).setCell (Nat.le_refl _) _).setCell (Nat.le_refl _) _).setCell (Nat.le_refl _) _).setCell (Nat.le_refl _) _).setCell (Nat.le_refl _) _

set_option maxHeartbeats 6400000 in
set_option maxRecDepth 100000 in
theorem rmachine_any (B p : Nat) (m : SM) (cv : Value) (w : World) (h : RunRI B w p m cv) (hB : B ≤ w.heap.size) :
    Calls Try.prog 70 #[.pointer (some ⟨p, 0, none⟩)] w fun e w' => ∃ sv cv, e = .returned (machW m sv cv) ∧ Own w' B sv m.stk ∧ Own w' B cv m.cells ∧ (∀ g, sv.ownBlock = some g → cv.ownBlock ≠ some g) ∧ Below w.heap.size w w' := by
  have hpw : p < w.heap.size := (Array.getElem?_eq_some_iff.1 h.row).1
  obtain ⟨a2, k2, rfl⟩ := own_shape h.cs
  have hrow := h.row
  have HCELL : Hid (∀ Z, Below w.heap.size w Z → Z.cell? ⟨p, 0, none⟩ = some (.slice a2 m.cells.length k2) ∧ Z.cell? ⟨p, 1, none⟩ = some (.int .i64 m.pc) ∧ Z.cell? ⟨p, 2, none⟩ = some (.int .i64 m.sig) ∧ Z.cell? ⟨p, 3, none⟩ = some (.int .i64 m.used) ∧ Z.cell? ⟨p, 4, none⟩ = some (.int .i64 m.trap) ∧ Z.cell? ⟨p, 5, none⟩ = some (.bool m.done)) := fun Z hz => by
    have r := blk8 hrow hz
    exact ⟨cell_of_row _ _ 0 _ _ _ r, cell_of_row _ _ 1 _ _ _ r, cell_of_row _ _ 2 _ _ _ r, cell_of_row _ _ 3 _ _ _ r, cell_of_row _ _ 4 _ _ _ r, cell_of_row _ _ 5 _ _ _ r⟩
  have HCL : Hid (∀ Z, Below w.heap.size w Z → Calls Try.prog 80 #[.slice (some ⟨p, 6, none⟩) 24 24] Z fun e w' => ∃ a' c', e = .returned (.slice a' 24 c') ∧ Own w' Z.heap.size (.slice a' 24 c') m.stk ∧ Below Z.heap.size Z w') := fun Z hz => by
    have hl := h.rl
    have := clone_any (.slice (some ⟨p, 6, none⟩) 24 24) m.stk Z ⟨_, _, by rw [hl], .inr ⟨p, 6, rfl, fun i hi => by
      have r := blk8 hrow hz
      rw [cell_of_row _ _ _ _ _ _ r]
      simp only [List.getElem?_toArray]
      rw [show 6 + i = i + 6 from by omega]
      show (m.stk.map (Value.int .i64))[i]? = _
      rw [List.getElem?_map, List.getElem?_eq_getElem hi, List.getD_eq_getElem?_getD, List.getElem?_eq_getElem hi]; rfl⟩, fun e => by cases e⟩ (by omega)
    refine this.mono fun e w' ⟨v', h1, h2, h3⟩ => ?_
    obtain ⟨a', c', rfl⟩ := own_shape h2
    rw [hl] at h1 h2
    exact ⟨a', c', h1, h2, h3⟩
  have HCS : Hid (∀ Z, Below w.heap.size w Z → Own Z B (.slice a2 m.cells.length k2) m.cells) := fun Z hz => own_kept h.cs hz
  have HLT : Hid (∀ g, (Value.slice a2 m.cells.length k2).ownBlock = some g → g < w.heap.size) := fun g e => (h.cs.lt _ e).2
  have HBB := hid hB
  have hS0 := (Below.refl w.heap.size w).alloc (Nat.le_refl _) (.cells zeroLine 28)
  have a3 := heap_alloc_new w (.cells zeroLine 28)
  have hu24 := Try.underlying94
  clear hrow h hB
  generalize m.cells.length = l2 at *
  go_enter Try.func70, Try.ntmps70
  go_upto_region 1 with fail
  generalize w.alloc (.cells zeroLine 28) = W at *
  have HA3 := hid a3
  have hWl : w.heap.size < W.heap.size := (Array.getElem?_eq_some_iff.1 a3).1
  clear a3
  obtain ⟨c0, c1, c2, c3, c4, c5⟩ := HCELL.out _ hS0
  go_region_held3 (fun Z => Below w.heap.size w Z ∧ Z.cell? ⟨p, 0, none⟩ = some (.slice a2 l2 k2) ∧ Z.cell? ⟨p, 1, none⟩ = some (.int .i64 m.pc) ∧ Z.cell? ⟨p, 2, none⟩ = some (.int .i64 m.sig) ∧ Z.cell? ⟨p, 3, none⟩ = some (.int .i64 m.used) ∧ Z.cell? ⟨p, 4, none⟩ = some (.int .i64 m.trap) ∧ Z.cell? ⟨p, 5, none⟩ = some (.bool m.done)) (first | (with_reducible exact ⟨by assumption, HCELL.out _ (by assumption)⟩) | (with_reducible exact ⟨hS0.drew, HCELL.out _ hS0.drew⟩) | (with_reducible exact ⟨belS7 hD3, HCELL.out _ (belS7 hD3)⟩) | fail) (first | (go_at_call 80; refine (HCL.out _ hS0.drew).mono ?_; rintro e wa ⟨aq, cq, rfl, hq, hb⟩; have hD3 : Below w.heap.size w wa := Below.trans hS0.drew (Below.mono hb hS0.size); have hz := blk8 (show W.drew.heap[w.heap.size]? = _ from HA3.out) hb; obtain ⟨e0, e1, e2, e3, e4, e5, e6⟩ := cl7 hz; obtain ⟨f0, f1, f2, f3, f4, f5, f6⟩ := fl7 hz; have HQ := hid hq; clear hq) | fail)
  have HE : Hid _ := belS7 hD3 (a := .int .i64 m.pc) (b := .slice aq 24 cq) (c := .slice a2 l2 k2) (d := .int .i64 m.sig) (e := .int .i64 m.used) (f := .int .i64 m.trap) (g := .bool m.done)
  have hwl : w.heap.size < W.drew.heap.size := hWl
  have HO : Hid _ := ownsRow_setCell_below (ownsRow_setCell_below (ownsRow_setCell_below (ownsRow_setCell_below (ownsRow_setCell_below (ownsRow_setCell_below (ownsRow_setCell_below HQ.out (a := ⟨w.heap.size, 0, none⟩) hwl (.int .i64 m.pc)) (a := ⟨w.heap.size, 1, none⟩) hwl (.slice aq 24 cq)) (a := ⟨w.heap.size, 2, none⟩) hwl (.slice a2 l2 k2)) (a := ⟨w.heap.size, 3, none⟩) hwl (.int .i64 m.sig)) (a := ⟨w.heap.size, 4, none⟩) hwl (.int .i64 m.used)) (a := ⟨w.heap.size, 5, none⟩) hwl (.int .i64 m.trap)) (a := ⟨w.heap.size, 6, none⟩) hwl (.bool m.done)
  have HDJ : Hid (∀ g, (Value.slice aq 24 cq).ownBlock = some g → (Value.slice a2 l2 k2).ownBlock ≠ some g) := fun g e1 e2 => by
    have h1 := (HQ.out.lt _ e1).1
    have h2 := HLT.out _ e2
    omega
  have HBW : Hid (B ≤ W.drew.heap.size) := by have := HBB.out; show B ≤ _; omega
  clear HCELL HCL hS0 HA3 hWl hwl HQ hD3
  go_wp2_with fail
  refine bodyPost_ret (v := machW m (.slice aq 24 cq) (.slice a2 l2 k2)) (by simp [results, Try.results70, go_sem, e0, e1, e2, e3, e4, e5, e6]) rfl ⟨_, _, rfl, own_mono HO.out HBW.out, HCS.out _ HE.out, HDJ.out, HE.out⟩
end Go.Proofs.Ytcikofhbfncgdaa
