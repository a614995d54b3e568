/-
  impl's progress, which both machines embed: goesOn, inBounds, count; stackProgress.
-/
import Derived.Test.YtcikofhbfncgdaaStkMem
import Derived.Deep.RegionHeld3
import Derived.BigQuiet
import Derived.Test.YtcikofhbfncgdaaStkRun
import Derived.Deep.Cut
namespace Go.Proofs.Ytcikofhbfncgdaa
open Go.RowKit
set_option linter.unusedVariables false

theorem RunI.cells {B p : Nat} {w : World} {m : SM} {sv cv : Value} (h : w.heap[p]? = some (.cells (lineI m sv cv) 112 (0, 0))) :
    w.cell? ⟨p, 0, none⟩ = some sv ∧ w.cell? ⟨p, 1, none⟩ = some cv ∧ w.cell? ⟨p, 2, none⟩ = some (.int .i64 m.pc) ∧ w.cell? ⟨p, 3, none⟩ = some (.int .i64 m.sig) ∧ w.cell? ⟨p, 4, none⟩ = some (.int .i64 m.used) ∧ w.cell? ⟨p, 5, none⟩ = some (.int .i64 m.trap) ∧ w.cell? ⟨p, 6, none⟩ = some (.bool m.done) :=
  ⟨cell_of_row _ _ 0 _ _ _ h, cell_of_row _ _ 1 _ _ _ h, cell_of_row _ _ 2 _ _ _ h, cell_of_row _ _ 3 _ _ _ h, cell_of_row _ _ 4 _ _ _ h, cell_of_row _ _ 5 _ _ _ h, cell_of_row _ _ 6 _ _ _ h⟩

set_option maxHeartbeats 1600000 in
theorem top_any (B p : Nat) (m : SM) (j : Nat) (w : World) (h : RunI B w p m) (hj : j < m.stk.length) (hl : m.stk.length ≤ 40) :
    Calls Try.prog 141 #[.pointer (some ⟨p, 0, none⟩), .int .i64 j] w fun e w' => e = .returned (.int .i64 (tp m j)) ∧ Below w.heap.size w w' := by
  obtain ⟨sv, cv, hb, hm⟩ := h
  obtain ⟨a, c, rfl⟩ := own_shape hm.ss
  have hn := (nums_of_own hm.ss).2
  rcases hn with hn | ⟨b, off, rfl, hcc⟩
  · rw [hn] at hj; simp at hj
  have hcell := hcc (m.stk.length - 1 - j) (by omega)
  have hT : Hid (tp m j = m.stk.getD (m.stk.length - 1 - j) 0) := rfl
  have c0 := (RunI.cells (B := B) hb).1
  rw [← hT.out] at hcell
  generalize tp m j = t at *
  clear hT hcc hm hb
  generalize m.stk.length = n at *
  obtain ⟨k, hk⟩ : ∃ k, k = n - 1 - j := ⟨_, rfl⟩
  rw [← hk] at hcell
  have e1 : IntKind.i64.wrap ((n : Int) - 1) = (n : Int) - 1 := IntWalk.i64_in _ ⟨by omega, by omega⟩
  have e2 : IntKind.i64.wrap ((n : Int) - 1 - (j : Int)) = (k : Int) := by rw [IntWalk.i64_in _ ⟨by omega, by omega⟩]; omega
  have q0 : (0 : Int) ≤ (k : Int) := by omega
  have q1 : (k : Int) < (n : Int) := by omega
  clear hk hj hl
  go_enter Try.func141, Try.ntmps141
  go_wp2_with fail
  go_region_held3 (fun Z => Z.cell? ⟨p, 0, none⟩ = some (.slice (some ⟨b, off, none⟩) n c) ∧ Z.cell? ⟨b, off + k, none⟩ = some (.int .i64 t)) (go_keep) (fail)
  go_wp2_with fail
  go_ret
  exact ⟨rfl, by go_grown⟩

theorem RunI.lt {B p : Nat} {w : World} {m : SM} (h : RunI B w p m) : B ≤ p ∧ p < w.heap.size := by
  obtain ⟨sv, cv, hb, hm⟩ := h
  exact ⟨hm.pB, (Array.getElem?_eq_some_iff.1 hb).1⟩
/-- the Stack is cut by its top -/
theorem RunI.cut1 {B p n c : Nat} {w w' : World} {a : Option Addr} {m : SM} {cv : Value} (hb : w.heap[p]? = some (.cells (lineI m (.slice a n c) cv) 112 (0, 0))) (hm : MemO B w p (.slice a n c) cv m) (h0 : 0 < n) (hw : w'.heap = w.heap) : RunI B (w'.setCell ⟨p, 0, none⟩ (.slice a (n - 1) c)) p (pop m) := by
  have hn := own_len hm.ss
  subst hn
  have hlt := (Array.getElem?_eq_some_iff.1 hb).1
  have hob : (Value.slice a (m.stk.length - 1) c).ownBlock = (Value.slice a m.stk.length c).ownBlock := by cases a <;> rfl
  refine ⟨_, cv, ?_, MemO.stk (m' := pop m) hm (w' := w') ?_ (fun g _ _ => by rw [hw]) (.inl hob) hlt rfl _ _⟩
  · have := heap_setCell_same w' p 0 _ _ (.slice a (m.stk.length - 1) c) (by rw [hw]; exact hb)
    exact this
  · exact own_other (own_cut hm.ss h0) (fun g _ => by rw [hw])

set_option maxHeartbeats 1600000 in
theorem take_any (B p : Nat) (m : SM) (w : World) (h : RunI B w p m) (h0 : 0 < m.stk.length) (hl : m.stk.length ≤ 40) :
    Calls Try.prog 144 #[.pointer (some ⟨p, 0, none⟩)] w fun e w' => e = .returned (.int .i64 (tp m 0)) ∧ RunI B w' p (pop m) ∧ Below B w w' ∧ ∀ g, g < w.heap.size → g ≠ p → w'.heap[g]? = w.heap[g]? := by
  have HT : Hid (Calls Try.prog 141 #[.pointer (some ⟨p, 0, none⟩), .int .i64 0] w fun e w' => e = .returned (.int .i64 (tp m 0)) ∧ Below w.heap.size w w') := top_any B p m 0 w h h0 hl
  obtain ⟨hpB, hpw⟩ := h.lt
  have HPB : Hid (B ≤ p ∧ p < w.heap.size) := ⟨hpB, hpw⟩
  have HR : Hid (RunI B w p m) := h
  clear hpB hpw h
  go_enter Try.func144, Try.ntmps144
  go_wp2_with fail
  refine HT.out.mono ?_
  rintro e w1 ⟨rfl, hb1⟩
  obtain ⟨sv, cv, hb, hm⟩ := HR.out.kept hb1
  have HB1 : Hid (Below B w w1) := hb1.mono (by have := HPB.out; omega)
  have HB0 : Hid (∀ g, g < w.heap.size → w1.heap[g]? = w.heap[g]?) := fun g hg => hb1.block g hg
  have hpw1 : p < w1.heap.size := (Array.getElem?_eq_some_iff.1 hb).1
  obtain ⟨a, c, rfl⟩ := own_shape hm.ss
  have c0 := (RunI.cells (B := B) hb).1
  have f0 := frozen_of_row _ _ 0 _ _ hb
  have HX : Hid (∀ w' : World, w'.heap = w1.heap → RunI B (w'.setCell ⟨p, 0, none⟩ (.slice a (m.stk.length - 1) c)) p (pop m)) := fun w' hw => RunI.cut1 hb hm h0 hw
  have hcap : m.stk.length ≤ c := by
    rcases hm.ss.2 with ⟨h1, h2⟩ | ⟨g, c2, cur, h1, _, _, h3, _⟩
    · omega
    · simp at h1; omega
  have HC : Hid (c ≤ maxLen) := by
    rcases hm.ss.2 with ⟨h1, h2⟩ | ⟨g, c2, cur, h1, _, _, h3, h4, _⟩
    · omega
    · simp at h1; show c ≤ maxLen; omega
  clear hb hm HR hb1 HT
  generalize m.stk.length = n at *
  obtain ⟨k, hk⟩ : ∃ k, k = n - 1 := ⟨_, rfl⟩
  rw [← hk] at HX
  have e1 : IntKind.i64.wrap ((n : Int) - 1) = (k : Int) := by rw [IntWalk.i64_in _ ⟨by omega, by omega⟩]; omega
  have q0 : (0 : Int) ≤ (k : Int) := by omega
  have q1 : (k : Int) ≤ (c : Int) := by omega
  clear hk h0 hl
  go_wp2_with fail
  go_region
  go_wp2_with fail
  go_ret
  exact ⟨rfl, (HX.out w1 rfl).heap rfl, (HB1.out.setCell (by have := HPB.out; simp; omega) _).drew, fun g hg hne => (heap_setCell_other _ _ _ _ hne).trans (HB0.out g hg)⟩

set_option maxHeartbeats 1600000 in
theorem put_any (B p : Nat) (m : SM) (x : Int) (w : World) (h : RunI B w p m) (hl : m.stk.length ≤ 40) :
    Calls Try.prog 143 #[.pointer (some ⟨p, 0, none⟩), .int .i64 x] w fun e w' => e = .returned (.tuple #[]) ∧ RunI B w' p (psh m x) ∧ Below B w w' := by
  obtain ⟨hpB, hpw⟩ := h.lt
  obtain ⟨sv, cv, hb, hm⟩ := h
  have HPB : Hid (B ≤ p ∧ p < w.heap.size) := ⟨hpB, hpw⟩
  have hA := (Below.refl w.heap.size w).alloc (Nat.le_refl _) (.cells #[.int .i64 x] 2)
  have hZ : (w.alloc (.cells #[.int .i64 x] 2)).heap.size = w.heap.size + 1 := by simp
  have hO := own_kept hm.ss hA
  have hN : Nums (w.alloc (.cells #[.int .i64 x] 2)) (some ⟨w.heap.size, 0, none⟩) [x] := .inr ⟨_, 0, rfl, fun i hi => by
    have : i = 0 := by simpa using hi
    subst this
    exact cell_of_row _ _ 0 _ _ _ (heap_alloc_new w _)⟩
  have c0 := (RunI.cells (B := B) hb).1
  have f0 := frozen_of_row _ _ 0 _ _ hb
  have HB0 : Hid (w.heap[p]? = some (.cells (lineI m sv cv) 112 (0, 0))) := hb
  have HM : Hid (MemO B w p sv cv m) := hm
  have HA : Hid (Below w.heap.size w (w.alloc (.cells #[.int .i64 x] 2))) := hA
  have HO : Hid (Own (w.alloc (.cells #[.int .i64 x] 2)) B sv m.stk) := hO
  have HN : Hid (Nums (w.alloc (.cells #[.int .i64 x] 2)) (some ⟨w.heap.size, 0, none⟩) [x]) := hN
  clear hb hm hA hO hN hpB hpw hZ
  go_enter Try.func143, Try.ntmps143
  go_wp2_with (at_builtin; refine wpList_append_nums rfl _ _ rfl B _ m.stk [x] (by rfl) HO.out (some ⟨w.heap.size, 0, none⟩) 1 (by rfl) HN.out (by simp) (by simp) (by simp; omega) (by have := HPB.out; simp; omega) ?_)
  intro v' w2 ho hg hv
  obtain ⟨a2, c2, rfl⟩ := own_shape ho.out
  have hW : Hid (∀ i, (w2.setCell ⟨p, i, none⟩ (.slice a2 (m.stk ++ [x]).length c2)).heap[p]? = some (.cells ((lineI m sv cv).setIfInBounds i (.slice a2 (m.stk ++ [x]).length c2)) 112 (0, 0)) ∧ MemO B (w2.setCell ⟨p, i, none⟩ (.slice a2 (m.stk ++ [x]).length c2)) p (.slice a2 (m.stk ++ [x]).length c2) cv (psh m x)) := fun i => by
    have hG := MemO.grown HM.out HB0.out HA.out (by have := HPB.out; omega) hg.out
    refine ⟨heap_setCell_same w2 p i _ _ (.slice a2 (m.stk ++ [x]).length c2) hG.1, MemO.stk (m' := psh m x) HM.out (w' := w2) ho.out (fun g hg2 hne => ?_) ?_ HPB.out.2 rfl _ _⟩
    · rw [hg.out.block g (by have := HA.out.size; omega) hne, HA.out.block g hg2]
    · rcases hv.out with h | h
      · exact .inl h
      · exact .inr ⟨_, by simp, h⟩
  rw [show (m.stk ++ [x]).length = m.stk.length + 1 from by simp] at hW
  have hG := MemO.grown HM.out HB0.out HA.out (by have := HPB.out; omega) hg.out
  have hw0 := (RunI.cells (B := B) hG.1).1
  have hf0 := frozen_of_row _ _ 0 _ _ hG.1
  have HB2 : Hid (Below B w w2) := hG.2
  clear hG hg ho hv c0 f0
  go_wp2_with fail
  go_end0
  exact ⟨rfl, ⟨_, cv, (hW.out 0).1, (hW.out 0).2⟩, HB2.out.setCell (by have := HPB.out; simp; omega) _⟩

set_option maxHeartbeats 1600000 in
theorem ifits_any (B p : Nat) (m : SM) (op : Int) (w : World) (h : RunI B w p m) (hl : m.stk.length ≤ 40) :
    Calls Try.prog 118 #[.pointer (some ⟨p, 0, none⟩), .int .i64 (tkN op), .int .i64 (gvN op)] w fun e w' => e = .returned (.bool (fitsB m.stk.length op)) ∧ w' = w := by
  obtain ⟨sv, cv, hb, hm⟩ := h
  obtain ⟨a, c, rfl⟩ := own_shape hm.ss
  have c0 := (RunI.cells (B := B) hb).1
  have HF : Hid (∀ n : Nat, fitsB n op = (decide (tkN op ≤ n) && decide (n - tkN op + gvN op ≤ 40))) := fun n => rfl
  have ht := tkN_lo op
  have hg := gvN_lo op
  clear hm hb
  generalize m.stk.length = n at *
  have HF2 := HF.out n
  generalize fitsB n op = f at *
  generalize tkN op = t at *
  generalize gvN op = g at *
  clear HF
  obtain ⟨t0, t1⟩ := ht
  obtain ⟨g0, g1⟩ := hg
  by_cases h1 : t ≤ n
  · by_cases h2 : n - t + g ≤ 40
    · have e : f = true := by rw [HF2, decide_eq_true h1, decide_eq_true h2]; rfl
      subst e
      clear HF2
      go_enter Try.func118, Try.ntmps118
      go_wp2
      go_ret
      exact ⟨rfl, rfl⟩
    · have e : f = false := by rw [HF2, decide_eq_false h2, Bool.and_false]
      subst e
      clear HF2
      go_enter Try.func118, Try.ntmps118
      go_wp2
      go_ret
      exact ⟨rfl, rfl⟩
  · have e : f = false := by rw [HF2, decide_eq_false h1, Bool.false_and]
    subst e
    clear HF2
    go_enter Try.func118, Try.ntmps118
    go_wp2
    go_ret
    exact ⟨rfl, rfl⟩

set_option maxHeartbeats 1600000 in
theorem load_any (B p : Nat) (m : SM) (k : Nat) (w : World) (h : RunI B w p m) (hk : k < m.cells.length) (hl : m.cells.length ≤ 80) :
    Calls Try.prog 132 #[.pointer (some ⟨p, 1, none⟩), .int .i64 k] w fun e w' => e = .returned (.int .i64 (m.cells.getD k 0)) ∧ w' = w := by
  obtain ⟨sv, cv, hb, hm⟩ := h
  obtain ⟨a, c, rfl⟩ := own_shape hm.cs
  have hn := (nums_of_own hm.cs).2
  rcases hn with hn | ⟨b, off, rfl, hcc⟩
  · rw [hn] at hk; simp at hk
  have hcell := hcc k hk
  have c1 := (RunI.cells (B := B) hb).2.1
  clear hm hb hcc
  generalize m.cells.getD k 0 = t at *
  generalize m.cells.length = n at *
  have q0 : (0 : Int) ≤ (k : Int) := by omega
  have q1 : (k : Int) < (n : Int) := by omega
  go_enter Try.func132, Try.ntmps132
  go_wp2
  go_ret
  exact ⟨rfl, rfl⟩

set_option maxHeartbeats 1600000 in
theorem store_any (B p : Nat) (m : SM) (k : Nat) (x : Int) (w : World) (h : RunI B w p m) (hk : k < m.cells.length) (hl : m.cells.length ≤ 80) :
    Calls Try.prog 133 #[.pointer (some ⟨p, 1, none⟩), .int .i64 k, .int .i64 x] w fun e w' => e = .returned (.tuple #[]) ∧ RunI B w' p (sto m k x) ∧ Below B w w' := by
  obtain ⟨sv, cv, hb, hm⟩ := h
  obtain ⟨a, c, rfl⟩ := own_shape hm.cs
  obtain ⟨g, hg⟩ : ∃ g, a = some ⟨g, 0, none⟩ := by
    rcases hm.cs.2 with ⟨h1, h2⟩ | ⟨g, c2, cur, h1, _⟩
    · omega
    · simp at h1; exact ⟨g, h1.1⟩
  subst hg
  have hdst := hm.cs.cellAt k (by omega)
  have hfr := hm.cs.frozenAt k
  obtain ⟨y, hy⟩ : ∃ y, w.cell? ⟨g, k, none⟩ = some y := by
    rw [hdst]; exact ⟨_, List.getElem?_eq_getElem (by simpa using hk)⟩
  have c1 := (RunI.cells (B := B) hb).2.1
  have HX : Hid (RunI B (w.setCell ⟨g, k, none⟩ (.int .i64 x)) p (sto m k x)) := by
    have hgp : p ≠ g := fun e => hm.d2 (by rw [← e]; rfl)
    have hb2 : (w.setCell ⟨g, k, none⟩ (.int .i64 x)).heap[p]? = w.heap[p]? := heap_setCell_other _ _ _ _ hgp
    have hlen : (sto m k x).cells.length = m.cells.length := List.length_set
    exact ⟨sv, _, hb2.trans hb, MemO.put hm x⟩
  have HB : Hid (Below B w (w.setCell ⟨g, k, none⟩ (.int .i64 x))) := (Below.refl _ _).setCell (hm.lt.2 g rfl) _
  clear hm hb hdst
  generalize hn : m.cells.length = n at *
  clear hn
  have q0 : (0 : Int) ≤ (k : Int) := by omega
  have q1 : (k : Int) < (n : Int) := by omega
  go_enter Try.func133, Try.ntmps133
  go_wp2
  go_end0
  exact ⟨rfl, HX.out, HB.out⟩
end Go.Proofs.Ytcikofhbfncgdaa
namespace Go.Proofs.Ytcikofhbfncgdaa
open Go.RowKit
set_option linter.unusedVariables false

abbrev progV (m : SM) : Value := .agg #[.int .i64 m.pc, .int .i64 m.sig, .int .i64 m.used, .int .i64 m.trap, .bool m.done]
set_option maxHeartbeats 1600000 in
theorem pgoes_any (m : SM) (w : World) :
    Calls Try.prog 73 #[progV m] w fun e w' => e = .returned (.bool (goes m)) ∧ Below w.heap.size w w' := by
  obtain ⟨pc, st, ce, sg, us, t, d⟩ := m
  show Calls Try.prog 73 #[.agg #[.int .i64 pc, .int .i64 sg, .int .i64 us, .int .i64 t, .bool d]] w _
  have HG : Hid (goes ⟨pc, st, ce, sg, us, t, d⟩ = (!d && (t == 0))) := rfl
  generalize goes ⟨pc, st, ce, sg, us, t, d⟩ = g at *
  cases d
  · by_cases ht : t = 0
    · subst ht
      have e2 : g = true := HG.out
      subst e2
      clear HG
      go_enter Try.func73, Try.ntmps73
      go_wp2
      go_ret
      exact ⟨rfl, by go_grown⟩
    · have e : (t == 0) = false := by simpa using ht
      have e2 : g = false := by rw [HG.out, e]; rfl
      subst e2
      clear HG ht
      go_enter Try.func73, Try.ntmps73
      go_wp2
      go_ret
      exact ⟨rfl, by go_grown⟩
  · have e2 : g = false := HG.out
    subst e2
    clear HG
    go_enter Try.func73, Try.ntmps73
    go_wp2
    go_ret
    exact ⟨rfl, by go_grown⟩

set_option maxHeartbeats 800000 in
theorem fitsW_any (z : Int) (w : World) : Calls Try.prog 112 #[.int .i64 z] w fun e w' => e = .returned (.bool (inB z 0 65535)) ∧ w' = w := by
  cases h : inB z 0 65535
  · exact fitsWord_no z w (by have := inB_no.1 h; omega)
  · have := inB_iff.1 h
    exact fitsWord_yes z w this.1 this.2

def progFit (m : SM) : Bool := inB m.pc 0 65535 && inB m.sig 0 65535 && inB m.used 0 1000000 && inB m.trap 0 10
set_option maxHeartbeats 1600000 in
set_option maxRecDepth 100000 in
theorem pbounds_any (m : SM) (w : World) :
    Calls Try.prog 77 #[progV m] w fun e w' => e = .returned (.bool (progFit m)) ∧ Below w.heap.size w w' := by
  obtain ⟨pc, st, ce, sg, us, t, d⟩ := m
  show Calls Try.prog 77 #[.agg #[.int .i64 pc, .int .i64 sg, .int .i64 us, .int .i64 t, .bool d]] w _
  have HP : Hid (∀ W, Calls Try.prog 112 #[.int .i64 pc] W fun e w' => e = .returned (.bool (inB pc 0 65535)) ∧ w' = W) := fitsW_any pc
  have HG : Hid (∀ W, Calls Try.prog 112 #[.int .i64 sg] W fun e w' => e = .returned (.bool (inB sg 0 65535)) ∧ w' = W) := fitsW_any sg
  have HU : Hid (∀ W, Calls Try.prog 67 #[.int .i64 us, .int .i64 0, .int .i64 1000000] W fun e w' => e = .returned (.bool (inB us 0 1000000)) ∧ w' = W) := within_any us 0 1000000
  have HT : Hid (∀ W, Calls Try.prog 67 #[.int .i64 t, .int .i64 0, .int .i64 10] W fun e w' => e = .returned (.bool (inB t 0 10)) ∧ w' = W) := within_any t 0 10
  have HF : Hid (progFit ⟨pc, st, ce, sg, us, t, d⟩ = (inB pc 0 65535 && inB sg 0 65535 && inB us 0 1000000 && inB t 0 10)) := rfl
  generalize progFit ⟨pc, st, ce, sg, us, t, d⟩ = F at *
  generalize inB pc 0 65535 = q1 at *
  generalize inB sg 0 65535 = q2 at *
  generalize inB us 0 1000000 = q3 at *
  generalize inB t 0 10 = q4 at *
  have hq : (q1 = false) ∨ (q1 = true ∧ q2 = false) ∨ (q1 = true ∧ q2 = true ∧ q3 = false) ∨ (q1 = true ∧ q2 = true ∧ q3 = true ∧ q4 = false) ∨ (q1 = true ∧ q2 = true ∧ q3 = true ∧ q4 = true) := by
    cases q1 <;> cases q2 <;> cases q3 <;> cases q4 <;> simp
  rcases hq with rfl | ⟨rfl, rfl⟩ | ⟨rfl, rfl, rfl⟩ | ⟨rfl, rfl, rfl, rfl⟩ | ⟨rfl, rfl, rfl, rfl⟩
  all_goals
    have hF := HF.out
    simp only [Bool.and_true, Bool.false_and, Bool.and_false] at hF
    subst hF
    clear HF
    go_enter Try.func77, Try.ntmps77
    go_wp2_with (first | (with_reducible show Calls _ _ #[.int .i64 pc] _ _; refine (HP.out _).mono ?_; rintro e w4 ⟨rfl, rfl⟩) | (with_reducible show Calls _ _ #[.int .i64 sg] _ _; refine (HG.out _).mono ?_; rintro e w4 ⟨rfl, rfl⟩) | (with_reducible show Calls _ _ #[_, _, .int .i64 1000000] _ _; refine (HU.out _).mono ?_; rintro e w4 ⟨rfl, rfl⟩) | (with_reducible show Calls _ _ #[_, _, .int .i64 10] _ _; refine (HT.out _).mono ?_; rintro e w4 ⟨rfl, rfl⟩))
    go_ret
    exact ⟨rfl, by go_grown⟩

/-- Used is one more: k: where the progress begins -/
theorem pcount_any (p k : Nat) (u : Int) (w : World) (h0 : 0 ≤ u) (h1 : u ≤ 1000000) (hc : w.cell? ⟨p, k + 2, none⟩ = some (.int .i64 u)) (hf : w.frozen? ⟨p, k + 2, none⟩ = false) :
    Calls Try.prog 107 #[.pointer (some ⟨p, k, none⟩)] w fun e w' => e = .returned (.tuple #[]) ∧ w' = w.setCell ⟨p, k + 2, none⟩ (.int .i64 (if u + 1 ≤ 1000000 then u + 1 else 1000000)) := by
  by_cases h : u + 1 ≤ 1000000
  · rw [if_pos h]
    go_enter Try.func107, Try.ntmps107
    go_wp2_with fail
    all_goals
      first
        | (exfalso; omega)
        | (go_end0; exact ⟨rfl, rfl⟩)
  · rw [if_neg h]
    go_enter Try.func107, Try.ntmps107
    go_wp2_with fail
    all_goals
      first
        | (exfalso; omega)
        | (go_end0; exact ⟨rfl, rfl⟩)

abbrev machW (m : SM) (sv cv : Value) : Value := .agg #[.int .i64 m.pc, sv, cv, .int .i64 m.sig, .int .i64 m.used, .int .i64 m.trap, .bool m.done]
set_option maxHeartbeats 1600000 in
theorem sprog_any (m : SM) (a1 a2 : Option Addr) (n1 n2 k1 k2 : Nat) (w : World) :
    Calls Try.prog 97 #[machW m (.slice a1 n1 k1) (.slice a2 n2 k2)] w fun e w' => e = .returned (progV m) ∧ Below w.heap.size w w' := by
  go_enter Try.func97, Try.ntmps97
  go_wp2_with fail
  refine bodyPost_ret (v := progV m) (by simp [results, Try.results97, go_sem]) rfl ⟨rfl, ?_⟩
  go_grown
end Go.Proofs.Ytcikofhbfncgdaa
