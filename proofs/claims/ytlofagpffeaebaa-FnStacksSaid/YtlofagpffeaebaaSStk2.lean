/-
  spec's memory of a machine: l8Push, l8Pop, l8Row, l8Takes.
-/
import Derived.Test.YtlofagpffeaebaaSStk1
import Derived.Deep.RegionHeld3
namespace Go.Proofs.Ytlofagpffeaebaa
open Go.RowKit
set_option linter.unusedVariables false
attribute [local go_sem ↓] Go.wp_at_zero Go.wp_at_succ

theorem RunS.lt {B p : Nat} {w : World} {m : SM} (h : RunS B w p m) : B ≤ p ∧ p < w.heap.size := by
  obtain ⟨sv, cv, hb, hm⟩ := h
  exact ⟨hm.pB, (Array.getElem?_eq_some_iff.1 hb).1⟩
theorem RunS.cut1 {B p n c : Nat} {w w' : World} {a : Option Addr} {m : SM} {cv : Value} (hb : w.heap[p]? = some (.cells (lineS m (.slice a n c) cv) 44 (0, 0))) (hm : MemO B w p (.slice a n c) cv m) (h0 : 0 < n) (hw : w'.heap = w.heap) : RunS B (w'.setCell ⟨p, 1, none⟩ (.slice a (n - 1) c)) p (pop m) := by
  have hn := own_len hm.ss
  subst hn
  have hlt := (Array.getElem?_eq_some_iff.1 hb).1
  have hob : (Value.slice a (m.stk.length - 1) c).ownBlock = (Value.slice a m.stk.length c).ownBlock := by cases a <;> rfl
  refine ⟨_, cv, ?_, MemO.stk (m' := pop m) hm (w' := w') ?_ (fun g _ _ => by rw [hw]) (.inl hob) hlt rfl _ _⟩
  · have := heap_setCell_same w' p 1 _ _ (.slice a (m.stk.length - 1) c) (by rw [hw]; exact hb)
    exact this
  · exact own_other (own_cut hm.ss h0) (fun g _ => by rw [hw])

set_option maxHeartbeats 1600000 in
theorem l8Pop_any (B p : Nat) (m : SM) (w : World) (h : RunS B w p m) (h0 : 0 < m.stk.length) (hl : m.stk.length ≤ 40) :
    Calls Try.prog 125 #[.pointer (some ⟨p, 0, none⟩)] w fun e w' => e = .returned (.int .i64 (tp m 0)) ∧ RunS B w' p (pop m) ∧ Below B w w' := by
  obtain ⟨hpB, hpw⟩ := h.lt
  obtain ⟨sv, cv, hb, hm⟩ := h
  obtain ⟨a, c, rfl⟩ := own_shape hm.ss
  have hnn := (nums_of_own hm.ss).2
  rcases hnn with hn | ⟨b, off, rfl, hcc⟩
  · rw [hn] at h0; simp at h0
  have hcell := hcc (m.stk.length - 1) (by omega)
  have hT : Hid (tp m 0 = m.stk.getD (m.stk.length - 1) 0) := rfl
  have c1 := (RunS.cells hb).2.1
  have f1 := frozen_of_row _ _ 1 _ _ hb
  have HX : Hid (∀ w' : World, w'.heap = w.heap → RunS B (w'.setCell ⟨p, 1, none⟩ (.slice (some ⟨b, off, none⟩) (m.stk.length - 1) c)) p (pop m)) := fun w' hw => RunS.cut1 hb hm h0 hw
  have HPB : Hid (B ≤ p) := hpB
  have hcap : m.stk.length ≤ c := by
    rcases hm.ss.2 with ⟨h1, h2⟩ | ⟨g, c2, cur, h1, _, _, h3, _⟩
    · omega
    · simp at h1; omega
  rw [← hT.out] at hcell
  clear hb hm hcc hT hpw hpB
  generalize m.stk.length = n at *
  obtain ⟨k, hk⟩ : ∃ k, k = n - 1 := ⟨_, rfl⟩
  rw [← hk] at HX hcell
  have q0 : (0 : Int) ≤ (k : Int) := by omega
  have q1 : (k : Int) < (n : Int) := by omega
  have q2 : (k : Int) ≤ (c : Int) := by omega
  have e1 : (n : Int) - 1 = (k : Int) := by omega
  have h1n : (1 : Int) ≤ (n : Int) := by omega
  have hn40 : (n : Int) ≤ 40 := by omega
  clear hk h0 hl
  go_enter Try.func125, Try.ntmps125
  go_wp2_with fail
  go_ret
  exact ⟨rfl, HX.out w rfl, (Below.refl _ _).setCell HPB.out _⟩

set_option maxHeartbeats 1600000 in
theorem l8Push_any (B p : Nat) (m : SM) (x : Int) (w : World) (h : RunS B w p m) (hl : m.stk.length ≤ 40) :
    Calls Try.prog 124 #[.pointer (some ⟨p, 0, none⟩), .int .i64 x] w fun e w' => e = .returned (.tuple #[]) ∧ RunS B w' p (psh m x) ∧ Below B w w' := by
  obtain ⟨hpB, hpw⟩ := h.lt
  obtain ⟨sv, cv, hb, hm⟩ := h
  have HPB : Hid (B ≤ p ∧ p < w.heap.size) := ⟨hpB, hpw⟩
  have hA := (Below.refl w.heap.size w).alloc (Nat.le_refl _) (.cells #[.int .i64 x] 2)
  have hO := own_kept hm.ss hA
  have hN : Nums (w.alloc (.cells #[.int .i64 x] 2)) (some ⟨w.heap.size, 0, none⟩) [x] := .inr ⟨_, 0, rfl, fun i hi => by
    have : i = 0 := by simpa using hi
    subst this
    exact cell_of_row _ _ 0 _ _ _ (heap_alloc_new w _)⟩
  have c0 := (RunS.cells hb).2.1
  have f0 := frozen_of_row _ _ 1 _ _ hb
  have HB0 : Hid (w.heap[p]? = some (.cells (lineS m sv cv) 44 (0, 0))) := hb
  have HM : Hid (MemO B w p sv cv m) := hm
  have HA : Hid (Below w.heap.size w (w.alloc (.cells #[.int .i64 x] 2))) := hA
  have HO : Hid (Own (w.alloc (.cells #[.int .i64 x] 2)) B sv m.stk) := hO
  have HN : Hid (Nums (w.alloc (.cells #[.int .i64 x] 2)) (some ⟨w.heap.size, 0, none⟩) [x]) := hN
  clear hb hm hA hO hN hpB hpw
  go_enter Try.func124, Try.ntmps124
  go_wp2_with (at_builtin; refine wpList_append_nums rfl _ _ rfl B _ m.stk [x] (by rfl) HO.out (some ⟨w.heap.size, 0, none⟩) 1 (by rfl) HN.out (by simp) (by simp) (by simp; omega) (by have := HPB.out; simp; omega) ?_)
  intro v' w2 ho hg hv
  obtain ⟨a2, c2, rfl⟩ := own_shape ho.out
  have hW : Hid (∀ i, (w2.setCell ⟨p, i, none⟩ (.slice a2 (m.stk ++ [x]).length c2)).heap[p]? = some (.cells ((lineS m sv cv).setIfInBounds i (.slice a2 (m.stk ++ [x]).length c2)) 44 (0, 0)) ∧ MemO B (w2.setCell ⟨p, i, none⟩ (.slice a2 (m.stk ++ [x]).length c2)) p (.slice a2 (m.stk ++ [x]).length c2) cv (psh m x)) := fun i => by
    have hG := MemO.grown HM.out HB0.out HA.out (by have := HPB.out; omega) hg.out
    refine ⟨heap_setCell_same w2 p i _ _ (.slice a2 (m.stk ++ [x]).length c2) hG.1, MemO.stk (m' := psh m x) HM.out (w' := w2) ho.out (fun g hg2 hne => ?_) ?_ HPB.out.2 rfl _ _⟩
    · rw [hg.out.block g (by have := HA.out.size; omega) hne, HA.out.block g hg2]
    · rcases hv.out with h | h
      · exact .inl h
      · exact .inr ⟨_, by simp, h⟩
  rw [show (m.stk ++ [x]).length = m.stk.length + 1 from by simp] at hW
  have hG := MemO.grown HM.out HB0.out HA.out (by have := HPB.out; omega) hg.out
  have hw0 := (RunS.cells hG.1).2.1
  have hf0 := frozen_of_row _ _ 1 _ _ hG.1
  have HB2 : Hid (Below B w w2) := hG.2
  clear hG hg ho hv c0 f0
  go_wp2_with fail
  go_end0
  exact ⟨rfl, ⟨_, cv, (hW.out 1).1, (hW.out 1).2⟩, HB2.out.setCell (by have := HPB.out; simp; omega) _⟩

set_option maxHeartbeats 1600000 in
theorem l8Row_any (p : Nat) (m : SM) (sv cv : Value) (f s i : Int) (w : World) (hp : w.heap[p]? = some (.cells (lineS m sv cv) 44 (0, 0))) (hc : RowV w cv m.cells) (hl : m.cells.length ≤ 80) (hf0 : 0 ≤ f) (hf1 : f ≤ 65535) (hs0 : 0 ≤ s) (hs1 : s ≤ 65535) :
    Calls Try.prog 126 #[.pointer (some ⟨p, 0, none⟩), .int .i64 f, .int .i64 s, .int .i64 i] w fun e w' => e = .returned (.tuple #[.int .i64 (itemV m.cells.length f s i), .int .i64 (itemC m.cells.length f s i)]) ∧ w' = w := by
  have HS : Hid (∀ W, Calls Try.prog 143 #[.int .i64 i] W fun e w' => e = .returned (.int .i64 (sg i)) ∧ w' = W) := specSignedOf i
  obtain ⟨a, c, rfl, _, _⟩ := hc
  have c2 := (RunS.cells hp).2.2.1
  have h1 := sg_lo i
  have h2 := sg_hi i
  have HE : Hid ((itemC m.cells.length f s i = if inB (sg i) 0 (s - 1) then (if f + sg i < m.cells.length then 0 else 1) else 3) ∧ (itemV m.cells.length f s i = if itemC m.cells.length f s i = 0 then f + sg i else 0)) := ⟨rfl, rfl⟩
  generalize itemC m.cells.length f s i = C at *
  generalize itemV m.cells.length f s i = V at *
  generalize m.cells.length = n at *
  generalize sg i = k at *
  have HI : Hid (∀ W, Calls Try.prog 21 #[.int .i64 k, .int .i64 0, .int .i64 (s - 1)] W fun e w' => e = .returned (.bool (inB k 0 (s - 1))) ∧ w' = W) := l1In_any k 0 (s - 1)
  clear hp
  cases hq : inB k 0 (s - 1)
  · have eC : C = 3 := by rw [HE.out.1, hq]; rfl
    have eV : V = 0 := by rw [HE.out.2, eC]; rfl
    rw [hq] at HI
    subst eC eV
    clear HE hq
    go_enter Try.func126, Try.ntmps126
    go_wp2_with (first | (go_at_call 143; refine (HS.out _).mono ?_; rintro e w1 ⟨rfl, rfl⟩) | (go_at_call 21; refine (HI.out _).mono ?_; rintro e w1 ⟨rfl, rfl⟩))
    go_returns
    exact ⟨rfl, rfl⟩
  · have hk := (inB_iff.1 hq).1
    rw [hq] at HI
    by_cases hlt : f + k < n
    · have eC : C = 0 := by rw [HE.out.1, hq, if_pos rfl, if_pos hlt]
      have eV : V = f + k := by rw [HE.out.2, eC]; rfl
      subst eC eV
      clear HE hq
      go_enter Try.func126, Try.ntmps126
      go_wp2_with (first | (go_at_call 143; refine (HS.out _).mono ?_; rintro e w1 ⟨rfl, rfl⟩) | (go_at_call 21; refine (HI.out _).mono ?_; rintro e w1 ⟨rfl, rfl⟩))
      go_returns
      exact ⟨rfl, rfl⟩
    · have eC : C = 1 := by rw [HE.out.1, hq, if_pos rfl, if_neg hlt]
      have eV : V = 0 := by rw [HE.out.2, eC]; rfl
      subst eC eV
      clear HE hq
      go_enter Try.func126, Try.ntmps126
      go_wp2_with (first | (go_at_call 143; refine (HS.out _).mono ?_; rintro e w1 ⟨rfl, rfl⟩) | (go_at_call 21; refine (HI.out _).mono ?_; rintro e w1 ⟨rfl, rfl⟩))
      go_returns
      exact ⟨rfl, rfl⟩

set_option maxHeartbeats 1600000 in
theorem l8Takes_any (op : Int) (w : World) (h1 : 1 ≤ op) (h13 : op ≤ 13) : Calls Try.prog 123 #[.int .i64 op] w fun e w' => e = .returned (.tuple #[.int .i64 (tkN op), .int .i64 (gvN op)]) ∧ w' = w := by
  have hop : op = 1 ∨ op = 2 ∨ op = 3 ∨ op = 4 ∨ op = 5 ∨ op = 6 ∨ op = 7 ∨ op = 8 ∨ op = 9 ∨ op = 10 ∨ op = 11 ∨ op = 12 ∨ op = 13 := by omega
  rcases hop with rfl | rfl | rfl | rfl | rfl | rfl | rfl | rfl | rfl | rfl | rfl | rfl | rfl
  all_goals
    go_enter Try.func123, Try.ntmps123
    go_wp2
    go_returns
    exact ⟨rfl, rfl⟩
end Go.Proofs.Ytlofagpffeaebaa
