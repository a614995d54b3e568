/-
  The Go function laws.FnStacks answers true at every input and writes nothing that was there. No condition.
-/
import Derived.Test.YtlofagpffeaebaaSStk2
import Derived.Test.YtlofagpffeaebaaSBin
import Derived.Test.YtlofagpffeaebaaStkGo
import Derived.Deep.QuietTactic
import Derived.Test.YtlofagpffeaebaaStkSole
import Derived.Deep.RegionHeld3
import Derived.Test.YtlofagpffeaebaaStkRun
import Derived.Test.YtlofagpffeaebaaSStk1
import Derived.Test.YtlofagpffeaebaaWords0
import Derived.Test.YtlofagpffeaebaaStkRes
import Derived.Deep.Cut
import Derived.Test.YtlofagpffeaebaaIStk12
import Derived.Test.YtlofagpffeaebaaIStk13
import Derived.Test.YtlofagpffeaebaaStkVar
import Derived.Test.YtlofagpffeaebaaBase
import Derived.Test.YtlofagpffeaebaaDrawR2
namespace Go.Proofs.Ytlofagpffeaebaa
open Go.RowKit
set_option linter.unusedVariables false

/-- a word is stored into the cells of spec's machine -/
theorem RunS.put {B p gc n c : Nat} {w : World} {m : SM} {sv : Value} {hbl : w.heap[p]? = some (.cells (lineS m sv (.slice (some ⟨gc, 0, none⟩) n c)) 44 (0, 0))} (hm : MemO B w p sv (.slice (some ⟨gc, 0, none⟩) n c) m) (t : Nat) (x : Int) : RunS B (w.setCell ⟨gc, t, none⟩ (.int .i64 x)) p (sto m t x) := by
  have hgp : p ≠ gc := fun e => hm.d2 (by rw [← e]; rfl)
  have hb2 : (w.setCell ⟨gc, t, none⟩ (.int .i64 x)).heap[p]? = w.heap[p]? := heap_setCell_other _ _ _ _ hgp
  exact ⟨sv, _, hb2.trans hbl, MemO.put hm x⟩
theorem item_in (n : Nat) (f s i : Int) (hf : 0 ≤ f) : itemC n f s i = 0 → 0 ≤ itemV n f s i ∧ itemV n f s i < n := fun hi => by
  unfold itemV
  rw [if_pos hi]
  unfold itemC at hi
  split at hi
  · rename_i hb
    have := (inB_iff.1 hb).1
    split at hi
    · omega
    · omega
  · omega
def lst (x : Int) : Int := b01 (decide (x ≠ 0))
set_option maxHeartbeats 800000 in
theorem sLeast_any (n : Int) (w : World) : Calls Try.prog 130 #[.int .i64 n] w fun e w' => e = .returned (.int .i64 (lst n)) ∧ w' = w := by
  have HB : Hid (∀ (b : Bool) (w : World), Calls Try.prog 145 #[.bool b] w fun e w' => e = .returned (.int .i64 (b01 b)) ∧ w' = w) := fun b w => l2Bit_any b w
  by_cases h : n = 0
  · subst h
    go_enter Try.func130, Try.ntmps130
    go_wp2_with fail
    refine (HB.out _ _).mono ?_
    rintro e w2 ⟨rfl, rfl⟩
    go_wp2_with fail
    go_ret
    exact ⟨rfl, rfl⟩
  · have e1 : (n != 0) = true := by simpa using h
    have e2 : Hid (lst n = 1) := by show b01 (decide (n ≠ 0)) = 1; rw [decide_eq_true h]; rfl
    go_enter Try.func130, Try.ntmps130
    go_wp2_with fail
    refine (HB.out _ _).mono ?_
    rintro e w2 ⟨rfl, rfl⟩
    go_wp2_with fail
    go_ret
    exact ⟨by rw [e2.out]; rfl, rfl⟩
end Go.Proofs.Ytlofagpffeaebaa
namespace Go.Proofs.Ytlofagpffeaebaa
open Go.RowKit
set_option linter.unusedVariables false
attribute [local go_sem ↓] Go.wp_at_zero Go.wp_at_succ

set_option maxHeartbeats 3200000 in
theorem l8Copy_any (m : SM) (sv cv : Value) (w : World) (hs : RowV w sv m.stk) (hc : RowV w cv m.cells) (hl1 : m.stk.length ≤ 1048576) (hl2 : m.cells.length ≤ 1048576) :
    Calls Try.prog 113 #[machVs m sv cv] w fun e w' => ∃ sv' cv', e = .returned (machVs m sv' cv') ∧ Own w' w.heap.size sv' m.stk ∧ Own w' w.heap.size cv' m.cells ∧ (∀ g, sv'.ownBlock = some g → cv'.ownBlock ≠ some g) ∧ Below w.heap.size w w' := by
  obtain ⟨b1, k1, rfl, hn1, hk1⟩ := hs
  obtain ⟨b2, k2, rfl, hn2, hk2⟩ := hc
  have HN1 : Hid (∀ W, Below w.heap.size w W → Nums W b1 m.stk) := fun W h => hn1.below h
  have HN2 : Hid (∀ W, Below w.heap.size w W → Nums W b2 m.cells) := fun W h => hn2.below h
  have HZ1 : Hid ((b1 = none → k1 = 0) ∧ (b1 = none → m.stk = [])) := ⟨hk1, rowZ hn1⟩
  have HZ2 : Hid ((b2 = none → k2 = 0) ∧ (b2 = none → m.cells = [])) := ⟨hk2, rowZ hn2⟩
  have HL : Hid (m.stk.length ≤ 1048576 ∧ m.cells.length ≤ 1048576) := ⟨hl1, hl2⟩
  have hX : Hid (∀ W, W = (w.alloc (.cells (lineS m (.slice b1 m.stk.length k1) (.slice b2 m.cells.length k2)) 44)).alloc (.cells #[.int .i64 0, .slice none 0 0, .slice none 0 0, .int .i64 0, .int .i64 0, .int .i64 0, .bool false] 44) →
      Below w.heap.size w W ∧ W.heap.size = w.heap.size + 2 ∧ W.heap[w.heap.size]? = some (.cells (lineS m (.slice b1 m.stk.length k1) (.slice b2 m.cells.length k2)) 44 (0, 0)) ∧ W.heap[w.heap.size + 1]? = some (.cells #[.int .i64 0, .slice none 0 0, .slice none 0 0, .int .i64 0, .int .i64 0, .int .i64 0, .bool false] 44 (0, 0))) := fun W e => by
    subst e
    have a1 := heap_alloc_new w (.cells (lineS m (.slice b1 m.stk.length k1) (.slice b2 m.cells.length k2)) 44)
    have y1 := (Below.refl w.heap.size w).alloc (Nat.le_refl _) (.cells (lineS m (.slice b1 m.stk.length k1) (.slice b2 m.cells.length k2)) 44)
    have s1 : (w.alloc (.cells (lineS m (.slice b1 m.stk.length k1) (.slice b2 m.cells.length k2)) 44)).heap.size = w.heap.size + 1 := by simp
    generalize w.alloc (.cells (lineS m (.slice b1 m.stk.length k1) (.slice b2 m.cells.length k2)) 44) = W1 at *
    have a2 := heap_alloc_new W1 (.cells #[.int .i64 0, .slice none 0 0, .slice none 0 0, .int .i64 0, .int .i64 0, .int .i64 0, .bool false] 44)
    have y2 := (Below.refl W1.heap.size W1).alloc (Nat.le_refl _) (.cells #[.int .i64 0, .slice none 0 0, .slice none 0 0, .int .i64 0, .int .i64 0, .int .i64 0, .bool false] 44)
    rw [s1] at a2
    exact ⟨y1.trans (y2.mono (by omega)), by simp [s1], blk8 a1 y2, a2⟩
  clear hn1 hn2 hk1 hk2 hl1 hl2
  generalize hL1 : m.stk.length = l1 at *
  generalize hL2 : m.cells.length = l2 at *
  go_enter Try.func113, Try.ntmps113
  go_upto_region 1 with fail
  have hXX := hX.out _ rfl
  generalize (w.alloc (.cells (lineS m (.slice b1 l1 k1) (.slice b2 l2 k2)) 44)).alloc (.cells #[.int .i64 0, .slice none 0 0, .slice none 0 0, .int .i64 0, .int .i64 0, .int .i64 0, .bool false] 44) = W at *
  obtain ⟨x1, x2, x3, x4⟩ := hXX
  have HB0 : Hid (Below w.heap.size w W) := x1
  have HS0 : Hid (W.heap.size = w.heap.size + 2) := x2
  have HA0 : Hid (W.heap[w.heap.size]? = _) := x3
  have HR0 : Hid (W.heap[w.heap.size + 1]? = _) := x4
  have c1 := (RunS.cells x3).2.1
  have hA := (Below.refl W.heap.size W).alloc (Nat.le_refl _) (.cells #[] 2)
  have HA : Hid (Below W.heap.size W (W.alloc (.cells #[] 2))) := hA
  have HO : Hid (Own (W.alloc (.cells #[] 2)) W.heap.size (.slice (some ⟨W.heap.size, 0, none⟩) 0 0) []) := own_new W _ (Nat.le_refl _)
  have HN : Hid (Nums (W.alloc (.cells #[] 2)) b1 m.stk) := HN1.out _ (x1.trans (hA.mono (by omega)))
  have c1a : (W.alloc (.cells #[] 2)).cell? ⟨w.heap.size, 1, none⟩ = some (.slice b1 l1 k1) := (hA.cell (p := ⟨w.heap.size, 1, none⟩) (by show w.heap.size < W.heap.size; omega)).trans c1
  clear x1 x2 x3 x4 hA hX c1
  go_wp2_with (at_builtin; refine wpList_append_nums rfl _ _ rfl W.heap.size _ [] m.stk (by rfl) HO.out b1 k1 (by rw [hL1]; rfl) HN.out HZ1.out.1 HZ1.out.2 (by have := HL.out; simp; omega) (by simp) ?_)
  intro v' w2 ho hg hv
  obtain ⟨a2, q2, rfl⟩ := own_shape ho.out
  try simp only [List.nil_append] at ho
  try simp only [List.nil_append] at hv
  try simp only [List.nil_append]
  try rw [hL1] at ho
  try rw [hL1] at hv
  try rw [hL1]
  have hz2 : W.heap.size + 1 ≤ w2.heap.size := by have := hg.out.size; simp at this; omega
  have HB2 : Hid (Below W.heap.size W w2) := HA.out.grown hg.out (by simp) (fun k hk => by simp [Value.ownBlock] at hk; omega)
  have HO2 : Hid (Own w2 W.heap.size (.slice a2 l1 q2) m.stk) := ho.out
  have HA2 : Hid (w2.heap[w.heap.size]? = some (.cells (lineS m (.slice b1 l1 k1) (.slice b2 l2 k2)) 44 (0, 0))) := blk8 HA0.out HB2.out
  have HR2 : Hid (w2.heap[w.heap.size + 1]? = some (.cells #[.int .i64 0, .slice none 0 0, .slice none 0 0, .int .i64 0, .int .i64 0, .int .i64 0, .bool false] 44 (0, 0))) := blk8 HR0.out HB2.out
  have d1 := (RunS.cells HA2.out).2.1
  have f1 := frozen_of_row _ _ 1 _ _ HA2.out
  have HZ : Hid (W.heap.size + 1 ≤ w2.heap.size) := hz2
  clear ho hg hv hz2 HA HO HN c1a HA0 HR0
  go_upto_region 2 with fail
  have HA3 : Hid ((w2.setCell ⟨w.heap.size, 1, none⟩ (.slice a2 l1 q2)).heap[w.heap.size]? = some (.cells (lineS m (.slice a2 l1 q2) (.slice b2 l2 k2)) 44 (0, 0))) := heap_setCell_same w2 w.heap.size 1 _ _ (.slice a2 l1 q2) HA2.out
  have HR3 : Hid ((w2.setCell ⟨w.heap.size, 1, none⟩ (.slice a2 l1 q2)).heap[w.heap.size + 1]? = some (.cells #[.int .i64 0, .slice none 0 0, .slice none 0 0, .int .i64 0, .int .i64 0, .int .i64 0, .bool false] 44 (0, 0))) := (heap_setCell_other w2 _ (w.heap.size + 1) _ (by simp)).trans HR2.out
  have HB3 : Hid (Below w.heap.size w (w2.setCell ⟨w.heap.size, 1, none⟩ (.slice a2 l1 q2))) := (HB0.out.trans (HB2.out.mono (by have := HS0.out; omega))).setCell (Nat.le_refl _) _
  have HO3 : Hid (Own (w2.setCell ⟨w.heap.size, 1, none⟩ (.slice a2 l1 q2)) W.heap.size (.slice a2 l1 q2) m.stk) := own_other HO2.out (fun g hg => heap_setCell_other _ _ _ _ (by have := (HO2.out.lt g hg).1; have := HS0.out; show g ≠ w.heap.size; omega))
  have HS3 : Hid (w.heap.size + 2 ≤ (w2.setCell ⟨w.heap.size, 1, none⟩ (.slice a2 l1 q2)).heap.size) := by have := HZ.out; have := HS0.out; show _ ≤ _; simp; omega
  clear HA2 HR2 HB2 HO2 HZ d1 f1
  generalize w2.setCell ⟨w.heap.size, 1, none⟩ (.slice a2 l1 q2) = W3 at *
  have c2 := (RunS.cells HA3.out).2.2.1
  have hA := (Below.refl W3.heap.size W3).alloc (Nat.le_refl _) (.cells #[] 2)
  have HA : Hid (Below W3.heap.size W3 (W3.alloc (.cells #[] 2))) := hA
  have HO : Hid (Own (W3.alloc (.cells #[] 2)) W3.heap.size (.slice (some ⟨W3.heap.size, 0, none⟩) 0 0) []) := own_new W3 _ (Nat.le_refl _)
  have HN : Hid (Nums (W3.alloc (.cells #[] 2)) b2 m.cells) := HN2.out _ (HB3.out.trans (hA.mono HB3.out.size))
  have c2a : (W3.alloc (.cells #[] 2)).cell? ⟨w.heap.size, 2, none⟩ = some (.slice b2 l2 k2) := (hA.cell (p := ⟨w.heap.size, 2, none⟩) (by have := HS3.out; show w.heap.size < W3.heap.size; omega)).trans c2
  clear hA c2
  go_wp2_with (at_builtin; refine wpList_append_nums rfl _ _ rfl W3.heap.size _ [] m.cells (by rfl) HO.out b2 k2 (by rw [hL2]; rfl) HN.out HZ2.out.1 HZ2.out.2 (by have := HL.out; simp; omega) (by simp) ?_)
  intro v' w4 ho hg hv
  obtain ⟨a4, q4, rfl⟩ := own_shape ho.out
  try simp only [List.nil_append] at ho
  try simp only [List.nil_append] at hv
  try simp only [List.nil_append]
  try rw [hL2] at ho
  try rw [hL2] at hv
  try rw [hL2]
  have HB4 : Hid (Below W3.heap.size W3 w4) := HA.out.grown hg.out (by simp) (fun k hk => by simp [Value.ownBlock] at hk; omega)
  have HO4 : Hid (Own w4 W3.heap.size (.slice a4 l2 q4) m.cells) := ho.out
  have HA4 : Hid (w4.heap[w.heap.size]? = some (.cells (lineS m (.slice a2 l1 q2) (.slice b2 l2 k2)) 44 (0, 0))) := blk8 HA3.out HB4.out
  have HR4 : Hid (w4.heap[w.heap.size + 1]? = some (.cells #[.int .i64 0, .slice none 0 0, .slice none 0 0, .int .i64 0, .int .i64 0, .int .i64 0, .bool false] 44 (0, 0))) := blk8 HR3.out HB4.out
  have HS4 : Hid (Own w4 W.heap.size (.slice a2 l1 q2) m.stk) := own_kept HO3.out HB4.out
  have f2 := frozen_of_row _ _ 2 _ _ HA4.out
  have d2 := (RunS.cells HA4.out).2.2.1
  clear ho hg hv HA HO HN c2a HR3 HA3
  go_upto_region 3 with fail
  have HA5 : Hid ((w4.setCell ⟨w.heap.size, 2, none⟩ (.slice a4 l2 q4)).heap[w.heap.size]? = some (.cells (lineS m (.slice a2 l1 q2) (.slice a4 l2 q4)) 44 (0, 0))) := heap_setCell_same w4 w.heap.size 2 _ _ (.slice a4 l2 q4) HA4.out
  have HR5 : Hid ((w4.setCell ⟨w.heap.size, 2, none⟩ (.slice a4 l2 q4)).heap[w.heap.size + 1]? = some (.cells #[.int .i64 0, .slice none 0 0, .slice none 0 0, .int .i64 0, .int .i64 0, .int .i64 0, .bool false] 44 (0, 0))) := (heap_setCell_other w4 _ (w.heap.size + 1) _ (by simp)).trans HR4.out
  have HB5 : Hid (Below w.heap.size w (w4.setCell ⟨w.heap.size, 2, none⟩ (.slice a4 l2 q4))) := (HB3.out.trans (HB4.out.mono HB3.out.size)).setCell (Nat.le_refl _) _
  have HO5 : Hid (Own (w4.setCell ⟨w.heap.size, 2, none⟩ (.slice a4 l2 q4)) (w.heap.size + 2) (.slice a2 l1 q2) m.stk) := own_mono (own_other HS4.out (fun g hg => heap_setCell_other _ _ _ _ (by have := (HS4.out.lt g hg).1; have := HS0.out; show g ≠ w.heap.size; omega))) (by have := HS0.out; omega)
  have HC5 : Hid (Own (w4.setCell ⟨w.heap.size, 2, none⟩ (.slice a4 l2 q4)) (w.heap.size + 2) (.slice a4 l2 q4) m.cells) := own_mono (own_other HO4.out (fun g hg => heap_setCell_other _ _ _ _ (by have := (HO4.out.lt g hg).1; have := HS3.out; show g ≠ w.heap.size; omega))) HS3.out
  have HD : Hid (∀ g, (Value.slice a2 l1 q2).ownBlock = some g → (Value.slice a4 l2 q4).ownBlock ≠ some g) := fun g hg e => by
    have := (HO3.out.lt g hg).2
    have := (HO4.out.lt g e).1
    omega
  clear HA4 HR4 HB4 HO4 HS4 HO3 HB3 f2 d2 HS3
  generalize w4.setCell ⟨w.heap.size, 2, none⟩ (.slice a4 l2 q4) = W5 at *
  obtain ⟨e0, e1, e2, e3, e4, e5, e6⟩ := RunS.cells HA5.out
  have g0 := cell_of_row _ _ 0 _ _ _ HR5.out
  have g1 := cell_of_row _ _ 1 _ _ _ HR5.out
  have g2 := cell_of_row _ _ 2 _ _ _ HR5.out
  have g3 := cell_of_row _ _ 3 _ _ _ HR5.out
  have g4 := cell_of_row _ _ 4 _ _ _ HR5.out
  have g5 := cell_of_row _ _ 5 _ _ _ HR5.out
  have g6 := cell_of_row _ _ 6 _ _ _ HR5.out
  have f0 := frozen_of_row _ _ 0 _ _ HR5.out
  have f1 := frozen_of_row _ _ 1 _ _ HR5.out
  have f2 := frozen_of_row _ _ 2 _ _ HR5.out
  have f3 := frozen_of_row _ _ 3 _ _ HR5.out
  have f4 := frozen_of_row _ _ 4 _ _ HR5.out
  have f5 := frozen_of_row _ _ 5 _ _ HR5.out
  have f6 := frozen_of_row _ _ 6 _ _ HR5.out
  simp at g0 g1 g2 g3 g4 g5 g6
  clear HA5 HR5
  have HE : Hid _ := (((((((Sole1.refl (w.heap.size + 1) W5).set 0 (.int .i64 m.pc)).set 1 (.slice a2 l1 q2)).set 2 (.slice a4 l2 q4)).set 3 (.int .i64 m.sig)).set 4 (.int .i64 m.used)).set 5 (.int .i64 m.trap)).set 6 (.bool m.done)
  go_wp2_with fail
  refine bodyPost_ret (v := machVs m (.slice a2 l1 q2) (.slice a4 l2 q4)) (by simp [results, Try.results113, go_sem, g0, g1, g2, g3, g4, g5, g6]) rfl ⟨_, _, rfl, ?_, ?_, HD.out, HB5.out.trans (HE.out.bel.mono (by omega))⟩
  · exact own_mono (own_other HO5.out (fun g hg => HE.out.oth g (by have := (HO5.out.lt g hg).1; omega))) (by omega)
  · exact own_mono (own_other HC5.out (fun g hg => HE.out.oth g (by have := (HC5.out.lt g hg).1; omega))) (by omega)
end Go.Proofs.Ytlofagpffeaebaa
namespace Go.Proofs.Ytlofagpffeaebaa
open Go.RowKit
set_option linter.unusedVariables false
attribute [local go_sem ↓] Go.wp_at_zero Go.wp_at_succ

/-- what l8Ready answers -/
def rdyL (zs : List Int) (k : Nat) (m : SM) : Bool :=
  readyB zs k && fitsB m.stk.length (zs.getD k 0) && (if zs.getD k 0 = 2 ∨ zs.getD k 0 = 3 then decide (zs.getD (k + 1) 0 < m.cells.length) else true)

set_option maxHeartbeats 3200000 in
set_option maxRecDepth 100000 in
theorem ready_end (a : Option Addr) (n c k p : Nat) (w : World) (hk : n ≤ k) (c0 : w.cell? ⟨p, 0, none⟩ = some (.int .i64 k)) :
    Calls Try.prog 114 #[.slice a n c, .pointer (some ⟨p, 0, none⟩)] w fun e w' => e = .returned (.bool false) ∧ Below w.heap.size w w' := by
  have h1 : decide ((n : Int) ≤ (k : Int)) = true := decide_eq_true (by omega)
  go_enter Try.func114, Try.ntmps114
  go_wp2_with fail
  go_ret
  exact ⟨rfl, Below.refl _ _⟩

set_option maxHeartbeats 3200000 in
set_option maxRecDepth 100000 in
theorem ready_op (b off n c k p : Nat) (op : Int) (w : World) (hk : k < n) (c0 : w.cell? ⟨p, 0, none⟩ = some (.int .i64 k)) (h0 : w.cell? ⟨b, off + k, none⟩ = some (.int .i64 op)) (hop : inB op 1 13 = false) :
    Calls Try.prog 114 #[.slice (some ⟨b, off, none⟩) n c, .pointer (some ⟨p, 0, none⟩)] w fun e w' => e = .returned (.bool false) ∧ Below w.heap.size w w' := by
  have h1 : decide ((n : Int) ≤ (k : Int)) = false := decide_eq_false (by omega)
  have q0 : (0 : Int) ≤ (k : Int) := by omega
  have q1 : (k : Int) < (n : Int) := by omega
  have HI : Hid (∀ W, Calls Try.prog 21 #[.int .i64 op, .int .i64 1, .int .i64 13] W fun e w' => e = .returned (.bool false) ∧ w' = W) := fun W => by have := l1In_any op 1 13 W; rwa [hop] at this
  clear hk hop
  go_enter Try.func114, Try.ntmps114
  go_wp2_with (go_at_call 21; refine (HI.out _).mono ?_; rintro e w1 ⟨rfl, rfl⟩)
  go_ret
  exact ⟨rfl, Below.refl _ _⟩

set_option maxHeartbeats 6400000 in
set_option maxRecDepth 100000 in
theorem ready_on (b off n c k p : Nat) (m : SM) (sv cv : Value) (op u : Int) (w : World) (hk : k < n) (hn : n ≤ 400) (hp : w.heap[p]? = some (.cells (lineS m sv cv) 44 (0, 0))) (hpc : m.pc = k) (hs : RowV w sv m.stk) (hc : RowV w cv m.cells) (hsl : m.stk.length ≤ 40) (hcl : m.cells.length ≤ 80) (h0 : w.cell? ⟨b, off + k, none⟩ = some (.int .i64 op)) (hop : inB op 1 13 = true) (h1 : 1 ≤ argN op → k + 1 < n → w.cell? ⟨b, off + (k + 1), none⟩ = some (.int .i64 u)) (R : Bool)
    (hR : R = (decide (k + argN op < n) && fitsB m.stk.length op && (if op = 2 ∨ op = 3 then decide (u < m.cells.length) else true))) :
    Calls Try.prog 114 #[.slice (some ⟨b, off, none⟩) n c, .pointer (some ⟨p, 0, none⟩)] w fun e w' => e = .returned (.bool R) ∧ Below w.heap.size w w' := by
  have e1 : decide ((n : Int) ≤ (k : Int)) = false := decide_eq_false (by omega)
  have q0 : (0 : Int) ≤ (k : Int) := by omega
  have q1 : (k : Int) < (n : Int) := by omega
  obtain ⟨a1, k1, rfl, _, _⟩ := hs
  obtain ⟨a2, k2, rfl, _, _⟩ := hc
  have HP : Hid (w.heap[p]? = _) := hp
  have c0 := (RunS.cells hp).1
  rw [hpc] at c0
  have HI : Hid (∀ W, Calls Try.prog 21 #[.int .i64 op, .int .i64 1, .int .i64 13] W fun e w' => e = .returned (.bool true) ∧ w' = W) := fun W => by have := l1In_any op 1 13 W; rwa [hop] at this
  have HA : Hid (∀ W, Calls Try.prog 73 #[.int .i64 op] W fun e w' => e = .returned (.int .i64 (argN op)) ∧ w' = W) := l8Args_any op
  have HT : Hid (∀ W, Calls Try.prog 123 #[.int .i64 op] W fun e w' => e = .returned (.tuple #[.int .i64 (tkN op), .int .i64 (gvN op)]) ∧ w' = W) := fun W => l8Takes_any op W (inB_iff.1 hop).1 (inB_iff.1 hop).2
  have hA := argN_lo op
  have ht := tkN_lo op
  have hg := gvN_lo op
  have HF : Hid (fitsB m.stk.length op = (decide (tkN op ≤ m.stk.length) && decide (m.stk.length - tkN op + gvN op ≤ 40))) := rfl
  have HA1 : Hid (op = 2 ∨ op = 3 → argN op = 1) := fun h => by rcases h with rfl | rfl <;> rfl
  have H1 : Hid (1 ≤ argN op → k + 1 < n → w.cell? ⟨b, off + (k + 1), none⟩ = some (.int .i64 u)) := h1
  have HR : Hid (R = (decide (k + argN op < n) && fitsB m.stk.length op && (if op = 2 ∨ op = 3 then decide (u < m.cells.length) else true))) := hR
  have HH0 : Hid (w.cell? ⟨b, off + k, none⟩ = some (.int .i64 op)) := h0
  have HPC : Hid (m.pc = k) := hpc
  clear hop h1 hR hp hpc
  generalize hS : m.stk.length = ls at *
  generalize hC : m.cells.length = lc at *
  generalize fitsB ls op = FB at *
  generalize argN op = A at *
  generalize tkN op = tk at *
  generalize gvN op = gv at *
  obtain ⟨A0, A1⟩ := hA
  obtain ⟨t0, t1⟩ := ht
  obtain ⟨g0, g1⟩ := hg
  have Z1 : IntKind.i64.wrap ((k : Int) + A) = (k : Int) + A := IntWalk.i64_in _ ⟨by omega, by omega⟩
  have HN : Hid (n ≤ 400 ∧ k < n) := ⟨hn, hk⟩
  clear hn hk
  go_enter Try.func114, Try.ntmps114
  go_upto_region 5 with (go_at_call 21; refine (HI.out _).mono ?_; rintro e w1 ⟨rfl, hw1⟩; have hw2 := hw1.symm; clear hw1; subst hw2)
  go_cut [43] from 9 (fun x W1 => x = .bool (decide ((n : Int) ≤ (k : Int) + A)) ∧ W1 = w.drew)
  case first =>
    go_region_with (go_at_call 73; refine (HA.out _).mono ?_; rintro e w6 ⟨rfl, rfl⟩)
    all_goals
      go_wp2_with fail
      go_meet
      case rel => exact ⟨rfl, rfl⟩
  case rest =>
  obtain ⟨rfl, rfl⟩ := hcut
  have HB : Hid (Below w.heap.size w w.drew) := (Below.refl _ _).drew
  have HP2 : Hid (w.drew.heap[p]? = some (.cells (lineS m (.slice a1 ls k1) (.slice a2 lc k2)) 44 (0, 0))) := HP.out
  have H12 : Hid (1 ≤ A → k + 1 < n → w.drew.cell? ⟨b, off + (k + 1), none⟩ = some (.int .i64 u)) := H1.out
  clear HP H1 c0 h0 Z1 HI HA HH0
  generalize w.drew = W at *
  obtain ⟨d0, d1, d2, _⟩ := RunS.cells HP2.out
  rw [HPC.out] at d0
  by_cases hA : (n : Int) ≤ (k : Int) + A
  · have hb : decide ((n : Int) ≤ (k : Int) + A) = true := decide_eq_true hA
    have E : Hid (R = false) := by unfold Hid; rw [HR.out, decide_eq_false (by omega : ¬ (k : Int) + A < n)]; rfl
    rw [hb]
    clear HR hA hb
    go_wp2_with fail
    go_ret
    exact ⟨by rw [E.out]; rfl, HB.out⟩
  have hb : decide ((n : Int) ≤ (k : Int) + A) = false := decide_eq_false hA
  rw [decide_eq_true (by omega : (k : Int) + A < n), Bool.true_and] at HR
  rw [hb]
  have HKA : Hid ((k : Int) + A < n) := by show _ < _; omega
  clear hb hA
  by_cases hf1 : tk ≤ ls
  case neg =>
    have E : Hid (R = false) := by unfold Hid; rw [HR.out, HF.out, decide_eq_false hf1]; rfl
    clear HR HF
    go_wp2_with (go_at_call 123; refine (HT.out _).mono ?_; rintro e w6 ⟨rfl, rfl⟩)
    go_ret
    exact ⟨by rw [E.out]; rfl, HB.out⟩
  by_cases hf2 : ls - tk + gv ≤ 40
  case neg =>
    have E : Hid (R = false) := by unfold Hid; rw [HR.out, HF.out, decide_eq_false hf2, Bool.and_false]; rfl
    clear HR HF
    go_wp2_with (go_at_call 123; refine (HT.out _).mono ?_; rintro e w6 ⟨rfl, rfl⟩)
    go_ret
    exact ⟨by rw [E.out]; rfl, HB.out⟩
  rw [decide_eq_true hf1, decide_eq_true hf2] at HF
  have hFB : FB = true := HF.out
  rw [hFB, Bool.true_and] at HR
  clear HF hFB
  by_cases hop : op = 2 ∨ op = 3
  · have hA1 := HA1.out hop
    subst hA1
    have hcu := H12.out (by omega) (by have := HKA.out; omega)
    rw [if_pos hop] at HR
    have hT : (op == 2) = true ∨ ((op == 2) = false ∧ (op == 3) = true) := by
      rcases hop with rfl | rfl
      · exact .inl rfl
      · exact .inr ⟨rfl, rfl⟩
    obtain ⟨L, hL⟩ : ∃ L : Nat, L = k + 1 := ⟨_, rfl⟩
    rw [← hL] at hcu
    have Z1 : IntKind.i64.wrap ((k : Int) + 1) = (L : Int) := by have := HN.out; rw [IntWalk.i64_in _ ⟨by omega, by omega⟩]; omega
    have l0 : (0 : Int) ≤ (L : Int) := by omega
    have l1 : (L : Int) < (n : Int) := by have := HKA.out; omega
    clear hop hL HA1 H12
    rcases hT with e2 | ⟨e2, e3⟩
    all_goals
      go_upto_region 11 with (go_at_call 123; refine (HT.out _).mono ?_; rintro e w6 ⟨rfl, rfl⟩)
      go_region_held3 (fun Z => Z.cell? ⟨p, 0, none⟩ = some (.int .i64 k) ∧ Z.cell? ⟨p, 2, none⟩ = some (.slice a2 lc k2) ∧ Z.cell? ⟨b, off + L, none⟩ = some (.int .i64 u)) (go_keep) (fail)
      go_wp2_with fail
      go_ret
      exact ⟨by rw [HR.out]; rfl, HB.out.drew⟩
  · rw [if_neg hop] at HR
    have hT : (op == 2) = false ∧ (op == 3) = false := by
      refine ⟨?_, ?_⟩ <;> (rw [beq_eq_false_iff_ne]; omega)
    obtain ⟨e2, e3⟩ := hT
    have e4 : decide (op = 2) = false := decide_eq_false (by omega)
    have e5 : decide (op = 3) = false := decide_eq_false (by omega)
    clear hop
    go_wp2_with (go_at_call 123; refine (HT.out _).mono ?_; rintro e w6 ⟨rfl, rfl⟩)
    go_ret
    exact ⟨by rw [HR.out]; rfl, HB.out⟩

theorem l8Ready_any (a : Option Addr) (zs : List Int) (c k p : Nat) (m : SM) (sv cv : Value) (w : World) (hz : Nums w a zs) (hl : zs.length ≤ 400) (hp : w.heap[p]? = some (.cells (lineS m sv cv) 44 (0, 0))) (hpc : m.pc = k) (hs : RowV w sv m.stk) (hc : RowV w cv m.cells) (hsl : m.stk.length ≤ 40) (hcl : m.cells.length ≤ 80) :
    Calls Try.prog 114 #[.slice a zs.length c, .pointer (some ⟨p, 0, none⟩)] w fun e w' => e = .returned (.bool (rdyL zs k m)) ∧ Below w.heap.size w w' := by
  have c0 := (RunS.cells hp).1
  rw [hpc] at c0
  by_cases hk : k < zs.length
  · rcases hz with hz | ⟨b, off, rfl, hcc⟩
    · rw [hz] at hk; simp at hk
    have h0 := hcc k hk
    cases hop : inB (zs.getD k 0) 1 13
    · have e : rdyL zs k m = false := by unfold rdyL readyB; rw [Int.toNat_natCast, hop]; simp
      rw [e]
      exact ready_op b off zs.length c k p (zs.getD k 0) w hk c0 h0 hop
    · refine ready_on b off zs.length c k p m sv cv (zs.getD k 0) (zs.getD (k + 1) 0) w hk hl hp hpc hs hc hsl hcl h0 hop (fun _ h => hcc (k + 1) h) (rdyL zs k m) ?_
      unfold rdyL readyB
      rw [Int.toNat_natCast, hop, decide_eq_true (by omega : (k : Int) < zs.length), Bool.true_and, Bool.true_and]
  · have e : rdyL zs k m = false := by unfold rdyL readyB; rw [decide_eq_false (by omega : ¬ (k : Int) < zs.length)]; simp
    rw [e]
    exact ready_end a zs.length c k p w (by omega) c0
end Go.Proofs.Ytlofagpffeaebaa
namespace Go.Proofs.Ytlofagpffeaebaa
open Go.RowKit
set_option linter.unusedVariables false
attribute [local go_sem ↓] Go.wp_at_zero Go.wp_at_succ

set_option maxHeartbeats 3200000 in
set_option maxRecDepth 100000 in
theorem sdo_1 (B p b off n c k L1 L2 : Nat) (m : SM) (op u v nx : Int) (w : World) (hop : op = 1) (h : RunS B w p m) (hs : m.stk.length ≤ 40) (hk : m.pc = k) (hkn : k < n) (hn : n ≤ 400) (hbB : b < B) (hL1 : L1 = k + 1) (hL2 : L2 = k + 2) (h0 : w.cell? ⟨b, off + k, none⟩ = some (.int .i64 op)) (h1 : w.cell? ⟨b, off + L1, none⟩ = some (.int .i64 u)) (hn1 : L1 < n) (hnx : nx = (k : Int) + 1 + argN op) :
    Calls Try.prog 115 #[.slice (some ⟨b, off, none⟩) n c, .pointer (some ⟨p, 0, none⟩)] w fun e w' => e = .returned (.int .i64 (0)) ∧ (0 = 0 → RunS B w' p (atP (psh m u) nx)) ∧ Below B w w' := by
  have HA : Hid (∀ W, Calls Try.prog 73 #[.int .i64 op] W fun e w' => e = .returned (.int .i64 1) ∧ w' = W) := fun W => by
    have := l8Args_any op W
    rwa [show argN op = 1 from by rw [hop]; rfl] at this
  have hT : (op == 1) = true := by subst hop; exact rfl
  rw [show argN op = 1 from by rw [hop]; rfl] at hnx
  obtain ⟨sv0, cv0, hb0, _⟩ := id h
  have c0 := (RunS.cells hb0).1
  rw [hk] at c0
  have q0 : (0 : Int) ≤ (k : Int) := by omega
  have q1 : (k : Int) < (n : Int) := by omega
  have E1 : (k : Int) + 1 = (L1 : Int) := by omega
  have E2 : (k : Int) + 2 = (L2 : Int) := by omega
  have Z1 : IntKind.i64.wrap ((k : Int) + 1) = (L1 : Int) := by rw [IntWalk.i64_in _ ⟨by omega, by omega⟩]; omega
  have Z1b : IntKind.i64.wrap (L1 : Int) = (L1 : Int) := IntWalk.i64_in _ ⟨by omega, by omega⟩
  have Z2 : IntKind.i64.wrap ((k : Int) + 2) = (L2 : Int) := by rw [IntWalk.i64_in _ ⟨by omega, by omega⟩]; omega
  have Z2b : IntKind.i64.wrap (L2 : Int) = (L2 : Int) := IntWalk.i64_in _ ⟨by omega, by omega⟩
  have Z3 : IntKind.i64.wrap ((L1 : Int) + 1) = nx := by rw [IntWalk.i64_in _ ⟨by omega, by omega⟩]; omega
  have Z3b : IntKind.i64.wrap nx = nx := IntWalk.i64_in _ ⟨by omega, by omega⟩
  have E3 : (L1 : Int) + 1 = nx := by omega
  have p0 : (0 : Int) ≤ (L1 : Int) := by omega
  have p1 : (L1 : Int) < (n : Int) := by omega
  have HR0 : Hid (RunS B w p m) := h
  have HBW : Hid (b < w.heap.size) := by have := h.lt; show b < _; omega
  clear hb0 h hop hkn hn hnx hL1 hL2 hn1
  have e1 := hT
  go_enter Try.func115, Try.ntmps115
  go_upto_region 3 with fail
  go_cut [7] from 23 (fun x W1 => x = .int .i64 nx ∧ W1 = w.drew)
  case first =>
    go_region_with (go_at_call 73; refine (HA.out _).mono ?_; rintro e w6 ⟨rfl, rfl⟩)
    all_goals
      go_wp2_with fail
      go_meet
      case rel => exact ⟨by simp [*], rfl⟩
  case rest =>
  obtain ⟨rfl, rfl⟩ := hcut
  have HR : Hid (RunS B w.drew p m) := HR0.out.heap rfl
  have HB : Hid (Below B w w.drew) := (Below.refl B w).drew
  have x1 : w.drew.cell? ⟨b, off + L1, none⟩ = some (.int .i64 u) := h1
  clear HR0 HA c0 h0 h1
  generalize w.drew = W at *
  go_upto_region 52 with (go_at_call 124; refine (l8Push_any B p m u _ HR.out hs).mono ?_; rintro e w3 ⟨rfl, hr, hb⟩)
  have HRZ : Hid (RunS B w3 p (psh m u)) := hr
  have HBZ : Hid (Below B w w3) := HB.out.trans hb
  obtain ⟨svz, cvz, hbz, _⟩ := id HRZ.out
  have z0 := (RunS.cells hbz).1
  have zf := frozen_of_row _ _ 0 _ _ hbz
  have HF : Hid (RunS B (w3.setCell ⟨p, 0, none⟩ (.int .i64 nx)) p (atP (psh m u) nx)) := HRZ.out.fld (m' := atP (psh m u) nx) 0 _ (fun _ _ => rfl) rfl rfl
  have HPB := HRZ.out.lt.1
  clear hbz
  go_wp2_with fail
  go_ret
  exact ⟨rfl, by first | exact HF.out | exact fun _ => HF.out, HBZ.out.setCell HPB _⟩


set_option maxHeartbeats 3200000 in
set_option maxRecDepth 100000 in
theorem sdo_2 (B p b off n c k L1 L2 : Nat) (m : SM) (op u v nx : Int) (w : World) (hop : op = 2) (h : RunS B w p m) (hs : m.stk.length ≤ 40) (hk : m.pc = k) (hkn : k < n) (hn : n ≤ 400) (hbB : b < B) (hL1 : L1 = k + 1) (hL2 : L2 = k + 2) (h0 : w.cell? ⟨b, off + k, none⟩ = some (.int .i64 op)) (h1 : w.cell? ⟨b, off + L1, none⟩ = some (.int .i64 u)) (hn1 : L1 < n) (hnx : nx = (k : Int) + 1 + argN op) (t : Nat) (hut : u = t) (ht : t < m.cells.length) (hl2 : m.cells.length ≤ 80) (x : Int) (hx : m.cells.getD t 0 = x) :
    Calls Try.prog 115 #[.slice (some ⟨b, off, none⟩) n c, .pointer (some ⟨p, 0, none⟩)] w fun e w' => e = .returned (.int .i64 (0)) ∧ (0 = 0 → RunS B w' p (atP (psh m x) nx)) ∧ Below B w w' := by
  have HA : Hid (∀ W, Calls Try.prog 73 #[.int .i64 op] W fun e w' => e = .returned (.int .i64 1) ∧ w' = W) := fun W => by
    have := l8Args_any op W
    rwa [show argN op = 1 from by rw [hop]; rfl] at this
  have hT : (op == 1) = false ∧ (op == 2) = true := by subst hop; exact ⟨rfl, rfl⟩
  rw [show argN op = 1 from by rw [hop]; rfl] at hnx
  obtain ⟨sv0, cv0, hb0, _⟩ := id h
  have c0 := (RunS.cells hb0).1
  rw [hk] at c0
  have q0 : (0 : Int) ≤ (k : Int) := by omega
  have q1 : (k : Int) < (n : Int) := by omega
  have E1 : (k : Int) + 1 = (L1 : Int) := by omega
  have E2 : (k : Int) + 2 = (L2 : Int) := by omega
  have Z1 : IntKind.i64.wrap ((k : Int) + 1) = (L1 : Int) := by rw [IntWalk.i64_in _ ⟨by omega, by omega⟩]; omega
  have Z1b : IntKind.i64.wrap (L1 : Int) = (L1 : Int) := IntWalk.i64_in _ ⟨by omega, by omega⟩
  have Z2 : IntKind.i64.wrap ((k : Int) + 2) = (L2 : Int) := by rw [IntWalk.i64_in _ ⟨by omega, by omega⟩]; omega
  have Z2b : IntKind.i64.wrap (L2 : Int) = (L2 : Int) := IntWalk.i64_in _ ⟨by omega, by omega⟩
  have Z3 : IntKind.i64.wrap ((L1 : Int) + 1) = nx := by rw [IntWalk.i64_in _ ⟨by omega, by omega⟩]; omega
  have Z3b : IntKind.i64.wrap nx = nx := IntWalk.i64_in _ ⟨by omega, by omega⟩
  have E3 : (L1 : Int) + 1 = nx := by omega
  have p0 : (0 : Int) ≤ (L1 : Int) := by omega
  have p1 : (L1 : Int) < (n : Int) := by omega
  have HR0 : Hid (RunS B w p m) := h
  have HBW : Hid (b < w.heap.size) := by have := h.lt; show b < _; omega
  clear hb0 h hop hkn hn hnx hL1 hL2 hn1
  obtain ⟨e1, e2⟩ := hT
  go_enter Try.func115, Try.ntmps115
  go_upto_region 3 with fail
  go_cut [7] from 23 (fun x W1 => x = .int .i64 nx ∧ W1 = w.drew)
  case first =>
    go_region_with (go_at_call 73; refine (HA.out _).mono ?_; rintro e w6 ⟨rfl, rfl⟩)
    all_goals
      go_wp2_with fail
      go_meet
      case rel => exact ⟨by simp [*], rfl⟩
  case rest =>
  obtain ⟨rfl, rfl⟩ := hcut
  have HR : Hid (RunS B w.drew p m) := HR0.out.heap rfl
  have HB : Hid (Below B w w.drew) := (Below.refl B w).drew
  have x1 : w.drew.cell? ⟨b, off + L1, none⟩ = some (.int .i64 u) := h1
  clear HR0 HA c0 h0 h1
  generalize w.drew = W at *
  obtain ⟨sv, cv, hb, hm⟩ := id HR.out
  obtain ⟨ac, c2, rfl⟩ := own_shape hm.cs
  have hnn := (nums_of_own hm.cs).2
  rcases hnn with hnn | ⟨gc, oc, rfl, hcc⟩
  · rw [hnn] at ht; simp at ht
  have y2 := (RunS.cells hb).2.2.1
  have yt := hcc t ht
  subst hut
  rw [hx] at yt
  clear hx hb hm hcc
  generalize m.cells.length = nc at *
  have t0 : (0 : Int) ≤ (t : Int) := by omega
  have t1 : (t : Int) < (nc : Int) := by omega
  clear ht
  go_upto_region 8 with fail
  go_region_with (go_at_call 124; refine (l8Push_any B p m x _ (HR.out.heap (by rfl)) hs).mono ?_; rintro e w3 ⟨rfl, hr, hb⟩)
  all_goals
    have HRZ : Hid (RunS B w3 p (psh m x)) := hr
    have HBZ : Hid (Below B w w3) := HB.out.drew.trans hb
    clear hr hb HR HB
    obtain ⟨svz, cvz, hbz, _⟩ := id HRZ.out
    have z0 := (RunS.cells hbz).1
    have zf := frozen_of_row _ _ 0 _ _ hbz
    have HF : Hid (RunS B (w3.setCell ⟨p, 0, none⟩ (.int .i64 nx)) p (atP (psh m x) nx)) := HRZ.out.fld (m' := atP (psh m x) nx) 0 _ (fun _ _ => rfl) rfl rfl
    have HPB := HRZ.out.lt.1
    clear hbz
    go_wp2_with fail
    go_ret
    exact ⟨rfl, by first | exact HF.out | exact fun _ => HF.out, HBZ.out.setCell HPB _⟩


set_option maxHeartbeats 3200000 in
set_option maxRecDepth 100000 in
theorem sdo_3 (B p b off n c k L1 L2 : Nat) (m : SM) (op u v nx : Int) (w : World) (hop : op = 3) (h : RunS B w p m) (hs : m.stk.length ≤ 40) (hk : m.pc = k) (hkn : k < n) (hn : n ≤ 400) (hbB : b < B) (hL1 : L1 = k + 1) (hL2 : L2 = k + 2) (h0 : w.cell? ⟨b, off + k, none⟩ = some (.int .i64 op)) (h1 : w.cell? ⟨b, off + L1, none⟩ = some (.int .i64 u)) (hn1 : L1 < n) (hnx : nx = (k : Int) + 1 + argN op) (t : Nat) (hut : u = t) (ht : t < m.cells.length) (hl2 : m.cells.length ≤ 80) (hf : 0 < m.stk.length) :
    Calls Try.prog 115 #[.slice (some ⟨b, off, none⟩) n c, .pointer (some ⟨p, 0, none⟩)] w fun e w' => e = .returned (.int .i64 (0)) ∧ (0 = 0 → RunS B w' p (atP (sto (pop m) t (tp m 0)) nx)) ∧ Below B w w' := by
  have HA : Hid (∀ W, Calls Try.prog 73 #[.int .i64 op] W fun e w' => e = .returned (.int .i64 1) ∧ w' = W) := fun W => by
    have := l8Args_any op W
    rwa [show argN op = 1 from by rw [hop]; rfl] at this
  have hT : (op == 1) = false ∧ (op == 2) = false ∧ (op == 3) = true := by subst hop; exact ⟨rfl, rfl, rfl⟩
  rw [show argN op = 1 from by rw [hop]; rfl] at hnx
  obtain ⟨sv0, cv0, hb0, _⟩ := id h
  have c0 := (RunS.cells hb0).1
  rw [hk] at c0
  have q0 : (0 : Int) ≤ (k : Int) := by omega
  have q1 : (k : Int) < (n : Int) := by omega
  have E1 : (k : Int) + 1 = (L1 : Int) := by omega
  have E2 : (k : Int) + 2 = (L2 : Int) := by omega
  have Z1 : IntKind.i64.wrap ((k : Int) + 1) = (L1 : Int) := by rw [IntWalk.i64_in _ ⟨by omega, by omega⟩]; omega
  have Z1b : IntKind.i64.wrap (L1 : Int) = (L1 : Int) := IntWalk.i64_in _ ⟨by omega, by omega⟩
  have Z2 : IntKind.i64.wrap ((k : Int) + 2) = (L2 : Int) := by rw [IntWalk.i64_in _ ⟨by omega, by omega⟩]; omega
  have Z2b : IntKind.i64.wrap (L2 : Int) = (L2 : Int) := IntWalk.i64_in _ ⟨by omega, by omega⟩
  have Z3 : IntKind.i64.wrap ((L1 : Int) + 1) = nx := by rw [IntWalk.i64_in _ ⟨by omega, by omega⟩]; omega
  have Z3b : IntKind.i64.wrap nx = nx := IntWalk.i64_in _ ⟨by omega, by omega⟩
  have E3 : (L1 : Int) + 1 = nx := by omega
  have p0 : (0 : Int) ≤ (L1 : Int) := by omega
  have p1 : (L1 : Int) < (n : Int) := by omega
  have HR0 : Hid (RunS B w p m) := h
  have HBW : Hid (b < w.heap.size) := by have := h.lt; show b < _; omega
  clear hb0 h hop hkn hn hnx hL1 hL2 hn1
  obtain ⟨e1, e2, e3⟩ := hT
  go_enter Try.func115, Try.ntmps115
  go_upto_region 3 with fail
  go_cut [7] from 23 (fun x W1 => x = .int .i64 nx ∧ W1 = w.drew)
  case first =>
    go_region_with (go_at_call 73; refine (HA.out _).mono ?_; rintro e w6 ⟨rfl, rfl⟩)
    all_goals
      go_wp2_with fail
      go_meet
      case rel => exact ⟨by simp [*], rfl⟩
  case rest =>
  obtain ⟨rfl, rfl⟩ := hcut
  have HR : Hid (RunS B w.drew p m) := HR0.out.heap rfl
  have HB : Hid (Below B w w.drew) := (Below.refl B w).drew
  have x1 : w.drew.cell? ⟨b, off + L1, none⟩ = some (.int .i64 u) := h1
  clear HR0 HA c0 h0 h1
  generalize w.drew = W at *
  subst hut
  go_upto_region 11 with (go_at_call 125; refine (l8Pop_any B p m _ HR.out hf hs).mono ?_; rintro e w3 ⟨rfl, hr, hb⟩)
  obtain ⟨sv, cv, hbl, hm⟩ := id hr
  obtain ⟨ac, c2, rfl⟩ := own_shape hm.cs
  obtain ⟨gc, hgc⟩ : ∃ gc, ac = some ⟨gc, 0, none⟩ := by
    rcases hm.cs.2 with ⟨_, q⟩ | ⟨gc, q2, cur, q, _⟩
    · have : m.cells.length = 0 := q
      omega
    · simp at q; exact ⟨gc, q.1⟩
  subst hgc
  have y2 := (RunS.cells hbl).2.2.1
  obtain ⟨y, hy⟩ : ∃ y, w3.cell? ⟨gc, t, none⟩ = some y := by
    rw [hm.cs.cellAt t (by rw [Nat.mul_one]; exact ht)]; exact ⟨_, List.getElem?_eq_getElem (by rw [List.length_map]; exact ht)⟩
  have hfr := hm.cs.frozenAt t
  have HS3 : Hid (∀ W2 : World, W2.heap = w3.heap → RunS B (W2.setCell ⟨gc, t, none⟩ (.int .i64 (tp m 0))) p (sto (pop m) t (tp m 0))) := fun W2 e => RunS.put (hbl := by rw [e]; exact hbl) (hm.heap e) t (tp m 0)
  have HGB : Hid (B ≤ gc) := hm.lt.2 gc rfl
  have yu : w3.cell? ⟨b, off + L1, none⟩ = some (.int .i64 (t : Int)) := (hb.cell (p := ⟨b, off + L1, none⟩) hbB).trans x1
  have HB3 : Hid (Below B w w3) := HB.out.trans hb
  have e9 : (pop m).cells.length = m.cells.length := rfl
  rw [e9] at y2
  clear hbl hm hr hb e9 HR HB
  generalize m.cells.length = nc at *
  have t0 : (0 : Int) ≤ (t : Int) := by omega
  have t1 : (t : Int) < (nc : Int) := by omega
  clear ht
  go_region
  have HRZ0 : Hid (RunS B (w3.setCell ⟨gc, t, none⟩ (.int .i64 (tp m 0))).drew p (sto (pop m) t (tp m 0))) := (HS3.out w3 rfl).heap rfl
  have HBZ0 : Hid (Below B w (w3.setCell ⟨gc, t, none⟩ (.int .i64 (tp m 0))).drew) := (HB3.out.setCell HGB.out _).drew
  clear HS3 y2 hy hfr yu
  first
    | generalize (w3.setCell ⟨gc, t, none⟩ (.int .i64 (tp m 0))).drew = w5 at *
  have HRZ : Hid (RunS B w5 p (sto (pop m) t (tp m 0))) := HRZ0
  have HBZ : Hid (Below B w w5) := HBZ0
  clear HRZ0 HBZ0
  obtain ⟨svz, cvz, hbz, _⟩ := id HRZ.out
  have z0 := (RunS.cells hbz).1
  have zf := frozen_of_row _ _ 0 _ _ hbz
  have HF : Hid (RunS B (w5.setCell ⟨p, 0, none⟩ (.int .i64 nx)) p (atP (sto (pop m) t (tp m 0)) nx)) := HRZ.out.fld (m' := atP (sto (pop m) t (tp m 0)) nx) 0 _ (fun _ _ => rfl) rfl rfl
  have HPB := HRZ.out.lt.1
  clear hbz
  go_wp2_with fail
  go_ret
  exact ⟨rfl, by first | exact HF.out | exact fun _ => HF.out, HBZ.out.setCell HPB _⟩

end Go.Proofs.Ytlofagpffeaebaa
namespace Go.Proofs.Ytlofagpffeaebaa
open Go.RowKit
set_option linter.unusedVariables false
attribute [local go_sem ↓] Go.wp_at_zero Go.wp_at_succ

set_option maxHeartbeats 3200000 in
set_option maxRecDepth 100000 in
theorem sdo_4 (B p b off n c k L1 L2 : Nat) (m : SM) (op u v nx : Int) (w : World) (hop : op = 4) (h : RunS B w p m) (hs : m.stk.length ≤ 40) (hk : m.pc = k) (hkn : k < n) (hn : n ≤ 400) (hbB : b < B) (hL1 : L1 = k + 1) (hL2 : L2 = k + 2) (h0 : w.cell? ⟨b, off + k, none⟩ = some (.int .i64 op)) (h1 : w.cell? ⟨b, off + L1, none⟩ = some (.int .i64 u)) (hn1 : L1 < n) (h2 : w.cell? ⟨b, off + L2, none⟩ = some (.int .i64 v)) (hn2 : L2 < n) (hnx : nx = (k : Int) + 1 + argN op) (hl2 : m.cells.length ≤ 80) (hf : 0 < m.stk.length) (hu0 : 0 ≤ u) (hu1 : u ≤ 65535) (hv0 : 0 ≤ v) (hv1 : v ≤ 65535) (C V : Int) (hC : C = itemC m.cells.length u v (tp m 0)) (hV : V = itemV m.cells.length u v (tp m 0)) (M : SM) (hM : M = atP (psh (pop m) (m.cells.getD V.toNat 0)) nx) :
    Calls Try.prog 115 #[.slice (some ⟨b, off, none⟩) n c, .pointer (some ⟨p, 0, none⟩)] w fun e w' => e = .returned (.int .i64 (C)) ∧ (C = 0 → RunS B w' p (M)) ∧ Below B w w' := by
  have HA : Hid (∀ W, Calls Try.prog 73 #[.int .i64 op] W fun e w' => e = .returned (.int .i64 2) ∧ w' = W) := fun W => by
    have := l8Args_any op W
    rwa [show argN op = 2 from by rw [hop]; rfl] at this
  have hT : (op == 1) = false ∧ (op == 2) = false ∧ (op == 3) = false ∧ (op == 4) = true := by subst hop; exact ⟨rfl, rfl, rfl, rfl⟩
  rw [show argN op = 2 from by rw [hop]; rfl] at hnx
  obtain ⟨sv0, cv0, hb0, _⟩ := id h
  have c0 := (RunS.cells hb0).1
  rw [hk] at c0
  have q0 : (0 : Int) ≤ (k : Int) := by omega
  have q1 : (k : Int) < (n : Int) := by omega
  have E1 : (k : Int) + 1 = (L1 : Int) := by omega
  have E2 : (k : Int) + 2 = (L2 : Int) := by omega
  have Z1 : IntKind.i64.wrap ((k : Int) + 1) = (L1 : Int) := by rw [IntWalk.i64_in _ ⟨by omega, by omega⟩]; omega
  have Z1b : IntKind.i64.wrap (L1 : Int) = (L1 : Int) := IntWalk.i64_in _ ⟨by omega, by omega⟩
  have Z2 : IntKind.i64.wrap ((k : Int) + 2) = (L2 : Int) := by rw [IntWalk.i64_in _ ⟨by omega, by omega⟩]; omega
  have Z2b : IntKind.i64.wrap (L2 : Int) = (L2 : Int) := IntWalk.i64_in _ ⟨by omega, by omega⟩
  have Z3 : IntKind.i64.wrap ((L1 : Int) + 2) = nx := by rw [IntWalk.i64_in _ ⟨by omega, by omega⟩]; omega
  have Z3b : IntKind.i64.wrap nx = nx := IntWalk.i64_in _ ⟨by omega, by omega⟩
  have E3 : (L1 : Int) + 2 = nx := by omega
  have p0 : (0 : Int) ≤ (L1 : Int) := by omega
  have p1 : (L1 : Int) < (n : Int) := by omega
  have p2 : (0 : Int) ≤ (L2 : Int) := by omega
  have p3 : (L2 : Int) < (n : Int) := by omega
  have HR0 : Hid (RunS B w p m) := h
  have HBW : Hid (b < w.heap.size) := by have := h.lt; show b < _; omega
  clear hb0 h hop hkn hn hnx hL1 hL2 hn1 hn2
  obtain ⟨e1, e2, e3, e4⟩ := hT
  go_enter Try.func115, Try.ntmps115
  go_upto_region 3 with fail
  go_cut [7] from 23 (fun x W1 => x = .int .i64 nx ∧ W1 = w.drew)
  case first =>
    go_region_with (go_at_call 73; refine (HA.out _).mono ?_; rintro e w6 ⟨rfl, rfl⟩)
    all_goals
      go_wp2_with fail
      go_meet
      case rel => exact ⟨by simp [*], rfl⟩
  case rest =>
  obtain ⟨rfl, rfl⟩ := hcut
  have HR : Hid (RunS B w.drew p m) := HR0.out.heap rfl
  have HB : Hid (Below B w w.drew) := (Below.refl B w).drew
  have x1 : w.drew.cell? ⟨b, off + L1, none⟩ = some (.int .i64 u) := h1
  have x2 : w.drew.cell? ⟨b, off + L2, none⟩ = some (.int .i64 v) := h2
  clear HR0 HA c0 h0 h1 h2
  generalize w.drew = W at *
  go_upto_region 14 with (go_at_call 125; refine (l8Pop_any B p m _ HR.out hf hs).mono ?_; rintro e w3 ⟨rfl, hr, hb⟩)
  have HR3 : Hid (RunS B w3 p (pop m)) := hr
  have yu : w3.cell? ⟨b, off + L1, none⟩ = some (.int .i64 u) := (hb.cell (p := ⟨b, off + L1, none⟩) hbB).trans x1
  have yv : w3.cell? ⟨b, off + L2, none⟩ = some (.int .i64 v) := (hb.cell (p := ⟨b, off + L2, none⟩) hbB).trans x2
  have HB3 : Hid (Below B w w3) := HB.out.trans hb
  clear hr hb HR HB
  have HROW : Hid (∀ W, W.heap = w3.heap → Calls Try.prog 126 #[.pointer (some ⟨p, 0, none⟩), .int .i64 u, .int .i64 v, .int .i64 (tp m 0)] W fun e w' => e = .returned (.tuple #[.int .i64 (itemV m.cells.length u v (tp m 0)), .int .i64 (itemC m.cells.length u v (tp m 0))]) ∧ w' = W) := fun W e => by
    obtain ⟨sv, cv, hbl, hm⟩ := HR3.out.heap e
    exact l8Row_any p (pop m) sv cv u v (tp m 0) W hbl (own_row hm.cs) hl2 hu0 hu1 hv0 hv1
  have HIV : Hid (itemC m.cells.length u v (tp m 0) = 0 → 0 ≤ itemV m.cells.length u v (tp m 0) ∧ itemV m.cells.length u v (tp m 0) < m.cells.length) := item_in _ _ _ _ hu0
  have h39 : (pop m).stk.length ≤ 40 := by rw [pop_len]; omega
  rw [← hC, ← hV] at HROW HIV
  have HM : Hid (M = atP (psh (pop m) (m.cells.getD V.toNat 0)) nx) := hM
  clear hC hV hM
  go_cut [10, 11] from 23 (fun s10 s11 W1 => s10 = .int .i64 V ∧ s11 = .int .i64 C ∧ W1 = w3.drew)
  case first =>
    go_region_with (go_at_call 126; refine (HROW.out _ (by rfl)).mono ?_; rintro e w6 ⟨rfl, rfl⟩)
    all_goals
      go_wp2_with fail
      go_meet
      case rel => exact ⟨rfl, rfl, rfl⟩
  case rest =>
  obtain ⟨rfl, rfl, rfl⟩ := hcut
  have HR4 : Hid (RunS B w3.drew p (pop m)) := HR3.out.heap rfl
  have HB4 : Hid (Below B w w3.drew) := HB3.out.drew
  clear HR3 HB3 HROW yu yv
  generalize w3.drew = w4 at *
  by_cases hC : C = 0
  · subst hC
    obtain ⟨t, hVt⟩ := Int.eq_ofNat_of_zero_le (HIV.out rfl).1
    subst hVt
    have ht : t < m.cells.length := by have := (HIV.out rfl).2; omega
    rw [Int.toNat_natCast] at HM
    obtain ⟨sv, cv, hbl, hm⟩ := id HR4.out
    obtain ⟨ac, c2, rfl⟩ := own_shape hm.cs
    have hnn := (nums_of_own hm.cs).2
    rcases hnn with hnn | ⟨gc, oc, rfl, hcc⟩
    · have e9 : (pop m).cells = m.cells := rfl
      rw [e9] at hnn; rw [hnn] at ht; simp at ht
    have y2 := (RunS.cells hbl).2.2.1
    have yt := hcc t ht
    have e9 : (pop m).cells = m.cells := rfl
    rw [e9] at y2 yt
    generalize m.cells.getD t 0 = x at *
    clear hbl hm hcc e9 HIV
    generalize m.cells.length = nc at *
    have t0 : (0 : Int) ≤ (t : Int) := by omega
    have t1 : (t : Int) < (nc : Int) := by omega
    clear ht
    go_upto_region 52 with (go_at_call 124; refine (l8Push_any B p (pop m) x _ HR4.out h39).mono ?_; rintro e w7 ⟨rfl, hr, hb⟩)
    have HRZ : Hid (RunS B w7 p (psh (pop m) x)) := hr
    have HBZ : Hid (Below B w w7) := HB4.out.trans hb
    obtain ⟨svz, cvz, hbz, _⟩ := id HRZ.out
    have z0 := (RunS.cells hbz).1
    have zf := frozen_of_row _ _ 0 _ _ hbz
    have HF : Hid (RunS B (w7.setCell ⟨p, 0, none⟩ (.int .i64 nx)) p (atP (psh (pop m) x) nx)) := HRZ.out.fld (m' := atP (psh (pop m) x) nx) 0 _ (fun _ _ => rfl) rfl rfl
    have HPB := HRZ.out.lt.1
    clear hbz
    go_wp2_with fail
    go_ret
    exact ⟨rfl, by first | (rw [HM.out]; exact HF.out) | (rw [HM.out]; exact fun _ => HF.out) | exact fun _ => (by rw [HM.out]; exact HF.out), HBZ.out.setCell HPB _⟩

  · have eC : (C != 0) = true := by simpa using hC
    have HNC : Hid (¬ C = 0) := hC
    have eD : decide (C = 0) = false := decide_eq_false hC
    clear hC
    go_wp2_with fail
    go_ret
    exact ⟨rfl, by first | trivial | exact fun h => absurd h HNC.out, HB4.out⟩

end Go.Proofs.Ytlofagpffeaebaa
namespace Go.Proofs.Ytlofagpffeaebaa
open Go.RowKit
set_option linter.unusedVariables false
attribute [local go_sem ↓] Go.wp_at_zero Go.wp_at_succ

set_option maxHeartbeats 3200000 in
set_option maxRecDepth 100000 in
theorem sdo_5 (B p b off n c k L1 L2 : Nat) (m : SM) (op u v nx : Int) (w : World) (hop : op = 5) (h : RunS B w p m) (hs : m.stk.length ≤ 40) (hk : m.pc = k) (hkn : k < n) (hn : n ≤ 400) (hbB : b < B) (hL1 : L1 = k + 1) (hL2 : L2 = k + 2) (h0 : w.cell? ⟨b, off + k, none⟩ = some (.int .i64 op)) (h1 : w.cell? ⟨b, off + L1, none⟩ = some (.int .i64 u)) (hn1 : L1 < n) (h2 : w.cell? ⟨b, off + L2, none⟩ = some (.int .i64 v)) (hn2 : L2 < n) (hnx : nx = (k : Int) + 1 + argN op) (hl2 : m.cells.length ≤ 80) (hf : 1 < m.stk.length) (hu0 : 0 ≤ u) (hu1 : u ≤ 65535) (hv0 : 0 ≤ v) (hv1 : v ≤ 65535) (C V : Int) (hC : C = itemC m.cells.length u v (tp m 1)) (hV : V = itemV m.cells.length u v (tp m 1)) (M : SM) (hM : M = atP (sto (pop (pop m)) V.toNat (tp m 0)) nx) :
    Calls Try.prog 115 #[.slice (some ⟨b, off, none⟩) n c, .pointer (some ⟨p, 0, none⟩)] w fun e w' => e = .returned (.int .i64 (C)) ∧ (C = 0 → RunS B w' p (M)) ∧ Below B w w' := by
  have HA : Hid (∀ W, Calls Try.prog 73 #[.int .i64 op] W fun e w' => e = .returned (.int .i64 2) ∧ w' = W) := fun W => by
    have := l8Args_any op W
    rwa [show argN op = 2 from by rw [hop]; rfl] at this
  have hT : (op == 1) = false ∧ (op == 2) = false ∧ (op == 3) = false ∧ (op == 4) = false ∧ (op == 5) = true := by subst hop; exact ⟨rfl, rfl, rfl, rfl, rfl⟩
  rw [show argN op = 2 from by rw [hop]; rfl] at hnx
  obtain ⟨sv0, cv0, hb0, _⟩ := id h
  have c0 := (RunS.cells hb0).1
  rw [hk] at c0
  have q0 : (0 : Int) ≤ (k : Int) := by omega
  have q1 : (k : Int) < (n : Int) := by omega
  have E1 : (k : Int) + 1 = (L1 : Int) := by omega
  have E2 : (k : Int) + 2 = (L2 : Int) := by omega
  have Z1 : IntKind.i64.wrap ((k : Int) + 1) = (L1 : Int) := by rw [IntWalk.i64_in _ ⟨by omega, by omega⟩]; omega
  have Z1b : IntKind.i64.wrap (L1 : Int) = (L1 : Int) := IntWalk.i64_in _ ⟨by omega, by omega⟩
  have Z2 : IntKind.i64.wrap ((k : Int) + 2) = (L2 : Int) := by rw [IntWalk.i64_in _ ⟨by omega, by omega⟩]; omega
  have Z2b : IntKind.i64.wrap (L2 : Int) = (L2 : Int) := IntWalk.i64_in _ ⟨by omega, by omega⟩
  have Z3 : IntKind.i64.wrap ((L1 : Int) + 2) = nx := by rw [IntWalk.i64_in _ ⟨by omega, by omega⟩]; omega
  have Z3b : IntKind.i64.wrap nx = nx := IntWalk.i64_in _ ⟨by omega, by omega⟩
  have E3 : (L1 : Int) + 2 = nx := by omega
  have p0 : (0 : Int) ≤ (L1 : Int) := by omega
  have p1 : (L1 : Int) < (n : Int) := by omega
  have p2 : (0 : Int) ≤ (L2 : Int) := by omega
  have p3 : (L2 : Int) < (n : Int) := by omega
  have HR0 : Hid (RunS B w p m) := h
  have HBW : Hid (b < w.heap.size) := by have := h.lt; show b < _; omega
  clear hb0 h hop hkn hn hnx hL1 hL2 hn1 hn2
  obtain ⟨e1, e2, e3, e4, e5⟩ := hT
  go_enter Try.func115, Try.ntmps115
  go_upto_region 3 with fail
  go_cut [7] from 23 (fun x W1 => x = .int .i64 nx ∧ W1 = w.drew)
  case first =>
    go_region_with (go_at_call 73; refine (HA.out _).mono ?_; rintro e w6 ⟨rfl, rfl⟩)
    all_goals
      go_wp2_with fail
      go_meet
      case rel => exact ⟨by simp [*], rfl⟩
  case rest =>
  obtain ⟨rfl, rfl⟩ := hcut
  have HR : Hid (RunS B w.drew p m) := HR0.out.heap rfl
  have HB : Hid (Below B w w.drew) := (Below.refl B w).drew
  have x1 : w.drew.cell? ⟨b, off + L1, none⟩ = some (.int .i64 u) := h1
  have x2 : w.drew.cell? ⟨b, off + L2, none⟩ = some (.int .i64 v) := h2
  clear HR0 HA c0 h0 h1 h2
  generalize w.drew = W at *
  have h39 : 0 < (pop m).stk.length := by rw [pop_len]; omega
  have h38 : (pop m).stk.length ≤ 40 := by rw [pop_len]; omega
  have HTP : Hid (tp (pop m) 0 = tp m 1) := tp_pop m hf
  have HP2 : Hid (∀ W, RunS B W p (pop m) → Calls Try.prog 125 #[.pointer (some ⟨p, 0, none⟩)] W fun e w' => e = .returned (.int .i64 (tp m 1)) ∧ RunS B w' p (pop (pop m)) ∧ Below B W w') := fun W hr => by
    have := l8Pop_any B p (pop m) W hr h39 h38
    rwa [HTP.out] at this
  go_upto_region 20 with (go_at_call 125; refine (l8Pop_any B p m _ HR.out (by omega) hs).mono ?_; rintro e w2 ⟨rfl, hr2, hb2⟩)
  go_upto_region 21 with (go_at_call 125; refine (HP2.out _ hr2).mono ?_; rintro e w3 ⟨rfl, hr, hb3⟩)
  have hb := hb2.trans hb3
  have HR3 : Hid (RunS B w3 p (pop (pop m))) := hr
  have yu : w3.cell? ⟨b, off + L1, none⟩ = some (.int .i64 u) := (hb.cell (p := ⟨b, off + L1, none⟩) hbB).trans x1
  have yv : w3.cell? ⟨b, off + L2, none⟩ = some (.int .i64 v) := (hb.cell (p := ⟨b, off + L2, none⟩) hbB).trans x2
  have HB3 : Hid (Below B w w3) := HB.out.trans hb
  clear hr hr2 hb hb2 hb3 HR HB HP2 HTP
  have HROW : Hid (∀ W, W.heap = w3.heap → Calls Try.prog 126 #[.pointer (some ⟨p, 0, none⟩), .int .i64 u, .int .i64 v, .int .i64 (tp m 1)] W fun e w' => e = .returned (.tuple #[.int .i64 (itemV m.cells.length u v (tp m 1)), .int .i64 (itemC m.cells.length u v (tp m 1))]) ∧ w' = W) := fun W e => by
    obtain ⟨sv, cv, hbl, hm⟩ := HR3.out.heap e
    exact l8Row_any p (pop (pop m)) sv cv u v (tp m 1) W hbl (own_row hm.cs) hl2 hu0 hu1 hv0 hv1
  have HIV : Hid (itemC m.cells.length u v (tp m 1) = 0 → 0 ≤ itemV m.cells.length u v (tp m 1) ∧ itemV m.cells.length u v (tp m 1) < m.cells.length) := item_in _ _ _ _ hu0
  rw [← hC, ← hV] at HROW HIV
  have HM : Hid (M = atP (sto (pop (pop m)) V.toNat (tp m 0)) nx) := hM
  clear hC hV hM
  go_cut [14, 15] from 23 (fun s10 s11 W1 => s10 = .int .i64 V ∧ s11 = .int .i64 C ∧ W1 = w3.drew)
  case first =>
    go_region_with (go_at_call 126; refine (HROW.out _ (by rfl)).mono ?_; rintro e w6 ⟨rfl, rfl⟩)
    all_goals
      go_wp2_with fail
      go_meet
      case rel => exact ⟨rfl, rfl, rfl⟩
  case rest =>
  obtain ⟨rfl, rfl, rfl⟩ := hcut
  have HR4 : Hid (RunS B w3.drew p (pop (pop m))) := HR3.out.heap rfl
  have HB4 : Hid (Below B w w3.drew) := HB3.out.drew
  clear HR3 HB3 HROW yu yv
  generalize w3.drew = w4 at *
  by_cases hC : C = 0
  · subst hC
    obtain ⟨t, hVt⟩ := Int.eq_ofNat_of_zero_le (HIV.out rfl).1
    subst hVt
    have ht : t < m.cells.length := by have := (HIV.out rfl).2; omega
    rw [Int.toNat_natCast] at HM
    obtain ⟨sv, cv, hbl, hm⟩ := id HR4.out
    obtain ⟨ac, c2, rfl⟩ := own_shape hm.cs
    obtain ⟨gc, hgc⟩ : ∃ gc, ac = some ⟨gc, 0, none⟩ := by
      rcases hm.cs.2 with ⟨_, q⟩ | ⟨gc, q2, cur, q, _⟩
      · have : m.cells.length = 0 := q
        omega
      · simp at q; exact ⟨gc, q.1⟩
    subst hgc
    have y2 := (RunS.cells hbl).2.2.1
    obtain ⟨y, hy⟩ : ∃ y, w4.cell? ⟨gc, t, none⟩ = some y := by
      rw [hm.cs.cellAt t (by rw [Nat.mul_one]; exact ht)]; exact ⟨_, List.getElem?_eq_getElem (by rw [List.length_map]; exact ht)⟩
    have hfr := hm.cs.frozenAt t
    have HRZ0 : Hid (RunS B (w4.setCell ⟨gc, t, none⟩ (.int .i64 (tp m 0))) p (sto (pop (pop m)) t (tp m 0))) := RunS.put (hbl := hbl) hm t (tp m 0)
    have HBZ0 : Hid (Below B w (w4.setCell ⟨gc, t, none⟩ (.int .i64 (tp m 0)))) := HB4.out.setCell (hm.lt.2 gc rfl) _
    have e9 : (pop (pop m)).cells.length = m.cells.length := rfl
    rw [e9] at y2
    clear hbl hm e9 HR4 HB4 HIV
    generalize m.cells.length = nc at *
    have t0 : (0 : Int) ≤ (t : Int) := by omega
    have t1 : (t : Int) < (nc : Int) := by omega
    clear ht
    go_upto_region 52 with fail
    generalize w4.setCell ⟨gc, t, none⟩ (.int .i64 (tp m 0)) = w7 at *
    have HRZ : Hid (RunS B w7 p (sto (pop (pop m)) t (tp m 0))) := HRZ0
    have HBZ : Hid (Below B w w7) := HBZ0
    clear HRZ0 HBZ0
    obtain ⟨svz, cvz, hbz, _⟩ := id HRZ.out
    have z0 := (RunS.cells hbz).1
    have zf := frozen_of_row _ _ 0 _ _ hbz
    have HF : Hid (RunS B (w7.setCell ⟨p, 0, none⟩ (.int .i64 nx)) p (atP (sto (pop (pop m)) t (tp m 0)) nx)) := HRZ.out.fld (m' := atP (sto (pop (pop m)) t (tp m 0)) nx) 0 _ (fun _ _ => rfl) rfl rfl
    have HPB := HRZ.out.lt.1
    clear hbz
    go_wp2_with fail
    go_ret
    exact ⟨rfl, by first | (rw [HM.out]; exact HF.out) | (rw [HM.out]; exact fun _ => HF.out) | exact fun _ => (by rw [HM.out]; exact HF.out), HBZ.out.setCell HPB _⟩

  · have eC : (C != 0) = true := by simpa using hC
    have HNC : Hid (¬ C = 0) := hC
    have eD : decide (C = 0) = false := decide_eq_false hC
    clear hC
    go_wp2_with fail
    go_ret
    exact ⟨rfl, by first | trivial | exact fun h => absurd h HNC.out, HB4.out⟩

end Go.Proofs.Ytlofagpffeaebaa
namespace Go.Proofs.Ytlofagpffeaebaa
open Go.RowKit
set_option linter.unusedVariables false
attribute [local go_sem ↓] Go.wp_at_zero Go.wp_at_succ

set_option maxHeartbeats 3200000 in
set_option maxRecDepth 100000 in
theorem sdo_6 (B p b off n c k L1 L2 : Nat) (m : SM) (op u v nx : Int) (w : World) (hop : op = 6) (h : RunS B w p m) (hs : m.stk.length ≤ 40) (hk : m.pc = k) (hkn : k < n) (hn : n ≤ 400) (hbB : b < B) (hL1 : L1 = k + 1) (hL2 : L2 = k + 2) (h0 : w.cell? ⟨b, off + k, none⟩ = some (.int .i64 op)) (h1 : w.cell? ⟨b, off + L1, none⟩ = some (.int .i64 u)) (hn1 : L1 < n) (hnx : nx = (k : Int) + 1 + argN op) (hf : 1 < m.stk.length) (D V : Int) (hD0 : D = twoC u (tp m 0)) (hV : V = binV u (tp m 1) (tp m 0)) (M : SM) (hM : M = atP (psh (pop (pop m)) V) nx) :
    Calls Try.prog 115 #[.slice (some ⟨b, off, none⟩) n c, .pointer (some ⟨p, 0, none⟩)] w fun e w' => e = .returned (.int .i64 (D)) ∧ (D = 0 → RunS B w' p (M)) ∧ Below B w w' := by
  have HA : Hid (∀ W, Calls Try.prog 73 #[.int .i64 op] W fun e w' => e = .returned (.int .i64 1) ∧ w' = W) := fun W => by
    have := l8Args_any op W
    rwa [show argN op = 1 from by rw [hop]; rfl] at this
  have hT : (op == 1) = false ∧ (op == 2) = false ∧ (op == 3) = false ∧ (op == 4) = false ∧ (op == 5) = false ∧ (op == 6) = true := by subst hop; exact ⟨rfl, rfl, rfl, rfl, rfl, rfl⟩
  rw [show argN op = 1 from by rw [hop]; rfl] at hnx
  obtain ⟨sv0, cv0, hb0, _⟩ := id h
  have c0 := (RunS.cells hb0).1
  rw [hk] at c0
  have q0 : (0 : Int) ≤ (k : Int) := by omega
  have q1 : (k : Int) < (n : Int) := by omega
  have E1 : (k : Int) + 1 = (L1 : Int) := by omega
  have E2 : (k : Int) + 2 = (L2 : Int) := by omega
  have Z1 : IntKind.i64.wrap ((k : Int) + 1) = (L1 : Int) := by rw [IntWalk.i64_in _ ⟨by omega, by omega⟩]; omega
  have Z1b : IntKind.i64.wrap (L1 : Int) = (L1 : Int) := IntWalk.i64_in _ ⟨by omega, by omega⟩
  have Z2 : IntKind.i64.wrap ((k : Int) + 2) = (L2 : Int) := by rw [IntWalk.i64_in _ ⟨by omega, by omega⟩]; omega
  have Z2b : IntKind.i64.wrap (L2 : Int) = (L2 : Int) := IntWalk.i64_in _ ⟨by omega, by omega⟩
  have Z3 : IntKind.i64.wrap ((L1 : Int) + 1) = nx := by rw [IntWalk.i64_in _ ⟨by omega, by omega⟩]; omega
  have Z3b : IntKind.i64.wrap nx = nx := IntWalk.i64_in _ ⟨by omega, by omega⟩
  have E3 : (L1 : Int) + 1 = nx := by omega
  have p0 : (0 : Int) ≤ (L1 : Int) := by omega
  have p1 : (L1 : Int) < (n : Int) := by omega
  have HR0 : Hid (RunS B w p m) := h
  have HBW : Hid (b < w.heap.size) := by have := h.lt; show b < _; omega
  clear hb0 h hop hkn hn hnx hL1 hL2 hn1
  obtain ⟨e1, e2, e3, e4, e5, e6⟩ := hT
  go_enter Try.func115, Try.ntmps115
  go_upto_region 3 with fail
  go_cut [7] from 23 (fun x W1 => x = .int .i64 nx ∧ W1 = w.drew)
  case first =>
    go_region_with (go_at_call 73; refine (HA.out _).mono ?_; rintro e w6 ⟨rfl, rfl⟩)
    all_goals
      go_wp2_with fail
      go_meet
      case rel => exact ⟨by simp [*], rfl⟩
  case rest =>
  obtain ⟨rfl, rfl⟩ := hcut
  have HR : Hid (RunS B w.drew p m) := HR0.out.heap rfl
  have HB : Hid (Below B w w.drew) := (Below.refl B w).drew
  have x1 : w.drew.cell? ⟨b, off + L1, none⟩ = some (.int .i64 u) := h1
  clear HR0 HA c0 h0 h1
  generalize w.drew = W at *
  have h39 : 0 < (pop m).stk.length := by rw [pop_len]; omega
  have h38 : (pop m).stk.length ≤ 40 := by rw [pop_len]; omega
  have h37 : (pop (pop m)).stk.length ≤ 40 := by rw [pop_len]; omega
  have HTP : Hid (tp (pop m) 0 = tp m 1) := tp_pop m hf
  have HP2 : Hid (∀ W, RunS B W p (pop m) → Calls Try.prog 125 #[.pointer (some ⟨p, 0, none⟩)] W fun e w' => e = .returned (.int .i64 (tp m 1)) ∧ RunS B w' p (pop (pop m)) ∧ Below B W w') := fun W hr => by
    have := l8Pop_any B p (pop m) W hr h39 h38
    rwa [HTP.out] at this
  go_upto_region 27 with (go_at_call 125; refine (l8Pop_any B p m _ HR.out (by omega) hs).mono ?_; rintro e w2 ⟨rfl, hr2, hb2⟩)
  go_upto_region 28 with (go_at_call 125; refine (HP2.out _ hr2).mono ?_; rintro e w3 ⟨rfl, hr, hb3⟩)
  have hb := hb2.trans hb3
  have HR3 : Hid (RunS B w3 p (pop (pop m))) := hr
  have yu : w3.cell? ⟨b, off + L1, none⟩ = some (.int .i64 u) := (hb.cell (p := ⟨b, off + L1, none⟩) hbB).trans x1
  have HB3 : Hid (Below B w w3) := HB.out.trans hb
  have HBI : Hid (∀ W, Calls Try.prog 127 #[.int .i64 u, .int .i64 (tp m 1), .int .i64 (tp m 0)] W fun e w' => e = .returned (.tuple #[.int .i64 (binV u (tp m 1) (tp m 0)), .int .i64 (binC u (tp m 0))]) ∧ w' = W) := fun W => l2_any u (tp m 1) (tp m 0) W
  have HTC : Hid (twoC u (tp m 0) = if binC u (tp m 0) = 3 then 1 else binC u (tp m 0)) := rfl
  clear hr hr2 hb hb2 hb3 HR HB HP2 HTP
  rw [← hD0] at HTC
  rw [← hV] at HBI
  have HM : Hid (M = atP (psh (pop (pop m)) V) nx) := hM
  clear hD0 hV hM
  generalize binC u (tp m 0) = C at *
  by_cases h3 : C = 3
  · subst h3
    have hD : D = 1 := HTC.out
    subst hD
    go_wp2_with (go_at_call 127; refine (HBI.out _).mono ?_; rintro e w6 ⟨rfl, rfl⟩)
    go_ret
    exact ⟨rfl, by first | trivial | exact fun h => absurd h (by decide), HB3.out⟩
  have hD : D = C := HTC.out.trans (if_neg h3)
  subst hD
  have e3 : (D == 3) = false := by simpa using h3
  by_cases hC : D = 0
  · subst hC
    go_upto_region 52 with (first | (go_at_call 127; refine (HBI.out _).mono ?_; rintro e w6 ⟨rfl, rfl⟩) | (go_at_call 124; refine (l8Push_any B p (pop (pop m)) V _ HR3.out h37).mono ?_; rintro e w7 ⟨rfl, hr, hb⟩))
    have HRZ : Hid (RunS B w7 p (psh (pop (pop m)) V)) := hr
    have HBZ : Hid (Below B w w7) := HB3.out.trans hb
    obtain ⟨svz, cvz, hbz, _⟩ := id HRZ.out
    have z0 := (RunS.cells hbz).1
    have zf := frozen_of_row _ _ 0 _ _ hbz
    have HF : Hid (RunS B (w7.setCell ⟨p, 0, none⟩ (.int .i64 nx)) p (atP (psh (pop (pop m)) V) nx)) := HRZ.out.fld (m' := atP (psh (pop (pop m)) V) nx) 0 _ (fun _ _ => rfl) rfl rfl
    have HPB := HRZ.out.lt.1
    clear hbz
    go_wp2_with fail
    go_ret
    exact ⟨rfl, by first | (rw [HM.out]; exact HF.out) | (rw [HM.out]; exact fun _ => HF.out) | exact fun _ => (by rw [HM.out]; exact HF.out), HBZ.out.setCell HPB _⟩

  · have eC : (D != 0) = true := by simpa using hC
    have HNC : Hid (¬ D = 0) := hC
    clear hC h3
    go_wp2_with (go_at_call 127; refine (HBI.out _).mono ?_; rintro e w6 ⟨rfl, rfl⟩)
    go_ret
    exact ⟨rfl, by first | trivial | exact fun h => absurd h HNC.out, HB3.out⟩


set_option maxHeartbeats 3200000 in
set_option maxRecDepth 100000 in
theorem sdo_10 (B p b off n c k L1 L2 : Nat) (m : SM) (op u v nx : Int) (w : World) (hop : op = 10) (h : RunS B w p m) (hs : m.stk.length ≤ 40) (hk : m.pc = k) (hkn : k < n) (hn : n ≤ 400) (hbB : b < B) (hL1 : L1 = k + 1) (hL2 : L2 = k + 2) (h0 : w.cell? ⟨b, off + k, none⟩ = some (.int .i64 op)) (h1 : w.cell? ⟨b, off + L1, none⟩ = some (.int .i64 u)) (hn1 : L1 < n) (hnx : nx = (k : Int) + 1 + argN op) :
    Calls Try.prog 115 #[.slice (some ⟨b, off, none⟩) n c, .pointer (some ⟨p, 0, none⟩)] w fun e w' => e = .returned (.int .i64 (0)) ∧ (0 = 0 → RunS B w' p (atP m u)) ∧ Below B w w' := by
  have HA : Hid (∀ W, Calls Try.prog 73 #[.int .i64 op] W fun e w' => e = .returned (.int .i64 1) ∧ w' = W) := fun W => by
    have := l8Args_any op W
    rwa [show argN op = 1 from by rw [hop]; rfl] at this
  have hT : (op == 1) = false ∧ (op == 2) = false ∧ (op == 3) = false ∧ (op == 4) = false ∧ (op == 5) = false ∧ (op == 6) = false ∧ (op == 7) = false ∧ (op == 8) = false ∧ (op == 9) = false ∧ (op == 10) = true := by subst hop; exact ⟨rfl, rfl, rfl, rfl, rfl, rfl, rfl, rfl, rfl, rfl⟩
  rw [show argN op = 1 from by rw [hop]; rfl] at hnx
  obtain ⟨sv0, cv0, hb0, _⟩ := id h
  have c0 := (RunS.cells hb0).1
  rw [hk] at c0
  have q0 : (0 : Int) ≤ (k : Int) := by omega
  have q1 : (k : Int) < (n : Int) := by omega
  have E1 : (k : Int) + 1 = (L1 : Int) := by omega
  have E2 : (k : Int) + 2 = (L2 : Int) := by omega
  have Z1 : IntKind.i64.wrap ((k : Int) + 1) = (L1 : Int) := by rw [IntWalk.i64_in _ ⟨by omega, by omega⟩]; omega
  have Z1b : IntKind.i64.wrap (L1 : Int) = (L1 : Int) := IntWalk.i64_in _ ⟨by omega, by omega⟩
  have Z2 : IntKind.i64.wrap ((k : Int) + 2) = (L2 : Int) := by rw [IntWalk.i64_in _ ⟨by omega, by omega⟩]; omega
  have Z2b : IntKind.i64.wrap (L2 : Int) = (L2 : Int) := IntWalk.i64_in _ ⟨by omega, by omega⟩
  have Z3 : IntKind.i64.wrap ((L1 : Int) + 1) = nx := by rw [IntWalk.i64_in _ ⟨by omega, by omega⟩]; omega
  have Z3b : IntKind.i64.wrap nx = nx := IntWalk.i64_in _ ⟨by omega, by omega⟩
  have E3 : (L1 : Int) + 1 = nx := by omega
  have p0 : (0 : Int) ≤ (L1 : Int) := by omega
  have p1 : (L1 : Int) < (n : Int) := by omega
  have HR0 : Hid (RunS B w p m) := h
  have HBW : Hid (b < w.heap.size) := by have := h.lt; show b < _; omega
  clear hb0 h hop hkn hn hnx hL1 hL2 hn1
  obtain ⟨e1, e2, e3, e4, e5, e6, e7, e8, e9, e10⟩ := hT
  go_enter Try.func115, Try.ntmps115
  go_upto_region 3 with fail
  go_cut [7] from 23 (fun x W1 => x = .int .i64 nx ∧ W1 = w.drew)
  case first =>
    go_region_with (go_at_call 73; refine (HA.out _).mono ?_; rintro e w6 ⟨rfl, rfl⟩)
    all_goals
      go_wp2_with fail
      go_meet
      case rel => exact ⟨by simp [*], rfl⟩
  case rest =>
  obtain ⟨rfl, rfl⟩ := hcut
  have HR : Hid (RunS B w.drew p m) := HR0.out.heap rfl
  have HB : Hid (Below B w w.drew) := (Below.refl B w).drew
  have x1 : w.drew.cell? ⟨b, off + L1, none⟩ = some (.int .i64 u) := h1
  clear HR0 HA c0 h0 h1
  generalize w.drew = W at *
  have HRZ : Hid (RunS B W p m) := HR.out
  have HBZ : Hid (Below B w W) := HB.out
  go_upto_region 52 with fail
  obtain ⟨svz, cvz, hbz, _⟩ := id HRZ.out
  have z0 := (RunS.cells hbz).1
  have zf := frozen_of_row _ _ 0 _ _ hbz
  have HF : Hid (RunS B (W.setCell ⟨p, 0, none⟩ (.int .i64 u)) p (atP m u)) := HRZ.out.fld (m' := atP m u) 0 _ (fun _ _ => rfl) rfl rfl
  have HPB := HRZ.out.lt.1
  clear hbz
  go_wp2_with fail
  go_ret
  exact ⟨rfl, by first | exact HF.out | exact fun _ => HF.out, HBZ.out.setCell HPB _⟩

end Go.Proofs.Ytlofagpffeaebaa
namespace Go.Proofs.Ytlofagpffeaebaa
open Go.RowKit
set_option linter.unusedVariables false
attribute [local go_sem ↓] Go.wp_at_zero Go.wp_at_succ

set_option maxHeartbeats 3200000 in
set_option maxRecDepth 100000 in
theorem sdo_7 (B p b off n c k L1 L2 : Nat) (m : SM) (op u v nx : Int) (w : World) (hop : op = 7) (h : RunS B w p m) (hs : m.stk.length ≤ 40) (hk : m.pc = k) (hkn : k < n) (hn : n ≤ 400) (hbB : b < B) (hL1 : L1 = k + 1) (hL2 : L2 = k + 2) (h0 : w.cell? ⟨b, off + k, none⟩ = some (.int .i64 op)) (hnx : nx = (k : Int) + 1 + argN op) (hf : 0 < m.stk.length) :
    Calls Try.prog 115 #[.slice (some ⟨b, off, none⟩) n c, .pointer (some ⟨p, 0, none⟩)] w fun e w' => e = .returned (.int .i64 (0)) ∧ (0 = 0 → RunS B w' p (atP (psh (pop m) (wd (-(tp m 0)))) nx)) ∧ Below B w w' := by
  have HA : Hid (∀ W, Calls Try.prog 73 #[.int .i64 op] W fun e w' => e = .returned (.int .i64 0) ∧ w' = W) := fun W => by
    have := l8Args_any op W
    rwa [show argN op = 0 from by rw [hop]; rfl] at this
  have hT : (op == 1) = false ∧ (op == 2) = false ∧ (op == 3) = false ∧ (op == 4) = false ∧ (op == 5) = false ∧ (op == 6) = false ∧ (op == 7) = true := by subst hop; exact ⟨rfl, rfl, rfl, rfl, rfl, rfl, rfl⟩
  rw [show argN op = 0 from by rw [hop]; rfl] at hnx
  obtain ⟨sv0, cv0, hb0, _⟩ := id h
  have c0 := (RunS.cells hb0).1
  rw [hk] at c0
  have q0 : (0 : Int) ≤ (k : Int) := by omega
  have q1 : (k : Int) < (n : Int) := by omega
  have E1 : (k : Int) + 1 = (L1 : Int) := by omega
  have E2 : (k : Int) + 2 = (L2 : Int) := by omega
  have Z1 : IntKind.i64.wrap ((k : Int) + 1) = (L1 : Int) := by rw [IntWalk.i64_in _ ⟨by omega, by omega⟩]; omega
  have Z1b : IntKind.i64.wrap (L1 : Int) = (L1 : Int) := IntWalk.i64_in _ ⟨by omega, by omega⟩
  have Z2 : IntKind.i64.wrap ((k : Int) + 2) = (L2 : Int) := by rw [IntWalk.i64_in _ ⟨by omega, by omega⟩]; omega
  have Z2b : IntKind.i64.wrap (L2 : Int) = (L2 : Int) := IntWalk.i64_in _ ⟨by omega, by omega⟩
  have Z3 : IntKind.i64.wrap ((L1 : Int) + 0) = nx := by rw [IntWalk.i64_in _ ⟨by omega, by omega⟩]; omega
  have Z3b : IntKind.i64.wrap nx = nx := IntWalk.i64_in _ ⟨by omega, by omega⟩
  have E3 : (L1 : Int) = nx := by omega
  have HR0 : Hid (RunS B w p m) := h
  have HBW : Hid (b < w.heap.size) := by have := h.lt; show b < _; omega
  clear hb0 h hop hkn hn hnx hL1 hL2
  obtain ⟨e1, e2, e3, e4, e5, e6, e7⟩ := hT
  go_enter Try.func115, Try.ntmps115
  go_upto_region 3 with fail
  go_cut [7] from 23 (fun x W1 => x = .int .i64 nx ∧ W1 = w.drew)
  case first =>
    go_region_with (go_at_call 73; refine (HA.out _).mono ?_; rintro e w6 ⟨rfl, rfl⟩)
    all_goals
      go_wp2_with fail
      go_meet
      case rel => exact ⟨by simp [*], rfl⟩
  case rest =>
  obtain ⟨rfl, rfl⟩ := hcut
  have HR : Hid (RunS B w.drew p m) := HR0.out.heap rfl
  have HB : Hid (Below B w w.drew) := (Below.refl B w).drew
  clear HR0 HA c0 h0
  generalize w.drew = W at *
  have h39 : (pop m).stk.length ≤ 40 := by rw [pop_len]; omega
  go_upto_region 36 with (go_at_call 125; refine (l8Pop_any B p m _ HR.out hf hs).mono ?_; rintro e w3 ⟨rfl, hr3, hb3⟩)
  go_upto_region 52 with (first | (go_at_call 128; refine (specNegOf _ _).mono ?_; rintro e w6 ⟨rfl, rfl⟩) | (go_at_call 124; refine (l8Push_any B p (pop m) (wd (-(tp m 0))) _ hr3 h39).mono ?_; rintro e w7 ⟨rfl, hr, hb⟩))
  have HRZ : Hid (RunS B w7 p (psh (pop m) (wd (-(tp m 0))))) := hr
  have HBZ : Hid (Below B w w7) := (HB.out.trans hb3).trans hb
  obtain ⟨svz, cvz, hbz, _⟩ := id HRZ.out
  have z0 := (RunS.cells hbz).1
  have zf := frozen_of_row _ _ 0 _ _ hbz
  have HF : Hid (RunS B (w7.setCell ⟨p, 0, none⟩ (.int .i64 nx)) p (atP (psh (pop m) (wd (-(tp m 0)))) nx)) := HRZ.out.fld (m' := atP (psh (pop m) (wd (-(tp m 0)))) nx) 0 _ (fun _ _ => rfl) rfl rfl
  have HPB := HRZ.out.lt.1
  clear hbz
  go_wp2_with fail
  go_ret
  exact ⟨rfl, by first | exact HF.out | exact fun _ => HF.out, HBZ.out.setCell HPB _⟩


set_option maxHeartbeats 3200000 in
set_option maxRecDepth 100000 in
theorem sdo_8 (B p b off n c k L1 L2 : Nat) (m : SM) (op u v nx : Int) (w : World) (hop : op = 8) (h : RunS B w p m) (hs : m.stk.length ≤ 40) (hk : m.pc = k) (hkn : k < n) (hn : n ≤ 400) (hbB : b < B) (hL1 : L1 = k + 1) (hL2 : L2 = k + 2) (h0 : w.cell? ⟨b, off + k, none⟩ = some (.int .i64 op)) (hnx : nx = (k : Int) + 1 + argN op) (hf : 0 < m.stk.length) :
    Calls Try.prog 115 #[.slice (some ⟨b, off, none⟩) n c, .pointer (some ⟨p, 0, none⟩)] w fun e w' => e = .returned (.int .i64 (0)) ∧ (0 = 0 → RunS B w' p (atP (psh (pop m) (nt (tp m 0))) nx)) ∧ Below B w w' := by
  have HA : Hid (∀ W, Calls Try.prog 73 #[.int .i64 op] W fun e w' => e = .returned (.int .i64 0) ∧ w' = W) := fun W => by
    have := l8Args_any op W
    rwa [show argN op = 0 from by rw [hop]; rfl] at this
  have hT : (op == 1) = false ∧ (op == 2) = false ∧ (op == 3) = false ∧ (op == 4) = false ∧ (op == 5) = false ∧ (op == 6) = false ∧ (op == 7) = false ∧ (op == 8) = true := by subst hop; exact ⟨rfl, rfl, rfl, rfl, rfl, rfl, rfl, rfl⟩
  rw [show argN op = 0 from by rw [hop]; rfl] at hnx
  obtain ⟨sv0, cv0, hb0, _⟩ := id h
  have c0 := (RunS.cells hb0).1
  rw [hk] at c0
  have q0 : (0 : Int) ≤ (k : Int) := by omega
  have q1 : (k : Int) < (n : Int) := by omega
  have E1 : (k : Int) + 1 = (L1 : Int) := by omega
  have E2 : (k : Int) + 2 = (L2 : Int) := by omega
  have Z1 : IntKind.i64.wrap ((k : Int) + 1) = (L1 : Int) := by rw [IntWalk.i64_in _ ⟨by omega, by omega⟩]; omega
  have Z1b : IntKind.i64.wrap (L1 : Int) = (L1 : Int) := IntWalk.i64_in _ ⟨by omega, by omega⟩
  have Z2 : IntKind.i64.wrap ((k : Int) + 2) = (L2 : Int) := by rw [IntWalk.i64_in _ ⟨by omega, by omega⟩]; omega
  have Z2b : IntKind.i64.wrap (L2 : Int) = (L2 : Int) := IntWalk.i64_in _ ⟨by omega, by omega⟩
  have Z3 : IntKind.i64.wrap ((L1 : Int) + 0) = nx := by rw [IntWalk.i64_in _ ⟨by omega, by omega⟩]; omega
  have Z3b : IntKind.i64.wrap nx = nx := IntWalk.i64_in _ ⟨by omega, by omega⟩
  have E3 : (L1 : Int) = nx := by omega
  have HR0 : Hid (RunS B w p m) := h
  have HBW : Hid (b < w.heap.size) := by have := h.lt; show b < _; omega
  clear hb0 h hop hkn hn hnx hL1 hL2
  obtain ⟨e1, e2, e3, e4, e5, e6, e7, e8⟩ := hT
  go_enter Try.func115, Try.ntmps115
  go_upto_region 3 with fail
  go_cut [7] from 23 (fun x W1 => x = .int .i64 nx ∧ W1 = w.drew)
  case first =>
    go_region_with (go_at_call 73; refine (HA.out _).mono ?_; rintro e w6 ⟨rfl, rfl⟩)
    all_goals
      go_wp2_with fail
      go_meet
      case rel => exact ⟨by simp [*], rfl⟩
  case rest =>
  obtain ⟨rfl, rfl⟩ := hcut
  have HR : Hid (RunS B w.drew p m) := HR0.out.heap rfl
  have HB : Hid (Below B w w.drew) := (Below.refl B w).drew
  clear HR0 HA c0 h0
  generalize w.drew = W at *
  have h39 : (pop m).stk.length ≤ 40 := by rw [pop_len]; omega
  go_upto_region 39 with (go_at_call 125; refine (l8Pop_any B p m _ HR.out hf hs).mono ?_; rintro e w3 ⟨rfl, hr3, hb3⟩)
  go_upto_region 52 with (first | (go_at_call 129; refine (specNotOf _ _).mono ?_; rintro e w6 ⟨rfl, rfl⟩) | (go_at_call 124; refine (l8Push_any B p (pop m) (nt (tp m 0)) _ hr3 h39).mono ?_; rintro e w7 ⟨rfl, hr, hb⟩))
  have HRZ : Hid (RunS B w7 p (psh (pop m) (nt (tp m 0)))) := hr
  have HBZ : Hid (Below B w w7) := (HB.out.trans hb3).trans hb
  obtain ⟨svz, cvz, hbz, _⟩ := id HRZ.out
  have z0 := (RunS.cells hbz).1
  have zf := frozen_of_row _ _ 0 _ _ hbz
  have HF : Hid (RunS B (w7.setCell ⟨p, 0, none⟩ (.int .i64 nx)) p (atP (psh (pop m) (nt (tp m 0))) nx)) := HRZ.out.fld (m' := atP (psh (pop m) (nt (tp m 0))) nx) 0 _ (fun _ _ => rfl) rfl rfl
  have HPB := HRZ.out.lt.1
  clear hbz
  go_wp2_with fail
  go_ret
  exact ⟨rfl, by first | exact HF.out | exact fun _ => HF.out, HBZ.out.setCell HPB _⟩


set_option maxHeartbeats 3200000 in
set_option maxRecDepth 100000 in
theorem sdo_9 (B p b off n c k L1 L2 : Nat) (m : SM) (op u v nx : Int) (w : World) (hop : op = 9) (h : RunS B w p m) (hs : m.stk.length ≤ 40) (hk : m.pc = k) (hkn : k < n) (hn : n ≤ 400) (hbB : b < B) (hL1 : L1 = k + 1) (hL2 : L2 = k + 2) (h0 : w.cell? ⟨b, off + k, none⟩ = some (.int .i64 op)) (hnx : nx = (k : Int) + 1 + argN op) (hf : 0 < m.stk.length) :
    Calls Try.prog 115 #[.slice (some ⟨b, off, none⟩) n c, .pointer (some ⟨p, 0, none⟩)] w fun e w' => e = .returned (.int .i64 (0)) ∧ (0 = 0 → RunS B w' p (atP (psh (pop m) (lst (tp m 0))) nx)) ∧ Below B w w' := by
  have HA : Hid (∀ W, Calls Try.prog 73 #[.int .i64 op] W fun e w' => e = .returned (.int .i64 0) ∧ w' = W) := fun W => by
    have := l8Args_any op W
    rwa [show argN op = 0 from by rw [hop]; rfl] at this
  have hT : (op == 1) = false ∧ (op == 2) = false ∧ (op == 3) = false ∧ (op == 4) = false ∧ (op == 5) = false ∧ (op == 6) = false ∧ (op == 7) = false ∧ (op == 8) = false ∧ (op == 9) = true := by subst hop; exact ⟨rfl, rfl, rfl, rfl, rfl, rfl, rfl, rfl, rfl⟩
  rw [show argN op = 0 from by rw [hop]; rfl] at hnx
  obtain ⟨sv0, cv0, hb0, _⟩ := id h
  have c0 := (RunS.cells hb0).1
  rw [hk] at c0
  have q0 : (0 : Int) ≤ (k : Int) := by omega
  have q1 : (k : Int) < (n : Int) := by omega
  have E1 : (k : Int) + 1 = (L1 : Int) := by omega
  have E2 : (k : Int) + 2 = (L2 : Int) := by omega
  have Z1 : IntKind.i64.wrap ((k : Int) + 1) = (L1 : Int) := by rw [IntWalk.i64_in _ ⟨by omega, by omega⟩]; omega
  have Z1b : IntKind.i64.wrap (L1 : Int) = (L1 : Int) := IntWalk.i64_in _ ⟨by omega, by omega⟩
  have Z2 : IntKind.i64.wrap ((k : Int) + 2) = (L2 : Int) := by rw [IntWalk.i64_in _ ⟨by omega, by omega⟩]; omega
  have Z2b : IntKind.i64.wrap (L2 : Int) = (L2 : Int) := IntWalk.i64_in _ ⟨by omega, by omega⟩
  have Z3 : IntKind.i64.wrap ((L1 : Int) + 0) = nx := by rw [IntWalk.i64_in _ ⟨by omega, by omega⟩]; omega
  have Z3b : IntKind.i64.wrap nx = nx := IntWalk.i64_in _ ⟨by omega, by omega⟩
  have E3 : (L1 : Int) = nx := by omega
  have HR0 : Hid (RunS B w p m) := h
  have HBW : Hid (b < w.heap.size) := by have := h.lt; show b < _; omega
  clear hb0 h hop hkn hn hnx hL1 hL2
  obtain ⟨e1, e2, e3, e4, e5, e6, e7, e8, e9⟩ := hT
  go_enter Try.func115, Try.ntmps115
  go_upto_region 3 with fail
  go_cut [7] from 23 (fun x W1 => x = .int .i64 nx ∧ W1 = w.drew)
  case first =>
    go_region_with (go_at_call 73; refine (HA.out _).mono ?_; rintro e w6 ⟨rfl, rfl⟩)
    all_goals
      go_wp2_with fail
      go_meet
      case rel => exact ⟨by simp [*], rfl⟩
  case rest =>
  obtain ⟨rfl, rfl⟩ := hcut
  have HR : Hid (RunS B w.drew p m) := HR0.out.heap rfl
  have HB : Hid (Below B w w.drew) := (Below.refl B w).drew
  clear HR0 HA c0 h0
  generalize w.drew = W at *
  have h39 : (pop m).stk.length ≤ 40 := by rw [pop_len]; omega
  go_upto_region 42 with (go_at_call 125; refine (l8Pop_any B p m _ HR.out hf hs).mono ?_; rintro e w3 ⟨rfl, hr3, hb3⟩)
  go_upto_region 52 with (first | (go_at_call 130; refine (sLeast_any _ _).mono ?_; rintro e w6 ⟨rfl, rfl⟩) | (go_at_call 124; refine (l8Push_any B p (pop m) (lst (tp m 0)) _ hr3 h39).mono ?_; rintro e w7 ⟨rfl, hr, hb⟩))
  have HRZ : Hid (RunS B w7 p (psh (pop m) (lst (tp m 0)))) := hr
  have HBZ : Hid (Below B w w7) := (HB.out.trans hb3).trans hb
  obtain ⟨svz, cvz, hbz, _⟩ := id HRZ.out
  have z0 := (RunS.cells hbz).1
  have zf := frozen_of_row _ _ 0 _ _ hbz
  have HF : Hid (RunS B (w7.setCell ⟨p, 0, none⟩ (.int .i64 nx)) p (atP (psh (pop m) (lst (tp m 0))) nx)) := HRZ.out.fld (m' := atP (psh (pop m) (lst (tp m 0))) nx) 0 _ (fun _ _ => rfl) rfl rfl
  have HPB := HRZ.out.lt.1
  clear hbz
  go_wp2_with fail
  go_ret
  exact ⟨rfl, by first | exact HF.out | exact fun _ => HF.out, HBZ.out.setCell HPB _⟩

end Go.Proofs.Ytlofagpffeaebaa
namespace Go.Proofs.Ytlofagpffeaebaa
open Go.RowKit
set_option linter.unusedVariables false
attribute [local go_sem ↓] Go.wp_at_zero Go.wp_at_succ

set_option maxHeartbeats 3200000 in
set_option maxRecDepth 100000 in
theorem sdo_11 (B p b off n c k L1 L2 : Nat) (m : SM) (op u v nx : Int) (w : World) (hop : op = 11) (h : RunS B w p m) (hs : m.stk.length ≤ 40) (hk : m.pc = k) (hkn : k < n) (hn : n ≤ 400) (hbB : b < B) (hL1 : L1 = k + 1) (hL2 : L2 = k + 2) (h0 : w.cell? ⟨b, off + k, none⟩ = some (.int .i64 op)) (h1 : w.cell? ⟨b, off + L1, none⟩ = some (.int .i64 u)) (hn1 : L1 < n) (hnx : nx = (k : Int) + 1 + argN op) (hf : 0 < m.stk.length) (M : SM) (hM : M = atP (pop m) (if tp m 0 = 0 then u else nx)) :
    Calls Try.prog 115 #[.slice (some ⟨b, off, none⟩) n c, .pointer (some ⟨p, 0, none⟩)] w fun e w' => e = .returned (.int .i64 (0)) ∧ (0 = 0 → RunS B w' p (M)) ∧ Below B w w' := by
  have HA : Hid (∀ W, Calls Try.prog 73 #[.int .i64 op] W fun e w' => e = .returned (.int .i64 1) ∧ w' = W) := fun W => by
    have := l8Args_any op W
    rwa [show argN op = 1 from by rw [hop]; rfl] at this
  have hT : (op == 1) = false ∧ (op == 2) = false ∧ (op == 3) = false ∧ (op == 4) = false ∧ (op == 5) = false ∧ (op == 6) = false ∧ (op == 7) = false ∧ (op == 8) = false ∧ (op == 9) = false ∧ (op == 10) = false ∧ (op == 11) = true := by subst hop; exact ⟨rfl, rfl, rfl, rfl, rfl, rfl, rfl, rfl, rfl, rfl, rfl⟩
  rw [show argN op = 1 from by rw [hop]; rfl] at hnx
  obtain ⟨sv0, cv0, hb0, _⟩ := id h
  have c0 := (RunS.cells hb0).1
  rw [hk] at c0
  have q0 : (0 : Int) ≤ (k : Int) := by omega
  have q1 : (k : Int) < (n : Int) := by omega
  have E1 : (k : Int) + 1 = (L1 : Int) := by omega
  have E2 : (k : Int) + 2 = (L2 : Int) := by omega
  have Z1 : IntKind.i64.wrap ((k : Int) + 1) = (L1 : Int) := by rw [IntWalk.i64_in _ ⟨by omega, by omega⟩]; omega
  have Z1b : IntKind.i64.wrap (L1 : Int) = (L1 : Int) := IntWalk.i64_in _ ⟨by omega, by omega⟩
  have Z2 : IntKind.i64.wrap ((k : Int) + 2) = (L2 : Int) := by rw [IntWalk.i64_in _ ⟨by omega, by omega⟩]; omega
  have Z2b : IntKind.i64.wrap (L2 : Int) = (L2 : Int) := IntWalk.i64_in _ ⟨by omega, by omega⟩
  have Z3 : IntKind.i64.wrap ((L1 : Int) + 1) = nx := by rw [IntWalk.i64_in _ ⟨by omega, by omega⟩]; omega
  have Z3b : IntKind.i64.wrap nx = nx := IntWalk.i64_in _ ⟨by omega, by omega⟩
  have E3 : (L1 : Int) + 1 = nx := by omega
  have p0 : (0 : Int) ≤ (L1 : Int) := by omega
  have p1 : (L1 : Int) < (n : Int) := by omega
  have HR0 : Hid (RunS B w p m) := h
  have HBW : Hid (b < w.heap.size) := by have := h.lt; show b < _; omega
  clear hb0 h hop hkn hn hnx hL1 hL2 hn1
  obtain ⟨e1, e2, e3, e4, e5, e6, e7, e8, e9, e10, e11⟩ := hT
  go_enter Try.func115, Try.ntmps115
  go_upto_region 3 with fail
  go_cut [7] from 23 (fun x W1 => x = .int .i64 nx ∧ W1 = w.drew)
  case first =>
    go_region_with (go_at_call 73; refine (HA.out _).mono ?_; rintro e w6 ⟨rfl, rfl⟩)
    all_goals
      go_wp2_with fail
      go_meet
      case rel => exact ⟨by simp [*], rfl⟩
  case rest =>
  obtain ⟨rfl, rfl⟩ := hcut
  have HR : Hid (RunS B w.drew p m) := HR0.out.heap rfl
  have HB : Hid (Below B w w.drew) := (Below.refl B w).drew
  have x1 : w.drew.cell? ⟨b, off + L1, none⟩ = some (.int .i64 u) := h1
  clear HR0 HA c0 h0 h1
  generalize w.drew = W at *
  go_upto_if 206 with (go_at_call 125; refine (l8Pop_any B p m _ HR.out hf hs).mono ?_; rintro e w3 ⟨rfl, hr, hb⟩)
  have HRZ : Hid (RunS B w3 p (pop m)) := hr
  have yu : w3.cell? ⟨b, off + L1, none⟩ = some (.int .i64 u) := (hb.cell (p := ⟨b, off + L1, none⟩) hbB).trans x1
  have HBZ : Hid (Below B w w3) := HB.out.trans hb
  clear hr hb HR HB
  by_cases hz : tp m 0 = 0
  · have HM : Hid (M = atP (pop m) u) := by unfold Hid; rw [hM, if_pos hz]
    have e0 : (tp m 0 == 0) = true := by rw [hz]; rfl
    clear hM hz
    go_upto_region 52 with fail
    obtain ⟨svz, cvz, hbz, _⟩ := id HRZ.out
    have z0 := (RunS.cells hbz).1
    have zf := frozen_of_row _ _ 0 _ _ hbz
    have HF : Hid (RunS B (w3.setCell ⟨p, 0, none⟩ (.int .i64 u)) p (atP (pop m) u)) := HRZ.out.fld (m' := atP (pop m) u) 0 _ (fun _ _ => rfl) rfl rfl
    have HPB := HRZ.out.lt.1
    clear hbz
    go_wp2_with fail
    go_ret
    exact ⟨rfl, by first | (rw [HM.out]; exact HF.out) | (rw [HM.out]; exact fun _ => HF.out) | exact fun _ => (by rw [HM.out]; exact HF.out), HBZ.out.setCell HPB _⟩

  · have HM : Hid (M = atP (pop m) nx) := by unfold Hid; rw [hM, if_neg hz]
    have e0 : (tp m 0 == 0) = false := by simpa using hz
    clear hM hz
    go_upto_region 52 with fail
    obtain ⟨svz, cvz, hbz, _⟩ := id HRZ.out
    have z0 := (RunS.cells hbz).1
    have zf := frozen_of_row _ _ 0 _ _ hbz
    have HF : Hid (RunS B (w3.setCell ⟨p, 0, none⟩ (.int .i64 nx)) p (atP (pop m) nx)) := HRZ.out.fld (m' := atP (pop m) nx) 0 _ (fun _ _ => rfl) rfl rfl
    have HPB := HRZ.out.lt.1
    clear hbz
    go_wp2_with fail
    go_ret
    exact ⟨rfl, by first | (rw [HM.out]; exact HF.out) | (rw [HM.out]; exact fun _ => HF.out) | exact fun _ => (by rw [HM.out]; exact HF.out), HBZ.out.setCell HPB _⟩


set_option maxHeartbeats 3200000 in
set_option maxRecDepth 100000 in
theorem sdo_12 (B p b off n c k L1 L2 : Nat) (m : SM) (op u v nx : Int) (w : World) (hop : op = 12) (h : RunS B w p m) (hs : m.stk.length ≤ 40) (hk : m.pc = k) (hkn : k < n) (hn : n ≤ 400) (hbB : b < B) (hL1 : L1 = k + 1) (hL2 : L2 = k + 2) (h0 : w.cell? ⟨b, off + k, none⟩ = some (.int .i64 op)) (h1 : w.cell? ⟨b, off + L1, none⟩ = some (.int .i64 u)) (hn1 : L1 < n) (hnx : nx = (k : Int) + 1 + argN op) :
    Calls Try.prog 115 #[.slice (some ⟨b, off, none⟩) n c, .pointer (some ⟨p, 0, none⟩)] w fun e w' => e = .returned (.int .i64 (0)) ∧ (0 = 0 → RunS B w' p (atP { m with sig := sgn m.sig u } nx)) ∧ Below B w w' := by
  have HA : Hid (∀ W, Calls Try.prog 73 #[.int .i64 op] W fun e w' => e = .returned (.int .i64 1) ∧ w' = W) := fun W => by
    have := l8Args_any op W
    rwa [show argN op = 1 from by rw [hop]; rfl] at this
  have hT : (op == 1) = false ∧ (op == 2) = false ∧ (op == 3) = false ∧ (op == 4) = false ∧ (op == 5) = false ∧ (op == 6) = false ∧ (op == 7) = false ∧ (op == 8) = false ∧ (op == 9) = false ∧ (op == 10) = false ∧ (op == 11) = false ∧ (op == 12) = true := by subst hop; exact ⟨rfl, rfl, rfl, rfl, rfl, rfl, rfl, rfl, rfl, rfl, rfl, rfl⟩
  rw [show argN op = 1 from by rw [hop]; rfl] at hnx
  obtain ⟨sv0, cv0, hb0, _⟩ := id h
  have c0 := (RunS.cells hb0).1
  rw [hk] at c0
  have q0 : (0 : Int) ≤ (k : Int) := by omega
  have q1 : (k : Int) < (n : Int) := by omega
  have E1 : (k : Int) + 1 = (L1 : Int) := by omega
  have E2 : (k : Int) + 2 = (L2 : Int) := by omega
  have Z1 : IntKind.i64.wrap ((k : Int) + 1) = (L1 : Int) := by rw [IntWalk.i64_in _ ⟨by omega, by omega⟩]; omega
  have Z1b : IntKind.i64.wrap (L1 : Int) = (L1 : Int) := IntWalk.i64_in _ ⟨by omega, by omega⟩
  have Z2 : IntKind.i64.wrap ((k : Int) + 2) = (L2 : Int) := by rw [IntWalk.i64_in _ ⟨by omega, by omega⟩]; omega
  have Z2b : IntKind.i64.wrap (L2 : Int) = (L2 : Int) := IntWalk.i64_in _ ⟨by omega, by omega⟩
  have Z3 : IntKind.i64.wrap ((L1 : Int) + 1) = nx := by rw [IntWalk.i64_in _ ⟨by omega, by omega⟩]; omega
  have Z3b : IntKind.i64.wrap nx = nx := IntWalk.i64_in _ ⟨by omega, by omega⟩
  have E3 : (L1 : Int) + 1 = nx := by omega
  have p0 : (0 : Int) ≤ (L1 : Int) := by omega
  have p1 : (L1 : Int) < (n : Int) := by omega
  have HR0 : Hid (RunS B w p m) := h
  have HBW : Hid (b < w.heap.size) := by have := h.lt; show b < _; omega
  clear hb0 h hop hkn hn hnx hL1 hL2 hn1
  obtain ⟨e1, e2, e3, e4, e5, e6, e7, e8, e9, e10, e11, e12⟩ := hT
  go_enter Try.func115, Try.ntmps115
  go_upto_region 3 with fail
  go_cut [7] from 23 (fun x W1 => x = .int .i64 nx ∧ W1 = w.drew)
  case first =>
    go_region_with (go_at_call 73; refine (HA.out _).mono ?_; rintro e w6 ⟨rfl, rfl⟩)
    all_goals
      go_wp2_with fail
      go_meet
      case rel => exact ⟨by simp [*], rfl⟩
  case rest =>
  obtain ⟨rfl, rfl⟩ := hcut
  have HR : Hid (RunS B w.drew p m) := HR0.out.heap rfl
  have HB : Hid (Below B w w.drew) := (Below.refl B w).drew
  have x1 : w.drew.cell? ⟨b, off + L1, none⟩ = some (.int .i64 u) := h1
  clear HR0 HA c0 h0 h1
  generalize w.drew = W at *
  go_upto_region 49 with fail
  have HFS : Hid (∀ W2 : World, W2.heap = W.heap → RunS B (W2.setCell ⟨p, 3, none⟩ (.int .i64 (sgn m.sig u))) p { m with sig := sgn m.sig u }) := fun W2 e => (HR.out.heap e).fld (m' := { m with sig := sgn m.sig u }) 3 _ (fun _ _ => rfl) rfl rfl
  obtain ⟨sv, cv, hbl, _⟩ := id HR.out
  have y3 := (RunS.cells hbl).2.2.2.1
  have yf := frozen_of_row _ _ 3 _ _ hbl
  have HPB0 := HR.out.lt.1
  clear hbl
  have HRZ0 : Hid (RunS B (W.setCell ⟨p, 3, none⟩ (.int .i64 (sgn m.sig u))).drew p { m with sig := sgn m.sig u }) := (HFS.out W rfl).heap rfl
  have HBZ0 : Hid (Below B w (W.setCell ⟨p, 3, none⟩ (.int .i64 (sgn m.sig u))).drew) := (HB.out.setCell HPB0 _).drew
  go_region_with (go_at_call 131; refine (specSignOf _ _ _).mono ?_; rintro e w3 ⟨rfl, rfl⟩)
  all_goals
    clear HFS y3 yf HR HB
    generalize (W.setCell ⟨p, 3, none⟩ (.int .i64 (sgn m.sig u))).drew = wc at *
    have HRZ : Hid (RunS B wc p { m with sig := sgn m.sig u }) := HRZ0
    have HBZ : Hid (Below B w wc) := HBZ0
    clear HRZ0 HBZ0
    go_upto_region 52 with fail
    obtain ⟨svz, cvz, hbz, _⟩ := id HRZ.out
    have z0 := (RunS.cells hbz).1
    have zf := frozen_of_row _ _ 0 _ _ hbz
    have HF : Hid (RunS B (wc.setCell ⟨p, 0, none⟩ (.int .i64 nx)) p (atP { m with sig := sgn m.sig u } nx)) := HRZ.out.fld (m' := atP { m with sig := sgn m.sig u } nx) 0 _ (fun _ _ => rfl) rfl rfl
    have HPB := HRZ.out.lt.1
    clear hbz
    go_wp2_with fail
    go_ret
    exact ⟨rfl, by first | exact HF.out | exact fun _ => HF.out, HBZ.out.setCell HPB _⟩


set_option maxHeartbeats 3200000 in
set_option maxRecDepth 100000 in
theorem sdo_13 (B p b off n c k L1 L2 : Nat) (m : SM) (op u v nx : Int) (w : World) (hop : op = 13) (h : RunS B w p m) (hs : m.stk.length ≤ 40) (hk : m.pc = k) (hkn : k < n) (hn : n ≤ 400) (hbB : b < B) (hL1 : L1 = k + 1) (hL2 : L2 = k + 2) (h0 : w.cell? ⟨b, off + k, none⟩ = some (.int .i64 op)) (hnx : nx = (k : Int) + 1 + argN op) :
    Calls Try.prog 115 #[.slice (some ⟨b, off, none⟩) n c, .pointer (some ⟨p, 0, none⟩)] w fun e w' => e = .returned (.int .i64 (0)) ∧ (0 = 0 → RunS B w' p (atP { m with done := true } nx)) ∧ Below B w w' := by
  have HA : Hid (∀ W, Calls Try.prog 73 #[.int .i64 op] W fun e w' => e = .returned (.int .i64 0) ∧ w' = W) := fun W => by
    have := l8Args_any op W
    rwa [show argN op = 0 from by rw [hop]; rfl] at this
  have hT : (op == 1) = false ∧ (op == 2) = false ∧ (op == 3) = false ∧ (op == 4) = false ∧ (op == 5) = false ∧ (op == 6) = false ∧ (op == 7) = false ∧ (op == 8) = false ∧ (op == 9) = false ∧ (op == 10) = false ∧ (op == 11) = false ∧ (op == 12) = false ∧ (op == 13) = true := by subst hop; exact ⟨rfl, rfl, rfl, rfl, rfl, rfl, rfl, rfl, rfl, rfl, rfl, rfl, rfl⟩
  rw [show argN op = 0 from by rw [hop]; rfl] at hnx
  obtain ⟨sv0, cv0, hb0, _⟩ := id h
  have c0 := (RunS.cells hb0).1
  rw [hk] at c0
  have q0 : (0 : Int) ≤ (k : Int) := by omega
  have q1 : (k : Int) < (n : Int) := by omega
  have E1 : (k : Int) + 1 = (L1 : Int) := by omega
  have E2 : (k : Int) + 2 = (L2 : Int) := by omega
  have Z1 : IntKind.i64.wrap ((k : Int) + 1) = (L1 : Int) := by rw [IntWalk.i64_in _ ⟨by omega, by omega⟩]; omega
  have Z1b : IntKind.i64.wrap (L1 : Int) = (L1 : Int) := IntWalk.i64_in _ ⟨by omega, by omega⟩
  have Z2 : IntKind.i64.wrap ((k : Int) + 2) = (L2 : Int) := by rw [IntWalk.i64_in _ ⟨by omega, by omega⟩]; omega
  have Z2b : IntKind.i64.wrap (L2 : Int) = (L2 : Int) := IntWalk.i64_in _ ⟨by omega, by omega⟩
  have Z3 : IntKind.i64.wrap ((L1 : Int) + 0) = nx := by rw [IntWalk.i64_in _ ⟨by omega, by omega⟩]; omega
  have Z3b : IntKind.i64.wrap nx = nx := IntWalk.i64_in _ ⟨by omega, by omega⟩
  have E3 : (L1 : Int) = nx := by omega
  have HR0 : Hid (RunS B w p m) := h
  have HBW : Hid (b < w.heap.size) := by have := h.lt; show b < _; omega
  clear hb0 h hop hkn hn hnx hL1 hL2
  obtain ⟨e1, e2, e3, e4, e5, e6, e7, e8, e9, e10, e11, e12, e13⟩ := hT
  go_enter Try.func115, Try.ntmps115
  go_upto_region 3 with fail
  go_cut [7] from 23 (fun x W1 => x = .int .i64 nx ∧ W1 = w.drew)
  case first =>
    go_region_with (go_at_call 73; refine (HA.out _).mono ?_; rintro e w6 ⟨rfl, rfl⟩)
    all_goals
      go_wp2_with fail
      go_meet
      case rel => exact ⟨by simp [*], rfl⟩
  case rest =>
  obtain ⟨rfl, rfl⟩ := hcut
  have HR : Hid (RunS B w.drew p m) := HR0.out.heap rfl
  have HB : Hid (Below B w w.drew) := (Below.refl B w).drew
  clear HR0 HA c0 h0
  generalize w.drew = W at *
  obtain ⟨sv, cv, hbl, _⟩ := id HR.out
  have y6 := (RunS.cells hbl).2.2.2.2.2.2
  have yf := frozen_of_row _ _ 6 _ _ hbl
  have HRZ0 : Hid (RunS B (W.setCell ⟨p, 6, none⟩ (.bool true)) p { m with done := true }) := HR.out.fld (m' := { m with done := true }) 6 _ (fun _ _ => rfl) rfl rfl
  have HBZ0 : Hid (Below B w (W.setCell ⟨p, 6, none⟩ (.bool true))) := HB.out.setCell HR.out.lt.1 _
  clear hbl
  go_upto_region 52 with fail
  clear y6 yf
  generalize W.setCell ⟨p, 6, none⟩ (.bool true) = w5 at *
  have HRZ : Hid (RunS B w5 p { m with done := true }) := HRZ0
  have HBZ : Hid (Below B w w5) := HBZ0
  clear HRZ0 HBZ0 HR HB
  obtain ⟨svz, cvz, hbz, _⟩ := id HRZ.out
  have z0 := (RunS.cells hbz).1
  have zf := frozen_of_row _ _ 0 _ _ hbz
  have HF : Hid (RunS B (w5.setCell ⟨p, 0, none⟩ (.int .i64 nx)) p (atP { m with done := true } nx)) := HRZ.out.fld (m' := atP { m with done := true } nx) 0 _ (fun _ _ => rfl) rfl rfl
  have HPB := HRZ.out.lt.1
  clear hbz
  go_wp2_with fail
  go_ret
  exact ⟨rfl, by first | exact HF.out | exact fun _ => HF.out, HBZ.out.setCell HPB _⟩

end Go.Proofs.Ytlofagpffeaebaa
namespace Go.Proofs.Ytlofagpffeaebaa
open Go.RowKit
set_option linter.unusedVariables false

theorem rdy_no {zs : List Int} {k : Nat} {m : SM} (hk : m.pc = k) (h : rdyL zs k m = false) (hw : ∀ i, 0 ≤ zs.getD i 0) : stepL zs m = trp (usedM m) 1 := by
  unfold rdyL at h
  unfold stepL
  rw [hk, Int.toNat_natCast]
  by_cases h1 : readyB zs k = false
  · rw [if_pos h1]; rfl
  rw [if_neg h1]
  rw [Bool.not_eq_false] at h1
  rw [h1, Bool.true_and] at h
  by_cases h2 : fitsB m.stk.length (zs.getD k 0) = false
  · rw [if_pos h2]; rfl
  rw [if_neg h2]
  rw [Bool.not_eq_false] at h2
  rw [h2, Bool.true_and] at h
  by_cases h3 : zs.getD k 0 = 2 ∨ zs.getD k 0 = 3
  · rw [if_pos h3] at h
    have e : toldC (zs.getD k 0) (zs.getD (k + 1) 0) (zs.getD (k + 2) 0) m = 1 := by
      unfold toldC cellC
      rw [if_pos h3, if_neg (of_decide_eq_false h)]
    rw [if_pos (by rw [e]; simp), e]; rfl
  · rw [if_neg h3] at h; cases h
theorem rdy_yes {zs : List Int} {k : Nat} {m : SM} (hk : m.pc = k) (h : rdyL zs k m = true) :
    k < zs.length ∧ 1 ≤ zs.getD k 0 ∧ zs.getD k 0 ≤ 13 ∧ k + argN (zs.getD k 0) < zs.length ∧ fitsB m.stk.length (zs.getD k 0) = true ∧ (zs.getD k 0 = 2 ∨ zs.getD k 0 = 3 → zs.getD (k + 1) 0 < m.cells.length) ∧
    stepL zs m = if toldC (zs.getD k 0) (zs.getD (k + 1) 0) (zs.getD (k + 2) 0) m ≠ 0 then trp (usedM m) (toldC (zs.getD k 0) (zs.getD (k + 1) 0) (zs.getD (k + 2) 0) m) else doM (zs.getD k 0) (zs.getD (k + 1) 0) (toldV (zs.getD k 0) (zs.getD (k + 1) 0) (zs.getD (k + 2) 0) m) (atP (usedM m) ((k : Int) + 1 + argN (zs.getD k 0))) := by
  unfold rdyL at h
  simp only [Bool.and_eq_true] at h
  obtain ⟨⟨h1, h2⟩, h3⟩ := h
  have hq := ready_of h1
  simp only [Int.toNat_natCast] at hq
  refine ⟨by omega, hq.2.1, hq.2.2.1, hq.2.2.2, h2, fun h => ?_, ?_⟩
  · rw [if_pos h] at h3; exact of_decide_eq_true h3
  · unfold stepL
    rw [hk, Int.toNat_natCast, if_neg (by rw [h1]; simp), if_neg (by rw [h2]; simp)]
    rfl

theorem l8Do_any (B p k c : Nat) (a : Option Addr) (zs : List Int) (m : SM) (w : World) (h : RunS B w p m) (hg : Good m) (hk : m.pc = k) (hz : Nums w a zs) (hB : ∀ b off, a = some ⟨b, off, none⟩ → b < B) (hl : zs.length ≤ 400) (hw : wordsB zs = true) (hr : rdyL zs k m = true) :
    Calls Try.prog 115 #[.slice a zs.length c, .pointer (some ⟨p, 0, none⟩)] w fun e w' => e = .returned (.int .i64 (toldC (zs.getD k 0) (zs.getD (k + 1) 0) (zs.getD (k + 2) 0) m)) ∧ (toldC (zs.getD k 0) (zs.getD (k + 1) 0) (zs.getD (k + 2) 0) m = 0 → RunS B w' p (doM (zs.getD k 0) (zs.getD (k + 1) 0) (toldV (zs.getD k 0) (zs.getD (k + 1) 0) (zs.getD (k + 2) 0) m) (atP m ((k : Int) + 1 + argN (zs.getD k 0))))) ∧ Below B w w' := by
  obtain ⟨r1, r2, r3, r4, r5, r6, _⟩ := rdy_yes hk hr
  have hF := (fits_of r5).1
  have hW : ∀ i, 0 ≤ zs.getD i 0 ∧ zs.getD i 0 ≤ 65535 := fun i => by
    by_cases hi : i < zs.length
    · exact wordsB_get hw hi
    · rw [List.getD_eq_getElem?_getD, List.getElem?_eq_none (by omega)]; simp
  rcases hz with hz | ⟨b, off, rfl, hcc⟩
  · rw [hz] at r1; simp at r1
  have hb := hB b off rfl
  have h0 := hcc k r1
  have hu := hW (k + 1)
  have hv := hW (k + 2)
  have c1 : 1 ≤ argN (zs.getD k 0) → k + 1 < zs.length := fun h => by omega
  have c2 : argN (zs.getD k 0) = 2 → k + 2 < zs.length := fun h => by omega
  have d1 : 1 ≤ argN (zs.getD k 0) → w.cell? ⟨b, off + (k + 1), none⟩ = some (.int .i64 (zs.getD (k + 1) 0)) := fun h => hcc _ (c1 h)
  have d2 : argN (zs.getD k 0) = 2 → w.cell? ⟨b, off + (k + 2), none⟩ = some (.int .i64 (zs.getD (k + 2) 0)) := fun h => hcc _ (c2 h)
  clear hW hcc hr hw
  generalize zs.getD k 0 = op at *
  generalize zs.getD (k + 1) 0 = u at *
  generalize zs.getD (k + 2) 0 = v at *
  generalize zs.length = n at *
  have hop : op = 1 ∨ op = 2 ∨ op = 3 ∨ op = 4 ∨ op = 5 ∨ op = 6 ∨ op = 7 ∨ op = 8 ∨ op = 9 ∨ op = 10 ∨ op = 11 ∨ op = 12 ∨ op = 13 := by omega
  rcases hop with e | e | e | e | e | e | e | e | e | e | e | e | e <;> subst e
  · exact (sdo_1 B p b off n c k (k + 1) (k + 2) m 1 u v _ w rfl h hg.sl hk r1 hl hb rfl rfl h0 (d1 (by decide)) (c1 (by decide)) rfl).mono fun e w' h => ⟨h.1, fun _ => h.2.1 rfl, h.2.2⟩
  · obtain ⟨t, ht⟩ := Int.eq_ofNat_of_zero_le hu.1
    subst ht
    have hlt := r6 (.inl rfl)
    have eC : toldC 2 (t : Int) v m = 0 := by show (if (t : Int) < m.cells.length then (0 : Int) else 1) = 0; rw [if_pos hlt]
    have eV : toldV 2 (t : Int) v m = t := by show (if (t : Int) < m.cells.length then (t : Int) else 0) = t; rw [if_pos hlt]
    rw [eC, eV]
    exact (sdo_2 B p b off n c k (k + 1) (k + 2) m 2 t v _ w rfl h hg.sl hk r1 hl hb rfl rfl h0 (d1 (by decide)) (c1 (by decide)) rfl t rfl (by omega) hg.cl _ rfl).mono fun e w' h => ⟨h.1, fun _ => h.2.1 rfl, h.2.2⟩
  · obtain ⟨t, ht⟩ := Int.eq_ofNat_of_zero_le hu.1
    subst ht
    have hlt := r6 (.inr rfl)
    have eC : toldC 3 (t : Int) v m = 0 := by show (if (t : Int) < m.cells.length then (0 : Int) else 1) = 0; rw [if_pos hlt]
    have eV : toldV 3 (t : Int) v m = t := by show (if (t : Int) < m.cells.length then (t : Int) else 0) = t; rw [if_pos hlt]
    rw [eC, eV]
    exact (sdo_3 B p b off n c k (k + 1) (k + 2) m 3 t v _ w rfl h hg.sl hk r1 hl hb rfl rfl h0 (d1 (by decide)) (c1 (by decide)) rfl t rfl (by omega) hg.cl (by have : tkN 3 = 1 := rfl; omega)).mono fun e w' h => ⟨h.1, fun _ => h.2.1 rfl, h.2.2⟩
  · exact sdo_4 B p b off n c k (k + 1) (k + 2) m 4 u v _ w rfl h hg.sl hk r1 hl hb rfl rfl h0 (d1 (by decide)) (c1 (by decide)) (d2 rfl) (c2 rfl) rfl hg.cl (by have : tkN 4 = 1 := rfl; omega) hu.1 hu.2 hv.1 hv.2 _ _ rfl rfl _ rfl
  · exact sdo_5 B p b off n c k (k + 1) (k + 2) m 5 u v _ w rfl h hg.sl hk r1 hl hb rfl rfl h0 (d1 (by decide)) (c1 (by decide)) (d2 rfl) (c2 rfl) rfl hg.cl (by have : tkN 5 = 2 := rfl; omega) hu.1 hu.2 hv.1 hv.2 _ _ rfl rfl _ rfl
  · exact sdo_6 B p b off n c k (k + 1) (k + 2) m 6 u v _ w rfl h hg.sl hk r1 hl hb rfl rfl h0 (d1 (by decide)) (c1 (by decide)) rfl (by have : tkN 6 = 2 := rfl; omega) _ _ rfl rfl _ rfl
  · exact (sdo_7 B p b off n c k (k + 1) (k + 2) m 7 u v _ w rfl h hg.sl hk r1 hl hb rfl rfl h0 rfl (by have : tkN 7 = 1 := rfl; omega)).mono fun e w' h => ⟨h.1, fun _ => h.2.1 rfl, h.2.2⟩
  · exact (sdo_8 B p b off n c k (k + 1) (k + 2) m 8 u v _ w rfl h hg.sl hk r1 hl hb rfl rfl h0 rfl (by have : tkN 8 = 1 := rfl; omega)).mono fun e w' h => ⟨h.1, fun _ => h.2.1 rfl, h.2.2⟩
  · exact (sdo_9 B p b off n c k (k + 1) (k + 2) m 9 u v _ w rfl h hg.sl hk r1 hl hb rfl rfl h0 rfl (by have : tkN 9 = 1 := rfl; omega)).mono fun e w' h => ⟨h.1, fun _ => h.2.1 rfl, h.2.2⟩
  · exact (sdo_10 B p b off n c k (k + 1) (k + 2) m 10 u v _ w rfl h hg.sl hk r1 hl hb rfl rfl h0 (d1 (by decide)) (c1 (by decide)) rfl).mono fun e w' h => ⟨h.1, fun _ => h.2.1 rfl, h.2.2⟩
  · exact (sdo_11 B p b off n c k (k + 1) (k + 2) m 11 u v _ w rfl h hg.sl hk r1 hl hb rfl rfl h0 (d1 (by decide)) (c1 (by decide)) rfl (by have : tkN 11 = 1 := rfl; omega) _ rfl).mono fun e w' h => ⟨h.1, fun _ => h.2.1 rfl, h.2.2⟩
  · exact (sdo_12 B p b off n c k (k + 1) (k + 2) m 12 u v _ w rfl h hg.sl hk r1 hl hb rfl rfl h0 (d1 (by decide)) (c1 (by decide)) rfl).mono fun e w' h => ⟨h.1, fun _ => h.2.1 rfl, h.2.2⟩
  · exact (sdo_13 B p b off n c k (k + 1) (k + 2) m 13 u v _ w rfl h hg.sl hk r1 hl hb rfl rfl h0 rfl).mono fun e w' h => ⟨h.1, fun _ => h.2.1 rfl, h.2.2⟩

set_option maxHeartbeats 400000 in
theorem lmin_used (x : Int) (w : World) (h0 : 0 ≤ x) (h1 : x ≤ 1000001) : Calls Try.prog 59 #[.int .i64 1000000, .int .i64 x] w fun e w' => e = .returned (.int .i64 (if x ≤ 1000000 then x else 1000000)) ∧ w' = w := by
  by_cases h : x ≤ 1000000
  · rw [if_pos h]
    by_cases he : x < 1000000
    · have h2 : decide ((1000000 : Int) < x) = false := decide_eq_false (by omega)
      have h3 : decide (x < 1000000) = true := decide_eq_true he
      have h4 : decide ((1000000 : Int) ≤ x) = false := decide_eq_false (by omega)
      clear h h0 h1 he
      go_enter Try.func59, Try.ntmps59
      go_wp2
      go_ret
      exact ⟨rfl, rfl⟩
    · have : x = 1000000 := by omega
      subst this
      go_enter Try.func59, Try.ntmps59
      go_wp2
      go_ret
      exact ⟨rfl, rfl⟩
  · have : x = 1000001 := by omega
    subst this
    go_enter Try.func59, Try.ntmps59
    go_wp2
    go_ret
    exact ⟨rfl, rfl⟩
end Go.Proofs.Ytlofagpffeaebaa
namespace Go.Proofs.Ytlofagpffeaebaa
open Go.RowKit
set_option linter.unusedVariables false

/-- a machine by value that a call made, in blocks from B on -/
def MachR (B : Nat) (w w' : World) (e : Ending) (m : SM) : Prop := ∃ sv cv, e = .returned (machVs m sv cv) ∧ Own w' B sv m.stk ∧ Own w' B cv m.cells ∧ (∀ g, sv.ownBlock = some g → cv.ownBlock ≠ some g) ∧ Below w.heap.size w w'
abbrev zeroLine : Array Value := #[.int .i64 0, .slice none 0 0, .slice none 0 0, .int .i64 0, .int .i64 0, .int .i64 0, .bool false]

/-- the result's block filled with a machine -/
theorem fill7 (r : Nat) (W : World) (m : SM) (sv cv : Value) : Sole1 r W (((((((W.setCell ⟨r, 0, none⟩ (.int .i64 m.pc)).setCell ⟨r, 1, none⟩ sv).setCell ⟨r, 2, none⟩ cv).setCell ⟨r, 3, none⟩ (.int .i64 m.sig)).setCell ⟨r, 4, none⟩ (.int .i64 m.used)).setCell ⟨r, 5, none⟩ (.int .i64 m.trap)).setCell ⟨r, 6, none⟩ (.bool m.done)) :=
  (((((((Sole1.refl r W).set 0 (.int .i64 m.pc)).set 1 sv).set 2 cv).set 3 (.int .i64 m.sig)).set 4 (.int .i64 m.used)).set 5 (.int .i64 m.trap)).set 6 (.bool m.done)
end Go.Proofs.Ytlofagpffeaebaa
namespace Go.Proofs.Ytlofagpffeaebaa
open Go.RowKit
set_option linter.unusedVariables false
attribute [local go_sem ↓] Go.wp_at_zero Go.wp_at_succ

set_option maxHeartbeats 3200000 in
set_option maxRecDepth 100000 in
theorem lstep_stop (B : Nat) (m : SM) (sv cv : Value) (a : Option Addr) (zs : List Int) (c : Nat) (w : World) (hs : Own w B sv m.stk) (hc : Own w B cv m.cells) (hd : ∀ g, sv.ownBlock = some g → cv.ownBlock ≠ some g) (hB : B ≤ w.heap.size) (hgo : goes m = false) :
    Calls Try.prog 86 #[.slice a zs.length c, machVs m sv cv] w fun e w' => MachR B w w' e m := by
  obtain ⟨a1, k1, rfl⟩ := own_shape hs
  obtain ⟨a2, k2, rfl⟩ := own_shape hc
  have hX : Hid (∀ W, W = (w.alloc (.cells (lineS m (.slice a1 m.stk.length k1) (.slice a2 m.cells.length k2)) 44)).alloc (.cells zeroLine 44) →
      Below w.heap.size w W ∧ W.heap[w.heap.size]? = some (.cells (lineS m (.slice a1 m.stk.length k1) (.slice a2 m.cells.length k2)) 44 (0, 0)) ∧ W.heap[w.heap.size + 1]? = some (.cells zeroLine 44 (0, 0))) := fun W e => by
    subst e
    have x1 := heap_alloc_new w (.cells (lineS m (.slice a1 m.stk.length k1) (.slice a2 m.cells.length k2)) 44)
    have y1 := (Below.refl w.heap.size w).alloc (Nat.le_refl _) (.cells (lineS m (.slice a1 m.stk.length k1) (.slice a2 m.cells.length k2)) 44)
    have s1 : (w.alloc (.cells (lineS m (.slice a1 m.stk.length k1) (.slice a2 m.cells.length k2)) 44)).heap.size = w.heap.size + 1 := by simp
    generalize w.alloc (.cells (lineS m (.slice a1 m.stk.length k1) (.slice a2 m.cells.length k2)) 44) = W1 at *
    have x2 := heap_alloc_new W1 (.cells zeroLine 44)
    have y2 := (Below.refl W1.heap.size W1).alloc (Nat.le_refl _) (.cells zeroLine 44)
    rw [s1] at x2
    exact ⟨y1.trans (y2.mono (by omega)), blk8 x1 y2, x2⟩
  have HS : Hid (Own w B (.slice a1 m.stk.length k1) m.stk) := hs
  have HC : Hid (Own w B (.slice a2 m.cells.length k2) m.cells) := hc
  have HD : Hid (∀ g, (Value.slice a1 m.stk.length k1).ownBlock = some g → (Value.slice a2 m.cells.length k2).ownBlock ≠ some g) := hd
  have hT : m.done = true ∨ (m.done = false ∧ (m.trap != 0) = true) := by
    unfold goes at hgo
    cases hq : m.done
    · right; refine ⟨rfl, ?_⟩
      rw [hq] at hgo
      simpa using hgo
    · exact .inl rfl
  clear hs hc hd hgo
  generalize hL1 : m.stk.length = l1 at *
  generalize hL2 : m.cells.length = l2 at *
  go_enter Try.func86, Try.ntmps86
  go_upto_region 1 with fail
  have hXX := hX.out _ rfl
  generalize (w.alloc (.cells (lineS m (.slice a1 l1 k1) (.slice a2 l2 k2)) 44)).alloc (.cells zeroLine 44) = W at *
  obtain ⟨x1, x2, x3⟩ := hXX
  have HB : Hid (Below w.heap.size w W) := x1
  obtain ⟨e0, e1, e2, e3, e4, e5, e6⟩ := RunS.cells x2
  have g0 := cell_of_row _ _ 0 _ _ _ x3
  have g1 := cell_of_row _ _ 1 _ _ _ x3
  have g2 := cell_of_row _ _ 2 _ _ _ x3
  have g3 := cell_of_row _ _ 3 _ _ _ x3
  have g4 := cell_of_row _ _ 4 _ _ _ x3
  have g5 := cell_of_row _ _ 5 _ _ _ x3
  have g6 := cell_of_row _ _ 6 _ _ _ x3
  have f0 := frozen_of_row _ _ 0 _ _ x3
  have f1 := frozen_of_row _ _ 1 _ _ x3
  have f2 := frozen_of_row _ _ 2 _ _ x3
  have f3 := frozen_of_row _ _ 3 _ _ x3
  have f4 := frozen_of_row _ _ 4 _ _ x3
  have f5 := frozen_of_row _ _ 5 _ _ x3
  have f6 := frozen_of_row _ _ 6 _ _ x3
  simp at g0 g1 g2 g3 g4 g5 g6
  clear x1 x2 x3 hX
  have HE : Hid _ := fill7 (w.heap.size + 1) W m (.slice a1 l1 k1) (.slice a2 l2 k2)
  have HF : Hid (MachR B w (((((((W.setCell ⟨w.heap.size + 1, 0, none⟩ (.int .i64 m.pc)).setCell ⟨w.heap.size + 1, 1, none⟩ (.slice a1 l1 k1)).setCell ⟨w.heap.size + 1, 2, none⟩ (.slice a2 l2 k2)).setCell ⟨w.heap.size + 1, 3, none⟩ (.int .i64 m.sig)).setCell ⟨w.heap.size + 1, 4, none⟩ (.int .i64 m.used)).setCell ⟨w.heap.size + 1, 5, none⟩ (.int .i64 m.trap)).setCell ⟨w.heap.size + 1, 6, none⟩ (.bool m.done)) (.returned (machVs m (.slice a1 l1 k1) (.slice a2 l2 k2))) m) :=
    ⟨_, _, rfl, own_sole (own_kept HS.out HB.out) HE.out (fun e => by have := (HS.out.lt _ e).2; omega), own_sole (own_kept HC.out HB.out) HE.out (fun e => by have := (HC.out.lt _ e).2; omega), HD.out, HB.out.trans (HE.out.bel.mono (by omega))⟩
  clear HE HS HC HD HB
  generalize hdn : m.done = dn at *
  have hm : machVs m (.slice a1 l1 k1) (.slice a2 l2 k2) = .agg #[.int .i64 m.pc, .slice a1 l1 k1, .slice a2 l2 k2, .int .i64 m.sig, .int .i64 m.used, .int .i64 m.trap, .bool dn] := by rw [← hdn]
  have HM : Hid _ := hm
  clear hm hdn
  rcases hT with hT | ⟨hT, hT2⟩
  all_goals
    subst hT
    go_wp2_with fail
    refine bodyPost_ret (v := .agg #[.int .i64 m.pc, .slice a1 l1 k1, .slice a2 l2 k2, .int .i64 m.sig, .int .i64 m.used, .int .i64 m.trap, .bool _]) (by simp [results, Try.results86, go_sem, g0, g1, g2, g3, g4, g5, g6]; rfl) rfl ?_
    have := HF.out
    rw [HM.out] at this
    exact this
end Go.Proofs.Ytlofagpffeaebaa
namespace Go.Proofs.Ytlofagpffeaebaa
open Go.RowKit
set_option linter.unusedVariables false
attribute [local go_sem ↓] Go.wp_at_zero Go.wp_at_succ

set_option maxHeartbeats 6400000 in
set_option maxRecDepth 100000 in
theorem lstep_go (B0 B k : Nat) (m R : SM) (sv cv : Value) (a : Option Addr) (zs : List Int) (c : Nat) (w : World) (hs : Own w B0 sv m.stk) (hc : Own w B0 cv m.cells) (hB : B ≤ w.heap.size) (hgo : goes m = true) (hg : Good m) (hk : m.pc = k) (hz : Nums w a zs) (hl : zs.length ≤ 400) (hw : wordsB zs = true)
    (hR1 : rdyL zs k m = false → R = trp (usedM m) 1)
    (hR2 : rdyL zs k m = true → toldC (zs.getD k 0) (zs.getD (k + 1) 0) (zs.getD (k + 2) 0) m ≠ 0 → R = trp (usedM m) (toldC (zs.getD k 0) (zs.getD (k + 1) 0) (zs.getD (k + 2) 0) m))
    (hR3 : rdyL zs k m = true → toldC (zs.getD k 0) (zs.getD (k + 1) 0) (zs.getD (k + 2) 0) m = 0 → R = doM (zs.getD k 0) (zs.getD (k + 1) 0) (toldV (zs.getD k 0) (zs.getD (k + 1) 0) (zs.getD (k + 2) 0) m) (atP (usedM m) ((k : Int) + 1 + argN (zs.getD k 0)))) :
    Calls Try.prog 86 #[.slice a zs.length c, machVs m sv cv] w fun e w' => MachR B w w' e R := by
  obtain ⟨a1, k1, rfl⟩ := own_shape hs
  obtain ⟨a2, k2, rfl⟩ := own_shape hc
  have hX : Hid (∀ W, W = (w.alloc (.cells (lineS m (.slice a1 m.stk.length k1) (.slice a2 m.cells.length k2)) 44)).alloc (.cells zeroLine 44) →
      Below w.heap.size w W ∧ W.heap[w.heap.size]? = some (.cells (lineS m (.slice a1 m.stk.length k1) (.slice a2 m.cells.length k2)) 44 (0, 0)) ∧ W.heap[w.heap.size + 1]? = some (.cells zeroLine 44 (0, 0)) ∧ W.heap.size = w.heap.size + 2) := fun W e => by
    subst e
    have x1 := heap_alloc_new w (.cells (lineS m (.slice a1 m.stk.length k1) (.slice a2 m.cells.length k2)) 44)
    have y1 := (Below.refl w.heap.size w).alloc (Nat.le_refl _) (.cells (lineS m (.slice a1 m.stk.length k1) (.slice a2 m.cells.length k2)) 44)
    have s1 : (w.alloc (.cells (lineS m (.slice a1 m.stk.length k1) (.slice a2 m.cells.length k2)) 44)).heap.size = w.heap.size + 1 := by simp
    generalize w.alloc (.cells (lineS m (.slice a1 m.stk.length k1) (.slice a2 m.cells.length k2)) 44) = W1 at *
    have x2 := heap_alloc_new W1 (.cells zeroLine 44)
    have y2 := (Below.refl W1.heap.size W1).alloc (Nat.le_refl _) (.cells zeroLine 44)
    rw [s1] at x2
    exact ⟨y1.trans (y2.mono (by omega)), blk8 x1 y2, x2, by simp [s1]⟩
  have HCPY : Hid (∀ W, Below w.heap.size w W → Calls Try.prog 113 #[machVs m (.slice a1 m.stk.length k1) (.slice a2 m.cells.length k2)] W fun e w' => ∃ a' k' b' j', e = .returned (machVs m (.slice a' m.stk.length k') (.slice b' m.cells.length j')) ∧ Own w' W.heap.size (.slice a' m.stk.length k') m.stk ∧ Own w' W.heap.size (.slice b' m.cells.length j') m.cells ∧ (∀ g, (Value.slice a' m.stk.length k').ownBlock = some g → (Value.slice b' m.cells.length j').ownBlock ≠ some g) ∧ Below W.heap.size W w') := fun W hb => by
    refine (l8Copy_any m _ _ W ((own_row hs).below hb) ((own_row hc).below hb) (by have := hg.sl; omega) (by have := hg.cl; omega)).mono ?_
    rintro e w' ⟨s', c', h1, h2, h3, h4, h5⟩
    obtain ⟨a', k', rfl⟩ := own_shape h2
    obtain ⟨b', j', rfl⟩ := own_shape h3
    exact ⟨a', k', b', j', h1, h2, h3, h4, h5⟩
  have HMIN : Hid (∀ W, Calls Try.prog 59 #[.int .i64 1000000, .int .i64 (m.used + 1)] W fun e w' => e = .returned (.int .i64 (usedM m).used) ∧ w' = W) := fun W => lmin_used (m.used + 1) W (by have := hg.used0; omega) (by have := hg.used1; omega)
  have HRDY : Hid (∀ W, Below w.heap.size w W → W.heap[w.heap.size]? = some (.cells (lineS m (.slice a1 m.stk.length k1) (.slice a2 m.cells.length k2)) 44 (0, 0)) → Calls Try.prog 114 #[.slice a zs.length c, .pointer (some ⟨w.heap.size, 0, none⟩)] W fun e w' => e = .returned (.bool (rdyL zs k m)) ∧ Below W.heap.size W w') := fun W hb hr => l8Ready_any a zs c k w.heap.size m _ _ W (hz.below hb) hl hr hk ((own_row hs).below hb) ((own_row hc).below hb) hg.sl hg.cl
  have HDO : Hid (rdyL zs k m = true → ∀ (Bq p : Nat) (W : World), w.heap.size ≤ Bq → Below w.heap.size w W → RunS Bq W p (usedM m) → Calls Try.prog 115 #[.slice a zs.length c, .pointer (some ⟨p, 0, none⟩)] W fun e w' => e = .returned (.int .i64 (toldC (zs.getD k 0) (zs.getD (k + 1) 0) (zs.getD (k + 2) 0) m)) ∧ (toldC (zs.getD k 0) (zs.getD (k + 1) 0) (zs.getD (k + 2) 0) m = 0 → RunS Bq w' p (doM (zs.getD k 0) (zs.getD (k + 1) 0) (toldV (zs.getD k 0) (zs.getD (k + 1) 0) (zs.getD (k + 2) 0) m) (atP (usedM m) ((k : Int) + 1 + argN (zs.getD k 0))))) ∧ Below Bq W w') := fun hr Bq p W hq hb hrs => by
    have hlt := (rdy_yes hk hr).1
    refine l8Do_any Bq p k c a zs (usedM m) W hrs (usedM_good hg) hk (hz.below hb) (fun b off hab => ?_) hl hw hr
    rcases hz with hz | ⟨b2, o2, h2, hcc⟩
    · rw [hz] at hlt; simp at hlt
    · have h3 := hab.symm.trans h2
      have h4 := Option.some.inj h3
      have h5 := World.block_lt_of_cell? _ _ (hcc k hlt)
      have h6 : b = b2 := congrArg Addr.block h4
      show b < Bq
      have h7 : b2 < w.heap.size := h5
      omega
  have u0 := hg.used0
  have u1 := hg.used1
  have hGT : m.done = false ∧ m.trap = 0 := by
    unfold goes at hgo
    simpa using hgo
  have HRR : Hid ((rdyL zs k m = false → R = trp (usedM m) 1) ∧ (rdyL zs k m = true → toldC (zs.getD k 0) (zs.getD (k + 1) 0) (zs.getD (k + 2) 0) m ≠ 0 → R = trp (usedM m) (toldC (zs.getD k 0) (zs.getD (k + 1) 0) (zs.getD (k + 2) 0) m)) ∧ (rdyL zs k m = true → toldC (zs.getD k 0) (zs.getD (k + 1) 0) (zs.getD (k + 2) 0) m = 0 → R = doM (zs.getD k 0) (zs.getD (k + 1) 0) (toldV (zs.getD k 0) (zs.getD (k + 1) 0) (zs.getD (k + 2) 0) m) (atP (usedM m) ((k : Int) + 1 + argN (zs.getD k 0))))) := ⟨hR1, hR2, hR3⟩
  clear hs hc hgo hg hk hz hl hw hR1 hR2 hR3
  generalize toldC (zs.getD k 0) (zs.getD (k + 1) 0) (zs.getD (k + 2) 0) m = C at *
  generalize doM (zs.getD k 0) (zs.getD (k + 1) 0) (toldV (zs.getD k 0) (zs.getD (k + 1) 0) (zs.getD (k + 2) 0) m) (atP (usedM m) ((k : Int) + 1 + argN (zs.getD k 0))) = DM at *
  generalize rdyL zs k m = rd at *
  generalize zs.length = nz at *
  generalize hL1 : m.stk.length = l1 at *
  generalize hL2 : m.cells.length = l2 at *
  have HGT : Hid (m.done = false ∧ m.trap = 0) := hGT
  clear hGT
  go_enter Try.func86, Try.ntmps86
  go_upto_region 1 with fail
  have hXX := hX.out _ rfl
  generalize (w.alloc (.cells (lineS m (.slice a1 l1 k1) (.slice a2 l2 k2)) 44)).alloc (.cells zeroLine 44) = W at *
  obtain ⟨x1, x2, x3, x4⟩ := hXX
  have HB : Hid (Below w.heap.size w W) := x1
  have HA : Hid (W.heap[w.heap.size]? = some (.cells (lineS m (.slice a1 l1 k1) (.slice a2 l2 k2)) 44 (0, 0))) := x2
  have HZ : Hid (W.heap[w.heap.size + 1]? = some (.cells zeroLine 44 (0, 0))) := x3
  have HS : Hid (W.heap.size = w.heap.size + 2) := x4
  obtain ⟨d0, d1, d2, d3, d4, d5, d6⟩ := RunS.cells x2
  clear x1 x2 x3 x4 hX
  obtain ⟨hdn, htr⟩ := HGT.out
  have ht2 : (m.trap != 0) = false := by rw [htr]; rfl
  clear htr
  go_upto_region 3 with fail
  clear hdn ht2
  go_upto_region 4 with (go_at_call 59; refine (HMIN.out _).mono ?_; rintro e w3 ⟨rfl, hw3⟩; have hw4 := hw3.symm; clear hw3; subst hw4)
  go_upto_region 5 with (go_at_call 113; refine (HCPY.out _ HB.out).mono ?_; rintro e w4 ⟨s6, n6, c6, j6, rfl, ho1, ho2, ho3, hb4⟩)
  have y6 := heap_alloc_new w4 (.cells (lineS m (.slice s6 l1 n6) (.slice c6 l2 j6)) 44)
  have z6 := (Below.refl w4.heap.size w4).alloc (Nat.le_refl _) (.cells (lineS m (.slice s6 l1 n6) (.slice c6 l2 j6)) 44)
  have hz4 := hb4.size
  have HR6 : Hid (RunS W.heap.size (w4.alloc (.cells (lineS m (.slice s6 l1 n6) (.slice c6 l2 j6)) 44)) w4.heap.size m) := ⟨_, _, y6, ho1.alloc _, ho2.alloc _, hz4, fun e => by have := (ho1.lt _ e).2; omega, fun e => by have := (ho2.lt _ e).2; omega, ho3⟩
  have HB6 : Hid (Below W.heap.size W (w4.alloc (.cells (lineS m (.slice s6 l1 n6) (.slice c6 l2 j6)) 44))) := hb4.trans (z6.mono hz4)
  have HQ6 : Hid (W.heap.size ≤ w4.heap.size) := hz4
  clear z6 ho1 ho2 ho3 hb4 hz4 d0 d1 d2 d3 d4 d5 d6
  generalize w4.alloc (.cells (lineS m (.slice s6 l1 n6) (.slice c6 l2 j6)) 44) = W6 at *
  generalize w4.heap.size = q6 at *
  have u4 := (RunS.cells y6).2.2.2.2.1
  have uf := frozen_of_row _ _ 4 _ _ y6
  clear y6
  go_upto_region 6 with fail
  have HR7 : Hid (RunS W.heap.size (W6.setCell ⟨q6, 4, none⟩ (.int .i64 (usedM m).used)) q6 (usedM m)) := HR6.out.fld (m' := usedM m) 4 _ (fun _ _ => rfl) rfl rfl
  have HB7 : Hid (Below W.heap.size W (W6.setCell ⟨q6, 4, none⟩ (.int .i64 (usedM m).used))) := HB6.out.setCell HQ6.out _
  clear HR6 HB6 u4 uf
  generalize W6.setCell ⟨q6, 4, none⟩ (.int .i64 (usedM m).used) = W7 at *
  have HA7 : Hid (W7.heap[w.heap.size]? = some (.cells (lineS m (.slice a1 l1 k1) (.slice a2 l2 k2)) 44 (0, 0))) := blk8 HA.out HB7.out
  have HZ7 : Hid (W7.heap[w.heap.size + 1]? = some (.cells zeroLine 44 (0, 0))) := blk8 HZ.out HB7.out
  have HBW7 : Hid (Below w.heap.size w W7) := HB.out.trans (HB7.out.mono (by have := HS.out; omega))
  have HC7 : Hid (Calls Try.prog 114 #[.slice a nz c, .pointer (some ⟨w.heap.size, 0, none⟩)] W7 fun e w' => e = .returned (.bool rd) ∧ Below W7.heap.size W7 w') := HRDY.out W7 HBW7.out HA7.out
  clear HRDY HMIN HA HZ HB7 HB
  cases rd
  · have hRR := HRR.out.1 (by first | rfl | trivial)
    have HRQ : Hid (R = trp (usedM m) 1) := hRR
    clear HRR hRR HDO HCPY
    go_upto_region 7 with (go_at_call 114; refine HC7.out.mono ?_; rintro e w8 ⟨rfl, hb8⟩)
    have HR8 : Hid (RunS W.heap.size w8 q6 (usedM m)) := HR7.out.kept hb8
    have HZ8 : Hid (w8.heap[w.heap.size + 1]? = some (.cells zeroLine 44 (0, 0))) := blk8 HZ7.out hb8
    have HB8 : Hid (Below w.heap.size w w8) := HBW7.out.trans (hb8.mono HBW7.out.size)
    obtain ⟨se8, ce8, hrow8, _⟩ := id HR8.out
    have v5 := (RunS.cells hrow8).2.2.2.2.2.1
    have vf := frozen_of_row _ _ 5 _ _ hrow8
    clear hb8 hrow8 HR7 HZ7 HBW7 HC7 HA7
    go_upto_region 8 with fail
    have HRZ : Hid (RunS W.heap.size (w8.setCell ⟨q6, 5, none⟩ (.int .i64 1)) q6 R) := by
      unfold Hid; rw [HRQ.out]; exact HR8.out.fld (m' := trp (usedM m) 1) 5 _ (fun _ _ => rfl) rfl rfl
    have HZR : Hid ((w8.setCell ⟨q6, 5, none⟩ (.int .i64 1)).heap[w.heap.size + 1]? = some (.cells zeroLine 44 (0, 0))) := (heap_setCell_other w8 _ (w.heap.size + 1) _ (by have := HQ6.out; have := HS.out; show w.heap.size + 1 ≠ q6; omega)).trans HZ8.out
    have HBZ : Hid (Below w.heap.size w (w8.setCell ⟨q6, 5, none⟩ (.int .i64 1))) := HB8.out.setCell (by have := HQ6.out; have := HS.out; show w.heap.size ≤ q6; omega) _
    have HBq : Hid (w.heap.size + 2 ≤ W.heap.size) := by have := HS.out; show _ ≤ _; omega
    clear HR8 HZ8 HB8 v5 vf
    generalize w8.setCell ⟨q6, 5, none⟩ (.int .i64 1) = Z at *
    obtain ⟨se, ce, hrow, hmem⟩ := id HRZ.out
    obtain ⟨ae, ke, rfl⟩ := own_shape hmem.ss
    obtain ⟨be, je, rfl⟩ := own_shape hmem.cs
    obtain ⟨e0, e1, e2, e3, e4, e5, e6⟩ := RunS.cells hrow
    have g0 := cell_of_row _ _ 0 _ _ _ HZR.out
    have g1 := cell_of_row _ _ 1 _ _ _ HZR.out
    have g2 := cell_of_row _ _ 2 _ _ _ HZR.out
    have g3 := cell_of_row _ _ 3 _ _ _ HZR.out
    have g4 := cell_of_row _ _ 4 _ _ _ HZR.out
    have g5 := cell_of_row _ _ 5 _ _ _ HZR.out
    have g6 := cell_of_row _ _ 6 _ _ _ HZR.out
    have f0 := frozen_of_row _ _ 0 _ _ HZR.out
    have f1 := frozen_of_row _ _ 1 _ _ HZR.out
    have f2 := frozen_of_row _ _ 2 _ _ HZR.out
    have f3 := frozen_of_row _ _ 3 _ _ HZR.out
    have f4 := frozen_of_row _ _ 4 _ _ HZR.out
    have f5 := frozen_of_row _ _ 5 _ _ HZR.out
    have f6 := frozen_of_row _ _ 6 _ _ HZR.out
    simp at g0 g1 g2 g3 g4 g5 g6
    have HE : Hid _ := fill7 (w.heap.size + 1) Z R (.slice ae R.stk.length ke) (.slice be R.cells.length je)
    have HF : Hid (MachR B w (((((((Z.setCell ⟨w.heap.size + 1, 0, none⟩ (.int .i64 R.pc)).setCell ⟨w.heap.size + 1, 1, none⟩ (.slice ae R.stk.length ke)).setCell ⟨w.heap.size + 1, 2, none⟩ (.slice be R.cells.length je)).setCell ⟨w.heap.size + 1, 3, none⟩ (.int .i64 R.sig)).setCell ⟨w.heap.size + 1, 4, none⟩ (.int .i64 R.used)).setCell ⟨w.heap.size + 1, 5, none⟩ (.int .i64 R.trap)).setCell ⟨w.heap.size + 1, 6, none⟩ (.bool R.done)) (.returned (machVs R (.slice ae R.stk.length ke) (.slice be R.cells.length je))) R) :=
      ⟨_, _, rfl, own_mono (own_sole hmem.ss HE.out (fun e => by have := (hmem.ss.lt _ e).1; have := HBq.out; omega)) (by have := HBq.out; omega), own_mono (own_sole hmem.cs HE.out (fun e => by have := (hmem.cs.lt _ e).1; have := HBq.out; omega)) (by have := HBq.out; omega), hmem.d3, HBZ.out.trans (HE.out.bel.mono (by omega))⟩
    clear HE hrow hmem HRZ HZR HBZ HBq
    generalize R.stk.length = le at *
    generalize R.cells.length = he at *
    go_wp2_with fail
    refine bodyPost_ret (v := .agg #[.int .i64 R.pc, .slice ae le ke, .slice be he je, .int .i64 R.sig, .int .i64 R.used, .int .i64 R.trap, .bool R.done]) (by simp [results, Try.results86, go_sem, g0, g1, g2, g3, g4, g5, g6]) rfl ?_
    exact HF.out
  · go_upto_region 9 with (go_at_call 114; refine HC7.out.mono ?_; rintro e w8 ⟨rfl, hb8⟩)
    have HR8 : Hid (RunS W.heap.size w8 q6 (usedM m)) := HR7.out.kept hb8
    have HZ8 : Hid (w8.heap[w.heap.size + 1]? = some (.cells zeroLine 44 (0, 0))) := blk8 HZ7.out hb8
    have HA8 := blk8 HA7.out hb8
    have HB8 : Hid (Below w.heap.size w w8) := HBW7.out.trans (hb8.mono HBW7.out.size)
    have HS8 : Hid (W.heap.size ≤ w8.heap.size) := by have := HR8.out.lt; show _ ≤ _; omega
    obtain ⟨d0, d1, d2, d3, d4, d5, d6⟩ := RunS.cells HA8
    clear hb8 HR7 HZ7 HBW7 HC7 HA7 HA8
    go_upto_region 10 with (go_at_call 113; refine (HCPY.out _ HB8.out).mono ?_; rintro e w9 ⟨s7, n7, c7, j7, rfl, ho1, ho2, ho3, hb9⟩)
    have y9 := heap_alloc_new w9 (.cells (lineS m (.slice s7 l1 n7) (.slice c7 l2 j7)) 44)
    have z9 := (Below.refl w9.heap.size w9).alloc (Nat.le_refl _) (.cells (lineS m (.slice s7 l1 n7) (.slice c7 l2 j7)) 44)
    have hz9 := hb9.size
    have HR9 : Hid (RunS w8.heap.size (w9.alloc (.cells (lineS m (.slice s7 l1 n7) (.slice c7 l2 j7)) 44)) w9.heap.size m) := ⟨_, _, y9, ho1.alloc _, ho2.alloc _, hz9, fun e => by have := (ho1.lt _ e).2; omega, fun e => by have := (ho2.lt _ e).2; omega, ho3⟩
    have HB9 : Hid (Below w8.heap.size w8 (w9.alloc (.cells (lineS m (.slice s7 l1 n7) (.slice c7 l2 j7)) 44))) := hb9.trans (z9.mono hz9)
    have HQ9 : Hid (w8.heap.size ≤ w9.heap.size) := hz9
    clear z9 ho1 ho2 ho3 hb9 hz9 d0 d1 d2 d3 d4 d5 d6
    generalize w9.alloc (.cells (lineS m (.slice s7 l1 n7) (.slice c7 l2 j7)) 44) = W9 at *
    generalize w9.heap.size = q9 at *
    have u4 := (RunS.cells y9).2.2.2.2.1
    have uf := frozen_of_row _ _ 4 _ _ y9
    clear y9
    go_upto_region 11 with fail
    have HR10 : Hid (RunS w8.heap.size (W9.setCell ⟨q9, 4, none⟩ (.int .i64 (usedM m).used)) q9 (usedM m)) := HR9.out.fld (m' := usedM m) 4 _ (fun _ _ => rfl) rfl rfl
    have HB10 : Hid (Below w8.heap.size w8 (W9.setCell ⟨q9, 4, none⟩ (.int .i64 (usedM m).used))) := HB9.out.setCell HQ9.out _
    clear HR9 HB9 u4 uf
    generalize W9.setCell ⟨q9, 4, none⟩ (.int .i64 (usedM m).used) = W10 at *
    have HBW10 : Hid (Below w.heap.size w W10) := HB8.out.trans (HB10.out.mono HB8.out.size)
    have HD10 : Hid (Calls Try.prog 115 #[.slice a nz c, .pointer (some ⟨q9, 0, none⟩)] W10 fun e w' => e = .returned (.int .i64 C) ∧ (C = 0 → RunS w8.heap.size w' q9 DM) ∧ Below w8.heap.size W10 w') := HDO.out (by first | rfl | trivial) w8.heap.size q9 W10 HB8.out.size HBW10.out HR10.out
    have HR11 : Hid (RunS W.heap.size W10 q6 (usedM m)) := HR8.out.kept HB10.out
    have HZ11 : Hid (W10.heap[w.heap.size + 1]? = some (.cells zeroLine 44 (0, 0))) := blk8 HZ8.out HB10.out
    have HS10 : Hid (q6 < w8.heap.size ∧ w.heap.size + 1 < w8.heap.size) := ⟨HR8.out.lt.2, (Array.getElem?_eq_some_iff.1 HZ8.out).1⟩
    clear HDO HCPY HR10
    by_cases hC : C = 0
    · have hRR := HRR.out.2.2 (by first | rfl | trivial) hC
      have HRQ : Hid (R = DM) := hRR
      have HC0 : Hid (C = 0) := hC
      have eC : (C != 0) = false := by rw [hC]; rfl
      clear HRR hRR hC
      go_upto_region 15 with (go_at_call 115; refine HD10.out.mono ?_; rintro e Z ⟨rfl, hrz, hbz⟩)
      have HRZ : Hid (RunS w8.heap.size Z q9 R) := by unfold Hid; rw [HRQ.out]; exact hrz HC0.out
      have HZR : Hid (Z.heap[w.heap.size + 1]? = some (.cells zeroLine 44 (0, 0))) := (hbz.block _ HS10.out.2).trans HZ11.out
      have HBZ : Hid (Below w.heap.size w Z) := HBW10.out.trans (hbz.mono HB8.out.size)
      have HBq : Hid (w.heap.size + 2 ≤ w8.heap.size) := by have := HS10.out; show _ ≤ _; omega
      clear hrz hbz HD10 HR11 HZ11 HBW10 HB10 HR8 HZ8
      obtain ⟨se, ce, hrow, hmem⟩ := id HRZ.out
      obtain ⟨ae, ke, rfl⟩ := own_shape hmem.ss
      obtain ⟨be, je, rfl⟩ := own_shape hmem.cs
      obtain ⟨e0, e1, e2, e3, e4, e5, e6⟩ := RunS.cells hrow
      have g0 := cell_of_row _ _ 0 _ _ _ HZR.out
      have g1 := cell_of_row _ _ 1 _ _ _ HZR.out
      have g2 := cell_of_row _ _ 2 _ _ _ HZR.out
      have g3 := cell_of_row _ _ 3 _ _ _ HZR.out
      have g4 := cell_of_row _ _ 4 _ _ _ HZR.out
      have g5 := cell_of_row _ _ 5 _ _ _ HZR.out
      have g6 := cell_of_row _ _ 6 _ _ _ HZR.out
      have f0 := frozen_of_row _ _ 0 _ _ HZR.out
      have f1 := frozen_of_row _ _ 1 _ _ HZR.out
      have f2 := frozen_of_row _ _ 2 _ _ HZR.out
      have f3 := frozen_of_row _ _ 3 _ _ HZR.out
      have f4 := frozen_of_row _ _ 4 _ _ HZR.out
      have f5 := frozen_of_row _ _ 5 _ _ HZR.out
      have f6 := frozen_of_row _ _ 6 _ _ HZR.out
      simp at g0 g1 g2 g3 g4 g5 g6
      have HE : Hid _ := fill7 (w.heap.size + 1) Z R (.slice ae R.stk.length ke) (.slice be R.cells.length je)
      have HF : Hid (MachR B w (((((((Z.setCell ⟨w.heap.size + 1, 0, none⟩ (.int .i64 R.pc)).setCell ⟨w.heap.size + 1, 1, none⟩ (.slice ae R.stk.length ke)).setCell ⟨w.heap.size + 1, 2, none⟩ (.slice be R.cells.length je)).setCell ⟨w.heap.size + 1, 3, none⟩ (.int .i64 R.sig)).setCell ⟨w.heap.size + 1, 4, none⟩ (.int .i64 R.used)).setCell ⟨w.heap.size + 1, 5, none⟩ (.int .i64 R.trap)).setCell ⟨w.heap.size + 1, 6, none⟩ (.bool R.done)) (.returned (machVs R (.slice ae R.stk.length ke) (.slice be R.cells.length je))) R) :=
        ⟨_, _, rfl, own_mono (own_sole hmem.ss HE.out (fun e => by have := (hmem.ss.lt _ e).1; have := HBq.out; omega)) (by have := HBq.out; omega), own_mono (own_sole hmem.cs HE.out (fun e => by have := (hmem.cs.lt _ e).1; have := HBq.out; omega)) (by have := HBq.out; omega), hmem.d3, HBZ.out.trans (HE.out.bel.mono (by omega))⟩
      clear HE hrow hmem HRZ HZR HBZ HBq
      generalize R.stk.length = le at *
      generalize R.cells.length = he at *
      go_wp2_with fail
      refine bodyPost_ret (v := .agg #[.int .i64 R.pc, .slice ae le ke, .slice be he je, .int .i64 R.sig, .int .i64 R.used, .int .i64 R.trap, .bool R.done]) (by simp [results, Try.results86, go_sem, g0, g1, g2, g3, g4, g5, g6]) rfl ?_
      exact HF.out
    · have hRR := HRR.out.2.1 (by first | rfl | trivial) hC
      have HRQ : Hid (R = trp (usedM m) C) := hRR
      have eC : (C != 0) = true := by simpa using hC
      clear HRR hRR hC
      go_upto_region 13 with (go_at_call 115; refine HD10.out.mono ?_; rintro e w12 ⟨rfl, _, hbz⟩)
      have HR12 : Hid (RunS W.heap.size w12 q6 (usedM m)) := by
        obtain ⟨s8, c8, hl8, hm8⟩ := HR8.out
        refine RunS.kept (w := w8) ⟨s8, c8, hl8, hm8⟩ ?_
        exact HB10.out.trans hbz
      have HZ12 : Hid (w12.heap[w.heap.size + 1]? = some (.cells zeroLine 44 (0, 0))) := (hbz.block _ HS10.out.2).trans HZ11.out
      have HBW12 : Hid (Below w.heap.size w w12) := HBW10.out.trans (hbz.mono HB8.out.size)
      obtain ⟨se8, ce8, hrow8, _⟩ := id HR12.out
      have v5 := (RunS.cells hrow8).2.2.2.2.2.1
      have vf := frozen_of_row _ _ 5 _ _ hrow8
      clear hrow8 hbz HD10 HR11 HZ11 HBW10 HB10 HR8 HZ8
      go_upto_region 14 with fail
      have HRZ : Hid (RunS W.heap.size (w12.setCell ⟨q6, 5, none⟩ (.int .i64 C)) q6 R) := by
        unfold Hid; rw [HRQ.out]; exact HR12.out.fld (m' := trp (usedM m) C) 5 _ (fun _ _ => rfl) rfl rfl
      have HZR : Hid ((w12.setCell ⟨q6, 5, none⟩ (.int .i64 C)).heap[w.heap.size + 1]? = some (.cells zeroLine 44 (0, 0))) := (heap_setCell_other w12 _ (w.heap.size + 1) _ (by have := HQ6.out; have := HS.out; show w.heap.size + 1 ≠ q6; omega)).trans HZ12.out
      have HBZ : Hid (Below w.heap.size w (w12.setCell ⟨q6, 5, none⟩ (.int .i64 C))) := HBW12.out.setCell (by have := HQ6.out; have := HS.out; show w.heap.size ≤ q6; omega) _
      have HBq : Hid (w.heap.size + 2 ≤ W.heap.size) := by have := HS.out; show _ ≤ _; omega
      clear HR12 HZ12 HBW12 v5 vf
      generalize w12.setCell ⟨q6, 5, none⟩ (.int .i64 C) = Z at *
      obtain ⟨se, ce, hrow, hmem⟩ := id HRZ.out
      obtain ⟨ae, ke, rfl⟩ := own_shape hmem.ss
      obtain ⟨be, je, rfl⟩ := own_shape hmem.cs
      obtain ⟨e0, e1, e2, e3, e4, e5, e6⟩ := RunS.cells hrow
      have g0 := cell_of_row _ _ 0 _ _ _ HZR.out
      have g1 := cell_of_row _ _ 1 _ _ _ HZR.out
      have g2 := cell_of_row _ _ 2 _ _ _ HZR.out
      have g3 := cell_of_row _ _ 3 _ _ _ HZR.out
      have g4 := cell_of_row _ _ 4 _ _ _ HZR.out
      have g5 := cell_of_row _ _ 5 _ _ _ HZR.out
      have g6 := cell_of_row _ _ 6 _ _ _ HZR.out
      have f0 := frozen_of_row _ _ 0 _ _ HZR.out
      have f1 := frozen_of_row _ _ 1 _ _ HZR.out
      have f2 := frozen_of_row _ _ 2 _ _ HZR.out
      have f3 := frozen_of_row _ _ 3 _ _ HZR.out
      have f4 := frozen_of_row _ _ 4 _ _ HZR.out
      have f5 := frozen_of_row _ _ 5 _ _ HZR.out
      have f6 := frozen_of_row _ _ 6 _ _ HZR.out
      simp at g0 g1 g2 g3 g4 g5 g6
      have HE : Hid _ := fill7 (w.heap.size + 1) Z R (.slice ae R.stk.length ke) (.slice be R.cells.length je)
      have HF : Hid (MachR B w (((((((Z.setCell ⟨w.heap.size + 1, 0, none⟩ (.int .i64 R.pc)).setCell ⟨w.heap.size + 1, 1, none⟩ (.slice ae R.stk.length ke)).setCell ⟨w.heap.size + 1, 2, none⟩ (.slice be R.cells.length je)).setCell ⟨w.heap.size + 1, 3, none⟩ (.int .i64 R.sig)).setCell ⟨w.heap.size + 1, 4, none⟩ (.int .i64 R.used)).setCell ⟨w.heap.size + 1, 5, none⟩ (.int .i64 R.trap)).setCell ⟨w.heap.size + 1, 6, none⟩ (.bool R.done)) (.returned (machVs R (.slice ae R.stk.length ke) (.slice be R.cells.length je))) R) :=
        ⟨_, _, rfl, own_mono (own_sole hmem.ss HE.out (fun e => by have := (hmem.ss.lt _ e).1; have := HBq.out; omega)) (by have := HBq.out; omega), own_mono (own_sole hmem.cs HE.out (fun e => by have := (hmem.cs.lt _ e).1; have := HBq.out; omega)) (by have := HBq.out; omega), hmem.d3, HBZ.out.trans (HE.out.bel.mono (by omega))⟩
      clear HE hrow hmem HRZ HZR HBZ HBq
      generalize R.stk.length = le at *
      generalize R.cells.length = he at *
      go_wp2_with fail
      refine bodyPost_ret (v := .agg #[.int .i64 R.pc, .slice ae le ke, .slice be he je, .int .i64 R.sig, .int .i64 R.used, .int .i64 R.trap, .bool R.done]) (by simp [results, Try.results86, go_sem, g0, g1, g2, g3, g4, g5, g6]) rfl ?_
      exact HF.out
end Go.Proofs.Ytlofagpffeaebaa
namespace Go.Proofs.Ytlofagpffeaebaa
open Go.RowKit
set_option maxHeartbeats 400000 in
theorem sFault_any (a : Option Addr) (zs : List Int) (cap : Nat) (w : World) (hlen : zs.length ≤ 9223372036854775807) (hn : Nums w a zs) :
    Calls Try.prog 44 #[.slice a zs.length cap] w fun e w' => e = .returned (.int .i64 (fault zs)) ∧ w' = w := by
  by_cases h4 : 400 < zs.length
  · rw [fault_many h4]
    go_enter Try.func44, Try.ntmps44
    go_wp2
    go_ret
    exact ⟨rfl, rfl⟩
  · go_enter Try.func44, Try.ntmps44
    go_wp2
    go_loop [3] (fun i => ∃ k : Nat, k ≤ zs.length ∧ i = .int .i64 k ∧ ∀ j, j < k → 0 ≤ zs.getD j 0 ∧ zs.getD j 0 ≤ 65535) (fun i => zs.length - (intOf i).toNat)
    case atStart => exact ⟨0, Nat.zero_le _, rfl, fun j hj => by omega⟩
    case round =>
      obtain ⟨k, hk, rfl, ho⟩ := hrel
      have HO : Hid _ := ho
      clear ho
      by_cases hlt : k < zs.length
      · rcases hn with hn | ⟨b, off, rfl, hc⟩
        · subst hn; simp at hlt
        have hcell := hc k hlt
        clear hc
        obtain ⟨z, hz⟩ : ∃ z, z = zs.getD k 0 := ⟨_, rfl⟩
        rw [← hz] at hcell
        have HZ : Hid _ := hz
        clear hz
        by_cases h5 : 0 ≤ z ∧ z ≤ 65535
        · obtain ⟨h5, h6⟩ := h5
          go_wp2_with (go_at_call 84; refine (l1Word_yes _ _ h5 h6).mono ?_; rintro e w' ⟨rfl, rfl⟩)
          go_round
          case rel =>
            refine ⟨k + 1, by omega, by go_num, fun j hj => ?_⟩
            by_cases hjk : j = k
            · subst hjk; rw [← HZ.out]; exact ⟨h5, h6⟩
            · exact HO.out j (by omega)
          case measure => simp [intOf]; omega
        · have h6 : z < 0 ∨ 65535 < z := by omega
          have H6 : Hid _ := h6
          clear h6 h5
          go_wp2_with (go_at_call 84; refine (l1Word_no _ _ H6.out).mono ?_; rintro e w' ⟨rfl, rfl⟩)
          go_ret
          have hf := fault_bad (zs := zs) (by omega) k hlt (by rw [← HZ.out]; exact H6.out)
          exact ⟨by rw [hf]; rfl, rfl⟩
      · have hk2 : k = zs.length := by omega
        subst hk2
        go_wp2
        go_ret
        have hf := fault_ok (zs := zs) (by omega) HO.out
        exact ⟨by rw [hf]; rfl, rfl⟩
end Go.Proofs.Ytlofagpffeaebaa
namespace Go.Proofs.Ytlofagpffeaebaa
open Go.RowKit
set_option linter.unusedVariables false
attribute [local go_sem ↓] Go.wp_at_zero Go.wp_at_succ

theorem l8Step_go (B0 : Nat) (m : SM) (sv cv : Value) (a : Option Addr) (zs : List Int) (c : Nat) (w : World) (hs : Own w B0 sv m.stk) (hc : Own w B0 cv m.cells) (hgo : goes m = true) (hg : Good m) (hz : Nums w a zs) (hl : zs.length ≤ 400) (hw : wordsB zs = true) :
    Calls Try.prog 86 #[.slice a zs.length c, machVs m sv cv] w fun e w' => MachR w.heap.size w w' e (stepL zs m) := by
  obtain ⟨k, hk⟩ := Int.eq_ofNat_of_zero_le hg.pc0
  refine lstep_go B0 w.heap.size k m _ sv cv a zs c w hs hc (Nat.le_refl _) hgo hg hk hz hl hw (fun h => rdy_no hk h (fun i => ?_)) (fun h h2 => ?_) (fun h h2 => ?_)
  · by_cases hi : i < zs.length
    · exact (wordsB_get hw hi).1
    · rw [List.getD_eq_getElem?_getD, List.getElem?_eq_none (by omega)]; simp
  · rw [(rdy_yes hk h).2.2.2.2.2.2, if_pos h2]
  · rw [(rdy_yes hk h).2.2.2.2.2.2, if_neg (by rw [h2]; simp)]

theorem l8Step_any (B : Nat) (m : SM) (sv cv : Value) (a : Option Addr) (zs : List Int) (c : Nat) (w : World) (hs : Own w B sv m.stk) (hc : Own w B cv m.cells) (hd : ∀ g, sv.ownBlock = some g → cv.ownBlock ≠ some g) (hB : B ≤ w.heap.size) (hg : Good m) (hz : Nums w a zs) (hl : zs.length ≤ 400) (hw : wordsB zs = true) :
    Calls Try.prog 86 #[.slice a zs.length c, machVs m sv cv] w fun e w' => MachR B w w' e (stepM zs m) := by
  cases hgo : goes m
  · have e : stepM zs m = m := by unfold stepM; rw [if_neg (by rw [hgo]; simp)]
    rw [e]
    exact lstep_stop B m sv cv a zs c w hs hc hd hB hgo
  · have e : stepM zs m = stepL zs m := by unfold stepM; rw [if_pos hgo]
    rw [e]
    refine (l8Step_go B m sv cv a zs c w hs hc hgo hg hz hl hw).mono ?_
    rintro e w' ⟨s', c', h1, h2, h3, h4, h5⟩
    exact ⟨s', c', h1, own_mono h2 hB, own_mono h3 hB, h4, h5⟩
end Go.Proofs.Ytlofagpffeaebaa
namespace Go.Proofs.Ytlofagpffeaebaa
open Go.RowKit
set_option linter.unusedVariables false
attribute [local go_sem ↓] Go.wp_at_zero Go.wp_at_succ

abbrev filled7 (W : World) (r : Nat) (m : SM) (sv cv : Value) : World := (((((((W.setCell ⟨r, 0, none⟩ (.int .i64 m.pc)).setCell ⟨r, 1, none⟩ sv).setCell ⟨r, 2, none⟩ cv).setCell ⟨r, 3, none⟩ (.int .i64 m.sig)).setCell ⟨r, 4, none⟩ (.int .i64 m.used)).setCell ⟨r, 5, none⟩ (.int .i64 m.trap)).setCell ⟨r, 6, none⟩ (.bool m.done))
theorem filled7_row {W : World} {r : Nat} {m m0 : SM} {sv cv s0 c0 : Value} {T : TypeId} (h : W.heap[r]? = some (.cells (lineS m0 s0 c0) T (0, 0))) : (filled7 W r m sv cv).heap[r]? = some (.cells (lineS m sv cv) T (0, 0)) := by
  have hO := heap_setCell_same _ r 6 _ _ (.bool m.done) (heap_setCell_same _ r 5 _ _ (.int .i64 m.trap) (heap_setCell_same _ r 4 _ _ (.int .i64 m.used) (heap_setCell_same _ r 3 _ _ (.int .i64 m.sig) (heap_setCell_same _ r 2 _ _ cv (heap_setCell_same _ r 1 _ _ sv (heap_setCell_same W r 0 _ _ (.int .i64 m.pc) h))))))
  simp at hO
  exact hO
/-- the machine of a run stored back behind a step -/
theorem run_back {B p : Nat} {w W : World} {m r : SM} {sv cv s' c' : Value} (hrow : w.heap[p]? = some (.cells (lineS m sv cv) 44 (0, 0))) (hp : B ≤ p) (hs : Own W w.heap.size s' r.stk) (hc : Own W w.heap.size c' r.cells) (hd : ∀ g, s'.ownBlock = some g → c'.ownBlock ≠ some g) (hb : Below w.heap.size w W) : RunS B (filled7 W p r s' c') p r := by
  have hE := fill7 p W r s' c'
  have hlt := (Array.getElem?_eq_some_iff.1 hrow).1
  exact ⟨s', c', filled7_row (blk8 hrow hb), own_mono (own_sole hs hE (fun e => by have := (hs.lt _ e).1; omega)) (by omega), own_mono (own_sole hc hE (fun e => by have := (hc.lt _ e).1; omega)) (by omega), hp, fun e => by have := (hs.lt _ e).1; omega, fun e => by have := (hc.lt _ e).1; omega, hd⟩
/-- the result's block filled with the machine at the end -/
theorem run_end {B p R : Nat} {w W : World} {m : SM} {sv cv : Value} (hm : MemO B W p sv cv m) (hR : R < B) (hw : w.heap.size ≤ R) (hb : Below w.heap.size w W) : MachR w.heap.size w (filled7 W R m sv cv) (.returned (machVs m sv cv)) m := by
  have hE := fill7 R W m sv cv
  exact ⟨sv, cv, rfl, own_mono (own_sole hm.ss hE (fun e => by have := (hm.ss.lt _ e).1; omega)) (by omega), own_mono (own_sole hm.cs hE (fun e => by have := (hm.cs.lt _ e).1; omega)) (by omega), hm.d3, hb.trans (hE.bel.mono hw)⟩
theorem goes_no {m : SM} (h : goes m = false) : m.done = true ∨ (m.done = false ∧ (m.trap == 0) = false ∧ decide (m.trap = 0) = false) := by
  unfold goes at h
  cases hq : m.done
  · right
    rw [hq] at h
    have h2 : (m.trap == 0) = false := by simpa using h
    exact ⟨rfl, h2, by simpa using h2⟩
  · exact .inl rfl
theorem goes_yes {m : SM} (h : goes m = true) : m.done = false ∧ m.trap = 0 := by
  unfold goes at h
  simpa using h

set_option maxHeartbeats 6400000 in
set_option maxRecDepth 100000 in
theorem l8Run_any (a : Option Addr) (zs : List Int) (c : Nat) (a3 : Option Addr) (ys : List Int) (c3 : Nat) (b : Int) (w : World) (hn : Nums w a zs) (hl : zs.length ≤ 400) (hw : wordsB zs = true) (hy : Nums w a3 ys) (hc3 : a3 = none → c3 = 0) (hyl : ys.length ≤ 1048576) (hg : Good (startM ys)) (hb0 : 0 ≤ b) (hb1 : b ≤ 20000) :
    Calls Try.prog 46 #[.slice a zs.length c, .slice a3 ys.length c3, .int .i64 b] w fun e w' => ∃ r, Ends zs b (startM ys) r ∧ MachR w.heap.size w w' e r := by
  have hW := (Below.refl w.heap.size w).alloc (Nat.le_refl _) (.cells zeroLine 44)
  have HW : Hid (Below w.heap.size w (w.alloc (.cells zeroLine 44)) ∧ (w.alloc (.cells zeroLine 44)).heap[w.heap.size]? = some (.cells zeroLine 44 (0, 0)) ∧ Nums (w.alloc (.cells zeroLine 44)) a3 ys ∧ (w.alloc (.cells zeroLine 44)).heap.size = w.heap.size + 1) := ⟨hW, heap_alloc_new _ _, hy.below hW, by simp⟩
  have HZ : Hid ((a3 = none → c3 = 0) ∧ (a3 = none → ys = []) ∧ ys.length ≤ 1048576) := ⟨hc3, rowZ hy, hyl⟩
  have HST : Hid (∀ (B0 : Nat) (m : SM) (sv cv : Value) (W : World), Below w.heap.size w W → Own W B0 sv m.stk → Own W B0 cv m.cells → goes m = true → Good m → Calls Try.prog 86 #[.slice a zs.length c, machVs m sv cv] W fun e w' => MachR W.heap.size W w' e (stepL zs m)) := fun B0 m sv cv W hb hs hc hgo hgm => l8Step_go B0 m sv cv a zs c W hs hc hgo hgm (hn.below hb) hl hw
  have HGD : Hid (∀ m, Good m → Good (stepL zs m)) := fun m h => stepL_good h hw hl
  have HG0 := hid hg
  have HB1 := hid hb1
  clear hW hn hy hc3 hyl hg hw hl
  generalize hL : ys.length = L at *
  generalize zs.length = nz at *
  go_enter Try.func46, Try.ntmps46
  go_upto_region 1 with fail
  generalize w.alloc (.cells zeroLine 44) = W at *
  obtain ⟨x1, x2, x3, x4⟩ := HW.out
  have HB := hid x1
  have HA0 := hid x2
  have HS := hid x4
  have hA := (Below.refl W.heap.size W).alloc (Nat.le_refl _) (.cells #[] 2)
  have HA := hid hA
  have HO : Hid (Own (W.alloc (.cells #[] 2)) W.heap.size (.slice (some ⟨W.heap.size, 0, none⟩) 0 0) []) := own_new W _ (Nat.le_refl _)
  have HN := hid (x3.below hA)
  clear x1 x2 x3 x4 hA HW
  go_wp2_with (at_builtin; refine wpList_append_nums rfl _ _ rfl W.heap.size _ [] ys (by rfl) HO.out a3 c3 (by rw [hL]; rfl) HN.out HZ.out.1 HZ.out.2.1 (by have := HZ.out.2.2; simp; omega) (by simp) ?_)
  intro v' w2 ho hg hv
  obtain ⟨a2, c2, rfl⟩ := own_shape ho.out
  try simp only [List.nil_append] at ho
  try simp only [List.nil_append]
  try rw [hL] at ho
  try rw [hL]
  have HB2 : Hid (Below W.heap.size W w2) := HA.out.grown hg.out (by simp) (fun k hk => by simp [Value.ownBlock] at hk; omega)
  have HO2 : Hid (Own w2 W.heap.size (.slice a2 L c2) ys) := ho.out
  clear ho hg hv HA HO HN
  have y3 := heap_alloc_new w2 (.cells (lineS (startM ys) (.slice none 0 0) (.slice a2 L c2)) 44)
  have b3 := (Below.refl w2.heap.size w2).alloc (Nat.le_refl _) (.cells (lineS (startM ys) (.slice none 0 0) (.slice a2 L c2)) 44)
  have HO3 : Hid (Own (w2.alloc (.cells (lineS (startM ys) (.slice none 0 0) (.slice a2 L c2)) 44)) W.heap.size (.slice a2 L c2) ys) := HO2.out.alloc _
  have HB3 : Hid (Below W.heap.size W (w2.alloc (.cells (lineS (startM ys) (.slice none 0 0) (.slice a2 L c2)) 44))) := HB2.out.trans (b3.mono HB2.out.size)
  have HRS : Hid (RunS W.heap.size (w2.alloc (.cells (lineS (startM ys) (.slice none 0 0) (.slice a2 L c2)) 44)) w2.heap.size (startM ys)) :=
    ⟨_, _, y3, World.ownsRow_nil _ _ _ _, HO3.out, HB2.out.size, by simp [Value.ownBlock], fun e => by have := (HO2.out.lt _ e).2; omega, fun g h => by simp [Value.ownBlock] at h⟩
  clear y3 b3 HO2 HB2 HO3 HZ
  have e9 : w2.alloc (.cells (lineS (startM ys) (.slice none 0 0) (.slice a2 L c2)) 44) = w2.alloc (.cells #[.int .i64 0, .slice none 0 0, .slice a2 L c2, .int .i64 0, .int .i64 0, .int .i64 0, .bool false] 44) := rfl
  rw [e9] at HB3 HRS
  clear e9
  go_wp2_with fail
  generalize w2.alloc (.cells #[.int .i64 0, .slice none 0 0, .slice a2 L c2, .int .i64 0, .int .i64 0, .int .i64 0, .bool false] 44) = W3 at *
  generalize w2.heap.size = p at *
  have HBW : Hid (Below w.heap.size w W3) := HB.out.trans (HB3.out.mono HB.out.size)
  have HA3 := hid (blk8 HA0.out HB3.out)
  clear HB HB3 HA0
  go_loopw [] (fun wr => ∃ m : SM, RunS W.heap.size wr p m ∧ Good m ∧ (∀ r, Ends zs b m r → Ends zs b (startM ys) r) ∧ Below w.heap.size w wr ∧ wr.heap[w.heap.size]? = some (.cells zeroLine 44 (0, 0)))
    (fun wr => (b - intOf ((wr.cell? ⟨p, 4, none⟩).getD (.int .i64 0))).toNat)
  case atStart => exact ⟨startM ys, HRS.out, HG0.out, fun r h => h, HBW.out, HA3.out⟩
  case round =>
    obtain ⟨m, hrs, hgm, hen, hbl, hz⟩ := hrel
    obtain ⟨sv, cv, hrow, hmem⟩ := id hrs
    obtain ⟨x1, y1, rfl⟩ := own_shape hmem.ss
    obtain ⟨x2, y2, rfl⟩ := own_shape hmem.cs
    obtain ⟨d0, d1, d2, d3, d4, d5, d6⟩ := RunS.cells hrow
    obtain ⟨g0, g1, g2, g3, g4, g5, g6⟩ := cl7 hz
    obtain ⟨f0, f1, f2, f3, f4, f5, f6⟩ := fl7 hz
    have hRB : w.heap.size < W.heap.size := by have := HS.out; omega
    have HEN := hid hen
    have HBL := hid hbl
    have HZR := hid hz
    have HRW := hid hrow
    have HME := hid hmem
    have HGM := hid hgm
    clear hen hbl hz hrow hmem hgm hrs
    cases hgo : goes m
    · have hf := run_end HME.out hRB (Nat.le_refl _) HBL.out
      dsimp only [filled7] at hf
      have HF := hid hf
      have HR := hid (HEN.out _ (.stop hgo))
      clear hf
      have hT := goes_no hgo
      clear hgo HEN HBL HZR HRW HME HGM hRB
      generalize m.stk.length = l1 at *
      generalize m.cells.length = l2 at *
      generalize hdn : m.done = dn at *
      have hm : machVs m (.slice x1 l1 y1) (.slice x2 l2 y2) = .agg #[.int .i64 m.pc, .slice x1 l1 y1, .slice x2 l2 y2, .int .i64 m.sig, .int .i64 m.used, .int .i64 m.trap, .bool dn] := by rw [← hdn]
      have HM := hid hm
      clear hm hdn
      rcases hT with hT | ⟨hT, hT2, hT3⟩
      all_goals
        subst hT
        go_wp2_with fail
        refine bodyPost_ret (v := .agg #[.int .i64 m.pc, .slice x1 l1 y1, .slice x2 l2 y2, .int .i64 m.sig, .int .i64 m.used, .int .i64 m.trap, .bool _]) (by simp [results, Try.results46, go_sem, g0, g1, g2, g3, g4, g5, g6]; rfl) rfl ?_
        have := HF.out
        rw [HM.out] at this
        exact ⟨m, HR.out, this⟩
    · obtain ⟨hdn, htr⟩ := goes_yes hgo
      have hq5 : (m.trap == 0) = true := by rw [htr]; rfl
      have hq6 : decide (m.trap = 0) = true := decide_eq_true htr
      clear htr
      by_cases hu : b ≤ m.used
      · have hq7 : decide (b ≤ m.used) = true := decide_eq_true hu
        have v5 := (fl7 HRW.out).2.2.2.2.2.1
        have HR := hid (HEN.out _ (.many hgo hu))
        have hpR : w.heap.size ≠ p := by have := HME.out.pB; omega
        have hr5 : RunS W.heap.size (wr.setCell ⟨p, 5, none⟩ (.int .i64 2)) p (manyM m) := RunS.fld (m' := manyM m) ⟨_, _, HRW.out, HME.out⟩ 5 _ (fun _ _ => rfl) rfl rfl
        have hz5 := (heap_setCell_other wr ⟨p, 5, none⟩ w.heap.size (.int .i64 2) hpR).trans HZR.out
        have hb5 := HBL.out.setCell (p := ⟨p, 5, none⟩) (by have := HME.out.pB; show w.heap.size ≤ p; omega) (.int .i64 2)
        have HR5 := hid hr5
        have HZ5 := hid hz5
        have HB5 := hid hb5
        clear hr5 hz5 hb5 hpR hu hgo HEN HBL HZR HRW HME HGM g0 g1 g2 g3 g4 g5 g6 f0 f1 f2 f3 f4 f5 f6
        go_upto_region 5 with fail
        generalize wr.setCell ⟨p, 5, none⟩ (.int .i64 2) = Z at *
        clear d0 d1 d2 d3 d4 d5 d6 v5 hdn hq5 hq6 hq7
        generalize manyM m = r at *
        obtain ⟨sv, cv, hrow, hmem⟩ := id HR5.out
        obtain ⟨x3, y3, rfl⟩ := own_shape hmem.ss
        obtain ⟨x4, y4, rfl⟩ := own_shape hmem.cs
        obtain ⟨d0, d1, d2, d3, d4, d5, d6⟩ := RunS.cells hrow
        obtain ⟨g0, g1, g2, g3, g4, g5, g6⟩ := cl7 HZ5.out
        obtain ⟨f0, f1, f2, f3, f4, f5, f6⟩ := fl7 HZ5.out
        have hf := run_end hmem hRB (Nat.le_refl _) HB5.out
        dsimp only [filled7] at hf
        have HF := hid hf
        clear hf hrow hmem hRB HR5 HZ5 HB5
        generalize r.stk.length = l1 at *
        generalize r.cells.length = l2 at *
        go_wp2_with fail
        refine bodyPost_ret (v := .agg #[.int .i64 r.pc, .slice x3 l1 y3, .slice x4 l2 y4, .int .i64 r.sig, .int .i64 r.used, .int .i64 r.trap, .bool r.done]) (by simp [results, Try.results46, go_sem, g0, g1, g2, g3, g4, g5, g6]) rfl ?_
        exact ⟨r, HR.out, HF.out⟩
      · have hq7 : decide (b ≤ m.used) = false := decide_eq_false hu
        have HU : Hid (m.used < b) := by unfold Hid; omega
        have HGO := hid hgo
        have HFR := hid (fl7 HRW.out)
        clear hu hgo g0 g1 g2 g3 g4 g5 g6 f0 f1 f2 f3 f4 f5 f6
        go_upto_region 6 with fail
        clear hdn hq5 hq6 hq7
        have HC := hid (HST.out W.heap.size m _ _ wr HBL.out HME.out.ss HME.out.cs HGO.out HGM.out)
        have HGR := hid (HGD.out m HGM.out)
        have HES : Hid (∀ r, Ends zs b (stepL zs m) r → Ends zs b (startM ys) r) := fun r h => HEN.out r (.step HGO.out HU.out h)
        have HUS : Hid ((stepL zs m).used = m.used + 1) := by
          unfold Hid
          rw [stepL_used]
          exact usedM_more HGM.out.used0 (by have := HU.out; have := HB1.out; omega)
        have HU4 := hid d4
        clear HEN HGO HGM HST HGD HG0
        generalize stepL zs m = r at *
        go_wp2_with (go_at_call 86; refine HC.out.mono ?_; rintro e w4 ⟨s', c', rfl, ho1, ho2, hd3, hb4⟩; obtain ⟨x3, y3, rfl⟩ := own_shape ho1; obtain ⟨x4, y4, rfl⟩ := own_shape ho2; have hrow4 := blk8 HRW.out hb4; obtain ⟨t0, t1, t2, t3, t4, t5, t6⟩ := RunS.cells hrow4; obtain ⟨f0, f1, f2, f3, f4, f5, f6⟩ := fl7 hrow4; have HRB := hid (run_back HRW.out HME.out.pB ho1 ho2 hd3 hb4); have HBB := hid (HBL.out.trans (hb4.mono HBL.out.size)); have HZB := hid (blk8 HZR.out hb4); have HE4 := hid (fill7 p w4 r (.slice x3 r.stk.length y3) (.slice x4 r.cells.length y4)); have hpp := HME.out.pB; have HCM := hid (RunS.cells (filled7_row (m := r) (sv := .slice x3 r.stk.length y3) (cv := .slice x4 r.cells.length y4) hrow4)).2.2.2.2.1; clear hrow4 hb4 ho1 ho2 hd3 HRW HME HC HBL HZR d0 d1 d2 d3 d4 d5 d6)
        refine ⟨⟨r, HRB.out, HGR.out, HES.out, HBB.out.trans (HE4.out.bel.mono (by omega)), (HE4.out.oth _ (by omega)).trans HZB.out⟩, ?_⟩
        have hcm := HCM.out
        dsimp only [filled7] at hcm
        rw [hcm, HU4.out]
        have h1 := HUS.out
        have h2 := HU.out
        simp [intOf]
        omega
end Go.Proofs.Ytlofagpffeaebaa
namespace Go.Proofs.Ytlofagpffeaebaa
open Go.RowKit
set_option linter.unusedVariables false
attribute [local go_sem ↓] Go.wp_at_zero Go.wp_at_succ

set_option maxHeartbeats 6400000 in
set_option maxRecDepth 100000 in
theorem sStart_any (a : Option Addr) (zs : List Int) (c : Nat) (w : World) (hn : Nums w a zs) (hc : a = none → c = 0) (hl : zs.length ≤ 1048576) :
    Calls Try.prog 45 #[.slice a zs.length c] w fun e w' => ResR w w' e (startC zs) (startR zs) := by
  have hW := (Below.refl w.heap.size w).alloc (Nat.le_refl _) (.cells zero8 46)
  have HW : Hid (Below w.heap.size w (w.alloc (.cells zero8 46)) ∧ (w.alloc (.cells zero8 46)).heap[w.heap.size]? = some (.cells zero8 46 (0, 0)) ∧ Nums (w.alloc (.cells zero8 46)) a zs) := ⟨hW, heap_alloc_new _ _, hn.below hW⟩
  have HZ : Hid ((a = none → c = 0) ∧ (a = none → zs = []) ∧ zs.length ≤ 1048576) := ⟨hc, rowZ hn, hl⟩
  have HCF : Hid (∀ W q v, W.heap[q]? = some (.cells (lineS (startM zs) (.slice none 0 0) v) 44 (0, 0)) → RowV W v zs → Calls Try.prog 85 #[.pointer (some ⟨q, 0, none⟩)] W fun e w' => e = .returned (.int .i64 (startC zs)) ∧ w' = W) := fun W q v hq hv => l8Fault_any q (startM zs) _ _ W hq ⟨none, 0, rfl, .inl rfl, fun _ => rfl⟩ hv (by show 0 ≤ _; omega) hl
  have HR : Hid ((startC zs = 0 → startR zs = startM zs) ∧ (startC zs ≠ 0 → startR zs = zeroM)) := ⟨fun h => if_pos h, fun h => if_neg h⟩
  clear hW hn hc hl
  generalize startC zs = F at *
  generalize startR zs = R at *
  generalize hL : zs.length = L at *
  go_enter Try.func45, Try.ntmps45
  go_upto_region 1 with fail
  generalize w.alloc (.cells zero8 46) = W at *
  obtain ⟨x1, x2, x3⟩ := HW.out
  have HB : Hid (Below w.heap.size w W) := x1
  have HA0 : Hid (W.heap[w.heap.size]? = some (.cells zero8 46 (0, 0))) := x2
  have hA := (Below.refl W.heap.size W).alloc (Nat.le_refl _) (.cells #[] 2)
  have HA : Hid (Below W.heap.size W (W.alloc (.cells #[] 2))) := hA
  have HO : Hid (Own (W.alloc (.cells #[] 2)) W.heap.size (.slice (some ⟨W.heap.size, 0, none⟩) 0 0) []) := own_new W _ (Nat.le_refl _)
  have HN : Hid (Nums (W.alloc (.cells #[] 2)) a zs) := x3.below hA
  clear x1 x2 x3 hA HW
  go_wp2_with (at_builtin; refine wpList_append_nums rfl _ _ rfl W.heap.size _ [] zs (by rfl) HO.out a c (by rw [hL]; rfl) HN.out HZ.out.1 HZ.out.2.1 (by have := HZ.out.2.2; simp; omega) (by simp) ?_)
  intro v' w2 ho hg hv
  obtain ⟨a2, c2, rfl⟩ := own_shape ho.out
  try simp only [List.nil_append] at ho
  try simp only [List.nil_append]
  try rw [hL] at ho
  try rw [hL]
  have HB2 : Hid (Below W.heap.size W w2) := HA.out.grown hg.out (by simp) (fun k hk => by simp [Value.ownBlock] at hk; omega)
  have HO2 : Hid (Own w2 W.heap.size (.slice a2 L c2) zs) := ho.out
  clear ho hg hv HA HO HN
  go_upto_region 2 with fail
  have y3 := heap_alloc_new w2 (.cells (lineS (startM zs) (.slice none 0 0) (.slice a2 L c2)) 44)
  have b3 := (Below.refl w2.heap.size w2).alloc (Nat.le_refl _) (.cells (lineS (startM zs) (.slice none 0 0) (.slice a2 L c2)) 44)
  have HO3 : Hid (Own (w2.alloc (.cells (lineS (startM zs) (.slice none 0 0) (.slice a2 L c2)) 44)) W.heap.size (.slice a2 L c2) zs) := HO2.out.alloc _
  have HB3 : Hid (Below W.heap.size W (w2.alloc (.cells (lineS (startM zs) (.slice none 0 0) (.slice a2 L c2)) 44))) := HB2.out.trans (b3.mono HB2.out.size)
  have HY : Hid ((w2.alloc (.cells (lineS (startM zs) (.slice none 0 0) (.slice a2 L c2)) 44)).heap[w2.heap.size]? = some (.cells (lineS (startM zs) (.slice none 0 0) (.slice a2 L c2)) 44 (0, 0))) := y3
  clear y3 b3 HO2 HB2
  have e9 : w2.alloc (.cells (lineS (startM zs) (.slice none 0 0) (.slice a2 L c2)) 44) = w2.alloc (.cells #[.int .i64 0, .slice none 0 0, .slice a2 L c2, .int .i64 0, .int .i64 0, .int .i64 0, .bool false] 44) := rfl
  rw [e9] at HO3 HB3 HY
  clear e9
  generalize w2.alloc (.cells #[.int .i64 0, .slice none 0 0, .slice a2 L c2, .int .i64 0, .int .i64 0, .int .i64 0, .bool false] 44) = W3 at *
  generalize w2.heap.size = q at *
  have HA3 : Hid (W3.heap[w.heap.size]? = some (.cells zero8 46 (0, 0))) := blk8 HA0.out HB3.out
  have HBW : Hid (Below w.heap.size w W3) := HB.out.trans (HB3.out.mono HB.out.size)
  have HWS : Hid (w.heap.size < W.heap.size) := (Array.getElem?_eq_some_iff.1 HA0.out).1
  have HC : Hid (Calls Try.prog 85 #[.pointer (some ⟨q, 0, none⟩)] W3 fun e w' => e = .returned (.int .i64 F) ∧ w' = W3) := HCF.out W3 q _ HY.out (own_row HO3.out)
  obtain ⟨d0, d1, d2, d3, d4, d5, d6⟩ := RunS.cells (m := startM zs) HY.out
  have g0 := cell_of_row _ _ 0 _ _ _ HA3.out
  have g1 := cell_of_row _ _ 1 _ _ _ HA3.out
  have g2 := cell_of_row _ _ 2 _ _ _ HA3.out
  have g3 := cell_of_row _ _ 3 _ _ _ HA3.out
  have g4 := cell_of_row _ _ 4 _ _ _ HA3.out
  have g5 := cell_of_row _ _ 5 _ _ _ HA3.out
  have g6 := cell_of_row _ _ 6 _ _ _ HA3.out
  have g7 := cell_of_row _ _ 7 _ _ _ HA3.out
  have f0 := frozen_of_row _ _ 0 _ _ HA3.out
  have f1 := frozen_of_row _ _ 1 _ _ HA3.out
  have f2 := frozen_of_row _ _ 2 _ _ HA3.out
  have f3 := frozen_of_row _ _ 3 _ _ HA3.out
  have f4 := frozen_of_row _ _ 4 _ _ HA3.out
  have f5 := frozen_of_row _ _ 5 _ _ HA3.out
  have f6 := frozen_of_row _ _ 6 _ _ HA3.out
  have f7 := frozen_of_row _ _ 7 _ _ HA3.out
  simp at g0 g1 g2 g3 g4 g5 g6 g7
  clear HCF HA0 HB HB3 HZ
  have hws := HWS.out
  by_cases hF : F = 0
  · have hR := HR.out.1 hF
    subst hF hR
    have HE : Hid _ := fill8 w.heap.size W3 (.int .i64 0) (.int .i64 (startM zs).pc) (.slice none 0 0) (.slice a2 L c2) (.int .i64 (startM zs).sig) (.int .i64 (startM zs).used) (.int .i64 (startM zs).trap) (.bool (startM zs).done)
    have HF : Hid (ResR w ((((((((W3.setCell ⟨w.heap.size, 0, none⟩ (.int .i64 0)).setCell ⟨w.heap.size, 1, none⟩ (.int .i64 (startM zs).pc)).setCell ⟨w.heap.size, 2, none⟩ (.slice none 0 0)).setCell ⟨w.heap.size, 3, none⟩ (.slice a2 L c2)).setCell ⟨w.heap.size, 4, none⟩ (.int .i64 (startM zs).sig)).setCell ⟨w.heap.size, 5, none⟩ (.int .i64 (startM zs).used)).setCell ⟨w.heap.size, 6, none⟩ (.int .i64 (startM zs).trap)).setCell ⟨w.heap.size, 7, none⟩ (.bool (startM zs).done)) (.returned (resV 0 (startM zs) (.slice none 0 0) (.slice a2 L c2))) 0 (startM zs)) :=
      ⟨_, _, rfl, own_mono (own_sole (World.ownsRow_nil W3 W.heap.size 2 1) HE.out (fun e => by have := ((World.ownsRow_nil W3 W.heap.size 2 1).lt _ e).1; omega)) (by omega), own_mono (own_sole HO3.out HE.out (fun e => by have := (HO3.out.lt _ e).1; omega)) (by omega), (fun g h => by simp [Value.ownBlock] at h), HBW.out.trans (HE.out.bel.mono (Nat.le_refl _))⟩
    clear HO3 HBW HA3 HY HR HE hws HWS
    go_wp2_with (go_at_call 85; refine HC.out.mono ?_; rintro e w5 ⟨rfl, hw5⟩; have hw6 := hw5.symm; clear hw5; subst hw6)
    refine bodyPost_ret (v := resV 0 (startM zs) (.slice none 0 0) (.slice a2 L c2)) (by simp [results, Try.results45, go_sem, g0, g1, g2, g3, g4, g5, g6, g7]; try rfl) rfl ?_
    exact HF.out
  · have hR := HR.out.2 hF
    subst hR
    have eF : (F != 0) = true := by simpa using hF
    have HF : Hid _ := res_code w W3 w.heap.size F (Nat.le_refl _) HBW.out
    clear HO3 HBW HA3 HY HR hws HWS hF
    go_wp2_with (go_at_call 85; refine HC.out.mono ?_; rintro e w5 ⟨rfl, hw5⟩; have hw6 := hw5.symm; clear hw5; subst hw6)
    refine bodyPost_ret (v := codeV F) (by simp [results, Try.results45, go_sem, g0, g1, g2, g3, g4, g5, g6, g7]; try rfl) rfl ?_
    exact HF.out
end Go.Proofs.Ytlofagpffeaebaa
namespace Go.Proofs.Ytlofagpffeaebaa
open Go.RowKit
set_option linter.unusedVariables false
attribute [local go_sem ↓] Go.wp_at_zero Go.wp_at_succ

/-- the answer with any code and machine -/
theorem res_gen (w W : World) (r B : Nat) (C : Int) (M : SM) (sv cv : Value) (hr : w.heap.size ≤ r) (hrB : r < B) (hs : Own W B sv M.stk) (hc : Own W B cv M.cells) (hd : ∀ g, sv.ownBlock = some g → cv.ownBlock ≠ some g) (hB : Below w.heap.size w W) : ResR w ((((((((W.setCell ⟨r, 0, none⟩ (.int .i64 C)).setCell ⟨r, 1, none⟩ (.int .i64 M.pc)).setCell ⟨r, 2, none⟩ sv).setCell ⟨r, 3, none⟩ cv).setCell ⟨r, 4, none⟩ (.int .i64 M.sig)).setCell ⟨r, 5, none⟩ (.int .i64 M.used)).setCell ⟨r, 6, none⟩ (.int .i64 M.trap)).setCell ⟨r, 7, none⟩ (.bool M.done)) (.returned (resV C M sv cv)) C M :=
  have hE := fill8 r W (.int .i64 C) (.int .i64 M.pc) sv cv (.int .i64 M.sig) (.int .i64 M.used) (.int .i64 M.trap) (.bool M.done)
  ⟨_, _, rfl, own_mono (own_sole hs hE (fun e => by have := (hs.lt _ e).1; omega)) (by omega), own_mono (own_sole hc hE (fun e => by have := (hc.lt _ e).1; omega)) (by omega), hd, hB.trans (hE.bel.mono hr)⟩
/-- what a run answers -/
def RunR (zs ys : List Int) (b : Int) (R : SM) : Prop := (runC zs ys b = 0 → Ends zs b (startM ys) R) ∧ (runC zs ys b ≠ 0 → R = zeroM)
theorem runR_any (zs ys : List Int) (b : Int) : ∃ R, RunR zs ys b R := by
  by_cases h : runC zs ys b = 0
  · obtain ⟨h1, h2, h3, h4⟩ := runC_ok h
    obtain ⟨r, hr⟩ := Ends.of zs b h4 20000 (startM ys) (by show (0 : Int) ≤ 0; omega) (by show b - 0 ≤ _; omega)
    exact ⟨r, fun _ => hr, fun h' => absurd h h'⟩
  · exact ⟨zeroM, fun h' => absurd h' h, fun _ => rfl⟩
theorem start_res {w W : World} {e : Ending} {ys : List Int} (h : ResR w W e (startC ys) (startR ys)) : ∃ a1 c1 a2 c2, e = .returned (resV (startC ys) (startR ys) (.slice a1 (startR ys).stk.length c1) (.slice a2 (startR ys).cells.length c2)) ∧ Own W w.heap.size (.slice a1 (startR ys).stk.length c1) (startR ys).stk ∧ Own W w.heap.size (.slice a2 (startR ys).cells.length c2) (startR ys).cells ∧ (∀ g, (Value.slice a1 (startR ys).stk.length c1).ownBlock = some g → (Value.slice a2 (startR ys).cells.length c2).ownBlock ≠ some g) ∧ Below w.heap.size w W := by
  obtain ⟨sv, cv, h1, h2, h3, h4, h5⟩ := h
  obtain ⟨a1, c1, rfl⟩ := own_shape h2
  obtain ⟨a2, c2, rfl⟩ := own_shape h3
  exact ⟨a1, c1, a2, c2, h1, h2, h3, h4, h5⟩

set_option maxHeartbeats 6400000 in
set_option maxRecDepth 100000 in
theorem sRun_any (a : Option Addr) (zs : List Int) (c : Nat) (a3 : Option Addr) (ys : List Int) (c3 : Nat) (b : Int) (R : SM) (w : World) (hn : Nums w a zs) (hl : zs.length ≤ 1048576) (hy : Nums w a3 ys) (hc3 : a3 = none → c3 = 0) (hyl : ys.length ≤ 1048576) (hR : RunR zs ys b R) :
    Calls Try.prog 14 #[.slice a zs.length c, .slice a3 ys.length c3, .int .i64 b] w fun e w' => ResR w w' e (runC zs ys b) R := by
  have hW := (Below.refl w.heap.size w).alloc (Nat.le_refl _) (.cells zero8 46)
  have hA := heap_alloc_new w (.cells zero8 46)
  have hS : (w.alloc (.cells zero8 46)).heap.size = w.heap.size + 1 := by simp
  have HCW : Hid (∀ W, Below w.heap.size w W → Calls Try.prog 44 #[.slice a zs.length c] W fun e w' => e = .returned (.int .i64 (fault zs)) ∧ w' = W) := fun W h => sFault_any a zs c W (by omega) (hn.below h)
  have HCS : Hid (∀ W, Below w.heap.size w W → Calls Try.prog 45 #[.slice a3 ys.length c3] W fun e w' => ResR W w' e (startC ys) (startR ys)) := fun W h => sStart_any a3 ys c3 W (hy.below h) hc3 hyl
  have HCI : Hid (∀ W, Calls Try.prog 21 #[.int .i64 b, .int .i64 0, .int .i64 20000] W fun e w' => e = .returned (.bool (inB b 0 20000)) ∧ w' = W) := fun W => l1In_any b 0 20000 W
  have HCR : Hid (runC zs ys b = 0 → ∀ W, Below w.heap.size w W → Calls Try.prog 46 #[.slice a zs.length c, .slice a3 ys.length c3, .int .i64 b] W fun e w' => MachR W.heap.size W w' e R) := fun h W hb => by
    obtain ⟨h1, h2, h3, h4⟩ := runC_ok h
    refine (l8Run_any a zs c a3 ys c3 b W (hn.below hb) (fault_good h1).2 (fault_good h1).1 (hy.below hb) hc3 hyl (startM_good h2) h3 h4).mono ?_
    rintro e w' ⟨r, hr, hm⟩
    rw [(hR.1 h).det hr]
    exact hm
  have HR : Hid ((fault zs ≠ 0 → runC zs ys b = fault zs ∧ R = zeroM) ∧ (fault zs = 0 → startC ys ≠ 0 → runC zs ys b = startC ys ∧ R = startR ys) ∧ (fault zs = 0 → startC ys = 0 → inB b 0 20000 = false → runC zs ys b = 3 ∧ R = zeroM) ∧ (fault zs = 0 → startC ys = 0 → inB b 0 20000 = true → runC zs ys b = 0)) := by
    refine ⟨fun h => ?_, fun h h2 => ?_, fun h h2 h3 => ?_, fun h h2 h3 => ?_⟩
    · have e : runC zs ys b = fault zs := if_neg h
      exact ⟨e, hR.2 (by rw [e]; exact h)⟩
    · have e : runC zs ys b = startC ys := by unfold runC; rw [if_pos h, if_neg h2]
      exact ⟨e, by rw [hR.2 (by rw [e]; exact h2)]; exact (if_neg h2).symm⟩
    · have e : runC zs ys b = 3 := by unfold runC; rw [if_pos h, if_pos h2, h3]; rfl
      exact ⟨e, hR.2 (by rw [e]; omega)⟩
    · unfold runC; rw [if_pos h, if_pos h2, h3]; rfl
  have HST : Hid (∀ {W w' : World} {e : Ending}, ResR W w' e (startC ys) (startR ys) → ∃ a1 c1 a2 c2, e = .returned (resV (startC ys) (startR ys) (.slice a1 (startR ys).stk.length c1) (.slice a2 (startR ys).cells.length c2)) ∧ Own w' W.heap.size (.slice a1 (startR ys).stk.length c1) (startR ys).stk ∧ Own w' W.heap.size (.slice a2 (startR ys).cells.length c2) (startR ys).cells ∧ (∀ g, (Value.slice a1 (startR ys).stk.length c1).ownBlock = some g → (Value.slice a2 (startR ys).cells.length c2).ownBlock ≠ some g) ∧ Below W.heap.size W w') := fun h => start_res h
  clear hn hl hy hc3 hyl hR
  generalize fault zs = fz at *
  generalize startC ys = F at *
  generalize startR ys = S at *
  generalize runC zs ys b = C at *
  generalize inB b 0 20000 = I at *
  generalize zs.length = L at *
  generalize ys.length = L2 at *
  go_enter Try.func14, Try.ntmps14
  go_upto_region 1 with fail
  generalize w.alloc (.cells zero8 46) = W at *
  have HB := hid hW
  have HZ := hid hA
  have HS := hid hS
  clear hW hA hS
  obtain ⟨g0, g1, g2, g3, g4, g5, g6, g7⟩ := cl8 HZ.out
  obtain ⟨f0, f1, f2, f3, f4, f5, f6, f7⟩ := fl8 HZ.out
  by_cases hz : fz = 0
  case neg =>
    obtain ⟨rfl, rfl⟩ := HR.out.1 hz
    have e0 : (C != 0) = true := by simpa using hz
    have HF := hid (res_code w W w.heap.size C (Nat.le_refl _) HB.out)
    clear hz HCS HCI HCR HR HST HZ
    go_wp2_with (go_at_call 44; refine (HCW.out W HB.out).mono ?_; rintro e w5 ⟨rfl, hw5⟩; have hw6 := hw5.symm; clear hw5; subst hw6)
    refine bodyPost_ret (v := codeV C) (by simp [results, Try.results14, go_sem, g0, g1, g2, g3, g4, g5, g6, g7]; try rfl) rfl ?_
    exact HF.out
  subst hz
  go_upto_region 4 with (go_at_call 44; refine (HCW.out W HB.out).mono ?_; rintro e w5 ⟨rfl, hw5⟩; have hw6 := hw5.symm; clear hw5; subst hw6)
  clear HCW g0 g1 g2 g3 g4 g5 g6 g7 f0 f1 f2 f3 f4 f5 f6 f7
  go_wp2_with fail
  refine (HCS.out W HB.out).mono ?_
  intro e w3 hres
  obtain ⟨x1, y1, x2, y2, rfl, o1, o2, o3, b3⟩ := HST.out hres
  have hb4 := b3.trans ((Below.refl _ _).alloc b3.size (.cells (line8 F S (.slice x1 S.stk.length y1) (.slice x2 S.cells.length y2)) 46))
  have hrow := heap_alloc_new w3 (.cells (line8 F S (.slice x1 S.stk.length y1) (.slice x2 S.cells.length y2)) 46)
  have HB4 := hid (HB.out.trans (hb4.mono HB.out.size))
  have HZ4 := hid (blk8 HZ.out hb4)
  have HO1 := hid (own_kept o1 ((Below.refl w3.heap.size w3).alloc (Nat.le_refl _) (.cells (line8 F S (.slice x1 S.stk.length y1) (.slice x2 S.cells.length y2)) 46)))
  have HO2 := hid (own_kept o2 ((Below.refl w3.heap.size w3).alloc (Nat.le_refl _) (.cells (line8 F S (.slice x1 S.stk.length y1) (.slice x2 S.cells.length y2)) 46)))
  have HO3 := hid o3
  have HRW := hid hrow
  clear hres o1 o2 o3 b3 hb4 hrow HB HZ HST HCS
  go_upto_region 5 with fail
  generalize w3.alloc (.cells (line8 F S (.slice x1 S.stk.length y1) (.slice x2 S.cells.length y2)) 46) = W4 at *
  generalize w3.heap.size = q at *
  obtain ⟨g0, g1, g2, g3, g4, g5, g6, g7⟩ := cl8 HZ4.out
  obtain ⟨f0, f1, f2, f3, f4, f5, f6, f7⟩ := fl8 HZ4.out
  obtain ⟨d0, d1, d2, d3, d4, d5, d6, d7⟩ := row8 HRW.out
  by_cases hf : F = 0
  case neg =>
    obtain ⟨rfl, rfl⟩ := HR.out.2.1 (by first | rfl | trivial) hf
    have e0 : (C != 0) = true := by simpa using hf
    have HF := hid (res_gen w W4 w.heap.size W.heap.size C R _ _ (Nat.le_refl _) (by have := HS.out; omega) HO1.out HO2.out HO3.out HB4.out)
    clear hf HCI HCR HR HO1 HO2 HO3 HRW HZ4 HB4
    generalize R.stk.length = l1 at *
    generalize R.cells.length = l2 at *
    go_wp2_with fail
    refine bodyPost_ret (v := .agg #[.int .i64 C, .int .i64 R.pc, .slice x1 l1 y1, .slice x2 l2 y2, .int .i64 R.sig, .int .i64 R.used, .int .i64 R.trap, .bool R.done]) (by simp [results, Try.results14, go_sem, g0, g1, g2, g3, g4, g5, g6, g7]; try rfl) rfl ?_
    exact HF.out
  subst hf
  clear d1 d2 d3 d4 d5 d6 d7 HO1 HO2 HO3
  cases I
  · obtain ⟨rfl, rfl⟩ := HR.out.2.2.1 (by first | rfl | trivial) (by first | rfl | trivial) (by first | rfl | trivial)
    have HF := hid (res_code w W4 w.heap.size 3 (Nat.le_refl _) HB4.out)
    clear HCR HR HRW HZ4 HB4
    go_wp2_with (go_at_call 21; refine (HCI.out _).mono ?_; rintro e w5 ⟨rfl, hw5⟩; have hw6 := hw5.symm; clear hw5; subst hw6)
    refine bodyPost_ret (v := codeV 3) (by simp [results, Try.results14, go_sem, g0, g1, g2, g3, g4, g5, g6, g7]; try rfl) rfl ?_
    exact HF.out
  · have hC := HR.out.2.2.2 (by first | rfl | trivial) (by first | rfl | trivial) (by first | rfl | trivial)
    subst hC
    have HC := hid (HCR.out (by first | rfl | trivial) W4 HB4.out)
    clear HCR HR HRW g0 g1 g2 g3 g4 g5 g6 g7 f0 f1 f2 f3 f4 f5 f6 f7
    go_upto_region 9 with (go_at_call 21; refine (HCI.out _).mono ?_; rintro e w5 ⟨rfl, hw5⟩; have hw6 := hw5.symm; clear hw5; subst hw6)
    clear HCI d0
    go_wp2_with fail
    refine HC.out.mono ?_
    rintro e w6 ⟨s', c', rfl, ho1, ho2, hd3, hb6⟩
    obtain ⟨x3, y3, rfl⟩ := own_shape ho1
    obtain ⟨x4, y4, rfl⟩ := own_shape ho2
    have HB6 := hid (HB4.out.trans (hb6.mono HB4.out.size))
    have hz6 := blk8 HZ4.out hb6
    obtain ⟨g0, g1, g2, g3, g4, g5, g6, g7⟩ := cl8 hz6
    obtain ⟨f0, f1, f2, f3, f4, f5, f6, f7⟩ := fl8 hz6
    have HF := hid (res_gen w w6 w.heap.size W4.heap.size 0 R _ _ (Nat.le_refl _) (Array.getElem?_eq_some_iff.1 HZ4.out).1 ho1 ho2 hd3 HB6.out)
    clear hz6 hb6 ho1 ho2 hd3 HC HB4 HZ4 HB6
    generalize R.stk.length = l1 at *
    generalize R.cells.length = l2 at *
    go_wp2_with fail
    refine bodyPost_ret (v := .agg #[.int .i64 0, .int .i64 R.pc, .slice x3 l1 y3, .slice x4 l2 y4, .int .i64 R.sig, .int .i64 R.used, .int .i64 R.trap, .bool R.done]) (by simp [results, Try.results14, go_sem, g0, g1, g2, g3, g4, g5, g6, g7]; try rfl) rfl ?_
    exact HF.out
end Go.Proofs.Ytlofagpffeaebaa
namespace Go.Proofs.Ytlofagpffeaebaa
open Go.RowKit
set_option linter.unusedVariables false
attribute [local go_sem ↓] Go.wp_at_zero Go.wp_at_succ

set_option maxHeartbeats 6400000 in
set_option maxRecDepth 100000 in
theorem iRun_any (a : Option Addr) (zs : List Int) (c : Nat) (a3 : Option Addr) (ys : List Int) (c3 : Nat) (b : Int) (R : SM) (w : World) (hn : Nums w a zs) (hab : ∀ b off, a = some ⟨b, off, none⟩ → b < w.heap.size) (hzc : zs.length ≤ c) (hl : zs.length ≤ 1048576) (hy : Nums w a3 ys) (hc3 : a3 = none → c3 = 0) (hyl : ys.length ≤ 1048576) (hR : RunR zs ys b R) :
    Calls Try.prog 13 #[.slice a zs.length c, .slice a3 ys.length c3, .int .i64 b] w fun e w' => ResR w w' e (runC zs ys b) R := by
  have hW := (Below.refl w.heap.size w).alloc (Nat.le_refl _) (.cells zero8 46)
  have hA := heap_alloc_new w (.cells zero8 46)
  have hS : (w.alloc (.cells zero8 46)).heap.size = w.heap.size + 1 := by simp
  have HCW : Hid (∀ W, Below w.heap.size w W → Calls Try.prog 37 #[.slice a zs.length c] W fun e w' => e = .returned (.int .i64 (fault zs)) ∧ Below W.heap.size W w') := fun W h => implFault_any a zs c W (by omega) (hn.below h)
  have HCS : Hid (∀ W, Below w.heap.size w W → Calls Try.prog 38 #[.slice a3 ys.length c3] W fun e w' => ResR W w' e (startC ys) (startR ys)) := fun W h => iStart_any a3 ys c3 W (hy.below h) hc3 hyl
  have HCI : Hid (∀ W, Calls Try.prog 39 #[.int .i64 b, .int .i64 0, .int .i64 20000] W fun e w' => e = .returned (.bool (inB b 0 20000)) ∧ w' = W) := fun W => within_any b 0 20000 W
  have HCT : Hid (fault zs = 0 → ∀ (B g : Nat) (m : SM) (W : World), Below w.heap.size w W → w.heap.size ≤ B → RunI B W g m → Good m → Calls Try.prog 42 #[.pointer (some ⟨g, 0, none⟩), .slice a zs.length c] W fun e w' => e = .returned (.tuple #[]) ∧ RunI B w' g (stepL zs m) ∧ Below B W w') := fun h1 B g m W hb hB hr hg =>
    istep_any B g m zs a c W hr hg (hn.below hb) (fun b off hab2 => by have := hab b off hab2; omega) (fault_good h1).2 hzc (fault_good h1).1
  have HGD : Hid (fault zs = 0 → ∀ m, Good m → Good (stepL zs m)) := fun h1 m h => stepL_good h (fault_good h1).1 (fault_good h1).2
  have HR : Hid ((fault zs ≠ 0 → runC zs ys b = fault zs ∧ R = zeroM) ∧ (fault zs = 0 → startC ys ≠ 0 → runC zs ys b = startC ys ∧ R = startR ys) ∧ (fault zs = 0 → startC ys = 0 → inB b 0 20000 = false → runC zs ys b = 3 ∧ R = zeroM) ∧ (fault zs = 0 → startC ys = 0 → inB b 0 20000 = true → runC zs ys b = 0 ∧ (0 ≤ b ∧ b ≤ 20000) ∧ Good (startR ys) ∧ ∀ r, Ends zs b (startR ys) r → R = r)) := by
    refine ⟨fun h => ?_, fun h h2 => ?_, fun h h2 h3 => ?_, fun h h2 h3 => ?_⟩
    · have e : runC zs ys b = fault zs := if_neg h
      exact ⟨e, hR.2 (by rw [e]; exact h)⟩
    · have e : runC zs ys b = startC ys := by unfold runC; rw [if_pos h, if_neg h2]
      exact ⟨e, by rw [hR.2 (by rw [e]; exact h2)]; exact (if_neg h2).symm⟩
    · have e : runC zs ys b = 3 := by unfold runC; rw [if_pos h, if_pos h2, h3]; rfl
      exact ⟨e, hR.2 (by rw [e]; omega)⟩
    · have e : runC zs ys b = 0 := by unfold runC; rw [if_pos h, if_pos h2, h3]; rfl
      have e2 : startR ys = startM ys := if_pos h2
      rw [e2]
      exact ⟨e, inB_iff.1 h3, startM_good h2, fun r hr => (hR.1 e).det hr⟩
  have HST : Hid (∀ {W w' : World} {e : Ending}, ResR W w' e (startC ys) (startR ys) → ∃ a1 c1 a2 c2, e = .returned (resV (startC ys) (startR ys) (.slice a1 (startR ys).stk.length c1) (.slice a2 (startR ys).cells.length c2)) ∧ Own w' W.heap.size (.slice a1 (startR ys).stk.length c1) (startR ys).stk ∧ Own w' W.heap.size (.slice a2 (startR ys).cells.length c2) (startR ys).cells ∧ (∀ g, (Value.slice a1 (startR ys).stk.length c1).ownBlock = some g → (Value.slice a2 (startR ys).cells.length c2).ownBlock ≠ some g) ∧ Below W.heap.size W w') := fun h => start_res h
  have HSL : Hid ((startR ys).stk.length ≤ 1048576 ∧ (startR ys).cells.length ≤ 1048576) := by
    unfold startR
    split
    · exact ⟨by show 0 ≤ _; omega, hyl⟩
    · exact ⟨by show 0 ≤ _; omega, by show 0 ≤ _; omega⟩
  clear hn hab hzc hl hy hc3 hyl hR
  generalize fault zs = fz at *
  generalize startC ys = F at *
  generalize startR ys = S at *
  generalize runC zs ys b = C at *
  generalize inB b 0 20000 = I at *
  generalize zs.length = L at *
  generalize ys.length = L2 at *
  go_enter Try.func13, Try.ntmps13
  go_upto_region 1 with fail
  generalize w.alloc (.cells zero8 46) = W at *
  have HB0 := hid hW
  have HZ0 := hid hA
  have HS := hid hS
  clear hW hA hS
  go_upto_region 2 with (go_at_call 37; refine (HCW.out W HB0.out).mono ?_; rintro e w1 ⟨rfl, hb1⟩)
  have HB := hid (HB0.out.trans (hb1.mono HB0.out.size))
  have HZ := hid (blk8 HZ0.out hb1)
  have HSS : Hid (w.heap.size < w1.heap.size) := (Array.getElem?_eq_some_iff.1 HZ.out).1
  clear hb1 HB0 HZ0 HS HCW
  obtain ⟨g0, g1, g2, g3, g4, g5, g6, g7⟩ := cl8 HZ.out
  obtain ⟨f0, f1, f2, f3, f4, f5, f6, f7⟩ := fl8 HZ.out
  by_cases hz : fz = 0
  case neg =>
    obtain ⟨rfl, rfl⟩ := HR.out.1 hz
    have e0 : (C != 0) = true := by simpa using hz
    have HF := hid (res_code w w1 w.heap.size C (Nat.le_refl _) HB.out)
    clear hz HCS HCI HCT HGD HR HST HZ HSL
    go_wp2_with fail
    refine bodyPost_ret (v := codeV C) (by simp [results, Try.results13, go_sem, g0, g1, g2, g3, g4, g5, g6, g7]; try rfl) rfl ?_
    exact HF.out
  subst hz
  go_upto_region 4 with fail
  clear g0 g1 g2 g3 g4 g5 g6 g7 f0 f1 f2 f3 f4 f5 f6 f7
  go_wp2_with fail
  refine (HCS.out w1 HB.out).mono ?_
  intro e w3 hres
  obtain ⟨x1, y1, x2, y2, rfl, o1, o2, o3, b3⟩ := HST.out hres
  have hb4 := b3.trans ((Below.refl _ _).alloc b3.size (.cells (line8 F S (.slice x1 S.stk.length y1) (.slice x2 S.cells.length y2)) 46))
  have hrow := heap_alloc_new w3 (.cells (line8 F S (.slice x1 S.stk.length y1) (.slice x2 S.cells.length y2)) 46)
  have HB4 := hid (HB.out.trans (hb4.mono HB.out.size))
  have HZ4 := hid (blk8 HZ.out hb4)
  have HO1 := hid (own_kept o1 ((Below.refl w3.heap.size w3).alloc (Nat.le_refl _) (.cells (line8 F S (.slice x1 S.stk.length y1) (.slice x2 S.cells.length y2)) 46)))
  have HO2 := hid (own_kept o2 ((Below.refl w3.heap.size w3).alloc (Nat.le_refl _) (.cells (line8 F S (.slice x1 S.stk.length y1) (.slice x2 S.cells.length y2)) 46)))
  have HO3 := hid o3
  have HRW := hid hrow
  clear hres o1 o2 o3 b3 hb4 hrow HB HZ HST HCS
  go_upto_region 5 with fail
  generalize w3.alloc (.cells (line8 F S (.slice x1 S.stk.length y1) (.slice x2 S.cells.length y2)) 46) = W4 at *
  generalize w3.heap.size = q at *
  obtain ⟨g0, g1, g2, g3, g4, g5, g6, g7⟩ := cl8 HZ4.out
  obtain ⟨f0, f1, f2, f3, f4, f5, f6, f7⟩ := fl8 HZ4.out
  obtain ⟨d0, d1, d2, d3, d4, d5, d6, d7⟩ := row8 HRW.out
  by_cases hf : F = 0
  case neg =>
    obtain ⟨rfl, rfl⟩ := HR.out.2.1 (by first | rfl | trivial) hf
    have e0 : (C != 0) = true := by simpa using hf
    have HF := hid (res_gen w W4 w.heap.size w1.heap.size C R _ _ (Nat.le_refl _) HSS.out HO1.out HO2.out HO3.out HB4.out)
    clear hf HCI HCT HGD HR HO1 HO2 HO3 HRW HZ4 HB4 HSL
    generalize R.stk.length = l1 at *
    generalize R.cells.length = l2 at *
    go_wp2_with fail
    refine bodyPost_ret (v := .agg #[.int .i64 C, .int .i64 R.pc, .slice x1 l1 y1, .slice x2 l2 y2, .int .i64 R.sig, .int .i64 R.used, .int .i64 R.trap, .bool R.done]) (by simp [results, Try.results13, go_sem, g0, g1, g2, g3, g4, g5, g6, g7]; try rfl) rfl ?_
    exact HF.out
  subst hf
  cases I
  · obtain ⟨rfl, rfl⟩ := HR.out.2.2.1 (by first | rfl | trivial) (by first | rfl | trivial) (by first | rfl | trivial)
    have HF := hid (res_code w W4 w.heap.size 3 (Nat.le_refl _) HB4.out)
    clear HCT HGD HR HRW HZ4 HB4 HO1 HO2 HO3 HSL d1 d2 d3 d4 d5 d6 d7
    go_wp2_with (go_at_call 39; refine (HCI.out _).mono ?_; rintro e w5 ⟨rfl, hw5⟩; have hw6 := hw5.symm; clear hw5; subst hw6)
    refine bodyPost_ret (v := codeV 3) (by simp [results, Try.results13, go_sem, g0, g1, g2, g3, g4, g5, g6, g7]; try rfl) rfl ?_
    exact HF.out
  obtain ⟨hC, hbb, hgS, hEQ⟩ := HR.out.2.2.2 (by first | rfl | trivial) (by first | rfl | trivial) (by first | rfl | trivial)
  subst hC
  have HBB := hid hbb
  have HGS := hid hgS
  have HE0 := hid hEQ
  have HN := hid (newRun_any S _ _ W4 (own_row HO1.out) (own_row HO2.out) HSL.out.1 HSL.out.2)
  clear hbb hgS hEQ HR HO1 HO2 HO3 HSL HRW g0 g1 g2 g3 g4 g5 g6 g7 f0 f1 f2 f3 f4 f5 f6 f7
  go_upto_region 9 with (go_at_call 39; refine (HCI.out _).mono ?_; rintro e w5 ⟨rfl, hw5⟩; have hw6 := hw5.symm; clear hw5; subst hw6)
  clear HCI d0
  have HS4 : Hid (w.heap.size < W4.heap.size) := (Array.getElem?_eq_some_iff.1 HZ4.out).1
  generalize S.stk.length = l1 at *
  generalize S.cells.length = l2 at *
  go_wp2_with fail
  refine HN.out.mono ?_
  rintro e w5 ⟨g, rfl, hr5, hb5⟩
  have HR5 := hid hr5
  have HB5 := hid (HB4.out.trans (hb5.mono HB4.out.size))
  have HZ5 := hid (blk8 HZ4.out hb5)
  have HS5 := hid hb5.size
  clear hr5 hb5 HN HB4 HZ4 d1 d2 d3 d4 d5 d6 d7
  go_wp2_with fail
  go_loopw [] (fun wr => ∃ m : SM, RunI W4.heap.size wr g m ∧ Good m ∧ (∀ r, Ends zs b m r → Ends zs b S r) ∧ Below w.heap.size w wr ∧ wr.heap[w.heap.size]? = some (.cells zero8 46 (0, 0)) ∧ W4.heap.size ≤ wr.heap.size)
    (fun wr => (b - intOf ((wr.cell? ⟨g, 4, none⟩).getD (.int .i64 0))).toNat)
  case atStart => exact ⟨S, HR5.out, HGS.out, fun r h => h, HB5.out, HZ5.out, HS5.out⟩
  case round =>
    clear HR5 HB5 HZ5 HS5
    obtain ⟨m, hrs, hgm, hen, hbl, hz, hsz⟩ := hrel
    obtain ⟨sv, cv, hrow, hmem⟩ := id hrs
    obtain ⟨-, -, d2, d3, d4, d5, d6⟩ := cl7 hrow
    have HEN := hid hen
    have HBL := hid hbl
    have HZR := hid hz
    have HRI := hid hrs
    have HGM := hid hgm
    have HSZ := hid hsz
    have HU4 := hid d4
    clear hen hbl hz hrow hmem hgm hrs hsz
    go_wp2_with fail
    refine (pgoes_any m wr).mono ?_
    rintro e Wx ⟨rfl, hbx⟩
    have HRX := hid (HRI.out.kept hbx)
    have HBX := hid (HBL.out.trans (hbx.mono HBL.out.size))
    have HZX := hid (blk8 HZR.out hbx)
    have HSX : Hid (W4.heap.size ≤ Wx.heap.size) := by have := hbx.size; have := HSZ.out; show _ ≤ _; omega
    obtain ⟨sx, cx, hrow, _⟩ := id HRX.out
    obtain ⟨-, -, x2, x3, x4, x5, x6⟩ := cl7 hrow
    obtain ⟨-, -, -, -, -, k5, -⟩ := fl7 hrow
    clear hrow hbx HRI HBL HZR HSZ d2 d3 d4 d5 d6
    cases hgo : goes m
    · have HEQ := hid (HE0.out m (HEN.out _ (.stop hgo)))
      have HGO := hid hgo
      clear HCT HGD HE0 HEN HGM HGS HBB
      go_wp2_with fail
      refine (pgoes_any m Wx).mono ?_
      rintro e Wy ⟨rfl, hby⟩
      rw [hgo]
      have HRE := hid (HRX.out.kept hby)
      have HBE := hid (HBX.out.trans (hby.mono HBX.out.size))
      have HZE := hid (blk8 HZX.out hby)
      have HSE : Hid (W4.heap.size ≤ Wy.heap.size) := by have := hby.size; have := HSX.out; show _ ≤ _; omega
      clear hgo HU4 hby HRX HBX HZX HSX x2 x3 x4 x5 x6 k5
      go_wp2_with fail
      refine (imachine_any W4.heap.size g m Wy HRE.out (by have := HBE.out; have := HSE.out; omega)).mono ?_
      rintro e w6 ⟨s6, c6, rfl, o1, o2, o3, b6⟩
      obtain ⟨q1, t1, rfl⟩ := own_shape o1
      obtain ⟨q2, t2, rfl⟩ := own_shape o2
      have HB6 := hid (HBE.out.trans (b6.mono HBE.out.size))
      have hz6 := blk8 HZE.out b6
      have HF := hid (res_gen w w6 w.heap.size W4.heap.size 0 m _ _ (Nat.le_refl _) HS4.out o1 o2 o3 HB6.out)
      obtain ⟨g0, g1, g2, g3, g4, g5, g6, g7⟩ := cl8 hz6
      obtain ⟨f0, f1, f2, f3, f4, f5, f6, f7⟩ := fl8 hz6
      clear o1 o2 o3 b6 hz6 HB6 HRE HBE HZE HSE
      generalize hrr : m = r at *
      generalize r.stk.length = l1 at *
      generalize r.cells.length = l2 at *
      go_wp2_with fail
      refine bodyPost_ret (v := .agg #[.int .i64 0, .int .i64 r.pc, .slice q1 l1 t1, .slice q2 l2 t2, .int .i64 r.sig, .int .i64 r.used, .int .i64 r.trap, .bool r.done]) (by simp [results, Try.results13, go_sem, g0, g1, g2, g3, g4, g5, g6, g7]; try rfl) rfl ?_
      rw [HEQ.out]
      exact HF.out
    · by_cases hu : m.used < b
      · have hq7 : decide (m.used < b) = true := decide_eq_true hu
        have HU := hid hu
        have HGO := hid hgo
        clear hu hgo
        go_wp2_with fail
        refine (HCT.out (by first | rfl | trivial) W4.heap.size g m Wx HBX.out (Nat.le_of_lt HS4.out) HRX.out HGM.out).mono ?_
        rintro e w6 ⟨rfl, hr6, hb6⟩
        have HR6 := hid hr6
        have HB6 := hid hb6
        clear hr6 hb6 hq7 x2 x3 x4 x5 x6 k5
        go_wp2_with fail
        have hcm : w6.cell? ⟨g, 4, none⟩ = some (.int .i64 (stepL zs m).used) := by
          obtain ⟨_, _, hr, _⟩ := HR6.out
          exact (cl7 hr).2.2.2.2.1
        refine ⟨⟨stepL zs m, HR6.out, HGD.out (by first | rfl | trivial) m HGM.out, fun r h => HEN.out r (.step HGO.out HU.out h), HBX.out.trans (HB6.out.mono (Nat.le_of_lt HS4.out)), (HB6.out.block _ HS4.out).trans HZX.out, Nat.le_trans HSX.out HB6.out.size⟩, ?_⟩
        rw [hcm, HU4.out, stepL_used, usedM_more HGM.out.used0 (by have := HU.out; have := HBB.out.2; omega)]
        have h2 := HU.out
        simp [intOf]
        omega
      · have hq7 : decide (m.used < b) = false := decide_eq_false hu
        have HEQ := hid (HE0.out _ (HEN.out _ (.many hgo (by omega))))
        have HGO := hid hgo
        go_wp2_with fail
        refine (pgoes_any m Wx).mono ?_
        rintro e Wy ⟨rfl, hby⟩
        rw [hgo]
        have HRY := hid (HRX.out.kept hby)
        have hBY := HBX.out.trans (hby.mono HBX.out.size)
        have hZY := blk8 HZX.out hby
        have hSY : W4.heap.size ≤ Wy.heap.size := by have := hby.size; have := HSX.out; omega
        have hRE : RunI W4.heap.size (Wy.setCell ⟨g, 5, none⟩ (.int .i64 2)) g (manyM m) := RunI.fld (m' := manyM m) HRY.out 5 _ (fun _ _ => rfl) rfl rfl
        have hgB : W4.heap.size ≤ g := by obtain ⟨_, _, _, hm⟩ := HRY.out; exact hm.pB
        have hws := HS4.out
        have HRE := hid hRE
        have HBE := hid (hBY.setCell (p := ⟨g, 5, none⟩) (by show w.heap.size ≤ g; omega) (.int .i64 2))
        have HZE := hid ((heap_setCell_other Wy ⟨g, 5, none⟩ w.heap.size (.int .i64 2) (by show w.heap.size ≠ g; omega)).trans hZY)
        have HSE : Hid (W4.heap.size ≤ (Wy.setCell ⟨g, 5, none⟩ (.int .i64 2)).heap.size) := by unfold Hid; rw [World.size_setCell]; exact hSY
        obtain ⟨_, _, hrow, _⟩ := id HRY.out
        obtain ⟨-, -, -, -, -, v5, -⟩ := cl7 hrow
        obtain ⟨-, -, -, -, -, k6, -⟩ := fl7 hrow
        clear hu hRE hgB hws hrow HCT HGD HE0 HEN HGM HGS HBB hby hBY hZY hSY HRX HBX HZX HSX x2 x3 x4 x5 x6 k5 HU4 hgo hq7 HRY
        go_upto_region 14 with fail
        generalize Wy.setCell ⟨g, 5, none⟩ (.int .i64 2) = Z at *
        clear v5 k6
        generalize manyM m = M at *
        go_wp2_with fail
        refine (imachine_any W4.heap.size g M Z HRE.out (by have := HBE.out; have := HSE.out; omega)).mono ?_
        rintro e w6 ⟨s6, c6, rfl, o1, o2, o3, b6⟩
        obtain ⟨q1, t1, rfl⟩ := own_shape o1
        obtain ⟨q2, t2, rfl⟩ := own_shape o2
        have HB6 := hid (HBE.out.trans (b6.mono HBE.out.size))
        have hz6 := blk8 HZE.out b6
        have HF := hid (res_gen w w6 w.heap.size W4.heap.size 0 M _ _ (Nat.le_refl _) HS4.out o1 o2 o3 HB6.out)
        obtain ⟨g0, g1, g2, g3, g4, g5, g6, g7⟩ := cl8 hz6
        obtain ⟨f0, f1, f2, f3, f4, f5, f6, f7⟩ := fl8 hz6
        clear o1 o2 o3 b6 hz6 HB6 HRE HBE HZE HSE
        generalize hrr : M = r at *
        generalize r.stk.length = l1 at *
        generalize r.cells.length = l2 at *
        go_wp2_with fail
        refine bodyPost_ret (v := .agg #[.int .i64 0, .int .i64 r.pc, .slice q1 l1 t1, .slice q2 l2 t2, .int .i64 r.sig, .int .i64 r.used, .int .i64 r.trap, .bool r.done]) (by simp [results, Try.results13, go_sem, g0, g1, g2, g3, g4, g5, g6, g7]; try rfl) rfl ?_
        rw [HEQ.out]
        exact HF.out
end Go.Proofs.Ytlofagpffeaebaa
namespace Go.Proofs.Ytlofagpffeaebaa
open Go.RowKit
set_option linter.unusedVariables false

/-- what a run that has no code ends with -/
theorem run_props {zs ys : List Int} {b : Int} {R : SM} (h : RunR zs ys b R) (h0 : runC zs ys b = 0) : Good R ∧ One R ∧ goes R = false ∧ R.used ≤ b ∧ R.cells.length = ys.length := by
  obtain ⟨h1, h2, h3, h4⟩ := runC_ok h0
  have hw := fault_good h1
  exact (h.1 h0).props h4 hw.1 hw.2 (startM_good h2) (fun e => by cases e) (.inl h3) h3
theorem run_small {zs ys : List Int} {b : Int} {R : SM} (h : RunR zs ys b R) : R.stk.length ≤ 1000 ∧ R.cells.length ≤ 1000 := by
  by_cases h0 : runC zs ys b = 0
  · have hg := (run_props h h0).1
    exact ⟨by have := hg.sl; omega, by have := hg.cl; omega⟩
  · rw [h.2 h0]
    exact ⟨by simp [zeroM], by simp [zeroM]⟩
theorem bel_tr {a b c : World} (h : Below a.heap.size a b) (hb : Below b.heap.size b c) : Below a.heap.size a c := h.trans (hb.mono h.size)
/-- the model's answer, the two copies -/
structure RunW (w W : World) (zs ys : List Int) (C : Int) (M : SM) (B p x y : Nat) (a1 a2 : Option Addr) (c1 c2 : Nat) : Prop where
  v : Var8 W B p C M a1 a2 c1 c2
  xo : Own W x (.slice (some ⟨x, 0, none⟩) zs.length zs.length) zs
  yo : Own W y (.slice (some ⟨y, 0, none⟩) ys.length ys.length) ys
  b : Below w.heap.size w W
  l : w.heap.size ≤ p ∧ p < x ∧ x < y ∧ y < W.heap.size
theorem RunW.below {w W W' : World} {zs ys : List Int} {C : Int} {M : SM} {B p x y : Nat} {a1 a2 : Option Addr} {c1 c2 : Nat} (h : RunW w W zs ys C M B p x y a1 a2 c1 c2) (hb : Below W.heap.size W W') : RunW w W' zs ys C M B p x y a1 a2 c1 c2 :=
  ⟨h.v.below hb, own_kept h.xo hb, own_kept h.yo hb, bel_tr h.b hb, by have := h.l; have := hb.size; omega⟩
/-- both answers -/
structure RunZ (w W : World) (C : Int) (M : SM) (B p D q : Nat) (a1 a2 b1 b2 : Option Addr) (c1 c2 d1 d2 : Nat) : Prop where
  v : Var8 W B p C M a1 a2 c1 c2
  u : Var8 W D q C M b1 b2 d1 d2
  b : Below w.heap.size w W
  l : w.heap.size ≤ p ∧ p < D ∧ D ≤ q ∧ q < W.heap.size
theorem RunZ.below {w W W' : World} {C : Int} {M : SM} {B p D q : Nat} {a1 a2 b1 b2 : Option Addr} {c1 c2 d1 d2 : Nat} (h : RunZ w W C M B p D q a1 a2 b1 b2 c1 c2 d1 d2) (hb : Below W.heap.size W W') : RunZ w W' C M B p D q a1 a2 b1 b2 c1 c2 d1 d2 :=
  ⟨h.v.below hb, h.u.below hb, bel_tr h.b hb, by have := h.l; have := hb.size; omega⟩
/-- what a store into one block x leaves of both -/
theorem RunZ.but {w W W' : World} {C : Int} {M : SM} {B p D q : Nat} {a1 a2 b1 b2 : Option Addr} {c1 c2 d1 d2 : Nat} (h : RunZ w W C M B p D q a1 a2 b1 b2 c1 c2 d1 d2) (x : Nat) (hx : p < x ∧ x < D) (hb : Below x W W') (hs : W'.heap.size = W.heap.size) (ho : ∀ g, g ≠ x → W'.heap[g]? = W.heap[g]?) : RunZ w W' C M B p D q a1 a2 b1 b2 c1 c2 d1 d2 :=
  ⟨h.v.keep (ho _ (by omega)) (fun g hg => ho g (by have := h.v.b1 g hg; omega)) (fun g hg => ho g (by have := h.v.b2 g hg; omega)),
   h.u.keep (ho _ (by have := h.l; omega)) (fun g hg => ho g (by have := h.u.b1 g hg; omega)) (fun g hg => ho g (by have := h.u.b2 g hg; omega)),
   h.b.trans (hb.mono (by have := h.l; omega)), by rw [hs]; exact h.l⟩
end Go.Proofs.Ytlofagpffeaebaa
namespace Go.Proofs.Ytlofagpffeaebaa
open Go.RowKit
set_option maxHeartbeats 400000 in
theorem big_any (a : Option Addr) (K cap : Nat) (w : World) (hK : K ≤ 1048576) :
    Calls Try.prog 11 #[.slice a K cap] w fun e w' => e = .returned (.bool false) ∧ w' = w := by
  have hd : decide ((1048576 : Int) < (K : Int)) = false := decide_eq_false (by omega)
  go_enter Try.func11, Try.ntmps11
  go_wp2
  go_ret
  exact ⟨rfl, rfl⟩
set_option maxHeartbeats 400000 in
theorem big_yes (a : Option Addr) (K cap : Nat) (w : World) (hK : 1048576 < K) :
    Calls Try.prog 11 #[.slice a K cap] w fun e w' => e = .returned (.bool true) ∧ w' = w := by
  have hd : decide ((1048576 : Int) < (K : Int)) = true := decide_eq_true (by omega)
  go_enter Try.func11, Try.ntmps11
  go_wp2
  go_ret
  exact ⟨rfl, rfl⟩
end Go.Proofs.Ytlofagpffeaebaa
namespace Go.Proofs.Ytlofagpffeaebaa
open Go.RowKit
set_option linter.unusedVariables false

theorem field8_0 (C : Int) (M : SM) (sv cv : Value) (w : World) : (Instr.field 46 (resV C M sv cv) 0).run Try.prog w = .ok (.int .i64 C) w := by kernel_rfl
theorem field8_1 (C : Int) (M : SM) (sv cv : Value) (w : World) : (Instr.field 46 (resV C M sv cv) 1).run Try.prog w = .ok (machL M sv cv) w := by kernel_rfl
theorem field7_5 (M : SM) (sv cv : Value) (w : World) : (Instr.field 44 (machL M sv cv) 5).run Try.prog w = .ok (.int .i64 M.trap) w := by kernel_rfl
theorem own_nil {w : World} {B n c : Nat} {a : Option Addr} {zs : List Int} (h : Own w B (.slice a n c) zs) : a = none → c = 0 := by
  rcases h.2 with ⟨h1, h2⟩ | ⟨g, c', cur, h1, _⟩
  · simp at h1; exact fun _ => h1.2.2
  · simp at h1; intro e; rw [e] at h1; cases h1.1
theorem own_cap {w : World} {B c : Nat} {a : Option Addr} {zs : List Int} (h : Own w B (.slice a zs.length c) zs) : zs.length ≤ c := by
  rcases h.2 with ⟨h1, h2⟩ | ⟨g, c', cur, h1, _, _, h3, _⟩
  · omega
  · simp at h1; rw [h1.2]; exact h3
theorem own_ahead {w : World} {B n c b off : Nat} {a : Option Addr} {zs : List Int} (h : Own w B (.slice a n c) zs) (e : a = some ⟨b, off, none⟩) : b < w.heap.size := by
  rcases h.2 with ⟨h1, h2⟩ | ⟨g, c', cur, h1, _⟩
  · simp at h1; rw [h1.1] at e; cases e
  · simp at h1
    have k := (own_lt h (g := g) (by rw [h1.1])).2
    rw [h1.1] at e
    have := Option.some.inj e
    have := congrArg Addr.block this
    simp at this
    omega
theorem run_step {zs ys : List Int} {b : Int} {R : SM} (h : RunR zs ys b R) (h0 : runC zs ys b = 0) : stepC zs R = 0 ∧ stepR zs R = R := by
  have hp := run_props h h0
  have hf := (runC_ok h0).1
  have e : stepC zs R = 0 := by unfold stepC; rw [if_pos hf]; exact good_F hp.1
  refine ⟨e, ?_⟩
  unfold stepR stepM
  rw [if_pos e, if_neg (by rw [hp.2.2.1]; simp)]

set_option maxHeartbeats 6400000 in
set_option maxRecDepth 100000 in
theorem fnStacks_walk (a0 : Option Addr) (len0 cap0 : Nat) (z0 : List Int) (w : World) (w0 : IsRow .u8 w a0 len0 cap0 z0) :
    Calls Try.prog 4 #[.slice a0 len0 cap0] w fun e w' => e = .returned (.bool true) ∧ Below w.heap.size w w' := by
  obtain ⟨hb0, ha0⟩ := bytes_of_row w0
  clear w0
  by_cases hbig : 1048576 < len0
  · go_enter Try.func4, Try.ntmps4
    go_wp2_with fail
    refine (big_yes _ _ _ _ hbig).mono ?_
    rintro e w1 ⟨rfl, rfl⟩
    go_wp2
    go_ret
    exact ⟨rfl, Below.refl _ _⟩
  have hs : len0 ≤ 1048576 := by omega
  have HA := hid ha0
  have HY := hid hb0
  clear hbig ha0 hb0
  go_enter Try.func4, Try.ntmps4
  go_wp2_with fail
  refine (big_any _ _ _ _ hs).mono ?_
  rintro e w1 ⟨rfl, rfl⟩
  go_wp2_with fail
  refine (drawRun_any a0 len0 cap0 w1 hs HY.out HA.out).mono ?_
  rintro e w2 ⟨zs, ys, bud, a1, a2, c1, c2, rfl, hzl, hyl, hoz, hoy, hB2⟩
  obtain ⟨M, hM⟩ := runR_any zs ys bud
  have HOZ := hid hoz
  have HOY := hid hoy
  have HB2 := hid hB2
  have HSP : Hid (∀ W, Below w2.heap.size w2 W → Calls Try.prog 14 #[.slice a1 zs.length c1, .slice a2 ys.length c2, .int .i64 bud] W fun e w' => ∃ sv cv, e = .returned (resV (runC zs ys bud) M sv cv) ∧ Below W.heap.size W w') := fun W hb => (sRun_any a1 zs c1 a2 ys c2 bud M W ((nums_of_own hoz).2.below hb) (by omega) ((nums_of_own hoy).2.below hb) (own_nil hoy) (by omega) hM).mono fun e w' ⟨sv, cv, h1, _, _, _, h2⟩ => ⟨sv, cv, h1, h2⟩
  have HIM : Hid (∀ W, Below w2.heap.size w2 W → Calls Try.prog 13 #[.slice a1 zs.length c1, .slice a2 ys.length c2, .int .i64 bud] W fun e w' => ResS W w' e (runC zs ys bud) M) := fun W hb => (iRun_any a1 zs c1 a2 ys c2 bud M W ((nums_of_own hoz).2.below hb) (fun b off e => own_ahead (own_kept hoz hb) e) (own_cap hoz) (by omega) ((nums_of_own hoy).2.below hb) (own_nil hoy) (by omega) hM).mono fun e w' h => h.s
  by_cases hC : runC zs ys bud = 0
  case neg =>
    generalize runC zs ys bud = C at *
    have e0 : (C != 0) = true := by simpa using hC
    have hf0 := field8_0
    clear hC hM hoz hoy hB2 HOZ HOY HA HY hs
    go_wp2_with fail
    refine (HIM.out _ (Below.refl _ _)).mono ?_
    rintro e w3 ⟨b1, b2, d1, d2, rfl, hb, hv⟩
    have hb3 := hb.trans ((Below.refl _ _).alloc hb.size (.cells (line8 C M (.slice b1 M.stk.length d1) (.slice b2 M.cells.length d2)) 46))
    have HK := hid hb3
    have HB3 := hid (bel_tr HB2.out hb3)
    have HV := hid hv
    clear hb hb3 hv HB2 HIM
    go_upto_region 5 with fail
    generalize w3.alloc (.cells (line8 C M (.slice b1 M.stk.length d1) (.slice b2 M.cells.length d2)) 46) = W3 at *
    generalize w3.heap.size = p at *
    have hS0 : Below W3.heap.size W3 W3 := Below.refl _ _
    have HC3 : Hid (∀ W, Below W3.heap.size W3 W → W.cell? ⟨p, 0, none⟩ = some (.int .i64 C)) := fun W hb => cl1 (blk8 HV.out.row hb)
    have v0 := HC3.out _ hS0
    go_upto_region 6 with fail
    go_region_held3 (fun W => Below W3.heap.size W3 W ∧ W.cell? ⟨p, 0, none⟩ = some (.int .i64 C)) (first | (with_reducible exact ⟨by assumption, HC3.out _ (by assumption)⟩) | (with_reducible exact ⟨hS0.drew, HC3.out _ hS0.drew⟩) | fail) (first | (go_at_call 14; refine (HSP.out _ (HK.out.trans (Below.mono (And.left (by with_reducible assumption)) HK.out.size))).mono ?_; rintro e wa ⟨sv, cv, rfl, hb⟩; have hD3 : Below W3.heap.size W3 wa := bel_tr (And.left (by with_reducible assumption)) hb; clear hb) | fail)
    have HF := hid (bel_tr HB3.out hD3)
    clear hD3 hS0 HC3 HB3 HV HK
    go_wp2_with fail
    go_ret
    exact ⟨rfl, HF.out⟩
  obtain ⟨hgM, hone, hgo, hus, hcl⟩ := run_props hM hC
  obtain ⟨hs1, hs2⟩ := run_step hM hC
  have HST : Hid (∀ (sv cv : Value) W, Below w2.heap.size w2 W → RowV W sv M.stk → RowV W cv M.cells → Calls Try.prog 15 #[.slice a1 zs.length c1, machL M sv cv] W fun e w' => ResS W w' e 0 M) := fun sv cv W hb h1 h2 => by
    have := iStep_any a1 zs c1 M sv cv W ((nums_of_own hoz).2.below hb) (fun b off e => own_ahead (own_kept hoz hb) e) (by omega) (own_cap hoz) h1 h2 (by have := hgM.sl; omega) (by have := hgM.cl; omega)
    rw [hs1, hs2] at this
    exact this.mono fun e w' h => h.s
  have HSF : Hid (∀ (sv cv : Value) W, RowV W sv M.stk → RowV W cv M.cells → Calls Try.prog 16 #[machL M sv cv] W fun e w' => e = .returned (.int .i64 0) ∧ Below W.heap.size W w') := fun sv cv W h1 h2 => by
    have := istkFault_any M sv cv W h1 h2 (by have := hgM.sl; omega) (by have := hgM.cl; omega)
    rwa [good_F hgM] at this
  have hdt : (M.done = true ∧ M.trap = 0) ∨ (M.done = false ∧ (M.trap != 0) = true) := by
    rcases goes_no hgo with h | ⟨h1, h2, _⟩
    · exact .inl ⟨h, hone h⟩
    · exact .inr ⟨h1, by simpa using h2⟩
  have HDT := hid hdt
  have HU := hid hus
  have HCL := hid hcl
  rw [hC] at HSP HIM
  clear hdt hgM hone hgo hus hcl hs1 hs2 hM hC hoz hoy hB2 HA HY hs hyl
  go_wp2_with fail
  refine (HIM.out _ (Below.refl _ _)).mono ?_
  rintro e w3 ⟨b1, b2, d1, d2, rfl, hb, hv⟩
  have hb3 := hb.trans ((Below.refl _ _).alloc hb.size (.cells (line8 0 M (.slice b1 M.stk.length d1) (.slice b2 M.cells.length d2)) 46))
  have HK3 := hid hb3
  have HV3 := hid hv
  clear hb hb3 hv HIM
  go_upto_region 5 with fail
  generalize w3.alloc (.cells (line8 0 M (.slice b1 M.stk.length d1) (.slice b2 M.cells.length d2)) 46) = W3 at *
  generalize w3.heap.size = p at *
  obtain ⟨v0, v1, v2, v3, v4, v5, v6, v7⟩ := row8 HV3.out.row
  go_upto_region 7 with fail
  have hx4 := heap_alloc_new W3 (.cells (lineL M (.slice b1 M.stk.length d1) (.slice b2 M.cells.length d2)) 44)
  have hb4 : Below W3.heap.size W3 (W3.alloc (.cells (lineL M (.slice b1 M.stk.length d1) (.slice b2 M.cells.length d2)) 44)) := (Below.refl _ _).alloc (Nat.le_refl _) _
  have HX4 := hid hx4
  have HK4 := hid (bel_tr HK3.out hb4)
  have HR4 : Hid (RowV (W3.alloc (.cells (lineL M (.slice b1 M.stk.length d1) (.slice b2 M.cells.length d2)) 44)) (.slice b1 M.stk.length d1) M.stk ∧ RowV (W3.alloc (.cells (lineL M (.slice b1 M.stk.length d1) (.slice b2 M.cells.length d2)) 44)) (.slice b2 M.cells.length d2) M.cells) := ⟨(HV3.out.rows.1).below hb4, (HV3.out.rows.2).below hb4⟩
  clear hx4 hb4 HV3 HK3
  go_upto_region 8 with fail
  clear v0 v1 v2 v3 v4 v5 v6 v7
  generalize W3.alloc (.cells (lineL M (.slice b1 M.stk.length d1) (.slice b2 M.cells.length d2)) 44) = W4 at *
  generalize W3.heap.size = q at *
  obtain ⟨m0, m1, m2, m3, m4, m5, m6⟩ := row7 HX4.out
  go_wp2_with fail
  refine (HST.out _ _ _ HK4.out HR4.out.1 HR4.out.2).mono ?_
  rintro e w5 ⟨e1, e2, j1, j2, rfl, hb, hv⟩
  have hb5 := hb.trans ((Below.refl _ _).alloc hb.size (.cells (line8 0 M (.slice e1 M.stk.length j1) (.slice e2 M.cells.length j2)) 46))
  have HK5 := hid (bel_tr HK4.out hb5)
  have HX5 := hid (blk8 HX4.out hb5)
  have HR5 : Hid (RowV (w5.alloc (.cells (line8 0 M (.slice e1 M.stk.length j1) (.slice e2 M.cells.length j2)) 46)) (.slice b1 M.stk.length d1) M.stk ∧ RowV (w5.alloc (.cells (line8 0 M (.slice e1 M.stk.length j1) (.slice e2 M.cells.length j2)) 46)) (.slice b2 M.cells.length d2) M.cells) := ⟨(HR4.out.1).below hb5, (HR4.out.2).below hb5⟩
  have HS5 := hid hv.row
  clear hb hb5 hv HK4 HX4 HR4 HST m0 m1 m2 m3 m4 m5 m6
  go_upto_region 9 with fail
  generalize w5.alloc (.cells (line8 0 M (.slice e1 M.stk.length j1) (.slice e2 M.cells.length j2)) 46) = W5 at *
  generalize w5.heap.size = s at *
  have hf1 := field8_1
  have hf5 := field7_5
  have hS0 : Below W5.heap.size W5 W5 := Below.refl _ _
  have HC5 : Hid (∀ W, Below W5.heap.size W5 W → W.cell? ⟨q, 0, none⟩ = some (.int .i64 M.pc) ∧ W.cell? ⟨q, 1, none⟩ = some (.slice b1 M.stk.length d1) ∧ W.cell? ⟨q, 2, none⟩ = some (.slice b2 M.cells.length d2) ∧ W.cell? ⟨q, 3, none⟩ = some (.int .i64 M.sig) ∧ W.cell? ⟨q, 4, none⟩ = some (.int .i64 M.used) ∧ W.cell? ⟨q, 5, none⟩ = some (.int .i64 M.trap) ∧ W.cell? ⟨q, 6, none⟩ = some (.bool M.done) ∧ W.cell? ⟨s, 0, none⟩ = some (.int .i64 0) ∧ W.cell? ⟨s, 1, none⟩ = some (.int .i64 M.pc) ∧ W.cell? ⟨s, 5, none⟩ = some (.int .i64 M.used)) := fun W hb => by
    obtain ⟨x0, x1, x2, x3, x4, x5, x6⟩ := row7 (blk8 HX5.out hb)
    obtain ⟨y0, y1, _, _, _, y5, _, _⟩ := row8 (blk8 HS5.out hb)
    exact ⟨x0, x1, x2, x3, x4, x5, x6, y0, y1, y5⟩
  obtain ⟨m0, m1, m2, m3, m4, m5, m6, y0, y1, y5⟩ := HC5.out _ hS0
  have hus : M.used ≤ bud := HU.out
  have hcl := HCL.out
  generalize M.cells.length = n2 at *
  subst hcl
  have HF5 := hid (bel_tr HB2.out HK5.out)
  clear HX5 HS5 HU HB2 HOZ HOY
  have hq : (M.done == (M.trap != 0)) = false := by
    rcases HDT.out with ⟨h1, h2⟩ | ⟨h1, h2⟩
    · rw [h1, h2]; rfl
    · rw [h1, h2]; rfl
  clear HDT
  go_region_held3 (fun W => Below W5.heap.size W5 W ∧ W.cell? ⟨q, 0, none⟩ = some (.int .i64 M.pc) ∧ W.cell? ⟨q, 1, none⟩ = some (.slice b1 M.stk.length d1) ∧ W.cell? ⟨q, 2, none⟩ = some (.slice b2 ys.length d2) ∧ W.cell? ⟨q, 3, none⟩ = some (.int .i64 M.sig) ∧ W.cell? ⟨q, 4, none⟩ = some (.int .i64 M.used) ∧ W.cell? ⟨q, 5, none⟩ = some (.int .i64 M.trap) ∧ W.cell? ⟨q, 6, none⟩ = some (.bool M.done) ∧ W.cell? ⟨s, 0, none⟩ = some (.int .i64 0) ∧ W.cell? ⟨s, 1, none⟩ = some (.int .i64 M.pc) ∧ W.cell? ⟨s, 5, none⟩ = some (.int .i64 M.used)) (first | (with_reducible exact ⟨by assumption, HC5.out _ (by assumption)⟩) | (with_reducible exact ⟨hS0.drew, HC5.out _ hS0.drew⟩) | fail) (first | (go_at_call 16; refine (HSF.out _ _ _ (HR5.out.1.below (And.left (by with_reducible assumption))) (HR5.out.2.below (And.left (by with_reducible assumption)))).mono ?_; rintro e wa ⟨rfl, hb⟩; have hD3 : Below W5.heap.size W5 wa := bel_tr (And.left (by with_reducible assumption)) hb; clear hb) | (go_at_call 14; refine (HSP.out _ (HK5.out.trans (Below.mono (And.left (by with_reducible assumption)) HK5.out.size))).mono ?_; rintro e wb ⟨sv, cv, rfl, hb⟩; have hD4 : Below W5.heap.size W5 wb := bel_tr (And.left (by with_reducible assumption)) hb; clear hb) | fail)
  have HF := hid (bel_tr HF5.out hD4)
  clear hD3 hD4 hS0 HC5 HF5 hq hf1 hf5
  go_wp2_with fail
  go_ret
  exact ⟨rfl, HF.out⟩
end Go.Proofs.Ytlofagpffeaebaa
