/-
  impl's copied: the run as it stands, its cells in a row of their own.
-/
import Derived.Test.YtcikofhbfncgdaaRgI10
import Derived.Test.YtcikofhbfncgdaaRgRep
import Derived.Test.YtcikofhbfncgdaaRgJ
import Derived.Test.YtcikofhbfncgdaaRgLw
import Derived.Laws.CopyOwn
import Derived.Deep.WholeRow
namespace Go.Proofs.Ytcikofhbfncgdaa
open Go.RowKit
set_option linter.unusedVariables false

theorem newRunR_any (m : SM) (sv cv : Value) (w : World) (hs : RowV w sv m.stk) (hc : RowV w cv m.cells) (h24 : m.stk.length = 24) (hl2 : m.cells.length ≤ 1048576) :
    Calls Try.prog 68 #[machV m sv cv] w fun e w' => ∃ g, e = .returned (.pointer (some ⟨g, 0, none⟩)) ∧ RunJ [] w.heap.size w' g m ∧ Below w.heap.size w w' :=
  (newRegRun_any m sv cv w hs hc h24 hl2).mono fun e w' ⟨g, v, h1, h2, h3⟩ => ⟨g, h1, ⟨v, h2, fun x hx => by cases hx⟩, h3⟩
theorem imachineR_any (B p : Nat) (m : SM) (w : World) (h : RunJ [] B w p m) (hB : B ≤ w.heap.size) :
    Calls Try.prog 70 #[.pointer (some ⟨p, 0, none⟩)] w fun e w' => ∃ sv cv, e = .returned (machV m sv cv) ∧ Own w' B sv m.stk ∧ Own w' B cv m.cells ∧ (∀ g, sv.ownBlock = some g → cv.ownBlock ≠ some g) ∧ Below w.heap.size w w' := by
  obtain ⟨cv, h, -⟩ := h
  exact rmachine_any B p m cv w h hB
theorem hidKG {p : Prop} (h : p) : Hid p := h
attribute [local go_sem ↓] Go.wp_at_zero Go.wp_at_succ

set_option maxHeartbeats 6400000 in
set_option maxRecDepth 100000 in
theorem iStepR_any (a : Option Addr) (zs : List Int) (c : Nat) (m : SM) (sv cv : Value) (w : World) (hn : Nums w a zs) (hab : ∀ b off, a = some ⟨b, off, none⟩ → b < w.heap.size) (hl : zs.length ≤ 1048576) (hzc : zs.length ≤ c) (hs : RowV w sv m.stk) (hc : RowV w cv m.cells) (hl1 : m.stk.length ≤ 1048576) (hl2 : m.cells.length ≤ 1048576) :
    Calls Try.prog 19 #[.slice a zs.length c, machV m sv cv] w fun e w' => ResR w w' e (stepRC zs m) (stepRR zs m) := by
  have hX : Hid (∀ W, W = (w.alloc (.cells (lineS m sv cv) 28)).alloc (.cells zero8 30) →
      Below w.heap.size w W ∧ W.heap[w.heap.size]? = some (.cells (lineS m sv cv) 28 (0, 0)) ∧ W.heap[w.heap.size + 1]? = some (.cells zero8 30 (0, 0)) ∧ W.heap.size = w.heap.size + 2) := fun W e => by
    subst e
    have x1 := heap_alloc_new w (.cells (lineS m sv cv) 28)
    have y1 := (Below.refl w.heap.size w).alloc (Nat.le_refl _) (.cells (lineS m sv cv) 28)
    have s1 : (w.alloc (.cells (lineS m sv cv) 28)).heap.size = w.heap.size + 1 := by simp
    generalize w.alloc (.cells (lineS m sv cv) 28) = W1 at *
    have x2 := heap_alloc_new W1 (.cells zero8 30)
    have y2 := (Below.refl W1.heap.size W1).alloc (Nat.le_refl _) (.cells zero8 30)
    rw [s1] at x2
    exact ⟨y1.trans (y2.mono (by omega)), blk8 x1 y2, x2, by simp [s1]⟩
  have HCW : Hid (∀ W, Below w.heap.size w W → Calls Try.prog 66 #[.slice a zs.length c] W fun e w' => e = .returned (.int .i64 (fault zs)) ∧ Below W.heap.size W w') := fun W h => implFault_any a zs c W (by omega) (hn.below h)
  have HCF : Hid (∀ W, Below w.heap.size w W → Calls Try.prog 21 #[machV m sv cv] W fun e w' => e = .returned (.int .i64 (rmF m)) ∧ Below W.heap.size W w') := fun W h => irgFault_any m sv cv W (hs.below h) (hc.below h) hl1 hl2
  have HCN : Hid (rmF m = 0 → ∀ W, Below w.heap.size w W → Calls Try.prog 68 #[machV m sv cv] W fun e w' => ∃ g, e = .returned (.pointer (some ⟨g, 0, none⟩)) ∧ RunJ [] W.heap.size w' g m ∧ Below W.heap.size W w') := fun h0 W h => newRunR_any m sv cv W (hs.below h) (hc.below h) (rgood_of h0).rl hl2
  have HCS : Hid (fault zs = 0 → rmF m = 0 → ∀ (B g : Nat) (W : World), Below w.heap.size w W → w.heap.size ≤ B → RunJ [] B W g m → Calls Try.prog 74 #[.pointer (some ⟨g, 0, none⟩), .slice a zs.length c] W fun e w' => e = .returned (.tuple #[]) ∧ RunJ [] B w' g (stepRL zs m) ∧ Below B W w') := fun h1 h2 B g W hb hB hr =>
    istepR_any B g m zs a c W hr (rgood_of h2) (hn.below hb) (fun b off hab2 => by have := hab b off hab2; omega) (fault_good h1).2 hzc (fault_good h1).1
  have HR : Hid ((fault zs ≠ 0 → stepRC zs m = fault zs ∧ stepRR zs m = zeroM) ∧ (fault zs = 0 → rmF m ≠ 0 → stepRC zs m = rmF m ∧ stepRR zs m = zeroM) ∧ (fault zs = 0 → rmF m = 0 → stepRC zs m = 0 ∧ stepRR zs m = stepRM zs m)) := by
    refine ⟨fun h => ?_, fun h h2 => ?_, fun h h2 => ?_⟩
    · have e : stepRC zs m = fault zs := if_neg h
      exact ⟨e, by unfold stepRR; rw [e, if_neg h]⟩
    · have e : stepRC zs m = rmF m := if_pos h
      exact ⟨e, by unfold stepRR; rw [e, if_neg h2]⟩
    · have e : stepRC zs m = 0 := (if_pos h).trans h2
      exact ⟨e, by unfold stepRR; rw [e, if_pos rfl]⟩
  have HM : Hid ((goes m = true → stepRM zs m = stepRL zs m) ∧ (goes m = false → stepRM zs m = m)) := ⟨fun h => if_pos h, fun h => if_neg (by rw [h]; simp)⟩
  have hsh : ∃ x y n, sv = .slice x n y := by obtain ⟨x, y, e, _⟩ := hs; exact ⟨x, y, _, e⟩
  have hch : ∃ x y n, cv = .slice x n y := by obtain ⟨x, y, e, _⟩ := hc; exact ⟨x, y, _, e⟩
  clear hn hl hs hc hl1 hl2 hab hzc
  obtain ⟨xs, ys, ns, rfl⟩ := hsh
  obtain ⟨xc, yc, nc, rfl⟩ := hch
  generalize fault zs = fz at *
  generalize rmF m = F at *
  generalize stepRM zs m = M at *
  generalize stepRL zs m = ML at *
  generalize stepRC zs m = C at *
  generalize stepRR zs m = R at *
  generalize zs.length = L at *
  go_enter Try.func19, Try.ntmps19
  go_upto_region 1 with fail
  have hXX := hX.out _ rfl
  generalize (w.alloc (.cells (lineS m (.slice xs ns ys) (.slice xc nc yc)) 28)).alloc (.cells zero8 30) = W at *
  obtain ⟨x1, x2, x3, x4⟩ := hXX
  have HB : Hid (Below w.heap.size w W) := x1
  have HA : Hid (W.heap[w.heap.size]? = _) := x2
  have HZ : Hid (W.heap[w.heap.size + 1]? = _) := x3
  have HS : Hid (W.heap.size = w.heap.size + 2) := x4
  clear x1 x2 x3 x4 hX
  go_upto_region 2 with (go_at_call 66; refine (HCW.out W HB.out).mono ?_; rintro e w1 ⟨rfl, hb1⟩)
  have HB1 : Hid (Below w.heap.size w w1) := HB.out.trans (hb1.mono HB.out.size)
  have HA1 : Hid (w1.heap[w.heap.size]? = some (.cells (lineS m (.slice xs ns ys) (.slice xc nc yc)) 28 (0, 0))) := blk8 HA.out hb1
  have HZ1 : Hid (w1.heap[w.heap.size + 1]? = some (.cells zero8 30 (0, 0))) := blk8 HZ.out hb1
  clear hb1 HCW HB HA HZ HS
  by_cases hz : fz = 0
  case neg =>
    have hR := HR.out.1 hz
    obtain ⟨rfl, rfl⟩ := hR
    have e0 : (C != 0) = true := by simpa using hz
    have HF : Hid _ := res_code w w1 (w.heap.size + 1) C (by omega) HB1.out
    have g0 := cell_of_row _ _ 0 _ _ _ HZ1.out
    have g1 := cell_of_row _ _ 1 _ _ _ HZ1.out
    have g2 := cell_of_row _ _ 2 _ _ _ HZ1.out
    have g3 := cell_of_row _ _ 3 _ _ _ HZ1.out
    have g4 := cell_of_row _ _ 4 _ _ _ HZ1.out
    have g5 := cell_of_row _ _ 5 _ _ _ HZ1.out
    have g6 := cell_of_row _ _ 6 _ _ _ HZ1.out
    have g7 := cell_of_row _ _ 7 _ _ _ HZ1.out
    have f0 := frozen_of_row _ _ 0 _ _ HZ1.out
    have f1 := frozen_of_row _ _ 1 _ _ HZ1.out
    have f2 := frozen_of_row _ _ 2 _ _ HZ1.out
    have f3 := frozen_of_row _ _ 3 _ _ HZ1.out
    have f4 := frozen_of_row _ _ 4 _ _ HZ1.out
    have f5 := frozen_of_row _ _ 5 _ _ HZ1.out
    have f6 := frozen_of_row _ _ 6 _ _ HZ1.out
    have f7 := frozen_of_row _ _ 7 _ _ HZ1.out
    simp at g0 g1 g2 g3 g4 g5 g6 g7
    clear hz HCF HCN HCS HR HM HA1 HZ1
    go_wp2_with fail
    refine bodyPost_ret (v := codeV C) (by simp [results, Try.results19, go_sem, g0, g1, g2, g3, g4, g5, g6, g7]; try rfl) rfl ?_
    exact HF.out
  subst hz
  obtain ⟨d0, d1, d2, d3, d4, d5, d6⟩ := RunT.cells HA1.out
  go_upto_region 5 with (go_at_call 21; refine (HCF.out w1 HB1.out).mono ?_; rintro e w2 ⟨rfl, hb2⟩)
  have HB2 : Hid (Below w.heap.size w w2) := HB1.out.trans (hb2.mono HB1.out.size)
  have HA2 : Hid (w2.heap[w.heap.size]? = some (.cells (lineS m (.slice xs ns ys) (.slice xc nc yc)) 28 (0, 0))) := blk8 HA1.out hb2
  have HZ2 : Hid (w2.heap[w.heap.size + 1]? = some (.cells zero8 30 (0, 0))) := blk8 HZ1.out hb2
  clear hb2 HCF HB1 HA1 HZ1 d0 d1 d2 d3 d4 d5 d6
  by_cases hf : F = 0
  case neg =>
    have hR := HR.out.2.1 (by first | rfl | trivial) hf
    obtain ⟨rfl, rfl⟩ := hR
    have e0 : (C != 0) = true := by simpa using hf
    have HF : Hid _ := res_code w w2 (w.heap.size + 1) C (by omega) HB2.out
    have g0 := cell_of_row _ _ 0 _ _ _ HZ2.out
    have g1 := cell_of_row _ _ 1 _ _ _ HZ2.out
    have g2 := cell_of_row _ _ 2 _ _ _ HZ2.out
    have g3 := cell_of_row _ _ 3 _ _ _ HZ2.out
    have g4 := cell_of_row _ _ 4 _ _ _ HZ2.out
    have g5 := cell_of_row _ _ 5 _ _ _ HZ2.out
    have g6 := cell_of_row _ _ 6 _ _ _ HZ2.out
    have g7 := cell_of_row _ _ 7 _ _ _ HZ2.out
    have f0 := frozen_of_row _ _ 0 _ _ HZ2.out
    have f1 := frozen_of_row _ _ 1 _ _ HZ2.out
    have f2 := frozen_of_row _ _ 2 _ _ HZ2.out
    have f3 := frozen_of_row _ _ 3 _ _ HZ2.out
    have f4 := frozen_of_row _ _ 4 _ _ HZ2.out
    have f5 := frozen_of_row _ _ 5 _ _ HZ2.out
    have f6 := frozen_of_row _ _ 6 _ _ HZ2.out
    have f7 := frozen_of_row _ _ 7 _ _ HZ2.out
    simp at g0 g1 g2 g3 g4 g5 g6 g7
    clear hf HCN HCS HR HM HA2 HZ2
    go_wp2_with fail
    refine bodyPost_ret (v := codeV C) (by simp [results, Try.results19, go_sem, g0, g1, g2, g3, g4, g5, g6, g7]; try rfl) rfl ?_
    exact HF.out
  subst hf
  have hR := HR.out.2.2 (by first | rfl | trivial) (by first | rfl | trivial)
  obtain ⟨rfl, rfl⟩ := hR
  obtain ⟨d0, d1, d2, d3, d4, d5, d6⟩ := RunT.cells HA2.out
  go_upto_region 8 with (go_at_call 68; refine (HCN.out (by first | rfl | trivial) w2 HB2.out).mono ?_; rintro e w3 ⟨g, rfl, hr3, hb3⟩)
  have HB3 : Hid (Below w.heap.size w w3) := HB2.out.trans (hb3.mono HB2.out.size)
  have HZ3 : Hid (w3.heap[w.heap.size + 1]? = some (.cells zero8 30 (0, 0))) := blk8 HZ2.out hb3
  have HR3 : Hid (RunJ [] w2.heap.size w3 g m) := hr3
  have HS3 : Hid (w2.heap.size ≤ w3.heap.size) := hb3.size
  have HS2 : Hid (w.heap.size + 1 < w2.heap.size) := (Array.getElem?_eq_some_iff.1 HZ2.out).1
  clear hr3 hb3 HCN HB2 HA2 HZ2 d0 d1 d2 d3 d4 d5 d6 HR
  cases hgo : goes m
  · have hRm := HM.out.2 hgo
    subst hRm
    obtain ⟨cv3, hrow, -⟩ := id HR3.out
    obtain ⟨-, v2, v3, v4, v5, v6⟩ := hrow.cells
    clear hrow
    go_wp2_with fail
    refine (pgoes_any R w3).mono ?_
    rintro e W5 ⟨rfl, hb5⟩
    rw [hgo]
    have HR5 := hidKG (HR3.out.kept hb5)
    have HB5 := hidKG (HB3.out.trans (hb5.mono HB3.out.size))
    have HZ5 := hidKG (blk8 HZ3.out hb5)
    have HS5 : Hid (w2.heap.size ≤ W5.heap.size) := by have := hb5.size; have := HS3.out; show _ ≤ _; omega
    clear HR3 HB3 HZ3 HCS HM hgo v2 v3 v4 v5 v6 hb5
    go_wp2_with fail
    refine (imachineR_any w2.heap.size g R W5 HR5.out HS5.out).mono ?_
    rintro e w6 ⟨s6, c6, rfl, o1, o2, o3, b6⟩
    obtain ⟨q1, t1, rfl⟩ := own_shape o1
    obtain ⟨q2, t2, rfl⟩ := own_shape o2
    have HB6 : Hid (Below w.heap.size w w6) := HB5.out.trans (b6.mono HB5.out.size)
    have HZ6 := blk8 HZ5.out b6
    have HF := hidKG (res_mach w w6 (w.heap.size + 1) w2.heap.size R _ _ (by omega) HS2.out o1 o2 o3 HB6.out)
    have g0 := cell_of_row _ _ 0 _ _ _ HZ6
    have g1 := cell_of_row _ _ 1 _ _ _ HZ6
    have g2 := cell_of_row _ _ 2 _ _ _ HZ6
    have g3 := cell_of_row _ _ 3 _ _ _ HZ6
    have g4 := cell_of_row _ _ 4 _ _ _ HZ6
    have g5 := cell_of_row _ _ 5 _ _ _ HZ6
    have g6 := cell_of_row _ _ 6 _ _ _ HZ6
    have g7 := cell_of_row _ _ 7 _ _ _ HZ6
    have f0 := frozen_of_row _ _ 0 _ _ HZ6
    have f1 := frozen_of_row _ _ 1 _ _ HZ6
    have f2 := frozen_of_row _ _ 2 _ _ HZ6
    have f3 := frozen_of_row _ _ 3 _ _ HZ6
    have f4 := frozen_of_row _ _ 4 _ _ HZ6
    have f5 := frozen_of_row _ _ 5 _ _ HZ6
    have f6 := frozen_of_row _ _ 6 _ _ HZ6
    have f7 := frozen_of_row _ _ 7 _ _ HZ6
    simp at g0 g1 g2 g3 g4 g5 g6 g7
    clear HB5 HZ5 HR5 o1 o2 o3 b6 HZ6 HB6 HS2
    generalize hq1 : R.stk.length = l1 at *
    generalize hq2 : R.cells.length = l2 at *
    generalize hdn : R.done = dn at *
    go_wp2_with fail
    refine bodyPost_ret (v := .agg #[.int .i64 0, .int .i64 R.pc, .slice q1 l1 t1, .slice q2 l2 t2, .int .i64 R.sig, .int .i64 R.used, .int .i64 R.trap, .bool dn]) (by simp [results, Try.results19, go_sem, g0, g1, g2, g3, g4, g5, g6, g7]; try rfl) rfl ?_
    subst hdn
    exact HF.out
  · have hRm := HM.out.1 hgo
    subst hRm
    obtain ⟨cv3, hrow, -⟩ := id HR3.out
    obtain ⟨-, v2, v3, v4, v5, v6⟩ := hrow.cells
    clear hrow
    go_wp2_with fail
    refine (pgoes_any m w3).mono ?_
    rintro e W4 ⟨rfl, hb4⟩
    rw [hgo]
    have HR4 := hidKG (HR3.out.kept hb4)
    have HB4 := hidKG (HB3.out.trans (hb4.mono HB3.out.size))
    have HZ4 := hidKG (blk8 HZ3.out hb4)
    have HS4 : Hid (w2.heap.size ≤ W4.heap.size) := by have := hb4.size; have := HS3.out; show _ ≤ _; omega
    clear HR3 HB3 HZ3 HS3 v2 v3 v4 v5 v6 hb4
    go_wp2_with fail
    have hle : w.heap.size ≤ w2.heap.size := by have := HS2.out; omega
    have hcs := HCS.out (by first | rfl | trivial) (by first | rfl | trivial) w2.heap.size g W4 HB4.out hle HR4.out
    refine hcs.mono ?_
    clear hcs
    rintro e W5 ⟨rfl, hr5, hb5⟩
    have HR5 := hidKG hr5
    have HS5 : Hid (w2.heap.size ≤ W5.heap.size) := by have := hb5.size; have := HS4.out; show _ ≤ _; omega
    have HB5 : Hid (Below w.heap.size w W5) := HB4.out.trans (hb5.mono (by have := HS2.out; omega))
    have HZ5 : Hid (W5.heap[w.heap.size + 1]? = some (.cells zero8 30 (0, 0))) := (hb5.block _ HS2.out).trans HZ4.out
    clear HR4 HB4 HZ4 HCS HM hgo hr5 hb5
    go_wp2_with fail
    refine (imachineR_any w2.heap.size g R W5 HR5.out HS5.out).mono ?_
    rintro e w6 ⟨s6, c6, rfl, o1, o2, o3, b6⟩
    obtain ⟨q1, t1, rfl⟩ := own_shape o1
    obtain ⟨q2, t2, rfl⟩ := own_shape o2
    have HB6 : Hid (Below w.heap.size w w6) := HB5.out.trans (b6.mono HB5.out.size)
    have HZ6 := blk8 HZ5.out b6
    have HF := hidKG (res_mach w w6 (w.heap.size + 1) w2.heap.size R _ _ (by omega) HS2.out o1 o2 o3 HB6.out)
    have g0 := cell_of_row _ _ 0 _ _ _ HZ6
    have g1 := cell_of_row _ _ 1 _ _ _ HZ6
    have g2 := cell_of_row _ _ 2 _ _ _ HZ6
    have g3 := cell_of_row _ _ 3 _ _ _ HZ6
    have g4 := cell_of_row _ _ 4 _ _ _ HZ6
    have g5 := cell_of_row _ _ 5 _ _ _ HZ6
    have g6 := cell_of_row _ _ 6 _ _ _ HZ6
    have g7 := cell_of_row _ _ 7 _ _ _ HZ6
    have f0 := frozen_of_row _ _ 0 _ _ HZ6
    have f1 := frozen_of_row _ _ 1 _ _ HZ6
    have f2 := frozen_of_row _ _ 2 _ _ HZ6
    have f3 := frozen_of_row _ _ 3 _ _ HZ6
    have f4 := frozen_of_row _ _ 4 _ _ HZ6
    have f5 := frozen_of_row _ _ 5 _ _ HZ6
    have f6 := frozen_of_row _ _ 6 _ _ HZ6
    have f7 := frozen_of_row _ _ 7 _ _ HZ6
    simp at g0 g1 g2 g3 g4 g5 g6 g7
    clear HB5 HZ5 HR5 o1 o2 o3 b6 HZ6 HB6 HS2
    generalize hq1 : R.stk.length = l1 at *
    generalize hq2 : R.cells.length = l2 at *
    generalize hdn : R.done = dn at *
    go_wp2_with fail
    refine bodyPost_ret (v := .agg #[.int .i64 0, .int .i64 R.pc, .slice q1 l1 t1, .slice q2 l2 t2, .int .i64 R.sig, .int .i64 R.used, .int .i64 R.trap, .bool dn]) (by simp [results, Try.results19, go_sem, g0, g1, g2, g3, g4, g5, g6, g7]; try rfl) rfl ?_
    subst hdn
    exact HF.out
end Go.Proofs.Ytcikofhbfncgdaa
namespace Go.Proofs.Ytcikofhbfncgdaa
open Go.RowKit
set_option linter.unusedVariables false

abbrev zero30 : Array Value := #[.slice none 0 0, .int .i64 0, .int .i64 0, .int .i64 0, .int .i64 0, .bool false, .int .i64 0, .int .i64 0, .int .i64 0, .int .i64 0, .int .i64 0, .int .i64 0, .int .i64 0, .int .i64 0, .int .i64 0, .int .i64 0, .int .i64 0, .int .i64 0, .int .i64 0, .int .i64 0, .int .i64 0, .int .i64 0, .int .i64 0, .int .i64 0, .int .i64 0, .int .i64 0, .int .i64 0, .int .i64 0, .int .i64 0, .int .i64 0]
theorem zeroV30 (W : World) : (zeroValue 96).run Try.prog W = .ok (.agg zero30) W := by kernel_rfl
theorem info30 : (Try.prog.info? 96).map (·.size) = some 30 := by kernel_rfl
theorem ld30 {W : World} {g : Nat} {cs : Array Value} (hg : W.heap[g]? = some (.cells cs 96 (0, 0))) (hs : cs.size = 30) : (Instr.loadAt 96 (.pointer (some ⟨g, 0, none⟩))).run Try.prog W = .ok (.agg cs) W := by
  have := run_loadVar_row (P := Try.prog) W g 96 96 cs (0, 0) _ hg Try.underlying96 rfl (by rw [hs]; exact info30)
  simp only [Instr.loadAt, Instr.sureAddr, Sem.run_bind, Sem.run_pure, Result.andThen_ok, this]
theorem lv30 {W : World} {g : Nat} {cs : Array Value} (hg : W.heap[g]? = some (.cells cs 96 (0, 0))) (hs : cs.size = 30) : (loadVar 96 ⟨g, 0, none⟩).run Try.prog W = .ok (.agg cs) W :=
  run_loadVar_row (P := Try.prog) W g 96 96 cs (0, 0) _ hg Try.underlying96 rfl (by rw [hs]; exact info30)
theorem st30 {W : World} {g : Nat} {old cs : Array Value} (hg : W.heap[g]? = some (.cells old 96 (0, 0))) (ho : old.size = 30) (hs : cs.size = 30) (h1 : cs.all (·.oneCell') = true) : (Instr.storeAt 96 (.pointer (some ⟨g, 0, none⟩)) (.agg cs)).run Try.prog W = .ok () (W.setRow g cs) := by
  have := run_storeVar_row (P := Try.prog) W g 96 96 old cs hg (by rw [hs]; exact info30) (by omega) h1
  simp only [Instr.storeAt, Instr.sureAddr, Sem.run_bind, Sem.run_pure, Result.andThen_ok, this]
theorem sv30 {W : World} {g : Nat} {old cs : Array Value} (hg : W.heap[g]? = some (.cells old 96 (0, 0))) (ho : old.size = 30) (hs : cs.size = 30) (h1 : cs.all (·.oneCell') = true) : (storeVar 96 ⟨g, 0, none⟩ (.agg cs)).run Try.prog W = .ok () (W.setRow g cs) :=
  run_storeVar_row (P := Try.prog) W g 96 96 old cs hg (by rw [hs]; exact info30) (by omega) h1
theorem stn30 (W : World) {cs : Array Value} (hs : cs.size = 30) (h1 : cs.all (·.oneCell') = true) : (Instr.storeAt 96 (.pointer (some ⟨W.heap.size, 0, none⟩)) (.agg cs)).run Try.prog (W.alloc (.cells zero30 96)) = .ok () (W.alloc (.cells cs 96)) :=
  run_storeAt_new W 96 zero30 cs (by rw [hs]; exact info30) (by rw [hs]; rfl) h1
theorem wpList_ld30 {ops : Array Oper} {rest : List Oper} {op : Oper} {a : Act} {w : World} {Q : Exit → Act → World → Prop} (hgd : op.guard = none) (x : Operand) (ho : op.op = .load 96 x)
    (g : Nat) (hx : a.eval x = .pointer (some ⟨g, 0, none⟩)) (cs : Array Value) (hg : w.heap[g]? = some (.cells cs 96 (0, 0))) (hs : cs.size = 30)
    (h : wpList Try.prog ops Q rest (a.put op.dst (.agg cs)) w) : wpList Try.prog ops Q (op :: rest) a w :=
  wpList_plain hgd fun _ hK => by
    unfold Oper.wp execOp
    simp only [ho, hx, Instr.loadAt, Instr.sureAddr, Sem.run_bind, Sem.run_pure, Result.andThen_ok, lv30 hg hs]
    exact hK _ _ h
theorem wpList_st30 {ops : Array Oper} {rest : List Oper} {op : Oper} {a : Act} {w : World} {Q : Exit → Act → World → Prop} (hgd : op.guard = none) (x y : Operand) (ho : op.op = .store 96 x y)
    (g : Nat) (cs old : Array Value) (hx : a.eval x = .pointer (some ⟨g, 0, none⟩)) (hy : a.eval y = .agg cs) (hg : w.heap[g]? = some (.cells old 96 (0, 0))) (ho2 : old.size = 30) (hs : cs.size = 30) (h1 : cs.all (·.oneCell') = true)
    (h : wpList Try.prog ops Q rest (a.put op.dst undef) (w.setRow g cs)) : wpList Try.prog ops Q (op :: rest) a w :=
  wpList_plain hgd fun _ hK => by
    unfold Oper.wp execOp
    simp only [ho, hx, hy, Instr.storeAt, Instr.sureAddr, Sem.run_bind, Sem.run_pure, Result.andThen_ok, sv30 hg ho2 hs h1]
    exact hK _ _ h
theorem lineRR_size {m : SM} {cv : Value} (h : m.stk.length = 24) : (lineRR m cv).size = 30 := by simp [lineRR, h]
theorem lineRR_one {m : SM} {cv : Value} (h : cv.oneCell' = true) : (lineRR m cv).all (·.oneCell') = true :=
  all_oneCell_toArray (fun v hv => by
    rcases List.mem_append.1 hv with hv | hv
    · simp at hv
      rcases hv with rfl | rfl | rfl | rfl | rfl | rfl <;> first | exact h | rfl
    · obtain ⟨x, _, rfl⟩ := List.mem_map.1 hv
      rfl)
end Go.Proofs.Ytcikofhbfncgdaa
namespace Go.Proofs.Ytcikofhbfncgdaa
open Go.RowKit
set_option linter.unusedVariables false
attribute [local go_sem ↓] Go.wp_at_zero Go.wp_at_succ

set_option maxHeartbeats 6400000 in
set_option maxRecDepth 100000 in
theorem copied_any (B p : Nat) (m : SM) (cv : Value) (w : World) (h : RunRI B w p m cv) (hl : m.cells.length ≤ 1048576) :
    Calls Try.prog 105 #[.pointer (some ⟨p, 0, none⟩)] w fun e w' => ∃ cv', e = .returned (.agg (lineRR m cv')) ∧ Own w' w.heap.size cv' m.cells ∧ Below w.heap.size w w' := by
  obtain ⟨a, c, rfl⟩ := own_shape h.cs
  have hp : p < w.heap.size := (Array.getElem?_eq_some_iff.1 h.row).1
  have hb1 := (Below.refl w.heap.size w).alloc (Nat.le_refl _) (.cells zero30 96)
  have hr1 := heap_alloc_new w (.cells zero30 96)
  have hq1 := blk8 h.row hb1
  have hz := zeroV30
  have HZ0 : Hid (zero30.size = 30) := rfl
  have hsz : (lineRR m (.slice a m.cells.length c)).size = 30 := lineRR_size h.rl
  have hone : (lineRR m (.slice a m.cells.length c)).all (·.oneCell') = true := lineRR_one rfl
  have HNZ : Hid (∀ W : World, (W.alloc (.cells zero30 96)).setRow W.heap.size (lineRR m (.slice a m.cells.length c)) = W.alloc (.cells (lineRR m (.slice a m.cells.length c)) 96)) := fun W => World.setRow_alloc_new _ _ _ _
  have HCC : Hid (∀ W, Below w.heap.size w W → Calls Try.prog 80 #[.slice a m.cells.length c] W fun e w' => ∃ a' c', e = .returned (.slice a' m.cells.length c') ∧ Own w' W.heap.size (.slice a' m.cells.length c') m.cells ∧ Below W.heap.size W w') := fun W hb => (clone_any _ m.cells W (own_row (own_kept h.cs hb)) hl).mono fun e w' ⟨v', h1, h2, h3⟩ => by
    obtain ⟨a', c', rfl⟩ := own_shape h2
    exact ⟨a', c', h1, h2, h3⟩
  have HRL := hid h.rl
  have HR1 := hid hr1
  have HB1 := hid hb1
  have HQ1 := hid hq1
  have HA0 : Hid (∀ v, (lineRR m v)[0]? = some v ∧ (lineRR m (.slice a m.cells.length c)).setIfInBounds 0 v = lineRR m v) := fun v => ⟨by simp [lineRR], by simp [lineRR]⟩
  clear hr1 hb1 hq1 h
  have HA1 : Hid ((lineRR m (.slice a m.cells.length c))[0]? = some (.slice a m.cells.length c)) := by unfold Hid; simp [lineRR]
  have hone2 : Hid (∀ a' c', (lineRR m (.slice a' m.cells.length c')).all (·.oneCell') = true ∧ (lineRR m (.slice a' m.cells.length c')).size = 30) := fun a' c' => ⟨lineRR_one rfl, lineRR_size HRL.out⟩
  generalize zero30 = Z at *
  obtain ⟨A, hA⟩ : ∃ A, A = lineRR m (.slice a m.cells.length c) := ⟨_, rfl⟩
  rw [← hA] at HNZ HQ1 HA0 HA1 hsz hone
  have HA := hid hA
  clear hA
  go_enter Try.func105, Try.ntmps105
  go_upto_region 1 with fail
  generalize hW1 : w.alloc (.cells Z 96) = W1 at *
  have HW1 : Hid (w.heap.size < W1.heap.size) := (Array.getElem?_eq_some_iff.1 HR1.out).1
  have hr2 := heap_alloc_new W1 (.cells A 96)
  have hb2 := (Below.refl W1.heap.size W1).alloc (Nat.le_refl _) (.cells A 96)
  have hzn := heap_alloc_new W1 (.cells Z 96)
  have HR2 := hid hr2
  have HZN := hid hzn
  have HR1b := hid (blk8 HR1.out hb2)
  have hq2 := blk8 HQ1.out hb2
  have HP0 : Hid ((W1.alloc (.cells A 96)).cell? ⟨p, 0, none⟩ = some (.slice a m.cells.length c)) := (cell_of_row _ _ 0 _ _ _ hq2).trans HA1.out
  have HB2 := hid (HB1.out.trans (hb2.mono HB1.out.size))
  clear hr2 hb2 HR1 HB1 hW1 hzn hq2
  go_upto_region 2 with (first | (show Go.wpList _ _ _ (Go.Oper.mk _ (Go.Op.load 96 _) _ _ _ _ :: _) _ _; refine wpList_ld30 rfl _ rfl p (by simp [go_sem]) A HQ1.out hsz ?_) | (show Go.wpList _ _ _ (Go.Oper.mk _ (Go.Op.store 96 _ _) _ _ _ _ :: _) _ _; refine wpList_st30 rfl _ _ rfl W1.heap.size A Z (by simp [go_sem]) (by simp [go_sem]) HZN.out HZ0.out hsz hone ?_) | fail)
  rw [HNZ.out]
  generalize hW2 : W1.alloc (.cells A 96) = W2 at *
  have p0 := HP0.out
  clear HP0 HQ1 HZN HNZ hsz hone
  go_wp2_with fail
  refine (HCC.out W2 HB2.out).mono ?_
  rintro e w3 ⟨a', c', rfl, ho, hb3⟩
  have HO3 := hid ho
  have HB3 := hid (HB2.out.trans (hb3.mono HB2.out.size))
  have hr3 := blk8 HR2.out hb3
  have HR3 := hid hr3
  have HR1c := hid (blk8 HR1b.out hb3)
  have c0 := (cell_of_row _ _ 0 _ _ _ hr3).trans HA1.out
  have f0 := frozen_of_row _ _ 0 _ _ hr3
  have HS3 : Hid (W2.heap.size ≤ w3.heap.size ∧ W1.heap.size < W2.heap.size) := ⟨hb3.size, (Array.getElem?_eq_some_iff.1 HR2.out).1⟩
  clear ho hb3 hr3 p0 HB2 HR1b HCC HR2
  generalize hg3 : W1.heap.size = g3 at *
  go_upto_region 3 with fail
  have hr4 := heap_setCell_same w3 g3 0 _ _ (.slice a' m.cells.length c') HR3.out
  rw [((HA0.out (.slice a' m.cells.length c')).2)] at hr4
  have hr1d := (heap_setCell_other w3 ⟨g3, 0, none⟩ w.heap.size (.slice a' m.cells.length c') (by have := HW1.out; show w.heap.size ≠ g3; omega)).trans HR1c.out
  have HO4 : Hid (Own (w3.setCell ⟨g3, 0, none⟩ (.slice a' m.cells.length c')) W2.heap.size (.slice a' m.cells.length c') m.cells) := own_other HO3.out (fun g hg => heap_setCell_other _ _ _ _ (fun e => by have := (HO3.out.lt g hg).1; have := HS3.out; simp only at e; omega))
  have HB4 : Hid (Below w.heap.size w (w3.setCell ⟨g3, 0, none⟩ (.slice a' m.cells.length c'))) := HB3.out.setCell (by have := HW1.out; show w.heap.size ≤ g3; omega) _
  have HR4 := hid hr4
  have HR1d := hid hr1d
  clear hr4 hr1d c0 f0 HR3 HR1c HB3 HO3
  generalize w3.setCell ⟨g3, 0, none⟩ (.slice a' m.cells.length c') = W4 at *
  have HO5 : Hid (Own (W4.setRow w.heap.size (lineRR m (.slice a' m.cells.length c'))) w.heap.size (.slice a' m.cells.length c') m.cells) := own_mono (own_other HO4.out (fun g hg => setRow_other _ _ _ _ (by have := (HO4.out.lt g hg).1; have := HS3.out; have := HW1.out; omega))) (by have := HS3.out; have := HW1.out; omega)
  have HB5 : Hid (Below w.heap.size w (W4.setRow w.heap.size (lineRR m (.slice a' m.cells.length c')))) := below_setRow HB4.out (Nat.le_refl _) _
  have hr5 := setRow_heap W4 w.heap.size Z (lineRR m (.slice a' m.cells.length c')) _ _ HR1d.out
  have h2 := hone2.out a' c'
  have HLV := hid (lv30 hr5 h2.2)
  clear hr5
  obtain ⟨A2, hA2⟩ : ∃ A2, A2 = lineRR m (.slice a' m.cells.length c') := ⟨_, rfl⟩
  rw [← hA2] at HR4 HO5 HB5 h2 HLV
  have HA2 := hid hA2
  clear hA2 hone2 HA0
  obtain ⟨k1, k2⟩ := h2
  go_wp2_with (first | (show Go.wpList _ _ _ (Go.Oper.mk _ (Go.Op.load 96 _) _ _ _ _ :: _) _ _; refine wpList_ld30 rfl _ rfl g3 (by simp [go_sem]) A2 HR4.out k2 ?_) | (show Go.wpList _ _ _ (Go.Oper.mk _ (Go.Op.store 96 _ _) _ _ _ _ :: _) _ _; refine wpList_st30 rfl _ _ rfl w.heap.size A2 Z (by simp [go_sem]) (by simp [go_sem]) HR1d.out HZ0.out k2 k1 ?_) | fail)
  generalize W4.setRow w.heap.size A2 = W5 at *
  have hlv := HLV.out
  refine bodyPost_ret (v := .agg A2) (by simp [results, Try.results105, Act.put, asAddr, hlv]) rfl ⟨_, by rw [HA2.out], HO5.out, HB5.out⟩
end Go.Proofs.Ytcikofhbfncgdaa
