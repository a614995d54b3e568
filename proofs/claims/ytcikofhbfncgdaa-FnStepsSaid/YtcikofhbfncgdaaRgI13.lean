/-
  impl's StepRegs.
-/
import Derived.Test.YtcikofhbfncgdaaRgI10
import Derived.Test.YtcikofhbfncgdaaRgRep
import Derived.Test.YtcikofhbfncgdaaRgI8m
import Derived.Test.YtcikofhbfncgdaaStpM
namespace Go.Proofs.Ytcikofhbfncgdaa
open Go.RowKit
set_option linter.unusedVariables false

theorem newRunR_any (m : SM) (sv cv : Value) (w : World) (hs : RowV w sv m.stk) (hc : RowV w cv m.cells) (h24 : m.stk.length = 24) (hl2 : m.cells.length ≤ 1048576) :
    Calls Try.prog 68 #[machV m sv cv] w fun e w' => ∃ g, e = .returned (.pointer (some ⟨g, 0, none⟩)) ∧ RunJ [] w.heap.size w' g m ∧ Below w.heap.size w w' :=
  (newRegRun_any m sv cv w hs hc h24 hl2).mono fun e w' ⟨g, v, h1, h2, h3⟩ => ⟨g, h1, ⟨v, h2, fun x hx => by cases hx⟩, h3⟩
theorem imachineR_any (B p : Nat) (m : SM) (w : World) (h : RunJ [] B w p m) (hB : B ≤ w.heap.size) :
    Calls Try.prog 70 #[.pointer (some ⟨p, 0, none⟩)] w fun e w' => ∃ sv cv, e = .returned (machV m sv cv) ∧ Own w' B sv m.stk ∧ Own w' B cv m.cells ∧ (∀ g, sv.ownBlock = some g → cv.ownBlock ≠ some g) ∧ Below w.heap.size w w' := by
  obtain ⟨cv, h, -⟩ := h
  exact rmachine_any B p m cv w h hB
theorem hidKG {p : Prop} (h : p) : Hid p := h
attribute [local go_sem ↓] Go.wp_at_zero Go.wp_at_succ

set_option maxHeartbeats 6400000 in
set_option maxRecDepth 100000 in
theorem iStepR_any (a : Option Addr) (zs : List Int) (c : Nat) (m : SM) (sv cv : Value) (w : World) (hn : Nums w a zs) (hab : ∀ b off, a = some ⟨b, off, none⟩ → b < w.heap.size) (hl : zs.length ≤ 1048576) (hzc : zs.length ≤ c) (hs : RowV w sv m.stk) (hc : RowV w cv m.cells) (hl1 : m.stk.length ≤ 1048576) (hl2 : m.cells.length ≤ 1048576) :
    Calls Try.prog 19 #[.slice a zs.length c, machV m sv cv] w fun e w' => ResR w w' e (stepRC zs m) (stepRR zs m) := by
  have hX : Hid (∀ W, W = (w.alloc (.cells (lineS m sv cv) 28)).alloc (.cells zero8 30) →
      Below w.heap.size w W ∧ W.heap[w.heap.size]? = some (.cells (lineS m sv cv) 28 (0, 0)) ∧ W.heap[w.heap.size + 1]? = some (.cells zero8 30 (0, 0)) ∧ W.heap.size = w.heap.size + 2) := fun W e => by
    subst e
    have x1 := heap_alloc_new w (.cells (lineS m sv cv) 28)
    have y1 := (Below.refl w.heap.size w).alloc (Nat.le_refl _) (.cells (lineS m sv cv) 28)
    have s1 : (w.alloc (.cells (lineS m sv cv) 28)).heap.size = w.heap.size + 1 := by simp
    generalize w.alloc (.cells (lineS m sv cv) 28) = W1 at *
    have x2 := heap_alloc_new W1 (.cells zero8 30)
    have y2 := (Below.refl W1.heap.size W1).alloc (Nat.le_refl _) (.cells zero8 30)
    rw [s1] at x2
    exact ⟨y1.trans (y2.mono (by omega)), blk8 x1 y2, x2, by simp [s1]⟩
  have HCW : Hid (∀ W, Below w.heap.size w W → Calls Try.prog 66 #[.slice a zs.length c] W fun e w' => e = .returned (.int .i64 (fault zs)) ∧ Below W.heap.size W w') := fun W h => implFault_any a zs c W (by omega) (hn.below h)
  have HCF : Hid (∀ W, Below w.heap.size w W → Calls Try.prog 21 #[machV m sv cv] W fun e w' => e = .returned (.int .i64 (rmF m)) ∧ Below W.heap.size W w') := fun W h => irgFault_any m sv cv W (hs.below h) (hc.below h) hl1 hl2
  have HCN : Hid (rmF m = 0 → ∀ W, Below w.heap.size w W → Calls Try.prog 68 #[machV m sv cv] W fun e w' => ∃ g, e = .returned (.pointer (some ⟨g, 0, none⟩)) ∧ RunJ [] W.heap.size w' g m ∧ Below W.heap.size W w') := fun h0 W h => newRunR_any m sv cv W (hs.below h) (hc.below h) (rgood_of h0).rl hl2
  have HCS : Hid (fault zs = 0 → rmF m = 0 → ∀ (B g : Nat) (W : World), Below w.heap.size w W → w.heap.size ≤ B → RunJ [] B W g m → Calls Try.prog 74 #[.pointer (some ⟨g, 0, none⟩), .slice a zs.length c] W fun e w' => e = .returned (.tuple #[]) ∧ RunJ [] B w' g (stepRL zs m) ∧ Below B W w') := fun h1 h2 B g W hb hB hr =>
    istepR_any B g m zs a c W hr (rgood_of h2) (hn.below hb) (fun b off hab2 => by have := hab b off hab2; omega) (fault_good h1).2 hzc (fault_good h1).1
  have HR : Hid ((fault zs ≠ 0 → stepRC zs m = fault zs ∧ stepRR zs m = zeroM) ∧ (fault zs = 0 → rmF m ≠ 0 → stepRC zs m = rmF m ∧ stepRR zs m = zeroM) ∧ (fault zs = 0 → rmF m = 0 → stepRC zs m = 0 ∧ stepRR zs m = stepRM zs m)) := by
    refine ⟨fun h => ?_, fun h h2 => ?_, fun h h2 => ?_⟩
    · have e : stepRC zs m = fault zs := if_neg h
      exact ⟨e, by unfold stepRR; rw [e, if_neg h]⟩
    · have e : stepRC zs m = rmF m := if_pos h
      exact ⟨e, by unfold stepRR; rw [e, if_neg h2]⟩
    · have e : stepRC zs m = 0 := (if_pos h).trans h2
      exact ⟨e, by unfold stepRR; rw [e, if_pos rfl]⟩
  have HM : Hid ((goes m = true → stepRM zs m = stepRL zs m) ∧ (goes m = false → stepRM zs m = m)) := ⟨fun h => if_pos h, fun h => if_neg (by rw [h]; simp)⟩
  have hsh : ∃ x y n, sv = .slice x n y := by obtain ⟨x, y, e, _⟩ := hs; exact ⟨x, y, _, e⟩
  have hch : ∃ x y n, cv = .slice x n y := by obtain ⟨x, y, e, _⟩ := hc; exact ⟨x, y, _, e⟩
  clear hn hl hs hc hl1 hl2 hab hzc
  obtain ⟨xs, ys, ns, rfl⟩ := hsh
  obtain ⟨xc, yc, nc, rfl⟩ := hch
  generalize fault zs = fz at *
  generalize rmF m = F at *
  generalize stepRM zs m = M at *
  generalize stepRL zs m = ML at *
  generalize stepRC zs m = C at *
  generalize stepRR zs m = R at *
  generalize zs.length = L at *
  go_enter Try.func19, Try.ntmps19
  go_upto_region 1 with fail
  have hXX := hX.out _ rfl
  generalize (w.alloc (.cells (lineS m (.slice xs ns ys) (.slice xc nc yc)) 28)).alloc (.cells zero8 30) = W at *
  obtain ⟨x1, x2, x3, x4⟩ := hXX
  have HB : Hid (Below w.heap.size w W) := x1
  have HA : Hid (W.heap[w.heap.size]? = _) := x2
  have HZ : Hid (W.heap[w.heap.size + 1]? = _) := x3
  have HS : Hid (W.heap.size = w.heap.size + 2) := x4
  clear x1 x2 x3 x4 hX
  go_upto_region 2 with (go_at_call 66; refine (HCW.out W HB.out).mono ?_; rintro e w1 ⟨rfl, hb1⟩)
  have HB1 : Hid (Below w.heap.size w w1) := HB.out.trans (hb1.mono HB.out.size)
  have HA1 : Hid (w1.heap[w.heap.size]? = some (.cells (lineS m (.slice xs ns ys) (.slice xc nc yc)) 28 (0, 0))) := blk8 HA.out hb1
  have HZ1 : Hid (w1.heap[w.heap.size + 1]? = some (.cells zero8 30 (0, 0))) := blk8 HZ.out hb1
  clear hb1 HCW HB HA HZ HS
  by_cases hz : fz = 0
  case neg =>
    have hR := HR.out.1 hz
    obtain ⟨rfl, rfl⟩ := hR
    have e0 : (C != 0) = true := by simpa using hz
    have HF : Hid _ := res_code w w1 (w.heap.size + 1) C (by omega) HB1.out
    have g0 := cell_of_row _ _ 0 _ _ _ HZ1.out
    have g1 := cell_of_row _ _ 1 _ _ _ HZ1.out
    have g2 := cell_of_row _ _ 2 _ _ _ HZ1.out
    have g3 := cell_of_row _ _ 3 _ _ _ HZ1.out
    have g4 := cell_of_row _ _ 4 _ _ _ HZ1.out
    have g5 := cell_of_row _ _ 5 _ _ _ HZ1.out
    have g6 := cell_of_row _ _ 6 _ _ _ HZ1.out
    have g7 := cell_of_row _ _ 7 _ _ _ HZ1.out
    have f0 := frozen_of_row _ _ 0 _ _ HZ1.out
    have f1 := frozen_of_row _ _ 1 _ _ HZ1.out
    have f2 := frozen_of_row _ _ 2 _ _ HZ1.out
    have f3 := frozen_of_row _ _ 3 _ _ HZ1.out
    have f4 := frozen_of_row _ _ 4 _ _ HZ1.out
    have f5 := frozen_of_row _ _ 5 _ _ HZ1.out
    have f6 := frozen_of_row _ _ 6 _ _ HZ1.out
    have f7 := frozen_of_row _ _ 7 _ _ HZ1.out
    simp at g0 g1 g2 g3 g4 g5 g6 g7
    clear hz HCF HCN HCS HR HM HA1 HZ1
    go_wp2_with fail
    refine bodyPost_ret (v := codeV C) (by simp [results, Try.results19, go_sem, g0, g1, g2, g3, g4, g5, g6, g7]; try rfl) rfl ?_
    exact HF.out
  subst hz
  obtain ⟨d0, d1, d2, d3, d4, d5, d6⟩ := RunT.cells HA1.out
  go_upto_region 5 with (go_at_call 21; refine (HCF.out w1 HB1.out).mono ?_; rintro e w2 ⟨rfl, hb2⟩)
  have HB2 : Hid (Below w.heap.size w w2) := HB1.out.trans (hb2.mono HB1.out.size)
  have HA2 : Hid (w2.heap[w.heap.size]? = some (.cells (lineS m (.slice xs ns ys) (.slice xc nc yc)) 28 (0, 0))) := blk8 HA1.out hb2
  have HZ2 : Hid (w2.heap[w.heap.size + 1]? = some (.cells zero8 30 (0, 0))) := blk8 HZ1.out hb2
  clear hb2 HCF HB1 HA1 HZ1 d0 d1 d2 d3 d4 d5 d6
  by_cases hf : F = 0
  case neg =>
    have hR := HR.out.2.1 (by first | rfl | trivial) hf
    obtain ⟨rfl, rfl⟩ := hR
    have e0 : (C != 0) = true := by simpa using hf
    have HF : Hid _ := res_code w w2 (w.heap.size + 1) C (by omega) HB2.out
    have g0 := cell_of_row _ _ 0 _ _ _ HZ2.out
    have g1 := cell_of_row _ _ 1 _ _ _ HZ2.out
    have g2 := cell_of_row _ _ 2 _ _ _ HZ2.out
    have g3 := cell_of_row _ _ 3 _ _ _ HZ2.out
    have g4 := cell_of_row _ _ 4 _ _ _ HZ2.out
    have g5 := cell_of_row _ _ 5 _ _ _ HZ2.out
    have g6 := cell_of_row _ _ 6 _ _ _ HZ2.out
    have g7 := cell_of_row _ _ 7 _ _ _ HZ2.out
    have f0 := frozen_of_row _ _ 0 _ _ HZ2.out
    have f1 := frozen_of_row _ _ 1 _ _ HZ2.out
    have f2 := frozen_of_row _ _ 2 _ _ HZ2.out
    have f3 := frozen_of_row _ _ 3 _ _ HZ2.out
    have f4 := frozen_of_row _ _ 4 _ _ HZ2.out
    have f5 := frozen_of_row _ _ 5 _ _ HZ2.out
    have f6 := frozen_of_row _ _ 6 _ _ HZ2.out
    have f7 := frozen_of_row _ _ 7 _ _ HZ2.out
    simp at g0 g1 g2 g3 g4 g5 g6 g7
    clear hf HCN HCS HR HM HA2 HZ2
    go_wp2_with fail
    refine bodyPost_ret (v := codeV C) (by simp [results, Try.results19, go_sem, g0, g1, g2, g3, g4, g5, g6, g7]; try rfl) rfl ?_
    exact HF.out
  subst hf
  have hR := HR.out.2.2 (by first | rfl | trivial) (by first | rfl | trivial)
  obtain ⟨rfl, rfl⟩ := hR
  obtain ⟨d0, d1, d2, d3, d4, d5, d6⟩ := RunT.cells HA2.out
  go_upto_region 8 with (go_at_call 68; refine (HCN.out (by first | rfl | trivial) w2 HB2.out).mono ?_; rintro e w3 ⟨g, rfl, hr3, hb3⟩)
  have HB3 : Hid (Below w.heap.size w w3) := HB2.out.trans (hb3.mono HB2.out.size)
  have HZ3 : Hid (w3.heap[w.heap.size + 1]? = some (.cells zero8 30 (0, 0))) := blk8 HZ2.out hb3
  have HR3 : Hid (RunJ [] w2.heap.size w3 g m) := hr3
  have HS3 : Hid (w2.heap.size ≤ w3.heap.size) := hb3.size
  have HS2 : Hid (w.heap.size + 1 < w2.heap.size) := (Array.getElem?_eq_some_iff.1 HZ2.out).1
  clear hr3 hb3 HCN HB2 HA2 HZ2 d0 d1 d2 d3 d4 d5 d6 HR
  cases hgo : goes m
  · have hRm := HM.out.2 hgo
    subst hRm
    obtain ⟨cv3, hrow, -⟩ := id HR3.out
    obtain ⟨-, v2, v3, v4, v5, v6⟩ := hrow.cells
    clear hrow
    go_wp2_with fail
    refine (pgoes_any R w3).mono ?_
    rintro e W5 ⟨rfl, hb5⟩
    rw [hgo]
    have HR5 := hidKG (HR3.out.kept hb5)
    have HB5 := hidKG (HB3.out.trans (hb5.mono HB3.out.size))
    have HZ5 := hidKG (blk8 HZ3.out hb5)
    have HS5 : Hid (w2.heap.size ≤ W5.heap.size) := by have := hb5.size; have := HS3.out; show _ ≤ _; omega
    clear HR3 HB3 HZ3 HCS HM hgo v2 v3 v4 v5 v6 hb5
    go_wp2_with fail
    refine (imachineR_any w2.heap.size g R W5 HR5.out HS5.out).mono ?_
    rintro e w6 ⟨s6, c6, rfl, o1, o2, o3, b6⟩
    obtain ⟨q1, t1, rfl⟩ := own_shape o1
    obtain ⟨q2, t2, rfl⟩ := own_shape o2
    have HB6 : Hid (Below w.heap.size w w6) := HB5.out.trans (b6.mono HB5.out.size)
    have HZ6 := blk8 HZ5.out b6
    have HF := hidKG (res_mach w w6 (w.heap.size + 1) w2.heap.size R _ _ (by omega) HS2.out o1 o2 o3 HB6.out)
    have g0 := cell_of_row _ _ 0 _ _ _ HZ6
    have g1 := cell_of_row _ _ 1 _ _ _ HZ6
    have g2 := cell_of_row _ _ 2 _ _ _ HZ6
    have g3 := cell_of_row _ _ 3 _ _ _ HZ6
    have g4 := cell_of_row _ _ 4 _ _ _ HZ6
    have g5 := cell_of_row _ _ 5 _ _ _ HZ6
    have g6 := cell_of_row _ _ 6 _ _ _ HZ6
    have g7 := cell_of_row _ _ 7 _ _ _ HZ6
    have f0 := frozen_of_row _ _ 0 _ _ HZ6
    have f1 := frozen_of_row _ _ 1 _ _ HZ6
    have f2 := frozen_of_row _ _ 2 _ _ HZ6
    have f3 := frozen_of_row _ _ 3 _ _ HZ6
    have f4 := frozen_of_row _ _ 4 _ _ HZ6
    have f5 := frozen_of_row _ _ 5 _ _ HZ6
    have f6 := frozen_of_row _ _ 6 _ _ HZ6
    have f7 := frozen_of_row _ _ 7 _ _ HZ6
    simp at g0 g1 g2 g3 g4 g5 g6 g7
    clear HB5 HZ5 HR5 o1 o2 o3 b6 HZ6 HB6 HS2
    generalize hq1 : R.stk.length = l1 at *
    generalize hq2 : R.cells.length = l2 at *
    generalize hdn : R.done = dn at *
    go_wp2_with fail
    refine bodyPost_ret (v := .agg #[.int .i64 0, .int .i64 R.pc, .slice q1 l1 t1, .slice q2 l2 t2, .int .i64 R.sig, .int .i64 R.used, .int .i64 R.trap, .bool dn]) (by simp [results, Try.results19, go_sem, g0, g1, g2, g3, g4, g5, g6, g7]; try rfl) rfl ?_
    subst hdn
    exact HF.out
  · have hRm := HM.out.1 hgo
    subst hRm
    obtain ⟨cv3, hrow, -⟩ := id HR3.out
    obtain ⟨-, v2, v3, v4, v5, v6⟩ := hrow.cells
    clear hrow
    go_wp2_with fail
    refine (pgoes_any m w3).mono ?_
    rintro e W4 ⟨rfl, hb4⟩
    rw [hgo]
    have HR4 := hidKG (HR3.out.kept hb4)
    have HB4 := hidKG (HB3.out.trans (hb4.mono HB3.out.size))
    have HZ4 := hidKG (blk8 HZ3.out hb4)
    have HS4 : Hid (w2.heap.size ≤ W4.heap.size) := by have := hb4.size; have := HS3.out; show _ ≤ _; omega
    clear HR3 HB3 HZ3 HS3 v2 v3 v4 v5 v6 hb4
    go_wp2_with fail
    have hle : w.heap.size ≤ w2.heap.size := by have := HS2.out; omega
    have hcs := HCS.out (by first | rfl | trivial) (by first | rfl | trivial) w2.heap.size g W4 HB4.out hle HR4.out
    refine hcs.mono ?_
    clear hcs
    rintro e W5 ⟨rfl, hr5, hb5⟩
    have HR5 := hidKG hr5
    have HS5 : Hid (w2.heap.size ≤ W5.heap.size) := by have := hb5.size; have := HS4.out; show _ ≤ _; omega
    have HB5 : Hid (Below w.heap.size w W5) := HB4.out.trans (hb5.mono (by have := HS2.out; omega))
    have HZ5 : Hid (W5.heap[w.heap.size + 1]? = some (.cells zero8 30 (0, 0))) := (hb5.block _ HS2.out).trans HZ4.out
    clear HR4 HB4 HZ4 HCS HM hgo hr5 hb5
    go_wp2_with fail
    refine (imachineR_any w2.heap.size g R W5 HR5.out HS5.out).mono ?_
    rintro e w6 ⟨s6, c6, rfl, o1, o2, o3, b6⟩
    obtain ⟨q1, t1, rfl⟩ := own_shape o1
    obtain ⟨q2, t2, rfl⟩ := own_shape o2
    have HB6 : Hid (Below w.heap.size w w6) := HB5.out.trans (b6.mono HB5.out.size)
    have HZ6 := blk8 HZ5.out b6
    have HF := hidKG (res_mach w w6 (w.heap.size + 1) w2.heap.size R _ _ (by omega) HS2.out o1 o2 o3 HB6.out)
    have g0 := cell_of_row _ _ 0 _ _ _ HZ6
    have g1 := cell_of_row _ _ 1 _ _ _ HZ6
    have g2 := cell_of_row _ _ 2 _ _ _ HZ6
    have g3 := cell_of_row _ _ 3 _ _ _ HZ6
    have g4 := cell_of_row _ _ 4 _ _ _ HZ6
    have g5 := cell_of_row _ _ 5 _ _ _ HZ6
    have g6 := cell_of_row _ _ 6 _ _ _ HZ6
    have g7 := cell_of_row _ _ 7 _ _ _ HZ6
    have f0 := frozen_of_row _ _ 0 _ _ HZ6
    have f1 := frozen_of_row _ _ 1 _ _ HZ6
    have f2 := frozen_of_row _ _ 2 _ _ HZ6
    have f3 := frozen_of_row _ _ 3 _ _ HZ6
    have f4 := frozen_of_row _ _ 4 _ _ HZ6
    have f5 := frozen_of_row _ _ 5 _ _ HZ6
    have f6 := frozen_of_row _ _ 6 _ _ HZ6
    have f7 := frozen_of_row _ _ 7 _ _ HZ6
    simp at g0 g1 g2 g3 g4 g5 g6 g7
    clear HB5 HZ5 HR5 o1 o2 o3 b6 HZ6 HB6 HS2
    generalize hq1 : R.stk.length = l1 at *
    generalize hq2 : R.cells.length = l2 at *
    generalize hdn : R.done = dn at *
    go_wp2_with fail
    refine bodyPost_ret (v := .agg #[.int .i64 0, .int .i64 R.pc, .slice q1 l1 t1, .slice q2 l2 t2, .int .i64 R.sig, .int .i64 R.used, .int .i64 R.trap, .bool dn]) (by simp [results, Try.results19, go_sem, g0, g1, g2, g3, g4, g5, g6, g7]; try rfl) rfl ?_
    subst hdn
    exact HF.out
end Go.Proofs.Ytcikofhbfncgdaa
