/-
  spec's l8Step of a machine that goes on.
-/
import Derived.Test.YtcikofhbfncgdaaRgS3
import Derived.Test.YtcikofhbfncgdaaRgS3
import Derived.Test.YtcikofhbfncgdaaRgLw
namespace Go.Proofs.Ytcikofhbfncgdaa
open Go.RowKit
set_option linter.unusedVariables false
attribute [local go_sem ↓] Go.wp_at_zero Go.wp_at_succ

set_option maxHeartbeats 6400000 in
set_option maxRecDepth 100000 in
theorem lstep_goG (B0 B k : Nat) (m R : SM) (sv cv : Value) (a : Option Addr) (zs : List Int) (c : Nat) (w : World) (hs : Own w B0 sv m.stk) (hc : Own w B0 cv m.cells) (hB : B ≤ w.heap.size) (hgo : goes m = true) (hg : RGood m) (hk : m.pc = k) (hz : Nums w a zs) (hl : zs.length ≤ 400) (hzc : zs.length ≤ c) (hw : wordsB zs = true)
    (hR1 : rdyR zs k m = false → R = trp (usedM m) 1)
    (hR2 : rdyR zs k m = true → tlC zs k m ≠ 0 → R = trp (usedM m) (tlC zs k m))
    (hR3 : rdyR zs k m = true → tlC zs k m = 0 → R = tlD zs k (usedM m)) :
    Calls Try.prog 91 #[.slice a zs.length c, machVs m sv cv] w fun e w' => MachR B w w' e R := by
  obtain ⟨a1, k1, rfl⟩ := own_shape hs
  obtain ⟨a2, k2, rfl⟩ := own_shape hc
  have hX : Hid (∀ W, W = (w.alloc (.cells (lineS m (.slice a1 m.stk.length k1) (.slice a2 m.cells.length k2)) 28)).alloc (.cells zeroLine 28) →
      Below w.heap.size w W ∧ W.heap[w.heap.size]? = some (.cells (lineS m (.slice a1 m.stk.length k1) (.slice a2 m.cells.length k2)) 28 (0, 0)) ∧ W.heap[w.heap.size + 1]? = some (.cells zeroLine 28 (0, 0)) ∧ W.heap.size = w.heap.size + 2) := fun W e => by
    subst e
    have x1 := heap_alloc_new w (.cells (lineS m (.slice a1 m.stk.length k1) (.slice a2 m.cells.length k2)) 28)
    have y1 := (Below.refl w.heap.size w).alloc (Nat.le_refl _) (.cells (lineS m (.slice a1 m.stk.length k1) (.slice a2 m.cells.length k2)) 28)
    have s1 : (w.alloc (.cells (lineS m (.slice a1 m.stk.length k1) (.slice a2 m.cells.length k2)) 28)).heap.size = w.heap.size + 1 := by simp
    generalize w.alloc (.cells (lineS m (.slice a1 m.stk.length k1) (.slice a2 m.cells.length k2)) 28) = W1 at *
    have x2 := heap_alloc_new W1 (.cells zeroLine 28)
    have y2 := (Below.refl W1.heap.size W1).alloc (Nat.le_refl _) (.cells zeroLine 28)
    rw [s1] at x2
    exact ⟨y1.trans (y2.mono (by omega)), blk8 x1 y2, x2, by simp [s1]⟩
  have HCPY : Hid (∀ W, Below w.heap.size w W → Calls Try.prog 92 #[machVs m (.slice a1 m.stk.length k1) (.slice a2 m.cells.length k2)] W fun e w' => ∃ a' k' b' j', e = .returned (machVs m (.slice a' m.stk.length k') (.slice b' m.cells.length j')) ∧ Own w' W.heap.size (.slice a' m.stk.length k') m.stk ∧ Own w' W.heap.size (.slice b' m.cells.length j') m.cells ∧ (∀ g, (Value.slice a' m.stk.length k').ownBlock = some g → (Value.slice b' m.cells.length j').ownBlock ≠ some g) ∧ Below W.heap.size W w') := fun W hb => by
    refine (l10Copy_any m _ _ W ((own_row hs).below hb) ((own_row hc).below hb) (by have := hg.rl; omega) (by have := hg.cl; omega)).mono ?_
    rintro e w' ⟨s', c', h1, h2, h3, h4, h5⟩
    obtain ⟨a', k', rfl⟩ := own_shape h2
    obtain ⟨b', j', rfl⟩ := own_shape h3
    exact ⟨a', k', b', j', h1, h2, h3, h4, h5⟩
  have HMIN : Hid (∀ W, Calls Try.prog 121 #[.int .i64 1000000, .int .i64 (m.used + 1)] W fun e w' => e = .returned (.int .i64 (usedM m).used) ∧ w' = W) := fun W => lmin_usedG (m.used + 1) W (by have := hg.used0; omega) (by have := hg.used1; omega)
  have HRDY : Hid (∀ W, Below w.heap.size w W → W.heap[w.heap.size]? = some (.cells (lineS m (.slice a1 m.stk.length k1) (.slice a2 m.cells.length k2)) 28 (0, 0)) → Calls Try.prog 122 #[.slice a zs.length c, .pointer (some ⟨w.heap.size, 0, none⟩)] W fun e w' => e = .returned (.bool (rdyR zs k m)) ∧ Below W.heap.size W w') := fun W hb hr => l10Ready_any a zs c k w.heap.size m _ _ W (hz.below hb) hl hw hr hk ((own_row hs).below hb) ((own_row hc).below hb) hg.cl
  have HDO : Hid (rdyR zs k m = true → ∀ (Bq p : Nat) (W : World), w.heap.size ≤ Bq → Below w.heap.size w W → RunT Bq W p (usedM m) → Calls Try.prog 123 #[.slice a zs.length c, .pointer (some ⟨p, 0, none⟩)] W fun e w' => e = .returned (.int .i64 (tlC zs k m)) ∧ (tlC zs k m = 0 → RunT Bq w' p (tlD zs k (usedM m))) ∧ Below Bq W w') := fun hr Bq p W hq hb hrs => by
    have hlt := (rdyR_yes hk hr).1
    refine l10Do_any Bq p k c a zs (usedM m) W hrs (usedR_good hg) hk (hz.below hb) (fun b off hab => ?_) hl hzc hw hr
    rcases hz with hz | ⟨b2, o2, h2, hcc⟩
    · rw [hz] at hlt; simp at hlt
    · have h3 := hab.symm.trans h2
      have h4 := Option.some.inj h3
      have h5 := World.block_lt_of_cell? _ _ (hcc k hlt)
      have h6 : b = b2 := congrArg Addr.block h4
      show b < Bq
      have h7 : b2 < w.heap.size := h5
      omega
  have u0 := hg.used0
  have u1 := hg.used1
  have hGT : m.done = false ∧ m.trap = 0 := by
    unfold goes at hgo
    simpa using hgo
  have HRR : Hid ((rdyR zs k m = false → R = trp (usedM m) 1) ∧ (rdyR zs k m = true → tlC zs k m ≠ 0 → R = trp (usedM m) (tlC zs k m)) ∧ (rdyR zs k m = true → tlC zs k m = 0 → R = tlD zs k (usedM m))) := ⟨hR1, hR2, hR3⟩
  clear hs hc hgo hg hk hz hl hzc hw hR1 hR2 hR3
  generalize tlC zs k m = C at *
  generalize tlD zs k (usedM m) = DM at *
  generalize rdyR zs k m = rd at *
  generalize zs.length = nz at *
  generalize hL1 : m.stk.length = l1 at *
  generalize hL2 : m.cells.length = l2 at *
  have HGT : Hid (m.done = false ∧ m.trap = 0) := hGT
  clear hGT
  go_enter Try.func91, Try.ntmps91
  go_upto_region 1 with fail
  have hXX := hX.out _ rfl
  generalize (w.alloc (.cells (lineS m (.slice a1 l1 k1) (.slice a2 l2 k2)) 28)).alloc (.cells zeroLine 28) = W at *
  obtain ⟨x1, x2, x3, x4⟩ := hXX
  have HB : Hid (Below w.heap.size w W) := x1
  have HA : Hid (W.heap[w.heap.size]? = some (.cells (lineS m (.slice a1 l1 k1) (.slice a2 l2 k2)) 28 (0, 0))) := x2
  have HZ : Hid (W.heap[w.heap.size + 1]? = some (.cells zeroLine 28 (0, 0))) := x3
  have HS : Hid (W.heap.size = w.heap.size + 2) := x4
  obtain ⟨d0, d1, d2, d3, d4, d5, d6⟩ := RunT.cells x2
  clear x1 x2 x3 x4 hX
  obtain ⟨hdn, htr⟩ := HGT.out
  have ht2 : (m.trap != 0) = false := by rw [htr]; rfl
  clear htr
  go_upto_region 3 with fail
  clear hdn ht2
  go_upto_region 4 with (go_at_call 121; refine (HMIN.out _).mono ?_; rintro e w3 ⟨rfl, hw3⟩; have hw4 := hw3.symm; clear hw3; subst hw4)
  go_upto_region 5 with (go_at_call 92; refine (HCPY.out _ HB.out).mono ?_; rintro e w4 ⟨s6, n6, c6, j6, rfl, ho1, ho2, ho3, hb4⟩)
  have y6 := heap_alloc_new w4 (.cells (lineS m (.slice s6 l1 n6) (.slice c6 l2 j6)) 28)
  have z6 := (Below.refl w4.heap.size w4).alloc (Nat.le_refl _) (.cells (lineS m (.slice s6 l1 n6) (.slice c6 l2 j6)) 28)
  have hz4 := hb4.size
  have HR6 : Hid (RunT W.heap.size (w4.alloc (.cells (lineS m (.slice s6 l1 n6) (.slice c6 l2 j6)) 28)) w4.heap.size m) := ⟨_, _, y6, ho1.alloc _, ho2.alloc _, hz4, fun e => by have := (ho1.lt _ e).2; omega, fun e => by have := (ho2.lt _ e).2; omega, ho3⟩
  have HB6 : Hid (Below W.heap.size W (w4.alloc (.cells (lineS m (.slice s6 l1 n6) (.slice c6 l2 j6)) 28))) := hb4.trans (z6.mono hz4)
  have HQ6 : Hid (W.heap.size ≤ w4.heap.size) := hz4
  clear z6 ho1 ho2 ho3 hb4 hz4 d0 d1 d2 d3 d4 d5 d6
  generalize w4.alloc (.cells (lineS m (.slice s6 l1 n6) (.slice c6 l2 j6)) 28) = W6 at *
  generalize w4.heap.size = q6 at *
  have u4 := (RunT.cells y6).2.2.2.2.1
  have uf := frozen_of_row _ _ 4 _ _ y6
  clear y6
  go_upto_region 6 with fail
  have HR7 : Hid (RunT W.heap.size (W6.setCell ⟨q6, 4, none⟩ (.int .i64 (usedM m).used)) q6 (usedM m)) := HR6.out.fld (m' := usedM m) 4 _ (fun _ _ => rfl) rfl rfl
  have HB7 : Hid (Below W.heap.size W (W6.setCell ⟨q6, 4, none⟩ (.int .i64 (usedM m).used))) := HB6.out.setCell HQ6.out _
  clear HR6 HB6 u4 uf
  generalize W6.setCell ⟨q6, 4, none⟩ (.int .i64 (usedM m).used) = W7 at *
  have HA7 : Hid (W7.heap[w.heap.size]? = some (.cells (lineS m (.slice a1 l1 k1) (.slice a2 l2 k2)) 28 (0, 0))) := blk8 HA.out HB7.out
  have HZ7 : Hid (W7.heap[w.heap.size + 1]? = some (.cells zeroLine 28 (0, 0))) := blk8 HZ.out HB7.out
  have HBW7 : Hid (Below w.heap.size w W7) := HB.out.trans (HB7.out.mono (by have := HS.out; omega))
  have HC7 : Hid (Calls Try.prog 122 #[.slice a nz c, .pointer (some ⟨w.heap.size, 0, none⟩)] W7 fun e w' => e = .returned (.bool rd) ∧ Below W7.heap.size W7 w') := HRDY.out W7 HBW7.out HA7.out
  clear HRDY HMIN HA HZ HB7 HB
  cases rd
  · have hRR := HRR.out.1 (by first | rfl | trivial)
    have HRQ : Hid (R = trp (usedM m) 1) := hRR
    clear HRR hRR HDO HCPY
    go_upto_region 7 with (go_at_call 122; refine HC7.out.mono ?_; rintro e w8 ⟨rfl, hb8⟩)
    have HR8 : Hid (RunT W.heap.size w8 q6 (usedM m)) := HR7.out.kept hb8
    have HZ8 : Hid (w8.heap[w.heap.size + 1]? = some (.cells zeroLine 28 (0, 0))) := blk8 HZ7.out hb8
    have HB8 : Hid (Below w.heap.size w w8) := HBW7.out.trans (hb8.mono HBW7.out.size)
    obtain ⟨se8, ce8, hrow8, _⟩ := id HR8.out
    have v5 := (RunT.cells hrow8).2.2.2.2.2.1
    have vf := frozen_of_row _ _ 5 _ _ hrow8
    clear hb8 hrow8 HR7 HZ7 HBW7 HC7 HA7
    go_upto_region 8 with fail
    have HRZ : Hid (RunT W.heap.size (w8.setCell ⟨q6, 5, none⟩ (.int .i64 1)) q6 R) := by
      unfold Hid; rw [HRQ.out]; exact HR8.out.fld (m' := trp (usedM m) 1) 5 _ (fun _ _ => rfl) rfl rfl
    have HZR : Hid ((w8.setCell ⟨q6, 5, none⟩ (.int .i64 1)).heap[w.heap.size + 1]? = some (.cells zeroLine 28 (0, 0))) := (heap_setCell_other w8 _ (w.heap.size + 1) _ (by have := HQ6.out; have := HS.out; show w.heap.size + 1 ≠ q6; omega)).trans HZ8.out
    have HBZ : Hid (Below w.heap.size w (w8.setCell ⟨q6, 5, none⟩ (.int .i64 1))) := HB8.out.setCell (by have := HQ6.out; have := HS.out; show w.heap.size ≤ q6; omega) _
    have HBq : Hid (w.heap.size + 2 ≤ W.heap.size) := by have := HS.out; show _ ≤ _; omega
    clear HR8 HZ8 HB8 v5 vf
    generalize w8.setCell ⟨q6, 5, none⟩ (.int .i64 1) = Z at *
    obtain ⟨se, ce, hrow, hmem⟩ := id HRZ.out
    obtain ⟨ae, ke, rfl⟩ := own_shape hmem.ss
    obtain ⟨be, je, rfl⟩ := own_shape hmem.cs
    obtain ⟨e0, e1, e2, e3, e4, e5, e6⟩ := RunT.cells hrow
    have g0 := cell_of_row _ _ 0 _ _ _ HZR.out
    have g1 := cell_of_row _ _ 1 _ _ _ HZR.out
    have g2 := cell_of_row _ _ 2 _ _ _ HZR.out
    have g3 := cell_of_row _ _ 3 _ _ _ HZR.out
    have g4 := cell_of_row _ _ 4 _ _ _ HZR.out
    have g5 := cell_of_row _ _ 5 _ _ _ HZR.out
    have g6 := cell_of_row _ _ 6 _ _ _ HZR.out
    have f0 := frozen_of_row _ _ 0 _ _ HZR.out
    have f1 := frozen_of_row _ _ 1 _ _ HZR.out
    have f2 := frozen_of_row _ _ 2 _ _ HZR.out
    have f3 := frozen_of_row _ _ 3 _ _ HZR.out
    have f4 := frozen_of_row _ _ 4 _ _ HZR.out
    have f5 := frozen_of_row _ _ 5 _ _ HZR.out
    have f6 := frozen_of_row _ _ 6 _ _ HZR.out
    simp at g0 g1 g2 g3 g4 g5 g6
    have HE : Hid _ := fill7 (w.heap.size + 1) Z R (.slice ae R.stk.length ke) (.slice be R.cells.length je)
    have HF : Hid (MachR B w (((((((Z.setCell ⟨w.heap.size + 1, 0, none⟩ (.int .i64 R.pc)).setCell ⟨w.heap.size + 1, 1, none⟩ (.slice ae R.stk.length ke)).setCell ⟨w.heap.size + 1, 2, none⟩ (.slice be R.cells.length je)).setCell ⟨w.heap.size + 1, 3, none⟩ (.int .i64 R.sig)).setCell ⟨w.heap.size + 1, 4, none⟩ (.int .i64 R.used)).setCell ⟨w.heap.size + 1, 5, none⟩ (.int .i64 R.trap)).setCell ⟨w.heap.size + 1, 6, none⟩ (.bool R.done)) (.returned (machVs R (.slice ae R.stk.length ke) (.slice be R.cells.length je))) R) :=
      ⟨_, _, rfl, own_mono (own_sole hmem.ss HE.out (fun e => by have := (hmem.ss.lt _ e).1; have := HBq.out; omega)) (by have := HBq.out; omega), own_mono (own_sole hmem.cs HE.out (fun e => by have := (hmem.cs.lt _ e).1; have := HBq.out; omega)) (by have := HBq.out; omega), hmem.d3, HBZ.out.trans (HE.out.bel.mono (by omega))⟩
    clear HE hrow hmem HRZ HZR HBZ HBq
    generalize R.stk.length = le at *
    generalize R.cells.length = he at *
    go_wp2_with fail
    refine bodyPost_ret (v := .agg #[.int .i64 R.pc, .slice ae le ke, .slice be he je, .int .i64 R.sig, .int .i64 R.used, .int .i64 R.trap, .bool R.done]) (by simp [results, Try.results91, go_sem, g0, g1, g2, g3, g4, g5, g6]) rfl ?_
    exact HF.out
  · go_upto_region 9 with (go_at_call 122; refine HC7.out.mono ?_; rintro e w8 ⟨rfl, hb8⟩)
    have HR8 : Hid (RunT W.heap.size w8 q6 (usedM m)) := HR7.out.kept hb8
    have HZ8 : Hid (w8.heap[w.heap.size + 1]? = some (.cells zeroLine 28 (0, 0))) := blk8 HZ7.out hb8
    have HA8 := blk8 HA7.out hb8
    have HB8 : Hid (Below w.heap.size w w8) := HBW7.out.trans (hb8.mono HBW7.out.size)
    have HS8 : Hid (W.heap.size ≤ w8.heap.size) := by have := HR8.out.lt; show _ ≤ _; omega
    obtain ⟨d0, d1, d2, d3, d4, d5, d6⟩ := RunT.cells HA8
    clear hb8 HR7 HZ7 HBW7 HC7 HA7 HA8
    go_upto_region 10 with (go_at_call 92; refine (HCPY.out _ HB8.out).mono ?_; rintro e w9 ⟨s7, n7, c7, j7, rfl, ho1, ho2, ho3, hb9⟩)
    have y9 := heap_alloc_new w9 (.cells (lineS m (.slice s7 l1 n7) (.slice c7 l2 j7)) 28)
    have z9 := (Below.refl w9.heap.size w9).alloc (Nat.le_refl _) (.cells (lineS m (.slice s7 l1 n7) (.slice c7 l2 j7)) 28)
    have hz9 := hb9.size
    have HR9 : Hid (RunT w8.heap.size (w9.alloc (.cells (lineS m (.slice s7 l1 n7) (.slice c7 l2 j7)) 28)) w9.heap.size m) := ⟨_, _, y9, ho1.alloc _, ho2.alloc _, hz9, fun e => by have := (ho1.lt _ e).2; omega, fun e => by have := (ho2.lt _ e).2; omega, ho3⟩
    have HB9 : Hid (Below w8.heap.size w8 (w9.alloc (.cells (lineS m (.slice s7 l1 n7) (.slice c7 l2 j7)) 28))) := hb9.trans (z9.mono hz9)
    have HQ9 : Hid (w8.heap.size ≤ w9.heap.size) := hz9
    clear z9 ho1 ho2 ho3 hb9 hz9 d0 d1 d2 d3 d4 d5 d6
    generalize w9.alloc (.cells (lineS m (.slice s7 l1 n7) (.slice c7 l2 j7)) 28) = W9 at *
    generalize w9.heap.size = q9 at *
    have u4 := (RunT.cells y9).2.2.2.2.1
    have uf := frozen_of_row _ _ 4 _ _ y9
    clear y9
    go_upto_region 11 with fail
    have HR10 : Hid (RunT w8.heap.size (W9.setCell ⟨q9, 4, none⟩ (.int .i64 (usedM m).used)) q9 (usedM m)) := HR9.out.fld (m' := usedM m) 4 _ (fun _ _ => rfl) rfl rfl
    have HB10 : Hid (Below w8.heap.size w8 (W9.setCell ⟨q9, 4, none⟩ (.int .i64 (usedM m).used))) := HB9.out.setCell HQ9.out _
    clear HR9 HB9 u4 uf
    generalize W9.setCell ⟨q9, 4, none⟩ (.int .i64 (usedM m).used) = W10 at *
    have HBW10 : Hid (Below w.heap.size w W10) := HB8.out.trans (HB10.out.mono HB8.out.size)
    have HD10 : Hid (Calls Try.prog 123 #[.slice a nz c, .pointer (some ⟨q9, 0, none⟩)] W10 fun e w' => e = .returned (.int .i64 C) ∧ (C = 0 → RunT w8.heap.size w' q9 DM) ∧ Below w8.heap.size W10 w') := HDO.out (by first | rfl | trivial) w8.heap.size q9 W10 HB8.out.size HBW10.out HR10.out
    have HR11 : Hid (RunT W.heap.size W10 q6 (usedM m)) := HR8.out.kept HB10.out
    have HZ11 : Hid (W10.heap[w.heap.size + 1]? = some (.cells zeroLine 28 (0, 0))) := blk8 HZ8.out HB10.out
    have HS10 : Hid (q6 < w8.heap.size ∧ w.heap.size + 1 < w8.heap.size) := ⟨HR8.out.lt.2, (Array.getElem?_eq_some_iff.1 HZ8.out).1⟩
    clear HDO HCPY HR10
    by_cases hC : C = 0
    · have hRR := HRR.out.2.2 (by first | rfl | trivial) hC
      have HRQ : Hid (R = DM) := hRR
      have HC0 : Hid (C = 0) := hC
      have eC : (C != 0) = false := by rw [hC]; rfl
      clear HRR hRR hC
      go_upto_region 15 with (go_at_call 123; refine HD10.out.mono ?_; rintro e Z ⟨rfl, hrz, hbz⟩)
      have HRZ : Hid (RunT w8.heap.size Z q9 R) := by unfold Hid; rw [HRQ.out]; exact hrz HC0.out
      have HZR : Hid (Z.heap[w.heap.size + 1]? = some (.cells zeroLine 28 (0, 0))) := (hbz.block _ HS10.out.2).trans HZ11.out
      have HBZ : Hid (Below w.heap.size w Z) := HBW10.out.trans (hbz.mono HB8.out.size)
      have HBq : Hid (w.heap.size + 2 ≤ w8.heap.size) := by have := HS10.out; show _ ≤ _; omega
      clear hrz hbz HD10 HR11 HZ11 HBW10 HB10 HR8 HZ8
      obtain ⟨se, ce, hrow, hmem⟩ := id HRZ.out
      obtain ⟨ae, ke, rfl⟩ := own_shape hmem.ss
      obtain ⟨be, je, rfl⟩ := own_shape hmem.cs
      obtain ⟨e0, e1, e2, e3, e4, e5, e6⟩ := RunT.cells hrow
      have g0 := cell_of_row _ _ 0 _ _ _ HZR.out
      have g1 := cell_of_row _ _ 1 _ _ _ HZR.out
      have g2 := cell_of_row _ _ 2 _ _ _ HZR.out
      have g3 := cell_of_row _ _ 3 _ _ _ HZR.out
      have g4 := cell_of_row _ _ 4 _ _ _ HZR.out
      have g5 := cell_of_row _ _ 5 _ _ _ HZR.out
      have g6 := cell_of_row _ _ 6 _ _ _ HZR.out
      have f0 := frozen_of_row _ _ 0 _ _ HZR.out
      have f1 := frozen_of_row _ _ 1 _ _ HZR.out
      have f2 := frozen_of_row _ _ 2 _ _ HZR.out
      have f3 := frozen_of_row _ _ 3 _ _ HZR.out
      have f4 := frozen_of_row _ _ 4 _ _ HZR.out
      have f5 := frozen_of_row _ _ 5 _ _ HZR.out
      have f6 := frozen_of_row _ _ 6 _ _ HZR.out
      simp at g0 g1 g2 g3 g4 g5 g6
      have HE : Hid _ := fill7 (w.heap.size + 1) Z R (.slice ae R.stk.length ke) (.slice be R.cells.length je)
      have HF : Hid (MachR B w (((((((Z.setCell ⟨w.heap.size + 1, 0, none⟩ (.int .i64 R.pc)).setCell ⟨w.heap.size + 1, 1, none⟩ (.slice ae R.stk.length ke)).setCell ⟨w.heap.size + 1, 2, none⟩ (.slice be R.cells.length je)).setCell ⟨w.heap.size + 1, 3, none⟩ (.int .i64 R.sig)).setCell ⟨w.heap.size + 1, 4, none⟩ (.int .i64 R.used)).setCell ⟨w.heap.size + 1, 5, none⟩ (.int .i64 R.trap)).setCell ⟨w.heap.size + 1, 6, none⟩ (.bool R.done)) (.returned (machVs R (.slice ae R.stk.length ke) (.slice be R.cells.length je))) R) :=
        ⟨_, _, rfl, own_mono (own_sole hmem.ss HE.out (fun e => by have := (hmem.ss.lt _ e).1; have := HBq.out; omega)) (by have := HBq.out; omega), own_mono (own_sole hmem.cs HE.out (fun e => by have := (hmem.cs.lt _ e).1; have := HBq.out; omega)) (by have := HBq.out; omega), hmem.d3, HBZ.out.trans (HE.out.bel.mono (by omega))⟩
      clear HE hrow hmem HRZ HZR HBZ HBq
      generalize R.stk.length = le at *
      generalize R.cells.length = he at *
      go_wp2_with fail
      refine bodyPost_ret (v := .agg #[.int .i64 R.pc, .slice ae le ke, .slice be he je, .int .i64 R.sig, .int .i64 R.used, .int .i64 R.trap, .bool R.done]) (by simp [results, Try.results91, go_sem, g0, g1, g2, g3, g4, g5, g6]) rfl ?_
      exact HF.out
    · have hRR := HRR.out.2.1 (by first | rfl | trivial) hC
      have HRQ : Hid (R = trp (usedM m) C) := hRR
      have eC : (C != 0) = true := by simpa using hC
      clear HRR hRR hC
      go_upto_region 13 with (go_at_call 123; refine HD10.out.mono ?_; rintro e w12 ⟨rfl, _, hbz⟩)
      have HR12 : Hid (RunT W.heap.size w12 q6 (usedM m)) := by
        obtain ⟨s8, c8, hl8, hm8⟩ := HR8.out
        refine RunT.kept (w := w8) ⟨s8, c8, hl8, hm8⟩ ?_
        exact HB10.out.trans hbz
      have HZ12 : Hid (w12.heap[w.heap.size + 1]? = some (.cells zeroLine 28 (0, 0))) := (hbz.block _ HS10.out.2).trans HZ11.out
      have HBW12 : Hid (Below w.heap.size w w12) := HBW10.out.trans (hbz.mono HB8.out.size)
      obtain ⟨se8, ce8, hrow8, _⟩ := id HR12.out
      have v5 := (RunT.cells hrow8).2.2.2.2.2.1
      have vf := frozen_of_row _ _ 5 _ _ hrow8
      clear hrow8 hbz HD10 HR11 HZ11 HBW10 HB10 HR8 HZ8
      go_upto_region 14 with fail
      have HRZ : Hid (RunT W.heap.size (w12.setCell ⟨q6, 5, none⟩ (.int .i64 C)) q6 R) := by
        unfold Hid; rw [HRQ.out]; exact HR12.out.fld (m' := trp (usedM m) C) 5 _ (fun _ _ => rfl) rfl rfl
      have HZR : Hid ((w12.setCell ⟨q6, 5, none⟩ (.int .i64 C)).heap[w.heap.size + 1]? = some (.cells zeroLine 28 (0, 0))) := (heap_setCell_other w12 _ (w.heap.size + 1) _ (by have := HQ6.out; have := HS.out; show w.heap.size + 1 ≠ q6; omega)).trans HZ12.out
      have HBZ : Hid (Below w.heap.size w (w12.setCell ⟨q6, 5, none⟩ (.int .i64 C))) := HBW12.out.setCell (by have := HQ6.out; have := HS.out; show w.heap.size ≤ q6; omega) _
      have HBq : Hid (w.heap.size + 2 ≤ W.heap.size) := by have := HS.out; show _ ≤ _; omega
      clear HR12 HZ12 HBW12 v5 vf
      generalize w12.setCell ⟨q6, 5, none⟩ (.int .i64 C) = Z at *
      obtain ⟨se, ce, hrow, hmem⟩ := id HRZ.out
      obtain ⟨ae, ke, rfl⟩ := own_shape hmem.ss
      obtain ⟨be, je, rfl⟩ := own_shape hmem.cs
      obtain ⟨e0, e1, e2, e3, e4, e5, e6⟩ := RunT.cells hrow
      have g0 := cell_of_row _ _ 0 _ _ _ HZR.out
      have g1 := cell_of_row _ _ 1 _ _ _ HZR.out
      have g2 := cell_of_row _ _ 2 _ _ _ HZR.out
      have g3 := cell_of_row _ _ 3 _ _ _ HZR.out
      have g4 := cell_of_row _ _ 4 _ _ _ HZR.out
      have g5 := cell_of_row _ _ 5 _ _ _ HZR.out
      have g6 := cell_of_row _ _ 6 _ _ _ HZR.out
      have f0 := frozen_of_row _ _ 0 _ _ HZR.out
      have f1 := frozen_of_row _ _ 1 _ _ HZR.out
      have f2 := frozen_of_row _ _ 2 _ _ HZR.out
      have f3 := frozen_of_row _ _ 3 _ _ HZR.out
      have f4 := frozen_of_row _ _ 4 _ _ HZR.out
      have f5 := frozen_of_row _ _ 5 _ _ HZR.out
      have f6 := frozen_of_row _ _ 6 _ _ HZR.out
      simp at g0 g1 g2 g3 g4 g5 g6
      have HE : Hid _ := fill7 (w.heap.size + 1) Z R (.slice ae R.stk.length ke) (.slice be R.cells.length je)
      have HF : Hid (MachR B w (((((((Z.setCell ⟨w.heap.size + 1, 0, none⟩ (.int .i64 R.pc)).setCell ⟨w.heap.size + 1, 1, none⟩ (.slice ae R.stk.length ke)).setCell ⟨w.heap.size + 1, 2, none⟩ (.slice be R.cells.length je)).setCell ⟨w.heap.size + 1, 3, none⟩ (.int .i64 R.sig)).setCell ⟨w.heap.size + 1, 4, none⟩ (.int .i64 R.used)).setCell ⟨w.heap.size + 1, 5, none⟩ (.int .i64 R.trap)).setCell ⟨w.heap.size + 1, 6, none⟩ (.bool R.done)) (.returned (machVs R (.slice ae R.stk.length ke) (.slice be R.cells.length je))) R) :=
        ⟨_, _, rfl, own_mono (own_sole hmem.ss HE.out (fun e => by have := (hmem.ss.lt _ e).1; have := HBq.out; omega)) (by have := HBq.out; omega), own_mono (own_sole hmem.cs HE.out (fun e => by have := (hmem.cs.lt _ e).1; have := HBq.out; omega)) (by have := HBq.out; omega), hmem.d3, HBZ.out.trans (HE.out.bel.mono (by omega))⟩
      clear HE hrow hmem HRZ HZR HBZ HBq
      generalize R.stk.length = le at *
      generalize R.cells.length = he at *
      go_wp2_with fail
      refine bodyPost_ret (v := .agg #[.int .i64 R.pc, .slice ae le ke, .slice be he je, .int .i64 R.sig, .int .i64 R.used, .int .i64 R.trap, .bool R.done]) (by simp [results, Try.results91, go_sem, g0, g1, g2, g3, g4, g5, g6]) rfl ?_
      exact HF.out
end Go.Proofs.Ytcikofhbfncgdaa
