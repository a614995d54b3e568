/-
  spec's StepRegs.
-/
import Derived.Test.YtcikofhbfncgdaaWords0
import Derived.Test.YtcikofhbfncgdaaRgS7
import Derived.Test.YtcikofhbfncgdaaRgLw
namespace Go.Proofs.Ytcikofhbfncgdaa
open Go.RowKit
set_option maxHeartbeats 400000 in
theorem sFault_any (a : Option Addr) (zs : List Int) (cap : Nat) (w : World) (hlen : zs.length ≤ 9223372036854775807) (hn : Nums w a zs) :
    Calls Try.prog 26 #[.slice a zs.length cap] w fun e w' => e = .returned (.int .i64 (fault zs)) ∧ w' = w := by
  by_cases h4 : 400 < zs.length
  · rw [fault_many h4]
    go_enter Try.func26, Try.ntmps26
    go_wp2
    go_ret
    exact ⟨rfl, rfl⟩
  · go_enter Try.func26, Try.ntmps26
    go_wp2
    go_loop [3] (fun i => ∃ k : Nat, k ≤ zs.length ∧ i = .int .i64 k ∧ ∀ j, j < k → 0 ≤ zs.getD j 0 ∧ zs.getD j 0 ≤ 65535) (fun i => zs.length - (intOf i).toNat)
    case atStart => exact ⟨0, Nat.zero_le _, rfl, fun j hj => by omega⟩
    case round =>
      obtain ⟨k, hk, rfl, ho⟩ := hrel
      have HO : Hid _ := ho
      clear ho
      by_cases hlt : k < zs.length
      · rcases hn with hn | ⟨b, off, rfl, hc⟩
        · subst hn; simp at hlt
        have hcell := hc k hlt
        clear hc
        obtain ⟨z, hz⟩ : ∃ z, z = zs.getD k 0 := ⟨_, rfl⟩
        rw [← hz] at hcell
        have HZ : Hid _ := hz
        clear hz
        by_cases h5 : 0 ≤ z ∧ z ≤ 65535
        · obtain ⟨h5, h6⟩ := h5
          go_wp2_with (go_at_call 82; refine (l1Word_yes _ _ h5 h6).mono ?_; rintro e w' ⟨rfl, rfl⟩)
          go_round
          case rel =>
            refine ⟨k + 1, by omega, by go_num, fun j hj => ?_⟩
            by_cases hjk : j = k
            · subst hjk; rw [← HZ.out]; exact ⟨h5, h6⟩
            · exact HO.out j (by omega)
          case measure => simp [intOf]; omega
        · have h6 : z < 0 ∨ 65535 < z := by omega
          have H6 : Hid _ := h6
          clear h6 h5
          go_wp2_with (go_at_call 82; refine (l1Word_no _ _ H6.out).mono ?_; rintro e w' ⟨rfl, rfl⟩)
          go_ret
          have hf := fault_bad (zs := zs) (by omega) k hlt (by rw [← HZ.out]; exact H6.out)
          exact ⟨by rw [hf]; rfl, rfl⟩
      · have hk2 : k = zs.length := by omega
        subst hk2
        go_wp2
        go_ret
        have hf := fault_ok (zs := zs) (by omega) HO.out
        exact ⟨by rw [hf]; rfl, rfl⟩
end Go.Proofs.Ytcikofhbfncgdaa
namespace Go.Proofs.Ytcikofhbfncgdaa
open Go.RowKit
set_option linter.unusedVariables false
attribute [local go_sem ↓] Go.wp_at_zero Go.wp_at_succ

theorem l8Step_goG (B0 : Nat) (m : SM) (sv cv : Value) (a : Option Addr) (zs : List Int) (c : Nat) (w : World) (hs : Own w B0 sv m.stk) (hc : Own w B0 cv m.cells) (hgo : goes m = true) (hg : RGood m) (hz : Nums w a zs) (hl : zs.length ≤ 400) (hzc : zs.length ≤ c) (hw : wordsB zs = true) :
    Calls Try.prog 91 #[.slice a zs.length c, machVs m sv cv] w fun e w' => MachR w.heap.size w w' e (stepRL zs m) := by
  obtain ⟨k, hk⟩ := Int.eq_ofNat_of_zero_le hg.pc0
  refine lstep_goG B0 w.heap.size k m _ sv cv a zs c w hs hc (Nat.le_refl _) hgo hg hk hz hl hzc hw (fun h => rdyR_no hk h) (fun h h2 => ?_) (fun h h2 => ?_)
  · rw [(rdyR_yes hk h).2.2.2.2.2.2, if_pos h2]
  · rw [(rdyR_yes hk h).2.2.2.2.2.2, if_neg (by rw [h2]; simp)]

theorem l10Step_any (B : Nat) (m : SM) (sv cv : Value) (a : Option Addr) (zs : List Int) (c : Nat) (w : World) (hs : Own w B sv m.stk) (hc : Own w B cv m.cells) (hd : ∀ g, sv.ownBlock = some g → cv.ownBlock ≠ some g) (hB : B ≤ w.heap.size) (hg : RGood m) (hz : Nums w a zs) (hl : zs.length ≤ 400) (hzc : zs.length ≤ c) (hw : wordsB zs = true) :
    Calls Try.prog 91 #[.slice a zs.length c, machVs m sv cv] w fun e w' => MachR B w w' e (stepRM zs m) := by
  cases hgo : goes m
  · have e : stepRM zs m = m := by unfold stepRM; rw [if_neg (by rw [hgo]; simp)]
    rw [e]
    exact lstep_stopG B m sv cv a zs c w hs hc hd hB hgo
  · have e : stepRM zs m = stepRL zs m := by unfold stepRM; rw [if_pos hgo]
    rw [e]
    refine (l8Step_goG B m sv cv a zs c w hs hc hgo hg hz hl hzc hw).mono ?_
    rintro e w' ⟨s', c', h1, h2, h3, h4, h5⟩
    exact ⟨s', c', h1, own_mono h2 hB, own_mono h3 hB, h4, h5⟩

set_option maxHeartbeats 6400000 in
set_option maxRecDepth 100000 in
theorem sStep_anyG (a : Option Addr) (zs : List Int) (c : Nat) (m : SM) (sv cv : Value) (w : World) (hn : Nums w a zs) (hl : zs.length ≤ 1048576) (hzc : zs.length ≤ c) (hs : RowV w sv m.stk) (hc : RowV w cv m.cells) (hl1 : m.stk.length ≤ 1048576) (hl2 : m.cells.length ≤ 1048576) :
    Calls Try.prog 41 #[.slice a zs.length c, machVs m sv cv] w fun e w' => ResR w w' e (stepRC zs m) (stepRR zs m) := by
  have hX : Hid (∀ W, W = (w.alloc (.cells (lineS m sv cv) 28)).alloc (.cells zero8 30) →
      Below w.heap.size w W ∧ W.heap[w.heap.size]? = some (.cells (lineS m sv cv) 28 (0, 0)) ∧ W.heap[w.heap.size + 1]? = some (.cells zero8 30 (0, 0)) ∧ W.heap.size = w.heap.size + 2) := fun W e => by
    subst e
    have x1 := heap_alloc_new w (.cells (lineS m sv cv) 28)
    have y1 := (Below.refl w.heap.size w).alloc (Nat.le_refl _) (.cells (lineS m sv cv) 28)
    have s1 : (w.alloc (.cells (lineS m sv cv) 28)).heap.size = w.heap.size + 1 := by simp
    generalize w.alloc (.cells (lineS m sv cv) 28) = W1 at *
    have x2 := heap_alloc_new W1 (.cells zero8 30)
    have y2 := (Below.refl W1.heap.size W1).alloc (Nat.le_refl _) (.cells zero8 30)
    rw [s1] at x2
    exact ⟨y1.trans (y2.mono (by omega)), blk8 x1 y2, x2, by simp [s1]⟩
  have HCW : Hid (∀ W, Below w.heap.size w W → Calls Try.prog 26 #[.slice a zs.length c] W fun e w' => e = .returned (.int .i64 (fault zs)) ∧ w' = W) := fun W h => sFault_any a zs c W (by omega) (hn.below h)
  have HCF : Hid (∀ W, Below w.heap.size w W → W.heap[w.heap.size]? = some (.cells (lineS m sv cv) 28 (0, 0)) → Calls Try.prog 85 #[.pointer (some ⟨w.heap.size, 0, none⟩)] W fun e w' => e = .returned (.int .i64 (rmF m)) ∧ w' = W) := fun W h hr => l10Fault_any w.heap.size m sv cv W hr (hs.below h) (hc.below h) hl1 hl2
  have HCC : Hid (∀ W, Below w.heap.size w W → Calls Try.prog 92 #[machVs m sv cv] W fun e w' => ∃ sv' cv', e = .returned (machVs m sv' cv') ∧ Own w' W.heap.size sv' m.stk ∧ Own w' W.heap.size cv' m.cells ∧ (∀ g, sv'.ownBlock = some g → cv'.ownBlock ≠ some g) ∧ Below W.heap.size W w') := fun W h => l10Copy_any m sv cv W (hs.below h) (hc.below h) hl1 hl2
  have HCS : Hid (fault zs = 0 → rmF m = 0 → ∀ (B : Nat) (W : World) (s c2 : Value), Below w.heap.size w W → Own W B s m.stk → Own W B c2 m.cells → (∀ g, s.ownBlock = some g → c2.ownBlock ≠ some g) → B ≤ W.heap.size → Calls Try.prog 91 #[.slice a zs.length c, machVs m s c2] W fun e w' => ∃ x1 y1 x2 y2, e = .returned (machVs (stepRM zs m) (.slice x1 (stepRM zs m).stk.length y1) (.slice x2 (stepRM zs m).cells.length y2)) ∧ Own w' B (.slice x1 (stepRM zs m).stk.length y1) (stepRM zs m).stk ∧ Own w' B (.slice x2 (stepRM zs m).cells.length y2) (stepRM zs m).cells ∧ (∀ g, (Value.slice x1 (stepRM zs m).stk.length y1).ownBlock = some g → (Value.slice x2 (stepRM zs m).cells.length y2).ownBlock ≠ some g) ∧ Below W.heap.size W w') := fun h1 h2 B W s c2 hb o1 o2 o3 hB => by
    refine (l10Step_any B m s c2 a zs c W o1 o2 o3 hB (rgood_of h2) (hn.below hb) (fault_good h1).2 hzc (fault_good h1).1).mono ?_
    rintro e w' ⟨s3, c3, h3, h4, h5, h6, h7⟩
    obtain ⟨x1, y1, rfl⟩ := own_shape h4
    obtain ⟨x2, y2, rfl⟩ := own_shape h5
    exact ⟨x1, y1, x2, y2, h3, h4, h5, h6, h7⟩
  have HR : Hid ((fault zs ≠ 0 → stepRC zs m = fault zs ∧ stepRR zs m = zeroM) ∧ (fault zs = 0 → rmF m ≠ 0 → stepRC zs m = rmF m ∧ stepRR zs m = zeroM) ∧ (fault zs = 0 → rmF m = 0 → stepRC zs m = 0 ∧ stepRR zs m = stepRM zs m)) := by
    refine ⟨fun h => ?_, fun h h2 => ?_, fun h h2 => ?_⟩
    · have e : stepRC zs m = fault zs := if_neg h
      exact ⟨e, by unfold stepRR; rw [e, if_neg h]⟩
    · have e : stepRC zs m = rmF m := if_pos h
      exact ⟨e, by unfold stepRR; rw [e, if_neg h2]⟩
    · have e : stepRC zs m = 0 := (if_pos h).trans h2
      exact ⟨e, by unfold stepRR; rw [e, if_pos rfl]⟩
  have hsh : ∃ x y n, sv = .slice x n y := by obtain ⟨x, y, e, _⟩ := hs; exact ⟨x, y, _, e⟩
  have hch : ∃ x y n, cv = .slice x n y := by obtain ⟨x, y, e, _⟩ := hc; exact ⟨x, y, _, e⟩
  clear hn hl hzc hs hc hl1 hl2
  obtain ⟨xs, ys, ns, rfl⟩ := hsh
  obtain ⟨xc, yc, nc, rfl⟩ := hch
  generalize fault zs = fz at *
  generalize rmF m = F at *
  generalize stepRM zs m = M at *
  generalize stepRC zs m = C at *
  generalize stepRR zs m = R at *
  generalize zs.length = L at *
  generalize hM1 : M.stk.length = l1 at *
  generalize hM2 : M.cells.length = l2 at *
  go_enter Try.func41, Try.ntmps41
  go_upto_region 1 with fail
  have hXX := hX.out _ rfl
  generalize (w.alloc (.cells (lineS m (.slice xs ns ys) (.slice xc nc yc)) 28)).alloc (.cells zero8 30) = W at *
  obtain ⟨x1, x2, x3, x4⟩ := hXX
  have HB : Hid (Below w.heap.size w W) := x1
  have HA : Hid (W.heap[w.heap.size]? = _) := x2
  have HZ : Hid (W.heap[w.heap.size + 1]? = _) := x3
  have HS : Hid (W.heap.size = w.heap.size + 2) := x4
  clear x1 x2 x3 x4 hX
  have g0 := cell_of_row _ _ 0 _ _ _ HZ.out
  have g1 := cell_of_row _ _ 1 _ _ _ HZ.out
  have g2 := cell_of_row _ _ 2 _ _ _ HZ.out
  have g3 := cell_of_row _ _ 3 _ _ _ HZ.out
  have g4 := cell_of_row _ _ 4 _ _ _ HZ.out
  have g5 := cell_of_row _ _ 5 _ _ _ HZ.out
  have g6 := cell_of_row _ _ 6 _ _ _ HZ.out
  have g7 := cell_of_row _ _ 7 _ _ _ HZ.out
  have f0 := frozen_of_row _ _ 0 _ _ HZ.out
  have f1 := frozen_of_row _ _ 1 _ _ HZ.out
  have f2 := frozen_of_row _ _ 2 _ _ HZ.out
  have f3 := frozen_of_row _ _ 3 _ _ HZ.out
  have f4 := frozen_of_row _ _ 4 _ _ HZ.out
  have f5 := frozen_of_row _ _ 5 _ _ HZ.out
  have f6 := frozen_of_row _ _ 6 _ _ HZ.out
  have f7 := frozen_of_row _ _ 7 _ _ HZ.out
  simp at g0 g1 g2 g3 g4 g5 g6 g7
  by_cases hz : fz = 0
  case neg =>
    have hR := HR.out.1 hz
    obtain ⟨rfl, rfl⟩ := hR
    have e0 : (C != 0) = true := by simpa using hz
    have HF : Hid _ := res_code w W (w.heap.size + 1) C (by omega) HB.out
    clear hz HCF HCC HCS HR HA HZ
    go_wp2_with (go_at_call 26; refine (HCW.out W HB.out).mono ?_; rintro e w5 ⟨rfl, hw5⟩; have hw6 := hw5.symm; clear hw5; subst hw6)
    refine bodyPost_ret (v := codeV C) (by simp [results, Try.results41, go_sem, g0, g1, g2, g3, g4, g5, g6, g7]; try rfl) rfl ?_
    exact HF.out
  subst hz
  by_cases hf : F = 0
  case neg =>
    have hR := HR.out.2.1 (by first | rfl | trivial) hf
    obtain ⟨rfl, rfl⟩ := hR
    have e0 : (C != 0) = true := by simpa using hf
    have HF : Hid _ := res_code w W (w.heap.size + 1) C (by omega) HB.out
    clear hf HCC HCS HR HZ
    go_wp2_with (first | (go_at_call 26; refine (HCW.out W HB.out).mono ?_; rintro e w5 ⟨rfl, hw5⟩; have hw6 := hw5.symm; clear hw5; subst hw6) | (go_at_call 85; refine (HCF.out W HB.out HA.out).mono ?_; rintro e w5 ⟨rfl, hw5⟩; have hw6 := hw5.symm; clear hw5; subst hw6))
    refine bodyPost_ret (v := codeV C) (by simp [results, Try.results41, go_sem, g0, g1, g2, g3, g4, g5, g6, g7]; try rfl) rfl ?_
    exact HF.out
  subst hf
  have hR := HR.out.2.2 (by first | rfl | trivial) (by first | rfl | trivial)
  obtain ⟨rfl, rfl⟩ := hR
  obtain ⟨d0, d1, d2, d3, d4, d5, d6⟩ := RunT.cells HA.out
  clear g0 g1 g2 g3 g4 g5 g6 g7 f0 f1 f2 f3 f4 f5 f6 f7 HR
  go_upto_region 7 with (first | (go_at_call 26; refine (HCW.out W HB.out).mono ?_; rintro e w5 ⟨rfl, hw5⟩; have hw6 := hw5.symm; clear hw5; subst hw6) | (go_at_call 85; refine (HCF.out W HB.out HA.out).mono ?_; rintro e w5 ⟨rfl, hw5⟩; have hw6 := hw5.symm; clear hw5; subst hw6))
  clear HCW HCF
  go_wp2_with fail
  refine (HCC.out W HB.out).mono ?_
  rintro e w3 ⟨s3, c3, rfl, o1, o2, o3, b3⟩
  have HB3 : Hid (Below w.heap.size w w3) := HB.out.trans (b3.mono HB.out.size)
  have HO : Hid (Own w3 W.heap.size s3 m.stk ∧ Own w3 W.heap.size c3 m.cells ∧ (∀ g, s3.ownBlock = some g → c3.ownBlock ≠ some g) ∧ W.heap.size ≤ w3.heap.size) := ⟨o1, o2, o3, b3.size⟩
  have HZ3 : Hid _ := blk8 HZ.out b3
  have HWS : Hid (w.heap.size + 1 < W.heap.size) := by have := HS.out; show _ < _; omega
  clear HCC o1 o2 o3 b3 HZ HA d0 d1 d2 d3 d4 d5 d6 HB
  go_wp2_with fail
  refine (HCS.out (by first | rfl | trivial) (by first | rfl | trivial) W.heap.size w3 s3 c3 HB3.out HO.out.1 HO.out.2.1 HO.out.2.2.1 HO.out.2.2.2).mono ?_
  rintro e w4 ⟨x1, y1, x2, y2, rfl, o1, o2, o3, b4⟩
  have HB4 : Hid (Below w.heap.size w w4) := HB3.out.trans (b4.mono HB3.out.size)
  have HZ4 := blk8 HZ3.out b4
  have HF : Hid _ := res_mach w w4 (w.heap.size + 1) W.heap.size R _ _ (by omega) HWS.out (by rw [← hM1] at o1; exact o1) (by rw [← hM2] at o2; exact o2) (by rw [← hM1, ← hM2] at o3; exact o3) HB4.out
  have g0 := cell_of_row _ _ 0 _ _ _ HZ4
  have g1 := cell_of_row _ _ 1 _ _ _ HZ4
  have g2 := cell_of_row _ _ 2 _ _ _ HZ4
  have g3 := cell_of_row _ _ 3 _ _ _ HZ4
  have g4 := cell_of_row _ _ 4 _ _ _ HZ4
  have g5 := cell_of_row _ _ 5 _ _ _ HZ4
  have g6 := cell_of_row _ _ 6 _ _ _ HZ4
  have g7 := cell_of_row _ _ 7 _ _ _ HZ4
  have f0 := frozen_of_row _ _ 0 _ _ HZ4
  have f1 := frozen_of_row _ _ 1 _ _ HZ4
  have f2 := frozen_of_row _ _ 2 _ _ HZ4
  have f3 := frozen_of_row _ _ 3 _ _ HZ4
  have f4 := frozen_of_row _ _ 4 _ _ HZ4
  have f5 := frozen_of_row _ _ 5 _ _ HZ4
  have f6 := frozen_of_row _ _ 6 _ _ HZ4
  have f7 := frozen_of_row _ _ 7 _ _ HZ4
  simp at g0 g1 g2 g3 g4 g5 g6 g7
  rw [hM1, hM2] at HF
  clear HCS HO o1 o2 o3 b4 HZ3 HZ4 HB3 HB4
  go_wp2_with fail
  refine bodyPost_ret (v := .agg #[.int .i64 0, .int .i64 R.pc, .slice x1 l1 y1, .slice x2 l2 y2, .int .i64 R.sig, .int .i64 R.used, .int .i64 R.trap, .bool R.done]) (by simp [results, Try.results41, go_sem, g0, g1, g2, g3, g4, g5, g6, g7]; try rfl) rfl ?_
  exact HF.out
end Go.Proofs.Ytcikofhbfncgdaa
