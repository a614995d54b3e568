/-
  spec's l8Copy, l8Ready.
-/
import Derived.Test.YtcikofhbfncgdaaSBin
import Derived.Test.YtcikofhbfncgdaaRgDo102
import Derived.Test.YtcikofhbfncgdaaRgDo104
import Derived.Test.YtcikofhbfncgdaaRgDo106
import Derived.Test.YtcikofhbfncgdaaRgDo111
import Derived.Test.YtcikofhbfncgdaaRgDo107
import Derived.Test.YtcikofhbfncgdaaRgDo107
import Derived.Test.YtcikofhbfncgdaaRgDo108
import Derived.Test.YtcikofhbfncgdaaRgJ
import Derived.Test.YtcikofhbfncgdaaWords0
import Derived.Test.YtcikofhbfncgdaaSStk1
namespace Go.Proofs.Ytcikofhbfncgdaa
open Go.RowKit
set_option linter.unusedVariables false

theorem l10Ready_any (a : Option Addr) (zs : List Int) (c k p : Nat) (m : SM) (sv cv : Value) (w : World) (hz : Nums w a zs) (hl : zs.length ≤ 400) (hw : wordsB zs = true) (hp : w.heap[p]? = some (.cells (lineS m sv cv) 28 (0, 0))) (hk : m.pc = k) (hs : RowV w sv m.stk) (hc : RowV w cv m.cells) (hcl : m.cells.length ≤ 80) :
    Calls Try.prog 122 #[.slice a zs.length c, .pointer (some ⟨p, 0, none⟩)] w fun e w' => e = .returned (.bool (rdyR zs k m)) ∧ Below w.heap.size w w' := by
  have hnn : ∀ i, 0 ≤ zs.getD i 0 := fun i => (code_word hw i).1
  have c0 := (RunT.cells hp).1
  rw [hk] at c0
  by_cases hkl : k < zs.length
  case neg =>
    have e : rdyR zs k m = false := by
      unfold rdyR readyR
      rw [decide_eq_false (by omega : ¬ (k : Int) < zs.length)]; rfl
    rw [e]
    exact ready_endG a zs.length c k p w (by omega) c0
  rcases hz with hz | ⟨b, off, rfl, hcc⟩
  · rw [hz] at hkl; simp at hkl
  by_cases hop : inB (zs.getD k 0) 1 13 = true
  · have hin := inB_iff.1 hop
    refine ready_onR b off c k p m sv cv zs (zs.getD k 0) w hkl hl hp hk hs hc hcl hcc rfl hop hnn (rdyR zs k m) ?_
    unfold rdyR readyR
    rw [Int.toNat_natCast, decide_eq_true (by omega : (k : Int) < zs.length), hop, Bool.true_and, Bool.true_and]
    exact congrArg _ (hasR_eq hin.1 hin.2 (fun p => zs.getD (k + p.toNat) 0) m.cells.length)
  · have hop2 : inB (zs.getD k 0) 1 13 = false := by simpa using hop
    have e : rdyR zs k m = false := by
      unfold rdyR readyR
      rw [Int.toNat_natCast, hop2]; simp
    rw [e]
    exact ready_opG b off zs.length c k p (zs.getD k 0) w hkl c0 (hcc k hkl) hop2

theorem l10Do_any (B p k c : Nat) (a : Option Addr) (zs : List Int) (m : SM) (w : World) (h : RunT B w p m) (hg : RGood m) (hk : m.pc = k) (hz : Nums w a zs) (hB : ∀ b off, a = some ⟨b, off, none⟩ → b < B) (hl : zs.length ≤ 400) (hzc : zs.length ≤ c) (hw : wordsB zs = true) (hr : rdyR zs k m = true) :
    Calls Try.prog 123 #[.slice a zs.length c, .pointer (some ⟨p, 0, none⟩)] w fun e w' => e = .returned (.int .i64 (tlC zs k m)) ∧ (tlC zs k m = 0 → RunT B w' p (tlD zs k m)) ∧ Below B w w' := by
  obtain ⟨r1, r2, r3, r4, r5, _, _⟩ := rdyR_yes hk hr
  have hW := code_word hw
  rcases hz with hz | ⟨b, off, rfl, hcc⟩
  · rw [hz] at r1; simp at r1
  have hb := hB b off rfl
  have h0 := hcc k r1
  have w1 := hW (k + 1)
  have w2 := hW (k + 2)
  have w3 := hW (k + 3)
  have w4 := hW (k + 4)
  have d1 : 1 ≤ argR (zs.getD k 0) → w.cell? ⟨b, off + (k + 1), none⟩ = some (.int .i64 (zs.getD (k + 1) 0)) := fun h => hcc _ (by omega)
  have d2 : 2 ≤ argR (zs.getD k 0) → w.cell? ⟨b, off + (k + 1) + 1, none⟩ = some (.int .i64 (zs.getD (k + 2) 0)) := fun h => hcc (k + 2) (by omega)
  have d3 : 4 ≤ argR (zs.getD k 0) → w.cell? ⟨b, off + (k + 1) + 2, none⟩ = some (.int .i64 (zs.getD (k + 3) 0)) := fun h => hcc (k + 3) (by omega)
  have d4 : 4 ≤ argR (zs.getD k 0) → w.cell? ⟨b, off + (k + 1) + 3, none⟩ = some (.int .i64 (zs.getD (k + 4) 0)) := fun h => hcc (k + 4) (by omega)
  unfold tlC tlD
  clear hW hcc hr hw
  generalize zs.getD k 0 = op at *
  generalize zs.getD (k + 1) 0 = x at *
  generalize zs.getD (k + 2) 0 = y at *
  generalize zs.getD (k + 3) 0 = z at *
  generalize zs.getD (k + 4) 0 = u at *
  generalize zs.length = n at *
  obtain ⟨i0, hi0⟩ := Int.eq_ofNat_of_zero_le w1.1
  obtain ⟨i1, hi1⟩ := Int.eq_ofNat_of_zero_le w2.1
  obtain ⟨i2, hi2⟩ := Int.eq_ofNat_of_zero_le w3.1
  subst hi0 hi1 hi2
  have A : ∀ q, op = q → argR q = argR op := fun q e => by rw [e]
  rcases ops13 r2 r3 with e | e | e | e | e | e | e | e | e | e | e | e | e <;> subst e
  · have r0 : i0 < 24 := by simp [hasR] at r5; omega
    exact (rdo_1 B p b off n c k (k + 1) i0 m i1 _ w h hg hk (by have : argR 1 = 2 := rfl; omega) hl hzc hb rfl rfl h0 (d1 (by decide)) (d2 (by decide)) r0).mono fun e w' h => ⟨h.1, fun _ => h.2.1 rfl, h.2.2⟩
  · have r0 : i0 < 24 ∧ i1 < m.cells.length := by simp [hasR] at r5; omega
    exact (rdo_2 B p b off n c k (k + 1) i0 i1 m _ w h hg hk (by have : argR 2 = 2 := rfl; omega) hl hzc hb rfl rfl h0 (d1 (by decide)) (d2 (by decide)) r0.1 r0.2).mono fun e w' h => ⟨h.1, fun _ => h.2.1 rfl, h.2.2⟩
  · have r0 : i1 < 24 ∧ i0 < m.cells.length := by simp [hasR] at r5; omega
    exact (rdo_3 B p b off n c k (k + 1) i0 i1 m _ w h hg hk (by have : argR 3 = 2 := rfl; omega) hl hzc hb rfl rfl h0 (d1 (by decide)) (d2 (by decide)) r0.2 r0.1).mono fun e w' h => ⟨h.1, fun _ => h.2.1 rfl, h.2.2⟩
  · have r0 : i0 < 24 ∧ i1 < 24 := by simp [hasR] at r5; omega
    exact rdo_4 B p b off n c k (k + 1) i0 i1 m i2 u _ w h hg hk (by have : argR 4 = 4 := rfl; omega) hl hzc hb rfl rfl h0 (d1 (by decide)) (d2 (by decide)) (d3 (by decide)) (d4 (by decide)) r0.1 r0.2 _ _ rfl rfl w3.1 w3.2 w4.1 w4.2
  · have r0 : i0 < 24 ∧ i1 < 24 := by simp [hasR] at r5; omega
    exact rdo_5 B p b off n c k (k + 1) i0 i1 m i2 u _ w h hg hk (by have : argR 5 = 4 := rfl; omega) hl hzc hb rfl rfl h0 (d1 (by decide)) (d2 (by decide)) (d3 (by decide)) (d4 (by decide)) r0.1 r0.2 _ _ rfl rfl w3.1 w3.2 w4.1 w4.2
  · have r0 : i0 < 24 ∧ i1 < 24 ∧ i2 < 24 := by simp [hasR] at r5; omega
    exact rdo_6 B p b off n c k (k + 1) i0 i1 i2 m u _ w h hg hk (by have : argR 6 = 4 := rfl; omega) hl hzc hb rfl rfl h0 (d1 (by decide)) (d2 (by decide)) (d3 (by decide)) (d4 (by decide)) r0.1 r0.2.1 r0.2.2 _ _ rfl rfl
  · have r0 : i0 < 24 ∧ i1 < 24 := by simp [hasR] at r5; omega
    exact (rdo_7 B p b off n c k (k + 1) i0 i1 m _ w h hg hk (by have : argR 7 = 2 := rfl; omega) hl hzc hb rfl rfl h0 (d1 (by decide)) (d2 (by decide)) r0.1 r0.2).mono fun e w' h => ⟨h.1, fun _ => h.2.1 rfl, h.2.2⟩
  · have r0 : i0 < 24 ∧ i1 < 24 := by simp [hasR] at r5; omega
    exact (rdo_8 B p b off n c k (k + 1) i0 i1 m _ w h hg hk (by have : argR 8 = 2 := rfl; omega) hl hzc hb rfl rfl h0 (d1 (by decide)) (d2 (by decide)) r0.1 r0.2).mono fun e w' h => ⟨h.1, fun _ => h.2.1 rfl, h.2.2⟩
  · have r0 : i0 < 24 := by simp [hasR] at r5; omega
    by_cases hv : m.stk.getD i0 0 = 65535
    · refine (rdo_9a B p b off n c k (k + 1) i0 m _ w h hg hk (by have : argR 9 = 1 := rfl; omega) hl hzc hb rfl rfl h0 (d1 (by decide)) r0 hv).mono fun e w' h => ⟨h.1, fun _ => ?_, h.2.2⟩
      have e : doR 9 (i0 : Int) (i1 : Int) (toldRV 9 (i0 : Int) (i1 : Int) (i2 : Int) u m) (atP m ((k : Int) + 1 + argR 9)) = atP m ((k : Int) + 1 + argR 9) := by
        show str (atP m ((k : Int) + 1 + argR 9)) (i0 : Int) (cm (b01 (decide (m.stk.getD i0 0 ≠ 65535)))) = _
        rw [hv]
        have := str_self (atP m ((k : Int) + 1 + argR 9)) i0
        rw [show (atP m ((k : Int) + 1 + argR 9)).stk.getD i0 0 = 65535 from hv] at this
        exact this
      rw [e]; exact h.2.1 rfl
    · refine (rdo_9b B p b off n c k (k + 1) i0 m _ w h hg hk (by have : argR 9 = 1 := rfl; omega) hl hzc hb rfl rfl h0 (d1 (by decide)) r0 hv).mono fun e w' h => ⟨h.1, fun _ => ?_, h.2.2⟩
      have e : doR 9 (i0 : Int) (i1 : Int) (toldRV 9 (i0 : Int) (i1 : Int) (i2 : Int) u m) (atP m ((k : Int) + 1 + argR 9)) = atP (str m i0 65534) ((k : Int) + 1 + argR 9) := by
        show str (atP m ((k : Int) + 1 + argR 9)) (i0 : Int) (cm (b01 (decide (m.stk.getD i0 0 ≠ 65535)))) = _
        rw [decide_eq_true hv]; rfl
      rw [e]; exact h.2.1 rfl
  · exact (rdo_10 B p b off n c k (k + 1) m i0 _ w h hg hk (by have : argR 10 = 1 := rfl; omega) hl hzc hb rfl rfl h0 (d1 (by decide))).mono fun e w' h => ⟨h.1, fun _ => h.2.1 rfl, h.2.2⟩
  · have r0 : i0 < 24 := by simp [hasR] at r5; omega
    by_cases hv : m.stk.getD i0 0 = 65535
    · refine (rdo_11a B p b off n c k (k + 1) i0 m i1 _ w h hg hk (by have : argR 11 = 2 := rfl; omega) hl hzc hb rfl rfl h0 (d1 (by decide)) (d2 (by decide)) r0 hv).mono fun e w' h => ⟨h.1, fun _ => ?_, h.2.2⟩
      have e : doR 11 (i0 : Int) (i1 : Int) (toldRV 11 (i0 : Int) (i1 : Int) (i2 : Int) u m) (atP m ((k : Int) + 1 + argR 11)) = atP m i1 := by
        show ({ (atP m ((k : Int) + 1 + argR 11)) with pc := if m.stk.getD i0 0 = 65535 then (i1 : Int) else (k : Int) + 1 + argR 11 } : SM) = _
        rw [if_pos hv]; rfl
      rw [e]; exact h.2.1 rfl
    · refine (rdo_11b B p b off n c k (k + 1) i0 m i1 _ w h hg hk (by have : argR 11 = 2 := rfl; omega) hl hzc hb rfl rfl h0 (d1 (by decide)) (d2 (by decide)) r0 hv).mono fun e w' h => ⟨h.1, fun _ => ?_, h.2.2⟩
      have e : doR 11 (i0 : Int) (i1 : Int) (toldRV 11 (i0 : Int) (i1 : Int) (i2 : Int) u m) (atP m ((k : Int) + 1 + argR 11)) = atP m ((k : Int) + 1 + argR 11) := by
        show ({ (atP m ((k : Int) + 1 + argR 11)) with pc := if m.stk.getD i0 0 = 65535 then (i1 : Int) else (k : Int) + 1 + argR 11 } : SM) = _
        rw [if_neg hv]; rfl
      rw [e]; exact h.2.1 rfl
  · exact (rdo_12 B p b off n c k (k + 1) m i0 _ w h hg hk (by have : argR 12 = 1 := rfl; omega) hl hzc hb rfl rfl h0 (d1 (by decide))).mono fun e w' h => ⟨h.1, fun _ => h.2.1 rfl, h.2.2⟩
  · by_cases hLc : k + 1 < c
    · exact (rdo_13a B p b off n c k (k + 1) m _ w h hg hk (by have : argR 13 = 0 := rfl; omega) hl hzc hb rfl rfl h0 hLc).mono fun e w' h => ⟨h.1, fun _ => h.2.1 rfl, h.2.2⟩
    · have ec : c = k + 1 := by omega
      subst ec
      exact (rdo_13b B p b off n k (k + 1) m _ w h hg hk (by have : argR 13 = 0 := rfl; omega) hl hzc hb rfl rfl h0).mono fun e w' h => ⟨h.1, fun _ => h.2.1 rfl, h.2.2⟩

set_option maxHeartbeats 400000 in
theorem lmin_usedG (x : Int) (w : World) (h0 : 0 ≤ x) (h1 : x ≤ 1000001) : Calls Try.prog 121 #[.int .i64 1000000, .int .i64 x] w fun e w' => e = .returned (.int .i64 (if x ≤ 1000000 then x else 1000000)) ∧ w' = w := by
  by_cases h : x ≤ 1000000
  · rw [if_pos h]
    by_cases he : x < 1000000
    · have h2 : decide ((1000000 : Int) < x) = false := decide_eq_false (by omega)
      have h3 : decide (x < 1000000) = true := decide_eq_true he
      have h4 : decide ((1000000 : Int) ≤ x) = false := decide_eq_false (by omega)
      clear h h0 h1 he
      go_enter Try.func121, Try.ntmps121
      go_wp2
      go_ret
      exact ⟨rfl, rfl⟩
    · have : x = 1000000 := by omega
      subst this
      go_enter Try.func121, Try.ntmps121
      go_wp2
      go_ret
      exact ⟨rfl, rfl⟩
  · have : x = 1000001 := by omega
    subst this
    go_enter Try.func121, Try.ntmps121
    go_wp2
    go_ret
    exact ⟨rfl, rfl⟩
end Go.Proofs.Ytcikofhbfncgdaa
namespace Go.Proofs.Ytcikofhbfncgdaa
open Go.RowKit
set_option linter.unusedVariables false
attribute [local go_sem ↓] Go.wp_at_zero Go.wp_at_succ

set_option maxHeartbeats 3200000 in
set_option maxRecDepth 100000 in
theorem lstep_stopG (B : Nat) (m : SM) (sv cv : Value) (a : Option Addr) (zs : List Int) (c : Nat) (w : World) (hs : Own w B sv m.stk) (hc : Own w B cv m.cells) (hd : ∀ g, sv.ownBlock = some g → cv.ownBlock ≠ some g) (hB : B ≤ w.heap.size) (hgo : goes m = false) :
    Calls Try.prog 91 #[.slice a zs.length c, machVs m sv cv] w fun e w' => MachR B w w' e m := by
  obtain ⟨a1, k1, rfl⟩ := own_shape hs
  obtain ⟨a2, k2, rfl⟩ := own_shape hc
  have hX : Hid (∀ W, W = (w.alloc (.cells (lineS m (.slice a1 m.stk.length k1) (.slice a2 m.cells.length k2)) 28)).alloc (.cells zeroLine 28) →
      Below w.heap.size w W ∧ W.heap[w.heap.size]? = some (.cells (lineS m (.slice a1 m.stk.length k1) (.slice a2 m.cells.length k2)) 28 (0, 0)) ∧ W.heap[w.heap.size + 1]? = some (.cells zeroLine 28 (0, 0))) := fun W e => by
    subst e
    have x1 := heap_alloc_new w (.cells (lineS m (.slice a1 m.stk.length k1) (.slice a2 m.cells.length k2)) 28)
    have y1 := (Below.refl w.heap.size w).alloc (Nat.le_refl _) (.cells (lineS m (.slice a1 m.stk.length k1) (.slice a2 m.cells.length k2)) 28)
    have s1 : (w.alloc (.cells (lineS m (.slice a1 m.stk.length k1) (.slice a2 m.cells.length k2)) 28)).heap.size = w.heap.size + 1 := by simp
    generalize w.alloc (.cells (lineS m (.slice a1 m.stk.length k1) (.slice a2 m.cells.length k2)) 28) = W1 at *
    have x2 := heap_alloc_new W1 (.cells zeroLine 28)
    have y2 := (Below.refl W1.heap.size W1).alloc (Nat.le_refl _) (.cells zeroLine 28)
    rw [s1] at x2
    exact ⟨y1.trans (y2.mono (by omega)), blk8 x1 y2, x2⟩
  have HS : Hid (Own w B (.slice a1 m.stk.length k1) m.stk) := hs
  have HC : Hid (Own w B (.slice a2 m.cells.length k2) m.cells) := hc
  have HD : Hid (∀ g, (Value.slice a1 m.stk.length k1).ownBlock = some g → (Value.slice a2 m.cells.length k2).ownBlock ≠ some g) := hd
  have hT : m.done = true ∨ (m.done = false ∧ (m.trap != 0) = true) := by
    unfold goes at hgo
    cases hq : m.done
    · right; refine ⟨rfl, ?_⟩
      rw [hq] at hgo
      simpa using hgo
    · exact .inl rfl
  clear hs hc hd hgo
  generalize hL1 : m.stk.length = l1 at *
  generalize hL2 : m.cells.length = l2 at *
  go_enter Try.func91, Try.ntmps91
  go_upto_region 1 with fail
  have hXX := hX.out _ rfl
  generalize (w.alloc (.cells (lineS m (.slice a1 l1 k1) (.slice a2 l2 k2)) 28)).alloc (.cells zeroLine 28) = W at *
  obtain ⟨x1, x2, x3⟩ := hXX
  have HB : Hid (Below w.heap.size w W) := x1
  obtain ⟨e0, e1, e2, e3, e4, e5, e6⟩ := RunT.cells x2
  have g0 := cell_of_row _ _ 0 _ _ _ x3
  have g1 := cell_of_row _ _ 1 _ _ _ x3
  have g2 := cell_of_row _ _ 2 _ _ _ x3
  have g3 := cell_of_row _ _ 3 _ _ _ x3
  have g4 := cell_of_row _ _ 4 _ _ _ x3
  have g5 := cell_of_row _ _ 5 _ _ _ x3
  have g6 := cell_of_row _ _ 6 _ _ _ x3
  have f0 := frozen_of_row _ _ 0 _ _ x3
  have f1 := frozen_of_row _ _ 1 _ _ x3
  have f2 := frozen_of_row _ _ 2 _ _ x3
  have f3 := frozen_of_row _ _ 3 _ _ x3
  have f4 := frozen_of_row _ _ 4 _ _ x3
  have f5 := frozen_of_row _ _ 5 _ _ x3
  have f6 := frozen_of_row _ _ 6 _ _ x3
  simp at g0 g1 g2 g3 g4 g5 g6
  clear x1 x2 x3 hX
  have HE : Hid _ := fill7 (w.heap.size + 1) W m (.slice a1 l1 k1) (.slice a2 l2 k2)
  have HF : Hid (MachR B w (((((((W.setCell ⟨w.heap.size + 1, 0, none⟩ (.int .i64 m.pc)).setCell ⟨w.heap.size + 1, 1, none⟩ (.slice a1 l1 k1)).setCell ⟨w.heap.size + 1, 2, none⟩ (.slice a2 l2 k2)).setCell ⟨w.heap.size + 1, 3, none⟩ (.int .i64 m.sig)).setCell ⟨w.heap.size + 1, 4, none⟩ (.int .i64 m.used)).setCell ⟨w.heap.size + 1, 5, none⟩ (.int .i64 m.trap)).setCell ⟨w.heap.size + 1, 6, none⟩ (.bool m.done)) (.returned (machVs m (.slice a1 l1 k1) (.slice a2 l2 k2))) m) :=
    ⟨_, _, rfl, own_sole (own_kept HS.out HB.out) HE.out (fun e => by have := (HS.out.lt _ e).2; omega), own_sole (own_kept HC.out HB.out) HE.out (fun e => by have := (HC.out.lt _ e).2; omega), HD.out, HB.out.trans (HE.out.bel.mono (by omega))⟩
  clear HE HS HC HD HB
  generalize hdn : m.done = dn at *
  have hm : machVs m (.slice a1 l1 k1) (.slice a2 l2 k2) = .agg #[.int .i64 m.pc, .slice a1 l1 k1, .slice a2 l2 k2, .int .i64 m.sig, .int .i64 m.used, .int .i64 m.trap, .bool dn] := by rw [← hdn]
  have HM : Hid _ := hm
  clear hm hdn
  rcases hT with hT | ⟨hT, hT2⟩
  all_goals
    subst hT
    go_wp2_with fail
    refine bodyPost_ret (v := .agg #[.int .i64 m.pc, .slice a1 l1 k1, .slice a2 l2 k2, .int .i64 m.sig, .int .i64 m.used, .int .i64 m.trap, .bool _]) (by simp [results, Try.results91, go_sem, g0, g1, g2, g3, g4, g5, g6]; rfl) rfl ?_
    have := HF.out
    rw [HM.out] at this
    exact this
end Go.Proofs.Ytcikofhbfncgdaa
namespace Go.Proofs.Ytcikofhbfncgdaa
open Go.RowKit
set_option linter.unusedVariables false
attribute [local go_sem ↓] Go.wp_at_zero Go.wp_at_succ

set_option maxHeartbeats 3200000 in
theorem l10Copy_any (m : SM) (sv cv : Value) (w : World) (hs : RowV w sv m.stk) (hc : RowV w cv m.cells) (hl1 : m.stk.length ≤ 1048576) (hl2 : m.cells.length ≤ 1048576) :
    Calls Try.prog 92 #[machVs m sv cv] w fun e w' => ∃ sv' cv', e = .returned (machVs m sv' cv') ∧ Own w' w.heap.size sv' m.stk ∧ Own w' w.heap.size cv' m.cells ∧ (∀ g, sv'.ownBlock = some g → cv'.ownBlock ≠ some g) ∧ Below w.heap.size w w' := by
  obtain ⟨b1, k1, rfl, hn1, hk1⟩ := hs
  obtain ⟨b2, k2, rfl, hn2, hk2⟩ := hc
  have HN1 : Hid (∀ W, Below w.heap.size w W → Nums W b1 m.stk) := fun W h => hn1.below h
  have HN2 : Hid (∀ W, Below w.heap.size w W → Nums W b2 m.cells) := fun W h => hn2.below h
  have HZ1 : Hid ((b1 = none → k1 = 0) ∧ (b1 = none → m.stk = [])) := ⟨hk1, rowZ hn1⟩
  have HZ2 : Hid ((b2 = none → k2 = 0) ∧ (b2 = none → m.cells = [])) := ⟨hk2, rowZ hn2⟩
  have HL : Hid (m.stk.length ≤ 1048576 ∧ m.cells.length ≤ 1048576) := ⟨hl1, hl2⟩
  have hX : Hid (∀ W, W = (w.alloc (.cells (lineS m (.slice b1 m.stk.length k1) (.slice b2 m.cells.length k2)) 28)).alloc (.cells #[.int .i64 0, .slice none 0 0, .slice none 0 0, .int .i64 0, .int .i64 0, .int .i64 0, .bool false] 28) →
      Below w.heap.size w W ∧ W.heap.size = w.heap.size + 2 ∧ W.heap[w.heap.size]? = some (.cells (lineS m (.slice b1 m.stk.length k1) (.slice b2 m.cells.length k2)) 28 (0, 0)) ∧ W.heap[w.heap.size + 1]? = some (.cells #[.int .i64 0, .slice none 0 0, .slice none 0 0, .int .i64 0, .int .i64 0, .int .i64 0, .bool false] 28 (0, 0))) := fun W e => by
    subst e
    have a1 := heap_alloc_new w (.cells (lineS m (.slice b1 m.stk.length k1) (.slice b2 m.cells.length k2)) 28)
    have y1 := (Below.refl w.heap.size w).alloc (Nat.le_refl _) (.cells (lineS m (.slice b1 m.stk.length k1) (.slice b2 m.cells.length k2)) 28)
    have s1 : (w.alloc (.cells (lineS m (.slice b1 m.stk.length k1) (.slice b2 m.cells.length k2)) 28)).heap.size = w.heap.size + 1 := by simp
    generalize w.alloc (.cells (lineS m (.slice b1 m.stk.length k1) (.slice b2 m.cells.length k2)) 28) = W1 at *
    have a2 := heap_alloc_new W1 (.cells #[.int .i64 0, .slice none 0 0, .slice none 0 0, .int .i64 0, .int .i64 0, .int .i64 0, .bool false] 28)
    have y2 := (Below.refl W1.heap.size W1).alloc (Nat.le_refl _) (.cells #[.int .i64 0, .slice none 0 0, .slice none 0 0, .int .i64 0, .int .i64 0, .int .i64 0, .bool false] 28)
    rw [s1] at a2
    exact ⟨y1.trans (y2.mono (by omega)), by simp [s1], blk8 a1 y2, a2⟩
  clear hn1 hn2 hk1 hk2 hl1 hl2
  generalize hL1 : m.stk.length = l1 at *
  generalize hL2 : m.cells.length = l2 at *
  go_enter Try.func92, Try.ntmps92
  go_upto_region 1 with fail
  have hXX := hX.out _ rfl
  generalize (w.alloc (.cells (lineS m (.slice b1 l1 k1) (.slice b2 l2 k2)) 28)).alloc (.cells #[.int .i64 0, .slice none 0 0, .slice none 0 0, .int .i64 0, .int .i64 0, .int .i64 0, .bool false] 28) = W at *
  obtain ⟨x1, x2, x3, x4⟩ := hXX
  have HB0 : Hid (Below w.heap.size w W) := x1
  have HS0 : Hid (W.heap.size = w.heap.size + 2) := x2
  have HA0 : Hid (W.heap[w.heap.size]? = _) := x3
  have HR0 : Hid (W.heap[w.heap.size + 1]? = _) := x4
  have c1 := (RunT.cells x3).2.1
  have hA := (Below.refl W.heap.size W).alloc (Nat.le_refl _) (.cells #[] 2)
  have HA : Hid (Below W.heap.size W (W.alloc (.cells #[] 2))) := hA
  have HO : Hid (Own (W.alloc (.cells #[] 2)) W.heap.size (.slice (some ⟨W.heap.size, 0, none⟩) 0 0) []) := own_new W _ (Nat.le_refl _)
  have HN : Hid (Nums (W.alloc (.cells #[] 2)) b1 m.stk) := HN1.out _ (x1.trans (hA.mono (by omega)))
  have c1a : (W.alloc (.cells #[] 2)).cell? ⟨w.heap.size, 1, none⟩ = some (.slice b1 l1 k1) := (hA.cell (p := ⟨w.heap.size, 1, none⟩) (by show w.heap.size < W.heap.size; omega)).trans c1
  clear x1 x2 x3 x4 hA hX c1
  go_wp2_with (at_builtin; refine wpList_append_nums rfl _ _ rfl W.heap.size _ [] m.stk (by rfl) HO.out b1 k1 (by rw [hL1]; rfl) HN.out HZ1.out.1 HZ1.out.2 (by have := HL.out; simp; omega) (by simp) ?_)
  intro v' w2 ho hg hv
  obtain ⟨a2, q2, rfl⟩ := own_shape ho.out
  try simp only [List.nil_append] at ho
  try simp only [List.nil_append] at hv
  try simp only [List.nil_append]
  try rw [hL1] at ho
  try rw [hL1] at hv
  try rw [hL1]
  have hz2 : W.heap.size + 1 ≤ w2.heap.size := by have := hg.out.size; simp at this; omega
  have HB2 : Hid (Below W.heap.size W w2) := HA.out.grown hg.out (by simp) (fun k hk => by simp [Value.ownBlock] at hk; omega)
  have HO2 : Hid (Own w2 W.heap.size (.slice a2 l1 q2) m.stk) := ho.out
  have HA2 : Hid (w2.heap[w.heap.size]? = some (.cells (lineS m (.slice b1 l1 k1) (.slice b2 l2 k2)) 28 (0, 0))) := blk8 HA0.out HB2.out
  have HR2 : Hid (w2.heap[w.heap.size + 1]? = some (.cells #[.int .i64 0, .slice none 0 0, .slice none 0 0, .int .i64 0, .int .i64 0, .int .i64 0, .bool false] 28 (0, 0))) := blk8 HR0.out HB2.out
  have d1 := (RunT.cells HA2.out).2.1
  have f1 := frozen_of_row _ _ 1 _ _ HA2.out
  have HZ : Hid (W.heap.size + 1 ≤ w2.heap.size) := hz2
  clear ho hg hv hz2 HA HO HN c1a HA0 HR0
  go_upto_region 2 with fail
  have HA3 : Hid ((w2.setCell ⟨w.heap.size, 1, none⟩ (.slice a2 l1 q2)).heap[w.heap.size]? = some (.cells (lineS m (.slice a2 l1 q2) (.slice b2 l2 k2)) 28 (0, 0))) := heap_setCell_same w2 w.heap.size 1 _ _ (.slice a2 l1 q2) HA2.out
  have HR3 : Hid ((w2.setCell ⟨w.heap.size, 1, none⟩ (.slice a2 l1 q2)).heap[w.heap.size + 1]? = some (.cells #[.int .i64 0, .slice none 0 0, .slice none 0 0, .int .i64 0, .int .i64 0, .int .i64 0, .bool false] 28 (0, 0))) := (heap_setCell_other w2 _ (w.heap.size + 1) _ (by simp)).trans HR2.out
  have HB3 : Hid (Below w.heap.size w (w2.setCell ⟨w.heap.size, 1, none⟩ (.slice a2 l1 q2))) := (HB0.out.trans (HB2.out.mono (by have := HS0.out; omega))).setCell (Nat.le_refl _) _
  have HO3 : Hid (Own (w2.setCell ⟨w.heap.size, 1, none⟩ (.slice a2 l1 q2)) W.heap.size (.slice a2 l1 q2) m.stk) := own_other HO2.out (fun g hg => heap_setCell_other _ _ _ _ (by have := (HO2.out.lt g hg).1; have := HS0.out; show g ≠ w.heap.size; omega))
  have HS3 : Hid (w.heap.size + 2 ≤ (w2.setCell ⟨w.heap.size, 1, none⟩ (.slice a2 l1 q2)).heap.size) := by have := HZ.out; have := HS0.out; show _ ≤ _; simp; omega
  clear HA2 HR2 HB2 HO2 HZ d1 f1
  generalize w2.setCell ⟨w.heap.size, 1, none⟩ (.slice a2 l1 q2) = W3 at *
  have c2 := (RunT.cells HA3.out).2.2.1
  have hA := (Below.refl W3.heap.size W3).alloc (Nat.le_refl _) (.cells #[] 2)
  have HA : Hid (Below W3.heap.size W3 (W3.alloc (.cells #[] 2))) := hA
  have HO : Hid (Own (W3.alloc (.cells #[] 2)) W3.heap.size (.slice (some ⟨W3.heap.size, 0, none⟩) 0 0) []) := own_new W3 _ (Nat.le_refl _)
  have HN : Hid (Nums (W3.alloc (.cells #[] 2)) b2 m.cells) := HN2.out _ (HB3.out.trans (hA.mono HB3.out.size))
  have c2a : (W3.alloc (.cells #[] 2)).cell? ⟨w.heap.size, 2, none⟩ = some (.slice b2 l2 k2) := (hA.cell (p := ⟨w.heap.size, 2, none⟩) (by have := HS3.out; show w.heap.size < W3.heap.size; omega)).trans c2
  clear hA c2
  go_wp2_with (at_builtin; refine wpList_append_nums rfl _ _ rfl W3.heap.size _ [] m.cells (by rfl) HO.out b2 k2 (by rw [hL2]; rfl) HN.out HZ2.out.1 HZ2.out.2 (by have := HL.out; simp; omega) (by simp) ?_)
  intro v' w4 ho hg hv
  obtain ⟨a4, q4, rfl⟩ := own_shape ho.out
  try simp only [List.nil_append] at ho
  try simp only [List.nil_append] at hv
  try simp only [List.nil_append]
  try rw [hL2] at ho
  try rw [hL2] at hv
  try rw [hL2]
  have HB4 : Hid (Below W3.heap.size W3 w4) := HA.out.grown hg.out (by simp) (fun k hk => by simp [Value.ownBlock] at hk; omega)
  have HO4 : Hid (Own w4 W3.heap.size (.slice a4 l2 q4) m.cells) := ho.out
  have HA4 : Hid (w4.heap[w.heap.size]? = some (.cells (lineS m (.slice a2 l1 q2) (.slice b2 l2 k2)) 28 (0, 0))) := blk8 HA3.out HB4.out
  have HR4 : Hid (w4.heap[w.heap.size + 1]? = some (.cells #[.int .i64 0, .slice none 0 0, .slice none 0 0, .int .i64 0, .int .i64 0, .int .i64 0, .bool false] 28 (0, 0))) := blk8 HR3.out HB4.out
  have HS4 : Hid (Own w4 W.heap.size (.slice a2 l1 q2) m.stk) := own_kept HO3.out HB4.out
  have f2 := frozen_of_row _ _ 2 _ _ HA4.out
  have d2 := (RunT.cells HA4.out).2.2.1
  clear ho hg hv HA HO HN c2a HR3 HA3
  go_upto_region 3 with fail
  have HA5 : Hid ((w4.setCell ⟨w.heap.size, 2, none⟩ (.slice a4 l2 q4)).heap[w.heap.size]? = some (.cells (lineS m (.slice a2 l1 q2) (.slice a4 l2 q4)) 28 (0, 0))) := heap_setCell_same w4 w.heap.size 2 _ _ (.slice a4 l2 q4) HA4.out
  have HR5 : Hid ((w4.setCell ⟨w.heap.size, 2, none⟩ (.slice a4 l2 q4)).heap[w.heap.size + 1]? = some (.cells #[.int .i64 0, .slice none 0 0, .slice none 0 0, .int .i64 0, .int .i64 0, .int .i64 0, .bool false] 28 (0, 0))) := (heap_setCell_other w4 _ (w.heap.size + 1) _ (by simp)).trans HR4.out
  have HB5 : Hid (Below w.heap.size w (w4.setCell ⟨w.heap.size, 2, none⟩ (.slice a4 l2 q4))) := (HB3.out.trans (HB4.out.mono HB3.out.size)).setCell (Nat.le_refl _) _
  have HO5 : Hid (Own (w4.setCell ⟨w.heap.size, 2, none⟩ (.slice a4 l2 q4)) (w.heap.size + 2) (.slice a2 l1 q2) m.stk) := own_mono (own_other HS4.out (fun g hg => heap_setCell_other _ _ _ _ (by have := (HS4.out.lt g hg).1; have := HS0.out; show g ≠ w.heap.size; omega))) (by have := HS0.out; omega)
  have HC5 : Hid (Own (w4.setCell ⟨w.heap.size, 2, none⟩ (.slice a4 l2 q4)) (w.heap.size + 2) (.slice a4 l2 q4) m.cells) := own_mono (own_other HO4.out (fun g hg => heap_setCell_other _ _ _ _ (by have := (HO4.out.lt g hg).1; have := HS3.out; show g ≠ w.heap.size; omega))) HS3.out
  have HD : Hid (∀ g, (Value.slice a2 l1 q2).ownBlock = some g → (Value.slice a4 l2 q4).ownBlock ≠ some g) := fun g hg e => by
    have := (HO3.out.lt g hg).2
    have := (HO4.out.lt g e).1
    omega
  clear HA4 HR4 HB4 HO4 HS4 HO3 HB3 f2 d2 HS3
  generalize w4.setCell ⟨w.heap.size, 2, none⟩ (.slice a4 l2 q4) = W5 at *
  obtain ⟨e0, e1, e2, e3, e4, e5, e6⟩ := RunT.cells HA5.out
  have g0 := cell_of_row _ _ 0 _ _ _ HR5.out
  have g1 := cell_of_row _ _ 1 _ _ _ HR5.out
  have g2 := cell_of_row _ _ 2 _ _ _ HR5.out
  have g3 := cell_of_row _ _ 3 _ _ _ HR5.out
  have g4 := cell_of_row _ _ 4 _ _ _ HR5.out
  have g5 := cell_of_row _ _ 5 _ _ _ HR5.out
  have g6 := cell_of_row _ _ 6 _ _ _ HR5.out
  have f0 := frozen_of_row _ _ 0 _ _ HR5.out
  have f1 := frozen_of_row _ _ 1 _ _ HR5.out
  have f2 := frozen_of_row _ _ 2 _ _ HR5.out
  have f3 := frozen_of_row _ _ 3 _ _ HR5.out
  have f4 := frozen_of_row _ _ 4 _ _ HR5.out
  have f5 := frozen_of_row _ _ 5 _ _ HR5.out
  have f6 := frozen_of_row _ _ 6 _ _ HR5.out
  simp at g0 g1 g2 g3 g4 g5 g6
  clear HA5 HR5
  have HE : Hid _ := (((((((Sole1.refl (w.heap.size + 1) W5).set 0 (.int .i64 m.pc)).set 1 (.slice a2 l1 q2)).set 2 (.slice a4 l2 q4)).set 3 (.int .i64 m.sig)).set 4 (.int .i64 m.used)).set 5 (.int .i64 m.trap)).set 6 (.bool m.done)
  go_wp2_with fail
  refine bodyPost_ret (v := machVs m (.slice a2 l1 q2) (.slice a4 l2 q4)) (by simp [results, Try.results92, go_sem, g0, g1, g2, g3, g4, g5, g6]) rfl ⟨_, _, rfl, ?_, ?_, HD.out, HB5.out.trans (HE.out.bel.mono (by omega))⟩
  · exact own_mono (own_other HO5.out (fun g hg => HE.out.oth g (by have := (HO5.out.lt g hg).1; omega))) (by omega)
  · exact own_mono (own_other HC5.out (fun g hg => HE.out.oth g (by have := (HC5.out.lt g hg).1; omega))) (by omega)
end Go.Proofs.Ytcikofhbfncgdaa
