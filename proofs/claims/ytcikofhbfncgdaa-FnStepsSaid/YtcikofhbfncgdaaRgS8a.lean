/-
  spec's l10Start.
-/
import Derived.Test.YtcikofhbfncgdaaStkRun
import Derived.Test.YtcikofhbfncgdaaRgI8m
import Derived.Test.YtcikofhbfncgdaaStpM
import Derived.Deep.Cut
import Derived.Deep.RegionHeld3
import Derived.Test.YtcikofhbfncgdaaRgMem
namespace Go.Proofs.Ytcikofhbfncgdaa
open Go.RowKit
set_option maxHeartbeats 400000 in
theorem sFault_any (a : Option Addr) (zs : List Int) (cap : Nat) (w : World) (hlen : zs.length ≤ 9223372036854775807) (hn : Nums w a zs) :
    Calls Try.prog 26 #[.slice a zs.length cap] w fun e w' => e = .returned (.int .i64 (fault zs)) ∧ w' = w := by
  by_cases h4 : 400 < zs.length
  · rw [fault_many h4]
    go_enter Try.func26, Try.ntmps26
    go_wp2
    go_ret
    exact ⟨rfl, rfl⟩
  · go_enter Try.func26, Try.ntmps26
    go_wp2
    go_loop [3] (fun i => ∃ k : Nat, k ≤ zs.length ∧ i = .int .i64 k ∧ ∀ j, j < k → 0 ≤ zs.getD j 0 ∧ zs.getD j 0 ≤ 65535) (fun i => zs.length - (intOf i).toNat)
    case atStart => exact ⟨0, Nat.zero_le _, rfl, fun j hj => by omega⟩
    case round =>
      obtain ⟨k, hk, rfl, ho⟩ := hrel
      have HO : Hid _ := ho
      clear ho
      by_cases hlt : k < zs.length
      · rcases hn with hn | ⟨b, off, rfl, hc⟩
        · subst hn; simp at hlt
        have hcell := hc k hlt
        clear hc
        obtain ⟨z, hz⟩ : ∃ z, z = zs.getD k 0 := ⟨_, rfl⟩
        rw [← hz] at hcell
        have HZ : Hid _ := hz
        clear hz
        by_cases h5 : 0 ≤ z ∧ z ≤ 65535
        · obtain ⟨h5, h6⟩ := h5
          go_wp2_with (go_at_call 82; refine (l1Word_yes _ _ h5 h6).mono ?_; rintro e w' ⟨rfl, rfl⟩)
          go_round
          case rel =>
            refine ⟨k + 1, by omega, by go_num, fun j hj => ?_⟩
            by_cases hjk : j = k
            · subst hjk; rw [← HZ.out]; exact ⟨h5, h6⟩
            · exact HO.out j (by omega)
          case measure => simp [intOf]; omega
        · have h6 : z < 0 ∨ 65535 < z := by omega
          have H6 : Hid _ := h6
          clear h6 h5
          go_wp2_with (go_at_call 82; refine (l1Word_no _ _ H6.out).mono ?_; rintro e w' ⟨rfl, rfl⟩)
          go_ret
          have hf := fault_bad (zs := zs) (by omega) k hlt (by rw [← HZ.out]; exact H6.out)
          exact ⟨by rw [hf]; rfl, rfl⟩
      · have hk2 : k = zs.length := by omega
        subst hk2
        go_wp2
        go_ret
        have hf := fault_ok (zs := zs) (by omega) HO.out
        exact ⟨by rw [hf]; rfl, rfl⟩
end Go.Proofs.Ytcikofhbfncgdaa
namespace Go.Proofs.Ytcikofhbfncgdaa
open Go.RowKit
set_option linter.unusedVariables false
attribute [local go_sem ↓] Go.wp_at_zero Go.wp_at_succ

set_option maxHeartbeats 6400000 in
set_option maxRecDepth 100000 in
theorem sStart_any (a : Option Addr) (zs : List Int) (c : Nat) (w : World) (hn : Nums w a zs) (hc : a = none → c = 0) (hl : zs.length ≤ 1048576) :
    Calls Try.prog 27 #[.slice a zs.length c] w fun e w' => ResR w w' e (startC zs) (startR zs) := by
  have hW := (Below.refl w.heap.size w).alloc (Nat.le_refl _) (.cells zero8 41)
  have HW : Hid (Below w.heap.size w (w.alloc (.cells zero8 41)) ∧ (w.alloc (.cells zero8 41)).heap[w.heap.size]? = some (.cells zero8 41 (0, 0)) ∧ Nums (w.alloc (.cells zero8 41)) a zs) := ⟨hW, heap_alloc_new _ _, hn.below hW⟩
  have HZ : Hid ((a = none → c = 0) ∧ (a = none → zs = []) ∧ zs.length ≤ 1048576) := ⟨hc, rowZ hn, hl⟩
  have HCF : Hid (∀ W q v, W.heap[q]? = some (.cells (lineS (startM zs) (.slice none 0 0) v) 39 (0, 0)) → RowV W v zs → Calls Try.prog 83 #[.pointer (some ⟨q, 0, none⟩)] W fun e w' => e = .returned (.int .i64 (startC zs)) ∧ w' = W) := fun W q v hq hv => l8Fault_any q (startM zs) _ _ W hq ⟨none, 0, rfl, .inl rfl, fun _ => rfl⟩ hv (by show 0 ≤ _; omega) hl
  have HR : Hid ((startC zs = 0 → startR zs = startM zs) ∧ (startC zs ≠ 0 → startR zs = zeroM)) := ⟨fun h => if_pos h, fun h => if_neg h⟩
  clear hW hn hc hl
  generalize startC zs = F at *
  generalize startR zs = R at *
  generalize hL : zs.length = L at *
  go_enter Try.func27, Try.ntmps27
  go_upto_region 1 with fail
  generalize w.alloc (.cells zero8 41) = W at *
  obtain ⟨x1, x2, x3⟩ := HW.out
  have HB : Hid (Below w.heap.size w W) := x1
  have HA0 : Hid (W.heap[w.heap.size]? = some (.cells zero8 41 (0, 0))) := x2
  have hA := (Below.refl W.heap.size W).alloc (Nat.le_refl _) (.cells #[] 2)
  have HA : Hid (Below W.heap.size W (W.alloc (.cells #[] 2))) := hA
  have HO : Hid (Own (W.alloc (.cells #[] 2)) W.heap.size (.slice (some ⟨W.heap.size, 0, none⟩) 0 0) []) := own_new W _ (Nat.le_refl _)
  have HN : Hid (Nums (W.alloc (.cells #[] 2)) a zs) := x3.below hA
  clear x1 x2 x3 hA HW
  go_wp2_with (at_builtin; refine wpList_append_nums rfl _ _ rfl W.heap.size _ [] zs (by rfl) HO.out a c (by rw [hL]; rfl) HN.out HZ.out.1 HZ.out.2.1 (by have := HZ.out.2.2; simp; omega) (by simp) ?_)
  intro v' w2 ho hg hv
  obtain ⟨a2, c2, rfl⟩ := own_shape ho.out
  try simp only [List.nil_append] at ho
  try simp only [List.nil_append]
  try rw [hL] at ho
  try rw [hL]
  have HB2 : Hid (Below W.heap.size W w2) := HA.out.grown hg.out (by simp) (fun k hk => by simp [Value.ownBlock] at hk; omega)
  have HO2 : Hid (Own w2 W.heap.size (.slice a2 L c2) zs) := ho.out
  clear ho hg hv HA HO HN
  go_upto_region 2 with fail
  have y3 := heap_alloc_new w2 (.cells (lineS (startM zs) (.slice none 0 0) (.slice a2 L c2)) 39)
  have b3 := (Below.refl w2.heap.size w2).alloc (Nat.le_refl _) (.cells (lineS (startM zs) (.slice none 0 0) (.slice a2 L c2)) 39)
  have HO3 : Hid (Own (w2.alloc (.cells (lineS (startM zs) (.slice none 0 0) (.slice a2 L c2)) 39)) W.heap.size (.slice a2 L c2) zs) := HO2.out.alloc _
  have HB3 : Hid (Below W.heap.size W (w2.alloc (.cells (lineS (startM zs) (.slice none 0 0) (.slice a2 L c2)) 39))) := HB2.out.trans (b3.mono HB2.out.size)
  have HY : Hid ((w2.alloc (.cells (lineS (startM zs) (.slice none 0 0) (.slice a2 L c2)) 39)).heap[w2.heap.size]? = some (.cells (lineS (startM zs) (.slice none 0 0) (.slice a2 L c2)) 39 (0, 0))) := y3
  clear y3 b3 HO2 HB2
  have e9 : w2.alloc (.cells (lineS (startM zs) (.slice none 0 0) (.slice a2 L c2)) 39) = w2.alloc (.cells #[.int .i64 0, .slice none 0 0, .slice a2 L c2, .int .i64 0, .int .i64 0, .int .i64 0, .bool false] 39) := rfl
  rw [e9] at HO3 HB3 HY
  clear e9
  generalize w2.alloc (.cells #[.int .i64 0, .slice none 0 0, .slice a2 L c2, .int .i64 0, .int .i64 0, .int .i64 0, .bool false] 39) = W3 at *
  generalize w2.heap.size = q at *
  have HA3 : Hid (W3.heap[w.heap.size]? = some (.cells zero8 41 (0, 0))) := blk8 HA0.out HB3.out
  have HBW : Hid (Below w.heap.size w W3) := HB.out.trans (HB3.out.mono HB.out.size)
  have HWS : Hid (w.heap.size < W.heap.size) := (Array.getElem?_eq_some_iff.1 HA0.out).1
  have HC : Hid (Calls Try.prog 83 #[.pointer (some ⟨q, 0, none⟩)] W3 fun e w' => e = .returned (.int .i64 F) ∧ w' = W3) := HCF.out W3 q _ HY.out (own_row HO3.out)
  obtain ⟨d0, d1, d2, d3, d4, d5, d6⟩ := RunS.cells (m := startM zs) HY.out
  have g0 := cell_of_row _ _ 0 _ _ _ HA3.out
  have g1 := cell_of_row _ _ 1 _ _ _ HA3.out
  have g2 := cell_of_row _ _ 2 _ _ _ HA3.out
  have g3 := cell_of_row _ _ 3 _ _ _ HA3.out
  have g4 := cell_of_row _ _ 4 _ _ _ HA3.out
  have g5 := cell_of_row _ _ 5 _ _ _ HA3.out
  have g6 := cell_of_row _ _ 6 _ _ _ HA3.out
  have g7 := cell_of_row _ _ 7 _ _ _ HA3.out
  have f0 := frozen_of_row _ _ 0 _ _ HA3.out
  have f1 := frozen_of_row _ _ 1 _ _ HA3.out
  have f2 := frozen_of_row _ _ 2 _ _ HA3.out
  have f3 := frozen_of_row _ _ 3 _ _ HA3.out
  have f4 := frozen_of_row _ _ 4 _ _ HA3.out
  have f5 := frozen_of_row _ _ 5 _ _ HA3.out
  have f6 := frozen_of_row _ _ 6 _ _ HA3.out
  have f7 := frozen_of_row _ _ 7 _ _ HA3.out
  simp at g0 g1 g2 g3 g4 g5 g6 g7
  clear HCF HA0 HB HB3 HZ
  have hws := HWS.out
  by_cases hF : F = 0
  · have hR := HR.out.1 hF
    subst hF hR
    have HE : Hid _ := fill8 w.heap.size W3 (.int .i64 0) (.int .i64 (startM zs).pc) (.slice none 0 0) (.slice a2 L c2) (.int .i64 (startM zs).sig) (.int .i64 (startM zs).used) (.int .i64 (startM zs).trap) (.bool (startM zs).done)
    have HF : Hid (ResR w ((((((((W3.setCell ⟨w.heap.size, 0, none⟩ (.int .i64 0)).setCell ⟨w.heap.size, 1, none⟩ (.int .i64 (startM zs).pc)).setCell ⟨w.heap.size, 2, none⟩ (.slice none 0 0)).setCell ⟨w.heap.size, 3, none⟩ (.slice a2 L c2)).setCell ⟨w.heap.size, 4, none⟩ (.int .i64 (startM zs).sig)).setCell ⟨w.heap.size, 5, none⟩ (.int .i64 (startM zs).used)).setCell ⟨w.heap.size, 6, none⟩ (.int .i64 (startM zs).trap)).setCell ⟨w.heap.size, 7, none⟩ (.bool (startM zs).done)) (.returned (resV 0 (startM zs) (.slice none 0 0) (.slice a2 L c2))) 0 (startM zs)) :=
      ⟨_, _, rfl, own_mono (own_sole (World.ownsRow_nil W3 W.heap.size 2 1) HE.out (fun e => by have := ((World.ownsRow_nil W3 W.heap.size 2 1).lt _ e).1; omega)) (by omega), own_mono (own_sole HO3.out HE.out (fun e => by have := (HO3.out.lt _ e).1; omega)) (by omega), (fun g h => by simp [Value.ownBlock] at h), HBW.out.trans (HE.out.bel.mono (Nat.le_refl _))⟩
    clear HO3 HBW HA3 HY HR HE hws HWS
    go_wp2_with (go_at_call 83; refine HC.out.mono ?_; rintro e w5 ⟨rfl, hw5⟩; have hw6 := hw5.symm; clear hw5; subst hw6)
    refine bodyPost_ret (v := resV 0 (startM zs) (.slice none 0 0) (.slice a2 L c2)) (by simp [results, Try.results27, go_sem, g0, g1, g2, g3, g4, g5, g6, g7]; try rfl) rfl ?_
    exact HF.out
  · have hR := HR.out.2 hF
    subst hR
    have eF : (F != 0) = true := by simpa using hF
    have HF : Hid _ := res_code w W3 w.heap.size F (Nat.le_refl _) HBW.out
    clear HO3 HBW HA3 HY HR hws HWS hF
    go_wp2_with (go_at_call 83; refine HC.out.mono ?_; rintro e w5 ⟨rfl, hw5⟩; have hw6 := hw5.symm; clear hw5; subst hw6)
    refine bodyPost_ret (v := codeV F) (by simp [results, Try.results27, go_sem, g0, g1, g2, g3, g4, g5, g6, g7]; try rfl) rfl ?_
    exact HF.out
end Go.Proofs.Ytcikofhbfncgdaa
namespace Go.Proofs.Ytcikofhbfncgdaa
open Go.RowKit
set_option linter.unusedVariables false
attribute [local go_sem ↓] Go.wp_at_zero Go.wp_at_succ

/-- a start with k registers -/
def stK (zs : List Int) (k : Nat) : SM := ⟨0, List.replicate k 65535, zs, 0, 0, 0, false⟩
theorem stK_psh (zs : List Int) (k : Nat) : psh (stK zs k) 65535 = stK zs (k + 1) := by
  unfold psh stK
  congr 1
  show List.replicate k 65535 ++ [65535] = _
  rw [← List.replicate_succ']
theorem stK_len (zs : List Int) (k : Nat) : (stK zs k).stk.length = k := by unfold stK; simp
theorem stK_full (zs : List Int) : stK zs 24 = startRM zs := rfl

/-- one more register -/
theorem regs_more {B p : Nat} {w W w2 : World} {sv cv v' : Value} {m : SM} (hb : w.heap[p]? = some (.cells (lineS m sv cv) 28 (0, 0))) (hm : MemO B w p sv cv m) (hA : Below w.heap.size w W) (hBw : B ≤ w.heap.size) (ho : Own w2 B v' (m.stk ++ [65535])) (hg : W.grownBy w2 sv.ownBlock) (hv : v'.ownBlock = sv.ownBlock ∨ ∃ q, w.heap.size ≤ q ∧ v'.ownBlock = some q) : RunT B (w2.setCell ⟨p, 1, none⟩ v') p (psh m 65535) := by
  have hG := MemO.grown hm hb hA hBw hg
  have hp := (Array.getElem?_eq_some_iff.1 hb).1
  refine ⟨v', cv, heap_setCell_same w2 p 1 _ _ v' hG.1, MemO.stk (m' := psh m 65535) hm (w' := w2) ho (fun g hg2 hne => ?_) ?_ hp rfl _ _⟩
  · rw [hg.block g (by have := hA.size; omega) hne, hA.block g hg2]
  · exact hv

set_option maxHeartbeats 3200000 in
set_option maxRecDepth 100000 in
theorem l10Start_any (a : Option Addr) (zs : List Int) (c : Nat) (w : World) (hn : Nums w a zs) (hc : a = none → c = 0) (hl : zs.length ≤ 1048576) :
    Calls Try.prog 84 #[.slice a zs.length c] w fun e w' => MachR w.heap.size w w' e (startRM zs) := by
  have hW := (Below.refl w.heap.size w).alloc (Nat.le_refl _) (.cells zeroLine 28)
  have HW : Hid (Below w.heap.size w (w.alloc (.cells zeroLine 28)) ∧ (w.alloc (.cells zeroLine 28)).heap[w.heap.size]? = some (.cells zeroLine 28 (0, 0)) ∧ Nums (w.alloc (.cells zeroLine 28)) a zs ∧ (w.alloc (.cells zeroLine 28)).heap.size = w.heap.size + 1) := ⟨hW, heap_alloc_new _ _, hn.below hW, by simp⟩
  have HZ : Hid ((a = none → c = 0) ∧ (a = none → zs = []) ∧ zs.length ≤ 1048576) := ⟨hc, rowZ hn, hl⟩
  have HK : Hid (∀ k, psh (stK zs k) 65535 = stK zs (k + 1)) := stK_psh zs
  have HKL : Hid (∀ k, (stK zs k).stk.length = k) := stK_len zs
  have HKC : Hid (∀ k, (stK zs k).cells = zs) := fun _ => rfl
  have HKF : Hid (stK zs 24 = startRM zs) := rfl
  have HKV : Hid (∀ k s v, lineS (stK zs k) s v = #[.int .i64 0, s, v, .int .i64 0, .int .i64 0, .int .i64 0, .bool false]) := fun _ _ _ => rfl
  have HK0 : Hid ((stK zs 0).stk = []) := rfl
  clear hW hn hc hl
  generalize hL : zs.length = L at *
  generalize startRM zs = S at *
  go_enter Try.func84, Try.ntmps84
  go_upto_region 1 with fail
  generalize w.alloc (.cells zeroLine 28) = W at *
  obtain ⟨x1, x2, x3, x4⟩ := HW.out
  have HB := hid x1
  have HA0 := hid x2
  have HS := hid x4
  have hA := (Below.refl W.heap.size W).alloc (Nat.le_refl _) (.cells #[] 2)
  have HA := hid hA
  have HO : Hid (Own (W.alloc (.cells #[] 2)) W.heap.size (.slice (some ⟨W.heap.size, 0, none⟩) 0 0) []) := own_new W _ (Nat.le_refl _)
  have HN := hid (x3.below hA)
  clear x1 x2 x3 x4 hA HW
  go_wp2_with (at_builtin; refine wpList_append_nums rfl _ _ rfl W.heap.size _ [] zs (by rfl) HO.out a c (by rw [hL]; rfl) HN.out HZ.out.1 HZ.out.2.1 (by have := HZ.out.2.2; simp; omega) (by simp) ?_)
  intro v' w2 ho hg hv
  obtain ⟨a2, c2, rfl⟩ := own_shape ho.out
  try simp only [List.nil_append] at ho
  try simp only [List.nil_append]
  try rw [hL] at ho
  try rw [hL]
  have HB2 : Hid (Below W.heap.size W w2) := HA.out.grown hg.out (by simp) (fun k hk => by simp [Value.ownBlock] at hk; omega)
  have HO2 : Hid (Own w2 W.heap.size (.slice a2 L c2) zs) := ho.out
  clear ho hg hv HA HO HN
  have y3 := heap_alloc_new w2 (.cells #[.int .i64 0, .slice none 0 0, .slice a2 L c2, .int .i64 0, .int .i64 0, .int .i64 0, .bool false] 28)
  have b3 := (Below.refl w2.heap.size w2).alloc (Nat.le_refl _) (.cells #[.int .i64 0, .slice none 0 0, .slice a2 L c2, .int .i64 0, .int .i64 0, .int .i64 0, .bool false] 28)
  have HO3 := hid (HO2.out.alloc (.cells #[.int .i64 0, .slice none 0 0, .slice a2 L c2, .int .i64 0, .int .i64 0, .int .i64 0, .bool false] 28))
  have HB3 := hid (HB2.out.trans (b3.mono HB2.out.size))
  have HRS : Hid (RunT W.heap.size (w2.alloc (.cells #[.int .i64 0, .slice none 0 0, .slice a2 L c2, .int .i64 0, .int .i64 0, .int .i64 0, .bool false] 28)) w2.heap.size (stK zs 0)) :=
    ⟨.slice none 0 0, .slice a2 L c2, by rw [HKV.out]; exact y3, World.ownsRow_nil _ _ _ _, HO3.out, HB2.out.size, by simp [Value.ownBlock], fun e => by have := (HO2.out.lt _ e).2; omega, fun g h => by simp [Value.ownBlock] at h⟩
  clear y3 b3 HO2 HB2 HO3 HZ
  go_wp2_with fail
  generalize w2.alloc (.cells #[.int .i64 0, .slice none 0 0, .slice a2 L c2, .int .i64 0, .int .i64 0, .int .i64 0, .bool false] 28) = W3 at *
  generalize w2.heap.size = p at *
  have HBW : Hid (Below w.heap.size w W3) := HB.out.trans (HB3.out.mono HB.out.size)
  have HA3 := hid (blk8 HA0.out HB3.out)
  clear HB HB3 HA0
  go_loopw [4] (fun i wr => ∃ k : Nat, k ≤ 24 ∧ i = .int .i64 k ∧ RunT W.heap.size wr p (stK zs k) ∧ Below w.heap.size w wr ∧ wr.heap[w.heap.size]? = some (.cells zeroLine 28 (0, 0)))
    (fun i _ => 24 - (intOf i).toNat)
  case atStart => exact ⟨0, by omega, rfl, HRS.out, HBW.out, HA3.out⟩
  case round =>
    clear HRS HBW HA3
    obtain ⟨k, hk, rfl, hrs, hbl, hz⟩ := hrel
    obtain ⟨sv, cv, hrow, hmem⟩ := id hrs
    obtain ⟨x1, y1, rfl⟩ := own_shape hmem.ss
    obtain ⟨x2, y2, rfl⟩ := own_shape hmem.cs
    have HPW := hid (RunT.lt hrs)
    have HBL := hid hbl
    have HZR := hid hz
    have HRW := hid hrow
    have HME := hid hmem
    have HRT := hid hrs
    clear hbl hz hmem hrs
    by_cases hlt : k < 24
    · obtain ⟨-, d1, -, -, -, -, -⟩ := cl7 hrow
      have f1 := frozen_of_row _ _ 1 _ _ hrow
      have hkI : (k : Int) < 24 := by omega
      clear hrow
      have hA := (Below.refl wr.heap.size wr).alloc (Nat.le_refl _) (.cells #[.int .i64 65535] 2)
      have HA := hid hA
      have HO := hid (own_kept HME.out.ss hA)
      have HN : Hid (Nums (wr.alloc (.cells #[.int .i64 65535] 2)) (some ⟨wr.heap.size, 0, none⟩) [65535]) := .inr ⟨_, 0, rfl, fun i hi => by
        have : i = 0 := by simpa using hi
        subst this
        exact cell_of_row _ _ 0 _ _ _ (heap_alloc_new wr _)⟩
      have HLK := hid (HKL.out k)
      clear hA
      go_wp2_with (at_builtin; refine wpList_append_nums rfl _ _ rfl W.heap.size _ (stK zs k).stk [65535] (by rfl) HO.out (some ⟨wr.heap.size, 0, none⟩) 1 (by rfl) HN.out (by simp) (by simp) (by rw [HLK.out]; simp; omega) (by have := HPW.out; simp; omega) ?_)
      intro v' w4 ho hg hv
      obtain ⟨a4, c4, rfl⟩ := own_shape ho.out
      have HR4 := hid (regs_more HRW.out HME.out HA.out (by have := HPW.out; omega) ho.out hg.out (hv.out.imp id (fun h => ⟨_, Nat.le_succ _, h⟩)))
      have hG := MemO.grown HME.out HRW.out HA.out (by have := HPW.out; omega) hg.out
      have HB4 := hid hG.2
      obtain ⟨-, d4, -, -, -, -, -⟩ := cl7 hG.1
      have f4 := frozen_of_row _ _ 1 _ _ hG.1
      clear hG ho hg hv HO HN d1 f1
      have hle : ((stK zs k).stk ++ [(65535 : Int)]).length = (stK zs k).stk.length + 1 := by simp
      rw [HK.out, hle] at HR4
      clear hle
      go_wp2_with fail
      go_roundw
      case rel =>
        refine ⟨k + 1, by omega, by go_num, HR4.out, HBL.out.trans ((HB4.out.setCell (p := ⟨p, 1, none⟩) (by have := HPW.out; simp; omega) _).mono (by have := HS.out; omega)), ?_⟩
        rw [heap_setCell_other _ _ _ _ (by have := HPW.out; have := HS.out; show w.heap.size ≠ p; omega)]
        exact (HB4.out.block _ (by have := HS.out; omega)).trans HZR.out
      case measure => simp [intOf]; omega
    · have hk2 : k = 24 := by omega
      subst hk2
      have hrow2 := HRW.out
      rw [HKV.out] at hrow2
      obtain ⟨d0, d1, d2, d3, d4, d5, d6⟩ := cl7 hrow2
      obtain ⟨g0, g1, g2, g3, g4, g5, g6⟩ := cl7 HZR.out
      obtain ⟨f0, f1, f2, f3, f4, f5, f6⟩ := fl7 HZR.out
      have hRB : w.heap.size < W.heap.size := by have := HS.out; omega
      have hE := fill7 w.heap.size wr (stK zs 24) (.slice x1 (stK zs 24).stk.length y1) (.slice x2 (stK zs 24).cells.length y2)
      have hm := HME.out
      have HF : Hid (MachR w.heap.size w _ (.returned (machVs (stK zs 24) (.slice x1 (stK zs 24).stk.length y1) (.slice x2 (stK zs 24).cells.length y2))) (stK zs 24)) :=
        ⟨_, _, rfl, own_mono (own_sole hm.ss hE (fun e => by have := (hm.ss.lt _ e).1; omega)) (by omega), own_mono (own_sole hm.cs hE (fun e => by have := (hm.cs.lt _ e).1; omega)) (by omega), hm.d3, HBL.out.trans (hE.bel.mono (Nat.le_refl _))⟩
      have hf := HKF.out
      clear hrow hrow2 hE hm HRW HME HZR HBL HPW HRT hlt hk HKV HK HKL HKC HK0
      generalize (stK zs 24).stk.length = l1 at *
      generalize (stK zs 24).cells.length = l2 at *
      go_wp2_with fail
      refine bodyPost_ret (v := .agg #[.int .i64 0, .slice x1 l1 y1, .slice x2 l2 y2, .int .i64 0, .int .i64 0, .int .i64 0, .bool false]) (by simp [results, Try.results84, go_sem, g0, g1, g2, g3, g4, g5, g6]) rfl ?_
      rw [← hf]
      exact HF.out
end Go.Proofs.Ytcikofhbfncgdaa
