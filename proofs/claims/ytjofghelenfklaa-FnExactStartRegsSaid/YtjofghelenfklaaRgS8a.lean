/-
  spec's l10Start.
-/
import Derived.Test.YtjofghelenfklaaRgRun
import Derived.Test.YtjofghelenfklaaRgMem
import Derived.Test.YtjofghelenfklaaSMach
import Derived.Deep.Cut
namespace Go.Proofs.Ytjofghelenfklaa
open Go.RowKit
set_option linter.unusedVariables false
attribute [local go_sem ↓] Go.wp_at_zero Go.wp_at_succ

/-- a start with k registers -/
def stK (zs : List Int) (k : Nat) : SM := ⟨0, List.replicate k 65535, zs, 0, 0, 0, false⟩
theorem stK_psh (zs : List Int) (k : Nat) : psh (stK zs k) 65535 = stK zs (k + 1) := by
  unfold psh stK
  congr 1
  show List.replicate k 65535 ++ [65535] = _
  rw [← List.replicate_succ']
theorem stK_len (zs : List Int) (k : Nat) : (stK zs k).stk.length = k := by unfold stK; simp
theorem stK_full (zs : List Int) : stK zs 24 = startRM zs := rfl

/-- one more register -/
theorem regs_more {B p : Nat} {w W w2 : World} {sv cv v' : Value} {m : SM} (hb : w.heap[p]? = some (.cells (lineS m sv cv) 28 (0, 0))) (hm : MemO B w p sv cv m) (hA : Below w.heap.size w W) (hBw : B ≤ w.heap.size) (ho : Own w2 B v' (m.stk ++ [65535])) (hg : W.grownBy w2 sv.ownBlock) (hv : v'.ownBlock = sv.ownBlock ∨ ∃ q, w.heap.size ≤ q ∧ v'.ownBlock = some q) : RunT B (w2.setCell ⟨p, 1, none⟩ v') p (psh m 65535) := by
  have hG := MemO.grown hm hb hA hBw hg
  have hp := (Array.getElem?_eq_some_iff.1 hb).1
  refine ⟨v', cv, heap_setCell_same w2 p 1 _ _ v' hG.1, MemO.stk (m' := psh m 65535) hm (w' := w2) ho (fun g hg2 hne => ?_) ?_ hp rfl _ _⟩
  · rw [hg.block g (by have := hA.size; omega) hne, hA.block g hg2]
  · exact hv

set_option maxHeartbeats 3200000 in
set_option maxRecDepth 100000 in
theorem l10Start_any (a : Option Addr) (zs : List Int) (c : Nat) (w : World) (hn : Nums w a zs) (hc : a = none → c = 0) (hl : zs.length ≤ 1048576) :
    Calls Try.prog 84 #[.slice a zs.length c] w fun e w' => MachR w.heap.size w w' e (startRM zs) := by
  have hW := (Below.refl w.heap.size w).alloc (Nat.le_refl _) (.cells zeroLine 28)
  have HW : Hid (Below w.heap.size w (w.alloc (.cells zeroLine 28)) ∧ (w.alloc (.cells zeroLine 28)).heap[w.heap.size]? = some (.cells zeroLine 28 (0, 0)) ∧ Nums (w.alloc (.cells zeroLine 28)) a zs ∧ (w.alloc (.cells zeroLine 28)).heap.size = w.heap.size + 1) := ⟨hW, heap_alloc_new _ _, hn.below hW, by simp⟩
  have HZ : Hid ((a = none → c = 0) ∧ (a = none → zs = []) ∧ zs.length ≤ 1048576) := ⟨hc, rowZ hn, hl⟩
  have HK : Hid (∀ k, psh (stK zs k) 65535 = stK zs (k + 1)) := stK_psh zs
  have HKL : Hid (∀ k, (stK zs k).stk.length = k) := stK_len zs
  have HKC : Hid (∀ k, (stK zs k).cells = zs) := fun _ => rfl
  have HKF : Hid (stK zs 24 = startRM zs) := rfl
  have HKV : Hid (∀ k s v, lineS (stK zs k) s v = #[.int .i64 0, s, v, .int .i64 0, .int .i64 0, .int .i64 0, .bool false]) := fun _ _ _ => rfl
  have HK0 : Hid ((stK zs 0).stk = []) := rfl
  clear hW hn hc hl
  generalize hL : zs.length = L at *
  generalize startRM zs = S at *
  go_enter Try.func84, Try.ntmps84
  go_upto_region 1 with fail
  generalize w.alloc (.cells zeroLine 28) = W at *
  obtain ⟨x1, x2, x3, x4⟩ := HW.out
  have HB := hid x1
  have HA0 := hid x2
  have HS := hid x4
  have hA := (Below.refl W.heap.size W).alloc (Nat.le_refl _) (.cells #[] 2)
  have HA := hid hA
  have HO : Hid (Own (W.alloc (.cells #[] 2)) W.heap.size (.slice (some ⟨W.heap.size, 0, none⟩) 0 0) []) := own_new W _ (Nat.le_refl _)
  have HN := hid (x3.below hA)
  clear x1 x2 x3 x4 hA HW
  go_wp2_with (at_builtin; refine wpList_append_nums rfl _ _ rfl W.heap.size _ [] zs (by rfl) HO.out a c (by rw [hL]; rfl) HN.out HZ.out.1 HZ.out.2.1 (by have := HZ.out.2.2; simp; omega) (by simp) ?_)
  intro v' w2 ho hg hv
  obtain ⟨a2, c2, rfl⟩ := own_shape ho.out
  try simp only [List.nil_append] at ho
  try simp only [List.nil_append]
  try rw [hL] at ho
  try rw [hL]
  have HB2 : Hid (Below W.heap.size W w2) := HA.out.grown hg.out (by simp) (fun k hk => by simp [Value.ownBlock] at hk; omega)
  have HO2 : Hid (Own w2 W.heap.size (.slice a2 L c2) zs) := ho.out
  clear ho hg hv HA HO HN
  have y3 := heap_alloc_new w2 (.cells #[.int .i64 0, .slice none 0 0, .slice a2 L c2, .int .i64 0, .int .i64 0, .int .i64 0, .bool false] 28)
  have b3 := (Below.refl w2.heap.size w2).alloc (Nat.le_refl _) (.cells #[.int .i64 0, .slice none 0 0, .slice a2 L c2, .int .i64 0, .int .i64 0, .int .i64 0, .bool false] 28)
  have HO3 := hid (HO2.out.alloc (.cells #[.int .i64 0, .slice none 0 0, .slice a2 L c2, .int .i64 0, .int .i64 0, .int .i64 0, .bool false] 28))
  have HB3 := hid (HB2.out.trans (b3.mono HB2.out.size))
  have HRS : Hid (RunT W.heap.size (w2.alloc (.cells #[.int .i64 0, .slice none 0 0, .slice a2 L c2, .int .i64 0, .int .i64 0, .int .i64 0, .bool false] 28)) w2.heap.size (stK zs 0)) :=
    ⟨.slice none 0 0, .slice a2 L c2, by rw [HKV.out]; exact y3, World.ownsRow_nil _ _ _ _, HO3.out, HB2.out.size, by simp [Value.ownBlock], fun e => by have := (HO2.out.lt _ e).2; omega, fun g h => by simp [Value.ownBlock] at h⟩
  clear y3 b3 HO2 HB2 HO3 HZ
  go_wp2_with fail
  generalize w2.alloc (.cells #[.int .i64 0, .slice none 0 0, .slice a2 L c2, .int .i64 0, .int .i64 0, .int .i64 0, .bool false] 28) = W3 at *
  generalize w2.heap.size = p at *
  have HBW : Hid (Below w.heap.size w W3) := HB.out.trans (HB3.out.mono HB.out.size)
  have HA3 := hid (blk8 HA0.out HB3.out)
  clear HB HB3 HA0
  go_loopw [4] (fun i wr => ∃ k : Nat, k ≤ 24 ∧ i = .int .i64 k ∧ RunT W.heap.size wr p (stK zs k) ∧ Below w.heap.size w wr ∧ wr.heap[w.heap.size]? = some (.cells zeroLine 28 (0, 0)))
    (fun i _ => 24 - (intOf i).toNat)
  case atStart => exact ⟨0, by omega, rfl, HRS.out, HBW.out, HA3.out⟩
  case round =>
    clear HRS HBW HA3
    obtain ⟨k, hk, rfl, hrs, hbl, hz⟩ := hrel
    obtain ⟨sv, cv, hrow, hmem⟩ := id hrs
    obtain ⟨x1, y1, rfl⟩ := own_shape hmem.ss
    obtain ⟨x2, y2, rfl⟩ := own_shape hmem.cs
    have HPW := hid (RunT.lt hrs)
    have HBL := hid hbl
    have HZR := hid hz
    have HRW := hid hrow
    have HME := hid hmem
    have HRT := hid hrs
    clear hbl hz hmem hrs
    by_cases hlt : k < 24
    · obtain ⟨-, d1, -, -, -, -, -⟩ := cl7 hrow
      have f1 := frozen_of_row _ _ 1 _ _ hrow
      have hkI : (k : Int) < 24 := by omega
      clear hrow
      have hA := (Below.refl wr.heap.size wr).alloc (Nat.le_refl _) (.cells #[.int .i64 65535] 2)
      have HA := hid hA
      have HO := hid (own_kept HME.out.ss hA)
      have HN : Hid (Nums (wr.alloc (.cells #[.int .i64 65535] 2)) (some ⟨wr.heap.size, 0, none⟩) [65535]) := .inr ⟨_, 0, rfl, fun i hi => by
        have : i = 0 := by simpa using hi
        subst this
        exact cell_of_row _ _ 0 _ _ _ (heap_alloc_new wr _)⟩
      have HLK := hid (HKL.out k)
      clear hA
      go_wp2_with (at_builtin; refine wpList_append_nums rfl _ _ rfl W.heap.size _ (stK zs k).stk [65535] (by rfl) HO.out (some ⟨wr.heap.size, 0, none⟩) 1 (by rfl) HN.out (by simp) (by simp) (by rw [HLK.out]; simp; omega) (by have := HPW.out; simp; omega) ?_)
      intro v' w4 ho hg hv
      obtain ⟨a4, c4, rfl⟩ := own_shape ho.out
      have HR4 := hid (regs_more HRW.out HME.out HA.out (by have := HPW.out; omega) ho.out hg.out (hv.out.imp id (fun h => ⟨_, Nat.le_succ _, h⟩)))
      have hG := MemO.grown HME.out HRW.out HA.out (by have := HPW.out; omega) hg.out
      have HB4 := hid hG.2
      obtain ⟨-, d4, -, -, -, -, -⟩ := cl7 hG.1
      have f4 := frozen_of_row _ _ 1 _ _ hG.1
      clear hG ho hg hv HO HN d1 f1
      have hle : ((stK zs k).stk ++ [(65535 : Int)]).length = (stK zs k).stk.length + 1 := by simp
      rw [HK.out, hle] at HR4
      clear hle
      go_wp2_with fail
      go_roundw
      case rel =>
        refine ⟨k + 1, by omega, by go_num, HR4.out, HBL.out.trans ((HB4.out.setCell (p := ⟨p, 1, none⟩) (by have := HPW.out; simp; omega) _).mono (by have := HS.out; omega)), ?_⟩
        rw [heap_setCell_other _ _ _ _ (by have := HPW.out; have := HS.out; show w.heap.size ≠ p; omega)]
        exact (HB4.out.block _ (by have := HS.out; omega)).trans HZR.out
      case measure => simp [intOf]; omega
    · have hk2 : k = 24 := by omega
      subst hk2
      have hrow2 := HRW.out
      rw [HKV.out] at hrow2
      obtain ⟨d0, d1, d2, d3, d4, d5, d6⟩ := cl7 hrow2
      obtain ⟨g0, g1, g2, g3, g4, g5, g6⟩ := cl7 HZR.out
      obtain ⟨f0, f1, f2, f3, f4, f5, f6⟩ := fl7 HZR.out
      have hRB : w.heap.size < W.heap.size := by have := HS.out; omega
      have hE := fill7 w.heap.size wr (stK zs 24) (.slice x1 (stK zs 24).stk.length y1) (.slice x2 (stK zs 24).cells.length y2)
      have hm := HME.out
      have HF : Hid (MachR w.heap.size w _ (.returned (machVs (stK zs 24) (.slice x1 (stK zs 24).stk.length y1) (.slice x2 (stK zs 24).cells.length y2))) (stK zs 24)) :=
        ⟨_, _, rfl, own_mono (own_sole hm.ss hE (fun e => by have := (hm.ss.lt _ e).1; omega)) (by omega), own_mono (own_sole hm.cs hE (fun e => by have := (hm.cs.lt _ e).1; omega)) (by omega), hm.d3, HBL.out.trans (hE.bel.mono (Nat.le_refl _))⟩
      have hf := HKF.out
      clear hrow hrow2 hE hm HRW HME HZR HBL HPW HRT hlt hk HKV HK HKL HKC HK0
      generalize (stK zs 24).stk.length = l1 at *
      generalize (stK zs 24).cells.length = l2 at *
      go_wp2_with fail
      refine bodyPost_ret (v := .agg #[.int .i64 0, .slice x1 l1 y1, .slice x2 l2 y2, .int .i64 0, .int .i64 0, .int .i64 0, .bool false]) (by simp [results, Try.results84, go_sem, g0, g1, g2, g3, g4, g5, g6]) rfl ?_
      rw [← hf]
      exact HF.out
end Go.Proofs.Ytjofghelenfklaa
