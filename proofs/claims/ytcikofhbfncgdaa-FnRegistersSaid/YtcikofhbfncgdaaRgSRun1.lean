/-
  spec's l8Run: a run from the start ends as REnds says.
-/
import Derived.Test.YtcikofhbfncgdaaSStk1
import Derived.Test.YtcikofhbfncgdaaWords0
import Derived.Test.YtcikofhbfncgdaaRgJ
import Derived.Deep.Cut
import Derived.Test.YtcikofhbfncgdaaRgS9
namespace Go.Proofs.Ytcikofhbfncgdaa
open Go.RowKit
set_option linter.unusedVariables false
attribute [local go_sem ↓] Go.wp_at_zero Go.wp_at_succ

/-- a start with k registers -/
def stK (zs : List Int) (k : Nat) : SM := ⟨0, List.replicate k 65535, zs, 0, 0, 0, false⟩
theorem stK_psh (zs : List Int) (k : Nat) : psh (stK zs k) 65535 = stK zs (k + 1) := by
  unfold psh stK
  congr 1
  show List.replicate k 65535 ++ [65535] = _
  rw [← List.replicate_succ']
theorem stK_len (zs : List Int) (k : Nat) : (stK zs k).stk.length = k := by unfold stK; simp
theorem stK_full (zs : List Int) : stK zs 24 = startRM zs := rfl

/-- one more register -/
theorem regs_more {B p : Nat} {w W w2 : World} {sv cv v' : Value} {m : SM} (hb : w.heap[p]? = some (.cells (lineS m sv cv) 28 (0, 0))) (hm : MemO B w p sv cv m) (hA : Below w.heap.size w W) (hBw : B ≤ w.heap.size) (ho : Own w2 B v' (m.stk ++ [65535])) (hg : W.grownBy w2 sv.ownBlock) (hv : v'.ownBlock = sv.ownBlock ∨ ∃ q, w.heap.size ≤ q ∧ v'.ownBlock = some q) : RunT B (w2.setCell ⟨p, 1, none⟩ v') p (psh m 65535) := by
  have hG := MemO.grown hm hb hA hBw hg
  have hp := (Array.getElem?_eq_some_iff.1 hb).1
  refine ⟨v', cv, heap_setCell_same w2 p 1 _ _ v' hG.1, MemO.stk (m' := psh m 65535) hm (w' := w2) ho (fun g hg2 hne => ?_) ?_ hp rfl _ _⟩
  · rw [hg.block g (by have := hA.size; omega) hne, hA.block g hg2]
  · exact hv

set_option maxHeartbeats 3200000 in
set_option maxRecDepth 100000 in
theorem l10Start_any (a : Option Addr) (zs : List Int) (c : Nat) (w : World) (hn : Nums w a zs) (hc : a = none → c = 0) (hl : zs.length ≤ 1048576) :
    Calls Try.prog 84 #[.slice a zs.length c] w fun e w' => MachR w.heap.size w w' e (startRM zs) := by
  have hW := (Below.refl w.heap.size w).alloc (Nat.le_refl _) (.cells zeroLine 28)
  have HW : Hid (Below w.heap.size w (w.alloc (.cells zeroLine 28)) ∧ (w.alloc (.cells zeroLine 28)).heap[w.heap.size]? = some (.cells zeroLine 28 (0, 0)) ∧ Nums (w.alloc (.cells zeroLine 28)) a zs ∧ (w.alloc (.cells zeroLine 28)).heap.size = w.heap.size + 1) := ⟨hW, heap_alloc_new _ _, hn.below hW, by simp⟩
  have HZ : Hid ((a = none → c = 0) ∧ (a = none → zs = []) ∧ zs.length ≤ 1048576) := ⟨hc, rowZ hn, hl⟩
  have HK : Hid (∀ k, psh (stK zs k) 65535 = stK zs (k + 1)) := stK_psh zs
  have HKL : Hid (∀ k, (stK zs k).stk.length = k) := stK_len zs
  have HKC : Hid (∀ k, (stK zs k).cells = zs) := fun _ => rfl
  have HKF : Hid (stK zs 24 = startRM zs) := rfl
  have HKV : Hid (∀ k s v, lineS (stK zs k) s v = #[.int .i64 0, s, v, .int .i64 0, .int .i64 0, .int .i64 0, .bool false]) := fun _ _ _ => rfl
  have HK0 : Hid ((stK zs 0).stk = []) := rfl
  clear hW hn hc hl
  generalize hL : zs.length = L at *
  generalize startRM zs = S at *
  go_enter Try.func84, Try.ntmps84
  go_upto_region 1 with fail
  generalize w.alloc (.cells zeroLine 28) = W at *
  obtain ⟨x1, x2, x3, x4⟩ := HW.out
  have HB := hid x1
  have HA0 := hid x2
  have HS := hid x4
  have hA := (Below.refl W.heap.size W).alloc (Nat.le_refl _) (.cells #[] 2)
  have HA := hid hA
  have HO : Hid (Own (W.alloc (.cells #[] 2)) W.heap.size (.slice (some ⟨W.heap.size, 0, none⟩) 0 0) []) := own_new W _ (Nat.le_refl _)
  have HN := hid (x3.below hA)
  clear x1 x2 x3 x4 hA HW
  go_wp2_with (at_builtin; refine wpList_append_nums rfl _ _ rfl W.heap.size _ [] zs (by rfl) HO.out a c (by rw [hL]; rfl) HN.out HZ.out.1 HZ.out.2.1 (by have := HZ.out.2.2; simp; omega) (by simp) ?_)
  intro v' w2 ho hg hv
  obtain ⟨a2, c2, rfl⟩ := own_shape ho.out
  try simp only [List.nil_append] at ho
  try simp only [List.nil_append]
  try rw [hL] at ho
  try rw [hL]
  have HB2 : Hid (Below W.heap.size W w2) := HA.out.grown hg.out (by simp) (fun k hk => by simp [Value.ownBlock] at hk; omega)
  have HO2 : Hid (Own w2 W.heap.size (.slice a2 L c2) zs) := ho.out
  clear ho hg hv HA HO HN
  have y3 := heap_alloc_new w2 (.cells #[.int .i64 0, .slice none 0 0, .slice a2 L c2, .int .i64 0, .int .i64 0, .int .i64 0, .bool false] 28)
  have b3 := (Below.refl w2.heap.size w2).alloc (Nat.le_refl _) (.cells #[.int .i64 0, .slice none 0 0, .slice a2 L c2, .int .i64 0, .int .i64 0, .int .i64 0, .bool false] 28)
  have HO3 := hid (HO2.out.alloc (.cells #[.int .i64 0, .slice none 0 0, .slice a2 L c2, .int .i64 0, .int .i64 0, .int .i64 0, .bool false] 28))
  have HB3 := hid (HB2.out.trans (b3.mono HB2.out.size))
  have HRS : Hid (RunT W.heap.size (w2.alloc (.cells #[.int .i64 0, .slice none 0 0, .slice a2 L c2, .int .i64 0, .int .i64 0, .int .i64 0, .bool false] 28)) w2.heap.size (stK zs 0)) :=
    ⟨.slice none 0 0, .slice a2 L c2, by rw [HKV.out]; exact y3, World.ownsRow_nil _ _ _ _, HO3.out, HB2.out.size, by simp [Value.ownBlock], fun e => by have := (HO2.out.lt _ e).2; omega, fun g h => by simp [Value.ownBlock] at h⟩
  clear y3 b3 HO2 HB2 HO3 HZ
  go_wp2_with fail
  generalize w2.alloc (.cells #[.int .i64 0, .slice none 0 0, .slice a2 L c2, .int .i64 0, .int .i64 0, .int .i64 0, .bool false] 28) = W3 at *
  generalize w2.heap.size = p at *
  have HBW : Hid (Below w.heap.size w W3) := HB.out.trans (HB3.out.mono HB.out.size)
  have HA3 := hid (blk8 HA0.out HB3.out)
  clear HB HB3 HA0
  go_loopw [4] (fun i wr => ∃ k : Nat, k ≤ 24 ∧ i = .int .i64 k ∧ RunT W.heap.size wr p (stK zs k) ∧ Below w.heap.size w wr ∧ wr.heap[w.heap.size]? = some (.cells zeroLine 28 (0, 0)))
    (fun i _ => 24 - (intOf i).toNat)
  case atStart => exact ⟨0, by omega, rfl, HRS.out, HBW.out, HA3.out⟩
  case round =>
    clear HRS HBW HA3
    obtain ⟨k, hk, rfl, hrs, hbl, hz⟩ := hrel
    obtain ⟨sv, cv, hrow, hmem⟩ := id hrs
    obtain ⟨x1, y1, rfl⟩ := own_shape hmem.ss
    obtain ⟨x2, y2, rfl⟩ := own_shape hmem.cs
    have HPW := hid (RunT.lt hrs)
    have HBL := hid hbl
    have HZR := hid hz
    have HRW := hid hrow
    have HME := hid hmem
    have HRT := hid hrs
    clear hbl hz hmem hrs
    by_cases hlt : k < 24
    · obtain ⟨-, d1, -, -, -, -, -⟩ := cl7 hrow
      have f1 := frozen_of_row _ _ 1 _ _ hrow
      have hkI : (k : Int) < 24 := by omega
      clear hrow
      have hA := (Below.refl wr.heap.size wr).alloc (Nat.le_refl _) (.cells #[.int .i64 65535] 2)
      have HA := hid hA
      have HO := hid (own_kept HME.out.ss hA)
      have HN : Hid (Nums (wr.alloc (.cells #[.int .i64 65535] 2)) (some ⟨wr.heap.size, 0, none⟩) [65535]) := .inr ⟨_, 0, rfl, fun i hi => by
        have : i = 0 := by simpa using hi
        subst this
        exact cell_of_row _ _ 0 _ _ _ (heap_alloc_new wr _)⟩
      have HLK := hid (HKL.out k)
      clear hA
      go_wp2_with (at_builtin; refine wpList_append_nums rfl _ _ rfl W.heap.size _ (stK zs k).stk [65535] (by rfl) HO.out (some ⟨wr.heap.size, 0, none⟩) 1 (by rfl) HN.out (by simp) (by simp) (by rw [HLK.out]; simp; omega) (by have := HPW.out; simp; omega) ?_)
      intro v' w4 ho hg hv
      obtain ⟨a4, c4, rfl⟩ := own_shape ho.out
      have HR4 := hid (regs_more HRW.out HME.out HA.out (by have := HPW.out; omega) ho.out hg.out (hv.out.imp id (fun h => ⟨_, Nat.le_succ _, h⟩)))
      have hG := MemO.grown HME.out HRW.out HA.out (by have := HPW.out; omega) hg.out
      have HB4 := hid hG.2
      obtain ⟨-, d4, -, -, -, -, -⟩ := cl7 hG.1
      have f4 := frozen_of_row _ _ 1 _ _ hG.1
      clear hG ho hg hv HO HN d1 f1
      have hle : ((stK zs k).stk ++ [(65535 : Int)]).length = (stK zs k).stk.length + 1 := by simp
      rw [HK.out, hle] at HR4
      clear hle
      go_wp2_with fail
      go_roundw
      case rel =>
        refine ⟨k + 1, by omega, by go_num, HR4.out, HBL.out.trans ((HB4.out.setCell (p := ⟨p, 1, none⟩) (by have := HPW.out; simp; omega) _).mono (by have := HS.out; omega)), ?_⟩
        rw [heap_setCell_other _ _ _ _ (by have := HPW.out; have := HS.out; show w.heap.size ≠ p; omega)]
        exact (HB4.out.block _ (by have := HS.out; omega)).trans HZR.out
      case measure => simp [intOf]; omega
    · have hk2 : k = 24 := by omega
      subst hk2
      have hrow2 := HRW.out
      rw [HKV.out] at hrow2
      obtain ⟨d0, d1, d2, d3, d4, d5, d6⟩ := cl7 hrow2
      obtain ⟨g0, g1, g2, g3, g4, g5, g6⟩ := cl7 HZR.out
      obtain ⟨f0, f1, f2, f3, f4, f5, f6⟩ := fl7 HZR.out
      have hRB : w.heap.size < W.heap.size := by have := HS.out; omega
      have hE := fill7 w.heap.size wr (stK zs 24) (.slice x1 (stK zs 24).stk.length y1) (.slice x2 (stK zs 24).cells.length y2)
      have hm := HME.out
      have HF : Hid (MachR w.heap.size w _ (.returned (machVs (stK zs 24) (.slice x1 (stK zs 24).stk.length y1) (.slice x2 (stK zs 24).cells.length y2))) (stK zs 24)) :=
        ⟨_, _, rfl, own_mono (own_sole hm.ss hE (fun e => by have := (hm.ss.lt _ e).1; omega)) (by omega), own_mono (own_sole hm.cs hE (fun e => by have := (hm.cs.lt _ e).1; omega)) (by omega), hm.d3, HBL.out.trans (hE.bel.mono (Nat.le_refl _))⟩
      have hf := HKF.out
      clear hrow hrow2 hE hm HRW HME HZR HBL HPW HRT hlt hk HKV HK HKL HKC HK0
      generalize (stK zs 24).stk.length = l1 at *
      generalize (stK zs 24).cells.length = l2 at *
      go_wp2_with fail
      refine bodyPost_ret (v := .agg #[.int .i64 0, .slice x1 l1 y1, .slice x2 l2 y2, .int .i64 0, .int .i64 0, .int .i64 0, .bool false]) (by simp [results, Try.results84, go_sem, g0, g1, g2, g3, g4, g5, g6]) rfl ?_
      rw [← hf]
      exact HF.out
end Go.Proofs.Ytcikofhbfncgdaa
namespace Go.Proofs.Ytcikofhbfncgdaa
open Go.RowKit
set_option linter.unusedVariables false
attribute [local go_sem ↓] Go.wp_at_zero Go.wp_at_succ

abbrev filled7G (W : World) (r : Nat) (m : SM) (sv cv : Value) : World := (((((((W.setCell ⟨r, 0, none⟩ (.int .i64 m.pc)).setCell ⟨r, 1, none⟩ sv).setCell ⟨r, 2, none⟩ cv).setCell ⟨r, 3, none⟩ (.int .i64 m.sig)).setCell ⟨r, 4, none⟩ (.int .i64 m.used)).setCell ⟨r, 5, none⟩ (.int .i64 m.trap)).setCell ⟨r, 6, none⟩ (.bool m.done))
theorem filled7_rowG {W : World} {r : Nat} {m m0 : SM} {sv cv s0 c0 : Value} {T : TypeId} (h : W.heap[r]? = some (.cells (lineS m0 s0 c0) T (0, 0))) : (filled7G W r m sv cv).heap[r]? = some (.cells (lineS m sv cv) T (0, 0)) := by
  have hO := heap_setCell_same _ r 6 _ _ (.bool m.done) (heap_setCell_same _ r 5 _ _ (.int .i64 m.trap) (heap_setCell_same _ r 4 _ _ (.int .i64 m.used) (heap_setCell_same _ r 3 _ _ (.int .i64 m.sig) (heap_setCell_same _ r 2 _ _ cv (heap_setCell_same _ r 1 _ _ sv (heap_setCell_same W r 0 _ _ (.int .i64 m.pc) h))))))
  simp at hO
  exact hO
/-- the machine of a run stored back behind a step -/
theorem run_backG {B p : Nat} {w W : World} {m r : SM} {sv cv s' c' : Value} (hrow : w.heap[p]? = some (.cells (lineS m sv cv) 28 (0, 0))) (hp : B ≤ p) (hs : Own W w.heap.size s' r.stk) (hc : Own W w.heap.size c' r.cells) (hd : ∀ g, s'.ownBlock = some g → c'.ownBlock ≠ some g) (hb : Below w.heap.size w W) : RunT B (filled7G W p r s' c') p r := by
  have hE := fill7 p W r s' c'
  have hlt := (Array.getElem?_eq_some_iff.1 hrow).1
  exact ⟨s', c', filled7_rowG (blk8 hrow hb), own_mono (own_sole hs hE (fun e => by have := (hs.lt _ e).1; omega)) (by omega), own_mono (own_sole hc hE (fun e => by have := (hc.lt _ e).1; omega)) (by omega), hp, fun e => by have := (hs.lt _ e).1; omega, fun e => by have := (hc.lt _ e).1; omega, hd⟩
/-- the result's block filled with the machine at the end -/
theorem run_endG {B p R : Nat} {w W : World} {m : SM} {sv cv : Value} (hm : MemO B W p sv cv m) (hR : R < B) (hw : w.heap.size ≤ R) (hb : Below w.heap.size w W) : MachR w.heap.size w (filled7G W R m sv cv) (.returned (machVs m sv cv)) m := by
  have hE := fill7 R W m sv cv
  exact ⟨sv, cv, rfl, own_mono (own_sole hm.ss hE (fun e => by have := (hm.ss.lt _ e).1; omega)) (by omega), own_mono (own_sole hm.cs hE (fun e => by have := (hm.cs.lt _ e).1; omega)) (by omega), hm.d3, hb.trans (hE.bel.mono hw)⟩
theorem goes_noG {m : SM} (h : goes m = false) : m.done = true ∨ (m.done = false ∧ (m.trap == 0) = false ∧ decide (m.trap = 0) = false) := by
  unfold goes at h
  cases hq : m.done
  · right
    rw [hq] at h
    have h2 : (m.trap == 0) = false := by simpa using h
    exact ⟨rfl, h2, by simpa using h2⟩
  · exact .inl rfl
theorem goes_yesG {m : SM} (h : goes m = true) : m.done = false ∧ m.trap = 0 := by
  unfold goes at h
  simpa using h

set_option maxHeartbeats 6400000 in
set_option maxRecDepth 100000 in
theorem l10Run_any (a : Option Addr) (zs : List Int) (c : Nat) (a3 : Option Addr) (ys : List Int) (c3 : Nat) (b : Int) (w : World) (hn : Nums w a zs) (hl : zs.length ≤ 400) (hzc : zs.length ≤ c) (hw : wordsB zs = true) (hy : Nums w a3 ys) (hc3 : a3 = none → c3 = 0) (hyl : ys.length ≤ 1048576) (hg : RGood (startRM ys)) (hb0 : 0 ≤ b) (hb1 : b ≤ 20000) :
    Calls Try.prog 72 #[.slice a zs.length c, .slice a3 ys.length c3, .int .i64 b] w fun e w' => ∃ r, REnds zs b (startRM ys) r ∧ MachR w.heap.size w w' e r := by
  have hW := (Below.refl w.heap.size w).alloc (Nat.le_refl _) (.cells zeroLine 28)
  have HW : Hid (Below w.heap.size w (w.alloc (.cells zeroLine 28)) ∧ (w.alloc (.cells zeroLine 28)).heap[w.heap.size]? = some (.cells zeroLine 28 (0, 0)) ∧ Nums (w.alloc (.cells zeroLine 28)) a3 ys ∧ (w.alloc (.cells zeroLine 28)).heap.size = w.heap.size + 1) := ⟨hW, heap_alloc_new _ _, hy.below hW, by simp⟩
  have HZ : Hid ((a3 = none → c3 = 0) ∧ (a3 = none → ys = []) ∧ ys.length ≤ 1048576) := ⟨hc3, rowZ hy, hyl⟩
  have HST : Hid (∀ (B0 : Nat) (m : SM) (sv cv : Value) (W : World), Below w.heap.size w W → Own W B0 sv m.stk → Own W B0 cv m.cells → goes m = true → RGood m → Calls Try.prog 91 #[.slice a zs.length c, machVs m sv cv] W fun e w' => MachR W.heap.size W w' e (stepRL zs m)) := fun B0 m sv cv W hb hs hc hgo hgm => l8Step_goG B0 m sv cv a zs c W hs hc hgo hgm (hn.below hb) hl hzc hw
  have HGD : Hid (∀ m, RGood m → RGood (stepRL zs m)) := fun m h => stepRL_good h hw hl
  have HG0 := hid hg
  have HB1 := hid hb1
  have HSTA : Hid (∀ W, Below w.heap.size w W → Calls Try.prog 84 #[.slice a3 ys.length c3] W fun e w' => MachR W.heap.size W w' e (startRM ys)) := fun W hb => l10Start_any a3 ys c3 W (hy.below hb) hc3 hyl
  clear hW hn hy hc3 hyl hg hw hl hzc HZ
  generalize startRM ys = M0 at *
  generalize hL : ys.length = L at *
  generalize zs.length = nz at *
  go_enter Try.func72, Try.ntmps72
  go_upto_region 1 with fail
  generalize w.alloc (.cells zeroLine 28) = W at *
  obtain ⟨x1, x2, x3, x4⟩ := HW.out
  have HB := hid x1
  have HA0 := hid x2
  have HS := hid x4
  clear x1 x2 x3 x4 HW
  go_wp2_with fail
  refine (HSTA.out W HB.out).mono ?_
  rintro e w2 ⟨s2, c2, rfl, o1, o2, o3, b2⟩
  obtain ⟨aq, ks, rfl⟩ := own_shape o1
  obtain ⟨a2, k2, rfl⟩ := own_shape o2
  have y3 := heap_alloc_new w2 (.cells (lineS M0 (.slice aq M0.stk.length ks) (.slice a2 M0.cells.length k2)) 28)
  have b3 := (Below.refl w2.heap.size w2).alloc (Nat.le_refl _) (.cells (lineS M0 (.slice aq M0.stk.length ks) (.slice a2 M0.cells.length k2)) 28)
  have HB3 : Hid (Below W.heap.size W (w2.alloc (.cells (lineS M0 (.slice aq M0.stk.length ks) (.slice a2 M0.cells.length k2)) 28))) := b2.trans (b3.mono b2.size)
  have HRS : Hid (RunT W.heap.size (w2.alloc (.cells (lineS M0 (.slice aq M0.stk.length ks) (.slice a2 M0.cells.length k2)) 28)) w2.heap.size M0) :=
    ⟨_, _, y3, o1.alloc _, o2.alloc _, b2.size, fun e => by have := (o1.lt _ e).2; omega, fun e => by have := (o2.lt _ e).2; omega, o3⟩
  clear y3 b3 o1 o2 o3 b2 HSTA
  generalize hls : M0.stk.length = l1 at *
  generalize hlc : M0.cells.length = l2 at *
  clear hls hlc
  go_upto_region 2 with fail
  generalize w2.alloc (.cells (lineS M0 (.slice aq l1 ks) (.slice a2 l2 k2)) 28) = W3 at *
  generalize w2.heap.size = p at *
  have HBW : Hid (Below w.heap.size w W3) := HB.out.trans (HB3.out.mono HB.out.size)
  have HA3 := hid (blk8 HA0.out HB3.out)
  clear HB HB3 HA0
  go_loopw [] (fun wr => ∃ m : SM, RunT W.heap.size wr p m ∧ RGood m ∧ (∀ r, REnds zs b m r → REnds zs b M0 r) ∧ Below w.heap.size w wr ∧ wr.heap[w.heap.size]? = some (.cells zeroLine 28 (0, 0)))
    (fun wr => (b - intOf ((wr.cell? ⟨p, 4, none⟩).getD (.int .i64 0))).toNat)
  case atStart => exact ⟨M0, HRS.out, HG0.out, fun r h => h, HBW.out, HA3.out⟩
  case round =>
    obtain ⟨m, hrs, hgm, hen, hbl, hz⟩ := hrel
    obtain ⟨sv, cv, hrow, hmem⟩ := id hrs
    obtain ⟨x1, y1, rfl⟩ := own_shape hmem.ss
    obtain ⟨x2, y2, rfl⟩ := own_shape hmem.cs
    obtain ⟨d0, d1, d2, d3, d4, d5, d6⟩ := RunT.cells hrow
    obtain ⟨g0, g1, g2, g3, g4, g5, g6⟩ := cl7 hz
    obtain ⟨f0, f1, f2, f3, f4, f5, f6⟩ := fl7 hz
    have hRB : w.heap.size < W.heap.size := by have := HS.out; omega
    have HEN := hid hen
    have HBL := hid hbl
    have HZR := hid hz
    have HRW := hid hrow
    have HME := hid hmem
    have HGM := hid hgm
    clear hen hbl hz hrow hmem hgm hrs
    cases hgo : goes m
    · have hf := run_endG HME.out hRB (Nat.le_refl _) HBL.out
      dsimp only [filled7G] at hf
      have HF := hid hf
      have HR := hid (HEN.out _ (.stop hgo))
      clear hf
      have hT := goes_noG hgo
      clear hgo HEN HBL HZR HRW HME HGM hRB
      generalize m.stk.length = l1 at *
      generalize m.cells.length = l2 at *
      generalize hdn : m.done = dn at *
      have hm : machVs m (.slice x1 l1 y1) (.slice x2 l2 y2) = .agg #[.int .i64 m.pc, .slice x1 l1 y1, .slice x2 l2 y2, .int .i64 m.sig, .int .i64 m.used, .int .i64 m.trap, .bool dn] := by rw [← hdn]
      have HM := hid hm
      clear hm hdn
      rcases hT with hT | ⟨hT, hT2, hT3⟩
      all_goals
        subst hT
        go_wp2_with fail
        refine bodyPost_ret (v := .agg #[.int .i64 m.pc, .slice x1 l1 y1, .slice x2 l2 y2, .int .i64 m.sig, .int .i64 m.used, .int .i64 m.trap, .bool _]) (by simp [results, Try.results72, go_sem, g0, g1, g2, g3, g4, g5, g6]; rfl) rfl ?_
        have := HF.out
        rw [HM.out] at this
        exact ⟨m, HR.out, this⟩
    · obtain ⟨hdn, htr⟩ := goes_yesG hgo
      have hq5 : (m.trap == 0) = true := by rw [htr]; rfl
      have hq6 : decide (m.trap = 0) = true := decide_eq_true htr
      clear htr
      by_cases hu : b ≤ m.used
      · have hq7 : decide (b ≤ m.used) = true := decide_eq_true hu
        have v5 := (fl7 HRW.out).2.2.2.2.2.1
        have HR := hid (HEN.out _ (.many hgo hu))
        have hpR : w.heap.size ≠ p := by have := HME.out.pB; omega
        have hr5 : RunT W.heap.size (wr.setCell ⟨p, 5, none⟩ (.int .i64 2)) p (manyM m) := RunT.fld (m' := manyM m) ⟨_, _, HRW.out, HME.out⟩ 5 _ (fun _ _ => rfl) rfl rfl
        have hz5 := (heap_setCell_other wr ⟨p, 5, none⟩ w.heap.size (.int .i64 2) hpR).trans HZR.out
        have hb5 := HBL.out.setCell (p := ⟨p, 5, none⟩) (by have := HME.out.pB; show w.heap.size ≤ p; omega) (.int .i64 2)
        have HR5 := hid hr5
        have HZ5 := hid hz5
        have HB5 := hid hb5
        clear hr5 hz5 hb5 hpR hu hgo HEN HBL HZR HRW HME HGM g0 g1 g2 g3 g4 g5 g6 f0 f1 f2 f3 f4 f5 f6
        go_upto_region 5 with fail
        generalize wr.setCell ⟨p, 5, none⟩ (.int .i64 2) = Z at *
        clear d0 d1 d2 d3 d4 d5 d6 v5 hdn hq5 hq6 hq7
        generalize manyM m = r at *
        obtain ⟨sv, cv, hrow, hmem⟩ := id HR5.out
        obtain ⟨x3, y3, rfl⟩ := own_shape hmem.ss
        obtain ⟨x4, y4, rfl⟩ := own_shape hmem.cs
        obtain ⟨d0, d1, d2, d3, d4, d5, d6⟩ := RunT.cells hrow
        obtain ⟨g0, g1, g2, g3, g4, g5, g6⟩ := cl7 HZ5.out
        obtain ⟨f0, f1, f2, f3, f4, f5, f6⟩ := fl7 HZ5.out
        have hf := run_endG hmem hRB (Nat.le_refl _) HB5.out
        dsimp only [filled7G] at hf
        have HF := hid hf
        clear hf hrow hmem hRB HR5 HZ5 HB5
        generalize r.stk.length = l1 at *
        generalize r.cells.length = l2 at *
        go_wp2_with fail
        refine bodyPost_ret (v := .agg #[.int .i64 r.pc, .slice x3 l1 y3, .slice x4 l2 y4, .int .i64 r.sig, .int .i64 r.used, .int .i64 r.trap, .bool r.done]) (by simp [results, Try.results72, go_sem, g0, g1, g2, g3, g4, g5, g6]) rfl ?_
        exact ⟨r, HR.out, HF.out⟩
      · have hq7 : decide (b ≤ m.used) = false := decide_eq_false hu
        have HU : Hid (m.used < b) := by unfold Hid; omega
        have HGO := hid hgo
        have HFR := hid (fl7 HRW.out)
        clear hu hgo g0 g1 g2 g3 g4 g5 g6 f0 f1 f2 f3 f4 f5 f6
        go_upto_region 6 with fail
        clear hdn hq5 hq6 hq7
        have HC := hid (HST.out W.heap.size m _ _ wr HBL.out HME.out.ss HME.out.cs HGO.out HGM.out)
        have HGR := hid (HGD.out m HGM.out)
        have HES : Hid (∀ r, REnds zs b (stepRL zs m) r → REnds zs b M0 r) := fun r h => HEN.out r (.step HGO.out HU.out h)
        have HUS : Hid ((stepRL zs m).used = m.used + 1) := by
          unfold Hid
          rw [stepL_usedG]
          exact usedM_more HGM.out.used0 (by have := HU.out; have := HB1.out; omega)
        have HU4 := hid d4
        clear HEN HGO HGM HST HGD HG0
        generalize stepRL zs m = r at *
        go_wp2_with (go_at_call 91; refine HC.out.mono ?_; rintro e w4 ⟨s', c', rfl, ho1, ho2, hd3, hb4⟩; obtain ⟨x3, y3, rfl⟩ := own_shape ho1; obtain ⟨x4, y4, rfl⟩ := own_shape ho2; have hrow4 := blk8 HRW.out hb4; obtain ⟨t0, t1, t2, t3, t4, t5, t6⟩ := RunT.cells hrow4; obtain ⟨f0, f1, f2, f3, f4, f5, f6⟩ := fl7 hrow4; have HRB := hid (run_backG HRW.out HME.out.pB ho1 ho2 hd3 hb4); have HBB := hid (HBL.out.trans (hb4.mono HBL.out.size)); have HZB := hid (blk8 HZR.out hb4); have HE4 := hid (fill7 p w4 r (.slice x3 r.stk.length y3) (.slice x4 r.cells.length y4)); have hpp := HME.out.pB; have HCM := hid (RunT.cells (filled7_rowG (m := r) (sv := .slice x3 r.stk.length y3) (cv := .slice x4 r.cells.length y4) hrow4)).2.2.2.2.1; clear hrow4 hb4 ho1 ho2 hd3 HRW HME HC HBL HZR d0 d1 d2 d3 d4 d5 d6)
        refine ⟨⟨r, HRB.out, HGR.out, HES.out, HBB.out.trans (HE4.out.bel.mono (by omega)), (HE4.out.oth _ (by omega)).trans HZB.out⟩, ?_⟩
        have hcm := HCM.out
        dsimp only [filled7G] at hcm
        rw [hcm, HU4.out]
        have h1 := HUS.out
        have h2 := HU.out
        simp [intOf]
        omega
end Go.Proofs.Ytcikofhbfncgdaa
