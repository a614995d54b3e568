/-
  spec's StartStack, StepStack.
-/
import Derived.Test.YtjofghelenfklaaSStk1
import Derived.Test.YtjofghelenfklaaStkSole
import Derived.Deep.Cut
import Derived.Deep.RegionHeld3
import Derived.Test.YtjofghelenfklaaStkRes
import Derived.Test.YtjofghelenfklaaSFlt
namespace Go.Proofs.Ytjofghelenfklaa
open Go.RowKit
set_option linter.unusedVariables false
attribute [local go_sem ↓] Go.wp_at_zero Go.wp_at_succ

set_option maxHeartbeats 6400000 in
set_option maxRecDepth 100000 in
theorem sStart_any (a : Option Addr) (zs : List Int) (c : Nat) (w : World) (hn : Nums w a zs) (hc : a = none → c = 0) (hl : zs.length ≤ 1048576) :
    Calls Try.prog 27 #[.slice a zs.length c] w fun e w' => ResR w w' e (startC zs) (startR zs) := by
  have hW := (Below.refl w.heap.size w).alloc (Nat.le_refl _) (.cells zero8 41)
  have HW : Hid (Below w.heap.size w (w.alloc (.cells zero8 41)) ∧ (w.alloc (.cells zero8 41)).heap[w.heap.size]? = some (.cells zero8 41 (0, 0)) ∧ Nums (w.alloc (.cells zero8 41)) a zs) := ⟨hW, heap_alloc_new _ _, hn.below hW⟩
  have HZ : Hid ((a = none → c = 0) ∧ (a = none → zs = []) ∧ zs.length ≤ 1048576) := ⟨hc, rowZ hn, hl⟩
  have HCF : Hid (∀ W q v, W.heap[q]? = some (.cells (lineS (startM zs) (.slice none 0 0) v) 39 (0, 0)) → RowV W v zs → Calls Try.prog 83 #[.pointer (some ⟨q, 0, none⟩)] W fun e w' => e = .returned (.int .i64 (startC zs)) ∧ w' = W) := fun W q v hq hv => l8Fault_any q (startM zs) _ _ W hq ⟨none, 0, rfl, .inl rfl, fun _ => rfl⟩ hv (by show 0 ≤ _; omega) hl
  have HR : Hid ((startC zs = 0 → startR zs = startM zs) ∧ (startC zs ≠ 0 → startR zs = zeroM)) := ⟨fun h => if_pos h, fun h => if_neg h⟩
  clear hW hn hc hl
  generalize startC zs = F at *
  generalize startR zs = R at *
  generalize hL : zs.length = L at *
  go_enter Try.func27, Try.ntmps27
  go_upto_region 1 with fail
  generalize w.alloc (.cells zero8 41) = W at *
  obtain ⟨x1, x2, x3⟩ := HW.out
  have HB : Hid (Below w.heap.size w W) := x1
  have HA0 : Hid (W.heap[w.heap.size]? = some (.cells zero8 41 (0, 0))) := x2
  have hA := (Below.refl W.heap.size W).alloc (Nat.le_refl _) (.cells #[] 2)
  have HA : Hid (Below W.heap.size W (W.alloc (.cells #[] 2))) := hA
  have HO : Hid (Own (W.alloc (.cells #[] 2)) W.heap.size (.slice (some ⟨W.heap.size, 0, none⟩) 0 0) []) := own_new W _ (Nat.le_refl _)
  have HN : Hid (Nums (W.alloc (.cells #[] 2)) a zs) := x3.below hA
  clear x1 x2 x3 hA HW
  go_wp2_with (at_builtin; refine wpList_append_nums rfl _ _ rfl W.heap.size _ [] zs (by rfl) HO.out a c (by rw [hL]; rfl) HN.out HZ.out.1 HZ.out.2.1 (by have := HZ.out.2.2; simp; omega) (by simp) ?_)
  intro v' w2 ho hg hv
  obtain ⟨a2, c2, rfl⟩ := own_shape ho.out
  try simp only [List.nil_append] at ho
  try simp only [List.nil_append]
  try rw [hL] at ho
  try rw [hL]
  have HB2 : Hid (Below W.heap.size W w2) := HA.out.grown hg.out (by simp) (fun k hk => by simp [Value.ownBlock] at hk; omega)
  have HO2 : Hid (Own w2 W.heap.size (.slice a2 L c2) zs) := ho.out
  clear ho hg hv HA HO HN
  go_upto_region 2 with fail
  have y3 := heap_alloc_new w2 (.cells (lineS (startM zs) (.slice none 0 0) (.slice a2 L c2)) 39)
  have b3 := (Below.refl w2.heap.size w2).alloc (Nat.le_refl _) (.cells (lineS (startM zs) (.slice none 0 0) (.slice a2 L c2)) 39)
  have HO3 : Hid (Own (w2.alloc (.cells (lineS (startM zs) (.slice none 0 0) (.slice a2 L c2)) 39)) W.heap.size (.slice a2 L c2) zs) := HO2.out.alloc _
  have HB3 : Hid (Below W.heap.size W (w2.alloc (.cells (lineS (startM zs) (.slice none 0 0) (.slice a2 L c2)) 39))) := HB2.out.trans (b3.mono HB2.out.size)
  have HY : Hid ((w2.alloc (.cells (lineS (startM zs) (.slice none 0 0) (.slice a2 L c2)) 39)).heap[w2.heap.size]? = some (.cells (lineS (startM zs) (.slice none 0 0) (.slice a2 L c2)) 39 (0, 0))) := y3
  clear y3 b3 HO2 HB2
  have e9 : w2.alloc (.cells (lineS (startM zs) (.slice none 0 0) (.slice a2 L c2)) 39) = w2.alloc (.cells #[.int .i64 0, .slice none 0 0, .slice a2 L c2, .int .i64 0, .int .i64 0, .int .i64 0, .bool false] 39) := rfl
  rw [e9] at HO3 HB3 HY
  clear e9
  generalize w2.alloc (.cells #[.int .i64 0, .slice none 0 0, .slice a2 L c2, .int .i64 0, .int .i64 0, .int .i64 0, .bool false] 39) = W3 at *
  generalize w2.heap.size = q at *
  have HA3 : Hid (W3.heap[w.heap.size]? = some (.cells zero8 41 (0, 0))) := blk8 HA0.out HB3.out
  have HBW : Hid (Below w.heap.size w W3) := HB.out.trans (HB3.out.mono HB.out.size)
  have HWS : Hid (w.heap.size < W.heap.size) := (Array.getElem?_eq_some_iff.1 HA0.out).1
  have HC : Hid (Calls Try.prog 83 #[.pointer (some ⟨q, 0, none⟩)] W3 fun e w' => e = .returned (.int .i64 F) ∧ w' = W3) := HCF.out W3 q _ HY.out (own_row HO3.out)
  obtain ⟨d0, d1, d2, d3, d4, d5, d6⟩ := RunS.cells (m := startM zs) HY.out
  have g0 := cell_of_row _ _ 0 _ _ _ HA3.out
  have g1 := cell_of_row _ _ 1 _ _ _ HA3.out
  have g2 := cell_of_row _ _ 2 _ _ _ HA3.out
  have g3 := cell_of_row _ _ 3 _ _ _ HA3.out
  have g4 := cell_of_row _ _ 4 _ _ _ HA3.out
  have g5 := cell_of_row _ _ 5 _ _ _ HA3.out
  have g6 := cell_of_row _ _ 6 _ _ _ HA3.out
  have g7 := cell_of_row _ _ 7 _ _ _ HA3.out
  have f0 := frozen_of_row _ _ 0 _ _ HA3.out
  have f1 := frozen_of_row _ _ 1 _ _ HA3.out
  have f2 := frozen_of_row _ _ 2 _ _ HA3.out
  have f3 := frozen_of_row _ _ 3 _ _ HA3.out
  have f4 := frozen_of_row _ _ 4 _ _ HA3.out
  have f5 := frozen_of_row _ _ 5 _ _ HA3.out
  have f6 := frozen_of_row _ _ 6 _ _ HA3.out
  have f7 := frozen_of_row _ _ 7 _ _ HA3.out
  simp at g0 g1 g2 g3 g4 g5 g6 g7
  clear HCF HA0 HB HB3 HZ
  have hws := HWS.out
  by_cases hF : F = 0
  · have hR := HR.out.1 hF
    subst hF hR
    have HE : Hid _ := fill8 w.heap.size W3 (.int .i64 0) (.int .i64 (startM zs).pc) (.slice none 0 0) (.slice a2 L c2) (.int .i64 (startM zs).sig) (.int .i64 (startM zs).used) (.int .i64 (startM zs).trap) (.bool (startM zs).done)
    have HF : Hid (ResR w ((((((((W3.setCell ⟨w.heap.size, 0, none⟩ (.int .i64 0)).setCell ⟨w.heap.size, 1, none⟩ (.int .i64 (startM zs).pc)).setCell ⟨w.heap.size, 2, none⟩ (.slice none 0 0)).setCell ⟨w.heap.size, 3, none⟩ (.slice a2 L c2)).setCell ⟨w.heap.size, 4, none⟩ (.int .i64 (startM zs).sig)).setCell ⟨w.heap.size, 5, none⟩ (.int .i64 (startM zs).used)).setCell ⟨w.heap.size, 6, none⟩ (.int .i64 (startM zs).trap)).setCell ⟨w.heap.size, 7, none⟩ (.bool (startM zs).done)) (.returned (resV 0 (startM zs) (.slice none 0 0) (.slice a2 L c2))) 0 (startM zs)) :=
      ⟨_, _, rfl, own_mono (own_sole (World.ownsRow_nil W3 W.heap.size 2 1) HE.out (fun e => by have := ((World.ownsRow_nil W3 W.heap.size 2 1).lt _ e).1; omega)) (by omega), own_mono (own_sole HO3.out HE.out (fun e => by have := (HO3.out.lt _ e).1; omega)) (by omega), (fun g h => by simp [Value.ownBlock] at h), HBW.out.trans (HE.out.bel.mono (Nat.le_refl _))⟩
    clear HO3 HBW HA3 HY HR HE hws HWS
    go_wp2_with (go_at_call 83; refine HC.out.mono ?_; rintro e w5 ⟨rfl, hw5⟩; have hw6 := hw5.symm; clear hw5; subst hw6)
    refine bodyPost_ret (v := resV 0 (startM zs) (.slice none 0 0) (.slice a2 L c2)) (by simp [results, Try.results27, go_sem, g0, g1, g2, g3, g4, g5, g6, g7]; try rfl) rfl ?_
    exact HF.out
  · have hR := HR.out.2 hF
    subst hR
    have eF : (F != 0) = true := by simpa using hF
    have HF : Hid _ := res_code w W3 w.heap.size F (Nat.le_refl _) HBW.out
    clear HO3 HBW HA3 HY HR hws HWS hF
    go_wp2_with (go_at_call 83; refine HC.out.mono ?_; rintro e w5 ⟨rfl, hw5⟩; have hw6 := hw5.symm; clear hw5; subst hw6)
    refine bodyPost_ret (v := codeV F) (by simp [results, Try.results27, go_sem, g0, g1, g2, g3, g4, g5, g6, g7]; try rfl) rfl ?_
    exact HF.out
end Go.Proofs.Ytjofghelenfklaa
