/-
  spec's StartRegs.
-/
import Derived.Test.YtjofghelenfklaaRgS8a
import Derived.Test.YtjofghelenfklaaRgS1
import Derived.Test.YtjofghelenfklaaStkRes
import Derived.Deep.RegionHeld3
namespace Go.Proofs.Ytjofghelenfklaa
open Go.RowKit
set_option linter.unusedVariables false
attribute [local go_sem ↓] Go.wp_at_zero Go.wp_at_succ

set_option maxHeartbeats 6400000 in
set_option maxRecDepth 100000 in
theorem sStartR_any (a : Option Addr) (zs : List Int) (c : Nat) (w : World) (hn : Nums w a zs) (hc : a = none → c = 0) (hl : zs.length ≤ 1048576) :
    Calls Try.prog 28 #[.slice a zs.length c] w fun e w' => ResR w w' e (startRC zs) (startRR zs) := by
  have hW := (Below.refl w.heap.size w).alloc (Nat.le_refl _) (.cells zero8 30)
  have HW : Hid (Below w.heap.size w (w.alloc (.cells zero8 30)) ∧ (w.alloc (.cells zero8 30)).heap[w.heap.size]? = some (.cells zero8 30 (0, 0))) := ⟨hW, heap_alloc_new _ _⟩
  have HST : Hid (∀ W, Below w.heap.size w W → Calls Try.prog 84 #[.slice a zs.length c] W fun e w' => ∃ a1 c1 a2 c2, e = .returned (.agg #[.int .i64 0, .slice a1 (startRM zs).stk.length c1, .slice a2 (startRM zs).cells.length c2, .int .i64 0, .int .i64 0, .int .i64 0, .bool false]) ∧ Own w' W.heap.size (.slice a1 (startRM zs).stk.length c1) (startRM zs).stk ∧ Own w' W.heap.size (.slice a2 (startRM zs).cells.length c2) (startRM zs).cells ∧ (∀ g, (Value.slice a1 (startRM zs).stk.length c1).ownBlock = some g → (Value.slice a2 (startRM zs).cells.length c2).ownBlock ≠ some g) ∧ Below W.heap.size W w') := fun W h => (l10Start_any a zs c W (hn.below h) hc hl).mono fun e w' ⟨s, v, h1, h2, h3, h4, h5⟩ => by
    obtain ⟨a1, c1, rfl⟩ := own_shape h2
    obtain ⟨a2, c2, rfl⟩ := own_shape h3
    exact ⟨a1, c1, a2, c2, h1, h2, h3, h4, h5⟩
  have HCF : Hid (∀ W q s v, W.heap[q]? = some (.cells #[.int .i64 0, s, v, .int .i64 0, .int .i64 0, .int .i64 0, .bool false] 28 (0, 0)) → RowV W s (startRM zs).stk → RowV W v (startRM zs).cells → Calls Try.prog 85 #[.pointer (some ⟨q, 0, none⟩)] W fun e w' => e = .returned (.int .i64 (startRC zs)) ∧ w' = W) := fun W q s v hq hs hv => l10Fault_any q (startRM zs) _ _ W hq hs hv (by show (List.replicate 24 _).length ≤ _; simp) hl
  have HR : Hid ((startRC zs = 0 → startRR zs = startRM zs) ∧ (startRC zs ≠ 0 → startRR zs = zeroM)) := ⟨fun h => if_pos h, fun h => if_neg h⟩
  have HV : Hid (∀ s v, resV 0 (startRM zs) s v = .agg #[.int .i64 0, .int .i64 0, s, v, .int .i64 0, .int .i64 0, .int .i64 0, .bool false]) := fun _ _ => rfl
  have HMA : Hid (∀ (W : World) (r B : Nat) (sv cv : Value), w.heap.size ≤ r → r < B → Own W B sv (startRM zs).stk → Own W B cv (startRM zs).cells → (∀ g, sv.ownBlock = some g → cv.ownBlock ≠ some g) → Below w.heap.size w W → ResR w ((((((((W.setCell ⟨r, 0, none⟩ (.int .i64 0)).setCell ⟨r, 1, none⟩ (.int .i64 0)).setCell ⟨r, 2, none⟩ sv).setCell ⟨r, 3, none⟩ cv).setCell ⟨r, 4, none⟩ (.int .i64 0)).setCell ⟨r, 5, none⟩ (.int .i64 0)).setCell ⟨r, 6, none⟩ (.int .i64 0)).setCell ⟨r, 7, none⟩ (.bool false)) (.returned (resV 0 (startRM zs) sv cv)) 0 (startRM zs)) := fun W r B sv cv h1 h2 h3 h4 h5 h6 => res_mach w W r B (startRM zs) sv cv h1 h2 h3 h4 h5 h6
  clear hW hn hc hl
  generalize startRC zs = F at *
  generalize startRR zs = R at *
  generalize startRM zs = M at *
  generalize hL : zs.length = L at *
  generalize hM1 : M.stk.length = l1 at *
  generalize hM2 : M.cells.length = l2 at *
  go_enter Try.func28, Try.ntmps28
  go_upto_region 1 with fail
  generalize w.alloc (.cells zero8 30) = W at *
  obtain ⟨x1, x2⟩ := HW.out
  have HB := hid x1
  have HA0 := hid x2
  have HWS : Hid (w.heap.size < W.heap.size) := (Array.getElem?_eq_some_iff.1 x2).1
  clear x1 x2 HW
  go_upto_region 2 with (go_at_call 84; refine (HST.out W HB.out).mono ?_; rintro e w2 ⟨a1, c1, a2, c2, rfl, o1, o2, o3, b2⟩)
  have y3 := heap_alloc_new w2 (.cells #[.int .i64 0, .slice a1 l1 c1, .slice a2 l2 c2, .int .i64 0, .int .i64 0, .int .i64 0, .bool false] 28)
  have b3 := (Below.refl w2.heap.size w2).alloc (Nat.le_refl _) (.cells #[.int .i64 0, .slice a1 l1 c1, .slice a2 l2 c2, .int .i64 0, .int .i64 0, .int .i64 0, .bool false] 28)
  have HO1 := hid (o1.alloc (.cells #[.int .i64 0, .slice a1 l1 c1, .slice a2 l2 c2, .int .i64 0, .int .i64 0, .int .i64 0, .bool false] 28))
  have HO2 := hid (o2.alloc (.cells #[.int .i64 0, .slice a1 l1 c1, .slice a2 l2 c2, .int .i64 0, .int .i64 0, .int .i64 0, .bool false] 28))
  have HD := hid o3
  have HB3 := hid (b2.trans (b3.mono b2.size))
  have HY := hid y3
  clear o1 o2 o3 b2 b3 y3
  generalize w2.alloc (.cells #[.int .i64 0, .slice a1 l1 c1, .slice a2 l2 c2, .int .i64 0, .int .i64 0, .int .i64 0, .bool false] 28) = W3 at *
  generalize w2.heap.size = q at *
  have HA3 := hid (blk8 HA0.out HB3.out)
  have HBW : Hid (Below w.heap.size w W3) := HB.out.trans (HB3.out.mono HB.out.size)
  have HC := hid (HCF.out W3 q _ _ HY.out (by have := own_row HO1.out; exact this) (by have := own_row HO2.out; exact this))
  obtain ⟨d0, d1, d2, d3, d4, d5, d6⟩ := cl7 HY.out
  obtain ⟨g0, g1, g2, g3, g4, g5, g6, g7⟩ := cl8 HA3.out
  obtain ⟨f0, f1, f2, f3, f4, f5, f6, f7⟩ := fl8 HA3.out
  clear HCF HA0 HB HB3 HST
  by_cases hF : F = 0
  · have hR := HR.out.1 hF
    have HF := hid (HMA.out W3 w.heap.size W.heap.size _ _ (Nat.le_refl _) HWS.out HO1.out HO2.out HD.out HBW.out)
    rw [HV.out] at HF
    subst hF hR
    clear HO1 HO2 HD HBW HA3 HY HR HWS HMA HV
    go_wp2_with (go_at_call 85; refine HC.out.mono ?_; rintro e w5 ⟨rfl, hw5⟩; have hw6 := hw5.symm; clear hw5; subst hw6)
    refine bodyPost_ret (v := .agg #[.int .i64 0, .int .i64 0, .slice a1 l1 c1, .slice a2 l2 c2, .int .i64 0, .int .i64 0, .int .i64 0, .bool false]) (by simp [results, Try.results28, go_sem, g0, g1, g2, g3, g4, g5, g6, g7]; try rfl) rfl ?_
    exact HF.out
  · have hR := HR.out.2 hF
    subst hR
    have eF : (F != 0) = true := by simpa using hF
    have HF : Hid _ := res_code w W3 w.heap.size F (Nat.le_refl _) HBW.out
    clear HO1 HO2 HD HBW HA3 HY HR HWS hF HMA HV
    go_wp2_with (go_at_call 85; refine HC.out.mono ?_; rintro e w5 ⟨rfl, hw5⟩; have hw6 := hw5.symm; clear hw5; subst hw6)
    refine bodyPost_ret (v := codeV F) (by simp [results, Try.results28, go_sem, g0, g1, g2, g3, g4, g5, g6, g7]; try rfl) rfl ?_
    exact HF.out
end Go.Proofs.Ytjofghelenfklaa
