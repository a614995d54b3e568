/-
  impl's StartRegs.
-/
import Derived.Test.YtjofghelenfklaaRgI11
import Derived.Test.YtjofghelenfklaaRgRep
import Derived.Test.YtjofghelenfklaaStkRes
namespace Go.Proofs.Ytjofghelenfklaa
open Go.RowKit
set_option linter.unusedVariables false
attribute [local go_sem ↓] Go.wp_at_zero Go.wp_at_succ

set_option maxHeartbeats 6400000 in
set_option maxRecDepth 100000 in
theorem iStartR_any (a : Option Addr) (zs : List Int) (c : Nat) (w : World) (hn : Nums w a zs) (hc : a = none → c = 0) (hl : zs.length ≤ 1048576) :
    Calls Try.prog 25 #[.slice a zs.length c] w fun e w' => ResR w w' e (startRC zs) (startRR zs) := by
  have hW := (Below.refl w.heap.size w).alloc (Nat.le_refl _) (.cells zero8 30)
  have HW : Hid (Below w.heap.size w (w.alloc (.cells zero8 30)) ∧ (w.alloc (.cells zero8 30)).heap[w.heap.size]? = some (.cells zero8 30 (0, 0))) := ⟨hW, heap_alloc_new _ _⟩
  have HRP : Hid (∀ (W : World) (b : Nat), W.cell? ⟨b, 0, none⟩ = some (.int .i64 65535) → Calls Try.prog 81 #[.slice (some ⟨b, 0, none⟩) 1 1, .int .i64 24] W fun e w' => ∃ g, e = .returned (.slice (some ⟨g, 0, none⟩) 24 24) ∧ Own w' W.heap.size (.slice (some ⟨g, 0, none⟩) 24 24) (startRM zs).stk ∧ Below W.heap.size W w') := fun W b h => rep_any b 0 65535 W h
  have HCC : Hid (∀ W, Below w.heap.size w W → Calls Try.prog 80 #[.slice a zs.length c] W fun e w' => ∃ a' c', e = .returned (.slice a' zs.length c') ∧ Own w' W.heap.size (.slice a' zs.length c') (startRM zs).cells ∧ Below W.heap.size W w') := fun W h => (clone_any _ zs W (RowV.below ⟨a, c, rfl, hn, hc⟩ h) hl).mono fun e w' ⟨v', h1, h2, h3⟩ => by
    obtain ⟨a', c', rfl⟩ := own_shape h2
    exact ⟨a', c', h1, h2, h3⟩
  have HCF : Hid (∀ W s v, RowV W s (startRM zs).stk → RowV W v (startRM zs).cells → Calls Try.prog 21 #[.agg #[.int .i64 0, s, v, .int .i64 0, .int .i64 0, .int .i64 0, .bool false]] W fun e w' => e = .returned (.int .i64 (startRC zs)) ∧ Below W.heap.size W w') := fun W s v hs hv => irgFault_any (startRM zs) _ _ W hs hv (by show (List.replicate 24 _).length ≤ _; simp) hl
  have HR : Hid ((startRC zs = 0 → startRR zs = startRM zs) ∧ (startRC zs ≠ 0 → startRR zs = zeroM)) := ⟨fun h => if_pos h, fun h => if_neg h⟩
  have HV : Hid (∀ s v, resV 0 (startRM zs) s v = .agg #[.int .i64 0, .int .i64 0, s, v, .int .i64 0, .int .i64 0, .int .i64 0, .bool false]) := fun _ _ => rfl
  have HMA : Hid (∀ (W : World) (r B : Nat) (sv cv : Value), w.heap.size ≤ r → r < B → Own W B sv (startRM zs).stk → Own W B cv (startRM zs).cells → (∀ g, sv.ownBlock = some g → cv.ownBlock ≠ some g) → Below w.heap.size w W → ResR w ((((((((W.setCell ⟨r, 0, none⟩ (.int .i64 0)).setCell ⟨r, 1, none⟩ (.int .i64 0)).setCell ⟨r, 2, none⟩ sv).setCell ⟨r, 3, none⟩ cv).setCell ⟨r, 4, none⟩ (.int .i64 0)).setCell ⟨r, 5, none⟩ (.int .i64 0)).setCell ⟨r, 6, none⟩ (.int .i64 0)).setCell ⟨r, 7, none⟩ (.bool false)) (.returned (resV 0 (startRM zs) sv cv)) 0 (startRM zs)) := fun W r B sv cv h1 h2 h3 h4 h5 h6 => res_mach w W r B (startRM zs) sv cv h1 h2 h3 h4 h5 h6
  clear hW hn hc hl
  generalize startRC zs = F at *
  generalize startRR zs = R at *
  generalize startRM zs = M at *
  generalize hL : zs.length = L at *
  go_enter Try.func25, Try.ntmps25
  go_upto_region 1 with fail
  generalize w.alloc (.cells zero8 30) = W at *
  obtain ⟨x1, x2⟩ := HW.out
  have HB := hid x1
  have HA0 := hid x2
  have HWS : Hid (w.heap.size < W.heap.size) := (Array.getElem?_eq_some_iff.1 x2).1
  have b1 := (Below.refl W.heap.size W).alloc (Nat.le_refl _) (.cells #[.int .i64 65535] 2)
  have y1 := heap_alloc_new W (.cells #[.int .i64 65535] 2)
  have HB1 := hid b1
  have HC1 : Hid ((W.alloc (.cells #[.int .i64 65535] 2)).cell? ⟨W.heap.size, 0, none⟩ = some (.int .i64 65535)) := cell_of_row _ _ 0 _ _ _ y1
  clear x1 x2 HW b1 y1
  go_wp2_with fail
  refine (HRP.out _ _ HC1.out).mono ?_
  rintro e w2 ⟨g, rfl, o1, b2⟩
  have HB2 := hid (HB1.out.trans (b2.mono HB1.out.size))
  have HO1 := hid (own_mono o1 HB1.out.size)
  have HB2w := hid (HB.out.trans (HB2.out.mono HB.out.size))
  clear o1 b2 HB1 HC1 HRP
  go_wp2_with fail
  refine (HCC.out w2 HB2w.out).mono ?_
  rintro e w3 ⟨a', c', rfl, o2, b3⟩
  have HO13 := hid (own_kept HO1.out b3)
  have HO23 := hid (own_mono o2 (C := W.heap.size) HB2.out.size)
  have HD : Hid (∀ k, (Value.slice (some ⟨g, 0, none⟩) 24 24).ownBlock = some k → (Value.slice a' L c').ownBlock ≠ some k) := fun k h1 h2 => by
    have := (HO1.out.lt k h1).2
    have := (o2.lt k h2).1
    omega
  have HB3 := hid (HB2.out.trans (b3.mono HB2.out.size))
  clear o2 b3 HO1 HB2 HB2w HCC
  go_upto_region 2 with fail
  have y3 := heap_alloc_new w3 (.cells #[.int .i64 0, .slice (some ⟨g, 0, none⟩) 24 24, .slice a' L c', .int .i64 0, .int .i64 0, .int .i64 0, .bool false] 28)
  have b4 := (Below.refl w3.heap.size w3).alloc (Nat.le_refl _) (.cells #[.int .i64 0, .slice (some ⟨g, 0, none⟩) 24 24, .slice a' L c', .int .i64 0, .int .i64 0, .int .i64 0, .bool false] 28)
  have HO14 := hid (HO13.out.alloc (.cells #[.int .i64 0, .slice (some ⟨g, 0, none⟩) 24 24, .slice a' L c', .int .i64 0, .int .i64 0, .int .i64 0, .bool false] 28))
  have HO24 := hid (HO23.out.alloc (.cells #[.int .i64 0, .slice (some ⟨g, 0, none⟩) 24 24, .slice a' L c', .int .i64 0, .int .i64 0, .int .i64 0, .bool false] 28))
  have HB4 := hid (HB3.out.trans (b4.mono HB3.out.size))
  have HY := hid y3
  clear y3 b4 HO13 HO23 HB3
  generalize w3.alloc (.cells #[.int .i64 0, .slice (some ⟨g, 0, none⟩) 24 24, .slice a' L c', .int .i64 0, .int .i64 0, .int .i64 0, .bool false] 28) = W4 at *
  generalize w3.heap.size = q at *
  obtain ⟨d0, d1, d2, d3, d4, d5, d6⟩ := cl7 HY.out
  have HC := hid (HCF.out W4 _ _ (by have := own_row HO14.out; exact this) (by have := own_row HO24.out; exact this))
  clear HCF
  go_upto_region 3 with (go_at_call 21; refine HC.out.mono ?_; rintro e w5 ⟨rfl, hb5⟩)
  have HY5 := hid (blk8 HY.out hb5)
  have HB5 := hid (HB4.out.trans (hb5.mono HB4.out.size))
  have HO15 := hid (own_kept HO14.out hb5)
  have HO25 := hid (own_kept HO24.out hb5)
  have HA5 := hid (blk8 HA0.out HB5.out)
  have HBW : Hid (Below w.heap.size w w5) := HB.out.trans (HB5.out.mono HB.out.size)
  clear hb5 HY HB4 HO14 HO24 HC HA0 HB HB5 d0 d1 d2 d3 d4 d5 d6
  obtain ⟨d0, d1, d2, d3, d4, d5, d6⟩ := cl7 HY5.out
  obtain ⟨g0, g1, g2, g3, g4, g5, g6, g7⟩ := cl8 HA5.out
  obtain ⟨f0, f1, f2, f3, f4, f5, f6, f7⟩ := fl8 HA5.out
  by_cases hF : F = 0
  · have hR := HR.out.1 hF
    have HF := hid (HMA.out w5 w.heap.size W.heap.size _ _ (Nat.le_refl _) HWS.out HO15.out HO25.out HD.out HBW.out)
    rw [HV.out] at HF
    subst hF hR
    clear HO15 HO25 HD HBW HA5 HY5 HR HWS HMA HV
    go_wp2_with fail
    refine bodyPost_ret (v := .agg #[.int .i64 0, .int .i64 0, .slice (some ⟨g, 0, none⟩) 24 24, .slice a' L c', .int .i64 0, .int .i64 0, .int .i64 0, .bool false]) (by simp [results, Try.results25, go_sem, g0, g1, g2, g3, g4, g5, g6, g7]; try rfl) rfl ?_
    exact HF.out
  · have hR := HR.out.2 hF
    subst hR
    have eF : (F != 0) = true := by simpa using hF
    have HF : Hid _ := res_code w w5 w.heap.size F (Nat.le_refl _) HBW.out
    clear HO15 HO25 HD HBW HA5 HY5 HR HWS hF HMA HV
    go_wp2_with fail
    refine bodyPost_ret (v := codeV F) (by simp [results, Try.results25, go_sem, g0, g1, g2, g3, g4, g5, g6, g7]; try rfl) rfl ?_
    exact HF.out
end Go.Proofs.Ytjofghelenfklaa
