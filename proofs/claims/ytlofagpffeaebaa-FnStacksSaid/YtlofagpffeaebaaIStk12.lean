/-
  impl's StartStack, StepStack.
-/
import Derived.Test.YtlofagpffeaebaaIStk11
import Derived.Test.YtlofagpffeaebaaStkRes
namespace Go.Proofs.Ytlofagpffeaebaa
open Go.RowKit
set_option linter.unusedVariables false
attribute [local go_sem ↓] Go.wp_at_zero Go.wp_at_succ

set_option maxHeartbeats 6400000 in
set_option maxRecDepth 100000 in
theorem iStart_any (a : Option Addr) (zs : List Int) (c : Nat) (w : World) (hn : Nums w a zs) (hc : a = none → c = 0) (hl : zs.length ≤ 1048576) :
    Calls Try.prog 38 #[.slice a zs.length c] w fun e w' => ResR w w' e (startC zs) (startR zs) := by
  have hW := (Below.refl w.heap.size w).alloc (Nat.le_refl _) (.cells zero8 46)
  have HW : Hid (Below w.heap.size w (w.alloc (.cells zero8 46)) ∧ (w.alloc (.cells zero8 46)).heap[w.heap.size]? = some (.cells zero8 46 (0, 0))) := ⟨hW, heap_alloc_new _ _⟩
  have HCF : Hid (∀ W, Below w.heap.size w W → Calls Try.prog 16 #[.agg #[.int .i64 0, .slice none 0 0, .slice a zs.length c, .int .i64 0, .int .i64 0, .int .i64 0, .bool false]] W fun e w' => e = .returned (.int .i64 (startC zs)) ∧ Below W.heap.size W w') := fun W h => istkFault_any (startM zs) _ _ W ⟨none, 0, rfl, .inl rfl, fun _ => rfl⟩ (RowV.below ⟨a, c, rfl, hn, hc⟩ h) (by show 0 ≤ _; omega) hl
  have HCC : Hid (∀ W, Below w.heap.size w W → Calls Try.prog 76 #[.slice a zs.length c] W fun e w' => ∃ a' c', e = .returned (.slice a' zs.length c') ∧ Own w' W.heap.size (.slice a' zs.length c') zs ∧ Below W.heap.size W w') := fun W h => (clone_any _ zs W (RowV.below ⟨a, c, rfl, hn, hc⟩ h) hl).mono fun e w' ⟨v', h1, h2, h3⟩ => by
    obtain ⟨a', c', rfl⟩ := own_shape h2
    exact ⟨a', c', h1, h2, h3⟩
  have HR : Hid ((startC zs = 0 → startR zs = startM zs) ∧ (startC zs ≠ 0 → startR zs = zeroM)) := ⟨fun h => if_pos h, fun h => if_neg h⟩
  clear hW hn hc hl
  generalize startC zs = F at *
  generalize startR zs = R at *
  generalize hL : zs.length = L at *
  go_enter Try.func38, Try.ntmps38
  go_upto_region 1 with fail
  generalize w.alloc (.cells zero8 46) = W at *
  obtain ⟨x1, x2⟩ := HW.out
  have HB : Hid (Below w.heap.size w W) := x1
  have HZ : Hid (W.heap[w.heap.size]? = some (.cells zero8 46 (0, 0))) := x2
  clear x1 x2 HW
  go_upto_region 2 with (go_at_call 16; refine (HCF.out W HB.out).mono ?_; rintro e w3 ⟨rfl, hb3⟩)
  have HB3 : Hid (Below w.heap.size w w3) := HB.out.trans (hb3.mono HB.out.size)
  have HZ3 : Hid (w3.heap[w.heap.size]? = some (.cells zero8 46 (0, 0))) := blk8 HZ.out hb3
  clear hb3 HB HZ HCF
  by_cases hF : F = 0
  case neg =>
    have hR := HR.out.2 hF
    subst hR
    have eF : (F != 0) = true := by simpa using hF
    have HF : Hid _ := res_code w w3 w.heap.size F (Nat.le_refl _) HB3.out
    have g0 := cell_of_row _ _ 0 _ _ _ HZ3.out
    have g1 := cell_of_row _ _ 1 _ _ _ HZ3.out
    have g2 := cell_of_row _ _ 2 _ _ _ HZ3.out
    have g3 := cell_of_row _ _ 3 _ _ _ HZ3.out
    have g4 := cell_of_row _ _ 4 _ _ _ HZ3.out
    have g5 := cell_of_row _ _ 5 _ _ _ HZ3.out
    have g6 := cell_of_row _ _ 6 _ _ _ HZ3.out
    have g7 := cell_of_row _ _ 7 _ _ _ HZ3.out
    have f0 := frozen_of_row _ _ 0 _ _ HZ3.out
    have f1 := frozen_of_row _ _ 1 _ _ HZ3.out
    have f2 := frozen_of_row _ _ 2 _ _ HZ3.out
    have f3 := frozen_of_row _ _ 3 _ _ HZ3.out
    have f4 := frozen_of_row _ _ 4 _ _ HZ3.out
    have f5 := frozen_of_row _ _ 5 _ _ HZ3.out
    have f6 := frozen_of_row _ _ 6 _ _ HZ3.out
    have f7 := frozen_of_row _ _ 7 _ _ HZ3.out
    simp at g0 g1 g2 g3 g4 g5 g6 g7
    clear HCC HR HB3 HZ3 hF
    go_wp2_with fail
    refine bodyPost_ret (v := codeV F) (by simp [results, Try.results38, go_sem, g0, g1, g2, g3, g4, g5, g6, g7]; try rfl) rfl ?_
    exact HF.out
  have hR := HR.out.1 hF
  subst hF hR
  go_wp2_with fail
  refine (HCC.out w3 HB3.out).mono ?_
  rintro e w4 ⟨a', c', rfl, ho, hb4⟩
  have HB4 : Hid (Below w.heap.size w w4) := HB3.out.trans (hb4.mono HB3.out.size)
  have HZ4 := blk8 HZ3.out hb4
  have hlt : w.heap.size < w3.heap.size := (Array.getElem?_eq_some_iff.1 HZ3.out).1
  have HF : Hid _ := res_mach w w4 w.heap.size w3.heap.size (startM zs) (.slice none 0 0) (.slice a' L c') (Nat.le_refl _) hlt (World.ownsRow_nil _ _ _ _) ho (fun g h => by simp [Value.ownBlock] at h) HB4.out
  have g0 := cell_of_row _ _ 0 _ _ _ HZ4
  have g1 := cell_of_row _ _ 1 _ _ _ HZ4
  have g2 := cell_of_row _ _ 2 _ _ _ HZ4
  have g3 := cell_of_row _ _ 3 _ _ _ HZ4
  have g4 := cell_of_row _ _ 4 _ _ _ HZ4
  have g5 := cell_of_row _ _ 5 _ _ _ HZ4
  have g6 := cell_of_row _ _ 6 _ _ _ HZ4
  have g7 := cell_of_row _ _ 7 _ _ _ HZ4
  have f0 := frozen_of_row _ _ 0 _ _ HZ4
  have f1 := frozen_of_row _ _ 1 _ _ HZ4
  have f2 := frozen_of_row _ _ 2 _ _ HZ4
  have f3 := frozen_of_row _ _ 3 _ _ HZ4
  have f4 := frozen_of_row _ _ 4 _ _ HZ4
  have f5 := frozen_of_row _ _ 5 _ _ HZ4
  have f6 := frozen_of_row _ _ 6 _ _ HZ4
  have f7 := frozen_of_row _ _ 7 _ _ HZ4
  simp at g0 g1 g2 g3 g4 g5 g6 g7
  clear HCC HR HB3 HZ3 HZ4 HB4 ho hb4 hlt
  go_wp2_with fail
  refine bodyPost_ret (v := .agg #[.int .i64 0, .int .i64 0, .slice none 0 0, .slice a' L c', .int .i64 0, .int .i64 0, .int .i64 0, .bool false]) (by simp [results, Try.results38, go_sem, g0, g1, g2, g3, g4, g5, g6, g7]; try rfl) rfl ?_
  exact HF.out
end Go.Proofs.Ytlofagpffeaebaa
