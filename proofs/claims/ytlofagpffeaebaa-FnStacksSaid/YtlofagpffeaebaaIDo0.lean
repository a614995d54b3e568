/-
  impl's do: what every op begins with.
-/
import Derived.Test.YtlofagpffeaebaaIStk3
namespace Go.Proofs.Ytlofagpffeaebaa
open Go.RowKit
set_option linter.unusedVariables false

theorem do_pre (B p n : Nat) (a : Option Addr) (c : Nat) (m : SM) (op nx : Int) (w W : World) (h : RunI B w p m) (e : W = w.alloc (.cells #[.int .i64 op, .slice a n c, .int .i64 nx] 118)) :
    W.cell? ⟨w.heap.size, 0, none⟩ = some (.int .i64 op) ∧ W.cell? ⟨w.heap.size, 1, none⟩ = some (.slice a n c) ∧ RunI B W p m ∧ Below B w W ∧ B ≤ w.heap.size ∧ w.heap.size < W.heap.size := by
  have hBp := h.lt
  subst e
  have a1 := heap_alloc_new w (.cells #[.int .i64 op, .slice a n c, .int .i64 nx] 118)
  have b1 := (Below.refl w.heap.size w).alloc (Nat.le_refl _) (.cells #[.int .i64 op, .slice a n c, .int .i64 nx] 118)
  exact ⟨cell_of_row _ _ 0 _ _ _ a1, cell_of_row _ _ 1 _ _ _ a1, h.kept b1, b1.mono (by omega), by omega, by simp⟩

set_option maxHeartbeats 800000 in
theorem itruth_any (b : Bool) (w : World) : Calls Try.prog 110 #[.bool b] w fun e w' => e = .returned (.int .i64 (b01 b)) ∧ w' = w := by
  have HO : Hid (∀ (w : World), Calls Try.prog 122 #[.bool b] w fun e w' => e = .returned (.int .u16 (b01 b)) ∧ w' = w) := fun w => oneIf_any b w
  have h0 : 0 ≤ b01 b ∧ b01 b ≤ 1 := by unfold b01; cases b <;> decide
  obtain ⟨v, hv⟩ : ∃ v, v = b01 b := ⟨_, rfl⟩
  rw [← hv] at HO h0 ⊢
  obtain ⟨h1, h2⟩ := h0
  clear hv
  go_enter Try.func110, Try.ntmps110
  go_wp2_with fail
  refine (HO.out _).mono ?_
  rintro e w2 ⟨rfl, rfl⟩
  go_wp2_with fail
  go_ret
  exact ⟨rfl, rfl⟩
end Go.Proofs.Ytlofagpffeaebaa
