/-
  impl's told: op 5.
-/
import Derived.Test.YtlofagpffeaebaaIStk3
namespace Go.Proofs.Ytlofagpffeaebaa
open Go.RowKit
set_option linter.unusedVariables false
attribute [local go_sem ↓] Go.wp_at_zero Go.wp_at_succ

set_option maxHeartbeats 3200000 in
theorem told_5 (B p : Nat) (m : SM) (op u v nx : Int) (wv : Value) (w : World) (hop : op = 5) (h : RunI B w p m) (hl : m.cells.length ≤ 80) (hs : m.stk.length ≤ 40) (hj : 1 < m.stk.length) (hw : WordsV B w wv op u v) (hu0 : 0 ≤ u) (hu1 : u ≤ 65535) (hv0 : 0 ≤ v) (hv1 : v ≤ 65535) :
    Calls Try.prog 82 #[.pointer (some ⟨p, 0, none⟩), oneV op wv nx] w fun e w' => e = .returned (ir (itemC m.cells.length u v (tp m 1)) (itemV m.cells.length u v (tp m 1))) ∧ Below w.heap.size w w' := by
  have ea : argN op = 2 := by rw [hop]; rfl
  obtain ⟨a, c, rfl, h1⟩ := hw
  obtain ⟨b, off, rfl, hlt, h2, h3⟩ := h1 (by omega)
  have h4 := h3 ea
  rw [ea]
  clear h1 h3 ea
  have hBp := h.lt
  have HT : Hid (∀ W, RunI B W p m → Calls Try.prog 101 #[.pointer (some ⟨p, 0, none⟩), .int .i64 1] W fun e w' => e = .returned (.int .i64 (tp m 1)) ∧ Below W.heap.size W w') := fun W hr => top_any B p m 1 W hr hj hs
  have HCL : Hid (∀ W, RunI B W p m → Calls Try.prog 100 #[.pointer (some ⟨p, 1, none⟩), .int .i64 u, .int .i64 v, .int .i64 (tp m 1)] W fun e w' => e = .returned (ir (itemC m.cells.length u v (tp m 1)) (itemV m.cells.length u v (tp m 1))) ∧ Below W.heap.size W w') := fun W hr => item_any B p m u v _ W hr hl hu0 hu1 hv0 hv1
  generalize itemC m.cells.length u v (tp m 1) = C at *
  generalize itemV m.cells.length u v (tp m 1) = V at *
  generalize tp m 1 = T at *
  have hX : Hid (∀ W, W = (w.alloc (.cells #[.int .i64 op, .slice (some ⟨b, off, none⟩) 2 c, .int .i64 nx] 118)).alloc (.cells #[.int .i64 0, .int .i64 0] 29) → _) := fun W e => told_keep B p b off c 2 m op u nx w W h hlt h2 e
  have HV : Hid (∀ W, Below w.heap.size w W → W.cell? ⟨b, off + 1, none⟩ = some (.int .i64 v)) := fun W hb => (hb.cell (p := ⟨b, off + 1, none⟩) (by show b < w.heap.size; omega)).trans h4
  have hT : (op == 2) = false ∧ (op == 3) = false ∧ (op == 4) = false ∧ (op == 5) = true := by subst hop; exact ⟨rfl, rfl, rfl, rfl⟩
  clear hop h2 h4 h
  obtain ⟨e2, e3, e4, e5⟩ := hT
  go_enter Try.func82, Try.ntmps82
  go_upto_region 8 with fail
  have hXX := hX.out _ rfl
  generalize (w.alloc (.cells #[.int .i64 op, .slice (some ⟨b, off, none⟩) 2 c, .int .i64 nx] 118)).alloc (.cells #[.int .i64 0, .int .i64 0] 29) = W at *
  obtain ⟨x3, x4, x5⟩ := hXX
  have HB : Hid (Below w.heap.size w W) := x3
  have HK0 : Hid (Keep (w.heap.size + 1) W W) := x4
  have HX : Hid _ := x5
  have HK : Hid (∀ Z, Keep (w.heap.size + 1) W Z → Z.cell? ⟨w.heap.size, 1, none⟩ = some (.slice (some ⟨b, off, none⟩) 2 c) ∧ Z.cell? ⟨b, off, none⟩ = some (.int .i64 u) ∧ Z.cell? ⟨b, off + 1, none⟩ = some (.int .i64 v) ∧ Keep (w.heap.size + 1) W Z) := fun Z hz => ⟨(x5 Z hz).1, (x5 Z hz).2.1, HV.out Z (x3.trans (hz.1.mono (by omega))), hz⟩
  clear x3 x4 x5 hX HV
  go_region_held3 (fun Z => Z.cell? ⟨w.heap.size, 1, none⟩ = some (.slice (some ⟨b, off, none⟩) 2 c) ∧ Z.cell? ⟨b, off, none⟩ = some (.int .i64 u) ∧ Z.cell? ⟨b, off + 1, none⟩ = some (.int .i64 v) ∧ Keep (w.heap.size + 1) W Z) ((refine HK.out _ ?_; repeat' first | assumption | exact HK0.out | refine Keep.drew ?_ | refine Keep.set0 ?_ _ | refine Keep.set1 ?_ _))
    (first | (go_at_call 101; refine (HT.out _ (HX.out _ (last4 (by assumption))).2.2).mono ?_; rintro e w3 ⟨rfl, hb⟩; have hk3 : Keep (w.heap.size + 1) W w3 := Keep.below (last4 (by assumption)) hb) | (go_at_call 100; refine (HCL.out _ (HX.out _ (last4 (by assumption))).2.2).mono ?_; rintro e w4 ⟨rfl, hb⟩; have hk4 : Keep (w.heap.size + 1) W w4 := Keep.below (last4 (by assumption)) hb; obtain ⟨x, y, r0, r1, f0, f1⟩ := hk4.cells))
  have hE := (HB.out.trans ((hk4.1.setCell (p := ⟨w.heap.size + 1, 0, none⟩) (Nat.le_refl _) (.int .i64 C)).setCell (p := ⟨w.heap.size + 1, 1, none⟩) (Nat.le_refl _) (.int .i64 V) |>.mono (Nat.le_succ _)))
  have HE : Hid _ := hE
  clear hE hk4 hk3 HK HX HK0 HCL HT HB
  go_wp2_with fail
  refine bodyPost_ret (v := ir C V) (by simp [results, Try.results82, go_sem, r0, r1]) rfl ⟨rfl, ?_⟩
  first | exact HE.out | exact HE.out.drew
end Go.Proofs.Ytlofagpffeaebaa
