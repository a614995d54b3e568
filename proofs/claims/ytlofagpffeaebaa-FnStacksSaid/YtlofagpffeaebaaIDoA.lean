/-
  impl's do: ops 1, 2, 3.
-/
import Derived.Test.YtlofagpffeaebaaIDo0
namespace Go.Proofs.Ytlofagpffeaebaa
open Go.RowKit
set_option linter.unusedVariables false
attribute [local go_sem ↓] Go.wp_at_zero Go.wp_at_succ

set_option maxHeartbeats 1600000 in
set_option maxRecDepth 100000 in
theorem do_1 (B p : Nat) (m : SM) (op u v nx : Int) (t : Nat) (wv : Value) (w : World) (hop : op = 1) (h : RunI B w p m) (hl : m.cells.length ≤ 80) (hs : m.stk.length ≤ 40) (hw : WordsV B w wv op u v) :
    Calls Try.prog 83 #[.pointer (some ⟨p, 0, none⟩), oneV op wv nx, .int .i64 t] w fun e w' => e = .returned (.tuple #[]) ∧ RunI B w' p (doM op u t m) ∧ Below B w w' := by
  have hD : doM op u t m = psh m u := by subst hop; rfl
  rw [hD]
  clear hD
  have ea : argN op = 1 := by rw [hop]; rfl
  obtain ⟨a, c, rfl, h1⟩ := hw
  obtain ⟨b, off, rfl, hlt, h2, _⟩ := h1 (by omega)
  rw [ea]
  clear h1 ea
  have hX : Hid (∀ W, W = w.alloc (.cells #[.int .i64 op, .slice (some ⟨b, off, none⟩) 1 c, .int .i64 nx] 118) → _) := fun W e => do_pre B p 1 (some ⟨b, off, none⟩) c m op nx w W h e
  have hBp := h.lt
  have hT : (op == 1) = true := by subst hop; exact rfl
  clear hop h
  have e1 := hT
  go_enter Try.func83, Try.ntmps83
  go_upto_region 3 with fail
  have hXX := hX.out _ rfl
  generalize w.alloc (.cells #[.int .i64 op, .slice (some ⟨b, off, none⟩) 1 c, .int .i64 nx] 118) = W at *
  obtain ⟨y0, y1, x3, x4, x5, x6⟩ := hXX
  have HB : Hid (Below B w W) := x4
  have HR : Hid (RunI B W p m) := x3
  have HL : Hid (w.heap.size < W.heap.size) := x6
  have yw : W.cell? ⟨b, off, none⟩ = some (.int .i64 u) := (x4.cell (p := ⟨b, off, none⟩) hlt).trans h2
  clear x3 x4 x5 x6 hX
  go_region_with (go_at_call 104; refine (put_any B p m u _ (HR.out.heap (by rfl)) hs).mono ?_; rintro e w3 ⟨rfl, hr, hb⟩)
  clear y1 y0 yw
  go_wp2_with fail
  go_end0
  exact ⟨rfl, hr, HB.out.drew.trans hb⟩


set_option maxHeartbeats 1600000 in
set_option maxRecDepth 100000 in
theorem do_2 (B p : Nat) (m : SM) (op u v nx : Int) (t : Nat) (wv : Value) (w : World) (hop : op = 2) (h : RunI B w p m) (hl : m.cells.length ≤ 80) (hs : m.stk.length ≤ 40) (ht : t < m.cells.length) (hw : WordsV B w wv op u v) :
    Calls Try.prog 83 #[.pointer (some ⟨p, 0, none⟩), oneV op wv nx, .int .i64 t] w fun e w' => e = .returned (.tuple #[]) ∧ RunI B w' p (doM op u t m) ∧ Below B w w' := by
  have hD : doM op u t m = psh m (m.cells.getD t 0) := by subst hop; rfl
  rw [hD]
  clear hD
  have HLD : Hid (∀ W, RunI B W p m → Calls Try.prog 105 #[.pointer (some ⟨p, 1, none⟩), .int .i64 t] W fun e w' => e = .returned (.int .i64 (m.cells.getD t 0)) ∧ w' = W) := fun W hr => load_any B p m t W hr ht hl
  generalize m.cells.getD t 0 = x at *
  obtain ⟨a, c, rfl, _⟩ := hw
  generalize (argN op).toNat = n at *
  have hX : Hid (∀ W, W = w.alloc (.cells #[.int .i64 op, .slice a n c, .int .i64 nx] 118) → _) := fun W e => do_pre B p n a c m op nx w W h e
  have hBp := h.lt
  have hT : (op == 1) = false ∧ (op == 2) = true := by subst hop; exact ⟨rfl, rfl⟩
  clear hop h
  obtain ⟨e1, e2⟩ := hT
  go_enter Try.func83, Try.ntmps83
  go_upto_region 5 with fail
  have hXX := hX.out _ rfl
  generalize w.alloc (.cells #[.int .i64 op, .slice a n c, .int .i64 nx] 118) = W at *
  obtain ⟨y0, y1, x3, x4, x5, x6⟩ := hXX
  have HB : Hid (Below B w W) := x4
  have HR : Hid (RunI B W p m) := x3
  have HL : Hid (w.heap.size < W.heap.size) := x6
  clear x3 x4 x5 x6 hX
  go_region_with (first | (go_at_call 105; refine (HLD.out _ (HR.out.heap (by rfl))).mono ?_; rintro e w3 ⟨rfl, rfl⟩) | (go_at_call 104; refine (put_any B p m _ _ (HR.out.heap (by rfl)) hs).mono ?_; rintro e w3 ⟨rfl, hr, hb⟩))
  clear y1 y0
  go_wp2_with fail
  go_end0
  exact ⟨rfl, hr, HB.out.drew.trans hb⟩


set_option maxHeartbeats 1600000 in
set_option maxRecDepth 100000 in
theorem do_3 (B p : Nat) (m : SM) (op u v nx : Int) (t : Nat) (wv : Value) (w : World) (hop : op = 3) (h : RunI B w p m) (hl : m.cells.length ≤ 80) (hs : m.stk.length ≤ 40) (ht : t < m.cells.length) (h0 : 0 < m.stk.length) (hw : WordsV B w wv op u v) :
    Calls Try.prog 83 #[.pointer (some ⟨p, 0, none⟩), oneV op wv nx, .int .i64 t] w fun e w' => e = .returned (.tuple #[]) ∧ RunI B w' p (doM op u t m) ∧ Below B w w' := by
  have hD : doM op u t m = sto (pop m) t (tp m 0) := by subst hop; rfl
  rw [hD]
  clear hD
  obtain ⟨a, c, rfl, _⟩ := hw
  generalize (argN op).toNat = n at *
  have hX : Hid (∀ W, W = w.alloc (.cells #[.int .i64 op, .slice a n c, .int .i64 nx] 118) → _) := fun W e => do_pre B p n a c m op nx w W h e
  have hBp := h.lt
  have hT : (op == 1) = false ∧ (op == 2) = false ∧ (op == 3) = true := by subst hop; exact ⟨rfl, rfl, rfl⟩
  clear hop h
  obtain ⟨e1, e2, e3⟩ := hT
  go_enter Try.func83, Try.ntmps83
  go_upto_region 7 with fail
  have hXX := hX.out _ rfl
  generalize w.alloc (.cells #[.int .i64 op, .slice a n c, .int .i64 nx] 118) = W at *
  obtain ⟨y0, y1, x3, x4, x5, x6⟩ := hXX
  have HB : Hid (Below B w W) := x4
  have HR : Hid (RunI B W p m) := x3
  have HL : Hid (w.heap.size < W.heap.size) := x6
  clear x3 x4 x5 x6 hX
  go_region_with (first | (go_at_call 107; refine (take_any B p m _ (HR.out.heap (by rfl)) h0 hs).mono ?_; rintro e w3 ⟨rfl, hr, hb, _⟩) | (go_at_call 106; refine (store_any B p (pop m) t (tp m 0) _ (by assumption) ht hl).mono ?_; rintro e w4 ⟨rfl, hr4, hb4⟩))
  clear y1 y0
  go_wp2_with fail
  go_end0
  exact ⟨rfl, hr4, (HB.out.drew.trans hb).trans hb4⟩

end Go.Proofs.Ytlofagpffeaebaa
