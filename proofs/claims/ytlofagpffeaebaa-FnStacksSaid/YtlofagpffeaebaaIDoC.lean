/-
  impl's do: ops 6, 10.
-/
import Derived.Test.YtlofagpffeaebaaIDo0
namespace Go.Proofs.Ytlofagpffeaebaa
open Go.RowKit
set_option linter.unusedVariables false
attribute [local go_sem ↓] Go.wp_at_zero Go.wp_at_succ

set_option maxHeartbeats 1600000 in
set_option maxRecDepth 100000 in
theorem do_6 (B p : Nat) (m : SM) (op u v nx : Int) (t : Nat) (wv : Value) (w : World) (hop : op = 6) (h : RunI B w p m) (hl : m.cells.length ≤ 80) (hs : m.stk.length ≤ 40) (h0 : 1 < m.stk.length) (hw : WordsV B w wv op u v) :
    Calls Try.prog 83 #[.pointer (some ⟨p, 0, none⟩), oneV op wv nx, .int .i64 t] w fun e w' => e = .returned (.tuple #[]) ∧ RunI B w' p (doM op u t m) ∧ Below B w w' := by
  have hD : doM op u t m = psh (pop (pop m)) t := by subst hop; rfl
  rw [hD]
  clear hD
  obtain ⟨a, c, rfl, _⟩ := hw
  generalize (argN op).toNat = n at *
  have hX : Hid (∀ W, W = w.alloc (.cells #[.int .i64 op, .slice a n c, .int .i64 nx] 118) → _) := fun W e => do_pre B p n a c m op nx w W h e
  have hBp := h.lt
  have hT : (op == 1) = false ∧ (op == 2) = false ∧ (op == 3) = false ∧ (op == 4) = false ∧ (op == 5) = false ∧ (op == 6) = true := by subst hop; exact ⟨rfl, rfl, rfl, rfl, rfl, rfl⟩
  clear hop h
  obtain ⟨e1, e2, e3, e4, e5, e6⟩ := hT
  go_enter Try.func83, Try.ntmps83
  go_upto_region 15 with fail
  have hXX := hX.out _ rfl
  generalize w.alloc (.cells #[.int .i64 op, .slice a n c, .int .i64 nx] 118) = W at *
  obtain ⟨y0, y1, x3, x4, x5, x6⟩ := hXX
  have HB : Hid (Below B w W) := x4
  have HR : Hid (RunI B W p m) := x3
  have HL : Hid (w.heap.size < W.heap.size) := x6
  clear x3 x4 x5 x6 hX
  have h39 : 0 < (pop m).stk.length := by rw [pop_len]; omega
  have h38 : (pop m).stk.length ≤ 40 := by rw [pop_len]; omega
  have h37 : (pop (pop m)).stk.length ≤ 40 := by rw [pop_len]; omega
  clear y0 y1
  go_upto_region 16 with (go_at_call 107; refine (take_any B p m _ HR.out (by omega) hs).mono ?_; rintro e w3 ⟨rfl, hr, hb, _⟩)
  go_upto_region 17 with (go_at_call 107; refine (take_any B p (pop m) _ hr h39 h38).mono ?_; rintro e w4 ⟨rfl, hr4, hb4, _⟩)
  go_wp2_with (go_at_call 104; refine (put_any B p (pop (pop m)) _ _ hr4 h37).mono ?_; rintro e w5 ⟨rfl, hr5, hb5⟩)
  go_end0
  exact ⟨rfl, hr5, ((HB.out.trans hb).trans hb4).trans hb5⟩


set_option maxHeartbeats 1600000 in
set_option maxRecDepth 100000 in
theorem do_10 (B p : Nat) (m : SM) (op u v nx : Int) (t : Nat) (wv : Value) (w : World) (hop : op = 10) (h : RunI B w p m) (hl : m.cells.length ≤ 80) (hs : m.stk.length ≤ 40) (hw : WordsV B w wv op u v) :
    Calls Try.prog 83 #[.pointer (some ⟨p, 0, none⟩), oneV op wv nx, .int .i64 t] w fun e w' => e = .returned (.tuple #[]) ∧ RunI B w' p (doM op u t m) ∧ Below B w w' := by
  have hD : doM op u t m = { m with pc := u } := by subst hop; rfl
  rw [hD]
  clear hD
  have ea : argN op = 1 := by rw [hop]; rfl
  obtain ⟨a, c, rfl, h1⟩ := hw
  obtain ⟨b, off, rfl, hlt, h2, _⟩ := h1 (by omega)
  rw [ea]
  clear h1 ea
  have hX : Hid (∀ W, W = w.alloc (.cells #[.int .i64 op, .slice (some ⟨b, off, none⟩) 1 c, .int .i64 nx] 118) → _) := fun W e => do_pre B p 1 (some ⟨b, off, none⟩) c m op nx w W h e
  have hBp := h.lt
  have hT : (op == 1) = false ∧ (op == 2) = false ∧ (op == 3) = false ∧ (op == 4) = false ∧ (op == 5) = false ∧ (op == 6) = false ∧ (op == 7) = false ∧ (op == 8) = false ∧ (op == 9) = false ∧ (op == 10) = true := by subst hop; exact ⟨rfl, rfl, rfl, rfl, rfl, rfl, rfl, rfl, rfl, rfl⟩
  clear hop h
  obtain ⟨e1, e2, e3, e4, e5, e6, e7, e8, e9, e10⟩ := hT
  go_enter Try.func83, Try.ntmps83
  go_upto_region 25 with fail
  have hXX := hX.out _ rfl
  generalize w.alloc (.cells #[.int .i64 op, .slice (some ⟨b, off, none⟩) 1 c, .int .i64 nx] 118) = W at *
  obtain ⟨y0, y1, x3, x4, x5, x6⟩ := hXX
  have HB : Hid (Below B w W) := x4
  have HR : Hid (RunI B W p m) := x3
  have HL : Hid (w.heap.size < W.heap.size) := x6
  have yw : W.cell? ⟨b, off, none⟩ = some (.int .i64 u) := (x4.cell (p := ⟨b, off, none⟩) hlt).trans h2
  clear x3 x4 x5 x6 hX
  have HF : Hid (RunI B (W.setCell ⟨p, 2, none⟩ (.int .i64 u)) p { m with pc := u }) := HR.out.fld (m' := { m with pc := u }) 2 _ (fun _ _ => rfl) rfl rfl
  have hq := HR.out
  obtain ⟨sv, cv, hb, _⟩ := hq
  have z0 := (RunI.cells (B := B) hb).2.2.1
  have zf := frozen_of_row _ _ 2 _ _ hb
  have HPB := HR.out.lt
  clear hb
  go_wp2_with fail
  go_end0
  exact ⟨rfl, HF.out, HB.out.setCell HPB.1 _⟩

end Go.Proofs.Ytlofagpffeaebaa
