/-
  impl's do: ops 6, 10.
-/
import Derived.Test.YtcikofhbfncgdaaIStk3
namespace Go.Proofs.Ytcikofhbfncgdaa
open Go.RowKit
set_option linter.unusedVariables false

theorem do_pre (B p n : Nat) (a : Option Addr) (c : Nat) (m : SM) (op nx : Int) (w W : World) (h : RunI B w p m) (e : W = w.alloc (.cells #[.int .i64 op, .slice a n c, .int .i64 nx] 130)) :
    W.cell? ⟨w.heap.size, 0, none⟩ = some (.int .i64 op) ∧ W.cell? ⟨w.heap.size, 1, none⟩ = some (.slice a n c) ∧ RunI B W p m ∧ Below B w W ∧ B ≤ w.heap.size ∧ w.heap.size < W.heap.size := by
  have hBp := h.lt
  subst e
  have a1 := heap_alloc_new w (.cells #[.int .i64 op, .slice a n c, .int .i64 nx] 130)
  have b1 := (Below.refl w.heap.size w).alloc (Nat.le_refl _) (.cells #[.int .i64 op, .slice a n c, .int .i64 nx] 130)
  exact ⟨cell_of_row _ _ 0 _ _ _ a1, cell_of_row _ _ 1 _ _ _ a1, h.kept b1, b1.mono (by omega), by omega, by simp⟩

set_option maxHeartbeats 800000 in
theorem itruth_any (b : Bool) (w : World) : Calls Try.prog 137 #[.bool b] w fun e w' => e = .returned (.int .i64 (b01 b)) ∧ w' = w := by
  have HO : Hid (∀ (w : World), Calls Try.prog 159 #[.bool b] w fun e w' => e = .returned (.int .u16 (b01 b)) ∧ w' = w) := fun w => oneIf_any b w
  have h0 : 0 ≤ b01 b ∧ b01 b ≤ 1 := by unfold b01; cases b <;> decide
  obtain ⟨v, hv⟩ : ∃ v, v = b01 b := ⟨_, rfl⟩
  rw [← hv] at HO h0 ⊢
  obtain ⟨h1, h2⟩ := h0
  clear hv
  go_enter Try.func137, Try.ntmps137
  go_wp2_with fail
  refine (HO.out _).mono ?_
  rintro e w2 ⟨rfl, rfl⟩
  go_wp2_with fail
  go_ret
  exact ⟨rfl, rfl⟩
end Go.Proofs.Ytcikofhbfncgdaa
namespace Go.Proofs.Ytcikofhbfncgdaa
open Go.RowKit
set_option linter.unusedVariables false
attribute [local go_sem ↓] Go.wp_at_zero Go.wp_at_succ

set_option maxHeartbeats 1600000 in
set_option maxRecDepth 100000 in
theorem do_1 (B p : Nat) (m : SM) (op u v nx : Int) (t : Nat) (wv : Value) (w : World) (hop : op = 1) (h : RunI B w p m) (hl : m.cells.length ≤ 80) (hs : m.stk.length ≤ 40) (hw : WordsV B w wv op u v) :
    Calls Try.prog 120 #[.pointer (some ⟨p, 0, none⟩), oneV op wv nx, .int .i64 t] w fun e w' => e = .returned (.tuple #[]) ∧ RunI B w' p (doM op u t m) ∧ Below B w w' := by
  have hD : doM op u t m = psh m u := by subst hop; rfl
  rw [hD]
  clear hD
  have ea : argN op = 1 := by rw [hop]; rfl
  obtain ⟨a, c, rfl, h1⟩ := hw
  obtain ⟨b, off, rfl, hlt, h2, _⟩ := h1 (by omega)
  rw [ea]
  clear h1 ea
  have hX : Hid (∀ W, W = w.alloc (.cells #[.int .i64 op, .slice (some ⟨b, off, none⟩) 1 c, .int .i64 nx] 130) → _) := fun W e => do_pre B p 1 (some ⟨b, off, none⟩) c m op nx w W h e
  have hBp := h.lt
  have hT : (op == 1) = true := by subst hop; exact rfl
  clear hop h
  have e1 := hT
  go_enter Try.func120, Try.ntmps120
  go_upto_region 3 with fail
  have hXX := hX.out _ rfl
  generalize w.alloc (.cells #[.int .i64 op, .slice (some ⟨b, off, none⟩) 1 c, .int .i64 nx] 130) = W at *
  obtain ⟨y0, y1, x3, x4, x5, x6⟩ := hXX
  have HB : Hid (Below B w W) := x4
  have HR : Hid (RunI B W p m) := x3
  have HL : Hid (w.heap.size < W.heap.size) := x6
  have yw : W.cell? ⟨b, off, none⟩ = some (.int .i64 u) := (x4.cell (p := ⟨b, off, none⟩) hlt).trans h2
  clear x3 x4 x5 x6 hX
  go_region_with (go_at_call 143; refine (put_any B p m u _ (HR.out.heap (by rfl)) hs).mono ?_; rintro e w3 ⟨rfl, hr, hb⟩)
  clear y1 y0 yw
  go_wp2_with fail
  go_end0
  exact ⟨rfl, hr, HB.out.drew.trans hb⟩


set_option maxHeartbeats 1600000 in
set_option maxRecDepth 100000 in
theorem do_2 (B p : Nat) (m : SM) (op u v nx : Int) (t : Nat) (wv : Value) (w : World) (hop : op = 2) (h : RunI B w p m) (hl : m.cells.length ≤ 80) (hs : m.stk.length ≤ 40) (ht : t < m.cells.length) (hw : WordsV B w wv op u v) :
    Calls Try.prog 120 #[.pointer (some ⟨p, 0, none⟩), oneV op wv nx, .int .i64 t] w fun e w' => e = .returned (.tuple #[]) ∧ RunI B w' p (doM op u t m) ∧ Below B w w' := by
  have hD : doM op u t m = psh m (m.cells.getD t 0) := by subst hop; rfl
  rw [hD]
  clear hD
  have HLD : Hid (∀ W, RunI B W p m → Calls Try.prog 132 #[.pointer (some ⟨p, 1, none⟩), .int .i64 t] W fun e w' => e = .returned (.int .i64 (m.cells.getD t 0)) ∧ w' = W) := fun W hr => load_any B p m t W hr ht hl
  generalize m.cells.getD t 0 = x at *
  obtain ⟨a, c, rfl, _⟩ := hw
  generalize (argN op).toNat = n at *
  have hX : Hid (∀ W, W = w.alloc (.cells #[.int .i64 op, .slice a n c, .int .i64 nx] 130) → _) := fun W e => do_pre B p n a c m op nx w W h e
  have hBp := h.lt
  have hT : (op == 1) = false ∧ (op == 2) = true := by subst hop; exact ⟨rfl, rfl⟩
  clear hop h
  obtain ⟨e1, e2⟩ := hT
  go_enter Try.func120, Try.ntmps120
  go_upto_region 5 with fail
  have hXX := hX.out _ rfl
  generalize w.alloc (.cells #[.int .i64 op, .slice a n c, .int .i64 nx] 130) = W at *
  obtain ⟨y0, y1, x3, x4, x5, x6⟩ := hXX
  have HB : Hid (Below B w W) := x4
  have HR : Hid (RunI B W p m) := x3
  have HL : Hid (w.heap.size < W.heap.size) := x6
  clear x3 x4 x5 x6 hX
  go_region_with (first | (go_at_call 132; refine (HLD.out _ (HR.out.heap (by rfl))).mono ?_; rintro e w3 ⟨rfl, rfl⟩) | (go_at_call 143; refine (put_any B p m _ _ (HR.out.heap (by rfl)) hs).mono ?_; rintro e w3 ⟨rfl, hr, hb⟩))
  clear y1 y0
  go_wp2_with fail
  go_end0
  exact ⟨rfl, hr, HB.out.drew.trans hb⟩


set_option maxHeartbeats 1600000 in
set_option maxRecDepth 100000 in
theorem do_3 (B p : Nat) (m : SM) (op u v nx : Int) (t : Nat) (wv : Value) (w : World) (hop : op = 3) (h : RunI B w p m) (hl : m.cells.length ≤ 80) (hs : m.stk.length ≤ 40) (ht : t < m.cells.length) (h0 : 0 < m.stk.length) (hw : WordsV B w wv op u v) :
    Calls Try.prog 120 #[.pointer (some ⟨p, 0, none⟩), oneV op wv nx, .int .i64 t] w fun e w' => e = .returned (.tuple #[]) ∧ RunI B w' p (doM op u t m) ∧ Below B w w' := by
  have hD : doM op u t m = sto (pop m) t (tp m 0) := by subst hop; rfl
  rw [hD]
  clear hD
  obtain ⟨a, c, rfl, _⟩ := hw
  generalize (argN op).toNat = n at *
  have hX : Hid (∀ W, W = w.alloc (.cells #[.int .i64 op, .slice a n c, .int .i64 nx] 130) → _) := fun W e => do_pre B p n a c m op nx w W h e
  have hBp := h.lt
  have hT : (op == 1) = false ∧ (op == 2) = false ∧ (op == 3) = true := by subst hop; exact ⟨rfl, rfl, rfl⟩
  clear hop h
  obtain ⟨e1, e2, e3⟩ := hT
  go_enter Try.func120, Try.ntmps120
  go_upto_region 7 with fail
  have hXX := hX.out _ rfl
  generalize w.alloc (.cells #[.int .i64 op, .slice a n c, .int .i64 nx] 130) = W at *
  obtain ⟨y0, y1, x3, x4, x5, x6⟩ := hXX
  have HB : Hid (Below B w W) := x4
  have HR : Hid (RunI B W p m) := x3
  have HL : Hid (w.heap.size < W.heap.size) := x6
  clear x3 x4 x5 x6 hX
  go_region_with (first | (go_at_call 144; refine (take_any B p m _ (HR.out.heap (by rfl)) h0 hs).mono ?_; rintro e w3 ⟨rfl, hr, hb, _⟩) | (go_at_call 133; refine (store_any B p (pop m) t (tp m 0) _ (by assumption) ht hl).mono ?_; rintro e w4 ⟨rfl, hr4, hb4⟩))
  clear y1 y0
  go_wp2_with fail
  go_end0
  exact ⟨rfl, hr4, (HB.out.drew.trans hb).trans hb4⟩

end Go.Proofs.Ytcikofhbfncgdaa
namespace Go.Proofs.Ytcikofhbfncgdaa
open Go.RowKit
set_option linter.unusedVariables false
attribute [local go_sem ↓] Go.wp_at_zero Go.wp_at_succ

set_option maxHeartbeats 1600000 in
set_option maxRecDepth 100000 in
theorem do_4 (B p : Nat) (m : SM) (op u v nx : Int) (t : Nat) (wv : Value) (w : World) (hop : op = 4) (h : RunI B w p m) (hl : m.cells.length ≤ 80) (hs : m.stk.length ≤ 40) (ht : t < m.cells.length) (h0 : 0 < m.stk.length) (hw : WordsV B w wv op u v) :
    Calls Try.prog 120 #[.pointer (some ⟨p, 0, none⟩), oneV op wv nx, .int .i64 t] w fun e w' => e = .returned (.tuple #[]) ∧ RunI B w' p (doM op u t m) ∧ Below B w w' := by
  have hD : doM op u t m = psh (pop m) (m.cells.getD t 0) := by subst hop; rfl
  rw [hD]
  clear hD
  obtain ⟨a, c, rfl, _⟩ := hw
  generalize (argN op).toNat = n at *
  have hX : Hid (∀ W, W = w.alloc (.cells #[.int .i64 op, .slice a n c, .int .i64 nx] 130) → _) := fun W e => do_pre B p n a c m op nx w W h e
  have hBp := h.lt
  have hT : (op == 1) = false ∧ (op == 2) = false ∧ (op == 3) = false ∧ (op == 4) = true := by subst hop; exact ⟨rfl, rfl, rfl, rfl⟩
  clear hop h
  obtain ⟨e1, e2, e3, e4⟩ := hT
  go_enter Try.func120, Try.ntmps120
  go_upto_region 9 with fail
  have hXX := hX.out _ rfl
  generalize w.alloc (.cells #[.int .i64 op, .slice a n c, .int .i64 nx] 130) = W at *
  obtain ⟨y0, y1, x3, x4, x5, x6⟩ := hXX
  have HB : Hid (Below B w W) := x4
  have HR : Hid (RunI B W p m) := x3
  have HL : Hid (w.heap.size < W.heap.size) := x6
  clear x3 x4 x5 x6 hX
  have h39 : (pop m).stk.length ≤ 40 := by rw [pop_len]; omega
  go_upto_region 10 with (go_at_call 144; refine (take_any B p m _ HR.out h0 hs).mono ?_; rintro e w3 ⟨rfl, hr, hb, _⟩)
  go_region_with (first | (go_at_call 132; refine (load_any B p (pop m) t _ (RunI.heap (w := w3) (by assumption) (by rfl)) ht hl).mono ?_; rintro e w4 ⟨rfl, rfl⟩) | (go_at_call 143; refine (put_any B p (pop m) _ _ (RunI.heap (w := w3) (by assumption) (by rfl)) h39).mono ?_; rintro e w4 ⟨rfl, hr4, hb4⟩))
  clear y1 y0
  go_wp2_with fail
  go_end0
  exact ⟨rfl, hr4, (HB.out.trans hb).drew.trans hb4⟩


set_option maxHeartbeats 1600000 in
set_option maxRecDepth 100000 in
theorem do_5 (B p : Nat) (m : SM) (op u v nx : Int) (t : Nat) (wv : Value) (w : World) (hop : op = 5) (h : RunI B w p m) (hl : m.cells.length ≤ 80) (hs : m.stk.length ≤ 40) (ht : t < m.cells.length) (h0 : 1 < m.stk.length) (hw : WordsV B w wv op u v) :
    Calls Try.prog 120 #[.pointer (some ⟨p, 0, none⟩), oneV op wv nx, .int .i64 t] w fun e w' => e = .returned (.tuple #[]) ∧ RunI B w' p (doM op u t m) ∧ Below B w w' := by
  have hD : doM op u t m = sto (pop (pop m)) t (tp m 0) := by subst hop; rfl
  rw [hD]
  clear hD
  obtain ⟨a, c, rfl, _⟩ := hw
  generalize (argN op).toNat = n at *
  have hX : Hid (∀ W, W = w.alloc (.cells #[.int .i64 op, .slice a n c, .int .i64 nx] 130) → _) := fun W e => do_pre B p n a c m op nx w W h e
  have hBp := h.lt
  have hT : (op == 1) = false ∧ (op == 2) = false ∧ (op == 3) = false ∧ (op == 4) = false ∧ (op == 5) = true := by subst hop; exact ⟨rfl, rfl, rfl, rfl, rfl⟩
  clear hop h
  obtain ⟨e1, e2, e3, e4, e5⟩ := hT
  go_enter Try.func120, Try.ntmps120
  go_upto_region 12 with fail
  have hXX := hX.out _ rfl
  generalize w.alloc (.cells #[.int .i64 op, .slice a n c, .int .i64 nx] 130) = W at *
  obtain ⟨y0, y1, x3, x4, x5, x6⟩ := hXX
  have HB : Hid (Below B w W) := x4
  have HR : Hid (RunI B W p m) := x3
  have HL : Hid (w.heap.size < W.heap.size) := x6
  clear x3 x4 x5 x6 hX
  have h39 : 0 < (sto (pop m) t (tp m 0)).stk.length := by show 0 < (pop m).stk.length; rw [pop_len]; omega
  have h38 : (sto (pop m) t (tp m 0)).stk.length ≤ 40 := by show (pop m).stk.length ≤ 40; rw [pop_len]; omega
  go_region_with (first | (go_at_call 144; refine (take_any B p m _ (HR.out.heap (by rfl)) (by omega) hs).mono ?_; rintro e w3 ⟨rfl, hr, hb, _⟩) | (go_at_call 133; refine (store_any B p (pop m) t (tp m 0) _ (by assumption) ht hl).mono ?_; rintro e w4 ⟨rfl, hr4, hb4⟩))
  clear y1 y0
  go_wp2_with (go_at_call 144; refine (take_any B p _ _ hr4 h39 h38).mono ?_; rintro e w5 ⟨rfl, hr5, hb5, _⟩)
  go_end0
  exact ⟨rfl, hr5, ((HB.out.drew.trans hb).trans hb4).trans hb5⟩

end Go.Proofs.Ytcikofhbfncgdaa
namespace Go.Proofs.Ytcikofhbfncgdaa
open Go.RowKit
set_option linter.unusedVariables false
attribute [local go_sem ↓] Go.wp_at_zero Go.wp_at_succ

set_option maxHeartbeats 1600000 in
set_option maxRecDepth 100000 in
theorem do_6 (B p : Nat) (m : SM) (op u v nx : Int) (t : Nat) (wv : Value) (w : World) (hop : op = 6) (h : RunI B w p m) (hl : m.cells.length ≤ 80) (hs : m.stk.length ≤ 40) (h0 : 1 < m.stk.length) (hw : WordsV B w wv op u v) :
    Calls Try.prog 120 #[.pointer (some ⟨p, 0, none⟩), oneV op wv nx, .int .i64 t] w fun e w' => e = .returned (.tuple #[]) ∧ RunI B w' p (doM op u t m) ∧ Below B w w' := by
  have hD : doM op u t m = psh (pop (pop m)) t := by subst hop; rfl
  rw [hD]
  clear hD
  obtain ⟨a, c, rfl, _⟩ := hw
  generalize (argN op).toNat = n at *
  have hX : Hid (∀ W, W = w.alloc (.cells #[.int .i64 op, .slice a n c, .int .i64 nx] 130) → _) := fun W e => do_pre B p n a c m op nx w W h e
  have hBp := h.lt
  have hT : (op == 1) = false ∧ (op == 2) = false ∧ (op == 3) = false ∧ (op == 4) = false ∧ (op == 5) = false ∧ (op == 6) = true := by subst hop; exact ⟨rfl, rfl, rfl, rfl, rfl, rfl⟩
  clear hop h
  obtain ⟨e1, e2, e3, e4, e5, e6⟩ := hT
  go_enter Try.func120, Try.ntmps120
  go_upto_region 15 with fail
  have hXX := hX.out _ rfl
  generalize w.alloc (.cells #[.int .i64 op, .slice a n c, .int .i64 nx] 130) = W at *
  obtain ⟨y0, y1, x3, x4, x5, x6⟩ := hXX
  have HB : Hid (Below B w W) := x4
  have HR : Hid (RunI B W p m) := x3
  have HL : Hid (w.heap.size < W.heap.size) := x6
  clear x3 x4 x5 x6 hX
  have h39 : 0 < (pop m).stk.length := by rw [pop_len]; omega
  have h38 : (pop m).stk.length ≤ 40 := by rw [pop_len]; omega
  have h37 : (pop (pop m)).stk.length ≤ 40 := by rw [pop_len]; omega
  clear y0 y1
  go_upto_region 16 with (go_at_call 144; refine (take_any B p m _ HR.out (by omega) hs).mono ?_; rintro e w3 ⟨rfl, hr, hb, _⟩)
  go_upto_region 17 with (go_at_call 144; refine (take_any B p (pop m) _ hr h39 h38).mono ?_; rintro e w4 ⟨rfl, hr4, hb4, _⟩)
  go_wp2_with (go_at_call 143; refine (put_any B p (pop (pop m)) _ _ hr4 h37).mono ?_; rintro e w5 ⟨rfl, hr5, hb5⟩)
  go_end0
  exact ⟨rfl, hr5, ((HB.out.trans hb).trans hb4).trans hb5⟩


set_option maxHeartbeats 1600000 in
set_option maxRecDepth 100000 in
theorem do_10 (B p : Nat) (m : SM) (op u v nx : Int) (t : Nat) (wv : Value) (w : World) (hop : op = 10) (h : RunI B w p m) (hl : m.cells.length ≤ 80) (hs : m.stk.length ≤ 40) (hw : WordsV B w wv op u v) :
    Calls Try.prog 120 #[.pointer (some ⟨p, 0, none⟩), oneV op wv nx, .int .i64 t] w fun e w' => e = .returned (.tuple #[]) ∧ RunI B w' p (doM op u t m) ∧ Below B w w' := by
  have hD : doM op u t m = { m with pc := u } := by subst hop; rfl
  rw [hD]
  clear hD
  have ea : argN op = 1 := by rw [hop]; rfl
  obtain ⟨a, c, rfl, h1⟩ := hw
  obtain ⟨b, off, rfl, hlt, h2, _⟩ := h1 (by omega)
  rw [ea]
  clear h1 ea
  have hX : Hid (∀ W, W = w.alloc (.cells #[.int .i64 op, .slice (some ⟨b, off, none⟩) 1 c, .int .i64 nx] 130) → _) := fun W e => do_pre B p 1 (some ⟨b, off, none⟩) c m op nx w W h e
  have hBp := h.lt
  have hT : (op == 1) = false ∧ (op == 2) = false ∧ (op == 3) = false ∧ (op == 4) = false ∧ (op == 5) = false ∧ (op == 6) = false ∧ (op == 7) = false ∧ (op == 8) = false ∧ (op == 9) = false ∧ (op == 10) = true := by subst hop; exact ⟨rfl, rfl, rfl, rfl, rfl, rfl, rfl, rfl, rfl, rfl⟩
  clear hop h
  obtain ⟨e1, e2, e3, e4, e5, e6, e7, e8, e9, e10⟩ := hT
  go_enter Try.func120, Try.ntmps120
  go_upto_region 25 with fail
  have hXX := hX.out _ rfl
  generalize w.alloc (.cells #[.int .i64 op, .slice (some ⟨b, off, none⟩) 1 c, .int .i64 nx] 130) = W at *
  obtain ⟨y0, y1, x3, x4, x5, x6⟩ := hXX
  have HB : Hid (Below B w W) := x4
  have HR : Hid (RunI B W p m) := x3
  have HL : Hid (w.heap.size < W.heap.size) := x6
  have yw : W.cell? ⟨b, off, none⟩ = some (.int .i64 u) := (x4.cell (p := ⟨b, off, none⟩) hlt).trans h2
  clear x3 x4 x5 x6 hX
  have HF : Hid (RunI B (W.setCell ⟨p, 2, none⟩ (.int .i64 u)) p { m with pc := u }) := HR.out.fld (m' := { m with pc := u }) 2 _ (fun _ _ => rfl) rfl rfl
  have hq := HR.out
  obtain ⟨sv, cv, hb, _⟩ := hq
  have z0 := (RunI.cells (B := B) hb).2.2.1
  have zf := frozen_of_row _ _ 2 _ _ hb
  have HPB := HR.out.lt
  clear hb
  go_wp2_with fail
  go_end0
  exact ⟨rfl, HF.out, HB.out.setCell HPB.1 _⟩

end Go.Proofs.Ytcikofhbfncgdaa
