/-
  impl's step: the instruction, what is told, what is done: by contracts alone.
-/
import Derived.Test.YtcikofhbfncgdaaIDoC
import Derived.Test.YtcikofhbfncgdaaIStkB
import Derived.Test.YtcikofhbfncgdaaIStk7
namespace Go.Proofs.Ytcikofhbfncgdaa
open Go.RowKit
set_option linter.unusedVariables false
attribute [local go_sem ↓] Go.wp_at_zero Go.wp_at_succ

set_option maxHeartbeats 1600000 in
set_option maxRecDepth 100000 in
theorem do_11 (B p : Nat) (m : SM) (op u v nx : Int) (t : Nat) (wv : Value) (w : World) (hop : op = 11) (h : RunI B w p m) (hl : m.cells.length ≤ 80) (hs : m.stk.length ≤ 40) (h0 : 0 < m.stk.length) (hw : WordsV B w wv op u v) :
    Calls Try.prog 120 #[.pointer (some ⟨p, 0, none⟩), oneV op wv nx, .int .i64 t] w fun e w' => e = .returned (.tuple #[]) ∧ RunI B w' p (doM op u t m) ∧ Below B w w' := by
  have hD : doM op u t m = { pop m with pc := if tp m 0 = 0 then u else m.pc } := by subst hop; rfl
  obtain ⟨q, hq⟩ : ∃ q, q = (if tp m 0 = 0 then u else m.pc) := ⟨_, rfl⟩
  rw [hD, ← hq]
  have HQ : Hid (q = if tp m 0 = 0 then u else m.pc) := hq
  clear hD hq
  have ea : argN op = 1 := by rw [hop]; rfl
  obtain ⟨a, c, rfl, h1⟩ := hw
  obtain ⟨b, off, rfl, hlt, h2, _⟩ := h1 (by omega)
  rw [ea]
  clear h1 ea
  have hX : Hid (∀ W, W = w.alloc (.cells #[.int .i64 op, .slice (some ⟨b, off, none⟩) 1 c, .int .i64 nx] 130) → _) := fun W e => do_pre B p 1 (some ⟨b, off, none⟩) c m op nx w W h e
  have hBp := h.lt
  have hT : (op == 1) = false ∧ (op == 2) = false ∧ (op == 3) = false ∧ (op == 4) = false ∧ (op == 5) = false ∧ (op == 6) = false ∧ (op == 7) = false ∧ (op == 8) = false ∧ (op == 9) = false ∧ (op == 10) = false ∧ (op == 11) = true := by subst hop; exact ⟨rfl, rfl, rfl, rfl, rfl, rfl, rfl, rfl, rfl, rfl, rfl⟩
  clear hop h
  obtain ⟨e1, e2, e3, e4, e5, e6, e7, e8, e9, e10, e11⟩ := hT
  go_enter Try.func120, Try.ntmps120
  go_upto_region 27 with fail
  have hXX := hX.out _ rfl
  generalize w.alloc (.cells #[.int .i64 op, .slice (some ⟨b, off, none⟩) 1 c, .int .i64 nx] 130) = W at *
  obtain ⟨y0, y1, x3, x4, x5, x6⟩ := hXX
  have HB : Hid (Below B w W) := x4
  have HR : Hid (RunI B W p m) := x3
  have HL : Hid (w.heap.size < W.heap.size) := x6
  have yw : W.cell? ⟨b, off, none⟩ = some (.int .i64 u) := (x4.cell (p := ⟨b, off, none⟩) hlt).trans h2
  clear x3 x4 x5 x6 hX
  have HW : Hid (W.cell? ⟨w.heap.size, 1, none⟩ = some (.slice (some ⟨b, off, none⟩) 1 c) ∧ W.cell? ⟨b, off, none⟩ = some (.int .i64 u) ∧ w.heap.size < W.heap.size ∧ b < B ∧ p < w.heap.size) := ⟨y1, yw, HL.out, hlt, hBp.2⟩
  clear y0 y1 yw
  go_upto_if 135 with (go_at_call 144; refine (take_any B p m _ HR.out h0 hs).mono ?_; rintro e w3 ⟨rfl, hr, hb, ho⟩)
  have x1 : w3.cell? ⟨w.heap.size, 1, none⟩ = some (.slice (some ⟨b, off, none⟩) 1 c) := (World.cell?_of_block (w := W) (ho w.heap.size HW.out.2.2.1 (by have := HW.out.2.2.2.2; omega))).trans HW.out.1
  have x2 : w3.cell? ⟨b, off, none⟩ = some (.int .i64 u) := (hb.cell (p := ⟨b, off, none⟩) HW.out.2.2.2.1).trans HW.out.2.1
  have HB3 : Hid (Below B w w3) := HB.out.trans hb
  have HR3 : Hid (RunI B w3 p (pop m)) := hr
  have HF : Hid (RunI B (w3.setCell ⟨p, 2, none⟩ (.int .i64 u)) p { pop m with pc := u }) := hr.fld (m' := { pop m with pc := u }) 2 _ (fun _ _ => rfl) rfl rfl
  have HPB := hr.lt
  obtain ⟨sv, cv, hb, _⟩ := hr
  have z0 := (RunI.cells (B := B) hb).2.2.1
  have zf := frozen_of_row _ _ 2 _ _ hb
  clear hb ho
  by_cases hz : tp m 0 = 0
  · have hq : q = u := by rw [HQ.out, if_pos hz]
    subst hq
    have e0 : (tp m 0 == 0) = true := by rw [hz]; rfl
    clear HQ hz
    go_wp2_with fail
    go_end0
    exact ⟨rfl, HF.out, HB3.out.setCell HPB.1 _⟩
  · have hq : q = m.pc := by rw [HQ.out, if_neg hz]
    subst hq
    have e0 : (tp m 0 == 0) = false := by simpa using hz
    clear HQ hz
    go_wp2_with fail
    go_end0
    exact ⟨rfl, HR3.out, HB3.out⟩


set_option maxHeartbeats 1600000 in
set_option maxRecDepth 100000 in
theorem do_12 (B p : Nat) (m : SM) (op u v nx : Int) (t : Nat) (wv : Value) (w : World) (hop : op = 12) (h : RunI B w p m) (hl : m.cells.length ≤ 80) (hs : m.stk.length ≤ 40) (hw : WordsV B w wv op u v) :
    Calls Try.prog 120 #[.pointer (some ⟨p, 0, none⟩), oneV op wv nx, .int .i64 t] w fun e w' => e = .returned (.tuple #[]) ∧ RunI B w' p (doM op u t m) ∧ Below B w w' := by
  have hD : doM op u t m = { m with sig := sgn m.sig u } := by subst hop; rfl
  rw [hD]
  clear hD
  have ea : argN op = 1 := by rw [hop]; rfl
  obtain ⟨a, c, rfl, h1⟩ := hw
  obtain ⟨b, off, rfl, hlt, h2, _⟩ := h1 (by omega)
  rw [ea]
  clear h1 ea
  have hX : Hid (∀ W, W = w.alloc (.cells #[.int .i64 op, .slice (some ⟨b, off, none⟩) 1 c, .int .i64 nx] 130) → _) := fun W e => do_pre B p 1 (some ⟨b, off, none⟩) c m op nx w W h e
  have hBp := h.lt
  have hT : (op == 1) = false ∧ (op == 2) = false ∧ (op == 3) = false ∧ (op == 4) = false ∧ (op == 5) = false ∧ (op == 6) = false ∧ (op == 7) = false ∧ (op == 8) = false ∧ (op == 9) = false ∧ (op == 10) = false ∧ (op == 11) = false ∧ (op == 12) = true := by subst hop; exact ⟨rfl, rfl, rfl, rfl, rfl, rfl, rfl, rfl, rfl, rfl, rfl, rfl⟩
  clear hop h
  obtain ⟨e1, e2, e3, e4, e5, e6, e7, e8, e9, e10, e11, e12⟩ := hT
  go_enter Try.func120, Try.ntmps120
  go_upto_region 30 with fail
  have hXX := hX.out _ rfl
  generalize w.alloc (.cells #[.int .i64 op, .slice (some ⟨b, off, none⟩) 1 c, .int .i64 nx] 130) = W at *
  obtain ⟨y0, y1, x3, x4, x5, x6⟩ := hXX
  have HB : Hid (Below B w W) := x4
  have HR : Hid (RunI B W p m) := x3
  have HL : Hid (w.heap.size < W.heap.size) := x6
  have yw : W.cell? ⟨b, off, none⟩ = some (.int .i64 u) := (x4.cell (p := ⟨b, off, none⟩) hlt).trans h2
  clear x3 x4 x5 x6 hX
  have HF : Hid (∀ W2 : World, W2.heap = W.heap → RunI B (W2.setCell ⟨p, 3, none⟩ (.int .i64 (sgn m.sig u))) p { m with sig := sgn m.sig u }) := fun W2 e => (HR.out.heap e).fld (m' := { m with sig := sgn m.sig u }) 3 _ (fun _ _ => rfl) rfl rfl
  have hq := HR.out
  obtain ⟨sv, cv, hb, _⟩ := hq
  have z0 := (RunI.cells (B := B) hb).2.2.2.1
  have zf := frozen_of_row _ _ 3 _ _ hb
  have HPB := HR.out.lt
  clear hb
  go_region_with (go_at_call 138; refine (implSignOf _ _ _).mono ?_; rintro e w3 ⟨rfl, rfl⟩)
  all_goals
    go_wp2_with fail
    go_end0
    refine ⟨rfl, ?_, ?_⟩
    · first | exact HF.out _ rfl | exact (HF.out W rfl).heap rfl
    · first | exact (HB.out.drew.setCell HPB.1 _) | exact (HB.out.setCell HPB.1 _).drew


set_option maxHeartbeats 1600000 in
set_option maxRecDepth 100000 in
theorem do_13 (B p : Nat) (m : SM) (op u v nx : Int) (t : Nat) (wv : Value) (w : World) (hop : op = 13) (h : RunI B w p m) (hl : m.cells.length ≤ 80) (hs : m.stk.length ≤ 40) (hw : WordsV B w wv op u v) :
    Calls Try.prog 120 #[.pointer (some ⟨p, 0, none⟩), oneV op wv nx, .int .i64 t] w fun e w' => e = .returned (.tuple #[]) ∧ RunI B w' p (doM op u t m) ∧ Below B w w' := by
  have hD : doM op u t m = { m with done := true } := by subst hop; rfl
  rw [hD]
  clear hD
  obtain ⟨a, c, rfl, _⟩ := hw
  generalize (argN op).toNat = n at *
  have hX : Hid (∀ W, W = w.alloc (.cells #[.int .i64 op, .slice a n c, .int .i64 nx] 130) → _) := fun W e => do_pre B p n a c m op nx w W h e
  have hBp := h.lt
  have hT : (op == 1) = false ∧ (op == 2) = false ∧ (op == 3) = false ∧ (op == 4) = false ∧ (op == 5) = false ∧ (op == 6) = false ∧ (op == 7) = false ∧ (op == 8) = false ∧ (op == 9) = false ∧ (op == 10) = false ∧ (op == 11) = false ∧ (op == 12) = false ∧ (op == 13) = true := by subst hop; exact ⟨rfl, rfl, rfl, rfl, rfl, rfl, rfl, rfl, rfl, rfl, rfl, rfl, rfl⟩
  clear hop h
  obtain ⟨e1, e2, e3, e4, e5, e6, e7, e8, e9, e10, e11, e12, e13⟩ := hT
  go_enter Try.func120, Try.ntmps120
  go_upto_region 32 with fail
  have hXX := hX.out _ rfl
  generalize w.alloc (.cells #[.int .i64 op, .slice a n c, .int .i64 nx] 130) = W at *
  obtain ⟨y0, y1, x3, x4, x5, x6⟩ := hXX
  have HB : Hid (Below B w W) := x4
  have HR : Hid (RunI B W p m) := x3
  have HL : Hid (w.heap.size < W.heap.size) := x6
  clear x3 x4 x5 x6 hX
  have HF : Hid (RunI B (W.setCell ⟨p, 6, none⟩ (.bool true)) p { m with done := true }) := HR.out.fld (m' := { m with done := true }) 6 _ (fun _ _ => rfl) rfl rfl
  have hq := HR.out
  obtain ⟨sv, cv, hb, _⟩ := hq
  have z0 := (RunI.cells (B := B) hb).2.2.2.2.2.2
  have zf := frozen_of_row _ _ 6 _ _ hb
  have HPB := HR.out.lt
  clear hb
  go_wp2_with fail
  go_end0
  exact ⟨rfl, HF.out, HB.out.setCell HPB.1 _⟩

end Go.Proofs.Ytcikofhbfncgdaa
namespace Go.Proofs.Ytcikofhbfncgdaa
open Go.RowKit
set_option linter.unusedVariables false
attribute [local go_sem ↓] Go.wp_at_zero Go.wp_at_succ

set_option maxHeartbeats 1600000 in
set_option maxRecDepth 100000 in
theorem do_7 (B p : Nat) (m : SM) (op u v nx : Int) (t : Nat) (wv : Value) (w : World) (hop : op = 7) (h : RunI B w p m) (hl : m.cells.length ≤ 80) (hs : m.stk.length ≤ 40) (h0 : 0 < m.stk.length) (hw : WordsV B w wv op u v) :
    Calls Try.prog 120 #[.pointer (some ⟨p, 0, none⟩), oneV op wv nx, .int .i64 t] w fun e w' => e = .returned (.tuple #[]) ∧ RunI B w' p (doM op u t m) ∧ Below B w w' := by
  have hD : doM op u t m = psh (pop m) (wd (-(tp m 0))) := by subst hop; rfl
  rw [hD]
  clear hD
  obtain ⟨a, c, rfl, _⟩ := hw
  generalize (argN op).toNat = n at *
  have hX : Hid (∀ W, W = w.alloc (.cells #[.int .i64 op, .slice a n c, .int .i64 nx] 130) → _) := fun W e => do_pre B p n a c m op nx w W h e
  have hBp := h.lt
  have hT : (op == 1) = false ∧ (op == 2) = false ∧ (op == 3) = false ∧ (op == 4) = false ∧ (op == 5) = false ∧ (op == 6) = false ∧ (op == 7) = true := by subst hop; exact ⟨rfl, rfl, rfl, rfl, rfl, rfl, rfl⟩
  clear hop h
  obtain ⟨e1, e2, e3, e4, e5, e6, e7⟩ := hT
  go_enter Try.func120, Try.ntmps120
  go_upto_region 19 with fail
  have hXX := hX.out _ rfl
  generalize w.alloc (.cells #[.int .i64 op, .slice a n c, .int .i64 nx] 130) = W at *
  obtain ⟨y0, y1, x3, x4, x5, x6⟩ := hXX
  have HB : Hid (Below B w W) := x4
  have HR : Hid (RunI B W p m) := x3
  have HL : Hid (w.heap.size < W.heap.size) := x6
  clear x3 x4 x5 x6 hX
  have h38 : (pop m).stk.length ≤ 40 := by rw [pop_len]; omega
  go_region_with (first | (go_at_call 144; refine (take_any B p m _ (HR.out.heap (by rfl)) h0 hs).mono ?_; rintro e w3 ⟨rfl, hr, hb, _⟩) | (go_at_call 135; refine (implNegOf _ _).mono ?_; rintro e w4 ⟨rfl, rfl⟩) | (go_at_call 143; refine (put_any B p (pop m) _ _ (by assumption) h38).mono ?_; rintro e w5 ⟨rfl, hr5, hb5⟩))
  all_goals
    clear y1 y0
    go_wp2_with fail
    go_end0
    exact ⟨rfl, hr5, (HB.out.drew.trans hb).trans hb5⟩


set_option maxHeartbeats 1600000 in
set_option maxRecDepth 100000 in
theorem do_8 (B p : Nat) (m : SM) (op u v nx : Int) (t : Nat) (wv : Value) (w : World) (hop : op = 8) (h : RunI B w p m) (hl : m.cells.length ≤ 80) (hs : m.stk.length ≤ 40) (h0 : 0 < m.stk.length) (hw : WordsV B w wv op u v) :
    Calls Try.prog 120 #[.pointer (some ⟨p, 0, none⟩), oneV op wv nx, .int .i64 t] w fun e w' => e = .returned (.tuple #[]) ∧ RunI B w' p (doM op u t m) ∧ Below B w w' := by
  have hD : doM op u t m = psh (pop m) (nt (tp m 0)) := by subst hop; rfl
  rw [hD]
  clear hD
  obtain ⟨a, c, rfl, _⟩ := hw
  generalize (argN op).toNat = n at *
  have hX : Hid (∀ W, W = w.alloc (.cells #[.int .i64 op, .slice a n c, .int .i64 nx] 130) → _) := fun W e => do_pre B p n a c m op nx w W h e
  have hBp := h.lt
  have hT : (op == 1) = false ∧ (op == 2) = false ∧ (op == 3) = false ∧ (op == 4) = false ∧ (op == 5) = false ∧ (op == 6) = false ∧ (op == 7) = false ∧ (op == 8) = true := by subst hop; exact ⟨rfl, rfl, rfl, rfl, rfl, rfl, rfl, rfl⟩
  clear hop h
  obtain ⟨e1, e2, e3, e4, e5, e6, e7, e8⟩ := hT
  go_enter Try.func120, Try.ntmps120
  go_upto_region 21 with fail
  have hXX := hX.out _ rfl
  generalize w.alloc (.cells #[.int .i64 op, .slice a n c, .int .i64 nx] 130) = W at *
  obtain ⟨y0, y1, x3, x4, x5, x6⟩ := hXX
  have HB : Hid (Below B w W) := x4
  have HR : Hid (RunI B W p m) := x3
  have HL : Hid (w.heap.size < W.heap.size) := x6
  clear x3 x4 x5 x6 hX
  have h38 : (pop m).stk.length ≤ 40 := by rw [pop_len]; omega
  go_region_with (first | (go_at_call 144; refine (take_any B p m _ (HR.out.heap (by rfl)) h0 hs).mono ?_; rintro e w3 ⟨rfl, hr, hb, _⟩) | (go_at_call 136; refine (implNotOf _ _).mono ?_; rintro e w4 ⟨rfl, rfl⟩) | (go_at_call 143; refine (put_any B p (pop m) _ _ (by assumption) h38).mono ?_; rintro e w5 ⟨rfl, hr5, hb5⟩))
  all_goals
    clear y1 y0
    go_wp2_with fail
    go_end0
    exact ⟨rfl, hr5, (HB.out.drew.trans hb).trans hb5⟩


set_option maxHeartbeats 1600000 in
set_option maxRecDepth 100000 in
theorem do_9 (B p : Nat) (m : SM) (op u v nx : Int) (t : Nat) (wv : Value) (w : World) (hop : op = 9) (h : RunI B w p m) (hl : m.cells.length ≤ 80) (hs : m.stk.length ≤ 40) (h0 : 0 < m.stk.length) (hw : WordsV B w wv op u v) :
    Calls Try.prog 120 #[.pointer (some ⟨p, 0, none⟩), oneV op wv nx, .int .i64 t] w fun e w' => e = .returned (.tuple #[]) ∧ RunI B w' p (doM op u t m) ∧ Below B w w' := by
  have hD : doM op u t m = psh (pop m) (b01 (decide (tp m 0 ≠ 0))) := by subst hop; rfl
  rw [hD]
  clear hD
  have e0 : (tp m 0 != 0) = decide (tp m 0 ≠ 0) := by by_cases h : tp m 0 = 0 <;> simp [h]
  generalize decide (tp m 0 ≠ 0) = q at *
  obtain ⟨a, c, rfl, _⟩ := hw
  generalize (argN op).toNat = n at *
  have hX : Hid (∀ W, W = w.alloc (.cells #[.int .i64 op, .slice a n c, .int .i64 nx] 130) → _) := fun W e => do_pre B p n a c m op nx w W h e
  have hBp := h.lt
  have hT : (op == 1) = false ∧ (op == 2) = false ∧ (op == 3) = false ∧ (op == 4) = false ∧ (op == 5) = false ∧ (op == 6) = false ∧ (op == 7) = false ∧ (op == 8) = false ∧ (op == 9) = true := by subst hop; exact ⟨rfl, rfl, rfl, rfl, rfl, rfl, rfl, rfl, rfl⟩
  clear hop h
  obtain ⟨e1, e2, e3, e4, e5, e6, e7, e8, e9⟩ := hT
  go_enter Try.func120, Try.ntmps120
  go_upto_region 23 with fail
  have hXX := hX.out _ rfl
  generalize w.alloc (.cells #[.int .i64 op, .slice a n c, .int .i64 nx] 130) = W at *
  obtain ⟨y0, y1, x3, x4, x5, x6⟩ := hXX
  have HB : Hid (Below B w W) := x4
  have HR : Hid (RunI B W p m) := x3
  have HL : Hid (w.heap.size < W.heap.size) := x6
  clear x3 x4 x5 x6 hX
  have h38 : (pop m).stk.length ≤ 40 := by rw [pop_len]; omega
  go_region_with (first | (go_at_call 144; refine (take_any B p m _ (HR.out.heap (by rfl)) h0 hs).mono ?_; rintro e w3 ⟨rfl, hr, hb, _⟩) | (go_at_call 137; refine (itruth_any _ _).mono ?_; rintro e w4 ⟨rfl, rfl⟩) | (go_at_call 143; refine (put_any B p (pop m) _ _ (by assumption) h38).mono ?_; rintro e w5 ⟨rfl, hr5, hb5⟩))
  all_goals
    clear y1 y0
    go_wp2_with fail
    go_end0
    exact ⟨rfl, hr5, (HB.out.drew.trans hb).trans hb5⟩

end Go.Proofs.Ytcikofhbfncgdaa
namespace Go.Proofs.Ytcikofhbfncgdaa
open Go.RowKit
set_option linter.unusedVariables false

theorem instr_n (a : Option Addr) (zs : List Int) (c k : Nat) (w : World) (hn : Nums w a zs) (hl : zs.length ≤ 400) (hk : k ≤ 65535) (hr : readyB zs k = false) :
    Calls Try.prog 108 #[.slice a zs.length c, .int .i64 k, argsF] w fun e w' => e = .returned (.tuple #[oneZ, .bool false]) ∧ Below w.heap.size w w' := by
  by_cases hlt : k < zs.length
  · rcases hn with hn | ⟨b, off, rfl, hcc⟩
    · rw [hn] at hlt; simp at hlt
    refine instr_no2 b off zs.length c k (zs.getD k 0) w hlt hl (hcc k hlt) ?_
    unfold readyB at hr
    rw [decide_eq_true (by omega : (k : Int) < zs.length), Bool.true_and, Int.toNat_natCast] at hr
    cases hq : inB (zs.getD k 0) 1 13
    · exact .inl rfl
    · rw [hq, Bool.true_and] at hr
      exact .inr ⟨rfl, by have := of_decide_eq_false hr; omega⟩
  · exact instr_no1 a zs.length c k w (by omega) hk hl
theorem instr_r (B : Nat) (a : Option Addr) (zs : List Int) (c k : Nat) (w : World) (hn : Nums w a zs) (hB : ∀ b off, a = some ⟨b, off, none⟩ → b < B) (hl : zs.length ≤ 400) (hc : zs.length ≤ c) (hr : readyB zs k = true) (hBw : B ≤ w.heap.size) :
    Calls Try.prog 108 #[.slice a zs.length c, .int .i64 k, argsF] w fun e w' => ∃ wv, e = .returned (.tuple #[oneV (zs.getD k 0) wv ((k : Int) + 1 + argN (zs.getD k 0)), .bool true]) ∧ WordsV B w' wv (zs.getD k 0) (zs.getD (k + 1) 0) (zs.getD (k + 2) 0) ∧ Below w.heap.size w w' := by
  have hq := ready_of hr
  simp only [Int.toNat_natCast] at hq
  obtain ⟨h1, h2, h3, h4⟩ := hq
  have hA := argN_lo (zs.getD k 0)
  obtain ⟨A, hAn⟩ := Int.eq_ofNat_of_zero_le hA.1
  rcases hn with hn | ⟨b, off, rfl, hcc⟩
  · rw [hn] at h1; simp at h1; omega
  refine (instr_yes b off zs.length c k A (zs.getD k 0) w (by omega) hl hc (hcc k (by omega)) (inB_iff.2 ⟨h2, h3⟩) hAn (by omega)).mono ?_
  rintro e w' ⟨a2, c2, rfl, ha2, hb⟩
  refine ⟨_, by rw [hAn], ⟨a2, c2, by rw [hAn]; rfl, fun h => ⟨b, off + (k + 1), ha2 (by omega), hB b off rfl, ?_, fun h2 => ?_⟩⟩, hb⟩
  · exact (hb.cell (p := ⟨b, off + (k + 1), none⟩) (by have := hB b off rfl; show b < _; omega)).trans (hcc (k + 1) (by omega))
  · exact (hb.cell (p := ⟨b, off + (k + 1) + 1, none⟩) (by have := hB b off rfl; show b < _; omega)).trans (hcc (k + 2) (by omega))

set_option maxHeartbeats 1600000 in
set_option maxRecDepth 100000 in
theorem told_no (p : Nat) (op nx : Int) (n c : Nat) (a : Option Addr) (w : World) (hop : op < 2 ∨ 6 < op) :
    Calls Try.prog 119 #[.pointer (some ⟨p, 0, none⟩), oneV op (.slice a n c) nx] w fun e w' => e = .returned (ir 0 0) ∧ Below w.heap.size w w' := by
  have hT : (op == 2) = false ∧ (op == 3) = false ∧ (op == 4) = false ∧ (op == 5) = false ∧ (op == 6) = false := by
    refine ⟨?_, ?_, ?_, ?_, ?_⟩ <;> (rw [beq_eq_false_iff_ne]; omega)
  clear hop
  obtain ⟨e2, e3, e4, e5, e6⟩ := hT
  go_enter Try.func119, Try.ntmps119
  go_wp2_with fail
  refine bodyPost_ret (v := ir 0 0) (by simp [results, Try.results119, go_sem]) rfl ⟨rfl, ?_⟩
  go_grown

theorem told_any (B p : Nat) (m : SM) (op u v nx : Int) (wv : Value) (w : World) (h : RunI B w p m) (hg : Good m) (h1 : 1 ≤ op) (h13 : op ≤ 13) (hf : fitsB m.stk.length op = true) (hw : WordsV B w wv op u v) (hu0 : 0 ≤ u) (hu1 : u ≤ 65535) (hv0 : 0 ≤ v) (hv1 : v ≤ 65535) :
    Calls Try.prog 119 #[.pointer (some ⟨p, 0, none⟩), oneV op wv nx] w fun e w' => e = .returned (ir (toldC op u v m) (toldV op u v m)) ∧ Below w.heap.size w w' := by
  have hF := (fits_of hf).1
  by_cases h23 : op = 2 ∨ op = 3
  · exact told_23 B p m op u v nx wv w h23 h hg.cl hw hu0
  by_cases h4 : op = 4
  · have eC : toldC op u v m = itemC m.cells.length u v (tp m 0) := by unfold toldC; rw [if_neg h23, if_pos h4]
    have eV : toldV op u v m = itemV m.cells.length u v (tp m 0) := by unfold toldV; rw [if_neg h23, if_pos h4]
    rw [eC, eV]
    exact told_4 B p m op u v nx wv w h4 h hg.cl hg.sl (by subst h4; have : tkN 4 = 1 := rfl; omega) hw hu0 hu1 hv0 hv1
  by_cases h5 : op = 5
  · have eC : toldC op u v m = itemC m.cells.length u v (tp m 1) := by unfold toldC; rw [if_neg h23, if_neg h4, if_pos h5]
    have eV : toldV op u v m = itemV m.cells.length u v (tp m 1) := by unfold toldV; rw [if_neg h23, if_neg h4, if_pos h5]
    rw [eC, eV]
    exact told_5 B p m op u v nx wv w h5 h hg.cl hg.sl (by subst h5; have : tkN 5 = 2 := rfl; omega) hw hu0 hu1 hv0 hv1
  by_cases h6 : op = 6
  · have eC : toldC op u v m = twoC u (tp m 0) := by unfold toldC; rw [if_neg h23, if_neg h4, if_neg h5, if_pos h6]
    have eV : toldV op u v m = binV u (tp m 1) (tp m 0) := by unfold toldV; rw [if_neg h23, if_neg h4, if_neg h5, if_pos h6]
    rw [eC, eV]
    exact told_6 B p m op u v nx wv w h6 h hg.cl hg.sl (by subst h6; have : tkN 6 = 2 := rfl; omega) hw
  have eC : toldC op u v m = 0 := by unfold toldC; rw [if_neg h23, if_neg h4, if_neg h5, if_neg h6]
  have eV : toldV op u v m = 0 := by unfold toldV; rw [if_neg h23, if_neg h4, if_neg h5, if_neg h6]
  rw [eC, eV]
  obtain ⟨a, c, rfl, _⟩ := hw
  exact told_no p op nx _ c a w (by omega)

theorem do_any (B p : Nat) (m : SM) (op u v nx : Int) (t : Nat) (wv : Value) (w : World) (h : RunI B w p m) (hg : Good m) (h1 : 1 ≤ op) (h13 : op ≤ 13) (hf : fitsB m.stk.length op = true) (ht : op = 2 ∨ op = 3 ∨ op = 4 ∨ op = 5 → t < m.cells.length) (hw : WordsV B w wv op u v) :
    Calls Try.prog 120 #[.pointer (some ⟨p, 0, none⟩), oneV op wv nx, .int .i64 t] w fun e w' => e = .returned (.tuple #[]) ∧ RunI B w' p (doM op u t m) ∧ Below B w w' := by
  have hF := (fits_of hf).1
  have hop : op = 1 ∨ op = 2 ∨ op = 3 ∨ op = 4 ∨ op = 5 ∨ op = 6 ∨ op = 7 ∨ op = 8 ∨ op = 9 ∨ op = 10 ∨ op = 11 ∨ op = 12 ∨ op = 13 := by omega
  rcases hop with e | e | e | e | e | e | e | e | e | e | e | e | e
  · exact do_1 B p m op u v nx t wv w e h hg.cl hg.sl hw
  · exact do_2 B p m op u v nx t wv w e h hg.cl hg.sl (ht (by omega)) hw
  · exact do_3 B p m op u v nx t wv w e h hg.cl hg.sl (ht (by omega)) (by subst e; have : tkN 3 = 1 := rfl; omega) hw
  · exact do_4 B p m op u v nx t wv w e h hg.cl hg.sl (ht (by omega)) (by subst e; have : tkN 4 = 1 := rfl; omega) hw
  · exact do_5 B p m op u v nx t wv w e h hg.cl hg.sl (ht (by omega)) (by subst e; have : tkN 5 = 2 := rfl; omega) hw
  · exact do_6 B p m op u v nx t wv w e h hg.cl hg.sl (by subst e; have : tkN 6 = 2 := rfl; omega) hw
  · exact do_7 B p m op u v nx t wv w e h hg.cl hg.sl (by subst e; have : tkN 7 = 1 := rfl; omega) hw
  · exact do_8 B p m op u v nx t wv w e h hg.cl hg.sl (by subst e; have : tkN 8 = 1 := rfl; omega) hw
  · exact do_9 B p m op u v nx t wv w e h hg.cl hg.sl (by subst e; have : tkN 9 = 1 := rfl; omega) hw
  · exact do_10 B p m op u v nx t wv w e h hg.cl hg.sl hw
  · exact do_11 B p m op u v nx t wv w e h hg.cl hg.sl (by subst e; have : tkN 11 = 1 := rfl; omega) hw
  · exact do_12 B p m op u v nx t wv w e h hg.cl hg.sl hw
  · exact do_13 B p m op u v nx t wv w e h hg.cl hg.sl hw
end Go.Proofs.Ytcikofhbfncgdaa
