/-
  impl's do: ops 11, 12, 13.
-/
import Derived.Test.YtjofghelenfklaaIDo0
namespace Go.Proofs.Ytjofghelenfklaa
open Go.RowKit
set_option linter.unusedVariables false
attribute [local go_sem ↓] Go.wp_at_zero Go.wp_at_succ

set_option maxHeartbeats 1600000 in
set_option maxRecDepth 100000 in
theorem do_11 (B p : Nat) (m : SM) (op u v nx : Int) (t : Nat) (wv : Value) (w : World) (hop : op = 11) (h : RunI B w p m) (hl : m.cells.length ≤ 80) (hs : m.stk.length ≤ 40) (h0 : 0 < m.stk.length) (hw : WordsV B w wv op u v) :
    Calls Try.prog 120 #[.pointer (some ⟨p, 0, none⟩), oneV op wv nx, .int .i64 t] w fun e w' => e = .returned (.tuple #[]) ∧ RunI B w' p (doM op u t m) ∧ Below B w w' := by
  have hD : doM op u t m = { pop m with pc := if tp m 0 = 0 then u else m.pc } := by subst hop; rfl
  obtain ⟨q, hq⟩ : ∃ q, q = (if tp m 0 = 0 then u else m.pc) := ⟨_, rfl⟩
  rw [hD, ← hq]
  have HQ : Hid (q = if tp m 0 = 0 then u else m.pc) := hq
  clear hD hq
  have ea : argN op = 1 := by rw [hop]; rfl
  obtain ⟨a, c, rfl, h1⟩ := hw
  obtain ⟨b, off, rfl, hlt, h2, _⟩ := h1 (by omega)
  rw [ea]
  clear h1 ea
  have hX : Hid (∀ W, W = w.alloc (.cells #[.int .i64 op, .slice (some ⟨b, off, none⟩) 1 c, .int .i64 nx] 130) → _) := fun W e => do_pre B p 1 (some ⟨b, off, none⟩) c m op nx w W h e
  have hBp := h.lt
  have hT : (op == 1) = false ∧ (op == 2) = false ∧ (op == 3) = false ∧ (op == 4) = false ∧ (op == 5) = false ∧ (op == 6) = false ∧ (op == 7) = false ∧ (op == 8) = false ∧ (op == 9) = false ∧ (op == 10) = false ∧ (op == 11) = true := by subst hop; exact ⟨rfl, rfl, rfl, rfl, rfl, rfl, rfl, rfl, rfl, rfl, rfl⟩
  clear hop h
  obtain ⟨e1, e2, e3, e4, e5, e6, e7, e8, e9, e10, e11⟩ := hT
  go_enter Try.func120, Try.ntmps120
  go_upto_region 27 with fail
  have hXX := hX.out _ rfl
  generalize w.alloc (.cells #[.int .i64 op, .slice (some ⟨b, off, none⟩) 1 c, .int .i64 nx] 130) = W at *
  obtain ⟨y0, y1, x3, x4, x5, x6⟩ := hXX
  have HB : Hid (Below B w W) := x4
  have HR : Hid (RunI B W p m) := x3
  have HL : Hid (w.heap.size < W.heap.size) := x6
  have yw : W.cell? ⟨b, off, none⟩ = some (.int .i64 u) := (x4.cell (p := ⟨b, off, none⟩) hlt).trans h2
  clear x3 x4 x5 x6 hX
  have HW : Hid (W.cell? ⟨w.heap.size, 1, none⟩ = some (.slice (some ⟨b, off, none⟩) 1 c) ∧ W.cell? ⟨b, off, none⟩ = some (.int .i64 u) ∧ w.heap.size < W.heap.size ∧ b < B ∧ p < w.heap.size) := ⟨y1, yw, HL.out, hlt, hBp.2⟩
  clear y0 y1 yw
  go_upto_if 135 with (go_at_call 144; refine (take_any B p m _ HR.out h0 hs).mono ?_; rintro e w3 ⟨rfl, hr, hb, ho⟩)
  have x1 : w3.cell? ⟨w.heap.size, 1, none⟩ = some (.slice (some ⟨b, off, none⟩) 1 c) := (World.cell?_of_block (w := W) (ho w.heap.size HW.out.2.2.1 (by have := HW.out.2.2.2.2; omega))).trans HW.out.1
  have x2 : w3.cell? ⟨b, off, none⟩ = some (.int .i64 u) := (hb.cell (p := ⟨b, off, none⟩) HW.out.2.2.2.1).trans HW.out.2.1
  have HB3 : Hid (Below B w w3) := HB.out.trans hb
  have HR3 : Hid (RunI B w3 p (pop m)) := hr
  have HF : Hid (RunI B (w3.setCell ⟨p, 2, none⟩ (.int .i64 u)) p { pop m with pc := u }) := hr.fld (m' := { pop m with pc := u }) 2 _ (fun _ _ => rfl) rfl rfl
  have HPB := hr.lt
  obtain ⟨sv, cv, hb, _⟩ := hr
  have z0 := (RunI.cells (B := B) hb).2.2.1
  have zf := frozen_of_row _ _ 2 _ _ hb
  clear hb ho
  by_cases hz : tp m 0 = 0
  · have hq : q = u := by rw [HQ.out, if_pos hz]
    subst hq
    have e0 : (tp m 0 == 0) = true := by rw [hz]; rfl
    clear HQ hz
    go_wp2_with fail
    go_end0
    exact ⟨rfl, HF.out, HB3.out.setCell HPB.1 _⟩
  · have hq : q = m.pc := by rw [HQ.out, if_neg hz]
    subst hq
    have e0 : (tp m 0 == 0) = false := by simpa using hz
    clear HQ hz
    go_wp2_with fail
    go_end0
    exact ⟨rfl, HR3.out, HB3.out⟩


set_option maxHeartbeats 1600000 in
set_option maxRecDepth 100000 in
theorem do_12 (B p : Nat) (m : SM) (op u v nx : Int) (t : Nat) (wv : Value) (w : World) (hop : op = 12) (h : RunI B w p m) (hl : m.cells.length ≤ 80) (hs : m.stk.length ≤ 40) (hw : WordsV B w wv op u v) :
    Calls Try.prog 120 #[.pointer (some ⟨p, 0, none⟩), oneV op wv nx, .int .i64 t] w fun e w' => e = .returned (.tuple #[]) ∧ RunI B w' p (doM op u t m) ∧ Below B w w' := by
  have hD : doM op u t m = { m with sig := sgn m.sig u } := by subst hop; rfl
  rw [hD]
  clear hD
  have ea : argN op = 1 := by rw [hop]; rfl
  obtain ⟨a, c, rfl, h1⟩ := hw
  obtain ⟨b, off, rfl, hlt, h2, _⟩ := h1 (by omega)
  rw [ea]
  clear h1 ea
  have hX : Hid (∀ W, W = w.alloc (.cells #[.int .i64 op, .slice (some ⟨b, off, none⟩) 1 c, .int .i64 nx] 130) → _) := fun W e => do_pre B p 1 (some ⟨b, off, none⟩) c m op nx w W h e
  have hBp := h.lt
  have hT : (op == 1) = false ∧ (op == 2) = false ∧ (op == 3) = false ∧ (op == 4) = false ∧ (op == 5) = false ∧ (op == 6) = false ∧ (op == 7) = false ∧ (op == 8) = false ∧ (op == 9) = false ∧ (op == 10) = false ∧ (op == 11) = false ∧ (op == 12) = true := by subst hop; exact ⟨rfl, rfl, rfl, rfl, rfl, rfl, rfl, rfl, rfl, rfl, rfl, rfl⟩
  clear hop h
  obtain ⟨e1, e2, e3, e4, e5, e6, e7, e8, e9, e10, e11, e12⟩ := hT
  go_enter Try.func120, Try.ntmps120
  go_upto_region 30 with fail
  have hXX := hX.out _ rfl
  generalize w.alloc (.cells #[.int .i64 op, .slice (some ⟨b, off, none⟩) 1 c, .int .i64 nx] 130) = W at *
  obtain ⟨y0, y1, x3, x4, x5, x6⟩ := hXX
  have HB : Hid (Below B w W) := x4
  have HR : Hid (RunI B W p m) := x3
  have HL : Hid (w.heap.size < W.heap.size) := x6
  have yw : W.cell? ⟨b, off, none⟩ = some (.int .i64 u) := (x4.cell (p := ⟨b, off, none⟩) hlt).trans h2
  clear x3 x4 x5 x6 hX
  have HF : Hid (∀ W2 : World, W2.heap = W.heap → RunI B (W2.setCell ⟨p, 3, none⟩ (.int .i64 (sgn m.sig u))) p { m with sig := sgn m.sig u }) := fun W2 e => (HR.out.heap e).fld (m' := { m with sig := sgn m.sig u }) 3 _ (fun _ _ => rfl) rfl rfl
  have hq := HR.out
  obtain ⟨sv, cv, hb, _⟩ := hq
  have z0 := (RunI.cells (B := B) hb).2.2.2.1
  have zf := frozen_of_row _ _ 3 _ _ hb
  have HPB := HR.out.lt
  clear hb
  go_region_with (go_at_call 138; refine (implSignOf _ _ _).mono ?_; rintro e w3 ⟨rfl, rfl⟩)
  all_goals
    go_wp2_with fail
    go_end0
    refine ⟨rfl, ?_, ?_⟩
    · first | exact HF.out _ rfl | exact (HF.out W rfl).heap rfl
    · first | exact (HB.out.drew.setCell HPB.1 _) | exact (HB.out.setCell HPB.1 _).drew


set_option maxHeartbeats 1600000 in
set_option maxRecDepth 100000 in
theorem do_13 (B p : Nat) (m : SM) (op u v nx : Int) (t : Nat) (wv : Value) (w : World) (hop : op = 13) (h : RunI B w p m) (hl : m.cells.length ≤ 80) (hs : m.stk.length ≤ 40) (hw : WordsV B w wv op u v) :
    Calls Try.prog 120 #[.pointer (some ⟨p, 0, none⟩), oneV op wv nx, .int .i64 t] w fun e w' => e = .returned (.tuple #[]) ∧ RunI B w' p (doM op u t m) ∧ Below B w w' := by
  have hD : doM op u t m = { m with done := true } := by subst hop; rfl
  rw [hD]
  clear hD
  obtain ⟨a, c, rfl, _⟩ := hw
  generalize (argN op).toNat = n at *
  have hX : Hid (∀ W, W = w.alloc (.cells #[.int .i64 op, .slice a n c, .int .i64 nx] 130) → _) := fun W e => do_pre B p n a c m op nx w W h e
  have hBp := h.lt
  have hT : (op == 1) = false ∧ (op == 2) = false ∧ (op == 3) = false ∧ (op == 4) = false ∧ (op == 5) = false ∧ (op == 6) = false ∧ (op == 7) = false ∧ (op == 8) = false ∧ (op == 9) = false ∧ (op == 10) = false ∧ (op == 11) = false ∧ (op == 12) = false ∧ (op == 13) = true := by subst hop; exact ⟨rfl, rfl, rfl, rfl, rfl, rfl, rfl, rfl, rfl, rfl, rfl, rfl, rfl⟩
  clear hop h
  obtain ⟨e1, e2, e3, e4, e5, e6, e7, e8, e9, e10, e11, e12, e13⟩ := hT
  go_enter Try.func120, Try.ntmps120
  go_upto_region 32 with fail
  have hXX := hX.out _ rfl
  generalize w.alloc (.cells #[.int .i64 op, .slice a n c, .int .i64 nx] 130) = W at *
  obtain ⟨y0, y1, x3, x4, x5, x6⟩ := hXX
  have HB : Hid (Below B w W) := x4
  have HR : Hid (RunI B W p m) := x3
  have HL : Hid (w.heap.size < W.heap.size) := x6
  clear x3 x4 x5 x6 hX
  have HF : Hid (RunI B (W.setCell ⟨p, 6, none⟩ (.bool true)) p { m with done := true }) := HR.out.fld (m' := { m with done := true }) 6 _ (fun _ _ => rfl) rfl rfl
  have hq := HR.out
  obtain ⟨sv, cv, hb, _⟩ := hq
  have z0 := (RunI.cells (B := B) hb).2.2.2.2.2.2
  have zf := frozen_of_row _ _ 6 _ _ hb
  have HPB := HR.out.lt
  clear hb
  go_wp2_with fail
  go_end0
  exact ⟨rfl, HF.out, HB.out.setCell HPB.1 _⟩

end Go.Proofs.Ytjofghelenfklaa
