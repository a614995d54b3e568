/-
  impl's StepStack.
-/
import Derived.Test.YtlofagpffeaebaaIDo0
import Derived.Test.YtlofagpffeaebaaIStk4
import Derived.Test.YtlofagpffeaebaaIStk5
import Derived.Test.YtlofagpffeaebaaIStk6
import Derived.Test.YtlofagpffeaebaaIStk7
import Derived.Test.YtlofagpffeaebaaIDoA
import Derived.Test.YtlofagpffeaebaaIDoB
import Derived.Test.YtlofagpffeaebaaIDoC
import Derived.Test.YtlofagpffeaebaaIDoD
import Derived.Test.YtlofagpffeaebaaIPrg
import Derived.Test.YtlofagpffeaebaaStkGo
import Derived.Test.YtlofagpffeaebaaIStk11
import Derived.Test.YtlofagpffeaebaaStkRes
namespace Go.Proofs.Ytlofagpffeaebaa
open Go.RowKit
set_option linter.unusedVariables false
attribute [local go_sem ↓] Go.wp_at_zero Go.wp_at_succ

set_option maxHeartbeats 1600000 in
set_option maxRecDepth 100000 in
theorem do_11 (B p : Nat) (m : SM) (op u v nx : Int) (t : Nat) (wv : Value) (w : World) (hop : op = 11) (h : RunI B w p m) (hl : m.cells.length ≤ 80) (hs : m.stk.length ≤ 40) (h0 : 0 < m.stk.length) (hw : WordsV B w wv op u v) :
    Calls Try.prog 83 #[.pointer (some ⟨p, 0, none⟩), oneV op wv nx, .int .i64 t] w fun e w' => e = .returned (.tuple #[]) ∧ RunI B w' p (doM op u t m) ∧ Below B w w' := by
  have hD : doM op u t m = { pop m with pc := if tp m 0 = 0 then u else m.pc } := by subst hop; rfl
  obtain ⟨q, hq⟩ : ∃ q, q = (if tp m 0 = 0 then u else m.pc) := ⟨_, rfl⟩
  rw [hD, ← hq]
  have HQ : Hid (q = if tp m 0 = 0 then u else m.pc) := hq
  clear hD hq
  have ea : argN op = 1 := by rw [hop]; rfl
  obtain ⟨a, c, rfl, h1⟩ := hw
  obtain ⟨b, off, rfl, hlt, h2, _⟩ := h1 (by omega)
  rw [ea]
  clear h1 ea
  have hX : Hid (∀ W, W = w.alloc (.cells #[.int .i64 op, .slice (some ⟨b, off, none⟩) 1 c, .int .i64 nx] 118) → _) := fun W e => do_pre B p 1 (some ⟨b, off, none⟩) c m op nx w W h e
  have hBp := h.lt
  have hT : (op == 1) = false ∧ (op == 2) = false ∧ (op == 3) = false ∧ (op == 4) = false ∧ (op == 5) = false ∧ (op == 6) = false ∧ (op == 7) = false ∧ (op == 8) = false ∧ (op == 9) = false ∧ (op == 10) = false ∧ (op == 11) = true := by subst hop; exact ⟨rfl, rfl, rfl, rfl, rfl, rfl, rfl, rfl, rfl, rfl, rfl⟩
  clear hop h
  obtain ⟨e1, e2, e3, e4, e5, e6, e7, e8, e9, e10, e11⟩ := hT
  go_enter Try.func83, Try.ntmps83
  go_upto_region 27 with fail
  have hXX := hX.out _ rfl
  generalize w.alloc (.cells #[.int .i64 op, .slice (some ⟨b, off, none⟩) 1 c, .int .i64 nx] 118) = W at *
  obtain ⟨y0, y1, x3, x4, x5, x6⟩ := hXX
  have HB : Hid (Below B w W) := x4
  have HR : Hid (RunI B W p m) := x3
  have HL : Hid (w.heap.size < W.heap.size) := x6
  have yw : W.cell? ⟨b, off, none⟩ = some (.int .i64 u) := (x4.cell (p := ⟨b, off, none⟩) hlt).trans h2
  clear x3 x4 x5 x6 hX
  have HW : Hid (W.cell? ⟨w.heap.size, 1, none⟩ = some (.slice (some ⟨b, off, none⟩) 1 c) ∧ W.cell? ⟨b, off, none⟩ = some (.int .i64 u) ∧ w.heap.size < W.heap.size ∧ b < B ∧ p < w.heap.size) := ⟨y1, yw, HL.out, hlt, hBp.2⟩
  clear y0 y1 yw
  go_upto_if 135 with (go_at_call 107; refine (take_any B p m _ HR.out h0 hs).mono ?_; rintro e w3 ⟨rfl, hr, hb, ho⟩)
  have x1 : w3.cell? ⟨w.heap.size, 1, none⟩ = some (.slice (some ⟨b, off, none⟩) 1 c) := (World.cell?_of_block (w := W) (ho w.heap.size HW.out.2.2.1 (by have := HW.out.2.2.2.2; omega))).trans HW.out.1
  have x2 : w3.cell? ⟨b, off, none⟩ = some (.int .i64 u) := (hb.cell (p := ⟨b, off, none⟩) HW.out.2.2.2.1).trans HW.out.2.1
  have HB3 : Hid (Below B w w3) := HB.out.trans hb
  have HR3 : Hid (RunI B w3 p (pop m)) := hr
  have HF : Hid (RunI B (w3.setCell ⟨p, 2, none⟩ (.int .i64 u)) p { pop m with pc := u }) := hr.fld (m' := { pop m with pc := u }) 2 _ (fun _ _ => rfl) rfl rfl
  have HPB := hr.lt
  obtain ⟨sv, cv, hb, _⟩ := hr
  have z0 := (RunI.cells (B := B) hb).2.2.1
  have zf := frozen_of_row _ _ 2 _ _ hb
  clear hb ho
  by_cases hz : tp m 0 = 0
  · have hq : q = u := by rw [HQ.out, if_pos hz]
    subst hq
    have e0 : (tp m 0 == 0) = true := by rw [hz]; rfl
    clear HQ hz
    go_wp2_with fail
    go_end0
    exact ⟨rfl, HF.out, HB3.out.setCell HPB.1 _⟩
  · have hq : q = m.pc := by rw [HQ.out, if_neg hz]
    subst hq
    have e0 : (tp m 0 == 0) = false := by simpa using hz
    clear HQ hz
    go_wp2_with fail
    go_end0
    exact ⟨rfl, HR3.out, HB3.out⟩


set_option maxHeartbeats 1600000 in
set_option maxRecDepth 100000 in
theorem do_12 (B p : Nat) (m : SM) (op u v nx : Int) (t : Nat) (wv : Value) (w : World) (hop : op = 12) (h : RunI B w p m) (hl : m.cells.length ≤ 80) (hs : m.stk.length ≤ 40) (hw : WordsV B w wv op u v) :
    Calls Try.prog 83 #[.pointer (some ⟨p, 0, none⟩), oneV op wv nx, .int .i64 t] w fun e w' => e = .returned (.tuple #[]) ∧ RunI B w' p (doM op u t m) ∧ Below B w w' := by
  have hD : doM op u t m = { m with sig := sgn m.sig u } := by subst hop; rfl
  rw [hD]
  clear hD
  have ea : argN op = 1 := by rw [hop]; rfl
  obtain ⟨a, c, rfl, h1⟩ := hw
  obtain ⟨b, off, rfl, hlt, h2, _⟩ := h1 (by omega)
  rw [ea]
  clear h1 ea
  have hX : Hid (∀ W, W = w.alloc (.cells #[.int .i64 op, .slice (some ⟨b, off, none⟩) 1 c, .int .i64 nx] 118) → _) := fun W e => do_pre B p 1 (some ⟨b, off, none⟩) c m op nx w W h e
  have hBp := h.lt
  have hT : (op == 1) = false ∧ (op == 2) = false ∧ (op == 3) = false ∧ (op == 4) = false ∧ (op == 5) = false ∧ (op == 6) = false ∧ (op == 7) = false ∧ (op == 8) = false ∧ (op == 9) = false ∧ (op == 10) = false ∧ (op == 11) = false ∧ (op == 12) = true := by subst hop; exact ⟨rfl, rfl, rfl, rfl, rfl, rfl, rfl, rfl, rfl, rfl, rfl, rfl⟩
  clear hop h
  obtain ⟨e1, e2, e3, e4, e5, e6, e7, e8, e9, e10, e11, e12⟩ := hT
  go_enter Try.func83, Try.ntmps83
  go_upto_region 30 with fail
  have hXX := hX.out _ rfl
  generalize w.alloc (.cells #[.int .i64 op, .slice (some ⟨b, off, none⟩) 1 c, .int .i64 nx] 118) = W at *
  obtain ⟨y0, y1, x3, x4, x5, x6⟩ := hXX
  have HB : Hid (Below B w W) := x4
  have HR : Hid (RunI B W p m) := x3
  have HL : Hid (w.heap.size < W.heap.size) := x6
  have yw : W.cell? ⟨b, off, none⟩ = some (.int .i64 u) := (x4.cell (p := ⟨b, off, none⟩) hlt).trans h2
  clear x3 x4 x5 x6 hX
  have HF : Hid (∀ W2 : World, W2.heap = W.heap → RunI B (W2.setCell ⟨p, 3, none⟩ (.int .i64 (sgn m.sig u))) p { m with sig := sgn m.sig u }) := fun W2 e => (HR.out.heap e).fld (m' := { m with sig := sgn m.sig u }) 3 _ (fun _ _ => rfl) rfl rfl
  have hq := HR.out
  obtain ⟨sv, cv, hb, _⟩ := hq
  have z0 := (RunI.cells (B := B) hb).2.2.2.1
  have zf := frozen_of_row _ _ 3 _ _ hb
  have HPB := HR.out.lt
  clear hb
  go_region_with (go_at_call 111; refine (implSignOf _ _ _).mono ?_; rintro e w3 ⟨rfl, rfl⟩)
  all_goals
    go_wp2_with fail
    go_end0
    refine ⟨rfl, ?_, ?_⟩
    · first | exact HF.out _ rfl | exact (HF.out W rfl).heap rfl
    · first | exact (HB.out.drew.setCell HPB.1 _) | exact (HB.out.setCell HPB.1 _).drew


set_option maxHeartbeats 1600000 in
set_option maxRecDepth 100000 in
theorem do_13 (B p : Nat) (m : SM) (op u v nx : Int) (t : Nat) (wv : Value) (w : World) (hop : op = 13) (h : RunI B w p m) (hl : m.cells.length ≤ 80) (hs : m.stk.length ≤ 40) (hw : WordsV B w wv op u v) :
    Calls Try.prog 83 #[.pointer (some ⟨p, 0, none⟩), oneV op wv nx, .int .i64 t] w fun e w' => e = .returned (.tuple #[]) ∧ RunI B w' p (doM op u t m) ∧ Below B w w' := by
  have hD : doM op u t m = { m with done := true } := by subst hop; rfl
  rw [hD]
  clear hD
  obtain ⟨a, c, rfl, _⟩ := hw
  generalize (argN op).toNat = n at *
  have hX : Hid (∀ W, W = w.alloc (.cells #[.int .i64 op, .slice a n c, .int .i64 nx] 118) → _) := fun W e => do_pre B p n a c m op nx w W h e
  have hBp := h.lt
  have hT : (op == 1) = false ∧ (op == 2) = false ∧ (op == 3) = false ∧ (op == 4) = false ∧ (op == 5) = false ∧ (op == 6) = false ∧ (op == 7) = false ∧ (op == 8) = false ∧ (op == 9) = false ∧ (op == 10) = false ∧ (op == 11) = false ∧ (op == 12) = false ∧ (op == 13) = true := by subst hop; exact ⟨rfl, rfl, rfl, rfl, rfl, rfl, rfl, rfl, rfl, rfl, rfl, rfl, rfl⟩
  clear hop h
  obtain ⟨e1, e2, e3, e4, e5, e6, e7, e8, e9, e10, e11, e12, e13⟩ := hT
  go_enter Try.func83, Try.ntmps83
  go_upto_region 32 with fail
  have hXX := hX.out _ rfl
  generalize w.alloc (.cells #[.int .i64 op, .slice a n c, .int .i64 nx] 118) = W at *
  obtain ⟨y0, y1, x3, x4, x5, x6⟩ := hXX
  have HB : Hid (Below B w W) := x4
  have HR : Hid (RunI B W p m) := x3
  have HL : Hid (w.heap.size < W.heap.size) := x6
  clear x3 x4 x5 x6 hX
  have HF : Hid (RunI B (W.setCell ⟨p, 6, none⟩ (.bool true)) p { m with done := true }) := HR.out.fld (m' := { m with done := true }) 6 _ (fun _ _ => rfl) rfl rfl
  have hq := HR.out
  obtain ⟨sv, cv, hb, _⟩ := hq
  have z0 := (RunI.cells (B := B) hb).2.2.2.2.2.2
  have zf := frozen_of_row _ _ 6 _ _ hb
  have HPB := HR.out.lt
  clear hb
  go_wp2_with fail
  go_end0
  exact ⟨rfl, HF.out, HB.out.setCell HPB.1 _⟩

end Go.Proofs.Ytlofagpffeaebaa
namespace Go.Proofs.Ytlofagpffeaebaa
open Go.RowKit
set_option linter.unusedVariables false

theorem instr_n (a : Option Addr) (zs : List Int) (c k : Nat) (w : World) (hn : Nums w a zs) (hl : zs.length ≤ 400) (hk : k ≤ 65535) (hr : readyB zs k = false) :
    Calls Try.prog 78 #[.slice a zs.length c, .int .i64 k, argsF] w fun e w' => e = .returned (.tuple #[oneZ, .bool false]) ∧ Below w.heap.size w w' := by
  by_cases hlt : k < zs.length
  · rcases hn with hn | ⟨b, off, rfl, hcc⟩
    · rw [hn] at hlt; simp at hlt
    refine instr_no2 b off zs.length c k (zs.getD k 0) w hlt hl (hcc k hlt) ?_
    unfold readyB at hr
    rw [decide_eq_true (by omega : (k : Int) < zs.length), Bool.true_and, Int.toNat_natCast] at hr
    cases hq : inB (zs.getD k 0) 1 13
    · exact .inl rfl
    · rw [hq, Bool.true_and] at hr
      exact .inr ⟨rfl, by have := of_decide_eq_false hr; omega⟩
  · exact instr_no1 a zs.length c k w (by omega) hk hl
theorem instr_r (B : Nat) (a : Option Addr) (zs : List Int) (c k : Nat) (w : World) (hn : Nums w a zs) (hB : ∀ b off, a = some ⟨b, off, none⟩ → b < B) (hl : zs.length ≤ 400) (hc : zs.length ≤ c) (hr : readyB zs k = true) (hBw : B ≤ w.heap.size) :
    Calls Try.prog 78 #[.slice a zs.length c, .int .i64 k, argsF] w fun e w' => ∃ wv, e = .returned (.tuple #[oneV (zs.getD k 0) wv ((k : Int) + 1 + argN (zs.getD k 0)), .bool true]) ∧ WordsV B w' wv (zs.getD k 0) (zs.getD (k + 1) 0) (zs.getD (k + 2) 0) ∧ Below w.heap.size w w' := by
  have hq := ready_of hr
  simp only [Int.toNat_natCast] at hq
  obtain ⟨h1, h2, h3, h4⟩ := hq
  have hA := argN_lo (zs.getD k 0)
  obtain ⟨A, hAn⟩ := Int.eq_ofNat_of_zero_le hA.1
  rcases hn with hn | ⟨b, off, rfl, hcc⟩
  · rw [hn] at h1; simp at h1; omega
  refine (instr_yes b off zs.length c k A (zs.getD k 0) w (by omega) hl hc (hcc k (by omega)) (inB_iff.2 ⟨h2, h3⟩) hAn (by omega)).mono ?_
  rintro e w' ⟨a2, c2, rfl, ha2, hb⟩
  refine ⟨_, by rw [hAn], ⟨a2, c2, by rw [hAn]; rfl, fun h => ⟨b, off + (k + 1), ha2 (by omega), hB b off rfl, ?_, fun h2 => ?_⟩⟩, hb⟩
  · exact (hb.cell (p := ⟨b, off + (k + 1), none⟩) (by have := hB b off rfl; show b < _; omega)).trans (hcc (k + 1) (by omega))
  · exact (hb.cell (p := ⟨b, off + (k + 1) + 1, none⟩) (by have := hB b off rfl; show b < _; omega)).trans (hcc (k + 2) (by omega))

set_option maxHeartbeats 1600000 in
set_option maxRecDepth 100000 in
theorem told_no (p : Nat) (op nx : Int) (n c : Nat) (a : Option Addr) (w : World) (hop : op < 2 ∨ 6 < op) :
    Calls Try.prog 82 #[.pointer (some ⟨p, 0, none⟩), oneV op (.slice a n c) nx] w fun e w' => e = .returned (ir 0 0) ∧ Below w.heap.size w w' := by
  have hT : (op == 2) = false ∧ (op == 3) = false ∧ (op == 4) = false ∧ (op == 5) = false ∧ (op == 6) = false := by
    refine ⟨?_, ?_, ?_, ?_, ?_⟩ <;> (rw [beq_eq_false_iff_ne]; omega)
  clear hop
  obtain ⟨e2, e3, e4, e5, e6⟩ := hT
  go_enter Try.func82, Try.ntmps82
  go_wp2_with fail
  refine bodyPost_ret (v := ir 0 0) (by simp [results, Try.results82, go_sem]) rfl ⟨rfl, ?_⟩
  go_grown

theorem told_any (B p : Nat) (m : SM) (op u v nx : Int) (wv : Value) (w : World) (h : RunI B w p m) (hg : Good m) (h1 : 1 ≤ op) (h13 : op ≤ 13) (hf : fitsB m.stk.length op = true) (hw : WordsV B w wv op u v) (hu0 : 0 ≤ u) (hu1 : u ≤ 65535) (hv0 : 0 ≤ v) (hv1 : v ≤ 65535) :
    Calls Try.prog 82 #[.pointer (some ⟨p, 0, none⟩), oneV op wv nx] w fun e w' => e = .returned (ir (toldC op u v m) (toldV op u v m)) ∧ Below w.heap.size w w' := by
  have hF := (fits_of hf).1
  by_cases h23 : op = 2 ∨ op = 3
  · exact told_23 B p m op u v nx wv w h23 h hg.cl hw hu0
  by_cases h4 : op = 4
  · have eC : toldC op u v m = itemC m.cells.length u v (tp m 0) := by unfold toldC; rw [if_neg h23, if_pos h4]
    have eV : toldV op u v m = itemV m.cells.length u v (tp m 0) := by unfold toldV; rw [if_neg h23, if_pos h4]
    rw [eC, eV]
    exact told_4 B p m op u v nx wv w h4 h hg.cl hg.sl (by subst h4; have : tkN 4 = 1 := rfl; omega) hw hu0 hu1 hv0 hv1
  by_cases h5 : op = 5
  · have eC : toldC op u v m = itemC m.cells.length u v (tp m 1) := by unfold toldC; rw [if_neg h23, if_neg h4, if_pos h5]
    have eV : toldV op u v m = itemV m.cells.length u v (tp m 1) := by unfold toldV; rw [if_neg h23, if_neg h4, if_pos h5]
    rw [eC, eV]
    exact told_5 B p m op u v nx wv w h5 h hg.cl hg.sl (by subst h5; have : tkN 5 = 2 := rfl; omega) hw hu0 hu1 hv0 hv1
  by_cases h6 : op = 6
  · have eC : toldC op u v m = twoC u (tp m 0) := by unfold toldC; rw [if_neg h23, if_neg h4, if_neg h5, if_pos h6]
    have eV : toldV op u v m = binV u (tp m 1) (tp m 0) := by unfold toldV; rw [if_neg h23, if_neg h4, if_neg h5, if_pos h6]
    rw [eC, eV]
    exact told_6 B p m op u v nx wv w h6 h hg.cl hg.sl (by subst h6; have : tkN 6 = 2 := rfl; omega) hw
  have eC : toldC op u v m = 0 := by unfold toldC; rw [if_neg h23, if_neg h4, if_neg h5, if_neg h6]
  have eV : toldV op u v m = 0 := by unfold toldV; rw [if_neg h23, if_neg h4, if_neg h5, if_neg h6]
  rw [eC, eV]
  obtain ⟨a, c, rfl, _⟩ := hw
  exact told_no p op nx _ c a w (by omega)

theorem do_any (B p : Nat) (m : SM) (op u v nx : Int) (t : Nat) (wv : Value) (w : World) (h : RunI B w p m) (hg : Good m) (h1 : 1 ≤ op) (h13 : op ≤ 13) (hf : fitsB m.stk.length op = true) (ht : op = 2 ∨ op = 3 ∨ op = 4 ∨ op = 5 → t < m.cells.length) (hw : WordsV B w wv op u v) :
    Calls Try.prog 83 #[.pointer (some ⟨p, 0, none⟩), oneV op wv nx, .int .i64 t] w fun e w' => e = .returned (.tuple #[]) ∧ RunI B w' p (doM op u t m) ∧ Below B w w' := by
  have hF := (fits_of hf).1
  have hop : op = 1 ∨ op = 2 ∨ op = 3 ∨ op = 4 ∨ op = 5 ∨ op = 6 ∨ op = 7 ∨ op = 8 ∨ op = 9 ∨ op = 10 ∨ op = 11 ∨ op = 12 ∨ op = 13 := by omega
  rcases hop with e | e | e | e | e | e | e | e | e | e | e | e | e
  · exact do_1 B p m op u v nx t wv w e h hg.cl hg.sl hw
  · exact do_2 B p m op u v nx t wv w e h hg.cl hg.sl (ht (by omega)) hw
  · exact do_3 B p m op u v nx t wv w e h hg.cl hg.sl (ht (by omega)) (by subst e; have : tkN 3 = 1 := rfl; omega) hw
  · exact do_4 B p m op u v nx t wv w e h hg.cl hg.sl (ht (by omega)) (by subst e; have : tkN 4 = 1 := rfl; omega) hw
  · exact do_5 B p m op u v nx t wv w e h hg.cl hg.sl (ht (by omega)) (by subst e; have : tkN 5 = 2 := rfl; omega) hw
  · exact do_6 B p m op u v nx t wv w e h hg.cl hg.sl (by subst e; have : tkN 6 = 2 := rfl; omega) hw
  · exact do_7 B p m op u v nx t wv w e h hg.cl hg.sl (by subst e; have : tkN 7 = 1 := rfl; omega) hw
  · exact do_8 B p m op u v nx t wv w e h hg.cl hg.sl (by subst e; have : tkN 8 = 1 := rfl; omega) hw
  · exact do_9 B p m op u v nx t wv w e h hg.cl hg.sl (by subst e; have : tkN 9 = 1 := rfl; omega) hw
  · exact do_10 B p m op u v nx t wv w e h hg.cl hg.sl hw
  · exact do_11 B p m op u v nx t wv w e h hg.cl hg.sl (by subst e; have : tkN 11 = 1 := rfl; omega) hw
  · exact do_12 B p m op u v nx t wv w e h hg.cl hg.sl hw
  · exact do_13 B p m op u v nx t wv w e h hg.cl hg.sl hw
end Go.Proofs.Ytlofagpffeaebaa
namespace Go.Proofs.Ytlofagpffeaebaa
open Go.RowKit
set_option linter.unusedVariables false
attribute [local go_sem ↓] Go.wp_at_zero Go.wp_at_succ

/-- Used is one more -/
theorem used_fld {B p : Nat} {w : World} {m : SM} (h : RunI B w p m) (x : Int) (hx : x = if m.used + 1 ≤ 1000000 then m.used + 1 else 1000000) : RunI B (w.setCell ⟨p, 4, none⟩ (.int .i64 x)) p (usedM m) := by
  subst hx
  exact h.fld (m' := usedM m) 4 _ (fun _ _ => rfl) rfl rfl

set_option maxHeartbeats 1600000 in
set_option maxRecDepth 100000 in
theorem step_no (B p k : Nat) (m : SM) (zs : List Int) (a : Option Addr) (c : Nat) (w : World) (h : RunI B w p m) (hg : Good m) (hk : m.pc = k) (hn : Nums w a zs) (hB : ∀ b off, a = some ⟨b, off, none⟩ → b < B) (hl : zs.length ≤ 400) (hr : readyB zs k = false) :
    Calls Try.prog 42 #[.pointer (some ⟨p, 0, none⟩), .slice a zs.length c] w fun e w' => e = .returned (.tuple #[]) ∧ RunI B w' p (trp (usedM m) 1) ∧ Below B w w' := by
  have hpw := h.lt
  have u0 := hg.used0
  have u1 := hg.used1
  obtain ⟨sv, cv, hb, hm⟩ := id h
  have c4 := (RunI.cells (B := B) hb).2.2.2.2.1
  have f4 := frozen_of_row _ _ 4 _ _ hb
  have HCT : Hid (Calls Try.prog 77 #[.pointer (some ⟨p, 2, none⟩)] w fun e w' => e = .returned (.tuple #[]) ∧ w' = w.setCell ⟨p, 4, none⟩ (.int .i64 (if m.used + 1 ≤ 1000000 then m.used + 1 else 1000000))) := pcount_any p 2 m.used w u0 u1 c4 f4
  have HN : Hid (∀ W, Below B w W → Nums W a zs) := fun W hbw => by
    rcases hn with hn | ⟨b, off, rfl, hcc⟩
    · exact .inl hn
    · exact .inr ⟨b, off, rfl, fun i hi => (hbw.cell (p := ⟨b, off + i, none⟩) (hB b off rfl)).trans (hcc i hi)⟩
  have HR : Hid (RunI B w p m) := h
  have HI : Hid (∀ W, Nums W a zs → Calls Try.prog 78 #[.slice a zs.length c, .int .i64 k, argsF] W fun e w' => e = .returned (.tuple #[oneZ, .bool false]) ∧ Below W.heap.size W w') := fun W hn => instr_n a zs c k W hn hl (by have := hg.pc1; omega) hr
  clear hb hm h hg hn hB hl hr
  go_enter Try.func42, Try.ntmps42
  go_upto_region 1 with (go_at_call 77; refine HCT.out.mono ?_; rintro e wz ⟨rfl, rfl⟩)
  have HR1 : Hid (RunI B (w.setCell ⟨p, 4, none⟩ (.int .i64 (if m.used + 1 ≤ 1000000 then m.used + 1 else 1000000))) p (usedM m)) := used_fld HR.out _ rfl
  have HB1 : Hid (Below B w (w.setCell ⟨p, 4, none⟩ (.int .i64 (if m.used + 1 ≤ 1000000 then m.used + 1 else 1000000)))) := (Below.refl _ _).setCell hpw.1 _
  clear c4 f4 HCT
  generalize w.setCell ⟨p, 4, none⟩ (.int .i64 (if m.used + 1 ≤ 1000000 then m.used + 1 else 1000000)) = W1 at *
  generalize (if m.used + 1 ≤ 1000000 then m.used + 1 else (1000000 : Int)) = xu at *
  have hpw1 := HR1.out.lt
  have HP1 : Hid (B ≤ p ∧ p < W1.heap.size) := hpw1
  obtain ⟨sv1, cv1, hb1, _⟩ := id HR1.out
  have c2 := (RunI.cells (B := B) hb1).2.2.1
  rw [show (usedM m).pc = (k : Int) from hk] at c2
  clear hb1 hpw hpw1 HR u0 u1
  clear hk
  go_upto_region 3 with (go_at_call 78; refine (HI.out _ (HN.out _ HB1.out)).mono ?_; rintro e w2 ⟨rfl, hb2⟩)
  have b2 := (Below.refl w2.heap.size w2).alloc (Nat.le_refl _) (.cells #[.int .i64 0, .slice none 0 0, .int .i64 0] 118)
  have HR3 : Hid (RunI B (w2.alloc (.cells #[.int .i64 0, .slice none 0 0, .int .i64 0] 118)) p (usedM m)) := (HR1.out.kept hb2).kept b2
  have HB3 : Hid (Below B w (w2.alloc (.cells #[.int .i64 0, .slice none 0 0, .int .i64 0] 118))) := (HB1.out.trans (hb2.mono (by have := HP1.out; omega))).trans (b2.mono (by have := HP1.out; have := hb2.size; omega))
  clear b2 hb2 HR1 HB1 HI HN c2
  generalize w2.alloc (.cells #[.int .i64 0, .slice none 0 0, .int .i64 0] 118) = W3 at *
  obtain ⟨sv3, cv3, hb3, _⟩ := id HR3.out
  have c5 := (RunI.cells (B := B) hb3).2.2.2.2.2.1
  have f5 := frozen_of_row _ _ 5 _ _ hb3
  clear hb3
  go_wp2_with fail
  refine bodyPost_ret (v := .tuple #[]) (by simp [results, Try.results42, go_sem]) rfl ⟨rfl, HR3.out.fld (m' := trp (usedM m) 1) 5 _ (fun _ _ => rfl) rfl rfl, HB3.out.setCell HR3.out.lt.1 _⟩

set_option maxHeartbeats 3200000 in
set_option maxRecDepth 100000 in
theorem step_yes (B p k : Nat) (m : SM) (zs : List Int) (a : Option Addr) (c : Nat) (w : World) (h : RunI B w p m) (hg : Good m) (hk : m.pc = k) (hn : Nums w a zs) (hB : ∀ b off, a = some ⟨b, off, none⟩ → b < B) (hl : zs.length ≤ 400) (hc : zs.length ≤ c) (hw : wordsB zs = true) (hr : readyB zs k = true) :
    Calls Try.prog 42 #[.pointer (some ⟨p, 0, none⟩), .slice a zs.length c] w fun e w' => e = .returned (.tuple #[]) ∧ RunI B w' p (goM (zs.getD k 0) (zs.getD (k + 1) 0) (zs.getD (k + 2) 0) ((k : Int) + 1 + argN (zs.getD k 0)) m) ∧ Below B w w' := by
  have hpw := h.lt
  have u0 := hg.used0
  have u1 := hg.used1
  obtain ⟨sv, cv, hb, hm⟩ := id h
  have c4 := (RunI.cells (B := B) hb).2.2.2.2.1
  have f4 := frozen_of_row _ _ 4 _ _ hb
  have HCT : Hid (Calls Try.prog 77 #[.pointer (some ⟨p, 2, none⟩)] w fun e w' => e = .returned (.tuple #[]) ∧ w' = w.setCell ⟨p, 4, none⟩ (.int .i64 (if m.used + 1 ≤ 1000000 then m.used + 1 else 1000000))) := pcount_any p 2 m.used w u0 u1 c4 f4
  have HN : Hid (∀ W, Below B w W → Nums W a zs) := fun W hbw => by
    rcases hn with hn | ⟨b, off, rfl, hcc⟩
    · exact .inl hn
    · exact .inr ⟨b, off, rfl, fun i hi => (hbw.cell (p := ⟨b, off + i, none⟩) (hB b off rfl)).trans (hcc i hi)⟩
  have HR : Hid (RunI B w p m) := h
  have HI : Hid (∀ W, Nums W a zs → B ≤ W.heap.size → Calls Try.prog 78 #[.slice a zs.length c, .int .i64 k, argsF] W fun e w' => ∃ wv, e = .returned (.tuple #[oneV (zs.getD k 0) wv ((k : Int) + 1 + argN (zs.getD k 0)), .bool true]) ∧ WordsV B w' wv (zs.getD k 0) (zs.getD (k + 1) 0) (zs.getD (k + 2) 0) ∧ Below W.heap.size W w') := fun W hn hBw => instr_r B a zs c k W hn hB hl hc hr hBw
  have hq := ready_of hr
  simp only [Int.toNat_natCast] at hq
  have HQ : Hid (1 ≤ zs.getD k 0 ∧ zs.getD k 0 ≤ 13) := ⟨hq.2.1, hq.2.2.1⟩
  have hW : ∀ i, 0 ≤ zs.getD i 0 ∧ zs.getD i 0 ≤ 65535 := fun i => by
    by_cases hi : i < zs.length
    · exact wordsB_get hw hi
    · rw [List.getD_eq_getElem?_getD, List.getElem?_eq_none (by omega)]; simp
  have HWU : Hid (0 ≤ zs.getD (k + 1) 0 ∧ zs.getD (k + 1) 0 ≤ 65535 ∧ 0 ≤ zs.getD (k + 2) 0 ∧ zs.getD (k + 2) 0 ≤ 65535) := ⟨(hW _).1, (hW _).2, (hW _).1, (hW _).2⟩
  have HNX : Hid (0 ≤ (k : Int) + 1 + argN (zs.getD k 0) ∧ (k : Int) + 1 + argN (zs.getD k 0) ≤ 65535) := ⟨by have := argN_lo (zs.getD k 0); omega, by have := argN_lo (zs.getD k 0); omega⟩
  have HG : Hid (Good m) := hg
  clear hb hm h hg hn hB hl hr hc hw hq hW
  generalize zs.getD k 0 = op at *
  generalize zs.getD (k + 1) 0 = u at *
  generalize zs.getD (k + 2) 0 = v at *
  obtain ⟨nx, hnx⟩ : ∃ nx, nx = (k : Int) + 1 + argN op := ⟨_, rfl⟩
  rw [← hnx] at HI HNX ⊢
  clear hnx
  go_enter Try.func42, Try.ntmps42
  go_upto_region 1 with (go_at_call 77; refine HCT.out.mono ?_; rintro e wz ⟨rfl, rfl⟩)
  have HR1 : Hid (RunI B (w.setCell ⟨p, 4, none⟩ (.int .i64 (if m.used + 1 ≤ 1000000 then m.used + 1 else 1000000))) p (usedM m)) := used_fld HR.out _ rfl
  have HB1 : Hid (Below B w (w.setCell ⟨p, 4, none⟩ (.int .i64 (if m.used + 1 ≤ 1000000 then m.used + 1 else 1000000)))) := (Below.refl _ _).setCell hpw.1 _
  clear c4 f4 HCT
  generalize w.setCell ⟨p, 4, none⟩ (.int .i64 (if m.used + 1 ≤ 1000000 then m.used + 1 else 1000000)) = W1 at *
  generalize (if m.used + 1 ≤ 1000000 then m.used + 1 else (1000000 : Int)) = xu at *
  have hpw1 := HR1.out.lt
  have HP1 : Hid (B ≤ p ∧ p < W1.heap.size) := hpw1
  obtain ⟨sv1, cv1, hb1, _⟩ := id HR1.out
  have c2 := (RunI.cells (B := B) hb1).2.2.1
  rw [show (usedM m).pc = (k : Int) from hk] at c2
  clear hb1 hpw hpw1 HR u0 u1
  clear hk
  go_upto_region 4 with (go_at_call 78; refine (HI.out _ (HN.out _ HB1.out) (by have := HP1.out; omega)).mono ?_; rintro e w2 ⟨wv, rfl, hwv, hb2⟩; obtain ⟨aw, cw, rfl, hwx⟩ := hwv)
  have a2 := heap_alloc_new w2 (.cells #[.int .i64 op, .slice aw (argN op).toNat cw, .int .i64 nx] 118)
  have b2 := (Below.refl w2.heap.size w2).alloc (Nat.le_refl _) (.cells #[.int .i64 op, .slice aw (argN op).toNat cw, .int .i64 nx] 118)
  have hz2 := hb2.size
  have HW2 : Hid (WordsV B (w2.alloc (.cells #[.int .i64 op, .slice aw (argN op).toNat cw, .int .i64 nx] 118)) (.slice aw (argN op).toNat cw) op u v) := WordsV.kept ⟨aw, cw, rfl, hwx⟩ (b2.mono (by have := HP1.out; omega))
  have HR2 : Hid (RunI B (w2.alloc (.cells #[.int .i64 op, .slice aw (argN op).toNat cw, .int .i64 nx] 118)) p (usedM m)) := (HR1.out.kept hb2).kept b2
  have HB2 : Hid (Below B w (w2.alloc (.cells #[.int .i64 op, .slice aw (argN op).toNat cw, .int .i64 nx] 118))) := (HB1.out.trans (hb2.mono (by have := HP1.out; omega))).trans (b2.mono (by have := HP1.out; omega))
  have HA2 : Hid _ := a2
  have HP2 : Hid (B ≤ w2.heap.size) := by have := HP1.out; show B ≤ _; omega
  have HO : Hid (OpOf op (opV (bs (opNm op)) (argN op) (tkN op) (gvN op))) := stackOp_any op HQ.out.1 HQ.out.2
  have HFI : Hid (∀ W, RunI B W p (usedM m) → Calls Try.prog 81 #[.pointer (some ⟨p, 0, none⟩), .int .i64 (tkN op), .int .i64 (gvN op)] W fun e w' => e = .returned (.bool (fitsB m.stk.length op)) ∧ w' = W) := fun W hr => ifits_any B p (usedM m) op W hr HG.out.sl
  clear a2 b2 hz2 hb2 hwx HR1 HB1 HP1 HI HN c2
  generalize w2.alloc (.cells #[.int .i64 op, .slice aw (argN op).toNat cw, .int .i64 nx] 118) = W2 at *
  generalize hQ : w2.heap.size = q at *
  clear hQ
  generalize (argN op).toNat = na at *
  generalize tkN op = tk at *
  generalize gvN op = gv at *
  generalize argN op = an at *
  generalize bs (opNm op) = nm at *
  have hy0 := cell_of_row _ _ 0 _ _ _ HA2.out
  simp at hy0
  go_upto_region 5 with (go_at_call 80; refine (HO.out _).mono ?_; rintro e w3 ⟨rfl, hb3⟩)
  have a3 := heap_alloc_new w3 (.cells #[.string nm, .int .i64 an, .int .i64 tk, .int .i64 gv] 123)
  have b3 := (Below.refl w3.heap.size w3).alloc (Nat.le_refl _) (.cells #[.string nm, .int .i64 an, .int .i64 tk, .int .i64 gv] 123)
  have hq2 := (Array.getElem?_eq_some_iff.1 HA2.out).1
  have hz3 := hb3.size
  have HW3 : Hid (WordsV B (w3.alloc (.cells #[.string nm, .int .i64 an, .int .i64 tk, .int .i64 gv] 123)) (.slice aw na cw) op u v) := (HW2.out.kept (hb3.mono (by have := HP2.out; omega))).kept (b3.mono (by have := HP2.out; omega))
  have HR3 : Hid (RunI B (w3.alloc (.cells #[.string nm, .int .i64 an, .int .i64 tk, .int .i64 gv] 123)) p (usedM m)) := (HR2.out.kept hb3).kept b3
  have HB3 : Hid (Below B w (w3.alloc (.cells #[.string nm, .int .i64 an, .int .i64 tk, .int .i64 gv] 123))) := (HB2.out.trans (hb3.mono (by have := HP2.out; omega))).trans (b3.mono (by have := HP2.out; omega))
  have HA3 : Hid ((w3.alloc (.cells #[.string nm, .int .i64 an, .int .i64 tk, .int .i64 gv] 123)).heap[q]? = some (.cells #[.int .i64 op, .slice aw na cw, .int .i64 nx] 118 (0, 0))) := blk8 (blk8 HA2.out hb3) b3
  clear b3 hq2 hz3 hb3 hy0 HW2 HR2 HB2 HA2 HO
  generalize w3.alloc (.cells #[.string nm, .int .i64 an, .int .i64 tk, .int .i64 gv] 123) = W3 at *
  generalize w3.heap.size = q3 at *
  have d2 := cell_of_row _ _ 2 _ _ _ a3
  have d3 := cell_of_row _ _ 3 _ _ _ a3
  simp at d2 d3
  clear a3
  go_cut [39] from 40 (fun x W4 => x = .bool (!fitsB m.stk.length op) ∧ W4 = W3.drew)
  case first =>
    go_region_with (go_at_call 81; refine (HFI.out _ (HR3.out.heap (by rfl))).mono ?_; rintro e w4 ⟨rfl, rfl⟩)
    all_goals
      go_wp2_with fail
      go_meet
      case rel => exact ⟨rfl, rfl⟩
  case rest =>
    obtain ⟨rfl, rfl⟩ := hcut
    have HR4 : Hid (RunI B W3.drew p (usedM m)) := HR3.out.heap rfl
    have HW4 : Hid (WordsV B W3.drew (.slice aw na cw) op u v) := HW3.out.kept (Below.refl B W3).drew
    have HB4 : Hid (Below B w W3.drew) := HB3.out.drew
    have HA4 : Hid (W3.drew.heap[q]? = some (.cells #[.int .i64 op, .slice aw na cw, .int .i64 nx] 118 (0, 0))) := HA3.out
    clear HFI HR3 HW3 HB3 HA3 d2 d3
    generalize W3.drew = W4 at *
    cases hf : fitsB m.stk.length op
    · have HGM : Hid (goM op u v nx m = trp (usedM m) 1) := if_pos hf
      obtain ⟨sv4, cv4, hb4, _⟩ := id HR4.out
      have c5 := (RunI.cells (B := B) hb4).2.2.2.2.2.1
      have f5 := frozen_of_row _ _ 5 _ _ hb4
      clear hb4 hf
      go_wp2_with fail
      refine bodyPost_ret (v := .tuple #[]) (by simp [results, Try.results42, go_sem]) rfl ⟨rfl, ?_, HB4.out.setCell HR4.out.lt.1 _⟩
      rw [HGM.out]
      exact HR4.out.fld (m' := trp (usedM m) 1) 5 _ (fun _ _ => rfl) rfl rfl
    · have HT : Hid (Calls Try.prog 82 #[.pointer (some ⟨p, 0, none⟩), oneV op (.slice aw na cw) nx] W4 fun e w' => e = .returned (ir (toldC op u v m) (toldV op u v m)) ∧ Below W4.heap.size W4 w') := told_any B p (usedM m) op u v nx _ W4 HR4.out (usedM_good HG.out) HQ.out.1 HQ.out.2 hf HW4.out HWU.out.1 HWU.out.2.1 HWU.out.2.2.1 HWU.out.2.2.2
      have HGM : Hid (goM op u v nx m = if toldC op u v m ≠ 0 then trp (usedM m) (toldC op u v m) else doM op u (toldV op u v m) (atP (usedM m) nx)) := if_neg (by rw [hf]; simp)
      have HF : Hid (fitsB m.stk.length op = true) := hf
      have hTC := toldC_lo op u v m
      have HV : Hid (toldC op u v m = 0 → 0 ≤ toldV op u v m ∧ toldV op u v m ≤ 65535 ∧ (op = 2 ∨ op = 3 ∨ op = 4 ∨ op = 5 → toldV op u v m < m.cells.length)) := fun h => toldV_lo HG.out h HWU.out.1
      generalize toldC op u v m = C at *
      generalize toldV op u v m = V at *
      have y0 := cell_of_row _ _ 0 _ _ _ HA4.out
      have y1 := cell_of_row _ _ 1 _ _ _ HA4.out
      have y2 := cell_of_row _ _ 2 _ _ _ HA4.out
      simp at y0 y1 y2
      have HTC : Hid (0 ≤ C ∧ C ≤ 10) := hTC
      clear hf hTC
      go_upto_region 8 with (go_at_call 82; refine HT.out.mono ?_; rintro e w5 ⟨rfl, hb5⟩)
      have a5 := heap_alloc_new w5 (.cells #[.int .i64 C, .int .i64 V] 29)
      have b5 := (Below.refl w5.heap.size w5).alloc (Nat.le_refl _) (.cells #[.int .i64 C, .int .i64 V] 29)
      have hq5 := (Array.getElem?_eq_some_iff.1 HA4.out).1
      have hz5 := hb5.size
      have HW5 : Hid (WordsV B (w5.alloc (.cells #[.int .i64 C, .int .i64 V] 29)) (.slice aw na cw) op u v) := (HW4.out.kept (hb5.mono (by have := HP2.out; omega))).kept (b5.mono (by have := HP2.out; omega))
      have HR5 : Hid (RunI B (w5.alloc (.cells #[.int .i64 C, .int .i64 V] 29)) p (usedM m)) := (HR4.out.kept hb5).kept b5
      have HB5 : Hid (Below B w (w5.alloc (.cells #[.int .i64 C, .int .i64 V] 29))) := (HB4.out.trans (hb5.mono (by have := HP2.out; omega))).trans (b5.mono (by have := HP2.out; omega))
      have HA5 : Hid ((w5.alloc (.cells #[.int .i64 C, .int .i64 V] 29)).heap[q]? = some (.cells #[.int .i64 op, .slice aw na cw, .int .i64 nx] 118 (0, 0))) := blk8 (blk8 HA4.out hb5) b5
      have HPQ : Hid (p < w5.heap.size ∧ q ≠ p ∧ w5.heap.size ≠ p) := by
        have hp4 := HR4.out.lt.2
        refine ⟨by omega, fun e => ?_, by omega⟩
        obtain ⟨sv5, cv5, hb, _⟩ := HR4.out
        have hA := HA4.out
        rw [e, hb] at hA
        simp at hA
      clear b5 hq5 hz5 hb5 y0 y1 y2 HW4 HR4 HB4 HA4 HT
      generalize w5.alloc (.cells #[.int .i64 C, .int .i64 V] 29) = W5 at *
      generalize w5.heap.size = q5 at *
      have z0 := cell_of_row _ _ 0 _ _ _ a5
      have z1 := cell_of_row _ _ 1 _ _ _ a5
      simp at z0 z1
      have HA6 : Hid (W5.heap[q5]? = _) := a5
      clear a5
      obtain ⟨sv4, cv4, hb4, _⟩ := id HR5.out
      by_cases hC : C = 0
      · have HGM2 : Hid (goM op u v nx m = doM op u V (atP (usedM m) nx)) := HGM.out.trans (if_neg (by rw [hC]; simp))
        obtain ⟨t, ht⟩ := Int.eq_ofNat_of_zero_le (HV.out hC).1
        have HV2 : Hid (op = 2 ∨ op = 3 ∨ op = 4 ∨ op = 5 → t < m.cells.length) := fun h => by have := (HV.out hC).2.2 h; omega
        subst hC
        rw [ht] at HGM2 z1
        clear HV HGM
        have c2 := (RunI.cells (B := B) hb4).2.2.1
        have f2 := frozen_of_row _ _ 2 _ _ hb4
        have x2 := cell_of_row _ _ 2 _ _ _ HA5.out
        simp at x2
        clear hb4
        go_upto_region 11 with fail
        have HR6 : Hid (RunI B (W5.setCell ⟨p, 2, none⟩ (.int .i64 nx)) p (atP (usedM m) nx)) := HR5.out.fld (m' := atP (usedM m) nx) 2 _ (fun _ _ => rfl) rfl rfl
        have HB6 : Hid (Below B w (W5.setCell ⟨p, 2, none⟩ (.int .i64 nx))) := HB5.out.setCell HR5.out.lt.1 _
        have HW6 : Hid (WordsV B (W5.setCell ⟨p, 2, none⟩ (.int .i64 nx)) (.slice aw na cw) op u v) := HW5.out.kept ((Below.refl B W5).setCell HR5.out.lt.1 _)
        have HA7 : (W5.setCell ⟨p, 2, none⟩ (.int .i64 nx)).heap[q]? = _ := (heap_setCell_other W5 ⟨p, 2, none⟩ q (.int .i64 nx) HPQ.out.2.1).trans HA5.out
        have HA8 : (W5.setCell ⟨p, 2, none⟩ (.int .i64 nx)).heap[q5]? = _ := (heap_setCell_other W5 ⟨p, 2, none⟩ q5 (.int .i64 nx) HPQ.out.2.2).trans HA6.out
        clear HR5 HB5 HW5 HA5 HA6 z0 z1 c2 f2 x2
        generalize W5.setCell ⟨p, 2, none⟩ (.int .i64 nx) = W6 at *
        rw [ht] at HA8
        have y0 := cell_of_row _ _ 0 _ _ _ HA7
        have y1 := cell_of_row _ _ 1 _ _ _ HA7
        have y2 := cell_of_row _ _ 2 _ _ _ HA7
        have y3 := cell_of_row _ _ 1 _ _ _ HA8
        simp at y0 y1 y2 y3
        clear HA7 HA8
        have HD : Hid (Calls Try.prog 83 #[.pointer (some ⟨p, 0, none⟩), oneV op (.slice aw na cw) nx, .int .i64 t] W6 fun e w' => e = .returned (.tuple #[]) ∧ RunI B w' p (doM op u t (atP (usedM m) nx)) ∧ Below B W6 w') := do_any B p (atP (usedM m) nx) op u v nx t _ W6 HR6.out (pc_good (usedM_good HG.out) HNX.out.1 HNX.out.2) HQ.out.1 HQ.out.2 HF.out HV2.out HW6.out
        go_wp2_with (go_at_call 83; refine HD.out.mono ?_; rintro e w7 ⟨rfl, hr7, hb7⟩)
        go_end0
        exact ⟨rfl, by rw [HGM2.out]; exact hr7, HB6.out.trans hb7⟩
      · have HGM2 : Hid (goM op u v nx m = trp (usedM m) C) := HGM.out.trans (if_pos hC)
        have c5 := (RunI.cells (B := B) hb4).2.2.2.2.2.1
        have f5 := frozen_of_row _ _ 5 _ _ hb4
        have eC : (C != 0) = true := by simpa using hC
        have eD : decide (C = 0) = false := decide_eq_false hC
        clear hb4 HGM HV
        go_wp2_with fail
        refine bodyPost_ret (v := .tuple #[]) (by simp [results, Try.results42, go_sem]) rfl ⟨rfl, ?_, HB5.out.setCell HR5.out.lt.1 _⟩
        rw [HGM2.out]
        exact HR5.out.fld (m' := trp (usedM m) C) 5 _ (fun _ _ => rfl) rfl rfl

theorem istep_any (B p : Nat) (m : SM) (zs : List Int) (a : Option Addr) (c : Nat) (w : World) (h : RunI B w p m) (hg : Good m) (hn : Nums w a zs) (hB : ∀ b off, a = some ⟨b, off, none⟩ → b < B) (hl : zs.length ≤ 400) (hc : zs.length ≤ c) (hw : wordsB zs = true) :
    Calls Try.prog 42 #[.pointer (some ⟨p, 0, none⟩), .slice a zs.length c] w fun e w' => e = .returned (.tuple #[]) ∧ RunI B w' p (stepL zs m) ∧ Below B w w' := by
  obtain ⟨k, hk⟩ := Int.eq_ofNat_of_zero_le hg.pc0
  cases hr : readyB zs k
  · have e : stepL zs m = trp (usedM m) 1 := by unfold stepL; rw [hk, if_pos hr]; rfl
    rw [e]
    exact step_no B p k m zs a c w h hg hk hn hB hl hr
  · have e : stepL zs m = goM (zs.getD k 0) (zs.getD (k + 1) 0) (zs.getD (k + 2) 0) ((k : Int) + 1 + argN (zs.getD k 0)) m := by
      unfold stepL
      rw [hk, if_neg (by rw [hr]; simp), Int.toNat_natCast]
      rfl
    rw [e]
    exact step_yes B p k m zs a c w h hg hk hn hB hl hc hw hr
end Go.Proofs.Ytlofagpffeaebaa
namespace Go.Proofs.Ytlofagpffeaebaa
open Go.RowKit
set_option linter.unusedVariables false
theorem hidK {p : Prop} (h : p) : Hid p := h
attribute [local go_sem ↓] Go.wp_at_zero Go.wp_at_succ

set_option maxHeartbeats 6400000 in
set_option maxRecDepth 100000 in
theorem iStep_any (a : Option Addr) (zs : List Int) (c : Nat) (m : SM) (sv cv : Value) (w : World) (hn : Nums w a zs) (hab : ∀ b off, a = some ⟨b, off, none⟩ → b < w.heap.size) (hl : zs.length ≤ 1048576) (hzc : zs.length ≤ c) (hs : RowV w sv m.stk) (hc : RowV w cv m.cells) (hl1 : m.stk.length ≤ 1048576) (hl2 : m.cells.length ≤ 1048576) :
    Calls Try.prog 15 #[.slice a zs.length c, machV m sv cv] w fun e w' => ResR w w' e (stepC zs m) (stepR zs m) := by
  have hX : Hid (∀ W, W = (w.alloc (.cells (lineS m sv cv) 44)).alloc (.cells zero8 46) →
      Below w.heap.size w W ∧ W.heap[w.heap.size]? = some (.cells (lineS m sv cv) 44 (0, 0)) ∧ W.heap[w.heap.size + 1]? = some (.cells zero8 46 (0, 0)) ∧ W.heap.size = w.heap.size + 2) := fun W e => by
    subst e
    have x1 := heap_alloc_new w (.cells (lineS m sv cv) 44)
    have y1 := (Below.refl w.heap.size w).alloc (Nat.le_refl _) (.cells (lineS m sv cv) 44)
    have s1 : (w.alloc (.cells (lineS m sv cv) 44)).heap.size = w.heap.size + 1 := by simp
    generalize w.alloc (.cells (lineS m sv cv) 44) = W1 at *
    have x2 := heap_alloc_new W1 (.cells zero8 46)
    have y2 := (Below.refl W1.heap.size W1).alloc (Nat.le_refl _) (.cells zero8 46)
    rw [s1] at x2
    exact ⟨y1.trans (y2.mono (by omega)), blk8 x1 y2, x2, by simp [s1]⟩
  have HCW : Hid (∀ W, Below w.heap.size w W → Calls Try.prog 37 #[.slice a zs.length c] W fun e w' => e = .returned (.int .i64 (fault zs)) ∧ Below W.heap.size W w') := fun W h => implFault_any a zs c W (by omega) (hn.below h)
  have HCF : Hid (∀ W, Below w.heap.size w W → Calls Try.prog 16 #[machV m sv cv] W fun e w' => e = .returned (.int .i64 (smF m)) ∧ Below W.heap.size W w') := fun W h => istkFault_any m sv cv W (hs.below h) (hc.below h) hl1 hl2
  have HCN : Hid (∀ W, Below w.heap.size w W → Calls Try.prog 40 #[machV m sv cv] W fun e w' => ∃ g, e = .returned (.pointer (some ⟨g, 0, none⟩)) ∧ RunI W.heap.size w' g m ∧ Below W.heap.size W w') := fun W h => newRun_any m sv cv W (hs.below h) (hc.below h) hl1 hl2
  have HCS : Hid (fault zs = 0 → smF m = 0 → ∀ (B g : Nat) (W : World), Below w.heap.size w W → w.heap.size ≤ B → RunI B W g m → Calls Try.prog 42 #[.pointer (some ⟨g, 0, none⟩), .slice a zs.length c] W fun e w' => e = .returned (.tuple #[]) ∧ RunI B w' g (stepL zs m) ∧ Below B W w') := fun h1 h2 B g W hb hB hr =>
    istep_any B g m zs a c W hr (good_of h2) (hn.below hb) (fun b off hab2 => by have := hab b off hab2; omega) (fault_good h1).2 hzc (fault_good h1).1
  have HR : Hid ((fault zs ≠ 0 → stepC zs m = fault zs ∧ stepR zs m = zeroM) ∧ (fault zs = 0 → smF m ≠ 0 → stepC zs m = smF m ∧ stepR zs m = zeroM) ∧ (fault zs = 0 → smF m = 0 → stepC zs m = 0 ∧ stepR zs m = stepM zs m)) := by
    refine ⟨fun h => ?_, fun h h2 => ?_, fun h h2 => ?_⟩
    · have e : stepC zs m = fault zs := if_neg h
      exact ⟨e, by unfold stepR; rw [e, if_neg h]⟩
    · have e : stepC zs m = smF m := if_pos h
      exact ⟨e, by unfold stepR; rw [e, if_neg h2]⟩
    · have e : stepC zs m = 0 := (if_pos h).trans h2
      exact ⟨e, by unfold stepR; rw [e, if_pos rfl]⟩
  have HM : Hid ((goes m = true → stepM zs m = stepL zs m) ∧ (goes m = false → stepM zs m = m)) := ⟨fun h => if_pos h, fun h => if_neg (by rw [h]; simp)⟩
  have hsh : ∃ x y n, sv = .slice x n y := by obtain ⟨x, y, e, _⟩ := hs; exact ⟨x, y, _, e⟩
  have hch : ∃ x y n, cv = .slice x n y := by obtain ⟨x, y, e, _⟩ := hc; exact ⟨x, y, _, e⟩
  clear hn hl hs hc hl1 hl2 hab hzc
  obtain ⟨xs, ys, ns, rfl⟩ := hsh
  obtain ⟨xc, yc, nc, rfl⟩ := hch
  generalize fault zs = fz at *
  generalize smF m = F at *
  generalize stepM zs m = M at *
  generalize stepL zs m = ML at *
  generalize stepC zs m = C at *
  generalize stepR zs m = R at *
  generalize zs.length = L at *
  go_enter Try.func15, Try.ntmps15
  go_upto_region 1 with fail
  have hXX := hX.out _ rfl
  generalize (w.alloc (.cells (lineS m (.slice xs ns ys) (.slice xc nc yc)) 44)).alloc (.cells zero8 46) = W at *
  obtain ⟨x1, x2, x3, x4⟩ := hXX
  have HB : Hid (Below w.heap.size w W) := x1
  have HA : Hid (W.heap[w.heap.size]? = _) := x2
  have HZ : Hid (W.heap[w.heap.size + 1]? = _) := x3
  have HS : Hid (W.heap.size = w.heap.size + 2) := x4
  clear x1 x2 x3 x4 hX
  go_upto_region 2 with (go_at_call 37; refine (HCW.out W HB.out).mono ?_; rintro e w1 ⟨rfl, hb1⟩)
  have HB1 : Hid (Below w.heap.size w w1) := HB.out.trans (hb1.mono HB.out.size)
  have HA1 : Hid (w1.heap[w.heap.size]? = some (.cells (lineS m (.slice xs ns ys) (.slice xc nc yc)) 44 (0, 0))) := blk8 HA.out hb1
  have HZ1 : Hid (w1.heap[w.heap.size + 1]? = some (.cells zero8 46 (0, 0))) := blk8 HZ.out hb1
  clear hb1 HCW HB HA HZ HS
  by_cases hz : fz = 0
  case neg =>
    have hR := HR.out.1 hz
    obtain ⟨rfl, rfl⟩ := hR
    have e0 : (C != 0) = true := by simpa using hz
    have HF : Hid _ := res_code w w1 (w.heap.size + 1) C (by omega) HB1.out
    have g0 := cell_of_row _ _ 0 _ _ _ HZ1.out
    have g1 := cell_of_row _ _ 1 _ _ _ HZ1.out
    have g2 := cell_of_row _ _ 2 _ _ _ HZ1.out
    have g3 := cell_of_row _ _ 3 _ _ _ HZ1.out
    have g4 := cell_of_row _ _ 4 _ _ _ HZ1.out
    have g5 := cell_of_row _ _ 5 _ _ _ HZ1.out
    have g6 := cell_of_row _ _ 6 _ _ _ HZ1.out
    have g7 := cell_of_row _ _ 7 _ _ _ HZ1.out
    have f0 := frozen_of_row _ _ 0 _ _ HZ1.out
    have f1 := frozen_of_row _ _ 1 _ _ HZ1.out
    have f2 := frozen_of_row _ _ 2 _ _ HZ1.out
    have f3 := frozen_of_row _ _ 3 _ _ HZ1.out
    have f4 := frozen_of_row _ _ 4 _ _ HZ1.out
    have f5 := frozen_of_row _ _ 5 _ _ HZ1.out
    have f6 := frozen_of_row _ _ 6 _ _ HZ1.out
    have f7 := frozen_of_row _ _ 7 _ _ HZ1.out
    simp at g0 g1 g2 g3 g4 g5 g6 g7
    clear hz HCF HCN HCS HR HM HA1 HZ1
    go_wp2_with fail
    refine bodyPost_ret (v := codeV C) (by simp [results, Try.results15, go_sem, g0, g1, g2, g3, g4, g5, g6, g7]; try rfl) rfl ?_
    exact HF.out
  subst hz
  obtain ⟨d0, d1, d2, d3, d4, d5, d6⟩ := lineS_cells HA1.out
  go_upto_region 5 with (go_at_call 16; refine (HCF.out w1 HB1.out).mono ?_; rintro e w2 ⟨rfl, hb2⟩)
  have HB2 : Hid (Below w.heap.size w w2) := HB1.out.trans (hb2.mono HB1.out.size)
  have HA2 : Hid (w2.heap[w.heap.size]? = some (.cells (lineS m (.slice xs ns ys) (.slice xc nc yc)) 44 (0, 0))) := blk8 HA1.out hb2
  have HZ2 : Hid (w2.heap[w.heap.size + 1]? = some (.cells zero8 46 (0, 0))) := blk8 HZ1.out hb2
  clear hb2 HCF HB1 HA1 HZ1 d0 d1 d2 d3 d4 d5 d6
  by_cases hf : F = 0
  case neg =>
    have hR := HR.out.2.1 (by first | rfl | trivial) hf
    obtain ⟨rfl, rfl⟩ := hR
    have e0 : (C != 0) = true := by simpa using hf
    have HF : Hid _ := res_code w w2 (w.heap.size + 1) C (by omega) HB2.out
    have g0 := cell_of_row _ _ 0 _ _ _ HZ2.out
    have g1 := cell_of_row _ _ 1 _ _ _ HZ2.out
    have g2 := cell_of_row _ _ 2 _ _ _ HZ2.out
    have g3 := cell_of_row _ _ 3 _ _ _ HZ2.out
    have g4 := cell_of_row _ _ 4 _ _ _ HZ2.out
    have g5 := cell_of_row _ _ 5 _ _ _ HZ2.out
    have g6 := cell_of_row _ _ 6 _ _ _ HZ2.out
    have g7 := cell_of_row _ _ 7 _ _ _ HZ2.out
    have f0 := frozen_of_row _ _ 0 _ _ HZ2.out
    have f1 := frozen_of_row _ _ 1 _ _ HZ2.out
    have f2 := frozen_of_row _ _ 2 _ _ HZ2.out
    have f3 := frozen_of_row _ _ 3 _ _ HZ2.out
    have f4 := frozen_of_row _ _ 4 _ _ HZ2.out
    have f5 := frozen_of_row _ _ 5 _ _ HZ2.out
    have f6 := frozen_of_row _ _ 6 _ _ HZ2.out
    have f7 := frozen_of_row _ _ 7 _ _ HZ2.out
    simp at g0 g1 g2 g3 g4 g5 g6 g7
    clear hf HCN HCS HR HM HA2 HZ2
    go_wp2_with fail
    refine bodyPost_ret (v := codeV C) (by simp [results, Try.results15, go_sem, g0, g1, g2, g3, g4, g5, g6, g7]; try rfl) rfl ?_
    exact HF.out
  subst hf
  have hR := HR.out.2.2 (by first | rfl | trivial) (by first | rfl | trivial)
  obtain ⟨rfl, rfl⟩ := hR
  obtain ⟨d0, d1, d2, d3, d4, d5, d6⟩ := lineS_cells HA2.out
  go_upto_region 8 with (go_at_call 40; refine (HCN.out w2 HB2.out).mono ?_; rintro e w3 ⟨g, rfl, hr3, hb3⟩)
  have HB3 : Hid (Below w.heap.size w w3) := HB2.out.trans (hb3.mono HB2.out.size)
  have HZ3 : Hid (w3.heap[w.heap.size + 1]? = some (.cells zero8 46 (0, 0))) := blk8 HZ2.out hb3
  have HR3 : Hid (RunI w2.heap.size w3 g m) := hr3
  have HS3 : Hid (w2.heap.size ≤ w3.heap.size) := hb3.size
  have HS2 : Hid (w.heap.size + 1 < w2.heap.size) := (Array.getElem?_eq_some_iff.1 HZ2.out).1
  clear hr3 hb3 HCN HB2 HA2 HZ2 d0 d1 d2 d3 d4 d5 d6 HR
  cases hgo : goes m
  · have hRm := HM.out.2 hgo
    subst hRm
    obtain ⟨sv3, cv3, hrow, _⟩ := id HR3.out
    obtain ⟨-, -, v2, v3, v4, v5, v6⟩ := cl7 hrow
    clear hrow
    go_wp2_with fail
    refine (pgoes_any R w3).mono ?_
    rintro e W5 ⟨rfl, hb5⟩
    rw [hgo]
    have HR5 := hidK (HR3.out.kept hb5)
    have HB5 := hidK (HB3.out.trans (hb5.mono HB3.out.size))
    have HZ5 := hidK (blk8 HZ3.out hb5)
    have HS5 : Hid (w2.heap.size ≤ W5.heap.size) := by have := hb5.size; have := HS3.out; show _ ≤ _; omega
    clear HR3 HB3 HZ3 HCS HM hgo v2 v3 v4 v5 v6 hb5
    go_wp2_with fail
    refine (imachine_any w2.heap.size g R W5 HR5.out HS5.out).mono ?_
    rintro e w6 ⟨s6, c6, rfl, o1, o2, o3, b6⟩
    obtain ⟨q1, t1, rfl⟩ := own_shape o1
    obtain ⟨q2, t2, rfl⟩ := own_shape o2
    have HB6 : Hid (Below w.heap.size w w6) := HB5.out.trans (b6.mono HB5.out.size)
    have HZ6 := blk8 HZ5.out b6
    have HF := hidK (res_mach w w6 (w.heap.size + 1) w2.heap.size R _ _ (by omega) HS2.out o1 o2 o3 HB6.out)
    have g0 := cell_of_row _ _ 0 _ _ _ HZ6
    have g1 := cell_of_row _ _ 1 _ _ _ HZ6
    have g2 := cell_of_row _ _ 2 _ _ _ HZ6
    have g3 := cell_of_row _ _ 3 _ _ _ HZ6
    have g4 := cell_of_row _ _ 4 _ _ _ HZ6
    have g5 := cell_of_row _ _ 5 _ _ _ HZ6
    have g6 := cell_of_row _ _ 6 _ _ _ HZ6
    have g7 := cell_of_row _ _ 7 _ _ _ HZ6
    have f0 := frozen_of_row _ _ 0 _ _ HZ6
    have f1 := frozen_of_row _ _ 1 _ _ HZ6
    have f2 := frozen_of_row _ _ 2 _ _ HZ6
    have f3 := frozen_of_row _ _ 3 _ _ HZ6
    have f4 := frozen_of_row _ _ 4 _ _ HZ6
    have f5 := frozen_of_row _ _ 5 _ _ HZ6
    have f6 := frozen_of_row _ _ 6 _ _ HZ6
    have f7 := frozen_of_row _ _ 7 _ _ HZ6
    simp at g0 g1 g2 g3 g4 g5 g6 g7
    clear HB5 HZ5 HR5 o1 o2 o3 b6 HZ6 HB6 HS2
    generalize hq1 : R.stk.length = l1 at *
    generalize hq2 : R.cells.length = l2 at *
    generalize hdn : R.done = dn at *
    go_wp2_with fail
    refine bodyPost_ret (v := .agg #[.int .i64 0, .int .i64 R.pc, .slice q1 l1 t1, .slice q2 l2 t2, .int .i64 R.sig, .int .i64 R.used, .int .i64 R.trap, .bool dn]) (by simp [results, Try.results15, go_sem, g0, g1, g2, g3, g4, g5, g6, g7]; try rfl) rfl ?_
    subst hdn
    exact HF.out
  · have hRm := HM.out.1 hgo
    subst hRm
    obtain ⟨sv3, cv3, hrow, _⟩ := id HR3.out
    obtain ⟨-, -, v2, v3, v4, v5, v6⟩ := cl7 hrow
    clear hrow
    go_wp2_with fail
    refine (pgoes_any m w3).mono ?_
    rintro e W4 ⟨rfl, hb4⟩
    rw [hgo]
    have HR4 := hidK (HR3.out.kept hb4)
    have HB4 := hidK (HB3.out.trans (hb4.mono HB3.out.size))
    have HZ4 := hidK (blk8 HZ3.out hb4)
    have HS4 : Hid (w2.heap.size ≤ W4.heap.size) := by have := hb4.size; have := HS3.out; show _ ≤ _; omega
    clear HR3 HB3 HZ3 HS3 v2 v3 v4 v5 v6 hb4
    go_wp2_with fail
    have hle : w.heap.size ≤ w2.heap.size := by have := HS2.out; omega
    have hcs := HCS.out (by first | rfl | trivial) (by first | rfl | trivial) w2.heap.size g W4 HB4.out hle HR4.out
    refine hcs.mono ?_
    clear hcs
    rintro e W5 ⟨rfl, hr5, hb5⟩
    have HR5 := hidK hr5
    have HS5 : Hid (w2.heap.size ≤ W5.heap.size) := by have := hb5.size; have := HS4.out; show _ ≤ _; omega
    have HB5 : Hid (Below w.heap.size w W5) := HB4.out.trans (hb5.mono (by have := HS2.out; omega))
    have HZ5 : Hid (W5.heap[w.heap.size + 1]? = some (.cells zero8 46 (0, 0))) := (hb5.block _ HS2.out).trans HZ4.out
    clear HR4 HB4 HZ4 HCS HM hgo hr5 hb5
    go_wp2_with fail
    refine (imachine_any w2.heap.size g R W5 HR5.out HS5.out).mono ?_
    rintro e w6 ⟨s6, c6, rfl, o1, o2, o3, b6⟩
    obtain ⟨q1, t1, rfl⟩ := own_shape o1
    obtain ⟨q2, t2, rfl⟩ := own_shape o2
    have HB6 : Hid (Below w.heap.size w w6) := HB5.out.trans (b6.mono HB5.out.size)
    have HZ6 := blk8 HZ5.out b6
    have HF := hidK (res_mach w w6 (w.heap.size + 1) w2.heap.size R _ _ (by omega) HS2.out o1 o2 o3 HB6.out)
    have g0 := cell_of_row _ _ 0 _ _ _ HZ6
    have g1 := cell_of_row _ _ 1 _ _ _ HZ6
    have g2 := cell_of_row _ _ 2 _ _ _ HZ6
    have g3 := cell_of_row _ _ 3 _ _ _ HZ6
    have g4 := cell_of_row _ _ 4 _ _ _ HZ6
    have g5 := cell_of_row _ _ 5 _ _ _ HZ6
    have g6 := cell_of_row _ _ 6 _ _ _ HZ6
    have g7 := cell_of_row _ _ 7 _ _ _ HZ6
    have f0 := frozen_of_row _ _ 0 _ _ HZ6
    have f1 := frozen_of_row _ _ 1 _ _ HZ6
    have f2 := frozen_of_row _ _ 2 _ _ HZ6
    have f3 := frozen_of_row _ _ 3 _ _ HZ6
    have f4 := frozen_of_row _ _ 4 _ _ HZ6
    have f5 := frozen_of_row _ _ 5 _ _ HZ6
    have f6 := frozen_of_row _ _ 6 _ _ HZ6
    have f7 := frozen_of_row _ _ 7 _ _ HZ6
    simp at g0 g1 g2 g3 g4 g5 g6 g7
    clear HB5 HZ5 HR5 o1 o2 o3 b6 HZ6 HB6 HS2
    generalize hq1 : R.stk.length = l1 at *
    generalize hq2 : R.cells.length = l2 at *
    generalize hdn : R.done = dn at *
    go_wp2_with fail
    refine bodyPost_ret (v := .agg #[.int .i64 0, .int .i64 R.pc, .slice q1 l1 t1, .slice q2 l2 t2, .int .i64 R.sig, .int .i64 R.used, .int .i64 R.trap, .bool dn]) (by simp [results, Try.results15, go_sem, g0, g1, g2, g3, g4, g5, g6, g7]; try rfl) rfl ?_
    subst hdn
    exact HF.out
end Go.Proofs.Ytlofagpffeaebaa
