/-
  impl's told: op 6.
-/
import Derived.Test.YtalopffpaepaaaaIStk3
namespace Go.Proofs.Ytalopffpaepaaaa
open Go.RowKit
set_option linter.unusedVariables false
attribute [local go_sem ↓] Go.wp_at_zero Go.wp_at_succ

theorem below_alloc {W Z : World} (h : Below W.heap.size W Z) (o : Obj) : Below W.heap.size W (Z.alloc o) := h.alloc h.size o
theorem below_set {W Z : World} (h : Below W.heap.size W Z) (a : Addr) (v : Value) (ha : W.heap.size ≤ a.block) : Below W.heap.size W (Z.setCell a v) := h.setCell ha v
theorem last3 {A B C : Prop} (h : A ∧ B ∧ C) : C := h.2.2
/-- a new answer's block -/
structure New2 (Z : World) (n : Nat) : Prop where
  c0 : Z.cell? ⟨n, 0, none⟩ = some (.int .i64 0)
  c1 : Z.cell? ⟨n, 1, none⟩ = some (.int .i64 0)
  f0 : Z.frozen? ⟨n, 0, none⟩ = false
  f1 : Z.frozen? ⟨n, 1, none⟩ = false
theorem New2.of {w w' : World} {T : TypeId} (hb : Below (w.alloc (.cells #[.int .i64 0, .int .i64 0] T)).heap.size (w.alloc (.cells #[.int .i64 0, .int .i64 0] T)) w') : New2 w' w.heap.size := by
  obtain ⟨a, b, c, d, _⟩ := own2 hb
  exact ⟨a, b, c, d⟩
theorem New2.ofd {w w' : World} {T : TypeId} (hb : Below (w.alloc (.cells #[.int .i64 0, .int .i64 0] T)).drew.heap.size (w.alloc (.cells #[.int .i64 0, .int .i64 0] T)).drew w') : New2 w' w.heap.size :=
  New2.of ((Below.refl _ _).drew.trans hb)
theorem New2.ofw {w w' : World} {T : TypeId} (hb : Below (w.drew.alloc (.cells #[.int .i64 0, .int .i64 0] T)).heap.size (w.drew.alloc (.cells #[.int .i64 0, .int .i64 0] T)) w') : New2 w' w.heap.size := New2.of (w := w.drew) hb
theorem New2.below {w w' : World} {n : Nat} (h : New2 w n) (hb : Below w.heap.size w w') : New2 w' n := by
  have hl := World.block_lt_of_cell? _ _ h.c0
  exact ⟨(hb.cell (p := ⟨n, 0, none⟩) hl).trans h.c0, (hb.cell (p := ⟨n, 1, none⟩) hl).trans h.c1, (hb.frozen (p := ⟨n, 0, none⟩) hl).trans h.f0, (hb.frozen (p := ⟨n, 1, none⟩) hl).trans h.f1⟩
set_option maxHeartbeats 3200000 in
theorem told_6 (B p : Nat) (m : SM) (op u v nx : Int) (wv : Value) (w : World) (hop : op = 6) (h : RunI B w p m) (hl : m.cells.length ≤ 80) (hs : m.stk.length ≤ 40) (hj : 1 < m.stk.length) (hw : WordsV B w wv op u v) :
    Calls Try.prog 96 #[.pointer (some ⟨p, 0, none⟩), oneV op wv nx] w fun e w' => e = .returned (ir (twoC u (tp m 0)) (binV u (tp m 1) (tp m 0))) ∧ Below w.heap.size w w' := by
  have ea : argN op = 1 := by rw [hop]; rfl
  obtain ⟨a, c, rfl, h1⟩ := hw
  obtain ⟨b, off, rfl, hlt, h2, _⟩ := h1 (by omega)
  rw [ea]
  clear h1 ea
  have hBp := h.lt
  have HT0 : Hid (∀ W, RunI B W p m → Calls Try.prog 105 #[.pointer (some ⟨p, 0, none⟩), .int .i64 0] W fun e w' => e = .returned (.int .i64 (tp m 0)) ∧ Below W.heap.size W w') := fun W hr => top_any B p m 0 W hr (by omega) hs
  have HT1 : Hid (∀ W, RunI B W p m → Calls Try.prog 105 #[.pointer (some ⟨p, 0, none⟩), .int .i64 1] W fun e w' => e = .returned (.int .i64 (tp m 1)) ∧ Below W.heap.size W w') := fun W hr => top_any B p m 1 W hr hj hs
  have HCL : Hid (∀ W, Calls Try.prog 12 #[.int .i64 u, .int .i64 (tp m 1), .int .i64 (tp m 0)] W fun e w' => e = .returned (ir (binC u (tp m 0)) (binV u (tp m 1) (tp m 0))) ∧ Below W.heap.size W w') := fun W => implBin_any u (tp m 1) (tp m 0) W
  have HC : Hid (twoC u (tp m 0) = if binC u (tp m 0) = 3 then 1 else binC u (tp m 0)) := rfl
  generalize binC u (tp m 0) = C at *
  generalize twoC u (tp m 0) = D at *
  generalize binV u (tp m 1) (tp m 0) = V at *
  generalize tp m 0 = T0 at *
  generalize tp m 1 = T1 at *
  have hX : Hid (∀ W, W = (w.alloc (.cells #[.int .i64 op, .slice (some ⟨b, off, none⟩) 1 c, .int .i64 nx] 113)).alloc (.cells #[.int .i64 0, .int .i64 0] 31) → _) := fun W e => told_pre B p b off c 1 m op u nx w W h hlt h2 e
  have hT : (op == 2) = false ∧ (op == 3) = false ∧ (op == 4) = false ∧ (op == 5) = false ∧ (op == 6) = true := by subst hop; exact ⟨rfl, rfl, rfl, rfl, rfl⟩
  clear hop h2 h
  obtain ⟨e2, e3, e4, e5, e6⟩ := hT
  go_enter Try.func96, Try.ntmps96
  go_upto_region 10 with fail
  have hXX := hX.out _ rfl
  generalize (w.alloc (.cells #[.int .i64 op, .slice (some ⟨b, off, none⟩) 1 c, .int .i64 nx] 113)).alloc (.cells #[.int .i64 0, .int .i64 0] 31) = W at *
  obtain ⟨x3, x4, x5⟩ := hXX
  have HB : Hid (Below w.heap.size w W) := x3
  have HS : Hid (W.heap.size = w.heap.size + 2) := x4
  have HX : Hid _ := x5
  have HK : Hid (∀ Z, Below W.heap.size W Z → Z.cell? ⟨w.heap.size, 1, none⟩ = some (.slice (some ⟨b, off, none⟩) 1 c) ∧ Z.cell? ⟨b, off, none⟩ = some (.int .i64 u) ∧ Below W.heap.size W Z) := fun Z hz => ⟨(x5 Z hz).1, (x5 Z hz).2.1, hz⟩
  have HK1 : Hid (Below W.heap.size W W) := Below.refl _ _
  clear x3 x4 x5 hX
  go_cut [5] from 6 (fun v W1 => ∃ g, v = .pointer (some ⟨g, 0, none⟩) ∧ W.heap.size ≤ g ∧ Hid (W1.cell? ⟨g, 0, none⟩ = some (.int .i64 C) ∧ W1.cell? ⟨g, 1, none⟩ = some (.int .i64 V) ∧ W1.frozen? ⟨g, 0, none⟩ = false ∧ W1.frozen? ⟨g, 1, none⟩ = false) ∧ Hid (Below W.heap.size W W1))
  case first =>
    go_region_held3 (fun Z => Z.cell? ⟨w.heap.size, 1, none⟩ = some (.slice (some ⟨b, off, none⟩) 1 c) ∧ Z.cell? ⟨b, off, none⟩ = some (.int .i64 u) ∧ Below W.heap.size W Z) ((refine HK.out _ ?_; repeat' first | assumption | exact HK1.out | exact last3 (by assumption) | refine Below.drew ?_ | refine below_alloc ?_ _ | refine below_set ?_ _ _ (by first | exact Nat.le_refl _ | exact Below.size (by assumption))))
      (first | (with_reducible show Calls _ _ #[_, .int .i64 1] _ _; refine (HT1.out _ (HX.out _ (last3 (by assumption))).2.2.1).mono ?_; rintro e w3 ⟨rfl, hb⟩; have hb2 : Below W.heap.size W w3 := Below.trans (last3 (by assumption)) (hb.mono (Below.size (last3 (by assumption)))); first | (have hq := New2.ofw hb; have hq2 := hq; obtain ⟨d0, d1, g0, g1⟩ := hq2) | (have hq := New2.ofd hb; have hq2 := hq; obtain ⟨d0, d1, g0, g1⟩ := hq2) | (have hq := New2.of hb; have hq2 := hq; obtain ⟨d0, d1, g0, g1⟩ := hq2) | (have hq := New2.below (by assumption) hb; have hq2 := hq; obtain ⟨d0, d1, g0, g1⟩ := hq2) | skip) | (with_reducible show Calls _ _ #[_, .int .i64 0] _ _; refine (HT0.out _ (HX.out _ (last3 (by assumption))).2.2.1).mono ?_; rintro e w3 ⟨rfl, hb⟩; have hb2 : Below W.heap.size W w3 := Below.trans (last3 (by assumption)) (hb.mono (Below.size (last3 (by assumption)))); first | (have hq := New2.ofw hb; have hq2 := hq; obtain ⟨d0, d1, g0, g1⟩ := hq2) | (have hq := New2.ofd hb; have hq2 := hq; obtain ⟨d0, d1, g0, g1⟩ := hq2) | (have hq := New2.of hb; have hq2 := hq; obtain ⟨d0, d1, g0, g1⟩ := hq2) | (have hq := New2.below (by assumption) hb; have hq2 := hq; obtain ⟨d0, d1, g0, g1⟩ := hq2) | skip) | (go_at_call 12; refine (HCL.out _).mono ?_; rintro e w3 ⟨rfl, hb⟩; have hb2 : Below W.heap.size W w3 := Below.trans (last3 (by assumption)) (hb.mono (Below.size (last3 (by assumption)))); first | (have hq := New2.ofw hb; have hq2 := hq; obtain ⟨d0, d1, g0, g1⟩ := hq2) | (have hq := New2.ofd hb; have hq2 := hq; obtain ⟨d0, d1, g0, g1⟩ := hq2) | (have hq := New2.of hb; have hq2 := hq; obtain ⟨d0, d1, g0, g1⟩ := hq2) | (have hq := New2.below (by assumption) hb; have hq2 := hq; obtain ⟨d0, d1, g0, g1⟩ := hq2) | skip))
    all_goals
      go_wp2_with fail
      go_meet
      case rel =>
        refine ⟨_, rfl, ?_, ?_, ?_⟩
        · first | exact Nat.le_refl _ | exact Below.size (by assumption)
        · show _ ∧ _ ∧ _ ∧ _
          first | (simp [go_sem, d0, d1, g0, g1]; done) | (simp [go_sem]; done)
        · exact last3 (by assumption)
  case rest =>
    obtain ⟨g, rfl, hg, hc, hb⟩ := hcut
    obtain ⟨d0, d1, g0, g1⟩ := hc.out
    obtain ⟨_, _, _, r0, r1, f0, f1⟩ := HX.out wc hb.out
    have hgr : g ≠ w.heap.size + 1 := by have := HS.out; omega
    have HE : Hid (Below w.heap.size w wc ∧ w.heap.size ≤ g) := ⟨HB.out.trans (hb.out.mono (by have := HS.out; omega)), by have := HS.out; omega⟩
    clear HX HK HK1 HS HB hb hc hg HCL HT0 HT1
    by_cases h3 : C = 3
    · subst h3
      have hD : D = 1 := HC.out
      subst hD
      go_wp2_with fail
      refine bodyPost_ret (v := ir 1 V) (by simp [results, Try.results96, go_sem, r0, r1]) rfl ⟨rfl, ?_⟩
      exact ((HE.out.1.setCell HE.out.2 _).setCell (by simp) _).setCell (by simp) _
    · have hD : D = C := by rw [HC.out, if_neg h3]
      subst hD
      have e3 : (D == 3) = false := by simpa using h3
      go_wp2_with fail
      refine bodyPost_ret (v := ir D V) (by simp [results, Try.results96, go_sem, r0, r1]) rfl ⟨rfl, ?_⟩
      exact (HE.out.1.setCell (by simp) _).setCell (by simp) _
end Go.Proofs.Ytalopffpaepaaaa
