/-
  A build of a great value by a closed fact.
-/
import Derived.Test.YtcikofhbfncgdaaIStk3
import Derived.WalkKit
namespace Go.Proofs.Ytcikofhbfncgdaa
open Go.RowKit
set_option linter.unusedVariables false
attribute [local go_sem ↓] Go.wp_at_zero Go.wp_at_succ

set_option maxHeartbeats 3200000 in
theorem told_4 (B p : Nat) (m : SM) (op u v nx : Int) (wv : Value) (w : World) (hop : op = 4) (h : RunI B w p m) (hl : m.cells.length ≤ 80) (hs : m.stk.length ≤ 40) (hj : 0 < m.stk.length) (hw : WordsV B w wv op u v) (hu0 : 0 ≤ u) (hu1 : u ≤ 65535) (hv0 : 0 ≤ v) (hv1 : v ≤ 65535) :
    Calls Try.prog 119 #[.pointer (some ⟨p, 0, none⟩), oneV op wv nx] w fun e w' => e = .returned (ir (itemC m.cells.length u v (tp m 0)) (itemV m.cells.length u v (tp m 0))) ∧ Below w.heap.size w w' := by
  have ea : argN op = 2 := by rw [hop]; rfl
  obtain ⟨a, c, rfl, h1⟩ := hw
  obtain ⟨b, off, rfl, hlt, h2, h3⟩ := h1 (by omega)
  have h4 := h3 ea
  rw [ea]
  clear h1 h3 ea
  have hBp := h.lt
  have HT : Hid (∀ W, RunI B W p m → Calls Try.prog 141 #[.pointer (some ⟨p, 0, none⟩), .int .i64 0] W fun e w' => e = .returned (.int .i64 (tp m 0)) ∧ Below W.heap.size W w') := fun W hr => top_any B p m 0 W hr hj hs
  have HCL : Hid (∀ W, RunI B W p m → Calls Try.prog 129 #[.pointer (some ⟨p, 1, none⟩), .int .i64 u, .int .i64 v, .int .i64 (tp m 0)] W fun e w' => e = .returned (ir (itemC m.cells.length u v (tp m 0)) (itemV m.cells.length u v (tp m 0))) ∧ Below W.heap.size W w') := fun W hr => item_any B p m u v _ W hr hl hu0 hu1 hv0 hv1
  generalize itemC m.cells.length u v (tp m 0) = C at *
  generalize itemV m.cells.length u v (tp m 0) = V at *
  generalize tp m 0 = T at *
  have hX : Hid (∀ W, W = (w.alloc (.cells #[.int .i64 op, .slice (some ⟨b, off, none⟩) 2 c, .int .i64 nx] 130)).alloc (.cells #[.int .i64 0, .int .i64 0] 61) → _) := fun W e => told_keep B p b off c 2 m op u nx w W h hlt h2 e
  have HV : Hid (∀ W, Below w.heap.size w W → W.cell? ⟨b, off + 1, none⟩ = some (.int .i64 v)) := fun W hb => (hb.cell (p := ⟨b, off + 1, none⟩) (by show b < w.heap.size; omega)).trans h4
  have hT : (op == 2) = false ∧ (op == 3) = false ∧ (op == 4) = true := by subst hop; exact ⟨rfl, rfl, rfl⟩
  clear hop h2 h4 h
  obtain ⟨e2, e3, e4⟩ := hT
  go_enter Try.func119, Try.ntmps119
  go_upto_region 6 with fail
  have hXX := hX.out _ rfl
  generalize (w.alloc (.cells #[.int .i64 op, .slice (some ⟨b, off, none⟩) 2 c, .int .i64 nx] 130)).alloc (.cells #[.int .i64 0, .int .i64 0] 61) = W at *
  obtain ⟨x3, x4, x5⟩ := hXX
  have HB : Hid (Below w.heap.size w W) := x3
  have HK0 : Hid (Keep (w.heap.size + 1) W W) := x4
  have HX : Hid _ := x5
  have HK : Hid (∀ Z, Keep (w.heap.size + 1) W Z → Z.cell? ⟨w.heap.size, 1, none⟩ = some (.slice (some ⟨b, off, none⟩) 2 c) ∧ Z.cell? ⟨b, off, none⟩ = some (.int .i64 u) ∧ Z.cell? ⟨b, off + 1, none⟩ = some (.int .i64 v) ∧ Keep (w.heap.size + 1) W Z) := fun Z hz => ⟨(x5 Z hz).1, (x5 Z hz).2.1, HV.out Z (x3.trans (hz.1.mono (by omega))), hz⟩
  clear x3 x4 x5 hX HV
  go_region_held3 (fun Z => Z.cell? ⟨w.heap.size, 1, none⟩ = some (.slice (some ⟨b, off, none⟩) 2 c) ∧ Z.cell? ⟨b, off, none⟩ = some (.int .i64 u) ∧ Z.cell? ⟨b, off + 1, none⟩ = some (.int .i64 v) ∧ Keep (w.heap.size + 1) W Z) ((refine HK.out _ ?_; repeat' first | assumption | exact HK0.out | refine Keep.drew ?_ | refine Keep.set0 ?_ _ | refine Keep.set1 ?_ _))
    (first | (go_at_call 141; refine (HT.out _ (HX.out _ (last4 (by assumption))).2.2).mono ?_; rintro e w3 ⟨rfl, hb⟩; have hk3 : Keep (w.heap.size + 1) W w3 := Keep.below (last4 (by assumption)) hb) | (go_at_call 129; refine (HCL.out _ (HX.out _ (last4 (by assumption))).2.2).mono ?_; rintro e w4 ⟨rfl, hb⟩; have hk4 : Keep (w.heap.size + 1) W w4 := Keep.below (last4 (by assumption)) hb; obtain ⟨x, y, r0, r1, f0, f1⟩ := hk4.cells))
  have hE := (HB.out.trans ((hk4.1.setCell (p := ⟨w.heap.size + 1, 0, none⟩) (Nat.le_refl _) (.int .i64 C)).setCell (p := ⟨w.heap.size + 1, 1, none⟩) (Nat.le_refl _) (.int .i64 V) |>.mono (Nat.le_succ _)))
  have HE : Hid _ := hE
  clear hE hk4 hk3 HK HX HK0 HCL HT HB
  go_wp2_with fail
  refine bodyPost_ret (v := ir C V) (by simp [results, Try.results119, go_sem, r0, r1]) rfl ⟨rfl, ?_⟩
  first | exact HE.out | exact HE.out.drew
end Go.Proofs.Ytcikofhbfncgdaa
namespace Go.Proofs.Ytcikofhbfncgdaa
open Go.RowKit
set_option linter.unusedVariables false
attribute [local go_sem ↓] Go.wp_at_zero Go.wp_at_succ

set_option maxHeartbeats 3200000 in
theorem told_5 (B p : Nat) (m : SM) (op u v nx : Int) (wv : Value) (w : World) (hop : op = 5) (h : RunI B w p m) (hl : m.cells.length ≤ 80) (hs : m.stk.length ≤ 40) (hj : 1 < m.stk.length) (hw : WordsV B w wv op u v) (hu0 : 0 ≤ u) (hu1 : u ≤ 65535) (hv0 : 0 ≤ v) (hv1 : v ≤ 65535) :
    Calls Try.prog 119 #[.pointer (some ⟨p, 0, none⟩), oneV op wv nx] w fun e w' => e = .returned (ir (itemC m.cells.length u v (tp m 1)) (itemV m.cells.length u v (tp m 1))) ∧ Below w.heap.size w w' := by
  have ea : argN op = 2 := by rw [hop]; rfl
  obtain ⟨a, c, rfl, h1⟩ := hw
  obtain ⟨b, off, rfl, hlt, h2, h3⟩ := h1 (by omega)
  have h4 := h3 ea
  rw [ea]
  clear h1 h3 ea
  have hBp := h.lt
  have HT : Hid (∀ W, RunI B W p m → Calls Try.prog 141 #[.pointer (some ⟨p, 0, none⟩), .int .i64 1] W fun e w' => e = .returned (.int .i64 (tp m 1)) ∧ Below W.heap.size W w') := fun W hr => top_any B p m 1 W hr hj hs
  have HCL : Hid (∀ W, RunI B W p m → Calls Try.prog 129 #[.pointer (some ⟨p, 1, none⟩), .int .i64 u, .int .i64 v, .int .i64 (tp m 1)] W fun e w' => e = .returned (ir (itemC m.cells.length u v (tp m 1)) (itemV m.cells.length u v (tp m 1))) ∧ Below W.heap.size W w') := fun W hr => item_any B p m u v _ W hr hl hu0 hu1 hv0 hv1
  generalize itemC m.cells.length u v (tp m 1) = C at *
  generalize itemV m.cells.length u v (tp m 1) = V at *
  generalize tp m 1 = T at *
  have hX : Hid (∀ W, W = (w.alloc (.cells #[.int .i64 op, .slice (some ⟨b, off, none⟩) 2 c, .int .i64 nx] 130)).alloc (.cells #[.int .i64 0, .int .i64 0] 61) → _) := fun W e => told_keep B p b off c 2 m op u nx w W h hlt h2 e
  have HV : Hid (∀ W, Below w.heap.size w W → W.cell? ⟨b, off + 1, none⟩ = some (.int .i64 v)) := fun W hb => (hb.cell (p := ⟨b, off + 1, none⟩) (by show b < w.heap.size; omega)).trans h4
  have hT : (op == 2) = false ∧ (op == 3) = false ∧ (op == 4) = false ∧ (op == 5) = true := by subst hop; exact ⟨rfl, rfl, rfl, rfl⟩
  clear hop h2 h4 h
  obtain ⟨e2, e3, e4, e5⟩ := hT
  go_enter Try.func119, Try.ntmps119
  go_upto_region 8 with fail
  have hXX := hX.out _ rfl
  generalize (w.alloc (.cells #[.int .i64 op, .slice (some ⟨b, off, none⟩) 2 c, .int .i64 nx] 130)).alloc (.cells #[.int .i64 0, .int .i64 0] 61) = W at *
  obtain ⟨x3, x4, x5⟩ := hXX
  have HB : Hid (Below w.heap.size w W) := x3
  have HK0 : Hid (Keep (w.heap.size + 1) W W) := x4
  have HX : Hid _ := x5
  have HK : Hid (∀ Z, Keep (w.heap.size + 1) W Z → Z.cell? ⟨w.heap.size, 1, none⟩ = some (.slice (some ⟨b, off, none⟩) 2 c) ∧ Z.cell? ⟨b, off, none⟩ = some (.int .i64 u) ∧ Z.cell? ⟨b, off + 1, none⟩ = some (.int .i64 v) ∧ Keep (w.heap.size + 1) W Z) := fun Z hz => ⟨(x5 Z hz).1, (x5 Z hz).2.1, HV.out Z (x3.trans (hz.1.mono (by omega))), hz⟩
  clear x3 x4 x5 hX HV
  go_region_held3 (fun Z => Z.cell? ⟨w.heap.size, 1, none⟩ = some (.slice (some ⟨b, off, none⟩) 2 c) ∧ Z.cell? ⟨b, off, none⟩ = some (.int .i64 u) ∧ Z.cell? ⟨b, off + 1, none⟩ = some (.int .i64 v) ∧ Keep (w.heap.size + 1) W Z) ((refine HK.out _ ?_; repeat' first | assumption | exact HK0.out | refine Keep.drew ?_ | refine Keep.set0 ?_ _ | refine Keep.set1 ?_ _))
    (first | (go_at_call 141; refine (HT.out _ (HX.out _ (last4 (by assumption))).2.2).mono ?_; rintro e w3 ⟨rfl, hb⟩; have hk3 : Keep (w.heap.size + 1) W w3 := Keep.below (last4 (by assumption)) hb) | (go_at_call 129; refine (HCL.out _ (HX.out _ (last4 (by assumption))).2.2).mono ?_; rintro e w4 ⟨rfl, hb⟩; have hk4 : Keep (w.heap.size + 1) W w4 := Keep.below (last4 (by assumption)) hb; obtain ⟨x, y, r0, r1, f0, f1⟩ := hk4.cells))
  have hE := (HB.out.trans ((hk4.1.setCell (p := ⟨w.heap.size + 1, 0, none⟩) (Nat.le_refl _) (.int .i64 C)).setCell (p := ⟨w.heap.size + 1, 1, none⟩) (Nat.le_refl _) (.int .i64 V) |>.mono (Nat.le_succ _)))
  have HE : Hid _ := hE
  clear hE hk4 hk3 HK HX HK0 HCL HT HB
  go_wp2_with fail
  refine bodyPost_ret (v := ir C V) (by simp [results, Try.results119, go_sem, r0, r1]) rfl ⟨rfl, ?_⟩
  first | exact HE.out | exact HE.out.drew
end Go.Proofs.Ytcikofhbfncgdaa
namespace Go.Proofs.Ytcikofhbfncgdaa
open Go.RowKit
set_option linter.unusedVariables false
attribute [local go_sem ↓] Go.wp_at_zero Go.wp_at_succ

theorem below_alloc {W Z : World} (h : Below W.heap.size W Z) (o : Obj) : Below W.heap.size W (Z.alloc o) := h.alloc h.size o
theorem below_set {W Z : World} (h : Below W.heap.size W Z) (a : Addr) (v : Value) (ha : W.heap.size ≤ a.block) : Below W.heap.size W (Z.setCell a v) := h.setCell ha v
theorem last3 {A B C : Prop} (h : A ∧ B ∧ C) : C := h.2.2
/-- a new answer's block -/
structure New2 (Z : World) (n : Nat) : Prop where
  c0 : Z.cell? ⟨n, 0, none⟩ = some (.int .i64 0)
  c1 : Z.cell? ⟨n, 1, none⟩ = some (.int .i64 0)
  f0 : Z.frozen? ⟨n, 0, none⟩ = false
  f1 : Z.frozen? ⟨n, 1, none⟩ = false
theorem New2.of {w w' : World} {T : TypeId} (hb : Below (w.alloc (.cells #[.int .i64 0, .int .i64 0] T)).heap.size (w.alloc (.cells #[.int .i64 0, .int .i64 0] T)) w') : New2 w' w.heap.size := by
  obtain ⟨a, b, c, d, _⟩ := own2 hb
  exact ⟨a, b, c, d⟩
theorem New2.ofd {w w' : World} {T : TypeId} (hb : Below (w.alloc (.cells #[.int .i64 0, .int .i64 0] T)).drew.heap.size (w.alloc (.cells #[.int .i64 0, .int .i64 0] T)).drew w') : New2 w' w.heap.size :=
  New2.of ((Below.refl _ _).drew.trans hb)
theorem New2.ofw {w w' : World} {T : TypeId} (hb : Below (w.drew.alloc (.cells #[.int .i64 0, .int .i64 0] T)).heap.size (w.drew.alloc (.cells #[.int .i64 0, .int .i64 0] T)) w') : New2 w' w.heap.size := New2.of (w := w.drew) hb
theorem New2.below {w w' : World} {n : Nat} (h : New2 w n) (hb : Below w.heap.size w w') : New2 w' n := by
  have hl := World.block_lt_of_cell? _ _ h.c0
  exact ⟨(hb.cell (p := ⟨n, 0, none⟩) hl).trans h.c0, (hb.cell (p := ⟨n, 1, none⟩) hl).trans h.c1, (hb.frozen (p := ⟨n, 0, none⟩) hl).trans h.f0, (hb.frozen (p := ⟨n, 1, none⟩) hl).trans h.f1⟩
set_option maxHeartbeats 1600000 in
theorem trap_any (C V : Int) (w : World) (hV : C = 3 → V = 0) :
    Calls Try.prog 130 #[ir C V] w fun e w' => e = .returned (ir (if C = 3 then 1 else C) V) ∧ Below w.heap.size w w' := by
  by_cases h : C = 3
  · have hv := hV h
    subst h hv
    rw [if_pos rfl]
    go_enter Try.func130, Try.ntmps130
    go_wp2_with fail
    refine bodyPost_ret (v := ir 1 0) (by simp [results, Try.results130, go_sem]) rfl ⟨rfl, ?_⟩
    go_grown
  · have e : (C == 3) = false := by simpa using h
    rw [if_neg h]
    clear h hV
    go_enter Try.func130, Try.ntmps130
    go_wp2_with fail
    refine bodyPost_ret (v := ir C V) (by simp [results, Try.results130, go_sem]) rfl ⟨rfl, ?_⟩
    go_grown

set_option maxHeartbeats 3200000 in
theorem told_6 (B p : Nat) (m : SM) (op u v nx : Int) (wv : Value) (w : World) (hop : op = 6) (h : RunI B w p m) (hl : m.cells.length ≤ 80) (hs : m.stk.length ≤ 40) (hj : 1 < m.stk.length) (hw : WordsV B w wv op u v) :
    Calls Try.prog 119 #[.pointer (some ⟨p, 0, none⟩), oneV op wv nx] w fun e w' => e = .returned (ir (twoC u (tp m 0)) (binV u (tp m 1) (tp m 0))) ∧ Below w.heap.size w w' := by
  have ea : argN op = 1 := by rw [hop]; rfl
  obtain ⟨a, c, rfl, h1⟩ := hw
  obtain ⟨b, off, rfl, hlt, h2, _⟩ := h1 (by omega)
  rw [ea]
  clear h1 ea
  have hBp := h.lt
  have HT0 : Hid (∀ W, RunI B W p m → Calls Try.prog 141 #[.pointer (some ⟨p, 0, none⟩), .int .i64 0] W fun e w' => e = .returned (.int .i64 (tp m 0)) ∧ Below W.heap.size W w') := fun W hr => top_any B p m 0 W hr (by omega) hs
  have HT1 : Hid (∀ W, RunI B W p m → Calls Try.prog 141 #[.pointer (some ⟨p, 0, none⟩), .int .i64 1] W fun e w' => e = .returned (.int .i64 (tp m 1)) ∧ Below W.heap.size W w') := fun W hr => top_any B p m 1 W hr hj hs
  have HCL : Hid (∀ W, Calls Try.prog 142 #[.int .i64 u, .int .i64 (tp m 1), .int .i64 (tp m 0)] W fun e w' => e = .returned (ir (binC u (tp m 0)) (binV u (tp m 1) (tp m 0))) ∧ Below W.heap.size W w') := fun W => implBin_any u (tp m 1) (tp m 0) W
  have HTR : Hid (∀ W, Calls Try.prog 130 #[ir (binC u (tp m 0)) (binV u (tp m 1) (tp m 0))] W fun e w' => e = .returned (ir (twoC u (tp m 0)) (binV u (tp m 1) (tp m 0))) ∧ Below W.heap.size W w') := fun W => trap_any _ _ W (fun h => by unfold binV; rw [if_neg (by omega)])
  generalize binC u (tp m 0) = C at *
  generalize twoC u (tp m 0) = D at *
  generalize binV u (tp m 1) (tp m 0) = V at *
  generalize tp m 0 = T0 at *
  generalize tp m 1 = T1 at *
  have hX : Hid (∀ W, W = (w.alloc (.cells #[.int .i64 op, .slice (some ⟨b, off, none⟩) 1 c, .int .i64 nx] 130)).alloc (.cells #[.int .i64 0, .int .i64 0] 61) → _) := fun W e => told_keep B p b off c 1 m op u nx w W h hlt h2 e
  have hT : (op == 2) = false ∧ (op == 3) = false ∧ (op == 4) = false ∧ (op == 5) = false ∧ (op == 6) = true := by subst hop; exact ⟨rfl, rfl, rfl, rfl, rfl⟩
  clear hop h2 h
  obtain ⟨e2, e3, e4, e5, e6⟩ := hT
  go_enter Try.func119, Try.ntmps119
  go_upto_region 10 with fail
  have hXX := hX.out _ rfl
  generalize (w.alloc (.cells #[.int .i64 op, .slice (some ⟨b, off, none⟩) 1 c, .int .i64 nx] 130)).alloc (.cells #[.int .i64 0, .int .i64 0] 61) = W at *
  obtain ⟨x3, x4, x5⟩ := hXX
  have HB : Hid (Below w.heap.size w W) := x3
  have HK0 : Hid (Keep (w.heap.size + 1) W W) := x4
  have HX : Hid _ := x5
  have HK : Hid (∀ Z, Keep (w.heap.size + 1) W Z → Z.cell? ⟨w.heap.size, 1, none⟩ = some (.slice (some ⟨b, off, none⟩) 1 c) ∧ Z.cell? ⟨b, off, none⟩ = some (.int .i64 u) ∧ Keep (w.heap.size + 1) W Z) := fun Z hz => ⟨(x5 Z hz).1, (x5 Z hz).2.1, hz⟩
  clear x3 x4 x5 hX
  go_region_held3 (fun Z => Z.cell? ⟨w.heap.size, 1, none⟩ = some (.slice (some ⟨b, off, none⟩) 1 c) ∧ Z.cell? ⟨b, off, none⟩ = some (.int .i64 u) ∧ Keep (w.heap.size + 1) W Z) ((refine HK.out _ ?_; repeat' first | assumption | exact HK0.out | refine Keep.drew ?_ | refine Keep.set0 ?_ _ | refine Keep.set1 ?_ _))
    (first | ((with_reducible show Calls _ _ #[_, .int .i64 1] _ _); refine (HT1.out _ (HX.out _ (last3 (by assumption))).2.2).mono ?_; rintro e w3 ⟨rfl, hb⟩; have hk3 : Keep (w.heap.size + 1) W w3 := Keep.below (last3 (by assumption)) hb) | ((with_reducible show Calls _ _ #[_, .int .i64 0] _ _); refine (HT0.out _ (HX.out _ (last3 (by assumption))).2.2).mono ?_; rintro e w3 ⟨rfl, hb⟩; have hk3 : Keep (w.heap.size + 1) W w3 := Keep.below (last3 (by assumption)) hb) | (go_at_call 142; refine (HCL.out _).mono ?_; rintro e w3 ⟨rfl, hb⟩; have hk3 : Keep (w.heap.size + 1) W w3 := Keep.below (last3 (by assumption)) hb) | (go_at_call 130; refine (HTR.out _).mono ?_; rintro e w4 ⟨rfl, hb⟩; have hk4 : Keep (w.heap.size + 1) W w4 := Keep.below (last3 (by assumption)) hb; obtain ⟨x, y, r0, r1, f0, f1⟩ := hk4.cells) | fail)
  all_goals
    have hE := (HB.out.trans ((hk4.1.setCell (p := ⟨w.heap.size + 1, 0, none⟩) (Nat.le_refl _) (.int .i64 D)).setCell (p := ⟨w.heap.size + 1, 1, none⟩) (Nat.le_refl _) (.int .i64 V) |>.mono (Nat.le_succ _)))
    have HE : Hid _ := hE
    clear hE hk4 HK HX HK0 HCL HTR HT0 HT1 HB
    go_wp2_with fail
    refine bodyPost_ret (v := ir D V) (by simp [results, Try.results119, go_sem, r0, r1]) rfl ⟨rfl, ?_⟩
    first | exact HE.out | exact HE.out.drew
end Go.Proofs.Ytcikofhbfncgdaa
namespace Go.Proofs.Ytcikofhbfncgdaa
open Go.RowKit
set_option linter.unusedVariables false

theorem wpList_buildS {P : Program} (w : World) {ops : Array Oper} {rest : List Oper} {o : Oper} {a : Act} {Q : Exit → Act → World → Prop}
    (hg : o.guard = none) (t : TypeId) (parts : Array (Nat × Operand)) (hop : o.op = Op.build t parts) (V : Value) (args : Array (Nat × Value)) (hargs : parts.map (fun (i, x) => (i, a.eval x)) = args)
    (hrun : (Instr.build t args).run P w = .ok V w) (hK : wpList P ops Q rest (a.put o.dst V) w) : wpList P ops Q (o :: rest) a w := by
  refine wpList_plain hg fun K hK' => ?_
  unfold Oper.wp
  simp [execOp, hop, hargs, hrun, Result.andThen]
  exact hK' _ _ hK
end Go.Proofs.Ytcikofhbfncgdaa
