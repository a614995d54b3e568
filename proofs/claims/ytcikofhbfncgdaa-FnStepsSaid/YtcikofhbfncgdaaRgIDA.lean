/-
  impl's do of the register run: ops 1, 2.
-/
import Derived.Test.YtcikofhbfncgdaaRgHas
import Derived.Deep.RegionHeld3
import Derived.Test.YtcikofhbfncgdaaIStkB
import Derived.BigQuiet
namespace Go.Proofs.Ytcikofhbfncgdaa
open Go.RowKit
set_option linter.unusedVariables false
variable {Ks : Kept}
attribute [local go_sem ↓] Go.wp_at_zero Go.wp_at_succ

set_option maxHeartbeats 3200000 in
set_option maxRecDepth 100000 in
theorem rtold_4 (B p b off c i1 : Nat) (m : SM) (u v nx : Int) (w : World) (h : RunJ Ks B w p m) (hbB : b < B) (hl : m.cells.length ≤ 80) (y1 : w.cell? ⟨b, off + 1, none⟩ = some (.int .i64 ((i1 : Nat) : Int))) (y2 : w.cell? ⟨b, off + 2, none⟩ = some (.int .i64 u)) (y3 : w.cell? ⟨b, off + 3, none⟩ = some (.int .i64 v)) (r1 : i1 < 24) (hu0 : 0 ≤ u) (hu1 : u ≤ 65535) (hv0 : 0 ≤ v) (hv1 : v ≤ 65535) :
    Calls Try.prog 110 #[.pointer (some ⟨p, 0, none⟩), oneV 4 (.slice (some ⟨b, off, none⟩) 4 c) nx] w fun e w' => e = .returned (ir (itC m.cells.length u v (cm (m.stk.getD i1 0))) (itV m.cells.length u v (cm (m.stk.getD i1 0)))) ∧ Below w.heap.size w w' := by
  have hBp := h.lt
  obtain ⟨x, hx⟩ : ∃ x, x = m.stk.getD i1 0 := ⟨_, rfl⟩
  rw [← hx]
  have HRC : Hid (∀ Z, RunJ Ks B Z p m → Z.cell? ⟨p, 6 + i1, none⟩ = some (.int .i64 x)) := fun Z hz => by
    obtain ⟨cv, hr, -⟩ := hz
    rw [hx]
    exact hr.reg r1
  have HCL : Hid (∀ W, RunJ Ks B W p m → Calls Try.prog 129 #[.pointer (some ⟨p, 0, none⟩), .int .i64 u, .int .i64 v, .int .i64 (cm x)] W fun e w' => e = .returned (ir (itC m.cells.length u v (cm x)) (itV m.cells.length u v (cm x))) ∧ Below W.heap.size W w') := fun W hr => ritem_any B p m u v _ W hr hl hu0 hu1 hv0 hv1
  have HC : Hid (∀ x W, Calls Try.prog 75 #[.int .i64 x] W fun e w' => e = .returned (.int .i64 (cm x)) ∧ w' = W) := fun x W => implComplement x W
  obtain ⟨C, hC⟩ : ∃ C, C = itC m.cells.length u v (cm x) := ⟨_, rfl⟩
  obtain ⟨V, hV⟩ : ∃ V, V = itV m.cells.length u v (cm x) := ⟨_, rfl⟩
  rw [← hC, ← hV] at HCL ⊢
  have hX : Hid (∀ W, W = (w.alloc (.cells #[.int .i64 4, .slice (some ⟨b, off, none⟩) 4 c, .int .i64 nx] 130)).alloc (.cells #[.int .i64 0, .int .i64 0] 61) → _) := fun W e => rtold_keep B p 4 (some ⟨b, off, none⟩) c m 4 nx w W h e
  have HY : Hid (∀ W, Below w.heap.size w W → W.cell? ⟨b, off + 1, none⟩ = some (.int .i64 ((i1 : Nat) : Int)) ∧ W.cell? ⟨b, off + 2, none⟩ = some (.int .i64 u) ∧ W.cell? ⟨b, off + 3, none⟩ = some (.int .i64 v)) := fun W hb => ⟨(hb.cell (p := ⟨b, off + 1, none⟩) (by show b < w.heap.size; omega)).trans y1, (hb.cell (p := ⟨b, off + 2, none⟩) (by show b < w.heap.size; omega)).trans y2, (hb.cell (p := ⟨b, off + 3, none⟩) (by show b < w.heap.size; omega)).trans y3⟩
  have ri1 : ((i1 : Nat) : Int) < 24 := by omega
  have rz1 : (0 : Int) ≤ ((i1 : Nat) : Int) := by omega
  clear h y1 y2 y3 hx hC hV
  go_enter Try.func110, Try.ntmps110
  go_upto_region 4 with fail
  have hXX := hX.out _ rfl
  generalize (w.alloc (.cells #[.int .i64 4, .slice (some ⟨b, off, none⟩) 4 c, .int .i64 nx] 130)).alloc (.cells #[.int .i64 0, .int .i64 0] 61) = W at *
  obtain ⟨x3, x4, -, -, x5⟩ := hXX
  have HB : Hid (Below w.heap.size w W) := x3
  have HK0 : Hid (Keep (w.heap.size + 1) W W) := x4
  have HX : Hid _ := x5
  have HK : Hid (∀ Z, Keep (w.heap.size + 1) W Z → Z.cell? ⟨b, off + 1, none⟩ = some (.int .i64 ((i1 : Nat) : Int)) ∧ Z.cell? ⟨b, off + 2, none⟩ = some (.int .i64 u) ∧ Z.cell? ⟨b, off + 3, none⟩ = some (.int .i64 v) ∧ Z.cell? ⟨p, 6 + i1, none⟩ = some (.int .i64 x) ∧ Keep (w.heap.size + 1) W Z) := fun Z hz => ⟨(HY.out Z (x5 Z hz).1).1, (HY.out Z (x5 Z hz).1).2.1, (HY.out Z (x5 Z hz).1).2.2, HRC.out Z (x5 Z hz).2, hz⟩
  clear x3 x4 x5 hX HY HRC
  go_region_held3 (fun Z => Z.cell? ⟨b, off + 1, none⟩ = some (.int .i64 ((i1 : Nat) : Int)) ∧ Z.cell? ⟨b, off + 2, none⟩ = some (.int .i64 u) ∧ Z.cell? ⟨b, off + 3, none⟩ = some (.int .i64 v) ∧ Z.cell? ⟨p, 6 + i1, none⟩ = some (.int .i64 x) ∧ Keep (w.heap.size + 1) W Z) ((refine HK.out _ ?_; repeat' first | assumption | exact HK0.out | refine Keep.drew ?_ | refine Keep.set0 ?_ _ | refine Keep.set1 ?_ _))
    (first | (go_at_call 75; refine (HC.out _ _).mono ?_; rintro e w3 ⟨rfl, rfl⟩) | (go_at_call 129; refine (HCL.out _ (HX.out _ (last5 (by assumption))).2).mono ?_; rintro e w4 ⟨rfl, hb⟩; have hk4 : Keep (w.heap.size + 1) W w4 := Keep.below (last5 (by assumption)) hb; obtain ⟨r, y, r0, r1, f0, f1⟩ := hk4.cells) | fail)
  all_goals
    have hE := (HB.out.trans ((hk4.1.setCell (p := ⟨w.heap.size + 1, 0, none⟩) (Nat.le_refl _) (.int .i64 C)).setCell (p := ⟨w.heap.size + 1, 1, none⟩) (Nat.le_refl _) (.int .i64 V) |>.mono (Nat.le_succ _)))
    have HE : Hid _ := hE
    clear hE hk4 HK HX HK0 HCL HC HB
    go_wp2_with fail
    refine bodyPost_ret (v := ir C V) (by simp [results, Try.results110, go_sem, r0, r1]) rfl ⟨rfl, ?_⟩
    first | exact HE.out | exact HE.out.drew

set_option maxHeartbeats 3200000 in
set_option maxRecDepth 100000 in
theorem rtold_5 (B p b off c i1 : Nat) (m : SM) (u v nx : Int) (w : World) (h : RunJ Ks B w p m) (hbB : b < B) (hl : m.cells.length ≤ 80) (y1 : w.cell? ⟨b, off, none⟩ = some (.int .i64 ((i1 : Nat) : Int))) (y2 : w.cell? ⟨b, off + 2, none⟩ = some (.int .i64 u)) (y3 : w.cell? ⟨b, off + 3, none⟩ = some (.int .i64 v)) (r1 : i1 < 24) (hu0 : 0 ≤ u) (hu1 : u ≤ 65535) (hv0 : 0 ≤ v) (hv1 : v ≤ 65535) :
    Calls Try.prog 110 #[.pointer (some ⟨p, 0, none⟩), oneV 5 (.slice (some ⟨b, off, none⟩) 4 c) nx] w fun e w' => e = .returned (ir (itC m.cells.length u v (cm (m.stk.getD i1 0))) (itV m.cells.length u v (cm (m.stk.getD i1 0)))) ∧ Below w.heap.size w w' := by
  have hBp := h.lt
  obtain ⟨x, hx⟩ : ∃ x, x = m.stk.getD i1 0 := ⟨_, rfl⟩
  rw [← hx]
  have HRC : Hid (∀ Z, RunJ Ks B Z p m → Z.cell? ⟨p, 6 + i1, none⟩ = some (.int .i64 x)) := fun Z hz => by
    obtain ⟨cv, hr, -⟩ := hz
    rw [hx]
    exact hr.reg r1
  have HCL : Hid (∀ W, RunJ Ks B W p m → Calls Try.prog 129 #[.pointer (some ⟨p, 0, none⟩), .int .i64 u, .int .i64 v, .int .i64 (cm x)] W fun e w' => e = .returned (ir (itC m.cells.length u v (cm x)) (itV m.cells.length u v (cm x))) ∧ Below W.heap.size W w') := fun W hr => ritem_any B p m u v _ W hr hl hu0 hu1 hv0 hv1
  have HC : Hid (∀ x W, Calls Try.prog 75 #[.int .i64 x] W fun e w' => e = .returned (.int .i64 (cm x)) ∧ w' = W) := fun x W => implComplement x W
  obtain ⟨C, hC⟩ : ∃ C, C = itC m.cells.length u v (cm x) := ⟨_, rfl⟩
  obtain ⟨V, hV⟩ : ∃ V, V = itV m.cells.length u v (cm x) := ⟨_, rfl⟩
  rw [← hC, ← hV] at HCL ⊢
  have hX : Hid (∀ W, W = (w.alloc (.cells #[.int .i64 5, .slice (some ⟨b, off, none⟩) 4 c, .int .i64 nx] 130)).alloc (.cells #[.int .i64 0, .int .i64 0] 61) → _) := fun W e => rtold_keep B p 4 (some ⟨b, off, none⟩) c m 5 nx w W h e
  have HY : Hid (∀ W, Below w.heap.size w W → W.cell? ⟨b, off, none⟩ = some (.int .i64 ((i1 : Nat) : Int)) ∧ W.cell? ⟨b, off + 2, none⟩ = some (.int .i64 u) ∧ W.cell? ⟨b, off + 3, none⟩ = some (.int .i64 v)) := fun W hb => ⟨(hb.cell (p := ⟨b, off, none⟩) (by show b < w.heap.size; omega)).trans y1, (hb.cell (p := ⟨b, off + 2, none⟩) (by show b < w.heap.size; omega)).trans y2, (hb.cell (p := ⟨b, off + 3, none⟩) (by show b < w.heap.size; omega)).trans y3⟩
  have ri1 : ((i1 : Nat) : Int) < 24 := by omega
  have rz1 : (0 : Int) ≤ ((i1 : Nat) : Int) := by omega
  clear h y1 y2 y3 hx hC hV
  go_enter Try.func110, Try.ntmps110
  go_upto_region 6 with fail
  have hXX := hX.out _ rfl
  generalize (w.alloc (.cells #[.int .i64 5, .slice (some ⟨b, off, none⟩) 4 c, .int .i64 nx] 130)).alloc (.cells #[.int .i64 0, .int .i64 0] 61) = W at *
  obtain ⟨x3, x4, -, -, x5⟩ := hXX
  have HB : Hid (Below w.heap.size w W) := x3
  have HK0 : Hid (Keep (w.heap.size + 1) W W) := x4
  have HX : Hid _ := x5
  have HK : Hid (∀ Z, Keep (w.heap.size + 1) W Z → Z.cell? ⟨b, off, none⟩ = some (.int .i64 ((i1 : Nat) : Int)) ∧ Z.cell? ⟨b, off + 2, none⟩ = some (.int .i64 u) ∧ Z.cell? ⟨b, off + 3, none⟩ = some (.int .i64 v) ∧ Z.cell? ⟨p, 6 + i1, none⟩ = some (.int .i64 x) ∧ Keep (w.heap.size + 1) W Z) := fun Z hz => ⟨(HY.out Z (x5 Z hz).1).1, (HY.out Z (x5 Z hz).1).2.1, (HY.out Z (x5 Z hz).1).2.2, HRC.out Z (x5 Z hz).2, hz⟩
  clear x3 x4 x5 hX HY HRC
  go_region_held3 (fun Z => Z.cell? ⟨b, off, none⟩ = some (.int .i64 ((i1 : Nat) : Int)) ∧ Z.cell? ⟨b, off + 2, none⟩ = some (.int .i64 u) ∧ Z.cell? ⟨b, off + 3, none⟩ = some (.int .i64 v) ∧ Z.cell? ⟨p, 6 + i1, none⟩ = some (.int .i64 x) ∧ Keep (w.heap.size + 1) W Z) ((refine HK.out _ ?_; repeat' first | assumption | exact HK0.out | refine Keep.drew ?_ | refine Keep.set0 ?_ _ | refine Keep.set1 ?_ _))
    (first | (go_at_call 75; refine (HC.out _ _).mono ?_; rintro e w3 ⟨rfl, rfl⟩) | (go_at_call 129; refine (HCL.out _ (HX.out _ (last5 (by assumption))).2).mono ?_; rintro e w4 ⟨rfl, hb⟩; have hk4 : Keep (w.heap.size + 1) W w4 := Keep.below (last5 (by assumption)) hb; obtain ⟨r, y, r0, r1, f0, f1⟩ := hk4.cells) | fail)
  all_goals
    have hE := (HB.out.trans ((hk4.1.setCell (p := ⟨w.heap.size + 1, 0, none⟩) (Nat.le_refl _) (.int .i64 C)).setCell (p := ⟨w.heap.size + 1, 1, none⟩) (Nat.le_refl _) (.int .i64 V) |>.mono (Nat.le_succ _)))
    have HE : Hid _ := hE
    clear hE hk4 HK HX HK0 HCL HC HB
    go_wp2_with fail
    refine bodyPost_ret (v := ir C V) (by simp [results, Try.results110, go_sem, r0, r1]) rfl ⟨rfl, ?_⟩
    first | exact HE.out | exact HE.out.drew
end Go.Proofs.Ytcikofhbfncgdaa
namespace Go.Proofs.Ytcikofhbfncgdaa
open Go.RowKit
set_option linter.unusedVariables false
variable {Ks : Kept}
attribute [local go_sem ↓] Go.wp_at_zero Go.wp_at_succ

set_option maxHeartbeats 3200000 in
set_option maxRecDepth 100000 in
theorem rtold_6 (B p b off c i1 i2 : Nat) (m : SM) (u nx : Int) (w : World) (h : RunJ Ks B w p m) (hbB : b < B) (y1 : w.cell? ⟨b, off + 1, none⟩ = some (.int .i64 ((i1 : Nat) : Int))) (y2 : w.cell? ⟨b, off + 2, none⟩ = some (.int .i64 ((i2 : Nat) : Int))) (y3 : w.cell? ⟨b, off + 3, none⟩ = some (.int .i64 u)) (r1 : i1 < 24) (r2 : i2 < 24) :
    Calls Try.prog 110 #[.pointer (some ⟨p, 0, none⟩), oneV 6 (.slice (some ⟨b, off, none⟩) 4 c) nx] w fun e w' => e = .returned (ir (twoI u (m.stk.getD i2 0)) (invV u (m.stk.getD i1 0) (m.stk.getD i2 0))) ∧ Below w.heap.size w w' := by
  have hBp := h.lt
  obtain ⟨x, hx⟩ : ∃ x, x = m.stk.getD i1 0 := ⟨_, rfl⟩
  obtain ⟨z, hz⟩ : ∃ z, z = m.stk.getD i2 0 := ⟨_, rfl⟩
  rw [← hx, ← hz]
  have HRC : Hid (∀ Z, RunJ Ks B Z p m → Z.cell? ⟨p, 6 + i1, none⟩ = some (.int .i64 x) ∧ Z.cell? ⟨p, 6 + i2, none⟩ = some (.int .i64 z)) := fun Z hZ => by
    obtain ⟨cv, hr, -⟩ := hZ
    rw [hx, hz]
    exact ⟨hr.reg r1, hr.reg r2⟩
  have HBI : Hid (∀ W, Calls Try.prog 131 #[.int .i64 u, .int .i64 x, .int .i64 z] W fun e w' => e = .returned (ir (invC u z) (invV u x z)) ∧ Below W.heap.size W w') := fun W => implInv_any u x z W
  have HTR : Hid (∀ W, Calls Try.prog 130 #[ir (invC u z) (invV u x z)] W fun e w' => e = .returned (ir (twoI u z) (invV u x z)) ∧ Below W.heap.size W w') := fun W => trap_any _ _ W (fun h => by unfold invV; rw [if_neg (by omega)])
  obtain ⟨D, hD⟩ : ∃ D, D = invC u z := ⟨_, rfl⟩
  obtain ⟨C, hC⟩ : ∃ C, C = twoI u z := ⟨_, rfl⟩
  obtain ⟨V, hV⟩ : ∃ V, V = invV u x z := ⟨_, rfl⟩
  rw [← hD, ← hV] at HBI HTR
  rw [← hC] at HTR
  rw [← hC, ← hV]
  have hX : Hid (∀ W, W = (w.alloc (.cells #[.int .i64 6, .slice (some ⟨b, off, none⟩) 4 c, .int .i64 nx] 130)).alloc (.cells #[.int .i64 0, .int .i64 0] 61) → _) := fun W e => rtold_keep B p 4 (some ⟨b, off, none⟩) c m 6 nx w W h e
  have HY : Hid (∀ W, Below w.heap.size w W → W.cell? ⟨b, off + 1, none⟩ = some (.int .i64 ((i1 : Nat) : Int)) ∧ W.cell? ⟨b, off + 2, none⟩ = some (.int .i64 ((i2 : Nat) : Int)) ∧ W.cell? ⟨b, off + 3, none⟩ = some (.int .i64 u)) := fun W hb => ⟨(hb.cell (p := ⟨b, off + 1, none⟩) (by show b < w.heap.size; omega)).trans y1, (hb.cell (p := ⟨b, off + 2, none⟩) (by show b < w.heap.size; omega)).trans y2, (hb.cell (p := ⟨b, off + 3, none⟩) (by show b < w.heap.size; omega)).trans y3⟩
  have ri1 : ((i1 : Nat) : Int) < 24 := by omega
  have rz1 : (0 : Int) ≤ ((i1 : Nat) : Int) := by omega
  have ri2 : ((i2 : Nat) : Int) < 24 := by omega
  have rz2 : (0 : Int) ≤ ((i2 : Nat) : Int) := by omega
  clear h y1 y2 y3 hx hz hC hV hD
  go_enter Try.func110, Try.ntmps110
  go_upto_region 8 with fail
  have hXX := hX.out _ rfl
  generalize (w.alloc (.cells #[.int .i64 6, .slice (some ⟨b, off, none⟩) 4 c, .int .i64 nx] 130)).alloc (.cells #[.int .i64 0, .int .i64 0] 61) = W at *
  obtain ⟨x3, x4, -, -, x5⟩ := hXX
  have HB : Hid (Below w.heap.size w W) := x3
  have HK0 : Hid (Keep (w.heap.size + 1) W W) := x4
  have HX : Hid _ := x5
  have HK : Hid (∀ Z, Keep (w.heap.size + 1) W Z → Z.cell? ⟨b, off + 1, none⟩ = some (.int .i64 ((i1 : Nat) : Int)) ∧ Z.cell? ⟨b, off + 2, none⟩ = some (.int .i64 ((i2 : Nat) : Int)) ∧ Z.cell? ⟨b, off + 3, none⟩ = some (.int .i64 u) ∧ Z.cell? ⟨p, 6 + i1, none⟩ = some (.int .i64 x) ∧ Z.cell? ⟨p, 6 + i2, none⟩ = some (.int .i64 z) ∧ Keep (w.heap.size + 1) W Z) := fun Z hz => ⟨(HY.out Z (x5 Z hz).1).1, (HY.out Z (x5 Z hz).1).2.1, (HY.out Z (x5 Z hz).1).2.2, (HRC.out Z (x5 Z hz).2).1, (HRC.out Z (x5 Z hz).2).2, hz⟩
  clear x3 x4 x5 hX HY HRC
  go_region_held3 (fun Z => Z.cell? ⟨b, off + 1, none⟩ = some (.int .i64 ((i1 : Nat) : Int)) ∧ Z.cell? ⟨b, off + 2, none⟩ = some (.int .i64 ((i2 : Nat) : Int)) ∧ Z.cell? ⟨b, off + 3, none⟩ = some (.int .i64 u) ∧ Z.cell? ⟨p, 6 + i1, none⟩ = some (.int .i64 x) ∧ Z.cell? ⟨p, 6 + i2, none⟩ = some (.int .i64 z) ∧ Keep (w.heap.size + 1) W Z) ((refine HK.out _ ?_; repeat' first | assumption | exact HK0.out | refine Keep.drew ?_ | refine Keep.set0 ?_ _ | refine Keep.set1 ?_ _))
    (first | (go_at_call 131; refine (HBI.out _).mono ?_; rintro e w3 ⟨rfl, hb⟩; have hk3 : Keep (w.heap.size + 1) W w3 := Keep.below (last6 (by assumption)) hb) | (go_at_call 130; refine (HTR.out _).mono ?_; rintro e w4 ⟨rfl, hb⟩; have hk4 : Keep (w.heap.size + 1) W w4 := Keep.below (last6 (by assumption)) hb; obtain ⟨r, y, r0, r1, f0, f1⟩ := hk4.cells) | fail)
  all_goals
    have hE := (HB.out.trans ((hk4.1.setCell (p := ⟨w.heap.size + 1, 0, none⟩) (Nat.le_refl _) (.int .i64 C)).setCell (p := ⟨w.heap.size + 1, 1, none⟩) (Nat.le_refl _) (.int .i64 V) |>.mono (Nat.le_succ _)))
    have HE : Hid _ := hE
    clear hE hk4 HK HX HK0 HBI HTR HB
    go_wp2_with fail
    refine bodyPost_ret (v := ir C V) (by simp [results, Try.results110, go_sem, r0, r1]) rfl ⟨rfl, ?_⟩
    first | exact HE.out | exact HE.out.drew

set_option maxHeartbeats 1600000 in
set_option maxRecDepth 100000 in
theorem rtold_no (p : Nat) (op nx : Int) (n c : Nat) (a : Option Addr) (w : World) (hop : op < 4 ∨ 6 < op) :
    Calls Try.prog 110 #[.pointer (some ⟨p, 0, none⟩), oneV op (.slice a n c) nx] w fun e w' => e = .returned (ir 0 0) ∧ Below w.heap.size w w' := by
  have hT : (op == 4) = false ∧ (op == 5) = false ∧ (op == 6) = false := by
    refine ⟨?_, ?_, ?_⟩ <;> (rw [beq_eq_false_iff_ne]; omega)
  clear hop
  obtain ⟨e4, e5, e6⟩ := hT
  go_enter Try.func110, Try.ntmps110
  go_wp2_with fail
  refine bodyPost_ret (v := ir 0 0) (by simp [results, Try.results110, go_sem]) rfl ⟨rfl, ?_⟩
  go_grown
end Go.Proofs.Ytcikofhbfncgdaa
namespace Go.Proofs.Ytcikofhbfncgdaa
open Go.RowKit
set_option linter.unusedVariables false
variable {Ks : Kept}
attribute [local go_sem ↓] Go.wp_at_zero Go.wp_at_succ

set_option maxHeartbeats 3200000 in
set_option maxRecDepth 100000 in
theorem ido_1 (B p b off c i0 t : Nat) (m : SM) (u nx : Int) (w : World) (h : RunJ Ks B w p m) (hbB : b < B) (y0 : w.cell? ⟨b, off, none⟩ = some (.int .i64 ((i0 : Nat) : Int))) (y1 : w.cell? ⟨b, off + 1, none⟩ = some (.int .i64 u)) (r0 : i0 < 24) :
    Calls Try.prog 111 #[.pointer (some ⟨p, 0, none⟩), oneV 1 (.slice (some ⟨b, off, none⟩) 2 c) nx, .int .i64 t] w fun e w' => e = .returned (.tuple #[]) ∧ RunJ Ks B w' p ({ m with stk := m.stk.set i0 u }) ∧ Below B w w' := by
  have hX : Hid (∀ W, W = w.alloc (.cells #[.int .i64 1, .slice (some ⟨b, off, none⟩) 2 c, .int .i64 nx] 130) → _) := fun W e => ido_pre B p 2 (some ⟨b, off, none⟩) c m 1 nx w W h e
  have hBp := h.lt
  have Y0 := hid (wordAt0 hbB y0)
  have Y1 := hid (wordAt hbB y1)
  clear h y0 y1
  go_enter Try.func111, Try.ntmps111
  go_upto_region 4 with fail
  have hXX := hX.out _ rfl
  generalize w.alloc (.cells #[.int .i64 1, .slice (some ⟨b, off, none⟩) 2 c, .int .i64 nx] 130) = W at *
  obtain ⟨z0, z1, x3, x4, x5⟩ := hXX
  have HB : Hid (Below B w W) := x4
  have HR : Hid (RunJ Ks B W p m) := x3
  have y0 := Y0.out W x4
  have y1 := Y1.out W x4
  have ri0 : ((i0 : Nat) : Int) < 24 := by omega
  have rz0 : (0 : Int) ≤ ((i0 : Nat) : Int) := by omega
  obtain ⟨cv, hrow, -⟩ := id HR.out
  have rc0 := hrow.reg r0
  have rf0 := hrow.froz (6 + i0)
  clear hrow
  have HP := hid HR.out.lt.1
  clear hX x3 x4 x5 z0 z1 hBp Y0 Y1
  go_region
  all_goals
    go_wp2_with fail
    go_end0
    first | exact ⟨rfl, (HR.out.reg i0 u).heap rfl, (HB.out.setCell HP.out _).drew⟩ | exact ⟨rfl, HR.out.reg i0 u, HB.out.setCell HP.out _⟩


set_option maxHeartbeats 3200000 in
set_option maxRecDepth 100000 in
theorem ido_2 (B p b off c i0 k t : Nat) (m : SM) (nx : Int) (w : World) (h : RunJ Ks B w p m) (hbB : b < B) (y0 : w.cell? ⟨b, off, none⟩ = some (.int .i64 ((i0 : Nat) : Int))) (y1 : w.cell? ⟨b, off + 1, none⟩ = some (.int .i64 ((k : Nat) : Int))) (r0 : i0 < 24) (hk : k < m.cells.length) (hl : m.cells.length ≤ 80) :
    Calls Try.prog 111 #[.pointer (some ⟨p, 0, none⟩), oneV 2 (.slice (some ⟨b, off, none⟩) 2 c) nx, .int .i64 t] w fun e w' => e = .returned (.tuple #[]) ∧ RunJ Ks B w' p ({ m with stk := m.stk.set i0 (m.cells.getD k 0) }) ∧ Below B w w' := by
  have hX : Hid (∀ W, W = w.alloc (.cells #[.int .i64 2, .slice (some ⟨b, off, none⟩) 2 c, .int .i64 nx] 130) → _) := fun W e => ido_pre B p 2 (some ⟨b, off, none⟩) c m 2 nx w W h e
  have hBp := h.lt
  have Y0 := hid (wordAt0 hbB y0)
  have Y1 := hid (wordAt hbB y1)
  obtain ⟨x, hx⟩ : ∃ x, x = m.cells.getD k 0 := ⟨_, rfl⟩
  rw [← hx]
  clear h y0 y1
  go_enter Try.func111, Try.ntmps111
  go_upto_region 6 with fail
  have hXX := hX.out _ rfl
  generalize w.alloc (.cells #[.int .i64 2, .slice (some ⟨b, off, none⟩) 2 c, .int .i64 nx] 130) = W at *
  obtain ⟨z0, z1, x3, x4, x5⟩ := hXX
  have HB : Hid (Below B w W) := x4
  have HR : Hid (RunJ Ks B W p m) := x3
  have y0 := Y0.out W x4
  have y1 := Y1.out W x4
  have ri0 : ((i0 : Nat) : Int) < 24 := by omega
  have rz0 : (0 : Int) ≤ ((i0 : Nat) : Int) := by omega
  obtain ⟨cv, hrow, -⟩ := id HR.out
  have rc0 := hrow.reg r0
  have rf0 := hrow.froz (6 + i0)
  clear hrow
  have HLD : Hid (∀ Z, RunJ Ks B Z p m → Calls Try.prog 132 #[.pointer (some ⟨p, 0, none⟩), .int .i64 k] Z fun e w' => e = .returned (.int .i64 (m.cells.getD k 0)) ∧ w' = Z) := fun Z hr => rload_any B p m k Z hr hk hl
  rw [← hx] at HLD
  clear hk hl hx
  have HP := hid HR.out.lt.1
  clear hX x3 x4 x5 z0 z1 hBp Y0 Y1
  go_region_with (first | (go_at_call 132; refine (HLD.out _ (HR.out.heap (by rfl))).mono ?_; rintro e w3 ⟨rfl, rfl⟩) | fail)
  all_goals
    go_wp2_with fail
    go_end0
    first | exact ⟨rfl, (HR.out.reg i0 x).heap rfl, (HB.out.setCell HP.out _).drew⟩ | exact ⟨rfl, HR.out.reg i0 x, HB.out.setCell HP.out _⟩

end Go.Proofs.Ytcikofhbfncgdaa
