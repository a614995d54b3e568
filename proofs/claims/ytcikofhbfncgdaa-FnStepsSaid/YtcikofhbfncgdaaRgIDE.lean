/-
  impl's do of the register run: ops 8.
-/
import Derived.Test.YtcikofhbfncgdaaRgHas
import Derived.BigQuiet
namespace Go.Proofs.Ytcikofhbfncgdaa
open Go.RowKit
set_option linter.unusedVariables false
variable {Ks : Kept}
attribute [local go_sem ↓] Go.wp_at_zero Go.wp_at_succ

set_option maxHeartbeats 3200000 in
set_option maxRecDepth 100000 in
theorem ido_3 (B p b off c i1 k t : Nat) (m : SM) (nx : Int) (w : World) (h : RunJ Ks B w p m) (hbB : b < B) (y0 : w.cell? ⟨b, off, none⟩ = some (.int .i64 ((k : Nat) : Int))) (y1 : w.cell? ⟨b, off + 1, none⟩ = some (.int .i64 ((i1 : Nat) : Int))) (r1 : i1 < 24) (hk : k < m.cells.length) (hl : m.cells.length ≤ 80) :
    Calls Try.prog 111 #[.pointer (some ⟨p, 0, none⟩), oneV 3 (.slice (some ⟨b, off, none⟩) 2 c) nx, .int .i64 t] w fun e w' => e = .returned (.tuple #[]) ∧ RunJ Ks B w' p (sto m k (m.stk.getD i1 0)) ∧ Below B w w' := by
  have hX : Hid (∀ W, W = w.alloc (.cells #[.int .i64 3, .slice (some ⟨b, off, none⟩) 2 c, .int .i64 nx] 130) → _) := fun W e => ido_pre B p 2 (some ⟨b, off, none⟩) c m 3 nx w W h e
  have hBp := h.lt
  have Y0 := hid (wordAt0 hbB y0)
  have Y1 := hid (wordAt hbB y1)
  obtain ⟨x, hx⟩ : ∃ x, x = m.stk.getD i1 0 := ⟨_, rfl⟩
  rw [← hx]
  clear h y0 y1
  go_enter Try.func111, Try.ntmps111
  go_upto_region 8 with fail
  have hXX := hX.out _ rfl
  generalize w.alloc (.cells #[.int .i64 3, .slice (some ⟨b, off, none⟩) 2 c, .int .i64 nx] 130) = W at *
  obtain ⟨z0, z1, x3, x4, x5⟩ := hXX
  have HB : Hid (Below B w W) := x4
  have HR : Hid (RunJ Ks B W p m) := x3
  have y0 := Y0.out W x4
  have y1 := Y1.out W x4
  obtain ⟨cv, hrow, -⟩ := id HR.out
  have ri1 : ((i1 : Nat) : Int) < 24 := by omega
  have rz1 : (0 : Int) ≤ ((i1 : Nat) : Int) := by omega
  have rc1 := hrow.reg r1
  clear hrow
  have HST : Hid (∀ Z x, RunJ Ks B Z p m → Calls Try.prog 133 #[.pointer (some ⟨p, 0, none⟩), .int .i64 k, .int .i64 x] Z fun e w' => e = .returned (.tuple #[]) ∧ RunJ Ks B w' p (sto m k x) ∧ Below B Z w') := fun Z x hr => rstore_any B p m k x Z hr hk hl
  rw [← hx] at rc1
  clear hk hl hx
  have HP := hid HR.out.lt.1
  clear hX x3 x4 x5 z0 z1 hBp Y0 Y1
  go_region_with (first | (go_at_call 133; refine (HST.out _ _ (HR.out.heap (by rfl))).mono ?_; rintro e w3 ⟨rfl, hr3, hb3⟩) | fail)
  all_goals
    go_wp2_with fail
    go_end0
    first | exact ⟨rfl, hr3, HB.out.drew.trans hb3⟩ | exact ⟨rfl, hr3, HB.out.trans hb3⟩ | exact ⟨rfl, hr3.heap rfl, (HB.out.drew.trans hb3).drew⟩ | exact ⟨rfl, hr3.heap rfl, (HB.out.trans hb3).drew⟩


set_option maxHeartbeats 3200000 in
set_option maxRecDepth 100000 in
theorem ido_4 (B p b off c i0 t : Nat) (m : SM) (nx : Int) (w : World) (h : RunJ Ks B w p m) (hbB : b < B) (y0 : w.cell? ⟨b, off, none⟩ = some (.int .i64 ((i0 : Nat) : Int))) (r0 : i0 < 24) (hk : t < m.cells.length) (hl : m.cells.length ≤ 80) :
    Calls Try.prog 111 #[.pointer (some ⟨p, 0, none⟩), oneV 4 (.slice (some ⟨b, off, none⟩) 4 c) nx, .int .i64 t] w fun e w' => e = .returned (.tuple #[]) ∧ RunJ Ks B w' p ({ m with stk := m.stk.set i0 (m.cells.getD t 0) }) ∧ Below B w w' := by
  have hX : Hid (∀ W, W = w.alloc (.cells #[.int .i64 4, .slice (some ⟨b, off, none⟩) 4 c, .int .i64 nx] 130) → _) := fun W e => ido_pre B p 4 (some ⟨b, off, none⟩) c m 4 nx w W h e
  have hBp := h.lt
  have Y0 := hid (wordAt0 hbB y0)
  obtain ⟨x, hx⟩ : ∃ x, x = m.cells.getD t 0 := ⟨_, rfl⟩
  rw [← hx]
  clear h y0
  go_enter Try.func111, Try.ntmps111
  go_upto_region 10 with fail
  have hXX := hX.out _ rfl
  generalize w.alloc (.cells #[.int .i64 4, .slice (some ⟨b, off, none⟩) 4 c, .int .i64 nx] 130) = W at *
  obtain ⟨z0, z1, x3, x4, x5⟩ := hXX
  have HB : Hid (Below B w W) := x4
  have HR : Hid (RunJ Ks B W p m) := x3
  have y0 := Y0.out W x4
  have ri0 : ((i0 : Nat) : Int) < 24 := by omega
  have rz0 : (0 : Int) ≤ ((i0 : Nat) : Int) := by omega
  obtain ⟨cv, hrow, -⟩ := id HR.out
  have rc0 := hrow.reg r0
  have rf0 := hrow.froz (6 + i0)
  clear hrow
  have HLD : Hid (∀ Z, RunJ Ks B Z p m → Calls Try.prog 132 #[.pointer (some ⟨p, 0, none⟩), .int .i64 t] Z fun e w' => e = .returned (.int .i64 (m.cells.getD t 0)) ∧ w' = Z) := fun Z hr => rload_any B p m t Z hr hk hl
  rw [← hx] at HLD
  clear hk hl hx
  have HP := hid HR.out.lt.1
  clear hX x3 x4 x5 z0 z1 hBp Y0
  go_region_with (first | (go_at_call 132; refine (HLD.out _ (HR.out.heap (by rfl))).mono ?_; rintro e w3 ⟨rfl, rfl⟩) | fail)
  all_goals
    go_wp2_with fail
    go_end0
    first | exact ⟨rfl, (HR.out.reg i0 x).heap rfl, (HB.out.setCell HP.out _).drew⟩ | exact ⟨rfl, HR.out.reg i0 x, HB.out.setCell HP.out _⟩

end Go.Proofs.Ytcikofhbfncgdaa
namespace Go.Proofs.Ytcikofhbfncgdaa
open Go.RowKit
set_option linter.unusedVariables false
variable {Ks : Kept}
attribute [local go_sem ↓] Go.wp_at_zero Go.wp_at_succ

set_option maxHeartbeats 3200000 in
set_option maxRecDepth 100000 in
theorem ido_5 (B p b off c i1 t : Nat) (m : SM) (nx : Int) (w : World) (h : RunJ Ks B w p m) (hbB : b < B) (y1 : w.cell? ⟨b, off + 1, none⟩ = some (.int .i64 ((i1 : Nat) : Int))) (r1 : i1 < 24) (hk : t < m.cells.length) (hl : m.cells.length ≤ 80) :
    Calls Try.prog 111 #[.pointer (some ⟨p, 0, none⟩), oneV 5 (.slice (some ⟨b, off, none⟩) 4 c) nx, .int .i64 t] w fun e w' => e = .returned (.tuple #[]) ∧ RunJ Ks B w' p (sto m t (m.stk.getD i1 0)) ∧ Below B w w' := by
  have hX : Hid (∀ W, W = w.alloc (.cells #[.int .i64 5, .slice (some ⟨b, off, none⟩) 4 c, .int .i64 nx] 130) → _) := fun W e => ido_pre B p 4 (some ⟨b, off, none⟩) c m 5 nx w W h e
  have hBp := h.lt
  have Y1 := hid (wordAt hbB y1)
  obtain ⟨x, hx⟩ : ∃ x, x = m.stk.getD i1 0 := ⟨_, rfl⟩
  rw [← hx]
  clear h y1
  go_enter Try.func111, Try.ntmps111
  go_upto_region 12 with fail
  have hXX := hX.out _ rfl
  generalize w.alloc (.cells #[.int .i64 5, .slice (some ⟨b, off, none⟩) 4 c, .int .i64 nx] 130) = W at *
  obtain ⟨z0, z1, x3, x4, x5⟩ := hXX
  have HB : Hid (Below B w W) := x4
  have HR : Hid (RunJ Ks B W p m) := x3
  have y1 := Y1.out W x4
  obtain ⟨cv, hrow, -⟩ := id HR.out
  have ri1 : ((i1 : Nat) : Int) < 24 := by omega
  have rz1 : (0 : Int) ≤ ((i1 : Nat) : Int) := by omega
  have rc1 := hrow.reg r1
  clear hrow
  have HST : Hid (∀ Z x, RunJ Ks B Z p m → Calls Try.prog 133 #[.pointer (some ⟨p, 0, none⟩), .int .i64 t, .int .i64 x] Z fun e w' => e = .returned (.tuple #[]) ∧ RunJ Ks B w' p (sto m t x) ∧ Below B Z w') := fun Z x hr => rstore_any B p m t x Z hr hk hl
  rw [← hx] at rc1
  clear hk hl hx
  have HP := hid HR.out.lt.1
  clear hX x3 x4 x5 z0 z1 hBp Y1
  go_region_with (first | (go_at_call 133; refine (HST.out _ _ (HR.out.heap (by rfl))).mono ?_; rintro e w3 ⟨rfl, hr3, hb3⟩) | fail)
  all_goals
    go_wp2_with fail
    go_end0
    first | exact ⟨rfl, hr3, HB.out.drew.trans hb3⟩ | exact ⟨rfl, hr3, HB.out.trans hb3⟩ | exact ⟨rfl, hr3.heap rfl, (HB.out.drew.trans hb3).drew⟩ | exact ⟨rfl, hr3.heap rfl, (HB.out.trans hb3).drew⟩


set_option maxHeartbeats 3200000 in
set_option maxRecDepth 100000 in
theorem ido_6 (B p b off c i0 t : Nat) (m : SM) (nx : Int) (w : World) (h : RunJ Ks B w p m) (hbB : b < B) (y0 : w.cell? ⟨b, off, none⟩ = some (.int .i64 ((i0 : Nat) : Int))) (r0 : i0 < 24) :
    Calls Try.prog 111 #[.pointer (some ⟨p, 0, none⟩), oneV 6 (.slice (some ⟨b, off, none⟩) 4 c) nx, .int .i64 t] w fun e w' => e = .returned (.tuple #[]) ∧ RunJ Ks B w' p ({ m with stk := m.stk.set i0 t }) ∧ Below B w w' := by
  have hX : Hid (∀ W, W = w.alloc (.cells #[.int .i64 6, .slice (some ⟨b, off, none⟩) 4 c, .int .i64 nx] 130) → _) := fun W e => ido_pre B p 4 (some ⟨b, off, none⟩) c m 6 nx w W h e
  have hBp := h.lt
  have Y0 := hid (wordAt0 hbB y0)
  clear h y0
  go_enter Try.func111, Try.ntmps111
  go_upto_region 14 with fail
  have hXX := hX.out _ rfl
  generalize w.alloc (.cells #[.int .i64 6, .slice (some ⟨b, off, none⟩) 4 c, .int .i64 nx] 130) = W at *
  obtain ⟨z0, z1, x3, x4, x5⟩ := hXX
  have HB : Hid (Below B w W) := x4
  have HR : Hid (RunJ Ks B W p m) := x3
  have y0 := Y0.out W x4
  have ri0 : ((i0 : Nat) : Int) < 24 := by omega
  have rz0 : (0 : Int) ≤ ((i0 : Nat) : Int) := by omega
  obtain ⟨cv, hrow, -⟩ := id HR.out
  have rc0 := hrow.reg r0
  have rf0 := hrow.froz (6 + i0)
  clear hrow
  have HP := hid HR.out.lt.1
  clear hX x3 x4 x5 z0 z1 hBp Y0
  go_region
  all_goals
    go_wp2_with fail
    go_end0
    first | exact ⟨rfl, (HR.out.reg i0 t).heap rfl, (HB.out.setCell HP.out _).drew⟩ | exact ⟨rfl, HR.out.reg i0 t, HB.out.setCell HP.out _⟩

end Go.Proofs.Ytcikofhbfncgdaa
namespace Go.Proofs.Ytcikofhbfncgdaa
open Go.RowKit
set_option linter.unusedVariables false
variable {Ks : Kept}
attribute [local go_sem ↓] Go.wp_at_zero Go.wp_at_succ

set_option maxHeartbeats 3200000 in
set_option maxRecDepth 100000 in
theorem ido_7 (B p b off c i0 i1 t : Nat) (m : SM) (nx : Int) (w : World) (h : RunJ Ks B w p m) (hbB : b < B) (y0 : w.cell? ⟨b, off, none⟩ = some (.int .i64 ((i0 : Nat) : Int))) (y1 : w.cell? ⟨b, off + 1, none⟩ = some (.int .i64 ((i1 : Nat) : Int))) (r0 : i0 < 24) (r1 : i1 < 24) :
    Calls Try.prog 111 #[.pointer (some ⟨p, 0, none⟩), oneV 7 (.slice (some ⟨b, off, none⟩) 2 c) nx, .int .i64 t] w fun e w' => e = .returned (.tuple #[]) ∧ RunJ Ks B w' p ({ m with stk := m.stk.set i0 (cm (wd (-(cm (m.stk.getD i1 0))))) }) ∧ Below B w w' := by
  have hX : Hid (∀ W, W = w.alloc (.cells #[.int .i64 7, .slice (some ⟨b, off, none⟩) 2 c, .int .i64 nx] 130) → _) := fun W e => ido_pre B p 2 (some ⟨b, off, none⟩) c m 7 nx w W h e
  have hBp := h.lt
  have Y0 := hid (wordAt0 hbB y0)
  have Y1 := hid (wordAt hbB y1)
  obtain ⟨x, hx⟩ : ∃ x, x = m.stk.getD i1 0 := ⟨_, rfl⟩
  rw [← hx]
  obtain ⟨y, hy⟩ : ∃ y, y = cm (wd (-(cm x))) := ⟨_, rfl⟩
  rw [← hy]
  clear h y0 y1
  go_enter Try.func111, Try.ntmps111
  go_upto_region 16 with fail
  have hXX := hX.out _ rfl
  generalize w.alloc (.cells #[.int .i64 7, .slice (some ⟨b, off, none⟩) 2 c, .int .i64 nx] 130) = W at *
  obtain ⟨z0, z1, x3, x4, x5⟩ := hXX
  have HB : Hid (Below B w W) := x4
  have HR : Hid (RunJ Ks B W p m) := x3
  have y0 := Y0.out W x4
  have y1 := Y1.out W x4
  have ri0 : ((i0 : Nat) : Int) < 24 := by omega
  have rz0 : (0 : Int) ≤ ((i0 : Nat) : Int) := by omega
  obtain ⟨cv, hrow, -⟩ := id HR.out
  have rc0 := hrow.reg r0
  have rf0 := hrow.froz (6 + i0)
  have ri1 : ((i1 : Nat) : Int) < 24 := by omega
  have rz1 : (0 : Int) ≤ ((i1 : Nat) : Int) := by omega
  have rc1 := hrow.reg r1
  clear hrow
  generalize m.stk.getD i0 0 = ux at *
  rw [← hx] at rc1
  have HT : Hid (∀ Z, Calls Try.prog 134 #[.func (.func 135) #[] #[], .int .i64 x] Z fun e w' => e = .returned (.int .i64 (cm (wd (-(cm x))))) ∧ w' = Z) := fun Z => turned_neg x Z
  rw [← hy] at HT
  clear hx hy
  have HP := hid HR.out.lt.1
  clear hX x3 x4 x5 z0 z1 hBp Y0 Y1
  go_region_with (first | (go_at_call 134; refine (HT.out _).mono ?_; rintro e w3 ⟨rfl, rfl⟩) | fail)
  all_goals
    go_wp2_with fail
    go_end0
    first | exact ⟨rfl, (HR.out.reg i0 y).heap rfl, (HB.out.setCell HP.out _).drew⟩ | exact ⟨rfl, HR.out.reg i0 y, HB.out.setCell HP.out _⟩

end Go.Proofs.Ytcikofhbfncgdaa
namespace Go.Proofs.Ytcikofhbfncgdaa
open Go.RowKit
set_option linter.unusedVariables false
variable {Ks : Kept}
attribute [local go_sem ↓] Go.wp_at_zero Go.wp_at_succ

set_option maxHeartbeats 3200000 in
set_option maxRecDepth 100000 in
theorem ido_8 (B p b off c i0 i1 t : Nat) (m : SM) (nx : Int) (w : World) (h : RunJ Ks B w p m) (hbB : b < B) (y0 : w.cell? ⟨b, off, none⟩ = some (.int .i64 ((i0 : Nat) : Int))) (y1 : w.cell? ⟨b, off + 1, none⟩ = some (.int .i64 ((i1 : Nat) : Int))) (r0 : i0 < 24) (r1 : i1 < 24) :
    Calls Try.prog 111 #[.pointer (some ⟨p, 0, none⟩), oneV 8 (.slice (some ⟨b, off, none⟩) 2 c) nx, .int .i64 t] w fun e w' => e = .returned (.tuple #[]) ∧ RunJ Ks B w' p ({ m with stk := m.stk.set i0 (cm (nt (cm (m.stk.getD i1 0)))) }) ∧ Below B w w' := by
  have hX : Hid (∀ W, W = w.alloc (.cells #[.int .i64 8, .slice (some ⟨b, off, none⟩) 2 c, .int .i64 nx] 130) → _) := fun W e => ido_pre B p 2 (some ⟨b, off, none⟩) c m 8 nx w W h e
  have hBp := h.lt
  have Y0 := hid (wordAt0 hbB y0)
  have Y1 := hid (wordAt hbB y1)
  obtain ⟨x, hx⟩ : ∃ x, x = m.stk.getD i1 0 := ⟨_, rfl⟩
  rw [← hx]
  obtain ⟨y, hy⟩ : ∃ y, y = cm (nt (cm x)) := ⟨_, rfl⟩
  rw [← hy]
  clear h y0 y1
  go_enter Try.func111, Try.ntmps111
  go_upto_region 18 with fail
  have hXX := hX.out _ rfl
  generalize w.alloc (.cells #[.int .i64 8, .slice (some ⟨b, off, none⟩) 2 c, .int .i64 nx] 130) = W at *
  obtain ⟨z0, z1, x3, x4, x5⟩ := hXX
  have HB : Hid (Below B w W) := x4
  have HR : Hid (RunJ Ks B W p m) := x3
  have y0 := Y0.out W x4
  have y1 := Y1.out W x4
  have ri0 : ((i0 : Nat) : Int) < 24 := by omega
  have rz0 : (0 : Int) ≤ ((i0 : Nat) : Int) := by omega
  obtain ⟨cv, hrow, -⟩ := id HR.out
  have rc0 := hrow.reg r0
  have rf0 := hrow.froz (6 + i0)
  have ri1 : ((i1 : Nat) : Int) < 24 := by omega
  have rz1 : (0 : Int) ≤ ((i1 : Nat) : Int) := by omega
  have rc1 := hrow.reg r1
  clear hrow
  generalize m.stk.getD i0 0 = ux at *
  rw [← hx] at rc1
  have HT : Hid (∀ Z, Calls Try.prog 134 #[.func (.func 136) #[] #[], .int .i64 x] Z fun e w' => e = .returned (.int .i64 (cm (nt (cm x)))) ∧ w' = Z) := fun Z => turned_not x Z
  rw [← hy] at HT
  clear hx hy
  have HP := hid HR.out.lt.1
  clear hX x3 x4 x5 z0 z1 hBp Y0 Y1
  go_region_with (first | (go_at_call 134; refine (HT.out _).mono ?_; rintro e w3 ⟨rfl, rfl⟩) | fail)
  all_goals
    go_wp2_with fail
    go_end0
    first | exact ⟨rfl, (HR.out.reg i0 y).heap rfl, (HB.out.setCell HP.out _).drew⟩ | exact ⟨rfl, HR.out.reg i0 y, HB.out.setCell HP.out _⟩

end Go.Proofs.Ytcikofhbfncgdaa
