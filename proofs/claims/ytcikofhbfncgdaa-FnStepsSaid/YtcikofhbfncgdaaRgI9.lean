/-
  impl's step of the register run: the instruction, what is told, what is done: by contracts alone.
-/
import Derived.Test.YtcikofhbfncgdaaRgHas
import Derived.BigQuiet
import Derived.Test.YtcikofhbfncgdaaRgMem
import Derived.Test.YtcikofhbfncgdaaRgIDA
import Derived.Test.YtcikofhbfncgdaaRgIDE
namespace Go.Proofs.Ytcikofhbfncgdaa
open Go.RowKit
set_option linter.unusedVariables false
variable {Ks : Kept}
attribute [local go_sem ↓] Go.wp_at_zero Go.wp_at_succ

set_option maxHeartbeats 3200000 in
set_option maxRecDepth 100000 in
theorem ido_9 (B p b off c i0 t : Nat) (m : SM) (nx : Int) (w : World) (h : RunJ Ks B w p m) (hbB : b < B) (y0 : w.cell? ⟨b, off, none⟩ = some (.int .i64 ((i0 : Nat) : Int))) (r0 : i0 < 24) :
    Calls Try.prog 111 #[.pointer (some ⟨p, 0, none⟩), oneV 9 (.slice (some ⟨b, off, none⟩) 1 c) nx, .int .i64 t] w fun e w' => e = .returned (.tuple #[]) ∧ RunJ Ks B w' p ({ m with stk := m.stk.set i0 (cm (b01 (decide (m.stk.getD i0 0 ≠ 65535)))) }) ∧ Below B w w' := by
  have hX : Hid (∀ W, W = w.alloc (.cells #[.int .i64 9, .slice (some ⟨b, off, none⟩) 1 c, .int .i64 nx] 130) → _) := fun W e => ido_pre B p 1 (some ⟨b, off, none⟩) c m 9 nx w W h e
  have hBp := h.lt
  have Y0 := hid (wordAt0 hbB y0)
  obtain ⟨x, hx⟩ : ∃ x, x = m.stk.getD i0 0 := ⟨_, rfl⟩
  rw [← hx]
  obtain ⟨q, hq⟩ : ∃ q, q = decide (x ≠ 65535) := ⟨_, rfl⟩
  rw [← hq]
  clear h y0
  go_enter Try.func111, Try.ntmps111
  go_upto_region 20 with fail
  have hXX := hX.out _ rfl
  generalize w.alloc (.cells #[.int .i64 9, .slice (some ⟨b, off, none⟩) 1 c, .int .i64 nx] 130) = W at *
  obtain ⟨z0, z1, x3, x4, x5⟩ := hXX
  have HB : Hid (Below B w W) := x4
  have HR : Hid (RunJ Ks B W p m) := x3
  have y0 := Y0.out W x4
  have ri0 : ((i0 : Nat) : Int) < 24 := by omega
  have rz0 : (0 : Int) ≤ ((i0 : Nat) : Int) := by omega
  obtain ⟨cv, hrow, -⟩ := id HR.out
  have rc0 := hrow.reg r0
  have rf0 := hrow.froz (6 + i0)
  clear hrow
  rw [← hx] at rc0
  have hne : (x != 65535) = decide (x ≠ 65535) := by
    by_cases h : x = 65535
    · simp [h]
    · simp [h]
  have HT : Hid (∀ Z, Calls Try.prog 137 #[.bool (decide (x ≠ 65535))] Z fun e w' => e = .returned (.int .i64 (b01 (decide (x ≠ 65535)))) ∧ w' = Z) := fun Z => itruth_any _ Z
  have HC : Hid (∀ y Z, Calls Try.prog 75 #[.int .i64 y] Z fun e w' => e = .returned (.int .i64 (cm y)) ∧ w' = Z) := fun y Z => implComplement y Z
  rw [← hq] at HT hne
  clear hx hq
  have HP := hid HR.out.lt.1
  clear hX x3 x4 x5 z0 z1 hBp Y0
  go_region_with (first | (go_at_call 137; refine (HT.out _).mono ?_; rintro e w3 ⟨rfl, rfl⟩) | (go_at_call 75; refine (HC.out _ _).mono ?_; rintro e w3 ⟨rfl, rfl⟩) | fail)
  all_goals
    go_wp2_with fail
    go_end0
    first | exact ⟨rfl, (HR.out.reg i0 (cm (b01 q))).heap rfl, (HB.out.setCell HP.out _).drew⟩ | exact ⟨rfl, HR.out.reg i0 (cm (b01 q)), HB.out.setCell HP.out _⟩

end Go.Proofs.Ytcikofhbfncgdaa
namespace Go.Proofs.Ytcikofhbfncgdaa
open Go.RowKit
set_option linter.unusedVariables false
variable {Ks : Kept}
attribute [local go_sem ↓] Go.wp_at_zero Go.wp_at_succ

set_option maxHeartbeats 3200000 in
set_option maxRecDepth 100000 in
theorem ido_10 (B p b off c t : Nat) (m : SM) (u nx : Int) (w : World) (h : RunJ Ks B w p m) (hbB : b < B) (y0 : w.cell? ⟨b, off, none⟩ = some (.int .i64 u))  :
    Calls Try.prog 111 #[.pointer (some ⟨p, 0, none⟩), oneV 10 (.slice (some ⟨b, off, none⟩) 1 c) nx, .int .i64 t] w fun e w' => e = .returned (.tuple #[]) ∧ RunJ Ks B w' p ({ m with pc := u }) ∧ Below B w w' := by
  have hX : Hid (∀ W, W = w.alloc (.cells #[.int .i64 10, .slice (some ⟨b, off, none⟩) 1 c, .int .i64 nx] 130) → _) := fun W e => ido_pre B p 1 (some ⟨b, off, none⟩) c m 10 nx w W h e
  have hBp := h.lt
  have Y0 := hid (wordAt0 hbB y0)
  clear h y0
  go_enter Try.func111, Try.ntmps111
  go_upto_region 22 with fail
  have hXX := hX.out _ rfl
  generalize w.alloc (.cells #[.int .i64 10, .slice (some ⟨b, off, none⟩) 1 c, .int .i64 nx] 130) = W at *
  obtain ⟨z0, z1, x3, x4, x5⟩ := hXX
  have HB : Hid (Below B w W) := x4
  have HR : Hid (RunJ Ks B W p m) := x3
  have y0 := Y0.out W x4
  obtain ⟨cv, hrow, -⟩ := id HR.out
  have pc1 := hrow.cells.2.1
  have pf1 := hrow.froz 1
  clear hrow
  have HP := hid HR.out.lt.1
  clear hX x3 x4 x5 z0 z1 hBp Y0
  go_wp2_with fail
  go_end0
  exact ⟨rfl, HR.out.pc u, HB.out.setCell HP.out _⟩


set_option maxHeartbeats 3200000 in
set_option maxRecDepth 100000 in
theorem ido_11 (B p b off c i0 t : Nat) (m : SM) (u nx : Int) (w : World) (h : RunJ Ks B w p m) (hbB : b < B) (y0 : w.cell? ⟨b, off, none⟩ = some (.int .i64 ((i0 : Nat) : Int))) (y1 : w.cell? ⟨b, off + 1, none⟩ = some (.int .i64 u)) (r0 : i0 < 24) :
    Calls Try.prog 111 #[.pointer (some ⟨p, 0, none⟩), oneV 11 (.slice (some ⟨b, off, none⟩) 2 c) nx, .int .i64 t] w fun e w' => e = .returned (.tuple #[]) ∧ RunJ Ks B w' p ({ m with pc := if m.stk.getD i0 0 = 65535 then u else m.pc }) ∧ Below B w w' := by
  have hX : Hid (∀ W, W = w.alloc (.cells #[.int .i64 11, .slice (some ⟨b, off, none⟩) 2 c, .int .i64 nx] 130) → _) := fun W e => ido_pre B p 2 (some ⟨b, off, none⟩) c m 11 nx w W h e
  have hBp := h.lt
  have Y0 := hid (wordAt0 hbB y0)
  have Y1 := hid (wordAt hbB y1)
  obtain ⟨x, hx⟩ : ∃ x, x = m.stk.getD i0 0 := ⟨_, rfl⟩
  rw [← hx]
  obtain ⟨v, hv⟩ : ∃ v, v = if x = 65535 then u else m.pc := ⟨_, rfl⟩
  rw [← hv]
  clear h y0 y1
  go_enter Try.func111, Try.ntmps111
  go_upto_region 24 with fail
  have hXX := hX.out _ rfl
  generalize w.alloc (.cells #[.int .i64 11, .slice (some ⟨b, off, none⟩) 2 c, .int .i64 nx] 130) = W at *
  obtain ⟨z0, z1, x3, x4, x5⟩ := hXX
  have HB : Hid (Below B w W) := x4
  have HR : Hid (RunJ Ks B W p m) := x3
  have y0 := Y0.out W x4
  have y1 := Y1.out W x4
  have ri0 : ((i0 : Nat) : Int) < 24 := by omega
  have rz0 : (0 : Int) ≤ ((i0 : Nat) : Int) := by omega
  obtain ⟨cv, hrow, -⟩ := id HR.out
  have rc0 := hrow.reg r0
  have rf0 := hrow.froz (6 + i0)
  have pc1 := hrow.cells.2.1
  have pf1 := hrow.froz 1
  clear hrow
  rw [← hx] at rc0
  clear hx
  have HP := hid HR.out.lt.1
  clear hX x3 x4 x5 z0 z1 hBp Y0 Y1
  by_cases hx : x = 65535
  · rw [if_pos hx] at hv
    rw [hx] at rc0
    subst hv
    go_region
    go_wp2_with fail
    go_end0
    first | exact ⟨rfl, (HR.out.heap (w' := W.drew) rfl).pc v, HB.out.drew.setCell HP.out _⟩ | exact ⟨rfl, HR.out.pc v, HB.out.setCell HP.out _⟩
  · have ex : (x == 65535) = false := by simpa using hx
    rw [if_neg hx] at hv
    subst hv
    clear hx
    go_region
    go_wp2_with fail
    go_end0
    first | exact ⟨rfl, HR.out, HB.out⟩ | exact ⟨rfl, HR.out.heap rfl, HB.out.drew⟩

end Go.Proofs.Ytcikofhbfncgdaa
namespace Go.Proofs.Ytcikofhbfncgdaa
open Go.RowKit
set_option linter.unusedVariables false
variable {Ks : Kept}
attribute [local go_sem ↓] Go.wp_at_zero Go.wp_at_succ

set_option maxHeartbeats 3200000 in
set_option maxRecDepth 100000 in
theorem ido_12 (B p b off c t : Nat) (m : SM) (u nx : Int) (w : World) (h : RunJ Ks B w p m) (hbB : b < B) (y0 : w.cell? ⟨b, off, none⟩ = some (.int .i64 u))  :
    Calls Try.prog 111 #[.pointer (some ⟨p, 0, none⟩), oneV 12 (.slice (some ⟨b, off, none⟩) 1 c) nx, .int .i64 t] w fun e w' => e = .returned (.tuple #[]) ∧ RunJ Ks B w' p ({ m with sig := sgn m.sig u }) ∧ Below B w w' := by
  have hX : Hid (∀ W, W = w.alloc (.cells #[.int .i64 12, .slice (some ⟨b, off, none⟩) 1 c, .int .i64 nx] 130) → _) := fun W e => ido_pre B p 1 (some ⟨b, off, none⟩) c m 12 nx w W h e
  have hBp := h.lt
  have Y0 := hid (wordAt0 hbB y0)
  obtain ⟨y, hy⟩ : ∃ y, y = sgn m.sig u := ⟨_, rfl⟩
  rw [← hy]
  clear h y0
  go_enter Try.func111, Try.ntmps111
  go_upto_region 27 with fail
  have hXX := hX.out _ rfl
  generalize w.alloc (.cells #[.int .i64 12, .slice (some ⟨b, off, none⟩) 1 c, .int .i64 nx] 130) = W at *
  obtain ⟨z0, z1, x3, x4, x5⟩ := hXX
  have HB : Hid (Below B w W) := x4
  have HR : Hid (RunJ Ks B W p m) := x3
  have y0 := Y0.out W x4
  obtain ⟨cv, hrow, -⟩ := id HR.out
  have pc2 := hrow.cells.2.2.1
  have pf2 := hrow.froz 2
  clear hrow
  have HSG : Hid (∀ Z, Calls Try.prog 138 #[.int .i64 m.sig, .int .i64 u] Z fun e w' => e = .returned (.int .i64 (sgn m.sig u)) ∧ w' = Z) := fun Z => implSignOf m.sig u Z
  rw [← hy] at HSG
  clear hy
  have HP := hid HR.out.lt.1
  clear hX x3 x4 x5 z0 z1 hBp Y0
  go_region_with (first | (go_at_call 138; refine (HSG.out _).mono ?_; rintro e w3 ⟨rfl, rfl⟩) | fail)
  all_goals
    go_wp2_with fail
    go_end0
    first | exact ⟨rfl, (HR.out.sig y).heap rfl, (HB.out.setCell HP.out _).drew⟩ | exact ⟨rfl, HR.out.sig y, HB.out.setCell HP.out _⟩


set_option maxHeartbeats 3200000 in
set_option maxRecDepth 100000 in
theorem ido_13 (B p c t : Nat) (a : Option Addr) (m : SM) (nx : Int) (w : World) (h : RunJ Ks B w p m)   :
    Calls Try.prog 111 #[.pointer (some ⟨p, 0, none⟩), oneV 13 (.slice a 0 c) nx, .int .i64 t] w fun e w' => e = .returned (.tuple #[]) ∧ RunJ Ks B w' p ({ m with done := true }) ∧ Below B w w' := by
  have hX : Hid (∀ W, W = w.alloc (.cells #[.int .i64 13, .slice a 0 c, .int .i64 nx] 130) → _) := fun W e => ido_pre B p 0 a c m 13 nx w W h e
  have hBp := h.lt
  clear h 
  go_enter Try.func111, Try.ntmps111
  go_upto_region 29 with fail
  have hXX := hX.out _ rfl
  generalize w.alloc (.cells #[.int .i64 13, .slice a 0 c, .int .i64 nx] 130) = W at *
  obtain ⟨z0, z1, x3, x4, x5⟩ := hXX
  have HB : Hid (Below B w W) := x4
  have HR : Hid (RunJ Ks B W p m) := x3
  obtain ⟨cv, hrow, -⟩ := id HR.out
  have pc5 := hrow.cells.2.2.2.2.2
  have pf5 := hrow.froz 5
  clear hrow
  have HP := hid HR.out.lt.1
  clear hX x3 x4 x5 z0 z1 hBp 
  go_wp2_with fail
  go_end0
  exact ⟨rfl, HR.out.done true, HB.out.setCell HP.out _⟩

end Go.Proofs.Ytcikofhbfncgdaa
namespace Go.Proofs.Ytcikofhbfncgdaa
open Go.RowKit
set_option linter.unusedVariables false
variable {Ks : Kept}

theorem instrR_n (a : Option Addr) (zs : List Int) (c k : Nat) (w : World) (hn : Nums w a zs) (hl : zs.length ≤ 400) (hk : k ≤ 65535) (hr : readyR zs k = false) :
    Calls Try.prog 108 #[.slice a zs.length c, .int .i64 k, argsRF] w fun e w' => e = .returned (.tuple #[oneZR, .bool false]) ∧ Below w.heap.size w w' := by
  by_cases hlt : k < zs.length
  · rcases hn with hn | ⟨b, off, rfl, hcc⟩
    · rw [hn] at hlt; simp at hlt
    refine instrR_no2 b off zs.length c k (zs.getD k 0) w hlt hl (hcc k hlt) ?_
    unfold readyR at hr
    rw [decide_eq_true (by omega : (k : Int) < zs.length), Bool.true_and, Int.toNat_natCast] at hr
    cases hq : inB (zs.getD k 0) 1 13
    · exact .inl rfl
    · rw [hq, Bool.true_and] at hr
      exact .inr ⟨rfl, by have := of_decide_eq_false hr; omega⟩
  · exact instrR_no1 a zs.length c k w (by omega) hk hl
theorem instrR_r (B : Nat) (a : Option Addr) (zs : List Int) (c k : Nat) (w : World) (hn : Nums w a zs) (hB : ∀ b off, a = some ⟨b, off, none⟩ → b < B) (hl : zs.length ≤ 400) (hc : zs.length ≤ c) (hr : readyR zs k = true) (hBw : B ≤ w.heap.size) :
    Calls Try.prog 108 #[.slice a zs.length c, .int .i64 k, argsRF] w fun e w' => ∃ wv, e = .returned (.tuple #[oneV (zs.getD k 0) wv ((k : Int) + 1 + argR (zs.getD k 0)), .bool true]) ∧ WordsR B w' wv (zs.getD k 0) (fun i => zs.getD (k + 1 + i) 0) ∧ Below w.heap.size w w' := by
  have hq := readyR_of hr
  simp only [Int.toNat_natCast] at hq
  obtain ⟨h1, h2, h3, h4⟩ := hq
  have hA := argR_lo (zs.getD k 0)
  obtain ⟨A, hAn⟩ := Int.eq_ofNat_of_zero_le hA.1
  rcases hn with hn | ⟨b, off, rfl, hcc⟩
  · rw [hn] at h1; simp at h1; omega
  refine (instrR_yes b off zs.length c k A (zs.getD k 0) w (by omega) hl hc (hcc k (by omega)) (inB_iff.2 ⟨h2, h3⟩) hAn (by omega)).mono ?_
  rintro e w' ⟨a2, c2, rfl, ha2, hb⟩
  refine ⟨_, by rw [hAn], ⟨a2, c2, by rw [hAn]; rfl, fun h => ⟨b, off + (k + 1), ha2 (by omega), hB b off rfl, fun i hi => ?_⟩⟩, hb⟩
  have := (hb.cell (p := ⟨b, off + (k + 1 + i), none⟩) (by have := hB b off rfl; show b < _; omega)).trans (hcc (k + 1 + i) (by omega))
  rw [Nat.add_assoc off (k + 1) i]
  exact this

theorem nat_of {x : Int} (h : 0 ≤ x) : ∃ i : Nat, x = (i : Int) := ⟨x.toNat, by omega⟩
theorem rg_nat (m : SM) (i : Nat) : rg m (i : Int) = m.stk.getD i 0 := by unfold rg; rw [Int.toNat_natCast]
theorem str_nat (m : SM) (i : Nat) (x : Int) : str m (i : Int) x = { m with stk := m.stk.set i x } := by unfold str; rw [Int.toNat_natCast]
theorem stc_nat (m : SM) (i : Nat) (x : Int) : stc m (i : Int) x = sto m i x := by unfold stc; rw [Int.toNat_natCast]; rfl

theorem rtold_any (B p : Nat) (m : SM) (op nx : Int) (wv : Value) (f : Nat → Int) (w : World) (h : RunJ Ks B w p m) (hg : RGood m) (h1 : 1 ≤ op) (h13 : op ≤ 13) (hh : hasR op (f 0) (f 1) (f 2) m.cells.length = true) (hw : WordsR B w wv op f) (hf : ∀ i, 0 ≤ f i ∧ f i ≤ 65535) :
    Calls Try.prog 110 #[.pointer (some ⟨p, 0, none⟩), oneV op wv nx] w fun e w' => e = .returned (ir (toldRC op (f 0) (f 1) (f 2) (f 3) m) (toldRV op (f 0) (f 1) (f 2) (f 3) m)) ∧ Below w.heap.size w w' := by
  obtain ⟨a, c, rfl, hc⟩ := hw
  by_cases e4 : op = 4
  · subst e4
    obtain ⟨b, off, rfl, hb, hcc⟩ := hc (by decide)
    have y1 := hcc 1 (by decide)
    have y2 := hcc 2 (by decide)
    have y3 := hcc 3 (by decide)
    have hr : f 0 < 24 ∧ f 1 < 24 := by simpa [hasR] using hh
    obtain ⟨i, hi⟩ := nat_of (hf 1).1
    rw [hi] at y1
    have eC : toldRC 4 (f 0) (f 1) (f 2) (f 3) m = itC m.cells.length (f 2) (f 3) (cm (m.stk.getD i 0)) := by rw [hi]; unfold toldRC; rw [if_pos rfl, rg_nat]
    have eV : toldRV 4 (f 0) (f 1) (f 2) (f 3) m = itV m.cells.length (f 2) (f 3) (cm (m.stk.getD i 0)) := by rw [hi]; unfold toldRV; rw [if_pos rfl, rg_nat]
    rw [eC, eV]
    exact rtold_4 B p b off c i m (f 2) (f 3) nx w h hb hg.cl y1 y2 y3 (by omega) (hf 2).1 (hf 2).2 (hf 3).1 (hf 3).2
  by_cases e5 : op = 5
  · subst e5
    obtain ⟨b, off, rfl, hb, hcc⟩ := hc (by decide)
    have y1 := hcc 0 (by decide)
    have y2 := hcc 2 (by decide)
    have y3 := hcc 3 (by decide)
    have hr : f 0 < 24 ∧ f 1 < 24 := by simpa [hasR] using hh
    obtain ⟨i, hi⟩ := nat_of (hf 0).1
    rw [hi] at y1
    have eC : toldRC 5 (f 0) (f 1) (f 2) (f 3) m = itC m.cells.length (f 2) (f 3) (cm (m.stk.getD i 0)) := by rw [hi]; unfold toldRC; rw [if_neg (by decide), if_pos rfl, rg_nat]
    have eV : toldRV 5 (f 0) (f 1) (f 2) (f 3) m = itV m.cells.length (f 2) (f 3) (cm (m.stk.getD i 0)) := by rw [hi]; unfold toldRV; rw [if_neg (by decide), if_pos rfl, rg_nat]
    rw [eC, eV]
    exact rtold_5 B p b off c i m (f 2) (f 3) nx w h hb hg.cl y1 y2 y3 (by omega) (hf 2).1 (hf 2).2 (hf 3).1 (hf 3).2
  by_cases e6 : op = 6
  · subst e6
    obtain ⟨b, off, rfl, hb, hcc⟩ := hc (by decide)
    have y1 := hcc 1 (by decide)
    have y2 := hcc 2 (by decide)
    have y3 := hcc 3 (by decide)
    have hr : (f 0 < 24 ∧ f 1 < 24) ∧ f 2 < 24 := by simpa [hasR] using hh
    obtain ⟨i, hi⟩ := nat_of (hf 1).1
    obtain ⟨j, hj⟩ := nat_of (hf 2).1
    rw [hi] at y1
    rw [hj] at y2
    have eC : toldRC 6 (f 0) (f 1) (f 2) (f 3) m = twoI (f 3) (m.stk.getD j 0) := by rw [hi, hj]; unfold toldRC; rw [if_neg (by decide), if_neg (by decide), if_pos rfl, rg_nat]
    have eV : toldRV 6 (f 0) (f 1) (f 2) (f 3) m = invV (f 3) (m.stk.getD i 0) (m.stk.getD j 0) := by rw [hi, hj]; unfold toldRV; rw [if_neg (by decide), if_neg (by decide), if_pos rfl, rg_nat, rg_nat]
    rw [eC, eV]
    exact rtold_6 B p b off c i j m (f 3) nx w h hb y1 y2 y3 (by omega) (by omega)
  have eC : toldRC op (f 0) (f 1) (f 2) (f 3) m = 0 := by unfold toldRC; rw [if_neg e4, if_neg e5, if_neg e6]
  have eV : toldRV op (f 0) (f 1) (f 2) (f 3) m = 0 := by unfold toldRV; rw [if_neg e4, if_neg e5, if_neg e6]
  rw [eC, eV]
  exact rtold_no p op nx _ c a w (by omega)

theorem rdo_any (B p : Nat) (m : SM) (op nx : Int) (t : Nat) (wv : Value) (f : Nat → Int) (w : World) (h : RunJ Ks B w p m) (hg : RGood m) (h1 : 1 ≤ op) (h13 : op ≤ 13) (hh : hasR op (f 0) (f 1) (f 2) m.cells.length = true) (ht : op = 4 ∨ op = 5 → t < m.cells.length) (hw : WordsR B w wv op f) (hf : ∀ i, 0 ≤ f i ∧ f i ≤ 65535) :
    Calls Try.prog 111 #[.pointer (some ⟨p, 0, none⟩), oneV op wv nx, .int .i64 t] w fun e w' => e = .returned (.tuple #[]) ∧ RunJ Ks B w' p (doR op (f 0) (f 1) t m) ∧ Below B w w' := by
  obtain ⟨a, c, rfl, hc⟩ := hw
  obtain ⟨i, hi⟩ := nat_of (hf 0).1
  obtain ⟨j, hj⟩ := nat_of (hf 1).1
  rcases op13 h1 h13 with rfl | rfl | rfl | rfl | rfl | rfl | rfl | rfl | rfl | rfl | rfl | rfl | rfl
  · obtain ⟨b, off, rfl, hb, hcc⟩ := hc (by decide)
    have y0 := hcc 0 (by decide)
    have y1 := hcc 1 (by decide)
    have hr : f 0 < 24 := by simpa [hasR] using hh
    rw [hi] at y0
    have e : doR 1 (f 0) (f 1) t m = { m with stk := m.stk.set i (f 1) } := by rw [hi]; exact str_nat m i (f 1)
    rw [e]
    exact ido_1 B p b off c i t m (f 1) nx w h hb y0 y1 (by omega)
  · obtain ⟨b, off, rfl, hb, hcc⟩ := hc (by decide)
    have y0 := hcc 0 (by decide)
    have y1 := hcc 1 (by decide)
    have hr : f 0 < 24 ∧ f 1 < m.cells.length := by simpa [hasR] using hh
    rw [hi] at y0
    rw [hj] at y1
    have e : doR 2 (f 0) (f 1) t m = { m with stk := m.stk.set i (m.cells.getD j 0) } := by rw [hi, hj]; show str m (i : Int) (m.cells.getD ((j : Int)).toNat 0) = _; rw [str_nat, Int.toNat_natCast]
    rw [e]
    exact ido_2 B p b off c i j t m nx w h hb y0 y1 (by omega) (by omega) hg.cl
  · obtain ⟨b, off, rfl, hb, hcc⟩ := hc (by decide)
    have y0 := hcc 0 (by decide)
    have y1 := hcc 1 (by decide)
    have hr : f 1 < 24 ∧ f 0 < m.cells.length := by simpa [hasR] using hh
    rw [hi] at y0
    rw [hj] at y1
    have e : doR 3 (f 0) (f 1) t m = sto m i (m.stk.getD j 0) := by rw [hi, hj]; show stc m (i : Int) (rg m (j : Int)) = _; rw [stc_nat, rg_nat]
    rw [e]
    exact ido_3 B p b off c j i t m nx w h hb y0 y1 (by omega) (by omega) hg.cl
  · obtain ⟨b, off, rfl, hb, hcc⟩ := hc (by decide)
    have y0 := hcc 0 (by decide)
    have hr : f 0 < 24 ∧ f 1 < 24 := by simpa [hasR] using hh
    rw [hi] at y0
    have e : doR 4 (f 0) (f 1) t m = { m with stk := m.stk.set i (m.cells.getD t 0) } := by rw [hi]; show str m (i : Int) (m.cells.getD ((t : Int)).toNat 0) = _; rw [str_nat, Int.toNat_natCast]
    rw [e]
    exact ido_4 B p b off c i t m nx w h hb y0 (by omega) (ht (by omega)) hg.cl
  · obtain ⟨b, off, rfl, hb, hcc⟩ := hc (by decide)
    have y1 := hcc 1 (by decide)
    have hr : f 0 < 24 ∧ f 1 < 24 := by simpa [hasR] using hh
    rw [hj] at y1
    have e : doR 5 (f 0) (f 1) t m = sto m t (m.stk.getD j 0) := by rw [hj]; show stc m (t : Int) (rg m (j : Int)) = _; rw [stc_nat, rg_nat]
    rw [e]
    exact ido_5 B p b off c j t m nx w h hb y1 (by omega) (ht (by omega)) hg.cl
  · obtain ⟨b, off, rfl, hb, hcc⟩ := hc (by decide)
    have y0 := hcc 0 (by decide)
    have hr : (f 0 < 24 ∧ f 1 < 24) ∧ f 2 < 24 := by simpa [hasR] using hh
    rw [hi] at y0
    have e : doR 6 (f 0) (f 1) t m = { m with stk := m.stk.set i t } := by rw [hi]; exact str_nat m i t
    rw [e]
    exact ido_6 B p b off c i t m nx w h hb y0 (by omega)
  · obtain ⟨b, off, rfl, hb, hcc⟩ := hc (by decide)
    have y0 := hcc 0 (by decide)
    have y1 := hcc 1 (by decide)
    have hr : f 0 < 24 ∧ f 1 < 24 := by simpa [hasR] using hh
    rw [hi] at y0
    rw [hj] at y1
    have e : doR 7 (f 0) (f 1) t m = { m with stk := m.stk.set i (cm (wd (-(cm (m.stk.getD j 0))))) } := by rw [hi, hj]; show str m (i : Int) (cm (wd (-(cm (rg m (j : Int)))))) = _; rw [str_nat, rg_nat]
    rw [e]
    exact ido_7 B p b off c i j t m nx w h hb y0 y1 (by omega) (by omega)
  · obtain ⟨b, off, rfl, hb, hcc⟩ := hc (by decide)
    have y0 := hcc 0 (by decide)
    have y1 := hcc 1 (by decide)
    have hr : f 0 < 24 ∧ f 1 < 24 := by simpa [hasR] using hh
    rw [hi] at y0
    rw [hj] at y1
    have e : doR 8 (f 0) (f 1) t m = { m with stk := m.stk.set i (cm (nt (cm (m.stk.getD j 0)))) } := by rw [hi, hj]; show str m (i : Int) (cm (nt (cm (rg m (j : Int))))) = _; rw [str_nat, rg_nat]
    rw [e]
    exact ido_8 B p b off c i j t m nx w h hb y0 y1 (by omega) (by omega)
  · obtain ⟨b, off, rfl, hb, hcc⟩ := hc (by decide)
    have y0 := hcc 0 (by decide)
    have hr : f 0 < 24 := by simpa [hasR] using hh
    rw [hi] at y0
    have e : doR 9 (f 0) (f 1) t m = { m with stk := m.stk.set i (cm (b01 (decide (m.stk.getD i 0 ≠ 65535)))) } := by rw [hi]; show str m (i : Int) (cm (b01 (decide (rg m (i : Int) ≠ 65535)))) = _; rw [str_nat, rg_nat]
    rw [e]
    exact ido_9 B p b off c i t m nx w h hb y0 (by omega)
  · obtain ⟨b, off, rfl, hb, hcc⟩ := hc (by decide)
    exact ido_10 B p b off c t m (f 0) nx w h hb (hcc 0 (by decide))
  · obtain ⟨b, off, rfl, hb, hcc⟩ := hc (by decide)
    have y0 := hcc 0 (by decide)
    have y1 := hcc 1 (by decide)
    have hr : f 0 < 24 := by simpa [hasR] using hh
    rw [hi] at y0
    have e : doR 11 (f 0) (f 1) t m = { m with pc := if m.stk.getD i 0 = 65535 then f 1 else m.pc } := by rw [hi]; show ({ m with pc := if rg m (i : Int) = 65535 then f 1 else m.pc } : SM) = _; rw [rg_nat]
    rw [e]
    exact ido_11 B p b off c i t m (f 1) nx w h hb y0 y1 (by omega)
  · obtain ⟨b, off, rfl, hb, hcc⟩ := hc (by decide)
    exact ido_12 B p b off c t m (f 0) nx w h hb (hcc 0 (by decide))
  · exact ido_13 B p c t a m nx w h
end Go.Proofs.Ytcikofhbfncgdaa
