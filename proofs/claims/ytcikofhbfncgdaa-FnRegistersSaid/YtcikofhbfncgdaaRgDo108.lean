/-
  spec's l10Do: op 8.
-/
import Derived.Test.YtcikofhbfncgdaaRgDo102
namespace Go.Proofs.Ytcikofhbfncgdaa
open Go.RowKit
set_option linter.unusedVariables false
attribute [local go_sem ↓] Go.wp_at_zero Go.wp_at_succ

set_option maxHeartbeats 6400000 in
set_option maxRecDepth 100000 in
theorem rdo_8 (B p b off n c k L i0 i1 : Nat) (m : SM) (nx : Int) (w : World) (h : RunT B w p m) (hg : RGood m) (hk : m.pc = k) (hkn : k + 2 < n) (hn : n ≤ 400) (hnc : n ≤ c) (hbB : b < B) (hL : L = k + 1) (hnx : nx = (k : Int) + 1 + 2) (h0 : w.cell? ⟨b, off + k, none⟩ = some (.int .i64 8)) (h1 : w.cell? ⟨b, off + L, none⟩ = some (.int .i64 ((i0 : Nat) : Int))) (h2 : w.cell? ⟨b, off + L + 1, none⟩ = some (.int .i64 ((i1 : Nat) : Int))) (r0 : i0 < 24) (r1 : i1 < 24) :
    Calls Try.prog 123 #[.slice (some ⟨b, off, none⟩) n c, .pointer (some ⟨p, 0, none⟩)] w fun e w' => e = .returned (.int .i64 0) ∧ (0 = 0 → RunT B w' p (atP (str m i0 (cm (nt (cm (m.stk.getD i1 0))))) nx)) ∧ Below B w w' := by
  have HA : Hid (∀ W, Calls Try.prog 93 #[.int .i64 8] W fun e w' => e = .returned (.int .i64 2) ∧ w' = W) := fun W => l10Args_any 8 W
  obtain ⟨gr, cr, a2, c2, hb0, hm0, hgr, hgp⟩ := h.rows hg.rl
  obtain ⟨c0, -⟩ := RunT.cells hb0
  rw [hk] at c0
  have q0 : (0 : Int) ≤ (k : Int) := by omega
  have q1 : (k : Int) < (n : Int) := by omega
  have E1 : (k : Int) + 1 = (L : Int) := by omega
  have Z1 : IntKind.i64.wrap ((k : Int) + 1) = (L : Int) := by rw [IntWalk.i64_in _ ⟨by omega, by omega⟩]; omega
  have Z1b : IntKind.i64.wrap (L : Int) = (L : Int) := IntWalk.i64_in _ ⟨by omega, by omega⟩
  obtain ⟨H, hH⟩ : ∃ H : Nat, H = L + 2 := ⟨_, rfl⟩
  have Z3 : IntKind.i64.wrap ((L : Int) + 2) = (H : Int) := by rw [IntWalk.i64_in _ ⟨by omega, by omega⟩]; omega
  have p0 : (0 : Int) ≤ (L : Int) := by omega
  have p1 : (L : Int) ≤ (H : Int) := by omega
  have p2 : (H : Int) ≤ (c : Int) := by omega
  have p3 : (0 : Int) ≤ (H : Int) := by omega
  have p4 : ¬ (L = c) := by omega
  have p5 : ¬ (c = L) := by omega
  have p6 : (c == L) = false := by rw [beq_eq_false_iff_ne]; omega
  have p7 : (L == c) = false := by rw [beq_eq_false_iff_ne]; omega
  have HHL : Hid (H - L = 2) := by show _ = _; omega
  have hnx2 : nx = (H : Int) := by omega
  have HROW := hid hb0
  have HMEM := hid hm0
  have HPB := hid h.lt
  have HGR := hid hgr
  have HGP := hid hgp
  have HBB := hid hbB
  have HCL := hid hg.cl
  subst hnx2
  clear h hg hk hkn hn hnc hL hnx hb0 hm0 hgr hgp hbB hH
  go_enter Try.func123, Try.ntmps123
  go_upto_region 2 with fail
  go_region_held3 (fun Z => Z.cell? ⟨p, 0, none⟩ = some (.int .i64 (k : Int))) (go_keep) (first | (go_at_call 93; refine (HA.out _).mono ?_; rintro e w6 ⟨rfl, rfl⟩) | fail)
  rw [HHL.out]
  have c0 : w.drew.cell? ⟨p, 0, none⟩ = some (.int .i64 k) := c0
  go_upto_region 3 with fail
  go_region_held3 (fun Z => Z.cell? ⟨p, 0, none⟩ = some (.int .i64 (k : Int))) (go_keep) (first | (go_at_call 93; refine (HA.out _).mono ?_; rintro e w6 ⟨rfl, rfl⟩) | fail)
  have HROW2 : Hid (w.drew.drew.heap[p]? = some (.cells (lineS m (.slice (some ⟨gr, 0, none⟩) 24 cr) (.slice a2 m.cells.length c2)) 28 (0, 0))) := HROW.out
  have HMEM2 : Hid (MemO B w.drew.drew p (.slice (some ⟨gr, 0, none⟩) 24 cr) (.slice a2 m.cells.length c2) m) := HMEM.out.heap rfl
  have HB : Hid (Below B w w.drew.drew) := (Below.refl B w).drew.drew
  have y0 : w.drew.drew.cell? ⟨b, off + L, none⟩ = some (.int .i64 ((i0 : Nat) : Int)) := h1
  have y1 : w.drew.drew.cell? ⟨b, off + L + 1, none⟩ = some (.int .i64 ((i1 : Nat) : Int)) := h2
  have HBL : Hid (p < w.drew.drew.heap.size) := HPB.out.2
  clear HROW HMEM HA c0 h0 h1 h2 Z1 Z1b E1 Z3
  generalize w.drew.drew = W at *
  obtain ⟨-, d1, d2, d3, -, -, -⟩ := RunT.cells HROW2.out
  have ri0 : ((i0 : Nat) : Int) < 24 := by omega
  have rz0 : (0 : Int) ≤ ((i0 : Nat) : Int) := by omega
  obtain ⟨rc0, rf0⟩ := HMEM2.out.rcell r0
  have ri1 : ((i1 : Nat) : Int) < 24 := by omega
  have rz1 : (0 : Int) ≤ ((i1 : Nat) : Int) := by omega
  obtain ⟨rc1, rf1⟩ := HMEM2.out.rcell r1
  have HC1 : Hid (∀ x W', Calls Try.prog 124 #[.int .i64 x] W' fun e w' => e = .returned (.int .i64 (cm x)) ∧ w' = W') := fun x => specComplement x
  have HC2 : Hid (∀ x W', Calls Try.prog 149 #[.int .i64 x] W' fun e w' => e = .returned (.int .i64 (nt x)) ∧ w' = W') := fun x => specNotOf x
  generalize hx : m.stk.getD i1 0 = xr at *
  have HXR := hid hx
  clear hx
  generalize m.stk.getD i0 0 = ux at *
  go_upto_region 28 with fail
  have rcd : W.drew.cell? ⟨gr, i1, none⟩ = some (.int .i64 xr) := rc1
  have n1 : ¬ (gr = p) := HGP.out
  have n2 : ¬ (gr = b) := by have := HGR.out; have := HBB.out; omega
  refine wp_region_held_drew (S := fun Z => Z.cell? ⟨p, 1, none⟩ = some (.slice (some ⟨gr, 0, none⟩) 24 cr) ∧ Z.cell? ⟨b, off + L, none⟩ = some (.int .i64 ((i0 : Nat) : Int)) ∧ Z.cell? ⟨b, off + L + 1, none⟩ = some (.int .i64 ((i1 : Nat) : Int))) (by kernel_rfl) ⟨d1, y0, y1⟩ (fun hHeld => ?_)
  refine wpAnyH_take (i := 0) (oi := { dst := some 207, op := Op.move (Operand.tmp 1), type := 106, pos := "l10_regs.go:168", after := #[], guard := none }) (v := ?_) rfl (by kernel_rfl) (by kernel_rfl) (by kernel_rfl) (fun _ _ _ h => h) (Or.inl ⟨by rfl, ?_⟩) (by assumption) ?_
  rotate_left 1
  · intro w hSw
    (try dsimp only at hSw)
    first | (go_simp; done) | (go_simp; with_reducible rfl)
  try simp only [Act.put, List.setIfInBounds_toArray, List.set_cons_zero, List.set_cons_succ]
  refine wpAnyH_take (i := 1) (oi := { dst := some 208, op := Op.nilCheck (Operand.tmp 207), type := 0, pos := "l10_regs.go:168", after := #[{ on := 0, ground := Ground.data }], guard := none }) (v := ?_) rfl (by kernel_rfl) (by kernel_rfl) (by kernel_rfl) (fun _ _ _ h => h) (Or.inl ⟨by rfl, ?_⟩) (by assumption) ?_
  rotate_left 1
  · intro w hSw
    (try dsimp only at hSw)
    first | (go_simp; done) | (go_simp; with_reducible rfl)
  try simp only [Act.put, List.setIfInBounds_toArray, List.set_cons_zero, List.set_cons_succ]
  refine wpAnyH_take (i := 2) (oi := { dst := some 209, op := Op.fieldAddr 28 (Operand.tmp 208) 1, type := 0, pos := "l10_regs.go:168", after := #[{ on := 1, ground := Ground.data }], guard := none }) (v := ?_) rfl (by kernel_rfl) (by kernel_rfl) (by kernel_rfl) (fun _ _ _ h => h) (Or.inl ⟨by rfl, ?_⟩) (by assumption) ?_
  rotate_left 1
  · intro w hSw
    (try dsimp only at hSw)
    first | (go_simp; done) | (go_simp; with_reducible rfl)
  try simp only [Act.put, List.setIfInBounds_toArray, List.set_cons_zero, List.set_cons_succ]
  refine wpAnyH_take (i := 3) (oi := { dst := some 210, op := Op.load 24 (Operand.tmp 209), type := 24, pos := "l10_regs.go:168", after := #[{ on := 2, ground := Ground.data }], guard := none }) (v := ?_) rfl (by kernel_rfl) (by kernel_rfl) (by kernel_rfl) (fun _ _ _ h => h) (Or.inl ⟨by rfl, ?_⟩) (by assumption) ?_
  rotate_left 1
  · intro w hSw
    (try dsimp only at hSw)
    first | (go_simp; done) | (go_simp; with_reducible rfl)
  try simp only [Act.put, List.setIfInBounds_toArray, List.set_cons_zero, List.set_cons_succ]
  refine wpAnyH_take (i := 4) (oi := { dst := some 211, op := Op.move (Operand.tmp 6), type := 24, pos := "l10_regs.go:168", after := #[], guard := none }) (v := ?_) rfl (by kernel_rfl) (by kernel_rfl) (by kernel_rfl) (fun _ _ _ h => h) (Or.inl ⟨by rfl, ?_⟩) (by assumption) ?_
  rotate_left 1
  · intro w hSw
    (try dsimp only at hSw)
    first | (go_simp; done) | (go_simp; with_reducible rfl)
  try simp only [Act.put, List.setIfInBounds_toArray, List.set_cons_zero, List.set_cons_succ]
  refine wpAnyH_take (i := 5) (oi := { dst := some 212, op := Op.indexAddr 24 (Operand.tmp 211) (Operand.const (Value.int IntKind.i64 0)), type := 0, pos := "l10_regs.go:168", after := #[{ on := 4, ground := Ground.data }], guard := none }) (v := ?_) rfl (by kernel_rfl) (by kernel_rfl) (by kernel_rfl) (fun _ _ _ h => h) (Or.inl ⟨by rfl, ?_⟩) (by assumption) ?_
  rotate_left 1
  · intro w hSw
    (try dsimp only at hSw)
    first | (go_simp; done) | (go_simp; with_reducible rfl)
  try simp only [Act.put, List.setIfInBounds_toArray, List.set_cons_zero, List.set_cons_succ]
  refine wpAnyH_take (i := 6) (oi := { dst := some 213, op := Op.load 2 (Operand.tmp 212), type := 2, pos := "l10_regs.go:168", after := #[{ on := 5, ground := Ground.data }], guard := none }) (v := ?_) rfl (by kernel_rfl) (by kernel_rfl) (by kernel_rfl) (fun _ _ _ h => h) (Or.inl ⟨by rfl, ?_⟩) (by assumption) ?_
  rotate_left 1
  · intro w hSw
    (try dsimp only at hSw)
    first | (go_simp; done) | (go_simp; with_reducible rfl)
  try simp only [Act.put, List.setIfInBounds_toArray, List.set_cons_zero, List.set_cons_succ]
  refine wpAnyH_take (i := 7) (oi := { dst := some 214, op := Op.move (Operand.tmp 1), type := 106, pos := "l10_regs.go:168", after := #[], guard := none }) (v := ?_) rfl (by kernel_rfl) (by kernel_rfl) (by kernel_rfl) (fun _ _ _ h => h) (Or.inl ⟨by rfl, ?_⟩) (by assumption) ?_
  rotate_left 1
  · intro w hSw
    (try dsimp only at hSw)
    first | (go_simp; done) | (go_simp; with_reducible rfl)
  try simp only [Act.put, List.setIfInBounds_toArray, List.set_cons_zero, List.set_cons_succ]
  refine wpAnyH_take (i := 8) (oi := { dst := some 215, op := Op.nilCheck (Operand.tmp 214), type := 0, pos := "l10_regs.go:168", after := #[{ on := 7, ground := Ground.data }], guard := none }) (v := ?_) rfl (by kernel_rfl) (by kernel_rfl) (by kernel_rfl) (fun _ _ _ h => h) (Or.inl ⟨by rfl, ?_⟩) (by assumption) ?_
  rotate_left 1
  · intro w hSw
    (try dsimp only at hSw)
    first | (go_simp; done) | (go_simp; with_reducible rfl)
  try simp only [Act.put, List.setIfInBounds_toArray, List.set_cons_zero, List.set_cons_succ]
  refine wpAnyH_take (i := 9) (oi := { dst := some 216, op := Op.fieldAddr 28 (Operand.tmp 215) 1, type := 0, pos := "l10_regs.go:168", after := #[{ on := 8, ground := Ground.data }], guard := none }) (v := ?_) rfl (by kernel_rfl) (by kernel_rfl) (by kernel_rfl) (fun _ _ _ h => h) (Or.inl ⟨by rfl, ?_⟩) (by assumption) ?_
  rotate_left 1
  · intro w hSw
    (try dsimp only at hSw)
    first | (go_simp; done) | (go_simp; with_reducible rfl)
  try simp only [Act.put, List.setIfInBounds_toArray, List.set_cons_zero, List.set_cons_succ]
  refine wpAnyH_take (i := 10) (oi := { dst := some 217, op := Op.load 24 (Operand.tmp 216), type := 24, pos := "l10_regs.go:168", after := #[{ on := 9, ground := Ground.data }], guard := none }) (v := ?_) rfl (by kernel_rfl) (by kernel_rfl) (by kernel_rfl) (fun _ _ _ h => h) (Or.inl ⟨by rfl, ?_⟩) (by assumption) ?_
  rotate_left 1
  · intro w hSw
    (try dsimp only at hSw)
    first | (go_simp; done) | (go_simp; with_reducible rfl)
  try simp only [Act.put, List.setIfInBounds_toArray, List.set_cons_zero, List.set_cons_succ]
  refine wpAnyH_take (i := 11) (oi := { dst := some 218, op := Op.move (Operand.tmp 6), type := 24, pos := "l10_regs.go:168", after := #[], guard := none }) (v := ?_) rfl (by kernel_rfl) (by kernel_rfl) (by kernel_rfl) (fun _ _ _ h => h) (Or.inl ⟨by rfl, ?_⟩) (by assumption) ?_
  rotate_left 1
  · intro w hSw
    (try dsimp only at hSw)
    first | (go_simp; done) | (go_simp; with_reducible rfl)
  try simp only [Act.put, List.setIfInBounds_toArray, List.set_cons_zero, List.set_cons_succ]
  refine wpAnyH_take (i := 12) (oi := { dst := some 219, op := Op.indexAddr 24 (Operand.tmp 218) (Operand.const (Value.int IntKind.i64 1)), type := 0, pos := "l10_regs.go:168", after := #[{ on := 11, ground := Ground.data }], guard := none }) (v := ?_) rfl (by kernel_rfl) (by kernel_rfl) (by kernel_rfl) (fun _ _ _ h => h) (Or.inl ⟨by rfl, ?_⟩) (by assumption) ?_
  rotate_left 1
  · intro w hSw
    (try dsimp only at hSw)
    first | (go_simp; done) | (go_simp; with_reducible rfl)
  try simp only [Act.put, List.setIfInBounds_toArray, List.set_cons_zero, List.set_cons_succ]
  refine wpAnyH_take (i := 13) (oi := { dst := some 220, op := Op.load 2 (Operand.tmp 219), type := 2, pos := "l10_regs.go:168", after := #[{ on := 12, ground := Ground.data }], guard := none }) (v := ?_) rfl (by kernel_rfl) (by kernel_rfl) (by kernel_rfl) (fun _ _ _ h => h) (Or.inl ⟨by rfl, ?_⟩) (by assumption) ?_
  rotate_left 1
  · intro w hSw
    (try dsimp only at hSw)
    first | (go_simp; done) | (go_simp; with_reducible rfl)
  try simp only [Act.put, List.setIfInBounds_toArray, List.set_cons_zero, List.set_cons_succ]
  refine wpAnyH_take (i := 14) (oi := { dst := some 221, op := Op.indexAddr 24 (Operand.tmp 217) (Operand.tmp 220), type := 0, pos := "l10_regs.go:168", after := #[{ on := 10, ground := Ground.data }, { on := 13, ground := Ground.data }], guard := none }) (v := ?_) rfl (by kernel_rfl) (by kernel_rfl) (by kernel_rfl) (fun _ _ _ h => h) (Or.inl ⟨by rfl, ?_⟩) (by assumption) ?_
  rotate_left 1
  · intro w hSw
    (try dsimp only at hSw)
    first | (go_simp; done) | (go_simp; with_reducible rfl)
  try simp only [Act.put, List.setIfInBounds_toArray, List.set_cons_zero, List.set_cons_succ]
  refine wpAnyH_ready (rs := [15]) (by kernel_rfl) (by simp) ?_
  refine AllReadyH.cons (o := { dst := some 222, op := Op.load 2 (Operand.tmp 221), type := 2, pos := "l10_regs.go:168", after := #[{ on := 14, ground := Ground.data }], guard := none }) rfl (fun K hK => ?_) AllReadyH.nil
  go_simp
  refine hK.out _ _ (by assumption) (fun hHeld => ?_)
  clear hK K
  try simp only [Act.put, List.setIfInBounds_toArray, List.set_cons_zero, List.set_cons_succ]
  refine wpAnyH_ready (rs := [16]) (by kernel_rfl) (by simp) ?_
  refine AllReadyH.cons (o := { dst := some 223, op := Op.call { callee := Callee.value (Operand.func 124), args := #[Operand.tmp 222], argTypes := #[2] }, type := 2, pos := "l10_regs.go:168", after := #[{ on := 15, ground := Ground.data }], guard := none }) rfl (fun K hK => ?_) AllReadyH.nil
  go_simp
  refine (HC1.out _ _).mono ?_
  rintro e w6 ⟨rfl, rfl⟩
  go_wp2_with fail
  refine hK.out _ _ (by assumption) (fun hHeld => ?_)
  clear hK K
  try simp only [Act.put, List.setIfInBounds_toArray, List.set_cons_zero, List.set_cons_succ]
  refine wpAnyH_ready (rs := [17]) (by kernel_rfl) (by simp) ?_
  refine AllReadyH.cons (o := { dst := some 224, op := Op.call { callee := Callee.value (Operand.func 149), args := #[Operand.tmp 223], argTypes := #[2] }, type := 2, pos := "l10_regs.go:168", after := #[{ on := 16, ground := Ground.data }, { on := 16, ground := Ground.chain }], guard := none }) rfl (fun K hK => ?_) AllReadyH.nil
  go_simp
  refine (HC2.out _ _).mono ?_
  rintro e w6 ⟨rfl, rfl⟩
  go_wp2_with fail
  refine hK.out _ _ (by assumption) (fun hHeld => ?_)
  clear hK K
  try simp only [Act.put, List.setIfInBounds_toArray, List.set_cons_zero, List.set_cons_succ]
  refine wpAnyH_ready (rs := [18]) (by kernel_rfl) (by simp) ?_
  refine AllReadyH.cons (o := { dst := some 225, op := Op.call { callee := Callee.value (Operand.func 124), args := #[Operand.tmp 224], argTypes := #[2] }, type := 2, pos := "l10_regs.go:168", after := #[{ on := 17, ground := Ground.data }, { on := 17, ground := Ground.chain }], guard := none }) rfl (fun K hK => ?_) AllReadyH.nil
  go_simp
  refine (HC1.out _ _).mono ?_
  rintro e w6 ⟨rfl, rfl⟩
  go_wp2_with fail
  refine hK.out _ _ (by assumption) (fun hHeld => ?_)
  clear hK K
  try simp only [Act.put, List.setIfInBounds_toArray, List.set_cons_zero, List.set_cons_succ]
  refine wpAnyH_take (i := 19) (oi := { dst := some 226, op := Op.indexAddr 24 (Operand.tmp 210) (Operand.tmp 213), type := 0, pos := "l10_regs.go:168", after := #[{ on := 3, ground := Ground.data }, { on := 6, ground := Ground.data }, { on := 0, ground := Ground.phase }, { on := 1, ground := Ground.phase }, { on := 2, ground := Ground.phase }, { on := 3, ground := Ground.phase }, { on := 4, ground := Ground.phase }, { on := 5, ground := Ground.phase }, { on := 6, ground := Ground.phase }, { on := 7, ground := Ground.phase }, { on := 8, ground := Ground.phase }, { on := 9, ground := Ground.phase }, { on := 10, ground := Ground.phase }, { on := 11, ground := Ground.phase }, { on := 12, ground := Ground.phase }, { on := 13, ground := Ground.phase }, { on := 14, ground := Ground.phase }, { on := 15, ground := Ground.phase }, { on := 16, ground := Ground.phase }, { on := 17, ground := Ground.phase }, { on := 18, ground := Ground.phase }], guard := none }) (v := ?_) rfl (by kernel_rfl) (by kernel_rfl) (by kernel_rfl) (fun _ _ _ h => h) (Or.inl ⟨by rfl, ?_⟩) (by assumption) ?_
  rotate_left 1
  · intro w hSw
    (try dsimp only at hSw)
    first | (go_simp; done) | (go_simp; with_reducible rfl)
  try simp only [Act.put, List.setIfInBounds_toArray, List.set_cons_zero, List.set_cons_succ]
  refine wpAnyH_ready (rs := [20]) (by kernel_rfl) (by simp) ?_
  refine AllReadyH.cons (o := { dst := none, op := Op.store 2 (Operand.tmp 226) (Operand.tmp 225), type := 0, pos := "l10_regs.go:168", after := #[{ on := 19, ground := Ground.data }, { on := 18, ground := Ground.data }, { on := 18, ground := Ground.chain }, { on := 0, ground := Ground.phase }, { on := 1, ground := Ground.phase }, { on := 2, ground := Ground.phase }, { on := 3, ground := Ground.phase }, { on := 4, ground := Ground.phase }, { on := 5, ground := Ground.phase }, { on := 6, ground := Ground.phase }, { on := 7, ground := Ground.phase }, { on := 8, ground := Ground.phase }, { on := 9, ground := Ground.phase }, { on := 10, ground := Ground.phase }, { on := 11, ground := Ground.phase }, { on := 12, ground := Ground.phase }, { on := 13, ground := Ground.phase }, { on := 14, ground := Ground.phase }, { on := 15, ground := Ground.phase }, { on := 16, ground := Ground.phase }, { on := 17, ground := Ground.phase }, { on := 18, ground := Ground.phase }], guard := none }) rfl (fun K hK => ?_) AllReadyH.nil
  go_simp
  refine hK.out _ _ ?_ (fun hHeld => ?_)
  · refine ⟨?_, ?_, ?_⟩
    · exact (World.cell?_setCell_far W ⟨gr, i0, none⟩ ⟨p, 1, none⟩ _ n1).trans d1
    · exact (World.cell?_setCell_far W ⟨gr, i0, none⟩ ⟨b, off + L, none⟩ _ n2).trans y0
    · exact (World.cell?_setCell_far W ⟨gr, i0, none⟩ ⟨b, off + L + 1, none⟩ _ n2).trans y1
  clear hK K
  try simp only [Act.put, List.setIfInBounds_toArray, List.set_cons_zero, List.set_cons_succ]
  refine wpAnyH_done (by kernel_rfl) ?_ _
  generalize hz : cm (nt (cm xr)) = z at *
  have HZR := hid hz
  clear hz
  have HRZ0 : Hid (RunT B ((W.setCell ⟨gr, i0, none⟩ (.int .i64 z)).drew) p (str m i0 z)) := (RunT.reg HROW2.out HMEM2.out z).heap rfl
  have HBZ0 : Hid (Below B w ((W.setCell ⟨gr, i0, none⟩ (.int .i64 z)).drew)) := (HB.out.setCell (p := ⟨gr, i0, none⟩) HGR.out _).drew
  clear HROW2 HMEM2 HB rc0 rf0 rc1 rf1 y0 y1 d1 d2 d3
  generalize (W.setCell ⟨gr, i0, none⟩ (.int .i64 z)).drew = WZ at *
  have HRZ := HRZ0
  have HBZ := HBZ0
  obtain ⟨svz, cvz, hbz, _⟩ := id HRZ.out
  have z0 := (RunT.cells hbz).1
  have zf := frozen_of_row _ _ 0 _ _ hbz
  have HF : Hid (RunT B (WZ.setCell ⟨p, 0, none⟩ (.int .i64 (H : Int))) p (atP (str m i0 z) (H : Int))) := HRZ.out.fld (m' := atP (str m i0 z) (H : Int)) 0 _ (fun _ _ => rfl) rfl rfl
  have HPZ := HRZ.out.lt.1
  clear hbz
  go_wp2_with fail
  go_ret
  rw [HXR.out, HZR.out]
  first | exact ⟨rfl, fun _ => HF.out, HBZ.out.setCell HPZ _⟩ | exact ⟨rfl, HF.out, HBZ.out.setCell HPZ _⟩
end Go.Proofs.Ytcikofhbfncgdaa
