/-
  (*impl.checker).assignment, call, choice.
-/
import Derived.Test.YteeklmgkhacbcaaGreatDoorCheckN
import Derived.Deep.QuietTactic
import Derived.BigQuiet
import Derived.Test.YteeklmgkhacbcaaGreatDoorSCall
import Derived.Test.YteeklmgkhacbcaaGreatDoorTreeTo2
import Derived.Test.YteeklmgkhacbcaaGreatDoorSList
namespace Go.Proofs.YteeklmgkhacbcaaGreatDoor
open Go.RowKit
set_option linter.unusedVariables false
attribute [local go_sem] bs_size bs_get bs_extract bs_append bs_eq bs_toList
def settF (V : List LVar) (nv : Nat) (L : List (List UInt8)) (n : LNode) (x : Int) : Met :=
 if (namedF V nv n x).1 ≠ 0 then namedF V nv n x
 else if (V.getD (varFrom n.name V 0).toNat default).kind = 1 ∨ (V.getD (varFrom n.name V 0).toNat default).name ∈ L then (10, x) else (0, 0)
theorem six_set {w : World} {b : Nat} {T : TypeId} {a0 a1 a2 a3 a4 a5 : Value} (x0 x1 x2 x3 x4 x5 : Value) (h : w.heap[b]? = some (.cells #[a0, a1, a2, a3, a4, a5] T (0, 0))) :
  ((((((w.setCell ⟨b, 0, none⟩ x0).setCell ⟨b, 1, none⟩ x1).setCell ⟨b, 2, none⟩ x2).setCell ⟨b, 3, none⟩ x3).setCell ⟨b, 4, none⟩ x4).setCell ⟨b, 5, none⟩ x5).heap[b]? = some (.cells #[x0, x1, x2, x3, x4, x5] T (0, 0)) := by
 rw [heap_setCell_same _ _ _ _ _ _ (heap_setCell_same _ _ _ _ _ _ (heap_setCell_same _ _ _ _ _ _ (heap_setCell_same _ _ _ _ _ _ (heap_setCell_same _ _ _ _ _ _ (heap_setCell_same _ _ _ _ _ _ h)))))]
 rfl
set_option maxHeartbeats 12800000 in
set_option maxRecDepth 100000 in
theorem settable_any (lo : Nat) (W0 W : World) (cp mp B : Nat) (vn vl : Value) (T : LTree) (V : List LVar) (L : List (List UInt8)) (x : Nat) (hE : CkB lo W0 cp mp vn T V) (hC : ICk W0 W cp mp vn vl) (hL : LoopO W B vl L) (hB : B = cp + 1) (hLl : L.length ≤ 1048576) (hx : x < T.nodes.length) (hnm : (nodeOf T.nodes (x : Int)).name.length ≤ 1048576) :
  Calls Tryz.prog 147 #[.pointer (some ⟨cp, 0, none⟩), .int .i64 (x : Int)] W fun e w' => e = .returned (.tuple #[namedV V T.vars.length (nodeOf T.nodes (x : Int)) (x : Int), errV (settF V T.vars.length L (nodeOf T.nodes (x : Int)) (x : Int))]) ∧ Below W.heap.size W w' := by
 have HNA : Hid (∀ W', Below W.heap.size W W' → Calls Tryz.prog 149 #[.pointer (some ⟨cp, 0, none⟩), .int .i64 (x : Int)] W' fun e w' => e = .returned (.tuple #[namedV V T.vars.length (nodeOf T.nodes (x : Int)) (x : Int), errV (namedF V T.vars.length (nodeOf T.nodes (x : Int)) (x : Int))]) ∧ Below W'.heap.size W' w') := fun W' hb => named_any lo cp mp W' vn vl T V x (hE.ck (hC.below hb)) hx hnm
 obtain ⟨aL, cL, evl, _⟩ := hL.form
 subst evl
 have HLO : Hid (∀ W', Below W.heap.size W W' → LoopO W' B (.slice aL L.length cL) L) := fun W' hb => rowE_kept hL hb
 have HCO : Hid (∀ (nm : List UInt8) (W' : World), LoopO W' B (.slice aL L.length cL) L → Calls Tryz.prog 150 #[.slice aL L.length cL, .string (bs nm)] W' fun e w' => e = .returned (.bool (decide (nm ∈ L))) ∧ w' = W') := fun nm W' h => containsS_any aL cL B L nm W' h hLl
 have HROW : Hid (∀ W', Below W.heap.size W W' → W'.cell? ⟨cp, 2, none⟩ = some (.slice aL L.length cL)) := fun W' hb => cell_of_row _ _ 2 _ _ _ (hC.below hb).row
 have hcl := blk_lt hC.row
 obtain ⟨m, hm⟩ : ∃ m, m = namedF V T.vars.length (nodeOf T.nodes (x : Int)) (x : Int) := ⟨_, rfl⟩
 obtain ⟨R, hR⟩ : ∃ R, R = settF V T.vars.length L (nodeOf T.nodes (x : Int)) (x : Int) := ⟨_, rfl⟩
 obtain ⟨y0, y1, y2, y3, y4, y5, hy⟩ := namedV_form V T.vars.length (nodeOf T.nodes (x : Int)) (x : Int)
 have HRR : Hid (R = if m.1 ≠ 0 then m else if (V.getD (varFrom (nodeOf T.nodes (x : Int)).name V 0).toNat default).kind = 1 ∨ (V.getD (varFrom (nodeOf T.nodes (x : Int)).name V 0).toNat default).name ∈ L then (10, (x : Int)) else (0, 0)) := by unfold Hid; rw [hR, hm]; rfl
 have HYV : Hid (m.1 = 0 → (V.getD (varFrom (nodeOf T.nodes (x : Int)).name V 0).toNat default).kind = y1 ∧ (V.getD (varFrom (nodeOf T.nodes (x : Int)).name V 0).toNat default).name = y0) := fun h0 => by
  have h := hy
  unfold namedV at h
  rw [← hm, if_pos h0] at h
  unfold entVal at h
  injection h with h
  have h2 := congrArg Array.toList h
  simp at h2
  exact ⟨h2.2.1, bs_inj h2.1⟩
 rw [hy, ← hm] at HNA
 rw [hy, ← hR]
 clear hm hR hy hE hC hL
 obtain ⟨m1, m2⟩ := m
 go_enter Tryz.func147, Tryz.ntmps147
 go_wp2_with fail
 have hA := heap_alloc_new W (.cells #[.string ⟨#[]⟩, .int .i64 0, .int .i64 0, .int .i64 0, .bool false, .int .i64 0] 93)
 have hB1 : Below W.heap.size W (W.alloc (.cells #[.string ⟨#[]⟩, .int .i64 0, .int .i64 0, .int .i64 0, .bool false, .int .i64 0] 93)) := (Below.refl _ _).alloc (Nat.le_refl _) _
 generalize W.alloc (.cells #[.string ⟨#[]⟩, .int .i64 0, .int .i64 0, .int .i64 0, .bool false, .int .i64 0] 93) = W1 at *
 refine (HNA.out _ hB1).mono ?_
 rintro e w2 ⟨rfl, hb⟩
 have HA : Hid (w2.heap[W.heap.size]? = some (.cells #[.string ⟨#[]⟩, .int .i64 0, .int .i64 0, .int .i64 0, .bool false, .int .i64 0] 93 (0, 0))) := blk hA hb
 have HB : Hid (Below W.heap.size W w2) := hB1.trans (hb.mono hB1.size)
 clear hA hB1 hb HNA
 by_cases hm : m1 = 0
 ·subst hm
  have HY := HYV.out rfl
  have HR2 : Hid (R = if y1 = 1 ∨ y0 ∈ L then (10, (x : Int)) else (0, 0)) := by unfold Hid; rw [HRR.out, if_neg (by simp), HY.1, HY.2]
  rw [errV_zero rfl]
  clear HRR HYV HY
  have HV3 : Hid ((w2.alloc (.cells #[.string (bs y0), .int .i64 y1, .int .i64 y2, .int .i64 y3, .bool y4, .int .i64 y5] 93)).heap[w2.heap.size]? = some (.cells #[.string (bs y0), .int .i64 y1, .int .i64 y2, .int .i64 y3, .bool y4, .int .i64 y5] 93 (0, 0))) := heap_alloc_new w2 _
  have hb3 : Below w2.heap.size w2 (w2.alloc (.cells #[.string (bs y0), .int .i64 y1, .int .i64 y2, .int .i64 y3, .bool y4, .int .i64 y5] 93)) := (Below.refl _ _).alloc (Nat.le_refl _) _
  have HA3 : Hid ((w2.alloc (.cells #[.string (bs y0), .int .i64 y1, .int .i64 y2, .int .i64 y3, .bool y4, .int .i64 y5] 93)).heap[W.heap.size]? = some (.cells #[.string ⟨#[]⟩, .int .i64 0, .int .i64 0, .int .i64 0, .bool false, .int .i64 0] 93 (0, 0))) := blk HA.out hb3
  have HB3 : Hid (Below W.heap.size W (w2.alloc (.cells #[.string (bs y0), .int .i64 y1, .int .i64 y2, .int .i64 y3, .bool y4, .int .i64 y5] 93))) := HB.out.trans (hb3.mono HB.out.size)
  have hWz : W.heap.size < w2.heap.size := blk_lt HA.out
  clear hb3 HA HB
  go_wp2_with fail
  generalize w2.alloc (.cells #[.string (bs y0), .int .i64 y1, .int .i64 y2, .int .i64 y3, .bool y4, .int .i64 y5] 93) = W3 at *
  have k2 := HROW.out W3 HB3.out
  have HLX : Hid (∀ W', W'.heap = W3.heap → LoopO W' B (.slice aL L.length cL) L) := fun W' hW => rowE_same (HLO.out W3 HB3.out) (fun g _ _ => by rw [hW])
  generalize w2.heap.size = gv at *
  obtain ⟨v0, v1, v2, v3, v4, v5⟩ := cl6 HV3.out
  obtain ⟨f0, f1, f2, f3, f4, f5⟩ := fl6 HA3.out
  obtain ⟨r0, r1, r2, r3, r4, r5⟩ := cl6 HA3.out
  have hW3z : W.heap.size < W3.heap.size := blk_lt HA3.out
  have hv3z : gv < W3.heap.size := blk_lt HV3.out
  have hc3z : cp < W3.heap.size := World.block_lt_of_cell? _ _ k2
  by_cases hy1 : y1 = 1
  ·subst hy1
   have HRF : Hid (R = (10, (x : Int))) := by unfold Hid; rw [HR2.out, if_pos (Or.inl rfl)]
   clear HR2
   go_quiet (fail)
   have HV4 : Hid ((W3.drewN nq).heap[gv]? = some (.cells #[.string (bs y0), .int .i64 1, .int .i64 y2, .int .i64 y3, .bool y4, .int .i64 y5] 93 (0, 0))) := HV3.out
   have HA4 : Hid ((W3.drewN nq).heap[W.heap.size]? = some (.cells #[.string ⟨#[]⟩, .int .i64 0, .int .i64 0, .int .i64 0, .bool false, .int .i64 0] 93 (0, 0))) := HA3.out
   have HB4 : Hid (Below W.heap.size W (W3.drewN nq)) := ⟨HB3.out.os, HB3.out.tape, HB3.out.output, HB3.out.size, HB3.out.block⟩
   clear v0 v1 v2 v3 v4 v5 f0 f1 f2 f3 f4 f5 r0 r1 r2 r3 r4 r5 k2 HV3 HA3 HB3 HLX hW3z hv3z hc3z
   generalize W3.drewN nq = W4 at *
   have HV3 : Hid _ := HV4.out
   have HA3 : Hid _ := HA4.out
   have HB3 : Hid _ := HB4.out
   clear HV4 HA4 HB4
   obtain ⟨v0, v1, v2, v3, v4, v5⟩ := cl6 HV3.out
   obtain ⟨f0, f1, f2, f3, f4, f5⟩ := fl6 HA3.out
   obtain ⟨r0, r1, r2, r3, r4, r5⟩ := cl6 HA3.out
   have hW3z : W.heap.size < W4.heap.size := blk_lt HA3.out
   have HRE : Hid (errV R = .iface 121 (.agg #[.int .i64 10, .int .i64 (x : Int)])) := by unfold Hid; rw [HRF.out]; rfl
   clear HRF
   have hz := six_set (.string (bs y0)) (.int .i64 1) (.int .i64 y2) (.int .i64 y3) (.bool y4) (.int .i64 y5) HA3.out
   obtain ⟨z0, z1, z2, z3, z4, z5⟩ := cl6 hz
   clear hz
   go_wp2_with fail
   refine bodyPost_ret (v := .tuple #[.agg #[.string (bs y0), .int .i64 1, .int .i64 y2, .int .i64 y3, .bool y4, .int .i64 y5], .iface 121 (.agg #[.int .i64 10, .int .i64 (x : Int)])]) (by simp [results, Tryz.results147, go_sem, z0, z1, z2, z3, z4, z5]) rfl ⟨by rw [HRE.out], ?_⟩
   exact (((((HB3.out.setCell (by simp) _).setCell (by simp) _).setCell (by simp) _).setCell (by simp) _).setCell (by simp) _).setCell (by simp) _
  ·have hyb : (y1 == 1) = false := by simpa using hy1
   have hyd : decide (y1 = 1) = false := decide_eq_false hy1
   obtain ⟨q, hq⟩ : ∃ q, decide (y0 ∈ L) = q := ⟨_, rfl⟩
   have HCX : Hid (∀ W', W'.heap = W3.heap → Calls Tryz.prog 150 #[.slice aL L.length cL, .string (bs y0)] W' fun e w' => e = .returned (.bool q) ∧ w' = W') := fun W' hW => by rw [← hq]; exact HCO.out y0 W' (HLX.out W' hW)
   cases q with
   | true =>
    have HRF : Hid (R = (10, (x : Int))) := by unfold Hid; rw [HR2.out, if_pos (Or.inr (of_decide_eq_true hq))]
    clear HR2 hq
    go_quiet (first | (go_at_call 150; exact Calls.quiet_of_same (HCX.out _ rfl)))
    have HV4 : Hid ((W3.drewN nq).heap[gv]? = some (.cells #[.string (bs y0), .int .i64 y1, .int .i64 y2, .int .i64 y3, .bool y4, .int .i64 y5] 93 (0, 0))) := HV3.out
    have HA4 : Hid ((W3.drewN nq).heap[W.heap.size]? = some (.cells #[.string ⟨#[]⟩, .int .i64 0, .int .i64 0, .int .i64 0, .bool false, .int .i64 0] 93 (0, 0))) := HA3.out
    have HB4 : Hid (Below W.heap.size W (W3.drewN nq)) := ⟨HB3.out.os, HB3.out.tape, HB3.out.output, HB3.out.size, HB3.out.block⟩
    clear v0 v1 v2 v3 v4 v5 f0 f1 f2 f3 f4 f5 r0 r1 r2 r3 r4 r5 k2 HV3 HA3 HB3 HLX hW3z hv3z hc3z
    generalize W3.drewN nq = W4 at *
    have HV3 : Hid _ := HV4.out
    have HA3 : Hid _ := HA4.out
    have HB3 : Hid _ := HB4.out
    clear HV4 HA4 HB4
    obtain ⟨v0, v1, v2, v3, v4, v5⟩ := cl6 HV3.out
    obtain ⟨f0, f1, f2, f3, f4, f5⟩ := fl6 HA3.out
    obtain ⟨r0, r1, r2, r3, r4, r5⟩ := cl6 HA3.out
    have hW3z : W.heap.size < W4.heap.size := blk_lt HA3.out
    have HRE : Hid (errV R = .iface 121 (.agg #[.int .i64 10, .int .i64 (x : Int)])) := by unfold Hid; rw [HRF.out]; rfl
    clear HRF
    have hz := six_set (.string (bs y0)) (.int .i64 y1) (.int .i64 y2) (.int .i64 y3) (.bool y4) (.int .i64 y5) HA3.out
    obtain ⟨z0, z1, z2, z3, z4, z5⟩ := cl6 hz
    clear hz
    go_wp2_with fail
    refine bodyPost_ret (v := .tuple #[.agg #[.string (bs y0), .int .i64 y1, .int .i64 y2, .int .i64 y3, .bool y4, .int .i64 y5], .iface 121 (.agg #[.int .i64 10, .int .i64 (x : Int)])]) (by simp [results, Tryz.results147, go_sem, z0, z1, z2, z3, z4, z5]) rfl ⟨by rw [HRE.out], ?_⟩
    exact (((((HB3.out.setCell (by simp) _).setCell (by simp) _).setCell (by simp) _).setCell (by simp) _).setCell (by simp) _).setCell (by simp) _
   | false =>
    have HRF : Hid (R = (0, 0)) := by unfold Hid; rw [HR2.out, if_neg (fun h => h.elim hy1 (of_decide_eq_false hq))]
    clear HR2 hq
    go_quiet (first | (go_at_call 150; exact Calls.quiet_of_same (HCX.out _ rfl)))
    have HV4 : Hid ((W3.drewN nq).heap[gv]? = some (.cells #[.string (bs y0), .int .i64 y1, .int .i64 y2, .int .i64 y3, .bool y4, .int .i64 y5] 93 (0, 0))) := HV3.out
    have HA4 : Hid ((W3.drewN nq).heap[W.heap.size]? = some (.cells #[.string ⟨#[]⟩, .int .i64 0, .int .i64 0, .int .i64 0, .bool false, .int .i64 0] 93 (0, 0))) := HA3.out
    have HB4 : Hid (Below W.heap.size W (W3.drewN nq)) := ⟨HB3.out.os, HB3.out.tape, HB3.out.output, HB3.out.size, HB3.out.block⟩
    clear v0 v1 v2 v3 v4 v5 f0 f1 f2 f3 f4 f5 r0 r1 r2 r3 r4 r5 k2 HV3 HA3 HB3 HLX hW3z hv3z hc3z
    generalize W3.drewN nq = W4 at *
    have HV3 : Hid _ := HV4.out
    have HA3 : Hid _ := HA4.out
    have HB3 : Hid _ := HB4.out
    clear HV4 HA4 HB4
    obtain ⟨v0, v1, v2, v3, v4, v5⟩ := cl6 HV3.out
    obtain ⟨f0, f1, f2, f3, f4, f5⟩ := fl6 HA3.out
    obtain ⟨r0, r1, r2, r3, r4, r5⟩ := cl6 HA3.out
    have hW3z : W.heap.size < W4.heap.size := blk_lt HA3.out
    have HRE : Hid (errV R = .nilIface) := by unfold Hid; rw [HRF.out]; rfl
    clear HRF
    have hz := six_set (.string (bs y0)) (.int .i64 y1) (.int .i64 y2) (.int .i64 y3) (.bool y4) (.int .i64 y5) HA3.out
    obtain ⟨z0, z1, z2, z3, z4, z5⟩ := cl6 hz
    clear hz
    go_wp2_with fail
    refine bodyPost_ret (v := .tuple #[.agg #[.string (bs y0), .int .i64 y1, .int .i64 y2, .int .i64 y3, .bool y4, .int .i64 y5], .nilIface]) (by simp [results, Tryz.results147, go_sem, z0, z1, z2, z3, z4, z5]) rfl ⟨by rw [HRE.out], ?_⟩
    exact (((((HB3.out.setCell (by simp) _).setCell (by simp) _).setCell (by simp) _).setCell (by simp) _).setCell (by simp) _).setCell (by simp) _
 ·have HR2 : Hid (R = (m1, m2)) := by unfold Hid; rw [HRR.out, if_pos hm]
  rw [errV_met hm]
  have HRE : Hid (errV R = .iface 121 (.agg #[.int .i64 m1, .int .i64 m2])) := by unfold Hid; rw [HR2.out, errV_met hm]
  clear HRR HYV HR2 hm
  have HV3 : Hid ((w2.alloc (.cells #[.string (bs y0), .int .i64 y1, .int .i64 y2, .int .i64 y3, .bool y4, .int .i64 y5] 93)).heap[w2.heap.size]? = some (.cells #[.string (bs y0), .int .i64 y1, .int .i64 y2, .int .i64 y3, .bool y4, .int .i64 y5] 93 (0, 0))) := heap_alloc_new w2 _
  have hb3 : Below w2.heap.size w2 (w2.alloc (.cells #[.string (bs y0), .int .i64 y1, .int .i64 y2, .int .i64 y3, .bool y4, .int .i64 y5] 93)) := (Below.refl _ _).alloc (Nat.le_refl _) _
  have HA3 : Hid ((w2.alloc (.cells #[.string (bs y0), .int .i64 y1, .int .i64 y2, .int .i64 y3, .bool y4, .int .i64 y5] 93)).heap[W.heap.size]? = some (.cells #[.string ⟨#[]⟩, .int .i64 0, .int .i64 0, .int .i64 0, .bool false, .int .i64 0] 93 (0, 0))) := blk HA.out hb3
  have HB3 : Hid (Below W.heap.size W (w2.alloc (.cells #[.string (bs y0), .int .i64 y1, .int .i64 y2, .int .i64 y3, .bool y4, .int .i64 y5] 93))) := HB.out.trans (hb3.mono HB.out.size)
  have hWz : W.heap.size < w2.heap.size := blk_lt HA.out
  clear hb3 HA HB
  go_upto_region 3 with fail
  generalize w2.alloc (.cells #[.string (bs y0), .int .i64 y1, .int .i64 y2, .int .i64 y3, .bool y4, .int .i64 y5] 93) = W4 at *
  generalize w2.heap.size = gv at *
  obtain ⟨v0, v1, v2, v3, v4, v5⟩ := cl6 HV3.out
  obtain ⟨f0, f1, f2, f3, f4, f5⟩ := fl6 HA3.out
  obtain ⟨r0, r1, r2, r3, r4, r5⟩ := cl6 HA3.out
  have hW3z : W.heap.size < W4.heap.size := blk_lt HA3.out
  have hz := six_set (.string (bs y0)) (.int .i64 y1) (.int .i64 y2) (.int .i64 y3) (.bool y4) (.int .i64 y5) HA3.out
  obtain ⟨z0, z1, z2, z3, z4, z5⟩ := cl6 hz
  clear hz
  go_wp2_with fail
  refine bodyPost_ret (v := .tuple #[.agg #[.string (bs y0), .int .i64 y1, .int .i64 y2, .int .i64 y3, .bool y4, .int .i64 y5], .iface 121 (.agg #[.int .i64 m1, .int .i64 m2])]) (by simp [results, Tryz.results147, go_sem, z0, z1, z2, z3, z4, z5]) rfl ⟨by rw [HRE.out], ?_⟩
  exact (((((HB3.out.setCell (by simp) _).setCell (by simp) _).setCell (by simp) _).setCell (by simp) _).setCell (by simp) _).setCell (by simp) _
theorem ints_of_heap {W : World} {g : Nat} {I : TypeId} {ts : List Int} (h : W.heap[g]? = some (.cells (ts.map (Value.int .i64)).toArray I (0, 0))) : IntsV 0 W (.slice (some ⟨g, 0, none⟩) ts.length ts.length) ts :=
 ⟨_, _, rfl, Nat.le_refl _, fun _ => ⟨g, 0, rfl, Nat.zero_le _, fun i x hx => by
  rw [cell_of_row _ _ _ _ _ _ h, Nat.zero_add, List.getElem?_toArray, List.getElem?_map, hx]; rfl⟩⟩
structure CkT (lo : Nat) (W0 : World) (cp mp : Nat) (vn : Value) (T : LTree) (V : List LVar) : Prop where
 b : CkB lo W0 cp mp vn T V
 typ : ∀ (vl : Value) (f x : Nat), x < T.nodes.length → 1 ≤ (nodeOf T.nodes (x : Int)).kind ∧ (nodeOf T.nodes (x : Int)).kind ≤ 6 → T.nodes.length = f + 1 → ITypeC lo cp mp vn vl T V (f + 1) x
 fits : FitsE T
 kin : Kin T.nodes
 stk : Stk T
 small : Sized 1048576 T
theorem mustBe_st {lo : Nat} {W0 W : World} {cp mp : Nat} {vn vl vk vt : Value} {T : LTree} {V : List LVar} {x lt : Nat} {ts : List Int} (h : CkT lo W0 cp mp vn T V) (hC : ICk W0 W cp mp vn vl) (hx : x < T.nodes.length)
  (hk : IntsV lo W0 vk (nodeOf T.nodes (x : Int)).kids) (hlen : (nodeOf T.nodes (x : Int)).kids.length = ts.length) (h3 : ts.length ≤ 3) (hj : IntsV lt W vt ts) :
  Calls Tryz.prog 148 #[.pointer (some ⟨cp, 0, none⟩), vk, vt] W fun e w' => e = .returned (errV (argsF (mustT V T.vars.length T.nodes) (nodeOf T.nodes (x : Int)).kids ts (0, 0))) ∧ Below W.heap.size W w' := by
 have hn := h.b.good.node x _ (node_get hx)
 obtain ⟨f, hf⟩ : ∃ f, T.nodes.length = f + 1 := ⟨T.nodes.length - 1, by omega⟩
 have key : ∀ y ∈ (nodeOf T.nodes (x : Int)).kids, (0 ≤ y ∧ y < (T.nodes.length : Int)) ∧ (1 ≤ (nodeOf T.nodes y).kind ∧ (nodeOf T.nodes y).kind ≤ 6) ∧ ((nodeOf T.nodes y).kind = 1 → 0 ≤ (nodeOf T.nodes y).num) := fun y hy => by
  have hy2 := hn.2.1 y hy
  obtain ⟨j, rfl⟩ : ∃ j : Nat, y = j := ⟨y.toNat, by omega⟩
  exact ⟨⟨hy2.1, by omega⟩, expr_to (h.kin x _ (node_get hx) _ hy), fun _ => (own_nums (h.b.good.node j _ (node_get (by omega))).1).1.1⟩
 have := mustBe_any lo lo lt cp mp f W vn vl vk vt T V (nodeOf T.nodes (x : Int)).kids ts (h.b.ck hC) hlen (by omega) key (hk.below hC.bel) hj (fun y hy => h.typ vl f y (by have := (key _ hy).1.2; omega) (key _ hy).2.1 hf)
 unfold mustsF at this
 unfold mustT
 rw [hf]; exact this
theorem must_met {V : List LVar} {nv : Nat} {N : List LNode} {y t : Int} {st : Met} (h : st.1 ≠ 0) : mustT V nv N y t st = st := by
 unfold mustT
 have e : typeF V nv N N.length y st = ((typeF V nv N N.length y st).1, st) := Prod.ext rfl (typeF_met _ y h)
 rw [e, mustW_met h]
def Orz (m : Met) : Prop := m = (0, 0) ∨ m.1 ≠ 0
theorem must_orz {V : List LVar} {nv : Nat} {N : List LNode} {y t : Int} {st : Met} (h : Orz st) : Orz (mustT V nv N y t st) := by
 unfold mustT
 rcases mustW_or (nodeOf N y) y t (typeF V nv N N.length y st) with e | e
 ·rw [e]
  rcases typeF_or (V := V) (nv := nv) (N := N) N.length y st with e2 | e2
  ·rw [e2]; exact h
  ·exact .inr e2
 ·exact .inr e
theorem args_met {must : Int → Int → Met → Met} (hm : ∀ y t st, st.1 ≠ 0 → must y t st = st) : ∀ (ks ts : List Int) (st : Met), st.1 ≠ 0 → argsF must ks ts st = st := by
 intro ks
 induction ks with
 | nil => intro ts st h; rfl
 | cons k r ih =>
  intro ts st h
  cases ts with
  | nil => rfl
  | cons t q => unfold argsF; rw [hm _ _ _ h]; exact ih q st h
theorem args_orz {must : Int → Int → Met → Met} (hm : ∀ y t st, Orz st → Orz (must y t st)) : ∀ (ks ts : List Int) (st : Met), Orz st → Orz (argsF must ks ts st) := by
 intro ks
 induction ks with
 | nil => intro ts st h; exact h
 | cons k r ih =>
  intro ts st h
  cases ts with
  | nil => exact h
  | cons t q => exact ih q _ (hm _ _ _ h)
theorem meta_orz {st : Met} (h : Orz st) {c x : Int} (hc : c ≠ 0) : Orz (metAt st c x) := by
 unfold metAt; split
 ·exact .inr hc
 ·exact h
theorem target_orz {VS : List LVar} {L : List (List UInt8)} {nm : List UInt8} {row : Bool} {x : Int} {st : Met} (h : Orz st) : Orz (targetF VS L nm row x st).2 := by
 unfold targetF
 split
 ·exact meta_orz h (by decide)
 ·show Orz (if _ then _ else _)
  split
  ·refine meta_orz ?_ (by decide)
   split
   ·exact meta_orz h (by decide)
   ·exact h
  ·split
   ·exact meta_orz h (by decide)
   ·exact h
theorem goL_orz {s : Int → Met → Met} (hs : ∀ x st, Orz st → Orz (s x st)) : ∀ (l : List Int) (st : Met), Orz st → Orz (goL s l st) := by
 intro l
 induction l with
 | nil => intro st h; exact h
 | cons x r ih =>
  intro st h
  unfold goL
  split
  ·exact ih _ (hs x st h)
  ·exact h
theorem for_orz {VS : List LVar} {L : List (List UInt8)} {n : LNode} {x : Int} {st : Met} (h : Orz st) : Orz (forF VS L n x st) := by
 have hA : Orz (forA VS L n x st) := by
  unfold forA
  split
  ·exact meta_orz (target_orz h) (by decide)
  ·exact target_orz h
 unfold forF
 split
 ·exact meta_orz hA (by decide)
 ·exact hA
theorem call_orz {must : Int → Int → Met → Met} (hm : ∀ y t st, Orz st → Orz (must y t st)) {L : List (List UInt8)} {n : LNode} {x : Int} {st : Met} (h : Orz st) : Orz (callF must L n x st) := by
 unfold callF
 split
 ·exact meta_orz h (by decide)
 ·exact args_orz hm _ _ _ h
theorem stmt_orz {must : Int → Int → Met → Met} (hm : ∀ y t st, Orz st → Orz (must y t st)) {VS : List LVar} {N : List LNode} : ∀ (f : Nat) (L : List (List UInt8)) (x : Int) (st : Met), Orz st → Orz (stmtF must VS N f L x st) := by
 intro f
 induction f with
 | zero => intro L x st h; exact h
 | succ f ih =>
  intro L x st h
  simp only [stmtF]
  split
  ·exact hm _ _ _ (target_orz h)
  split
  ·exact hm _ _ _ (hm _ _ _ (target_orz h))
  split
  ·exact goL_orz (fun y s hs => ih L y s hs) _ _ (goL_orz (fun y s hs => ih L y s hs) _ _ (hm _ _ _ h))
  split
  ·exact goL_orz (fun y s hs => ih _ y s hs) _ _ (for_orz h)
  split
  ·exact call_orz hm h
  ·exact h
theorem varFrom_append (nm : List UInt8) : ∀ (A B : List LVar) (i : Nat), varFrom nm (A ++ B) i = if 0 ≤ varFrom nm A i then varFrom nm A i else varFrom nm B (i + A.length) := by
 intro A
 induction A with
 | nil => intro B i; simp [varFrom]
 | cons a r ih =>
  intro B i
  by_cases h : a.name = nm
  ·simp [varFrom, h]
  ·have e := ih B (i + 1)
   simp only [List.cons_append, varFrom, if_neg h, e, List.length_cons]
   split
   ·rfl
   ·rw [show i + 1 + r.length = i + (r.length + 1) by omega]
theorem varFrom_ge (nm : List UInt8) : ∀ (A : List LVar) (i : Nat), varFrom nm A i < 0 ∨ (i : Int) ≤ varFrom nm A i := by
 intro A
 induction A with
 | nil => intro i; exact .inl (by simp [varFrom])
 | cons a r ih =>
  intro i
  unfold varFrom
  split
  ·exact .inr (Int.le_refl _)
  ·rcases ih (i + 1) with h | h
   ·exact .inl h
   ·exact .inr (by omega)
theorem varFrom_name {nm : List UInt8} : ∀ {A : List LVar} {i : Nat}, 0 ≤ varFrom nm A i → (A.getD ((varFrom nm A i).toNat - i) default).name = nm := by
 intro A
 induction A with
 | nil => intro i h; simp [varFrom] at h
 | cons a r ih =>
  intro i h
  unfold varFrom at h ⊢
  by_cases e : a.name = nm
  ·rw [if_pos e]; simp [e]
  ·rw [if_neg e] at h ⊢
   have h2 := ih h
   have h3 := (varFrom_ge nm r (i + 1)).resolve_left (by omega)
   rw [show (varFrom nm r (i + 1)).toNat - i = ((varFrom nm r (i + 1)).toNat - (i + 1)) + 1 by omega, List.getD_cons_succ]
   exact h2
theorem sett_target {T : LTree} {K : Int} {L : List (List UInt8)} {n : LNode} {x : Int} {row : Bool} (hrow : row = decide (n.kind = 8)) (hk : n.kind = 7 ∨ n.kind = 8 ∨ n.kind = 10) :
  (targetF T.vars L n.name row x (0, 0)).2 = settF (allL K T) T.vars.length L n x ∧ ((settF (allL K T) T.vars.length L n x).1 = 0 → (targetF T.vars L n.name row x (0, 0)).1 = ((allL K T).getD (varFrom n.name (allL K T) 0).toNat default).type) := by
 have ha := varFrom_append n.name T.vars (ownsL K T.nodes) 0
 unfold settF namedF targetF
 by_cases h : varFrom n.name T.vars 0 < 0
 ·rw [if_pos h]
  have h2 : varFrom n.name (allL K T) 0 < 0 ∨ ((T.vars.length : Int) ≤ varFrom n.name (allL K T) 0 ∧ n.kind ≠ 2) := by
   unfold allL
   rw [ha, if_neg (by omega)]
   rcases varFrom_ge n.name (ownsL K T.nodes) (0 + T.vars.length) with h3 | h3
   ·exact .inl h3
   ·exact .inr ⟨by omega, by omega⟩
  rw [if_pos h2, if_pos (show ((4 : Int), x).1 ≠ 0 from by simp)]
  exact ⟨metAt_zero 4 x 0, fun h => by simp at h⟩
 ·rw [if_neg h]
  have e : varFrom n.name (allL K T) 0 = varFrom n.name T.vars 0 := by unfold allL; rw [ha, if_pos (by omega)]
  obtain ⟨i, hi, hil⟩ : ∃ i : Nat, varFrom n.name T.vars 0 = i ∧ i < T.vars.length := by
   rcases varFrom_or n.name T.vars 0 with h2 | ⟨j, h2, h3⟩
   ·omega
   ·exact ⟨j, h2, by omega⟩
  have hnm := varFrom_name (nm := n.name) (A := T.vars) (i := 0) (by omega)
  rw [e, hi, Int.toNat_natCast]
  rw [hi, Int.toNat_natCast, Nat.sub_zero] at hnm
  have eg : (allL K T).getD i default = T.vars.getD i default := by
   unfold allL; rw [List.getD_eq_getElem?_getD, List.getD_eq_getElem?_getD, List.getElem?_append_left hil]
  have hn2 : ¬ ((i : Int) < 0 ∨ (T.vars.length : Int) ≤ (i : Int) ∧ n.kind ≠ 2) := by omega
  have hr2 : decide (n.kind = 3 ∨ n.kind = 8) = row := by
   rw [hrow]
   exact decide_eq_decide.2 (by omega)
  rw [eg, hnm, if_neg hn2, hr2]
  by_cases hs : decide (0 < (T.vars.getD i default).size) = row
  ·have h1 : ¬ (row ≠ decide (0 < (T.vars.getD i default).size)) := fun h => h hs.symm
   have h2 : ¬ (decide (0 < (T.vars.getD i default).size) ≠ row) := fun h => h hs
   rw [if_neg h1, if_neg h2, if_neg (show ¬ (((0 : Int), (0 : Int)).1 ≠ 0) from by decide)]
   by_cases hkl : (T.vars.getD i default).kind = 1 ∨ n.name ∈ L
   ·rw [if_pos hkl, if_pos hkl]
    exact ⟨metAt_zero 10 x 0, fun _ => rfl⟩
   ·rw [if_neg hkl, if_neg hkl]
    exact ⟨rfl, fun _ => rfl⟩
  ·have h1 : row ≠ decide (0 < (T.vars.getD i default).size) := fun h => hs h.symm
   rw [if_pos h1, if_pos hs, if_pos (show ((1 : Int), x).1 ≠ 0 from by simp)]
   refine ⟨?_, fun h => by simp at h⟩
   rw [metAt_zero]
   show (if _ then metAt (1, x) 10 x else (1, x)) = (1, x)
   split
   ·exact metAt_met (show ((1 : Int), x).1 ≠ 0 from by simp) _ _
   ·rfl
def asgF (V : List LVar) (T : LTree) (L : List (List UInt8)) (n : LNode) (x : Int) : Met :=
 if (settF V T.vars.length L n x).1 ≠ 0 then settF V T.vars.length L n x
 else argsF (mustT V T.vars.length T.nodes) n.kids (if n.kind = 8 then [1, (V.getD (varFrom n.name V 0).toNat default).type] else [(V.getD (varFrom n.name V 0).toNat default).type]) (0, 0)
theorem asg_stmt {T : LTree} {K : Int} {L : List (List UInt8)} {f : Nat} {x : Int} (ho : ownB (nodeOf T.nodes x) = true) (hk : (nodeOf T.nodes x).kind = 7 ∨ (nodeOf T.nodes x).kind = 8) :
  stmtF (mustT (allL K T) T.vars.length T.nodes) T.vars T.nodes (f + 1) L x (0, 0) = asgF (allL K T) T L (nodeOf T.nodes x) x := by
 obtain ⟨s7, s8, _⟩ := stat_kids ho
 simp only [stmtF]
 rcases hk with hk | hk
 ·obtain ⟨y, hy⟩ := s7 hk
  obtain ⟨h1, h2⟩ := sett_target (T := T) (K := K) (L := L) (n := nodeOf T.nodes x) (x := x) (row := false) (by simp [hk]) (.inl hk)
  unfold asgF
  rw [if_pos hk, h1, hy, if_neg (show ¬ (nodeOf T.nodes x).kind = 8 by omega)]
  by_cases hz : (settF (allL K T) T.vars.length L (nodeOf T.nodes x) x).1 = 0
  ·rw [if_neg (show ¬ (settF (allL K T) T.vars.length L (nodeOf T.nodes x) x).1 ≠ 0 from fun h => h hz), h2 hz]
   have hz2 : settF (allL K T) T.vars.length L (nodeOf T.nodes x) x = (0, 0) := by
    rw [← h1]; exact (target_orz (.inl rfl)).resolve_right (fun h => h (by rw [h1]; exact hz))
   rw [hz2]; rfl
  ·rw [if_pos (show (settF (allL K T) T.vars.length L (nodeOf T.nodes x) x).1 ≠ 0 from hz), must_met hz]
 ·obtain ⟨y, z, hy⟩ := s8 hk
  obtain ⟨h1, h2⟩ := sett_target (T := T) (K := K) (L := L) (n := nodeOf T.nodes x) (x := x) (row := true) (by simp [hk]) (.inr (.inl hk))
  unfold asgF
  rw [if_neg (show ¬ (nodeOf T.nodes x).kind = 7 by omega), if_pos hk, h1, hy, if_pos hk]
  by_cases hz : (settF (allL K T) T.vars.length L (nodeOf T.nodes x) x).1 = 0
  ·rw [if_neg (show ¬ (settF (allL K T) T.vars.length L (nodeOf T.nodes x) x).1 ≠ 0 from fun h => h hz), h2 hz]
   have hz2 : settF (allL K T) T.vars.length L (nodeOf T.nodes x) x = (0, 0) := by
    rw [← h1]; exact (target_orz (.inl rfl)).resolve_right (fun h => h (by rw [h1]; exact hz))
   rw [hz2]; rfl
  ·rw [if_pos (show (settF (allL K T) T.vars.length L (nodeOf T.nodes x) x).1 ≠ 0 from hz), must_met (t := 1) hz, must_met hz]
end Go.Proofs.YteeklmgkhacbcaaGreatDoor
