/-
  errors.As at an error that is a misfit. (After the kit's worked toy 'toyas'.)
-/
import Derived.Test.YtepjaoapjpmjkaaGreatDoorICount
import Derived.Test.YtepjaoapjpmjkaaGreatDoorICount
import Derived.Test.YtepjaoapjpmjkaaGreatDoorINmF
import Derived.Test.YtepjaoapjpmjkaaGreatDoorBase
import Derived.LaidEql
import Derived.Stop.Asserts
import Derived.RowKitTokens
namespace Go.Proofs.YtepjaoapjpmjkaaGreatDoor
open Go.RowKit
set_option linter.unusedVariables false
attribute [local go_sem] bs_size bs_get bs_extract bs_append bs_eq bs_toList
def mayF (T : LTree) : Met :=
 if namesF (allL 0 T) T.vars.length ≠ 0 then (namesF (allL 0 T) T.vars.length, -1)
 else if (bodyF (allL 0 T) T).1 ≠ 0 then bodyF (allL 0 T) T else if 2000 < budT T ∨ 60 < cellsL (allL 0 T) then (2, -1) else (0, 0)
set_option maxHeartbeats 12800000 in
set_option maxRecDepth 100000 in
theorem mayRun_any (lo : Nat) (vv vn vb : Value) (T : LTree) (w : World) (h : TreeV lo w vv vn vb T) (hS : Sized 1048576 T) (h0 : faultL T = 0) :
  Calls Tryz.prog 47 #[treeV vv vn vb] w fun e w' => e = .returned (errV (mayF T)) ∧ Below w.heap.size w w' := by
 have hG := good_of h0
 have HVA : Hid (∀ (w' : World), Below w.heap.size w w' → Calls Tryz.prog 82 #[treeV vv vn vb] w' fun e w2 => ∃ v, e = .returned v ∧ w2.ownsRow w'.heap.size 158 6 v (allL 0 T).length (entC (allL 0 T) T.vars.length (allL 0 T).length) ∧ Below w'.heap.size w' w2) := fun w' hb => variablesOf_any lo vv vn vb T w' (h.below hb) hG
 have HNF : Hid (∀ (ad : Option Addr) (c : Nat) (W : World), RowE W ad (allL 0 T) T.vars.length → Calls Tryz.prog 92 #[.slice ad (allL 0 T).length c] W fun e w' => e = .returned (.int .i64 (namesF (allL 0 T) T.vars.length)) ∧ Below W.heap.size W w') := fun ad c W hr =>
  namesFault_any (allL 0 T) T.vars.length ad _ c W rfl hr (hG.all_len 0) (fun x hx => by have := all_names hG 0 x hx; omega) (by unfold allL; rw [List.length_append]; omega)
 have HCC : Hid (∀ (ad : Option Addr) (c : Nat) (W : World), RowE W ad (allL 0 T) T.vars.length → Calls Tryz.prog 94 #[.slice ad (allL 0 T).length c] W fun e w' => e = .returned (.int .i64 (cellsL (allL 0 T))) ∧ Below W.heap.size W w') := fun ad c W hr => cellCount_any (allL 0 T) T.vars.length ad _ c W rfl hr (hG.sizes 0) (hG.all_len 0)
 have HBU : Hid (∀ (w' : World), Below w.heap.size w w' → Calls Tryz.prog 48 #[treeV vv vn vb] w' fun e w2 => e = .returned (.int .i64 (budT T)) ∧ Below w'.heap.size w' w2) := fun w' hb => budgetOf_any lo vv vn vb T w' (h.below hb) hS hG
 have HNC : Hid (∀ (w' : World), Below w.heap.size w w' → Calls Tryz.prog 40 #[treeV vv vn vb] w' fun e w2 => (∃ cp mp W0, e = .returned (.pointer (some ⟨cp, 0, none⟩)) ∧ CkB lo W0 cp mp vn T (allL 0 T) ∧ ICk W0 w2 cp mp vn (.slice none 0 0) ∧ Below w'.heap.size w' W0) ∧ Below w'.heap.size w' w2) := fun w' hb => newChecker_ctx lo vv vn vb T w' (h.below hb) hG
 have HST : Hid (∀ (W0 W : World) (cp mp : Nat), Below w.heap.size w W0 → CkB lo W0 cp mp vn T (allL 0 T) → ICk W0 W cp mp vn (.slice none 0 0) → Calls Tryz.prog 93 #[.pointer (some ⟨cp, 0, none⟩), vb] W fun e w' => e = .returned (errV (bodyF (allL 0 T) T)) ∧ Below W0.heap.size W w') := fun W0 W cp mp hb hck hic => by
  have hct : CkT lo W0 cp mp vn T (allL 0 T) := ⟨hck, fun vl f x hx hk hf => typeOf_all lo cp mp vn vl T (allL 0 T) (types_ok hG 0) (fits_of h0) (names_small hS) x hx hk f (by omega), fits_of h0, kin_of h0, stk_of h0, hS⟩
  refine (statements_all lo W0 cp mp (cp + 1) 0 vn T hct rfl T.nodes.length (Nat.le_refl _) [] T.body (by have := hG.nodes; simp; omega) hS.body (fun x hx => ⟨hG.body x hx, body_stat h0 x hx⟩) W vb _ hic (LoopO.nil _ _) (h.below hb).body).mono ?_
  rintro e w' ⟨he, vl, _, _, hd⟩
  exact ⟨he, hd.belowN hck.low hic.bel.size rfl⟩
 have hbb : 0 ≤ budT T ∧ budT T ≤ 104857600001 := by
  have := sum_big (costsF_le T.nodes (hG.tame hS) _ (Nat.le_refl _)) hS.body
  unfold budT; omega
 obtain ⟨av, cv, rfl, _⟩ := id h.vars
 obtain ⟨an, cn, rfl, _⟩ := id h.nodes
 obtain ⟨ab, cb, rfl, _⟩ := id h.body
 clear h hS h0 hG
 obtain ⟨R, hR⟩ : ∃ R, R = mayF T := ⟨_, rfl⟩
 rw [← hR]
 have HR : Hid (R = if namesF (allL 0 T) T.vars.length ≠ 0 then (namesF (allL 0 T) T.vars.length, -1)
  else if (bodyF (allL 0 T) T).1 ≠ 0 then bodyF (allL 0 T) T else if 2000 < budT T ∨ 60 < cellsL (allL 0 T) then (2, -1) else (0, 0)) := hR
 clear hR
 generalize namesF (allL 0 T) T.vars.length = F at *
 generalize bodyF (allL 0 T) T = Bd at *
 generalize budT T = bu at *
 obtain ⟨b1, b2⟩ := Bd
 go_enter Tryz.func47, Tryz.ntmps47
 go_wp2_with fail
 have hA := heap_alloc_new w (.cells #[.slice av T.vars.length cv, .slice an T.nodes.length cn, .slice ab T.body.length cb] 34)
 have hb1 : Below w.heap.size w (w.alloc (.cells #[.slice av T.vars.length cv, .slice an T.nodes.length cn, .slice ab T.body.length cb] 34)) := (Below.refl _ _).alloc (Nat.le_refl _) _
 generalize w.alloc (.cells #[.slice av T.vars.length cv, .slice an T.nodes.length cn, .slice ab T.body.length cb] 34) = W1 at *
 refine (HVA.out _ hb1).mono ?_
 rintro e w2 ⟨v, rfl, hown, hb⟩
 obtain ⟨ad, cp0, rfl⟩ := rowE_shape hown
 have HRE : Hid (RowE w2 ad (allL 0 T) T.vars.length) := RowE.of_own hown rfl
 have HA : Hid (w2.heap[w.heap.size]? = some (.cells #[.slice av T.vars.length cv, .slice an T.nodes.length cn, .slice ab T.body.length cb] 34 (0, 0))) := blk hA hb
 have HB : Hid (Below w.heap.size w w2) := hb1.trans (hb.mono hb1.size)
 clear hA hb1 hb hown HVA
 go_wp2_with fail
 refine (HNF.out _ _ _ HRE.out).mono ?_
 rintro e w3 ⟨rfl, hb⟩
 have HRE3 : Hid (RowE w3 ad (allL 0 T) T.vars.length) := HRE.out.below hb
 have hA3 := blk HA.out hb
 have HA3 := hid hA3
 have HB3 : Hid (Below w.heap.size w w3) := HB.out.trans (hb.mono HB.out.size)
 clear hb hA3 HRE HA HB HNF
 by_cases hF : F = 0
 ·subst hF
  have HR2 : Hid (R = if b1 ≠ 0 then (b1, b2) else if 2000 < bu ∨ 60 < cellsL (allL 0 T) then (2, -1) else (0, 0)) := by unfold Hid; rw [HR.out, if_neg (by simp)]
  clear HR
  obtain ⟨p0, p1, p2⟩ := cl3 HA3.out
  have hlt : w.heap.size < w3.heap.size := blk_lt HA3.out
  have HBD : Hid (Below w.heap.size w w3.drew) := HB3.out.drew
  have HX : Hid (w3.drew.heap[w.heap.size]? = some (.cells #[.slice av T.vars.length cv, .slice an T.nodes.length cn, .slice ab T.body.length cb] 34 (0, 0)) ∧ RowE w3.drew ad (allL 0 T) T.vars.length) := ⟨HA3.out, fun hne => HRE3.out hne⟩
  go_wp2_with fail
  go_region_held3 (fun Z => Z.cell? ⟨w.heap.size, 0, none⟩ = some (.slice av T.vars.length cv) ∧ Z.cell? ⟨w.heap.size, 1, none⟩ = some (.slice an T.nodes.length cn) ∧ Z.cell? ⟨w.heap.size, 2, none⟩ = some (.slice ab T.body.length cb)) (go_keep) (first | (go_at_call 40; refine (HNC.out _ HBD.out).mono ?_; rintro e w5 ⟨⟨cp, mp, W0, rfl, hck, hic, hw0⟩, hb5⟩; have s0 := (hb5.cell (p := ⟨w.heap.size, 0, none⟩) hlt).trans p0; have s1 := (hb5.cell (p := ⟨w.heap.size, 1, none⟩) hlt).trans p1; have s2 := (hb5.cell (p := ⟨w.heap.size, 2, none⟩) hlt).trans p2; have HS5 : Hid (Calls Tryz.prog 93 #[.pointer (some ⟨cp, 0, none⟩), .slice ab T.body.length cb] w5 fun e w' => e = .returned (errV (b1, b2)) ∧ Below W0.heap.size w5 w') := HST.out W0 w5 cp mp (HBD.out.trans (hw0.mono HBD.out.size)) hck hic; have HB5 : Hid (Below w3.drew.heap.size w3.drew w5) := hb5; have HW0 : Hid (w3.drew.heap.size ≤ W0.heap.size) := hw0.size; clear hck hic hw0 hb5) | (go_at_call 93; refine HS5.out.mono ?_; rintro e w6 ⟨rfl, hb6⟩; have HB6 : Hid (Below w3.drew.heap.size w3.drew w6) := HB5.out.trans (hb6.mono HW0.out); have u0 := (HB6.out.cell (p := ⟨w.heap.size, 0, none⟩) hlt).trans p0; have u1 := (HB6.out.cell (p := ⟨w.heap.size, 1, none⟩) hlt).trans p1; have u2 := (HB6.out.cell (p := ⟨w.heap.size, 2, none⟩) hlt).trans p2; clear hb6))
  have HB7 : Hid (Below w.heap.size w w6) := HBD.out.trans (HB6.out.mono HBD.out.size)
  have HRE7 : Hid (RowE w6 ad (allL 0 T) T.vars.length) := HX.out.2.below HB6.out
  clear p0 p1 p2 s0 s1 s2 HS5 HB5 HW0 HB6 HX HBD HRE3 HA3 HB3 HNC HST
  by_cases hb : b1 = 0
  ·subst hb
   have HR3 : Hid (R = if 2000 < bu ∨ 60 < cellsL (allL 0 T) then (2, -1) else (0, 0)) := by unfold Hid; rw [HR2.out, if_neg (by simp)]
   rw [errV_zero rfl]
   clear HR2
   go_wp2_with fail
   refine (HBU.out _ HB7.out).mono ?_
   rintro e w8 ⟨rfl, hb8⟩
   have HB8 : Hid (Below w.heap.size w w8) := HB7.out.trans (hb8.mono HB7.out.size)
   have HRE8 : Hid (RowE w8 ad (allL 0 T) T.vars.length) := HRE7.out.below hb8
   clear hb8 HB7 HRE7 u0 u1 u2 HBU
   by_cases hbu : 2000 < bu
   ·have hbd : decide ((2000 : Int) < bu) = true := decide_eq_true hbu
    have HRR : Hid (errV R = .iface 85 (.agg #[.int .i64 2, .int .i64 (-1)])) := by unfold Hid; rw [HR3.out, if_pos (Or.inl hbu), errV_met (show (((2 : Int), (-1 : Int)) : Met).1 ≠ 0 from by simp)]
    clear HR3 hbu HCC
    go_wp2_with fail
    go_ret
    exact ⟨by rw [HRR.out]; rfl, HB8.out⟩
   ·have hbd : decide ((2000 : Int) < bu) = false := decide_eq_false hbu
    by_cases hce : 60 < cellsL (allL 0 T)
    ·have HRR : Hid (errV R = .iface 85 (.agg #[.int .i64 2, .int .i64 (-1)])) := by unfold Hid; rw [HR3.out, if_pos (Or.inr hce), errV_met (show (((2 : Int), (-1 : Int)) : Met).1 ≠ 0 from by simp)]
     clear HR3 hbu
     go_wp2_with fail
     refine (HCC.out _ _ _ HRE8.out).mono ?_
     rintro e w9 ⟨rfl, hb9⟩
     have HB9 : Hid (Below w.heap.size w w9) := HB8.out.trans (hb9.mono HB8.out.size)
     clear hb9 HB8 HCC HRE8
     go_wp2_with fail
     go_ret
     exact ⟨by rw [HRR.out]; rfl, HB9.out⟩
    ·have HRR : Hid (errV R = .nilIface) := by unfold Hid; rw [HR3.out, if_neg (fun h => h.elim hbu hce), errV_zero rfl]
     clear HR3 hbu
     go_wp2_with fail
     refine (HCC.out _ _ _ HRE8.out).mono ?_
     rintro e w9 ⟨rfl, hb9⟩
     have HB9 : Hid (Below w.heap.size w w9) := HB8.out.trans (hb9.mono HB8.out.size)
     clear hb9 HB8 HCC HRE8
     go_wp2_with fail
     go_ret
     exact ⟨by rw [HRR.out]; rfl, HB9.out⟩
  ·have HRR : Hid (errV R = .iface 85 (.agg #[.int .i64 b1, .int .i64 b2])) := by unfold Hid; rw [HR2.out, if_pos hb, errV_met (show ((b1, b2) : Met).1 ≠ 0 from hb)]
   rw [errV_met (show ((b1, b2) : Met).1 ≠ 0 from hb)]
   clear HR2 hb HBU HCC
   go_wp2_with fail
   go_ret
   exact ⟨by rw [HRR.out]; rfl, HB7.out⟩
 ·have hFb : (F == 0) = false := by simpa using hF
  have hFd : decide (F = 0) = false := decide_eq_false hF
  have HRR : Hid (errV R = .iface 85 (.agg #[.int .i64 F, .int .i64 (-1)])) := by unfold Hid; rw [HR.out, if_pos hF, errV_met (show ((F, (-1 : Int)) : Met).1 ≠ 0 from hF)]
  clear HR hF HNC HST HBU HCC
  go_wp2_with fail
  go_ret
  exact ⟨by rw [HRR.out]; rfl, HB3.out⟩
end Go.Proofs.YtepjaoapjpmjkaaGreatDoor
namespace Go.Proofs.YtepjaoapjpmjkaaGreatDoor
open Go.RowKit Go.Extern.Stop Go.Stop Go.Extern
set_option linter.unusedVariables false
theorem as_nil (t : Value) (w : World) :
  Calls Tryz.prog 85 #[.nilIface, t] w fun e w' => e = .returned (.bool false) ∧ w' = w := by
 go_enter Tryz.func85, Tryz.ntmps85
 go_wp2
 go_ret
 exact ⟨rfl, rfl⟩
theorem valueOfP (t : Addr) (w : World) : (ReflectliteValue.unpack (.iface 132 (.pointer (some t)))).run Tryz.prog w
  = .ok (.agg #[.pointer (some ⟨1, 132, none⟩), .pointer (some ⟨w.heap.size, 0, none⟩), .int .u64 150]) (w.alloc (.cells #[.pointer (some t)] 132)) := by kernel_rfl
theorem typeP (a : Addr) (w : World) : (ReflectliteValue.methodAny (ReflectliteValue.valueError "reflectlite.Value.Type" 0) (fun t _ _ _ => ReflectliteType.toType t) #[.agg #[.pointer (some ⟨1, 132, none⟩), .pointer (some a), .int .u64 150]]).run Tryz.prog w
  = .ok (.iface 187 (.agg #[.pointer (some ⟨1, 132, none⟩)])) w := by kernel_rfl
theorem kindP (w : World) : ((ReflectliteType.abiMethod fun t => (fun a : Nat => Value.int IntKind.u8 (a : Int)) <$> Rtype.kind t) #[.pointer (some ⟨1, 132, none⟩)]).run Tryz.prog w = .ok (.int .u8 22) w := by kernel_rfl
theorem kindM (w : World) : ((ReflectliteType.abiMethod fun t => (fun a : Nat => Value.int IntKind.u8 (a : Int)) <$> Rtype.kind t) #[.pointer (some ⟨1, 85, none⟩)]).run Tryz.prog w = .ok (.int .u8 25) w := by kernel_rfl
theorem rlm (z : Sem Value) (f : TypeId → Addr → Nat → Nat → Sem Value) (v : Value) :
  ReflectliteValue.method z f #[v] = (do match ← ReflectliteValue.parts v with | none => z | some (t, a, fl) => f t a fl (fl % 32)) := rfl
theorem partsP (a : Addr) (w : World) : (ReflectliteValue.parts (.agg #[.pointer (some ⟨1, 132, none⟩), .pointer (some a), .int .u64 150])).run Tryz.prog w = .ok (some (132, a, 150)) w := by kernel_rfl
theorem isNilP (a p : Addr) (W : World) (ha : W.cell? a = some (.pointer (some p))) :
  (ReflectliteValue.method (ReflectliteValue.valueError "reflectlite.Value.IsNil" 0) ReflectliteValue.isNil #[.agg #[.pointer (some ⟨1, 132, none⟩), .pointer (some a), .int .u64 150]]).run Tryz.prog W = .ok (.bool false) W := by
 rw [rlm]
 simp only [Sem.run_bind, partsP, Result.andThen]
 simp [ReflectliteValue.isNil, loadVar, isAgg, underlying, Tryz.underlying132, ha, Result.andThen]
theorem elemP (w : World) : (ReflectliteType.method ReflectliteType.elem #[.agg #[.pointer (some ⟨1, 132, none⟩)]]).run Tryz.prog w = .ok (.iface 187 (.agg #[.pointer (some ⟨1, 85, none⟩)])) w := by kernel_rfl
theorem implementsM (w : World) : (ReflectliteType.relation "Implements" ReflectliteType.implements_ #[.agg #[.pointer (some ⟨1, 85, none⟩)], .iface 187 (.agg #[.pointer (some ⟨1, 79, none⟩)])]).run Tryz.prog w = .ok (.bool true) w := by kernel_rfl
theorem typeOfM (v : Value) (w : World) : (ReflectliteType.typeOf #[.iface 85 v]).run Tryz.prog w = .ok (.iface 187 (.agg #[.pointer (some ⟨1, 85, none⟩)])) w := by kernel_rfl
theorem assignableM (w : World) : (ReflectliteType.relation "AssignableTo" ReflectliteType.assignableTo #[.agg #[.pointer (some ⟨1, 85, none⟩)], .iface 187 (.agg #[.pointer (some ⟨1, 85, none⟩)])]).run Tryz.prog w = .ok (.bool true) w := by kernel_rfl
theorem valueOfM (c n : Int) (w : World) : (ReflectliteValue.unpack (.iface 85 (.agg #[.int .i64 c, .int .i64 n]))).run Tryz.prog w
  = .ok (.agg #[.pointer (some ⟨1, 85, none⟩), .pointer (some ⟨w.heap.size, 0, none⟩), .int .u64 153]) (w.alloc (.cells #[.int .i64 c, .int .i64 n] 85)) := by kernel_rfl
theorem elemOfP (w : World) : (Rtype.elem? 132).run Tryz.prog w = .ok (some 85) w := by kernel_rfl
theorem mkM (p : Addr) (w : World) : (ReflectliteValue.mk 85 p ReflectliteValue.flagAddr).run Tryz.prog w = .ok (.agg #[.pointer (some ⟨1, 85, none⟩), .pointer (some p), .int .u64 409]) w := by kernel_rfl
theorem elemVP (a p : Addr) (W : World) (ha : W.cell? a = some (.pointer (some p))) :
  (ReflectliteValue.method (ReflectliteValue.valueError "reflectlite.Value.Elem" 0) ReflectliteValue.elem #[.agg #[.pointer (some ⟨1, 132, none⟩), .pointer (some a), .int .u64 150]]).run Tryz.prog W
   = .ok (.agg #[.pointer (some ⟨1, 85, none⟩), .pointer (some p), .int .u64 409]) W := by
 rw [rlm]
 simp only [Sem.run_bind, partsP, Result.andThen]
 simp [ReflectliteValue.elem, loadVar, isAgg, underlying, Tryz.underlying132, ha, Result.andThen, elemOfP, mkM]
theorem partsMa (a : Addr) (w : World) : (ReflectliteValue.parts (.agg #[.pointer (some ⟨1, 85, none⟩), .pointer (some a), .int .u64 409])).run Tryz.prog w = .ok (some (85, a, 409)) w := by kernel_rfl
theorem partsM (a : Addr) (w : World) : (ReflectliteValue.parts (.agg #[.pointer (some ⟨1, 85, none⟩), .pointer (some a), .int .u64 153])).run Tryz.prog w = .ok (some (85, a, 153)) w := by kernel_rfl
theorem directM (w : World) : (Rtype.directlyAssignable 85 85).run Tryz.prog w = .ok true w := by kernel_rfl
theorem sizeM (w : World) : (sizeOf 85).run Tryz.prog w = .ok 2 w := by kernel_rfl
end Go.Proofs.YtepjaoapjpmjkaaGreatDoor
namespace Go.Proofs.YtepjaoapjpmjkaaGreatDoor
open Go.RowKit Go.Extern.Stop Go.Stop Go.Extern
set_option linter.unusedVariables false
theorem methodKind (h : Value) (w : World) : (Go.method 236 187 (.agg #[h]) "Kind").run Tryz.prog w = .ok (163, h) w := by kernel_rfl
theorem methodElem (h : Value) (w : World) : (Go.method 236 187 (.agg #[h]) "Elem").run Tryz.prog w = .ok (173, .agg #[h]) w := by kernel_rfl
theorem methodImplements (h : Value) (w : World) : (Go.method 236 187 (.agg #[h]) "Implements").run Tryz.prog w = .ok (174, .agg #[h]) w := by kernel_rfl
theorem methodAssignableTo (h : Value) (w : World) : (Go.method 236 187 (.agg #[h]) "AssignableTo").run Tryz.prog w = .ok (171, .agg #[h]) w := by kernel_rfl
theorem rls (v x : Value) : ReflectliteValue.set #[v, x] = (do
  let (some (dst, a, fl), some (src, b, _)) := (← ReflectliteValue.parts v, ← ReflectliteValue.parts x)
   | unsupported (.noEntry "extern/(internal/reflectlite.Value).Set.zeroValue")
  if fl / ReflectliteValue.flagAddr % 2 == 0 then unsupported (.noEntry "extern/(internal/reflectlite.Value).Set.unaddressable")
  let val ← loadVar src b
  if ← Rtype.directlyAssignable dst src then storeVar dst a val
  else if ← Rtype.implements dst src then
   if (← Rtype.kind src) == 20 then
    match val with
    | .nilIface => unsupported (.noEntry "extern/reflectlite: a nil value of one interface type handed on as a value of another")
    | _ => storeVar dst a val
   else storeVar dst a (.iface src val)
  else panicString ("reflectlite.Set: value of type " ++ (← Rtype.spelt src) ++ " is not assignable to type " ++ (← Rtype.spelt dst))
  pure (.tuple #[])) := rfl
theorem loadM (g : Nat) (c n : Int) (W : World) (h : W.heap[g]? = some (.cells #[.int .i64 c, .int .i64 n] 85 (0, 0))) : (loadVar 85 ⟨g, 0, none⟩).run Tryz.prog W = .ok (.agg #[.int .i64 c, .int .i64 n]) W := by
 obtain ⟨c0, c1⟩ := cl2 h
 simp [loadVar, go_sem, c0, c1]
theorem storeM (g : Nat) (c n x y : Int) (W : World) (h : W.heap[g]? = some (.cells #[.int .i64 x, .int .i64 y] 85 (0, 0))) : (storeVar 85 ⟨g, 0, none⟩ (.agg #[.int .i64 c, .int .i64 n])).run Tryz.prog W = .ok () ((W.setCell ⟨g, 0, none⟩ (.int .i64 c)).setCell ⟨g, 1, none⟩ (.int .i64 n)) := by
 obtain ⟨c0, c1⟩ := cl2 h
 obtain ⟨f0, f1⟩ := fl2 h
 simp [storeVar, go_sem, c0, c1, f0, f1]
theorem heap_last2 (w : World) (o : Obj) (g : Nat) (h : w.heap.size = g) : (w.alloc o).heap[g]? = some o := by subst h; exact heap_alloc_new w o
theorem setM (tg bg : Nat) (c n x y : Int) (W : World) (hb : W.heap[bg]? = some (.cells #[.int .i64 c, .int .i64 n] 85 (0, 0))) (ht : W.heap[tg]? = some (.cells #[.int .i64 x, .int .i64 y] 85 (0, 0))) :
  (ReflectliteValue.set #[.agg #[.pointer (some ⟨1, 85, none⟩), .pointer (some ⟨tg, 0, none⟩), .int .u64 409], .agg #[.pointer (some ⟨1, 85, none⟩), .pointer (some ⟨bg, 0, none⟩), .int .u64 153]]).run Tryz.prog W
   = .ok (.tuple #[]) ((W.setCell ⟨tg, 0, none⟩ (.int .i64 c)).setCell ⟨tg, 1, none⟩ (.int .i64 n)) := by
 rw [rls]
 simp only [Sem.run_bind, partsMa, partsM, Result.andThen]
 simp [ReflectliteValue.flagAddr, loadM bg c n W hb, Result.andThen, directM, storeM tg c n x y W ht]
set_option maxHeartbeats 8000000 in
theorem as_world (c n x y : Int) (g : Nat) (w : World) (hg : w.cell? ⟨0, 0, none⟩ = some (.iface 187 (.agg #[.pointer (some ⟨1, 79, none⟩)]))) (ht : w.heap[g]? = some (.cells #[.int .i64 x, .int .i64 y] 85 (0, 0))) :
  Calls Tryz.prog 85 #[.iface 85 (.agg #[.int .i64 c, .int .i64 n]), .iface 132 (.pointer (some ⟨g, 0, none⟩))] w fun ev w' => ev = .returned (.bool true) ∧ w' = (((((w.alloc (.cells #[.pointer (some ⟨g, 0, none⟩)] 132)).alloc (.cells #[.pointer (some ⟨1, 132, none⟩), .pointer (some ⟨w.heap.size, 0, none⟩), .int .u64 150] 170)).alloc (.cells #[.pointer (some ⟨1, 132, none⟩), .pointer (some ⟨w.heap.size, 0, none⟩), .int .u64 150] 170)).alloc (.cells #[.int .i64 c, .int .i64 n] 85)).setCell ⟨g, 0, none⟩ (.int .i64 c)).setCell ⟨g, 1, none⟩ (.int .i64 n) := by
 have h6 := @run_callFunc_extern Tryz.prog 122 _ (fun args => ReflectliteValue.unpack (args.getD 0 (.tuple #[]))) Tryz.func122 (by kernel_rfl) (by kernel_rfl) (by kernel_rfl) (by kernel_rfl)
 have h7 := @run_callFunc_extern Tryz.prog 123 _ (ReflectliteValue.methodAny (ReflectliteValue.valueError "reflectlite.Value.Type" 0) (fun t _ _ _ => ReflectliteType.toType t)) Tryz.func123 (by kernel_rfl) (by kernel_rfl) (by kernel_rfl) (by kernel_rfl)
 have h8 := @run_callFunc_extern Tryz.prog 124 _ (ReflectliteValue.method (ReflectliteValue.valueError "reflectlite.Value.IsNil" 0) ReflectliteValue.isNil) Tryz.func124 (by kernel_rfl) (by kernel_rfl) (by kernel_rfl) (by kernel_rfl)
 have h27 := @run_callFunc_extern Tryz.prog 163 _ (ReflectliteType.abiMethod fun t => do pure (.int .u8 (← Rtype.kind t))) Tryz.func163 (by kernel_rfl) (by kernel_rfl) (by kernel_rfl) (by kernel_rfl)
 have h37 := @run_callFunc_extern Tryz.prog 173 _ (ReflectliteType.method ReflectliteType.elem) Tryz.func173 (by kernel_rfl) (by kernel_rfl) (by kernel_rfl) (by kernel_rfl)
 have h38 := @run_callFunc_extern Tryz.prog 174 _ (ReflectliteType.relation "Implements" ReflectliteType.implements_) Tryz.func174 (by kernel_rfl) (by kernel_rfl) (by kernel_rfl) (by kernel_rfl)
 have h10 := @run_callFunc_extern Tryz.prog 136 _ ReflectliteType.typeOf Tryz.func136 (by kernel_rfl) (by kernel_rfl) (by kernel_rfl) (by kernel_rfl)
 have h35 := @run_callFunc_extern Tryz.prog 171 _ (ReflectliteType.relation "AssignableTo" ReflectliteType.assignableTo) Tryz.func171 (by kernel_rfl) (by kernel_rfl) (by kernel_rfl) (by kernel_rfl)
 have h11 := @run_callFunc_extern Tryz.prog 137 _ (ReflectliteValue.method (ReflectliteValue.valueError "reflectlite.Value.Elem" 0) ReflectliteValue.elem) Tryz.func137 (by kernel_rfl) (by kernel_rfl) (by kernel_rfl) (by kernel_rfl)
 have h12 := @run_callFunc_extern Tryz.prog 138 _ ReflectliteValue.set Tryz.func138 (by kernel_rfl) (by kernel_rfl) (by kernel_rfl) (by kernel_rfl)
 have tO := typeOfM
 have mA := methodAssignableTo
 have a25 := assignableM
 have v25 := valueOfM
 have f6 := valueOfP
 have f7 := typeP
 have mK := methodKind
 have mE := methodElem
 have mI := methodImplements
 have k27 := kindP
 have k25 := kindM
 have e27 := elemP
 have i25 := implementsM
 have htl : g < w.heap.size := (Array.getElem?_eq_some_iff.1 ht).1
 have hlt : 0 < w.heap.size := World.block_lt_of_cell? _ _ hg
 have b1 : Below w.heap.size w (w.alloc (.cells #[.pointer (some ⟨g, 0, none⟩)] 132)) := (Below.refl _ _).alloc (Nat.le_refl _) _
 have b2 : Below w.heap.size w ((w.alloc (.cells #[.pointer (some ⟨g, 0, none⟩)] 132)).alloc (.cells #[.pointer (some ⟨1, 132, none⟩), .pointer (some ⟨w.heap.size, 0, none⟩), .int .u64 150] 170)) := b1.alloc b1.size _
 have b3 : Below w.heap.size w (((w.alloc (.cells #[.pointer (some ⟨g, 0, none⟩)] 132)).alloc (.cells #[.pointer (some ⟨1, 132, none⟩), .pointer (some ⟨w.heap.size, 0, none⟩), .int .u64 150] 170)).alloc (.cells #[.pointer (some ⟨1, 132, none⟩), .pointer (some ⟨w.heap.size, 0, none⟩), .int .u64 150] 170)) := b2.alloc b2.size _
 have b4 : Below w.heap.size w ((((w.alloc (.cells #[.pointer (some ⟨g, 0, none⟩)] 132)).alloc (.cells #[.pointer (some ⟨1, 132, none⟩), .pointer (some ⟨w.heap.size, 0, none⟩), .int .u64 150] 170)).alloc (.cells #[.pointer (some ⟨1, 132, none⟩), .pointer (some ⟨w.heap.size, 0, none⟩), .int .u64 150] 170)).alloc (.cells #[.int .i64 c, .int .i64 n] 85)) := b3.alloc b3.size _
 have n8 := isNilP ⟨w.heap.size, 0, none⟩ ⟨g, 0, none⟩ ((w.alloc (.cells #[.pointer (some ⟨g, 0, none⟩)] 132)).alloc (.cells #[.pointer (some ⟨1, 132, none⟩), .pointer (some ⟨w.heap.size, 0, none⟩), .int .u64 150] 170)) (by simp)
 have hg2 : ((w.alloc (.cells #[.pointer (some ⟨g, 0, none⟩)] 132)).alloc (.cells #[.pointer (some ⟨1, 132, none⟩), .pointer (some ⟨w.heap.size, 0, none⟩), .int .u64 150] 170)).cell? ⟨0, 0, none⟩ = some (.iface 187 (.agg #[.pointer (some ⟨1, 79, none⟩)])) := (b2.cell (p := ⟨0, 0, none⟩) hlt).trans hg
 have el := elemVP ⟨w.heap.size, 0, none⟩ ⟨g, 0, none⟩ (((w.alloc (.cells #[.pointer (some ⟨g, 0, none⟩)] 132)).alloc (.cells #[.pointer (some ⟨1, 132, none⟩), .pointer (some ⟨w.heap.size, 0, none⟩), .int .u64 150] 170)).alloc (.cells #[.pointer (some ⟨1, 132, none⟩), .pointer (some ⟨w.heap.size, 0, none⟩), .int .u64 150] 170)) (by rw [World.cell?_alloc_lt _ _ ⟨w.heap.size, 0, none⟩ (by simp; omega)]; simp)
 have st := setM g (w.heap.size + 1 + 1 + 1) c n x y ((((w.alloc (.cells #[.pointer (some ⟨g, 0, none⟩)] 132)).alloc (.cells #[.pointer (some ⟨1, 132, none⟩), .pointer (some ⟨w.heap.size, 0, none⟩), .int .u64 150] 170)).alloc (.cells #[.pointer (some ⟨1, 132, none⟩), .pointer (some ⟨w.heap.size, 0, none⟩), .int .u64 150] 170)).alloc (.cells #[.int .i64 c, .int .i64 n] 85))
  (heap_last2 _ _ _ (by simp)) ((b4.block g htl).trans ht)
 clear b1 b2 b3 b4 ht htl hlt
 go_enter Tryz.func85, Tryz.ntmps85
 go_wp2
 refine wp_loop_rounds 1 ?_
 rw [rounds_succ]
 go_wp2
 go_ret
 exact ⟨rfl, rfl⟩
end Go.Proofs.YtepjaoapjpmjkaaGreatDoor
