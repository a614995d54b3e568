/-
  The Go function laws.FnExactCheckTree answers true at every input and writes nothing that was there, where the variable errors.errorType holds the handle of the type error, as the program's text lays it. No other condition.
-/
import Derived.Test.YtepjaoapjpmjkaaGreatDoorICount
import Derived.Test.YtepjaoapjpmjkaaGreatDoorINmF
import Derived.Test.YtepjaoapjpmjkaaGreatDoorIShape
import Derived.Test.YtepjaoapjpmjkaaGreatDoorIFault
import Derived.Test.YtepjaoapjpmjkaaGreatDoorSTree
import Derived.Test.YtepjaoapjpmjkaaGreatDoorSCall
import Derived.Test.YtepjaoapjpmjkaaGreatDoorTreeMath
namespace Go.Proofs.YtepjaoapjpmjkaaGreatDoor
open Go.RowKit
set_option linter.unusedVariables false
attribute [local go_sem] bs_size bs_get bs_extract bs_append bs_eq bs_toList
def mayF (T : LTree) : Met :=
 if namesF (allL 0 T) T.vars.length ≠ 0 then (namesF (allL 0 T) T.vars.length, -1)
 else if (bodyF (allL 0 T) T).1 ≠ 0 then bodyF (allL 0 T) T else if 2000 < budT T ∨ 60 < cellsL (allL 0 T) then (2, -1) else (0, 0)
set_option maxHeartbeats 12800000 in
set_option maxRecDepth 100000 in
theorem mayRun_any (lo : Nat) (vv vn vb : Value) (T : LTree) (w : World) (h : TreeV lo w vv vn vb T) (hS : Sized 1048576 T) (h0 : faultL T = 0) :
  Calls Tryz.prog 47 #[treeV vv vn vb] w fun e w' => e = .returned (errV (mayF T)) ∧ Below w.heap.size w w' := by
 have hG := good_of h0
 have HVA : Hid (∀ (w' : World), Below w.heap.size w w' → Calls Tryz.prog 82 #[treeV vv vn vb] w' fun e w2 => ∃ v, e = .returned v ∧ w2.ownsRow w'.heap.size 158 6 v (allL 0 T).length (entC (allL 0 T) T.vars.length (allL 0 T).length) ∧ Below w'.heap.size w' w2) := fun w' hb => variablesOf_any lo vv vn vb T w' (h.below hb) hG
 have HNF : Hid (∀ (ad : Option Addr) (c : Nat) (W : World), RowE W ad (allL 0 T) T.vars.length → Calls Tryz.prog 92 #[.slice ad (allL 0 T).length c] W fun e w' => e = .returned (.int .i64 (namesF (allL 0 T) T.vars.length)) ∧ Below W.heap.size W w') := fun ad c W hr =>
  namesFault_any (allL 0 T) T.vars.length ad _ c W rfl hr (hG.all_len 0) (fun x hx => by have := all_names hG 0 x hx; omega) (by unfold allL; rw [List.length_append]; omega)
 have HCC : Hid (∀ (ad : Option Addr) (c : Nat) (W : World), RowE W ad (allL 0 T) T.vars.length → Calls Tryz.prog 94 #[.slice ad (allL 0 T).length c] W fun e w' => e = .returned (.int .i64 (cellsL (allL 0 T))) ∧ Below W.heap.size W w') := fun ad c W hr => cellCount_any (allL 0 T) T.vars.length ad _ c W rfl hr (hG.sizes 0) (hG.all_len 0)
 have HBU : Hid (∀ (w' : World), Below w.heap.size w w' → Calls Tryz.prog 48 #[treeV vv vn vb] w' fun e w2 => e = .returned (.int .i64 (budT T)) ∧ Below w'.heap.size w' w2) := fun w' hb => budgetOf_any lo vv vn vb T w' (h.below hb) hS hG
 have HNC : Hid (∀ (w' : World), Below w.heap.size w w' → Calls Tryz.prog 40 #[treeV vv vn vb] w' fun e w2 => (∃ cp mp W0, e = .returned (.pointer (some ⟨cp, 0, none⟩)) ∧ CkB lo W0 cp mp vn T (allL 0 T) ∧ ICk W0 w2 cp mp vn (.slice none 0 0) ∧ Below w'.heap.size w' W0) ∧ Below w'.heap.size w' w2) := fun w' hb => newChecker_ctx lo vv vn vb T w' (h.below hb) hG
 have HST : Hid (∀ (W0 W : World) (cp mp : Nat), Below w.heap.size w W0 → CkB lo W0 cp mp vn T (allL 0 T) → ICk W0 W cp mp vn (.slice none 0 0) → Calls Tryz.prog 93 #[.pointer (some ⟨cp, 0, none⟩), vb] W fun e w' => e = .returned (errV (bodyF (allL 0 T) T)) ∧ Below W0.heap.size W w') := fun W0 W cp mp hb hck hic => by
  have hct : CkT lo W0 cp mp vn T (allL 0 T) := ⟨hck, fun vl f x hx hk hf => typeOf_all lo cp mp vn vl T (allL 0 T) (types_ok hG 0) (fits_of h0) (names_small hS) x hx hk f (by omega), fits_of h0, kin_of h0, stk_of h0, hS⟩
  refine (statements_all lo W0 cp mp (cp + 1) 0 vn T hct rfl T.nodes.length (Nat.le_refl _) [] T.body (by have := hG.nodes; simp; omega) hS.body (fun x hx => ⟨hG.body x hx, body_stat h0 x hx⟩) W vb _ hic (LoopO.nil _ _) (h.below hb).body).mono ?_
  rintro e w' ⟨he, vl, _, _, hd⟩
  exact ⟨he, hd.belowN hck.low hic.bel.size rfl⟩
 have hbb : 0 ≤ budT T ∧ budT T ≤ 104857600001 := by
  have := sum_big (costsF_le T.nodes (hG.tame hS) _ (Nat.le_refl _)) hS.body
  unfold budT; omega
 obtain ⟨av, cv, rfl, _⟩ := id h.vars
 obtain ⟨an, cn, rfl, _⟩ := id h.nodes
 obtain ⟨ab, cb, rfl, _⟩ := id h.body
 clear h hS h0 hG
 obtain ⟨R, hR⟩ : ∃ R, R = mayF T := ⟨_, rfl⟩
 rw [← hR]
 have HR : Hid (R = if namesF (allL 0 T) T.vars.length ≠ 0 then (namesF (allL 0 T) T.vars.length, -1)
  else if (bodyF (allL 0 T) T).1 ≠ 0 then bodyF (allL 0 T) T else if 2000 < budT T ∨ 60 < cellsL (allL 0 T) then (2, -1) else (0, 0)) := hR
 clear hR
 generalize namesF (allL 0 T) T.vars.length = F at *
 generalize bodyF (allL 0 T) T = Bd at *
 generalize budT T = bu at *
 obtain ⟨b1, b2⟩ := Bd
 go_enter Tryz.func47, Tryz.ntmps47
 go_wp2_with fail
 have hA := heap_alloc_new w (.cells #[.slice av T.vars.length cv, .slice an T.nodes.length cn, .slice ab T.body.length cb] 34)
 have hb1 : Below w.heap.size w (w.alloc (.cells #[.slice av T.vars.length cv, .slice an T.nodes.length cn, .slice ab T.body.length cb] 34)) := (Below.refl _ _).alloc (Nat.le_refl _) _
 generalize w.alloc (.cells #[.slice av T.vars.length cv, .slice an T.nodes.length cn, .slice ab T.body.length cb] 34) = W1 at *
 refine (HVA.out _ hb1).mono ?_
 rintro e w2 ⟨v, rfl, hown, hb⟩
 obtain ⟨ad, cp0, rfl⟩ := rowE_shape hown
 have HRE : Hid (RowE w2 ad (allL 0 T) T.vars.length) := RowE.of_own hown rfl
 have HA : Hid (w2.heap[w.heap.size]? = some (.cells #[.slice av T.vars.length cv, .slice an T.nodes.length cn, .slice ab T.body.length cb] 34 (0, 0))) := blk hA hb
 have HB : Hid (Below w.heap.size w w2) := hb1.trans (hb.mono hb1.size)
 clear hA hb1 hb hown HVA
 go_wp2_with fail
 refine (HNF.out _ _ _ HRE.out).mono ?_
 rintro e w3 ⟨rfl, hb⟩
 have HRE3 : Hid (RowE w3 ad (allL 0 T) T.vars.length) := HRE.out.below hb
 have hA3 := blk HA.out hb
 have HA3 := hid hA3
 have HB3 : Hid (Below w.heap.size w w3) := HB.out.trans (hb.mono HB.out.size)
 clear hb hA3 HRE HA HB HNF
 by_cases hF : F = 0
 ·subst hF
  have HR2 : Hid (R = if b1 ≠ 0 then (b1, b2) else if 2000 < bu ∨ 60 < cellsL (allL 0 T) then (2, -1) else (0, 0)) := by unfold Hid; rw [HR.out, if_neg (by simp)]
  clear HR
  obtain ⟨p0, p1, p2⟩ := cl3 HA3.out
  have hlt : w.heap.size < w3.heap.size := blk_lt HA3.out
  have HBD : Hid (Below w.heap.size w w3.drew) := HB3.out.drew
  have HX : Hid (w3.drew.heap[w.heap.size]? = some (.cells #[.slice av T.vars.length cv, .slice an T.nodes.length cn, .slice ab T.body.length cb] 34 (0, 0)) ∧ RowE w3.drew ad (allL 0 T) T.vars.length) := ⟨HA3.out, fun hne => HRE3.out hne⟩
  go_wp2_with fail
  go_region_held3 (fun Z => Z.cell? ⟨w.heap.size, 0, none⟩ = some (.slice av T.vars.length cv) ∧ Z.cell? ⟨w.heap.size, 1, none⟩ = some (.slice an T.nodes.length cn) ∧ Z.cell? ⟨w.heap.size, 2, none⟩ = some (.slice ab T.body.length cb)) (go_keep) (first | (go_at_call 40; refine (HNC.out _ HBD.out).mono ?_; rintro e w5 ⟨⟨cp, mp, W0, rfl, hck, hic, hw0⟩, hb5⟩; have s0 := (hb5.cell (p := ⟨w.heap.size, 0, none⟩) hlt).trans p0; have s1 := (hb5.cell (p := ⟨w.heap.size, 1, none⟩) hlt).trans p1; have s2 := (hb5.cell (p := ⟨w.heap.size, 2, none⟩) hlt).trans p2; have HS5 : Hid (Calls Tryz.prog 93 #[.pointer (some ⟨cp, 0, none⟩), .slice ab T.body.length cb] w5 fun e w' => e = .returned (errV (b1, b2)) ∧ Below W0.heap.size w5 w') := HST.out W0 w5 cp mp (HBD.out.trans (hw0.mono HBD.out.size)) hck hic; have HB5 : Hid (Below w3.drew.heap.size w3.drew w5) := hb5; have HW0 : Hid (w3.drew.heap.size ≤ W0.heap.size) := hw0.size; clear hck hic hw0 hb5) | (go_at_call 93; refine HS5.out.mono ?_; rintro e w6 ⟨rfl, hb6⟩; have HB6 : Hid (Below w3.drew.heap.size w3.drew w6) := HB5.out.trans (hb6.mono HW0.out); have u0 := (HB6.out.cell (p := ⟨w.heap.size, 0, none⟩) hlt).trans p0; have u1 := (HB6.out.cell (p := ⟨w.heap.size, 1, none⟩) hlt).trans p1; have u2 := (HB6.out.cell (p := ⟨w.heap.size, 2, none⟩) hlt).trans p2; clear hb6))
  have HB7 : Hid (Below w.heap.size w w6) := HBD.out.trans (HB6.out.mono HBD.out.size)
  have HRE7 : Hid (RowE w6 ad (allL 0 T) T.vars.length) := HX.out.2.below HB6.out
  clear p0 p1 p2 s0 s1 s2 HS5 HB5 HW0 HB6 HX HBD HRE3 HA3 HB3 HNC HST
  by_cases hb : b1 = 0
  ·subst hb
   have HR3 : Hid (R = if 2000 < bu ∨ 60 < cellsL (allL 0 T) then (2, -1) else (0, 0)) := by unfold Hid; rw [HR2.out, if_neg (by simp)]
   rw [errV_zero rfl]
   clear HR2
   go_wp2_with fail
   refine (HBU.out _ HB7.out).mono ?_
   rintro e w8 ⟨rfl, hb8⟩
   have HB8 : Hid (Below w.heap.size w w8) := HB7.out.trans (hb8.mono HB7.out.size)
   have HRE8 : Hid (RowE w8 ad (allL 0 T) T.vars.length) := HRE7.out.below hb8
   clear hb8 HB7 HRE7 u0 u1 u2 HBU
   by_cases hbu : 2000 < bu
   ·have hbd : decide ((2000 : Int) < bu) = true := decide_eq_true hbu
    have HRR : Hid (errV R = .iface 85 (.agg #[.int .i64 2, .int .i64 (-1)])) := by unfold Hid; rw [HR3.out, if_pos (Or.inl hbu), errV_met (show (((2 : Int), (-1 : Int)) : Met).1 ≠ 0 from by simp)]
    clear HR3 hbu HCC
    go_wp2_with fail
    go_ret
    exact ⟨by rw [HRR.out]; rfl, HB8.out⟩
   ·have hbd : decide ((2000 : Int) < bu) = false := decide_eq_false hbu
    by_cases hce : 60 < cellsL (allL 0 T)
    ·have HRR : Hid (errV R = .iface 85 (.agg #[.int .i64 2, .int .i64 (-1)])) := by unfold Hid; rw [HR3.out, if_pos (Or.inr hce), errV_met (show (((2 : Int), (-1 : Int)) : Met).1 ≠ 0 from by simp)]
     clear HR3 hbu
     go_wp2_with fail
     refine (HCC.out _ _ _ HRE8.out).mono ?_
     rintro e w9 ⟨rfl, hb9⟩
     have HB9 : Hid (Below w.heap.size w w9) := HB8.out.trans (hb9.mono HB8.out.size)
     clear hb9 HB8 HCC HRE8
     go_wp2_with fail
     go_ret
     exact ⟨by rw [HRR.out]; rfl, HB9.out⟩
    ·have HRR : Hid (errV R = .nilIface) := by unfold Hid; rw [HR3.out, if_neg (fun h => h.elim hbu hce), errV_zero rfl]
     clear HR3 hbu
     go_wp2_with fail
     refine (HCC.out _ _ _ HRE8.out).mono ?_
     rintro e w9 ⟨rfl, hb9⟩
     have HB9 : Hid (Below w.heap.size w w9) := HB8.out.trans (hb9.mono HB8.out.size)
     clear hb9 HB8 HCC HRE8
     go_wp2_with fail
     go_ret
     exact ⟨by rw [HRR.out]; rfl, HB9.out⟩
  ·have HRR : Hid (errV R = .iface 85 (.agg #[.int .i64 b1, .int .i64 b2])) := by unfold Hid; rw [HR2.out, if_pos hb, errV_met (show ((b1, b2) : Met).1 ≠ 0 from hb)]
   rw [errV_met (show ((b1, b2) : Met).1 ≠ 0 from hb)]
   clear HR2 hb HBU HCC
   go_wp2_with fail
   go_ret
   exact ⟨by rw [HRR.out]; rfl, HB7.out⟩
 ·have hFb : (F == 0) = false := by simpa using hF
  have hFd : decide (F = 0) = false := decide_eq_false hF
  have HRR : Hid (errV R = .iface 85 (.agg #[.int .i64 F, .int .i64 (-1)])) := by unfold Hid; rw [HR.out, if_pos hF, errV_met (show ((F, (-1 : Int)) : Met).1 ≠ 0 from hF)]
  clear HR hF HNC HST HBU HCC
  go_wp2_with fail
  go_ret
  exact ⟨by rw [HRR.out]; rfl, HB3.out⟩
end Go.Proofs.YtepjaoapjpmjkaaGreatDoor
namespace Go.Proofs.YtepjaoapjpmjkaaGreatDoor
open Go.RowKit
set_option linter.unusedVariables false
attribute [local go_sem] bs_size bs_get bs_extract bs_append bs_eq bs_toList
theorem any_name (V W : List LVar) : V.map LVar.name = W.map LVar.name → V.any (fun v => !isNameL v.name) = W.any (fun v => !isNameL v.name) := by
 intro h
 have e : ∀ U : List LVar, U.any (fun v => !isNameL v.name) = (U.map LVar.name).any (fun l => !isNameL l) := fun U => by rw [List.any_map]; rfl
 rw [e, e, h]
theorem names_kind (T : LTree) : namesF (allL 3 T) T.vars.length = namesF (allL 0 T) T.vars.length := by
 unfold namesF
 rw [dup_kind T]
 have : (List.drop T.vars.length (allL 3 T)).any (fun v => !isNameL v.name) = (List.drop T.vars.length (allL 0 T)).any (fun v => !isNameL v.name) := by
  apply any_name
  rw [List.map_drop, List.map_drop, nts_names (allL_nts T)]
 rw [this]
theorem must_kind (T : LTree) : mustT (allL 3 T) T.vars.length T.nodes = mustT (allL 0 T) T.vars.length T.nodes := by
 funext y t st
 unfold mustT
 rw [typeF_kind]
theorem body_kind (T : LTree) : bodyF (allL 3 T) T = bodyF (allL 0 T) T := by unfold bodyF; rw [must_kind]
theorem cells_kind (T : LTree) : cellsL (allL 3 T) = cellsL (allL 0 T) := by
 have h := cellsL_kind T (allL 3 T).length
 rw [List.take_length, allL_len T, List.take_length] at h; exact h
theorem chk_may {T : LTree} (h0 : faultL T = 0) : chkT T = if (mayF T).1 ≠ 0 then (mayF T, 0) else ((0, 0), budT T) := by
 unfold chkT mayF
 rw [if_neg (by simp [h0]), names_kind, body_kind, cells_kind]
 by_cases h1 : namesF (allL 0 T) T.vars.length ≠ 0
 ·rw [if_pos h1, if_pos h1, if_pos h1]
 rw [if_neg h1, if_neg h1]
 by_cases h2 : (bodyF (allL 0 T) T).1 ≠ 0
 ·rw [if_pos h2, if_pos h2, if_pos h2]
 rw [if_neg h2, if_neg h2]
 by_cases h3 : 2000 < budT T ∨ 60 < cellsL (allL 0 T)
 ·rw [if_pos h3, if_pos h3, if_pos (by simp)]
 ·rw [if_neg h3, if_neg h3, if_neg (by simp)]
def Tree3 (f : FuncId) (R : LTree → Met × Int) : Prop := ∀ (lo : Nat) (vv vn vb : Value) (T : LTree) (w : World), TreeV lo w vv vn vb T → Sized 1048576 T →
 Calls Tryz.prog f #[treeV vv vn vb] w fun e w' => e = .returned (.agg #[.int .i64 (R T).1.1, .int .i64 (R T).1.2, .int .i64 (R T).2]) ∧ Below w.heap.size w w'
def Tree3G (f : FuncId) (R : LTree → Met × Int) : Prop := ∀ (lo : Nat) (vv vn vb : Value) (T : LTree) (w : World), TreeV lo w vv vn vb T → Sized 1048576 T → ErrT w →
 Calls Tryz.prog f #[treeV vv vn vb] w fun e w' => e = .returned (.agg #[.int .i64 (R T).1.1, .int .i64 (R T).1.2, .int .i64 (R T).2]) ∧ Below w.heap.size w w'
set_option maxHeartbeats 6400000 in
set_option maxRecDepth 100000 in
theorem implCheckTree : Tree3G 14 chkT := by
 intro lo vv vn vb T w h hS hE
 have HF : Hid (∀ (w' : World), Below w.heap.size w w' → Calls Tryz.prog 38 #[treeV vv vn vb] w' fun e w2 => e = .returned (.int .i64 (faultL T)) ∧ Below w'.heap.size w' w2) := fun w' hb => implTreeFault lo _ _ _ T w' (h.below hb) hS
 have HM : Hid (faultL T = 0 → ∀ (w' : World), Below w.heap.size w w' → Calls Tryz.prog 47 #[treeV vv vn vb] w' fun e w2 => e = .returned (errV (mayF T)) ∧ Below w'.heap.size w' w2) := fun h0 w' hb => mayRun_any lo vv vn vb T w' (h.below hb) hS h0
 have HBU : Hid (faultL T = 0 → ∀ (w' : World), Below w.heap.size w w' → Calls Tryz.prog 48 #[treeV vv vn vb] w' fun e w2 => e = .returned (.int .i64 (budT T)) ∧ Below w'.heap.size w' w2) := fun h0 w' hb => budgetOf_any lo vv vn vb T w' (h.below hb) hS (good_of h0)
 have HER : Hid (∀ w', Below w.heap.size w w' → ErrT w') := fun w' hb => hE.kept hb
 obtain ⟨av, cv, rfl, _⟩ := id h.vars
 obtain ⟨an, cn, rfl, _⟩ := id h.nodes
 obtain ⟨ab, cb, rfl, _⟩ := id h.body
 have HCM : Hid (faultL T = 0 → chkT T = if (mayF T).1 ≠ 0 then (mayF T, 0) else ((0, 0), budT T)) := chk_may
 have HC0 : Hid (faultL T ≠ 0 → chkT T = ((faultL T, -1), 0)) := fun h0 => by unfold chkT; rw [if_pos h0]
 clear h hS hE
 obtain ⟨⟨⟨c1, c2⟩, c3⟩, hR⟩ : ∃ R, R = chkT T := ⟨_, rfl⟩
 rw [← hR] at HCM HC0 ⊢
 clear hR
 go_enter Tryz.func14, Tryz.ntmps14
 go_wp2_with fail
 obtain ⟨hA, hA2, hB⟩ := three_start w (.slice av T.vars.length cv) (.slice an T.nodes.length cn) (.slice ab T.body.length cb) 34 40
 generalize ((w.alloc (.cells #[.slice av T.vars.length cv, .slice an T.nodes.length cn, .slice ab T.body.length cb] 34)).alloc (.cells #[.int .i64 0, .int .i64 0, .int .i64 0] 40)) = W at *
 refine (HF.out _ hB).mono ?_
 rintro e w2 ⟨rfl, hb⟩
 have HA : Hid (w2.heap[w.heap.size]? = some (.cells #[.slice av T.vars.length cv, .slice an T.nodes.length cn, .slice ab T.body.length cb] 34 (0, 0))) := blk hA hb
 have HA2 : Hid (w2.heap[w.heap.size + 1]? = some (.cells #[.int .i64 0, .int .i64 0, .int .i64 0] 40 (0, 0))) := blk hA2 hb
 have HB : Hid (Below w.heap.size w w2) := hB.trans (hb.mono hB.size)
 clear hA hA2 hB hb HF
 obtain ⟨F, hF⟩ : ∃ F, faultL T = F := ⟨_, rfl⟩
 rw [hF] at HM HBU HCM HC0 ⊢
 clear hF
 by_cases hz : F = 0
 ·subst hz
  have HCV : Hid (((c1, c2), c3) = if (mayF T).1 ≠ 0 then (mayF T, 0) else ((0, 0), budT T)) := HCM.out rfl
  obtain ⟨p0, p1, p2⟩ := cl3 HA.out
  have HM2 : Hid (∀ (w' : World), Below w.heap.size w w' → Calls Tryz.prog 47 #[treeV (.slice av T.vars.length cv) (.slice an T.nodes.length cn) (.slice ab T.body.length cb)] w' fun e w2 => e = .returned (errV (mayF T)) ∧ Below w'.heap.size w' w2) := HM.out rfl
  have HBU2 : Hid (∀ (w' : World), Below w.heap.size w w' → Calls Tryz.prog 48 #[treeV (.slice av T.vars.length cv) (.slice an T.nodes.length cn) (.slice ab T.body.length cb)] w' fun e w2 => e = .returned (.int .i64 (budT T)) ∧ Below w'.heap.size w' w2) := HBU.out rfl
  clear HCM HC0 HM HBU
  generalize mayF T = m at *
  generalize budT T = bu at *
  obtain ⟨m1, m2⟩ := m
  go_wp2_with fail
  refine (HM2.out _ HB.out).mono ?_
  rintro e w3 ⟨rfl, hb⟩
  have HA3 : Hid (w3.heap[w.heap.size]? = some (.cells #[.slice av T.vars.length cv, .slice an T.nodes.length cn, .slice ab T.body.length cb] 34 (0, 0))) := blk HA.out hb
  have HA4 : Hid (w3.heap[w.heap.size + 1]? = some (.cells #[.int .i64 0, .int .i64 0, .int .i64 0] 40 (0, 0))) := blk HA2.out hb
  have HB3 : Hid (Below w.heap.size w w3) := HB.out.trans (hb.mono HB.out.size)
  clear hb HA HA2 HB p0 p1 p2 HM2
  by_cases hm : m1 = 0
  ·subst hm
   have HCW : Hid (((c1, c2), c3) = ((0, 0), bu)) := by unfold Hid; rw [HCV.out, if_neg (by simp)]
   rw [errV_zero rfl]
   clear HCV
   go_wp2_with fail
   refine (misfit_nil _).mono ?_
   rintro e w4 ⟨rfl, hb⟩
   have hA5 := blk HA3.out hb
   have hA6 := blk HA4.out hb
   have hB4 : Below w.heap.size w w4 := HB3.out.trans (hb.mono HB3.out.size)
   have hbx : Below w4.heap.size w4 (w4.alloc (.cells #[.int .i64 0, .int .i64 0] 85)) := (Below.refl _ _).alloc (Nat.le_refl _) _
   have HA5 : Hid _ := blk hA5 hbx
   have HA6 : Hid _ := blk hA6 hbx
   have HB5 : Hid _ := hB4.trans (hbx.mono hB4.size)
   have hl1 : w.heap.size < w4.heap.size := blk_lt hA5
   have hl2 : w.heap.size + 1 < w4.heap.size := blk_lt hA6
   clear hb hA5 hA6 hB4 hbx HA3 HA4 HB3
   go_upto_region 7 with fail
   generalize w4.alloc (.cells #[.int .i64 0, .int .i64 0] 85) = W5 at *
   obtain ⟨p0, p1, p2⟩ := cl3 HA5.out
   go_wp2_with fail
   refine (HBU2.out _ HB5.out).mono ?_
   rintro e w6 ⟨rfl, hb⟩
   have hA7 := blk HA6.out hb
   have HB6 : Hid (Below w.heap.size w w6) := HB5.out.trans (hb.mono HB5.out.size)
   obtain ⟨r0, r1, r2⟩ := cl3 hA7
   obtain ⟨f0, f1, f2⟩ := fl3 hA7
   clear hA7 hb HA5 HA6 HB5 p0 p1 p2 HBU2
   go_wp2_with fail
   refine bodyPost_ret (v := .agg #[.int .i64 0, .int .i64 0, .int .i64 bu]) (by simp [results, Tryz.results14, go_sem, r0, r1, r2]) rfl ⟨?_, ((HB6.out.setCell (by simp) _).setCell (by simp) _).setCell (by simp) _⟩
   have e := HCW.out
   injection e with e1 e3
   injection e1 with e1 e2
   rw [e1, e2, e3]
  ·have HCW : Hid (((c1, c2), c3) = ((m1, m2), 0)) := by unfold Hid; rw [HCV.out, if_pos hm]
   rw [errV_met hm]
   clear HCV HBU2
   go_wp2_with fail
   refine (misfit_hit m1 m2 _ (HER.out _ HB3.out)).mono ?_
   rintro e w4 ⟨rfl, hb⟩
   have hA6 := blk HA4.out hb
   have hB4 : Below w.heap.size w w4 := HB3.out.trans (hb.mono HB3.out.size)
   have hbx : Below w4.heap.size w4 (w4.alloc (.cells #[.int .i64 m1, .int .i64 m2] 85)) := (Below.refl _ _).alloc (Nat.le_refl _) _
   have HA6 : Hid _ := blk hA6 hbx
   have HB5 : Hid _ := hB4.trans (hbx.mono hB4.size)
   have HV5 : Hid _ := heap_alloc_new w4 (.cells #[.int .i64 m1, .int .i64 m2] 85)
   have hl2 : w.heap.size + 1 < w4.heap.size := blk_lt hA6
   clear hb hA6 hB4 hbx HA3 HA4 HB3 hm
   go_upto_region 6 with fail
   generalize w4.alloc (.cells #[.int .i64 m1, .int .i64 m2] 85) = W5 at *
   generalize w4.heap.size = g4 at *
   obtain ⟨v0, v1⟩ := cl2 HV5.out
   obtain ⟨r0, r1, r2⟩ := cl3 HA6.out
   obtain ⟨f0, f1, f2⟩ := fl3 HA6.out
   go_wp2_with fail
   refine bodyPost_ret (v := .agg #[.int .i64 m1, .int .i64 m2, .int .i64 0]) (by simp [results, Tryz.results14, go_sem, r0, r1, r2]) rfl ⟨?_, ((HB5.out.setCell (by simp) _).setCell (by simp) _).setCell (by simp) _⟩
   have e := HCW.out
   injection e with e1 e3
   injection e1 with e1 e2
   rw [e1, e2, e3]
 ·have hzb : (F == 0) = false := by simpa using hz
  have hzd : decide (F = 0) = false := decide_eq_false hz
  have HCW : Hid (((c1, c2), c3) = ((F, -1), 0)) := HC0.out hz
  obtain ⟨r0, r1, r2⟩ := cl3 HA2.out
  obtain ⟨f0, f1, f2⟩ := fl3 HA2.out
  clear HCM HC0 HM HBU
  go_wp2_with fail
  refine bodyPost_ret (v := .agg #[.int .i64 F, .int .i64 (-1), .int .i64 0]) (by simp [results, Tryz.results14, go_sem, r0, r1, r2]) rfl ⟨?_, ((HB.out.setCell (by simp) _).setCell (by simp) _).setCell (by simp) _⟩
  have e := HCW.out
  injection e with e1 e3
  injection e1 with e1 e2
  rw [e1, e2, e3]
end Go.Proofs.YtepjaoapjpmjkaaGreatDoor
namespace Go.Proofs.YtepjaoapjpmjkaaGreatDoor
open Go.RowKit
set_option linter.unusedVariables false
attribute [local go_sem] bs_size bs_get bs_extract bs_append bs_eq bs_toList
set_option maxHeartbeats 800000 in
theorem eqCheckRes_any (a b c : Int) (w : World) : Calls Tryz.prog 15 #[.agg #[.int .i64 a, .int .i64 b, .int .i64 c], .agg #[.int .i64 a, .int .i64 b, .int .i64 c]] w fun e w' => e = .returned (.bool true) ∧ Below w.heap.size w w' := by
 go_enter Tryz.func15, Tryz.ntmps15
 go_wp2
 go_ret
 exact ⟨rfl, by go_grown⟩
set_option maxHeartbeats 6400000 in
set_option maxRecDepth 100000 in
theorem checkTree_law (R : LTree → Met × Int) (hS : Tree3 13 R) (hI : Tree3G 14 R) (vv vn vb : Value) (T : LTree) (w : World) (h : IsTree w vv vn vb T) (hE : ErrT w) :
  Calls Tryz.prog 4 #[treeV vv vn vb] w fun e w' => e = .returned (.bool true) ∧ Below w.heap.size w w' := by
 obtain ⟨ht, hf⟩ := h
 obtain ⟨av, cv, rfl, _⟩ := id ht.vars
 obtain ⟨an, cn, rfl, _⟩ := id ht.nodes
 obtain ⟨ab, cb, rfl, _⟩ := id ht.body
 have HT := hid ht
 have HF : Hid (Fits T) := hf
 have HS := hid hS
 have HI := hid hI
 have HER : Hid (∀ w', Below w.heap.size w w' → ErrT w') := fun w' hb => hE.kept hb
 have HQ : Hid (∀ (a b c : Int) (w : World), Calls Tryz.prog 15 #[.agg #[.int .i64 a, .int .i64 b, .int .i64 c], .agg #[.int .i64 a, .int .i64 b, .int .i64 c]] w fun e w' => e = .returned (.bool true) ∧ Below w.heap.size w w') := eqCheckRes_any
 clear ht hf hS hI hE
 go_enter Tryz.func4, Tryz.ntmps4
 go_wp2_with fail
 have hA := heap_alloc_new w (.cells #[.slice av T.vars.length cv, .slice an T.nodes.length cn, .slice ab T.body.length cb] 26)
 have hB : Below w.heap.size w (w.alloc (.cells #[.slice av T.vars.length cv, .slice an T.nodes.length cn, .slice ab T.body.length cb] 26)) := (Below.refl _ _).alloc (Nat.le_refl _) _
 generalize w.alloc (.cells #[.slice av T.vars.length cv, .slice an T.nodes.length cn, .slice ab T.body.length cb] 26) = W at *
 refine (szTree_any 0 T _ _ _ _ (HT.out.below hB) HF.out).mono ?_
 rintro e w1 ⟨r, rfl, hr, hb1⟩
 have HA : Hid (w1.heap[w.heap.size]? = some (.cells #[.slice av T.vars.length cv, .slice an T.nodes.length cn, .slice ab T.body.length cb] 26 (0, 0))) := blk hA hb1
 have HB : Hid (Below w.heap.size w w1) := hB.trans (hb1.mono hB.size)
 clear hb1 hA hB
 by_cases h0 : 0 ≤ r
 ·have HZ : Hid (Sized 1048576 T) := hr h0
  clear hr
  obtain ⟨a0, a1, a2⟩ := cl3 HA.out
  go_wp2_with fail
  refine (toTree_any 0 T _ _ _ _ (HT.out.below HB.out) HZ.out).mono ?_
  rintro e w2 ⟨_, _, _, rfl, ht2, hb⟩
  obtain ⟨av2, cv2, rfl, _⟩ := id ht2.vars
  obtain ⟨an2, cn2, rfl, _⟩ := id ht2.nodes
  obtain ⟨ab2, cb2, rfl, _⟩ := id ht2.body
  have hA := blk HA.out hb
  have hB := HB.out.trans (hb.mono HB.out.size)
  clear HA HB hb a0 a1 a2
  have HA : Hid _ := hA
  have HB := hid hB
  have HT2 := hid ht2
  clear hA hB ht2
  go_wp2_with fail
  refine (HS.out _ _ _ _ T _ HT2.out HZ.out).mono ?_
  rintro e w3 ⟨rfl, hb⟩
  have hA := blk HA.out hb
  have hB := HB.out.trans (hb.mono HB.out.size)
  clear HA HB hb HT2
  have HA : Hid _ := hA
  have HB := hid hB
  clear hA hB
  have hbx : Below w3.heap.size w3 (w3.alloc (.cells #[.int .i64 (R T).1.1, .int .i64 (R T).1.2, .int .i64 (R T).2] 40)) := (Below.refl _ _).alloc (Nat.le_refl _) _
  have HG : Hid _ := heap_alloc_new w3 (.cells #[.int .i64 (R T).1.1, .int .i64 (R T).1.2, .int .i64 (R T).2] 40)
  have hA := blk HA.out hbx
  obtain ⟨a0, a1, a2⟩ := cl3 hA
  have hB := HB.out.trans (hbx.mono HB.out.size)
  clear HA HB hbx
  have HA : Hid _ := hA
  have HB : Hid _ := hB
  clear hA hB
  go_wp2_with fail
  have hA := HA.out
  have hB := HB.out
  have hG := HG.out
  clear HA HB HG a0 a1 a2
  generalize w3.alloc (.cells #[.int .i64 (R T).1.1, .int .i64 (R T).1.2, .int .i64 (R T).2] 40) = W3 at *
  generalize w3.heap.size = g3 at *
  refine (toTree_any 0 T _ _ _ _ (HT.out.below hB) HZ.out).mono ?_
  rintro e w4 ⟨_, _, _, rfl, ht4, hb⟩
  obtain ⟨av4, cv4, rfl, _⟩ := id ht4.vars
  obtain ⟨an4, cn4, rfl, _⟩ := id ht4.nodes
  obtain ⟨ab4, cb4, rfl, _⟩ := id ht4.body
  have HA : Hid _ := blk hA hb
  have HG : Hid _ := blk hG hb
  have HB : Hid (Below w.heap.size w w4) := hB.trans (hb.mono hB.size)
  have HT4 := hid ht4
  clear hA hB ht4 hG hb
  go_wp2_with fail
  have hbx : Below w4.heap.size w4 (w4.alloc (.cells #[.slice av4 T.vars.length cv4, .slice an4 T.nodes.length cn4, .slice ab4 T.body.length cb4] 34)) := (Below.refl _ _).alloc (Nat.le_refl _) _
  have hX := heap_alloc_new w4 (.cells #[.slice av4 T.vars.length cv4, .slice an4 T.nodes.length cn4, .slice ab4 T.body.length cb4] 34)
  have hA := blk HA.out hbx
  have hG := blk HG.out hbx
  have hB := HB.out.trans (hbx.mono HB.out.size)
  have hT4 := HT4.out.below hbx
  clear HA HB HG HT4 hbx
  generalize w4.alloc (.cells #[.slice av4 T.vars.length cv4, .slice an4 T.nodes.length cn4, .slice ab4 T.body.length cb4] 34) = W5 at *
  generalize w4.heap.size = g4 at *
  refine (HI.out _ _ _ _ T _ hT4 HZ.out (HER.out _ hB)).mono ?_
  rintro e w5 ⟨rfl, hb⟩
  have hA5 := blk hA hb
  have hG5 := blk hG hb
  have hX5 := blk hX hb
  have hB5 := hB.trans (hb.mono hB.size)
  have hT5 := hT4.below hb
  clear hb hB hT4 hA hX hG
  have hbx : Below w5.heap.size w5 (w5.alloc (.cells #[.int .i64 (R T).1.1, .int .i64 (R T).1.2, .int .i64 (R T).2] 40)) := (Below.refl _ _).alloc (Nat.le_refl _) _
  have hH := heap_alloc_new w5 (.cells #[.int .i64 (R T).1.1, .int .i64 (R T).1.2, .int .i64 (R T).2] 40)
  have HA : Hid _ := blk hA5 hbx
  have HG : Hid _ := blk hG5 hbx
  have HX : Hid _ := blk hX5 hbx
  have HH : Hid _ := hH
  have HB : Hid _ := hB5.trans (hbx.mono hB5.size)
  have HT5 : Hid _ := hT5.below hbx
  obtain ⟨b0, b1, b2⟩ := cl3 HG.out
  obtain ⟨d0, d1, d2⟩ := cl3 HH.out
  clear hA5 hG5 hX5 hH hB5 hT5 hbx
  go_wp2_with fail
  generalize w5.alloc (.cells #[.int .i64 (R T).1.1, .int .i64 (R T).1.2, .int .i64 (R T).2] 40) = W6 at *
  refine (HQ.out _ _ _ _).mono ?_
  rintro e w6 ⟨rfl, hb⟩
  have hA6 := blk HA.out hb
  have hX6 := blk HX.out hb
  have hB6 := HB.out.trans (hb.mono HB.out.size)
  have hT6 := HT5.out.below hb
  clear HA HG HX HH HB HT5 b0 b1 b2 d0 d1 d2 hb
  have HB := hid hB6
  have HT6 := hid hT6
  clear hB6 hT6
  have hgA : w.heap.size < w6.heap.size := blk_lt hA6
  have hgX : g4 < w6.heap.size := blk_lt hX6
  obtain ⟨a0, a1, a2⟩ := cl3 hA6
  obtain ⟨x0, x1, x2⟩ := cl3 hX6
  clear hA6 hX6
  have A0 : Hid _ := a0
  have X0 : Hid _ := x0
  have A1 : Hid _ := a1
  have X1 : Hid _ := x1
  have A2 : Hid _ := a2
  have X2 : Hid _ := x2
  have HC : Hid (∀ W, Below w6.heap.size w6 W → Calls Tryz.prog 9 #[.agg #[.slice av T.vars.length cv, .slice an T.nodes.length cn, .slice ab T.body.length cb]] W fun e w' => ∃ a c a2 c2 a3 c3, e = .returned (treeV (.slice a T.vars.length c) (.slice a2 T.nodes.length c2) (.slice a3 T.body.length c3)) ∧ TreeV W.heap.size w' (.slice a T.vars.length c) (.slice a2 T.nodes.length c2) (.slice a3 T.body.length c3) T ∧ Below W.heap.size W w') := fun W hW =>
   (toTree_any 0 T _ _ _ W (HT.out.below (HB.out.trans (hW.mono HB.out.size))) HZ.out).mono fun e w' h => by
    obtain ⟨_, _, _, rfl, h1, h2⟩ := h
    obtain ⟨_, _, rfl, _⟩ := id h1.vars
    obtain ⟨_, _, rfl, _⟩ := id h1.nodes
    obtain ⟨_, _, rfl, _⟩ := id h1.body
    exact ⟨_, _, _, _, _, _, rfl, h1, h2⟩
  have HE : Hid (∀ W lo v1 v2 v3, Below w6.heap.size w6 W → TreeV lo W v1 v2 v3 T → Calls Tryz.prog 12 #[.agg #[.slice av4 T.vars.length cv4, .slice an4 T.nodes.length cn4, .slice ab4 T.body.length cb4], treeV v1 v2 v3] W fun e w' => e = .returned (.bool true) ∧ Below W.heap.size W w') := fun W lo v1 v2 v3 hW h =>
   eqTree_any _ _ T _ _ _ _ _ _ W (HT6.out.below hW) h HZ.out
  go_wp2_with fail
  go_region_held3 (fun W => (W.cell? ⟨w.heap.size, 0, none⟩ = some (.slice av T.vars.length cv) ∧ W.cell? ⟨w.heap.size, 1, none⟩ = some (.slice an T.nodes.length cn) ∧ W.cell? ⟨w.heap.size, 2, none⟩ = some (.slice ab T.body.length cb)) ∧ (W.cell? ⟨g4, 0, none⟩ = some (.slice av4 T.vars.length cv4) ∧ W.cell? ⟨g4, 1, none⟩ = some (.slice an4 T.nodes.length cn4) ∧ W.cell? ⟨g4, 2, none⟩ = some (.slice ab4 T.body.length cb4))) (go_keep) (first | (go_at_call 9; refine (HC.out _ (Below.refl w6.heap.size w6).drew).mono ?_; rintro e w7 ⟨a7, c7, b7, d7, e7, f7, rfl, ht7, hb⟩; have hD : Below w6.heap.size w6 w7 := ((Below.refl w6.heap.size w6).drew).trans (Below.mono hb (Nat.le_refl _)); have a0 := (hD.cell (p := ⟨w.heap.size, 0, none⟩) hgA).trans A0.out; have a1 := (hD.cell (p := ⟨w.heap.size, 1, none⟩) hgA).trans A1.out; have a2 := (hD.cell (p := ⟨w.heap.size, 2, none⟩) hgA).trans A2.out; have x0 := (hD.cell (p := ⟨g4, 0, none⟩) hgX).trans X0.out; have x1 := (hD.cell (p := ⟨g4, 1, none⟩) hgX).trans X1.out; have x2 := (hD.cell (p := ⟨g4, 2, none⟩) hgX).trans X2.out; have HD : Hid (Below w6.heap.size w6 w7) := hD; have HT7 : Hid (TreeV _ w7 _ _ _ T) := ht7; clear hb hD ht7) | (go_at_call 12; refine (HE.out _ _ _ _ _ HD.out HT7.out).mono ?_; rintro e w8 ⟨rfl, hb⟩; have hD : Below w6.heap.size w6 w8 := HD.out.trans (Below.mono hb HD.out.size); have a0 := (hD.cell (p := ⟨w.heap.size, 0, none⟩) hgA).trans A0.out; have a1 := (hD.cell (p := ⟨w.heap.size, 1, none⟩) hgA).trans A1.out; have a2 := (hD.cell (p := ⟨w.heap.size, 2, none⟩) hgA).trans A2.out; have x0 := (hD.cell (p := ⟨g4, 0, none⟩) hgX).trans X0.out; have x1 := (hD.cell (p := ⟨g4, 1, none⟩) hgX).trans X1.out; have x2 := (hD.cell (p := ⟨g4, 2, none⟩) hgX).trans X2.out; have hBB := HB.out.trans (hD.mono HB.out.size); clear hb))
  go_wp2
  go_ret
  exact ⟨rfl, hBB⟩
 ·go_wp2_with fail
  go_ret
  exact ⟨rfl, HB.out⟩
end Go.Proofs.YtepjaoapjpmjkaaGreatDoor
namespace Go.Proofs.YtepjaoapjpmjkaaGreatDoor
open Go.RowKit
set_option linter.unusedVariables false
attribute [local go_sem] bs_size bs_get bs_extract bs_append bs_eq bs_toList
theorem specCheckTree_of (lo : Nat) (vv vn vb : Value) (T : LTree) (w : World) (h : TreeV lo w vv vn vb T) (hS : Sized 1048576 T) :
  Calls Tryz.prog 13 #[treeV vv vn vb] w fun e w' => e = .returned (.agg #[.int .i64 (chkT T).1.1, .int .i64 (chkT T).1.2, .int .i64 (chkT T).2]) ∧ Below w.heap.size w w' := by
 have HX : Hid (∀ (W : World), Below w.heap.size w W → W.heap[w.heap.size]? = some (.cells #[vv, vn, vb] 34 (0, 0)) → Calls Tryz.prog 46 #[.pointer (some ⟨w.heap.size, 0, none⟩)] W fun e w' => e = .returned (.agg #[.int .i64 (chkT T).1.1, .int .i64 (chkT T).1.2, .int .i64 (chkT T).2]) ∧ Below W.heap.size W w') := fun W hb hA =>
  l5Tree_any lo w.heap.size vv vn vb T W ⟨cell_of_row _ _ 0 _ _ _ hA, cell_of_row _ _ 1 _ _ _ hA, cell_of_row _ _ 2 _ _ _ hA, h.below hb⟩ hS
 obtain ⟨av, cv, rfl, _⟩ := id h.vars
 obtain ⟨an, cn, rfl, _⟩ := id h.nodes
 obtain ⟨ab, cb, rfl, _⟩ := id h.body
 clear h hS
 generalize (chkT T).1.1 = c1 at *
 generalize (chkT T).1.2 = c2 at *
 generalize (chkT T).2 = c3 at *
 go_enter Tryz.func13, Tryz.ntmps13
 go_wp2_with fail
 obtain ⟨hA, hA2, hB⟩ := three_start w (.slice av T.vars.length cv) (.slice an T.nodes.length cn) (.slice ab T.body.length cb) 34 40
 generalize ((w.alloc (.cells #[.slice av T.vars.length cv, .slice an T.nodes.length cn, .slice ab T.body.length cb] 34)).alloc (.cells #[.int .i64 0, .int .i64 0, .int .i64 0] 40)) = W at *
 refine (HX.out _ hB hA).mono ?_
 rintro e w2 ⟨rfl, hb⟩
 have hA3 := blk hA2 hb
 have HB : Hid (Below w.heap.size w w2) := hB.trans (hb.mono hB.size)
 obtain ⟨r0, r1, r2⟩ := cl3 hA3
 obtain ⟨f0, f1, f2⟩ := fl3 hA3
 clear hA hA2 hB hb hA3 HX
 go_wp2_with fail
 refine bodyPost_ret (v := .agg #[.int .i64 c1, .int .i64 c2, .int .i64 c3]) (by simp [results, Tryz.results13, go_sem, r0, r1, r2]) rfl ⟨rfl, ((HB.out.setCell (by simp) _).setCell (by simp) _).setCell (by simp) _⟩
end Go.Proofs.YtepjaoapjpmjkaaGreatDoor
namespace Go.Proofs.YtepjaoapjpmjkaaGreatDoor
open Go.RowKit
set_option linter.unusedVariables false
theorem specCheckTree : Tree3 13 chkT := fun lo vv vn vb T w h hS => specCheckTree_of lo vv vn vb T w h hS
theorem fnExactCheckTree_walk (vv0 vn0 vb0 : Value) (T0 : LTree) (w : World) (w0 : IsTree w vv0 vn0 vb0 T0) (hE : ErrT w) :
  Calls Tryz.prog 4 #[treeV vv0 vn0 vb0] w fun e w' => e = .returned (.bool true) ∧ Below w.heap.size w w' :=
 checkTree_law chkT specCheckTree implCheckTree vv0 vn0 vb0 T0 w w0 hE
end Go.Proofs.YtepjaoapjpmjkaaGreatDoor
