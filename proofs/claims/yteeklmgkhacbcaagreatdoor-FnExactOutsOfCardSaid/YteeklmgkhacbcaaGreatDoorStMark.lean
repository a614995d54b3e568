/-
  laws.markState: for seats without ScanResult.
-/
import Derived.Test.YteeklmgkhacbcaaGreatDoorTreeVar
import Derived.Test.YteeklmgkhacbcaaGreatDoorICkE
import Derived.Test.YteeklmgkhacbcaaGreatDoorIFault
import Derived.Test.YteeklmgkhacbcaaGreatDoorOutsA
import Derived.Deep.RegionHeld3
import Derived.Test.YteeklmgkhacbcaaGreatDoorOutsI
import Derived.Test.YteeklmgkhacbcaaGreatDoorTreeSz
import Derived.Test.YteeklmgkhacbcaaGreatDoorStr
import Derived.Deep.Cut
namespace Go.Proofs.YteeklmgkhacbcaaGreatDoor
open Go.RowKit
set_option linter.unusedVariables false
theorem two_start (w : World) (vv vn vb : Value) (T1 T2 : TypeId) : let W := ((w.alloc (.cells #[vv, vn, vb] T1)).alloc (.cells #[.int .i64 0, .int .i64 0] T2))
  W.heap[w.heap.size]? = some (.cells #[vv, vn, vb] T1 (0, 0)) ∧ W.heap[w.heap.size + 1]? = some (.cells #[.int .i64 0, .int .i64 0] T2 (0, 0)) ∧ Below w.heap.size w W := by
 intro W
 have hA := heap_alloc_new w (.cells #[vv, vn, vb] T1)
 have hB : Below w.heap.size w (w.alloc (.cells #[vv, vn, vb] T1)) := (Below.refl _ _).alloc (Nat.le_refl _) _
 have hZ : (w.alloc (.cells #[vv, vn, vb] T1)).heap.size = w.heap.size + 1 := by simp
 have hA2 := heap_alloc_new (w.alloc (.cells #[vv, vn, vb] T1)) (.cells #[.int .i64 0, .int .i64 0] T2)
 have hB2 : Below (w.alloc (.cells #[vv, vn, vb] T1)).heap.size (w.alloc (.cells #[vv, vn, vb] T1)) W := (Below.refl _ _).alloc (Nat.le_refl _) _
 rw [hZ] at hA2
 exact ⟨blk hA hB2, hA2, hB.trans (hB2.mono (by omega))⟩
attribute [local go_sem] bs_size bs_get bs_extract bs_append bs_eq bs_toList
def TreeNumI (f : FuncId) (C V : LTree → Int) : Prop := ∀ (lo : Nat) (vv vn vb : Value) (T : LTree) (w : World), TreeV lo w vv vn vb T → Sized 1048576 T →
 Calls Tryz.prog f #[treeV vv vn vb] w fun e w' => e = .returned (.agg #[.int .i64 (C T), .int .i64 (V T)]) ∧ Below w.heap.size w w'
def celC (T : LTree) : Int := faultL T
def celV (T : LTree) : Int := if faultL T ≠ 0 then 0 else cellsL (allL 0 T)
set_option maxHeartbeats 6400000 in
set_option maxRecDepth 100000 in
theorem implCellsOf : TreeNumI 59 celC celV := by
 intro lo vv vn vb T w h hS
 obtain ⟨av, cv, rfl, _⟩ := id h.vars
 obtain ⟨an, cn, rfl, _⟩ := id h.nodes
 obtain ⟨ab, cb, rfl, _⟩ := id h.body
 have HF : Hid (∀ (w' : World), Below w.heap.size w w' → Calls Tryz.prog 74 #[treeV (.slice av T.vars.length cv) (.slice an T.nodes.length cn) (.slice ab T.body.length cb)] w' fun e w2 => e = .returned (.int .i64 (faultL T)) ∧ Below w'.heap.size w' w2) := fun w' hb =>
  implTreeFault lo _ _ _ T w' (h.below hb) hS
 have HD : Hid (∀ (w' : World), Below w.heap.size w w' → faultL T = 0 → Calls Tryz.prog 39 #[.agg #[.slice av T.vars.length cv, .slice an T.nodes.length cn, .slice ab T.body.length cb]] w' fun e w2 => ∃ v, e = .returned v ∧ w2.ownsRow w'.heap.size 93 6 v (allL 0 T).length (entC (allL 0 T) T.vars.length (allL 0 T).length) ∧ Below w'.heap.size w' w2) := fun w' hb h0 =>
  variablesOf_any lo _ _ _ T w' (h.below hb) (good_of h0)
 have HSZ : Hid (faultL T = 0 → SizesLe (allL 0 T) ∧ (allL 0 T).length ≤ 624) := fun h => ⟨(good_of h).sizes 0, (good_of h).all_len 0⟩
 have HCC : Hid (∀ (ad : Option Addr) (c : Nat) (w : World), RowE w ad (allL 0 T) T.vars.length → SizesLe (allL 0 T) → (allL 0 T).length ≤ 624 → Calls Tryz.prog 78 #[.slice ad (allL 0 T).length c] w fun e w' => e = .returned (.int .i64 (cellsL (allL 0 T))) ∧ Below w.heap.size w w') := fun ad c w h1 h2 h3 =>
  cellCount_any (allL 0 T) T.vars.length ad (allL 0 T).length c w rfl h1 h2 h3
 have HV : Hid (celV T = if faultL T ≠ 0 then 0 else cellsL (allL 0 T)) := rfl
 have HC : Hid (celC T = faultL T) := rfl
 clear h hS
 go_enter Tryz.func59, Tryz.ntmps59
 go_wp2_with fail
 obtain ⟨hA, hA2, hB⟩ := two_start w (.slice av T.vars.length cv) (.slice an T.nodes.length cn) (.slice ab T.body.length cb) 37 101
 generalize ((w.alloc (.cells #[.slice av T.vars.length cv, .slice an T.nodes.length cn, .slice ab T.body.length cb] 37)).alloc (.cells #[.int .i64 0, .int .i64 0] 101)) = W at *
 refine (HF.out _ hB).mono ?_
 rintro e w2 ⟨rfl, hb⟩
 have HA : Hid (w2.heap[w.heap.size]? = some (.cells #[.slice av T.vars.length cv, .slice an T.nodes.length cn, .slice ab T.body.length cb] 37 (0, 0))) := blk hA hb
 have HA2 : Hid (w2.heap[w.heap.size + 1]? = some (.cells #[.int .i64 0, .int .i64 0] 101 (0, 0))) := blk hA2 hb
 have HB : Hid (Below w.heap.size w w2) := hB.trans (hb.mono hB.size)
 clear hA hA2 hB hb HF
 obtain ⟨F, hF⟩ : ∃ F, faultL T = F := ⟨_, rfl⟩
 rw [hF]
 by_cases hz : F = 0
 ·subst hz
  have HCV : Hid (celC T = 0 ∧ celV T = cellsL (allL 0 T)) := ⟨by rw [HC.out, hF], by rw [HV.out, hF, if_neg (by simp)]⟩
  have HDC : Hid (Calls Tryz.prog 39 #[.agg #[.slice av T.vars.length cv, .slice an T.nodes.length cn, .slice ab T.body.length cb]] w2 fun e w3 => ∃ v, e = .returned v ∧ w3.ownsRow w2.heap.size 93 6 v (allL 0 T).length (entC (allL 0 T) T.vars.length (allL 0 T).length) ∧ Below w2.heap.size w2 w3) := HD.out _ HB.out hF
  have HS2 : Hid (SizesLe (allL 0 T) ∧ (allL 0 T).length ≤ 624) := HSZ.out hF
  obtain ⟨p0, p1, p2⟩ := cl3 HA.out
  clear hF HC HV HD HSZ
  go_wp2_with fail
  refine HDC.out.mono ?_
  rintro e w4 ⟨v, rfl, hown, hb⟩
  obtain ⟨ad, cp, rfl⟩ := rowE_shape hown
  have hRV := RowE.of_own hown rfl
  have HCX : Hid (Calls Tryz.prog 78 #[.slice ad (allL 0 T).length cp] w4 fun e w' => e = .returned (.int .i64 (cellsL (allL 0 T))) ∧ Below w4.heap.size w4 w') := HCC.out ad cp w4 hRV HS2.out.1 HS2.out.2
  have hA2 := blk HA2.out hb
  have HB2 : Hid (Below w.heap.size w w4) := HB.out.trans (hb.mono HB.out.size)
  clear hown hRV hb HCC HS2 HDC p0 p1 p2
  go_wp2_with fail
  refine HCX.out.mono ?_
  rintro e w5 ⟨rfl, hb⟩
  have hA5 := blk hA2 hb
  have HB5 : Hid (Below w.heap.size w w5) := HB2.out.trans (hb.mono HB2.out.size)
  clear hA2 hb
  obtain ⟨r0, r1⟩ := cl2 hA5
  obtain ⟨f0, f1⟩ := fl2 hA5
  clear hA5
  generalize cellsL (allL 0 T) = z at *
  go_wp2_with fail
  refine bodyPost_ret (v := .agg #[.int .i64 0, .int .i64 z]) (by simp [results, Tryz.results59, go_sem, r0, r1]) rfl ⟨by rw [HCV.out.1, HCV.out.2], (HB5.out.setCell (by simp) _).setCell (by simp) _⟩
 ·have HCV : Hid (celC T = F ∧ celV T = 0) := ⟨by rw [HC.out, hF], by rw [HV.out, hF, if_pos hz]⟩
  have hz1 : (F == 0) = false := by simpa using hz
  have hz2 : decide (F = 0) = false := decide_eq_false hz
  obtain ⟨r0, r1⟩ := cl2 HA2.out
  obtain ⟨f0, f1⟩ := fl2 HA2.out
  clear HC HV hF
  go_wp2_with fail
  refine bodyPost_ret (v := .agg #[.int .i64 F, .int .i64 0]) (by simp [results, Tryz.results59, go_sem, r0, r1]) rfl ⟨by rw [HCV.out.1, HCV.out.2], (HB.out.setCell (by simp) _).setCell (by simp) _⟩
def TreeStG (f : FuncId) (R : LTree → List Int → Int) : Prop := ∀ (lo : Nat) (vv vn vb : Value) (T : LTree) (a : Option Addr) (zs : List Int) (cap : Nat) (w : World), TreeV lo w vv vn vb T → Sized 1048576 T → Nums w a zs → zs.length ≤ 1048576 → ErrT w →
 Calls Tryz.prog f #[treeV vv vn vb, .agg #[.slice a zs.length cap]] w fun e w' => e = .returned (.int .i64 (R T zs)) ∧ Below w.heap.size w w'
theorem fldC (a b c : Int) (w : World) : (Instr.field 77 (.agg #[.int .i64 a, .int .i64 b, .int .i64 c]) 0).run Tryz.prog w = .ok (.int .i64 a) w := by kernel_rfl
theorem fldI (a b : Int) (w : World) : (Instr.field 101 (.agg #[.int .i64 a, .int .i64 b]) 1).run Tryz.prog w = .ok (.int .i64 b) w := by kernel_rfl
set_option maxHeartbeats 6400000 in
set_option maxRecDepth 100000 in
theorem implStateFault : TreeStG 37 staF := by
 intro lo vv vn vb T a zs cap w h hS hn hlen hE
 have HX : Hid (∀ W, Below w.heap.size w W → Calls Tryz.prog 58 #[treeV vv vn vb] W fun e w' => e = .returned (.agg #[.int .i64 (chkT T).1.1, .int .i64 (chkT T).1.2, .int .i64 (chkT T).2]) ∧ Below W.heap.size W w') := fun W hb => implCheckTree lo vv vn vb T W (h.below hb) hS (hE.kept hb)
 have HCE : Hid ((chkT T).1.1 = 0 → ∀ W, Below w.heap.size w W → Calls Tryz.prog 59 #[treeV vv vn vb] W fun e w' => e = .returned (.agg #[.int .i64 0, .int .i64 (cellsL (allL 0 T))]) ∧ Below W.heap.size W w') := fun h0 W hb => by
  have h1 := implCellsOf lo vv vn vb T W (h.below hb) hS
  have e1 : celC T = 0 := (chk_good h0).1
  have e2 : celV T = cellsL (allL 0 T) := by unfold celV; rw [if_neg (by rw [(chk_good h0).1]; simp)]
  rw [e1, e2] at h1
  exact h1
 have HL6 : Hid (∀ W, Below w.heap.size w W → Calls Tryz.prog 60 #[.slice a zs.length cap] W fun e w' => e = .returned (.int .i64 (fault zs)) ∧ Below W.heap.size W w') := fun W hb => implFault_any a zs cap W (by omega) (hn.below hb)
 have HFA : Hid (zs.length ≤ 400 → fault zs = if allW zs = true then 0 else 3) := fault_allW
 have HG : Hid ((chkT T).1.1 = 0 → cellsL (allL 0 T) ≤ 60) := fun h => (chk_good h).2
 have HST : Hid (staF T zs = if (chkT T).1.1 ≠ 0 then (chkT T).1.1 else if (zs.length : Int) ≠ cellsL (allL 0 T) then 1 else if allW zs = true then 0 else 3) := rfl
 obtain ⟨av, cv, rfl, _⟩ := id h.vars
 obtain ⟨an, cn, rfl, _⟩ := id h.nodes
 obtain ⟨ab, cb, rfl, _⟩ := id h.body
 clear h hS hn hE
 generalize staF T zs = R at *
 generalize (chkT T).1.1 = c1 at *
 generalize (chkT T).1.2 = c2 at *
 generalize (chkT T).2 = c3 at *
 generalize cellsL (allL 0 T) = z at *
 generalize allW zs = aw at *
 generalize fault zs = fz at *
 have hA := heap_alloc_new w (.cells #[.slice av T.vars.length cv, .slice an T.nodes.length cn, .slice ab T.body.length cb] 37)
 have hB : Below w.heap.size w (w.alloc (.cells #[.slice av T.vars.length cv, .slice an T.nodes.length cn, .slice ab T.body.length cb] 37)) := (Below.refl _ _).alloc (Nat.le_refl _) _
 have hZ : (w.alloc (.cells #[.slice av T.vars.length cv, .slice an T.nodes.length cn, .slice ab T.body.length cb] 37)).heap.size = w.heap.size + 1 := by simp
 have hA2 := heap_alloc_new (w.alloc (.cells #[.slice av T.vars.length cv, .slice an T.nodes.length cn, .slice ab T.body.length cb] 37)) (.cells #[.slice a zs.length cap] 39)
 have hB2 : Below (w.alloc (.cells #[.slice av T.vars.length cv, .slice an T.nodes.length cn, .slice ab T.body.length cb] 37)).heap.size (w.alloc (.cells #[.slice av T.vars.length cv, .slice an T.nodes.length cn, .slice ab T.body.length cb] 37)) _ := (Below.refl _ _).alloc (Nat.le_refl _) (.cells #[.slice a zs.length cap] 39)
 have hA1 := blk hA hB2
 have hB3 := hB.trans (hB2.mono (by omega))
 rw [hZ] at hA2
 clear hA hB hB2 hZ
 have hfl := fldC
 have hfi := fldI
 go_enter Tryz.func37, Tryz.ntmps37
 go_wp2_with fail
 generalize ((w.alloc (.cells #[.slice av T.vars.length cv, .slice an T.nodes.length cn, .slice ab T.body.length cb] 37)).alloc (.cells #[.slice a zs.length cap] 39)) = W at *
 refine (HX.out _ hB3).mono ?_
 rintro e w2 ⟨rfl, hb⟩
 have HA : Hid (w2.heap[w.heap.size]? = some (.cells #[.slice av T.vars.length cv, .slice an T.nodes.length cn, .slice ab T.body.length cb] 37 (0, 0))) := blk hA1 hb
 have HA2 : Hid (w2.heap[w.heap.size + 1]? = some (.cells #[.slice a zs.length cap] 39 (0, 0))) := blk hA2 hb
 have HB : Hid (Below w.heap.size w w2) := hB3.trans (hb.mono hB3.size)
 clear hA1 hA2 hB3 hb HX
 by_cases hc : c1 = 0
 ·subst hc
  have HR : Hid (R = if (zs.length : Int) ≠ z then 1 else if aw = true then 0 else 3) := by unfold Hid; rw [HST.out, if_neg (by simp)]
  have HCX : Hid (Calls Tryz.prog 59 #[treeV (.slice av T.vars.length cv) (.slice an T.nodes.length cn) (.slice ab T.body.length cb)] w2.drew fun e w' => e = .returned (.agg #[.int .i64 0, .int .i64 z]) ∧ Below w2.drew.heap.size w2.drew w') := HCE.out rfl _ HB.out.drew
  have HZ : Hid (z ≤ 60) := HG.out rfl
  clear HST HCE HG
  have q0 := cell_of_row _ _ 0 _ _ _ HA2.out
  obtain ⟨p0, p1, p2⟩ := cl3 HA.out
  simp at q0 p0 p1 p2
  by_cases hz : (zs.length : Int) = z
  ·subst hz
   have HR2 : Hid (R = if aw = true then 0 else 3) := by unfold Hid; rw [HR.out, if_neg (by simp)]
   have HFB : Hid (R = fz) := by unfold Hid; rw [HR2.out]; exact (HFA.out (by have := HZ.out; omega)).symm
   clear HR HR2 HFA HZ
   go_upto_region 4 with fail
   go_region_held3 (fun W => W.cell? ⟨w.heap.size + 1, 0, none⟩ = some (.slice a zs.length cap) ∧ W.cell? ⟨w.heap.size, 0, none⟩ = some (.slice av T.vars.length cv) ∧ W.cell? ⟨w.heap.size, 1, none⟩ = some (.slice an T.nodes.length cn) ∧ W.cell? ⟨w.heap.size, 2, none⟩ = some (.slice ab T.body.length cb)) (go_keep) (first | (go_at_call 59; refine HCX.out.mono ?_; rintro e w7 ⟨rfl, hb⟩; have HE : Hid (Below w.heap.size w w7) := HB.out.drew.trans (hb.mono HB.out.drew.size); have hx1 := blk HA.out (Below.mono (Below.trans ((Below.refl _ w2).drew) hb) (Nat.le_refl _)); have hx2 := blk HA2.out (Below.mono (Below.trans ((Below.refl _ w2).drew) hb) (Nat.le_refl _)); have q0 := cell_of_row _ _ 0 _ _ _ hx2; have p0 := cell_of_row _ _ 0 _ _ _ hx1; have p1 := cell_of_row _ _ 1 _ _ _ hx1; have p2 := cell_of_row _ _ 2 _ _ _ hx1; simp at q0 p0 p1 p2; clear hb hx1 hx2))
   go_wp2_with fail
   refine (HL6.out _ HE.out).mono ?_
   rintro e w9 ⟨rfl, hb9⟩
   have HE9 := hid (HE.out.trans (hb9.mono HE.out.size))
   clear hb9
   go_wp2_with fail
   go_ret
   exact ⟨by rw [HFB.out]; rfl, HE9.out⟩
  ·have hz1 : ((zs.length : Int) == z) = false := by simpa using hz
   have hz2 : decide ((zs.length : Int) = z) = false := decide_eq_false hz
   have HR2 : Hid (R = 1) := by unfold Hid; rw [HR.out, if_pos hz]
   clear HR HFA HZ
   go_upto_region 4 with fail
   go_region_held3 (fun W => W.cell? ⟨w.heap.size + 1, 0, none⟩ = some (.slice a zs.length cap) ∧ W.cell? ⟨w.heap.size, 0, none⟩ = some (.slice av T.vars.length cv) ∧ W.cell? ⟨w.heap.size, 1, none⟩ = some (.slice an T.nodes.length cn) ∧ W.cell? ⟨w.heap.size, 2, none⟩ = some (.slice ab T.body.length cb)) (go_keep) (first | (go_at_call 59; refine HCX.out.mono ?_; rintro e w7 ⟨rfl, hb⟩; have HE : Hid (Below w.heap.size w w7) := HB.out.drew.trans (hb.mono HB.out.drew.size); have hx1 := blk HA.out (Below.mono (Below.trans ((Below.refl _ w2).drew) hb) (Nat.le_refl _)); have hx2 := blk HA2.out (Below.mono (Below.trans ((Below.refl _ w2).drew) hb) (Nat.le_refl _)); have q0 := cell_of_row _ _ 0 _ _ _ hx2; have p0 := cell_of_row _ _ 0 _ _ _ hx1; have p1 := cell_of_row _ _ 1 _ _ _ hx1; have p2 := cell_of_row _ _ 2 _ _ _ hx1; simp at q0 p0 p1 p2; clear hb hx1 hx2))
   go_wp2_with fail
   go_ret
   exact ⟨by rw [HR2.out]; rfl, HE.out⟩
 ·have hz1 : (c1 == 0) = false := by simpa using hc
  have hz2 : decide (c1 = 0) = false := decide_eq_false hc
  have HR : Hid (R = c1) := by unfold Hid; rw [HST.out, if_pos hc]
  clear HST HCE HL6 HFA HG
  go_wp2_with fail
  go_ret
  exact ⟨by rw [HR.out]; rfl, HB.out⟩
set_option maxHeartbeats 6400000 in
set_option maxRecDepth 100000 in
theorem implOutsOf (lo : Nat) (vv vn vb : Value) (T : LTree) (a : Option Addr) (cs : List Int) (cap : Nat) (w : World) (h : TreeV lo w vv vn vb T) (hS : Sized 1048576 T) (hn : Nums w a cs) (hlen : cs.length ≤ 1048576) (hcap : cs.length ≤ cap) (hE : ErrT w) :
  Calls Tryz.prog 22 #[treeV vv vn vb, .agg #[.slice a cs.length cap]] w fun e w' => ∃ v, e = .returned (resL (staF T cs) v) ∧ Own w' w.heap.size v (outsL T cs) ∧ Below w.heap.size w w' := by
 have HX : Hid (∀ W, Below w.heap.size w W → Calls Tryz.prog 37 #[treeV vv vn vb, .agg #[.slice a cs.length cap]] W fun e w' => e = .returned (.int .i64 (staF T cs)) ∧ Below W.heap.size W w') := fun W hb => implStateFault lo vv vn vb T a cs cap W (h.below hb) hS (hn.below hb) hlen (hE.kept hb)
 have HD : Hid (staF T cs = 0 → ∀ W, Below w.heap.size w W → Calls Tryz.prog 39 #[treeV vv vn vb] W fun e w' => ∃ ad c, e = .returned (.slice ad (allL 0 T).length c) ∧ RowE w' ad (allL 0 T) T.vars.length ∧ Below W.heap.size W w') := fun h0 W hb => (variablesOf_any lo vv vn vb T W (h.below hb) (sta_zero h0).1).mono fun e w' hh => by
  obtain ⟨v, rfl, hown, hb2⟩ := hh
  obtain ⟨ad, c, rfl⟩ := rowE_shape hown
  exact ⟨ad, c, rfl, RowE.of_own hown rfl, hb2⟩
 have HO : Hid (staF T cs = 0 → ∀ (ad : Option Addr) (c : Nat) (W : World), Below w.heap.size w W → RowE W ad (allL 0 T) T.vars.length → Calls Tryz.prog 38 #[.slice a cs.length cap, .slice ad (allL 0 T).length c] W fun e w' => ∃ a2 c2, e = .returned (.slice a2 (outsL T cs).length c2) ∧ Own w' W.heap.size (.slice a2 (outsL T cs).length c2) (outsL T cs) ∧ Below W.heap.size W w') := fun h0 ad c W hb hr => by
  obtain ⟨hG, he, _, h60⟩ := sta_zero h0
  have := outsIn_any (allL 0 T) T.vars.length ad c a cs cap W hr (hG.sizes 0) (hG.all_len 0) (hn.below hb) (by omega) h60
  rw [← show outsL T cs = outsV (allL 0 T) cs (allL 0 T).length from by unfold outsL; rw [if_pos h0]] at this
  refine this.mono fun e w' hh => ?_
  obtain ⟨v, rfl, hown, hb2⟩ := hh
  obtain ⟨a2, c2, rfl⟩ := own_shape hown
  exact ⟨a2, c2, rfl, hown, hb2⟩
 have HZ : Hid (staF T cs ≠ 0 → outsL T cs = []) := fun h => by unfold outsL; rw [if_neg h]
 obtain ⟨av, cv, rfl, _⟩ := id h.vars
 obtain ⟨an, cn, rfl, _⟩ := id h.nodes
 obtain ⟨ab, cb, rfl, _⟩ := id h.body
 clear h hS hn hE hcap
 generalize outsL T cs = L at *
 generalize staF T cs = F at *
 have hS3 := three_boxes w (.slice av T.vars.length cv) (.slice an T.nodes.length cn) (.slice ab T.body.length cb) (.slice a cs.length cap) (.int .i64 0) (.slice none 0 0) 37 39 32
 go_enter Tryz.func22, Tryz.ntmps22
 go_upto_region 1 with fail
 generalize (((w.alloc (.cells #[.slice av T.vars.length cv, .slice an T.nodes.length cn, .slice ab T.body.length cb] 37)).alloc (.cells #[.slice a cs.length cap] 39)).alloc (.cells #[.int .i64 0, .slice none 0 0] 32)) = W at *
 obtain ⟨hA, hA2, hA3, hB⟩ := hS3
 obtain ⟨p0, p1, p2⟩ := cl3 hA
 have q0 := cell_of_row _ _ 0 _ _ _ hA2
 simp at q0 p0 p1 p2
 go_wp2_with fail
 refine (HX.out _ hB).mono ?_
 rintro e w2 ⟨rfl, hb⟩
 have HA := hid (blk hA hb)
 have HA2 := hid (blk hA2 hb)
 have HA3 := hid (blk hA3 hb)
 have HB : Hid (Below w.heap.size w w2) := hB.trans (hb.mono hB.size)
 have HLT : Hid (w.heap.size + 2 < w2.heap.size) := blk_lt HA3.out
 obtain ⟨r0, r1⟩ := And.intro (cell_of_row _ _ 0 _ _ _ HA3.out) (cell_of_row _ _ 1 _ _ _ HA3.out)
 obtain ⟨f0, f1⟩ := And.intro (frozen_of_row _ _ 0 _ _ HA3.out) (frozen_of_row _ _ 1 _ _ HA3.out)
 simp at r0 r1 f0 f1
 clear hA hA2 hA3 hB hb HX p0 p1 p2 q0
 by_cases hc : F = 0
 ·subst hc
  have HO1 := HO.out rfl
  have HD1 := HD.out rfl
  have HOC := hid HO1
  have HDC := hid HD1
  clear HO HO1 HZ HD HD1 r0 r1 f0 f1
  go_upto_region 4 with fail
  have HC1 : Hid (∀ Z, Below w2.heap.size w2 Z → (Z.cell? ⟨w.heap.size, 0, none⟩ = some (.slice av T.vars.length cv) ∧ Z.cell? ⟨w.heap.size, 1, none⟩ = some (.slice an T.nodes.length cn) ∧ Z.cell? ⟨w.heap.size, 2, none⟩ = some (.slice ab T.body.length cb)) ∧ Z.cell? ⟨w.heap.size + 1, 0, none⟩ = some (.slice a cs.length cap)) := fun Z hb => ⟨⟨cell_of_row _ _ 0 _ _ _ (blk HA.out hb), cell_of_row _ _ 1 _ _ _ (blk HA.out hb), cell_of_row _ _ 2 _ _ _ (blk HA.out hb)⟩, cell_of_row _ _ 0 _ _ _ (blk HA2.out hb)⟩
  have HR1 : Hid (∀ Z, Below w2.heap.size w2 Z → (Z.cell? ⟨w.heap.size + 1 + 1, 0, none⟩ = some (.int .i64 0) ∧ Z.cell? ⟨w.heap.size + 1 + 1, 1, none⟩ = some (.slice none 0 0)) ∧ (Z.frozen? ⟨w.heap.size + 1 + 1, 0, none⟩ = false ∧ Z.frozen? ⟨w.heap.size + 1 + 1, 1, none⟩ = false)) := fun Z hb => ⟨⟨cell_of_row _ _ 0 _ _ _ (blk HA3.out hb), cell_of_row _ _ 1 _ _ _ (blk HA3.out hb)⟩, ⟨frozen_of_row _ _ 0 _ _ (blk HA3.out hb), frozen_of_row _ _ 1 _ _ (blk HA3.out hb)⟩⟩
  have HBD := hid HB.out.drew
  have HDR : Hid (Below w2.heap.size w2 w2.drew) := (Below.refl _ _).drew
  obtain ⟨⟨p0, p1, p2⟩, q0⟩ := HC1.out _ (Below.refl _ _)
  have hlt : w.heap.size + 1 + 1 < w2.heap.size := HLT.out
  clear HA HA2 HA3 HB
  have HKEEP : ∀ (Z : World) (v1 v2 : Value), Z.cell? ⟨w.heap.size, 0, none⟩ = some (.slice av T.vars.length cv) → Z.cell? ⟨w.heap.size, 1, none⟩ = some (.slice an T.nodes.length cn) → Z.cell? ⟨w.heap.size, 2, none⟩ = some (.slice ab T.body.length cb) → Z.cell? ⟨w.heap.size + 1, 0, none⟩ = some (.slice a cs.length cap) → (((Z.setCell ⟨w.heap.size + 1 + 1, 0, none⟩ v1).setCell ⟨w.heap.size + 1 + 1, 1, none⟩ v2).cell? ⟨w.heap.size, 0, none⟩ = some (.slice av T.vars.length cv) ∧ ((Z.setCell ⟨w.heap.size + 1 + 1, 0, none⟩ v1).setCell ⟨w.heap.size + 1 + 1, 1, none⟩ v2).cell? ⟨w.heap.size, 1, none⟩ = some (.slice an T.nodes.length cn) ∧ ((Z.setCell ⟨w.heap.size + 1 + 1, 0, none⟩ v1).setCell ⟨w.heap.size + 1 + 1, 1, none⟩ v2).cell? ⟨w.heap.size, 2, none⟩ = some (.slice ab T.body.length cb)) ∧ ((Z.setCell ⟨w.heap.size + 1 + 1, 0, none⟩ v1).setCell ⟨w.heap.size + 1 + 1, 1, none⟩ v2).cell? ⟨w.heap.size + 1, 0, none⟩ = some (.slice a cs.length cap) := fun Z v1 v2 h1 h2 h3 h4 => by
   have hk : ∀ (b i : Nat) (x : Option Value), b ≠ w.heap.size + 1 + 1 → Z.cell? ⟨b, i, none⟩ = x → ((Z.setCell ⟨w.heap.size + 1 + 1, 0, none⟩ v1).setCell ⟨w.heap.size + 1 + 1, 1, none⟩ v2).cell? ⟨b, i, none⟩ = x := fun b i x hb h =>
    (World.cell?_setCell_other _ _ _ _ (fun e => hb (by have := congrArg Addr.block e; first | exact this | exact this.symm))).trans ((World.cell?_setCell_other _ _ _ _ (fun e => hb (by have := congrArg Addr.block e; first | exact this | exact this.symm))).trans h)
   exact ⟨⟨hk _ _ _ (by omega) h1, hk _ _ _ (by omega) h2, hk _ _ _ (by omega) h3⟩, hk _ _ _ (by omega) h4⟩
  go_region_held3 (fun Z => (Z.cell? ⟨w.heap.size, 0, none⟩ = some (.slice av T.vars.length cv) ∧ Z.cell? ⟨w.heap.size, 1, none⟩ = some (.slice an T.nodes.length cn) ∧ Z.cell? ⟨w.heap.size, 2, none⟩ = some (.slice ab T.body.length cb)) ∧ Z.cell? ⟨w.heap.size + 1, 0, none⟩ = some (.slice a cs.length cap)) (first | go_keep | exact HKEEP _ _ _ (by assumption) (by assumption) (by assumption) (by assumption)) (first | (go_at_call 39; refine (HDC.out _ HBD.out).mono ?_; rintro e w5 ⟨ad, cx, rfl, hrow, hb⟩; have HG5 : Hid (Below w2.heap.size w2 w5) := HDR.out.trans (hb.mono (Nat.le_refl _)); have HB5 : Hid (Below w.heap.size w w5) := HBD.out.trans (hb.mono HBD.out.size); obtain ⟨⟨p0, p1, p2⟩, q0⟩ := HC1.out _ HG5.out; have HRW := hid hrow; clear hb hrow) | (go_at_call 38; refine (HOC.out _ _ _ HB5.out HRW.out).mono ?_; rintro e w6 ⟨a6, c6, rfl, hown, hb⟩; have HG6 : Hid (Below w2.heap.size w2 w6) := HG5.out.trans (hb.mono HG5.out.size); have HB6 : Hid (Below w.heap.size w w6) := HB5.out.trans (hb.mono HB5.out.size); obtain ⟨⟨p0, p1, p2⟩, q0⟩ := HC1.out _ HG6.out; obtain ⟨⟨r0, r1⟩, ⟨f0, f1⟩⟩ := HR1.out _ HG6.out; have HW := hid (own_mono hown HB5.out.size); have HSZ6 := hid (own_mono hown HG5.out.size); clear hb hown))
  have HB7 : Hid (Below w.heap.size w ((w6.setCell ⟨w.heap.size + 1 + 1, 0, none⟩ (.int .i64 0)).setCell ⟨w.heap.size + 1 + 1, 1, none⟩ (.slice a6 L.length c6))) := (HB6.out.setCell (by show w.heap.size ≤ w.heap.size + 1 + 1; omega) _).setCell (by show w.heap.size ≤ w.heap.size + 1 + 1; omega) _
  have HW7 : Hid (Own ((w6.setCell ⟨w.heap.size + 1 + 1, 0, none⟩ (.int .i64 0)).setCell ⟨w.heap.size + 1 + 1, 1, none⟩ (.slice a6 L.length c6)) w.heap.size (.slice a6 L.length c6) L) := own_mono (ownsRow_setCell_below (ownsRow_setCell_below HSZ6.out (a := ⟨w.heap.size + 1 + 1, 0, none⟩) hlt _) (a := ⟨w.heap.size + 1 + 1, 1, none⟩) hlt _) (by omega)
  clear HKEEP HW HSZ6 HB6 HG6 HG5 HB5 HRW HC1 HR1 HBD HDR HOC HDC
  go_wp2_with fail
  refine bodyPost_ret (v := resL 0 (.slice a6 L.length c6)) (by simp [results, Tryz.results22, resL, go_sem, r0, r1]) rfl ⟨_, rfl, HW7.out, HB7.out⟩
 ·have hz1' : (F == 0) = false := by simpa using hc
  have hz2' : decide (F = 0) = false := decide_eq_false hc
  have HL0 := hid (HZ.out hc)
  clear HO HZ HD
  go_wp2_with fail
  refine bodyPost_ret (v := resL F (.slice none 0 0)) (by simp [results, Tryz.results22, resL, go_sem, r0, r1]) rfl ⟨_, rfl, ?_, (HB.out.setCell (by show w.heap.size ≤ w.heap.size + 1 + 1; omega) _).setCell (by show w.heap.size ≤ w.heap.size + 1 + 1; omega) _⟩
  rw [HL0.out]
  exact World.ownsRow_nil _ _ _ _
set_option maxHeartbeats 6400000 in
theorem szTreeLe_any (lo : Nat) (T : LTree) (vv vn vb : Value) (w : World) (h : TreeV lo w vv vn vb T) (hf : Fits T) :
  Calls Tryz.prog 5 #[treeV vv vn vb, .int .i64 1048576] w fun e w' => ∃ r : Int, e = .returned (.int .i64 r) ∧ (0 ≤ r → Sized 1048576 T ∧ r ≤ 1048576) ∧ Below w.heap.size w w' := by
 obtain ⟨av, cv, rfl, _⟩ := id h.vars
 obtain ⟨an, cn, rfl, _⟩ := id h.nodes
 obtain ⟨ab, cb, rfl, _⟩ := id h.body
 have HV := hid h
 have HF : Hid (Fits T) := hf
 clear h hf
 go_enter Tryz.func5, Tryz.ntmps5
 go_wp2_with fail
 have hA := heap_alloc_new w (.cells #[.slice av T.vars.length cv, .slice an T.nodes.length cn, .slice ab T.body.length cb] 26)
 have hB : Below w.heap.size w (w.alloc (.cells #[.slice av T.vars.length cv, .slice an T.nodes.length cn, .slice ab T.body.length cb] 26)) := (Below.refl _ _).alloc (Nat.le_refl _) _
 generalize w.alloc (.cells #[.slice av T.vars.length cv, .slice an T.nodes.length cn, .slice ab T.body.length cb] 26) = W at *
 refine (szVars_any lo _ _ 1048576 _ (HV.out.below hB).vars (by omega) (by omega) HF.out.vars HF.out.names).mono ?_
 rintro e w0 ⟨L1, rfl, hr, hb⟩
 have hAc := blk hA hb
 have hBc := hB.trans (hb.mono hB.size)
 clear hA hB hb
 have a1 := cell_of_row _ _ 1 _ _ _ hAc
 simp at a1
 have HA : Hid _ := hAc
 have HB : Hid _ := hBc
 clear hAc hBc
 rcases hr with rfl | ⟨k1, m1, z1⟩
 ·go_wp2_with fail
  go_ret
  exact ⟨_, rfl, fun h => absurd h (by omega), HB.out⟩
 have HZ1 : Hid _ := z1
 clear z1
 go_wp2_with fail
 have hA := HA.out
 have hB := HB.out
 clear HA HB a1
 refine (szNodes_any lo _ _ _ _ (HV.out.below hB).nodes k1 (by omega) HF.out.nodes HF.out.node).mono ?_
 rintro e w1 ⟨L2, rfl, hr, hb⟩
 have hAc := blk hA hb
 have hBc := hB.trans (hb.mono hB.size)
 clear hA hB hb
 have a2 := cell_of_row _ _ 2 _ _ _ hAc
 simp at a2
 have HA : Hid _ := hAc
 have HB : Hid _ := hBc
 clear hAc hBc
 rcases hr with rfl | ⟨k2, m2, z2⟩
 ·go_wp2_with fail
  go_ret
  exact ⟨_, rfl, fun h => absurd h (by omega), HB.out⟩
 have HZ2 : Hid _ := z2
 clear z2
 go_wp2_with fail
 have hA := HA.out
 have hB := HB.out
 clear HA HB a2
 refine (szInts_any _ _ _ _ k2 (by omega) HF.out.body _).mono ?_
 rintro e w2 ⟨L3, rfl, hr, hb⟩
 have hAc := blk hA hb
 have hBc := hB.trans (hb.mono hB.size)
 clear hA hB hb
 have HA : Hid _ := hAc
 have HB : Hid _ := hBc
 clear hAc hBc
 rcases hr with rfl | ⟨k3, m3, z3⟩
 ·go_wp2_with fail
  go_ret
  exact ⟨_, rfl, fun h => absurd h (by omega), HB.out⟩
 have HZ3 : Hid _ := z3
 clear z3
 go_wp2_with fail
 go_ret
 exact ⟨_, rfl, fun _ => ⟨⟨HZ1.out.1, HZ2.out.1, HZ3.out, HZ1.out.2, HZ2.out.2⟩, by omega⟩, HB.out⟩
set_option maxHeartbeats 1600000 in
theorem szStateO_any (a : Option Addr) (n c : Nat) (left : Int) (h0 : 0 ≤ left) (h1 : left ≤ 1048576) (hl : n ≤ 9223372036854775807) (w : World) :
  Calls Tryz.prog 6 #[.agg #[.slice a n c], .int .i64 left] w fun e w' => ∃ r : Int, e = .returned (.int .i64 r) ∧ (0 ≤ r → n ≤ 1048576) ∧ Below w.heap.size w w' := by
 have HX : Hid (∀ W, Calls Tryz.prog 25 #[.slice a n c, .int .i64 left] W fun e w' => ∃ r : Int, e = .returned (.int .i64 r) ∧ Left left r (n ≤ 1048576) ∧ Below W.heap.size W w') := fun W => szInts_any a n c left h0 h1 hl W
 have hB : Below w.heap.size w (w.alloc (.cells #[.slice a n c] 28)) := (Below.refl _ _).alloc (Nat.le_refl _) _
 clear hl
 go_enter Tryz.func6, Tryz.ntmps6
 go_wp2_with fail
 generalize w.alloc (.cells #[.slice a n c] 28) = W at *
 refine (HX.out _).mono ?_
 rintro e w2 ⟨r, rfl, hr, hb⟩
 have HB : Hid (Below w.heap.size w w2) := hB.trans (hb.mono hB.size)
 clear hB hb HX
 rcases hr with rfl | ⟨k1, m1, z1⟩
 ·go_wp2_with fail
  go_ret
  exact ⟨_, rfl, fun h => absurd h (by omega), HB.out⟩
 ·have HZ1 : Hid _ := z1
  clear z1
  go_wp2_with fail
  go_ret
  exact ⟨_, rfl, fun _ => HZ1.out, HB.out⟩
set_option maxHeartbeats 1600000 in
theorem toStateC_any (a : Option Addr) (zs : List Int) (cap : Nat) (w : World) (hlen : zs.length ≤ 1048576) (hn : Nums w a zs) :
  Calls Tryz.prog 9 #[.agg #[.slice a zs.length cap]] w fun e w' => ∃ a2 c2, e = .returned (.agg #[.slice a2 zs.length c2]) ∧ zs.length ≤ c2 ∧ Own w' w.heap.size (.slice a2 zs.length c2) zs ∧ Below w.heap.size w w' := by
 have HX : Hid (∀ W, Below w.heap.size w W → Calls Tryz.prog 10 #[.slice a zs.length cap] W fun e w' => e = .returned (.slice (some ⟨W.heap.size, 0, none⟩) zs.length zs.length) ∧ Own w' W.heap.size (.slice (some ⟨W.heap.size, 0, none⟩) zs.length zs.length) zs ∧ Below W.heap.size W w') := fun W hb => copy_any a zs cap W hlen (hn.below hb)
 have a1 := heap_alloc_new w (.cells #[.slice a zs.length cap] 28)
 have b1 : Below w.heap.size w (w.alloc (.cells #[.slice a zs.length cap] 28)) := (Below.refl _ _).alloc (Nat.le_refl _) _
 have s1 : (w.alloc (.cells #[.slice a zs.length cap] 28)).heap.size = w.heap.size + 1 := by simp
 clear hn
 go_enter Tryz.func9, Tryz.ntmps9
 go_upto_region 2 with fail
 generalize w.alloc (.cells #[.slice a zs.length cap] 28) = W1 at *
 have a2 := heap_alloc_new W1 (.cells #[.slice none 0 0] 39)
 have b2 : Below W1.heap.size W1 (W1.alloc (.cells #[.slice none 0 0] 39)) := (Below.refl _ _).alloc (Nat.le_refl _) _
 have s2 : (W1.alloc (.cells #[.slice none 0 0] 39)).heap.size = w.heap.size + 2 := by simp; omega
 generalize W1.alloc (.cells #[.slice none 0 0] 39) = W2 at *
 have a3 := heap_alloc_new W2 (.cells #[.slice none 0 0] 39)
 have b3 : Below W2.heap.size W2 (W2.alloc (.cells #[.slice none 0 0] 39)) := (Below.refl _ _).alloc (Nat.le_refl _) _
 have s3 : (W2.alloc (.cells #[.slice none 0 0] 39)).heap.size = w.heap.size + 3 := by simp; omega
 generalize W2.alloc (.cells #[.slice none 0 0] 39) = W3 at *
 rw [s1] at a2
 rw [s2] at a3
 have A1 := blk (blk a1 b2) b3
 have A2 := blk a2 b3
 have B : Below w.heap.size w W3 := (b1.trans (b2.mono (by omega))).trans (b3.mono (by omega))
 have q0 := cell_of_row _ _ 0 _ _ _ A1
 simp at q0
 clear a1 a2 b1 b2 b3 s1 s2 A1
 go_wp2_with fail
 refine (HX.out _ B).mono ?_
 rintro e w4 ⟨rfl, hnn, hb⟩
 have d2 := blk A2 hb
 have d3 := blk a3 hb
 have HB : Hid (Below w.heap.size w w4) := B.trans (hb.mono B.size)
 have HN := hid hnn
 have HS3 : Hid (W3.heap.size = w.heap.size + 3) := s3
 have r0 := cell_of_row _ _ 0 _ _ _ d2
 have f0 := frozen_of_row _ _ 0 _ _ d2
 have r1 := cell_of_row _ _ 0 _ _ _ d3
 have f1 := frozen_of_row _ _ 0 _ _ d3
 simp at r0 r1 f0 f1
 clear a3 A2 B q0 hnn hb d2 d3 s3 HX
 generalize W3.heap.size = g at *
 go_wp2_with fail
 refine bodyPost_ret (v := .agg #[.slice (some ⟨g, 0, none⟩) zs.length zs.length]) (by simp [results, Tryz.results9, go_sem, r0]) rfl ⟨_, _, rfl, Nat.le_refl _, ?_, (HB.out.setCell (by simp <;> omega) _).setCell (by simp) _⟩
 exact own_mono (ownsRow_setCell_below (ownsRow_setCell_below HN.out (by have := HS3.out; simp; omega) _) (by have := HS3.out; simp; omega) _) (by have := HS3.out; omega)
set_option maxHeartbeats 1600000 in
theorem eqStateO_any (a b : Option Addr) (zs : List Int) (ca cb : Nat) (w : World) (hlen : zs.length ≤ 1048576) (ha : Nums w a zs) (hb : Nums w b zs) :
  Calls Tryz.prog 14 #[.agg #[.slice a zs.length ca], .agg #[.slice b zs.length cb]] w fun e w' => e = .returned (.bool true) ∧ Below w.heap.size w w' := by
 have HX : Hid (∀ W, Below w.heap.size w W → Calls Tryz.prog 15 #[.slice a zs.length ca, .slice b zs.length cb] W fun e w' => e = .returned (.bool true) ∧ Below W.heap.size W w') := fun W h => eqNums_any a b zs ca cb W (by omega) (ha.below h) (hb.below h)
 clear ha hb
 have b1 : Below w.heap.size w (w.alloc (.cells #[.slice a zs.length ca] 39)) := (Below.refl _ _).alloc (Nat.le_refl _) _
 have HB : Hid (Below w.heap.size w ((w.alloc (.cells #[.slice a zs.length ca] 39)).alloc (.cells #[.slice b zs.length cb] 39))) := b1.alloc b1.size _
 clear b1
 go_enter Tryz.func14, Tryz.ntmps14
 go_wp2_with fail
 refine (HX.out _ HB.out).mono ?_
 rintro e w2 ⟨rfl, hb⟩
 have HB2 : Hid (Below w.heap.size w w2) := HB.out.trans (hb.mono HB.out.size)
 clear hb HX HB
 go_wp2_with fail
 go_ret
 exact ⟨rfl, HB2.out⟩
end Go.Proofs.YteeklmgkhacbcaaGreatDoor
namespace Go.Proofs.YteeklmgkhacbcaaGreatDoor
open Go.RowKit
set_option linter.unusedVariables false
set_option maxHeartbeats 1600000 in
theorem markStateO_any (zs : List Int) (a : Option Addr) (c B : Nat) (k : Int) (w : World) (h : Own w B (.slice a zs.length c) zs) (hB : B ≤ w.heap.size) (hl : zs.length ≤ 1048576) (hk0 : 0 ≤ k) (hk1 : k ≤ 100000000000000) :
  Calls Tryz.prog 17 #[.agg #[.slice a zs.length c], .int .i64 k] w fun e w' => e = .returned (.int .i64 (k + zs.length)) ∧ w'.ownsRow B 2 1 (.slice a zs.length c) zs.length ((marks k zs.length).map (Value.int .i64)) ∧ Below B w w' ∧ w.heap.size ≤ w'.heap.size ∧ (∀ g, g < w.heap.size → a ≠ some ⟨g, 0, none⟩ → w'.heap[g]? = w.heap[g]?) := by
 have hx := heap_alloc_new w (.cells #[.slice a zs.length c] 39)
 have hy := (Below.refl w.heap.size w).alloc (Nat.le_refl _) (.cells #[.slice a zs.length c] 39)
 have hsz : (w.alloc (.cells #[.slice a zs.length c] 39)).heap.size = w.heap.size + 1 := by simp
 have HM := hid (mark_any a zs c B k _ (by omega) hk0 (by omega) (own_kept h hy))
 have HB0 := hid (hy.mono hB)
 have HY := hid hy
 have HS := hid hsz
 clear h hy hsz
 go_enter Tryz.func17, Tryz.ntmps17
 go_upto_region 1 with fail
 generalize w.alloc (.cells #[.slice a zs.length c] 39) = W at *
 have p0 := cl1 hx
 go_wp2_with fail
 refine HM.out.mono ?_
 rintro e w2 ⟨rfl, ho, hb, hz, hoth⟩
 have HF := hid (And.intro ho (And.intro (HB0.out.trans hb) (And.intro (show w.heap.size ≤ w2.heap.size by have := HS.out; omega) (show ∀ g, g < w.heap.size → a ≠ some ⟨g, 0, none⟩ → w2.heap[g]? = w.heap[g]? from fun g hg e => (hoth g e).trans (HY.out.block g hg)))))
 clear ho hb hz hoth HM HB0 HY HS hx p0
 go_wp2_with fail
 go_ret
 exact ⟨rfl, HF.out⟩
end Go.Proofs.YteeklmgkhacbcaaGreatDoor
