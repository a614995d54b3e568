/-
  The Go function laws.FnExactTypeOf answers true at every input and writes nothing that was there, where the variable errors.errorType holds the handle of the type error, as the program's text lays it. No other condition.
-/
import Derived.Test.YtepjaoapjpmjkaaGreatDoorAsM
import Derived.Test.YtepjaoapjpmjkaaGreatDoorICount
import Derived.Test.YtepjaoapjpmjkaaGreatDoorIFault
import Derived.Test.YtepjaoapjpmjkaaGreatDoorSTypeOf2
import Derived.Test.YtepjaoapjpmjkaaGreatDoorTreeMath
namespace Go.Proofs.YtepjaoapjpmjkaaGreatDoor
open Go.RowKit
set_option linter.unusedVariables false
attribute [local go_sem] bs_size bs_get bs_extract bs_append bs_eq bs_toList
theorem tyo_expr {T : LTree} {j : Nat} (h0 : faultL T = 0) (hj : j < T.nodes.length) (he : exprN (nodeOf T.nodes (j : Int)) = true) :
  ∃ f, T.nodes.length = f + 1 ∧ tyoR (typeT (allL 3 T) T (j : Int) (0, 0)) = if (metT (allL 0 T) T (f + 1) (j : Int)).1 = 0 then (plainT (allL 0 T) (nodeOf T.nodes (j : Int)), (0, 0)) else (0, metT (allL 0 T) T (f + 1) (j : Int)) := by
 obtain ⟨f, hf⟩ : ∃ f, T.nodes.length = f + 1 := ⟨T.nodes.length - 1, by omega⟩
 refine ⟨f, hf, ?_⟩
 unfold typeT metT
 rw [typeF_kind, hf]
 unfold tyoR
 by_cases hz : (typeF (allL 0 T) T.vars.length T.nodes (f + 1) (j : Int) (0, 0)).2.1 = 0
 ·rw [if_pos hz, if_pos hz, typeF_plain f (j : Int) 0 (expr_to he) hz]
 ·rw [if_neg hz, if_neg hz]
theorem three_alloc {w : World} {b : Nat} {T : TypeId} {a0 a1 a2 : Value} (x y z : Value) (o : Obj) (h : w.heap[b]? = some (.cells #[a0, a1, a2] T (0, 0))) : ((((w.setCell ⟨b, 0, none⟩ x).setCell ⟨b, 1, none⟩ y).setCell ⟨b, 2, none⟩ z).alloc o).heap[b]? = some (.cells #[x, y, z] T (0, 0)) := by
 rw [Below.heap_alloc _ _ _ (by have := blk_lt h; simp; omega)]
 rw [heap_setCell_same _ _ _ _ _ _ (heap_setCell_same _ _ _ _ _ _ (heap_setCell_same _ _ _ _ _ _ h))]
 rfl
def TreeAt3G (f : FuncId) (R : LTree → Int → Int × Met) : Prop := ∀ (lo : Nat) (vv vn vb : Value) (T : LTree) (k : Int) (w : World), TreeV lo w vv vn vb T → Sized 1048576 T → ErrT w →
 Calls Tryz.prog f #[treeV vv vn vb, .int .i64 k] w fun e w' => e = .returned (.agg #[.int .i64 (R T k).2.1, .int .i64 (R T k).2.2, .int .i64 (R T k).1]) ∧ Below w.heap.size w w'
set_option maxHeartbeats 6400000 in
set_option maxRecDepth 100000 in
theorem implTypeOf : TreeAt3G 10 tyoT := by
 intro lo vv vn vb T k w h hS hE
 have hlen := hS.nodes
 obtain ⟨av, cv, rfl, _⟩ := id h.vars
 obtain ⟨an, cn, rfl, _⟩ := id h.nodes
 obtain ⟨ab, cb, rfl, _⟩ := id h.body
 have HF : Hid (∀ (w' : World), Below w.heap.size w w' → Calls Tryz.prog 38 #[treeV (.slice av T.vars.length cv) (.slice an T.nodes.length cn) (.slice ab T.body.length cb)] w' fun e w2 => e = .returned (.int .i64 (faultL T)) ∧ Below w'.heap.size w' w2) := fun w' hb =>
  implTreeFault lo _ _ _ T w' (h.below hb) hS
 have HNC : Hid (∀ (w' : World), Below w.heap.size w w' → faultL T = 0 → Calls Tryz.prog 40 #[.agg #[.slice av T.vars.length cv, .slice an T.nodes.length cn, .slice ab T.body.length cb]] w' fun e w2 => (∃ cp mp, e = .returned (.pointer (some ⟨cp, 0, none⟩)) ∧ CkE lo w2 cp mp (.slice an T.nodes.length cn) (.slice none 0 0) T (allL 0 T)) ∧ Below w'.heap.size w' w2) := fun w' hb h0 =>
  newChecker_any lo _ _ _ T w' (h.below hb) (good_of h0)
 have HTY : Hid (faultL T = 0 → ∀ (cp mp j : Nat), j < T.nodes.length → exprN (nodeOf T.nodes (j : Int)) = true → ∀ f, T.nodes.length = f + 1 → ITypeC lo cp mp (.slice an T.nodes.length cn) (.slice none 0 0) T (allL 0 T) (f + 1) j) := fun h0 cp mp j hj he f hf =>
  typeOf_all lo cp mp _ _ T (allL 0 T) (types_ok (good_of h0) 0) (fits_of h0) (names_small hS) j hj (expr_to he) f (by omega)
 have HT := hid h
 have HER : Hid (∀ w', Below w.heap.size w w' → ErrT w') := fun w' hb => hE.kept hb
 have HC : Hid (tyoT T k = if faultL T ≠ 0 then (0, (faultL T, -1)) else if (inB k 0 ((T.nodes.length : Int) - 1) && exprN (nodeOf T.nodes k)) = false then (0, (3, -1)) else tyoR (typeT (allL 3 T) T k (0, 0))) := rfl
 have HGD : Hid (faultL T = 0 → T.nodes.length ≤ 200) := fun h => (good_of h).nodes
 clear h hS hE
 obtain ⟨q, hq⟩ : ∃ q, inB k 0 ((T.nodes.length : Int) - 1) = q := ⟨_, rfl⟩
 have hI : Hid (q = false → ∀ w, Calls Tryz.prog 39 #[.slice an T.nodes.length cn, .int .i64 k] w fun e w' => e = .returned (.bool false) ∧ w' = w) := fun h w => iep_no an T.nodes.length cn k w (by omega) (hq.trans h)
 obtain ⟨R, hR⟩ : ∃ R, R = tyoT T k := ⟨_, rfl⟩
 rw [← hR] at HC ⊢
 clear hR
 go_enter Tryz.func10, Tryz.ntmps10
 go_wp2_with fail
 obtain ⟨hA, hA2, hB⟩ := three_start w (.slice av T.vars.length cv) (.slice an T.nodes.length cn) (.slice ab T.body.length cb) 34 29
 generalize ((w.alloc (.cells #[.slice av T.vars.length cv, .slice an T.nodes.length cn, .slice ab T.body.length cb] 34)).alloc (.cells #[.int .i64 0, .int .i64 0, .int .i64 0] 29)) = W at *
 refine (HF.out _ hB).mono ?_
 rintro e w2 ⟨rfl, hb⟩
 have HA : Hid (w2.heap[w.heap.size]? = some (.cells #[.slice av T.vars.length cv, .slice an T.nodes.length cn, .slice ab T.body.length cb] 34 (0, 0))) := blk hA hb
 have HA2 : Hid (w2.heap[w.heap.size + 1]? = some (.cells #[.int .i64 0, .int .i64 0, .int .i64 0] 29 (0, 0))) := blk hA2 hb
 have HB : Hid (Below w.heap.size w w2) := hB.trans (hb.mono hB.size)
 clear hA hA2 hB hb HF
 have p1 : w2.cell? ⟨w.heap.size, 1, none⟩ = some (.slice an T.nodes.length cn) := cell_of_row _ _ 1 _ _ _ HA.out
 obtain ⟨r0, r1, r2⟩ := cl3 HA2.out
 obtain ⟨f0, f1, f2⟩ := fl3 HA2.out
 obtain ⟨F, hF⟩ : ∃ F, faultL T = F := ⟨_, rfl⟩
 rw [hF]
 by_cases hz : F = 0
 ·subst hz
  have hnl := HGD.out hF
  cases q with
  | false =>
   have HCV : Hid (R = (0, (3, -1))) := by unfold Hid; rw [HC.out, hF, hq, if_neg (by simp), Bool.false_and, if_pos rfl]
   clear hF hq HC HTY HNC HGD
   go_wp2_with fail
   refine (hI.out (by first | rfl | trivial) _).mono ?_
   rintro e w3 ⟨rfl, rfl⟩
   go_wp2_with fail
   refine bodyPost_ret (v := .agg #[.int .i64 3, .int .i64 (-1), .int .i64 0]) (by simp [results, Tryz.results10, go_sem, r0, r1, r2]) rfl ⟨by rw [HCV.out], ((HB.out.setCell (by simp) _).setCell (by simp) _).setCell (by simp) _⟩
  | true =>
   have hq2 := inB_iff.1 hq
   obtain ⟨j, rfl⟩ : ∃ j : Nat, k = j := ⟨k.toNat, by omega⟩
   have hj : j < T.nodes.length := by omega
   have HTP : Hid (TreeP lo w2 w.heap.size (.slice av T.vars.length cv) (.slice an T.nodes.length cn) (.slice ab T.body.length cb) T) := ⟨cell_of_row _ _ 0 _ _ _ HA.out, cell_of_row _ _ 1 _ _ _ HA.out, cell_of_row _ _ 2 _ _ _ HA.out, HT.out.below HB.out⟩
   have HC1 : Hid (R = if exprN (nodeOf T.nodes (j : Int)) = false then (0, (3, -1)) else tyoR (typeT (allL 3 T) T (j : Int) (0, 0))) := by unfold Hid; rw [HC.out, hF, hq, if_neg (by simp), Bool.true_and]
   have HFZ : Hid (faultL T = 0) := hF
   obtain ⟨bn, on, rfl, vk, vt, ve, ⟨d0, d1, d2, d3, d4, d5, d6, d7⟩, _⟩ := node_at HTP.out hj
   have HEX : Hid (Calls Tryz.prog 39 #[.slice (some ⟨bn, on, none⟩) T.nodes.length cn, .int .i64 (j : Int)] w2 fun e w3 => e = .returned (.bool (exprN (nodeOf T.nodes (j : Int)))) ∧ w3 = w2) := iep_yes bn on T.nodes.length cn j (nodeOf T.nodes (j : Int)).kind w2 (by omega) hj d0
   have HEN : Hid (∀ w', Below w2.heap.size w2 w' → Calls Tryz.prog 40 #[.agg #[.slice av T.vars.length cv, .slice (some ⟨bn, on, none⟩) T.nodes.length cn, .slice ab T.body.length cb]] w' fun e w3 => (∃ cp mp, e = .returned (.pointer (some ⟨cp, 0, none⟩)) ∧ CkE lo w3 cp mp (.slice (some ⟨bn, on, none⟩) T.nodes.length cn) (.slice none 0 0) T (allL 0 T)) ∧ Below w'.heap.size w' w3) := fun w' hb => HNC.out w' (HB.out.trans (hb.mono HB.out.size)) hF
   clear d0 hI
   obtain ⟨q3, hq3⟩ : ∃ q3, exprN (nodeOf T.nodes (j : Int)) = q3 := ⟨_, rfl⟩
   have HQ3 := hid hq3
   rw [hq3] at HEX HC1
   have hj0 : (0 : Int) ≤ (j : Int) := by omega
   have hj1 : (j : Int) < (T.nodes.length : Int) := by omega
   obtain ⟨HA0, -, HA3⟩ := cl3 HA.out
   clear hF hq hq2 HC HGD hq3 d1 d2 d3 d4 d5 d6 d7 HNC HTP
   cases q3 with
   | false =>
    have HCV : Hid (R = (0, (3, -1))) := by unfold Hid; rw [HC1.out, if_pos rfl]
    clear HC1 HTY HEN
    go_wp2_with fail
    refine HEX.out.mono ?_
    rintro e w4 ⟨rfl, rfl⟩
    go_wp2_with fail
    refine bodyPost_ret (v := .agg #[.int .i64 3, .int .i64 (-1), .int .i64 0]) (by simp [results, Tryz.results10, go_sem, r0, r1, r2]) rfl ⟨by rw [HCV.out], ((HB.out.setCell (by simp) _).setCell (by simp) _).setCell (by simp) _⟩
   | true =>
    obtain ⟨f, hf, htyo⟩ := tyo_expr HFZ.out hj HQ3.out
    have HCV : Hid (R = if (metT (allL 0 T) T (f + 1) (j : Int)).1 = 0 then (plainT (allL 0 T) (nodeOf T.nodes (j : Int)), (0, 0)) else (0, metT (allL 0 T) T (f + 1) (j : Int))) := by unfold Hid; rw [HC1.out, if_neg (by simp), htyo]
    have HTC : Hid (∀ (cp mp : Nat) (W : World), CkE lo W cp mp (.slice (some ⟨bn, on, none⟩) T.nodes.length cn) (.slice none 0 0) T (allL 0 T) → Calls Tryz.prog 41 #[.pointer (some ⟨cp, 0, none⟩), .int .i64 (j : Int)] W fun e w' => e = .returned (.tuple #[.int .i64 (if (metT (allL 0 T) T (f + 1) (j : Int)).1 = 0 then plainT (allL 0 T) (nodeOf T.nodes (j : Int)) else 0), errV (metT (allL 0 T) T (f + 1) (j : Int))]) ∧ Below W.heap.size W w') := fun cp mp W hW => HTY.out HFZ.out cp mp j hj HQ3.out f hf W hW
    clear HC1 htyo hf HTY HFZ HQ3
    generalize plainT (allL 0 T) (nodeOf T.nodes (j : Int)) = g at *
    generalize metT (allL 0 T) T (f + 1) (j : Int) = m at *
    obtain ⟨s1, s2⟩ := m
    go_wp2_with fail
    refine HEX.out.mono ?_
    rintro e w4 ⟨rfl, rfl⟩
    clear HEX
    go_wp2_with fail
    refine (HEN.out _ (Below.refl _ _)).mono ?_
    rintro e w5 ⟨⟨cp, mp, rfl, hck⟩, hb5⟩
    have HB5 : Hid (Below w.heap.size w w5) := HB.out.trans (hb5.mono HB.out.size)
    have HA5 : Hid (w5.heap[w.heap.size + 1]? = some (.cells #[.int .i64 0, .int .i64 0, .int .i64 0] 29 (0, 0))) := blk HA2.out hb5
    have HT5 := HTC.out cp mp w5 hck
    clear hb5 hck HEN HTC p1 r0 r1 r2 f0 f1 f2 HA0 HA3 HB HA2
    by_cases hs : s1 = 0
    ·subst hs
     have HCW : Hid (R = (g, (0, 0))) := by unfold Hid; rw [HCV.out, if_pos rfl]
     rw [if_pos rfl, errV_zero rfl] at HT5
     have HTY : Hid (Calls Tryz.prog 41 #[.pointer (some ⟨cp, 0, none⟩), .int .i64 (j : Int)] w5 fun e w' => e = .returned (.tuple #[.int .i64 g, .nilIface]) ∧ Below w5.heap.size w5 w') := HT5
     clear HT5 HCV
     go_wp2_with fail
     refine HTY.out.mono ?_
     rintro e w6 ⟨rfl, hb6⟩
     have HB6 : Hid (Below w.heap.size w w6) := HB5.out.trans (hb6.mono HB5.out.size)
     have HA6 : Hid (w6.heap[w.heap.size + 1]? = some (.cells #[.int .i64 0, .int .i64 0, .int .i64 0] 29 (0, 0))) := blk HA5.out hb6
     clear hb6 HTY HB5 HA5
     go_wp2_with fail
     refine (misfit_nil _).mono ?_
     rintro e w7 ⟨rfl, hb7⟩
     have HB7 : Hid (Below w.heap.size w w7) := HB6.out.trans (hb7.mono HB6.out.size)
     have hA7 := blk HA6.out hb7
     have hl7 := blk_lt hA7
     obtain ⟨r0, r1, r2⟩ := cl3 hA7
     obtain ⟨f0, f1, f2⟩ := fl3 hA7
     have hZ := three_alloc (.int .i64 0) (.int .i64 0) (.int .i64 g) (.cells #[.int .i64 0, .int .i64 0] 85) hA7
     obtain ⟨z0, z1, z2⟩ := cl3 hZ
     clear hb7 HB6 HA6 hA7 hZ
     go_wp2_with fail
     refine bodyPost_ret (v := .agg #[.int .i64 0, .int .i64 0, .int .i64 g]) (by simp [results, Tryz.results10, go_sem, z0, z1, z2]) rfl ⟨by rw [HCW.out], ?_⟩
     have hsz := HB7.out.size
     exact (((HB7.out.setCell (by simp) _).setCell (by simp) _).setCell (by simp) _).alloc (by simp; omega) _
    ·have HCW : Hid (R = (0, (s1, s2))) := by unfold Hid; rw [HCV.out, if_neg hs]
     rw [if_neg hs, errV_met hs] at HT5
     have HTY : Hid (Calls Tryz.prog 41 #[.pointer (some ⟨cp, 0, none⟩), .int .i64 (j : Int)] w5 fun e w' => e = .returned (.tuple #[.int .i64 0, .iface 85 (.agg #[.int .i64 s1, .int .i64 s2])]) ∧ Below w5.heap.size w5 w') := HT5
     clear HT5 HCV
     go_wp2_with fail
     refine HTY.out.mono ?_
     rintro e w6 ⟨rfl, hb6⟩
     have HB6 : Hid (Below w.heap.size w w6) := HB5.out.trans (hb6.mono HB5.out.size)
     have HA6 : Hid (w6.heap[w.heap.size + 1]? = some (.cells #[.int .i64 0, .int .i64 0, .int .i64 0] 29 (0, 0))) := blk HA5.out hb6
     clear hb6 HTY HB5 HA5
     go_wp2_with fail
     refine (misfit_hit s1 s2 _ (HER.out _ HB6.out)).mono ?_
     rintro e w7 ⟨rfl, hb7⟩
     have HB7 : Hid (Below w.heap.size w w7) := HB6.out.trans (hb7.mono HB6.out.size)
     have hA7 := blk HA6.out hb7
     have hl7 := blk_lt hA7
     obtain ⟨r0, r1, r2⟩ := cl3 hA7
     obtain ⟨f0, f1, f2⟩ := fl3 hA7
     have hZ := three_alloc (.int .i64 s1) (.int .i64 s2) (.int .i64 0) (.cells #[.int .i64 s1, .int .i64 s2] 85) hA7
     obtain ⟨z0, z1, z2⟩ := cl3 hZ
     clear hb7 HB6 HA6 hA7 hZ
     go_wp2_with fail
     refine bodyPost_ret (v := .agg #[.int .i64 s1, .int .i64 s2, .int .i64 0]) (by simp [results, Tryz.results10, go_sem, z0, z1, z2]) rfl ⟨by rw [HCW.out], ?_⟩
     have hsz := HB7.out.size
     exact (((HB7.out.setCell (by simp) _).setCell (by simp) _).setCell (by simp) _).alloc (by simp; omega) _
 ·have HCV : Hid (R = (0, (F, -1))) := by unfold Hid; rw [HC.out, hF, if_pos hz]
  have hz1 : (F == 0) = false := by simpa using hz
  have hz2 : decide (F = 0) = false := decide_eq_false hz
  clear HC hF hq hI HTY HNC HGD
  go_wp2_with fail
  refine bodyPost_ret (v := .agg #[.int .i64 F, .int .i64 (-1), .int .i64 0]) (by simp [results, Tryz.results10, go_sem, r0, r1, r2]) rfl ⟨by rw [HCV.out], ((HB.out.setCell (by simp) _).setCell (by simp) _).setCell (by simp) _⟩
end Go.Proofs.YtepjaoapjpmjkaaGreatDoor
namespace Go.Proofs.YtepjaoapjpmjkaaGreatDoor
open Go.RowKit
set_option linter.unusedVariables false
attribute [local go_sem] bs_size bs_get bs_extract bs_append bs_eq bs_toList
set_option maxHeartbeats 800000 in
theorem eqTypeRes_any (a b c : Int) (w : World) : Calls Tryz.prog 11 #[.agg #[.int .i64 a, .int .i64 b, .int .i64 c], .agg #[.int .i64 a, .int .i64 b, .int .i64 c]] w fun e w' => e = .returned (.bool true) ∧ Below w.heap.size w w' := by
 go_enter Tryz.func11, Tryz.ntmps11
 go_wp2
 go_ret
 exact ⟨rfl, by go_grown⟩
set_option maxHeartbeats 6400000 in
set_option maxRecDepth 100000 in
theorem typeOf_law (R : LTree → Int → Int × Met) (hS : TreeAt3 8 R) (hI : TreeAt3G 10 R) (vv vn vb : Value) (T : LTree) (k : Int) (w : World) (h : IsTree w vv vn vb T) (hE : ErrT w) :
  Calls Tryz.prog 3 #[treeV vv vn vb, .int .i64 k] w fun e w' => e = .returned (.bool true) ∧ Below w.heap.size w w' := by
 obtain ⟨ht, hf⟩ := h
 obtain ⟨av, cv, rfl, _⟩ := id ht.vars
 obtain ⟨an, cn, rfl, _⟩ := id ht.nodes
 obtain ⟨ab, cb, rfl, _⟩ := id ht.body
 have HT := hid ht
 have HF : Hid (Fits T) := hf
 have HS := hid hS
 have HI := hid hI
 have HER : Hid (∀ w', Below w.heap.size w w' → ErrT w') := fun w' hb => hE.kept hb
 have HQ : Hid (∀ (a b c : Int) (w : World), Calls Tryz.prog 11 #[.agg #[.int .i64 a, .int .i64 b, .int .i64 c], .agg #[.int .i64 a, .int .i64 b, .int .i64 c]] w fun e w' => e = .returned (.bool true) ∧ Below w.heap.size w w') := eqTypeRes_any
 clear ht hf hS hI hE
 go_enter Tryz.func3, Tryz.ntmps3
 go_wp2_with fail
 have hA := heap_alloc_new w (.cells #[.slice av T.vars.length cv, .slice an T.nodes.length cn, .slice ab T.body.length cb] 26)
 have hB : Below w.heap.size w (w.alloc (.cells #[.slice av T.vars.length cv, .slice an T.nodes.length cn, .slice ab T.body.length cb] 26)) := (Below.refl _ _).alloc (Nat.le_refl _) _
 generalize w.alloc (.cells #[.slice av T.vars.length cv, .slice an T.nodes.length cn, .slice ab T.body.length cb] 26) = W at *
 refine (szTree_any 0 T _ _ _ _ (HT.out.below hB) HF.out).mono ?_
 rintro e w1 ⟨r, rfl, hr, hb1⟩
 have HA : Hid (w1.heap[w.heap.size]? = some (.cells #[.slice av T.vars.length cv, .slice an T.nodes.length cn, .slice ab T.body.length cb] 26 (0, 0))) := blk hA hb1
 have HB : Hid (Below w.heap.size w w1) := hB.trans (hb1.mono hB.size)
 clear hb1 hA hB
 by_cases h0 : 0 ≤ r
 ·have HZ : Hid (Sized 1048576 T) := hr h0
  clear hr
  obtain ⟨a0, a1, a2⟩ := cl3 HA.out
  go_wp2_with fail
  refine (toTree_any 0 T _ _ _ _ (HT.out.below HB.out) HZ.out).mono ?_
  rintro e w2 ⟨_, _, _, rfl, ht2, hb⟩
  obtain ⟨av2, cv2, rfl, _⟩ := id ht2.vars
  obtain ⟨an2, cn2, rfl, _⟩ := id ht2.nodes
  obtain ⟨ab2, cb2, rfl, _⟩ := id ht2.body
  have hA := blk HA.out hb
  have hB := HB.out.trans (hb.mono HB.out.size)
  clear HA HB hb a0 a1 a2
  have HA : Hid _ := hA
  have HB := hid hB
  have HT2 := hid ht2
  clear hA hB ht2
  go_wp2_with fail
  refine (HS.out _ _ _ _ T _ _ HT2.out HZ.out).mono ?_
  rintro e w3 ⟨rfl, hb⟩
  have hA := blk HA.out hb
  have hB := HB.out.trans (hb.mono HB.out.size)
  clear HA HB hb HT2
  have HA : Hid _ := hA
  have HB := hid hB
  clear hA hB
  have hbx : Below w3.heap.size w3 (w3.alloc (.cells #[.int .i64 (R T k).2.1, .int .i64 (R T k).2.2, .int .i64 (R T k).1] 29)) := (Below.refl _ _).alloc (Nat.le_refl _) _
  have HG : Hid _ := heap_alloc_new w3 (.cells #[.int .i64 (R T k).2.1, .int .i64 (R T k).2.2, .int .i64 (R T k).1] 29)
  have hA := blk HA.out hbx
  obtain ⟨a0, a1, a2⟩ := cl3 hA
  have hB := HB.out.trans (hbx.mono HB.out.size)
  clear HA HB hbx
  have HA : Hid _ := hA
  have HB : Hid _ := hB
  clear hA hB
  go_wp2_with fail
  have hA := HA.out
  have hB := HB.out
  have hG := HG.out
  clear HA HB HG a0 a1 a2
  generalize w3.alloc (.cells #[.int .i64 (R T k).2.1, .int .i64 (R T k).2.2, .int .i64 (R T k).1] 29) = W3 at *
  generalize w3.heap.size = g3 at *
  refine (toTree_any 0 T _ _ _ _ (HT.out.below hB) HZ.out).mono ?_
  rintro e w4 ⟨_, _, _, rfl, ht4, hb⟩
  obtain ⟨av4, cv4, rfl, _⟩ := id ht4.vars
  obtain ⟨an4, cn4, rfl, _⟩ := id ht4.nodes
  obtain ⟨ab4, cb4, rfl, _⟩ := id ht4.body
  have HA : Hid _ := blk hA hb
  have HG : Hid _ := blk hG hb
  have HB : Hid (Below w.heap.size w w4) := hB.trans (hb.mono hB.size)
  have HT4 := hid ht4
  clear hA hB ht4 hG hb
  go_wp2_with fail
  have hbx : Below w4.heap.size w4 (w4.alloc (.cells #[.slice av4 T.vars.length cv4, .slice an4 T.nodes.length cn4, .slice ab4 T.body.length cb4] 34)) := (Below.refl _ _).alloc (Nat.le_refl _) _
  have hX := heap_alloc_new w4 (.cells #[.slice av4 T.vars.length cv4, .slice an4 T.nodes.length cn4, .slice ab4 T.body.length cb4] 34)
  have hA := blk HA.out hbx
  have hG := blk HG.out hbx
  have hB := HB.out.trans (hbx.mono HB.out.size)
  have hT4 := HT4.out.below hbx
  clear HA HB HG HT4 hbx
  generalize w4.alloc (.cells #[.slice av4 T.vars.length cv4, .slice an4 T.nodes.length cn4, .slice ab4 T.body.length cb4] 34) = W5 at *
  generalize w4.heap.size = g4 at *
  refine (HI.out _ _ _ _ T _ _ hT4 HZ.out (HER.out _ hB)).mono ?_
  rintro e w5 ⟨rfl, hb⟩
  have hA5 := blk hA hb
  have hG5 := blk hG hb
  have hX5 := blk hX hb
  have hB5 := hB.trans (hb.mono hB.size)
  have hT5 := hT4.below hb
  clear hb hB hT4 hA hX hG
  have hbx : Below w5.heap.size w5 (w5.alloc (.cells #[.int .i64 (R T k).2.1, .int .i64 (R T k).2.2, .int .i64 (R T k).1] 29)) := (Below.refl _ _).alloc (Nat.le_refl _) _
  have hH := heap_alloc_new w5 (.cells #[.int .i64 (R T k).2.1, .int .i64 (R T k).2.2, .int .i64 (R T k).1] 29)
  have HA : Hid _ := blk hA5 hbx
  have HG : Hid _ := blk hG5 hbx
  have HX : Hid _ := blk hX5 hbx
  have HH : Hid _ := hH
  have HB : Hid _ := hB5.trans (hbx.mono hB5.size)
  have HT5 : Hid _ := hT5.below hbx
  obtain ⟨b0, b1, b2⟩ := cl3 HG.out
  obtain ⟨d0, d1, d2⟩ := cl3 HH.out
  clear hA5 hG5 hX5 hH hB5 hT5 hbx
  go_wp2_with fail
  generalize w5.alloc (.cells #[.int .i64 (R T k).2.1, .int .i64 (R T k).2.2, .int .i64 (R T k).1] 29) = W6 at *
  refine (HQ.out _ _ _ _).mono ?_
  rintro e w6 ⟨rfl, hb⟩
  have hA6 := blk HA.out hb
  have hX6 := blk HX.out hb
  have hB6 := HB.out.trans (hb.mono HB.out.size)
  have hT6 := HT5.out.below hb
  clear HA HG HX HH HB HT5 b0 b1 b2 d0 d1 d2 hb
  have HB := hid hB6
  have HT6 := hid hT6
  clear hB6 hT6
  have hgA : w.heap.size < w6.heap.size := blk_lt hA6
  have hgX : g4 < w6.heap.size := blk_lt hX6
  obtain ⟨a0, a1, a2⟩ := cl3 hA6
  obtain ⟨x0, x1, x2⟩ := cl3 hX6
  clear hA6 hX6
  have A0 : Hid _ := a0
  have X0 : Hid _ := x0
  have A1 : Hid _ := a1
  have X1 : Hid _ := x1
  have A2 : Hid _ := a2
  have X2 : Hid _ := x2
  have HC : Hid (∀ W, Below w6.heap.size w6 W → Calls Tryz.prog 9 #[.agg #[.slice av T.vars.length cv, .slice an T.nodes.length cn, .slice ab T.body.length cb]] W fun e w' => ∃ a c a2 c2 a3 c3, e = .returned (treeV (.slice a T.vars.length c) (.slice a2 T.nodes.length c2) (.slice a3 T.body.length c3)) ∧ TreeV W.heap.size w' (.slice a T.vars.length c) (.slice a2 T.nodes.length c2) (.slice a3 T.body.length c3) T ∧ Below W.heap.size W w') := fun W hW =>
   (toTree_any 0 T _ _ _ W (HT.out.below (HB.out.trans (hW.mono HB.out.size))) HZ.out).mono fun e w' h => by
    obtain ⟨_, _, _, rfl, h1, h2⟩ := h
    obtain ⟨_, _, rfl, _⟩ := id h1.vars
    obtain ⟨_, _, rfl, _⟩ := id h1.nodes
    obtain ⟨_, _, rfl, _⟩ := id h1.body
    exact ⟨_, _, _, _, _, _, rfl, h1, h2⟩
  have HE : Hid (∀ W lo v1 v2 v3, Below w6.heap.size w6 W → TreeV lo W v1 v2 v3 T → Calls Tryz.prog 12 #[.agg #[.slice av4 T.vars.length cv4, .slice an4 T.nodes.length cn4, .slice ab4 T.body.length cb4], treeV v1 v2 v3] W fun e w' => e = .returned (.bool true) ∧ Below W.heap.size W w') := fun W lo v1 v2 v3 hW h =>
   eqTree_any _ _ T _ _ _ _ _ _ W (HT6.out.below hW) h HZ.out
  go_wp2_with fail
  go_region_held3 (fun W => (W.cell? ⟨w.heap.size, 0, none⟩ = some (.slice av T.vars.length cv) ∧ W.cell? ⟨w.heap.size, 1, none⟩ = some (.slice an T.nodes.length cn) ∧ W.cell? ⟨w.heap.size, 2, none⟩ = some (.slice ab T.body.length cb)) ∧ (W.cell? ⟨g4, 0, none⟩ = some (.slice av4 T.vars.length cv4) ∧ W.cell? ⟨g4, 1, none⟩ = some (.slice an4 T.nodes.length cn4) ∧ W.cell? ⟨g4, 2, none⟩ = some (.slice ab4 T.body.length cb4))) (go_keep) (first | (go_at_call 9; refine (HC.out _ (Below.refl w6.heap.size w6).drew).mono ?_; rintro e w7 ⟨a7, c7, b7, d7, e7, f7, rfl, ht7, hb⟩; have hD : Below w6.heap.size w6 w7 := ((Below.refl w6.heap.size w6).drew).trans (Below.mono hb (Nat.le_refl _)); have a0 := (hD.cell (p := ⟨w.heap.size, 0, none⟩) hgA).trans A0.out; have a1 := (hD.cell (p := ⟨w.heap.size, 1, none⟩) hgA).trans A1.out; have a2 := (hD.cell (p := ⟨w.heap.size, 2, none⟩) hgA).trans A2.out; have x0 := (hD.cell (p := ⟨g4, 0, none⟩) hgX).trans X0.out; have x1 := (hD.cell (p := ⟨g4, 1, none⟩) hgX).trans X1.out; have x2 := (hD.cell (p := ⟨g4, 2, none⟩) hgX).trans X2.out; have HD : Hid (Below w6.heap.size w6 w7) := hD; have HT7 : Hid (TreeV _ w7 _ _ _ T) := ht7; clear hb hD ht7) | (go_at_call 12; refine (HE.out _ _ _ _ _ HD.out HT7.out).mono ?_; rintro e w8 ⟨rfl, hb⟩; have hD : Below w6.heap.size w6 w8 := HD.out.trans (Below.mono hb HD.out.size); have a0 := (hD.cell (p := ⟨w.heap.size, 0, none⟩) hgA).trans A0.out; have a1 := (hD.cell (p := ⟨w.heap.size, 1, none⟩) hgA).trans A1.out; have a2 := (hD.cell (p := ⟨w.heap.size, 2, none⟩) hgA).trans A2.out; have x0 := (hD.cell (p := ⟨g4, 0, none⟩) hgX).trans X0.out; have x1 := (hD.cell (p := ⟨g4, 1, none⟩) hgX).trans X1.out; have x2 := (hD.cell (p := ⟨g4, 2, none⟩) hgX).trans X2.out; have hBB := HB.out.trans (hD.mono HB.out.size); clear hb))
  go_wp2
  go_ret
  exact ⟨rfl, hBB⟩
 ·go_wp2_with fail
  go_ret
  exact ⟨rfl, HB.out⟩
end Go.Proofs.YtepjaoapjpmjkaaGreatDoor
namespace Go.Proofs.YtepjaoapjpmjkaaGreatDoor
open Go.RowKit
set_option linter.unusedVariables false
theorem fnExactTypeOf_walk (vv0 vn0 vb0 : Value) (T0 : LTree) (a1 : Int) (w : World) (w0 : IsTree w vv0 vn0 vb0 T0) (w1 : (Lit.int .i64 a1).wf = true) (hE : ErrT w) :
  Calls Tryz.prog 3 #[treeV vv0 vn0 vb0, .int .i64 a1] w fun e w' => e = .returned (.bool true) ∧ Below w.heap.size w w' :=
 typeOf_law tyoT specTypeOf implTypeOf vv0 vn0 vb0 T0 a1 w w0 hE
end Go.Proofs.YtepjaoapjpmjkaaGreatDoor
