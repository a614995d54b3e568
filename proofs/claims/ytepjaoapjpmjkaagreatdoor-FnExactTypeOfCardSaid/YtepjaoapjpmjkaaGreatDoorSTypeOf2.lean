/-
  spec.TypeOf, whole.
-/
import Derived.Test.YtepjaoapjpmjkaaGreatDoorThree
import Derived.Test.YtepjaoapjpmjkaaGreatDoorSRgtA
import Derived.Test.YtepjaoapjpmjkaaGreatDoorSRgtB
import Derived.Test.YtepjaoapjpmjkaaGreatDoorSRgtC
import Derived.Test.YtepjaoapjpmjkaaGreatDoorSFault
import Derived.Test.YtepjaoapjpmjkaaGreatDoorTreeMath
namespace Go.Proofs.YtepjaoapjpmjkaaGreatDoor
open Go.RowKit
set_option linter.unusedVariables false
attribute [local go_sem] bs_size bs_get bs_extract bs_append bs_eq bs_toList
def tyoR (r : Int × Met) : Int × Met := if r.2.1 = 0 then (r.1, (0, 0)) else (0, r.2)
def tyoT (T : LTree) (k : Int) : Int × Met :=
 if faultL T ≠ 0 then (0, (faultL T, -1)) else if (inB k 0 ((T.nodes.length : Int) - 1) && exprN (nodeOf T.nodes k)) = false then (0, (3, -1)) else tyoR (typeT (allL 3 T) T k (0, 0))
theorem Sole.below {g B : Nat} {a b : World} (h : Sole g a b) (hB : B ≤ g) (hs : B ≤ a.heap.size) : Below B a b :=
 ⟨h.bel.os, h.bel.tape, h.bel.output, h.bel.size, fun k hk => h.rest k (by omega) (by omega)⟩
theorem node_at {lo p cn j : Nat} {W : World} {vv vb : Value} {an : Option Addr} {T : LTree} (h : TreeP lo W p vv (.slice an T.nodes.length cn) vb T) (hj : j < T.nodes.length) :
  ∃ bn on, an = some ⟨bn, on, none⟩ ∧ ∃ vk vt ve, NodeCells W bn (on + j * 8) (nodeOf T.nodes (j : Int)) vk vt ve ∧ (∃ a l c, vk = .slice a l c) ∧ (∃ a l c, vt = .slice a l c) ∧ (∃ a l c, ve = .slice a l c) := by
 obtain ⟨an', cn', e, _, hh⟩ := id h.tree.nodes
 injection e with e1 e2 e3
 subst e1
 obtain ⟨bn, on, rfl, _, hc⟩ := hh (by intro e; rw [e] at hj; simp at hj)
 obtain ⟨vk, vt, ve, h1, h2⟩ := hc j _ (node_get hj)
 obtain ⟨a1, c1, e1, _⟩ := id h2.kids
 obtain ⟨a2, c2, e2, _⟩ := id h2.thn
 obtain ⟨a3, c3, e3, _⟩ := id h2.els
 exact ⟨bn, on, rfl, vk, vt, ve, h1, ⟨_, _, _, e1⟩, ⟨_, _, _, e2⟩, ⟨_, _, _, e3⟩⟩
set_option maxHeartbeats 6400000 in
set_option maxRecDepth 100000 in
theorem specTypeOf_of (lo : Nat) (vv vn vb : Value) (T : LTree) (k : Int) (w : World) (h : TreeV lo w vv vn vb T)
  (HFP : ∀ (p : Nat) (w' : World), TreeP lo w' p vv vn vb T → Calls Tryz.prog 30 #[.pointer (some ⟨p, 0, none⟩)] w' fun e w2 => e = .returned (.int .i64 (faultL T)) ∧ Below w'.heap.size w' w2) :
  Calls Tryz.prog 8 #[.agg #[vv, vn, vb], .int .i64 k] w fun e w' => e = .returned (.agg #[.int .i64 (tyoT T k).2.1, .int .i64 (tyoT T k).2.2, .int .i64 (tyoT T k).1]) ∧ Below w.heap.size w w' := by
 have HF : Hid (∀ (p : Nat) (w' : World), TreeP lo w' p vv vn vb T → Calls Tryz.prog 30 #[.pointer (some ⟨p, 0, none⟩)] w' fun e w2 => e = .returned (.int .i64 (faultL T)) ∧ Below w'.heap.size w' w2) := HFP
 have HD : Hid (∀ (p : Nat) (w' : World), TreeP lo w' p vv vn vb T → faultL T = 0 → Calls Tryz.prog 33 #[.pointer (some ⟨p, 0, none⟩)] w' fun e w2 => ∃ v, e = .returned v ∧ w2.ownsRow w'.heap.size 108 4 v (allL 3 T).length (varCells (allL 3 T)) ∧ Below w'.heap.size w' w2) := fun p w' hp h0 => l5All_any lo p vv vn vb T w' hp (good_of h0)
 obtain ⟨av, cv, rfl, _⟩ := id h.vars
 obtain ⟨an, cn, rfl, _⟩ := id h.nodes
 obtain ⟨ab, cb, rfl, _⟩ := id h.body
 have HTY : Hid (∀ (W0 : World) (kp p cA : Nat) (aA : Option Addr) (vl : Value) (j : Nat), TreeP lo W0 p (.slice av T.vars.length cv) (.slice an T.nodes.length cn) (.slice ab T.body.length cb) T → RowV W0 aA (allL 3 T) → W0.heap.size ≤ kp → faultL T = 0 → j < T.nodes.length → exprN (nodeOf T.nodes (j : Int)) = true → TypeC W0 kp p cA aA T (allL 3 T) vl T.nodes.length j) :=
  fun W0 kp p cA aA vl j h1 h2 h3 h4 h5 h6 => l5Type_any lo W0 kp p cA _ _ _ aA T (allL 3 T) vl ⟨h1, h2, (good_of h4).all_len 3, h3, good_of h4⟩ (kin_of h4) j h5 h6
 have HT := hid h
 have HC : Hid (tyoT T k = if faultL T ≠ 0 then (0, (faultL T, -1)) else if (inB k 0 ((T.nodes.length : Int) - 1) && exprN (nodeOf T.nodes k)) = false then (0, (3, -1)) else tyoR (typeT (allL 3 T) T k (0, 0))) := rfl
 have HGD : Hid (faultL T = 0 → T.nodes.length ≤ 200) := fun h => (good_of h).nodes
 clear h HFP
 obtain ⟨q, hq⟩ : ∃ q, inB k 0 ((T.nodes.length : Int) - 1) = q := ⟨_, rfl⟩
 have hI : Hid (∀ w, Calls Tryz.prog 31 #[.int .i64 k, .int .i64 0, .int .i64 ((T.nodes.length : Int) - 1)] w fun e w' => e = .returned (.bool q) ∧ w' = w) := fun w => by have h := l1In_any k 0 ((T.nodes.length : Int) - 1) w; rwa [hq] at h
 obtain ⟨R, hR⟩ : ∃ R, R = tyoT T k := ⟨_, rfl⟩
 rw [← hR] at HC ⊢
 clear hR
 go_enter Tryz.func8, Tryz.ntmps8
 go_wp2_with fail
 obtain ⟨hA, hA2, hB⟩ := three_start w (.slice av T.vars.length cv) (.slice an T.nodes.length cn) (.slice ab T.body.length cb) 34 29
 generalize ((w.alloc (.cells #[.slice av T.vars.length cv, .slice an T.nodes.length cn, .slice ab T.body.length cb] 34)).alloc (.cells #[.int .i64 0, .int .i64 0, .int .i64 0] 29)) = W at *
 refine (HF.out _ _ ⟨cell_of_row _ _ 0 _ _ _ hA, cell_of_row _ _ 1 _ _ _ hA, cell_of_row _ _ 2 _ _ _ hA, HT.out.below hB⟩).mono ?_
 rintro e w2 ⟨rfl, hb⟩
 have HA : Hid (w2.heap[w.heap.size]? = some (.cells #[.slice av T.vars.length cv, .slice an T.nodes.length cn, .slice ab T.body.length cb] 34 (0, 0))) := blk hA hb
 have HA2 : Hid (w2.heap[w.heap.size + 1]? = some (.cells #[.int .i64 0, .int .i64 0, .int .i64 0] 29 (0, 0))) := blk hA2 hb
 have HB : Hid (Below w.heap.size w w2) := hB.trans (hb.mono hB.size)
 clear hA hA2 hB hb HF
 have p1 : w2.cell? ⟨w.heap.size, 1, none⟩ = some (.slice an T.nodes.length cn) := cell_of_row _ _ 1 _ _ _ HA.out
 obtain ⟨r0, r1, r2⟩ := cl3 HA2.out
 obtain ⟨f0, f1, f2⟩ := fl3 HA2.out
 obtain ⟨F, hF⟩ : ∃ F, faultL T = F := ⟨_, rfl⟩
 rw [hF]
 by_cases hz : F = 0
 ·subst hz
  have hfs : (0 : Int) = 0 := rfl
  have hnl := HGD.out hF
  cases q with
  | false =>
   have HCV : Hid (R = (0, (3, -1))) := by unfold Hid; rw [HC.out, hF, hq, if_neg (by simp), Bool.false_and, if_pos rfl]
   clear hF hq HC hfs HTY HD HGD
   go_wp2_with fail
   refine (hI.out _).mono ?_
   rintro e w3 ⟨rfl, rfl⟩
   go_wp2_with fail
   refine bodyPost_ret (v := .agg #[.int .i64 3, .int .i64 (-1), .int .i64 0]) (by simp [results, Tryz.results8, go_sem, r0, r1, r2]) rfl ⟨by rw [HCV.out], ((HB.out.setCell (by simp) _).setCell (by simp) _).setCell (by simp) _⟩
  | true =>
   have hq2 := inB_iff.1 hq
   obtain ⟨j, rfl⟩ : ∃ j : Nat, k = j := ⟨k.toNat, by omega⟩
   have hj : j < T.nodes.length := by omega
   have HTP : Hid (TreeP lo w2 w.heap.size (.slice av T.vars.length cv) (.slice an T.nodes.length cn) (.slice ab T.body.length cb) T) := ⟨cell_of_row _ _ 0 _ _ _ HA.out, cell_of_row _ _ 1 _ _ _ HA.out, cell_of_row _ _ 2 _ _ _ HA.out, HT.out.below HB.out⟩
   have HC1 : Hid (R = if exprN (nodeOf T.nodes (j : Int)) = false then (0, (3, -1)) else tyoR (typeT (allL 3 T) T (j : Int) (0, 0))) := by unfold Hid; rw [HC.out, hF, hq, if_neg (by simp), Bool.true_and]
   have HDC : Hid (∀ W', Below w2.heap.size w2 W' → Calls Tryz.prog 33 #[.pointer (some ⟨w.heap.size, 0, none⟩)] W' fun e w3 => ∃ v, e = .returned v ∧ w3.ownsRow W'.heap.size 108 4 v (allL 3 T).length (varCells (allL 3 T)) ∧ Below W'.heap.size W' w3) := fun W' hW => HD.out _ _ (HTP.out.below hW) hF
   have HFZ : Hid (faultL T = 0) := hF
   obtain ⟨bn, on, rfl, vk, vt, ve, ⟨d0, d1, d2, d3, d4, d5, d6, d7⟩, ⟨a, l, c, rfl⟩, ⟨a2, l2, c2, rfl⟩, ⟨a3, l3, c3, rfl⟩⟩ := node_at HTP.out hj
   obtain ⟨n, hn⟩ : ∃ n, n = nodeOf T.nodes (j : Int) := ⟨_, rfl⟩
   rw [← hn] at d0 d1 d2 d3 d4 HC1
   have HNN := hid hn
   have HEX : Hid (∀ w', Calls Tryz.prog 32 #[nodeV n (.slice a l c) (.slice a2 l2 c2) (.slice a3 l3 c3)] w' fun e w2 => e = .returned (.bool (exprN n)) ∧ Below w'.heap.size w' w2) := fun w' => l4Expr_any n _ _ _ w' ⟨_, _, _, rfl⟩ ⟨_, _, _, rfl⟩ ⟨_, _, _, rfl⟩
   obtain ⟨q3, hq3⟩ : ∃ q3, exprN n = q3 := ⟨_, rfl⟩
   have HQ3 : Hid (exprN (nodeOf T.nodes (j : Int)) = q3) := by unfold Hid; rw [← hn]; exact hq3
   rw [hq3] at HEX HC1
   have hj0 : (0 : Int) ≤ (j : Int) := by omega
   have hj1 : (j : Int) < (T.nodes.length : Int) := by omega
   clear hF hq hq2 HC HD HGD hfs hn hq3
   cases q3 with
   | false =>
    have HCV : Hid (R = (0, (3, -1))) := by unfold Hid; rw [HC1.out, if_pos rfl]
    clear HC1 HDC HTY HTP
    go_wp2_with fail
    refine (hI.out _).mono ?_
    rintro e w3 ⟨rfl, rfl⟩
    go_wp2_with fail
    refine (HEX.out _).mono ?_
    rintro e w4 ⟨rfl, hb⟩
    have hA4 := blk HA2.out hb
    have HB4 : Hid (Below w.heap.size w w4) := HB.out.trans (hb.mono HB.out.size)
    clear hb r0 r1 r2 f0 f1 f2 p1
    obtain ⟨r0, r1, r2⟩ := cl3 hA4
    obtain ⟨f0, f1, f2⟩ := fl3 hA4
    go_wp2_with fail
    refine bodyPost_ret (v := .agg #[.int .i64 3, .int .i64 (-1), .int .i64 0]) (by simp [results, Tryz.results8, go_sem, r0, r1, r2]) rfl ⟨by rw [HCV.out], ((HB4.out.setCell (by simp) _).setCell (by simp) _).setCell (by simp) _⟩
   | true =>
    obtain ⟨⟨g, s1, s2⟩, hr⟩ : ∃ r, r = typeF (allL 3 T) T.vars.length T.nodes T.nodes.length (j : Int) (0, 0) := ⟨_, rfl⟩
    have HCV : Hid (R = tyoR (g, (s1, s2))) := by unfold Hid; rw [HC1.out, if_neg (by simp)]; unfold typeT; rw [← hr]
    have HRR := hid hr
    clear hr
    clear HC1
    go_wp2_with fail
    refine (hI.out _).mono ?_
    rintro e w3 ⟨rfl, rfl⟩
    go_wp2_with fail
    refine (HEX.out _).mono ?_
    rintro e w4 ⟨rfl, hb⟩
    have HB3 := hid hb
    clear hb r0 r1 r2 f0 f1 f2 p1 d0 d1 d2 d3 d4 d5 d6 d7 HEX hI
    go_wp2_with fail
    refine (HDC.out _ HB3.out).mono ?_
    rintro e w5 ⟨v, rfl, hown, hb5⟩
    obtain ⟨ad, cp, rfl⟩ := rowE_shape hown
    have HRV : Hid (RowV w5 ad (allL 3 T)) := RowV.of_own hown rfl
    have HB5 : Hid (Below w3.heap.size w3 w5) := HB3.out.trans (hb5.mono HB3.out.size)
    clear hown hb5 HDC
    have HA5 : Hid (w5.heap[w.heap.size + 1]? = some (.cells #[.int .i64 0, .int .i64 0, .int .i64 0] 29 (0, 0))) := blk HA2.out HB5.out
    have hl5 := blk_lt HA5.out
    have HX : Hid (∀ (vl : Value) (W' : World), Chk w5 W' w5.heap.size w.heap.size ad (allL 3 T).length cp vl (0, 0) → Calls Tryz.prog 34 #[.pointer (some ⟨w5.heap.size, 0, none⟩), .int .i64 (j : Int)] W' fun e w' => e = .returned (.int .i64 g) ∧ Chk w5 w' w5.heap.size w.heap.size ad (allL 3 T).length cp vl (s1, s2) ∧ Sole w5.heap.size W' w') := fun vl W' h => by
     have := HTY.out w5 w5.heap.size w.heap.size cp ad vl j (HTP.out.below HB5.out) HRV.out (Nat.le_refl _) HFZ.out hj HQ3.out W' (0, 0) h
     rw [← HRR.out] at this
     exact this
    clear HTY HRR HRV
    go_wp2_with fail
    refine (HX.out _ _ ⟨(Below.refl _ _).alloc (Nat.le_refl _) _, heap_alloc_new _ _⟩).mono ?_
    rintro e w7 ⟨rfl, hc7, hs7⟩
    have hA7 := (hs7.rest (w.heap.size + 1) (by simp; omega) (by omega)).trans ((Below.heap_alloc _ _ _ hl5).trans HA5.out)
    have hsz := HB.out.size
    have HB7 : Hid (Below w.heap.size w w7) := by
     have h1 : Below w.heap.size w w5 := HB.out.trans (HB5.out.mono HB.out.size)
     exact (h1.alloc (by omega) _).trans (hs7.below (by omega) (by simp; omega))
    obtain ⟨-, -, -, k3, k4⟩ := cl5 hc7.row
    have hkl := blk_lt hc7.row
    obtain ⟨r0, r1, r2⟩ := cl3 hA7
    obtain ⟨f0, f1, f2⟩ := fl3 hA7
    clear hc7 hs7 hA7 HX hsz
    by_cases hs : s1 = 0
    ·subst hs
     have HCW : Hid (R = (g, (0, 0))) := by unfold Hid; rw [HCV.out]; rfl
     clear HCV
     go_wp2_with fail
     refine bodyPost_ret (v := .agg #[.int .i64 0, .int .i64 0, .int .i64 g]) (by simp [results, Tryz.results8, go_sem, r0, r1, r2]) rfl ⟨by rw [HCW.out], ((HB7.out.setCell (by simp) _).setCell (by simp) _).setCell (by simp) _⟩
    ·have HCW : Hid (R = (0, (s1, s2))) := by unfold Hid; rw [HCV.out]; unfold tyoR; rw [if_neg hs]
     have hs1 : (s1 == 0) = false := by simpa using hs
     have hs2 : decide (s1 = 0) = false := decide_eq_false hs
     clear HCV
     go_wp2_with fail
     refine bodyPost_ret (v := .agg #[.int .i64 s1, .int .i64 s2, .int .i64 0]) (by simp [results, Tryz.results8, go_sem, r0, r1, r2]) rfl ⟨by rw [HCW.out], ((HB7.out.setCell (by simp) _).setCell (by simp) _).setCell (by simp) _⟩
 ·have HCV : Hid (R = (0, (F, -1))) := by unfold Hid; rw [HC.out, hF, if_pos hz]
  have hz1 : (F == 0) = false := by simpa using hz
  have hz2 : decide (F = 0) = false := decide_eq_false hz
  clear HC hF hq hI HTY HD HGD
  go_wp2_with fail
  refine bodyPost_ret (v := .agg #[.int .i64 F, .int .i64 (-1), .int .i64 0]) (by simp [results, Tryz.results8, go_sem, r0, r1, r2]) rfl ⟨by rw [HCV.out], ((HB.out.setCell (by simp) _).setCell (by simp) _).setCell (by simp) _⟩
end Go.Proofs.YtepjaoapjpmjkaaGreatDoor
namespace Go.Proofs.YtepjaoapjpmjkaaGreatDoor
open Go.RowKit
set_option linter.unusedVariables false
attribute [local go_sem] bs_size bs_get bs_extract bs_append bs_eq bs_toList
set_option maxHeartbeats 3200000 in
set_option maxRecDepth 100000 in
theorem rgt0 (R : Bool) (p at_ : Nat) (b o cn : Nat) (nn : Nat) (K op : Int) (name : List UInt8) (num far : Int) (kids thn els : List Int) (a a2 a3 : Option Addr) (c c2 c3 : Nat) (w : World) (hK : inB K 1 11 = false) (hR : R = false)
  (hat : at_ < nn) (hp1 : w.cell? ⟨p, 1, none⟩ = some (.slice (some ⟨b, o, none⟩) nn cn))
  (hc : NodeCells w b (o + at_ * 8) ⟨K, op, name, num, far, kids, thn, els⟩ (.slice a kids.length c) (.slice a2 thn.length c2) (.slice a3 els.length c3)) :
  Calls Tryz.prog 62 #[.pointer (some ⟨p, 0, none⟩), .int .i64 at_] w fun e w' => e = .returned (.bool R) ∧ Below w.heap.size w w' := by
 obtain ⟨d0, d1, d2, d3, d4, d5, d6, d7⟩ := hc
 have HW0 : Hid (∀ w, Calls Tryz.prog 31 #[.int .i64 K, .int .i64 1, .int .i64 11] w fun e w' => e = .returned (.bool false) ∧ w' = w) := fun w => by have h := l1In_any K 1 11 w; rwa [hK] at h
 have HR : Hid (R = false) := hR
 have hI0 : (0 : Int) ≤ (at_ : Int) := by omega
 have hI1 : (at_ : Int) < (nn : Int) := by omega
 clear hK hR
 simp only at d0 d1 d2 d3 d4 d5 d6 d7
 go_enter Tryz.func62, Tryz.ntmps62
 go_wp2_with fail
 have hB : Below w.heap.size w (w.alloc (.cells #[.int .i64 K, .int .i64 op, .string (bs name), .int .i64 num, .int .i64 far, .slice a kids.length c, .slice a2 thn.length c2, .slice a3 els.length c3] 66)) := (Below.refl _ _).alloc (Nat.le_refl _) _
 generalize w.alloc (.cells #[.int .i64 K, .int .i64 op, .string (bs name), .int .i64 num, .int .i64 far, .slice a kids.length c, .slice a2 thn.length c2, .slice a3 els.length c3] 66) = W at *
 refine (HW0.out _).mono ?_
 rintro e w1 ⟨rfl, rfl⟩
 go_wp2_with fail
 go_ret
 exact ⟨by rw [HR.out]; rfl, hB⟩
set_option maxHeartbeats 3200000 in
theorem l4Right_any (lo p : Nat) (vv vn vb : Value) (T : LTree) (k : Nat) (w : World) (h : TreeP lo w p vv vn vb T) (hS : Sized 1048576 T) (hn : T.nodes.length ≤ 200) (hk : k < T.nodes.length) :
  Calls Tryz.prog 62 #[.pointer (some ⟨p, 0, none⟩), .int .i64 k] w fun e w' => e = .returned (.bool (rightB T.nodes k)) ∧ Below w.heap.size w w' := by
 obtain ⟨an, cn, rfl, _, hhn⟩ := id h.tree.nodes
 obtain ⟨b, o, rfl, _, hc2⟩ := hhn (by intro e; rw [e] at hk; simp at hk)
 obtain ⟨y, hy⟩ : ∃ y, T.nodes[k]? = some y := ⟨T.nodes[k], List.getElem?_eq_getElem hk⟩
 obtain ⟨vk, vt, ve, hcs, hvs⟩ := hc2 k y hy
 have hsz := hS.node y (List.mem_of_getElem? hy)
 have hgd : T.nodes.getD k default = y := by rw [List.getD_eq_getElem?_getD, hy]; rfl
 have hR : ∀ (v : Value) (l : List Int) (e : Bool), IntsV lo w v l → l.length ≤ 1048576 → ∀ W, Below w.heap.size w W → Calls Tryz.prog 63 #[.pointer (some ⟨p, 0, none⟩), .int .i64 k, v, .bool e] W fun e' w' => e' = .returned (.bool (refsB T.nodes k l e)) ∧ Below W.heap.size W w' :=
  fun v l e hv hl W hb => l4Refs_any lo p _ _ _ v T k l e lo W (h.below hb) (by omega) hn (hv.below hb) hl
 have h1 := hR vk y.kids true hvs.kids hsz.2.1
 have h2 := hR vt y.thn false hvs.thn hsz.2.2.1
 have h3 := hR ve y.els false hvs.els hsz.2.2.2
 have hO : rightB T.nodes k = (ownB y && refsB T.nodes k y.kids true && refsB T.nodes k y.thn false && refsB T.nodes k y.els false) := by rw [rightB_eq, hgd]
 obtain ⟨ak, ck, rfl, _⟩ := id hvs.kids
 obtain ⟨at2, ct, rfl, _⟩ := id hvs.thn
 obtain ⟨ae, ce, rfl, _⟩ := id hvs.els
 obtain ⟨K, op, name, num, far, kids, thn, els⟩ := y
 have hcs2 := hcs
 obtain ⟨d0, d1, d2, d3, d4, d5, d6, d7⟩ := hcs
 by_cases hK : inB K 1 11 = true
 ·have hh := inB_iff.1 hK
  have : K = 1 ∨ K = 2 ∨ K = 3 ∨ K = 4 ∨ K = 5 ∨ K = 6 ∨ K = 7 ∨ K = 8 ∨ K = 9 ∨ K = 10 ∨ K = 11 := by omega
  rcases this with rfl | rfl | rfl | rfl | rfl | rfl | rfl | rfl | rfl | rfl | rfl
  ·exact rgt1 _ p k b o cn T.nodes.length vv vb op name num far kids thn els ak at2 ae ck ct ce w hsz.1 hsz.2.1 hsz.2.2.1 hsz.2.2.2 _ _ _ (by rw [hO, ownK1]) hk h.c1 d0 d1 d2 d3 d4 d5 d6 d7 h1 h2 h3
  ·exact rgt2 _ p k b o cn T.nodes.length vv vb op name num far kids thn els ak at2 ae ck ct ce w hsz.1 hsz.2.1 hsz.2.2.1 hsz.2.2.2 _ _ _ (by rw [hO, ownK2]) hk h.c1 d0 d1 d2 d3 d4 d5 d6 d7 h1 h2 h3
  ·exact rgt3 _ p k b o cn T.nodes.length vv vb op name num far kids thn els ak at2 ae ck ct ce w hsz.1 hsz.2.1 hsz.2.2.1 hsz.2.2.2 _ _ _ (by rw [hO, ownK3]) hk h.c1 d0 d1 d2 d3 d4 d5 d6 d7 h1 h2 h3
  ·exact rgt4 _ p k b o cn T.nodes.length vv vb op name num far kids thn els ak at2 ae ck ct ce w hsz.1 hsz.2.1 hsz.2.2.1 hsz.2.2.2 _ _ _ (by rw [hO, ownK4]) hk h.c1 d0 d1 d2 d3 d4 d5 d6 d7 h1 h2 h3
  ·exact rgt5 _ p k b o cn T.nodes.length vv vb op name num far kids thn els ak at2 ae ck ct ce w hsz.1 hsz.2.1 hsz.2.2.1 hsz.2.2.2 _ _ _ (by rw [hO, ownK5]) hk h.c1 d0 d1 d2 d3 d4 d5 d6 d7 h1 h2 h3
  ·exact rgt6 _ p k b o cn T.nodes.length vv vb op name num far kids thn els ak at2 ae ck ct ce w hsz.1 hsz.2.1 hsz.2.2.1 hsz.2.2.2 _ _ _ (by rw [hO, ownK6]) hk h.c1 d0 d1 d2 d3 d4 d5 d6 d7 h1 h2 h3
  ·exact rgt7 _ p k b o cn T.nodes.length vv vb op name num far kids thn els ak at2 ae ck ct ce w hsz.1 hsz.2.1 hsz.2.2.1 hsz.2.2.2 _ _ _ (by rw [hO, ownK7]) hk h.c1 d0 d1 d2 d3 d4 d5 d6 d7 h1 h2 h3
  ·exact rgt8 _ p k b o cn T.nodes.length vv vb op name num far kids thn els ak at2 ae ck ct ce w hsz.1 hsz.2.1 hsz.2.2.1 hsz.2.2.2 _ _ _ (by rw [hO, ownK8]) hk h.c1 d0 d1 d2 d3 d4 d5 d6 d7 h1 h2 h3
  ·exact rgt9 _ p k b o cn T.nodes.length vv vb op name num far kids thn els ak at2 ae ck ct ce w hsz.1 hsz.2.1 hsz.2.2.1 hsz.2.2.2 _ _ _ (by rw [hO, ownK9]) hk h.c1 d0 d1 d2 d3 d4 d5 d6 d7 h1 h2 h3
  ·exact rgt10 _ p k b o cn T.nodes.length vv vb op name num far kids thn els ak at2 ae ck ct ce w hsz.1 hsz.2.1 hsz.2.2.1 hsz.2.2.2 _ _ _ (by rw [hO, ownK10]) hk h.c1 d0 d1 d2 d3 d4 d5 d6 d7 h1 h2 h3
  ·exact rgt11 _ p k b o cn T.nodes.length vv vb op name num far kids thn els ak at2 ae ck ct ce w hsz.1 hsz.2.1 hsz.2.2.1 hsz.2.2.2 _ _ _ (by rw [hO, ownK11]) hk h.c1 d0 d1 d2 d3 d4 d5 d6 d7 h1 h2 h3
 ·have hK : inB K 1 11 = false := by simpa using hK
  exact rgt0 _ p k b o cn T.nodes.length K op name num far kids thn els ak at2 ae ck ct ce w hK (by rw [hO]; unfold ownB; simp only [hK, Bool.false_and]) hk h.c1 hcs2
end Go.Proofs.YtepjaoapjpmjkaaGreatDoor
namespace Go.Proofs.YtepjaoapjpmjkaaGreatDoor
open Go.RowKit
set_option linter.unusedVariables false
def TreeAt3 (f : FuncId) (R : LTree → Int → Int × Met) : Prop := ∀ (lo : Nat) (vv vn vb : Value) (T : LTree) (k : Int) (w : World), TreeV lo w vv vn vb T → Sized 1048576 T →
 Calls Tryz.prog f #[treeV vv vn vb, .int .i64 k] w fun e w' => e = .returned (.agg #[.int .i64 (R T k).2.1, .int .i64 (R T k).2.2, .int .i64 (R T k).1]) ∧ Below w.heap.size w w'
theorem specTypeOf : TreeAt3 8 tyoT := fun lo vv vn vb T k w h hS =>
 specTypeOf_of lo vv vn vb T k w h (fun p w' hp => l4Fault_any lo p vv vn vb T w' hp hS (fun hn k W hb hk => l4Right_any lo p vv vn vb T k W (hp.below hb) hS hn hk))
end Go.Proofs.YtepjaoapjpmjkaaGreatDoor
