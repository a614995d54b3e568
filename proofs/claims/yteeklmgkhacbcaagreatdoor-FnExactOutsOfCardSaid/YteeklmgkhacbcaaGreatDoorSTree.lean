/-
  spec.l5Tree, spec.CheckTree.
-/
import Derived.Test.YteeklmgkhacbcaaGreatDoorSRgtA
import Derived.Test.YteeklmgkhacbcaaGreatDoorSRgtB
import Derived.Test.YteeklmgkhacbcaaGreatDoorSRgtC
import Derived.Test.YteeklmgkhacbcaaGreatDoorSFault
import Derived.Test.YteeklmgkhacbcaaGreatDoorTreeVar
import Derived.Test.YteeklmgkhacbcaaGreatDoorIVarsM
import Derived.Test.YteeklmgkhacbcaaGreatDoorSList
import Derived.Test.YteeklmgkhacbcaaGreatDoorSCost
import Derived.Test.YteeklmgkhacbcaaGreatDoorSCost
namespace Go.Proofs.YteeklmgkhacbcaaGreatDoor
open Go.RowKit
set_option linter.unusedVariables false
attribute [local go_sem] bs_size bs_get bs_extract bs_append bs_eq bs_toList
set_option maxHeartbeats 3200000 in
set_option maxRecDepth 100000 in
theorem rgt0 (R : Bool) (p at_ : Nat) (b o cn : Nat) (nn : Nat) (K op : Int) (name : List UInt8) (num far : Int) (kids thn els : List Int) (a a2 a3 : Option Addr) (c c2 c3 : Nat) (w : World) (hK : inB K 1 11 = false) (hR : R = false)
  (hat : at_ < nn) (hp1 : w.cell? ⟨p, 1, none⟩ = some (.slice (some ⟨b, o, none⟩) nn cn))
  (hc : NodeCells w b (o + at_ * 8) ⟨K, op, name, num, far, kids, thn, els⟩ (.slice a kids.length c) (.slice a2 thn.length c2) (.slice a3 els.length c3)) :
  Calls Tryz.prog 82 #[.pointer (some ⟨p, 0, none⟩), .int .i64 at_] w fun e w' => e = .returned (.bool R) ∧ Below w.heap.size w w' := by
 obtain ⟨d0, d1, d2, d3, d4, d5, d6, d7⟩ := hc
 have HW0 : Hid (∀ w, Calls Tryz.prog 81 #[.int .i64 K, .int .i64 1, .int .i64 11] w fun e w' => e = .returned (.bool false) ∧ w' = w) := fun w => by have h := l1In_any K 1 11 w; rwa [hK] at h
 have HR : Hid (R = false) := hR
 have hI0 : (0 : Int) ≤ (at_ : Int) := by omega
 have hI1 : (at_ : Int) < (nn : Int) := by omega
 clear hK hR
 simp only at d0 d1 d2 d3 d4 d5 d6 d7
 go_enter Tryz.func82, Tryz.ntmps82
 go_wp2_with fail
 have hB : Below w.heap.size w (w.alloc (.cells #[.int .i64 K, .int .i64 op, .string (bs name), .int .i64 num, .int .i64 far, .slice a kids.length c, .slice a2 thn.length c2, .slice a3 els.length c3] 88)) := (Below.refl _ _).alloc (Nat.le_refl _) _
 generalize w.alloc (.cells #[.int .i64 K, .int .i64 op, .string (bs name), .int .i64 num, .int .i64 far, .slice a kids.length c, .slice a2 thn.length c2, .slice a3 els.length c3] 88) = W at *
 refine (HW0.out _).mono ?_
 rintro e w1 ⟨rfl, rfl⟩
 go_wp2_with fail
 go_ret
 exact ⟨by rw [HR.out]; rfl, hB⟩
set_option maxHeartbeats 3200000 in
theorem l4Right_any (lo p : Nat) (vv vn vb : Value) (T : LTree) (k : Nat) (w : World) (h : TreeP lo w p vv vn vb T) (hS : Sized 1048576 T) (hn : T.nodes.length ≤ 200) (hk : k < T.nodes.length) :
  Calls Tryz.prog 82 #[.pointer (some ⟨p, 0, none⟩), .int .i64 k] w fun e w' => e = .returned (.bool (rightB T.nodes k)) ∧ Below w.heap.size w w' := by
 obtain ⟨an, cn, rfl, _, hhn⟩ := id h.tree.nodes
 obtain ⟨b, o, rfl, _, hc2⟩ := hhn (by intro e; rw [e] at hk; simp at hk)
 obtain ⟨y, hy⟩ : ∃ y, T.nodes[k]? = some y := ⟨T.nodes[k], List.getElem?_eq_getElem hk⟩
 obtain ⟨vk, vt, ve, hcs, hvs⟩ := hc2 k y hy
 have hsz := hS.node y (List.mem_of_getElem? hy)
 have hgd : T.nodes.getD k default = y := by rw [List.getD_eq_getElem?_getD, hy]; rfl
 have hR : ∀ (v : Value) (l : List Int) (e : Bool), IntsV lo w v l → l.length ≤ 1048576 → ∀ W, Below w.heap.size w W → Calls Tryz.prog 83 #[.pointer (some ⟨p, 0, none⟩), .int .i64 k, v, .bool e] W fun e' w' => e' = .returned (.bool (refsB T.nodes k l e)) ∧ Below W.heap.size W w' :=
  fun v l e hv hl W hb => l4Refs_any lo p _ _ _ v T k l e lo W (h.below hb) (by omega) hn (hv.below hb) hl
 have h1 := hR vk y.kids true hvs.kids hsz.2.1
 have h2 := hR vt y.thn false hvs.thn hsz.2.2.1
 have h3 := hR ve y.els false hvs.els hsz.2.2.2
 have hO : rightB T.nodes k = (ownB y && refsB T.nodes k y.kids true && refsB T.nodes k y.thn false && refsB T.nodes k y.els false) := by rw [rightB_eq, hgd]
 obtain ⟨ak, ck, rfl, _⟩ := id hvs.kids
 obtain ⟨at2, ct, rfl, _⟩ := id hvs.thn
 obtain ⟨ae, ce, rfl, _⟩ := id hvs.els
 obtain ⟨K, op, name, num, far, kids, thn, els⟩ := y
 have hcs2 := hcs
 obtain ⟨d0, d1, d2, d3, d4, d5, d6, d7⟩ := hcs
 by_cases hK : inB K 1 11 = true
 ·have hh := inB_iff.1 hK
  have : K = 1 ∨ K = 2 ∨ K = 3 ∨ K = 4 ∨ K = 5 ∨ K = 6 ∨ K = 7 ∨ K = 8 ∨ K = 9 ∨ K = 10 ∨ K = 11 := by omega
  rcases this with rfl | rfl | rfl | rfl | rfl | rfl | rfl | rfl | rfl | rfl | rfl
  ·exact rgt1 _ p k b o cn T.nodes.length vv vb op name num far kids thn els ak at2 ae ck ct ce w hsz.1 hsz.2.1 hsz.2.2.1 hsz.2.2.2 _ _ _ (by rw [hO, ownK1]) hk h.c1 d0 d1 d2 d3 d4 d5 d6 d7 h1 h2 h3
  ·exact rgt2 _ p k b o cn T.nodes.length vv vb op name num far kids thn els ak at2 ae ck ct ce w hsz.1 hsz.2.1 hsz.2.2.1 hsz.2.2.2 _ _ _ (by rw [hO, ownK2]) hk h.c1 d0 d1 d2 d3 d4 d5 d6 d7 h1 h2 h3
  ·exact rgt3 _ p k b o cn T.nodes.length vv vb op name num far kids thn els ak at2 ae ck ct ce w hsz.1 hsz.2.1 hsz.2.2.1 hsz.2.2.2 _ _ _ (by rw [hO, ownK3]) hk h.c1 d0 d1 d2 d3 d4 d5 d6 d7 h1 h2 h3
  ·exact rgt4 _ p k b o cn T.nodes.length vv vb op name num far kids thn els ak at2 ae ck ct ce w hsz.1 hsz.2.1 hsz.2.2.1 hsz.2.2.2 _ _ _ (by rw [hO, ownK4]) hk h.c1 d0 d1 d2 d3 d4 d5 d6 d7 h1 h2 h3
  ·exact rgt5 _ p k b o cn T.nodes.length vv vb op name num far kids thn els ak at2 ae ck ct ce w hsz.1 hsz.2.1 hsz.2.2.1 hsz.2.2.2 _ _ _ (by rw [hO, ownK5]) hk h.c1 d0 d1 d2 d3 d4 d5 d6 d7 h1 h2 h3
  ·exact rgt6 _ p k b o cn T.nodes.length vv vb op name num far kids thn els ak at2 ae ck ct ce w hsz.1 hsz.2.1 hsz.2.2.1 hsz.2.2.2 _ _ _ (by rw [hO, ownK6]) hk h.c1 d0 d1 d2 d3 d4 d5 d6 d7 h1 h2 h3
  ·exact rgt7 _ p k b o cn T.nodes.length vv vb op name num far kids thn els ak at2 ae ck ct ce w hsz.1 hsz.2.1 hsz.2.2.1 hsz.2.2.2 _ _ _ (by rw [hO, ownK7]) hk h.c1 d0 d1 d2 d3 d4 d5 d6 d7 h1 h2 h3
  ·exact rgt8 _ p k b o cn T.nodes.length vv vb op name num far kids thn els ak at2 ae ck ct ce w hsz.1 hsz.2.1 hsz.2.2.1 hsz.2.2.2 _ _ _ (by rw [hO, ownK8]) hk h.c1 d0 d1 d2 d3 d4 d5 d6 d7 h1 h2 h3
  ·exact rgt9 _ p k b o cn T.nodes.length vv vb op name num far kids thn els ak at2 ae ck ct ce w hsz.1 hsz.2.1 hsz.2.2.1 hsz.2.2.2 _ _ _ (by rw [hO, ownK9]) hk h.c1 d0 d1 d2 d3 d4 d5 d6 d7 h1 h2 h3
  ·exact rgt10 _ p k b o cn T.nodes.length vv vb op name num far kids thn els ak at2 ae ck ct ce w hsz.1 hsz.2.1 hsz.2.2.1 hsz.2.2.2 _ _ _ (by rw [hO, ownK10]) hk h.c1 d0 d1 d2 d3 d4 d5 d6 d7 h1 h2 h3
  ·exact rgt11 _ p k b o cn T.nodes.length vv vb op name num far kids thn els ak at2 ae ck ct ce w hsz.1 hsz.2.1 hsz.2.2.1 hsz.2.2.2 _ _ _ (by rw [hO, ownK11]) hk h.c1 d0 d1 d2 d3 d4 d5 d6 d7 h1 h2 h3
 ·have hK : inB K 1 11 = false := by simpa using hK
  exact rgt0 _ p k b o cn T.nodes.length K op name num far kids thn els ak at2 ae ck ct ce w hK (by rw [hO]; unfold ownB; simp only [hK, Bool.false_and]) hk h.c1 hcs2
end Go.Proofs.YteeklmgkhacbcaaGreatDoor
namespace Go.Proofs.YteeklmgkhacbcaaGreatDoor
open Go.RowKit
set_option linter.unusedVariables false
theorem three_start (w : World) (vv vn vb : Value) (T1 T2 : TypeId) : let W := ((w.alloc (.cells #[vv, vn, vb] T1)).alloc (.cells #[.int .i64 0, .int .i64 0, .int .i64 0] T2))
  W.heap[w.heap.size]? = some (.cells #[vv, vn, vb] T1 (0, 0)) ∧ W.heap[w.heap.size + 1]? = some (.cells #[.int .i64 0, .int .i64 0, .int .i64 0] T2 (0, 0)) ∧ Below w.heap.size w W := by
 intro W
 have hA := heap_alloc_new w (.cells #[vv, vn, vb] T1)
 have hB : Below w.heap.size w (w.alloc (.cells #[vv, vn, vb] T1)) := (Below.refl _ _).alloc (Nat.le_refl _) _
 have hZ : (w.alloc (.cells #[vv, vn, vb] T1)).heap.size = w.heap.size + 1 := by simp
 have hA2 := heap_alloc_new (w.alloc (.cells #[vv, vn, vb] T1)) (.cells #[.int .i64 0, .int .i64 0, .int .i64 0] T2)
 have hB2 : Below (w.alloc (.cells #[vv, vn, vb] T1)).heap.size (w.alloc (.cells #[vv, vn, vb] T1)) W := (Below.refl _ _).alloc (Nat.le_refl _) _
 rw [hZ] at hA2
 exact ⟨blk hA hB2, hA2, hB.trans (hB2.mono (by omega))⟩
attribute [local go_sem] bs_size bs_get bs_extract bs_append bs_eq bs_toList
def budT (T : LTree) : Int := 1 + sumAtL (costsF T.nodes T.nodes.length) T.body
def chkT (T : LTree) : Met × Int :=
 if faultL T ≠ 0 then ((faultL T, -1), 0) else if namesF (allL 3 T) T.vars.length ≠ 0 then ((namesF (allL 3 T) T.vars.length, -1), 0)
 else if (bodyF (allL 3 T) T).1 ≠ 0 then (bodyF (allL 3 T) T, 0) else if 2000 < budT T ∨ 60 < cellsL (allL 3 T) then ((2, -1), 0) else ((0, 0), budT T)
theorem Duo.belowN {kp : Nat} {vl vl' : Value} {W W' : World} {B : Nat} (h : Duo kp vl vl' W W') (hB : B ≤ kp) (hs : B ≤ W.heap.size) (hv : vl.ownBlock = none) : Below B W W' :=
 ⟨h.bel.os, h.bel.tape, h.bel.output, h.bel.size, fun k hk => h.rest k (by omega) (by omega) (by rw [hv]; intro e; cases e)⟩
theorem three_set {w : World} {b : Nat} {T : TypeId} {a0 a1 a2 : Value} (x y z : Value) (h : w.heap[b]? = some (.cells #[a0, a1, a2] T (0, 0))) : (((w.setCell ⟨b, 0, none⟩ x).setCell ⟨b, 1, none⟩ y).setCell ⟨b, 2, none⟩ z).heap[b]? = some (.cells #[x, y, z] T (0, 0)) := by
 rw [heap_setCell_same _ _ _ _ _ _ (heap_setCell_same _ _ _ _ _ _ (heap_setCell_same _ _ _ _ _ _ h))]
 rfl
set_option maxHeartbeats 12800000 in
set_option maxRecDepth 100000 in
theorem l5Tree_any (lo p : Nat) (vv vn vb : Value) (T : LTree) (w : World) (h : TreeP lo w p vv vn vb T) (hS : Sized 1048576 T) :
  Calls Tryz.prog 42 #[.pointer (some ⟨p, 0, none⟩)] w fun e w' => e = .returned (.agg #[.int .i64 (chkT T).1.1, .int .i64 (chkT T).1.2, .int .i64 (chkT T).2]) ∧ Below w.heap.size w w' := by
 have HF : Hid (∀ (w' : World), Below w.heap.size w w' → Calls Tryz.prog 64 #[.pointer (some ⟨p, 0, none⟩)] w' fun e w2 => e = .returned (.int .i64 (faultL T)) ∧ Below w'.heap.size w' w2) := fun w' hb =>
  l4Fault_any lo p vv vn vb T w' (h.below hb) hS (fun hn k W hb2 hk => l4Right_any lo p vv vn vb T k W ((h.below hb).below hb2) hS hn hk)
 have HNM : Hid (faultL T = 0 → ∀ (w' : World), Below w.heap.size w w' → Calls Tryz.prog 65 #[.pointer (some ⟨p, 0, none⟩)] w' fun e w2 => e = .returned (.int .i64 (namesF (allL 3 T) T.vars.length)) ∧ Below w'.heap.size w' w2) := fun h0 w' hb => l5Names_any lo p vv vn vb T w' (h.below hb) (good_of h0)
 have HAL : Hid (faultL T = 0 → ∀ (w' : World), Below w.heap.size w w' → Calls Tryz.prog 44 #[.pointer (some ⟨p, 0, none⟩)] w' fun e w2 => ∃ v, e = .returned v ∧ w2.ownsRow w'.heap.size 86 4 v (allL 3 T).length (varCells (allL 3 T)) ∧ Below w'.heap.size w' w2) := fun h0 w' hb => l5All_any lo p vv vn vb T w' (h.below hb) (good_of h0)
 have HCO : Hid (faultL T = 0 → ∀ (w' : World), Below w.heap.size w w' → Calls Tryz.prog 68 #[.pointer (some ⟨p, 0, none⟩)] w' fun e w2 => ∃ v, e = .returned v ∧ Own w2 w'.heap.size v (costsF T.nodes T.nodes.length) ∧ Below w'.heap.size w' w2) := fun h0 w' hb => l5Costs_any lo p vv vn vb T w' (h.below hb) (good_of h0) hS
 have HLI : Hid (faultL T = 0 → ∀ (W0 : World) (kp cA : Nat) (aA : Option Addr), Below w.heap.size w W0 → RowV W0 aA (allL 3 T) → W0.heap.size ≤ kp → ListC lo W0 kp p cA (kp + 1) aA T (allL 3 T) T.nodes.length [] T.body) := fun h0 W0 kp cA aA hb hr hk =>
  l5List_all lo W0 kp p cA (kp + 1) vv vn vb aA T (allL 3 T) ⟨h.below hb, hr, (good_of h0).all_len 3, hk, good_of h0⟩ (kin_of h0) (stk_of h0) hS rfl T.nodes.length (Nat.le_refl _) [] T.body (by have := (good_of h0).nodes; simp; omega) hS.body (fun x hx => ⟨(good_of h0).body x hx, body_stat h0 x hx⟩)
 have HCE : Hid (faultL T = 0 → ∀ (ad : Option Addr) (c : Nat) (W : World), RowV W ad (allL 3 T) → Calls Tryz.prog 43 #[.slice ad (allL 3 T).length c] W fun e w' => e = .returned (.int .i64 (cellsL (allL 3 T))) ∧ Below W.heap.size W w') := fun h0 ad c W hr => by
  have := l5Cells_any (allL 3 T) ad (allL 3 T).length c W (Nat.le_refl _) hr ((good_of h0).sizes 3) ((good_of h0).all_len 3)
  rwa [List.take_length] at this
 have HBD : Hid (∀ W, Below w.heap.size w W → IntsV lo W vb T.body) := fun W hb => (h.tree.below hb).body
 have HC2 : Hid (∀ W, Below w.heap.size w W → W.cell? ⟨p, 2, none⟩ = some vb) := fun W hb => (h.below hb).c2
 have HSU : Hid (faultL T = 0 → ∀ (a : Option Addr) (c : Nat) (W : World), Below w.heap.size w W → Nums W a (costsF T.nodes T.nodes.length) → Calls Tryz.prog 67 #[.slice a T.nodes.length c, vb] W fun e w' => e = .returned (.int .i64 (sumAtL (costsF T.nodes T.nodes.length) T.body)) ∧ w' = W) := fun h0 a c W hb hn =>
  l5Sum_any (costsF T.nodes T.nodes.length) T.body a T.nodes.length c W.heap.size vb W (costsF_len _ _) (by have := (good_of h0).nodes; omega) hn (HBD.out W hb).toB (good_of h0).body (costsF_le T.nodes ((good_of h0).tame hS) _ (Nat.le_refl _)) hS.body
 have HSB : Hid (faultL T = 0 → 0 ≤ sumAtL (costsF T.nodes T.nodes.length) T.body ∧ sumAtL (costsF T.nodes T.nodes.length) T.body ≤ 104857600000) := fun h0 => sum_big (costsF_le T.nodes ((good_of h0).tame hS) _ (Nat.le_refl _)) hS.body
 have hpw : p < w.heap.size := World.block_lt_of_cell? _ _ h.c0
 obtain ⟨ab, cb, evb, _⟩ := id h.tree.body
 subst evb
 clear h hS
 obtain ⟨⟨⟨c1, c2⟩, c3⟩, hR⟩ : ∃ R, R = chkT T := ⟨_, rfl⟩
 rw [← hR]
 have HC : Hid (((c1, c2), c3) = if faultL T ≠ 0 then ((faultL T, -1), 0) else if namesF (allL 3 T) T.vars.length ≠ 0 then ((namesF (allL 3 T) T.vars.length, -1), 0)
   else if (bodyF (allL 3 T) T).1 ≠ 0 then (bodyF (allL 3 T) T, 0) else if 2000 < budT T ∨ 60 < cellsL (allL 3 T) then ((2, -1), 0) else ((0, 0), budT T)) := hR
 clear hR
 go_enter Tryz.func42, Tryz.ntmps42
 go_wp2_with fail
 have hA := heap_alloc_new w (.cells #[.int .i64 0, .int .i64 0, .int .i64 0] 77)
 have hB : Below w.heap.size w (w.alloc (.cells #[.int .i64 0, .int .i64 0, .int .i64 0] 77)) := (Below.refl _ _).alloc (Nat.le_refl _) _
 generalize w.alloc (.cells #[.int .i64 0, .int .i64 0, .int .i64 0] 77) = W1 at *
 refine (HF.out _ hB).mono ?_
 rintro e w2 ⟨rfl, hb⟩
 have HA : Hid (w2.heap[w.heap.size]? = some (.cells #[.int .i64 0, .int .i64 0, .int .i64 0] 77 (0, 0))) := blk hA hb
 have HB : Hid (Below w.heap.size w w2) := hB.trans (hb.mono hB.size)
 clear hA hB hb HF
 obtain ⟨F, hF⟩ : ∃ F, faultL T = F := ⟨_, rfl⟩
 have HFF : Hid (faultL T = F) := hF
 rw [hF]
 by_cases hz : F = 0
 ·subst hz
  have HCN : Hid (((c1, c2), c3) = if namesF (allL 3 T) T.vars.length ≠ 0 then ((namesF (allL 3 T) T.vars.length, -1), 0)
   else if (bodyF (allL 3 T) T).1 ≠ 0 then (bodyF (allL 3 T) T, 0) else if 2000 < budT T ∨ 60 < cellsL (allL 3 T) then ((2, -1), 0) else ((0, 0), budT T)) := by unfold Hid; rw [HC.out, hF, if_neg (by simp)]
  clear HC hF
  go_wp2_with fail
  refine (HNM.out HFF.out _ HB.out).mono ?_
  rintro e w3 ⟨rfl, hb⟩
  have HA3 : Hid (w3.heap[w.heap.size]? = some (.cells #[.int .i64 0, .int .i64 0, .int .i64 0] 77 (0, 0))) := blk HA.out hb
  have HB3 : Hid (Below w.heap.size w w3) := HB.out.trans (hb.mono HB.out.size)
  clear HA HB hb HNM
  obtain ⟨N, hN⟩ : ∃ N, namesF (allL 3 T) T.vars.length = N := ⟨_, rfl⟩
  rw [hN] at HCN ⊢
  clear hN
  by_cases hn : N = 0
  ·subst hn
   have HCB : Hid (((c1, c2), c3) = if (bodyF (allL 3 T) T).1 ≠ 0 then (bodyF (allL 3 T) T, 0) else if 2000 < budT T ∨ 60 < cellsL (allL 3 T) then ((2, -1), 0) else ((0, 0), budT T)) := by unfold Hid; rw [HCN.out, if_neg (by simp)]
   clear HCN
   go_wp2_with fail
   refine (HAL.out HFF.out _ HB3.out).mono ?_
   rintro e w4 ⟨v, rfl, hown, hb⟩
   obtain ⟨ad, cp, rfl⟩ := rowE_shape hown
   have HRV : Hid (RowV w4 ad (allL 3 T)) := RowV.of_own hown rfl
   have HA4 : Hid (w4.heap[w.heap.size]? = some (.cells #[.int .i64 0, .int .i64 0, .int .i64 0] 77 (0, 0))) := blk HA3.out hb
   have HB4 : Hid (Below w.heap.size w w4) := HB3.out.trans (hb.mono HB3.out.size)
   clear hown hb HA3 HB3 HAL
   have HLC := HLI.out HFF.out w4 w4.heap.size cp ad HB4.out HRV.out (Nat.le_refl _)
   have HL : Hid (ListC lo w4 w4.heap.size p cp (w4.heap.size + 1) ad T (allL 3 T) T.nodes.length [] T.body) := HLC
   clear HLC HLI
   have k5 := heap_alloc_new w4 (.cells #[.pointer (some ⟨p, 0, none⟩), .slice ad (allL 3 T).length cp, .slice none 0 0, .int .i64 0, .int .i64 0] 112)
   have hb5 : Below w4.heap.size w4 (w4.alloc (.cells #[.pointer (some ⟨p, 0, none⟩), .slice ad (allL 3 T).length cp, .slice none 0 0, .int .i64 0, .int .i64 0] 112)) := (Below.refl _ _).alloc (Nat.le_refl _) _
   have HCK : Hid (Chk w4 (w4.alloc (.cells #[.pointer (some ⟨p, 0, none⟩), .slice ad (allL 3 T).length cp, .slice none 0 0, .int .i64 0, .int .i64 0] 112)) w4.heap.size p ad (allL 3 T).length cp (.slice none 0 0) (0, 0)) := ⟨hb5, k5⟩
   have pc2 : (w4.alloc (.cells #[.pointer (some ⟨p, 0, none⟩), .slice ad (allL 3 T).length cp, .slice none 0 0, .int .i64 0, .int .i64 0] 112)).cell? ⟨p, 2, none⟩ = some (.slice ab T.body.length cb) := HC2.out _ (HB4.out.trans (hb5.mono HB4.out.size))
   have HB5 : Hid (Below w4.heap.size w4 (w4.alloc (.cells #[.pointer (some ⟨p, 0, none⟩), .slice ad (allL 3 T).length cp, .slice none 0 0, .int .i64 0, .int .i64 0] 112))) := hb5
   have hpw4 : p < w4.heap.size := Nat.lt_of_lt_of_le hpw HB4.out.size
   clear k5 hb5
   go_wp2_with fail
   generalize hW5 : w4.alloc (.cells #[.pointer (some ⟨p, 0, none⟩), .slice ad (allL 3 T).length cp, .slice none 0 0, .int .i64 0, .int .i64 0] 112) = W5 at *
   clear hW5
   refine (HL.out _ _ _ _ HCK.out (LoopO.nil _ _) (HBD.out _ HB4.out)).mono ?_
   rintro e w6 ⟨rfl, vl, hc6, hl6, hd6⟩
   have hb56 : Below w4.heap.size w4 w6 := hc6.bel
   have HA6 : Hid (w6.heap[w.heap.size]? = some (.cells #[.int .i64 0, .int .i64 0, .int .i64 0] 77 (0, 0))) := blk HA4.out hb56
   have HB6 : Hid (Below w.heap.size w w6) := HB4.out.trans (hb56.mono HB4.out.size)
   have HC6 : Hid (Chk w4 w6 w4.heap.size p ad (allL 3 T).length cp vl (bodyF (allL 3 T) T)) := hc6
   have HRV6 : Hid (RowV w6 ad (allL 3 T)) := HRV.out.below hb56
   clear hc6 hl6 hd6 hb56 HCK HB5 HL HA4 HB4 HRV pc2
   generalize w4.heap.size = kp at *
   obtain ⟨⟨s1, s2⟩, hs⟩ : ∃ s, s = bodyF (allL 3 T) T := ⟨_, rfl⟩
   rw [← hs] at HC6 HCB
   clear hs
   obtain ⟨-, k1, -, k3, k4⟩ := cl5 HC6.out.row
   obtain ⟨r0, r1, r2⟩ := cl3 HA6.out
   obtain ⟨f0, f1, f2⟩ := fl3 HA6.out
   by_cases hs1 : s1 = 0
   ·subst hs1
    have HCW : Hid (((c1, c2), c3) = if 2000 < budT T ∨ 60 < cellsL (allL 3 T) then ((2, -1), 0) else ((0, 0), budT T)) := by unfold Hid; rw [HCB.out, if_neg (by simp)]
    have pc2 := HC2.out _ HB6.out
    have hkl : kp < w6.heap.size := blk_lt HC6.out.row
    have hrl : w.heap.size < w6.heap.size := blk_lt HA6.out
    have hpl : p < w6.heap.size := Nat.lt_of_lt_of_le hpw HB6.out.size
    have HCX : Hid (Calls Tryz.prog 68 #[.pointer (some ⟨p, 0, none⟩)] w6.drew fun e w2 => ∃ v, e = .returned v ∧ Own w2 w6.drew.heap.size v (costsF T.nodes T.nodes.length) ∧ Below w6.drew.heap.size w6.drew w2) := HCO.out HFF.out w6.drew HB6.out.drew
    have HB7 : Hid (Below w.heap.size w w6.drew) := HB6.out.drew
    have HS7 : Hid (∀ (a : Option Addr) (c : Nat) (W : World), Below w.heap.size w W → Nums W a (costsF T.nodes T.nodes.length) → Calls Tryz.prog 67 #[.slice a T.nodes.length c, .slice ab T.body.length cb] W fun e w' => e = .returned (.int .i64 (sumAtL (costsF T.nodes T.nodes.length) T.body)) ∧ w' = W) := HSU.out HFF.out
    have hsb := HSB.out HFF.out
    have HCL : Hid (∀ (W : World), RowV W ad (allL 3 T) → Calls Tryz.prog 43 #[.slice ad (allL 3 T).length cp] W fun e w' => e = .returned (.int .i64 (cellsL (allL 3 T))) ∧ Below W.heap.size W w') := fun W hr => HCE.out HFF.out ad cp W hr
    have HBU : Hid (budT T = 1 + sumAtL (costsF T.nodes T.nodes.length) T.body) := rfl
    have HK1 : Hid (w6.cell? ⟨kp, 1, none⟩ = some (.slice ad (allL 3 T).length cp)) := k1
    clear HCB HCO HSU HSB HCE HC6 HFF k4 k1 r0 r1 r2 f0 f1 f2
    have HDL : Hid ((costsF T.nodes T.nodes.length).length = T.nodes.length) := costsF_len _ _
    obtain ⟨ds, hds⟩ : ∃ ds, ds = costsF T.nodes T.nodes.length := ⟨_, rfl⟩
    rw [← hds] at HCX HS7 hsb HBU HDL
    clear hds
    obtain ⟨sm, hsm⟩ : ∃ sm, sm = sumAtL ds T.body := ⟨_, rfl⟩
    rw [← hsm] at HS7 hsb HBU
    clear hsm
    go_wp2_with fail
    go_region_held3 (fun Z => Z.cell? ⟨p, 2, none⟩ = some (.slice ab T.body.length cb)) (go_keep) (first | (go_at_call 68; refine HCX.out.mono ?_; rintro e w7 ⟨v7, rfl, hown7, hb7⟩; obtain ⟨a7, c7, rfl⟩ := own_shape hown7; have q2 := (hb7.cell (p := ⟨p, 2, none⟩) hpl).trans pc2; have HNU : Hid (Nums w7 a7 ds) := (nums_of_own hown7).2; have HB8 : Hid (Below w6.drew.heap.size w6.drew w7) := hb7; have HB9 : Hid (Below w.heap.size w w7) := HB7.out.trans (hb7.mono HB7.out.size); rw [HDL.out]; clear hown7 hb7) | (go_at_call 67; refine (HS7.out _ _ _ HB9.out HNU.out).mono ?_; rintro e w8 ⟨rfl, rfl⟩))
    clear pc2 HCX HS7 k3
    have HB10 : Hid (Below w.heap.size w w8) := HB9
    have HA9 : Hid (w8.heap[w.heap.size]? = some (.cells #[.int .i64 0, .int .i64 0, .int .i64 0] 77 (0, 0))) := (HB8.out.block w.heap.size hrl).trans HA6.out
    have k1 : w8.cell? ⟨kp, 1, none⟩ = some (.slice ad (allL 3 T).length cp) := (HB8.out.cell (p := ⟨kp, 1, none⟩) hkl).trans HK1.out
    have HRV8 : Hid (RowV w8 ad (allL 3 T)) := by
     refine RowV.below (w := w6.drew) ?_ HB8.out
     exact rowV_drew HRV6.out
    try clear q2
    try clear HNU
    clear HB8 HA6 HK1 HRV6 HB6 HB7 HB9
    by_cases hbu : 2000 < 1 + sm
    ·have hb1 : decide ((2000 : Int) < 1 + sm) = true := decide_eq_true hbu
     have HCV : Hid (((c1, c2), c3) = ((2, -1), 0)) := by unfold Hid; rw [HCW.out, if_pos (Or.inl (by rw [HBU.out]; exact hbu))]
     obtain ⟨r0, r1, r2⟩ := cl3 HA9.out
     obtain ⟨f0, f1, f2⟩ := fl3 HA9.out
     clear HCW hbu HCL
     go_wp2_with fail
     refine bodyPost_ret (v := .agg #[.int .i64 2, .int .i64 (-1), .int .i64 (0)]) (by simp [results, Tryz.results42, go_sem, r0, r1, r2]) rfl ⟨?_, ((HB10.out.setCell (by simp) _).setCell (by simp) _).setCell (by simp) _⟩
     have e := HCV.out
     injection e with e1 e3
     injection e1 with e1 e2
     rw [e1, e2, e3]
    ·have hb1 : decide ((2000 : Int) < 1 + sm) = false := decide_eq_false hbu
     by_cases hce : 60 < cellsL (allL 3 T)
     ·have HCV : Hid (((c1, c2), c3) = ((2, -1), 0)) := by unfold Hid; rw [HCW.out, if_pos (Or.inr hce)]
      clear HCW hbu
      go_wp2_with fail
      refine (HCL.out _ HRV8.out).mono ?_
      rintro e w10 ⟨rfl, hb⟩
      have HB11 : Hid (Below w.heap.size w w10) := HB10.out.trans (hb.mono HB10.out.size)
      have HA10 := blk HA9.out hb
      clear HA9 hb
      have HA9 : Hid _ := HA10
      obtain ⟨r0, r1, r2⟩ := cl3 HA9.out
      obtain ⟨f0, f1, f2⟩ := fl3 HA9.out
      clear HA10 k1 HCL
      go_wp2_with fail
      refine bodyPost_ret (v := .agg #[.int .i64 2, .int .i64 (-1), .int .i64 (0)]) (by simp [results, Tryz.results42, go_sem, r0, r1, r2]) rfl ⟨?_, ((HB11.out.setCell (by simp) _).setCell (by simp) _).setCell (by simp) _⟩
      have e := HCV.out
      injection e with e1 e3
      injection e1 with e1 e2
      rw [e1, e2, e3]
     ·have HCV : Hid (((c1, c2), c3) = ((0, 0), 1 + sm)) := by unfold Hid; rw [HCW.out, if_neg (by rw [HBU.out]; exact fun h => h.elim hbu hce), HBU.out]
      clear HCW hbu
      go_wp2_with fail
      refine (HCL.out _ HRV8.out).mono ?_
      rintro e w10 ⟨rfl, hb⟩
      have HB11 : Hid (Below w.heap.size w w10) := HB10.out.trans (hb.mono HB10.out.size)
      have HA10 := blk HA9.out hb
      clear HA9 hb
      have HA9 : Hid _ := HA10
      obtain ⟨r0, r1, r2⟩ := cl3 HA9.out
      obtain ⟨f0, f1, f2⟩ := fl3 HA9.out
      clear HA10 k1 HCL
      go_wp2_with fail
      refine bodyPost_ret (v := .agg #[.int .i64 0, .int .i64 (0), .int .i64 (1 + sm)]) (by simp [results, Tryz.results42, go_sem, r0, r1, r2]) rfl ⟨?_, ((HB11.out.setCell (by simp) _).setCell (by simp) _).setCell (by simp) _⟩
      have e := HCV.out
      injection e with e1 e3
      injection e1 with e1 e2
      rw [e1, e2, e3]
   ·have hsb : (s1 == 0) = false := by simpa using hs1
    have hsd : decide (s1 = 0) = false := decide_eq_false hs1
    have HCW : Hid (((c1, c2), c3) = ((s1, s2), 0)) := by unfold Hid; rw [HCB.out, if_pos hs1]
    clear HCB
    go_wp2_with fail
    refine bodyPost_ret (v := .agg #[.int .i64 s1, .int .i64 s2, .int .i64 0]) (by simp [results, Tryz.results42, go_sem, r0, r1, r2]) rfl ⟨?_, ((HB6.out.setCell (by simp) _).setCell (by simp) _).setCell (by simp) _⟩
    have e := HCW.out
    injection e with e1 e3
    injection e1 with e1 e2
    rw [e1, e2, e3]
  ·have hnb : (N == 0) = false := by simpa using hn
   have hnd : decide (N = 0) = false := decide_eq_false hn
   have HCW : Hid (((c1, c2), c3) = ((N, -1), 0)) := by unfold Hid; rw [HCN.out, if_pos hn]
   obtain ⟨r0, r1, r2⟩ := cl3 HA3.out
   obtain ⟨f0, f1, f2⟩ := fl3 HA3.out
   clear HCN
   go_wp2_with fail
   refine bodyPost_ret (v := .agg #[.int .i64 N, .int .i64 (-1), .int .i64 0]) (by simp [results, Tryz.results42, go_sem, r0, r1, r2]) rfl ⟨?_, ((HB3.out.setCell (by simp) _).setCell (by simp) _).setCell (by simp) _⟩
   have e := HCW.out
   injection e with e1 e3
   injection e1 with e1 e2
   rw [e1, e2, e3]
 ·have hzb : (F == 0) = false := by simpa using hz
  have hzd : decide (F = 0) = false := decide_eq_false hz
  have HCW : Hid (((c1, c2), c3) = ((F, -1), 0)) := by unfold Hid; rw [HC.out, hF, if_pos hz]
  obtain ⟨r0, r1, r2⟩ := cl3 HA.out
  obtain ⟨f0, f1, f2⟩ := fl3 HA.out
  clear HC hF
  go_wp2_with fail
  refine bodyPost_ret (v := .agg #[.int .i64 F, .int .i64 (-1), .int .i64 0]) (by simp [results, Tryz.results42, go_sem, r0, r1, r2]) rfl ⟨?_, ((HB.out.setCell (by simp) _).setCell (by simp) _).setCell (by simp) _⟩
  have e := HCW.out
  injection e with e1 e3
  injection e1 with e1 e2
  rw [e1, e2, e3]
end Go.Proofs.YteeklmgkhacbcaaGreatDoor
