/-
  laws.szTree: how much a tree holds.
-/
import Derived.Test.YtepjaoapjpmjkaaGreatDoorTreeTo3
namespace Go.Proofs.YtepjaoapjpmjkaaGreatDoor
open Go.RowKit
set_option linter.unusedVariables false
attribute [local go_sem] bs_size bs_get bs_extract bs_append bs_eq bs_toList
set_option maxHeartbeats 6400000 in
set_option maxRecDepth 100000 in
theorem toTree_any (lo : Nat) (T : LTree) (vv vn vb : Value) (w : World) (h : TreeV lo w vv vn vb T) (hz : Sized 1048576 T) :
  Calls Tryz.prog 9 #[treeV vv vn vb] w fun e w' => ∃ vv' vn' vb', e = .returned (treeV vv' vn' vb') ∧ TreeV w.heap.size w' vv' vn' vb' T ∧ Below w.heap.size w w' := by
 obtain ⟨av, cv, rfl, _⟩ := id h.vars
 obtain ⟨an, cn, rfl, _⟩ := id h.nodes
 obtain ⟨ab, cb, rfl, _⟩ := id h.body
 have HV := hid h
 have HZ : Hid (Sized 1048576 T) := hz
 clear h hz
 go_enter Tryz.func9, Tryz.ntmps9
 go_wp2_with fail
 obtain ⟨W, hW⟩ : ∃ W, W = (((w.alloc (.cells #[.slice av T.vars.length cv, .slice an T.nodes.length cn, .slice ab T.body.length cb] 26)).alloc (.cells #[.slice none 0 0, .slice none 0 0, .slice none 0 0] 34)).alloc (.cells #[.slice none 0 0, .slice none 0 0, .slice none 0 0] 34)) := ⟨_, rfl⟩
 have hbW : Below w.heap.size w W := by rw [hW]; exact (((Below.refl _ _).alloc (Nat.le_refl _) _).alloc (by simp) _).alloc (by simp; omega) _
 have hA : W.heap[w.heap.size]? = some (.cells #[.slice av T.vars.length cv, .slice an T.nodes.length cn, .slice ab T.body.length cb] 26 (0, 0)) := by
  rw [hW, Below.heap_alloc _ _ _ (by simp; omega), Below.heap_alloc _ _ _ (by simp)]; exact heap_alloc_new w _
 have hR : W.heap[w.heap.size + 1]? = some (.cells #[.slice none 0 0, .slice none 0 0, .slice none 0 0] 34 (0, 0)) := by
  rw [hW, Below.heap_alloc _ _ _ (by simp)]
  have h := heap_alloc_new (w.alloc (.cells #[.slice av T.vars.length cv, .slice an T.nodes.length cn, .slice ab T.body.length cb] 26)) (.cells #[.slice none 0 0, .slice none 0 0, .slice none 0 0] 34)
  rwa [show (w.alloc (.cells #[.slice av T.vars.length cv, .slice an T.nodes.length cn, .slice ab T.body.length cb] 26)).heap.size = w.heap.size + 1 from by simp] at h
 have hO : W.heap[w.heap.size + 1 + 1]? = some (.cells #[.slice none 0 0, .slice none 0 0, .slice none 0 0] 34 (0, 0)) := by
  rw [hW]
  have h := heap_alloc_new ((w.alloc (.cells #[.slice av T.vars.length cv, .slice an T.nodes.length cn, .slice ab T.body.length cb] 26)).alloc (.cells #[.slice none 0 0, .slice none 0 0, .slice none 0 0] 34)) (.cells #[.slice none 0 0, .slice none 0 0, .slice none 0 0] 34)
  rwa [show ((w.alloc (.cells #[.slice av T.vars.length cv, .slice an T.nodes.length cn, .slice ab T.body.length cb] 26)).alloc (.cells #[.slice none 0 0, .slice none 0 0, .slice none 0 0] 34)).heap.size = w.heap.size + 1 + 1 from by simp] at h
 rw [← hW]
 clear hW
 refine (toVars_any lo _ _ _ (HV.out.below hbW).vars HZ.out.vars).mono ?_
 rintro e wv ⟨_, rfl, hv, hb⟩
 obtain ⟨av', cv', rfl, _⟩ := id hv
 have hbC := hbW.trans (hb.mono hbW.size)
 have hAc := blk hA hb
 have hRc := blk hR hb
 have hOc := blk hO hb
 have hv1 : VarsV (w.heap.size + 3) wv (.slice av' T.vars.length cv') T.vars := hv.mono (blk_lt hO)
 have HA : Hid ((wv.setCell ⟨w.heap.size + 1 + 1, 0, none⟩ (.slice av' T.vars.length cv')).heap[w.heap.size]? = some (.cells #[.slice av T.vars.length cv, .slice an T.nodes.length cn, .slice ab T.body.length cb] 26 (0, 0))) := blk_set _ hAc (by omega)
 have HR : Hid ((wv.setCell ⟨w.heap.size + 1 + 1, 0, none⟩ (.slice av' T.vars.length cv')).heap[w.heap.size + 1]? = some (.cells #[.slice none 0 0, .slice none 0 0, .slice none 0 0] 34 (0, 0))) := blk_set _ hRc (by omega)
 have HO : Hid ((wv.setCell ⟨w.heap.size + 1 + 1, 0, none⟩ (.slice av' T.vars.length cv')).heap[w.heap.size + 1 + 1]? = some (.cells #[.slice av' T.vars.length cv', .slice none 0 0, .slice none 0 0] 34 (0, 0))) := by have h := heap_setCell_same wv (w.heap.size + 1 + 1) 0 _ _ (.slice av' T.vars.length cv') hOc; exact h
 have HB : Hid (Below w.heap.size w (wv.setCell ⟨w.heap.size + 1 + 1, 0, none⟩ (.slice av' T.vars.length cv'))) := hbC.trans (below_set _ _ _ _ (by omega))
 have o0 := cell_of_row _ _ 0 _ _ _ hOc
 have g0 := frozen_of_row _ _ 0 _ _ hOc
 simp at o0
 have b1 := cell_of_row _ _ 1 _ _ _ HA.out
 simp at b1
 have Hv : Hid (VarsV (w.heap.size + 3) (wv.setCell ⟨w.heap.size + 1 + 1, 0, none⟩ (.slice av' T.vars.length cv')) (.slice av' T.vars.length cv') T.vars) := hv1.keep (keeps_set _ _ _ _ _ (by omega))
 clear hA hR hO hbW hb hbC hAc hRc hOc hv hv1
 go_wp2_with fail
 have hA := HA.out
 have hR := HR.out
 have hO := HO.out
 have hbW := HB.out
 have hvS := Hv.out
 clear HA HR HO HB Hv b1 o0 g0
 generalize wv.setCell ⟨w.heap.size + 1 + 1, 0, none⟩ (.slice av' T.vars.length cv') = W at *
 refine (toNodes_any lo _ _ _ (HV.out.below hbW).nodes HZ.out.nodes (fun n hn => (HZ.out.node n hn).2)).mono ?_
 rintro e wn ⟨_, rfl, hn, hb⟩
 obtain ⟨an', cn', rfl, _⟩ := id hn
 have hbC := hbW.trans (hb.mono hbW.size)
 have hAc := blk hA hb
 have hRc := blk hR hb
 have hOc := blk hO hb
 have hn1 : NodesV (w.heap.size + 3) wn (.slice an' T.nodes.length cn') T.nodes := hn.mono (blk_lt hO)
 have hvC := hvS.below hb
 have HA : Hid ((wn.setCell ⟨w.heap.size + 1 + 1, 1, none⟩ (.slice an' T.nodes.length cn')).heap[w.heap.size]? = some (.cells #[.slice av T.vars.length cv, .slice an T.nodes.length cn, .slice ab T.body.length cb] 26 (0, 0))) := blk_set _ hAc (by omega)
 have HR : Hid ((wn.setCell ⟨w.heap.size + 1 + 1, 1, none⟩ (.slice an' T.nodes.length cn')).heap[w.heap.size + 1]? = some (.cells #[.slice none 0 0, .slice none 0 0, .slice none 0 0] 34 (0, 0))) := blk_set _ hRc (by omega)
 have HO : Hid ((wn.setCell ⟨w.heap.size + 1 + 1, 1, none⟩ (.slice an' T.nodes.length cn')).heap[w.heap.size + 1 + 1]? = some (.cells #[.slice av' T.vars.length cv', .slice an' T.nodes.length cn', .slice none 0 0] 34 (0, 0))) := by have h := heap_setCell_same wn (w.heap.size + 1 + 1) 1 _ _ (.slice an' T.nodes.length cn') hOc; exact h
 have HB : Hid (Below w.heap.size w (wn.setCell ⟨w.heap.size + 1 + 1, 1, none⟩ (.slice an' T.nodes.length cn'))) := hbC.trans (below_set _ _ _ _ (by omega))
 have o1 := cell_of_row _ _ 1 _ _ _ hOc
 have g1 := frozen_of_row _ _ 1 _ _ hOc
 simp at o1
 have b2 := cell_of_row _ _ 2 _ _ _ HA.out
 simp at b2
 have Hv : Hid (VarsV (w.heap.size + 3) (wn.setCell ⟨w.heap.size + 1 + 1, 1, none⟩ (.slice an' T.nodes.length cn')) (.slice av' T.vars.length cv') T.vars) := hvC.keep (keeps_set _ _ _ _ _ (by omega))
 have Hn : Hid (NodesV (w.heap.size + 3) (wn.setCell ⟨w.heap.size + 1 + 1, 1, none⟩ (.slice an' T.nodes.length cn')) (.slice an' T.nodes.length cn') T.nodes) := hn1.keep (keeps_set _ _ _ _ _ (by omega))
 clear hA hR hO hbW hb hbC hAc hRc hOc hn hn1 hvS hvC
 go_wp2_with fail
 have hA := HA.out
 have hR := HR.out
 have hO := HO.out
 have hbW := HB.out
 have hvS := Hv.out
 have hnS := Hn.out
 clear HA HR HO HB Hv Hn b2 o1 g1
 generalize wn.setCell ⟨w.heap.size + 1 + 1, 1, none⟩ (.slice an' T.nodes.length cn') = W at *
 refine (toInts_any lo _ _ _ (HV.out.below hbW).body HZ.out.body).mono ?_
 rintro e wd ⟨_, rfl, hd, hb⟩
 obtain ⟨ad', cd', rfl, _⟩ := id hd
 have hbC := hbW.trans (hb.mono hbW.size)
 have hAc := blk hA hb
 have hRc := blk hR hb
 have hOc := blk hO hb
 have hd1 : IntsV (w.heap.size + 3) wd (.slice ad' T.body.length cd') T.body := hd.mono (blk_lt hO)
 have hvC := hvS.below hb
 have hnC := hnS.below hb
 have HA : Hid ((wd.setCell ⟨w.heap.size + 1 + 1, 2, none⟩ (.slice ad' T.body.length cd')).heap[w.heap.size]? = some (.cells #[.slice av T.vars.length cv, .slice an T.nodes.length cn, .slice ab T.body.length cb] 26 (0, 0))) := blk_set _ hAc (by omega)
 have HR : Hid ((wd.setCell ⟨w.heap.size + 1 + 1, 2, none⟩ (.slice ad' T.body.length cd')).heap[w.heap.size + 1]? = some (.cells #[.slice none 0 0, .slice none 0 0, .slice none 0 0] 34 (0, 0))) := blk_set _ hRc (by omega)
 have HO : Hid ((wd.setCell ⟨w.heap.size + 1 + 1, 2, none⟩ (.slice ad' T.body.length cd')).heap[w.heap.size + 1 + 1]? = some (.cells #[.slice av' T.vars.length cv', .slice an' T.nodes.length cn', .slice ad' T.body.length cd'] 34 (0, 0))) := by have h := heap_setCell_same wd (w.heap.size + 1 + 1) 2 _ _ (.slice ad' T.body.length cd') hOc; exact h
 have HB : Hid (Below w.heap.size w (wd.setCell ⟨w.heap.size + 1 + 1, 2, none⟩ (.slice ad' T.body.length cd'))) := hbC.trans (below_set _ _ _ _ (by omega))
 have o2 := cell_of_row _ _ 2 _ _ _ hOc
 have g2 := frozen_of_row _ _ 2 _ _ hOc
 simp at o2
 have Hv : Hid (VarsV (w.heap.size + 3) (wd.setCell ⟨w.heap.size + 1 + 1, 2, none⟩ (.slice ad' T.body.length cd')) (.slice av' T.vars.length cv') T.vars) := hvC.keep (keeps_set _ _ _ _ _ (by omega))
 have Hn : Hid (NodesV (w.heap.size + 3) (wd.setCell ⟨w.heap.size + 1 + 1, 2, none⟩ (.slice ad' T.body.length cd')) (.slice an' T.nodes.length cn') T.nodes) := hnC.keep (keeps_set _ _ _ _ _ (by omega))
 have Hd : Hid (IntsV (w.heap.size + 3) (wd.setCell ⟨w.heap.size + 1 + 1, 2, none⟩ (.slice ad' T.body.length cd')) (.slice ad' T.body.length cd') T.body) := hd1.keep (keeps_set _ _ _ _ _ (by omega))
 clear hA hR hO hbW hb hbC hAc hRc hOc hd hd1 hvS hvC hnS hnC
 obtain ⟨O0, O1, O2⟩ := cl3 HO.out
 obtain ⟨R0, R1, R2⟩ := cl3 HR.out
 obtain ⟨G0, G1, G2⟩ := fl3 HR.out
 go_wp2
 refine bodyPost_ret (v := treeV (.slice av' T.vars.length cv') (.slice an' T.nodes.length cn') (.slice ad' T.body.length cd')) (by simp [results, Tryz.results9, go_sem, R0, R1, R2]) rfl ⟨_, _, _, rfl, ?_, ?_⟩
 ·refine TreeV.mono ?_ (by omega : w.heap.size ≤ w.heap.size + 3)
  refine TreeV.keep ⟨Hv.out, Hn.out, Hd.out⟩ (fun b hb hl => ?_)
  rw [Below.heap_setCell _ _ _ _ (by simp; omega), Below.heap_setCell _ _ _ _ (by simp; omega), Below.heap_setCell _ _ _ _ (by simp; omega)]
 ·refine Below.trans ?_ (below_set _ _ _ _ (by omega))
  refine Below.trans ?_ (below_set _ _ _ _ (by omega))
  refine Below.trans ?_ (below_set _ _ _ _ (by omega))
  exact HB.out
end Go.Proofs.YtepjaoapjpmjkaaGreatDoor
namespace Go.Proofs.YtepjaoapjpmjkaaGreatDoor
open Go.RowKit
set_option linter.unusedVariables false
attribute [local go_sem] bs_size bs_get bs_extract bs_append bs_eq bs_toList
def Left (left r : Int) (P : Prop) : Prop := r = -1 ∨ (0 ≤ r ∧ r ≤ left ∧ P)
set_option maxHeartbeats 1600000 in
theorem szInts_any (a : Option Addr) (n c : Nat) (left : Int) (h0 : 0 ≤ left) (h1 : left ≤ 1048576) (hl : n ≤ 9223372036854775807) (w : World) :
  Calls Tryz.prog 29 #[.slice a n c, .int .i64 left] w fun e w' => ∃ r : Int, e = .returned (.int .i64 r) ∧ Left left r (n ≤ 1048576) ∧ Below w.heap.size w w' := by
 by_cases hb : left < n
 ·go_enter Tryz.func29, Tryz.ntmps29
  go_wp2
  go_ret
  exact ⟨_, rfl, Or.inl rfl, by go_grown⟩
 ·go_enter Tryz.func29, Tryz.ntmps29
  go_wp2
  go_ret
  exact ⟨_, rfl, Or.inr ⟨by omega, by omega, by omega⟩, by go_grown⟩
set_option maxHeartbeats 1600000 in
theorem szVar_any (x : LVar) (left : Int) (h0 : 0 ≤ left) (h1 : left ≤ 1048576) (hl : x.name.length ≤ 9223372036854775807) (w : World) :
  Calls Tryz.prog 59 #[varV x, .int .i64 left] w fun e w' => ∃ r : Int, e = .returned (.int .i64 r) ∧ Left left r (x.name.length ≤ 1048576) ∧ Below w.heap.size w w' := by
 by_cases hb : left < x.name.length
 ·go_enter Tryz.func59, Tryz.ntmps59
  go_wp2
  go_ret
  exact ⟨_, rfl, Or.inl rfl, by go_grown⟩
 ·go_enter Tryz.func59, Tryz.ntmps59
  go_wp2
  go_ret
  exact ⟨_, rfl, Or.inr ⟨by omega, by omega, by omega⟩, by go_grown⟩
set_option maxHeartbeats 3200000 in
theorem szVars_any (lo : Nat) (v : Value) (xs : List LVar) (left : Int) (w : World) (h : VarsV lo w v xs) (h0 : 0 ≤ left) (h1 : left ≤ 1048576) (hl : xs.length ≤ 9223372036854775807) (hs : ∀ x ∈ xs, x.name.length ≤ 9223372036854775807) :
  Calls Tryz.prog 27 #[v, .int .i64 left] w fun e w' => ∃ r : Int, e = .returned (.int .i64 r) ∧ Left left r (xs.length ≤ 1048576 ∧ ∀ x ∈ xs, x.name.length ≤ 1048576) ∧ Below w.heap.size w w' := by
 obtain ⟨a, c, rfl, hc, hhd⟩ := h
 have HSZ := hid hs
 have HHD := hid hhd
 clear hhd hc hs
 by_cases hbig : left < xs.length
 ·go_enter Tryz.func27, Tryz.ntmps27
  go_wp2
  go_ret
  exact ⟨_, rfl, Or.inl rfl, Below.refl _ _⟩
 ·go_enter Tryz.func27, Tryz.ntmps27
  go_wp2
  go_loopw [1, 5] (fun x i wr => ∃ (k : Nat) (l : Int), k ≤ xs.length ∧ i = .int .i64 k ∧ x = .int .i64 l ∧ 0 ≤ l ∧ l ≤ left ∧ (∀ j (y : LVar), j < k → xs[j]? = some y → y.name.length ≤ 1048576) ∧ Below w.heap.size w wr) (fun _ i _ => xs.length - (intOf i).toNat)
  case atStart => exact ⟨0, left - (xs.length : Int), by omega, rfl, by first | rfl | go_num, by omega, by omega, by omega, Below.refl _ _⟩
  case round =>
   obtain ⟨k, l, hk, rfl, rfl, hl0, hl1, hall, hB⟩ := hrel
   have HALL := hid hall
   clear hall
   by_cases hlt : k < xs.length
   ·obtain ⟨x, hx⟩ : ∃ x, xs[k]? = some x := ⟨xs[k], List.getElem?_eq_getElem hlt⟩
    obtain ⟨b, o, ha, _, hcl⟩ := HHD.out (by intro e; rw [e] at hlt; simp at hlt)
    subst ha
    obtain ⟨c0, c1, c2, c3⟩ := (hcl k x hx).keep (lo := 0) (fun g _ hg => hB.block g hg) (Nat.zero_le _)
    have hxs := HSZ.out x (List.mem_of_getElem? hx)
    have HX : Hid (xs[k]? = some x) := hx
    have HS : Hid (∀ w, Calls Tryz.prog 59 #[varV x, .int .i64 l] w fun e w' => ∃ r : Int, e = .returned (.int .i64 r) ∧ Left l r (x.name.length ≤ 1048576) ∧ Below w.heap.size w w') := fun w => szVar_any x l hl0 (by omega) hxs w
    clear hcl hx hxs
    go_wp2_with fail
    refine (HS.out _).mono ?_
    rintro e w2 ⟨r, rfl, hr, hb⟩
    have hB2 := hB.trans (hb.mono hB.size)
    clear hb c0 c1 c2 c3 hB HS
    rcases hr with rfl | ⟨r0, r1, r2⟩
    ·go_wp2_with fail
     go_ret
     exact ⟨_, rfl, Or.inl rfl, hB2⟩
    ·have HXL : Hid (x.name.length ≤ 1048576) := r2
     clear r2
     go_wp2_with fail
     go_roundw
     case rel => exact ⟨k + 1, r, by omega, by go_num, rfl, r0, by omega, fun j y hj hy => by
       rcases Nat.lt_succ_iff_lt_or_eq.1 hj with h | rfl
       ·exact HALL.out j y h hy
       ·have := hy.symm.trans HX.out
        cases this
        exact HXL.out, hB2⟩
     case measure => simp [intOf]; omega
   ·have hke : k = xs.length := by omega
    have HKE : Hid (k = xs.length) := hke
    clear hke
    go_wp2
    go_ret
    refine ⟨_, rfl, Or.inr ⟨hl0, hl1, by omega, fun x hx => ?_⟩, hB⟩
    obtain ⟨j, hj, rfl⟩ := List.getElem_of_mem hx
    exact HALL.out j _ (by have := HKE.out; omega) (List.getElem?_eq_getElem hj)
def NodeSz (B : Nat) (n : LNode) : Prop := n.name.length ≤ B ∧ n.kids.length ≤ B ∧ n.thn.length ≤ B ∧ n.els.length ≤ B
set_option maxHeartbeats 6400000 in
theorem szNode_any (lo : Nat) (n : LNode) (vk vt ve : Value) (left : Int) (w : World) (h : NodeVals lo w n vk vt ve) (h0 : 0 ≤ left) (h1 : left ≤ 1048576) (hl : NodeSz 9223372036854775807 n) :
  Calls Tryz.prog 60 #[nodeV n vk vt ve, .int .i64 left] w fun e w' => ∃ r : Int, e = .returned (.int .i64 r) ∧ Left left r (NodeSz 1048576 n) ∧ Below w.heap.size w w' := by
 obtain ⟨ak, ck, rfl, _⟩ := id h.kids
 obtain ⟨at_, ct, rfl, _⟩ := id h.thn
 obtain ⟨ae, ce, rfl, _⟩ := id h.els
 obtain ⟨l1, l2, l3, l4⟩ := hl
 clear h
 have HK : Hid (∀ (l : Int) (w : World), 0 ≤ l → l ≤ 1048576 → Calls Tryz.prog 29 #[.slice ak n.kids.length ck, .int .i64 l] w fun e w' => ∃ r : Int, e = .returned (.int .i64 r) ∧ Left l r (n.kids.length ≤ 1048576) ∧ Below w.heap.size w w') := fun l w a b => szInts_any _ _ _ l a b l2 w
 have HT : Hid (∀ (l : Int) (w : World), 0 ≤ l → l ≤ 1048576 → Calls Tryz.prog 29 #[.slice at_ n.thn.length ct, .int .i64 l] w fun e w' => ∃ r : Int, e = .returned (.int .i64 r) ∧ Left l r (n.thn.length ≤ 1048576) ∧ Below w.heap.size w w') := fun l w a b => szInts_any _ _ _ l a b l3 w
 have HE : Hid (∀ (l : Int) (w : World), 0 ≤ l → l ≤ 1048576 → Calls Tryz.prog 29 #[.slice ae n.els.length ce, .int .i64 l] w fun e w' => ∃ r : Int, e = .returned (.int .i64 r) ∧ Left l r (n.els.length ≤ 1048576) ∧ Below w.heap.size w w') := fun l w a b => szInts_any _ _ _ l a b l4 w
 clear l2 l3 l4
 by_cases hb : left < n.name.length
 ·go_enter Tryz.func60, Tryz.ntmps60
  go_wp2
  go_ret
  exact ⟨_, rfl, Or.inl rfl, by go_grown⟩
 go_enter Tryz.func60, Tryz.ntmps60
 go_wp2_with fail
 have hA := heap_alloc_new w (.cells #[.int .i64 n.kind, .int .i64 n.op, .string (bs n.name), .int .i64 n.num, .int .i64 n.far, .slice ak n.kids.length ck, .slice at_ n.thn.length ct, .slice ae n.els.length ce] 107)
 have hB : Below w.heap.size w (w.alloc (.cells #[.int .i64 n.kind, .int .i64 n.op, .string (bs n.name), .int .i64 n.num, .int .i64 n.far, .slice ak n.kids.length ck, .slice at_ n.thn.length ct, .slice ae n.els.length ce] 107)) := (Below.refl _ _).alloc (Nat.le_refl _) _
 generalize w.alloc (.cells #[.int .i64 n.kind, .int .i64 n.op, .string (bs n.name), .int .i64 n.num, .int .i64 n.far, .slice ak n.kids.length ck, .slice at_ n.thn.length ct, .slice ae n.els.length ce] 107) = W at *
 obtain ⟨L0, hL0⟩ : ∃ L, L = left - (n.name.length : Int) := ⟨_, rfl⟩
 have k0 : 0 ≤ L0 ∧ L0 ≤ left ∧ n.name.length ≤ 1048576 := by omega
 obtain ⟨k0, m0, z0⟩ := k0
 rw [← hL0]
 clear hL0 hb l1
 refine (HK.out _ _ k0 (by omega)).mono ?_
 rintro e w0 ⟨L1, rfl, hr, hb⟩
 have hAc := blk hA hb
 have hBc := hB.trans (hb.mono hB.size)
 clear hA hB hb HK
 have a6 := cell_of_row _ _ 6 _ _ _ hAc
 simp at a6
 have HA : Hid _ := hAc
 have HB : Hid _ := hBc
 clear hAc hBc
 have HZ0 : Hid _ := z0
 clear z0
 rcases hr with rfl | ⟨k1, m1, z1⟩
 ·go_wp2_with fail
  go_ret
  exact ⟨_, rfl, Or.inl rfl, HB.out⟩
 go_wp2_with fail
 have hA := HA.out
 have hB := HB.out
 clear HA HB a6
 refine (HT.out _ _ k1 (by omega)).mono ?_
 rintro e w1 ⟨L2, rfl, hr, hb⟩
 have hAc := blk hA hb
 have hBc := hB.trans (hb.mono hB.size)
 clear hA hB hb HT
 have a7 := cell_of_row _ _ 7 _ _ _ hAc
 simp at a7
 have HA : Hid _ := hAc
 have HB : Hid _ := hBc
 clear hAc hBc
 have HZ1 : Hid _ := z1
 clear z1
 rcases hr with rfl | ⟨k2, m2, z2⟩
 ·go_wp2_with fail
  go_ret
  exact ⟨_, rfl, Or.inl rfl, HB.out⟩
 go_wp2_with fail
 have hA := HA.out
 have hB := HB.out
 clear HA HB a7
 refine (HE.out _ _ k2 (by omega)).mono ?_
 rintro e w2 ⟨L3, rfl, hr, hb⟩
 have hAc := blk hA hb
 have hBc := hB.trans (hb.mono hB.size)
 clear hA hB hb HE
 have HA : Hid _ := hAc
 have HB : Hid _ := hBc
 clear hAc hBc
 have HZ2 : Hid _ := z2
 clear z2
 rcases hr with rfl | ⟨k3, m3, z3⟩
 ·go_wp2_with fail
  go_ret
  exact ⟨_, rfl, Or.inl rfl, HB.out⟩
 have HZ3 : Hid _ := z3
 clear z3
 go_wp2_with fail
 go_ret
 exact ⟨_, rfl, Or.inr ⟨k3, by omega, HZ0.out, HZ1.out, HZ2.out, HZ3.out⟩, HB.out⟩
set_option maxHeartbeats 3200000 in
theorem szNodes_any (lo : Nat) (v : Value) (xs : List LNode) (left : Int) (w : World) (h : NodesV lo w v xs) (h0 : 0 ≤ left) (h1 : left ≤ 1048576) (hl : xs.length ≤ 9223372036854775807) (hs : ∀ x ∈ xs, NodeSz 9223372036854775807 x) :
  Calls Tryz.prog 28 #[v, .int .i64 left] w fun e w' => ∃ r : Int, e = .returned (.int .i64 r) ∧ Left left r (xs.length ≤ 1048576 ∧ ∀ x ∈ xs, NodeSz 1048576 x) ∧ Below w.heap.size w w' := by
 obtain ⟨a, c, rfl, hc, hhd⟩ := h
 have HSZ := hid hs
 have HHD := hid hhd
 clear hhd hc hs
 by_cases hbig : left < xs.length
 ·go_enter Tryz.func28, Tryz.ntmps28
  go_wp2
  go_ret
  exact ⟨_, rfl, Or.inl rfl, Below.refl _ _⟩
 ·go_enter Tryz.func28, Tryz.ntmps28
  go_wp2
  go_loopw [1, 5] (fun x i wr => ∃ (k : Nat) (l : Int), k ≤ xs.length ∧ i = .int .i64 k ∧ x = .int .i64 l ∧ 0 ≤ l ∧ l ≤ left ∧ (∀ j (y : LNode), j < k → xs[j]? = some y → NodeSz 1048576 y) ∧ Below w.heap.size w wr) (fun _ i _ => xs.length - (intOf i).toNat)
  case atStart => exact ⟨0, left - (xs.length : Int), by omega, rfl, by first | rfl | go_num, by omega, by omega, by omega, Below.refl _ _⟩
  case round =>
   obtain ⟨k, l, hk, rfl, rfl, hl0, hl1, hall, hB⟩ := hrel
   have HALL := hid hall
   clear hall
   by_cases hlt : k < xs.length
   ·obtain ⟨x, hx⟩ : ∃ x, xs[k]? = some x := ⟨xs[k], List.getElem?_eq_getElem hlt⟩
    obtain ⟨b, o, ha, _, hcl⟩ := HHD.out (by intro e; rw [e] at hlt; simp at hlt)
    subst ha
    obtain ⟨vk, vt, ve, hcs, hvs⟩ := hcl k x hx
    obtain ⟨c0, c1, c2, c3, c4, c5, c6, c7⟩ := hcs.keep (lo := 0) (fun g _ hg => hB.block g hg) (Nat.zero_le _)
    have hvs1 := hvs.keep (w' := wr) (fun g _ hg => hB.block g hg)
    obtain ⟨ak, ck, rfl, _⟩ := id hvs1.kids
    obtain ⟨at_, ct, rfl, _⟩ := id hvs1.thn
    obtain ⟨ae, ce, rfl, _⟩ := id hvs1.els
    have hxs := HSZ.out x (List.mem_of_getElem? hx)
    have HX : Hid (xs[k]? = some x) := hx
    have HS : Hid (Calls Tryz.prog 60 #[nodeV x (.slice ak x.kids.length ck) (.slice at_ x.thn.length ct) (.slice ae x.els.length ce), .int .i64 l] wr fun e w' => ∃ r : Int, e = .returned (.int .i64 r) ∧ Left l r (NodeSz 1048576 x) ∧ Below wr.heap.size wr w') := szNode_any lo x _ _ _ l wr hvs1 hl0 (by omega) hxs
    clear hcl hx hxs hcs hvs hvs1
    go_wp2_with fail
    refine HS.out.mono ?_
    rintro e w2 ⟨r, rfl, hr, hb⟩
    have hB2 := hB.trans (hb.mono hB.size)
    clear hb c0 c1 c2 c3 c4 c5 c6 c7 hB HS
    rcases hr with rfl | ⟨r0, r1, r2⟩
    ·go_wp2_with fail
     go_ret
     exact ⟨_, rfl, Or.inl rfl, hB2⟩
    ·have HXL : Hid (NodeSz 1048576 x) := r2
     clear r2
     go_wp2_with fail
     go_roundw
     case rel => exact ⟨k + 1, r, by omega, by go_num, rfl, r0, by omega, fun j y hj hy => by
       rcases Nat.lt_succ_iff_lt_or_eq.1 hj with h | rfl
       ·exact HALL.out j y h hy
       ·have := hy.symm.trans HX.out
        cases this
        exact HXL.out, hB2⟩
     case measure => simp [intOf]; omega
   ·have hke : k = xs.length := by omega
    have HKE : Hid (k = xs.length) := hke
    clear hke
    go_wp2
    go_ret
    refine ⟨_, rfl, Or.inr ⟨hl0, hl1, by omega, fun x hx => ?_⟩, hB⟩
    obtain ⟨j, hj, rfl⟩ := List.getElem_of_mem hx
    exact HALL.out j _ (by have := HKE.out; omega) (List.getElem?_eq_getElem hj)
abbrev Fits (T : LTree) : Prop := Sized 9223372036854775807 T
set_option maxHeartbeats 6400000 in
theorem szTree_any (lo : Nat) (T : LTree) (vv vn vb : Value) (w : World) (h : TreeV lo w vv vn vb T) (hf : Fits T) :
  Calls Tryz.prog 7 #[treeV vv vn vb, .int .i64 1048576] w fun e w' => ∃ r : Int, e = .returned (.int .i64 r) ∧ (0 ≤ r → Sized 1048576 T) ∧ Below w.heap.size w w' := by
 obtain ⟨av, cv, rfl, _⟩ := id h.vars
 obtain ⟨an, cn, rfl, _⟩ := id h.nodes
 obtain ⟨ab, cb, rfl, _⟩ := id h.body
 have HV := hid h
 have HF : Hid (Fits T) := hf
 clear h hf
 go_enter Tryz.func7, Tryz.ntmps7
 go_wp2_with fail
 have hA := heap_alloc_new w (.cells #[.slice av T.vars.length cv, .slice an T.nodes.length cn, .slice ab T.body.length cb] 26)
 have hB : Below w.heap.size w (w.alloc (.cells #[.slice av T.vars.length cv, .slice an T.nodes.length cn, .slice ab T.body.length cb] 26)) := (Below.refl _ _).alloc (Nat.le_refl _) _
 generalize w.alloc (.cells #[.slice av T.vars.length cv, .slice an T.nodes.length cn, .slice ab T.body.length cb] 26) = W at *
 refine (szVars_any lo _ _ 1048576 _ (HV.out.below hB).vars (by omega) (by omega) HF.out.vars HF.out.names).mono ?_
 rintro e w0 ⟨L1, rfl, hr, hb⟩
 have hAc := blk hA hb
 have hBc := hB.trans (hb.mono hB.size)
 clear hA hB hb
 have a1 := cell_of_row _ _ 1 _ _ _ hAc
 simp at a1
 have HA : Hid _ := hAc
 have HB : Hid _ := hBc
 clear hAc hBc
 rcases hr with rfl | ⟨k1, m1, z1⟩
 ·go_wp2_with fail
  go_ret
  exact ⟨_, rfl, fun h => absurd h (by omega), HB.out⟩
 have HZ1 : Hid _ := z1
 clear z1
 go_wp2_with fail
 have hA := HA.out
 have hB := HB.out
 clear HA HB a1
 refine (szNodes_any lo _ _ _ _ (HV.out.below hB).nodes k1 (by omega) HF.out.nodes HF.out.node).mono ?_
 rintro e w1 ⟨L2, rfl, hr, hb⟩
 have hAc := blk hA hb
 have hBc := hB.trans (hb.mono hB.size)
 clear hA hB hb
 have a2 := cell_of_row _ _ 2 _ _ _ hAc
 simp at a2
 have HA : Hid _ := hAc
 have HB : Hid _ := hBc
 clear hAc hBc
 rcases hr with rfl | ⟨k2, m2, z2⟩
 ·go_wp2_with fail
  go_ret
  exact ⟨_, rfl, fun h => absurd h (by omega), HB.out⟩
 have HZ2 : Hid _ := z2
 clear z2
 go_wp2_with fail
 have hA := HA.out
 have hB := HB.out
 clear HA HB a2
 refine (szInts_any _ _ _ _ k2 (by omega) HF.out.body _).mono ?_
 rintro e w2 ⟨L3, rfl, hr, hb⟩
 have hAc := blk hA hb
 have hBc := hB.trans (hb.mono hB.size)
 clear hA hB hb
 have HA : Hid _ := hAc
 have HB : Hid _ := hBc
 clear hAc hBc
 rcases hr with rfl | ⟨k3, m3, z3⟩
 ·go_wp2_with fail
  go_ret
  exact ⟨_, rfl, fun h => absurd h (by omega), HB.out⟩
 have HZ3 : Hid _ := z3
 clear z3
 go_wp2_with fail
 go_ret
 exact ⟨_, rfl, fun _ => ⟨HZ1.out.1, HZ2.out.1, HZ3.out, HZ1.out.2, HZ2.out.2⟩, HB.out⟩
end Go.Proofs.YtepjaoapjpmjkaaGreatDoor
