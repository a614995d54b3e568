/-
  laws.toTree: a tree in new memory.
-/
import Derived.Test.YtepjaoapjpmjkaaGreatDoorTreeTo3
namespace Go.Proofs.YtepjaoapjpmjkaaGreatDoor
open Go.RowKit
set_option linter.unusedVariables false
attribute [local go_sem] bs_size bs_get bs_extract bs_append bs_eq bs_toList
set_option maxHeartbeats 6400000 in
set_option maxRecDepth 100000 in
theorem toTree_any (lo : Nat) (T : LTree) (vv vn vb : Value) (w : World) (h : TreeV lo w vv vn vb T) (hz : Sized 1048576 T) :
  Calls Tryz.prog 9 #[treeV vv vn vb] w fun e w' => ∃ vv' vn' vb', e = .returned (treeV vv' vn' vb') ∧ TreeV w.heap.size w' vv' vn' vb' T ∧ Below w.heap.size w w' := by
 obtain ⟨av, cv, rfl, _⟩ := id h.vars
 obtain ⟨an, cn, rfl, _⟩ := id h.nodes
 obtain ⟨ab, cb, rfl, _⟩ := id h.body
 have HV := hid h
 have HZ : Hid (Sized 1048576 T) := hz
 clear h hz
 go_enter Tryz.func9, Tryz.ntmps9
 go_wp2_with fail
 obtain ⟨W, hW⟩ : ∃ W, W = (((w.alloc (.cells #[.slice av T.vars.length cv, .slice an T.nodes.length cn, .slice ab T.body.length cb] 26)).alloc (.cells #[.slice none 0 0, .slice none 0 0, .slice none 0 0] 34)).alloc (.cells #[.slice none 0 0, .slice none 0 0, .slice none 0 0] 34)) := ⟨_, rfl⟩
 have hbW : Below w.heap.size w W := by rw [hW]; exact (((Below.refl _ _).alloc (Nat.le_refl _) _).alloc (by simp) _).alloc (by simp; omega) _
 have hA : W.heap[w.heap.size]? = some (.cells #[.slice av T.vars.length cv, .slice an T.nodes.length cn, .slice ab T.body.length cb] 26 (0, 0)) := by
  rw [hW, Below.heap_alloc _ _ _ (by simp; omega), Below.heap_alloc _ _ _ (by simp)]; exact heap_alloc_new w _
 have hR : W.heap[w.heap.size + 1]? = some (.cells #[.slice none 0 0, .slice none 0 0, .slice none 0 0] 34 (0, 0)) := by
  rw [hW, Below.heap_alloc _ _ _ (by simp)]
  have h := heap_alloc_new (w.alloc (.cells #[.slice av T.vars.length cv, .slice an T.nodes.length cn, .slice ab T.body.length cb] 26)) (.cells #[.slice none 0 0, .slice none 0 0, .slice none 0 0] 34)
  rwa [show (w.alloc (.cells #[.slice av T.vars.length cv, .slice an T.nodes.length cn, .slice ab T.body.length cb] 26)).heap.size = w.heap.size + 1 from by simp] at h
 have hO : W.heap[w.heap.size + 1 + 1]? = some (.cells #[.slice none 0 0, .slice none 0 0, .slice none 0 0] 34 (0, 0)) := by
  rw [hW]
  have h := heap_alloc_new ((w.alloc (.cells #[.slice av T.vars.length cv, .slice an T.nodes.length cn, .slice ab T.body.length cb] 26)).alloc (.cells #[.slice none 0 0, .slice none 0 0, .slice none 0 0] 34)) (.cells #[.slice none 0 0, .slice none 0 0, .slice none 0 0] 34)
  rwa [show ((w.alloc (.cells #[.slice av T.vars.length cv, .slice an T.nodes.length cn, .slice ab T.body.length cb] 26)).alloc (.cells #[.slice none 0 0, .slice none 0 0, .slice none 0 0] 34)).heap.size = w.heap.size + 1 + 1 from by simp] at h
 rw [← hW]
 clear hW
 refine (toVars_any lo _ _ _ (HV.out.below hbW).vars HZ.out.vars).mono ?_
 rintro e wv ⟨_, rfl, hv, hb⟩
 obtain ⟨av', cv', rfl, _⟩ := id hv
 have hbC := hbW.trans (hb.mono hbW.size)
 have hAc := blk hA hb
 have hRc := blk hR hb
 have hOc := blk hO hb
 have hv1 : VarsV (w.heap.size + 3) wv (.slice av' T.vars.length cv') T.vars := hv.mono (blk_lt hO)
 have HA : Hid ((wv.setCell ⟨w.heap.size + 1 + 1, 0, none⟩ (.slice av' T.vars.length cv')).heap[w.heap.size]? = some (.cells #[.slice av T.vars.length cv, .slice an T.nodes.length cn, .slice ab T.body.length cb] 26 (0, 0))) := blk_set _ hAc (by omega)
 have HR : Hid ((wv.setCell ⟨w.heap.size + 1 + 1, 0, none⟩ (.slice av' T.vars.length cv')).heap[w.heap.size + 1]? = some (.cells #[.slice none 0 0, .slice none 0 0, .slice none 0 0] 34 (0, 0))) := blk_set _ hRc (by omega)
 have HO : Hid ((wv.setCell ⟨w.heap.size + 1 + 1, 0, none⟩ (.slice av' T.vars.length cv')).heap[w.heap.size + 1 + 1]? = some (.cells #[.slice av' T.vars.length cv', .slice none 0 0, .slice none 0 0] 34 (0, 0))) := by have h := heap_setCell_same wv (w.heap.size + 1 + 1) 0 _ _ (.slice av' T.vars.length cv') hOc; exact h
 have HB : Hid (Below w.heap.size w (wv.setCell ⟨w.heap.size + 1 + 1, 0, none⟩ (.slice av' T.vars.length cv'))) := hbC.trans (below_set _ _ _ _ (by omega))
 have o0 := cell_of_row _ _ 0 _ _ _ hOc
 have g0 := frozen_of_row _ _ 0 _ _ hOc
 simp at o0
 have b1 := cell_of_row _ _ 1 _ _ _ HA.out
 simp at b1
 have Hv : Hid (VarsV (w.heap.size + 3) (wv.setCell ⟨w.heap.size + 1 + 1, 0, none⟩ (.slice av' T.vars.length cv')) (.slice av' T.vars.length cv') T.vars) := hv1.keep (keeps_set _ _ _ _ _ (by omega))
 clear hA hR hO hbW hb hbC hAc hRc hOc hv hv1
 go_wp2_with fail
 have hA := HA.out
 have hR := HR.out
 have hO := HO.out
 have hbW := HB.out
 have hvS := Hv.out
 clear HA HR HO HB Hv b1 o0 g0
 generalize wv.setCell ⟨w.heap.size + 1 + 1, 0, none⟩ (.slice av' T.vars.length cv') = W at *
 refine (toNodes_any lo _ _ _ (HV.out.below hbW).nodes HZ.out.nodes (fun n hn => (HZ.out.node n hn).2)).mono ?_
 rintro e wn ⟨_, rfl, hn, hb⟩
 obtain ⟨an', cn', rfl, _⟩ := id hn
 have hbC := hbW.trans (hb.mono hbW.size)
 have hAc := blk hA hb
 have hRc := blk hR hb
 have hOc := blk hO hb
 have hn1 : NodesV (w.heap.size + 3) wn (.slice an' T.nodes.length cn') T.nodes := hn.mono (blk_lt hO)
 have hvC := hvS.below hb
 have HA : Hid ((wn.setCell ⟨w.heap.size + 1 + 1, 1, none⟩ (.slice an' T.nodes.length cn')).heap[w.heap.size]? = some (.cells #[.slice av T.vars.length cv, .slice an T.nodes.length cn, .slice ab T.body.length cb] 26 (0, 0))) := blk_set _ hAc (by omega)
 have HR : Hid ((wn.setCell ⟨w.heap.size + 1 + 1, 1, none⟩ (.slice an' T.nodes.length cn')).heap[w.heap.size + 1]? = some (.cells #[.slice none 0 0, .slice none 0 0, .slice none 0 0] 34 (0, 0))) := blk_set _ hRc (by omega)
 have HO : Hid ((wn.setCell ⟨w.heap.size + 1 + 1, 1, none⟩ (.slice an' T.nodes.length cn')).heap[w.heap.size + 1 + 1]? = some (.cells #[.slice av' T.vars.length cv', .slice an' T.nodes.length cn', .slice none 0 0] 34 (0, 0))) := by have h := heap_setCell_same wn (w.heap.size + 1 + 1) 1 _ _ (.slice an' T.nodes.length cn') hOc; exact h
 have HB : Hid (Below w.heap.size w (wn.setCell ⟨w.heap.size + 1 + 1, 1, none⟩ (.slice an' T.nodes.length cn'))) := hbC.trans (below_set _ _ _ _ (by omega))
 have o1 := cell_of_row _ _ 1 _ _ _ hOc
 have g1 := frozen_of_row _ _ 1 _ _ hOc
 simp at o1
 have b2 := cell_of_row _ _ 2 _ _ _ HA.out
 simp at b2
 have Hv : Hid (VarsV (w.heap.size + 3) (wn.setCell ⟨w.heap.size + 1 + 1, 1, none⟩ (.slice an' T.nodes.length cn')) (.slice av' T.vars.length cv') T.vars) := hvC.keep (keeps_set _ _ _ _ _ (by omega))
 have Hn : Hid (NodesV (w.heap.size + 3) (wn.setCell ⟨w.heap.size + 1 + 1, 1, none⟩ (.slice an' T.nodes.length cn')) (.slice an' T.nodes.length cn') T.nodes) := hn1.keep (keeps_set _ _ _ _ _ (by omega))
 clear hA hR hO hbW hb hbC hAc hRc hOc hn hn1 hvS hvC
 go_wp2_with fail
 have hA := HA.out
 have hR := HR.out
 have hO := HO.out
 have hbW := HB.out
 have hvS := Hv.out
 have hnS := Hn.out
 clear HA HR HO HB Hv Hn b2 o1 g1
 generalize wn.setCell ⟨w.heap.size + 1 + 1, 1, none⟩ (.slice an' T.nodes.length cn') = W at *
 refine (toInts_any lo _ _ _ (HV.out.below hbW).body HZ.out.body).mono ?_
 rintro e wd ⟨_, rfl, hd, hb⟩
 obtain ⟨ad', cd', rfl, _⟩ := id hd
 have hbC := hbW.trans (hb.mono hbW.size)
 have hAc := blk hA hb
 have hRc := blk hR hb
 have hOc := blk hO hb
 have hd1 : IntsV (w.heap.size + 3) wd (.slice ad' T.body.length cd') T.body := hd.mono (blk_lt hO)
 have hvC := hvS.below hb
 have hnC := hnS.below hb
 have HA : Hid ((wd.setCell ⟨w.heap.size + 1 + 1, 2, none⟩ (.slice ad' T.body.length cd')).heap[w.heap.size]? = some (.cells #[.slice av T.vars.length cv, .slice an T.nodes.length cn, .slice ab T.body.length cb] 26 (0, 0))) := blk_set _ hAc (by omega)
 have HR : Hid ((wd.setCell ⟨w.heap.size + 1 + 1, 2, none⟩ (.slice ad' T.body.length cd')).heap[w.heap.size + 1]? = some (.cells #[.slice none 0 0, .slice none 0 0, .slice none 0 0] 34 (0, 0))) := blk_set _ hRc (by omega)
 have HO : Hid ((wd.setCell ⟨w.heap.size + 1 + 1, 2, none⟩ (.slice ad' T.body.length cd')).heap[w.heap.size + 1 + 1]? = some (.cells #[.slice av' T.vars.length cv', .slice an' T.nodes.length cn', .slice ad' T.body.length cd'] 34 (0, 0))) := by have h := heap_setCell_same wd (w.heap.size + 1 + 1) 2 _ _ (.slice ad' T.body.length cd') hOc; exact h
 have HB : Hid (Below w.heap.size w (wd.setCell ⟨w.heap.size + 1 + 1, 2, none⟩ (.slice ad' T.body.length cd'))) := hbC.trans (below_set _ _ _ _ (by omega))
 have o2 := cell_of_row _ _ 2 _ _ _ hOc
 have g2 := frozen_of_row _ _ 2 _ _ hOc
 simp at o2
 have Hv : Hid (VarsV (w.heap.size + 3) (wd.setCell ⟨w.heap.size + 1 + 1, 2, none⟩ (.slice ad' T.body.length cd')) (.slice av' T.vars.length cv') T.vars) := hvC.keep (keeps_set _ _ _ _ _ (by omega))
 have Hn : Hid (NodesV (w.heap.size + 3) (wd.setCell ⟨w.heap.size + 1 + 1, 2, none⟩ (.slice ad' T.body.length cd')) (.slice an' T.nodes.length cn') T.nodes) := hnC.keep (keeps_set _ _ _ _ _ (by omega))
 have Hd : Hid (IntsV (w.heap.size + 3) (wd.setCell ⟨w.heap.size + 1 + 1, 2, none⟩ (.slice ad' T.body.length cd')) (.slice ad' T.body.length cd') T.body) := hd1.keep (keeps_set _ _ _ _ _ (by omega))
 clear hA hR hO hbW hb hbC hAc hRc hOc hd hd1 hvS hvC hnS hnC
 obtain ⟨O0, O1, O2⟩ := cl3 HO.out
 obtain ⟨R0, R1, R2⟩ := cl3 HR.out
 obtain ⟨G0, G1, G2⟩ := fl3 HR.out
 go_wp2
 refine bodyPost_ret (v := treeV (.slice av' T.vars.length cv') (.slice an' T.nodes.length cn') (.slice ad' T.body.length cd')) (by simp [results, Tryz.results9, go_sem, R0, R1, R2]) rfl ⟨_, _, _, rfl, ?_, ?_⟩
 ·refine TreeV.mono ?_ (by omega : w.heap.size ≤ w.heap.size + 3)
  refine TreeV.keep ⟨Hv.out, Hn.out, Hd.out⟩ (fun b hb hl => ?_)
  rw [Below.heap_setCell _ _ _ _ (by simp; omega), Below.heap_setCell _ _ _ _ (by simp; omega), Below.heap_setCell _ _ _ _ (by simp; omega)]
 ·refine Below.trans ?_ (below_set _ _ _ _ (by omega))
  refine Below.trans ?_ (below_set _ _ _ _ (by omega))
  refine Below.trans ?_ (below_set _ _ _ _ (by omega))
  exact HB.out
end Go.Proofs.YtepjaoapjpmjkaaGreatDoor
