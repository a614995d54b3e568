/-
  laws.eqNode, eqNodeS, eqTree.
-/
import Derived.Test.YtepjaoapjpmjkaaGreatDoorTreeTo3
import Derived.Test.YtepjaoapjpmjkaaGreatDoorTreeSz
namespace Go.Proofs.YtepjaoapjpmjkaaGreatDoor
open Go.RowKit
set_option linter.unusedVariables false
attribute [local go_sem] bs_size bs_get bs_extract bs_append bs_eq bs_toList
attribute [local go_sem ↓] Go.wp_at_zero Go.wp_at_succ
set_option maxHeartbeats 6400000 in
theorem eqNode_any (lo lo' : Nat) (n : LNode) (vk vt ve vk' vt' ve' : Value) (w : World) (h : NodeVals lo w n vk vt ve) (h' : NodeVals lo' w n vk' vt' ve') (hl : NodeSz 9223372036854775807 n) :
  Calls Tryz.prog 87 #[nodeV n vk vt ve, nodeV n vk' vt' ve'] w fun e w' => e = .returned (.bool true) ∧ Below w.heap.size w w' := by
 obtain ⟨ak, ck, rfl, _⟩ := id h.kids
 obtain ⟨at_, ct, rfl, _⟩ := id h.thn
 obtain ⟨ae, ce, rfl, _⟩ := id h.els
 obtain ⟨ak', ck', rfl, _⟩ := id h'.kids
 obtain ⟨at', ct', rfl, _⟩ := id h'.thn
 obtain ⟨ae', ce', rfl, _⟩ := id h'.els
 have H1 := hid h
 have H2 : Hid (NodeVals lo' w n (.slice ak' n.kids.length ck') (.slice at' n.thn.length ct') (.slice ae' n.els.length ce')) := h'
 obtain ⟨l1, l2, l3, l4⟩ := hl
 clear h h'
 go_enter Tryz.func87, Tryz.ntmps87
 go_wp2_with fail
 obtain ⟨W, hW⟩ : ∃ W, W = ((w.alloc (.cells #[.int .i64 n.kind, .int .i64 n.op, .string (bs n.name), .int .i64 n.num, .int .i64 n.far, .slice ak n.kids.length ck, .slice at_ n.thn.length ct, .slice ae n.els.length ce] 66)).alloc (.cells #[.int .i64 n.kind, .int .i64 n.op, .string (bs n.name), .int .i64 n.num, .int .i64 n.far, .slice ak' n.kids.length ck', .slice at' n.thn.length ct', .slice ae' n.els.length ce'] 66)) := ⟨_, rfl⟩
 have hB : Below w.heap.size w W := by rw [hW]; exact ((Below.refl _ _).alloc (Nat.le_refl _) _).alloc (by simp) _
 have hA : W.heap[w.heap.size]? = some (.cells #[.int .i64 n.kind, .int .i64 n.op, .string (bs n.name), .int .i64 n.num, .int .i64 n.far, .slice ak n.kids.length ck, .slice at_ n.thn.length ct, .slice ae n.els.length ce] 66 (0, 0)) := by
  rw [hW, Below.heap_alloc _ _ _ (by simp)]; exact heap_alloc_new w _
 have hC : W.heap[w.heap.size + 1]? = some (.cells #[.int .i64 n.kind, .int .i64 n.op, .string (bs n.name), .int .i64 n.num, .int .i64 n.far, .slice ak' n.kids.length ck', .slice at' n.thn.length ct', .slice ae' n.els.length ce'] 66 (0, 0)) := by
  rw [hW]
  have h := heap_alloc_new (w.alloc (.cells #[.int .i64 n.kind, .int .i64 n.op, .string (bs n.name), .int .i64 n.num, .int .i64 n.far, .slice ak n.kids.length ck, .slice at_ n.thn.length ct, .slice ae n.els.length ce] 66)) (.cells #[.int .i64 n.kind, .int .i64 n.op, .string (bs n.name), .int .i64 n.num, .int .i64 n.far, .slice ak' n.kids.length ck', .slice at' n.thn.length ct', .slice ae' n.els.length ce'] 66)
  rwa [show (w.alloc (.cells #[.int .i64 n.kind, .int .i64 n.op, .string (bs n.name), .int .i64 n.num, .int .i64 n.far, .slice ak n.kids.length ck, .slice at_ n.thn.length ct, .slice ae n.els.length ce] 66)).heap.size = w.heap.size + 1 from by simp] at h
 rw [← hW]
 clear hW
 refine (eqInts_any lo lo' _ _ _ _ (H1.out.below hB).kids (H2.out.below hB).kids l2).mono ?_
 rintro e w0 ⟨rfl, hb⟩
 have hAc := blk hA hb
 have hCc := blk hC hb
 have hBc := hB.trans (hb.mono hB.size)
 clear hA hC hB hb
 have a6 := cell_of_row _ _ 6 _ _ _ hAc
 simp at a6
 have b6 := cell_of_row _ _ 6 _ _ _ hCc
 simp at b6
 have HA : Hid _ := hAc
 have HC : Hid _ := hCc
 have HB : Hid _ := hBc
 clear hAc hCc hBc
 go_wp2_with fail
 have hA := HA.out
 have hC := HC.out
 have hB := HB.out
 clear HA HC HB a6 b6
 refine (eqInts_any lo lo' _ _ _ _ (H1.out.below hB).thn (H2.out.below hB).thn l3).mono ?_
 rintro e w1 ⟨rfl, hb⟩
 have hAc := blk hA hb
 have hCc := blk hC hb
 have hBc := hB.trans (hb.mono hB.size)
 clear hA hC hB hb
 have a7 := cell_of_row _ _ 7 _ _ _ hAc
 simp at a7
 have b7 := cell_of_row _ _ 7 _ _ _ hCc
 simp at b7
 have HA : Hid _ := hAc
 have HC : Hid _ := hCc
 have HB : Hid _ := hBc
 clear hAc hCc hBc
 go_wp2_with fail
 have hA := HA.out
 have hC := HC.out
 have hB := HB.out
 clear HA HC HB a7 b7
 refine (eqInts_any lo lo' _ _ _ _ (H1.out.below hB).els (H2.out.below hB).els l4).mono ?_
 rintro e w2 ⟨rfl, hb⟩
 have hAc := blk hA hb
 have hCc := blk hC hb
 have hBc := hB.trans (hb.mono hB.size)
 clear hA hC hB hb
 have HA : Hid _ := hAc
 have HC : Hid _ := hCc
 have HB : Hid _ := hBc
 clear hAc hCc hBc
 go_wp2_with fail
 go_ret
 exact ⟨rfl, HB.out⟩
set_option maxHeartbeats 6400000 in
set_option maxRecDepth 100000 in
theorem eqNodes_any (lo lo' : Nat) (v v' : Value) (xs : List LNode) (w : World) (h : NodesV lo w v xs) (h' : NodesV lo' w v' xs) (hl : xs.length ≤ 1048576) (hs : ∀ x ∈ xs, NodeSz 9223372036854775807 x) :
  Calls Tryz.prog 44 #[v, v'] w fun e w' => e = .returned (.bool true) ∧ Below w.heap.size w w' := by
 obtain ⟨a, c, rfl, _, hh1⟩ := h
 obtain ⟨a', c', rfl, _, hh2⟩ := h'
 have HS := hid hs
 have H1 := hid hh1
 have H2 := hid hh2
 clear hh1 hh2 hs
 go_enter Tryz.func44, Tryz.ntmps44
 go_wp2
 go_loopw [5] (fun i wr => ∃ k : Nat, k ≤ xs.length ∧ i = .int .i64 k ∧ Below w.heap.size w wr) (fun i _ => xs.length - (intOf i).toNat)
 case atStart => exact ⟨0, by omega, rfl, Below.refl _ _⟩
 case round =>
  obtain ⟨k, hk, rfl, hB⟩ := hrel
  by_cases hlt : k < xs.length
  ·obtain ⟨x, hx⟩ : ∃ x, xs[k]? = some x := ⟨xs[k], List.getElem?_eq_getElem hlt⟩
   have hne : xs ≠ [] := by intro e; rw [e] at hlt; simp at hlt
   obtain ⟨g, o, ha, _, hc1⟩ := H1.out hne
   obtain ⟨h, p, hb, _, hc2⟩ := H2.out hne
   subst ha
   subst hb
   obtain ⟨vk, vt, ve, hcs1, hvs1⟩ := hc1 k x hx
   obtain ⟨vk', vt', ve', hcs2, hvs2⟩ := hc2 k x hx
   have hgw : g < w.heap.size := World.block_lt_of_cell? _ _ hcs1.c0
   have hhw : h < w.heap.size := World.block_lt_of_cell? _ _ hcs2.c0
   obtain ⟨c0, c1, c2, c3, c4, c5, c6, c7⟩ := hcs1.keep (lo := 0) (fun g _ hg => hB.block g hg) (Nat.zero_le _)
   obtain ⟨d0, d1, d2, d3, d4, d5, d6, d7⟩ := hcs2.keep (lo := 0) (fun g _ hg => hB.block g hg) (Nat.zero_le _)
   have hv1 := hvs1.keep (w' := wr) (fun g _ hg => hB.block g hg)
   have hv2 := hvs2.keep (w' := wr) (fun g _ hg => hB.block g hg)
   have hk0 : (0 : Int) ≤ (k : Int) := by omega
   have hk1 : (k : Int) < (xs.length : Int) := by omega
   have hgr : g < wr.heap.size := Nat.lt_of_lt_of_le hgw hB.size
   have hhr : h < wr.heap.size := Nat.lt_of_lt_of_le hhw hB.size
   have hsz := HS.out x (List.mem_of_getElem? hx)
   obtain ⟨ak, ck, rfl, _⟩ := id hv1.kids
   obtain ⟨at_, ct, rfl, _⟩ := id hv1.thn
   obtain ⟨ae, ce, rfl, _⟩ := id hv1.els
   obtain ⟨ak', ck', rfl, _⟩ := id hv2.kids
   obtain ⟨at', ct', rfl, _⟩ := id hv2.thn
   obtain ⟨ae', ce', rfl, _⟩ := id hv2.els
   have HQ : Hid (∀ W, Below wr.heap.size wr W → Calls Tryz.prog 87 #[nodeV x (.slice ak x.kids.length ck) (.slice at_ x.thn.length ct) (.slice ae x.els.length ce), nodeV x (.slice ak' x.kids.length ck') (.slice at' x.thn.length ct') (.slice ae' x.els.length ce')] W fun e w' => e = .returned (.bool true) ∧ Below W.heap.size W w') := fun W hW => eqNode_any lo lo' x _ _ _ _ _ _ W (hv1.below hW) (hv2.below hW) hsz
   clear hne hx hc1 hc2 hcs1 hcs2 hvs1 hvs2 hv1 hv2 hsz
   go_wp2_with fail
   go_region_held3 (fun W => (W.cell? ⟨g, o + k * 8, none⟩ = some (.int .i64 x.kind) ∧ W.cell? ⟨g, o + k * 8 + 1, none⟩ = some (.int .i64 x.op) ∧ W.cell? ⟨g, o + k * 8 + 2, none⟩ = some (.string (bs x.name)) ∧ W.cell? ⟨g, o + k * 8 + 3, none⟩ = some (.int .i64 x.num) ∧ W.cell? ⟨g, o + k * 8 + 4, none⟩ = some (.int .i64 x.far) ∧ W.cell? ⟨g, o + k * 8 + 5, none⟩ = some (.slice ak x.kids.length ck) ∧ W.cell? ⟨g, o + k * 8 + 6, none⟩ = some (.slice at_ x.thn.length ct) ∧ W.cell? ⟨g, o + k * 8 + 7, none⟩ = some (.slice ae x.els.length ce)) ∧ (W.cell? ⟨h, p + k * 8, none⟩ = some (.int .i64 x.kind) ∧ W.cell? ⟨h, p + k * 8 + 1, none⟩ = some (.int .i64 x.op) ∧ W.cell? ⟨h, p + k * 8 + 2, none⟩ = some (.string (bs x.name)) ∧ W.cell? ⟨h, p + k * 8 + 3, none⟩ = some (.int .i64 x.num) ∧ W.cell? ⟨h, p + k * 8 + 4, none⟩ = some (.int .i64 x.far) ∧ W.cell? ⟨h, p + k * 8 + 5, none⟩ = some (.slice ak' x.kids.length ck') ∧ W.cell? ⟨h, p + k * 8 + 6, none⟩ = some (.slice at' x.thn.length ct') ∧ W.cell? ⟨h, p + k * 8 + 7, none⟩ = some (.slice ae' x.els.length ce'))) (go_keep) (first | (go_at_call 87; refine (HQ.out _ (Below.refl wr.heap.size wr).drew).mono ?_; rintro e w2 ⟨rfl, hb⟩; have hD : Below wr.heap.size wr w2 := ((Below.refl wr.heap.size wr).drew).trans (Below.mono hb (Nat.le_refl _)); have k0 := (hD.cell (p := ⟨g, o + k * 8, none⟩) hgr).trans c0; have k1 := (hD.cell (p := ⟨g, o + k * 8 + 1, none⟩) hgr).trans c1; have k2 := (hD.cell (p := ⟨g, o + k * 8 + 2, none⟩) hgr).trans c2; have k3 := (hD.cell (p := ⟨g, o + k * 8 + 3, none⟩) hgr).trans c3; have k4 := (hD.cell (p := ⟨g, o + k * 8 + 4, none⟩) hgr).trans c4; have k5 := (hD.cell (p := ⟨g, o + k * 8 + 5, none⟩) hgr).trans c5; have k6 := (hD.cell (p := ⟨g, o + k * 8 + 6, none⟩) hgr).trans c6; have k7 := (hD.cell (p := ⟨g, o + k * 8 + 7, none⟩) hgr).trans c7; have j0 := (hD.cell (p := ⟨h, p + k * 8, none⟩) hhr).trans d0; have j1 := (hD.cell (p := ⟨h, p + k * 8 + 1, none⟩) hhr).trans d1; have j2 := (hD.cell (p := ⟨h, p + k * 8 + 2, none⟩) hhr).trans d2; have j3 := (hD.cell (p := ⟨h, p + k * 8 + 3, none⟩) hhr).trans d3; have j4 := (hD.cell (p := ⟨h, p + k * 8 + 4, none⟩) hhr).trans d4; have j5 := (hD.cell (p := ⟨h, p + k * 8 + 5, none⟩) hhr).trans d5; have j6 := (hD.cell (p := ⟨h, p + k * 8 + 6, none⟩) hhr).trans d6; have j7 := (hD.cell (p := ⟨h, p + k * 8 + 7, none⟩) hhr).trans d7; have hB2 := hB.trans (hD.mono hB.size); clear hb hD))
   go_wp2
   go_roundw
   case rel => exact ⟨k + 1, by omega, by go_num, by assumption⟩
   case measure => simp [intOf]; omega
  ·have hke : k = xs.length := by omega
   subst hke
   go_wp2
   go_ret
   exact ⟨rfl, hB⟩
theorem Sized.big {T : LTree} (h : Sized 1048576 T) : ∀ n ∈ T.nodes, NodeSz 9223372036854775807 n := fun n hn => by
 obtain ⟨a, b, c, d⟩ := h.node n hn
 exact ⟨by omega, by omega, by omega, by omega⟩
set_option maxHeartbeats 6400000 in
theorem eqTree_any (lo lo' : Nat) (T : LTree) (vv vn vb vv' vn' vb' : Value) (w : World) (h : TreeV lo w vv vn vb T) (h' : TreeV lo' w vv' vn' vb' T) (hz : Sized 1048576 T) :
  Calls Tryz.prog 12 #[treeV vv vn vb, treeV vv' vn' vb'] w fun e w' => e = .returned (.bool true) ∧ Below w.heap.size w w' := by
 obtain ⟨av, cv, rfl, _⟩ := id h.vars
 obtain ⟨an, cn, rfl, _⟩ := id h.nodes
 obtain ⟨ab, cb, rfl, _⟩ := id h.body
 obtain ⟨av', cv', rfl, _⟩ := id h'.vars
 obtain ⟨an', cn', rfl, _⟩ := id h'.nodes
 obtain ⟨ab', cb', rfl, _⟩ := id h'.body
 have H1 := hid h
 have H2 : Hid (TreeV lo' w (.slice av' T.vars.length cv') (.slice an' T.nodes.length cn') (.slice ab' T.body.length cb') T) := h'
 have HZ : Hid (Sized 1048576 T) := hz
 clear h h' hz
 go_enter Tryz.func12, Tryz.ntmps12
 go_wp2_with fail
 obtain ⟨W, hW⟩ : ∃ W, W = ((w.alloc (.cells #[.slice av T.vars.length cv, .slice an T.nodes.length cn, .slice ab T.body.length cb] 34)).alloc (.cells #[.slice av' T.vars.length cv', .slice an' T.nodes.length cn', .slice ab' T.body.length cb'] 34)) := ⟨_, rfl⟩
 have hB : Below w.heap.size w W := by rw [hW]; exact ((Below.refl _ _).alloc (Nat.le_refl _) _).alloc (by simp) _
 have hA : W.heap[w.heap.size]? = some (.cells #[.slice av T.vars.length cv, .slice an T.nodes.length cn, .slice ab T.body.length cb] 34 (0, 0)) := by
  rw [hW, Below.heap_alloc _ _ _ (by simp)]; exact heap_alloc_new w _
 have hC : W.heap[w.heap.size + 1]? = some (.cells #[.slice av' T.vars.length cv', .slice an' T.nodes.length cn', .slice ab' T.body.length cb'] 34 (0, 0)) := by
  rw [hW]
  have h := heap_alloc_new (w.alloc (.cells #[.slice av T.vars.length cv, .slice an T.nodes.length cn, .slice ab T.body.length cb] 34)) (.cells #[.slice av' T.vars.length cv', .slice an' T.nodes.length cn', .slice ab' T.body.length cb'] 34)
  rwa [show (w.alloc (.cells #[.slice av T.vars.length cv, .slice an T.nodes.length cn, .slice ab T.body.length cb] 34)).heap.size = w.heap.size + 1 from by simp] at h
 rw [← hW]
 clear hW
 refine (eqVars_any lo lo' _ _ _ _ (H1.out.below hB).vars (H2.out.below hB).vars HZ.out.vars).mono ?_
 rintro e w0 ⟨rfl, hb⟩
 have hAc := blk hA hb
 have hCc := blk hC hb
 have hBc := hB.trans (hb.mono hB.size)
 clear hA hC hB hb
 have a1 := cell_of_row _ _ 1 _ _ _ hAc
 simp at a1
 have b1 := cell_of_row _ _ 1 _ _ _ hCc
 simp at b1
 have HA : Hid _ := hAc
 have HC : Hid _ := hCc
 have HB : Hid _ := hBc
 clear hAc hCc hBc
 go_wp2_with fail
 have hA := HA.out
 have hC := HC.out
 have hB := HB.out
 clear HA HC HB a1 b1
 refine (eqNodes_any lo lo' _ _ _ _ (H1.out.below hB).nodes (H2.out.below hB).nodes HZ.out.nodes HZ.out.big).mono ?_
 rintro e w1 ⟨rfl, hb⟩
 have hAc := blk hA hb
 have hCc := blk hC hb
 have hBc := hB.trans (hb.mono hB.size)
 clear hA hC hB hb
 have a2 := cell_of_row _ _ 2 _ _ _ hAc
 simp at a2
 have b2 := cell_of_row _ _ 2 _ _ _ hCc
 simp at b2
 have HA : Hid _ := hAc
 have HC : Hid _ := hCc
 have HB : Hid _ := hBc
 clear hAc hCc hBc
 go_wp2_with fail
 have hA := HA.out
 have hC := HC.out
 have hB := HB.out
 clear HA HC HB a2 b2
 refine (eqInts_any lo lo' _ _ _ _ (H1.out.below hB).body (H2.out.below hB).body (by have := HZ.out.body; omega)).mono ?_
 rintro e w2 ⟨rfl, hb⟩
 have hAc := blk hA hb
 have hCc := blk hC hb
 have hBc := hB.trans (hb.mono hB.size)
 clear hA hC hB hb
 have HA : Hid _ := hAc
 have HC : Hid _ := hCc
 have HB : Hid _ := hBc
 clear hAc hCc hBc
 go_wp2_with fail
 go_ret
 exact ⟨rfl, HB.out⟩
end Go.Proofs.YtepjaoapjpmjkaaGreatDoor
