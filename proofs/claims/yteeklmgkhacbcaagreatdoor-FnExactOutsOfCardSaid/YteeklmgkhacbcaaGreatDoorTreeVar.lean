/-
  spec.l4Var.
-/
import Derived.Test.YteeklmgkhacbcaaGreatDoorTreeSz
import Derived.Test.YteeklmgkhacbcaaGreatDoorTreeSz
import Derived.Test.YteeklmgkhacbcaaGreatDoorOpenTree
import Derived.Test.YteeklmgkhacbcaaGreatDoorSOwn
import Derived.Test.YteeklmgkhacbcaaGreatDoorTreeTo2
import Derived.Test.YteeklmgkhacbcaaGreatDoorCheckM
import Derived.Test.YteeklmgkhacbcaaGreatDoorOpenTree
import Derived.Test.YteeklmgkhacbcaaGreatDoorIVarsM
namespace Go.Proofs.YteeklmgkhacbcaaGreatDoor
open Go.RowKit
set_option linter.unusedVariables false
attribute [local go_sem] bs_size bs_get bs_extract bs_append bs_eq bs_toList
attribute [local go_sem ↓] Go.wp_at_zero Go.wp_at_succ
set_option maxHeartbeats 6400000 in
theorem eqNode_any (lo lo' : Nat) (n : LNode) (vk vt ve vk' vt' ve' : Value) (w : World) (h : NodeVals lo w n vk vt ve) (h' : NodeVals lo' w n vk' vt' ve') (hl : NodeSz 9223372036854775807 n) :
  Calls Tryz.prog 55 #[nodeV n vk vt ve, nodeV n vk' vt' ve'] w fun e w' => e = .returned (.bool true) ∧ Below w.heap.size w w' := by
 obtain ⟨ak, ck, rfl, _⟩ := id h.kids
 obtain ⟨at_, ct, rfl, _⟩ := id h.thn
 obtain ⟨ae, ce, rfl, _⟩ := id h.els
 obtain ⟨ak', ck', rfl, _⟩ := id h'.kids
 obtain ⟨at', ct', rfl, _⟩ := id h'.thn
 obtain ⟨ae', ce', rfl, _⟩ := id h'.els
 have H1 := hid h
 have H2 : Hid (NodeVals lo' w n (.slice ak' n.kids.length ck') (.slice at' n.thn.length ct') (.slice ae' n.els.length ce')) := h'
 obtain ⟨l1, l2, l3, l4⟩ := hl
 clear h h'
 go_enter Tryz.func55, Tryz.ntmps55
 go_wp2_with fail
 obtain ⟨W, hW⟩ : ∃ W, W = ((w.alloc (.cells #[.int .i64 n.kind, .int .i64 n.op, .string (bs n.name), .int .i64 n.num, .int .i64 n.far, .slice ak n.kids.length ck, .slice at_ n.thn.length ct, .slice ae n.els.length ce] 88)).alloc (.cells #[.int .i64 n.kind, .int .i64 n.op, .string (bs n.name), .int .i64 n.num, .int .i64 n.far, .slice ak' n.kids.length ck', .slice at' n.thn.length ct', .slice ae' n.els.length ce'] 88)) := ⟨_, rfl⟩
 have hB : Below w.heap.size w W := by rw [hW]; exact ((Below.refl _ _).alloc (Nat.le_refl _) _).alloc (by simp) _
 have hA : W.heap[w.heap.size]? = some (.cells #[.int .i64 n.kind, .int .i64 n.op, .string (bs n.name), .int .i64 n.num, .int .i64 n.far, .slice ak n.kids.length ck, .slice at_ n.thn.length ct, .slice ae n.els.length ce] 88 (0, 0)) := by
  rw [hW, Below.heap_alloc _ _ _ (by simp)]; exact heap_alloc_new w _
 have hC : W.heap[w.heap.size + 1]? = some (.cells #[.int .i64 n.kind, .int .i64 n.op, .string (bs n.name), .int .i64 n.num, .int .i64 n.far, .slice ak' n.kids.length ck', .slice at' n.thn.length ct', .slice ae' n.els.length ce'] 88 (0, 0)) := by
  rw [hW]
  have h := heap_alloc_new (w.alloc (.cells #[.int .i64 n.kind, .int .i64 n.op, .string (bs n.name), .int .i64 n.num, .int .i64 n.far, .slice ak n.kids.length ck, .slice at_ n.thn.length ct, .slice ae n.els.length ce] 88)) (.cells #[.int .i64 n.kind, .int .i64 n.op, .string (bs n.name), .int .i64 n.num, .int .i64 n.far, .slice ak' n.kids.length ck', .slice at' n.thn.length ct', .slice ae' n.els.length ce'] 88)
  rwa [show (w.alloc (.cells #[.int .i64 n.kind, .int .i64 n.op, .string (bs n.name), .int .i64 n.num, .int .i64 n.far, .slice ak n.kids.length ck, .slice at_ n.thn.length ct, .slice ae n.els.length ce] 88)).heap.size = w.heap.size + 1 from by simp] at h
 rw [← hW]
 clear hW
 refine (eqInts_any lo lo' _ _ _ _ (H1.out.below hB).kids (H2.out.below hB).kids l2).mono ?_
 rintro e w0 ⟨rfl, hb⟩
 have hAc := blk hA hb
 have hCc := blk hC hb
 have hBc := hB.trans (hb.mono hB.size)
 clear hA hC hB hb
 have a6 := cell_of_row _ _ 6 _ _ _ hAc
 simp at a6
 have b6 := cell_of_row _ _ 6 _ _ _ hCc
 simp at b6
 have HA : Hid _ := hAc
 have HC : Hid _ := hCc
 have HB : Hid _ := hBc
 clear hAc hCc hBc
 go_wp2_with fail
 have hA := HA.out
 have hC := HC.out
 have hB := HB.out
 clear HA HC HB a6 b6
 refine (eqInts_any lo lo' _ _ _ _ (H1.out.below hB).thn (H2.out.below hB).thn l3).mono ?_
 rintro e w1 ⟨rfl, hb⟩
 have hAc := blk hA hb
 have hCc := blk hC hb
 have hBc := hB.trans (hb.mono hB.size)
 clear hA hC hB hb
 have a7 := cell_of_row _ _ 7 _ _ _ hAc
 simp at a7
 have b7 := cell_of_row _ _ 7 _ _ _ hCc
 simp at b7
 have HA : Hid _ := hAc
 have HC : Hid _ := hCc
 have HB : Hid _ := hBc
 clear hAc hCc hBc
 go_wp2_with fail
 have hA := HA.out
 have hC := HC.out
 have hB := HB.out
 clear HA HC HB a7 b7
 refine (eqInts_any lo lo' _ _ _ _ (H1.out.below hB).els (H2.out.below hB).els l4).mono ?_
 rintro e w2 ⟨rfl, hb⟩
 have hAc := blk hA hb
 have hCc := blk hC hb
 have hBc := hB.trans (hb.mono hB.size)
 clear hA hC hB hb
 have HA : Hid _ := hAc
 have HC : Hid _ := hCc
 have HB : Hid _ := hBc
 clear hAc hCc hBc
 go_wp2_with fail
 go_ret
 exact ⟨rfl, HB.out⟩
set_option maxHeartbeats 6400000 in
set_option maxRecDepth 100000 in
theorem eqNodes_any (lo lo' : Nat) (v v' : Value) (xs : List LNode) (w : World) (h : NodesV lo w v xs) (h' : NodesV lo' w v' xs) (hl : xs.length ≤ 1048576) (hs : ∀ x ∈ xs, NodeSz 9223372036854775807 x) :
  Calls Tryz.prog 32 #[v, v'] w fun e w' => e = .returned (.bool true) ∧ Below w.heap.size w w' := by
 obtain ⟨a, c, rfl, _, hh1⟩ := h
 obtain ⟨a', c', rfl, _, hh2⟩ := h'
 have HS := hid hs
 have H1 := hid hh1
 have H2 := hid hh2
 clear hh1 hh2 hs
 go_enter Tryz.func32, Tryz.ntmps32
 go_wp2
 go_loopw [5] (fun i wr => ∃ k : Nat, k ≤ xs.length ∧ i = .int .i64 k ∧ Below w.heap.size w wr) (fun i _ => xs.length - (intOf i).toNat)
 case atStart => exact ⟨0, by omega, rfl, Below.refl _ _⟩
 case round =>
  obtain ⟨k, hk, rfl, hB⟩ := hrel
  by_cases hlt : k < xs.length
  ·obtain ⟨x, hx⟩ : ∃ x, xs[k]? = some x := ⟨xs[k], List.getElem?_eq_getElem hlt⟩
   have hne : xs ≠ [] := by intro e; rw [e] at hlt; simp at hlt
   obtain ⟨g, o, ha, _, hc1⟩ := H1.out hne
   obtain ⟨h, p, hb, _, hc2⟩ := H2.out hne
   subst ha
   subst hb
   obtain ⟨vk, vt, ve, hcs1, hvs1⟩ := hc1 k x hx
   obtain ⟨vk', vt', ve', hcs2, hvs2⟩ := hc2 k x hx
   have hgw : g < w.heap.size := World.block_lt_of_cell? _ _ hcs1.c0
   have hhw : h < w.heap.size := World.block_lt_of_cell? _ _ hcs2.c0
   obtain ⟨c0, c1, c2, c3, c4, c5, c6, c7⟩ := hcs1.keep (lo := 0) (fun g _ hg => hB.block g hg) (Nat.zero_le _)
   obtain ⟨d0, d1, d2, d3, d4, d5, d6, d7⟩ := hcs2.keep (lo := 0) (fun g _ hg => hB.block g hg) (Nat.zero_le _)
   have hv1 := hvs1.keep (w' := wr) (fun g _ hg => hB.block g hg)
   have hv2 := hvs2.keep (w' := wr) (fun g _ hg => hB.block g hg)
   have hk0 : (0 : Int) ≤ (k : Int) := by omega
   have hk1 : (k : Int) < (xs.length : Int) := by omega
   have hgr : g < wr.heap.size := Nat.lt_of_lt_of_le hgw hB.size
   have hhr : h < wr.heap.size := Nat.lt_of_lt_of_le hhw hB.size
   have hsz := HS.out x (List.mem_of_getElem? hx)
   obtain ⟨ak, ck, rfl, _⟩ := id hv1.kids
   obtain ⟨at_, ct, rfl, _⟩ := id hv1.thn
   obtain ⟨ae, ce, rfl, _⟩ := id hv1.els
   obtain ⟨ak', ck', rfl, _⟩ := id hv2.kids
   obtain ⟨at', ct', rfl, _⟩ := id hv2.thn
   obtain ⟨ae', ce', rfl, _⟩ := id hv2.els
   have HQ : Hid (∀ W, Below wr.heap.size wr W → Calls Tryz.prog 55 #[nodeV x (.slice ak x.kids.length ck) (.slice at_ x.thn.length ct) (.slice ae x.els.length ce), nodeV x (.slice ak' x.kids.length ck') (.slice at' x.thn.length ct') (.slice ae' x.els.length ce')] W fun e w' => e = .returned (.bool true) ∧ Below W.heap.size W w') := fun W hW => eqNode_any lo lo' x _ _ _ _ _ _ W (hv1.below hW) (hv2.below hW) hsz
   clear hne hx hc1 hc2 hcs1 hcs2 hvs1 hvs2 hv1 hv2 hsz
   go_wp2_with fail
   go_region_held3 (fun W => (W.cell? ⟨g, o + k * 8, none⟩ = some (.int .i64 x.kind) ∧ W.cell? ⟨g, o + k * 8 + 1, none⟩ = some (.int .i64 x.op) ∧ W.cell? ⟨g, o + k * 8 + 2, none⟩ = some (.string (bs x.name)) ∧ W.cell? ⟨g, o + k * 8 + 3, none⟩ = some (.int .i64 x.num) ∧ W.cell? ⟨g, o + k * 8 + 4, none⟩ = some (.int .i64 x.far) ∧ W.cell? ⟨g, o + k * 8 + 5, none⟩ = some (.slice ak x.kids.length ck) ∧ W.cell? ⟨g, o + k * 8 + 6, none⟩ = some (.slice at_ x.thn.length ct) ∧ W.cell? ⟨g, o + k * 8 + 7, none⟩ = some (.slice ae x.els.length ce)) ∧ (W.cell? ⟨h, p + k * 8, none⟩ = some (.int .i64 x.kind) ∧ W.cell? ⟨h, p + k * 8 + 1, none⟩ = some (.int .i64 x.op) ∧ W.cell? ⟨h, p + k * 8 + 2, none⟩ = some (.string (bs x.name)) ∧ W.cell? ⟨h, p + k * 8 + 3, none⟩ = some (.int .i64 x.num) ∧ W.cell? ⟨h, p + k * 8 + 4, none⟩ = some (.int .i64 x.far) ∧ W.cell? ⟨h, p + k * 8 + 5, none⟩ = some (.slice ak' x.kids.length ck') ∧ W.cell? ⟨h, p + k * 8 + 6, none⟩ = some (.slice at' x.thn.length ct') ∧ W.cell? ⟨h, p + k * 8 + 7, none⟩ = some (.slice ae' x.els.length ce'))) (go_keep) (first | (go_at_call 55; refine (HQ.out _ (Below.refl wr.heap.size wr).drew).mono ?_; rintro e w2 ⟨rfl, hb⟩; have hD : Below wr.heap.size wr w2 := ((Below.refl wr.heap.size wr).drew).trans (Below.mono hb (Nat.le_refl _)); have k0 := (hD.cell (p := ⟨g, o + k * 8, none⟩) hgr).trans c0; have k1 := (hD.cell (p := ⟨g, o + k * 8 + 1, none⟩) hgr).trans c1; have k2 := (hD.cell (p := ⟨g, o + k * 8 + 2, none⟩) hgr).trans c2; have k3 := (hD.cell (p := ⟨g, o + k * 8 + 3, none⟩) hgr).trans c3; have k4 := (hD.cell (p := ⟨g, o + k * 8 + 4, none⟩) hgr).trans c4; have k5 := (hD.cell (p := ⟨g, o + k * 8 + 5, none⟩) hgr).trans c5; have k6 := (hD.cell (p := ⟨g, o + k * 8 + 6, none⟩) hgr).trans c6; have k7 := (hD.cell (p := ⟨g, o + k * 8 + 7, none⟩) hgr).trans c7; have j0 := (hD.cell (p := ⟨h, p + k * 8, none⟩) hhr).trans d0; have j1 := (hD.cell (p := ⟨h, p + k * 8 + 1, none⟩) hhr).trans d1; have j2 := (hD.cell (p := ⟨h, p + k * 8 + 2, none⟩) hhr).trans d2; have j3 := (hD.cell (p := ⟨h, p + k * 8 + 3, none⟩) hhr).trans d3; have j4 := (hD.cell (p := ⟨h, p + k * 8 + 4, none⟩) hhr).trans d4; have j5 := (hD.cell (p := ⟨h, p + k * 8 + 5, none⟩) hhr).trans d5; have j6 := (hD.cell (p := ⟨h, p + k * 8 + 6, none⟩) hhr).trans d6; have j7 := (hD.cell (p := ⟨h, p + k * 8 + 7, none⟩) hhr).trans d7; have hB2 := hB.trans (hD.mono hB.size); clear hb hD))
   go_wp2
   go_roundw
   case rel => exact ⟨k + 1, by omega, by go_num, by assumption⟩
   case measure => simp [intOf]; omega
  ·have hke : k = xs.length := by omega
   subst hke
   go_wp2
   go_ret
   exact ⟨rfl, hB⟩
theorem Sized.big {T : LTree} (h : Sized 1048576 T) : ∀ n ∈ T.nodes, NodeSz 9223372036854775807 n := fun n hn => by
 obtain ⟨a, b, c, d⟩ := h.node n hn
 exact ⟨by omega, by omega, by omega, by omega⟩
set_option maxHeartbeats 6400000 in
theorem eqTree_any (lo lo' : Nat) (T : LTree) (vv vn vb vv' vn' vb' : Value) (w : World) (h : TreeV lo w vv vn vb T) (h' : TreeV lo' w vv' vn' vb' T) (hz : Sized 1048576 T) :
  Calls Tryz.prog 13 #[treeV vv vn vb, treeV vv' vn' vb'] w fun e w' => e = .returned (.bool true) ∧ Below w.heap.size w w' := by
 obtain ⟨av, cv, rfl, _⟩ := id h.vars
 obtain ⟨an, cn, rfl, _⟩ := id h.nodes
 obtain ⟨ab, cb, rfl, _⟩ := id h.body
 obtain ⟨av', cv', rfl, _⟩ := id h'.vars
 obtain ⟨an', cn', rfl, _⟩ := id h'.nodes
 obtain ⟨ab', cb', rfl, _⟩ := id h'.body
 have H1 := hid h
 have H2 : Hid (TreeV lo' w (.slice av' T.vars.length cv') (.slice an' T.nodes.length cn') (.slice ab' T.body.length cb') T) := h'
 have HZ : Hid (Sized 1048576 T) := hz
 clear h h' hz
 go_enter Tryz.func13, Tryz.ntmps13
 go_wp2_with fail
 obtain ⟨W, hW⟩ : ∃ W, W = ((w.alloc (.cells #[.slice av T.vars.length cv, .slice an T.nodes.length cn, .slice ab T.body.length cb] 37)).alloc (.cells #[.slice av' T.vars.length cv', .slice an' T.nodes.length cn', .slice ab' T.body.length cb'] 37)) := ⟨_, rfl⟩
 have hB : Below w.heap.size w W := by rw [hW]; exact ((Below.refl _ _).alloc (Nat.le_refl _) _).alloc (by simp) _
 have hA : W.heap[w.heap.size]? = some (.cells #[.slice av T.vars.length cv, .slice an T.nodes.length cn, .slice ab T.body.length cb] 37 (0, 0)) := by
  rw [hW, Below.heap_alloc _ _ _ (by simp)]; exact heap_alloc_new w _
 have hC : W.heap[w.heap.size + 1]? = some (.cells #[.slice av' T.vars.length cv', .slice an' T.nodes.length cn', .slice ab' T.body.length cb'] 37 (0, 0)) := by
  rw [hW]
  have h := heap_alloc_new (w.alloc (.cells #[.slice av T.vars.length cv, .slice an T.nodes.length cn, .slice ab T.body.length cb] 37)) (.cells #[.slice av' T.vars.length cv', .slice an' T.nodes.length cn', .slice ab' T.body.length cb'] 37)
  rwa [show (w.alloc (.cells #[.slice av T.vars.length cv, .slice an T.nodes.length cn, .slice ab T.body.length cb] 37)).heap.size = w.heap.size + 1 from by simp] at h
 rw [← hW]
 clear hW
 refine (eqVars_any lo lo' _ _ _ _ (H1.out.below hB).vars (H2.out.below hB).vars HZ.out.vars).mono ?_
 rintro e w0 ⟨rfl, hb⟩
 have hAc := blk hA hb
 have hCc := blk hC hb
 have hBc := hB.trans (hb.mono hB.size)
 clear hA hC hB hb
 have a1 := cell_of_row _ _ 1 _ _ _ hAc
 simp at a1
 have b1 := cell_of_row _ _ 1 _ _ _ hCc
 simp at b1
 have HA : Hid _ := hAc
 have HC : Hid _ := hCc
 have HB : Hid _ := hBc
 clear hAc hCc hBc
 go_wp2_with fail
 have hA := HA.out
 have hC := HC.out
 have hB := HB.out
 clear HA HC HB a1 b1
 refine (eqNodes_any lo lo' _ _ _ _ (H1.out.below hB).nodes (H2.out.below hB).nodes HZ.out.nodes HZ.out.big).mono ?_
 rintro e w1 ⟨rfl, hb⟩
 have hAc := blk hA hb
 have hCc := blk hC hb
 have hBc := hB.trans (hb.mono hB.size)
 clear hA hC hB hb
 have a2 := cell_of_row _ _ 2 _ _ _ hAc
 simp at a2
 have b2 := cell_of_row _ _ 2 _ _ _ hCc
 simp at b2
 have HA : Hid _ := hAc
 have HC : Hid _ := hCc
 have HB : Hid _ := hBc
 clear hAc hCc hBc
 go_wp2_with fail
 have hA := HA.out
 have hC := HC.out
 have hB := HB.out
 clear HA HC HB a2 b2
 refine (eqInts_any lo lo' _ _ _ _ (H1.out.below hB).body (H2.out.below hB).body (by have := HZ.out.body; omega)).mono ?_
 rintro e w2 ⟨rfl, hb⟩
 have hAc := blk hA hb
 have hCc := blk hC hb
 have hBc := hB.trans (hb.mono hB.size)
 clear hA hC hB hb
 have HA : Hid _ := hAc
 have HC : Hid _ := hCc
 have HB : Hid _ := hBc
 clear hAc hCc hBc
 go_wp2_with fail
 go_ret
 exact ⟨rfl, HB.out⟩
end Go.Proofs.YteeklmgkhacbcaaGreatDoor
namespace Go.Proofs.YteeklmgkhacbcaaGreatDoor
open Go.RowKit
set_option linter.unusedVariables false
def TreeInt (f : FuncId) (F : LTree → Int) : Prop := ∀ (lo : Nat) (vv vn vb : Value) (T : LTree) (w : World), TreeV lo w vv vn vb T → Sized 1048576 T →
 Calls Tryz.prog f #[treeV vv vn vb] w fun e w' => e = .returned (.int .i64 (F T)) ∧ Below w.heap.size w w'
def namesL (K : Int) (V : List LVar) : List (List UInt8) := (V.filter fun v => decide (v.kind = K)).map LVar.name
def namC (L : List (List UInt8)) : List Value := L.map fun n => .string (bs n)
theorem namesL_hit {K : Int} {V : List LVar} {k : Nat} {x : LVar} (h : V[k]? = some x) (e : x.kind = K) : namesL K (V.take (k + 1)) = namesL K (V.take k) ++ [x.name] := by
 obtain ⟨hk, rfl⟩ := List.getElem?_eq_some_iff.1 h
 unfold namesL; rw [List.take_succ_eq_append_getElem hk, List.filter_append, List.map_append]
 simp [e]
theorem namesL_miss {K : Int} {V : List LVar} {k : Nat} {x : LVar} (h : V[k]? = some x) (e : x.kind ≠ K) : namesL K (V.take (k + 1)) = namesL K (V.take k) := by
 obtain ⟨hk, rfl⟩ := List.getElem?_eq_some_iff.1 h
 unfold namesL; rw [List.take_succ_eq_append_getElem hk, List.filter_append, List.map_append]
 simp [e]
theorem namesL_len (K : Int) (V : List LVar) : (namesL K V).length ≤ V.length := by unfold namesL; rw [List.length_map]; exact List.length_filter_le _ _
theorem namC_len (L : List (List UInt8)) : (namC L).length = L.length := by unfold namC; rw [List.length_map]
theorem namC_snoc (L : List (List UInt8)) (n : List UInt8) : namC (L ++ [n]) = namC L ++ [.string (bs n)] := by unfold namC; rw [List.map_append]; rfl
theorem infoS : (Tryz.prog.info? 9).map (fun i => (i.zero, i.size, i.bytes)) = some (some (.string ⟨#[]⟩), 1, 16) := by kernel_rfl
def nmoC (T : LTree) (k : Int) : Int := if faultL T ≠ 0 then faultL T else if inB k 1 3 then 0 else 3
def nmoL (T : LTree) (k : Int) : List (List UInt8) := if faultL T ≠ 0 then [] else if inB k 1 3 then namesL k T.vars else []
def TreeNames (f : FuncId) (C : LTree → Int → Int) (L : LTree → Int → List (List UInt8)) : Prop := ∀ (lo : Nat) (vv vn vb : Value) (T : LTree) (k : Int) (w : World), TreeV lo w vv vn vb T → Sized 1048576 T →
 Calls Tryz.prog f #[treeV vv vn vb, .int .i64 k] w fun e w' => ∃ v, e = .returned (.agg #[.int .i64 (C T k), v]) ∧ w'.ownsRow w.heap.size 9 1 v (L T k).length (namC (L T k)) ∧ Below w.heap.size w w'
def targetF (VS : List LVar) (loop : List (List UInt8)) (nm : List UInt8) (row : Bool) (x : Int) (st : Met) : Int × Met :=
 if varFrom nm VS 0 < 0 then (0, metAt st 4 x)
 else ((VS.getD (varFrom nm VS 0).toNat default).type,
  (if (VS.getD (varFrom nm VS 0).toNat default).kind = 1 ∨ nm ∈ loop then
   metAt (if decide (0 < (VS.getD (varFrom nm VS 0).toNat default).size) ≠ row then metAt st 1 x else st) 10 x
  else (if decide (0 < (VS.getD (varFrom nm VS 0).toNat default).size) ≠ row then metAt st 1 x else st)))
def goL (s : Int → Met → Met) : List Int → Met → Met
 | [], st => st
 | x :: r, st => if st.1 = 0 then goL s r (s x st) else st
def argsF (must : Int → Int → Met → Met) : List Int → List Int → Met → Met
 | y :: ys, t :: ts, st => argsF must ys ts (must y t st)
 | _, _, st => st
def callF (must : Int → Int → Met → Met) (loop : List (List UInt8)) (n : LNode) (x : Int) (st : Met) : Met :=
 if (argsL n.op).length ≠ n.kids.length ∨ loop ≠ [] then metAt st 2 x else argsF must n.kids (argsL n.op) st
def forA (VS : List LVar) (loop : List (List UInt8)) (n : LNode) (x : Int) (st : Met) : Met :=
 if (targetF VS loop n.name false x st).2.1 = 0 ∧ (targetF VS loop n.name false x st).1 ≠ 1 then metAt (targetF VS loop n.name false x st).2 8 x else (targetF VS loop n.name false x st).2
def forF (VS : List LVar) (loop : List (List UInt8)) (n : LNode) (x : Int) (st : Met) : Met :=
 if 1000 < n.num ∨ 1000 < n.far then metAt (forA VS loop n x st) 3 x else forA VS loop n x st
def stmtF (must : Int → Int → Met → Met) (VS : List LVar) (N : List LNode) : Nat → List (List UInt8) → Int → Met → Met
 | 0, _, _, st => st
 | f + 1, loop, x, st =>
  let n := nodeOf N x
  if n.kind = 7 then must (n.kids.getD 0 0) (targetF VS loop n.name false x st).1 (targetF VS loop n.name false x st).2
  else if n.kind = 8 then must (n.kids.getD 1 0) (targetF VS loop n.name true x st).1 (must (n.kids.getD 0 0) 1 (targetF VS loop n.name true x st).2)
  else if n.kind = 9 then goL (stmtF must VS N f loop) n.els (goL (stmtF must VS N f loop) n.thn (must (n.kids.getD 0 0) 2 st))
  else if n.kind = 10 then goL (stmtF must VS N f (loop ++ [n.name])) n.thn (forF VS loop n x st)
  else if n.kind = 11 then callF must loop n x st
  else st
def mustT (V : List LVar) (nv : Nat) (N : List LNode) (y want : Int) (st : Met) : Met := mustW (nodeOf N y) y want (typeF V nv N N.length y st)
def dupB (V : List LVar) : Bool := (List.range V.length).any fun i => decide (0 ≤ varFrom (V.getD i default).name (V.take i) 0)
def namesF (V : List LVar) (nv : Nat) : Int := if dupB V then 7 else if (V.drop nv).any (fun v => !isNameL v.name) then 5 else 0
def bodyF (V : List LVar) (T : LTree) : Met := goL (stmtF (mustT V T.vars.length T.nodes) T.vars T.nodes T.nodes.length []) T.body (0, 0)
theorem metAt_met {st : Met} (h : st.1 ≠ 0) (c x : Int) : metAt st c x = st := by unfold metAt; rw [if_neg h]
theorem metAt_zero (c x : Int) (m : Int) : metAt (0, m) c x = (c, x) := by unfold metAt; rw [if_pos rfl]
theorem nameF_met {V : List LVar} {nv : Nat} {nm : List UInt8} {row : Bool} {x : Int} {st : Met} (h : st.1 ≠ 0) : (nameF V nv nm row x st).2 = st := by
 unfold nameF
 split
 ·exact metAt_met h _ _
 split
 ·exact metAt_met h _ _
 ·rfl
theorem mustW_met {n : LNode} {y want g : Int} {st : Met} (h : st.1 ≠ 0) : mustW n y want (g, st) = st := by
 unfold mustW
 split
 ·rfl
 split
 ·rename_i _ h2; exact absurd h2.1 h
 ·rfl
theorem typeF_met {V : List LVar} {nv : Nat} {N : List LNode} : ∀ (f : Nat) (x : Int) {st : Met}, st.1 ≠ 0 → (typeF V nv N f x st).2 = st := by
 intro f
 induction f with
 | zero => intro x st h; rfl
 | succ f ih =>
  intro x st h
  have hm : ∀ (y want : Int), mustW (nodeOf N y) y want (typeF V nv N f y st) = st := fun y want => by
   have e : typeF V nv N f y st = ((typeF V nv N f y st).1, st) := Prod.ext rfl (ih y h)
   rw [e]
   exact mustW_met h
  simp only [typeF]
  by_cases h1 : (nodeOf N x).kind = 1
  ·rw [if_pos h1]
  rw [if_neg h1]
  by_cases h2 : (nodeOf N x).kind = 2
  ·rw [if_pos h2]; exact nameF_met h
  rw [if_neg h2]
  by_cases h3 : (nodeOf N x).kind = 3
  ·rw [if_pos h3, nameF_met h]; exact hm ((nodeOf N x).kids.getD 0 0) 1
  rw [if_neg h3]
  by_cases h4 : (nodeOf N x).kind = 4
  ·rw [if_pos h4]; exact hm ((nodeOf N x).kids.getD 0 0) 1
  rw [if_neg h4]
  by_cases h5 : (nodeOf N x).kind = 5
  ·rw [if_pos h5]; exact hm ((nodeOf N x).kids.getD 0 0) 2
  rw [if_neg h5, hm]; exact hm ((nodeOf N x).kids.getD 1 0) (wantF V N (nodeOf N x))
attribute [local go_sem] bs_size bs_get bs_extract bs_append bs_eq bs_toList
abbrev LoopO (W : World) (B : Nat) (vl : Value) (L : List (List UInt8)) : Prop := W.ownsRow B 9 1 vl L.length (namC L)
theorem LoopO.form {W : World} {B : Nat} {vl : Value} {L : List (List UInt8)} (h : LoopO W B vl L) :
  ∃ a c, vl = .slice a L.length c ∧ (L ≠ [] → ∃ g, a = some ⟨g, 0, none⟩ ∧ B ≤ g ∧ ∀ (i : Nat) (nm : List UInt8), L[i]? = some nm → W.cell? ⟨g, i, none⟩ = some (.string (bs nm))) := by
 obtain ⟨_, h | ⟨g, cap, cur, rfl, hb, hg, hn, hm, hs, ht⟩⟩ := id h
 ·obtain ⟨rfl, h0⟩ := h
  exact ⟨none, 0, by rw [h0], fun hne => absurd (List.eq_nil_of_length_eq_zero h0) hne⟩
 ·refine ⟨_, _, rfl, fun _ => ⟨g, rfl, hb, fun i nm hi => ?_⟩⟩
  have hil := (List.getElem?_eq_some_iff.1 hi).1
  have h2 := World.ownsRow.cellAt h i (by omega)
  rw [h2]; unfold namC; rw [List.getElem?_map, hi]; rfl
theorem LoopO.nil (W : World) (B : Nat) : LoopO W B (.slice none 0 0) [] := World.ownsRow_nil W B _ _
theorem LoopO.pop {W : World} {B g cap : Nat} {L : List (List UInt8)} {nm : List UInt8} (h : LoopO W B (.slice (some ⟨g, 0, none⟩) (L.length + 1) cap) (L ++ [nm])) : LoopO W B (.slice (some ⟨g, 0, none⟩) L.length cap) L := by
 obtain ⟨_, h | ⟨g', cap', cur, e, hb, hg, hn, hm, hs, ht⟩⟩ := id h
 ·obtain ⟨e, _⟩ := h; simp at e
 ·have e2 : g' = g ∧ cap' = cap := by injection e with e1 e2 e3; injection e1 with e1; injection e1 with e1; exact ⟨e1.symm, e3.symm⟩
  obtain ⟨rfl, rfl⟩ := e2
  refine ⟨by rw [namC_len, Nat.mul_one], .inr ⟨g', cap', cur, rfl, hb, hg, by simp at hn; omega, hm, hs, ?_⟩⟩
  have h3 := congrArg (List.take L.length) ht
  rw [List.take_take, namC_snoc] at h3
  rw [show min L.length ((L ++ [nm]).length * 1) = L.length * 1 by simp] at h3
  rw [h3]
  rw [List.take_append_of_le_length (by rw [namC_len]; omega), List.take_of_length_le (by rw [namC_len]; omega)]
set_option maxHeartbeats 1600000 in
theorem l5InLoop_any (W0 W : World) (kp p lA cA B : Nat) (aA : Option Addr) (vl : Value) (st : Met) (L : List (List UInt8)) (nm : List UInt8) (hC : Chk W0 W kp p aA lA cA vl st) (hL : LoopO W B vl L) (hfew : L.length ≤ 1048576) :
  Calls Tryz.prog 115 #[.pointer (some ⟨kp, 0, none⟩), .string (bs nm)] W fun e w' => e = .returned (.bool (decide (nm ∈ L))) ∧ w' = W := by
 obtain ⟨a, c, rfl, hh⟩ := hL.form
 have HL := hid hh
 have k2 := cell_of_row _ _ 2 _ _ _ hC.row
 simp at k2
 have K2 : Hid (W.cell? ⟨kp, 2, none⟩ = some (.slice a L.length c)) := k2
 clear hh hC hL k2
 go_enter Tryz.func115, Tryz.ntmps115
 go_wp2
 go_loopw [5] (fun i wr => ∃ k : Nat, k ≤ L.length ∧ i = .int .i64 k ∧ (nm ∈ L ↔ nm ∈ L.drop k) ∧ SameW wr W) (fun i _ => L.length - (intOf i).toNat)
 case atStart => exact ⟨0, by omega, rfl, by rw [List.drop_zero], rfl⟩
 case round =>
  obtain ⟨k, hk, rfl, hv, hw⟩ := hrel
  have HF : Hid _ := hv
  clear hv
  have k2 : wr.cell? ⟨kp, 2, none⟩ = _ := (congrArg (fun W => World.cell? W ⟨kp, 2, none⟩) hw).trans K2.out
  by_cases hlt : k < L.length
  ·obtain ⟨x, hx⟩ : ∃ x, L[k]? = some x := ⟨L[k], List.getElem?_eq_getElem hlt⟩
   obtain ⟨g, rfl, _, hc1⟩ := HL.out (by intro e; rw [e] at hlt; simp at hlt)
   have c0 : wr.cell? ⟨g, k, none⟩ = _ := (congrArg (fun W => World.cell? W ⟨g, k, none⟩) hw).trans (hc1 k x hx)
   have HX : Hid (L.drop k = x :: L.drop (k + 1)) := by unfold Hid; rw [List.drop_eq_getElem_cons hlt]; rw [List.getElem?_eq_getElem hlt] at hx; injection hx with hx; rw [hx]
   have hk0 : (0 : Int) ≤ (k : Int) := by omega
   have hk1 : (k : Int) < (L.length : Int) := by omega
   clear hx hc1
   by_cases he : x = nm
   ·have HE : Hid (decide (nm ∈ L) = true) := by unfold Hid; rw [decide_eq_true_eq, HF.out, HX.out, he]; exact List.mem_cons_self
    subst he
    clear HF HX
    go_wp2
    go_ret
    exact ⟨by rw [HE.out]; rfl, hw⟩
   ·have hne : (x == nm) = false := by simpa using he
    have hne2 : decide (x = nm) = false := decide_eq_false he
    have HE : Hid (nm ∈ L ↔ nm ∈ L.drop (k + 1)) := by unfold Hid; rw [HF.out, HX.out, List.mem_cons]; exact ⟨fun h => h.resolve_left (fun e => he e.symm), .inr⟩
    clear HF HX
    go_wp2
    go_roundw
    case rel => exact ⟨k + 1, by omega, by go_num, HE.out, hw⟩
    case measure => simp [intOf]; omega
  ·have hke : k = L.length := by omega
   have HE : Hid (decide (nm ∈ L) = false) := by unfold Hid; rw [decide_eq_false_iff_not, HF.out, hke, List.drop_length]; exact List.not_mem_nil
   clear HF hke HL
   go_wp2
   go_ret
   exact ⟨by rw [HE.out]; rfl, hw⟩
set_option maxHeartbeats 3200000 in
theorem l4Var_any (lo p : Nat) (vv vn vb : Value) (T : LTree) (nm : List UInt8) (w : World) (h : TreeP lo w p vv vn vb T) (hn : T.vars.length ≤ 24) :
  Calls Tryz.prog 113 #[.pointer (some ⟨p, 0, none⟩), .string (bs nm)] w fun e w' => e = .returned (.int .i64 (varFrom nm T.vars 0)) ∧ w' = w := by
 obtain ⟨av, cv, rfl, _, hhv⟩ := id h.tree.vars
 have H1 := hid hhv
 have p0 := h.c0
 clear h hhv
 go_enter Tryz.func113, Tryz.ntmps113
 go_wp2
 go_loopw [5] (fun i wr => ∃ k : Nat, k ≤ T.vars.length ∧ i = .int .i64 k ∧ varFrom nm T.vars 0 = varFrom nm (T.vars.drop k) k ∧ SameW wr w) (fun i _ => T.vars.length - (intOf i).toNat)
 case atStart => exact ⟨0, by omega, rfl, rfl, rfl⟩
 case round =>
  obtain ⟨k, hk, rfl, hv, hw⟩ := hrel
  have q0 : wr.cell? ⟨p, 0, none⟩ = _ := (congrArg (fun W => World.cell? W ⟨p, 0, none⟩) hw).trans p0
  have HV : Hid _ := hv
  clear hv
  by_cases hlt : k < T.vars.length
  ·obtain ⟨x, hx⟩ : ∃ x, T.vars[k]? = some x := ⟨T.vars[k], List.getElem?_eq_getElem hlt⟩
   obtain ⟨g, o, rfl, _, hc1⟩ := H1.out (by intro e; rw [e] at hlt; simp at hlt)
   have c0 : wr.cell? ⟨g, o + k * 4, none⟩ = _ := (congrArg (fun W => World.cell? W ⟨g, o + k * 4, none⟩) hw).trans (hc1 k x hx).1
   have HX : Hid (T.vars[k]? = some x) := hx
   clear hx hc1
   by_cases he : x.name = nm
   ·have e := HV.out.trans (varFrom_hit HX.out he)
    have HE : Hid _ := e
    clear e
    subst he
    go_wp2
    go_ret
    exact ⟨by rw [HE.out]; rfl, hw⟩
   ·have hne : (x.name == nm) = false := by simpa using he
    have hne2 : decide (x.name = nm) = false := decide_eq_false he
    have e := HV.out.trans (varFrom_miss HX.out he)
    have HE : Hid _ := e
    clear e
    go_wp2
    go_roundw
    case rel => exact ⟨k + 1, by omega, by go_num, HE.out, hw⟩
    case measure => simp [intOf]; omega
  ·have hke : k = T.vars.length := by omega
   have HKE : Hid (k = T.vars.length) := hke
   clear hke
   go_wp2
   go_ret
   refine ⟨?_, hw⟩
   rw [HV.out, HKE.out, List.drop_length]; rfl
end Go.Proofs.YteeklmgkhacbcaaGreatDoor
