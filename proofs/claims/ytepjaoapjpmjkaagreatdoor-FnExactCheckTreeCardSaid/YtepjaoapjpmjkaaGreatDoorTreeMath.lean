/-
  Trees: what is asked of them, plainly.
-/
import Derived.Test.YtepjaoapjpmjkaaGreatDoorTreeTo3
import Derived.Test.YtepjaoapjpmjkaaGreatDoorTreeSz
import Derived.Test.YtepjaoapjpmjkaaGreatDoorOpenTree
import Derived.Test.YtepjaoapjpmjkaaGreatDoorBase
import Derived.WalkKit
namespace Go.Proofs.YtepjaoapjpmjkaaGreatDoor
open Go.RowKit
set_option linter.unusedVariables false
attribute [local go_sem] bs_size bs_get bs_extract bs_append bs_eq bs_toList
attribute [local go_sem ↓] Go.wp_at_zero Go.wp_at_succ
set_option maxHeartbeats 6400000 in
theorem eqNode_any (lo lo' : Nat) (n : LNode) (vk vt ve vk' vt' ve' : Value) (w : World) (h : NodeVals lo w n vk vt ve) (h' : NodeVals lo' w n vk' vt' ve') (hl : NodeSz 9223372036854775807 n) :
  Calls Tryz.prog 87 #[nodeV n vk vt ve, nodeV n vk' vt' ve'] w fun e w' => e = .returned (.bool true) ∧ Below w.heap.size w w' := by
 obtain ⟨ak, ck, rfl, _⟩ := id h.kids
 obtain ⟨at_, ct, rfl, _⟩ := id h.thn
 obtain ⟨ae, ce, rfl, _⟩ := id h.els
 obtain ⟨ak', ck', rfl, _⟩ := id h'.kids
 obtain ⟨at', ct', rfl, _⟩ := id h'.thn
 obtain ⟨ae', ce', rfl, _⟩ := id h'.els
 have H1 := hid h
 have H2 : Hid (NodeVals lo' w n (.slice ak' n.kids.length ck') (.slice at' n.thn.length ct') (.slice ae' n.els.length ce')) := h'
 obtain ⟨l1, l2, l3, l4⟩ := hl
 clear h h'
 go_enter Tryz.func87, Tryz.ntmps87
 go_wp2_with fail
 obtain ⟨W, hW⟩ : ∃ W, W = ((w.alloc (.cells #[.int .i64 n.kind, .int .i64 n.op, .string (bs n.name), .int .i64 n.num, .int .i64 n.far, .slice ak n.kids.length ck, .slice at_ n.thn.length ct, .slice ae n.els.length ce] 66)).alloc (.cells #[.int .i64 n.kind, .int .i64 n.op, .string (bs n.name), .int .i64 n.num, .int .i64 n.far, .slice ak' n.kids.length ck', .slice at' n.thn.length ct', .slice ae' n.els.length ce'] 66)) := ⟨_, rfl⟩
 have hB : Below w.heap.size w W := by rw [hW]; exact ((Below.refl _ _).alloc (Nat.le_refl _) _).alloc (by simp) _
 have hA : W.heap[w.heap.size]? = some (.cells #[.int .i64 n.kind, .int .i64 n.op, .string (bs n.name), .int .i64 n.num, .int .i64 n.far, .slice ak n.kids.length ck, .slice at_ n.thn.length ct, .slice ae n.els.length ce] 66 (0, 0)) := by
  rw [hW, Below.heap_alloc _ _ _ (by simp)]; exact heap_alloc_new w _
 have hC : W.heap[w.heap.size + 1]? = some (.cells #[.int .i64 n.kind, .int .i64 n.op, .string (bs n.name), .int .i64 n.num, .int .i64 n.far, .slice ak' n.kids.length ck', .slice at' n.thn.length ct', .slice ae' n.els.length ce'] 66 (0, 0)) := by
  rw [hW]
  have h := heap_alloc_new (w.alloc (.cells #[.int .i64 n.kind, .int .i64 n.op, .string (bs n.name), .int .i64 n.num, .int .i64 n.far, .slice ak n.kids.length ck, .slice at_ n.thn.length ct, .slice ae n.els.length ce] 66)) (.cells #[.int .i64 n.kind, .int .i64 n.op, .string (bs n.name), .int .i64 n.num, .int .i64 n.far, .slice ak' n.kids.length ck', .slice at' n.thn.length ct', .slice ae' n.els.length ce'] 66)
  rwa [show (w.alloc (.cells #[.int .i64 n.kind, .int .i64 n.op, .string (bs n.name), .int .i64 n.num, .int .i64 n.far, .slice ak n.kids.length ck, .slice at_ n.thn.length ct, .slice ae n.els.length ce] 66)).heap.size = w.heap.size + 1 from by simp] at h
 rw [← hW]
 clear hW
 refine (eqInts_any lo lo' _ _ _ _ (H1.out.below hB).kids (H2.out.below hB).kids l2).mono ?_
 rintro e w0 ⟨rfl, hb⟩
 have hAc := blk hA hb
 have hCc := blk hC hb
 have hBc := hB.trans (hb.mono hB.size)
 clear hA hC hB hb
 have a6 := cell_of_row _ _ 6 _ _ _ hAc
 simp at a6
 have b6 := cell_of_row _ _ 6 _ _ _ hCc
 simp at b6
 have HA : Hid _ := hAc
 have HC : Hid _ := hCc
 have HB : Hid _ := hBc
 clear hAc hCc hBc
 go_wp2_with fail
 have hA := HA.out
 have hC := HC.out
 have hB := HB.out
 clear HA HC HB a6 b6
 refine (eqInts_any lo lo' _ _ _ _ (H1.out.below hB).thn (H2.out.below hB).thn l3).mono ?_
 rintro e w1 ⟨rfl, hb⟩
 have hAc := blk hA hb
 have hCc := blk hC hb
 have hBc := hB.trans (hb.mono hB.size)
 clear hA hC hB hb
 have a7 := cell_of_row _ _ 7 _ _ _ hAc
 simp at a7
 have b7 := cell_of_row _ _ 7 _ _ _ hCc
 simp at b7
 have HA : Hid _ := hAc
 have HC : Hid _ := hCc
 have HB : Hid _ := hBc
 clear hAc hCc hBc
 go_wp2_with fail
 have hA := HA.out
 have hC := HC.out
 have hB := HB.out
 clear HA HC HB a7 b7
 refine (eqInts_any lo lo' _ _ _ _ (H1.out.below hB).els (H2.out.below hB).els l4).mono ?_
 rintro e w2 ⟨rfl, hb⟩
 have hAc := blk hA hb
 have hCc := blk hC hb
 have hBc := hB.trans (hb.mono hB.size)
 clear hA hC hB hb
 have HA : Hid _ := hAc
 have HC : Hid _ := hCc
 have HB : Hid _ := hBc
 clear hAc hCc hBc
 go_wp2_with fail
 go_ret
 exact ⟨rfl, HB.out⟩
set_option maxHeartbeats 6400000 in
set_option maxRecDepth 100000 in
theorem eqNodes_any (lo lo' : Nat) (v v' : Value) (xs : List LNode) (w : World) (h : NodesV lo w v xs) (h' : NodesV lo' w v' xs) (hl : xs.length ≤ 1048576) (hs : ∀ x ∈ xs, NodeSz 9223372036854775807 x) :
  Calls Tryz.prog 44 #[v, v'] w fun e w' => e = .returned (.bool true) ∧ Below w.heap.size w w' := by
 obtain ⟨a, c, rfl, _, hh1⟩ := h
 obtain ⟨a', c', rfl, _, hh2⟩ := h'
 have HS := hid hs
 have H1 := hid hh1
 have H2 := hid hh2
 clear hh1 hh2 hs
 go_enter Tryz.func44, Tryz.ntmps44
 go_wp2
 go_loopw [5] (fun i wr => ∃ k : Nat, k ≤ xs.length ∧ i = .int .i64 k ∧ Below w.heap.size w wr) (fun i _ => xs.length - (intOf i).toNat)
 case atStart => exact ⟨0, by omega, rfl, Below.refl _ _⟩
 case round =>
  obtain ⟨k, hk, rfl, hB⟩ := hrel
  by_cases hlt : k < xs.length
  ·obtain ⟨x, hx⟩ : ∃ x, xs[k]? = some x := ⟨xs[k], List.getElem?_eq_getElem hlt⟩
   have hne : xs ≠ [] := by intro e; rw [e] at hlt; simp at hlt
   obtain ⟨g, o, ha, _, hc1⟩ := H1.out hne
   obtain ⟨h, p, hb, _, hc2⟩ := H2.out hne
   subst ha
   subst hb
   obtain ⟨vk, vt, ve, hcs1, hvs1⟩ := hc1 k x hx
   obtain ⟨vk', vt', ve', hcs2, hvs2⟩ := hc2 k x hx
   have hgw : g < w.heap.size := World.block_lt_of_cell? _ _ hcs1.c0
   have hhw : h < w.heap.size := World.block_lt_of_cell? _ _ hcs2.c0
   obtain ⟨c0, c1, c2, c3, c4, c5, c6, c7⟩ := hcs1.keep (lo := 0) (fun g _ hg => hB.block g hg) (Nat.zero_le _)
   obtain ⟨d0, d1, d2, d3, d4, d5, d6, d7⟩ := hcs2.keep (lo := 0) (fun g _ hg => hB.block g hg) (Nat.zero_le _)
   have hv1 := hvs1.keep (w' := wr) (fun g _ hg => hB.block g hg)
   have hv2 := hvs2.keep (w' := wr) (fun g _ hg => hB.block g hg)
   have hk0 : (0 : Int) ≤ (k : Int) := by omega
   have hk1 : (k : Int) < (xs.length : Int) := by omega
   have hgr : g < wr.heap.size := Nat.lt_of_lt_of_le hgw hB.size
   have hhr : h < wr.heap.size := Nat.lt_of_lt_of_le hhw hB.size
   have hsz := HS.out x (List.mem_of_getElem? hx)
   obtain ⟨ak, ck, rfl, _⟩ := id hv1.kids
   obtain ⟨at_, ct, rfl, _⟩ := id hv1.thn
   obtain ⟨ae, ce, rfl, _⟩ := id hv1.els
   obtain ⟨ak', ck', rfl, _⟩ := id hv2.kids
   obtain ⟨at', ct', rfl, _⟩ := id hv2.thn
   obtain ⟨ae', ce', rfl, _⟩ := id hv2.els
   have HQ : Hid (∀ W, Below wr.heap.size wr W → Calls Tryz.prog 87 #[nodeV x (.slice ak x.kids.length ck) (.slice at_ x.thn.length ct) (.slice ae x.els.length ce), nodeV x (.slice ak' x.kids.length ck') (.slice at' x.thn.length ct') (.slice ae' x.els.length ce')] W fun e w' => e = .returned (.bool true) ∧ Below W.heap.size W w') := fun W hW => eqNode_any lo lo' x _ _ _ _ _ _ W (hv1.below hW) (hv2.below hW) hsz
   clear hne hx hc1 hc2 hcs1 hcs2 hvs1 hvs2 hv1 hv2 hsz
   go_wp2_with fail
   go_region_held3 (fun W => (W.cell? ⟨g, o + k * 8, none⟩ = some (.int .i64 x.kind) ∧ W.cell? ⟨g, o + k * 8 + 1, none⟩ = some (.int .i64 x.op) ∧ W.cell? ⟨g, o + k * 8 + 2, none⟩ = some (.string (bs x.name)) ∧ W.cell? ⟨g, o + k * 8 + 3, none⟩ = some (.int .i64 x.num) ∧ W.cell? ⟨g, o + k * 8 + 4, none⟩ = some (.int .i64 x.far) ∧ W.cell? ⟨g, o + k * 8 + 5, none⟩ = some (.slice ak x.kids.length ck) ∧ W.cell? ⟨g, o + k * 8 + 6, none⟩ = some (.slice at_ x.thn.length ct) ∧ W.cell? ⟨g, o + k * 8 + 7, none⟩ = some (.slice ae x.els.length ce)) ∧ (W.cell? ⟨h, p + k * 8, none⟩ = some (.int .i64 x.kind) ∧ W.cell? ⟨h, p + k * 8 + 1, none⟩ = some (.int .i64 x.op) ∧ W.cell? ⟨h, p + k * 8 + 2, none⟩ = some (.string (bs x.name)) ∧ W.cell? ⟨h, p + k * 8 + 3, none⟩ = some (.int .i64 x.num) ∧ W.cell? ⟨h, p + k * 8 + 4, none⟩ = some (.int .i64 x.far) ∧ W.cell? ⟨h, p + k * 8 + 5, none⟩ = some (.slice ak' x.kids.length ck') ∧ W.cell? ⟨h, p + k * 8 + 6, none⟩ = some (.slice at' x.thn.length ct') ∧ W.cell? ⟨h, p + k * 8 + 7, none⟩ = some (.slice ae' x.els.length ce'))) (go_keep) (first | (go_at_call 87; refine (HQ.out _ (Below.refl wr.heap.size wr).drew).mono ?_; rintro e w2 ⟨rfl, hb⟩; have hD : Below wr.heap.size wr w2 := ((Below.refl wr.heap.size wr).drew).trans (Below.mono hb (Nat.le_refl _)); have k0 := (hD.cell (p := ⟨g, o + k * 8, none⟩) hgr).trans c0; have k1 := (hD.cell (p := ⟨g, o + k * 8 + 1, none⟩) hgr).trans c1; have k2 := (hD.cell (p := ⟨g, o + k * 8 + 2, none⟩) hgr).trans c2; have k3 := (hD.cell (p := ⟨g, o + k * 8 + 3, none⟩) hgr).trans c3; have k4 := (hD.cell (p := ⟨g, o + k * 8 + 4, none⟩) hgr).trans c4; have k5 := (hD.cell (p := ⟨g, o + k * 8 + 5, none⟩) hgr).trans c5; have k6 := (hD.cell (p := ⟨g, o + k * 8 + 6, none⟩) hgr).trans c6; have k7 := (hD.cell (p := ⟨g, o + k * 8 + 7, none⟩) hgr).trans c7; have j0 := (hD.cell (p := ⟨h, p + k * 8, none⟩) hhr).trans d0; have j1 := (hD.cell (p := ⟨h, p + k * 8 + 1, none⟩) hhr).trans d1; have j2 := (hD.cell (p := ⟨h, p + k * 8 + 2, none⟩) hhr).trans d2; have j3 := (hD.cell (p := ⟨h, p + k * 8 + 3, none⟩) hhr).trans d3; have j4 := (hD.cell (p := ⟨h, p + k * 8 + 4, none⟩) hhr).trans d4; have j5 := (hD.cell (p := ⟨h, p + k * 8 + 5, none⟩) hhr).trans d5; have j6 := (hD.cell (p := ⟨h, p + k * 8 + 6, none⟩) hhr).trans d6; have j7 := (hD.cell (p := ⟨h, p + k * 8 + 7, none⟩) hhr).trans d7; have hB2 := hB.trans (hD.mono hB.size); clear hb hD))
   go_wp2
   go_roundw
   case rel => exact ⟨k + 1, by omega, by go_num, by assumption⟩
   case measure => simp [intOf]; omega
  ·have hke : k = xs.length := by omega
   subst hke
   go_wp2
   go_ret
   exact ⟨rfl, hB⟩
theorem Sized.big {T : LTree} (h : Sized 1048576 T) : ∀ n ∈ T.nodes, NodeSz 9223372036854775807 n := fun n hn => by
 obtain ⟨a, b, c, d⟩ := h.node n hn
 exact ⟨by omega, by omega, by omega, by omega⟩
set_option maxHeartbeats 6400000 in
theorem eqTree_any (lo lo' : Nat) (T : LTree) (vv vn vb vv' vn' vb' : Value) (w : World) (h : TreeV lo w vv vn vb T) (h' : TreeV lo' w vv' vn' vb' T) (hz : Sized 1048576 T) :
  Calls Tryz.prog 12 #[treeV vv vn vb, treeV vv' vn' vb'] w fun e w' => e = .returned (.bool true) ∧ Below w.heap.size w w' := by
 obtain ⟨av, cv, rfl, _⟩ := id h.vars
 obtain ⟨an, cn, rfl, _⟩ := id h.nodes
 obtain ⟨ab, cb, rfl, _⟩ := id h.body
 obtain ⟨av', cv', rfl, _⟩ := id h'.vars
 obtain ⟨an', cn', rfl, _⟩ := id h'.nodes
 obtain ⟨ab', cb', rfl, _⟩ := id h'.body
 have H1 := hid h
 have H2 : Hid (TreeV lo' w (.slice av' T.vars.length cv') (.slice an' T.nodes.length cn') (.slice ab' T.body.length cb') T) := h'
 have HZ : Hid (Sized 1048576 T) := hz
 clear h h' hz
 go_enter Tryz.func12, Tryz.ntmps12
 go_wp2_with fail
 obtain ⟨W, hW⟩ : ∃ W, W = ((w.alloc (.cells #[.slice av T.vars.length cv, .slice an T.nodes.length cn, .slice ab T.body.length cb] 34)).alloc (.cells #[.slice av' T.vars.length cv', .slice an' T.nodes.length cn', .slice ab' T.body.length cb'] 34)) := ⟨_, rfl⟩
 have hB : Below w.heap.size w W := by rw [hW]; exact ((Below.refl _ _).alloc (Nat.le_refl _) _).alloc (by simp) _
 have hA : W.heap[w.heap.size]? = some (.cells #[.slice av T.vars.length cv, .slice an T.nodes.length cn, .slice ab T.body.length cb] 34 (0, 0)) := by
  rw [hW, Below.heap_alloc _ _ _ (by simp)]; exact heap_alloc_new w _
 have hC : W.heap[w.heap.size + 1]? = some (.cells #[.slice av' T.vars.length cv', .slice an' T.nodes.length cn', .slice ab' T.body.length cb'] 34 (0, 0)) := by
  rw [hW]
  have h := heap_alloc_new (w.alloc (.cells #[.slice av T.vars.length cv, .slice an T.nodes.length cn, .slice ab T.body.length cb] 34)) (.cells #[.slice av' T.vars.length cv', .slice an' T.nodes.length cn', .slice ab' T.body.length cb'] 34)
  rwa [show (w.alloc (.cells #[.slice av T.vars.length cv, .slice an T.nodes.length cn, .slice ab T.body.length cb] 34)).heap.size = w.heap.size + 1 from by simp] at h
 rw [← hW]
 clear hW
 refine (eqVars_any lo lo' _ _ _ _ (H1.out.below hB).vars (H2.out.below hB).vars HZ.out.vars).mono ?_
 rintro e w0 ⟨rfl, hb⟩
 have hAc := blk hA hb
 have hCc := blk hC hb
 have hBc := hB.trans (hb.mono hB.size)
 clear hA hC hB hb
 have a1 := cell_of_row _ _ 1 _ _ _ hAc
 simp at a1
 have b1 := cell_of_row _ _ 1 _ _ _ hCc
 simp at b1
 have HA : Hid _ := hAc
 have HC : Hid _ := hCc
 have HB : Hid _ := hBc
 clear hAc hCc hBc
 go_wp2_with fail
 have hA := HA.out
 have hC := HC.out
 have hB := HB.out
 clear HA HC HB a1 b1
 refine (eqNodes_any lo lo' _ _ _ _ (H1.out.below hB).nodes (H2.out.below hB).nodes HZ.out.nodes HZ.out.big).mono ?_
 rintro e w1 ⟨rfl, hb⟩
 have hAc := blk hA hb
 have hCc := blk hC hb
 have hBc := hB.trans (hb.mono hB.size)
 clear hA hC hB hb
 have a2 := cell_of_row _ _ 2 _ _ _ hAc
 simp at a2
 have b2 := cell_of_row _ _ 2 _ _ _ hCc
 simp at b2
 have HA : Hid _ := hAc
 have HC : Hid _ := hCc
 have HB : Hid _ := hBc
 clear hAc hCc hBc
 go_wp2_with fail
 have hA := HA.out
 have hC := HC.out
 have hB := HB.out
 clear HA HC HB a2 b2
 refine (eqInts_any lo lo' _ _ _ _ (H1.out.below hB).body (H2.out.below hB).body (by have := HZ.out.body; omega)).mono ?_
 rintro e w2 ⟨rfl, hb⟩
 have hAc := blk hA hb
 have hCc := blk hC hb
 have hBc := hB.trans (hb.mono hB.size)
 clear hA hC hB hb
 have HA : Hid _ := hAc
 have HC : Hid _ := hCc
 have HB : Hid _ := hBc
 clear hAc hCc hBc
 go_wp2_with fail
 go_ret
 exact ⟨rfl, HB.out⟩
end Go.Proofs.YtepjaoapjpmjkaaGreatDoor
namespace Go.Proofs.YtepjaoapjpmjkaaGreatDoor
open Go.RowKit
set_option linter.unusedVariables false
def TreeInt (f : FuncId) (F : LTree → Int) : Prop := ∀ (lo : Nat) (vv vn vb : Value) (T : LTree) (w : World), TreeV lo w vv vn vb T → Sized 1048576 T →
 Calls Tryz.prog f #[treeV vv vn vb] w fun e w' => e = .returned (.int .i64 (F T)) ∧ Below w.heap.size w w'
end Go.Proofs.YtepjaoapjpmjkaaGreatDoor
namespace Go.Proofs.YtepjaoapjpmjkaaGreatDoor
open Go.RowKit
set_option linter.unusedVariables false
def inB (z a b : Int) : Bool := decide (a ≤ z) && decide (z ≤ b)
theorem inB_iff {z a b : Int} : inB z a b = true ↔ a ≤ z ∧ z ≤ b := by simp [inB]
theorem inB_no {z a b : Int} : inB z a b = false ↔ ¬ (a ≤ z ∧ z ≤ b) := by rw [← inB_iff]; cases inB z a b <;> simp
set_option maxHeartbeats 800000 in
theorem l1In_any (z a b : Int) (w : World) :
  Calls Tryz.prog 31 #[.int .i64 z, .int .i64 a, .int .i64 b] w fun e w' => e = .returned (.bool (inB z a b)) ∧ w' = w := by
 by_cases h1 : a ≤ z
 ·by_cases h2 : z ≤ b
  ·have e : inB z a b = true := inB_iff.2 ⟨h1, h2⟩
   rw [e]
   go_enter Tryz.func31, Tryz.ntmps31
   go_wp2
   go_ret
   exact ⟨rfl, rfl⟩
  ·have e : inB z a b = false := inB_no.2 (fun h => h2 h.2)
   rw [e]
   go_enter Tryz.func31, Tryz.ntmps31
   go_wp2
   go_ret
   exact ⟨rfl, rfl⟩
 ·have e : inB z a b = false := inB_no.2 (fun h => h1 h.1)
  rw [e]
  go_enter Tryz.func31, Tryz.ntmps31
  go_wp2
  go_ret
  exact ⟨rfl, rfl⟩
set_option maxHeartbeats 800000 in
theorem l1Word_any (z : Int) (w : World) : Calls Tryz.prog 104 #[.int .i64 z] w fun e w' => e = .returned (.bool (inB z 0 65535)) ∧ w' = w := by
 have H : Hid (∀ w, Calls Tryz.prog 31 #[.int .i64 z, .int .i64 0, .int .i64 65535] w fun e w' => e = .returned (.bool (inB z 0 65535)) ∧ w' = w) := fun w => l1In_any z 0 65535 w
 go_enter Tryz.func104, Tryz.ntmps104
 go_wp2_with fail
 refine (H.out _).mono ?_
 rintro e w' ⟨rfl, rfl⟩
 go_wp2_with fail
 go_ret
 exact ⟨rfl, rfl⟩
end Go.Proofs.YtepjaoapjpmjkaaGreatDoor
namespace Go.Proofs.YtepjaoapjpmjkaaGreatDoor
def isLetI (n : Int) : Bool := decide ((97 ≤ n ∧ n ≤ 122) ∨ n = 95)
def isDigI (n : Int) : Bool := decide (48 ≤ n ∧ n ≤ 57)
def isHexI (n : Int) : Bool := decide (65 ≤ n ∧ n ≤ 70)
def isLet (c : UInt8) : Bool := isLetI (c.toNat : Int)
def isDig (c : UInt8) : Bool := isDigI (c.toNat : Int)
def isHex (c : UInt8) : Bool := isHexI (c.toNat : Int)
def isNum (c : UInt8) : Bool := isDig c || isHex c || decide ((c.toNat : Int) = 35)
def isBlank (c : UInt8) : Bool := decide ((c.toNat : Int) = 32) || decide ((c.toNat : Int) = 10)
def wordsL : List (List UInt8) := [[97, 110, 100], [98, 111, 111, 108], [99, 116, 117], [100, 111], [101, 108, 115, 101], [101, 110, 100], [102, 97, 108, 115, 101], [102, 111, 114], [105, 102], [105, 110], [105, 110, 116], [109, 111, 100], [110, 111, 116], [111, 114], [111, 117, 116], [114, 116, 114, 105, 103], [115, 114], [116, 104, 101, 110], [116, 111], [116, 111, 110], [116, 114, 117, 101], [118, 97, 114], [120, 111, 114]]
def marksL : List (List UInt8) := [[58, 61], [60, 62], [60, 61], [62, 61], [43], [45], [42], [47], [61], [60], [62], [40], [41], [91], [93], [59], [58], [44]]
def isWordL (l : List UInt8) : Bool := wordsL.any (fun x => x == l)
def isNameL (l : List UInt8) : Bool := decide (1 ≤ l.length ∧ l.length ≤ 8) && !isWordL l && l.all isLet
def hexStep (n : Int) (c : UInt8) : Int := if isDig c then n * 16 + ((c.toNat : Int) - 48) else n * 16 + ((c.toNat : Int) - 65) + 10
def hexV (l : List UInt8) : Int := l.foldl hexStep 0
def hexOk (l : List UInt8) : Bool := decide (1 ≤ l.length ∧ l.length ≤ 4) && l.all (fun c => isDig c || isHex c)
def decStep (n : Int) (c : UInt8) : Int := n * 10 + ((c.toNat : Int) - 48)
def decV (l : List UInt8) : Int := l.foldl decStep 0
def decOk (l : List UInt8) : Bool := decide (1 ≤ l.length ∧ l.length ≤ 5) && !(decide (1 < l.length) && decide (((l.getD 0 0).toNat : Int) = 48)) && l.all isDig && decide (decV l ≤ 65535)
def based (l : List UInt8) : Bool := decide (3 < l.length) && (l.take 3 == [49, 54, 35])
def numOk (l : List UInt8) : Bool := if based l then hexOk (l.drop 3) else decOk l
def numV (l : List UInt8) : Int := if based l then hexV (l.drop 3) else decV l
def markL (l : List UInt8) : List UInt8 := (marksL.find? (fun m => m.isPrefixOf l)).getD []
structure Tok where
 kind : Int
 text : List UInt8
 num : Int
deriving DecidableEq
def oneL (l : List UInt8) : Option Tok :=
 let c := l.getD 0 0
 if isLet c then
  let p := l.takeWhile isLet
  if isWordL p then some ⟨3, p, 0⟩ else if isNameL p then some ⟨1, p, 0⟩ else none
 else if isDig c then
  let p := l.takeWhile isNum
  if numOk p then some ⟨2, p, numV p⟩ else none
 else
  let p := markL l
  if p = [] then none else some ⟨4, p, 0⟩
def lexF : Nat → List UInt8 → Nat → List (Tok × Nat) → Int × Nat × List (Tok × Nat)
 | 0, _, _, acc => (0, 0, acc)
 | _ + 1, [], _, acc => (0, 0, acc)
 | f + 1, c :: r, at_, acc =>
  if isBlank c then lexF f r (at_ + 1) acc
  else if 400 ≤ acc.length then (2, at_, [])
  else match oneL (c :: r) with
   | none => (5, at_, [])
   | some t => lexF f ((c :: r).drop t.text.length) (at_ + t.text.length) (acc ++ [(t, at_)])
def lexL (l : List UInt8) : Int × Nat × List (Tok × Nat) := if 1200 < l.length then (2, 0, []) else lexF l.length l 0 []
end Go.Proofs.YtepjaoapjpmjkaaGreatDoor
namespace Go.Proofs.YtepjaoapjpmjkaaGreatDoor
open Go.RowKit
set_option linter.unusedVariables false
attribute [local go_sem] bs_size bs_get bs_extract bs_append bs_eq
theorem retI {a b : Int} (h : a = b) : Ending.returned (.int .i64 a) = Ending.returned (.int .i64 b) := by rw [h]
theorem retB {a b : Bool} (h : a = b) : Ending.returned (.bool a) = Ending.returned (.bool b) := by rw [h]
set_option maxHeartbeats 400000 in
theorem letter_any (n : Int) (w : World) : Calls Tryz.prog 102 #[.int .u8 n] w fun e w' => e = .returned (.bool (isLetI n)) ∧ w' = w := by
 by_cases h1 : 97 ≤ n <;> by_cases h2 : n ≤ 122
 all_goals
  go_enter Tryz.func102, Tryz.ntmps102
  go_wp2
  go_ret
  refine ⟨retB ?_, rfl⟩
  simp only [isLetI]
  first | rfl | (rw [Bool.eq_iff_iff]; simp; omega) | (symm; simp; omega)
def Texts (w : World) (g : Nat) (L : List (List UInt8)) : Prop := ∀ k, k < L.length → w.cell? ⟨g, k, none⟩ = some (.string (bs (L.getD k [])))
theorem texts_new (w : World) (L : List (List UInt8)) (T : TypeId) : Texts (w.alloc (.cells (L.map (fun l => Value.string (bs l))).toArray T)) w.heap.size L := by
 intro k hk
 rw [cell_of_row _ _ k _ _ _ (heap_alloc_new w _)]
 rw [List.getD_eq_getElem?_getD, List.getElem?_eq_getElem hk]
 simp [List.getElem?_eq_getElem hk]
set_option maxHeartbeats 400000 in
theorem words_any (w : World) : Calls Tryz.prog 132 #[] w fun e w' => e = .returned (.slice (some ⟨w.heap.size, 0, none⟩) 23 23) ∧ w' = w.alloc (.cells (wordsL.map (fun l => Value.string (bs l))).toArray 9) := by
 go_enter Tryz.func132, Tryz.ntmps132
 go_wp2
 go_ret
 exact ⟨rfl, rfl⟩
theorem word_yes {l : List UInt8} {k : Nat} (hk : k < 23) (h : wordsL.getD k [] = l) : isWordL l = true := by
 unfold isWordL
 refine List.any_eq_true.2 ⟨l, ?_, by simp⟩
 rw [← h, List.getD_eq_getElem?_getD, List.getElem?_eq_getElem (show k < wordsL.length from hk)]
 simp
theorem word_no {l : List UInt8} (h : ∀ j, j < 23 → wordsL.getD j [] ≠ l) : isWordL l = false := by
 unfold isWordL
 refine List.any_eq_false.2 fun x hx he => ?_
 obtain ⟨j, hj, hx⟩ := List.getElem_of_mem hx
 refine h j hj ?_
 rw [List.getD_eq_getElem?_getD, List.getElem?_eq_getElem hj, ← (show x = l by simpa using he), ← hx]
 rfl
theorem all_yes {p : UInt8 → Bool} {l : List UInt8} (h : ∀ j, j < l.length → p (ch l j) = true) : l.all p = true := by
 refine List.all_eq_true.2 fun x hx => ?_
 obtain ⟨j, hj, hx⟩ := List.getElem_of_mem hx
 have := h j hj
 rwa [ch_get l j hj, hx] at this
theorem all_no {p : UInt8 → Bool} {l : List UInt8} {j : Nat} (hj : j < l.length) (h : p (ch l j) = false) : l.all p = false := by
 refine List.all_eq_false.2 ⟨l[j], List.getElem_mem hj, ?_⟩
 rw [ch_get l j hj] at h
 simp [h]
theorem while_take {f : UInt8 → Bool} {l : List UInt8} {p k : Nat} (hk : p + k ≤ l.length) (h : ∀ j, j < k → f (ch l (p + j)) = true) (he : p + k = l.length ∨ f (ch l (p + k)) = false) : (l.drop p).takeWhile f = (l.drop p).take k := by
 induction k generalizing p with
 | zero =>
  rcases he with he | he
  ·rw [List.drop_of_length_le (by omega)]; rfl
  ·by_cases hp : p < l.length
   ·rw [drop_at l p hp, List.takeWhile_cons]
    rw [Nat.add_zero] at he
    rw [he]; rfl
   ·rw [List.drop_of_length_le (by omega)]; rfl
 | succ k ih =>
  have h0 := h 0 (by omega)
  rw [Nat.add_zero] at h0
  have := ih (p := p + 1) (by omega) (fun j hj => by have := h (j + 1) (by omega); rwa [show p + (j + 1) = p + 1 + j from by omega] at this) (by rwa [show p + (k + 1) = p + 1 + k from by omega] at he)
  rw [drop_at l p (by omega), List.takeWhile_cons, h0, List.take_succ_cons, ← this]
  rfl
set_option maxHeartbeats 800000 in
theorem isWord_any (l : List UInt8) (w : World) : Calls Tryz.prog 101 #[.string (bs l)] w fun e w' => e = .returned (.bool (isWordL l)) ∧ Below w.heap.size w w' := by
 have hB : Below w.heap.size w (w.alloc (.cells (wordsL.map (fun l => Value.string (bs l))).toArray 9)) := (Below.refl _ _).alloc (Nat.le_refl _) _
 have hT := texts_new w wordsL 9
 generalize hW : w.alloc (.cells (wordsL.map (fun l => Value.string (bs l))).toArray 9) = W at hB hT
 have HB := hid hB
 have HT := hid hT
 clear hB hT
 go_enter Tryz.func101, Tryz.ntmps101
 go_wp2_with fail
 refine (words_any _).mono ?_
 rintro e w1 ⟨rfl, rfl⟩
 rw [hW]
 clear hW
 go_wp2
 go_loop [4] (fun i => ∃ k : Nat, k ≤ 23 ∧ i = .int .i64 k ∧ ∀ j, j < k → wordsL.getD j [] ≠ l) (fun i => 23 - (intOf i).toNat)
 case atStart => exact ⟨0, by omega, rfl, by omega⟩
 case round =>
  obtain ⟨k, hk, rfl, hno⟩ := hrel
  have HNO := hid hno
  clear hno
  by_cases hlt : k < 23
  ·have hcell := HT.out k (by simpa [wordsL] using hlt)
   obtain ⟨x, hx⟩ : ∃ x, x = wordsL.getD k [] := ⟨_, rfl⟩
   rw [← hx] at hcell
   have HX : Hid (x = wordsL.getD k []) := hx
   clear hx
   by_cases he : x = l
   ·have HE : Hid (x = l) := he
    have heb : (x == l) = true := by simpa using he
    clear he
    go_wp2
    go_ret
    exact ⟨retB (word_yes hlt (by rw [← HX.out]; exact HE.out)).symm, HB.out⟩
   ·have HE : Hid (¬ x = l) := he
    have heb : (x == l) = false := by simpa using he
    clear he
    go_wp2
    go_round
    case rel => exact ⟨k + 1, by omega, by go_num, fun j hj => by rcases Nat.lt_succ_iff_lt_or_eq.1 hj with h | rfl; exact HNO.out j h; rw [← HX.out]; exact HE.out⟩
    case measure => simp [intOf]; omega
  ·have hk3 : k = 23 := by omega
   subst hk3
   go_wp2
   go_ret
   exact ⟨retB (word_no HNO.out).symm, HB.out⟩
set_option maxHeartbeats 800000 in
theorem isName_any (l : List UInt8) (w : World) (hl0 : l.length ≤ 9223372036854775807) : Calls Tryz.prog 61 #[.string (bs l)] w fun e w' => e = .returned (.bool (isNameL l)) ∧ Below w.heap.size w w' := by
 have hw := isWord_any l w
 by_cases h1 : 1 ≤ l.length ∧ l.length ≤ 8
 ·have hn0 : isNameL l = (!isWordL l && l.all isLet) := by unfold isNameL; rw [decide_eq_true h1]; rfl
  obtain ⟨h1, h2⟩ := h1
  rw [hn0]
  clear hn0
  generalize isWordL l = b at hw
  cases b
  ·go_enter Tryz.func61, Tryz.ntmps61
   go_wp2_with fail
   refine hw.mono ?_
   rintro e w1 ⟨rfl, hb⟩
   have HB := hid hb
   clear hb hw
   go_wp2
   go_loop [3] (fun i => ∃ k : Nat, k ≤ l.length ∧ i = .int .i64 k ∧ ∀ j, j < k → isLet (ch l j) = true) (fun i => l.length - (intOf i).toNat)
   case atStart => exact ⟨0, by omega, rfl, by omega⟩
   case round =>
    obtain ⟨k, hk, rfl, hno⟩ := hrel
    have HNO := hid hno
    clear hno
    by_cases hlt : k < l.length
    ·cases hc : isLetI ((ch l k).toNat : Int)
     ·go_wp2_with (first | (go_at_call 102; refine (letter_any _ _).mono ?_; rintro e w' ⟨rfl, rfl⟩))
      go_ret
      exact ⟨retB (by rw [all_no hlt hc]; rfl), HB.out⟩
     ·go_wp2_with (first | (go_at_call 102; refine (letter_any _ _).mono ?_; rintro e w' ⟨rfl, rfl⟩))
      go_round
      case rel => exact ⟨k + 1, by omega, by go_num, fun j hj => by rcases Nat.lt_succ_iff_lt_or_eq.1 hj with h | rfl; exact HNO.out j h; exact hc⟩
      case measure => simp [intOf]; omega
    ·have hk3 : k = l.length := by omega
     subst hk3
     go_wp2
     go_ret
     exact ⟨retB (by rw [all_yes HNO.out]), HB.out⟩
  ·go_enter Tryz.func61, Tryz.ntmps61
   go_wp2_with fail
   refine hw.mono ?_
   rintro e w1 ⟨rfl, hb⟩
   go_wp2
   go_ret
   exact ⟨rfl, hb⟩
 ·have hn0 : isNameL l = false := by unfold isNameL; rw [decide_eq_false h1]; rfl
  rw [hn0]
  clear hn0 hw
  by_cases h2 : 1 ≤ l.length
  ·have h3 : 8 < l.length := by omega
   clear h1
   go_enter Tryz.func61, Tryz.ntmps61
   go_wp2
   go_ret
   exact ⟨rfl, Below.refl _ _⟩
  ·have h3 : l.length = 0 := by omega
   clear h1
   go_enter Tryz.func61, Tryz.ntmps61
   go_wp2
   go_ret
   exact ⟨rfl, Below.refl _ _⟩
end Go.Proofs.YtepjaoapjpmjkaaGreatDoor
namespace Go.Proofs.YtepjaoapjpmjkaaGreatDoor
open Go.RowKit
set_option linter.unusedVariables false
def exprN (n : LNode) : Bool := inB n.kind 1 6
def refB (N : List LNode) (at_ : Int) (expr : Bool) (x : Int) : Bool := inB x 0 (at_ - 1) && (exprN (N.getD x.toNat default) == expr)
def refsB (N : List LNode) (at_ : Int) (l : List Int) (expr : Bool) : Bool := l.all (refB N at_ expr)
def wantsN (k : Int) : Bool × Int × Bool :=
 if k = 1 then (false, 0, true) else if k = 2 then (true, 0, false) else if k = 3 ∨ k = 7 then (true, 1, false) else if k = 4 ∨ k = 5 ∨ k = 9 then (false, 1, false)
 else if k = 6 then (false, 2, false) else if k = 8 then (true, 2, false) else if k = 10 then (true, 0, true) else (true, -1, false)
def rightB (N : List LNode) (at_ : Nat) : Bool :=
 let n := N.getD at_ default
 let q := wantsN n.kind
 inB n.kind 1 11 &&
 (q.1 == isNameL n.name) && (q.1 || n.name.isEmpty) && (if 0 ≤ q.2.1 then decide ((n.kids.length : Int) = q.2.1) else inB n.kids.length 1 3) &&
 (if q.2.2 then inB n.num 0 65535 else decide (n.num = 0)) && (if n.kind = 10 then inB n.far 0 65535 else decide (n.far = 0)) &&
 (if n.kind = 6 then inB n.op 1 10 else if n.kind = 11 then inB n.op 1 4 else decide (n.op = 0)) &&
 (decide (n.kind = 9) || n.els.isEmpty) && (decide (n.kind = 9) || decide (n.kind = 10) || n.thn.isEmpty) &&
 refsB N at_ n.kids true && refsB N at_ n.thn false && refsB N at_ n.els false
def listsOf (n : LNode) : List Int := n.kids ++ n.thn ++ n.els
def namedB (T : LTree) (k : Nat) : Nat := ((T.nodes.map fun n => (listsOf n).count (k : Int)).sum) + T.body.count (k : Int)
def deepOf (ds : List Int) (i : Nat) (n : LNode) : Int := (listsOf n).foldl (fun d x => if inB x 0 ((i : Int) - 1) then max d (ds.getD x.toNat 0) else d) 0
def depthsL (N : List LNode) : List Int := (List.range N.length).foldl (fun ds i => ds ++ [deepOf ds i (N.getD i default) + 1]) []
def varB (v : LVar) : Int := if isNameL v.name then (if inB v.kind 1 3 && inB v.type 1 2 && inB v.size 0 8 then 0 else 3) else 5
end Go.Proofs.YtepjaoapjpmjkaaGreatDoor
