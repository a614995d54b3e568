/-
  spec.l4Expr, l4Wants, l4Refs.
-/
import Derived.Test.YtepjaoapjpmjkaaGreatDoorIBlkOf
import Derived.Test.YtepjaoapjpmjkaaGreatDoorTreeMath
import Derived.Deep.DrawnRows
import Derived.Deep.RegionHeld3
import Derived.BigQuiet
import Derived.Deep.QuietTactic
namespace Go.Proofs.YtepjaoapjpmjkaaGreatDoor
open Go.RowKit
set_option linter.unusedVariables false
attribute [local go_sem] bs_size bs_get bs_extract bs_append bs_eq bs_toList
theorem below_set {B : Nat} (w : World) (g i : Nat) (u : Value) (h : B ≤ g) : Below B w (w.setCell ⟨g, i, none⟩ u) := (Below.refl B w).setCell (p := ⟨g, i, none⟩) h u
theorem blk_set {w : World} {g b i : Nat} {cs : Array Value} {T : TypeId} (u : Value) (h : w.heap[g]? = some (.cells cs T (0, 0))) (hl : g < b) : (w.setCell ⟨b, i, none⟩ u).heap[g]? = some (.cells cs T (0, 0)) :=
 ((below_set w b i u (Nat.le_refl _)).block g hl).trans h
theorem keeps_set (w : World) (g i lo : Nat) (u : Value) (hl : g < lo) : Keeps lo w (w.setCell ⟨g, i, none⟩ u) := fun b hb _ => Below.heap_setCell _ _ _ _ (by simp; omega)
theorem NodeVals.set {lo : Nat} {w : World} {n : LNode} {vk vt ve : Value} (h : NodeVals lo w n vk vt ve) {g i : Nat} {u : Value} (hl : g < lo) : NodeVals lo (w.setCell ⟨g, i, none⟩ u) n vk vt ve := h.keep (keeps_set _ _ _ _ _ hl)
theorem Keeps.trans {lo : Nat} {a b c : World} (h : Keeps lo a b) (k : Keeps lo b c) (hs : a.heap.size ≤ b.heap.size) : Keeps lo a c := fun g hg hl => (k g hg (Nat.lt_of_lt_of_le hl hs)).trans (h g hg hl)
set_option maxHeartbeats 6400000 in
set_option maxRecDepth 100000 in
theorem toNode_any (lo : Nat) (n : LNode) (vk vt ve : Value) (w : World) (h : NodeVals lo w n vk vt ve) (h1 : n.kids.length ≤ 1048576) (h2 : n.thn.length ≤ 1048576) (h3 : n.els.length ≤ 1048576) :
  Calls Tryz.prog 71 #[nodeV n vk vt ve] w fun e w' => ∃ vk' vt' ve', e = .returned (nodeV n vk' vt' ve') ∧ NodeVals w.heap.size w' n vk' vt' ve' ∧ Below w.heap.size w w' := by
 obtain ⟨ak, ck, rfl, _⟩ := id h.kids
 obtain ⟨at_, ct, rfl, _⟩ := id h.thn
 obtain ⟨ae, ce, rfl, _⟩ := id h.els
 have HV := hid h
 have HK : Hid (∀ w', NodeVals lo w' n (.slice ak n.kids.length ck) (.slice at_ n.thn.length ct) (.slice ae n.els.length ce) → Calls Tryz.prog 37 #[.slice ak n.kids.length ck] w' fun e w'' => ∃ v', e = .returned v' ∧ IntsV w'.heap.size w'' v' n.kids ∧ Below w'.heap.size w' w'') := fun w' h => toInts_any lo _ _ w' h.kids h1
 have HT : Hid (∀ w', NodeVals lo w' n (.slice ak n.kids.length ck) (.slice at_ n.thn.length ct) (.slice ae n.els.length ce) → Calls Tryz.prog 37 #[.slice at_ n.thn.length ct] w' fun e w'' => ∃ v', e = .returned v' ∧ IntsV w'.heap.size w'' v' n.thn ∧ Below w'.heap.size w' w'') := fun w' h => toInts_any lo _ _ w' h.thn h2
 have HX : Hid (∀ w', NodeVals lo w' n (.slice ak n.kids.length ck) (.slice at_ n.thn.length ct) (.slice ae n.els.length ce) → Calls Tryz.prog 37 #[.slice ae n.els.length ce] w' fun e w'' => ∃ v', e = .returned v' ∧ IntsV w'.heap.size w'' v' n.els ∧ Below w'.heap.size w' w'') := fun w' h => toInts_any lo _ _ w' h.els h3
 clear h h1 h2 h3
 go_enter Tryz.func71, Tryz.ntmps71
 go_wp2_with fail
 obtain ⟨W, hW⟩ : ∃ W, W = (((w.alloc (.cells #[.int .i64 n.kind, .int .i64 n.op, .string (bs n.name), .int .i64 n.num, .int .i64 n.far, .slice ak n.kids.length ck, .slice at_ n.thn.length ct, .slice ae n.els.length ce] 107)).alloc (.cells #[.int .i64 0, .int .i64 0, .string ⟨#[]⟩, .int .i64 0, .int .i64 0, .slice none 0 0, .slice none 0 0, .slice none 0 0] 66)).alloc (.cells #[.int .i64 n.kind, .int .i64 n.op, .string (bs n.name), .int .i64 n.num, .int .i64 n.far, .slice none 0 0, .slice none 0 0, .slice none 0 0] 66)) := ⟨_, rfl⟩
 have hbW : Below w.heap.size w W := by rw [hW]; exact (((Below.refl _ _).alloc (Nat.le_refl _) _).alloc (by simp) _).alloc (by simp; omega) _
 have hA : W.heap[w.heap.size]? = some (.cells #[.int .i64 n.kind, .int .i64 n.op, .string (bs n.name), .int .i64 n.num, .int .i64 n.far, .slice ak n.kids.length ck, .slice at_ n.thn.length ct, .slice ae n.els.length ce] 107 (0, 0)) := by
  rw [hW, Below.heap_alloc _ _ _ (by simp; omega), Below.heap_alloc _ _ _ (by simp)]; exact heap_alloc_new w _
 have hR : W.heap[w.heap.size + 1]? = some (.cells #[.int .i64 0, .int .i64 0, .string ⟨#[]⟩, .int .i64 0, .int .i64 0, .slice none 0 0, .slice none 0 0, .slice none 0 0] 66 (0, 0)) := by
  rw [hW, Below.heap_alloc _ _ _ (by simp)]
  have h := heap_alloc_new (w.alloc (.cells #[.int .i64 n.kind, .int .i64 n.op, .string (bs n.name), .int .i64 n.num, .int .i64 n.far, .slice ak n.kids.length ck, .slice at_ n.thn.length ct, .slice ae n.els.length ce] 107)) (.cells #[.int .i64 0, .int .i64 0, .string ⟨#[]⟩, .int .i64 0, .int .i64 0, .slice none 0 0, .slice none 0 0, .slice none 0 0] 66)
  rwa [show (w.alloc (.cells #[.int .i64 n.kind, .int .i64 n.op, .string (bs n.name), .int .i64 n.num, .int .i64 n.far, .slice ak n.kids.length ck, .slice at_ n.thn.length ct, .slice ae n.els.length ce] 107)).heap.size = w.heap.size + 1 from by simp] at h
 have hO : W.heap[w.heap.size + 1 + 1]? = some (.cells #[.int .i64 n.kind, .int .i64 n.op, .string (bs n.name), .int .i64 n.num, .int .i64 n.far, .slice none 0 0, .slice none 0 0, .slice none 0 0] 66 (0, 0)) := by
  rw [hW]
  have h := heap_alloc_new ((w.alloc (.cells #[.int .i64 n.kind, .int .i64 n.op, .string (bs n.name), .int .i64 n.num, .int .i64 n.far, .slice ak n.kids.length ck, .slice at_ n.thn.length ct, .slice ae n.els.length ce] 107)).alloc (.cells #[.int .i64 0, .int .i64 0, .string ⟨#[]⟩, .int .i64 0, .int .i64 0, .slice none 0 0, .slice none 0 0, .slice none 0 0] 66)) (.cells #[.int .i64 n.kind, .int .i64 n.op, .string (bs n.name), .int .i64 n.num, .int .i64 n.far, .slice none 0 0, .slice none 0 0, .slice none 0 0] 66)
  rwa [show ((w.alloc (.cells #[.int .i64 n.kind, .int .i64 n.op, .string (bs n.name), .int .i64 n.num, .int .i64 n.far, .slice ak n.kids.length ck, .slice at_ n.thn.length ct, .slice ae n.els.length ce] 107)).alloc (.cells #[.int .i64 0, .int .i64 0, .string ⟨#[]⟩, .int .i64 0, .int .i64 0, .slice none 0 0, .slice none 0 0, .slice none 0 0] 66)).heap.size = w.heap.size + 1 + 1 from by simp] at h
 rw [← hW]
 clear hW
 refine (HK.out _ (HV.out.below hbW)).mono ?_
 rintro e wk ⟨_, rfl, hk, hb⟩
 obtain ⟨ak', ck', rfl, _⟩ := id hk
 have hbC := hbW.trans (hb.mono hbW.size)
 have hAc := blk hA hb
 have hRc := blk hR hb
 have hOc := blk hO hb
 have hk1 : IntsV (w.heap.size + 3) wk (.slice ak' n.kids.length ck') n.kids := hk.mono (blk_lt hO)
 have HA : Hid ((wk.setCell ⟨w.heap.size + 1 + 1, 5, none⟩ (.slice ak' n.kids.length ck')).heap[w.heap.size]? = some (.cells #[.int .i64 n.kind, .int .i64 n.op, .string (bs n.name), .int .i64 n.num, .int .i64 n.far, .slice ak n.kids.length ck, .slice at_ n.thn.length ct, .slice ae n.els.length ce] 107 (0, 0))) := blk_set _ hAc (by omega)
 have HR : Hid ((wk.setCell ⟨w.heap.size + 1 + 1, 5, none⟩ (.slice ak' n.kids.length ck')).heap[w.heap.size + 1]? = some (.cells #[.int .i64 0, .int .i64 0, .string ⟨#[]⟩, .int .i64 0, .int .i64 0, .slice none 0 0, .slice none 0 0, .slice none 0 0] 66 (0, 0))) := blk_set _ hRc (by omega)
 have HO : Hid ((wk.setCell ⟨w.heap.size + 1 + 1, 5, none⟩ (.slice ak' n.kids.length ck')).heap[w.heap.size + 1 + 1]? = some (.cells #[.int .i64 n.kind, .int .i64 n.op, .string (bs n.name), .int .i64 n.num, .int .i64 n.far, .slice ak' n.kids.length ck', .slice none 0 0, .slice none 0 0] 66 (0, 0))) := by have h := heap_setCell_same wk (w.heap.size + 1 + 1) 5 _ _ (.slice ak' n.kids.length ck') hOc; exact h
 have HB : Hid (Below w.heap.size w (wk.setCell ⟨w.heap.size + 1 + 1, 5, none⟩ (.slice ak' n.kids.length ck'))) := hbC.trans (below_set _ _ _ _ (by omega))
 have o5 := cell_of_row _ _ 5 _ _ _ hOc
 have g5 := frozen_of_row _ _ 5 _ _ hOc
 simp at o5
 have b6 := cell_of_row _ _ 6 _ _ _ HA.out
 simp at b6
 have y5 := 0
 have Hk : Hid (IntsV (w.heap.size + 3) (wk.setCell ⟨w.heap.size + 1 + 1, 5, none⟩ (.slice ak' n.kids.length ck')) (.slice ak' n.kids.length ck') n.kids) := hk1.keep (keeps_set _ _ _ _ _ (by omega))
 clear hA hR hO hbW hb hbC hAc hRc hOc hk hk1
 go_wp2_with fail
 have hA := HA.out
 have hR := HR.out
 have hO := HO.out
 have hbW := HB.out
 have hkS := Hk.out
 clear HA HR HO HB Hk b6 o5 g5 y5
 generalize wk.setCell ⟨w.heap.size + 1 + 1, 5, none⟩ (.slice ak' n.kids.length ck') = W at *
 refine (HT.out _ (HV.out.below hbW)).mono ?_
 rintro e wt ⟨_, rfl, ht, hb⟩
 obtain ⟨at', ct', rfl, _⟩ := id ht
 have hbC := hbW.trans (hb.mono hbW.size)
 have hAc := blk hA hb
 have hRc := blk hR hb
 have hOc := blk hO hb
 have ht1 : IntsV (w.heap.size + 3) wt (.slice at' n.thn.length ct') n.thn := ht.mono (blk_lt hO)
 have hkC := hkS.below hb
 have HA : Hid ((wt.setCell ⟨w.heap.size + 1 + 1, 6, none⟩ (.slice at' n.thn.length ct')).heap[w.heap.size]? = some (.cells #[.int .i64 n.kind, .int .i64 n.op, .string (bs n.name), .int .i64 n.num, .int .i64 n.far, .slice ak n.kids.length ck, .slice at_ n.thn.length ct, .slice ae n.els.length ce] 107 (0, 0))) := blk_set _ hAc (by omega)
 have HR : Hid ((wt.setCell ⟨w.heap.size + 1 + 1, 6, none⟩ (.slice at' n.thn.length ct')).heap[w.heap.size + 1]? = some (.cells #[.int .i64 0, .int .i64 0, .string ⟨#[]⟩, .int .i64 0, .int .i64 0, .slice none 0 0, .slice none 0 0, .slice none 0 0] 66 (0, 0))) := blk_set _ hRc (by omega)
 have HO : Hid ((wt.setCell ⟨w.heap.size + 1 + 1, 6, none⟩ (.slice at' n.thn.length ct')).heap[w.heap.size + 1 + 1]? = some (.cells #[.int .i64 n.kind, .int .i64 n.op, .string (bs n.name), .int .i64 n.num, .int .i64 n.far, .slice ak' n.kids.length ck', .slice at' n.thn.length ct', .slice none 0 0] 66 (0, 0))) := by have h := heap_setCell_same wt (w.heap.size + 1 + 1) 6 _ _ (.slice at' n.thn.length ct') hOc; exact h
 have HB : Hid (Below w.heap.size w (wt.setCell ⟨w.heap.size + 1 + 1, 6, none⟩ (.slice at' n.thn.length ct'))) := hbC.trans (below_set _ _ _ _ (by omega))
 have o6 := cell_of_row _ _ 6 _ _ _ hOc
 have g6 := frozen_of_row _ _ 6 _ _ hOc
 simp at o6
 have b7 := cell_of_row _ _ 7 _ _ _ HA.out
 simp at b7
 have y6 := 0
 have Hk : Hid (IntsV (w.heap.size + 3) (wt.setCell ⟨w.heap.size + 1 + 1, 6, none⟩ (.slice at' n.thn.length ct')) (.slice ak' n.kids.length ck') n.kids) := hkC.keep (keeps_set _ _ _ _ _ (by omega))
 have Ht : Hid (IntsV (w.heap.size + 3) (wt.setCell ⟨w.heap.size + 1 + 1, 6, none⟩ (.slice at' n.thn.length ct')) (.slice at' n.thn.length ct') n.thn) := ht1.keep (keeps_set _ _ _ _ _ (by omega))
 clear hA hR hO hbW hb hbC hAc hRc hOc ht ht1 hkS hkC
 go_wp2_with fail
 have hA := HA.out
 have hR := HR.out
 have hO := HO.out
 have hbW := HB.out
 have hkS := Hk.out
 have htS := Ht.out
 clear HA HR HO HB Hk Ht b7 o6 g6 y6
 generalize wt.setCell ⟨w.heap.size + 1 + 1, 6, none⟩ (.slice at' n.thn.length ct') = W at *
 refine (HX.out _ (HV.out.below hbW)).mono ?_
 rintro e wx ⟨_, rfl, hx, hb⟩
 obtain ⟨ax', cx', rfl, _⟩ := id hx
 have hbC := hbW.trans (hb.mono hbW.size)
 have hAc := blk hA hb
 have hRc := blk hR hb
 have hOc := blk hO hb
 have hx1 : IntsV (w.heap.size + 3) wx (.slice ax' n.els.length cx') n.els := hx.mono (blk_lt hO)
 have hkC := hkS.below hb
 have htC := htS.below hb
 have HA : Hid ((wx.setCell ⟨w.heap.size + 1 + 1, 7, none⟩ (.slice ax' n.els.length cx')).heap[w.heap.size]? = some (.cells #[.int .i64 n.kind, .int .i64 n.op, .string (bs n.name), .int .i64 n.num, .int .i64 n.far, .slice ak n.kids.length ck, .slice at_ n.thn.length ct, .slice ae n.els.length ce] 107 (0, 0))) := blk_set _ hAc (by omega)
 have HR : Hid ((wx.setCell ⟨w.heap.size + 1 + 1, 7, none⟩ (.slice ax' n.els.length cx')).heap[w.heap.size + 1]? = some (.cells #[.int .i64 0, .int .i64 0, .string ⟨#[]⟩, .int .i64 0, .int .i64 0, .slice none 0 0, .slice none 0 0, .slice none 0 0] 66 (0, 0))) := blk_set _ hRc (by omega)
 have HO : Hid ((wx.setCell ⟨w.heap.size + 1 + 1, 7, none⟩ (.slice ax' n.els.length cx')).heap[w.heap.size + 1 + 1]? = some (.cells #[.int .i64 n.kind, .int .i64 n.op, .string (bs n.name), .int .i64 n.num, .int .i64 n.far, .slice ak' n.kids.length ck', .slice at' n.thn.length ct', .slice ax' n.els.length cx'] 66 (0, 0))) := by have h := heap_setCell_same wx (w.heap.size + 1 + 1) 7 _ _ (.slice ax' n.els.length cx') hOc; exact h
 have HB : Hid (Below w.heap.size w (wx.setCell ⟨w.heap.size + 1 + 1, 7, none⟩ (.slice ax' n.els.length cx'))) := hbC.trans (below_set _ _ _ _ (by omega))
 have o7 := cell_of_row _ _ 7 _ _ _ hOc
 have g7 := frozen_of_row _ _ 7 _ _ hOc
 simp at o7
 have b8 := 0
 have y7 := 0
 have Hk : Hid (IntsV (w.heap.size + 3) (wx.setCell ⟨w.heap.size + 1 + 1, 7, none⟩ (.slice ax' n.els.length cx')) (.slice ak' n.kids.length ck') n.kids) := hkC.keep (keeps_set _ _ _ _ _ (by omega))
 have Ht : Hid (IntsV (w.heap.size + 3) (wx.setCell ⟨w.heap.size + 1 + 1, 7, none⟩ (.slice ax' n.els.length cx')) (.slice at' n.thn.length ct') n.thn) := htC.keep (keeps_set _ _ _ _ _ (by omega))
 have Hx : Hid (IntsV (w.heap.size + 3) (wx.setCell ⟨w.heap.size + 1 + 1, 7, none⟩ (.slice ax' n.els.length cx')) (.slice ax' n.els.length cx') n.els) := hx1.keep (keeps_set _ _ _ _ _ (by omega))
 clear hA hR hO hbW hb hbC hAc hRc hOc hx hx1 hkS hkC htS htC
 obtain ⟨O0, O1, O2, O3, O4, O5, O6, O7⟩ := cl8 HO.out
 obtain ⟨R0, R1, R2, R3, R4, R5, R6, R7⟩ := cl8 HR.out
 obtain ⟨G0, G1, G2, G3, G4, G5, G6, G7⟩ := fl8 HR.out
 go_wp2
 refine bodyPost_ret (v := nodeV n (.slice ak' n.kids.length ck') (.slice at' n.thn.length ct') (.slice ax' n.els.length cx')) (by simp [results, Tryz.results71, go_sem, R0, R1, R2, R3, R4, R5, R6, R7]) rfl ⟨_, _, _, rfl, ?_, ?_⟩
 ·refine NodeVals.mono ?_ (by omega : w.heap.size ≤ w.heap.size + 3)
  refine NodeVals.set ?_ (by omega)
  refine NodeVals.set ?_ (by omega)
  refine NodeVals.set ?_ (by omega)
  refine NodeVals.set ?_ (by omega)
  refine NodeVals.set ?_ (by omega)
  refine NodeVals.set ?_ (by omega)
  refine NodeVals.set ?_ (by omega)
  refine NodeVals.set ?_ (by omega)
  exact ⟨Hk.out, Ht.out, Hx.out⟩
 ·refine Below.trans ?_ (below_set _ _ _ _ (by omega))
  refine Below.trans ?_ (below_set _ _ _ _ (by omega))
  refine Below.trans ?_ (below_set _ _ _ _ (by omega))
  refine Below.trans ?_ (below_set _ _ _ _ (by omega))
  refine Below.trans ?_ (below_set _ _ _ _ (by omega))
  refine Below.trans ?_ (below_set _ _ _ _ (by omega))
  refine Below.trans ?_ (below_set _ _ _ _ (by omega))
  refine Below.trans ?_ (below_set _ _ _ _ (by omega))
  exact HB.out
end Go.Proofs.YtepjaoapjpmjkaaGreatDoor
namespace Go.Proofs.YtepjaoapjpmjkaaGreatDoor
open Go.RowKit
set_option linter.unusedVariables false
attribute [local go_sem] bs_size bs_get bs_extract bs_append bs_eq bs_toList
attribute [local go_sem ↓] Go.wp_at_zero Go.wp_at_succ
structure TreeP (lo : Nat) (w : World) (p : Nat) (vv vn vb : Value) (T : LTree) : Prop where
 c0 : w.cell? ⟨p, 0, none⟩ = some vv
 c1 : w.cell? ⟨p, 1, none⟩ = some vn
 c2 : w.cell? ⟨p, 2, none⟩ = some vb
 tree : TreeV lo w vv vn vb T
theorem TreeP.below {lo p : Nat} {w w' : World} {vv vn vb : Value} {T : LTree} (h : TreeP lo w p vv vn vb T) (hb : Below w.heap.size w w') : TreeP lo w' p vv vn vb T :=
 have hp := World.block_lt_of_cell? _ _ h.c0
 ⟨(hb.cell (p := ⟨p, 0, none⟩) hp).trans h.c0, (hb.cell (p := ⟨p, 1, none⟩) hp).trans h.c1, (hb.cell (p := ⟨p, 2, none⟩) hp).trans h.c2, h.tree.below hb⟩
set_option maxHeartbeats 1600000 in
theorem l4Expr_any (n : LNode) (vk vt ve : Value) (w : World) (h1 : ∃ a l c, vk = .slice a l c) (h2 : ∃ a l c, vt = .slice a l c) (h3 : ∃ a l c, ve = .slice a l c) :
  Calls Tryz.prog 32 #[nodeV n vk vt ve] w fun e w' => e = .returned (.bool (exprN n)) ∧ Below w.heap.size w w' := by
 obtain ⟨a, l, c, rfl⟩ := h1
 obtain ⟨a2, l2, c2, rfl⟩ := h2
 obtain ⟨a3, l3, c3, rfl⟩ := h3
 have H : Hid (∀ w, Calls Tryz.prog 31 #[.int .i64 n.kind, .int .i64 1, .int .i64 6] w fun e w' => e = .returned (.bool (exprN n)) ∧ w' = w) := fun w => l1In_any n.kind 1 6 w
 go_enter Tryz.func32, Tryz.ntmps32
 go_wp2_with fail
 refine (H.out _).mono ?_
 rintro e w' ⟨rfl, rfl⟩
 go_wp2_with fail
 go_ret
 exact ⟨rfl, by go_grown⟩
set_option maxHeartbeats 6400000 in
set_option maxRecDepth 100000 in
theorem l4Refs_any (lo p : Nat) (vv vn vb v : Value) (T : LTree) (at_ : Nat) (l : List Int) (expr : Bool) (lo' : Nat) (w : World) (h : TreeP lo w p vv vn vb T) (hat : at_ ≤ T.nodes.length) (hn : T.nodes.length ≤ 200) (hv : IntsV lo' w v l) (hl : l.length ≤ 1048576) :
  Calls Tryz.prog 63 #[.pointer (some ⟨p, 0, none⟩), .int .i64 at_, v, .bool expr] w fun e w' => e = .returned (.bool (refsB T.nodes at_ l expr)) ∧ Below w.heap.size w w' := by
 obtain ⟨a, c, rfl, hc, hh⟩ := hv
 obtain ⟨an, cn, rfl, hcn, hhn⟩ := id h.tree.nodes
 have H1 := hid hh
 have H2 := hid hhn
 have HP := hid h
 have HIN : Hid (∀ (z a b : Int) (w : World), Calls Tryz.prog 31 #[.int .i64 z, .int .i64 a, .int .i64 b] w fun e w' => e = .returned (.bool (inB z a b)) ∧ w' = w) := l1In_any
 clear h hh hhn hc hcn
 go_enter Tryz.func63, Tryz.ntmps63
 go_wp2
 go_loopw [9] (fun i wr => ∃ k : Nat, k ≤ l.length ∧ i = .int .i64 k ∧ (∀ j x, j < k → l[j]? = some x → refB T.nodes at_ expr x = true) ∧ Below w.heap.size w wr) (fun i _ => l.length - (intOf i).toNat)
 case atStart => exact ⟨0, by omega, rfl, by omega, Below.refl _ _⟩
 case round =>
  obtain ⟨k, hk, rfl, hall, hB⟩ := hrel
  have HALL := hid hall
  clear hall
  by_cases hlt : k < l.length
  ·obtain ⟨x, hx⟩ : ∃ x, l[k]? = some x := ⟨l[k], List.getElem?_eq_getElem hlt⟩
   obtain ⟨g, o, rfl, _, hc1⟩ := H1.out (by intro e; rw [e] at hlt; simp at hlt)
   have hgw : g < w.heap.size := World.block_lt_of_cell? _ _ (hc1 k x hx)
   have c0 := (hB.cell (p := ⟨g, o + k, none⟩) hgw).trans (hc1 k x hx)
   have hpw : p < w.heap.size := World.block_lt_of_cell? _ _ HP.out.c0
   have p1 := (hB.cell (p := ⟨p, 1, none⟩) hpw).trans HP.out.c1
   have hk0 : (0 : Int) ≤ (k : Int) := by omega
   have hk1 : (k : Int) < (l.length : Int) := by omega
   have HX : Hid (l[k]? = some x) := hx
   clear hx hc1
   obtain ⟨q, hq⟩ : ∃ q, inB x 0 ((at_ : Int) - 1) = q := ⟨_, rfl⟩
   cases q with
   | false =>
    have hI : Hid (∀ w, Calls Tryz.prog 31 #[.int .i64 x, .int .i64 0, .int .i64 ((at_ : Int) - 1)] w fun e w' => e = .returned (.bool false) ∧ w' = w) := fun w => by have h := HIN.out x 0 ((at_ : Int) - 1) w; rwa [hq] at h
    go_wp2_with fail
    go_quiet (first | (go_at_call 31; exact Calls.quiet_of_same (hI.out _)))
    have e : refsB T.nodes at_ l expr = false := List.all_eq_false.2 ⟨x, List.mem_of_getElem? HX.out, by simp [refB, hq]⟩
    go_wp2
    go_ret
    exact ⟨by rw [e]; rfl, ⟨hB.os, hB.tape, hB.output, hB.size, hB.block⟩⟩
   | true =>
    have hq2 := inB_iff.1 hq
    obtain ⟨j, rfl⟩ : ∃ j : Nat, x = j := ⟨x.toNat, by omega⟩
    have hja : j < at_ := by omega
    obtain ⟨y, hy⟩ : ∃ y, T.nodes[j]? = some y := ⟨T.nodes[j]'(by omega), List.getElem?_eq_getElem _⟩
    have hjn : j < T.nodes.length := by omega
    obtain ⟨g2, o2, rfl, _, hc2⟩ := H2.out (by intro e; rw [e] at hjn; simp at hjn)
    obtain ⟨vk, vt, ve, hcs, hvs⟩ := hc2 j y hy
    have hgw2 : g2 < w.heap.size := World.block_lt_of_cell? _ _ hcs.c0
    obtain ⟨d0, d1, d2, d3, d4, d5, d6, d7⟩ := hcs.keep (lo := 0) (fun g _ hg => hB.block g hg) (Nat.zero_le _)
    obtain ⟨ak, ck, rfl, _⟩ := id hvs.kids
    obtain ⟨at2, ct, rfl, _⟩ := id hvs.thn
    obtain ⟨ae, ce, rfl, _⟩ := id hvs.els
    have hI : Hid (∀ w, Calls Tryz.prog 31 #[.int .i64 (j : Int), .int .i64 0, .int .i64 ((at_ : Int) - 1)] w fun e w' => e = .returned (.bool true) ∧ w' = w) := fun w => by have h := HIN.out (j : Int) 0 ((at_ : Int) - 1) w; rwa [hq] at h
    have hE : Hid (∀ w, Calls Tryz.prog 32 #[nodeV y (.slice ak y.kids.length ck) (.slice at2 y.thn.length ct) (.slice ae y.els.length ce)] w fun e w' => e = .returned (.bool (exprN y)) ∧ Below w.heap.size w w') := fun w => l4Expr_any y _ _ _ w ⟨_, _, _, rfl⟩ ⟨_, _, _, rfl⟩ ⟨_, _, _, rfl⟩
    have hR : refB T.nodes at_ expr (j : Int) = (exprN y == expr) := by
     have : T.nodes.getD ((j : Int)).toNat default = y := by simp [hy]
     unfold refB
     rw [hq, this]; rfl
    have HR : Hid _ := hR
    have hj0 : (0 : Int) ≤ (j : Int) := by omega
    have hj1 : (j : Int) < (T.nodes.length : Int) := by omega
    have hgr : g < wr.heap.size := Nat.lt_of_lt_of_le hgw hB.size
    have hgr2 : g2 < wr.heap.size := Nat.lt_of_lt_of_le hgw2 hB.size
    have hpr : p < wr.heap.size := Nat.lt_of_lt_of_le hpw hB.size
    have hw : IntKind.i64.wrap ((at_ : Int) - 1) = (at_ : Int) - 1 := IntWalk.i64_in _ (by omega)
    have hI : Hid (∀ w, Calls Tryz.prog 31 #[.int .i64 (j : Int), .int .i64 0, .int .i64 (IntKind.i64.wrap ((at_ : Int) - 1))] w fun e w' => e = .returned (.bool true) ∧ w' = w) := by rw [hw]; exact hI
    clear hq hq2 hy hc2 hcs hvs hR hja hw
    obtain ⟨qe, hqe⟩ : ∃ q, exprN y = q := ⟨_, rfl⟩
    rw [hqe] at hE
    cases qe <;> cases expr
    ·go_wp2_with fail
     go_region_held3 (fun W => (W.cell? ⟨g, o + k, none⟩ = some (.int .i64 (j : Int)) ∧ W.cell? ⟨p, 1, none⟩ = some (.slice (some ⟨g2, o2, none⟩) T.nodes.length cn)) ∧ (W.cell? ⟨g2, o2 + j * 8, none⟩ = some (.int .i64 y.kind) ∧ W.cell? ⟨g2, o2 + j * 8 + 1, none⟩ = some (.int .i64 y.op) ∧ W.cell? ⟨g2, o2 + j * 8 + 2, none⟩ = some (.string (bs y.name)) ∧ W.cell? ⟨g2, o2 + j * 8 + 3, none⟩ = some (.int .i64 y.num) ∧ W.cell? ⟨g2, o2 + j * 8 + 4, none⟩ = some (.int .i64 y.far) ∧ W.cell? ⟨g2, o2 + j * 8 + 5, none⟩ = some (.slice ak y.kids.length ck) ∧ W.cell? ⟨g2, o2 + j * 8 + 6, none⟩ = some (.slice at2 y.thn.length ct) ∧ W.cell? ⟨g2, o2 + j * 8 + 7, none⟩ = some (.slice ae y.els.length ce))) (go_keep) (first | (go_at_call 31; refine (hI.out _).mono ?_; rintro e w2 ⟨rfl, rfl⟩) | (go_at_call 32; refine (hE.out _).mono ?_; rintro e w2 ⟨rfl, hb⟩; have hD : Below wr.heap.size wr w2 := ((Below.refl wr.heap.size wr).drew).trans (Below.mono hb (Nat.le_refl _)); have e0 := (hD.cell (p := ⟨g, o + k, none⟩) hgr).trans c0; have e1 := (hD.cell (p := ⟨p, 1, none⟩) hpr).trans p1; have k0 := (hD.cell (p := ⟨g2, o2 + j * 8, none⟩) hgr2).trans d0; have k1 := (hD.cell (p := ⟨g2, o2 + j * 8 + 1, none⟩) hgr2).trans d1; have k2 := (hD.cell (p := ⟨g2, o2 + j * 8 + 2, none⟩) hgr2).trans d2; have k3 := (hD.cell (p := ⟨g2, o2 + j * 8 + 3, none⟩) hgr2).trans d3; have k4 := (hD.cell (p := ⟨g2, o2 + j * 8 + 4, none⟩) hgr2).trans d4; have k5 := (hD.cell (p := ⟨g2, o2 + j * 8 + 5, none⟩) hgr2).trans d5; have k6 := (hD.cell (p := ⟨g2, o2 + j * 8 + 6, none⟩) hgr2).trans d6; have k7 := (hD.cell (p := ⟨g2, o2 + j * 8 + 7, none⟩) hgr2).trans d7; have hB2 := hB.trans (hD.mono hB.size); clear hb hD))
     go_wp2
     go_roundw
     case rel => exact ⟨k + 1, by omega, by go_num, fun i x hi hx => by
       rcases Nat.lt_succ_iff_lt_or_eq.1 hi with h | rfl
       ·exact HALL.out i x h hx
       ·have := hx.symm.trans HX.out
        cases this
        rw [HR.out, hqe]; rfl, hB2⟩
     case measure => simp [intOf]; omega
    ·go_wp2_with fail
     go_region_held3 (fun W => (W.cell? ⟨g, o + k, none⟩ = some (.int .i64 (j : Int)) ∧ W.cell? ⟨p, 1, none⟩ = some (.slice (some ⟨g2, o2, none⟩) T.nodes.length cn)) ∧ (W.cell? ⟨g2, o2 + j * 8, none⟩ = some (.int .i64 y.kind) ∧ W.cell? ⟨g2, o2 + j * 8 + 1, none⟩ = some (.int .i64 y.op) ∧ W.cell? ⟨g2, o2 + j * 8 + 2, none⟩ = some (.string (bs y.name)) ∧ W.cell? ⟨g2, o2 + j * 8 + 3, none⟩ = some (.int .i64 y.num) ∧ W.cell? ⟨g2, o2 + j * 8 + 4, none⟩ = some (.int .i64 y.far) ∧ W.cell? ⟨g2, o2 + j * 8 + 5, none⟩ = some (.slice ak y.kids.length ck) ∧ W.cell? ⟨g2, o2 + j * 8 + 6, none⟩ = some (.slice at2 y.thn.length ct) ∧ W.cell? ⟨g2, o2 + j * 8 + 7, none⟩ = some (.slice ae y.els.length ce))) (go_keep) (first | (go_at_call 31; refine (hI.out _).mono ?_; rintro e w2 ⟨rfl, rfl⟩) | (go_at_call 32; refine (hE.out _).mono ?_; rintro e w2 ⟨rfl, hb⟩; have hD : Below wr.heap.size wr w2 := ((Below.refl wr.heap.size wr).drew).trans (Below.mono hb (Nat.le_refl _)); have e0 := (hD.cell (p := ⟨g, o + k, none⟩) hgr).trans c0; have e1 := (hD.cell (p := ⟨p, 1, none⟩) hpr).trans p1; have k0 := (hD.cell (p := ⟨g2, o2 + j * 8, none⟩) hgr2).trans d0; have k1 := (hD.cell (p := ⟨g2, o2 + j * 8 + 1, none⟩) hgr2).trans d1; have k2 := (hD.cell (p := ⟨g2, o2 + j * 8 + 2, none⟩) hgr2).trans d2; have k3 := (hD.cell (p := ⟨g2, o2 + j * 8 + 3, none⟩) hgr2).trans d3; have k4 := (hD.cell (p := ⟨g2, o2 + j * 8 + 4, none⟩) hgr2).trans d4; have k5 := (hD.cell (p := ⟨g2, o2 + j * 8 + 5, none⟩) hgr2).trans d5; have k6 := (hD.cell (p := ⟨g2, o2 + j * 8 + 6, none⟩) hgr2).trans d6; have k7 := (hD.cell (p := ⟨g2, o2 + j * 8 + 7, none⟩) hgr2).trans d7; have hB2 := hB.trans (hD.mono hB.size); clear hb hD))
     have e : ∀ E, refB T.nodes at_ E (j : Int) = false → refsB T.nodes at_ l E = false := fun E h => List.all_eq_false.2 ⟨(j : Int), List.mem_of_getElem? HX.out, by rw [h]; decide⟩
     have e := e _ (by rw [HR.out, hqe]; rfl)
     have He : Hid _ := e
     clear e
     go_wp2
     go_ret
     exact ⟨by rw [He.out]; rfl, hB2⟩
    ·go_wp2_with fail
     go_region_held3 (fun W => (W.cell? ⟨g, o + k, none⟩ = some (.int .i64 (j : Int)) ∧ W.cell? ⟨p, 1, none⟩ = some (.slice (some ⟨g2, o2, none⟩) T.nodes.length cn)) ∧ (W.cell? ⟨g2, o2 + j * 8, none⟩ = some (.int .i64 y.kind) ∧ W.cell? ⟨g2, o2 + j * 8 + 1, none⟩ = some (.int .i64 y.op) ∧ W.cell? ⟨g2, o2 + j * 8 + 2, none⟩ = some (.string (bs y.name)) ∧ W.cell? ⟨g2, o2 + j * 8 + 3, none⟩ = some (.int .i64 y.num) ∧ W.cell? ⟨g2, o2 + j * 8 + 4, none⟩ = some (.int .i64 y.far) ∧ W.cell? ⟨g2, o2 + j * 8 + 5, none⟩ = some (.slice ak y.kids.length ck) ∧ W.cell? ⟨g2, o2 + j * 8 + 6, none⟩ = some (.slice at2 y.thn.length ct) ∧ W.cell? ⟨g2, o2 + j * 8 + 7, none⟩ = some (.slice ae y.els.length ce))) (go_keep) (first | (go_at_call 31; refine (hI.out _).mono ?_; rintro e w2 ⟨rfl, rfl⟩) | (go_at_call 32; refine (hE.out _).mono ?_; rintro e w2 ⟨rfl, hb⟩; have hD : Below wr.heap.size wr w2 := ((Below.refl wr.heap.size wr).drew).trans (Below.mono hb (Nat.le_refl _)); have e0 := (hD.cell (p := ⟨g, o + k, none⟩) hgr).trans c0; have e1 := (hD.cell (p := ⟨p, 1, none⟩) hpr).trans p1; have k0 := (hD.cell (p := ⟨g2, o2 + j * 8, none⟩) hgr2).trans d0; have k1 := (hD.cell (p := ⟨g2, o2 + j * 8 + 1, none⟩) hgr2).trans d1; have k2 := (hD.cell (p := ⟨g2, o2 + j * 8 + 2, none⟩) hgr2).trans d2; have k3 := (hD.cell (p := ⟨g2, o2 + j * 8 + 3, none⟩) hgr2).trans d3; have k4 := (hD.cell (p := ⟨g2, o2 + j * 8 + 4, none⟩) hgr2).trans d4; have k5 := (hD.cell (p := ⟨g2, o2 + j * 8 + 5, none⟩) hgr2).trans d5; have k6 := (hD.cell (p := ⟨g2, o2 + j * 8 + 6, none⟩) hgr2).trans d6; have k7 := (hD.cell (p := ⟨g2, o2 + j * 8 + 7, none⟩) hgr2).trans d7; have hB2 := hB.trans (hD.mono hB.size); clear hb hD))
     have e : ∀ E, refB T.nodes at_ E (j : Int) = false → refsB T.nodes at_ l E = false := fun E h => List.all_eq_false.2 ⟨(j : Int), List.mem_of_getElem? HX.out, by rw [h]; decide⟩
     have e := e _ (by rw [HR.out, hqe]; rfl)
     have He : Hid _ := e
     clear e
     go_wp2
     go_ret
     exact ⟨by rw [He.out]; rfl, hB2⟩
    ·go_wp2_with fail
     go_region_held3 (fun W => (W.cell? ⟨g, o + k, none⟩ = some (.int .i64 (j : Int)) ∧ W.cell? ⟨p, 1, none⟩ = some (.slice (some ⟨g2, o2, none⟩) T.nodes.length cn)) ∧ (W.cell? ⟨g2, o2 + j * 8, none⟩ = some (.int .i64 y.kind) ∧ W.cell? ⟨g2, o2 + j * 8 + 1, none⟩ = some (.int .i64 y.op) ∧ W.cell? ⟨g2, o2 + j * 8 + 2, none⟩ = some (.string (bs y.name)) ∧ W.cell? ⟨g2, o2 + j * 8 + 3, none⟩ = some (.int .i64 y.num) ∧ W.cell? ⟨g2, o2 + j * 8 + 4, none⟩ = some (.int .i64 y.far) ∧ W.cell? ⟨g2, o2 + j * 8 + 5, none⟩ = some (.slice ak y.kids.length ck) ∧ W.cell? ⟨g2, o2 + j * 8 + 6, none⟩ = some (.slice at2 y.thn.length ct) ∧ W.cell? ⟨g2, o2 + j * 8 + 7, none⟩ = some (.slice ae y.els.length ce))) (go_keep) (first | (go_at_call 31; refine (hI.out _).mono ?_; rintro e w2 ⟨rfl, rfl⟩) | (go_at_call 32; refine (hE.out _).mono ?_; rintro e w2 ⟨rfl, hb⟩; have hD : Below wr.heap.size wr w2 := ((Below.refl wr.heap.size wr).drew).trans (Below.mono hb (Nat.le_refl _)); have e0 := (hD.cell (p := ⟨g, o + k, none⟩) hgr).trans c0; have e1 := (hD.cell (p := ⟨p, 1, none⟩) hpr).trans p1; have k0 := (hD.cell (p := ⟨g2, o2 + j * 8, none⟩) hgr2).trans d0; have k1 := (hD.cell (p := ⟨g2, o2 + j * 8 + 1, none⟩) hgr2).trans d1; have k2 := (hD.cell (p := ⟨g2, o2 + j * 8 + 2, none⟩) hgr2).trans d2; have k3 := (hD.cell (p := ⟨g2, o2 + j * 8 + 3, none⟩) hgr2).trans d3; have k4 := (hD.cell (p := ⟨g2, o2 + j * 8 + 4, none⟩) hgr2).trans d4; have k5 := (hD.cell (p := ⟨g2, o2 + j * 8 + 5, none⟩) hgr2).trans d5; have k6 := (hD.cell (p := ⟨g2, o2 + j * 8 + 6, none⟩) hgr2).trans d6; have k7 := (hD.cell (p := ⟨g2, o2 + j * 8 + 7, none⟩) hgr2).trans d7; have hB2 := hB.trans (hD.mono hB.size); clear hb hD))
     go_wp2
     go_roundw
     case rel => exact ⟨k + 1, by omega, by go_num, fun i x hi hx => by
       rcases Nat.lt_succ_iff_lt_or_eq.1 hi with h | rfl
       ·exact HALL.out i x h hx
       ·have := hx.symm.trans HX.out
        cases this
        rw [HR.out, hqe]; rfl, hB2⟩
     case measure => simp [intOf]; omega
  ·have hke : k = l.length := by omega
   have HKE : Hid (k = l.length) := hke
   clear hke
   go_wp2
   go_ret
   refine ⟨?_, hB⟩
   have e : refsB T.nodes at_ l expr = true := List.all_eq_true.2 (fun x hx => by
    obtain ⟨j, hj, rfl⟩ := List.getElem_of_mem hx
    exact HALL.out j _ (by have := HKE.out; omega) (List.getElem?_eq_getElem hj))
   rw [e]
   rfl
end Go.Proofs.YtepjaoapjpmjkaaGreatDoor
