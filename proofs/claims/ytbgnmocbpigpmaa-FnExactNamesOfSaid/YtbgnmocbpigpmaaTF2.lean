/-
  laws.toNode: a copy in memory of its own.
-/
import Derived.Test.YtbgnmocbpigpmaaTF1
namespace Go.Proofs.Ytbgnmocbpigpmaa
open Go.RowKit
set_option linter.unusedVariables false
attribute [local go_sem] bs_size bs_get bs_extract bs_append bs_eq bs_toList

set_option maxHeartbeats 6400000 in
set_option maxRecDepth 100000 in
theorem toNodeF_any (lo : Nat) (n : LNode) (vk vt ve : Value) (w : World) (h : NodeVals lo w n vk vt ve) (h1 : n.kids.length ≤ 1048576) (h2 : n.thn.length ≤ 1048576) (h3 : n.els.length ≤ 1048576) :
    Calls Try.prog 109 #[nodeV n vk vt ve] w fun e w' => ∃ vk' vt' ve', e = .returned (nodeV n vk' vt' ve') ∧ NodeValsF w.heap.size w' n vk' vt' ve' ∧ Below w.heap.size w w' := by
  obtain ⟨ak, ck, rfl, _⟩ := id h.kids
  obtain ⟨at_, ct, rfl, _⟩ := id h.thn
  obtain ⟨ae, ce, rfl, _⟩ := id h.els
  have HV : Hid (NodeVals lo w n (.slice ak n.kids.length ck) (.slice at_ n.thn.length ct) (.slice ae n.els.length ce)) := h
  have HK : Hid (∀ w', NodeVals lo w' n (.slice ak n.kids.length ck) (.slice at_ n.thn.length ct) (.slice ae n.els.length ce) → Calls Try.prog 50 #[.slice ak n.kids.length ck] w' fun e w'' => ∃ v', e = .returned v' ∧ IntsF w'.heap.size w'' v' n.kids ∧ Below w'.heap.size w' w'') := fun w' h => toIntsF_any lo _ _ w' h.kids h1
  have HT : Hid (∀ w', NodeVals lo w' n (.slice ak n.kids.length ck) (.slice at_ n.thn.length ct) (.slice ae n.els.length ce) → Calls Try.prog 50 #[.slice at_ n.thn.length ct] w' fun e w'' => ∃ v', e = .returned v' ∧ IntsF w'.heap.size w'' v' n.thn ∧ Below w'.heap.size w' w'') := fun w' h => toIntsF_any lo _ _ w' h.thn h2
  have HX : Hid (∀ w', NodeVals lo w' n (.slice ak n.kids.length ck) (.slice at_ n.thn.length ct) (.slice ae n.els.length ce) → Calls Try.prog 50 #[.slice ae n.els.length ce] w' fun e w'' => ∃ v', e = .returned v' ∧ IntsF w'.heap.size w'' v' n.els ∧ Below w'.heap.size w' w'') := fun w' h => toIntsF_any lo _ _ w' h.els h3
  clear h h1 h2 h3
  go_enter Try.func109, Try.ntmps109
  go_wp2_with fail
  obtain ⟨W, hW⟩ : ∃ W, W = (((w.alloc (.cells #[.int .i64 n.kind, .int .i64 n.op, .string (bs n.name), .int .i64 n.num, .int .i64 n.far, .slice ak n.kids.length ck, .slice at_ n.thn.length ct, .slice ae n.els.length ce] 132)).alloc (.cells #[.int .i64 0, .int .i64 0, .string ⟨#[]⟩, .int .i64 0, .int .i64 0, .slice none 0 0, .slice none 0 0, .slice none 0 0] 99)).alloc (.cells #[.int .i64 n.kind, .int .i64 n.op, .string (bs n.name), .int .i64 n.num, .int .i64 n.far, .slice none 0 0, .slice none 0 0, .slice none 0 0] 99)) := ⟨_, rfl⟩
  have hbW : Below w.heap.size w W := by rw [hW]; exact (((Below.refl _ _).alloc (Nat.le_refl _) _).alloc (by simp) _).alloc (by simp; omega) _
  have hA : W.heap[w.heap.size]? = some (.cells #[.int .i64 n.kind, .int .i64 n.op, .string (bs n.name), .int .i64 n.num, .int .i64 n.far, .slice ak n.kids.length ck, .slice at_ n.thn.length ct, .slice ae n.els.length ce] 132 (0, 0)) := by
    rw [hW, Below.heap_alloc _ _ _ (by simp; omega), Below.heap_alloc _ _ _ (by simp)]; exact heap_alloc_new w _
  have hR : W.heap[w.heap.size + 1]? = some (.cells #[.int .i64 0, .int .i64 0, .string ⟨#[]⟩, .int .i64 0, .int .i64 0, .slice none 0 0, .slice none 0 0, .slice none 0 0] 99 (0, 0)) := by
    rw [hW, Below.heap_alloc _ _ _ (by simp)]
    have h := heap_alloc_new (w.alloc (.cells #[.int .i64 n.kind, .int .i64 n.op, .string (bs n.name), .int .i64 n.num, .int .i64 n.far, .slice ak n.kids.length ck, .slice at_ n.thn.length ct, .slice ae n.els.length ce] 132)) (.cells #[.int .i64 0, .int .i64 0, .string ⟨#[]⟩, .int .i64 0, .int .i64 0, .slice none 0 0, .slice none 0 0, .slice none 0 0] 99)
    rwa [show (w.alloc (.cells #[.int .i64 n.kind, .int .i64 n.op, .string (bs n.name), .int .i64 n.num, .int .i64 n.far, .slice ak n.kids.length ck, .slice at_ n.thn.length ct, .slice ae n.els.length ce] 132)).heap.size = w.heap.size + 1 from by simp] at h
  have hO : W.heap[w.heap.size + 1 + 1]? = some (.cells #[.int .i64 n.kind, .int .i64 n.op, .string (bs n.name), .int .i64 n.num, .int .i64 n.far, .slice none 0 0, .slice none 0 0, .slice none 0 0] 99 (0, 0)) := by
    rw [hW]
    have h := heap_alloc_new ((w.alloc (.cells #[.int .i64 n.kind, .int .i64 n.op, .string (bs n.name), .int .i64 n.num, .int .i64 n.far, .slice ak n.kids.length ck, .slice at_ n.thn.length ct, .slice ae n.els.length ce] 132)).alloc (.cells #[.int .i64 0, .int .i64 0, .string ⟨#[]⟩, .int .i64 0, .int .i64 0, .slice none 0 0, .slice none 0 0, .slice none 0 0] 99)) (.cells #[.int .i64 n.kind, .int .i64 n.op, .string (bs n.name), .int .i64 n.num, .int .i64 n.far, .slice none 0 0, .slice none 0 0, .slice none 0 0] 99)
    rwa [show ((w.alloc (.cells #[.int .i64 n.kind, .int .i64 n.op, .string (bs n.name), .int .i64 n.num, .int .i64 n.far, .slice ak n.kids.length ck, .slice at_ n.thn.length ct, .slice ae n.els.length ce] 132)).alloc (.cells #[.int .i64 0, .int .i64 0, .string ⟨#[]⟩, .int .i64 0, .int .i64 0, .slice none 0 0, .slice none 0 0, .slice none 0 0] 99)).heap.size = w.heap.size + 1 + 1 from by simp] at h
  rw [← hW]
  clear hW
  refine (HK.out _ (HV.out.below hbW)).mono ?_
  rintro e wk ⟨_, rfl, hk, hb⟩
  obtain ⟨ak', ck', rfl, _⟩ := id hk
  have hbC := hbW.trans (hb.mono hbW.size)
  have hAc := blk hA hb
  have hRc := blk hR hb
  have hOc := blk hO hb
  have hk1 : IntsF (w.heap.size + 3) wk (.slice ak' n.kids.length ck') n.kids := hk.mono (blk_lt hO)
  have HA : Hid ((wk.setCell ⟨w.heap.size + 1 + 1, 5, none⟩ (.slice ak' n.kids.length ck')).heap[w.heap.size]? = some (.cells #[.int .i64 n.kind, .int .i64 n.op, .string (bs n.name), .int .i64 n.num, .int .i64 n.far, .slice ak n.kids.length ck, .slice at_ n.thn.length ct, .slice ae n.els.length ce] 132 (0, 0))) := blk_set _ hAc (by omega)
  have HR : Hid ((wk.setCell ⟨w.heap.size + 1 + 1, 5, none⟩ (.slice ak' n.kids.length ck')).heap[w.heap.size + 1]? = some (.cells #[.int .i64 0, .int .i64 0, .string ⟨#[]⟩, .int .i64 0, .int .i64 0, .slice none 0 0, .slice none 0 0, .slice none 0 0] 99 (0, 0))) := blk_set _ hRc (by omega)
  have HO : Hid ((wk.setCell ⟨w.heap.size + 1 + 1, 5, none⟩ (.slice ak' n.kids.length ck')).heap[w.heap.size + 1 + 1]? = some (.cells #[.int .i64 n.kind, .int .i64 n.op, .string (bs n.name), .int .i64 n.num, .int .i64 n.far, .slice ak' n.kids.length ck', .slice none 0 0, .slice none 0 0] 99 (0, 0))) := by have h := heap_setCell_same wk (w.heap.size + 1 + 1) 5 _ _ (.slice ak' n.kids.length ck') hOc; exact h
  have HB : Hid (Below w.heap.size w (wk.setCell ⟨w.heap.size + 1 + 1, 5, none⟩ (.slice ak' n.kids.length ck'))) := hbC.trans (below_set _ _ _ _ (by omega))
  have o5 := cell_of_row _ _ 5 _ _ _ hOc
  have g5 := frozen_of_row _ _ 5 _ _ hOc
  simp at o5
  have b6 := cell_of_row _ _ 6 _ _ _ HA.out
  simp at b6
  have y5 := 0
  have Hk : Hid (IntsF (w.heap.size + 3) (wk.setCell ⟨w.heap.size + 1 + 1, 5, none⟩ (.slice ak' n.kids.length ck')) (.slice ak' n.kids.length ck') n.kids) := hk1.keep (keeps_set _ _ _ _ _ (by omega))
  clear hA hR hO hbW hb hbC hAc hRc hOc hk hk1
  go_wp2_with fail
  have hA := HA.out
  have hR := HR.out
  have hO := HO.out
  have hbW := HB.out
  have hkS := Hk.out
  clear HA HR HO HB Hk b6 o5 g5 y5
  generalize wk.setCell ⟨w.heap.size + 1 + 1, 5, none⟩ (.slice ak' n.kids.length ck') = W at *
  refine (HT.out _ (HV.out.below hbW)).mono ?_
  rintro e wt ⟨_, rfl, ht, hb⟩
  obtain ⟨at', ct', rfl, _⟩ := id ht
  have hbC := hbW.trans (hb.mono hbW.size)
  have hAc := blk hA hb
  have hRc := blk hR hb
  have hOc := blk hO hb
  have ht1 : IntsF (w.heap.size + 3) wt (.slice at' n.thn.length ct') n.thn := ht.mono (blk_lt hO)
  have hkC := hkS.below hb
  have HA : Hid ((wt.setCell ⟨w.heap.size + 1 + 1, 6, none⟩ (.slice at' n.thn.length ct')).heap[w.heap.size]? = some (.cells #[.int .i64 n.kind, .int .i64 n.op, .string (bs n.name), .int .i64 n.num, .int .i64 n.far, .slice ak n.kids.length ck, .slice at_ n.thn.length ct, .slice ae n.els.length ce] 132 (0, 0))) := blk_set _ hAc (by omega)
  have HR : Hid ((wt.setCell ⟨w.heap.size + 1 + 1, 6, none⟩ (.slice at' n.thn.length ct')).heap[w.heap.size + 1]? = some (.cells #[.int .i64 0, .int .i64 0, .string ⟨#[]⟩, .int .i64 0, .int .i64 0, .slice none 0 0, .slice none 0 0, .slice none 0 0] 99 (0, 0))) := blk_set _ hRc (by omega)
  have HO : Hid ((wt.setCell ⟨w.heap.size + 1 + 1, 6, none⟩ (.slice at' n.thn.length ct')).heap[w.heap.size + 1 + 1]? = some (.cells #[.int .i64 n.kind, .int .i64 n.op, .string (bs n.name), .int .i64 n.num, .int .i64 n.far, .slice ak' n.kids.length ck', .slice at' n.thn.length ct', .slice none 0 0] 99 (0, 0))) := by have h := heap_setCell_same wt (w.heap.size + 1 + 1) 6 _ _ (.slice at' n.thn.length ct') hOc; exact h
  have HB : Hid (Below w.heap.size w (wt.setCell ⟨w.heap.size + 1 + 1, 6, none⟩ (.slice at' n.thn.length ct'))) := hbC.trans (below_set _ _ _ _ (by omega))
  have o6 := cell_of_row _ _ 6 _ _ _ hOc
  have g6 := frozen_of_row _ _ 6 _ _ hOc
  simp at o6
  have b7 := cell_of_row _ _ 7 _ _ _ HA.out
  simp at b7
  have y6 := 0
  have Hk : Hid (IntsF (w.heap.size + 3) (wt.setCell ⟨w.heap.size + 1 + 1, 6, none⟩ (.slice at' n.thn.length ct')) (.slice ak' n.kids.length ck') n.kids) := hkC.keep (keeps_set _ _ _ _ _ (by omega))
  have Ht : Hid (IntsF (w.heap.size + 3) (wt.setCell ⟨w.heap.size + 1 + 1, 6, none⟩ (.slice at' n.thn.length ct')) (.slice at' n.thn.length ct') n.thn) := ht1.keep (keeps_set _ _ _ _ _ (by omega))
  clear hA hR hO hbW hb hbC hAc hRc hOc ht ht1 hkS hkC
  go_wp2_with fail
  have hA := HA.out
  have hR := HR.out
  have hO := HO.out
  have hbW := HB.out
  have hkS := Hk.out
  have htS := Ht.out
  clear HA HR HO HB Hk Ht b7 o6 g6 y6
  generalize wt.setCell ⟨w.heap.size + 1 + 1, 6, none⟩ (.slice at' n.thn.length ct') = W at *
  refine (HX.out _ (HV.out.below hbW)).mono ?_
  rintro e wx ⟨_, rfl, hx, hb⟩
  obtain ⟨ax', cx', rfl, _⟩ := id hx
  have hbC := hbW.trans (hb.mono hbW.size)
  have hAc := blk hA hb
  have hRc := blk hR hb
  have hOc := blk hO hb
  have hx1 : IntsF (w.heap.size + 3) wx (.slice ax' n.els.length cx') n.els := hx.mono (blk_lt hO)
  have hkC := hkS.below hb
  have htC := htS.below hb
  have HA : Hid ((wx.setCell ⟨w.heap.size + 1 + 1, 7, none⟩ (.slice ax' n.els.length cx')).heap[w.heap.size]? = some (.cells #[.int .i64 n.kind, .int .i64 n.op, .string (bs n.name), .int .i64 n.num, .int .i64 n.far, .slice ak n.kids.length ck, .slice at_ n.thn.length ct, .slice ae n.els.length ce] 132 (0, 0))) := blk_set _ hAc (by omega)
  have HR : Hid ((wx.setCell ⟨w.heap.size + 1 + 1, 7, none⟩ (.slice ax' n.els.length cx')).heap[w.heap.size + 1]? = some (.cells #[.int .i64 0, .int .i64 0, .string ⟨#[]⟩, .int .i64 0, .int .i64 0, .slice none 0 0, .slice none 0 0, .slice none 0 0] 99 (0, 0))) := blk_set _ hRc (by omega)
  have HO : Hid ((wx.setCell ⟨w.heap.size + 1 + 1, 7, none⟩ (.slice ax' n.els.length cx')).heap[w.heap.size + 1 + 1]? = some (.cells #[.int .i64 n.kind, .int .i64 n.op, .string (bs n.name), .int .i64 n.num, .int .i64 n.far, .slice ak' n.kids.length ck', .slice at' n.thn.length ct', .slice ax' n.els.length cx'] 99 (0, 0))) := by have h := heap_setCell_same wx (w.heap.size + 1 + 1) 7 _ _ (.slice ax' n.els.length cx') hOc; exact h
  have HB : Hid (Below w.heap.size w (wx.setCell ⟨w.heap.size + 1 + 1, 7, none⟩ (.slice ax' n.els.length cx'))) := hbC.trans (below_set _ _ _ _ (by omega))
  have o7 := cell_of_row _ _ 7 _ _ _ hOc
  have g7 := frozen_of_row _ _ 7 _ _ hOc
  simp at o7
  have b8 := 0
  have y7 := 0
  have Hk : Hid (IntsF (w.heap.size + 3) (wx.setCell ⟨w.heap.size + 1 + 1, 7, none⟩ (.slice ax' n.els.length cx')) (.slice ak' n.kids.length ck') n.kids) := hkC.keep (keeps_set _ _ _ _ _ (by omega))
  have Ht : Hid (IntsF (w.heap.size + 3) (wx.setCell ⟨w.heap.size + 1 + 1, 7, none⟩ (.slice ax' n.els.length cx')) (.slice at' n.thn.length ct') n.thn) := htC.keep (keeps_set _ _ _ _ _ (by omega))
  have Hx : Hid (IntsF (w.heap.size + 3) (wx.setCell ⟨w.heap.size + 1 + 1, 7, none⟩ (.slice ax' n.els.length cx')) (.slice ax' n.els.length cx') n.els) := hx1.keep (keeps_set _ _ _ _ _ (by omega))
  clear hA hR hO hbW hb hbC hAc hRc hOc hx hx1 hkS hkC htS htC
  have O0 := cell_of_row _ _ 0 _ _ _ HO.out
  have O1 := cell_of_row _ _ 1 _ _ _ HO.out
  have O2 := cell_of_row _ _ 2 _ _ _ HO.out
  have O3 := cell_of_row _ _ 3 _ _ _ HO.out
  have O4 := cell_of_row _ _ 4 _ _ _ HO.out
  have O5 := cell_of_row _ _ 5 _ _ _ HO.out
  have O6 := cell_of_row _ _ 6 _ _ _ HO.out
  have O7 := cell_of_row _ _ 7 _ _ _ HO.out
  simp at O0 O1 O2 O3 O4 O5 O6 O7
  have R0 := cell_of_row _ _ 0 _ _ _ HR.out
  have R1 := cell_of_row _ _ 1 _ _ _ HR.out
  have R2 := cell_of_row _ _ 2 _ _ _ HR.out
  have R3 := cell_of_row _ _ 3 _ _ _ HR.out
  have R4 := cell_of_row _ _ 4 _ _ _ HR.out
  have R5 := cell_of_row _ _ 5 _ _ _ HR.out
  have R6 := cell_of_row _ _ 6 _ _ _ HR.out
  have R7 := cell_of_row _ _ 7 _ _ _ HR.out
  simp at R0 R1 R2 R3 R4 R5 R6 R7
  have G0 := frozen_of_row _ _ 0 _ _ HR.out
  have G1 := frozen_of_row _ _ 1 _ _ HR.out
  have G2 := frozen_of_row _ _ 2 _ _ HR.out
  have G3 := frozen_of_row _ _ 3 _ _ HR.out
  have G4 := frozen_of_row _ _ 4 _ _ HR.out
  have G5 := frozen_of_row _ _ 5 _ _ HR.out
  have G6 := frozen_of_row _ _ 6 _ _ HR.out
  have G7 := frozen_of_row _ _ 7 _ _ HR.out
  go_wp2
  refine bodyPost_ret (v := nodeV n (.slice ak' n.kids.length ck') (.slice at' n.thn.length ct') (.slice ax' n.els.length cx')) (by simp [results, Try.results109, go_sem, R0, R1, R2, R3, R4, R5, R6, R7]) rfl ⟨_, _, _, rfl, ?_, ?_⟩
  · refine NodeValsF.mono ?_ (by omega : w.heap.size ≤ w.heap.size + 3)
    refine NodeValsF.set ?_ (by omega)
    refine NodeValsF.set ?_ (by omega)
    refine NodeValsF.set ?_ (by omega)
    refine NodeValsF.set ?_ (by omega)
    refine NodeValsF.set ?_ (by omega)
    refine NodeValsF.set ?_ (by omega)
    refine NodeValsF.set ?_ (by omega)
    refine NodeValsF.set ?_ (by omega)
    exact ⟨Hk.out, Ht.out, Hx.out⟩
  · refine Below.trans ?_ (below_set _ _ _ _ (by omega))
    refine Below.trans ?_ (below_set _ _ _ _ (by omega))
    refine Below.trans ?_ (below_set _ _ _ _ (by omega))
    refine Below.trans ?_ (below_set _ _ _ _ (by omega))
    refine Below.trans ?_ (below_set _ _ _ _ (by omega))
    refine Below.trans ?_ (below_set _ _ _ _ (by omega))
    refine Below.trans ?_ (below_set _ _ _ _ (by omega))
    refine Below.trans ?_ (below_set _ _ _ _ (by omega))
    exact HB.out
end Go.Proofs.Ytbgnmocbpigpmaa
