/-
  The Go function laws.FnExactNamesOf answers true at every input and writes nothing that was there. No condition.
-/
import Derived.Test.YtanalajojjpjnaaTF1
import Derived.Test.YtanalajojjpjnaaTreeTo
import Derived.Laws.IdiomStrings
import Derived.Test.YtanalajojjpjnaaNamesM
import Derived.Deep.RegionHeld3
import Derived.Deep.QuietTactic
import Derived.BigQuiet
import Derived.Test.YtanalajojjpjnaaTreeC
import Derived.Test.YtanalajojjpjnaaSNames
import Derived.Test.YtanalajojjpjnaaINames
namespace Go.Proofs.Ytanalajojjpjnaa
open Go.RowKit
set_option linter.unusedVariables false
attribute [local go_sem] bs_size bs_get bs_extract bs_append bs_eq bs_toList

set_option maxHeartbeats 6400000 in
set_option maxRecDepth 100000 in
theorem toNodeF_any (lo : Nat) (n : LNode) (vk vt ve : Value) (w : World) (h : NodeVals lo w n vk vt ve) (h1 : n.kids.length ≤ 1048576) (h2 : n.thn.length ≤ 1048576) (h3 : n.els.length ≤ 1048576) :
    Calls Try.prog 63 #[nodeV n vk vt ve] w fun e w' => ∃ vk' vt' ve', e = .returned (nodeV n vk' vt' ve') ∧ NodeValsF w.heap.size w' n vk' vt' ve' ∧ Below w.heap.size w w' := by
  obtain ⟨ak, ck, rfl, _⟩ := id h.kids
  obtain ⟨at_, ct, rfl, _⟩ := id h.thn
  obtain ⟨ae, ce, rfl, _⟩ := id h.els
  have HV : Hid (NodeVals lo w n (.slice ak n.kids.length ck) (.slice at_ n.thn.length ct) (.slice ae n.els.length ce)) := h
  have HK : Hid (∀ w', NodeVals lo w' n (.slice ak n.kids.length ck) (.slice at_ n.thn.length ct) (.slice ae n.els.length ce) → Calls Try.prog 31 #[.slice ak n.kids.length ck] w' fun e w'' => ∃ v', e = .returned v' ∧ IntsF w'.heap.size w'' v' n.kids ∧ Below w'.heap.size w' w'') := fun w' h => toIntsF_any lo _ _ w' h.kids h1
  have HT : Hid (∀ w', NodeVals lo w' n (.slice ak n.kids.length ck) (.slice at_ n.thn.length ct) (.slice ae n.els.length ce) → Calls Try.prog 31 #[.slice at_ n.thn.length ct] w' fun e w'' => ∃ v', e = .returned v' ∧ IntsF w'.heap.size w'' v' n.thn ∧ Below w'.heap.size w' w'') := fun w' h => toIntsF_any lo _ _ w' h.thn h2
  have HX : Hid (∀ w', NodeVals lo w' n (.slice ak n.kids.length ck) (.slice at_ n.thn.length ct) (.slice ae n.els.length ce) → Calls Try.prog 31 #[.slice ae n.els.length ce] w' fun e w'' => ∃ v', e = .returned v' ∧ IntsF w'.heap.size w'' v' n.els ∧ Below w'.heap.size w' w'') := fun w' h => toIntsF_any lo _ _ w' h.els h3
  clear h h1 h2 h3
  go_enter Try.func63, Try.ntmps63
  go_wp2_with fail
  obtain ⟨W, hW⟩ : ∃ W, W = (((w.alloc (.cells #[.int .i64 n.kind, .int .i64 n.op, .string (bs n.name), .int .i64 n.num, .int .i64 n.far, .slice ak n.kids.length ck, .slice at_ n.thn.length ct, .slice ae n.els.length ce] 88)).alloc (.cells #[.int .i64 0, .int .i64 0, .string ⟨#[]⟩, .int .i64 0, .int .i64 0, .slice none 0 0, .slice none 0 0, .slice none 0 0] 92)).alloc (.cells #[.int .i64 n.kind, .int .i64 n.op, .string (bs n.name), .int .i64 n.num, .int .i64 n.far, .slice none 0 0, .slice none 0 0, .slice none 0 0] 92)) := ⟨_, rfl⟩
  have hbW : Below w.heap.size w W := by rw [hW]; exact (((Below.refl _ _).alloc (Nat.le_refl _) _).alloc (by simp) _).alloc (by simp; omega) _
  have hA : W.heap[w.heap.size]? = some (.cells #[.int .i64 n.kind, .int .i64 n.op, .string (bs n.name), .int .i64 n.num, .int .i64 n.far, .slice ak n.kids.length ck, .slice at_ n.thn.length ct, .slice ae n.els.length ce] 88 (0, 0)) := by
    rw [hW, Below.heap_alloc _ _ _ (by simp; omega), Below.heap_alloc _ _ _ (by simp)]; exact heap_alloc_new w _
  have hR : W.heap[w.heap.size + 1]? = some (.cells #[.int .i64 0, .int .i64 0, .string ⟨#[]⟩, .int .i64 0, .int .i64 0, .slice none 0 0, .slice none 0 0, .slice none 0 0] 92 (0, 0)) := by
    rw [hW, Below.heap_alloc _ _ _ (by simp)]
    have h := heap_alloc_new (w.alloc (.cells #[.int .i64 n.kind, .int .i64 n.op, .string (bs n.name), .int .i64 n.num, .int .i64 n.far, .slice ak n.kids.length ck, .slice at_ n.thn.length ct, .slice ae n.els.length ce] 88)) (.cells #[.int .i64 0, .int .i64 0, .string ⟨#[]⟩, .int .i64 0, .int .i64 0, .slice none 0 0, .slice none 0 0, .slice none 0 0] 92)
    rwa [show (w.alloc (.cells #[.int .i64 n.kind, .int .i64 n.op, .string (bs n.name), .int .i64 n.num, .int .i64 n.far, .slice ak n.kids.length ck, .slice at_ n.thn.length ct, .slice ae n.els.length ce] 88)).heap.size = w.heap.size + 1 from by simp] at h
  have hO : W.heap[w.heap.size + 1 + 1]? = some (.cells #[.int .i64 n.kind, .int .i64 n.op, .string (bs n.name), .int .i64 n.num, .int .i64 n.far, .slice none 0 0, .slice none 0 0, .slice none 0 0] 92 (0, 0)) := by
    rw [hW]
    have h := heap_alloc_new ((w.alloc (.cells #[.int .i64 n.kind, .int .i64 n.op, .string (bs n.name), .int .i64 n.num, .int .i64 n.far, .slice ak n.kids.length ck, .slice at_ n.thn.length ct, .slice ae n.els.length ce] 88)).alloc (.cells #[.int .i64 0, .int .i64 0, .string ⟨#[]⟩, .int .i64 0, .int .i64 0, .slice none 0 0, .slice none 0 0, .slice none 0 0] 92)) (.cells #[.int .i64 n.kind, .int .i64 n.op, .string (bs n.name), .int .i64 n.num, .int .i64 n.far, .slice none 0 0, .slice none 0 0, .slice none 0 0] 92)
    rwa [show ((w.alloc (.cells #[.int .i64 n.kind, .int .i64 n.op, .string (bs n.name), .int .i64 n.num, .int .i64 n.far, .slice ak n.kids.length ck, .slice at_ n.thn.length ct, .slice ae n.els.length ce] 88)).alloc (.cells #[.int .i64 0, .int .i64 0, .string ⟨#[]⟩, .int .i64 0, .int .i64 0, .slice none 0 0, .slice none 0 0, .slice none 0 0] 92)).heap.size = w.heap.size + 1 + 1 from by simp] at h
  rw [← hW]
  clear hW
  refine (HK.out _ (HV.out.below hbW)).mono ?_
  rintro e wk ⟨_, rfl, hk, hb⟩
  obtain ⟨ak', ck', rfl, _⟩ := id hk
  have hbC := hbW.trans (hb.mono hbW.size)
  have hAc := blk hA hb
  have hRc := blk hR hb
  have hOc := blk hO hb
  have hk1 : IntsF (w.heap.size + 3) wk (.slice ak' n.kids.length ck') n.kids := hk.mono (blk_lt hO)
  have HA : Hid ((wk.setCell ⟨w.heap.size + 1 + 1, 5, none⟩ (.slice ak' n.kids.length ck')).heap[w.heap.size]? = some (.cells #[.int .i64 n.kind, .int .i64 n.op, .string (bs n.name), .int .i64 n.num, .int .i64 n.far, .slice ak n.kids.length ck, .slice at_ n.thn.length ct, .slice ae n.els.length ce] 88 (0, 0))) := blk_set _ hAc (by omega)
  have HR : Hid ((wk.setCell ⟨w.heap.size + 1 + 1, 5, none⟩ (.slice ak' n.kids.length ck')).heap[w.heap.size + 1]? = some (.cells #[.int .i64 0, .int .i64 0, .string ⟨#[]⟩, .int .i64 0, .int .i64 0, .slice none 0 0, .slice none 0 0, .slice none 0 0] 92 (0, 0))) := blk_set _ hRc (by omega)
  have HO : Hid ((wk.setCell ⟨w.heap.size + 1 + 1, 5, none⟩ (.slice ak' n.kids.length ck')).heap[w.heap.size + 1 + 1]? = some (.cells #[.int .i64 n.kind, .int .i64 n.op, .string (bs n.name), .int .i64 n.num, .int .i64 n.far, .slice ak' n.kids.length ck', .slice none 0 0, .slice none 0 0] 92 (0, 0))) := by have h := heap_setCell_same wk (w.heap.size + 1 + 1) 5 _ _ (.slice ak' n.kids.length ck') hOc; exact h
  have HB : Hid (Below w.heap.size w (wk.setCell ⟨w.heap.size + 1 + 1, 5, none⟩ (.slice ak' n.kids.length ck'))) := hbC.trans (below_set _ _ _ _ (by omega))
  have o5 := cell_of_row _ _ 5 _ _ _ hOc
  have g5 := frozen_of_row _ _ 5 _ _ hOc
  simp at o5
  have b6 := cell_of_row _ _ 6 _ _ _ HA.out
  simp at b6
  have y5 := 0
  have Hk : Hid (IntsF (w.heap.size + 3) (wk.setCell ⟨w.heap.size + 1 + 1, 5, none⟩ (.slice ak' n.kids.length ck')) (.slice ak' n.kids.length ck') n.kids) := hk1.keep (keeps_set _ _ _ _ _ (by omega))
  clear hA hR hO hbW hb hbC hAc hRc hOc hk hk1
  go_wp2_with fail
  have hA := HA.out
  have hR := HR.out
  have hO := HO.out
  have hbW := HB.out
  have hkS := Hk.out
  clear HA HR HO HB Hk b6 o5 g5 y5
  generalize wk.setCell ⟨w.heap.size + 1 + 1, 5, none⟩ (.slice ak' n.kids.length ck') = W at *
  refine (HT.out _ (HV.out.below hbW)).mono ?_
  rintro e wt ⟨_, rfl, ht, hb⟩
  obtain ⟨at', ct', rfl, _⟩ := id ht
  have hbC := hbW.trans (hb.mono hbW.size)
  have hAc := blk hA hb
  have hRc := blk hR hb
  have hOc := blk hO hb
  have ht1 : IntsF (w.heap.size + 3) wt (.slice at' n.thn.length ct') n.thn := ht.mono (blk_lt hO)
  have hkC := hkS.below hb
  have HA : Hid ((wt.setCell ⟨w.heap.size + 1 + 1, 6, none⟩ (.slice at' n.thn.length ct')).heap[w.heap.size]? = some (.cells #[.int .i64 n.kind, .int .i64 n.op, .string (bs n.name), .int .i64 n.num, .int .i64 n.far, .slice ak n.kids.length ck, .slice at_ n.thn.length ct, .slice ae n.els.length ce] 88 (0, 0))) := blk_set _ hAc (by omega)
  have HR : Hid ((wt.setCell ⟨w.heap.size + 1 + 1, 6, none⟩ (.slice at' n.thn.length ct')).heap[w.heap.size + 1]? = some (.cells #[.int .i64 0, .int .i64 0, .string ⟨#[]⟩, .int .i64 0, .int .i64 0, .slice none 0 0, .slice none 0 0, .slice none 0 0] 92 (0, 0))) := blk_set _ hRc (by omega)
  have HO : Hid ((wt.setCell ⟨w.heap.size + 1 + 1, 6, none⟩ (.slice at' n.thn.length ct')).heap[w.heap.size + 1 + 1]? = some (.cells #[.int .i64 n.kind, .int .i64 n.op, .string (bs n.name), .int .i64 n.num, .int .i64 n.far, .slice ak' n.kids.length ck', .slice at' n.thn.length ct', .slice none 0 0] 92 (0, 0))) := by have h := heap_setCell_same wt (w.heap.size + 1 + 1) 6 _ _ (.slice at' n.thn.length ct') hOc; exact h
  have HB : Hid (Below w.heap.size w (wt.setCell ⟨w.heap.size + 1 + 1, 6, none⟩ (.slice at' n.thn.length ct'))) := hbC.trans (below_set _ _ _ _ (by omega))
  have o6 := cell_of_row _ _ 6 _ _ _ hOc
  have g6 := frozen_of_row _ _ 6 _ _ hOc
  simp at o6
  have b7 := cell_of_row _ _ 7 _ _ _ HA.out
  simp at b7
  have y6 := 0
  have Hk : Hid (IntsF (w.heap.size + 3) (wt.setCell ⟨w.heap.size + 1 + 1, 6, none⟩ (.slice at' n.thn.length ct')) (.slice ak' n.kids.length ck') n.kids) := hkC.keep (keeps_set _ _ _ _ _ (by omega))
  have Ht : Hid (IntsF (w.heap.size + 3) (wt.setCell ⟨w.heap.size + 1 + 1, 6, none⟩ (.slice at' n.thn.length ct')) (.slice at' n.thn.length ct') n.thn) := ht1.keep (keeps_set _ _ _ _ _ (by omega))
  clear hA hR hO hbW hb hbC hAc hRc hOc ht ht1 hkS hkC
  go_wp2_with fail
  have hA := HA.out
  have hR := HR.out
  have hO := HO.out
  have hbW := HB.out
  have hkS := Hk.out
  have htS := Ht.out
  clear HA HR HO HB Hk Ht b7 o6 g6 y6
  generalize wt.setCell ⟨w.heap.size + 1 + 1, 6, none⟩ (.slice at' n.thn.length ct') = W at *
  refine (HX.out _ (HV.out.below hbW)).mono ?_
  rintro e wx ⟨_, rfl, hx, hb⟩
  obtain ⟨ax', cx', rfl, _⟩ := id hx
  have hbC := hbW.trans (hb.mono hbW.size)
  have hAc := blk hA hb
  have hRc := blk hR hb
  have hOc := blk hO hb
  have hx1 : IntsF (w.heap.size + 3) wx (.slice ax' n.els.length cx') n.els := hx.mono (blk_lt hO)
  have hkC := hkS.below hb
  have htC := htS.below hb
  have HA : Hid ((wx.setCell ⟨w.heap.size + 1 + 1, 7, none⟩ (.slice ax' n.els.length cx')).heap[w.heap.size]? = some (.cells #[.int .i64 n.kind, .int .i64 n.op, .string (bs n.name), .int .i64 n.num, .int .i64 n.far, .slice ak n.kids.length ck, .slice at_ n.thn.length ct, .slice ae n.els.length ce] 88 (0, 0))) := blk_set _ hAc (by omega)
  have HR : Hid ((wx.setCell ⟨w.heap.size + 1 + 1, 7, none⟩ (.slice ax' n.els.length cx')).heap[w.heap.size + 1]? = some (.cells #[.int .i64 0, .int .i64 0, .string ⟨#[]⟩, .int .i64 0, .int .i64 0, .slice none 0 0, .slice none 0 0, .slice none 0 0] 92 (0, 0))) := blk_set _ hRc (by omega)
  have HO : Hid ((wx.setCell ⟨w.heap.size + 1 + 1, 7, none⟩ (.slice ax' n.els.length cx')).heap[w.heap.size + 1 + 1]? = some (.cells #[.int .i64 n.kind, .int .i64 n.op, .string (bs n.name), .int .i64 n.num, .int .i64 n.far, .slice ak' n.kids.length ck', .slice at' n.thn.length ct', .slice ax' n.els.length cx'] 92 (0, 0))) := by have h := heap_setCell_same wx (w.heap.size + 1 + 1) 7 _ _ (.slice ax' n.els.length cx') hOc; exact h
  have HB : Hid (Below w.heap.size w (wx.setCell ⟨w.heap.size + 1 + 1, 7, none⟩ (.slice ax' n.els.length cx'))) := hbC.trans (below_set _ _ _ _ (by omega))
  have o7 := cell_of_row _ _ 7 _ _ _ hOc
  have g7 := frozen_of_row _ _ 7 _ _ hOc
  simp at o7
  have b8 := 0
  have y7 := 0
  have Hk : Hid (IntsF (w.heap.size + 3) (wx.setCell ⟨w.heap.size + 1 + 1, 7, none⟩ (.slice ax' n.els.length cx')) (.slice ak' n.kids.length ck') n.kids) := hkC.keep (keeps_set _ _ _ _ _ (by omega))
  have Ht : Hid (IntsF (w.heap.size + 3) (wx.setCell ⟨w.heap.size + 1 + 1, 7, none⟩ (.slice ax' n.els.length cx')) (.slice at' n.thn.length ct') n.thn) := htC.keep (keeps_set _ _ _ _ _ (by omega))
  have Hx : Hid (IntsF (w.heap.size + 3) (wx.setCell ⟨w.heap.size + 1 + 1, 7, none⟩ (.slice ax' n.els.length cx')) (.slice ax' n.els.length cx') n.els) := hx1.keep (keeps_set _ _ _ _ _ (by omega))
  clear hA hR hO hbW hb hbC hAc hRc hOc hx hx1 hkS hkC htS htC
  have O0 := cell_of_row _ _ 0 _ _ _ HO.out
  have O1 := cell_of_row _ _ 1 _ _ _ HO.out
  have O2 := cell_of_row _ _ 2 _ _ _ HO.out
  have O3 := cell_of_row _ _ 3 _ _ _ HO.out
  have O4 := cell_of_row _ _ 4 _ _ _ HO.out
  have O5 := cell_of_row _ _ 5 _ _ _ HO.out
  have O6 := cell_of_row _ _ 6 _ _ _ HO.out
  have O7 := cell_of_row _ _ 7 _ _ _ HO.out
  simp at O0 O1 O2 O3 O4 O5 O6 O7
  have R0 := cell_of_row _ _ 0 _ _ _ HR.out
  have R1 := cell_of_row _ _ 1 _ _ _ HR.out
  have R2 := cell_of_row _ _ 2 _ _ _ HR.out
  have R3 := cell_of_row _ _ 3 _ _ _ HR.out
  have R4 := cell_of_row _ _ 4 _ _ _ HR.out
  have R5 := cell_of_row _ _ 5 _ _ _ HR.out
  have R6 := cell_of_row _ _ 6 _ _ _ HR.out
  have R7 := cell_of_row _ _ 7 _ _ _ HR.out
  simp at R0 R1 R2 R3 R4 R5 R6 R7
  have G0 := frozen_of_row _ _ 0 _ _ HR.out
  have G1 := frozen_of_row _ _ 1 _ _ HR.out
  have G2 := frozen_of_row _ _ 2 _ _ HR.out
  have G3 := frozen_of_row _ _ 3 _ _ HR.out
  have G4 := frozen_of_row _ _ 4 _ _ HR.out
  have G5 := frozen_of_row _ _ 5 _ _ HR.out
  have G6 := frozen_of_row _ _ 6 _ _ HR.out
  have G7 := frozen_of_row _ _ 7 _ _ HR.out
  go_wp2
  refine bodyPost_ret (v := nodeV n (.slice ak' n.kids.length ck') (.slice at' n.thn.length ct') (.slice ax' n.els.length cx')) (by simp [results, Try.results63, go_sem, R0, R1, R2, R3, R4, R5, R6, R7]) rfl ⟨_, _, _, rfl, ?_, ?_⟩
  · refine NodeValsF.mono ?_ (by omega : w.heap.size ≤ w.heap.size + 3)
    refine NodeValsF.set ?_ (by omega)
    refine NodeValsF.set ?_ (by omega)
    refine NodeValsF.set ?_ (by omega)
    refine NodeValsF.set ?_ (by omega)
    refine NodeValsF.set ?_ (by omega)
    refine NodeValsF.set ?_ (by omega)
    refine NodeValsF.set ?_ (by omega)
    refine NodeValsF.set ?_ (by omega)
    exact ⟨Hk.out, Ht.out, Hx.out⟩
  · refine Below.trans ?_ (below_set _ _ _ _ (by omega))
    refine Below.trans ?_ (below_set _ _ _ _ (by omega))
    refine Below.trans ?_ (below_set _ _ _ _ (by omega))
    refine Below.trans ?_ (below_set _ _ _ _ (by omega))
    refine Below.trans ?_ (below_set _ _ _ _ (by omega))
    refine Below.trans ?_ (below_set _ _ _ _ (by omega))
    refine Below.trans ?_ (below_set _ _ _ _ (by omega))
    refine Below.trans ?_ (below_set _ _ _ _ (by omega))
    exact HB.out
end Go.Proofs.Ytanalajojjpjnaa
namespace Go.Proofs.Ytanalajojjpjnaa
open Go.RowKit
set_option linter.unusedVariables false
attribute [local go_sem] bs_size bs_get bs_extract bs_append bs_eq bs_toList

/-- a row of nodes, of which the first k are laid; the lists of those lie behind it -/
structure NodesLaidF (w : World) (g n k : Nat) (T : TypeId) (xs : List LNode) : Prop where
  row : ∃ cur : Array Value, w.heap[g]? = some (.cells cur T (0, 0)) ∧ cur.size = n * 8
  at_ : ∀ j x, j < k → xs[j]? = some x → NodeAtF (g + 1) w g (j * 8) x
theorem NodesLaidF.lt {w : World} {g n k : Nat} {T : TypeId} {xs : List LNode} (h : NodesLaidF w g n k T xs) : g < w.heap.size := by obtain ⟨cur, h1, _⟩ := h.row; exact blk_lt h1
theorem NodesLaidF.below {w w' : World} {g n k : Nat} {T : TypeId} {xs : List LNode} (h : NodesLaidF w g n k T xs) (hb : Below w.heap.size w w') : NodesLaidF w' g n k T xs := by
  obtain ⟨cur, h1, h2⟩ := h.row
  refine ⟨⟨cur, blk h1 hb, h2⟩, fun j x hj hx => ?_⟩
  obtain ⟨vk, vt, ve, hc, hv⟩ := h.at_ j x hj hx
  exact ⟨vk, vt, ve, hc.keep (lo := g) (.of_below hb) (Nat.le_refl _), hv.below hb⟩
theorem NodesLaidF.cell {w : World} {g n k i : Nat} {T : TypeId} {xs : List LNode} (h : NodesLaidF w g n k T xs) (hi : i < n * 8) : (∃ y, w.cell? ⟨g, i, none⟩ = some y) ∧ w.frozen? ⟨g, i, none⟩ = false := by
  obtain ⟨cur, h1, h2⟩ := h.row
  refine ⟨⟨cur[i]'(by omega), ?_⟩, frozen_of_row _ _ _ _ _ h1⟩
  rw [cell_of_row _ _ _ _ _ _ h1]
  exact Array.getElem?_eq_getElem (by omega)
theorem NodesLaidF.of_own {w : World} {g n B : Nat} {T : TypeId} {xs : List LNode} {ys : List Value} (h : w.ownsRow B T 8 (.slice (some ⟨g, 0, none⟩) n n) n ys) : NodesLaidF w g n 0 T xs := by
  refine ⟨?_, fun j x hj => absurd hj (by omega)⟩
  rcases h.2 with ⟨h, _⟩ | ⟨g', c, cur, h, _, hh, _, _, hs, _⟩
  · simp at h
  · simp at h
    obtain ⟨rfl, rfl⟩ := h
    exact ⟨cur, hh, hs⟩
/-- a cell of the row is stored behind what is laid -/
theorem NodesLaidF.set {w : World} {g n k i : Nat} {T : TypeId} {xs : List LNode} (h : NodesLaidF w g n k T xs) (hi : k * 8 ≤ i) (u : Value) : NodesLaidF (w.setCell ⟨g, i, none⟩ u) g n k T xs := by
  obtain ⟨cur, h1, h2⟩ := h.row
  refine ⟨⟨cur.setIfInBounds i u, heap_setCell_same w g i _ _ _ h1, by simpa using h2⟩, fun j x hj hx => ?_⟩
  obtain ⟨vk, vt, ve, hc, hv⟩ := h.at_ j x hj hx
  have o : ∀ t, t < 8 → (w.setCell ⟨g, i, none⟩ u).cell? ⟨g, j * 8 + t, none⟩ = w.cell? ⟨g, j * 8 + t, none⟩ := fun t ht => World.cell?_setCell_other _ _ _ _ (fun e => by have := congrArg Addr.off e; simp only at this; omega)
  have o0 := o 0 (by omega)
  rw [Nat.add_zero] at o0
  exact ⟨vk, vt, ve, ⟨o0.trans hc.c0, (o 1 (by omega)).trans hc.c1, (o 2 (by omega)).trans hc.c2, (o 3 (by omega)).trans hc.c3, (o 4 (by omega)).trans hc.c4, (o 5 (by omega)).trans hc.c5, (o 6 (by omega)).trans hc.c6, (o 7 (by omega)).trans hc.c7⟩, hv.set (by omega)⟩
theorem NodesLaidF.store8 {w : World} {g n k : Nat} {T : TypeId} {xs : List LNode} {x : LNode} {vk vt ve : Value} (h : NodesLaidF w g n k T xs) (hk : k < n) (hx : xs[k]? = some x) (hv : NodeValsF (g + 1) w x vk vt ve) :
    NodesLaidF (stored8 w g (k * 8) (.int .i64 x.kind) (.int .i64 x.op) (.string (bs x.name)) (.int .i64 x.num) (.int .i64 x.far) vk vt ve) g n (k + 1) T xs := by
  have c : ∀ t, t < 8 → ∃ y, w.cell? ⟨g, k * 8 + t, none⟩ = some y := fun t ht => (h.cell (by omega)).1
  obtain ⟨y0, c0⟩ := c 0 (by omega)
  obtain ⟨y1, c1⟩ := c 1 (by omega)
  obtain ⟨y2, c2⟩ := c 2 (by omega)
  obtain ⟨y3, c3⟩ := c 3 (by omega)
  obtain ⟨y4, c4⟩ := c 4 (by omega)
  obtain ⟨y5, c5⟩ := c 5 (by omega)
  obtain ⟨y6, c6⟩ := c 6 (by omega)
  obtain ⟨y7, c7⟩ := c 7 (by omega)
  rw [Nat.add_zero] at c0
  have hs := (((((((h.set (i := k * 8) (by omega) (.int .i64 x.kind)).set (i := k * 8 + 1) (by omega) (.int .i64 x.op)).set (i := k * 8 + 2) (by omega) (.string (bs x.name))).set (i := k * 8 + 3) (by omega) (.int .i64 x.num)).set (i := k * 8 + 4) (by omega) (.int .i64 x.far)).set (i := k * 8 + 5) (by omega) vk).set (i := k * 8 + 6) (by omega) vt).set (i := k * 8 + 7) (by omega) ve
  refine ⟨hs.row, fun j z hj hz => ?_⟩
  by_cases e : j = k
  · subst e
    obtain rfl : z = x := by rw [hx] at hz; exact (Option.some.inj hz).symm
    unfold stored8
    refine ⟨vk, vt, ve, ⟨?_, ?_, ?_, ?_, ?_, ?_, ?_, ?_⟩, ?_⟩
    · refine set_old ?_ (by omega); refine set_old ?_ (by omega); refine set_old ?_ (by omega); refine set_old ?_ (by omega); refine set_old ?_ (by omega); refine set_old ?_ (by omega); refine set_old ?_ (by omega); refine set_get (y := y0) ?_; exact c0
    · refine set_old ?_ (by omega); refine set_old ?_ (by omega); refine set_old ?_ (by omega); refine set_old ?_ (by omega); refine set_old ?_ (by omega); refine set_old ?_ (by omega); refine set_get (y := y1) ?_; refine set_old ?_ (by omega); exact c1
    · refine set_old ?_ (by omega); refine set_old ?_ (by omega); refine set_old ?_ (by omega); refine set_old ?_ (by omega); refine set_old ?_ (by omega); refine set_get (y := y2) ?_; refine set_old ?_ (by omega); refine set_old ?_ (by omega); exact c2
    · refine set_old ?_ (by omega); refine set_old ?_ (by omega); refine set_old ?_ (by omega); refine set_old ?_ (by omega); refine set_get (y := y3) ?_; refine set_old ?_ (by omega); refine set_old ?_ (by omega); refine set_old ?_ (by omega); exact c3
    · refine set_old ?_ (by omega); refine set_old ?_ (by omega); refine set_old ?_ (by omega); refine set_get (y := y4) ?_; refine set_old ?_ (by omega); refine set_old ?_ (by omega); refine set_old ?_ (by omega); refine set_old ?_ (by omega); exact c4
    · refine set_old ?_ (by omega); refine set_old ?_ (by omega); refine set_get (y := y5) ?_; refine set_old ?_ (by omega); refine set_old ?_ (by omega); refine set_old ?_ (by omega); refine set_old ?_ (by omega); refine set_old ?_ (by omega); exact c5
    · refine set_old ?_ (by omega); refine set_get (y := y6) ?_; refine set_old ?_ (by omega); refine set_old ?_ (by omega); refine set_old ?_ (by omega); refine set_old ?_ (by omega); refine set_old ?_ (by omega); refine set_old ?_ (by omega); exact c6
    · refine set_get (y := y7) ?_; refine set_old ?_ (by omega); refine set_old ?_ (by omega); refine set_old ?_ (by omega); refine set_old ?_ (by omega); refine set_old ?_ (by omega); refine set_old ?_ (by omega); refine set_old ?_ (by omega); exact c7
    · iterate 8 refine NodeValsF.set ?_ (by omega)
      exact hv
  · exact hs.at_ j z (by omega) hz
theorem nodes_of_laidF {w : World} {g n : Nat} {xs : List LNode} (h : NodesLaidF w g n n 92 xs) (hn : xs.length = n) : NodesF g w (.slice (some ⟨g, 0, none⟩) n n) xs := by
  obtain ⟨cur, h1, h2⟩ := h.row
  exact ⟨some ⟨g, 0, none⟩, n, by rw [hn], by omega, fun _ => ⟨g, 0, rfl, Nat.le_refl _, ⟨cur, h1, by omega⟩, fun i x hx => by
    have hi : i < n := by have := (List.getElem?_eq_some_iff.1 hx).1; omega
    rw [Nat.zero_add]
    exact (h.at_ i x hi hx).mono (by omega)⟩⟩

set_option maxHeartbeats 6400000 in
set_option maxRecDepth 100000 in
theorem toNodesF_any (lo : Nat) (v : Value) (xs : List LNode) (w : World) (h : NodesV lo w v xs) (hl : xs.length ≤ 1048576) (hz : ∀ n ∈ xs, n.kids.length ≤ 1048576 ∧ n.thn.length ≤ 1048576 ∧ n.els.length ≤ 1048576) :
    Calls Try.prog 30 #[v] w fun e w' => ∃ v', e = .returned v' ∧ NodesF w.heap.size w' v' xs ∧ Below w.heap.size w w' := by
  obtain ⟨a, c, rfl, hc, hhd⟩ := h
  obtain ⟨i0, hi, hz0, hz1, hz2⟩ := info_parts infoNode
  have hmax2 : xs.length ≤ maxLen := by unfold maxLen; omega
  have HHD : Hid (xs ≠ [] → ∃ b o, a = some ⟨b, o, none⟩ ∧ lo ≤ b ∧ ∀ (i : Nat) (x : LNode), xs[i]? = some x → NodeAt lo w b (o + i * 8) x) := hhd
  have HZ : Hid (∀ n ∈ xs, n.kids.length ≤ 1048576 ∧ n.thn.length ≤ 1048576 ∧ n.els.length ≤ 1048576) := hz
  clear hhd hc hz
  go_enter Try.func30, Try.ntmps30
  go_wp2_with (at_make; refine wpList_make_full _ rfl (.tmp 6) (.tmp 6) 32 rfl w.heap.size 92 i0 nodeZ 8 Try.underlying32 hi hz0 hz1 .i64 .i64 xs.length xs.length xs.length rfl rfl rfl rfl ?_ hmax2 (Nat.le_refl _) ?_)
  · rw [hz2]; omega
  · intro w1 hown hgrow
    have hB : Below w.heap.size w w1 := (Below.refl _ _).grown hgrow (Nat.le_refl _) (fun k hk => by cases hk)
    have hP : NodesLaidF w1 w.heap.size xs.length 0 92 xs := .of_own hown
    clear hgrow hown
    go_wp2
    go_loopw [4] (fun i wr => ∃ k : Nat, k ≤ xs.length ∧ i = .int .i64 k ∧ NodesLaidF wr w.heap.size xs.length k 92 xs ∧ Below w.heap.size w wr) (fun i _ => xs.length - (intOf i).toNat)
    case atStart => exact ⟨0, Nat.zero_le _, rfl, hP, hB⟩
    case round =>
      clear hP hB
      obtain ⟨k, hk, rfl, hP, hB⟩ := hrel
      have hgl : w.heap.size < wr.heap.size := hP.lt
      by_cases hlt : k < xs.length
      · obtain ⟨x, hx⟩ : ∃ x, xs[k]? = some x := ⟨xs[k], List.getElem?_eq_getElem hlt⟩
        obtain ⟨b, o, ha, _, hcl⟩ := HHD.out (by intro e; rw [e] at hlt; simp at hlt)
        subst ha
        obtain ⟨vk, vt, ve, hcs, hvs⟩ := hcl k x hx
        have hbl : b < w.heap.size := World.block_lt_of_cell? _ _ hcs.c0
        obtain ⟨c0, c1, c2, c3, c4, c5, c6, c7⟩ := hcs.keep (lo := 0) (fun g _ hg => hB.block g hg) (Nat.zero_le _)
        have hvs1 := hvs.keep (w' := wr) (fun g _ hg => hB.block g hg)
        obtain ⟨z1, z2, z3⟩ := HZ.out x (List.mem_of_getElem? hx)
        have hto : Hid (Calls Try.prog 63 #[nodeV x vk vt ve] wr fun e w' => ∃ vk' vt' ve', e = .returned (nodeV x vk' vt' ve') ∧ NodeValsF wr.heap.size w' x vk' vt' ve' ∧ Below wr.heap.size wr w') := toNodeF_any lo x vk vt ve wr hvs1 z1 z2 z3
        have HP : Hid (NodesLaidF wr w.heap.size xs.length k 92 xs) := hP
        have HX : Hid (xs[k]? = some x) := hx
        obtain ⟨ak, ck, rfl, _⟩ := id hvs1.kids
        obtain ⟨at_, ct, rfl, _⟩ := id hvs1.thn
        obtain ⟨ae, ce, rfl, _⟩ := id hvs1.els
        clear hcl hx hP hcs hvs hvs1 z1 z2 z3
        go_wp2_with fail
        refine hto.out.mono ?_
        rintro e w2 ⟨_, _, _, rfl, hv, hb⟩
        obtain ⟨ak', ck', rfl, _⟩ := id hv.kids
        obtain ⟨at', ct', rfl, _⟩ := id hv.thn
        obtain ⟨ae', ce', rfl, _⟩ := id hv.els
        have hP2 := HP.out.below hb
        have hB2 := hB.trans (hb.mono hB.size)
        have hgl2 : w.heap.size < w2.heap.size := Nat.lt_of_lt_of_le hgl hb.size
        obtain ⟨⟨y0, d0⟩, f0⟩ := hP2.cell (i := k * 8) (by omega)
        obtain ⟨⟨y1, d1⟩, f1⟩ := hP2.cell (i := k * 8 + 1) (by omega)
        obtain ⟨⟨y2, d2⟩, f2⟩ := hP2.cell (i := k * 8 + 2) (by omega)
        obtain ⟨⟨y3, d3⟩, f3⟩ := hP2.cell (i := k * 8 + 3) (by omega)
        obtain ⟨⟨y4, d4⟩, f4⟩ := hP2.cell (i := k * 8 + 4) (by omega)
        obtain ⟨⟨y5, d5⟩, f5⟩ := hP2.cell (i := k * 8 + 5) (by omega)
        obtain ⟨⟨y6, d6⟩, f6⟩ := hP2.cell (i := k * 8 + 6) (by omega)
        obtain ⟨⟨y7, d7⟩, f7⟩ := hP2.cell (i := k * 8 + 7) (by omega)
        have E3 : Hid (NodesLaidF (stored8 w2 w.heap.size (k * 8) (.int .i64 x.kind) (.int .i64 x.op) (.string (bs x.name)) (.int .i64 x.num) (.int .i64 x.far) (.slice ak' x.kids.length ck') (.slice at' x.thn.length ct') (.slice ae' x.els.length ce')) w.heap.size xs.length (k + 1) 92 xs) := hP2.store8 hlt HX.out (hv.mono hgl)
        have B3 : Hid (Below w.heap.size w (stored8 w2 w.heap.size (k * 8) (.int .i64 x.kind) (.int .i64 x.op) (.string (bs x.name)) (.int .i64 x.num) (.int .i64 x.far) (.slice ak' x.kids.length ck') (.slice at' x.thn.length ct') (.slice ae' x.els.length ce'))) := below_stored8 hB2 (Nat.le_refl _)
        clear hP2 hb hB hB2 HP c0 c1 c2 c3 c4 c5 c6 c7 hto hv
        go_wp2_with fail
        go_roundw
        case rel => exact ⟨k + 1, by omega, by go_num, E3.out, B3.out⟩
        case measure => simp [intOf]; omega
      · have hke : k = xs.length := by omega
        subst hke
        have HP : Hid (NodesF w.heap.size wr (.slice (some ⟨w.heap.size, 0, none⟩) xs.length xs.length) xs) := nodes_of_laidF hP rfl
        clear hP
        go_wp2
        go_ret
        exact ⟨_, rfl, HP.out, hB⟩
end Go.Proofs.Ytanalajojjpjnaa
namespace Go.Proofs.Ytanalajojjpjnaa
open Go.RowKit
set_option linter.unusedVariables false
attribute [local go_sem] bs_size bs_get bs_extract bs_append bs_eq bs_toList

set_option maxHeartbeats 6400000 in
set_option maxRecDepth 100000 in
theorem toTreeF_any (lo : Nat) (T : LTree) (vv vn vb : Value) (w : World) (h : TreeV lo w vv vn vb T) (hz : Sized 1048576 T) :
    Calls Try.prog 9 #[treeV vv vn vb] w fun e w' => ∃ vv' vn' vb', e = .returned (treeV vv' vn' vb') ∧ TreeF w.heap.size w' vv' vn' vb' T ∧ Below w.heap.size w w' := by
  obtain ⟨av, cv, rfl, _⟩ := id h.vars
  obtain ⟨an, cn, rfl, _⟩ := id h.nodes
  obtain ⟨ab, cb, rfl, _⟩ := id h.body
  have HV : Hid (TreeV lo w (.slice av T.vars.length cv) (.slice an T.nodes.length cn) (.slice ab T.body.length cb) T) := h
  have HZ : Hid (Sized 1048576 T) := hz
  clear h hz
  go_enter Try.func9, Try.ntmps9
  go_wp2_with fail
  obtain ⟨W, hW⟩ : ∃ W, W = (((w.alloc (.cells #[.slice av T.vars.length cv, .slice an T.nodes.length cn, .slice ab T.body.length cb] 26)).alloc (.cells #[.slice none 0 0, .slice none 0 0, .slice none 0 0] 34)).alloc (.cells #[.slice none 0 0, .slice none 0 0, .slice none 0 0] 34)) := ⟨_, rfl⟩
  have hbW : Below w.heap.size w W := by rw [hW]; exact (((Below.refl _ _).alloc (Nat.le_refl _) _).alloc (by simp) _).alloc (by simp; omega) _
  have hA : W.heap[w.heap.size]? = some (.cells #[.slice av T.vars.length cv, .slice an T.nodes.length cn, .slice ab T.body.length cb] 26 (0, 0)) := by
    rw [hW, Below.heap_alloc _ _ _ (by simp; omega), Below.heap_alloc _ _ _ (by simp)]; exact heap_alloc_new w _
  have hR : W.heap[w.heap.size + 1]? = some (.cells #[.slice none 0 0, .slice none 0 0, .slice none 0 0] 34 (0, 0)) := by
    rw [hW, Below.heap_alloc _ _ _ (by simp)]
    have h := heap_alloc_new (w.alloc (.cells #[.slice av T.vars.length cv, .slice an T.nodes.length cn, .slice ab T.body.length cb] 26)) (.cells #[.slice none 0 0, .slice none 0 0, .slice none 0 0] 34)
    rwa [show (w.alloc (.cells #[.slice av T.vars.length cv, .slice an T.nodes.length cn, .slice ab T.body.length cb] 26)).heap.size = w.heap.size + 1 from by simp] at h
  have hO : W.heap[w.heap.size + 1 + 1]? = some (.cells #[.slice none 0 0, .slice none 0 0, .slice none 0 0] 34 (0, 0)) := by
    rw [hW]
    have h := heap_alloc_new ((w.alloc (.cells #[.slice av T.vars.length cv, .slice an T.nodes.length cn, .slice ab T.body.length cb] 26)).alloc (.cells #[.slice none 0 0, .slice none 0 0, .slice none 0 0] 34)) (.cells #[.slice none 0 0, .slice none 0 0, .slice none 0 0] 34)
    rwa [show ((w.alloc (.cells #[.slice av T.vars.length cv, .slice an T.nodes.length cn, .slice ab T.body.length cb] 26)).alloc (.cells #[.slice none 0 0, .slice none 0 0, .slice none 0 0] 34)).heap.size = w.heap.size + 1 + 1 from by simp] at h
  rw [← hW]
  clear hW
  refine (toVarsF_any lo _ _ _ (HV.out.below hbW).vars HZ.out.vars).mono ?_
  rintro e wv ⟨_, rfl, hv, hb⟩
  obtain ⟨av', cv', rfl, _⟩ := id hv
  have hbC := hbW.trans (hb.mono hbW.size)
  have hAc := blk hA hb
  have hRc := blk hR hb
  have hOc := blk hO hb
  have hv1 : VarsF (w.heap.size + 3) wv (.slice av' T.vars.length cv') T.vars := hv.mono (blk_lt hO)
  have HA : Hid ((wv.setCell ⟨w.heap.size + 1 + 1, 0, none⟩ (.slice av' T.vars.length cv')).heap[w.heap.size]? = some (.cells #[.slice av T.vars.length cv, .slice an T.nodes.length cn, .slice ab T.body.length cb] 26 (0, 0))) := blk_set _ hAc (by omega)
  have HR : Hid ((wv.setCell ⟨w.heap.size + 1 + 1, 0, none⟩ (.slice av' T.vars.length cv')).heap[w.heap.size + 1]? = some (.cells #[.slice none 0 0, .slice none 0 0, .slice none 0 0] 34 (0, 0))) := blk_set _ hRc (by omega)
  have HO : Hid ((wv.setCell ⟨w.heap.size + 1 + 1, 0, none⟩ (.slice av' T.vars.length cv')).heap[w.heap.size + 1 + 1]? = some (.cells #[.slice av' T.vars.length cv', .slice none 0 0, .slice none 0 0] 34 (0, 0))) := by have h := heap_setCell_same wv (w.heap.size + 1 + 1) 0 _ _ (.slice av' T.vars.length cv') hOc; exact h
  have HB : Hid (Below w.heap.size w (wv.setCell ⟨w.heap.size + 1 + 1, 0, none⟩ (.slice av' T.vars.length cv'))) := hbC.trans (below_set _ _ _ _ (by omega))
  have o0 := cell_of_row _ _ 0 _ _ _ hOc
  have g0 := frozen_of_row _ _ 0 _ _ hOc
  simp at o0
  have b1 := cell_of_row _ _ 1 _ _ _ HA.out
  simp at b1
  have Hv : Hid (VarsF (w.heap.size + 3) (wv.setCell ⟨w.heap.size + 1 + 1, 0, none⟩ (.slice av' T.vars.length cv')) (.slice av' T.vars.length cv') T.vars) := hv1.keep (keeps_set _ _ _ _ _ (by omega))
  clear hA hR hO hbW hb hbC hAc hRc hOc hv hv1
  go_wp2_with fail
  have hA := HA.out
  have hR := HR.out
  have hO := HO.out
  have hbW := HB.out
  have hvS := Hv.out
  clear HA HR HO HB Hv b1 o0 g0
  generalize wv.setCell ⟨w.heap.size + 1 + 1, 0, none⟩ (.slice av' T.vars.length cv') = W at *
  refine (toNodesF_any lo _ _ _ (HV.out.below hbW).nodes HZ.out.nodes (fun n hn => (HZ.out.node n hn).2)).mono ?_
  rintro e wn ⟨_, rfl, hn, hb⟩
  obtain ⟨an', cn', rfl, _⟩ := id hn
  have hbC := hbW.trans (hb.mono hbW.size)
  have hAc := blk hA hb
  have hRc := blk hR hb
  have hOc := blk hO hb
  have hn1 : NodesF (w.heap.size + 3) wn (.slice an' T.nodes.length cn') T.nodes := hn.mono (blk_lt hO)
  have hvC := hvS.below hb
  have HA : Hid ((wn.setCell ⟨w.heap.size + 1 + 1, 1, none⟩ (.slice an' T.nodes.length cn')).heap[w.heap.size]? = some (.cells #[.slice av T.vars.length cv, .slice an T.nodes.length cn, .slice ab T.body.length cb] 26 (0, 0))) := blk_set _ hAc (by omega)
  have HR : Hid ((wn.setCell ⟨w.heap.size + 1 + 1, 1, none⟩ (.slice an' T.nodes.length cn')).heap[w.heap.size + 1]? = some (.cells #[.slice none 0 0, .slice none 0 0, .slice none 0 0] 34 (0, 0))) := blk_set _ hRc (by omega)
  have HO : Hid ((wn.setCell ⟨w.heap.size + 1 + 1, 1, none⟩ (.slice an' T.nodes.length cn')).heap[w.heap.size + 1 + 1]? = some (.cells #[.slice av' T.vars.length cv', .slice an' T.nodes.length cn', .slice none 0 0] 34 (0, 0))) := by have h := heap_setCell_same wn (w.heap.size + 1 + 1) 1 _ _ (.slice an' T.nodes.length cn') hOc; exact h
  have HB : Hid (Below w.heap.size w (wn.setCell ⟨w.heap.size + 1 + 1, 1, none⟩ (.slice an' T.nodes.length cn'))) := hbC.trans (below_set _ _ _ _ (by omega))
  have o1 := cell_of_row _ _ 1 _ _ _ hOc
  have g1 := frozen_of_row _ _ 1 _ _ hOc
  simp at o1
  have b2 := cell_of_row _ _ 2 _ _ _ HA.out
  simp at b2
  have Hv : Hid (VarsF (w.heap.size + 3) (wn.setCell ⟨w.heap.size + 1 + 1, 1, none⟩ (.slice an' T.nodes.length cn')) (.slice av' T.vars.length cv') T.vars) := hvC.keep (keeps_set _ _ _ _ _ (by omega))
  have Hn : Hid (NodesF (w.heap.size + 3) (wn.setCell ⟨w.heap.size + 1 + 1, 1, none⟩ (.slice an' T.nodes.length cn')) (.slice an' T.nodes.length cn') T.nodes) := hn1.keep (keeps_set _ _ _ _ _ (by omega))
  clear hA hR hO hbW hb hbC hAc hRc hOc hn hn1 hvS hvC
  go_wp2_with fail
  have hA := HA.out
  have hR := HR.out
  have hO := HO.out
  have hbW := HB.out
  have hvS := Hv.out
  have hnS := Hn.out
  clear HA HR HO HB Hv Hn b2 o1 g1
  generalize wn.setCell ⟨w.heap.size + 1 + 1, 1, none⟩ (.slice an' T.nodes.length cn') = W at *
  refine (toIntsF_any lo _ _ _ (HV.out.below hbW).body HZ.out.body).mono ?_
  rintro e wd ⟨_, rfl, hd, hb⟩
  obtain ⟨ad', cd', rfl, _⟩ := id hd
  have hbC := hbW.trans (hb.mono hbW.size)
  have hAc := blk hA hb
  have hRc := blk hR hb
  have hOc := blk hO hb
  have hd1 : IntsF (w.heap.size + 3) wd (.slice ad' T.body.length cd') T.body := hd.mono (blk_lt hO)
  have hvC := hvS.below hb
  have hnC := hnS.below hb
  have HA : Hid ((wd.setCell ⟨w.heap.size + 1 + 1, 2, none⟩ (.slice ad' T.body.length cd')).heap[w.heap.size]? = some (.cells #[.slice av T.vars.length cv, .slice an T.nodes.length cn, .slice ab T.body.length cb] 26 (0, 0))) := blk_set _ hAc (by omega)
  have HR : Hid ((wd.setCell ⟨w.heap.size + 1 + 1, 2, none⟩ (.slice ad' T.body.length cd')).heap[w.heap.size + 1]? = some (.cells #[.slice none 0 0, .slice none 0 0, .slice none 0 0] 34 (0, 0))) := blk_set _ hRc (by omega)
  have HO : Hid ((wd.setCell ⟨w.heap.size + 1 + 1, 2, none⟩ (.slice ad' T.body.length cd')).heap[w.heap.size + 1 + 1]? = some (.cells #[.slice av' T.vars.length cv', .slice an' T.nodes.length cn', .slice ad' T.body.length cd'] 34 (0, 0))) := by have h := heap_setCell_same wd (w.heap.size + 1 + 1) 2 _ _ (.slice ad' T.body.length cd') hOc; exact h
  have HB : Hid (Below w.heap.size w (wd.setCell ⟨w.heap.size + 1 + 1, 2, none⟩ (.slice ad' T.body.length cd'))) := hbC.trans (below_set _ _ _ _ (by omega))
  have o2 := cell_of_row _ _ 2 _ _ _ hOc
  have g2 := frozen_of_row _ _ 2 _ _ hOc
  simp at o2
  have Hv : Hid (VarsF (w.heap.size + 3) (wd.setCell ⟨w.heap.size + 1 + 1, 2, none⟩ (.slice ad' T.body.length cd')) (.slice av' T.vars.length cv') T.vars) := hvC.keep (keeps_set _ _ _ _ _ (by omega))
  have Hn : Hid (NodesF (w.heap.size + 3) (wd.setCell ⟨w.heap.size + 1 + 1, 2, none⟩ (.slice ad' T.body.length cd')) (.slice an' T.nodes.length cn') T.nodes) := hnC.keep (keeps_set _ _ _ _ _ (by omega))
  have Hd : Hid (IntsF (w.heap.size + 3) (wd.setCell ⟨w.heap.size + 1 + 1, 2, none⟩ (.slice ad' T.body.length cd')) (.slice ad' T.body.length cd') T.body) := hd1.keep (keeps_set _ _ _ _ _ (by omega))
  clear hA hR hO hbW hb hbC hAc hRc hOc hd hd1 hvS hvC hnS hnC
  have O0 := cell_of_row _ _ 0 _ _ _ HO.out
  have O1 := cell_of_row _ _ 1 _ _ _ HO.out
  have O2 := cell_of_row _ _ 2 _ _ _ HO.out
  have R0 := cell_of_row _ _ 0 _ _ _ HR.out
  have R1 := cell_of_row _ _ 1 _ _ _ HR.out
  have R2 := cell_of_row _ _ 2 _ _ _ HR.out
  have G0 := frozen_of_row _ _ 0 _ _ HR.out
  have G1 := frozen_of_row _ _ 1 _ _ HR.out
  have G2 := frozen_of_row _ _ 2 _ _ HR.out
  simp at O0 O1 O2 R0 R1 R2
  go_wp2
  refine bodyPost_ret (v := treeV (.slice av' T.vars.length cv') (.slice an' T.nodes.length cn') (.slice ad' T.body.length cd')) (by simp [results, Try.results9, go_sem, R0, R1, R2]) rfl ⟨_, _, _, rfl, ?_, ?_⟩
  · refine TreeF.mono ?_ (by omega : w.heap.size ≤ w.heap.size + 3)
    refine TreeF.keep ⟨Hv.out, Hn.out, Hd.out⟩ (fun b hb hl => ?_)
    rw [Below.heap_setCell _ _ _ _ (by simp; omega), Below.heap_setCell _ _ _ _ (by simp; omega), Below.heap_setCell _ _ _ _ (by simp; omega)]
  · refine Below.trans ?_ (below_set _ _ _ _ (by omega))
    refine Below.trans ?_ (below_set _ _ _ _ (by omega))
    refine Below.trans ?_ (below_set _ _ _ _ (by omega))
    exact HB.out
end Go.Proofs.Ytanalajojjpjnaa
namespace Go.Proofs.Ytanalajojjpjnaa
open Go.RowKit
set_option linter.unusedVariables false
attribute [local go_sem] bs_size bs_get bs_extract bs_append bs_eq bs_toList

/-- a digit's byte -/
def dg (m : Nat) : UInt8 := UInt8.ofNat (48 + m % 10)
theorem dg_val (m : Nat) : (dg m).toNat = 48 + m % 10 := by unfold dg; simp; omega
def mtF : Nat → Nat → List UInt8 → List UInt8
  | 0, _, out => out
  | f + 1, k, out => if k = 0 then out else mtF f (k / 10) (dg k :: out)
theorem mtF_fuel : ∀ (f f' k : Nat) (out : List UInt8), k ≤ f → k ≤ f' → mtF f k out = mtF f' k out := by
  intro f
  induction f with
  | zero => intro f' k out h h'; have : k = 0 := by omega
            subst this; cases f' <;> simp [mtF]
  | succ f ih =>
    intro f' k out h h'
    by_cases hk : k = 0
    · subst hk; cases f' <;> simp [mtF]
    · cases f' with
      | zero => omega
      | succ f' =>
        simp only [mtF, if_neg hk]
        exact ih f' _ _ (by omega) (by omega)
def mt (k : Nat) : List UInt8 := if k = 0 then [109, 48] else 109 :: mtF k k []
theorem mtF_step (k : Nat) (out : List UInt8) (h : k ≠ 0) : mtF k k out = mtF (k / 10) (k / 10) (dg k :: out) := by
  cases k with
  | zero => exact absurd rfl h
  | succ k =>
    have e : mtF (k + 1) (k + 1) out = mtF k ((k + 1) / 10) (dg (k + 1) :: out) := by simp [mtF]
    rw [e]
    exact mtF_fuel _ _ _ _ (by omega) (Nat.le_refl _)

theorem conv1 (w : World) (m g : Nat) (hc : w.cell? ⟨g, 0, none⟩ = some (.int .u8 (48 + (m : Int) % 10))) :
    (convert 121 9 (.slice (some ⟨g, 0, none⟩) 1 1)).run Try.prog w = .ok (.string (bs [dg m])) w := by
  have h := run_convert_bytes_back (P := Try.prog) w 121 9 5 ⟨g, 0, none⟩ 1 [dg m] Try.underlying121 Try.underlying5 Try.underlying9 (by
    intro j hj
    match j, hj with
    | 0, _ =>
      show w.cell? (Addr.add ⟨g, 0, none⟩ 0) = some (.int .u8 (((dg m).toNat : Nat) : Int))
      rw [dg_val]
      simp [Addr.add, hc])
  exact h

theorem retSB {a b : ByteArray} (h : a = b) : Ending.returned (.string a) = Ending.returned (.string b) := by rw [h]
set_option maxHeartbeats 1600000 in
set_option maxRecDepth 20000 in
theorem markText_any (k : Nat) (w : World) (hk : k ≤ 1000000000000000) : Calls Try.prog 78 #[.int .i64 k] w fun e w' => e = .returned (.string (bs (mt k))) ∧ Below w.heap.size w w' := by
  by_cases h0 : k = 0
  · subst h0
    go_enter Try.func78, Try.ntmps78
    go_wp2
    go_ret
    exact ⟨rfl, Below.refl _ _⟩
  · have hm : mt k = 109 :: mtF k k [] := if_neg h0
    rw [hm]
    have hk0 : (0 : Int) < (k : Int) := by omega
    clear hm h0
    go_enter Try.func78, Try.ntmps78
    go_wp2
    go_loopw [0, 3] (fun v o wr => ∃ (m : Nat) (out : List UInt8), v = .int .i64 m ∧ o = .string (bs out) ∧ out.length + m ≤ k ∧ mtF m m out = mtF k k [] ∧ Below w.heap.size w wr) (fun v _ _ => (intOf v).toNat)
    case atStart => exact ⟨k, [], rfl, rfl, by simp, rfl, Below.refl _ _⟩
    case round =>
      obtain ⟨m, out, rfl, rfl, hmo, hmt, hB⟩ := hrel
      have HMT : Hid (mtF m m out = mtF k k []) := hmt
      have hB' := hB.alloc hB.size (.cells #[.int .u8 (48 + (m : Int) % 10)] 5)
      clear hmt
      by_cases hm : m = 0
      · subst hm
        clear hB'
        go_wp2
        go_ret
        refine ⟨?_, hB⟩
        rw [← HMT.out]
        refine retSB ?_
        rw [show (ByteArray.mk #[109]) = bs [109] from rfl, bs_append]
        rfl
      · have hm0 : (0 : Int) < (m : Int) := by omega
        have HNE : Hid (m ≠ 0) := hm
        clear hm
        have hcv := conv1 (wr.alloc (.cells #[.int .u8 (48 + (m : Int) % 10)] 5)) m wr.heap.size (by simp)
        go_wp2
        go_roundw
        case rel => exact ⟨m / 10, dg m :: out, by go_num, by first | rfl | (rw [bs_append]; rfl), by simp; omega, by rw [← HMT.out, mtF_step m out HNE.out], hB'⟩
        case measure => simp [intOf]; omega
end Go.Proofs.Ytanalajojjpjnaa
namespace Go.Proofs.Ytanalajojjpjnaa
open Go.RowKit
set_option linter.unusedVariables false
attribute [local go_sem] bs_size bs_get bs_extract bs_append bs_eq bs_toList

/-- only blocks from lo on and below hi are turned (and new ones laid), and none in its type or size -/
structure Mk (lo hi : Nat) (w w' : World) : Prop where
  bel : Below lo w w'
  out : ∀ b, hi ≤ b → b < w.heap.size → w'.heap[b]? = w.heap[b]?
  typ : ∀ (b : Nat) (cs : Array Value) (T : TypeId), w.heap[b]? = some (.cells cs T (0, 0)) → ∃ cs' : Array Value, w'.heap[b]? = some (.cells cs' T (0, 0)) ∧ cs'.size = cs.size
theorem Mk.refl (lo hi : Nat) (w : World) : Mk lo hi w w := ⟨Below.refl _ _, fun _ _ _ => rfl, fun b cs T h => ⟨cs, h, rfl⟩⟩
theorem Mk.trans {lo hi : Nat} {a b c : World} (h : Mk lo hi a b) (k : Mk lo hi b c) : Mk lo hi a c :=
  ⟨h.bel.trans k.bel, fun x hx hl => (k.out x hx (Nat.lt_of_lt_of_le hl h.bel.size)).trans (h.out x hx hl), fun x cs T hc => by
    obtain ⟨c1, h1, e1⟩ := h.typ x cs T hc
    obtain ⟨c2, h2, e2⟩ := k.typ x c1 T h1
    exact ⟨c2, h2, e2.trans e1⟩⟩
theorem Mk.of_below {lo hi : Nat} {w w' : World} (h : Below w.heap.size w w') (hl : lo ≤ w.heap.size) : Mk lo hi w w' :=
  ⟨h.mono hl, fun b _ hb => h.block b hb, fun b cs T hc => ⟨cs, blk hc h, rfl⟩⟩
theorem Mk.set {lo hi g : Nat} {w : World} (hl : lo ≤ g) (hh : g < hi) (i : Nat) (u : Value) (hc : ∃ (cs : Array Value) (T : TypeId), w.heap[g]? = some (.cells cs T (0, 0))) : Mk lo hi w (w.setCell ⟨g, i, none⟩ u) := by
  refine ⟨below_set w g i u hl, fun b hb _ => Below.heap_setCell _ _ _ _ (by simp; omega), fun b cs T h => ?_⟩
  by_cases e : b = g
  · subst e
    exact ⟨_, heap_setCell_same w b i _ _ u h, by simp⟩
  · exact ⟨cs, (Below.heap_setCell _ _ _ _ (by simpa using e)).trans h, rfl⟩
/-- blocks of a type are as they were -/
def SameT (T : TypeId) (w w' : World) : Prop := ∀ (b : Nat) (cs : Array Value), w.heap[b]? = some (.cells cs T (0, 0)) → w'.heap[b]? = some (.cells cs T (0, 0))
theorem SameT.refl (T : TypeId) (w : World) : SameT T w w := fun _ _ h => h
theorem SameT.trans {T : TypeId} {a b c : World} (h : SameT T a b) (k : SameT T b c) : SameT T a c := fun x cs hc => k x cs (h x cs hc)
theorem SameT.of_below {T : TypeId} {w w' : World} (h : Below w.heap.size w w') : SameT T w w' := fun b cs hc => blk hc h
theorem SameT.set {T U : TypeId} {g : Nat} {w : World} {cs : Array Value} (hc : w.heap[g]? = some (.cells cs U (0, 0))) (hne : U ≠ T) (i : Nat) (u : Value) : SameT T w (w.setCell ⟨g, i, none⟩ u) := fun b ds hb => by
  have e : b ≠ g := fun e => by subst e; rw [hc] at hb; simp at hb; exact hne hb.2
  exact (Below.heap_setCell _ _ _ _ (by simpa using e)).trans hb

/-- n cells of numbers at a value's place, in a block from lo on and below hi -/
def RoomI (lo hi : Nat) (w : World) (v : Value) (n : Nat) : Prop :=
  ∃ a c, v = .slice a n c ∧ (n ≠ 0 → ∃ b o, a = some ⟨b, o, none⟩ ∧ lo ≤ b ∧ b < hi ∧ ∃ cs, w.heap[b]? = some (.cells cs 2 (0, 0)) ∧ o + n ≤ cs.size)
theorem RoomI.keep {lo hi n : Nat} {w w' : World} {v : Value} (h : RoomI lo hi w v n) (hm : Mk lo hi w w') : RoomI lo hi w' v n := by
  obtain ⟨a, c, e, h3⟩ := h
  refine ⟨a, c, e, fun hn => ?_⟩
  obtain ⟨b, o, e, h1, h2, cs, h4, h5⟩ := h3 hn
  obtain ⟨cs', h6, h7⟩ := hm.typ b cs _ h4
  exact ⟨b, o, e, h1, h2, cs', h6, by omega⟩
theorem RoomI.of_ints {lo hi : Nat} {w : World} {v : Value} {xs : List Int} (h : IntsF lo w v xs) (hh : w.heap.size ≤ hi) : RoomI lo hi w v xs.length := by
  obtain ⟨a, c, e, _, h3⟩ := h
  refine ⟨a, c, e, fun hn => ?_⟩
  obtain ⟨b, o, e, h1, ⟨cs, h4, h5⟩, _⟩ := h3 (by intro e; rw [e] at hn; exact hn rfl)
  exact ⟨b, o, e, h1, Nat.lt_of_lt_of_le (blk_lt h4) hh, cs, h4, h5⟩
theorem room_cell {w : World} {b i : Nat} {cs : Array Value} {T : TypeId} (h : w.heap[b]? = some (.cells cs T (0, 0))) (hi : i < cs.size) : (∃ y, w.cell? ⟨b, i, none⟩ = some y) ∧ w.frozen? ⟨b, i, none⟩ = false := by
  refine ⟨⟨cs[i], ?_⟩, frozen_of_row _ _ _ _ _ h⟩
  rw [cell_of_row _ _ _ _ _ _ h]
  exact Array.getElem?_eq_getElem hi

set_option maxHeartbeats 3200000 in
set_option maxRecDepth 100000 in
theorem markInts_room (lo hi n : Nat) (v : Value) (k : Nat) (w : World) (h : RoomI lo hi w v n) (hn : n ≤ 1048576) (hk : k ≤ 100000000000000) :
    Calls Try.prog 49 #[v, .int .i64 k] w fun e w' => e = .returned (.int .i64 ((k + n : Nat) : Int)) ∧ Mk lo hi w w' ∧ SameT 92 w w' ∧ SameT 73 w w' ∧ w'.heap.size = w.heap.size := by
  obtain ⟨a, c, rfl, hh⟩ := h
  have HH : Hid (n ≠ 0 → ∃ b o, a = some ⟨b, o, none⟩ ∧ lo ≤ b ∧ b < hi ∧ ∃ cs, w.heap[b]? = some (.cells cs 2 (0, 0)) ∧ o + n ≤ cs.size) := hh
  clear hh
  go_enter Try.func49, Try.ntmps49
  go_wp2
  go_loopw [1, 5] (fun x i wr => ∃ j : Nat, j ≤ n ∧ i = .int .i64 j ∧ x = .int .i64 ((k + j : Nat) : Int) ∧ Mk lo hi w wr ∧ SameT 92 w wr ∧ SameT 73 w wr ∧ wr.heap.size = w.heap.size) (fun _ i _ => n - (intOf i).toNat)
  case atStart => exact ⟨0, Nat.zero_le _, rfl, rfl, Mk.refl _ _ _, SameT.refl _ _, SameT.refl _ _, rfl⟩
  case round =>
    obtain ⟨j, hj, rfl, rfl, hm, hs1, hs2, hz⟩ := hrel
    have HM : Hid (Mk lo hi w wr ∧ SameT 92 w wr ∧ SameT 73 w wr ∧ wr.heap.size = w.heap.size) := ⟨hm, hs1, hs2, hz⟩
    by_cases hlt : j < n
    · obtain ⟨b, o, rfl, hb1, hb2, cs, hc, hsz⟩ := HH.out (by omega)
      obtain ⟨cs', hc', hsz'⟩ := hm.typ b cs _ hc
      obtain ⟨⟨y, hy⟩, hf⟩ := room_cell (i := o + j) hc' (by omega)
      have hbl := blk_lt hc'
      have HS : Hid (Mk lo hi w (wr.setCell ⟨b, o + j, none⟩ (.int .i64 ((k + j : Nat) : Int))) ∧ SameT 92 w (wr.setCell ⟨b, o + j, none⟩ (.int .i64 ((k + j : Nat) : Int))) ∧ SameT 73 w (wr.setCell ⟨b, o + j, none⟩ (.int .i64 ((k + j : Nat) : Int))) ∧ (wr.setCell ⟨b, o + j, none⟩ (.int .i64 ((k + j : Nat) : Int))).heap.size = w.heap.size) :=
        ⟨hm.trans (Mk.set hb1 hb2 _ _ ⟨_, _, hc'⟩), hs1.trans (SameT.set hc' (by decide) _ _), hs2.trans (SameT.set hc' (by decide) _ _), by rw [World.size_setCell]; exact hz⟩
      have hj0 : (0 : Int) ≤ (j : Int) := by omega
      have hj1 : (j : Int) < (n : Int) := by omega
      clear hm hs1 hs2 hz hc hc' hsz hsz'
      go_wp2
      go_roundw
      case rel => exact ⟨j + 1, by omega, by go_num, by go_num, HS.out⟩
      case measure => simp [intOf]; omega
    · have hj2 : j = n := by omega
      subst hj2
      clear hm hs1 hs2 hz
      go_wp2
      go_ret
      exact ⟨rfl, HM.out⟩
end Go.Proofs.Ytanalajojjpjnaa
namespace Go.Proofs.Ytanalajojjpjnaa
open Go.RowKit
set_option linter.unusedVariables false
attribute [local go_sem] bs_size bs_get bs_extract bs_append bs_eq bs_toList

/-- texts in a row -/
def RowS (w : World) (a : Option Addr) (L : List (List UInt8)) : Prop := L ≠ [] → ∃ g, a = some ⟨g, 0, none⟩ ∧ ∀ (i : Nat) (x : List UInt8), L[i]? = some x → w.cell? ⟨g, i, none⟩ = some (.string (bs x))
theorem RowS.of_own {w : World} {B n c : Nat} {a : Option Addr} {L : List (List UInt8)} (h : w.ownsRow B 9 1 (.slice a n c) n (namC L)) (hn : n = L.length) : RowS w a L := by
  intro hne
  subst hn
  have hp : 0 < L.length := List.length_pos_iff.2 hne
  obtain ⟨g, c', e, _, _, hc⟩ := rowE_cells h hp (by rw [namC_len, Nat.mul_one])
  simp at e
  refine ⟨g, e.1, fun i x hx => ?_⟩
  have hi := (List.getElem?_eq_some_iff.1 hx).1
  rw [hc i (by omega)]
  unfold namC; rw [List.getElem?_map, hx]; rfl
theorem RowS.same {w w' : World} {a : Option Addr} {L : List (List UInt8)} (h : RowS w a L) (hs : ∀ g, a = some ⟨g, 0, none⟩ → L ≠ [] → w'.heap[g]? = w.heap[g]?) : RowS w' a L := fun hne => by
  obtain ⟨g, e, hc⟩ := h hne
  exact ⟨g, e, fun i x hx => by rw [World.cell?_of_block (a := ⟨g, i, none⟩) (hs g e hne)]; exact hc i x hx⟩
theorem RowS.below {w w' : World} {a : Option Addr} {L : List (List UInt8)} (h : RowS w a L) (hb : Below w.heap.size w w') : RowS w' a L := fun hne => by
  obtain ⟨g, e, hc⟩ := h hne
  exact ⟨g, e, fun i x hx => (Keeps.of_below (lo := 0) hb).cell (p := ⟨g, i, none⟩) (Nat.zero_le _) (hc i x hx)⟩

set_option maxHeartbeats 3200000 in
theorem eqStrs_any (a b : Option Addr) (L : List (List UInt8)) (ca cb : Nat) (w : World) (hl : L.length ≤ 1048576) (ha : RowS w a L) (hb : RowS w b L) :
    Calls Try.prog 46 #[.slice a L.length ca, .slice b L.length cb] w fun e w' => e = .returned (.bool true) ∧ Below w.heap.size w w' := by
  have HA : Hid (RowS w a L) := ha
  have HB : Hid (RowS w b L) := hb
  clear ha hb
  go_enter Try.func46, Try.ntmps46
  go_wp2
  go_loopw [5] (fun i wr => ∃ j : Nat, j ≤ L.length ∧ i = .int .i64 j ∧ Below w.heap.size w wr) (fun i _ => L.length - (intOf i).toNat)
  case atStart => exact ⟨0, Nat.zero_le _, rfl, Below.refl _ _⟩
  case round =>
    obtain ⟨j, hj, rfl, hB⟩ := hrel
    by_cases hlt : j < L.length
    · obtain ⟨x, hx⟩ : ∃ x, L[j]? = some x := ⟨L[j], List.getElem?_eq_getElem hlt⟩
      have hne : L ≠ [] := by intro e; rw [e] at hlt; simp at hlt
      obtain ⟨g, rfl, hc⟩ := HA.out hne
      obtain ⟨g2, rfl, hc2⟩ := HB.out hne
      have c0 := (Keeps.of_below (lo := 0) hB).cell (p := ⟨g, j, none⟩) (Nat.zero_le _) (hc j x hx)
      have c1 := (Keeps.of_below (lo := 0) hB).cell (p := ⟨g2, j, none⟩) (Nat.zero_le _) (hc2 j x hx)
      have hj0 : (0 : Int) ≤ (j : Int) := by omega
      have hj1 : (j : Int) < (L.length : Int) := by omega
      clear hc hc2 hx hne
      go_wp2_with fail
      go_quiet (fail)
      go_wp2_with fail
      go_roundw
      case rel => exact ⟨j + 1, by omega, by go_num, ⟨hB.os, hB.tape, hB.output, hB.size, hB.block⟩⟩
      case measure => simp [intOf]; omega
    · have hje : j = L.length := by omega
      subst hje
      go_wp2
      go_ret
      exact ⟨rfl, hB⟩

abbrev namR (c : Int) (v : Value) : Value := .agg #[.int .i64 c, v]
set_option maxHeartbeats 3200000 in
theorem eqNames_any (c : Int) (a b : Option Addr) (L : List (List UInt8)) (ca cb : Nat) (w : World) (hl : L.length ≤ 1048576) (ha : RowS w a L) (hb : RowS w b L) :
    Calls Try.prog 19 #[namR c (.slice a L.length ca), namR c (.slice b L.length cb)] w fun e w' => e = .returned (.bool true) ∧ Below w.heap.size w w' := by
  have HC : Hid (∀ w', Below w.heap.size w w' → Calls Try.prog 46 #[.slice a L.length ca, .slice b L.length cb] w' fun e w2 => e = .returned (.bool true) ∧ Below w'.heap.size w' w2) := fun w' h => eqStrs_any a b L ca cb w' hl (ha.below h) (hb.below h)
  clear ha hb
  go_enter Try.func19, Try.ntmps19
  go_wp2_with fail
  have hB : Below w.heap.size w ((w.alloc (.cells #[.int .i64 c, .slice a L.length ca] 45)).alloc (.cells #[.int .i64 c, .slice b L.length cb] 45)) := by go_grown
  generalize (w.alloc (.cells #[.int .i64 c, .slice a L.length ca] 45)).alloc (.cells #[.int .i64 c, .slice b L.length cb] 45) = W at *
  refine (HC.out _ hB).mono ?_
  rintro e w2 ⟨rfl, hb2⟩
  have HB : Hid (Below w.heap.size w w2) := hB.trans (hb2.mono hB.size)
  clear hB hb2
  go_wp2_with fail
  go_ret
  exact ⟨rfl, HB.out⟩

/-- the marks from k on -/
def mtL (k n : Nat) : List (List UInt8) := (List.range n).map fun i => mt (k + i)
theorem mtL_len (k n : Nat) : (mtL k n).length = n := by unfold mtL; simp
theorem mtL_get (k n i : Nat) (h : i < n) : (mtL k n)[i]? = some (mt (k + i)) := by unfold mtL; rw [List.getElem?_map, List.getElem?_range h]; rfl
/-- a row of which the first c cells are marked -/
structure MarkedS (w : World) (g n k c : Nat) : Prop where
  row : ∃ cur : Array Value, w.heap[g]? = some (.cells cur 9 (0, 0)) ∧ n ≤ cur.size ∧ ∀ i, i < c → cur[i]? = some (.string (bs (mt (k + i))))
theorem MarkedS.below {w w' : World} {g n k c : Nat} (h : MarkedS w g n k c) (hb : Below w.heap.size w w') : MarkedS w' g n k c := by
  obtain ⟨cur, h1, h2, h3⟩ := h.row
  exact ⟨cur, blk h1 hb, h2, h3⟩
theorem MarkedS.same {w w' : World} {g n k c : Nat} (h : MarkedS w g n k c) (hb : w'.heap[g]? = w.heap[g]?) : MarkedS w' g n k c := by
  obtain ⟨cur, h1, h2, h3⟩ := h.row
  exact ⟨cur, hb.trans h1, h2, h3⟩
theorem MarkedS.of_own {w : World} {B n c : Nat} {a : Option Addr} {xs : List Value} (h : w.ownsRow B 9 1 (.slice a n c) n xs) (k : Nat) : ∃ g, B ≤ g ∧ (n ≠ 0 → a = some ⟨g, 0, none⟩ ∧ g < w.heap.size ∧ MarkedS w g n k 0) := by
  rcases h.2 with ⟨_, h2⟩ | ⟨g, c', cur, e, hg, hh, hr, _, hs, _⟩
  · exact ⟨B, Nat.le_refl _, fun hn => absurd h2 hn⟩
  · simp at e
    exact ⟨g, hg, fun _ => ⟨e.1, blk_lt hh, ⟨cur, hh, by omega, fun i hi => absurd hi (by omega)⟩⟩⟩
theorem MarkedS.store {w : World} {g n k c : Nat} (h : MarkedS w g n k c) (hc : c < n) : MarkedS (w.setCell ⟨g, c, none⟩ (.string (bs (mt (k + c))))) g n k (c + 1) := by
  obtain ⟨cur, h1, h2, h3⟩ := h.row
  refine ⟨_, heap_setCell_same w g c _ _ _ h1, by simpa using h2, fun i hi => ?_⟩
  by_cases e : c = i
  · subst e; exact Array.getElem?_setIfInBounds_self_of_lt (by omega)
  · rw [Array.getElem?_setIfInBounds_ne e]; exact h3 i (by omega)

set_option maxHeartbeats 3200000 in
set_option maxRecDepth 100000 in
theorem markStrs_any (g n cap k B : Nat) (w : World) (hn : n ≤ 1048576) (hk : k ≤ 1000000) (hB : B ≤ g) (hg : n ≠ 0 → MarkedS w g n k 0) (a : Option Addr) (ha : n ≠ 0 → a = some ⟨g, 0, none⟩) (hBw : B ≤ w.heap.size) :
    Calls Try.prog 50 #[.slice a n cap, .int .i64 k] w fun e w' => e = .returned (.int .i64 ((k + n : Nat) : Int)) ∧ (n ≠ 0 → MarkedS w' g n k n) ∧ Below B w w' ∧ (∀ b, b < w.heap.size → b ≠ g → w'.heap[b]? = w.heap[b]?) := by
  have HA : Hid (n ≠ 0 → a = some ⟨g, 0, none⟩) := ha
  have HG : Hid (n ≠ 0 → MarkedS w g n k 0) := hg
  have HMT : Hid (∀ (k : Nat) (w : World), k ≤ 1000000000000000 → Calls Try.prog 78 #[.int .i64 k] w fun e w' => e = .returned (.string (bs (mt k))) ∧ Below w.heap.size w w') := fun k w h => markText_any k w h
  clear ha hg
  go_enter Try.func50, Try.ntmps50
  go_wp2
  go_loopw [1, 5] (fun x i wr => ∃ j : Nat, j ≤ n ∧ i = .int .i64 j ∧ x = .int .i64 ((k + j : Nat) : Int) ∧ (n ≠ 0 → MarkedS wr g n k j) ∧ Below B w wr ∧ w.heap.size ≤ wr.heap.size ∧ (∀ b, b < w.heap.size → b ≠ g → wr.heap[b]? = w.heap[b]?)) (fun _ i _ => n - (intOf i).toNat)
  case atStart => exact ⟨0, Nat.zero_le _, rfl, rfl, HG.out, Below.refl _ _, Nat.le_refl _, fun _ _ _ => rfl⟩
  case round =>
    obtain ⟨j, hj, rfl, rfl, hmk, hB2, hz, hrs⟩ := hrel
    have HMK : Hid (n ≠ 0 → MarkedS wr g n k j) := hmk
    have HB2 : Hid (Below B w wr ∧ w.heap.size ≤ wr.heap.size ∧ (∀ b, b < w.heap.size → b ≠ g → wr.heap[b]? = w.heap[b]?)) := ⟨hB2, hz, hrs⟩
    clear hrs
    obtain ⟨m, hme⟩ : ∃ m, m = k + j := ⟨_, rfl⟩
    have HME : Hid (m = k + j) := hme
    have hmle : m ≤ 3000000 := by omega
    rw [← hme]
    clear hme hmk
    by_cases hlt : j < n
    · have hae := HA.out (by omega)
      subst hae
      have hj0 : (0 : Int) ≤ (j : Int) := by omega
      have hj1 : (j : Int) < (n : Int) := by omega
      clear hB2
      go_wp2_with fail
      refine (HMT.out m _ (by omega)).mono ?_
      rintro e w1 ⟨rfl, hb⟩
      have hm1 := (HMK.out (by omega)).below hb
      obtain ⟨cur, hc, hsz, _⟩ := hm1.row
      obtain ⟨⟨y0, d0⟩, f0⟩ := room_cell (i := j) hc (by omega)
      have hbl := blk_lt hc
      have HM2 : Hid (n ≠ 0 → MarkedS (w1.setCell ⟨g, j, none⟩ (.string (bs (mt m)))) g n k (j + 1)) := fun _ => by rw [HME.out]; exact hm1.store hlt
      have HB3 : Hid (Below B w (w1.setCell ⟨g, j, none⟩ (.string (bs (mt m)))) ∧ w.heap.size ≤ (w1.setCell ⟨g, j, none⟩ (.string (bs (mt m)))).heap.size ∧ (∀ b, b < w.heap.size → b ≠ g → (w1.setCell ⟨g, j, none⟩ (.string (bs (mt m)))).heap[b]? = w.heap[b]?)) := ⟨(HB2.out.1.trans (hb.mono (Nat.le_trans hBw HB2.out.2.1))).setCell hB _, by have := hb.size; have := HB2.out.2.1; simp; omega, fun b hbl hne => by
        rw [Below.heap_setCell _ _ _ _ (by simpa using hne), hb.block b (Nat.lt_of_lt_of_le hbl HB2.out.2.1)]; exact HB2.out.2.2 b hbl hne⟩
      clear hb hm1 hc hsz hz
      go_wp2_with fail
      go_roundw
      case rel => exact ⟨j + 1, by omega, by go_num, by rw [show k + (j + 1) = m + 1 from by have := HME.out; omega]; go_num, HM2.out, HB3.out⟩
      case measure => simp [intOf]; omega
    · have hje : j = n := by omega
      subst hje
      clear hB2
      go_wp2
      go_ret
      exact ⟨by rw [HME.out]; rfl, HMK.out, HB2.out.1, HB2.out.2.2⟩

set_option maxHeartbeats 3200000 in
set_option maxRecDepth 100000 in
theorem heldStrs_any (g n cap k : Nat) (w : World) (hn : n ≤ 1048576) (hk : k ≤ 1000000) (hg : n ≠ 0 → MarkedS w g n k n) (a : Option Addr) (ha : n ≠ 0 → a = some ⟨g, 0, none⟩) :
    Calls Try.prog 51 #[.slice a n cap, .int .i64 k] w fun e w' => e = .returned (.int .i64 ((k + n : Nat) : Int)) ∧ Below w.heap.size w w' := by
  have HA : Hid (n ≠ 0 → a = some ⟨g, 0, none⟩) := ha
  have HG : Hid (n ≠ 0 → MarkedS w g n k n) := hg
  have HMT : Hid (∀ (k : Nat) (w : World), k ≤ 1000000000000000 → Calls Try.prog 78 #[.int .i64 k] w fun e w' => e = .returned (.string (bs (mt k))) ∧ Below w.heap.size w w') := fun k w h => markText_any k w h
  clear ha hg
  go_enter Try.func51, Try.ntmps51
  go_wp2
  go_loopw [1, 5] (fun x i wr => ∃ j : Nat, j ≤ n ∧ i = .int .i64 j ∧ x = .int .i64 ((k + j : Nat) : Int) ∧ Below w.heap.size w wr) (fun _ i _ => n - (intOf i).toNat)
  case atStart => exact ⟨0, Nat.zero_le _, rfl, rfl, Below.refl _ _⟩
  case round =>
    obtain ⟨j, hj, rfl, rfl, hB⟩ := hrel
    have HB : Hid (Below w.heap.size w wr) := hB
    obtain ⟨m, hme⟩ : ∃ m, m = k + j := ⟨_, rfl⟩
    have HME : Hid (m = k + j) := hme
    have hmle : m ≤ 3000000 := by omega
    rw [← hme]
    by_cases hlt : j < n
    · have hae := HA.out (by omega)
      subst hae
      obtain ⟨cur, hc, hsz, hcs⟩ := ((HG.out (by omega)).below hB).row
      have c0 : wr.cell? ⟨g, j, none⟩ = some (.string (bs (mt m))) := by rw [cell_of_row _ _ _ _ _ _ hc, hme]; exact hcs j hlt
      have hgr := blk_lt hc
      have hj0 : (0 : Int) ≤ (j : Int) := by omega
      have hj1 : (j : Int) < (n : Int) := by omega
      have HC0 : Hid (wr.cell? ⟨g, j, none⟩ = some (.string (bs (mt m)))) := c0
      have HM1 : Hid (∀ w, Calls Try.prog 78 #[.int .i64 (m : Int)] w fun e w' => e = .returned (.string (bs (mt m))) ∧ Below w.heap.size w w') := fun w => HMT.out m w (by omega)
      clear hc hsz hcs hme hB
      go_wp2_with fail
      go_region_held3 (fun W => W.cell? ⟨g, j, none⟩ = some (.string (bs (mt m)))) (go_keep) (first | (go_at_call 78; refine (HM1.out _).mono ?_; rintro e w2 ⟨rfl, hb⟩; have hD : Below wr.heap.size wr w2 := ((Below.refl wr.heap.size wr).drew).trans (Below.mono hb (Nat.le_refl _)); have e0 := (hD.cell (p := ⟨g, j, none⟩) hgr).trans HC0.out; have HB2 : Hid (Below w.heap.size w w2) := HB.out.trans (hD.mono HB.out.size); clear hb hD))
      go_wp2_with fail
      go_roundw
      case rel => exact ⟨j + 1, by omega, by go_num, by rw [show k + (j + 1) = m + 1 from by have := HME.out; omega]; go_num, HB2.out⟩
      case measure => simp [intOf]; omega
    · have hje : j = n := by omega
      subst hje
      clear hme
      go_wp2
      go_ret
      exact ⟨by rw [HME.out]; rfl, hB⟩

set_option maxHeartbeats 3200000 in
theorem markNames_any (c : Int) (g n cap B : Nat) (w : World) (hn : n ≤ 1048576) (hB : B ≤ g) (hg : n ≠ 0 → MarkedS w g n 1 0) (a : Option Addr) (ha : n ≠ 0 → a = some ⟨g, 0, none⟩) (hBw : B ≤ w.heap.size) :
    Calls Try.prog 21 #[namR c (.slice a n cap), .int .i64 1] w fun e w' => e = .returned (.int .i64 ((1 + n : Nat) : Int)) ∧ (n ≠ 0 → MarkedS w' g n 1 n) ∧ Below B w w' ∧ (∀ b, b < w.heap.size → b ≠ g → w'.heap[b]? = w.heap[b]?) := by
  have HC : Hid (∀ w', Below w.heap.size w w' → Calls Try.prog 50 #[.slice a n cap, .int .i64 1] w' fun e w2 => e = .returned (.int .i64 ((1 + n : Nat) : Int)) ∧ (n ≠ 0 → MarkedS w2 g n 1 n) ∧ Below B w' w2 ∧ (∀ b, b < w'.heap.size → b ≠ g → w2.heap[b]? = w'.heap[b]?)) := fun w' h => markStrs_any g n cap 1 B w' hn (by omega) hB (fun hne => (hg hne).below h) a ha (Nat.le_trans hBw h.size)
  clear hg ha
  go_enter Try.func21, Try.ntmps21
  go_wp2_with fail
  have hB2 : Below w.heap.size w (w.alloc (.cells #[.int .i64 c, .slice a n cap] 45)) := (Below.refl _ _).alloc (Nat.le_refl _) _
  generalize w.alloc (.cells #[.int .i64 c, .slice a n cap] 45) = W at *
  refine (HC.out _ hB2).mono ?_
  rintro e w2 ⟨rfl, hm, hb2, hrs⟩
  have HRS : Hid (∀ b, b < w.heap.size → b ≠ g → w2.heap[b]? = w.heap[b]?) := fun b hbl hne => by rw [hrs b (Nat.lt_of_lt_of_le hbl hB2.size) hne]; exact hB2.block b hbl
  clear hrs
  have HM : Hid (n ≠ 0 → MarkedS w2 g n 1 n) := hm
  have HB : Hid (Below B w w2) := (hB2.mono hBw).trans hb2
  obtain ⟨q, hq⟩ : ∃ q, q = 1 + n := ⟨_, rfl⟩
  rw [← hq]
  have HQ : Hid (q = 1 + n) := hq
  clear hB2 hb2 hm hq
  go_wp2_with fail
  go_ret
  exact ⟨by rw [← HQ.out]; rfl, HM.out, HB.out, HRS.out⟩

set_option maxHeartbeats 3200000 in
theorem heldNames_any (c : Int) (g n cap : Nat) (w : World) (hn : n ≤ 1048576) (hg : n ≠ 0 → MarkedS w g n 1 n) (a : Option Addr) (ha : n ≠ 0 → a = some ⟨g, 0, none⟩) :
    Calls Try.prog 22 #[namR c (.slice a n cap), .int .i64 1] w fun e w' => e = .returned (.int .i64 ((1 + n : Nat) : Int)) ∧ Below w.heap.size w w' := by
  have HC : Hid (∀ w', Below w.heap.size w w' → Calls Try.prog 51 #[.slice a n cap, .int .i64 1] w' fun e w2 => e = .returned (.int .i64 ((1 + n : Nat) : Int)) ∧ Below w'.heap.size w' w2) := fun w' h => heldStrs_any g n cap 1 w' hn (by omega) (fun hne => (hg hne).below h) a ha
  clear hg ha
  go_enter Try.func22, Try.ntmps22
  go_wp2_with fail
  have hB2 : Below w.heap.size w (w.alloc (.cells #[.int .i64 c, .slice a n cap] 45)) := (Below.refl _ _).alloc (Nat.le_refl _) _
  generalize w.alloc (.cells #[.int .i64 c, .slice a n cap] 45) = W at *
  refine (HC.out _ hB2).mono ?_
  rintro e w2 ⟨rfl, hb2⟩
  have HB : Hid (Below w.heap.size w w2) := hB2.trans (hb2.mono hB2.size)
  obtain ⟨q, hq⟩ : ∃ q, q = 1 + n := ⟨_, rfl⟩
  rw [← hq]
  have HQ : Hid (q = 1 + n) := hq
  have hq0 : (0 : Int) ≤ (q : Int) := by omega
  clear hB2 hb2 hq
  go_wp2_with fail
  go_ret
  exact ⟨by rw [← HQ.out]; rfl, HB.out⟩
end Go.Proofs.Ytanalajojjpjnaa
namespace Go.Proofs.Ytanalajojjpjnaa
open Go.RowKit
set_option linter.unusedVariables false
attribute [local go_sem] bs_size bs_get bs_extract bs_append bs_eq bs_toList

def RoomV (lo hi : Nat) (w : World) (v : Value) (n : Nat) : Prop :=
  ∃ a c, v = .slice a n c ∧ (n ≠ 0 → ∃ b o, a = some ⟨b, o, none⟩ ∧ lo ≤ b ∧ b < hi ∧ ∃ cs, w.heap[b]? = some (.cells cs 73 (0, 0)) ∧ o + n * 4 ≤ cs.size)
theorem RoomV.keep {lo hi n : Nat} {w w' : World} {v : Value} (h : RoomV lo hi w v n) (hm : Mk lo hi w w') : RoomV lo hi w' v n := by
  obtain ⟨a, c, e, h3⟩ := h
  refine ⟨a, c, e, fun hn => ?_⟩
  obtain ⟨b, o, e, h1, h2, cs, h4, h5⟩ := h3 hn
  obtain ⟨cs', h6, h7⟩ := hm.typ b cs _ h4
  exact ⟨b, o, e, h1, h2, cs', h6, by omega⟩
theorem RoomV.of_vars {lo hi : Nat} {w : World} {v : Value} {xs : List LVar} (h : VarsF lo w v xs) (hh : w.heap.size ≤ hi) : RoomV lo hi w v xs.length := by
  obtain ⟨a, c, e, _, h3⟩ := h
  refine ⟨a, c, e, fun hn => ?_⟩
  obtain ⟨b, o, e, h1, ⟨cs, h4, h5⟩, _⟩ := h3 (by intro e; rw [e] at hn; exact hn rfl)
  exact ⟨b, o, e, h1, Nat.lt_of_lt_of_le (blk_lt h4) hh, cs, h4, h5⟩
/-- four stores in one block -/
theorem set4_mk {lo hi b : Nat} {w w1 : World} {cs : Array Value} {U : TypeId} (hm : Mk lo hi w w1) (hs : SameT 92 w w1) (hz : w.heap.size ≤ w1.heap.size) (hc : w1.heap[b]? = some (.cells cs U (0, 0))) (hU : U ≠ 92) (h1 : lo ≤ b) (h2 : b < hi) (i0 i1 i2 i3 : Nat) (u0 u1 u2 u3 : Value) :
    Mk lo hi w ((((w1.setCell ⟨b, i0, none⟩ u0).setCell ⟨b, i1, none⟩ u1).setCell ⟨b, i2, none⟩ u2).setCell ⟨b, i3, none⟩ u3) ∧ SameT 92 w ((((w1.setCell ⟨b, i0, none⟩ u0).setCell ⟨b, i1, none⟩ u1).setCell ⟨b, i2, none⟩ u2).setCell ⟨b, i3, none⟩ u3) ∧ w.heap.size ≤ ((((w1.setCell ⟨b, i0, none⟩ u0).setCell ⟨b, i1, none⟩ u1).setCell ⟨b, i2, none⟩ u2).setCell ⟨b, i3, none⟩ u3).heap.size := by
  have c0 := heap_setCell_same w1 b i0 _ _ u0 hc
  have c1 := heap_setCell_same _ b i1 _ _ u1 c0
  have c2 := heap_setCell_same _ b i2 _ _ u2 c1
  exact ⟨(((hm.trans (Mk.set h1 h2 _ _ ⟨_, _, hc⟩)).trans (Mk.set h1 h2 _ _ ⟨_, _, c0⟩)).trans (Mk.set h1 h2 _ _ ⟨_, _, c1⟩)).trans (Mk.set h1 h2 _ _ ⟨_, _, c2⟩),
    (((hs.trans (SameT.set hc hU _ _)).trans (SameT.set c0 hU _ _)).trans (SameT.set c1 hU _ _)).trans (SameT.set c2 hU _ _), by simpa using hz⟩

set_option maxHeartbeats 3200000 in
set_option maxRecDepth 100000 in
theorem markVars_room (lo hi n : Nat) (v : Value) (k : Nat) (w : World) (h : RoomV lo hi w v n) (hn : n ≤ 1048576) (hk : k ≤ 100000000) (hhi : hi ≤ w.heap.size) (hlo : lo ≤ hi) :
    Calls Try.prog 47 #[v, .int .i64 k] w fun e w' => e = .returned (.int .i64 ((k + n * 4 : Nat) : Int)) ∧ Mk lo hi w w' ∧ SameT 92 w w' ∧ w.heap.size ≤ w'.heap.size := by
  obtain ⟨a, c, rfl, hh⟩ := h
  have HH : Hid (n ≠ 0 → ∃ b o, a = some ⟨b, o, none⟩ ∧ lo ≤ b ∧ b < hi ∧ ∃ cs, w.heap[b]? = some (.cells cs 73 (0, 0)) ∧ o + n * 4 ≤ cs.size) := hh
  have HMT : Hid (∀ (k : Nat) (w : World), k ≤ 1000000000000000 → Calls Try.prog 78 #[.int .i64 k] w fun e w' => e = .returned (.string (bs (mt k))) ∧ Below w.heap.size w w') := fun k w h => markText_any k w h
  have HHI : Hid (hi ≤ w.heap.size ∧ lo ≤ hi) := ⟨hhi, hlo⟩
  clear hh hhi hlo
  go_enter Try.func47, Try.ntmps47
  go_wp2
  go_loopw [1, 5] (fun x i wr => ∃ j : Nat, j ≤ n ∧ i = .int .i64 j ∧ x = .int .i64 ((k + j * 4 : Nat) : Int) ∧ Mk lo hi w wr ∧ SameT 92 w wr ∧ w.heap.size ≤ wr.heap.size) (fun _ i _ => n - (intOf i).toNat)
  case atStart => exact ⟨0, Nat.zero_le _, rfl, by simp, Mk.refl _ _ _, SameT.refl _ _, Nat.le_refl _⟩
  case round =>
    obtain ⟨j, hj, rfl, rfl, hm, hs1, hz⟩ := hrel
    have HM : Hid (Mk lo hi w wr ∧ SameT 92 w wr ∧ w.heap.size ≤ wr.heap.size) := ⟨hm, hs1, hz⟩
    obtain ⟨m, hme⟩ : ∃ m, m = k + j * 4 := ⟨_, rfl⟩
    have HME : Hid (m = k + j * 4) := hme
    have hmle : m ≤ 110000000 := by omega
    rw [← hme]
    clear hme
    by_cases hlt : j < n
    · obtain ⟨b, o, rfl, hb1, hb2, cs, hc, hsz⟩ := HH.out (by omega)
      have HC : Hid (∃ cs' : Array Value, wr.heap[b]? = some (.cells cs' 73 (0, 0)) ∧ cs'.size = cs.size) := hm.typ b cs _ hc
      have hj0 : (0 : Int) ≤ (j : Int) := by omega
      have hj1 : (j : Int) < (n : Int) := by omega
      clear hm hs1 hc
      go_wp2_with fail
      refine (HMT.out m _ (by omega)).mono ?_
      rintro e w1 ⟨rfl, hb⟩
      obtain ⟨cs', hc', hsz'⟩ := HC.out
      have hc1 := blk hc' hb
      obtain ⟨⟨y0, d0⟩, f0⟩ := room_cell (i := o + j * 4) hc1 (by omega)
      obtain ⟨⟨y1, d1⟩, f1⟩ := room_cell (i := o + j * 4 + 1) hc1 (by omega)
      obtain ⟨⟨y2, d2⟩, f2⟩ := room_cell (i := o + j * 4 + 2) hc1 (by omega)
      obtain ⟨⟨y3, d3⟩, f3⟩ := room_cell (i := o + j * 4 + 3) hc1 (by omega)
      have hbl := blk_lt hc1
      have HS := set4_mk (hm := HM.out.1.trans (Mk.of_below hb (by have := HM.out.2.2; have := HHI.out; omega))) (hs := HM.out.2.1.trans (SameT.of_below hb)) (hz := Nat.le_trans HM.out.2.2 hb.size) hc1 (by decide) hb1 hb2
      have HS2 : Hid (∀ (i0 i1 i2 i3 : Nat) (u0 u1 u2 u3 : Value), Mk lo hi w ((((w1.setCell ⟨b, i0, none⟩ u0).setCell ⟨b, i1, none⟩ u1).setCell ⟨b, i2, none⟩ u2).setCell ⟨b, i3, none⟩ u3) ∧ SameT 92 w ((((w1.setCell ⟨b, i0, none⟩ u0).setCell ⟨b, i1, none⟩ u1).setCell ⟨b, i2, none⟩ u2).setCell ⟨b, i3, none⟩ u3) ∧ w.heap.size ≤ ((((w1.setCell ⟨b, i0, none⟩ u0).setCell ⟨b, i1, none⟩ u1).setCell ⟨b, i2, none⟩ u2).setCell ⟨b, i3, none⟩ u3).heap.size) := HS
      clear HS hb hc' hc1 hsz' HC hz hsz
      go_wp2_with fail
      go_roundw
      case rel => exact ⟨j + 1, by omega, by go_num, by rw [show k + (j + 1) * 4 = m + 4 from by have := HME.out; omega]; go_num, HS2.out _ _ _ _ _ _ _ _⟩
      case measure => simp [intOf]; omega
    · have hj2 : j = n := by omega
      subst hj2
      clear hm hs1 hz
      go_wp2
      go_ret
      exact ⟨by rw [HME.out]; rfl, HM.out⟩
end Go.Proofs.Ytanalajojjpjnaa
namespace Go.Proofs.Ytanalajojjpjnaa
open Go.RowKit
set_option linter.unusedVariables false
attribute [local go_sem] bs_size bs_get bs_extract bs_append bs_eq bs_toList

/-- n nodes at b, o: their lists' values, each with room -/
def NodesIn (lo hi : Nat) (w : World) (b o n : Nat) : Prop := lo ≤ b ∧ b < hi ∧ ∃ cs, w.heap[b]? = some (.cells cs 92 (0, 0)) ∧ o + n * 8 ≤ cs.size ∧
  ∀ i, i < n → ∃ v5 v6 v7 l5 l6 l7, cs[o + i * 8 + 5]? = some v5 ∧ cs[o + i * 8 + 6]? = some v6 ∧ cs[o + i * 8 + 7]? = some v7 ∧ (RoomI lo hi w v5 l5 ∧ l5 ≤ 1048576) ∧ (RoomI lo hi w v6 l6 ∧ l6 ≤ 1048576) ∧ (RoomI lo hi w v7 l7 ∧ l7 ≤ 1048576)
theorem NodesIn.keep {lo hi b o n : Nat} {w w' : World} (h : NodesIn lo hi w b o n) (hm : Mk lo hi w w') (hs : SameT 92 w w') : NodesIn lo hi w' b o n := by
  obtain ⟨h1, h2, cs, h3, h4, h5⟩ := h
  refine ⟨h1, h2, cs, hs b cs h3, h4, fun i hi => ?_⟩
  obtain ⟨v5, v6, v7, l5, l6, l7, c5, c6, c7, r5, r6, r7⟩ := h5 i hi
  exact ⟨v5, v6, v7, l5, l6, l7, c5, c6, c7, ⟨r5.1.keep hm, r5.2⟩, ⟨r6.1.keep hm, r6.2⟩, ⟨r7.1.keep hm, r7.2⟩⟩
theorem NodesIn.set {lo hi b o n j t : Nat} {w : World} (h : NodesIn lo hi w b o n) (ht : t < 5) (u : Value) : NodesIn lo hi (w.setCell ⟨b, o + j * 8 + t, none⟩ u) b o n := by
  obtain ⟨h1, h2, cs, h3, h4, h5⟩ := h
  have hm : Mk lo hi w (w.setCell ⟨b, o + j * 8 + t, none⟩ u) := Mk.set h1 h2 _ _ ⟨_, _, h3⟩
  refine ⟨h1, h2, _, heap_setCell_same w b (o + j * 8 + t) _ _ u h3, by simpa using h4, fun i hi => ?_⟩
  obtain ⟨v5, v6, v7, l5, l6, l7, c5, c6, c7, r5, r6, r7⟩ := h5 i hi
  refine ⟨v5, v6, v7, l5, l6, l7, ?_, ?_, ?_, ⟨r5.1.keep hm, r5.2⟩, ⟨r6.1.keep hm, r6.2⟩, ⟨r7.1.keep hm, r7.2⟩⟩
  · rw [Array.getElem?_setIfInBounds_ne (by omega)]; exact c5
  · rw [Array.getElem?_setIfInBounds_ne (by omega)]; exact c6
  · rw [Array.getElem?_setIfInBounds_ne (by omega)]; exact c7
theorem NodesIn.mk {lo hi b o n i : Nat} {w : World} (h : NodesIn lo hi w b o n) (u : Value) : Mk lo hi w (w.setCell ⟨b, i, none⟩ u) := by
  obtain ⟨h1, h2, cs, h3, _⟩ := h
  exact Mk.set h1 h2 _ _ ⟨_, _, h3⟩
theorem NodesIn.cell {lo hi b o n j t : Nat} {w : World} (h : NodesIn lo hi w b o n) (hj : j < n) (ht : t < 8) : (∃ y, w.cell? ⟨b, o + j * 8 + t, none⟩ = some y) ∧ w.frozen? ⟨b, o + j * 8 + t, none⟩ = false := by
  obtain ⟨_, _, cs, h3, h4, _⟩ := h
  exact room_cell h3 (by omega)
theorem NodesIn.lists {lo hi b o n j : Nat} {w : World} (h : NodesIn lo hi w b o n) (hj : j < n) : ∃ v5 v6 v7 l5 l6 l7, w.cell? ⟨b, o + j * 8 + 5, none⟩ = some v5 ∧ w.cell? ⟨b, o + j * 8 + 6, none⟩ = some v6 ∧ w.cell? ⟨b, o + j * 8 + 7, none⟩ = some v7 ∧ (RoomI lo hi w v5 l5 ∧ l5 ≤ 1048576) ∧ (RoomI lo hi w v6 l6 ∧ l6 ≤ 1048576) ∧ (RoomI lo hi w v7 l7 ∧ l7 ≤ 1048576) := by
  obtain ⟨_, _, cs, h3, h4, h5⟩ := h
  obtain ⟨v5, v6, v7, l5, l6, l7, c5, c6, c7, r5, r6, r7⟩ := h5 j hj
  exact ⟨v5, v6, v7, l5, l6, l7, (cell_of_row _ _ _ _ _ _ h3).trans c5, (cell_of_row _ _ _ _ _ _ h3).trans c6, (cell_of_row _ _ _ _ _ _ h3).trans c7, r5, r6, r7⟩
def RoomN (lo hi : Nat) (w : World) (v : Value) (n : Nat) : Prop := ∃ a c, v = .slice a n c ∧ (n ≠ 0 → ∃ b o, a = some ⟨b, o, none⟩ ∧ NodesIn lo hi w b o n)
theorem RoomN.keep {lo hi n : Nat} {w w' : World} {v : Value} (h : RoomN lo hi w v n) (hm : Mk lo hi w w') (hs : SameT 92 w w') : RoomN lo hi w' v n := by
  obtain ⟨a, c, e, h3⟩ := h
  refine ⟨a, c, e, fun hn => ?_⟩
  obtain ⟨b, o, e, h⟩ := h3 hn
  exact ⟨b, o, e, h.keep hm hs⟩
theorem RoomN.of_nodes {lo hi : Nat} {w : World} {v : Value} {xs : List LNode} (h : NodesF lo w v xs) (hh : w.heap.size ≤ hi) (hz : ∀ n ∈ xs, n.kids.length ≤ 1048576 ∧ n.thn.length ≤ 1048576 ∧ n.els.length ≤ 1048576) : RoomN lo hi w v xs.length := by
  obtain ⟨a, c, e, _, h3⟩ := h
  refine ⟨a, c, e, fun hn => ?_⟩
  obtain ⟨b, o, e, h1, ⟨cs, h4, h5⟩, h6⟩ := h3 (by intro e; rw [e] at hn; exact hn rfl)
  refine ⟨b, o, e, h1, Nat.lt_of_lt_of_le (blk_lt h4) hh, cs, h4, h5, fun i hi => ?_⟩
  obtain ⟨x, hx⟩ : ∃ x, xs[i]? = some x := ⟨xs[i], List.getElem?_eq_getElem hi⟩
  obtain ⟨vk, vt, ve, hc, hv⟩ := h6 i x hx
  have hz' := hz x (List.mem_of_getElem? hx)
  exact ⟨vk, vt, ve, _, _, _, (cell_of_row _ _ _ _ _ _ h4).symm.trans hc.c5, (cell_of_row _ _ _ _ _ _ h4).symm.trans hc.c6, (cell_of_row _ _ _ _ _ _ h4).symm.trans hc.c7, ⟨.of_ints hv.kids hh, hz'.1⟩, ⟨.of_ints hv.thn hh, hz'.2.1⟩, ⟨.of_ints hv.els hh, hz'.2.2⟩⟩

set_option maxHeartbeats 6400000 in
set_option maxRecDepth 100000 in
theorem markNodes_room (lo hi n : Nat) (v : Value) (k : Nat) (w : World) (h : RoomN lo hi w v n) (hn : n ≤ 1048576) (hk : k ≤ 100000000) (hhi : hi ≤ w.heap.size) (hlo : lo ≤ hi) :
    Calls Try.prog 48 #[v, .int .i64 k] w fun e w' => ∃ m : Nat, e = .returned (.int .i64 (m : Int)) ∧ m ≤ 10000000000000 ∧ Mk lo hi w w' ∧ w.heap.size ≤ w'.heap.size := by
  obtain ⟨a, c, rfl, hh⟩ := h
  have HH : Hid (n ≠ 0 → ∃ b o, a = some ⟨b, o, none⟩ ∧ NodesIn lo hi w b o n) := hh
  have HMT : Hid (∀ (k : Nat) (w : World), k ≤ 1000000000000000 → Calls Try.prog 78 #[.int .i64 k] w fun e w' => e = .returned (.string (bs (mt k))) ∧ Below w.heap.size w w') := fun k w h => markText_any k w h
  have HMI : Hid (∀ (l : Nat) (v : Value) (k : Nat) (w : World), RoomI lo hi w v l → l ≤ 1048576 → k ≤ 100000000000000 → Calls Try.prog 49 #[v, .int .i64 k] w fun e w' => e = .returned (.int .i64 ((k + l : Nat) : Int)) ∧ Mk lo hi w w' ∧ SameT 92 w w' ∧ SameT 73 w w' ∧ w'.heap.size = w.heap.size) := fun l v k w h1 h2 h3 => markInts_room lo hi l v k w h1 h2 h3
  have HHI : Hid (hi ≤ w.heap.size ∧ lo ≤ hi) := ⟨hhi, hlo⟩
  clear hh hhi hlo
  go_enter Try.func48, Try.ntmps48
  go_wp2
  go_loopw [1, 5] (fun x i wr => ∃ j m : Nat, j ≤ n ∧ i = .int .i64 j ∧ x = .int .i64 (m : Int) ∧ m ≤ 100000000 + j * 3145733 ∧ Mk lo hi w wr ∧ (∀ b o, a = some ⟨b, o, none⟩ → n ≠ 0 → NodesIn lo hi wr b o n) ∧ w.heap.size ≤ wr.heap.size) (fun _ i _ => n - (intOf i).toNat)
  case atStart => exact ⟨0, k, Nat.zero_le _, rfl, rfl, by omega, Mk.refl _ _ _, fun b o e hne => by
    obtain ⟨b', o', e', h⟩ := HH.out hne
    rw [e] at e'; simp at e'; obtain ⟨rfl, rfl⟩ := e'; exact h, Nat.le_refl _⟩
  case round =>
    obtain ⟨j, m, hj, rfl, rfl, hm, hmk, hni, hz⟩ := hrel
    have HM : Hid (Mk lo hi w wr ∧ w.heap.size ≤ wr.heap.size) := ⟨hmk, hz⟩
    by_cases hlt : j < n
    · obtain ⟨b, o, rfl, _⟩ := HH.out (by omega)
      have hin := hni b o rfl (by omega)
      have HIN : Hid (NodesIn lo hi wr b o n) := hin
      have hbl : b < wr.heap.size := by obtain ⟨_, _, cs, h3, _⟩ := hin; exact blk_lt h3
      obtain ⟨⟨y0, d0⟩, f0⟩ := hin.cell (t := 0) hlt (by omega)
      obtain ⟨⟨y1, d1⟩, f1⟩ := hin.cell (t := 1) hlt (by omega)
      rw [Nat.add_zero] at d0 f0
      have hj0 : (0 : Int) ≤ (j : Int) := by omega
      have hj1 : (j : Int) < (n : Int) := by omega
      have hmb : m ≤ 4000000000000 := by omega
      clear hni hmk hin hz
      have HT2 : Hid (∀ w, Calls Try.prog 78 #[.int .i64 ((m : Int) + 1 + 1)] w fun e w' => e = .returned (.string (bs (mt (m + 2)))) ∧ Below w.heap.size w w') := fun w => by
        have := HMT.out (m + 2) w (by omega)
        rwa [show ((m + 2 : Nat) : Int) = (m : Int) + 1 + 1 from by omega] at this
      have HI5 : Hid (∀ (l : Nat) (v : Value) (w : World), RoomI lo hi w v l → l ≤ 1048576 → Calls Try.prog 49 #[v, .int .i64 ((m : Int) + 1 + 1 + 1 + 1 + 1)] w fun e w' => e = .returned (.int .i64 ((m + 5 + l : Nat) : Int)) ∧ Mk lo hi w w' ∧ SameT 92 w w' ∧ SameT 73 w w' ∧ w'.heap.size = w.heap.size) := fun l v w h1 h2 => by
        have := HMI.out l v (m + 5) w h1 h2 (by omega)
        rwa [show ((m + 5 : Nat) : Int) = (m : Int) + 1 + 1 + 1 + 1 + 1 from by omega] at this
      have HIN0 : Hid (∀ u0 u1, NodesIn lo hi ((wr.setCell ⟨b, o + j * 8, none⟩ u0).setCell ⟨b, o + j * 8 + 1, none⟩ u1) b o n ∧ Mk lo hi wr ((wr.setCell ⟨b, o + j * 8, none⟩ u0).setCell ⟨b, o + j * 8 + 1, none⟩ u1) ∧ ((wr.setCell ⟨b, o + j * 8, none⟩ u0).setCell ⟨b, o + j * 8 + 1, none⟩ u1).heap.size = wr.heap.size) := fun u0 u1 =>
        ⟨(HIN.out.set (j := j) (t := 0) (by omega) u0).set (j := j) (t := 1) (by omega) u1, (HIN.out.mk (i := o + j * 8) u0).trans ((HIN.out.set (j := j) (t := 0) (by omega) u0).mk u1), by simp⟩
      go_wp2_with fail
      refine (HT2.out _).mono ?_
      rintro e w1 ⟨rfl, hb⟩
      have hwz := (HIN0.out (.int .i64 (m : Int)) (.int .i64 ((m : Int) + 1))).2.2
      have hm0 := (HIN0.out (.int .i64 (m : Int)) (.int .i64 ((m : Int) + 1))).2.1
      have hi0 := (HIN0.out (.int .i64 (m : Int)) (.int .i64 ((m : Int) + 1))).1
      have hlz := HHI.out
      have hwz2 := HM.out.2
      have hmb1 := Mk.of_below (lo := lo) (hi := hi) hb (by omega)
      have hin1 := hi0.keep hmb1 (SameT.of_below hb)
      have HM1 : Hid (Mk lo hi w w1 ∧ w.heap.size ≤ w1.heap.size) := ⟨(HM.out.1.trans hm0).trans hmb1, by have := hb.size; omega⟩
      have HIN1 : Hid (NodesIn lo hi w1 b o n) := hin1
      have hbl1 : b < w1.heap.size := by obtain ⟨_, _, cs, h3, _⟩ := hin1; exact blk_lt h3
      obtain ⟨⟨y2, d2⟩, f2⟩ := hin1.cell (t := 2) hlt (by omega)
      obtain ⟨⟨y3, d3⟩, f3⟩ := hin1.cell (t := 3) hlt (by omega)
      obtain ⟨⟨y4, d4⟩, f4⟩ := hin1.cell (t := 4) hlt (by omega)
      obtain ⟨v5, _, _, l5, _, _, d5, _, _, hr5, _, _⟩ := hin1.lists hlt
      have HR5 : Hid (RoomI lo hi w1 v5 l5 ∧ l5 ≤ 1048576) := hr5
      have HIN2 : Hid (∀ u2 u3 u4, NodesIn lo hi (((w1.setCell ⟨b, o + j * 8 + 2, none⟩ u2).setCell ⟨b, o + j * 8 + 3, none⟩ u3).setCell ⟨b, o + j * 8 + 4, none⟩ u4) b o n ∧ Mk lo hi w1 (((w1.setCell ⟨b, o + j * 8 + 2, none⟩ u2).setCell ⟨b, o + j * 8 + 3, none⟩ u3).setCell ⟨b, o + j * 8 + 4, none⟩ u4) ∧ (((w1.setCell ⟨b, o + j * 8 + 2, none⟩ u2).setCell ⟨b, o + j * 8 + 3, none⟩ u3).setCell ⟨b, o + j * 8 + 4, none⟩ u4).heap.size = w1.heap.size) := fun u2 u3 u4 =>
        ⟨((HIN1.out.set (j := j) (t := 2) (by omega) u2).set (j := j) (t := 3) (by omega) u3).set (j := j) (t := 4) (by omega) u4, ((HIN1.out.mk (i := o + j * 8 + 2) u2).trans ((HIN1.out.set (j := j) (t := 2) (by omega) u2).mk (i := o + j * 8 + 3) u3)).trans (((HIN1.out.set (j := j) (t := 2) (by omega) u2).set (j := j) (t := 3) (by omega) u3).mk (i := o + j * 8 + 4) u4), by simp⟩
      clear hb hm0 hi0 hmb1 hin1 hr5 hwz hwz2 hlz d0 d1 f0 f1 HIN0 HT2 HIN
      go_wp2_with fail
      refine (HI5.out l5 v5 _ (HR5.out.1.keep (HIN2.out _ _ _).2.1) HR5.out.2).mono ?_
      rintro e w3 ⟨rfl, hmk3, hs3, _, hz3⟩
      have hin3 := (HIN2.out _ _ _).1.keep hmk3 hs3
      have HM3 : Hid (Mk lo hi w w3 ∧ w.heap.size ≤ w3.heap.size) := ⟨(HM1.out.1.trans (HIN2.out _ _ _).2.1).trans hmk3, by have := HM1.out.2; have := (HIN2.out (.string (bs (mt (m + 2)))) (.int .i64 ((m : Int) + 1 + 1 + 1)) (.int .i64 ((m : Int) + 1 + 1 + 1 + 1))).2.2; omega⟩
      have HIN3 : Hid (NodesIn lo hi w3 b o n) := hin3
      obtain ⟨_, v6, _, _, l6, _, _, d6, _, _, hr6, _⟩ := hin3.lists hlt
      have HR6 : Hid (RoomI lo hi w3 v6 l6 ∧ l6 ≤ 1048576) := hr6
      have hl5 := HR5.out.2
      obtain ⟨m3, hm3⟩ : ∃ m3, m3 = m + 5 + l5 := ⟨_, rfl⟩
      have hm3b : m3 ≤ m + 5 + 1048576 := by omega
      rw [← hm3]
      clear hmk3 hs3 hz3 hin3 hr6 hm3 d2 d3 d4 d5 f2 f3 f4 HIN2 HR5 HI5 HM1 HIN1
      go_wp2_with fail
      refine (HMI.out l6 v6 m3 _ HR6.out.1 HR6.out.2 (by omega)).mono ?_
      rintro e w4 ⟨rfl, hmk4, hs4, _, hz4⟩
      have hin4 := HIN3.out.keep hmk4 hs4
      have HM4 : Hid (Mk lo hi w w4 ∧ w.heap.size ≤ w4.heap.size) := ⟨HM3.out.1.trans hmk4, by have := HM3.out.2; omega⟩
      have HIN4 : Hid (NodesIn lo hi w4 b o n) := hin4
      obtain ⟨_, _, v7, _, _, l7, _, _, d7, _, _, hr7⟩ := hin4.lists hlt
      have HR7 : Hid (RoomI lo hi w4 v7 l7 ∧ l7 ≤ 1048576) := hr7
      have hl6 := HR6.out.2
      obtain ⟨m4, hm4⟩ : ∃ m4, m4 = m3 + l6 := ⟨_, rfl⟩
      have hm4b : m4 ≤ m3 + 1048576 := by omega
      rw [← hm4]
      clear hmk4 hs4 hz4 hin4 hr7 hm4 d6 HIN3 HR6 HM3
      go_wp2_with fail
      refine (HMI.out l7 v7 m4 _ HR7.out.1 HR7.out.2 (by omega)).mono ?_
      rintro e w5 ⟨rfl, hmk5, hs5, _, hz5⟩
      have HM5 : Hid (Mk lo hi w w5 ∧ w.heap.size ≤ w5.heap.size) := ⟨HM4.out.1.trans hmk5, by have := HM4.out.2; omega⟩
      have HIN5 : Hid (NodesIn lo hi w5 b o n) := HIN4.out.keep hmk5 hs5
      have hl7 := HR7.out.2
      obtain ⟨m5, hm5⟩ : ∃ m5, m5 = m4 + l7 := ⟨_, rfl⟩
      have hm5b : m5 ≤ m4 + 1048576 := by omega
      rw [← hm5]
      clear hmk5 hs5 hz5 hm5 d7 HIN4 HR7 HM4
      go_wp2_with fail
      go_roundw
      case rel => exact ⟨j + 1, m5, by omega, by go_num, rfl, by omega, HM5.out.1, fun b' o' e _ => by simp at e; obtain ⟨rfl, rfl⟩ := e; exact HIN5.out, HM5.out.2⟩
      case measure => simp [intOf]; omega
    · have hj2 : j = n := by omega
      subst hj2
      clear hni hmk hz
      go_wp2
      go_ret
      exact ⟨m, rfl, by omega, HM.out⟩

set_option maxHeartbeats 3200000 in
set_option maxRecDepth 100000 in
theorem markTree_room (lo hi : Nat) (vv vn vb : Value) (T : LTree) (w W : World) (h : TreeF lo W vv vn vb T) (hS : Sized 1048576 T) (hW : W.heap.size = hi) (hb : Below W.heap.size W w) (hlo : lo ≤ hi) :
    Calls Try.prog 20 #[treeV vv vn vb, .int .i64 1] w fun e w' => ∃ m : Nat, e = .returned (.int .i64 (m : Int)) ∧ m ≤ 100000000000000 ∧ Mk lo hi w w' := by
  have hwz : hi ≤ w.heap.size := by have := hb.size; omega
  have hV : RoomV lo hi w vv T.vars.length := (RoomV.of_vars h.vars (by omega)).keep (Mk.of_below hb (by omega))
  have hN : RoomN lo hi w vn T.nodes.length := (RoomN.of_nodes h.nodes (by omega) (fun n hn => (hS.node n hn).2)).keep (Mk.of_below hb (by omega)) (SameT.of_below hb)
  have hI : RoomI lo hi w vb T.body.length := (RoomI.of_ints h.body (by omega)).keep (Mk.of_below hb (by omega))
  obtain ⟨av, cv, rfl, _⟩ := id h.vars
  obtain ⟨an, cn, rfl, _⟩ := id h.nodes
  obtain ⟨ab, cb, rfl, _⟩ := id h.body
  have hs1 := hS.vars
  have hs2 := hS.nodes
  have hs3 := hS.body
  have HA : Hid (∀ w', Mk lo hi w w' → hi ≤ w'.heap.size → Calls Try.prog 47 #[.slice av T.vars.length cv, .int .i64 1] w' fun e w2 => e = .returned (.int .i64 ((1 + T.vars.length * 4 : Nat) : Int)) ∧ Mk lo hi w' w2 ∧ SameT 92 w' w2 ∧ w'.heap.size ≤ w2.heap.size) := fun w' hm hh => markVars_room lo hi T.vars.length _ 1 w' (hV.keep hm) hs1 (by omega) hh hlo
  have HN : Hid (∀ (k : Nat) (w' : World), k ≤ 100000000 → Mk lo hi w w' → SameT 92 w w' → hi ≤ w'.heap.size → Calls Try.prog 48 #[.slice an T.nodes.length cn, .int .i64 k] w' fun e w2 => ∃ m : Nat, e = .returned (.int .i64 (m : Int)) ∧ m ≤ 10000000000000 ∧ Mk lo hi w' w2 ∧ w'.heap.size ≤ w2.heap.size) := fun k w' hk hm hs hh => markNodes_room lo hi T.nodes.length _ k w' (hN.keep hm hs) hs2 hk hh hlo
  have HB : Hid (∀ (k : Nat) (w' : World), k ≤ 100000000000000 → Mk lo hi w w' → Calls Try.prog 49 #[.slice ab T.body.length cb, .int .i64 k] w' fun e w2 => e = .returned (.int .i64 ((k + T.body.length : Nat) : Int)) ∧ Mk lo hi w' w2 ∧ SameT 92 w' w2 ∧ SameT 73 w' w2 ∧ w2.heap.size = w'.heap.size) := fun k w' hk hm => markInts_room lo hi T.body.length _ k w' (hI.keep hm) hs3 hk
  clear hV hN hI h hS hs2
  go_enter Try.func20, Try.ntmps20
  go_wp2_with fail
  have hA := heap_alloc_new w (.cells #[.slice av T.vars.length cv, .slice an T.nodes.length cn, .slice ab T.body.length cb] 34)
  have hB0 : Below w.heap.size w (w.alloc (.cells #[.slice av T.vars.length cv, .slice an T.nodes.length cn, .slice ab T.body.length cb] 34)) := (Below.refl _ _).alloc (Nat.le_refl _) _
  have hm0 : Mk lo hi w (w.alloc (.cells #[.slice av T.vars.length cv, .slice an T.nodes.length cn, .slice ab T.body.length cb] 34)) := Mk.of_below hB0 (by omega)
  have hs0 : SameT 92 w (w.alloc (.cells #[.slice av T.vars.length cv, .slice an T.nodes.length cn, .slice ab T.body.length cb] 34)) := SameT.of_below hB0
  have hz0 := hB0.size
  generalize w.alloc (.cells #[.slice av T.vars.length cv, .slice an T.nodes.length cn, .slice ab T.body.length cb] 34) = w0 at *
  have HAA : Hid (w0.heap[w.heap.size]? = some (.cells #[.slice av T.vars.length cv, .slice an T.nodes.length cn, .slice ab T.body.length cb] 34 (0, 0))) := hA
  refine (HA.out w0 hm0 (by omega)).mono ?_
  rintro e w1 ⟨rfl, hm1, hs1', hz1⟩
  have hA1 : w1.heap[w.heap.size]? = some (.cells #[.slice av T.vars.length cv, .slice an T.nodes.length cn, .slice ab T.body.length cb] 34 (0, 0)) := (hm1.out _ hwz (blk_lt hA)).trans hA
  have HM1 : Hid (Mk lo hi w w1) := hm0.trans hm1
  have HS1 : Hid (SameT 92 w w1) := hs0.trans hs1'
  have HA1 : Hid (w1.heap[w.heap.size]? = some (.cells #[.slice av T.vars.length cv, .slice an T.nodes.length cn, .slice ab T.body.length cb] 34 (0, 0))) := hA1
  have p1 := cell_of_row _ _ 1 _ _ _ hA1
  simp at p1
  have hz1' : hi ≤ w1.heap.size := by omega
  obtain ⟨k1, hk1⟩ : ∃ k1, k1 = 1 + T.vars.length * 4 := ⟨_, rfl⟩
  have hk1b : k1 ≤ 100000000 := by omega
  rw [← hk1]
  clear hm1 hs1' hm0 hs0 hA hA1 hk1 HAA HA hB0
  go_wp2_with fail
  refine (HN.out k1 w1 hk1b HM1.out HS1.out hz1').mono ?_
  rintro e w2 ⟨m2, rfl, hm2b, hm2, hz2⟩
  have HM2 : Hid (Mk lo hi w w2) := HM1.out.trans hm2
  have hA2 : w2.heap[w.heap.size]? = some (.cells #[.slice av T.vars.length cv, .slice an T.nodes.length cn, .slice ab T.body.length cb] 34 (0, 0)) := (hm2.out _ hwz (blk_lt HA1.out)).trans HA1.out
  have p2 := cell_of_row _ _ 2 _ _ _ hA2
  simp at p2
  clear hm2 hA2 HA1 HM1 HS1 HN p1
  go_wp2_with fail
  refine (HB.out m2 w2 (by omega) HM2.out).mono ?_
  rintro e w3 ⟨rfl, hm3, _, _, _⟩
  have HM3 : Hid (Mk lo hi w w3) := HM2.out.trans hm3
  clear hm3 HM2 HB p2
  obtain ⟨m3, hm3⟩ : ∃ m3, m3 = m2 + T.body.length := ⟨_, rfl⟩
  have hm3b : m3 ≤ 100000000000000 := by omega
  rw [← hm3]
  clear hm3
  go_wp2_with fail
  go_ret
  exact ⟨m3, rfl, hm3b, HM3.out⟩
end Go.Proofs.Ytanalajojjpjnaa
namespace Go.Proofs.Ytanalajojjpjnaa
open Go.RowKit
set_option linter.unusedVariables false
attribute [local go_sem] bs_size bs_get bs_extract bs_append bs_eq bs_toList

/-- what a walk carries: the argument's box, both answers' boxes, the tree's box, the first answer's row -/
structure NLaw (w W : World) (cs0 csx : Array Value) (g3 g4 g5 : Nat) (C : Int) (a1 a2 : Option Addr) (n c1 c2 : Nat) (N : List (List UInt8)) : Prop where
  box : W.heap[w.heap.size]? = some (.cells cs0 26 (0, 0))
  s6 : W.heap[g3]? = some (.cells #[.int .i64 C, .slice a1 n c1] 45 (0, 0))
  xb : W.heap[g4]? = some (.cells csx 34 (0, 0))
  s8 : W.heap[g5]? = some (.cells #[.int .i64 C, .slice a2 n c2] 45 (0, 0))
  r1 : RowS W a1 N
  bel : Below w.heap.size w W
theorem NLaw.below {w W W' : World} {cs0 csx : Array Value} {g3 g4 g5 : Nat} {C : Int} {a1 a2 : Option Addr} {n c1 c2 : Nat} {N : List (List UInt8)} (h : NLaw w W cs0 csx g3 g4 g5 C a1 a2 n c1 c2 N) (hb : Below W.heap.size W W') : NLaw w W' cs0 csx g3 g4 g5 C a1 a2 n c1 c2 N :=
  ⟨blk h.box hb, blk h.s6 hb, blk h.xb hb, blk h.s8 hb, h.r1.below hb, h.bel.trans (hb.mono h.bel.size)⟩
theorem NLaw.marked {w W W' : World} {cs0 csx : Array Value} {g3 g4 g5 : Nat} {C : Int} {a1 a2 : Option Addr} {n c1 c2 : Nat} {N : List (List UInt8)} {lo hi : Nat} (h : NLaw w W cs0 csx g3 g4 g5 C a1 a2 n c1 c2 N) (hm : Mk lo hi W W') (hp : w.heap.size < lo) (hg3 : g3 < lo) (h4 : hi ≤ g4) (h5 : hi ≤ g5) (hr : ∀ g, a1 = some ⟨g, 0, none⟩ → N ≠ [] → g < lo) : NLaw w W' cs0 csx g3 g4 g5 C a1 a2 n c1 c2 N :=
  ⟨(hm.bel.block _ hp).trans h.box, (hm.bel.block _ hg3).trans h.s6, (hm.out _ h4 (blk_lt h.xb)).trans h.xb, (hm.out _ h5 (blk_lt h.s8)).trans h.s8, h.r1.same fun g e hne => hm.bel.block g (hr g e hne), h.bel.trans (hm.bel.mono (by omega))⟩
theorem NLaw.but {w W W' : World} {cs0 csx : Array Value} {g3 g4 g5 g2 B : Nat} {C : Int} {a1 a2 : Option Addr} {n c1 c2 : Nat} {N : List (List UInt8)} (h : NLaw w W cs0 csx g3 g4 g5 C a1 a2 n c1 c2 N) (hb : Below B W W') (hs : ∀ b, b < W.heap.size → b ≠ g2 → W'.heap[b]? = W.heap[b]?) (hp : w.heap.size < g2) (hg3 : g3 < g2) (h4 : g4 < g2) (h5 : g5 ≠ g2) (hB : w.heap.size ≤ B) (hr : ∀ g, a1 = some ⟨g, 0, none⟩ → N ≠ [] → g < g2 ∧ g < W.heap.size) : NLaw w W' cs0 csx g3 g4 g5 C a1 a2 n c1 c2 N :=
  ⟨(hs _ (blk_lt h.box) (by omega)).trans h.box, (hs _ (blk_lt h.s6) (by omega)).trans h.s6, (hs _ (blk_lt h.xb) (by omega)).trans h.xb, (hs _ (blk_lt h.s8) h5).trans h.s8, h.r1.same fun g e hne => hs g (hr g e hne).2 (by have := (hr g e hne).1; omega), h.bel.trans (hb.mono hB)⟩

set_option maxHeartbeats 12800000 in
set_option maxRecDepth 100000 in
theorem namesOf_law (C : LTree → Int → Int) (L : LTree → Int → List (List UInt8)) (hS : TreeNames 17 C L) (hI : TreeNames 18 C L) (hL : ∀ T k, (L T k).length ≤ T.vars.length) (vv vn vb : Value) (T : LTree) (k : Int) (w : World) (h : IsTree w vv vn vb T) :
    Calls Try.prog 6 #[treeV vv vn vb, .int .i64 k] w fun e w' => e = .returned (.bool true) ∧ Below w.heap.size w w' := by
  obtain ⟨ht, hf⟩ := h
  obtain ⟨av, cv, rfl, _⟩ := id ht.vars
  obtain ⟨an, cn, rfl, _⟩ := id ht.nodes
  obtain ⟨ab, cb, rfl, _⟩ := id ht.body
  have HT : Hid (TreeV 0 w (.slice av T.vars.length cv) (.slice an T.nodes.length cn) (.slice ab T.body.length cb) T) := ht
  have HF : Hid (Fits T) := hf
  have HS : Hid (TreeNames 17 C L) := hS
  have HI : Hid (TreeNames 18 C L) := hI
  have HQ : Hid (∀ (c : Int) (a b : Option Addr) (N : List (List UInt8)) (ca cb : Nat) (w : World), N.length ≤ 1048576 → RowS w a N → RowS w b N → Calls Try.prog 19 #[.agg #[.int .i64 c, .slice a N.length ca], .agg #[.int .i64 c, .slice b N.length cb]] w fun e w' => e = .returned (.bool true) ∧ Below w.heap.size w w') := eqNames_any
  have HLL : Hid ((L T k).length ≤ T.vars.length) := hL T k
  clear ht hf hS hI hL
  go_enter Try.func6, Try.ntmps6
  go_wp2_with fail
  have hA := heap_alloc_new w (.cells #[.slice av T.vars.length cv, .slice an T.nodes.length cn, .slice ab T.body.length cb] 26)
  have hB : Below w.heap.size w (w.alloc (.cells #[.slice av T.vars.length cv, .slice an T.nodes.length cn, .slice ab T.body.length cb] 26)) := (Below.refl _ _).alloc (Nat.le_refl _) _
  generalize w.alloc (.cells #[.slice av T.vars.length cv, .slice an T.nodes.length cn, .slice ab T.body.length cb] 26) = W at *
  refine (szTree_any 0 T _ _ _ _ (HT.out.below hB) HF.out).mono ?_
  rintro e w1 ⟨r, rfl, hr, hb1⟩
  have HA : Hid (w1.heap[w.heap.size]? = some (.cells #[.slice av T.vars.length cv, .slice an T.nodes.length cn, .slice ab T.body.length cb] 26 (0, 0))) := blk hA hb1
  have HB : Hid (Below w.heap.size w w1) := hB.trans (hb1.mono hB.size)
  clear hb1 hA hB
  by_cases h0 : 0 ≤ r
  · have HZ : Hid (Sized 1048576 T) := hr h0
    clear hr
    have a0 := cell_of_row _ _ 0 _ _ _ HA.out
    have a1 := cell_of_row _ _ 1 _ _ _ HA.out
    have a2 := cell_of_row _ _ 2 _ _ _ HA.out
    simp at a0 a1 a2
    go_wp2_with fail
    refine (toTree_any 0 T _ _ _ _ (HT.out.below HB.out) HZ.out).mono ?_
    rintro e w2 ⟨_, _, _, rfl, ht2, hb⟩
    obtain ⟨av2, cv2, rfl, _⟩ := id ht2.vars
    obtain ⟨an2, cn2, rfl, _⟩ := id ht2.nodes
    obtain ⟨ab2, cb2, rfl, _⟩ := id ht2.body
    have hA := blk HA.out hb
    have hB := HB.out.trans (hb.mono HB.out.size)
    clear HA HB hb a0 a1 a2
    have HA : Hid (w2.heap[w.heap.size]? = some (.cells #[.slice av T.vars.length cv, .slice an T.nodes.length cn, .slice ab T.body.length cb] 26 (0, 0))) := hA
    have HB : Hid (Below w.heap.size w w2) := hB
    have HT2 : Hid (TreeV w1.heap.size w2 (.slice av2 T.vars.length cv2) (.slice an2 T.nodes.length cn2) (.slice ab2 T.body.length cb2) T) := ht2
    clear hA hB ht2
    go_wp2_with fail
    refine (HS.out _ _ _ _ T _ _ HT2.out HZ.out).mono ?_
    rintro e w3 ⟨v1, rfl, hown1, hb⟩
    obtain ⟨a1, c1, rfl⟩ := rowE_shape hown1
    have hr1 := RowS.of_own hown1 rfl
    have hlt1 : ∀ g, a1 = some ⟨g, 0, none⟩ → L T k ≠ [] → g < w3.heap.size := fun g e hne => by
      obtain ⟨g', e', hc⟩ := hr1 hne
      rw [e] at e'; simp at e'; subst e'
      cases hN : L T k with
      | nil => exact absurd hN hne
      | cons x r => exact World.block_lt_of_cell? _ _ (hc 0 x (by rw [hN]; rfl))
    have hA := blk HA.out hb
    have hB := HB.out.trans (hb.mono HB.out.size)
    clear HA HB hb HT2 hown1
    have hbx : Below w3.heap.size w3 (w3.alloc (.cells #[.int .i64 (C T k), .slice a1 (L T k).length c1] 45)) := (Below.refl _ _).alloc (Nat.le_refl _) _
    have HG : Hid ((w3.alloc (.cells #[.int .i64 (C T k), .slice a1 (L T k).length c1] 45)).heap[w3.heap.size]? = some (.cells #[.int .i64 (C T k), .slice a1 (L T k).length c1] 45 (0, 0))) := heap_alloc_new w3 _
    have HR1 : Hid (RowS (w3.alloc (.cells #[.int .i64 (C T k), .slice a1 (L T k).length c1] 45)) a1 (L T k)) := hr1.below hbx
    have HL1 : Hid (∀ g, a1 = some ⟨g, 0, none⟩ → L T k ≠ [] → g < w3.heap.size) := hlt1
    have HA : Hid ((w3.alloc (.cells #[.int .i64 (C T k), .slice a1 (L T k).length c1] 45)).heap[w.heap.size]? = some (.cells #[.slice av T.vars.length cv, .slice an T.nodes.length cn, .slice ab T.body.length cb] 26 (0, 0))) := blk hA hbx
    have HB : Hid (Below w.heap.size w (w3.alloc (.cells #[.int .i64 (C T k), .slice a1 (L T k).length c1] 45))) := hB.trans (hbx.mono hB.size)
    have hp3 : w.heap.size < w3.heap.size := blk_lt hA
    have a0' := cell_of_row _ _ 0 _ _ _ HA.out
    have a1' := cell_of_row _ _ 1 _ _ _ HA.out
    have a2' := cell_of_row _ _ 2 _ _ _ HA.out
    simp at a0' a1' a2'
    have hg3 : w3.heap.size < (w3.alloc (.cells #[.int .i64 (C T k), .slice a1 (L T k).length c1] 45)).heap.size := by simp
    clear hA hB hbx hr1 hlt1
    go_wp2_with fail
    generalize w3.alloc (.cells #[.int .i64 (C T k), .slice a1 (L T k).length c1] 45) = W3 at *
    generalize w3.heap.size = g3 at *
    clear a0' a1' a2'
    refine (toTreeF_any 0 T _ _ _ _ (HT.out.below HB.out) HZ.out).mono ?_
    rintro e w4 ⟨_, _, _, rfl, ht4, hb⟩
    obtain ⟨av4, cv4, rfl, _⟩ := id ht4.vars
    obtain ⟨an4, cn4, rfl, _⟩ := id ht4.nodes
    obtain ⟨ab4, cb4, rfl, _⟩ := id ht4.body
    have hA := blk HA.out hb
    have hG := blk HG.out hb
    have hR := HR1.out.below hb
    have hB := HB.out.trans (hb.mono HB.out.size)
    have HT4 : Hid (TreeF W3.heap.size w4 (.slice av4 T.vars.length cv4) (.slice an4 T.nodes.length cn4) (.slice ab4 T.body.length cb4) T) := ht4
    have hlo : W3.heap.size ≤ w4.heap.size := hb.size
    have hbx : Below w4.heap.size w4 (w4.alloc (.cells #[.slice av4 T.vars.length cv4, .slice an4 T.nodes.length cn4, .slice ab4 T.body.length cb4] 34)) := (Below.refl _ _).alloc (Nat.le_refl _) _
    have HX : Hid ((w4.alloc (.cells #[.slice av4 T.vars.length cv4, .slice an4 T.nodes.length cn4, .slice ab4 T.body.length cb4] 34)).heap[w4.heap.size]? = some (.cells #[.slice av4 T.vars.length cv4, .slice an4 T.nodes.length cn4, .slice ab4 T.body.length cb4] 34 (0, 0))) := heap_alloc_new w4 _
    have HA4 : Hid ((w4.alloc (.cells #[.slice av4 T.vars.length cv4, .slice an4 T.nodes.length cn4, .slice ab4 T.body.length cb4] 34)).heap[w.heap.size]? = some (.cells #[.slice av T.vars.length cv, .slice an T.nodes.length cn, .slice ab T.body.length cb] 26 (0, 0))) := blk hA hbx
    have HG4 : Hid ((w4.alloc (.cells #[.slice av4 T.vars.length cv4, .slice an4 T.nodes.length cn4, .slice ab4 T.body.length cb4] 34)).heap[g3]? = some (.cells #[.int .i64 (C T k), .slice a1 (L T k).length c1] 45 (0, 0))) := blk hG hbx
    have HR4 : Hid (RowS (w4.alloc (.cells #[.slice av4 T.vars.length cv4, .slice an4 T.nodes.length cn4, .slice ab4 T.body.length cb4] 34)) a1 (L T k)) := hR.below hbx
    have HB4 : Hid (Below w.heap.size w (w4.alloc (.cells #[.slice av4 T.vars.length cv4, .slice an4 T.nodes.length cn4, .slice ab4 T.body.length cb4] 34))) := hB.trans (hbx.mono hB.size)
    have HBX : Hid (Below w4.heap.size w4 (w4.alloc (.cells #[.slice av4 T.vars.length cv4, .slice an4 T.nodes.length cn4, .slice ab4 T.body.length cb4] 34))) := hbx
    clear hA hG hR hB ht4 hb hbx HA HG HR1 HB
    go_wp2_with fail
    have hlo2 : W3.heap.size ≤ w4.heap.size := hlo
    have hg4 : w4.heap.size < (w4.alloc (.cells #[.slice av4 T.vars.length cv4, .slice an4 T.nodes.length cn4, .slice ab4 T.body.length cb4] 34)).heap.size := by simp
    have HI2 : Hid (∀ (lo : Nat) (vv vn vb : Value) (W : World), TreeV lo W vv vn vb T → Calls Try.prog 18 #[.agg #[vv, vn, vb], .int .i64 k] W fun e w' => ∃ v, e = .returned (.agg #[.int .i64 (C T k), v]) ∧ w'.ownsRow W.heap.size 9 1 v (L T k).length (namC (L T k)) ∧ Below W.heap.size W w') := fun lo vv vn vb W h => HI.out lo vv vn vb T k W h HZ.out
    have hNl : (L T k).length ≤ 1048576 := by have := HLL.out; have := HZ.out.vars; omega
    have hg5 : ∀ w5 : World, True := fun _ => trivial
    clear HS HI HLL hlo hg5
    obtain ⟨N, hN⟩ : ∃ N, N = L T k := ⟨_, rfl⟩
    obtain ⟨c0, hc0⟩ : ∃ c0, c0 = C T k := ⟨_, rfl⟩
    rw [← hN, ← hc0] at HI2
    rw [← hN, ← hc0] at HG4
    rw [← hN] at HR4 HL1 hNl
    rw [← hN, ← hc0]
    clear hN hc0
    generalize w4.alloc (.cells #[.slice av4 T.vars.length cv4, .slice an4 T.nodes.length cn4, .slice ab4 T.body.length cb4] 34) = W5 at *
    obtain ⟨g4, hg4e⟩ : ∃ g4, g4 = w4.heap.size := ⟨_, rfl⟩
    rw [← hg4e] at HX hg4 ⊢
    have HG4E : Hid (g4 = w4.heap.size) := hg4e
    clear hg4e
    refine (HI2.out _ _ _ _ _ (HT4.out.toV.below HBX.out)).mono ?_
    rintro e w5 ⟨v2, rfl, hown2, hb⟩
    obtain ⟨a2, c2, rfl⟩ := rowE_shape hown2
    have hr2 := RowS.of_own hown2 rfl
    obtain ⟨g2, hg2, hmk2⟩ := MarkedS.of_own hown2 1
    have hbx : Below w5.heap.size w5 (w5.alloc (.cells #[.int .i64 c0, .slice a2 N.length c2] 45)) := (Below.refl _ _).alloc (Nat.le_refl _) _
    have hb5 := hb.trans (hbx.mono hb.size)
    have HR2 : Hid (RowS (w5.alloc (.cells #[.int .i64 c0, .slice a2 N.length c2] 45)) a2 N) := hr2.below hbx
    have HM2 : Hid (N.length ≠ 0 → a2 = some ⟨g2, 0, none⟩ ∧ g2 < w5.heap.size ∧ MarkedS (w5.alloc (.cells #[.int .i64 c0, .slice a2 N.length c2] 45)) g2 N.length 1 0) := fun hne => ⟨(hmk2 hne).1, (hmk2 hne).2.1, (hmk2 hne).2.2.below hbx⟩
    have ST6 : Hid (NLaw w (w5.alloc (.cells #[.int .i64 c0, .slice a2 N.length c2] 45)) #[.slice av T.vars.length cv, .slice an T.nodes.length cn, .slice ab T.body.length cb] #[.slice av4 T.vars.length cv4, .slice an4 T.nodes.length cn4, .slice ab4 T.body.length cb4] g3 g4 w5.heap.size c0 a1 a2 N.length c1 c2 N) := ⟨blk HA4.out hb5, blk HG4.out hb5, blk HX.out hb5, heap_alloc_new w5 _, HR4.out.below hb5, HB4.out.trans (hb5.mono HB4.out.size)⟩
    have HBX6 : Hid (Below w4.heap.size w4 (w5.alloc (.cells #[.int .i64 c0, .slice a2 N.length c2] 45))) := HBX.out.trans (hb5.mono HBX.out.size)
    have hW5 : W5.heap.size ≤ w5.heap.size := hb.size
    have hW6 : w5.heap.size < (w5.alloc (.cells #[.int .i64 c0, .slice a2 N.length c2] 45)).heap.size := by simp
    clear hown2 hr2 hmk2 hb hbx hb5 HA4 HG4 HR4 HX HB4 HBX
    have ps0 := cell_of_row _ _ 0 _ _ _ ST6.out.s6
    have ps1 := cell_of_row _ _ 1 _ _ _ ST6.out.s6
    have pe0 := cell_of_row _ _ 0 _ _ _ ST6.out.s8
    have pe1 := cell_of_row _ _ 1 _ _ _ ST6.out.s8
    simp at ps0 ps1 pe0 pe1
    go_wp2_with fail
    generalize w5.alloc (.cells #[.int .i64 c0, .slice a2 N.length c2] 45) = W6 at *
    generalize w5.heap.size = g5 at *
    refine (HQ.out c0 a2 a1 N c2 c1 _ hNl HR2.out ST6.out.r1).mono ?_
    rintro e w6 ⟨rfl, hb⟩
    have ST6b : Hid (NLaw w w6 #[.slice av T.vars.length cv, .slice an T.nodes.length cn, .slice ab T.body.length cb] #[.slice av4 T.vars.length cv4, .slice an4 T.nodes.length cn4, .slice ab4 T.body.length cb4] g3 g4 g5 c0 a1 a2 N.length c1 c2 N) := ST6.out.below hb
    have HR2b : Hid (RowS w6 a2 N) := HR2.out.below hb
    have HM2b : Hid (N.length ≠ 0 → a2 = some ⟨g2, 0, none⟩ ∧ g2 < g5 ∧ MarkedS w6 g2 N.length 1 0) := fun hne => ⟨(HM2.out hne).1, (HM2.out hne).2.1, (HM2.out hne).2.2.below hb⟩
    have HBX7 : Hid (Below w4.heap.size w4 w6) := HBX6.out.trans (hb.mono HBX6.out.size)
    have hW6b : g5 < w6.heap.size := Nat.lt_of_lt_of_le hW6 hb.size
    clear hb ST6 HR2 HM2 HBX6 ps0 ps1 pe0 pe1 hW6
    have pa0 := cell_of_row _ _ 0 _ _ _ ST6b.out.box
    have pa1 := cell_of_row _ _ 1 _ _ _ ST6b.out.box
    have pa2 := cell_of_row _ _ 2 _ _ _ ST6b.out.box
    have px0 := cell_of_row _ _ 0 _ _ _ ST6b.out.xb
    have px1 := cell_of_row _ _ 1 _ _ _ ST6b.out.xb
    have px2 := cell_of_row _ _ 2 _ _ _ ST6b.out.xb
    simp at pa0 pa1 pa2 px0 px1 px2
    have A0 : Hid _ := pa0
    have A1 : Hid _ := pa1
    have A2 : Hid _ := pa2
    have X0 : Hid _ := px0
    have X1 : Hid _ := px1
    have X2 : Hid _ := px2
    have hgA : w.heap.size < w6.heap.size := blk_lt ST6b.out.box
    have hgX : g4 < w6.heap.size := blk_lt ST6b.out.xb
    have HT6 : Hid (TreeV W3.heap.size w6 (.slice av4 T.vars.length cv4) (.slice an4 T.nodes.length cn4) (.slice ab4 T.body.length cb4) T) := HT4.out.toV.below HBX7.out
    have HC : Hid (∀ W, Below w6.heap.size w6 W → Calls Try.prog 9 #[.agg #[.slice av T.vars.length cv, .slice an T.nodes.length cn, .slice ab T.body.length cb]] W fun e w' => ∃ a c a2 c2 a3 c3, e = .returned (treeV (.slice a T.vars.length c) (.slice a2 T.nodes.length c2) (.slice a3 T.body.length c3)) ∧ TreeV W.heap.size w' (.slice a T.vars.length c) (.slice a2 T.nodes.length c2) (.slice a3 T.body.length c3) T ∧ Below W.heap.size W w') := fun W hW =>
      (toTree_any 0 T _ _ _ W (HT.out.below (ST6b.out.bel.trans (hW.mono ST6b.out.bel.size))) HZ.out).mono fun e w' h => by
        obtain ⟨_, _, _, rfl, h1, h2⟩ := h
        obtain ⟨_, _, rfl, _⟩ := id h1.vars
        obtain ⟨_, _, rfl, _⟩ := id h1.nodes
        obtain ⟨_, _, rfl, _⟩ := id h1.body
        exact ⟨_, _, _, _, _, _, rfl, h1, h2⟩
    have HE : Hid (∀ W lo v1 v2 v3, Below w6.heap.size w6 W → TreeV lo W v1 v2 v3 T → Calls Try.prog 12 #[.agg #[.slice av4 T.vars.length cv4, .slice an4 T.nodes.length cn4, .slice ab4 T.body.length cb4], treeV v1 v2 v3] W fun e w' => e = .returned (.bool true) ∧ Below W.heap.size W w') := fun W lo v1 v2 v3 hW h =>
      eqTree_any _ _ T _ _ _ _ _ _ W (HT6.out.below hW) h HZ.out
    go_wp2_with fail
    go_region_held3 (fun W => (W.cell? ⟨w.heap.size, 0, none⟩ = some (.slice av T.vars.length cv) ∧ W.cell? ⟨w.heap.size, 1, none⟩ = some (.slice an T.nodes.length cn) ∧ W.cell? ⟨w.heap.size, 2, none⟩ = some (.slice ab T.body.length cb)) ∧ (W.cell? ⟨g4, 0, none⟩ = some (.slice av4 T.vars.length cv4) ∧ W.cell? ⟨g4, 1, none⟩ = some (.slice an4 T.nodes.length cn4) ∧ W.cell? ⟨g4, 2, none⟩ = some (.slice ab4 T.body.length cb4))) (go_keep) (first | (go_at_call 9; refine (HC.out _ (Below.refl w6.heap.size w6).drew).mono ?_; rintro e w7 ⟨a7, c7, b7, d7, e7, f7, rfl, ht7, hb⟩; have hD : Below w6.heap.size w6 w7 := ((Below.refl w6.heap.size w6).drew).trans (Below.mono hb (Nat.le_refl _)); have pa0 := (hD.cell (p := ⟨w.heap.size, 0, none⟩) hgA).trans A0.out; have pa1 := (hD.cell (p := ⟨w.heap.size, 1, none⟩) hgA).trans A1.out; have pa2 := (hD.cell (p := ⟨w.heap.size, 2, none⟩) hgA).trans A2.out; have px0 := (hD.cell (p := ⟨g4, 0, none⟩) hgX).trans X0.out; have px1 := (hD.cell (p := ⟨g4, 1, none⟩) hgX).trans X1.out; have px2 := (hD.cell (p := ⟨g4, 2, none⟩) hgX).trans X2.out; have HD : Hid (Below w6.heap.size w6 w7) := hD; have HT7 : Hid (TreeV _ w7 _ _ _ T) := ht7; clear hb hD ht7) | (go_at_call 12; refine (HE.out _ _ _ _ _ HD.out HT7.out).mono ?_; rintro e w8 ⟨rfl, hb⟩; have hD : Below w6.heap.size w6 w8 := HD.out.trans (Below.mono hb HD.out.size); have pa0 := (hD.cell (p := ⟨w.heap.size, 0, none⟩) hgA).trans A0.out; have pa1 := (hD.cell (p := ⟨w.heap.size, 1, none⟩) hgA).trans A1.out; have pa2 := (hD.cell (p := ⟨w.heap.size, 2, none⟩) hgA).trans A2.out; have px0 := (hD.cell (p := ⟨g4, 0, none⟩) hgX).trans X0.out; have px1 := (hD.cell (p := ⟨g4, 1, none⟩) hgX).trans X1.out; have px2 := (hD.cell (p := ⟨g4, 2, none⟩) hgX).trans X2.out; have HD8 : Hid (Below w6.heap.size w6 w8) := hD; clear hb hD))
    have ST8 : Hid (NLaw w w8 #[.slice av T.vars.length cv, .slice an T.nodes.length cn, .slice ab T.body.length cb] #[.slice av4 T.vars.length cv4, .slice an4 T.nodes.length cn4, .slice ab4 T.body.length cb4] g3 g4 g5 c0 a1 a2 N.length c1 c2 N) := ST6b.out.below HD8.out
    have HR8 : Hid (RowS w8 a2 N) := HR2b.out.below HD8.out
    have HM8 : Hid (N.length ≠ 0 → a2 = some ⟨g2, 0, none⟩ ∧ g2 < g5 ∧ MarkedS w8 g2 N.length 1 0) := fun hne => ⟨(HM2b.out hne).1, (HM2b.out hne).2.1, (HM2b.out hne).2.2.below HD8.out⟩
    have HBX8 : Hid (Below w4.heap.size w4 w8) := HBX7.out.trans (HD8.out.mono HBX7.out.size)
    have hW8 : g5 < w8.heap.size := Nat.lt_of_lt_of_le hW6b HD8.out.size
    clear ST6b HR2b HM2b HBX7 HC HE HT6 A0 A1 A2 X0 X1 X2 hW6b hgA hgX HD8
    clear pa0 pa1 pa2 px0 px1 px2
    have px0 := cell_of_row _ _ 0 _ _ _ ST8.out.xb
    have px1 := cell_of_row _ _ 1 _ _ _ ST8.out.xb
    have px2 := cell_of_row _ _ 2 _ _ _ ST8.out.xb
    simp at px0 px1 px2
    go_wp2_with fail
    refine (markTree_room W3.heap.size w4.heap.size _ _ _ T w8 w4 HT4.out HZ.out rfl HBX8.out hlo2).mono ?_
    rintro e w9 ⟨m, rfl, hmb, hmk⟩
    have h45 : w4.heap.size ≤ g5 := by have := HG4E.out; omega
    have ST9 : Hid (NLaw w w9 #[.slice av T.vars.length cv, .slice an T.nodes.length cn, .slice ab T.body.length cb] #[.slice av4 T.vars.length cv4, .slice an4 T.nodes.length cn4, .slice ab4 T.body.length cb4] g3 g4 g5 c0 a1 a2 N.length c1 c2 N) := ST8.out.marked hmk (by omega) hg3 (by have := HG4E.out; omega) h45 (fun g e hne => by have := HL1.out g e hne; omega)
    have HM9 : Hid (N.length ≠ 0 → a2 = some ⟨g2, 0, none⟩ ∧ g2 < g5 ∧ MarkedS w9 g2 N.length 1 0) := fun hne => ⟨(HM8.out hne).1, (HM8.out hne).2.1, (HM8.out hne).2.2.same (hmk.out g2 (by have := HG4E.out; omega) (by have := (HM8.out hne).2.1; omega))⟩
    have HR9 : Hid (RowS w9 a2 N) := HR8.out.same fun g e hne => by
      have hn0 : N.length ≠ 0 := fun h => hne (List.length_eq_zero_iff.1 h)
      have h1 := HM8.out hn0
      rw [h1.1] at e; simp at e; subst e
      exact hmk.out g2 (by have := HG4E.out; omega) (by have := h1.2.1; omega)
    have hW9 : g5 < w9.heap.size := blk_lt ST9.out.s8
    have hm0 : (0 : Int) ≤ (m : Int) := by omega
    clear hmk ST8 HR8 HM8 HBX8 HT4 px0 px1 px2 hW8
    have ps0 := cell_of_row _ _ 0 _ _ _ ST9.out.s6
    have ps1 := cell_of_row _ _ 1 _ _ _ ST9.out.s6
    have pe0 := cell_of_row _ _ 0 _ _ _ ST9.out.s8
    have pe1 := cell_of_row _ _ 1 _ _ _ ST9.out.s8
    simp at ps0 ps1 pe0 pe1
    go_wp2_with fail
    refine (HQ.out c0 a2 a1 N c2 c1 _ hNl HR9.out ST9.out.r1).mono ?_
    rintro e w10 ⟨rfl, hb⟩
    have ST10 : Hid (NLaw w w10 #[.slice av T.vars.length cv, .slice an T.nodes.length cn, .slice ab T.body.length cb] #[.slice av4 T.vars.length cv4, .slice an4 T.nodes.length cn4, .slice ab4 T.body.length cb4] g3 g4 g5 c0 a1 a2 N.length c1 c2 N) := ST9.out.below hb
    have HM10 : Hid (N.length ≠ 0 → a2 = some ⟨g2, 0, none⟩ ∧ g2 < g5 ∧ MarkedS w10 g2 N.length 1 0) := fun hne => ⟨(HM9.out hne).1, (HM9.out hne).2.1, (HM9.out hne).2.2.below hb⟩
    have hW10 : g5 < w10.heap.size := blk_lt ST10.out.s8
    clear hb ST9 HM9 HR9 ps0 ps1 pe0 pe1 hm0 hmb
    have pe0 := cell_of_row _ _ 0 _ _ _ ST10.out.s8
    have pe1 := cell_of_row _ _ 1 _ _ _ ST10.out.s8
    simp at pe0 pe1
    go_wp2_with fail
    obtain ⟨gm, hgm1, hgm2, hgm3⟩ : ∃ gm, W5.heap.size ≤ gm ∧ gm ≠ g5 ∧ (N.length ≠ 0 → gm = g2) := by
      by_cases hn0 : N.length = 0
      · exact ⟨g5 + 1, by omega, by omega, fun h => absurd hn0 h⟩
      · exact ⟨g2, hg2, by have := (HM10.out hn0).2.1; omega, fun _ => rfl⟩
    have HAE : Hid (N.length ≠ 0 → a2 = some ⟨gm, 0, none⟩) := fun hne => by rw [hgm3 hne]; exact (HM10.out hne).1
    have hmm10 : N.length ≠ 0 → MarkedS w10 gm N.length 1 0 := fun hne => by rw [hgm3 hne]; exact (HM10.out hne).2.2
    refine (markNames_any c0 gm N.length c2 W5.heap.size w10 hNl hgm1 hmm10 a2 HAE.out (by omega)).mono ?_
    rintro e w11 ⟨rfl, hmk, hb, hrs⟩
    have hg4e := HG4E.out
    have ST11 : Hid (NLaw w w11 #[.slice av T.vars.length cv, .slice an T.nodes.length cn, .slice ab T.body.length cb] #[.slice av4 T.vars.length cv4, .slice an4 T.nodes.length cn4, .slice ab4 T.body.length cb4] g3 g4 g5 c0 a1 a2 N.length c1 c2 N) := ST10.out.but hb hrs (by omega) (by omega) (by omega) (Ne.symm hgm2) (by omega) (fun g e hne => by have := HL1.out g e hne; exact ⟨by omega, by omega⟩)
    have HM11 : Hid (N.length ≠ 0 → MarkedS w11 gm N.length 1 N.length) := hmk
    obtain ⟨q, hqe⟩ : ∃ q, q = 1 + N.length := ⟨_, rfl⟩
    have HQE : Hid (q = 1 + N.length) := hqe
    have hq0 : (0 : Int) ≤ (q : Int) := by omega
    rw [← hqe]
    clear hb hrs hmk hmm10 ST10 HM10 pe0 pe1 hqe hg4e hg2 hgm1 hgm2 hgm3
    have pe0 := cell_of_row _ _ 0 _ _ _ ST11.out.s8
    have pe1 := cell_of_row _ _ 1 _ _ _ ST11.out.s8
    simp at pe0 pe1
    go_wp2_with fail
    refine (heldNames_any c0 gm N.length c2 w11 hNl HM11.out a2 HAE.out).mono ?_
    rintro e w12 ⟨rfl, hb⟩
    have ST12 : Hid (NLaw w w12 #[.slice av T.vars.length cv, .slice an T.nodes.length cn, .slice ab T.body.length cb] #[.slice av4 T.vars.length cv4, .slice an4 T.nodes.length cn4, .slice ab4 T.body.length cb4] g3 g4 g5 c0 a1 a2 N.length c1 c2 N) := ST11.out.below hb
    have HM12 : Hid (N.length ≠ 0 → MarkedS w12 gm N.length 1 N.length) := fun hne => (HM11.out hne).below hb
    rw [← HQE.out]
    clear hb ST11 HM11 pe0 pe1
    have pa0 := cell_of_row _ _ 0 _ _ _ ST12.out.box
    have pa1 := cell_of_row _ _ 1 _ _ _ ST12.out.box
    have pa2 := cell_of_row _ _ 2 _ _ _ ST12.out.box
    simp at pa0 pa1 pa2
    go_wp2_with fail
    refine (toTree_any 0 T _ _ _ _ (HT.out.below ST12.out.bel) HZ.out).mono ?_
    rintro e w13 ⟨_, _, _, rfl, ht13, hb⟩
    obtain ⟨av13, cv13, rfl, _⟩ := id ht13.vars
    obtain ⟨an13, cn13, rfl, _⟩ := id ht13.nodes
    obtain ⟨ab13, cb13, rfl, _⟩ := id ht13.body
    have ST13 : Hid (NLaw w w13 #[.slice av T.vars.length cv, .slice an T.nodes.length cn, .slice ab T.body.length cb] #[.slice av4 T.vars.length cv4, .slice an4 T.nodes.length cn4, .slice ab4 T.body.length cb4] g3 g4 g5 c0 a1 a2 N.length c1 c2 N) := ST12.out.below hb
    have HM13 : Hid (N.length ≠ 0 → MarkedS w13 gm N.length 1 N.length) := fun hne => (HM12.out hne).below hb
    have HT13 : Hid (TreeV w12.heap.size w13 (.slice av13 T.vars.length cv13) (.slice an13 T.nodes.length cn13) (.slice ab13 T.body.length cb13) T) := ht13
    clear hb ht13 ST12 HM12 pa0 pa1 pa2
    go_wp2_with fail
    refine (HI2.out _ _ _ _ _ HT13.out).mono ?_
    rintro e w14 ⟨v3, rfl, hown3, hb⟩
    obtain ⟨a3, c3, rfl⟩ := rowE_shape hown3
    have hr3 := RowS.of_own hown3 rfl
    have hbx : Below w14.heap.size w14 (w14.alloc (.cells #[.int .i64 c0, .slice a3 N.length c3] 45)) := (Below.refl _ _).alloc (Nat.le_refl _) _
    have hb5 := hb.trans (hbx.mono hb.size)
    have HR3 : Hid (RowS (w14.alloc (.cells #[.int .i64 c0, .slice a3 N.length c3] 45)) a3 N) := hr3.below hbx
    have H12 : Hid ((w14.alloc (.cells #[.int .i64 c0, .slice a3 N.length c3] 45)).heap[w14.heap.size]? = some (.cells #[.int .i64 c0, .slice a3 N.length c3] 45 (0, 0))) := heap_alloc_new w14 _
    have ST14 : Hid (NLaw w (w14.alloc (.cells #[.int .i64 c0, .slice a3 N.length c3] 45)) #[.slice av T.vars.length cv, .slice an T.nodes.length cn, .slice ab T.body.length cb] #[.slice av4 T.vars.length cv4, .slice an4 T.nodes.length cn4, .slice ab4 T.body.length cb4] g3 g4 g5 c0 a1 a2 N.length c1 c2 N) := ST13.out.below hb5
    have HM14 : Hid (N.length ≠ 0 → MarkedS (w14.alloc (.cells #[.int .i64 c0, .slice a3 N.length c3] 45)) gm N.length 1 N.length) := fun hne => (HM13.out hne).below hb5
    have pt0 := cell_of_row _ _ 0 _ _ _ H12.out
    have pt1 := cell_of_row _ _ 1 _ _ _ H12.out
    simp at pt0 pt1
    clear hown3 hr3 hb hbx hb5 ST13 HM13 HT13 HI2
    have ps0 := cell_of_row _ _ 0 _ _ _ ST14.out.s6
    have ps1 := cell_of_row _ _ 1 _ _ _ ST14.out.s6
    simp at ps0 ps1
    go_wp2_with fail
    generalize w14.alloc (.cells #[.int .i64 c0, .slice a3 N.length c3] 45) = W14 at *
    refine (HQ.out c0 a3 a1 N c3 c1 _ hNl HR3.out ST14.out.r1).mono ?_
    rintro e w15 ⟨rfl, hb⟩
    have ST15 : Hid (NLaw w w15 #[.slice av T.vars.length cv, .slice an T.nodes.length cn, .slice ab T.body.length cb] #[.slice av4 T.vars.length cv4, .slice an4 T.nodes.length cn4, .slice ab4 T.body.length cb4] g3 g4 g5 c0 a1 a2 N.length c1 c2 N) := ST14.out.below hb
    have HM15 : Hid (N.length ≠ 0 → MarkedS w15 gm N.length 1 N.length) := fun hne => (HM14.out hne).below hb
    clear hb ST14 HM14 ps0 ps1 pt0 pt1 H12 HR3
    have pe0 := cell_of_row _ _ 0 _ _ _ ST15.out.s8
    have pe1 := cell_of_row _ _ 1 _ _ _ ST15.out.s8
    simp at pe0 pe1
    go_wp2_with fail
    refine (heldNames_any c0 gm N.length c2 w15 hNl HM15.out a2 HAE.out).mono ?_
    rintro e w16 ⟨rfl, hb⟩
    have HB16 : Hid (Below w.heap.size w w16) := ST15.out.bel.trans (hb.mono ST15.out.bel.size)
    rw [← HQE.out]
    clear hb ST15 HM15 pe0 pe1
    go_wp2_with fail
    go_ret
    exact ⟨rfl, HB16.out⟩
  · go_wp2_with fail
    go_ret
    exact ⟨rfl, HB.out⟩
end Go.Proofs.Ytanalajojjpjnaa
namespace Go.Proofs.Ytanalajojjpjnaa
open Go.RowKit
set_option linter.unusedVariables false
theorem nmoL_len (T : LTree) (k : Int) : (nmoL T k).length ≤ T.vars.length := by
  unfold nmoL
  split
  · simp
  · split
    · exact namesL_len k T.vars
    · simp
theorem fnExactNamesOf_walk (vv0 vn0 vb0 : Value) (T0 : LTree) (a1 : Int) (w : World) (w0 : IsTree w vv0 vn0 vb0 T0) (w1 : (Lit.int .i64 a1).wf = true) :
    Calls Try.prog 6 #[treeV vv0 vn0 vb0, .int .i64 a1] w fun e w' => e = .returned (.bool true) ∧ Below w.heap.size w w' :=
  namesOf_law nmoC nmoL specNamesOf implNamesOf nmoL_len vv0 vn0 vb0 T0 a1 w w0
end Go.Proofs.Ytanalajojjpjnaa
