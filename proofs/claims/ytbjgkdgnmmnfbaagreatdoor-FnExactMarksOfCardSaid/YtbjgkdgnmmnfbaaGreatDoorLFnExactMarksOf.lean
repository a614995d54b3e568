/-
  The Go function laws.FnExactMarksOf answers true at every input and writes nothing that was there. No condition beside the laid variable errors.errorType.
-/
import Derived.Test.YtbjgkdgnmmnfbaaGreatDoorMrkM
import Derived.Test.YtbjgkdgnmmnfbaaGreatDoorSTree
import Derived.Test.YtbjgkdgnmmnfbaaGreatDoorStr
import Derived.Laws.AppendOwn
import Derived.Test.YtbjgkdgnmmnfbaaGreatDoorITruth
import Derived.Test.YtbjgkdgnmmnfbaaGreatDoorMkN
import Derived.Test.YtbjgkdgnmmnfbaaGreatDoorTF4
import Derived.Test.YtbjgkdgnmmnfbaaGreatDoorTreeSz
import Derived.Test.YtbjgkdgnmmnfbaaGreatDoorOpenTree
import Derived.Deep.Cut
namespace Go.Proofs.YtbjgkdgnmmnfbaaGreatDoor
open Go.RowKit
set_option linter.unusedVariables false
attribute [local go_sem] bs_size bs_get bs_extract bs_append bs_eq bs_toList
structure OutM (W : World) (q : Nat) (v : Value) (zs : List Int) : Prop where
 row : W.heap[q]? = some (.cells #[.int .i64 0, v] 29 (0, 0))
 own : W.ownsRow (q + 1) 2 1 v zs.length (zs.map (Value.int .i64))
theorem OutM.new (w : World) : OutM (w.alloc (.cells #[.int .i64 0, .slice none 0 0] 29)) w.heap.size (.slice none 0 0) [] := ⟨heap_alloc_new _ _, World.ownsRow_nil _ _ _ _⟩
theorem OutM.below {W W' : World} {q : Nat} {v : Value} {zs : List Int} (h : OutM W q v zs) (hb : Below W.heap.size W W') : OutM W' q v zs := ⟨blk h.row hb, own_kept h.own hb⟩
theorem OutM.store {W : World} {q : Nat} {u v : Value} {zs : List Int} (h : W.heap[q]? = some (.cells #[.int .i64 0, u] 29 (0, 0))) (ho : W.ownsRow (q + 1) 2 1 v zs.length (zs.map (Value.int .i64))) : OutM (W.setCell ⟨q, 1, none⟩ v) q v zs :=
 ⟨by rw [heap_setCell_same _ _ _ _ _ _ h]; rfl, ownsRow_setCell_below ho (by simp) _⟩
set_option maxHeartbeats 6400000 in
set_option maxRecDepth 100000 in
theorem specMarksOf (lo : Nat) (vv vn vb : Value) (T : LTree) (w : World) (h : TreeV lo w vv vn vb T) (hS : Sized 1048576 T) :
  Calls Tryz.prog 7 #[treeV vv vn vb] w fun e w' => ∃ v, e = .returned (resL (chkT T).1.1 v) ∧ Own w' w.heap.size v (mrkL T) ∧ Below w.heap.size w w' := by
 obtain ⟨i0, hi, hz0, hz1, hz2⟩ := info_parts infoInt
 have HX : Hid (∀ W, Below w.heap.size w W → W.heap[w.heap.size]? = some (.cells #[vv, vn, vb] 34 (0, 0)) → Calls Tryz.prog 29 #[.pointer (some ⟨w.heap.size, 0, none⟩)] W fun e w' => e = .returned (.agg #[.int .i64 (chkT T).1.1, .int .i64 (chkT T).1.2, .int .i64 (chkT T).2]) ∧ Below W.heap.size W w') := fun W hb hA =>
  l5Tree_any lo w.heap.size vv vn vb T W ⟨cell_of_row _ _ 0 _ _ _ hA, cell_of_row _ _ 1 _ _ _ hA, cell_of_row _ _ 2 _ _ _ hA, h.below hb⟩ hS
 have HG : Hid ((chkT T).1.1 = 0 → T.nodes.length ≤ 200 ∧ ∀ (k : Nat) (n : LNode), T.nodes[k]? = some n → 1 ≤ n.kind ∧ n.kind ≤ 11) := fun h0 => ⟨(good_of (chk_good h0).1).nodes, fun k n hk => (own_nums ((good_of (chk_good h0).1).node k n hk).1).2.2⟩
 have HM : Hid (mrkL T = if (chkT T).1.1 = 0 then mksL T.nodes T.nodes.length else []) := rfl
 obtain ⟨av, cv, rfl, _⟩ := id h.vars
 obtain ⟨an, cn, rfl, _, hhn⟩ := id h.nodes
 obtain ⟨ab, cb, rfl, _⟩ := id h.body
 have HN := hid hhn
 clear h hS hhn
 generalize mrkL T = L at *
 generalize (chkT T).1.1 = c1 at *
 generalize (chkT T).1.2 = c2 at *
 generalize (chkT T).2 = c3 at *
 go_enter Tryz.func7, Tryz.ntmps7
 go_wp2_with fail
 obtain ⟨hA, hA2, hB⟩ := two_start w (.slice av T.vars.length cv) (.slice an T.nodes.length cn) (.slice ab T.body.length cb) (.int .i64 0) (.slice none 0 0) 34 29
 generalize ((w.alloc (.cells #[.slice av T.vars.length cv, .slice an T.nodes.length cn, .slice ab T.body.length cb] 34)).alloc (.cells #[.int .i64 0, .slice none 0 0] 29)) = W at *
 refine (HX.out _ hB hA).mono ?_
 rintro e w2 ⟨rfl, hb⟩
 have hA1 := blk hA hb
 have hA3 := blk hA2 hb
 have hB2 := hB.trans (hb.mono hB.size)
 have hbx : Below w2.heap.size w2 (w2.alloc (.cells #[.int .i64 c1, .int .i64 c2, .int .i64 c3] 58)) := (Below.refl _ _).alloc (Nat.le_refl _) _
 have HC : Hid ((w2.alloc (.cells #[.int .i64 c1, .int .i64 c2, .int .i64 c3] 58)).heap[w2.heap.size]? = some (.cells #[.int .i64 c1, .int .i64 c2, .int .i64 c3] 58 (0, 0))) := heap_alloc_new w2 _
 have HA : Hid ((w2.alloc (.cells #[.int .i64 c1, .int .i64 c2, .int .i64 c3] 58)).heap[w.heap.size]? = some (.cells #[.slice av T.vars.length cv, .slice an T.nodes.length cn, .slice ab T.body.length cb] 34 (0, 0))) := blk hA1 hbx
 have HR : Hid ((w2.alloc (.cells #[.int .i64 c1, .int .i64 c2, .int .i64 c3] 58)).heap[w.heap.size + 1]? = some (.cells #[.int .i64 0, .slice none 0 0] 29 (0, 0))) := blk hA3 hbx
 have HB : Hid (Below w.heap.size w (w2.alloc (.cells #[.int .i64 c1, .int .i64 c2, .int .i64 c3] 58))) := hB2.trans (hbx.mono hB2.size)
 clear hA hA2 hB hb hA1 hA3 hB2 hbx HX
 go_upto_region 2 with fail
 generalize w2.alloc (.cells #[.int .i64 c1, .int .i64 c2, .int .i64 c3] 58) = W2 at *
 generalize w2.heap.size = g2 at *
 have k0 := cell_of_row _ _ 0 _ _ _ HC.out
 simp at k0
 by_cases hc : c1 = 0
 ·subst hc
  have HSN : Hid (L = mksL T.nodes T.nodes.length) := by unfold Hid; rw [HM.out, if_pos rfl]
  have HGN := hid (HG.out rfl).2
  have hn200 := (HG.out rfl).1
  clear HG HM
  go_upto_region 5 with fail
  have HO4 := hid (OutM.new W2)
  have HB4 : Hid (Below W2.heap.size W2 (W2.alloc (.cells #[.int .i64 0, .slice none 0 0] 29))) := (Below.refl _ _).alloc (Nat.le_refl _) _
  have hq : w.heap.size + 1 < W2.heap.size := blk_lt HR.out
  generalize W2.alloc (.cells #[.int .i64 0, .slice none 0 0] 29) = W4 at *
  obtain ⟨q, hqe⟩ : ∃ q, W2.heap.size = q := ⟨_, rfl⟩
  rw [hqe] at HO4 HB4 hq ⊢
  have HQE := hid hqe
  clear hqe k0 HC
  go_wp2_with fail
  go_loopw [5] (fun i wr => ∃ (k : Nat) (v : Value), k ≤ T.nodes.length ∧ i = .int .i64 k ∧ OutM wr q v (mksL T.nodes k) ∧ Below q W2 wr) (fun i _ => T.nodes.length - (intOf i).toNat)
  case atStart => exact ⟨0, _, by omega, rfl, HO4.out, HB4.out⟩
  case round =>
   clear HO4 HB4
   obtain ⟨k, v, hk, rfl, ho, hBr⟩ := hrel
   obtain ⟨ad, cp, rfl⟩ := own_shape ho.own
   have HO := hid ho
   have HBR := hid hBr
   have hqr : q < wr.heap.size := blk_lt ho.row
   have hA := (hBr.block w.heap.size (by omega)).trans HA.out
   obtain ⟨p0, p1, p2⟩ := cl3 hA
   have hlen := mksL_len T.nodes k
   clear hA
   by_cases hlt : k < T.nodes.length
   ·obtain ⟨y, hy⟩ : ∃ y, T.nodes[k]? = some y := ⟨T.nodes[k], List.getElem?_eq_getElem hlt⟩
    obtain ⟨b, o, rfl, _, hc2⟩ := HN.out (by intro e; rw [e] at hlt; simp at hlt)
    obtain ⟨vk, vt, ve, hcs, hvs⟩ := hc2 k y hy
    have hkp : ∀ g, g < w.heap.size → wr.heap[g]? = w.heap[g]? := fun g hg => (hBr.block g (by omega)).trans (HB.out.block g hg)
    obtain ⟨d0, d1, d2, d3, d4, d5, d6, d7⟩ := hcs.keep (lo := 0) (w' := wr) (fun g _ hg => hkp g hg) (Nat.zero_le _)
    have hky := HGN.out k y hy
    have HYES : Hid (exprN y = false → mksL T.nodes (k + 1) = mksL T.nodes k ++ [(k : Int)]) := fun he => mksL_yes hy (by
     have h1 : ¬ (1 ≤ y.kind ∧ y.kind ≤ 6) := fun h => by rw [show exprN y = true from inB_iff.2 h] at he; cases he
     exact inB_iff.2 (by omega))
    have HNO : Hid (exprN y = true → mksL T.nodes (k + 1) = mksL T.nodes k) := fun he => mksL_no hy (by
     have h1 := inB_iff.1 (show inB y.kind 1 6 = true from he)
     cases h : inB y.kind 7 11 with
     | false => rfl
     | true => have := inB_iff.1 h; omega)
    have HEX : Hid (∀ W, Calls Tryz.prog 30 #[nodeV y vk vt ve] W fun e w' => e = .returned (.bool (exprN y)) ∧ Below W.heap.size W w') := fun W => by
     obtain ⟨ak, ck, rfl, _⟩ := id hvs.kids
     obtain ⟨at2, ct, rfl, _⟩ := id hvs.thn
     obtain ⟨ae, ce, rfl, _⟩ := id hvs.els
     exact l4Expr_any y _ _ _ W ⟨_, _, _, rfl⟩ ⟨_, _, _, rfl⟩ ⟨_, _, _, rfl⟩
    have hk0 : (0 : Int) ≤ (k : Int) := by omega
    have hk1 : (k : Int) < (T.nodes.length : Int) := by omega
    obtain ⟨ak, ck, rfl, _⟩ := id hvs.kids
    obtain ⟨at2, ct, rfl, _⟩ := id hvs.thn
    obtain ⟨ae, ce, rfl, _⟩ := id hvs.els
    clear hy hc2 hcs hvs hkp ho hBr hky
    go_wp2_with fail
    refine (HEX.out _).mono ?_
    rintro e w5 ⟨rfl, hb⟩
    have HO5 := hid (HO.out.below hb)
    have hB5 : Below q W2 w5 := HBR.out.trans (hb.mono (by omega))
    have HB5 := hid hB5
    have hqr5 : q < w5.heap.size := blk_lt HO5.out.row
    clear hb hB5 HO HBR HEX d0 d1 d2 d3 d4 d5 d6 d7 p0 p1 p2 hqr
    obtain ⟨bx, hbx⟩ : ∃ b, exprN y = b := ⟨_, rfl⟩
    rw [hbx] at HYES HNO ⊢
    clear hbx
    cases bx with
    | true =>
     have HE := hid (HNO.out rfl)
     clear HYES HNO
     go_wp2_with fail
     go_roundw
     case rel => exact ⟨k + 1, _, by omega, by go_num, by rw [HE.out]; exact HO5.out, HB5.out⟩
     case measure => simp [intOf]; omega
    | false =>
     have HE := hid (HYES.out rfl)
     clear HYES HNO
     have hown := HO5.out.own
     obtain ⟨q0, q1⟩ := cl2 HO5.out.row
     go_wp2_with (at_builtin; go_loud (refine wpList_append_own _ rfl _ _ 24 rfl (q + 1) 2 i0 (.int .i64 0) 1 8 Tryz.underlying24 hi hz0 hz1 hz2 rfl (by decide) _ _ _ rfl (hown.alloc _) ⟨w5.heap.size, 0, none⟩ 1 1 [.int .i64 (k : Int)] rfl rfl ?c1 ?c2 ?c3 ?c4 ?c5 ?_))
     case c1 =>
      intro j u hj
      match j, hj with
      | 0, hj => simp at hj; subst hj; simp [Addr.add]
     case c2 => intro u hu; simp at hu; subst hu; rfl
     case c3 => unfold maxLen; omega
     case c4 => omega
     case c5 => simp; omega
     intro v' w6 hown' hgrow _
     obtain ⟨ad2, cp2, rfl⟩ := own_shape hown'
     have hB6 : Below (q + 1) w5 w6 := ((Below.refl (q + 1) w5).alloc (by omega) _).grown hgrow (by simp; omega) (fun j hj => (hown.lt j hj).1)
     have hrow := (hB6.block q (by omega)).trans HO5.out.row
     have HB6 : Hid (Below q W2 w6) := HB5.out.trans (hB6.mono (by omega))
     have HO7 : Hid (OutM (w6.setCell ⟨q, 1, none⟩ (.slice ad2 ((mksL T.nodes k).length + 1) cp2)) q (.slice ad2 ((mksL T.nodes k).length + 1) cp2) (mksL T.nodes (k + 1))) := OutM.store hrow (by
      rw [HE.out, List.map_append, List.length_append]; exact hown')
     obtain ⟨q0, q1⟩ := cl2 hrow
     obtain ⟨f0, f1⟩ := fl2 hrow
     clear hgrow hown hown' hB6 hrow HO5 HB5
     go_wp2_with fail
     go_roundw
     case rel => exact ⟨k + 1, _, by omega, by go_num, HO7.out, HB6.out.setCell (Nat.le_refl _) _⟩
     case measure => simp [intOf]; omega
   ·have hk2 : k = T.nodes.length := by omega
    have hge : (T.nodes.length : Int) ≤ (k : Int) := by omega
    obtain ⟨q0, q1⟩ := cl2 HO.out.row
    have hRR := (hBr.block (w.heap.size + 1) (by omega)).trans HR.out
    obtain ⟨r0, r1⟩ := cl2 hRR
    obtain ⟨f0, f1⟩ := fl2 hRR
    have HF : Hid (Own ((wr.setCell ⟨w.heap.size + 1, 0, none⟩ (.int .i64 0)).setCell ⟨w.heap.size + 1, 1, none⟩ (.slice ad (mksL T.nodes k).length cp)) w.heap.size (.slice ad (mksL T.nodes k).length cp) L) := by
     rw [HSN.out, ← hk2]
     exact own_mono (ownsRow_setCell_below (ownsRow_setCell_below HO.out.own (a := ⟨w.heap.size + 1, 0, none⟩) (by show w.heap.size + 1 < q + 1; omega) _) (a := ⟨w.heap.size + 1, 1, none⟩) (by show w.heap.size + 1 < q + 1; omega) _) (by omega)
    have HBF : Hid (Below w.heap.size w wr) := HB.out.trans (hBr.mono (by omega))
    have hw1 : w.heap.size ≤ w.heap.size + 1 := by omega
    clear hk2 hRR ho hBr HO HBR hlen HN
    go_wp2_with fail
    refine bodyPost_ret (v := resL 0 (.slice ad (mksL T.nodes k).length cp)) (by simp [results, Tryz.results7, go_sem, r0, r1]) rfl ⟨_, rfl, HF.out, (HBF.out.setCell (by simp) _).setCell (by simp) _⟩
 ·have hz1' : (c1 == 0) = false := by simpa using hc
  have hz2' : decide (c1 = 0) = false := decide_eq_false hc
  have HSN : Hid (L = []) := by unfold Hid; rw [HM.out, if_neg hc]
  obtain ⟨r0, r1⟩ := cl2 HR.out
  obtain ⟨f0, f1⟩ := fl2 HR.out
  clear HG HM HN hi hz0 hz1 hz2
  go_wp2_with fail
  refine bodyPost_ret (v := resL c1 (.slice none 0 0)) (by simp [results, Tryz.results7, go_sem, r0, r1]) rfl ⟨_, rfl, ?_, (HB.out.setCell (by simp) _).setCell (by simp) _⟩
  rw [HSN.out]
  exact World.ownsRow_nil _ _ _ _
end Go.Proofs.YtbjgkdgnmmnfbaaGreatDoor
namespace Go.Proofs.YtbjgkdgnmmnfbaaGreatDoor
open Go.RowKit
set_option linter.unusedVariables false
attribute [local go_sem] bs_size bs_get bs_extract bs_append bs_eq bs_toList
theorem fldCM (a b c : Int) (w : World) : (Instr.field 58 (.agg #[.int .i64 a, .int .i64 b, .int .i64 c]) 0).run Tryz.prog w = .ok (.int .i64 a) w := by kernel_rfl
set_option maxHeartbeats 6400000 in
set_option maxRecDepth 100000 in
theorem implMarksOf (lo : Nat) (vv vn vb : Value) (T : LTree) (w : World) (h : TreeV lo w vv vn vb T) (hS : Sized 1048576 T) (hE : ErrT w) :
  Calls Tryz.prog 9 #[treeV vv vn vb] w fun e w' => ∃ v, e = .returned (resL (chkT T).1.1 v) ∧ Own w' w.heap.size v (mrkL T) ∧ Below w.heap.size w w' := by
 obtain ⟨i0, hi, hz0, hz1, hz2⟩ := info_parts infoInt
 have HX : Hid (∀ W, Below w.heap.size w W → Calls Tryz.prog 33 #[treeV vv vn vb] W fun e w' => e = .returned (.agg #[.int .i64 (chkT T).1.1, .int .i64 (chkT T).1.2, .int .i64 (chkT T).2]) ∧ Below W.heap.size W w') := fun W hb => implCheckTree lo vv vn vb T W (h.below hb) hS (hE.kept hb)
 have HG : Hid ((chkT T).1.1 = 0 → T.nodes.length ≤ 200) := fun h0 => (good_of (chk_good h0).1).nodes
 have HM : Hid (mrkL T = if (chkT T).1.1 = 0 then mksL T.nodes T.nodes.length else []) := rfl
 obtain ⟨av, cv, rfl, _⟩ := id h.vars
 obtain ⟨an, cn, rfl, _, hhn⟩ := id h.nodes
 obtain ⟨ab, cb, rfl, _⟩ := id h.body
 have HN := hid hhn
 clear h hS hhn hE
 generalize mrkL T = L at *
 generalize (chkT T).1.1 = c1 at *
 generalize (chkT T).1.2 = c2 at *
 generalize (chkT T).2 = c3 at *
 have hfl := fldCM
 go_enter Tryz.func9, Tryz.ntmps9
 go_upto_region 1 with fail
 obtain ⟨hA, hA2, hB⟩ := two_start w (.slice av T.vars.length cv) (.slice an T.nodes.length cn) (.slice ab T.body.length cb) (.int .i64 0) (.slice none 0 0) 34 29
 generalize ((w.alloc (.cells #[.slice av T.vars.length cv, .slice an T.nodes.length cn, .slice ab T.body.length cb] 34)).alloc (.cells #[.int .i64 0, .slice none 0 0] 29)) = W at *
 obtain ⟨p0, p1, p2⟩ := cl3 hA
 go_wp2_with fail
 refine (HX.out _ hB).mono ?_
 rintro e W2 ⟨rfl, hb⟩
 have HA : Hid (W2.heap[w.heap.size]? = some (.cells #[.slice av T.vars.length cv, .slice an T.nodes.length cn, .slice ab T.body.length cb] 34 (0, 0))) := blk hA hb
 have HR : Hid (W2.heap[w.heap.size + 1]? = some (.cells #[.int .i64 0, .slice none 0 0] 29 (0, 0))) := blk hA2 hb
 have HB : Hid (Below w.heap.size w W2) := hB.trans (hb.mono hB.size)
 clear hA hA2 hB hb HX p0 p1 p2
 by_cases hc : c1 = 0
 ·subst hc
  have HSN : Hid (L = mksL T.nodes T.nodes.length) := by unfold Hid; rw [HM.out, if_pos rfl]
  have hn200 := HG.out rfl
  have hq : w.heap.size + 1 < W2.heap.size := blk_lt HR.out
  obtain ⟨p0, p1, p2⟩ := cl3 HA.out
  clear HG HM
  obtain ⟨q, hqe⟩ : ∃ q, W2.heap.size = q := ⟨_, rfl⟩
  rw [hqe] at hq
  have HQE := hid hqe
  clear hqe
  go_wp2_with fail
  go_loopw [4, 5, 6, 17] (fun v s5 s6 i wr => ∃ k : Nat, k ≤ T.nodes.length ∧ i = .int .i64 k ∧ wr.ownsRow q 2 1 v (mksL T.nodes k).length ((mksL T.nodes k).map (Value.int .i64)) ∧ Below q W2 wr) (fun v s5 s6 i _ => T.nodes.length - (intOf i).toNat)
  case atStart => exact ⟨0, by omega, rfl, World.ownsRow_nil _ _ _ _, Below.refl _ _⟩
  case round =>
   clear p0 p1 p2
   obtain ⟨k, hk, rfl, ho, hBr⟩ := hrel
   obtain ⟨ad, cp, rfl⟩ := own_shape ho
   have HO := hid ho
   have HBR := hid hBr
   have hqr : q ≤ wr.heap.size := by have := hBr.size; have := HQE.out; omega
   have hlen := mksL_len T.nodes k
   by_cases hlt : k < T.nodes.length
   ·obtain ⟨y, hy⟩ : ∃ y, T.nodes[k]? = some y := ⟨T.nodes[k], List.getElem?_eq_getElem hlt⟩
    obtain ⟨b, o, rfl, _, hc2⟩ := HN.out (by intro e; rw [e] at hlt; simp at hlt)
    obtain ⟨vk, vt, ve, hcs, hvs⟩ := hc2 k y hy
    have hkp : ∀ g, g < w.heap.size → wr.heap[g]? = w.heap[g]? := fun g hg => (hBr.block g (by omega)).trans (HB.out.block g hg)
    obtain ⟨d0, d1, d2, d3, d4, d5, d6, d7⟩ := hcs.keep (lo := 0) (w' := wr) (fun g _ hg => hkp g hg) (Nat.zero_le _)
    have HYES : Hid (inB y.kind 7 11 = true → mksL T.nodes (k + 1) = mksL T.nodes k ++ [(k : Int)]) := mksL_yes hy
    have HNO : Hid (inB y.kind 7 11 = false → mksL T.nodes (k + 1) = mksL T.nodes k) := mksL_no hy
    have HIS : Hid (∀ W, Calls Tryz.prog 34 #[.int .i64 y.kind] W fun e w' => e = .returned (.bool (inB y.kind 7 11)) ∧ w' = W) := fun W => isStatement_any y.kind W
    have hk0 : (0 : Int) ≤ (k : Int) := by omega
    have hk1 : (k : Int) < (T.nodes.length : Int) := by omega
    obtain ⟨ak, ck, rfl, _⟩ := id hvs.kids
    obtain ⟨at2, ct, rfl, _⟩ := id hvs.thn
    obtain ⟨ae, ce, rfl, _⟩ := id hvs.els
    clear hy hc2 hcs hvs hkp ho hBr
    go_upto_region 8 with fail
    have hbx : Below wr.heap.size wr (wr.alloc (.cells #[.int .i64 y.kind, .int .i64 y.op, .string (bs y.name), .int .i64 y.num, .int .i64 y.far, .slice ak y.kids.length ck, .slice at2 y.thn.length ct, .slice ae y.els.length ce] 63)) := (Below.refl _ _).alloc (Nat.le_refl _) _
    have hy8 := heap_alloc_new wr (.cells #[.int .i64 y.kind, .int .i64 y.op, .string (bs y.name), .int .i64 y.num, .int .i64 y.far, .slice ak y.kids.length ck, .slice at2 y.thn.length ct, .slice ae y.els.length ce] 63)
    generalize wr.alloc (.cells #[.int .i64 y.kind, .int .i64 y.op, .string (bs y.name), .int .i64 y.num, .int .i64 y.far, .slice ak y.kids.length ck, .slice at2 y.thn.length ct, .slice ae y.els.length ce] 63) = w5 at *
    obtain ⟨e0, -⟩ := cl2 hy8
    have HO5 := hid (own_kept HO.out hbx)
    have HB5 : Hid (Below q W2 w5) := HBR.out.trans (hbx.mono hqr)
    have hqr5 : q ≤ w5.heap.size := by have := hbx.size; omega
    clear hbx hy8 HO HBR hqr d0 d1 d2 d3 d4 d5 d6 d7
    go_wp2_with fail
    refine (HIS.out _).mono ?_
    rintro e w6 ⟨rfl, rfl⟩
    clear e0 HIS
    obtain ⟨bx, hbx⟩ : ∃ b, inB y.kind 7 11 = b := ⟨_, rfl⟩
    rw [hbx] at HYES HNO ⊢
    clear hbx
    cases bx with
    | false =>
     have HE := hid (HNO.out rfl)
     clear HYES HNO
     go_wp2_with fail
     go_roundw
     case rel => exact ⟨k + 1, by omega, by go_num, by rw [HE.out]; exact HO5.out, HB5.out⟩
     case measure => simp [intOf]; omega
    | true =>
     have HE := hid (HYES.out rfl)
     clear HYES HNO
     have hown := HO5.out
     go_wp2_with (at_builtin; go_loud (refine wpList_append_own _ rfl _ _ 24 rfl q 2 i0 (.int .i64 0) 1 8 Tryz.underlying24 hi hz0 hz1 hz2 rfl (by decide) _ _ _ rfl (hown.alloc _) ⟨w6.heap.size, 0, none⟩ 1 1 [.int .i64 (k : Int)] rfl rfl ?c1 ?c2 ?c3 ?c4 ?c5 ?_))
     case c1 =>
      intro j u hj
      match j, hj with
      | 0, hj => simp at hj; subst hj; simp [Addr.add]
     case c2 => intro u hu; simp at hu; subst hu; rfl
     case c3 => unfold maxLen; omega
     case c4 => omega
     case c5 => simp; omega
     intro v' w7 hown' hgrow _
     have hB6 : Below q w6 w7 := ((Below.refl q w6).alloc (by omega) _).grown hgrow (by simp; omega) (fun j hj => (hown.lt j hj).1)
     have HB7 : Hid (Below q W2 w7) := HB5.out.trans hB6
     have HO7 : Hid (w7.ownsRow q 2 1 v' (mksL T.nodes (k + 1)).length ((mksL T.nodes (k + 1)).map (Value.int .i64))) := by
      unfold Hid
      rw [HE.out, List.map_append, List.length_append]; exact hown'
     clear hgrow hown hown' hB6 HO5 HB5
     go_wp2_with fail
     go_roundw
     case rel => exact ⟨k + 1, by omega, by go_num, HO7.out, HB7.out⟩
     case measure => simp [intOf]; omega
   ·have hk2 : k = T.nodes.length := by omega
    have hge : (T.nodes.length : Int) ≤ (k : Int) := by omega
    have hRR := (hBr.block (w.heap.size + 1) (by omega)).trans HR.out
    obtain ⟨r0, r1⟩ := cl2 hRR
    obtain ⟨f0, f1⟩ := fl2 hRR
    have HF : Hid (Own ((wr.setCell ⟨w.heap.size + 1, 0, none⟩ (.int .i64 0)).setCell ⟨w.heap.size + 1, 1, none⟩ (.slice ad (mksL T.nodes k).length cp)) w.heap.size (.slice ad (mksL T.nodes k).length cp) L) := by
     rw [HSN.out, ← hk2]
     exact own_mono (ownsRow_setCell_below (ownsRow_setCell_below HO.out (a := ⟨w.heap.size + 1, 0, none⟩) hq _) (a := ⟨w.heap.size + 1, 1, none⟩) hq _) (by omega)
    have HBF : Hid (Below w.heap.size w wr) := HB.out.trans (hBr.mono (by omega))
    clear hk2 hRR ho hBr HO HBR hlen HN
    go_wp2_with fail
    refine bodyPost_ret (v := resL 0 (.slice ad (mksL T.nodes k).length cp)) (by simp [results, Tryz.results9, go_sem, r0, r1]) rfl ⟨_, rfl, HF.out, (HBF.out.setCell (by simp) _).setCell (by simp) _⟩
 ·have hz1' : (c1 == 0) = false := by simpa using hc
  have hz2' : decide (c1 = 0) = false := decide_eq_false hc
  have HSN : Hid (L = []) := by unfold Hid; rw [HM.out, if_neg hc]
  obtain ⟨r0, r1⟩ := cl2 HR.out
  obtain ⟨f0, f1⟩ := fl2 HR.out
  clear HG HM HN hi hz0 hz1 hz2
  go_wp2_with fail
  refine bodyPost_ret (v := resL c1 (.slice none 0 0)) (by simp [results, Tryz.results9, go_sem, r0, r1]) rfl ⟨_, rfl, ?_, (HB.out.setCell (by simp) _).setCell (by simp) _⟩
  rw [HSN.out]
  exact World.ownsRow_nil _ _ _ _
end Go.Proofs.YtbjgkdgnmmnfbaaGreatDoor
namespace Go.Proofs.YtbjgkdgnmmnfbaaGreatDoor
open Go.RowKit
set_option linter.unusedVariables false
attribute [local go_sem] bs_size bs_get bs_extract bs_append bs_eq bs_toList
theorem bel_onM {a b c : World} (h : Below a.heap.size a b) (hb : Below b.heap.size b c) : Below a.heap.size a c := h.trans (hb.mono h.size)
def MarkR1 (B : Nat) (w w' : World) (a : Option Addr) (n : Nat) : Prop :=
 Nums w' a (marks 1 n) ∧ Below B w w' ∧ w.heap.size ≤ w'.heap.size ∧ (∀ g, g < w.heap.size → a ≠ some ⟨g, 0, none⟩ → w'.heap[g]? = w.heap[g]?)
structure MkA (W : World) (B p : Nat) (c : Int) (zs : List Int) (a : Option Addr) (k : Nat) : Prop where
 row : W.heap[p]? = some (.cells #[.int .i64 c, (.slice a zs.length k)] 29 (0, 0))
 o : Own W B (.slice a zs.length k) zs
 b1 : ∀ g, a = some ⟨g, 0, none⟩ → B ≤ g ∧ g < p
theorem MkA.new {w W : World} {c : Int} {zs : List Int} {a : Option Addr} {k : Nat} (h : Own W w.heap.size (.slice a zs.length k) zs) : MkA (W.alloc (.cells #[.int .i64 c, (.slice a zs.length k)] 29)) w.heap.size W.heap.size c zs a k :=
 ⟨heap_alloc_new _ _, own_kept h ((Below.refl _ _).alloc (Nat.le_refl _) _), fun g hg => own_lt h hg⟩
theorem MkA.lt {W : World} {B p : Nat} {c : Int} {zs : List Int} {a : Option Addr} {k : Nat} (h : MkA W B p c zs a k) : p < W.heap.size := blk_lt h.row
theorem MkA.below {W W' : World} {B p : Nat} {c : Int} {zs : List Int} {a : Option Addr} {k : Nat} (h : MkA W B p c zs a k) (hb : Below W.heap.size W W') : MkA W' B p c zs a k := ⟨blk h.row hb, own_kept h.o hb, h.b1⟩
theorem MkA.keep {W W' : World} {B p : Nat} {c : Int} {zs : List Int} {a : Option Addr} {k : Nat} (h : MkA W B p c zs a k) (h1 : ∀ g, B ≤ g → g ≤ p → W'.heap[g]? = W.heap[g]?) (hB : B ≤ p) : MkA W' B p c zs a k :=
 ⟨(h1 p hB (Nat.le_refl _)).trans h.row, own_other h.o (fun g hg => have k := h.b1 g (own_at h.o hg); h1 g k.1 (Nat.le_of_lt k.2)), h.b1⟩
theorem MkA.nums {W : World} {B p : Nat} {c : Int} {zs : List Int} {a : Option Addr} {k : Nat} (h : MkA W B p c zs a k) : Nums W a zs := (nums_of_own h.o).2
structure MkL (w W : World) (L LX : Array Value) (c : Int) (zs : List Int) (B p x D q : Nat) (a1 a2 : Option Addr) (k1 k2 : Nat) : Prop where
 box : W.heap[w.heap.size]? = some (.cells L 26 (0, 0))
 v : MkA W B p c zs a1 k1
 xb : W.heap[x]? = some (.cells LX 34 (0, 0))
 u : MkA W D q c zs a2 k2
 b : Below w.heap.size w W
 l : w.heap.size < p ∧ B ≤ p ∧ p < x ∧ x < D ∧ D ≤ q ∧ q < W.heap.size
theorem MkL.below {w W W' : World} {L LX : Array Value} {c : Int} {zs : List Int} {B p x D q : Nat} {a1 a2 : Option Addr} {k1 k2 : Nat} (h : MkL w W L LX c zs B p x D q a1 a2 k1 k2) (hb : Below W.heap.size W W') : MkL w W' L LX c zs B p x D q a1 a2 k1 k2 :=
 ⟨blk h.box hb, h.v.below hb, blk h.xb hb, h.u.below hb, bel_onM h.b hb, by have := h.l; have := hb.size; omega⟩
theorem MkL.marked {w W W' : World} {L LX : Array Value} {c : Int} {zs : List Int} {B p x D q lo : Nat} {a1 a2 : Option Addr} {k1 k2 : Nat} (h : MkL w W L LX c zs B p x D q a1 a2 k1 k2) (hm : Mk lo x W W') (hlo : p < lo) : MkL w W' L LX c zs B p x D q a1 a2 k1 k2 := by
 have hl := h.l
 have hz := hm.bel.size
 exact ⟨(hm.bel.block _ (by omega)).trans h.box, h.v.keep (fun g h1 h2 => hm.bel.block g (by omega)) hl.2.1, (hm.out _ (Nat.le_refl _) (by omega)).trans h.xb, h.u.keep (fun g h1 h2 => hm.out g (by omega) (by omega)) hl.2.2.2.2.1, h.b.trans (hm.bel.mono (by omega)), by omega⟩
structure MkN1 (w W : World) (L : Array Value) (c : Int) (zs : List Int) (B p q : Nat) (a1 a2 : Option Addr) (k1 k2 : Nat) : Prop where
 box : W.heap[w.heap.size]? = some (.cells L 26 (0, 0))
 v : MkA W B p c zs a1 k1
 u : W.heap[q]? = some (.cells #[.int .i64 c, (.slice a2 zs.length k2)] 29 (0, 0))
 n : Nums W a2 (marks 1 zs.length)
 b : Below w.heap.size w W
theorem MkN1.below {w W W' : World} {L : Array Value} {c : Int} {zs : List Int} {B p q : Nat} {a1 a2 : Option Addr} {k1 k2 : Nat} (h : MkN1 w W L c zs B p q a1 a2 k1 k2) (hb : Below W.heap.size W W') : MkN1 w W' L c zs B p q a1 a2 k1 k2 :=
 ⟨blk h.box hb, h.v.below hb, blk h.u hb, h.n.below hb, bel_onM h.b hb⟩
theorem MkL.own {w W W' : World} {L LX : Array Value} {c : Int} {zs : List Int} {B p x D q : Nat} {a1 a2 : Option Addr} {k1 k2 : Nat} (h : MkL w W L LX c zs B p x D q a1 a2 k1 k2) (hm : MarkR1 D W W' a2 zs.length) : MkN1 w W' L c zs B p q a1 a2 k1 k2 := by
 obtain ⟨n1, hb, hz, hoth⟩ := hm
 have hl := h.l
 have HO : ∀ g, g < W.heap.size → (g < D ∨ q ≤ g) → W'.heap[g]? = W.heap[g]? := fun g hg k => hoth g hg (fun e => by have := h.u.b1 g e; omega)
 exact ⟨(HO _ (by omega) (by omega)).trans h.box, h.v.keep (fun g h1 h2 => HO g (by omega) (by omega)) hl.2.1, (HO _ (by omega) (by omega)).trans h.u.row, n1, h.b.trans (hb.mono (by omega))⟩
set_option maxHeartbeats 6400000 in
set_option maxRecDepth 100000 in
theorem marksOf_law (vv vn vb : Value) (T : LTree) (w : World) (h : IsTree w vv vn vb T) (hE : ErrT w) :
  Calls Tryz.prog 3 #[treeV vv vn vb] w fun e w' => e = .returned (.bool true) ∧ Below w.heap.size w w' := by
 obtain ⟨ht, hf⟩ := h
 obtain ⟨av, cv, rfl, _⟩ := id ht.vars
 obtain ⟨an, cn, rfl, _⟩ := id ht.nodes
 obtain ⟨ab, cb, rfl, _⟩ := id ht.body
 have HT := hid ht
 have HF := hid hf
 have HET : Hid (∀ W, Below w.heap.size w W → ErrT W) := fun W hb => hE.kept hb
 have hA := heap_alloc_new w (.cells #[.slice av T.vars.length cv, .slice an T.nodes.length cn, .slice ab T.body.length cb] 26)
 have hB := (Below.refl w.heap.size w).alloc (Nat.le_refl _) (.cells #[.slice av T.vars.length cv, .slice an T.nodes.length cn, .slice ab T.body.length cb] 26)
 clear ht hf hE
 go_enter Tryz.func3, Tryz.ntmps3
 go_wp2_with fail
 generalize w.alloc (.cells #[.slice av T.vars.length cv, .slice an T.nodes.length cn, .slice ab T.body.length cb] 26) = W at *
 refine (szTree_any 0 T _ _ _ _ (HT.out.below hB) HF.out).mono ?_
 rintro e w1 ⟨r, rfl, hr, hb1⟩
 have HA := hid (blk hA hb1)
 have HB := hid (bel_onM hB hb1)
 clear hb1 hA hB
 by_cases h0 : 0 ≤ r
 ·have hz := hr h0
  have HTO : Hid (∀ W, Below w.heap.size w W → Calls Tryz.prog 8 #[.agg #[.slice av T.vars.length cv, .slice an T.nodes.length cn, .slice ab T.body.length cb]] W fun e w' => ∃ a c a2 c2 a3 c3, e = .returned (treeV (.slice a T.vars.length c) (.slice a2 T.nodes.length c2) (.slice a3 T.body.length c3)) ∧ TreeV W.heap.size w' (.slice a T.vars.length c) (.slice a2 T.nodes.length c2) (.slice a3 T.body.length c3) T ∧ Below W.heap.size W w') := fun W hW =>
   (toTree_any 0 T _ _ _ W (HT.out.below hW) hz).mono fun e w' h => by
    obtain ⟨_, _, _, rfl, h1, h2⟩ := h
    obtain ⟨_, _, rfl, _⟩ := id h1.vars
    obtain ⟨_, _, rfl, _⟩ := id h1.nodes
    obtain ⟨_, _, rfl, _⟩ := id h1.body
    exact ⟨_, _, _, _, _, _, rfl, h1, h2⟩
  have HTF : Hid (∀ W, Below w.heap.size w W → Calls Tryz.prog 8 #[.agg #[.slice av T.vars.length cv, .slice an T.nodes.length cn, .slice ab T.body.length cb]] W fun e w' => ∃ a c a2 c2 a3 c3, e = .returned (treeV (.slice a T.vars.length c) (.slice a2 T.nodes.length c2) (.slice a3 T.body.length c3)) ∧ TreeF W.heap.size w' (.slice a T.vars.length c) (.slice a2 T.nodes.length c2) (.slice a3 T.body.length c3) T ∧ Below W.heap.size W w') := fun W hW =>
   (toTreeF_any 0 T _ _ _ W (HT.out.below hW) hz).mono fun e w' h => by
    obtain ⟨_, _, _, rfl, h1, h2⟩ := h
    obtain ⟨_, _, rfl, _⟩ := id h1.vars
    obtain ⟨_, _, rfl, _⟩ := id h1.nodes
    obtain ⟨_, _, rfl, _⟩ := id h1.body
    exact ⟨_, _, _, _, _, _, rfl, h1, h2⟩
  have HSP : Hid (∀ (lo : Nat) (vv vn vb : Value) (W : World), TreeV lo W vv vn vb T → Calls Tryz.prog 7 #[treeV vv vn vb] W fun e w' => ∃ a k, e = .returned (resL (chkT T).1.1 (.slice a (mrkL T).length k)) ∧ Own w' W.heap.size (.slice a (mrkL T).length k) (mrkL T) ∧ Below W.heap.size W w') := fun lo vv vn vb W h => (specMarksOf lo vv vn vb T W h hz).mono fun e w' h => by
   obtain ⟨v, rfl, h1, h2⟩ := h
   obtain ⟨a, k, rfl⟩ := own_shape h1
   exact ⟨a, k, rfl, h1, h2⟩
  have HIM : Hid (∀ (lo : Nat) (vv vn vb : Value) (W : World), Below w.heap.size w W → TreeV lo W vv vn vb T → Calls Tryz.prog 9 #[treeV vv vn vb] W fun e w' => ∃ a k, e = .returned (resL (chkT T).1.1 (.slice a (mrkL T).length k)) ∧ Own w' W.heap.size (.slice a (mrkL T).length k) (mrkL T) ∧ Below W.heap.size W w') := fun lo vv vn vb W hb h => (implMarksOf lo vv vn vb T W h hz (HET.out W hb)).mono fun e w' h => by
   obtain ⟨v, rfl, h1, h2⟩ := h
   obtain ⟨a, k, rfl⟩ := own_shape h1
   exact ⟨a, k, rfl, h1, h2⟩
  have HEQ : Hid (∀ (l1 l2 : Nat) (u1 u2 u3 v1 v2 v3 : Value) (W : World), TreeV l1 W u1 u2 u3 T → TreeV l2 W v1 v2 v3 T → Calls Tryz.prog 11 #[treeV u1 u2 u3, treeV v1 v2 v3] W fun e w' => e = .returned (.bool true) ∧ Below W.heap.size W w') := fun l1 l2 u1 u2 u3 v1 v2 v3 W h1 h2 => eqTree_any _ _ T _ _ _ _ _ _ W h1 h2 hz
  have HMT : Hid (∀ (lo hi : Nat) (v1 v2 v3 : Value) (U W : World), TreeF lo U v1 v2 v3 T → U.heap.size = hi → Below U.heap.size U W → lo ≤ hi → Calls Tryz.prog 12 #[treeV v1 v2 v3, .int .i64 1] W fun e w' => ∃ m : Nat, e = .returned (.int .i64 (m : Int)) ∧ m ≤ 100000000000000 ∧ Mk lo hi W w') := fun lo hi v1 v2 v3 U W h1 h2 h3 h4 => markTree_room lo hi v1 v2 v3 T W U h1 hz h2 h3 h4
  have hzl : (mrkL T).length ≤ 1048576 := by have := mrkL_len T; omega
  generalize mrkL T = zs at *
  generalize (chkT T).1.1 = c at *
  have HES : Hid (∀ (a b : Option Addr) (ca cb : Nat) (W : World), Nums W a zs → Nums W b zs → Calls Tryz.prog 10 #[resL c (.slice a zs.length ca), resL c (.slice b zs.length cb)] W fun e w' => e = .returned (.bool true) ∧ Below W.heap.size W w') := fun a b ca cb W h1 h2 => eqIR_any c a b zs ca cb W hzl h1 h2
  have HMS : Hid (∀ (a : Option Addr) (k B p : Nat) (W : World), B ≤ W.heap.size → MkA W B p c zs a k → Calls Tryz.prog 13 #[resL c (.slice a zs.length k), .int .i64 1] W fun e w' => e = .returned (.int .i64 (1 + zs.length)) ∧ MarkR1 B W w' a zs.length) := fun a k B p W hB h => (markIR_any c a zs k B 1 W hzl (by omega) (by omega) hB h.o).mono fun e w' h => ⟨h.1, marks_nums h.2.1, h.2.2.1, h.2.2.2.1, h.2.2.2.2⟩
  have HHD : Hid (∀ (a : Option Addr) (k : Nat) (W : World), Nums W a (marks 1 zs.length) → Calls Tryz.prog 14 #[resL c (.slice a zs.length k), .int .i64 1] W fun e w' => e = .returned (.int .i64 (1 + zs.length)) ∧ Below W.heap.size W w') := fun a k W h => heldIR_any c a zs.length k 1 W hzl (by omega) (by omega) h
  have HNM : Hid (0 ≤ (1 : Int) + zs.length) := by unfold Hid; omega
  clear hz hr hzl HT HF HET
  obtain ⟨a0, a1, a2⟩ := cl3 HA.out
  go_wp2_with fail
  refine (HTO.out _ HB.out).mono ?_
  rintro e w2 ⟨p1, p2, p3, p4, p5, p6, rfl, ht2, hb⟩
  have HA2 := hid (blk HA.out hb)
  have HB2 := hid (bel_onM HB.out hb)
  have HT2 := hid ht2
  clear ht2 hb HA HB a0 a1 a2
  go_wp2_with fail
  refine (HSP.out _ _ _ _ _ HT2.out).mono ?_
  rintro e w3 ⟨a1, k1, rfl, ho, hb⟩
  have hb3 := hb.trans ((Below.refl _ _).alloc hb.size (.cells #[.int .i64 c, (.slice a1 zs.length k1)] 29))
  have HA3 := hid (blk HA2.out hb3)
  have HB3 := hid (bel_onM HB2.out hb3)
  have HV3 := hid (MkA.new (c := c) ho)
  have HP : Hid (w.heap.size < w3.heap.size ∧ w2.heap.size ≤ w3.heap.size ∧ w3.heap.size < (w3.alloc (.cells #[.int .i64 c, (.slice a1 zs.length k1)] 29)).heap.size) := ⟨blk_lt (blk HA2.out hb), hb.size, by simp⟩
  clear ho hb hb3 HA2 HB2 HT2 HSP
  go_upto_region 6 with fail
  generalize w3.alloc (.cells #[.int .i64 c, (.slice a1 zs.length k1)] 29) = W3 at *
  generalize w3.heap.size = p at *
  generalize w2.heap.size = B at *
  obtain ⟨x0, x1, x2⟩ := cl3 HA3.out
  go_wp2_with fail
  refine (HTF.out _ HB3.out).mono ?_
  rintro e w4 ⟨p1, p2, p3, p4, p5, p6, rfl, ht4, hb⟩
  have hb4 := hb.trans ((Below.refl _ _).alloc hb.size (.cells #[.slice p1 T.vars.length p2, .slice p3 T.nodes.length p4, .slice p5 T.body.length p6] 34))
  have HX4 := hid (heap_alloc_new w4 (.cells #[.slice p1 T.vars.length p2, .slice p3 T.nodes.length p4, .slice p5 T.body.length p6] 34))
  have HA4 := hid (blk HA3.out hb4)
  have HV4 := hid (HV3.out.below hb4)
  have HB4 := hid (bel_onM HB3.out hb4)
  have HF4 := hid ht4
  have HK4 : Hid (Below w4.heap.size w4 (w4.alloc (.cells #[.slice p1 T.vars.length p2, .slice p3 T.nodes.length p4, .slice p5 T.body.length p6] 34))) := (Below.refl _ _).alloc (Nat.le_refl _) _
  have HQ : Hid (w.heap.size < p ∧ B ≤ p ∧ p < W3.heap.size ∧ W3.heap.size ≤ w4.heap.size ∧ w4.heap.size < (w4.alloc (.cells #[.slice p1 T.vars.length p2, .slice p3 T.nodes.length p4, .slice p5 T.body.length p6] 34)).heap.size) := ⟨HP.out.1, HP.out.2.1, HP.out.2.2, hb.size, by simp⟩
  clear ht4 hb hb4 HA3 HV3 HB3 HP HTF x0 x1 x2
  go_upto_region 7 with fail
  generalize w4.alloc (.cells #[.slice p1 T.vars.length p2, .slice p3 T.nodes.length p4, .slice p5 T.body.length p6] 34) = W4 at *
  obtain ⟨x0, x1, x2⟩ := cl3 HX4.out
  go_wp2_with fail
  refine (HIM.out _ _ _ _ _ HB4.out (HF4.out.toV.below HK4.out)).mono ?_
  rintro e w5 ⟨a2, k2, rfl, ho, hb⟩
  have hb5 := hb.trans ((Below.refl _ _).alloc hb.size (.cells #[.int .i64 c, (.slice a2 zs.length k2)] 29))
  have HL5 : Hid (MkL w (w5.alloc (.cells #[.int .i64 c, (.slice a2 zs.length k2)] 29)) #[.slice av T.vars.length cv, .slice an T.nodes.length cn, .slice ab T.body.length cb] #[.slice p1 T.vars.length p2, .slice p3 T.nodes.length p4, .slice p5 T.body.length p6] c zs B p w4.heap.size W4.heap.size w5.heap.size a1 a2 k1 k2) :=
   ⟨blk HA4.out hb5, HV4.out.below hb5, blk HX4.out hb5, MkA.new ho, bel_onM HB4.out hb5, HQ.out.1, HQ.out.2.1, by have := HQ.out; omega, HQ.out.2.2.2.2, hb.size, by simp⟩
  have HK5 := hid (HK4.out.trans (hb5.mono HK4.out.size))
  clear ho hb hb5 HA4 HV4 HX4 HB4 HK4 x0 x1 x2
  go_upto_region 8 with fail
  generalize w5.alloc (.cells #[.int .i64 c, (.slice a2 zs.length k2)] 29) = W5 at *
  generalize w5.heap.size = q at *
  generalize W4.heap.size = D at *
  obtain ⟨v0, v1⟩ := cl2 HL5.out.v.row
  obtain ⟨u0, u1⟩ := cl2 HL5.out.u.row
  go_wp2_with fail
  refine (HES.out _ _ _ _ _ HL5.out.u.nums HL5.out.v.nums).mono ?_
  rintro e w6 ⟨rfl, hb⟩
  have HL6 := hid (HL5.out.below hb)
  have HK6 := hid (bel_onM HK5.out hb)
  clear hb HL5 HK5 v0 v1 u0 u1
  have hS0 : Below w6.heap.size w6 w6 := Below.refl _ _
  have HC6 : Hid (∀ W, Below w6.heap.size w6 W → (W.cell? ⟨w.heap.size, 0, none⟩ = some (.slice av T.vars.length cv) ∧ W.cell? ⟨w.heap.size, 1, none⟩ = some (.slice an T.nodes.length cn) ∧ W.cell? ⟨w.heap.size, 2, none⟩ = some (.slice ab T.body.length cb)) ∧ (W.cell? ⟨w4.heap.size, 0, none⟩ = some (.slice p1 T.vars.length p2) ∧ W.cell? ⟨w4.heap.size, 1, none⟩ = some (.slice p3 T.nodes.length p4) ∧ W.cell? ⟨w4.heap.size, 2, none⟩ = some (.slice p5 T.body.length p6))) := fun W hb => ⟨cl3 (blk HL6.out.box hb), cl3 (blk HL6.out.xb hb)⟩
  obtain ⟨⟨x0, x1, x2⟩, y0, y1, y2⟩ := HC6.out _ hS0
  go_upto_region 10 with fail
  go_region_held3 (fun W => Below w6.heap.size w6 W ∧ (W.cell? ⟨w.heap.size, 0, none⟩ = some (.slice av T.vars.length cv) ∧ W.cell? ⟨w.heap.size, 1, none⟩ = some (.slice an T.nodes.length cn) ∧ W.cell? ⟨w.heap.size, 2, none⟩ = some (.slice ab T.body.length cb)) ∧ (W.cell? ⟨w4.heap.size, 0, none⟩ = some (.slice p1 T.vars.length p2) ∧ W.cell? ⟨w4.heap.size, 1, none⟩ = some (.slice p3 T.nodes.length p4) ∧ W.cell? ⟨w4.heap.size, 2, none⟩ = some (.slice p5 T.body.length p6))) (first | (with_reducible exact ⟨by assumption, HC6.out _ (by assumption)⟩) | (with_reducible exact ⟨hS0.drew, HC6.out _ hS0.drew⟩) | fail) (first | (go_at_call 8; refine (HTO.out _ (HL6.out.b.trans (Below.mono (And.left (by with_reducible assumption)) HL6.out.b.size))).mono ?_; rintro e wa ⟨q1, q2, q3, q4, q5, q6, rfl, ht7, hb⟩; have hD3 : Below w6.heap.size w6 wa := bel_onM (And.left (by with_reducible assumption)) hb; have HT7 := hid ht7; clear hb ht7) | (go_at_call 11; refine (HEQ.out _ _ _ _ _ _ _ _ _ ((HF4.out.toV.below HK6.out).below hD3) HT7.out).mono ?_; rintro e wb ⟨rfl, hb⟩; have hD4 : Below w6.heap.size w6 wb := bel_onM hD3 hb; clear hb) | fail)
  have HL7 := hid (HL6.out.below hD4)
  have HK7 := hid (bel_onM HK6.out hD4)
  clear hD3 hD4 hS0 HC6 HL6 HK6 HT7 HEQ x0 x1 x2 y0 y1 y2
  obtain ⟨y0, y1, y2⟩ := cl3 HL7.out.xb
  go_wp2_with fail
  refine (HMT.out _ _ _ _ _ _ _ HF4.out rfl HK7.out HQ.out.2.2.2.1).mono ?_
  rintro e w8 ⟨m, rfl, hm0, hmk⟩
  have HL8 := hid (HL7.out.marked hmk HQ.out.2.2.1)
  have hmm : (0 : Int) ≤ (m : Int) := by omega
  have hmd : decide ((m : Int) < 0) = false := decide_eq_false (by omega)
  clear hm0 hmk HL7 HK7 HF4 HMT y0 y1 y2
  obtain ⟨v0, v1⟩ := cl2 HL8.out.v.row
  obtain ⟨u0, u1⟩ := cl2 HL8.out.u.row
  go_wp2_with fail
  refine (HES.out _ _ _ _ _ HL8.out.u.nums HL8.out.v.nums).mono ?_
  rintro e w9 ⟨rfl, hb⟩
  have HL9 := hid (HL8.out.below hb)
  clear hb HL8 hmm hmd v0 v1 u0 u1
  obtain ⟨u0, u1⟩ := cl2 HL9.out.u.row
  go_wp2_with fail
  refine (HMS.out _ _ _ _ _ (by have := HL9.out.l; omega) HL9.out.u).mono ?_
  rintro e w10 ⟨rfl, hm⟩
  have HN10 := hid (HL9.out.own hm)
  clear hm HL9 HMS u0 u1
  obtain ⟨u0, u1⟩ := cl2 HN10.out.u
  go_wp2_with fail
  refine (HHD.out _ _ _ HN10.out.n).mono ?_
  rintro e w11 ⟨rfl, hb⟩
  have HN11 := hid (HN10.out.below hb)
  clear hb HN10 u0 u1
  have hkd : decide ((1 : Int) + zs.length < 0) = false := decide_eq_false (by have := HNM.out; omega)
  obtain ⟨x0, x1, x2⟩ := cl3 HN11.out.box
  go_upto_region 24 with fail
  clear hkd
  go_wp2_with fail
  refine (HTO.out _ HN11.out.b).mono ?_
  rintro e w12 ⟨r1, r2, r3, r4, r5, r6, rfl, ht12, hb⟩
  have HN12 := hid (HN11.out.below hb)
  have HT12 := hid ht12
  clear hb ht12 HN11 x0 x1 x2
  go_wp2_with fail
  refine (HIM.out _ _ _ _ _ HN12.out.b HT12.out).mono ?_
  rintro e w13 ⟨a3, k3, rfl, ho, hb⟩
  have hb13 := hb.trans ((Below.refl _ _).alloc hb.size (.cells #[.int .i64 c, (.slice a3 zs.length k3)] 29))
  have HN13 := hid (HN12.out.below hb13)
  have HH13 := hid (MkA.new (c := c) ho)
  clear ho hb hb13 HN12 HT12
  go_upto_region 25 with fail
  generalize w13.alloc (.cells #[.int .i64 c, (.slice a3 zs.length k3)] 29) = W13 at *
  generalize w13.heap.size = q2 at *
  obtain ⟨v0, v1⟩ := cl2 HN13.out.v.row
  obtain ⟨u0, u1⟩ := cl2 HH13.out.row
  go_wp2_with fail
  refine (HES.out _ _ _ _ _ HH13.out.nums HN13.out.v.nums).mono ?_
  rintro e w14 ⟨rfl, hb⟩
  have HN14 := hid (HN13.out.below hb)
  clear hb HN13 HH13 v0 v1 u0 u1
  obtain ⟨u0, u1⟩ := cl2 HN14.out.u
  go_wp2_with fail
  refine (HHD.out _ _ _ HN14.out.n).mono ?_
  rintro e w15 ⟨rfl, hb⟩
  have HB15 := hid (HN14.out.below hb).b
  clear hb HN14 u0 u1
  go_wp2_with fail
  go_ret
  exact ⟨rfl, HB15.out⟩
 ·go_wp2_with fail
  go_ret
  exact ⟨rfl, HB.out⟩
end Go.Proofs.YtbjgkdgnmmnfbaaGreatDoor
namespace Go.Proofs.YtbjgkdgnmmnfbaaGreatDoor
open Go.RowKit
set_option linter.unusedVariables false
theorem fnExactMarksOf_walk (vv0 vn0 vb0 : Value) (T0 : LTree) (w : World) (w0 : IsTree w vv0 vn0 vb0 T0) (hE : ErrT w) :
  Calls Tryz.prog 3 #[treeV vv0 vn0 vb0] w fun e w' => e = .returned (.bool true) ∧ Below w.heap.size w w' :=
 marksOf_law vv0 vn0 vb0 T0 w w0 hE
end Go.Proofs.YtbjgkdgnmmnfbaaGreatDoor
