/-
  spec.l5Sum, l1Min.
-/
import Derived.Test.YtdnhmpemkpjcaaaGreatDoorIChoice
import Derived.Test.YtdnhmpemkpjcaaaGreatDoorSCall
import Derived.Test.YtdnhmpemkpjcaaaGreatDoorCheckM2
import Derived.Test.YtdnhmpemkpjcaaaGreatDoorIOnce
import Derived.Test.YtdnhmpemkpjcaaaGreatDoorTreeWants
import Derived.Test.YtdnhmpemkpjcaaaGreatDoorIDeep
import Derived.Test.YtdnhmpemkpjcaaaGreatDoorSTypA
import Derived.Test.YtdnhmpemkpjcaaaGreatDoorSWord
import Derived.Deep.RegionHeld3
import Derived.Deep.AppendLies
namespace Go.Proofs.YtdnhmpemkpjcaaaGreatDoor
open Go.RowKit
set_option linter.unusedVariables false
attribute [local go_sem] bs_size bs_get bs_extract bs_append bs_eq bs_toList
theorem ICk.store {W0 W1 : World} {cp mp : Nat} {vn vl vl' : Value} (hb : Below W0.heap.size W0 W1) (hl : W0.heap.size ≤ cp) (h : W1.heap[cp]? = some (.cells #[vn, .map (some mp), vl] 184 (0, 0))) : ICk W0 (W1.setCell ⟨cp, 2, none⟩ vl') cp mp vn vl' := by
  refine ⟨hb.setCell (by simp; omega) _, ?_⟩
  rw [heap_setCell_same _ _ _ _ _ _ h]; rfl
theorem i_push {W0 w6 Wa w1 : World} {cp mp B gg cap H : Nat} {vn vl : Value} {L : List (List UInt8)} {nm : List UInt8} (hC : ICk W0 w6 cp mp vn vl) (hL : LoopO w6 B vl L) (hB : B = cp + 1) (hlow : W0.heap.size ≤ cp)
    (hb : Below w6.heap.size w6 Wa) (hgrow : Wa.grownBy w1 vl.ownBlock) (hown : w1.ownsRow B 9 1 (.slice (some ⟨gg, 0, none⟩) (L.length + 1) cap) (L.length + 1) (namC L ++ [.string (bs nm)])) (hat : vl.ownBlock = some gg ∨ gg = H) (hH : w6.heap.size ≤ H) :
    ICk W0 (w1.setCell ⟨cp, 2, none⟩ (.slice (some ⟨gg, 0, none⟩) (L.length + 1) cap)) cp mp vn (.slice (some ⟨gg, 0, none⟩) (L.length + 1) cap) ∧ LoopO (w1.setCell ⟨cp, 2, none⟩ (.slice (some ⟨gg, 0, none⟩) (L.length + 1) cap)) B (.slice (some ⟨gg, 0, none⟩) (L.length + 1) cap) (L ++ [nm]) ∧ Duo cp vl (.slice (some ⟨gg, 0, none⟩) (L.length + 1) cap) w6 (w1.setCell ⟨cp, 2, none⟩ (.slice (some ⟨gg, 0, none⟩) (L.length + 1) cap)) := by
  have hrl : ∀ g, vl.ownBlock = some g → B ≤ g ∧ g < w6.heap.size := fun g hg => World.ownsRow.lt hL g hg
  have hkl := blk_lt hC.row
  have hz := hb.size
  have hz0 := hC.bel.size
  have hr : w1.heap[cp]? = some (.cells #[vn, .map (some mp), vl] 184 (0, 0)) := by
    rw [hgrow.block cp (by omega) (fun e => by have := (hrl _ e.symm).1; omega)]; exact blk hC.row hb
  have hb1 : Below W0.heap.size W0 w1 := (hC.bel.trans (hb.mono hz0)).grown hgrow (by omega) (fun g hg => by have := (hrl _ hg).1; omega)
  have hb6 : Below 0 w6 w1 := (hb.mono (Nat.zero_le _)).grown hgrow (Nat.zero_le _) (fun g hg => Nat.zero_le _)
  have hgg : B ≤ gg := by
    rcases hat with h | h
    · exact (hrl _ h).1
    · omega
  refine ⟨ICk.store hb1 hlow hr, ?_, ⟨hb6.setCell (by simp) _, fun b hb2 hk hv => ?_, fun g hg => ?_⟩⟩
  · have e : (L ++ [nm]).length = L.length + 1 := by simp
    unfold LoopO
    rw [e, namC_snoc]
    refine rowE_same hown fun g hg hl => ?_
    exact Below.heap_setCell _ _ _ _ (by simp; omega)
  · rw [Below.heap_setCell _ _ _ _ (by simpa using hk)]
    rw [hgrow.block b (by omega) (fun e => hv e.symm), hb.block b hb2]
  · have : gg = g := by simpa [Value.ownBlock] using hg
    subst this
    rcases hat with h | h
    · exact .inl h
    · exact .inr (by omega)
theorem i_pop {W0 w8 : World} {cp mp B gg cap : Nat} {vn : Value} {L : List (List UInt8)} {nm : List UInt8} (hC : ICk W0 w8 cp mp vn (.slice (some ⟨gg, 0, none⟩) (L.length + 1) cap)) (hL : LoopO w8 B (.slice (some ⟨gg, 0, none⟩) (L.length + 1) cap) (L ++ [nm])) (hB : B = cp + 1) (hlow : W0.heap.size ≤ cp) :
    ICk W0 (w8.drew.setCell ⟨cp, 2, none⟩ (.slice (some ⟨gg, 0, none⟩) L.length cap)) cp mp vn (.slice (some ⟨gg, 0, none⟩) L.length cap) ∧ LoopO (w8.drew.setCell ⟨cp, 2, none⟩ (.slice (some ⟨gg, 0, none⟩) L.length cap)) B (.slice (some ⟨gg, 0, none⟩) L.length cap) L ∧ Duo cp (.slice (some ⟨gg, 0, none⟩) (L.length + 1) cap) (.slice (some ⟨gg, 0, none⟩) L.length cap) w8 (w8.drew.setCell ⟨cp, 2, none⟩ (.slice (some ⟨gg, 0, none⟩) L.length cap)) := by
  refine ⟨ICk.store hC.bel.drew hlow hC.row, ?_, ⟨((Below.refl _ _).drew).setCell (by simp) _, fun b hb2 hk hv => ?_, fun g hg => .inl hg⟩⟩
  · refine rowE_same (LoopO.pop hL) fun g hg hl => ?_
    exact Below.heap_setCell _ _ _ _ (by simp; omega)
  · rw [Below.heap_setCell _ _ _ _ (by simpa using hk)]; rfl
theorem loop_for {T : LTree} {K : Int} {L : List (List UInt8)} {n : LNode} {x : Int} (hk : n.kind = 10) :
    ((settF (allL K T) T.vars.length L n x).1 ≠ 0 → forF T.vars L n x (0, 0) = settF (allL K T) T.vars.length L n x) ∧
    ((settF (allL K T) T.vars.length L n x).1 = 0 → forF T.vars L n x (0, 0) = if ((allL K T).getD (varFrom n.name (allL K T) 0).toNat default).type ≠ 1 then (8, x) else if 1000 < n.num ∨ 1000 < n.far then (3, x) else (0, 0)) := by
  obtain ⟨h1, h2⟩ := sett_target (T := T) (K := K) (L := L) (n := n) (x := x) (row := false) (by simp [hk]) (.inr (.inr hk))
  refine ⟨fun hz => ?_, fun hz => ?_⟩
  · have hA : forA T.vars L n x (0, 0) = settF (allL K T) T.vars.length L n x := by unfold forA; rw [h1, if_neg (fun h => hz h.1)]
    unfold forF
    rw [hA]
    split
    · exact metAt_met hz _ _
    · rfl
  · have hz2 : settF (allL K T) T.vars.length L n x = (0, 0) := by
      rw [← h1]; exact (target_orz (.inl rfl)).resolve_right (fun h => h (by rw [h1]; exact hz))
    by_cases ht : ((allL K T).getD (varFrom n.name (allL K T) 0).toNat default).type = 1
    · have hA : forA T.vars L n x (0, 0) = (0, 0) := by unfold forA; rw [h1, h2 hz, hz2, if_neg (fun h => h.2 ht)]
      have ht2 : ¬ (((allL K T).getD (varFrom n.name (allL K T) 0).toNat default).type ≠ 1) := fun h => h ht
      unfold forF
      rw [hA, metAt_zero, if_neg ht2]
    · have hA : forA T.vars L n x (0, 0) = (8, x) := by unfold forA; rw [h1, h2 hz, hz2, if_pos ⟨rfl, ht⟩, metAt_zero]
      unfold forF
      rw [hA, if_pos ht]
      split
      · exact metAt_met (show ((8 : Int), x).1 ≠ 0 from by simp) _ _
      · rfl
set_option maxHeartbeats 12800000 in
set_option maxRecDepth 100000 in
theorem loop_any (lo : Nat) (W0 W : World) (cp mp B f : Nat) (K : Int) (vn vl : Value) (T : LTree) (L : List (List UInt8)) (x : Nat) (h : CkT lo W0 cp mp vn T (allL K T)) (hC : ICk W0 W cp mp vn vl) (hL : LoopO W B vl L) (hB : B = cp + 1) (hLl : L.length ≤ 1000) (hx : x < T.nodes.length) (hk : (nodeOf T.nodes (x : Int)).kind = 10)
    (hT : IListC lo W0 cp mp B vn T (allL K T) f (L ++ [(nodeOf T.nodes (x : Int)).name]) (nodeOf T.nodes (x : Int)).thn) :
    Calls Tryz.prog 199 #[.pointer (some ⟨cp, 0, none⟩), .int .i64 (x : Int)] W fun e w' => e = .returned (errV (goL (stmtF (mustT (allL K T) T.vars.length T.nodes) T.vars T.nodes f (L ++ [(nodeOf T.nodes (x : Int)).name])) (nodeOf T.nodes (x : Int)).thn (forF T.vars L (nodeOf T.nodes (x : Int)) (x : Int) (0, 0)))) ∧ ∃ vl', ICk W0 w' cp mp vn vl' ∧ LoopO w' B vl' L ∧ Duo cp vl vl' W w' := by
  obtain ⟨i0, hi, hz0, hz1, hz2⟩ := info_parts infoS
  have hsm := (h.small.node _ (List.mem_of_getElem? (node_get hx))).1
  have HSE : Hid (Calls Tryz.prog 210 #[.pointer (some ⟨cp, 0, none⟩), .int .i64 (x : Int)] W fun e w' => e = .returned (.tuple #[namedV (allL K T) T.vars.length (nodeOf T.nodes (x : Int)) (x : Int), errV (settF (allL K T) T.vars.length L (nodeOf T.nodes (x : Int)) (x : Int))]) ∧ Below W.heap.size W w') := settable_any lo W0 W cp mp B vn vl T (allL K T) L x h.b hC hL hB (by omega) hx hsm
  obtain ⟨hlf1, hlf2⟩ := loop_for (T := T) (K := K) (L := L) (n := nodeOf T.nodes (x : Int)) (x := (x : Int)) hk
  have HB0 : Hid (CkB lo W0 cp mp vn T (allL K T)) := h.b
  have HLC : Hid (IListC lo W0 cp mp B vn T (allL K T) f (L ++ [(nodeOf T.nodes (x : Int)).name]) (nodeOf T.nodes (x : Int)).thn) := hT
  have hnl := h.b.good.nodes
  have hlow := h.b.low
  have hcl := blk_lt hC.row
  obtain ⟨R, hR⟩ : ∃ R, R = goL (stmtF (mustT (allL K T) T.vars.length T.nodes) T.vars T.nodes f (L ++ [(nodeOf T.nodes (x : Int)).name])) (nodeOf T.nodes (x : Int)).thn (forF T.vars L (nodeOf T.nodes (x : Int)) (x : Int) (0, 0)) := ⟨_, rfl⟩
  rw [← hR]
  have HR : Hid (R = goL (stmtF (mustT (allL K T) T.vars.length T.nodes) T.vars T.nodes f (L ++ [(nodeOf T.nodes (x : Int)).name])) (nodeOf T.nodes (x : Int)).thn (forF T.vars L (nodeOf T.nodes (x : Int)) (x : Int) (0, 0))) := hR
  obtain ⟨y0, y1, y2, y3, y4, y5, hy⟩ := namedV_form (allL K T) T.vars.length (nodeOf T.nodes (x : Int)) (x : Int)
  obtain ⟨m, hm⟩ : ∃ m, m = settF (allL K T) T.vars.length L (nodeOf T.nodes (x : Int)) (x : Int) := ⟨_, rfl⟩
  have HY : Hid (m.1 = 0 → ((allL K T).getD (varFrom (nodeOf T.nodes (x : Int)).name (allL K T) 0).toNat default).type = y2 ∧ y0 = (nodeOf T.nodes (x : Int)).name) := fun h0 => by
    have hn0 : (namedF (allL K T) T.vars.length (nodeOf T.nodes (x : Int)) (x : Int)).1 = 0 := by
      rw [hm] at h0; unfold settF at h0
      split at h0
      · rename_i h1; exact absurd h0 h1
      · rename_i h1; exact Classical.byContradiction fun h2 => h1 h2
    have h := hy
    unfold namedV at h
    rw [if_pos hn0] at h
    unfold entVal at h
    injection h with h
    have h2 := congrArg Array.toList h
    simp at h2
    refine ⟨h2.2.2.1, ?_⟩
    have hv0 : 0 ≤ varFrom (nodeOf T.nodes (x : Int)).name (allL K T) 0 := by
      unfold namedF at hn0
      split at hn0
      · simp at hn0
      · rename_i h1; omega
    have h3 := varFrom_name hv0
    rw [Nat.sub_zero] at h3
    rw [← bs_inj h2.1]; exact h3
  rw [hy, ← hm] at HSE
  rw [← hm] at hlf1 hlf2
  have HFO : Hid ((m.1 ≠ 0 → forF T.vars L (nodeOf T.nodes (x : Int)) (x : Int) (0, 0) = m) ∧ (m.1 = 0 → forF T.vars L (nodeOf T.nodes (x : Int)) (x : Int) (0, 0) = if ((allL K T).getD (varFrom (nodeOf T.nodes (x : Int)).name (allL K T) 0).toNat default).type ≠ 1 then (8, (x : Int)) else if 1000 < (nodeOf T.nodes (x : Int)).num ∨ 1000 < (nodeOf T.nodes (x : Int)).far then (3, (x : Int)) else (0, 0))) := ⟨hlf1, hlf2⟩
  have HCK : Hid (∀ W', Below W.heap.size W W' → ICk W0 W' cp mp vn vl ∧ LoopO W' B vl L ∧ Duo cp vl vl W W') := fun W' hb => ⟨hC.below hb, rowE_kept hL hb, hb.sole.duo _⟩
  obtain ⟨aL, cL, evl, _⟩ := hL.form
  subst evl
  have hx0 : (0 : Int) ≤ (x : Int) := by omega
  have hx1 : (x : Int) < (T.nodes.length : Int) := by omega
  clear hy hm hR h hC hL hT hlf1 hlf2
  obtain ⟨m1, m2⟩ := m
  go_enter Tryz.func199, Tryz.ntmps199
  go_wp2_with fail
  refine HSE.out.mono ?_
  rintro e w2 ⟨rfl, hb⟩
  have HB : Hid (Below W.heap.size W w2) := hb
  clear hb HSE
  by_cases hz : m1 = 0
  · subst hz
    obtain ⟨hY1, hY2⟩ := HY.out rfl
    subst hY2
    have HF2 : Hid (forF T.vars L (nodeOf T.nodes (x : Int)) (x : Int) (0, 0) = if y2 ≠ 1 then (8, (x : Int)) else if 1000 < (nodeOf T.nodes (x : Int)).num ∨ 1000 < (nodeOf T.nodes (x : Int)).far then (3, (x : Int)) else (0, 0)) := by unfold Hid; rw [HFO.out.2 rfl, hY1]
    rw [errV_zero rfl]
    obtain ⟨n, hn⟩ : ∃ n, n = nodeOf T.nodes (x : Int) := ⟨_, rfl⟩
    have hb3 : Below W.heap.size W (w2.alloc (.cells #[.string (bs (nodeOf T.nodes (x : Int)).name), .int .i64 y1, .int .i64 y2, .int .i64 y3, .bool y4, .int .i64 y5] 100)) := HB.out.alloc HB.out.size _
    have hV3 := heap_alloc_new w2 (.cells #[.string (bs (nodeOf T.nodes (x : Int)).name), .int .i64 y1, .int .i64 y2, .int .i64 y3, .bool y4, .int .i64 y5] 100)
    have hck3 := HCK.out _ hb3
    obtain ⟨bn, on, cn, rfl, vk, vt, ve, hnc, hkd, htd, hed⟩ := HB0.out.node hck3.1.bel x hx
    obtain ⟨ak, ck, evk, _⟩ := id hkd
    obtain ⟨at1, ct, evt, _⟩ := id htd
    obtain ⟨ae, ce, eve, _⟩ := id hed
    subst evk; subst evt; subst eve
    have HTD : Hid (IntsV lo W0 (.slice at1 (nodeOf T.nodes (x : Int)).thn.length ct) (nodeOf T.nodes (x : Int)).thn) := htd
    have k0 := cell_of_row _ _ 0 _ _ _ hck3.1.row
    simp only [List.getElem?_toArray] at k0
    rw [← hn] at hnc HTD HF2 HR HLC hb3 hV3 hck3 k0 hk ⊢
    obtain ⟨d0, d1, d2, d3, d4, d5, d6, d7⟩ := hnc
    have HCK3 : Hid (ICk W0 (w2.alloc (.cells #[.string (bs n.name), .int .i64 y1, .int .i64 y2, .int .i64 y3, .bool y4, .int .i64 y5] 100)) cp mp (.slice (some ⟨bn, on, none⟩) T.nodes.length cn) (.slice aL L.length cL) ∧ LoopO (w2.alloc (.cells #[.string (bs n.name), .int .i64 y1, .int .i64 y2, .int .i64 y3, .bool y4, .int .i64 y5] 100)) B (.slice aL L.length cL) L ∧ Duo cp (.slice aL L.length cL) (.slice aL L.length cL) W (w2.alloc (.cells #[.string (bs n.name), .int .i64 y1, .int .i64 y2, .int .i64 y3, .bool y4, .int .i64 y5] 100))) := hck3
    have HV3 : Hid ((w2.alloc (.cells #[.string (bs n.name), .int .i64 y1, .int .i64 y2, .int .i64 y3, .bool y4, .int .i64 y5] 100)).heap[w2.heap.size]? = some (.cells #[.string (bs n.name), .int .i64 y1, .int .i64 y2, .int .i64 y3, .bool y4, .int .i64 y5] 100 (0, 0))) := hV3
    have hwz2 := HB.out.size
    clear hck3 hkd htd hed hY1 HY HFO HCK HB HB0 hb3 hn hV3
    go_upto_region 4 with fail
    generalize w2.alloc (.cells #[.string (bs n.name), .int .i64 y1, .int .i64 y2, .int .i64 y3, .bool y4, .int .i64 y5] 100) = W3 at *
    generalize w2.heap.size = gv at *
    have hW3z := HCK3.out.2.2.bel.size
    have hb4 : ∀ o, Below W3.heap.size W3 (W3.alloc o) := fun o => (Below.refl _ _).alloc (Nat.le_refl _) _
    have HC4 : Hid (ICk W0 (W3.alloc (.cells #[.int .i64 10, .int .i64 n.op, .string (bs n.name), .int .i64 n.num, .int .i64 n.far, .slice ak n.kids.length ck, .slice at1 n.thn.length ct, .slice ae n.els.length ce] 111)) cp mp (.slice (some ⟨bn, on, none⟩) T.nodes.length cn) (.slice aL L.length cL) ∧ LoopO (W3.alloc (.cells #[.int .i64 10, .int .i64 n.op, .string (bs n.name), .int .i64 n.num, .int .i64 n.far, .slice ak n.kids.length ck, .slice at1 n.thn.length ct, .slice ae n.els.length ce] 111)) B (.slice aL L.length cL) L ∧ Duo cp (.slice aL L.length cL) (.slice aL L.length cL) W (W3.alloc (.cells #[.int .i64 10, .int .i64 n.op, .string (bs n.name), .int .i64 n.num, .int .i64 n.far, .slice ak n.kids.length ck, .slice at1 n.thn.length ct, .slice ae n.els.length ce] 111))) := ⟨HCK3.out.1.below (hb4 _), rowE_kept HCK3.out.2.1 (hb4 _), HCK3.out.2.2.trans ((hb4 _).sole.duo _)⟩
    have HN4 : Hid ((W3.alloc (.cells #[.int .i64 10, .int .i64 n.op, .string (bs n.name), .int .i64 n.num, .int .i64 n.far, .slice ak n.kids.length ck, .slice at1 n.thn.length ct, .slice ae n.els.length ce] 111)).heap[W3.heap.size]? = some (.cells #[.int .i64 10, .int .i64 n.op, .string (bs n.name), .int .i64 n.num, .int .i64 n.far, .slice ak n.kids.length ck, .slice at1 n.thn.length ct, .slice ae n.els.length ce] 111 (0, 0))) := heap_alloc_new W3 _
    have HV4 : Hid ((W3.alloc (.cells #[.int .i64 10, .int .i64 n.op, .string (bs n.name), .int .i64 n.num, .int .i64 n.far, .slice ak n.kids.length ck, .slice at1 n.thn.length ct, .slice ae n.els.length ce] 111)).heap[gv]? = some (.cells #[.string (bs n.name), .int .i64 y1, .int .i64 y2, .int .i64 y3, .bool y4, .int .i64 y5] 100 (0, 0))) := blk HV3.out (hb4 _)
    have hgn : W3.heap.size ≠ cp := by have := blk_lt HCK3.out.1.row; omega
    have hgo : (Value.slice aL L.length cL).ownBlock ≠ some W3.heap.size := fun e => by have := (World.ownsRow.lt HCK3.out.2.1 _ e).2; omega
    rw [hk] at d0
    have v2 : W3.cell? ⟨gv, 2, none⟩ = some (.int .i64 y2) := cell_of_row _ _ 2 _ _ _ HV3.out
    have hgv3 : gv < W3.heap.size := blk_lt HV3.out
    clear hb4 HCK3 HV3
    go_upto_region 5 with fail
    generalize W3.alloc (.cells #[.int .i64 10, .int .i64 n.op, .string (bs n.name), .int .i64 n.num, .int .i64 n.far, .slice ak n.kids.length ck, .slice at1 n.thn.length ct, .slice ae n.els.length ce] 111) = W4 at *
    generalize W3.heap.size = gn at *
    clear v2 d0 d1 d2 d3 d4 d5 d6 d7 k0
    have v2 : W4.cell? ⟨gv, 2, none⟩ = some (.int .i64 y2) := cell_of_row _ _ 2 _ _ _ HV4.out
    have n3 : W4.cell? ⟨gn, 3, none⟩ = some (.int .i64 n.num) := cell_of_row _ _ 3 _ _ _ HN4.out
    have n4 : W4.cell? ⟨gn, 4, none⟩ = some (.int .i64 n.far) := cell_of_row _ _ 4 _ _ _ HN4.out
    by_cases hy2 : y2 = 1
    · subst hy2
      have HF3 : Hid (forF T.vars L n (x : Int) (0, 0) = if 1000 < n.num ∨ 1000 < n.far then (3, (x : Int)) else (0, 0)) := by unfold Hid; rw [HF2.out, if_neg (fun h => h rfl)]
      clear HF2
      by_cases hnum : 1000 < n.num
      · have hb1 : decide ((1000 : Int) < n.num) = true := decide_eq_true hnum
        have HRE : Hid (R = (3, (x : Int))) := by unfold Hid; rw [HR.out, HF3.out, if_pos (Or.inl hnum), goL_met (show ((3 : Int), (x : Int)).1 ≠ 0 from by simp)]
        clear hnum HR HF3 HLC
        go_wp2_with fail
        go_ret
        exact ⟨by rw [HRE.out]; rfl, _, HC4.out⟩
      · have hb1 : decide ((1000 : Int) < n.num) = false := decide_eq_false hnum
        by_cases hfar : 1000 < n.far
        · have hb2 : decide ((1000 : Int) < n.far) = true := decide_eq_true hfar
          have HRE : Hid (R = (3, (x : Int))) := by unfold Hid; rw [HR.out, HF3.out, if_pos (Or.inr hfar), goL_met (show ((3 : Int), (x : Int)).1 ≠ 0 from by simp)]
          clear hnum hfar HR HF3 HLC
          go_wp2_with fail
          go_ret
          exact ⟨by rw [HRE.out]; rfl, _, HC4.out⟩
        · have hb2 : decide ((1000 : Int) < n.far) = false := decide_eq_false hfar
          have HRE : Hid (R = goL (stmtF (mustT (allL K T) T.vars.length T.nodes) T.vars T.nodes f (L ++ [n.name])) n.thn (0, 0)) := by unfold Hid; rw [HR.out, HF3.out, if_neg (fun h => h.elim hnum hfar)]
          clear hnum hfar HR HF3
          have hown := HC4.out.2.1
          have hrl6 : ∀ g, (Value.slice aL L.length cL).ownBlock = some g → B ≤ g ∧ g < W4.heap.size := fun g hg => World.ownsRow.lt hown g hg
          have q1 : W4.cell? ⟨cp, 2, none⟩ = some (.slice aL L.length cL) := cell_of_row _ _ 2 _ _ _ HC4.out.1.row
          have fq : W4.frozen? ⟨cp, 2, none⟩ = false := frozen_of_row _ _ 2 _ _ HC4.out.1.row
          have v0 : W4.cell? ⟨gv, 0, none⟩ = some (.string (bs n.name)) := cell_of_row _ _ 0 _ _ _ HV4.out
          have hgw : cp < W4.heap.size := blk_lt HC4.out.1.row
          have hgvw : gv < W4.heap.size := blk_lt HV4.out
          have hgnw : gn < W4.heap.size := blk_lt HN4.out
          have ag : (Value.slice aL L.length cL).ownBlock ≠ some cp := fun e => by have := (hrl6 _ e).1; omega
          have h63 : L.length + 1 ≤ maxLen := by unfold maxLen; omega
          have hbb : (L.length + 1) * 16 ≤ 140737488355328 := by omega
          have hbase : B ≤ W4.heap.size := by omega
          go_wp2_with fail
          clear v2 n3 n4
          go_region_law ((refine step_append_lies _ (by rfl) _ _ _ (by rfl) B 9 i0 _ 1 16 Tryz.underlying40 hi hz0 hz1 hz2 rfl (by omega) (.slice aL L.length cL) L.length (namC L) (by rfl) ((hown.alloc _).drew) ⟨W4.heap.size, 0, none⟩ 1 1 [.string (bs n.name)] (by rfl) (by rfl) (World.news_of_block (cs := #[.string (bs n.name)]) (t := 9) (fr := (0, 0)) (heap_alloc_new W4 _)) (by simp [Value.oneCell']) (by omega) h63 hbb (by simp; omega) (W4.heap.size + 1) (by simp) ?_; intro gg cap w1 hown1 hgrow hat hlt1; have q9 : w1.cell? ⟨cp, 2, none⟩ = some (.slice aL L.length cL) := (hgrow.cell_far ⟨cp, 2, none⟩ (by simp; omega) (Ne.symm ag)).trans ((World.cell?_of_block (a := ⟨cp, 2, none⟩) (Below.heap_alloc W4 _ cp hgw)).trans q1); have f9 : w1.frozen? ⟨cp, 2, none⟩ = false := (hgrow.frozen_far ⟨cp, 2, none⟩ (by simp; omega) (Ne.symm ag)).trans ((World.frozen?_of_block (a := ⟨cp, 2, none⟩) (Below.heap_alloc W4 _ cp hgw)).trans fq); have hgw1 : cp < w1.heap.size := World.block_lt_of_cell? _ _ q9))
          all_goals
            have h7 := i_push (nm := n.name) HC4.out.1 HC4.out.2.1 hB hlow (((Below.refl W4.heap.size W4).alloc (Nat.le_refl _) _).drew) hgrow hown1 hat (by omega)
            have H7 : Hid _ := h7
            have n6 : (w1.setCell ⟨cp, 2, none⟩ (.slice (some ⟨gg, 0, none⟩) (L.length + 1) cap)).cell? ⟨gn, 6, none⟩ = some (.slice at1 n.thn.length ct) := h7.2.2.cell (p := ⟨gn, 6, none⟩) hgn hgo (cell_of_row _ _ 6 _ _ _ HN4.out)
            clear hown1 hgrow hat hlt1 q9 f9 hgw1 hown hrl6 q1 fq v0 ag h7
            generalize hW7 : w1.setCell ⟨cp, 2, none⟩ (.slice (some ⟨gg, 0, none⟩) (L.length + 1) cap) = W7 at *
            clear hW7
            go_wp2_with fail
            refine (HLC.out _ _ _ H7.out.1 H7.out.2.1 HTD.out).mono ?_
            rintro e w8 ⟨rfl, vl8, hc8, hl8, hd8⟩
            obtain ⟨a8, c8, ev8, h8⟩ := hl8.form
            obtain ⟨g8, ea8, _⟩ := h8 (by simp)
            subst ev8; subst ea8
            have el8 : (L ++ [n.name]).length = L.length + 1 := by simp
            rw [el8] at hc8 hl8 hd8
            have h9 := i_pop hc8 hl8 hB hlow
            have H9 : Hid _ := h9
            have HD9 : Hid (Duo cp (.slice aL L.length cL) (.slice (some ⟨g8, 0, none⟩) L.length c8) W (w8.drew.setCell ⟨cp, 2, none⟩ (.slice (some ⟨g8, 0, none⟩) L.length c8))) := ((HC4.out.2.2.trans H7.out.2.2).trans hd8).trans h9.2.2
            have hc8c : L.length + 1 ≤ c8 := hl8.cap.2
            have k2 : w8.cell? ⟨cp, 2, none⟩ = some (.slice (some ⟨g8, 0, none⟩) (L.length + 1) c8) := cell_of_row _ _ 2 _ _ _ hc8.row
            have fk : w8.frozen? ⟨cp, 2, none⟩ = false := frozen_of_row _ _ 2 _ _ hc8.row
            have hk8 : cp < w8.heap.size := blk_lt hc8.row
            have hsl : ∀ W, (Instr.slice 40 (.slice (some ⟨g8, 0, none⟩) (L.length + 1) c8) none (some (.int .i64 (L.length : Int))) none).run Tryz.prog W = .ok (.slice (some ⟨g8, 0, none⟩) L.length c8) W := slice_popS g8 L.length (L.length + 1) c8 (by omega) hc8c
            rw [← HRE.out]
            clear hc8 hl8 hd8 h9 H7 HLC HTD n6 h8 el8 HC4 HN4 HV4
            go_wp2_with fail
            go_region
            all_goals
              go_wp2_with fail
              go_ret
              exact ⟨rfl, _, H9.out.1, H9.out.2.1, HD9.out⟩
    · have hyb : (y2 != 1) = true := bne_iff_ne.2 hy2
      have hyd : decide (y2 = 1) = false := decide_eq_false hy2
      have HRE : Hid (R = (8, (x : Int))) := by unfold Hid; rw [HR.out, HF2.out, if_pos hy2, goL_met (show ((8 : Int), (x : Int)).1 ≠ 0 from by simp)]
      clear HR HF2 HLC
      go_wp2_with fail
      go_ret
      exact ⟨by rw [HRE.out]; rfl, _, HC4.out⟩
  · have HRE : Hid (errV R = .iface 89 (.agg #[.int .i64 m1, .int .i64 m2])) := by unfold Hid; rw [HR.out, HFO.out.1 hz, goL_met hz, errV_met hz]
    rw [errV_met hz]
    have HC3 := HCK.out _ (HB.out.alloc HB.out.size (.cells #[.string (bs y0), .int .i64 y1, .int .i64 y2, .int .i64 y3, .bool y4, .int .i64 y5] 100))
    have HC4 : Hid _ := HC3
    clear HR HY HFO HCK HB HB0 HLC hz HC3
    go_wp2_with fail
    go_ret
    exact ⟨by rw [HRE.out]; rfl, _, HC4.out⟩
set_option maxHeartbeats 12800000 in
set_option maxRecDepth 100000 in
theorem statement_any (lo : Nat) (W0 W : World) (cp mp B f : Nat) (K : Int) (vn vl : Value) (T : LTree) (L : List (List UInt8)) (x : Nat) (h : CkT lo W0 cp mp vn T (allL K T)) (hC : ICk W0 W cp mp vn vl) (hL : LoopO W B vl L) (hB : B = cp + 1) (hLl : L.length ≤ 1000) (hx : x < T.nodes.length) (hk : 7 ≤ (nodeOf T.nodes (x : Int)).kind ∧ (nodeOf T.nodes (x : Int)).kind ≤ 11)
    (IH : ((nodeOf T.nodes (x : Int)).kind = 9 → IListC lo W0 cp mp B vn T (allL K T) f L (nodeOf T.nodes (x : Int)).thn ∧ IListC lo W0 cp mp B vn T (allL K T) f L (nodeOf T.nodes (x : Int)).els) ∧ ((nodeOf T.nodes (x : Int)).kind = 10 → IListC lo W0 cp mp B vn T (allL K T) f (L ++ [(nodeOf T.nodes (x : Int)).name]) (nodeOf T.nodes (x : Int)).thn)) :
    Calls Tryz.prog 167 #[.pointer (some ⟨cp, 0, none⟩), .int .i64 (x : Int)] W fun e w' => e = .returned (errV (stmtF (mustT (allL K T) T.vars.length T.nodes) T.vars T.nodes (f + 1) L (x : Int) (0, 0))) ∧ ∃ vl', ICk W0 w' cp mp vn vl' ∧ LoopO w' B vl' L ∧ Duo cp vl vl' W w' := by
  have hown := (h.b.good.node x _ (node_get hx)).1
  obtain ⟨bn, on, cn, evn, vk, vt, ve, hnc, hkd, htd, hed⟩ := h.b.node hC.bel x hx
  have k0 := cell_of_row _ _ 0 _ _ _ hC.row
  simp only [List.getElem?_toArray] at k0
  obtain ⟨ak, ck, evk, _⟩ := id hkd
  obtain ⟨at1, ct, evt, _⟩ := id htd
  obtain ⟨ae, ce, eve, _⟩ := id hed
  subst evk; subst evt; subst eve
  have hnl := h.b.good.nodes
  have hx0 : (0 : Int) ≤ (x : Int) := by omega
  have hx1 : (x : Int) < (T.nodes.length : Int) := by omega
  have HDone : Hid (∀ w', Below W.heap.size W w' → ICk W0 w' cp mp vn vl ∧ LoopO w' B vl L ∧ Duo cp vl vl W w') := fun W' hb => ⟨hC.below hb, rowE_kept hL hb, hb.sole.duo _⟩
  have HSF : Hid (∀ st, stmtF (mustT (allL K T) T.vars.length T.nodes) T.vars T.nodes (f + 1) L (x : Int) st = if (nodeOf T.nodes (x : Int)).kind = 7 then mustT (allL K T) T.vars.length T.nodes ((nodeOf T.nodes (x : Int)).kids.getD 0 0) (targetF T.vars L (nodeOf T.nodes (x : Int)).name false (x : Int) st).1 (targetF T.vars L (nodeOf T.nodes (x : Int)).name false (x : Int) st).2
    else if (nodeOf T.nodes (x : Int)).kind = 8 then mustT (allL K T) T.vars.length T.nodes ((nodeOf T.nodes (x : Int)).kids.getD 1 0) (targetF T.vars L (nodeOf T.nodes (x : Int)).name true (x : Int) st).1 (mustT (allL K T) T.vars.length T.nodes ((nodeOf T.nodes (x : Int)).kids.getD 0 0) 1 (targetF T.vars L (nodeOf T.nodes (x : Int)).name true (x : Int) st).2)
    else if (nodeOf T.nodes (x : Int)).kind = 9 then goL (stmtF (mustT (allL K T) T.vars.length T.nodes) T.vars T.nodes f L) (nodeOf T.nodes (x : Int)).els (goL (stmtF (mustT (allL K T) T.vars.length T.nodes) T.vars T.nodes f L) (nodeOf T.nodes (x : Int)).thn (mustT (allL K T) T.vars.length T.nodes ((nodeOf T.nodes (x : Int)).kids.getD 0 0) 2 st))
    else if (nodeOf T.nodes (x : Int)).kind = 10 then goL (stmtF (mustT (allL K T) T.vars.length T.nodes) T.vars T.nodes f (L ++ [(nodeOf T.nodes (x : Int)).name])) (nodeOf T.nodes (x : Int)).thn (forF T.vars L (nodeOf T.nodes (x : Int)) (x : Int) st)
    else if (nodeOf T.nodes (x : Int)).kind = 11 then callF (mustT (allL K T) T.vars.length T.nodes) L (nodeOf T.nodes (x : Int)) (x : Int) st
    else st) := fun st => rfl
  obtain ⟨d0, d1, d2, d3, d4, d5, d6, d7⟩ := hnc
  have hcs : (nodeOf T.nodes (x : Int)).kind = 7 ∨ (nodeOf T.nodes (x : Int)).kind = 8 ∨ (nodeOf T.nodes (x : Int)).kind = 9 ∨ (nodeOf T.nodes (x : Int)).kind = 10 ∨ (nodeOf T.nodes (x : Int)).kind = 11 := by omega
  rcases hcs with hK | hK | hK | hK | hK
  · have HA : Hid (Calls Tryz.prog 197 #[.pointer (some ⟨cp, 0, none⟩), .int .i64 (x : Int)] W fun e w' => e = .returned (errV (stmtF (mustT (allL K T) T.vars.length T.nodes) T.vars T.nodes (f + 1) L (x : Int) (0, 0))) ∧ Below W.heap.size W w') := by
      rw [asg_stmt hown (.inl hK)]; exact assignment_any lo W0 W cp mp B vn vl T (allL K T) L x h hC hL hB (by omega) hx (.inl hK)
    rw [hK] at d0
    subst evn
    clear HSF h hC hL hkd htd hed hown IH hk
    generalize stmtF (mustT (allL K T) T.vars.length T.nodes) T.vars T.nodes (f + 1) L (x : Int) (0, 0) = R at *
    go_enter Tryz.func167, Tryz.ntmps167
    go_wp2_with fail
    refine HA.out.mono ?_
    rintro e w2 ⟨rfl, hb⟩
    have HB : Hid _ := HDone.out w2 hb
    clear hb HA HDone
    go_wp2_with fail
    go_ret
    exact ⟨rfl, vl, HB.out⟩
  · have HA : Hid (Calls Tryz.prog 197 #[.pointer (some ⟨cp, 0, none⟩), .int .i64 (x : Int)] W fun e w' => e = .returned (errV (stmtF (mustT (allL K T) T.vars.length T.nodes) T.vars T.nodes (f + 1) L (x : Int) (0, 0))) ∧ Below W.heap.size W w') := by
      rw [asg_stmt hown (.inr hK)]; exact assignment_any lo W0 W cp mp B vn vl T (allL K T) L x h hC hL hB (by omega) hx (.inr hK)
    rw [hK] at d0
    subst evn
    clear HSF h hC hL hkd htd hed hown IH hk
    generalize stmtF (mustT (allL K T) T.vars.length T.nodes) T.vars T.nodes (f + 1) L (x : Int) (0, 0) = R at *
    go_enter Tryz.func167, Tryz.ntmps167
    go_wp2_with fail
    refine HA.out.mono ?_
    rintro e w2 ⟨rfl, hb⟩
    have HB : Hid _ := HDone.out w2 hb
    clear hb HA HDone
    go_wp2_with fail
    go_ret
    exact ⟨rfl, vl, HB.out⟩
  · have HA : Hid (∀ W', Below W.heap.size W W' → Calls Tryz.prog 198 #[.pointer (some ⟨cp, 0, none⟩), .agg #[.int .i64 9, .int .i64 (nodeOf T.nodes (x : Int)).op, .string (bs (nodeOf T.nodes (x : Int)).name), .int .i64 (nodeOf T.nodes (x : Int)).num, .int .i64 (nodeOf T.nodes (x : Int)).far, .slice ak (nodeOf T.nodes (x : Int)).kids.length ck, .slice at1 (nodeOf T.nodes (x : Int)).thn.length ct, .slice ae (nodeOf T.nodes (x : Int)).els.length ce]] W' fun e w' => e = .returned (errV (stmtF (mustT (allL K T) T.vars.length T.nodes) T.vars T.nodes (f + 1) L (x : Int) (0, 0))) ∧ ∃ vl', ICk W0 w' cp mp vn vl' ∧ LoopO w' B vl' L ∧ Duo cp vl vl' W' w') := fun W' hb => by
      have h9 := IH.1 hK
      have := choice_any lo W0 W' cp mp B f vn vl _ _ _ T (allL K T) L x h (hC.below hb) (rowE_kept hL hb) hB hx hK hkd htd hed h9.1 h9.2
      rw [HSF.out, if_neg (by omega), if_neg (by omega), if_pos hK]
      rwa [nodeV, hK] at this
    rw [hK] at d0
    subst evn
    clear HSF h hC hL hkd htd hed hown IH hk
    generalize stmtF (mustT (allL K T) T.vars.length T.nodes) T.vars T.nodes (f + 1) L (x : Int) (0, 0) = R at *
    generalize nodeOf T.nodes (x : Int) = n at *
    go_enter Tryz.func167, Tryz.ntmps167
    go_wp2_with fail
    refine (HA.out _ (Below.refl _ _)).mono ?_
    rintro e w2 ⟨rfl, vl', hh⟩
    have HB : Hid _ := hh
    clear hh HA HDone
    go_wp2_with fail
    go_ret
    exact ⟨rfl, vl', HB.out⟩
  · have HA : Hid (Calls Tryz.prog 199 #[.pointer (some ⟨cp, 0, none⟩), .int .i64 (x : Int)] W fun e w' => e = .returned (errV (stmtF (mustT (allL K T) T.vars.length T.nodes) T.vars T.nodes (f + 1) L (x : Int) (0, 0))) ∧ ∃ vl', ICk W0 w' cp mp vn vl' ∧ LoopO w' B vl' L ∧ Duo cp vl vl' W w') := by
      have := loop_any lo W0 W cp mp B f K vn vl T L x h hC hL hB hLl hx hK (IH.2 hK)
      rw [HSF.out, if_neg (by omega), if_neg (by omega), if_neg (by omega), if_pos hK]
      exact this
    rw [hK] at d0
    subst evn
    clear HSF h hC hL hkd htd hed hown IH hk
    generalize stmtF (mustT (allL K T) T.vars.length T.nodes) T.vars T.nodes (f + 1) L (x : Int) (0, 0) = R at *
    go_enter Tryz.func167, Tryz.ntmps167
    go_wp2_with fail
    refine HA.out.mono ?_
    rintro e w2 ⟨rfl, vl', hh⟩
    have HB : Hid _ := hh
    clear hh HA HDone
    go_wp2_with fail
    go_ret
    exact ⟨rfl, vl', HB.out⟩
  · have HA : Hid (Calls Tryz.prog 200 #[.pointer (some ⟨cp, 0, none⟩), .int .i64 (x : Int)] W fun e w' => e = .returned (errV (stmtF (mustT (allL K T) T.vars.length T.nodes) T.vars T.nodes (f + 1) L (x : Int) (0, 0))) ∧ Below W.heap.size W w') := by
      have := call_any lo W0 W cp mp B vn vl T (allL K T) L x h hC hL (by omega) hx hK
      rw [HSF.out, if_neg (by omega), if_neg (by omega), if_neg (by omega), if_neg (by omega), if_pos hK]
      exact this
    rw [hK] at d0
    subst evn
    clear HSF h hC hL hkd htd hed hown IH hk
    generalize stmtF (mustT (allL K T) T.vars.length T.nodes) T.vars T.nodes (f + 1) L (x : Int) (0, 0) = R at *
    go_enter Tryz.func167, Tryz.ntmps167
    go_wp2_with fail
    refine HA.out.mono ?_
    rintro e w2 ⟨rfl, hb⟩
    have HB : Hid _ := HDone.out w2 hb
    clear hb HA HDone
    go_wp2_with fail
    go_ret
    exact ⟨rfl, vl, HB.out⟩
set_option maxHeartbeats 12800000 in
set_option maxRecDepth 100000 in
theorem statements_step (lo : Nat) (W0 : World) (cp mp B f : Nat) (K : Int) (vn : Value) (T : LTree) (L : List (List UInt8)) (list : List Int) (hL999 : L.length ≤ 999) (hll : list.length ≤ 1048576) (hlow : W0.heap.size ≤ cp)
    (HS : ∀ (X : Nat) (W : World) (vl : Value), (X : Int) ∈ list → ICk W0 W cp mp vn vl → LoopO W B vl L → Calls Tryz.prog 167 #[.pointer (some ⟨cp, 0, none⟩), .int .i64 (X : Int)] W fun e w' => e = .returned (errV (stmtF (mustT (allL K T) T.vars.length T.nodes) T.vars T.nodes f L (X : Int) (0, 0))) ∧ ∃ vl', ICk W0 w' cp mp vn vl' ∧ LoopO w' B vl' L ∧ Duo cp vl vl' W w')
    (hs : ∀ x ∈ list, 0 ≤ x) : IListC lo W0 cp mp B vn T (allL K T) f L list := by
  intro W vk vl hC hL hV
  obtain ⟨aV, cV, evV, _⟩ := id hV
  subst evV
  have HV : Hid (IntsV lo W0 (.slice aV list.length cV) list) := hV
  have HSS : Hid (∀ (X : Nat) (W : World) (vl : Value), (X : Int) ∈ list → ICk W0 W cp mp vn vl → LoopO W B vl L → Calls Tryz.prog 167 #[.pointer (some ⟨cp, 0, none⟩), .int .i64 (X : Int)] W fun e w' => e = .returned (errV (stmtF (mustT (allL K T) T.vars.length T.nodes) T.vars T.nodes f L (X : Int) (0, 0))) ∧ ∃ vl', ICk W0 w' cp mp vn vl' ∧ LoopO w' B vl' L ∧ Duo cp vl vl' W w') := HS
  have HNN : Hid (∀ x ∈ list, 0 ≤ x) := hs
  obtain ⟨R, hR⟩ : ∃ R, R = goL (stmtF (mustT (allL K T) T.vars.length T.nodes) T.vars T.nodes f L) list (0, 0) := ⟨_, rfl⟩
  rw [← hR]
  have HR : Hid (R = goL (stmtF (mustT (allL K T) T.vars.length T.nodes) T.vars T.nodes f L) (list.drop 0) (0, 0)) := hR
  have HST : Hid (ICk W0 W cp mp vn vl ∧ LoopO W B vl L ∧ Duo cp vl vl W W) := ⟨hC, hL, Duo.refl _ _ _⟩
  clear hC hL hV HS hR hs
  go_enter Tryz.func114, Tryz.ntmps114
  go_wp2_with fail
  go_loopw [10] (fun i wr => ∃ (k : Nat) (vl' : Value), k ≤ list.length ∧ i = .int .i64 k ∧ Hid (R = goL (stmtF (mustT (allL K T) T.vars.length T.nodes) T.vars T.nodes f L) (list.drop k) (0, 0)) ∧ Hid (ICk W0 wr cp mp vn vl' ∧ LoopO wr B vl' L ∧ Duo cp vl vl' W wr)) (fun i _ => list.length - (intOf i).toNat)
  case atStart => exact ⟨0, vl, Nat.zero_le _, rfl, HR, HST⟩
  case round =>
    clear HR HST
    obtain ⟨k, vl', hkl, rfl, HR, HST⟩ := hrel
    by_cases hlt : k < list.length
    · obtain ⟨x, hx⟩ : ∃ x, list[k]? = some x := ⟨_, List.getElem?_eq_getElem hlt⟩
      have hxm := List.mem_of_getElem? hx
      obtain ⟨X, rfl⟩ := Int.eq_ofNat_of_zero_le (HNN.out x hxm)
      have HSX := HSS.out X wr vl' hxm HST.out.1 HST.out.2.1
      have HO : Hid (Orz (stmtF (mustT (allL K T) T.vars.length T.nodes) T.vars T.nodes f L (X : Int) (0, 0))) := stmt_orz (fun _ _ _ h => must_orz h) f L (X : Int) (0, 0) (.inl rfl)
      have HR1 : Hid (R = goL (stmtF (mustT (allL K T) T.vars.length T.nodes) T.vars T.nodes f L) (list.drop (k + 1)) (stmtF (mustT (allL K T) T.vars.length T.nodes) T.vars T.nodes f L (X : Int) (0, 0))) := by unfold Hid; rw [HR.out]; exact goL_step hx
      obtain ⟨bV, oV, eaV, hcV⟩ : ∃ b o, aV = some ⟨b, o, none⟩ ∧ wr.cell? ⟨b, o + k, none⟩ = some (.int .i64 (X : Int)) := by
        obtain ⟨_, _, e, _, h⟩ := HV.out.below HST.out.1.bel
        injection e with e1 e2 e3
        subst e1
        obtain ⟨b, o, e, _, hc⟩ := h (by intro e; rw [e] at hlt; simp at hlt)
        exact ⟨b, o, e, hc k _ hx⟩
      subst eaV
      have hk0 : (0 : Int) ≤ (k : Int) := by omega
      have hk1 : (k : Int) < (list.length : Int) := by omega
      clear HR hx hxm HSS HV HNN
      obtain ⟨m, hm⟩ : ∃ m, m = stmtF (mustT (allL K T) T.vars.length T.nodes) T.vars T.nodes f L (X : Int) (0, 0) := ⟨_, rfl⟩
      rw [← hm] at HSX HO HR1
      clear hm
      have HSC : Hid (Calls Tryz.prog 167 #[.pointer (some ⟨cp, 0, none⟩), .int .i64 (X : Int)] wr fun e w' => e = .returned (errV m) ∧ ∃ vl'', ICk W0 w' cp mp vn vl'' ∧ LoopO w' B vl'' L ∧ Duo cp vl' vl'' wr w') := HSX
      clear HSX
      obtain ⟨m1, m2⟩ := m
      by_cases hz : m1 = 0
      · subst hz
        have hm0 : ((0 : Int), m2) = (0, 0) := (HO.out).resolve_right (fun h => h rfl)
        rw [hm0] at HR1
        rw [errV_zero rfl] at HSC
        clear HO hm0
        go_wp2_with fail
        refine HSC.out.mono ?_
        rintro e w3 ⟨rfl, vl3, hc3, hl3, hd3⟩
        have HC3 : Hid (ICk W0 w3 cp mp vn vl3 ∧ LoopO w3 B vl3 L ∧ Duo cp vl vl3 W w3) := ⟨hc3, hl3, HST.out.2.2.trans hd3⟩
        clear hc3 hl3 hd3 HST HSC hcV
        go_wp2_with fail
        go_roundw
        case rel => exact ⟨k + 1, vl3, by omega, by go_num, HR1, HC3⟩
        case measure => simp [intOf]; omega
      · have HRE : Hid (errV R = .iface 89 (.agg #[.int .i64 m1, .int .i64 m2])) := by unfold Hid; rw [HR1.out, goL_met (show ((m1, m2) : Met).1 ≠ 0 from hz), errV_met hz]
        rw [errV_met hz] at HSC
        clear HO hz HR1
        go_wp2_with fail
        refine HSC.out.mono ?_
        rintro e w3 ⟨rfl, vl3, hc3, hl3, hd3⟩
        have HC3 : Hid (ICk W0 w3 cp mp vn vl3 ∧ LoopO w3 B vl3 L ∧ Duo cp vl vl3 W w3) := ⟨hc3, hl3, HST.out.2.2.trans hd3⟩
        clear hc3 hl3 hd3 HST HSC hcV
        go_wp2_with fail
        go_ret
        exact ⟨by rw [HRE.out]; rfl, vl3, HC3.out⟩
    · have hke : k = list.length := by omega
      have HRE : Hid (errV R = .nilIface) := by unfold Hid; rw [HR.out, hke, List.drop_length]; rfl
      clear HR HSS HV HNN hke
      go_wp2_with fail
      go_ret
      exact ⟨by rw [HRE.out]; rfl, vl', HST.out⟩
theorem statements_all (lo : Nat) (W0 : World) (cp mp B : Nat) (K : Int) (vn : Value) (T : LTree) (h : CkT lo W0 cp mp vn T (allL K T)) (hB : B = cp + 1) :
    ∀ (f : Nat), f ≤ T.nodes.length → ∀ (L : List (List UInt8)) (list : List Int), L.length + f ≤ 999 → list.length ≤ 1048576 → (∀ x ∈ list, (0 ≤ x ∧ x < (f : Int)) ∧ (7 ≤ (nodeOf T.nodes x).kind ∧ (nodeOf T.nodes x).kind ≤ 11)) → IListC lo W0 cp mp B vn T (allL K T) f L list := by
  intro f
  induction f with
  | zero =>
    intro _ L list hLf hll hs
    exact statements_step lo W0 cp mp B 0 K vn T L list (by omega) hll h.b.low (fun X W vl hX hC hL => by have := (hs _ hX).1; omega) (fun x hx => (hs x hx).1.1)
  | succ f ih =>
    intro hf L list hLf hll hs
    refine statements_step lo W0 cp mp B (f + 1) K vn T L list (by omega) hll h.b.low (fun X W vl hX hC hL => ?_) (fun x hx => (hs x hx).1.1)
    have h1 := (hs _ hX).1
    have hj : X < T.nodes.length := by omega
    have hg := h.b.good.node X _ (node_get hj)
    have hk := h.stk X _ (node_get hj)
    have hsz := h.small.node _ (List.mem_of_getElem? (node_get hj))
    exact statement_any lo W0 W cp mp B f K vn vl T L X h hC hL hB (by omega) hj (hs _ hX).2
      ⟨fun _ => ⟨ih (by omega) L _ (by omega) hsz.2.2.1 (fun y hy => ⟨⟨(hg.2.2.1 y hy).1, by have := (hg.2.2.1 y hy).2; omega⟩, hk.1 y hy⟩), ih (by omega) L _ (by omega) hsz.2.2.2 (fun y hy => ⟨⟨(hg.2.2.2 y hy).1, by have := (hg.2.2.2 y hy).2; omega⟩, hk.2 y hy⟩)⟩,
       fun _ => ih (by omega) _ _ (by simp; omega) hsz.2.2.1 (fun y hy => ⟨⟨(hg.2.2.1 y hy).1, by have := (hg.2.2.1 y hy).2; omega⟩, hk.1 y hy⟩)⟩
set_option maxHeartbeats 6400000 in
set_option maxRecDepth 100000 in
theorem newChecker_ctx (lo : Nat) (vv vn vb : Value) (T : LTree) (w : World) (h : TreeV lo w vv vn vb T) (hG : Good T) :
    Calls Tryz.prog 72 #[.agg #[vv, vn, vb]] w fun e w' => (∃ cp mp W0, e = .returned (.pointer (some ⟨cp, 0, none⟩)) ∧ CkB lo W0 cp mp vn T (allL 0 T) ∧ ICk W0 w' cp mp vn (.slice none 0 0) ∧ Below w.heap.size w W0) ∧ Below w.heap.size w w' := by
  obtain ⟨av, cv, rfl, _⟩ := id h.vars
  obtain ⟨an, cn, rfl, _⟩ := id h.nodes
  obtain ⟨ab, cb, rfl, _⟩ := id h.body
  have HD : Hid (∀ (w' : World), Below w.heap.size w w' → Calls Tryz.prog 51 #[.agg #[.slice av T.vars.length cv, .slice an T.nodes.length cn, .slice ab T.body.length cb]] w' fun e w2 => (∃ ad cp, e = .returned (.slice ad (allL 0 T).length cp) ∧ RowE w2 ad (allL 0 T) T.vars.length) ∧ Below w'.heap.size w' w2) := fun w' hb =>
    (variablesOf_any lo _ _ _ T w' (h.below hb) hG).mono (fun e w2 hh => by
      obtain ⟨v, rfl, hown, hb⟩ := hh
      obtain ⟨ad, cp, rfl⟩ := rowE_shape hown
      exact ⟨⟨ad, cp, rfl, RowE.of_own hown rfl⟩, hb⟩)
  have HBN : Hid (∀ (ad : Option Addr) (c : Nat) (w : World), RowE w ad (allL 0 T) T.vars.length → Calls Tryz.prog 58 #[.slice ad (allL 0 T).length c] w fun e w' => e = .returned (.map (some w.heap.size)) ∧ NamesAt w' w.heap.size (allL 0 T) T.vars.length ∧ Below w.heap.size w w') := fun ad c w h1 =>
    byName_any (allL 0 T) T.vars.length ad (allL 0 T).length c w rfl h1 (hG.all_len 0) (fun x hx => by have := all_names hG 0 x hx; omega)
  have HNO : Hid (∀ w', Below w.heap.size w w' → NodesV lo w' (.slice an T.nodes.length cn) T.nodes) := fun w' hb => (h.below hb).nodes
  have HGG : Hid (Good T ∧ (allL 0 T).length ≤ 624) := ⟨hG, hG.all_len 0⟩
  clear h hG
  generalize (allL 0 T).length = L at *
  go_enter Tryz.func72, Tryz.ntmps72
  go_wp2_with fail
  have hb1 : Below w.heap.size w (w.alloc (.cells #[.slice av T.vars.length cv, .slice an T.nodes.length cn, .slice ab T.body.length cb] 28)) := (Below.refl _ _).alloc (Nat.le_refl _) _
  have hA := heap_alloc_new w (.cells #[.slice av T.vars.length cv, .slice an T.nodes.length cn, .slice ab T.body.length cb] 28)
  generalize hW : w.alloc (.cells #[.slice av T.vars.length cv, .slice an T.nodes.length cn, .slice ab T.body.length cb] 28) = W1 at *
  clear hW
  have p0 := cell_of_row _ _ 0 _ _ _ hA
  have p1 := cell_of_row _ _ 1 _ _ _ hA
  have p2 := cell_of_row _ _ 2 _ _ _ hA
  simp at p0 p1 p2
  have hlt := blk_lt hA
  have HB1 : Hid (Below w.heap.size w W1.drew) := hb1.drew
  clear hA hb1
  go_region_held3 (fun Z => Z.cell? ⟨w.heap.size, 0, none⟩ = some (.slice av T.vars.length cv) ∧ Z.cell? ⟨w.heap.size, 1, none⟩ = some (.slice an T.nodes.length cn) ∧ Z.cell? ⟨w.heap.size, 2, none⟩ = some (.slice ab T.body.length cb)) (go_keep) (first | (go_at_call 51; refine (HD.out _ HB1.out).mono ?_; rintro e w2 ⟨⟨ad, cp, rfl, hrow⟩, hb⟩; have s0 := (hb.cell (p := ⟨w.heap.size, 0, none⟩) hlt).trans p0; have s1 := (hb.cell (p := ⟨w.heap.size, 1, none⟩) hlt).trans p1; have s2 := (hb.cell (p := ⟨w.heap.size, 2, none⟩) hlt).trans p2; have HRW : Hid (RowE w2 ad (allL 0 T) T.vars.length) := hrow; have HB2 : Hid (Below w.heap.size w w2) := HB1.out.trans (hb.mono HB1.out.size); have hl2 : w.heap.size < w2.heap.size := Nat.lt_of_lt_of_le hlt hb.size; clear hb hrow) | (go_at_call 58; refine (HBN.out _ _ _ HRW.out).mono ?_; rintro e w3 ⟨rfl, hmap, hb⟩; have u0 := (hb.cell (p := ⟨w.heap.size, 0, none⟩) hl2).trans s0; have u1 := (hb.cell (p := ⟨w.heap.size, 1, none⟩) hl2).trans s1; have u2 := (hb.cell (p := ⟨w.heap.size, 2, none⟩) hl2).trans s2; have HMAP : Hid (NamesAt w3 w2.heap.size (allL 0 T) T.vars.length) := hmap; have HB3 : Hid (Below w.heap.size w w3) := HB2.out.trans (hb.mono HB2.out.size); clear hb hmap))
  have HB4 : Hid (Below w.heap.size w (w3.alloc (.cells #[.slice an T.nodes.length cn, .map (some w2.heap.size), .slice none 0 0] 184))) := HB3.out.alloc HB3.out.size _
  have HCK : Hid (CkB lo w3 w3.heap.size w2.heap.size (.slice an T.nodes.length cn) T (allL 0 T) ∧ ICk w3 (w3.alloc (.cells #[.slice an T.nodes.length cn, .map (some w2.heap.size), .slice none 0 0] 184)) w3.heap.size w2.heap.size (.slice an T.nodes.length cn) (.slice none 0 0) ∧ Below w.heap.size w w3) := ⟨⟨HNO.out _ HB3.out, HMAP.out, HGG.out.1, HGG.out.1.all_len 0, Nat.le_refl _⟩, ⟨(Below.refl _ _).alloc (Nat.le_refl _) _, heap_alloc_new w3 _⟩, HB3.out⟩
  clear u0 u1 u2 s0 s1 s2 p0 p1 p2 HD HBN HNO HGG HMAP HRW HB1 HB2 HB3
  go_wp2
  go_ret
  exact ⟨⟨_, _, w3, rfl, HCK.out⟩, HB4.out⟩
set_option maxHeartbeats 3200000 in
set_option maxRecDepth 100000 in
theorem sumAt_any (cs l : List Int) (a : Option Addr) (k c hi : Nat) (v : Value) (w : World) (hk : cs.length = k) (hk1 : k ≤ 1048576) (hN : Nums w a cs) (hv : IntsB hi w v l) (hin : ∀ x ∈ l, 0 ≤ x ∧ x < (k : Int)) (hb : Betw 100000 cs) (hl : l.length ≤ 1048576) :
    Calls Tryz.prog 115 #[.slice a k c, v] w fun e w' => e = .returned (.int .i64 (sumAtL cs l)) ∧ w' = w := by
  obtain ⟨al, cp, rfl, hh⟩ := hv
  have HH : Hid (l ≠ [] → ∃ b o, al = some ⟨b, o, none⟩ ∧ b < hi ∧ ∀ (i : Nat) (x : Int), l[i]? = some x → w.cell? ⟨b, o + i, none⟩ = some (.int .i64 x)) := hh
  have HN : Hid (Nums w a cs) := hN
  have HI : Hid (∀ x ∈ l, 0 ≤ x ∧ x < (k : Int)) := hin
  have HB : Hid (Betw 100000 cs) := hb
  clear hh hN hin hb
  go_enter Tryz.func115, Tryz.ntmps115
  go_wp2
  go_loopw [5, 10] (fun d i wr => ∃ j : Nat, j ≤ l.length ∧ i = .int .i64 j ∧ d = .int .i64 (sumAtL cs (l.take j)) ∧ SameW wr w) (fun d i _ => l.length - (intOf i).toNat)
  case atStart => exact ⟨0, by omega, rfl, rfl, rfl⟩
  case round =>
    obtain ⟨j, hj, rfl, rfl, hw⟩ := hrel
    have HW : Hid (SameW wr w) := hw
    by_cases hlt : j < l.length
    · obtain ⟨x, hx⟩ : ∃ x, l[j]? = some x := ⟨l[j], List.getElem?_eq_getElem hlt⟩
      obtain ⟨b, o, rfl, _, hc1⟩ := HH.out (by intro e; rw [e] at hlt; simp at hlt)
      have c0 : wr.cell? ⟨b, o + j, none⟩ = _ := (congrArg (fun W => World.cell? W ⟨b, o + j, none⟩) hw).trans (hc1 j x hx)
      have HD : Hid (sumAtL cs (l.take (j + 1)) = sumAtL cs (l.take j) + cs.getD x.toNat 0) := sumAt_take hx
      have hx2 := HI.out x (List.mem_of_getElem? hx)
      obtain ⟨p, rfl⟩ : ∃ p : Nat, x = p := ⟨x.toNat, by omega⟩
      have hpk : p < k := by omega
      rcases HN.out with hz | ⟨g3, o3, rfl, hc3⟩
      · rw [hz] at hk; simp at hk; omega
      have c3 : wr.cell? ⟨g3, o3 + p, none⟩ = _ := (congrArg (fun W => World.cell? W ⟨g3, o3 + p, none⟩) hw).trans (hc3 p (by omega))
      have hz2 := HB.out p
      have hs := sum_big HB.out (l := l.take j) (by rw [List.length_take]; omega)
      change Hid (sumAtL cs (l.take (j + 1)) = sumAtL cs (l.take j) + cs.getD p 0) at HD
      generalize sumAtL cs (l.take j) = s at *
      generalize cs.getD p 0 = z at *
      have hp0 : (0 : Int) ≤ (p : Int) := by omega
      have hp1 : (p : Int) < (k : Int) := by omega
      clear hx hc1 hw hx2 hc3
      go_wp2_with fail
      go_roundw
      case rel => exact ⟨j + 1, by omega, by go_num, by rw [HD.out], HW.out⟩
      case measure => simp [intOf]; omega
    · have hje : j = l.length := by omega
      have e : sumAtL cs (l.take j) = sumAtL cs l := by rw [hje, List.take_length]
      rw [e]
      clear hje e
      go_wp2
      go_ret
      exact ⟨rfl, hw⟩
theorem max2 (x y : Int) (W : World) : (Builtin.max_ #[2, 2] 2 #[.int .i64 x, .int .i64 y]).run Tryz.prog W = .ok (.int .i64 (max x y)) W := by
  have e1 : (if y > x then y else x) = max x y := by split <;> omega
  show (([Value.int .i64 y].foldlM Builtin.max2 (.int .i64 x) : Sem Value)).run Tryz.prog W = _
  simp only [List.foldlM_cons, List.foldlM_nil, Builtin.max2, Sem.run_bind, Sem.run_pure, Result.andThen_ok, e1]
set_option maxHeartbeats 6400000 in
set_option maxRecDepth 100000 in
theorem costs_any (lo : Nat) (a2 : Option Addr) (c2 : Nat) (N : List LNode) (w : World) (h : NodesV lo w (.slice a2 N.length c2) N) (hn : N.length ≤ 200) (hT : ∀ n ∈ N, Tame n)
    (hG : ∀ (k : Nat) (n : LNode), N[k]? = some n → (∀ x ∈ n.kids, 0 ≤ x ∧ x < (k : Int)) ∧ (∀ x ∈ n.thn, 0 ≤ x ∧ x < (k : Int)) ∧ (∀ x ∈ n.els, 0 ≤ x ∧ x < (k : Int))) :
    Calls Tryz.prog 116 #[.slice a2 N.length c2] w fun e w' => e = .returned (.slice (some ⟨w.heap.size, 0, none⟩) N.length N.length) ∧ Cnt w' w.heap.size 2 (costsF N N.length) ∧ Below w.heap.size w w' := by
  obtain ⟨i0, hi, hz0, hz1, hz2⟩ := info_parts infoInt
  have hmax : N.length ≤ maxLen := by unfold maxLen; omega
  obtain ⟨_, _, he, _, hhn⟩ := id h
  cases he
  have HN : Hid (N ≠ [] → ∃ b o, a2 = some ⟨b, o, none⟩ ∧ lo ≤ b ∧ ∀ (i : Nat) (x : LNode), N[i]? = some x → NodeAt lo w b (o + i * 8) x) := hhn
  have HS : Hid (∀ n ∈ N, Tame n) := hT
  have HGG : Hid (∀ (k : Nat) (n : LNode), N[k]? = some n → (∀ x ∈ n.kids, 0 ≤ x ∧ x < (k : Int)) ∧ (∀ x ∈ n.thn, 0 ≤ x ∧ x < (k : Int)) ∧ (∀ x ∈ n.els, 0 ≤ x ∧ x < (k : Int))) := hG
  have HLE : Hid (∀ k : Nat, k ≤ N.length → Betw 100000 (costsF N k)) := costsF_le N hT
  clear h hhn hT hG
  go_enter Tryz.func116, Tryz.ntmps116
  go_wp2_with (at_make; refine wpList_make_full _ rfl (.tmp 9) (.tmp 9) 26 rfl w.heap.size 2 i0 (.int .i64 0) 1 Tryz.underlying26 hi hz0 hz1 .i64 .i64 N.length N.length N.length rfl rfl rfl rfl ?_ hmax (Nat.le_refl _) ?_)
  · rw [hz2]; omega
  intro w1 hown hgrow
  have HB : Hid (Below w.heap.size w w1) := (Below.refl _ _).grown hgrow (Nat.le_refl _) (fun k hk => by cases hk)
  have HC : Hid (Cnt w1 w.heap.size 2 (List.replicate N.length 0)) := cnt_of_own64 (by rw [toList_madeCells_one] at hown; simpa using hown)
  have hg : w.heap.size < w1.heap.size := (Array.getElem?_eq_some_iff.1 HC.out).1
  clear hgrow hown
  generalize hge : w.heap.size = g at *
  go_wp2
  go_loopw [13] (fun i wr => ∃ k : Nat, k ≤ N.length ∧ i = .int .i64 k ∧ Cnt wr g 2 (costsF N k ++ List.replicate (N.length - k) 0) ∧ But g w1 wr) (fun i _ => N.length - (intOf i).toNat)
  case atStart => exact ⟨0, by omega, rfl, HC.out, But.refl _ _⟩
  case round =>
    obtain ⟨k, hk, rfl, hcnt, hbut⟩ := hrel
    have HCN : Hid (Cnt wr g 2 (costsF N k ++ List.replicate (N.length - k) 0)) := hcnt
    have HBT : Hid (But g w1 wr) := hbut
    by_cases hlt : k < N.length
    · obtain ⟨y, hy⟩ : ∃ y, N[k]? = some y := ⟨N[k], List.getElem?_eq_getElem hlt⟩
      obtain ⟨b, o, rfl, _, hc2⟩ := HN.out (by intro e; rw [e] at hlt; simp at hlt)
      obtain ⟨vk, vt, ve, hcs, hvs⟩ := hc2 k y hy
      have hbw : b < w.heap.size := World.block_lt_of_cell? _ _ hcs.c0
      have hkp : ∀ q, q < w.heap.size → wr.heap[q]? = w.heap[q]? := fun q hq => (hbut.rest q (by omega) (by omega)).trans (HB.out.block q (by omega))
      obtain ⟨d0, d1, d2, d3, d4, d5, d6, d7⟩ := hcs.keep (lo := 0) (w' := wr) (fun q _ hq => hkp q hq) (Nat.zero_le _)
      have HK : Hid (IntsB w.heap.size w vk y.kids) := hvs.kids.toB
      have HT : Hid (IntsB w.heap.size w vt y.thn) := hvs.thn.toB
      have HE : Hid (IntsB w.heap.size w ve y.els) := hvs.els.toB
      have HKP : Hid (∀ q, q < w.heap.size → wr.heap[q]? = w.heap[q]?) := hkp
      obtain ⟨ak, ck, rfl, _⟩ := id hvs.kids
      obtain ⟨at2, ct, rfl, _⟩ := id hvs.thn
      obtain ⟨ae, ce, rfl, _⟩ := id hvs.els
      have HY : Hid (N[k]? = some y) := hy
      have hgr : g < wr.heap.size := Nat.lt_of_lt_of_le hg hbut.below.size
      have HTY : Hid (Tame y) := HS.out y (List.mem_of_getElem? hy)
      have HGY : Hid ((∀ x ∈ y.kids, 0 ≤ x ∧ x < (k : Int)) ∧ (∀ x ∈ y.thn, 0 ≤ x ∧ x < (k : Int)) ∧ (∀ x ∈ y.els, 0 ≤ x ∧ x < (k : Int))) := HGG.out k y hy
      clear hy hc2 hcs hvs hkp hcnt hbut
      go_wp2_with fail
      have hA := heap_alloc_new wr (.cells #[.int .i64 y.kind, .int .i64 y.op, .string (bs y.name), .int .i64 y.num, .int .i64 y.far, .slice ak y.kids.length ck, .slice at2 y.thn.length ct, .slice ae y.els.length ce] 111)
      have hB5 : But g wr (wr.alloc (.cells #[.int .i64 y.kind, .int .i64 y.op, .string (bs y.name), .int .i64 y.num, .int .i64 y.far, .slice ak y.kids.length ck, .slice at2 y.thn.length ct, .slice ae y.els.length ce] 111)) := (But.refl g wr).alloc (by omega) _
      have hC5 := HCN.out.alloc (.cells #[.int .i64 y.kind, .int .i64 y.op, .string (bs y.name), .int .i64 y.num, .int .i64 y.far, .slice ak y.kids.length ck, .slice at2 y.thn.length ct, .slice ae y.els.length ce] 111)
      generalize wr.alloc (.cells #[.int .i64 y.kind, .int .i64 y.op, .string (bs y.name), .int .i64 y.num, .int .i64 y.far, .slice ak y.kids.length ck, .slice at2 y.thn.length ct, .slice ae y.els.length ce] 111) = W5 at *
      have e0 : W5.cell? ⟨wr.heap.size, 0, none⟩ = some (.int .i64 y.kind) := cell_of_row _ _ 0 _ _ _ hA
      have e3 : W5.cell? ⟨wr.heap.size, 3, none⟩ = some (.int .i64 y.num) := cell_of_row _ _ 3 _ _ _ hA
      have e4 : W5.cell? ⟨wr.heap.size, 4, none⟩ = some (.int .i64 y.far) := cell_of_row _ _ 4 _ _ _ hA
      have e5 : W5.cell? ⟨wr.heap.size, 5, none⟩ = some (.slice ak y.kids.length ck) := cell_of_row _ _ 5 _ _ _ hA
      have e6 : W5.cell? ⟨wr.heap.size, 6, none⟩ = some (.slice at2 y.thn.length ct) := cell_of_row _ _ 6 _ _ _ hA
      have e7 : W5.cell? ⟨wr.heap.size, 7, none⟩ = some (.slice ae y.els.length ce) := cell_of_row _ _ 7 _ _ _ hA
      have hkp5 : ∀ q, q < w.heap.size → W5.heap[q]? = w.heap[q]? := fun q hq => (hB5.rest q (by omega) (by omega)).trans (HKP.out q hq)
      have HC5 : Hid (Cnt W5 g 2 (costsF N k ++ List.replicate (N.length - k) 0)) := hC5
      have HB5 : Hid (But g wr W5) := hB5
      have hbw2 := HLE.out k (by omega)
      have hll : (costsF N k ++ List.replicate (N.length - k) 0).length = N.length := by rw [List.length_append, costsF_len, List.length_replicate]; omega
      have hcall : ∀ (v : Value) (l : List Int), IntsB w.heap.size w v l → (∀ x ∈ l, 0 ≤ x ∧ x < (k : Int)) → l.length ≤ 1048576 → ∀ W, W.heap = W5.heap → Calls Tryz.prog 115 #[.slice (some ⟨g, 0, none⟩) N.length N.length, v] W fun e w' => e = .returned (.int .i64 (sumAtL (costsF N k) l)) ∧ w' = W := fun v l hv hx hl W hW => by
        have := sumAt_any (costsF N k ++ List.replicate (N.length - k) 0) l (some ⟨g, 0, none⟩) N.length N.length w.heap.size v W hll (by omega) (.inr ⟨g, 0, rfl, fun i hi => by
          rw [Nat.zero_add, ← (hC5.cell i hi).1]; exact World.cell?_of_block (a := ⟨g, i, none⟩) (by rw [hW])⟩) (hv.keep (fun q hq => by rw [hW]; exact hkp5 q hq) (Nat.le_refl _)) (fun x hx' => by have := hx x hx'; omega) (hbw2.zeros _) hl
        rw [sumAt_zeros] at this
        exact this
      have H1 : Hid (∀ W, W.heap = W5.heap → Calls Tryz.prog 115 #[.slice (some ⟨g, 0, none⟩) N.length N.length, .slice ak y.kids.length ck] W fun e w' => e = .returned (.int .i64 (sumAtL (costsF N k) y.kids)) ∧ w' = W) := hcall _ _ HK.out HGY.out.1 HTY.out.kids
      have H2 : Hid (∀ W, W.heap = W5.heap → Calls Tryz.prog 115 #[.slice (some ⟨g, 0, none⟩) N.length N.length, .slice at2 y.thn.length ct] W fun e w' => e = .returned (.int .i64 (sumAtL (costsF N k) y.thn)) ∧ w' = W) := hcall _ _ HT.out HGY.out.2.1 HTY.out.thn
      have H3 : Hid (∀ W, W.heap = W5.heap → Calls Tryz.prog 115 #[.slice (some ⟨g, 0, none⟩) N.length N.length, .slice ae y.els.length ce] W fun e w' => e = .returned (.int .i64 (sumAtL (costsF N k) y.els)) ∧ w' = W) := hcall _ _ HE.out HGY.out.2.2 HTY.out.els
      have hs1 := sum_big hbw2 HTY.out.kids
      have hs2 := sum_big hbw2 HTY.out.thn
      have hs3 := sum_big hbw2 HTY.out.els
      have hrd := rounds_le HTY.out
      have hnm := HTY.out.num
      have hfr := HTY.out.far
      have hmul := mul_le_of hrd.1 hrd.2 (b := 3 + sumAtL (costsF N k) y.thn) (by omega) (Int.add_le_add_left hs2.2 3)
      have HPUT : Hid ((costsF N k ++ List.replicate (N.length - k) 0).set k (costN (costsF N k) y) = costsF N (k + 1) ++ List.replicate (N.length - (k + 1)) 0) := by
        have := costs_put N k N.length hlt
        rw [List.getD_eq_getElem?_getD, HY.out] at this
        exact this
      have C9 : Hid (y.kind = 9 → costN (costsF N k) y = min 100000 (1 + sumAtL (costsF N k) y.kids + max (sumAtL (costsF N k) y.thn) (sumAtL (costsF N k) y.els))) := fun h => by unfold costN; rw [if_pos h]
      have C10 : Hid (y.kind = 10 → costN (costsF N k) y = min 100000 (1 + sumAtL (costsF N k) y.kids + 2 + max 0 (y.far - y.num + 1) * (3 + sumAtL (costsF N k) y.thn))) := fun h => by unfold costN; rw [if_neg (by omega), if_pos h]
      have C11 : Hid (y.kind = 11 → costN (costsF N k) y = min 100000 (1 + sumAtL (costsF N k) y.kids + 12)) := fun h => by unfold costN; rw [if_neg (by omega), if_neg (by omega), if_pos h]
      have C0 : Hid (y.kind ≠ 9 → y.kind ≠ 10 → y.kind ≠ 11 → costN (costsF N k) y = min 100000 (1 + sumAtL (costsF N k) y.kids)) := fun h1 h2 h3 => by unfold costN; rw [if_neg h1, if_neg h2, if_neg h3]
      generalize sumAtL (costsF N k) y.kids = s1 at *
      generalize sumAtL (costsF N k) y.thn = s2 at *
      generalize sumAtL (costsF N k) y.els = s3 at *
      generalize Value.slice ak y.kids.length ck = v1 at *
      generalize Value.slice at2 y.thn.length ct = v2 at *
      generalize Value.slice ae y.els.length ce = v3 at *
      clear hA hcall hC5 hB5 hbw2 hkp5 d0 d1 d2 d3 d4 d5 d6 d7 HK HT HE HKP
      refine (H1.out _ rfl).mono ?_
      rintro e w2 ⟨rfl, rfl⟩
      have hc0 := (HC5.out.cell k (by omega)).1
      have hf0 := (HC5.out.cell k (by omega)).2
      have hmx := max2 s2 s3
      by_cases k9 : y.kind = 9
      · have HCE : Hid (costN (costsF N k) y = min 100000 (1 + s1 + max s2 s3)) := C9.out k9
        have hw9 : IntKind.i64.wrap (1 + s1 + max s2 s3) = 1 + s1 + max s2 s3 := IntWalk.i64_in _ (by omega)
        go_wp2_with fail
        go_region_held3 (fun W => W.cell? ⟨wr.heap.size, 6, none⟩ = some v2 ∧ W.cell? ⟨wr.heap.size, 7, none⟩ = some v3) (go_keep) (first | (go_at_call 115; (with_reducible show Calls _ _ #[_, v2] _ _); refine (H2.out _ (by rfl)).mono ?_; rintro e w3 ⟨rfl, rfl⟩) | (go_at_call 115; (with_reducible show Calls _ _ #[_, v3] _ _); refine (H3.out _ (by rfl)).mono ?_; rintro e w3 ⟨rfl, rfl⟩))
        have hcd : Hid (Cnt w2.drew g 2 (costsF N k ++ List.replicate (N.length - k) 0)) := HC5.out
        have hbd : Hid (But g wr w2.drew) := HB5.out.drew
        have hc0 : w2.drew.cell? ⟨g, k, none⟩ = _ := hc0
        have hf0 : w2.drew.frozen? ⟨g, k, none⟩ = false := hf0
        clear HC5 HB5 hmx hw9 e0 e3 e4 e5 e6 e7 H1 H2 H3
        have HC5 := hcd
        have HB5 := hbd
        clear hcd hbd
        generalize w2.drew = w2 at *
        go_wp2_with fail
        have hX : (if 100000 < 1 + s1 + max s2 s3 then 100000 else 1 + s1 + max s2 s3) = costN (costsF N k) y := by rw [HCE.out]; split <;> omega
        rw [hX]
        have hP : Hid (Cnt (w2.setCell ⟨g, k, none⟩ (.int .i64 (costN (costsF N k) y))) g 2 (costsF N (k + 1) ++ List.replicate (N.length - (k + 1)) 0)) := by
          have := HC5.out.put k (costN (costsF N k) y)
          rw [HPUT.out] at this
          exact this
        have hQ : Hid (But g w1 (w2.setCell ⟨g, k, none⟩ (.int .i64 (costN (costsF N k) y)))) := (HBT.out.trans HB5.out).set _ _
        exact ⟨⟨k + 1, by omega, by go_num, hP.out, hQ.out⟩, by simp [intOf]; omega⟩
      by_cases k10 : y.kind = 10
      · have HCE : Hid (costN (costsF N k) y = min 100000 (1 + s1 + 2 + max 0 (y.far - y.num + 1) * (3 + s2))) := C10.out k10
        by_cases hr : 0 < y.far - y.num + 1
        · have hR : max 0 (y.far - y.num + 1) = y.far - y.num + 1 := by omega
          rw [hR] at HCE hmul
          clear hR hrd
          go_wp2_with fail
          refine (H2.out _ rfl).mono ?_
          rintro e w3 ⟨rfl, rfl⟩
          have hr2 : y.far - y.num + 1 ≤ 65536 := by omega
          generalize y.far - y.num + 1 = R at *
          obtain ⟨M, hM⟩ : ∃ M, M = R * (3 + s2) := ⟨_, rfl⟩
          have hwe : IntKind.i64.wrap (R * (3 + s2)) = M := by rw [hM]; exact IntWalk.i64_in _ (by omega)
          rw [← hM] at hmul HCE
          clear hM
          go_wp2_with fail
          have hX : (if 100000 < 1 + s1 + (2 + M) then 100000 else 1 + s1 + (2 + M)) = costN (costsF N k) y := by rw [HCE.out]; split <;> omega
          rw [hX]
          have hP : Hid (Cnt (w3.setCell ⟨g, k, none⟩ (.int .i64 (costN (costsF N k) y))) g 2 (costsF N (k + 1) ++ List.replicate (N.length - (k + 1)) 0)) := by
            have := HC5.out.put k (costN (costsF N k) y)
            rw [HPUT.out] at this
            exact this
          have hQ : Hid (But g w1 (w3.setCell ⟨g, k, none⟩ (.int .i64 (costN (costsF N k) y)))) := (HBT.out.trans HB5.out).set _ _
          exact ⟨⟨k + 1, by omega, by go_num, hP.out, hQ.out⟩, by simp [intOf]; omega⟩
        · have hR : max 0 (y.far - y.num + 1) = 0 := by omega
          rw [hR] at HCE
          clear hR hrd
          go_wp2_with fail
          refine (H2.out _ rfl).mono ?_
          rintro e w3 ⟨rfl, rfl⟩
          go_wp2_with fail
          have hX : (if 100000 < 1 + s1 + 2 then 100000 else 1 + s1 + 2) = costN (costsF N k) y := by rw [HCE.out]; split <;> omega
          rw [hX]
          have hP : Hid (Cnt (w3.setCell ⟨g, k, none⟩ (.int .i64 (costN (costsF N k) y))) g 2 (costsF N (k + 1) ++ List.replicate (N.length - (k + 1)) 0)) := by
            have := HC5.out.put k (costN (costsF N k) y)
            rw [HPUT.out] at this
            exact this
          have hQ : Hid (But g w1 (w3.setCell ⟨g, k, none⟩ (.int .i64 (costN (costsF N k) y)))) := (HBT.out.trans HB5.out).set _ _
          exact ⟨⟨k + 1, by omega, by go_num, hP.out, hQ.out⟩, by simp [intOf]; omega⟩
      by_cases k11 : y.kind = 11
      · have HCE : Hid (costN (costsF N k) y = min 100000 (1 + s1 + 12)) := C11.out k11
        go_wp2_with fail
        have hX : (if 100000 < 1 + s1 + 12 then 100000 else 1 + s1 + 12) = costN (costsF N k) y := by rw [HCE.out]; split <;> omega
        rw [hX]
        have hP : Hid (Cnt (w2.setCell ⟨g, k, none⟩ (.int .i64 (costN (costsF N k) y))) g 2 (costsF N (k + 1) ++ List.replicate (N.length - (k + 1)) 0)) := by
          have := HC5.out.put k (costN (costsF N k) y)
          rw [HPUT.out] at this
          exact this
        have hQ : Hid (But g w1 (w2.setCell ⟨g, k, none⟩ (.int .i64 (costN (costsF N k) y)))) := (HBT.out.trans HB5.out).set _ _
        exact ⟨⟨k + 1, by omega, by go_num, hP.out, hQ.out⟩, by simp [intOf]; omega⟩
      have HCE : Hid (costN (costsF N k) y = min 100000 (1 + s1)) := C0.out k9 k10 k11
      go_wp2_with fail
      have hX : (if 100000 < 1 + s1 then 100000 else 1 + s1) = costN (costsF N k) y := by rw [HCE.out]; split <;> omega
      rw [hX]
      have hP : Hid (Cnt (w2.setCell ⟨g, k, none⟩ (.int .i64 (costN (costsF N k) y))) g 2 (costsF N (k + 1) ++ List.replicate (N.length - (k + 1)) 0)) := by
        have := HC5.out.put k (costN (costsF N k) y)
        rw [HPUT.out] at this
        exact this
      have hQ : Hid (But g w1 (w2.setCell ⟨g, k, none⟩ (.int .i64 (costN (costsF N k) y)))) := (HBT.out.trans HB5.out).set _ _
      exact ⟨⟨k + 1, by omega, by go_num, hP.out, hQ.out⟩, by simp [intOf]; omega⟩
    · have hke : k = N.length := by omega
      subst hke
      have HCN0 : Hid (Cnt wr g 2 (costsF N N.length)) := by unfold Hid; have := HCN.out; simpa using this
      clear hcnt hbut HCN
      go_wp2
      go_ret
      subst hge
      exact ⟨rfl, HCN0.out, HB.out.trans HBT.out.below⟩
theorem RowV.take {W : World} {a : Option Addr} {V : List LVar} (h : RowV W a V) (k : Nat) : RowV W a (V.take k) := fun hne => by
  obtain ⟨g, e, hc⟩ := h (by intro e; rw [e] at hne; simp at hne)
  exact ⟨g, e, fun i x hx => hc i x (by
    rw [List.getElem?_take] at hx
    split at hx
    · exact hx
    · cases hx)⟩
theorem rowV_drew {W : World} {a : Option Addr} {V : List LVar} (h : RowV W a V) : RowV W.drew a V := fun hne => by
  obtain ⟨g, e, hc⟩ := h hne
  exact ⟨g, e, fun i x hx => hc i x hx⟩
theorem slice_preV (a : Option Addr) (k n c : Nat) (h : k ≤ n) (hc : n ≤ c) (ha : ∀ x, a = some x → ∃ g, x = ⟨g, 0, none⟩) (W : World) : (Instr.slice 24 (.slice a n c) none (some (.int .i64 (k : Int))) none).run Tryz.prog W = .ok (.slice a k c) W := by
  have hu := Tryz.underlying24
  have hkc : k ≤ c := Nat.le_trans h hc
  cases a with
  | none => simp [go_sem, hu, hkc]
  | some x =>
    obtain ⟨g, rfl⟩ := ha x rfl
    simp [go_sem, hu, hkc]
set_option maxHeartbeats 12800000 in
set_option maxRecDepth 100000 in
theorem l5Names_any (lo p : Nat) (vv vn vb : Value) (T : LTree) (w : World) (h : TreeP lo w p vv vn vb T) (hg : Good T) :
    Calls Tryz.prog 135 #[.pointer (some ⟨p, 0, none⟩)] w fun e w' => e = .returned (.int .i64 (namesF (allL 3 T) T.vars.length)) ∧ Below w.heap.size w w' := by
  obtain ⟨i0, hi, hz0, hz1, hz2⟩ := info_parts infoV
  have HAL : Hid (∀ (w' : World), Below w.heap.size w w' → Calls Tryz.prog 57 #[.pointer (some ⟨p, 0, none⟩)] w' fun e w2 => ∃ v, e = .returned v ∧ w2.ownsRow w'.heap.size 38 4 v (allL 3 T).length (varCells (allL 3 T)) ∧ Below w'.heap.size w' w2) := fun w' hb => l5All_any lo p vv vn vb T w' (h.below hb) hg
  obtain ⟨an, cn, rfl, _, hhn⟩ := id h.tree.nodes
  obtain ⟨av, cv, rfl, _⟩ := id h.tree.vars
  have HN : Hid (T.nodes ≠ [] → ∃ b o, an = some ⟨b, o, none⟩ ∧ lo ≤ b ∧ ∀ (i : Nat) (x : LNode), T.nodes[i]? = some x → NodeAt lo w b (o + i * 8) x) := hhn
  have hpw : p < w.heap.size := World.block_lt_of_cell? _ _ h.c1
  have HP0 : Hid (w.cell? ⟨p, 0, none⟩ = some (.slice av T.vars.length cv)) := h.c0
  have HP1 : Hid (w.cell? ⟨p, 1, none⟩ = some (.slice an T.nodes.length cn)) := h.c1
  have hnl := hg.nodes
  have hvl := hg.vars
  have hal := hg.all_len 3
  have hvle : T.vars.length ≤ (allL 3 T).length := by unfold allL; rw [List.length_append]; omega
  have HNM : Hid (∀ x ∈ allL 3 T, x.name.length ≤ 9) := all_names hg 3
  have HCN : Hid (∀ n ∈ T.nodes, n.kind = 11 → n.name.length ≤ 8) := fun n hn hk => by
    obtain ⟨k, hk2, rfl⟩ := List.getElem_of_mem hn
    exact (name_len (own_name (hg.node k _ (List.getElem?_eq_getElem hk2)).1 hk)).2
  have HFR : Hid (dupB (allL 3 T) = false → ∀ (k : Nat) (n : LNode), T.nodes[k]? = some n → n.kind = 11 → varFrom n.name (callsL (T.nodes.take k)) 0 < 0) := fun h k n hk hc => calls_fresh h hk hc
  have HCL : Hid (∀ k, (callsL (T.nodes.take k)).length ≤ 200) := fun k => by
    have := callsL_len (T.nodes.take k)
    have : (T.nodes.take k).length ≤ 200 := by rw [List.length_take]; omega
    omega
  clear h hg hhn
  obtain ⟨V, hV⟩ : ∃ V, V = allL 3 T := ⟨_, rfl⟩
  rw [← hV] at HAL hal hvle HNM HFR ⊢
  clear hV
  obtain ⟨R, hR⟩ : ∃ R, R = namesF V T.vars.length := ⟨_, rfl⟩
  rw [← hR]
  have HR : Hid (R = if dupB V then 7 else if (V.drop T.vars.length).any (fun v => !isNameL v.name) then 5 else 0) := hR
  clear hR
  go_enter Tryz.func135, Tryz.ntmps135
  go_wp2_with fail
  refine (HAL.out _ (Below.refl _ _)).mono ?_
  rintro e w1 ⟨v, rfl, hown, hb1⟩
  obtain ⟨ad, cp, rfl⟩ := rowE_shape hown
  have hcap := row_cap hown
  have HRV : Hid (RowV w1 ad V) := RowV.of_own hown rfl
  have HAD : Hid (∀ x, ad = some x → ∃ g, x = ⟨g, 0, none⟩) := by
    rcases hown.2 with ⟨e, _⟩ | ⟨g, c, cur, e, _⟩
    · injection e with e1 e2 e3; subst e1; exact fun x hx => by cases hx
    · injection e with e1 e2 e3; subst e1; exact fun x hx => by injection hx with hx; exact ⟨g, hx.symm⟩
  have HB1 : Hid (Below w.heap.size w w1) := hb1
  clear hb1 hown HAL
  go_wp2_with fail
  go_loopw [4] (fun i wr => ∃ k : Nat, k ≤ V.length ∧ i = .int .i64 k ∧ Hid (∀ j, j < k → varFrom (V.getD j default).name (V.take j) 0 < 0) ∧ Hid (Below w1.heap.size w1 wr)) (fun i _ => V.length - (intOf i).toNat)
  case atStart => exact ⟨0, by omega, rfl, fun j hj => by omega, Below.refl _ _⟩
  case round =>
    obtain ⟨k, hk, rfl, HD, HB⟩ := hrel
    by_cases hlt : k < V.length
    · obtain ⟨x, hx⟩ : ∃ x, V[k]? = some x := ⟨V[k], List.getElem?_eq_getElem hlt⟩
      have hxd : V.getD k default = x := by rw [List.getD_eq_getElem?_getD, hx]; rfl
      have hrv := HRV.out.below HB.out
      obtain ⟨g, rfl, hc⟩ := id hrv (by intro e; rw [e] at hlt; simp at hlt)
      obtain ⟨c0, _, _, _⟩ := hc k x hx
      have hsl : ∀ W, (Instr.slice 24 (.slice (some ⟨g, 0, none⟩) V.length cp) none (some (.int .i64 (k : Int))) none).run Tryz.prog W = .ok (.slice (some ⟨g, 0, none⟩) k cp) W := slice_preV _ k V.length cp (by omega) hcap HAD.out
      have HFI : Hid (Calls Tryz.prog 173 #[.slice (some ⟨g, 0, none⟩) k cp, .string (bs x.name)] wr.drew fun e w' => e = .returned (.int .i64 (varFrom x.name (V.take k) 0)) ∧ w' = wr.drew) := l5Find_any (V.take k) x.name _ k cp wr.drew (by rw [List.length_take]; omega) (rowV_drew (hrv.take k)) (by rw [List.length_take]; omega)
      have hk0 : (0 : Int) ≤ (k : Int) := by omega
      have hk1 : (k : Int) < (V.length : Int) := by omega
      have HVD : Hid (V.getD k default = x) := hxd
      obtain ⟨X, hX⟩ : ∃ X, varFrom x.name (V.take k) 0 = X := ⟨_, rfl⟩
      have HX : Hid (varFrom x.name (V.take k) 0 = X) := hX
      rw [hX] at HFI
      have HB2 : Hid (Below w1.heap.size w1 wr.drew) := HB.out.drew
      clear hrv hc hx hxd hX
      go_wp2_with fail
      go_region_held3 (fun Z => Z.cell? ⟨g, k * 4, none⟩ = some (.string (bs x.name))) (go_keep) (first | (go_at_call 173; refine HFI.out.mono ?_; rintro e w2 ⟨rfl, rfl⟩))
      clear c0 hsl HFI
      by_cases hX0 : 0 ≤ X
      · have HR2 : Hid (R = 7) := by unfold Hid; rw [HR.out, dup_hit hlt (by rw [HVD.out, HX.out]; exact hX0), if_pos rfl]
        clear HR HD
        go_wp2_with fail
        go_ret
        exact ⟨by rw [HR2.out]; rfl, HB1.out.trans (HB2.out.mono HB1.out.size)⟩
      · have HD2 : Hid (∀ j, j < k + 1 → varFrom (V.getD j default).name (V.take j) 0 < 0) := fun j hj => by
          by_cases e : j = k
          · rw [e, HVD.out, HX.out]; omega
          · exact HD.out j (by omega)
        clear HD
        go_wp2_with fail
        go_roundw
        case rel => exact ⟨k + 1, by omega, by go_num, HD2, HB2⟩
        case measure => simp [intOf]; omega
    · have hke : k = V.length := by omega
      have hdf : dupB V = false := dup_none (by rw [← hke]; exact HD.out)
      have HR2 : Hid (R = if (V.drop T.vars.length).any (fun v => !isNameL v.name) then 5 else 0) := by unfold Hid; rw [HR.out, hdf]; rfl
      have HFR2 : Hid (∀ (k : Nat) (n : LNode), T.nodes[k]? = some n → n.kind = 11 → varFrom n.name (callsL (T.nodes.take k)) 0 < 0) := HFR.out hdf
      have HRV2 : Hid (RowV wr ad V) := HRV.out.below HB.out
      have HBW : Hid (Below w.heap.size w wr) := HB1.out.trans (HB.out.mono HB1.out.size)
      clear HR HFR HD HB HB1 HRV hdf hke
      generalize wr = wa at *
      go_wp2_with fail
      have HOW0 : Hid ((wa.alloc (.cells #[] 38)).ownsRow wa.heap.size 38 4 (.slice (some ⟨wa.heap.size, 0, none⟩) 0 0) (callsL (T.nodes.take 0)).length (varCells (callsL (T.nodes.take 0)))) :=
        ⟨rfl, .inr ⟨wa.heap.size, 0, #[], rfl, Nat.le_refl _, heap_alloc_new wa _, Nat.le_refl _, by decide, rfl, rfl⟩⟩
      have HB0 : Hid (Below wa.heap.size wa (wa.alloc (.cells #[] 38))) := (Below.refl _ _).alloc (Nat.le_refl _) _
      generalize wa.alloc (.cells #[] 38) = Wx at *
      go_loopw [5, 6] (fun v i wz => ∃ k : Nat, k ≤ T.nodes.length ∧ i = .int .i64 k ∧ Hid (wz.ownsRow wa.heap.size 38 4 v (callsL (T.nodes.take k)).length (varCells (callsL (T.nodes.take k)))) ∧ Hid (Below wa.heap.size wa wz)) (fun v i _ => T.nodes.length - (intOf i).toNat)
      case atStart => exact ⟨0, by omega, rfl, HOW0, HB0⟩
      case round =>
        clear HOW0 HB0
        obtain ⟨k, hk, rfl, HOWN, HBZ⟩ := hrel
        generalize wr = wz at *
        obtain ⟨az, cz, rfl⟩ := rowE_shape HOWN.out
        have HBF : Hid (Below w.heap.size w wz) := HBW.out.trans (HBZ.out.mono HBW.out.size)
        have q1 := (HBF.out.cell (p := ⟨p, 1, none⟩) hpw).trans HP1.out
        by_cases hlt : k < T.nodes.length
        · obtain ⟨y, hy⟩ : ∃ y, T.nodes[k]? = some y := ⟨T.nodes[k], List.getElem?_eq_getElem hlt⟩
          obtain ⟨b, o, rfl, _, hc2⟩ := HN.out (by intro e; rw [e] at hlt; simp at hlt)
          obtain ⟨vk, vt, ve, hcs, hvs⟩ := hc2 k y hy
          obtain ⟨d0, d1, d2, d3, d4, d5, d6, d7⟩ := hcs.keep (lo := 0) (Keeps.of_below HBF.out) (Nat.zero_le _)
          have hk0 : (0 : Int) ≤ (k : Int) := by omega
          have hk1 : (k : Int) < (T.nodes.length : Int) := by omega
          clear hc2 hcs hvs d1 d3 d4 d5 d6 d7
          by_cases k11 : y.kind = 11
          · have HFX : Hid (varFrom y.name (callsL (T.nodes.take k)) 0 < 0) := HFR2.out k y hy k11
            have HNX : Hid (callsL (T.nodes.take (k + 1)) = callsL (T.nodes.take k) ++ [⟨y.name, 0, 0, 0⟩]) := callsL_hit hy k11
            have hlk := HCL.out k
            have hyn := HCN.out y (List.mem_of_getElem? hy) k11
            have hown := HOWN.out
            have HFI : Hid (Calls Tryz.prog 173 #[.slice az (callsL (T.nodes.take k)).length cz, .string (bs y.name)] wz fun e w' => e = .returned (.int .i64 (varFrom y.name (callsL (T.nodes.take k)) 0)) ∧ w' = wz) := l5Find_any (callsL (T.nodes.take k)) y.name az _ cz wz rfl (RowV.of_own hown rfl) (by omega)
            rw [k11] at d0
            clear hy k11 HOWN
            generalize callsL (T.nodes.take k) = M at *
            obtain ⟨X, hX⟩ : ∃ X, varFrom y.name M 0 = X := ⟨_, rfl⟩
            rw [hX] at HFX HFI
            have hXn : X < 0 := HFX.out
            have hXn2 : ¬ (0 ≤ X) := by omega
            have hzz := HBZ.out.size
            clear hX HFX
            go_wp2_with fail
            refine HFI.out.mono ?_
            rintro e w2 ⟨rfl, rfl⟩
            clear HFI
            go_wp2_with (at_builtin; go_loud (refine wpList_append_own _ rfl _ _ 24 rfl wa.heap.size 38 i0 (.agg #[.string ⟨#[]⟩, .int .i64 0, .int .i64 0, .int .i64 0]) 4 40 Tryz.underlying24 hi hz0 hz1 hz2 rfl (by decide) _ _ _ rfl (hown.alloc _) ⟨w2.heap.size, 0, none⟩ 1 1 [.string (bs y.name), .int .i64 0, .int .i64 0, .int .i64 0] rfl rfl ?c1 ?c2 ?c3 ?c4 ?c5 ?_))
            case c1 => exact World.news_of_block (heap_alloc_new w2 _)
            case c2 => simp [Value.oneCell']
            case c3 => unfold maxLen; omega
            case c4 => omega
            case c5 => simp; omega
            intro v' w9 hown' hgrow _
            have HON : Hid (w9.ownsRow wa.heap.size 38 4 v' (callsL (T.nodes.take (k + 1))).length (varCells (callsL (T.nodes.take (k + 1))))) := by
              unfold Hid
              rw [HNX.out, varCells_append, List.length_append]; exact hown'
            have HB9 : Hid (Below wa.heap.size wa w9) := (HBZ.out.alloc hzz _).grown hgrow (by simp; omega) (fun j hj => (hown.lt j hj).1)
            clear hown' hgrow hown d0 d2 q1 HNX HBZ HBF
            go_wp2_with fail
            go_roundw
            case rel => exact ⟨k + 1, by omega, by go_num, HON, HB9⟩
            case measure => simp [intOf]; omega
          · have HNX : Hid (callsL (T.nodes.take (k + 1)) = callsL (T.nodes.take k)) := callsL_miss hy k11
            have hkb : (y.kind != 11) = true := bne_iff_ne.2 k11
            have hkd : decide (y.kind = 11) = false := decide_eq_false k11
            clear hy d2
            go_wp2_with fail
            go_roundw
            case rel => exact ⟨k + 1, by omega, by go_num, by unfold Hid; rw [HNX.out]; exact HOWN.out, HBZ⟩
            case measure => simp [intOf]; omega
        · have q0 := (HBF.out.cell (p := ⟨p, 0, none⟩) hpw).trans HP0.out
          have HRZ : Hid (RowV wz ad V) := HRV2.out.below HBZ.out
          clear HOWN HBZ HRV2 HFR2 HN HCN HCL
          go_wp2_with fail
          go_loopw [7] (fun i wl => ∃ k : Nat, T.vars.length ≤ k ∧ k ≤ V.length ∧ i = .int .i64 k ∧ Hid (R = if (V.drop k).any (fun v => !isNameL v.name) then 5 else 0) ∧ Hid (Below wz.heap.size wz wl)) (fun i _ => V.length - (intOf i).toNat)
          case atStart => exact ⟨T.vars.length, Nat.le_refl _, hvle, rfl, HR2, Below.refl _ _⟩
          case round =>
            clear HR2
            obtain ⟨m, hm0, hm, rfl, HRM, HBL⟩ := hrel
            generalize wr = wl at *
            by_cases hlm : m < V.length
            · obtain ⟨x, hx⟩ : ∃ x, V[m]? = some x := ⟨V[m], List.getElem?_eq_getElem hlm⟩
              have hrv := HRZ.out.below HBL.out
              obtain ⟨g, rfl, hc⟩ := id hrv (by intro e; rw [e] at hlm; simp at hlm)
              obtain ⟨c0, _, _, _⟩ := hc m x hx
              have hxl := HNM.out x (List.mem_of_getElem? hx)
              have HST : Hid (R = if (!isNameL x.name || (V.drop (m + 1)).any (fun v => !isNameL v.name)) then 5 else 0) := by unfold Hid; rw [HRM.out, any_drop_step hx]
              obtain ⟨q, hq⟩ : ∃ q, isNameL x.name = q := ⟨_, rfl⟩
              have HIN : Hid (∀ w, Calls Tryz.prog 117 #[.string (bs x.name)] w fun e w' => e = .returned (.bool q) ∧ Below w.heap.size w w') := fun w => by rw [← hq]; exact isName_any x.name w (by omega)
              rw [hq] at HST
              have hk0 : (0 : Int) ≤ (m : Int) := by omega
              have hk1 : (m : Int) < (V.length : Int) := by omega
              clear hq hrv hc hx HRM
              cases q with
              | true =>
                have HR3 : Hid (R = if (V.drop (m + 1)).any (fun v => !isNameL v.name) then 5 else 0) := HST.out
                clear HST
                go_wp2_with fail
                refine (HIN.out _).mono ?_
                rintro e w8 ⟨rfl, hb8⟩
                have HB8 : Hid (Below wz.heap.size wz w8) := HBL.out.trans (hb8.mono HBL.out.size)
                clear hb8 HBL c0 HIN
                go_wp2_with fail
                go_roundw
                case rel => exact ⟨m + 1, by omega, by omega, by go_num, HR3, HB8⟩
                case measure => simp [intOf]; omega
              | false =>
                have HR3 : Hid (R = 5) := by unfold Hid; rw [HST.out]; rfl
                clear HST
                go_wp2_with fail
                refine (HIN.out _).mono ?_
                rintro e w8 ⟨rfl, hb8⟩
                have HB8 : Hid (Below wz.heap.size wz w8) := HBL.out.trans (hb8.mono HBL.out.size)
                clear hb8 HBL c0 HIN
                go_wp2_with fail
                go_ret
                exact ⟨by rw [HR3.out]; rfl, HBF.out.trans (HB8.out.mono HBF.out.size)⟩
            · have hme : m = V.length := by omega
              have HR3 : Hid (R = 0) := by unfold Hid; rw [HRM.out, hme, List.drop_length]; rfl
              clear HRM hme
              go_wp2_with fail
              go_ret
              exact ⟨by rw [HR3.out]; rfl, HBF.out.trans (HBL.out.mono HBF.out.size)⟩
set_option maxHeartbeats 3200000 in
set_option maxRecDepth 100000 in
theorem l5Sum_any (cs l : List Int) (a : Option Addr) (k c hi : Nat) (v : Value) (w : World) (hk : cs.length = k) (hk1 : k ≤ 1048576) (hN : Nums w a cs) (hv : IntsB hi w v l) (hin : ∀ x ∈ l, 0 ≤ x ∧ x < (k : Int)) (hb : Betw 100000 cs) (hl : l.length ≤ 1048576) :
    Calls Tryz.prog 137 #[.slice a k c, v] w fun e w' => e = .returned (.int .i64 (sumAtL cs l)) ∧ w' = w := by
  obtain ⟨al, cp, rfl, hh⟩ := hv
  have HH : Hid (l ≠ [] → ∃ b o, al = some ⟨b, o, none⟩ ∧ b < hi ∧ ∀ (i : Nat) (x : Int), l[i]? = some x → w.cell? ⟨b, o + i, none⟩ = some (.int .i64 x)) := hh
  have HN : Hid (Nums w a cs) := hN
  have HI : Hid (∀ x ∈ l, 0 ≤ x ∧ x < (k : Int)) := hin
  have HB : Hid (Betw 100000 cs) := hb
  clear hh hN hin hb
  go_enter Tryz.func137, Tryz.ntmps137
  go_wp2
  go_loopw [5, 6] (fun d i wr => ∃ j : Nat, j ≤ l.length ∧ i = .int .i64 j ∧ d = .int .i64 (sumAtL cs (l.take j)) ∧ SameW wr w) (fun d i _ => l.length - (intOf i).toNat)
  case atStart => exact ⟨0, by omega, rfl, rfl, rfl⟩
  case round =>
    obtain ⟨j, hj, rfl, rfl, hw⟩ := hrel
    have HW : Hid (SameW wr w) := hw
    by_cases hlt : j < l.length
    · obtain ⟨x, hx⟩ : ∃ x, l[j]? = some x := ⟨l[j], List.getElem?_eq_getElem hlt⟩
      obtain ⟨b, o, rfl, _, hc1⟩ := HH.out (by intro e; rw [e] at hlt; simp at hlt)
      have c0 : wr.cell? ⟨b, o + j, none⟩ = _ := (congrArg (fun W => World.cell? W ⟨b, o + j, none⟩) hw).trans (hc1 j x hx)
      have HD : Hid (sumAtL cs (l.take (j + 1)) = sumAtL cs (l.take j) + cs.getD x.toNat 0) := sumAt_take hx
      have hx2 := HI.out x (List.mem_of_getElem? hx)
      obtain ⟨p, rfl⟩ : ∃ p : Nat, x = p := ⟨x.toNat, by omega⟩
      have hpk : p < k := by omega
      rcases HN.out with hz | ⟨g3, o3, rfl, hc3⟩
      · rw [hz] at hk; simp at hk; omega
      have c3 : wr.cell? ⟨g3, o3 + p, none⟩ = _ := (congrArg (fun W => World.cell? W ⟨g3, o3 + p, none⟩) hw).trans (hc3 p (by omega))
      have hz2 := HB.out p
      have hs := sum_big HB.out (l := l.take j) (by rw [List.length_take]; omega)
      change Hid (sumAtL cs (l.take (j + 1)) = sumAtL cs (l.take j) + cs.getD p 0) at HD
      generalize sumAtL cs (l.take j) = s at *
      generalize cs.getD p 0 = z at *
      have hp0 : (0 : Int) ≤ (p : Int) := by omega
      have hp1 : (p : Int) < (k : Int) := by omega
      clear hx hc1 hw hx2 hc3
      go_wp2_with fail
      go_roundw
      case rel => exact ⟨j + 1, by omega, by go_num, by rw [HD.out], HW.out⟩
      case measure => simp [intOf]; omega
    · have hje : j = l.length := by omega
      have e : sumAtL cs (l.take j) = sumAtL cs l := by rw [hje, List.take_length]
      rw [e]
      clear hje e
      go_wp2
      go_ret
      exact ⟨rfl, hw⟩
set_option maxHeartbeats 800000 in
theorem l1Min_any (a b : Int) (w : World) : Calls Tryz.prog 182 #[.int .i64 a, .int .i64 b] w fun e w' => e = .returned (.int .i64 (min a b)) ∧ w' = w := by
  by_cases h : a < b
  · have e : min a b = a := by omega
    rw [e]
    go_enter Tryz.func182, Tryz.ntmps182
    go_wp2
    go_ret
    exact ⟨rfl, rfl⟩
  · have e : min a b = b := by omega
    rw [e]
    go_enter Tryz.func182, Tryz.ntmps182
    go_wp2
    go_ret
    exact ⟨rfl, rfl⟩
end Go.Proofs.YtdnhmpemkpjcaaaGreatDoor
