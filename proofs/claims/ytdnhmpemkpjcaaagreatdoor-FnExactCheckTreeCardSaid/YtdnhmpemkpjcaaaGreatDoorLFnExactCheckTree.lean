/-
  The Go function laws.FnExactCheckTree answers true at every input and writes nothing that was there, where the variable errors.errorType holds the handle of the type error, as the program's text lays it. No other condition.
-/
import Derived.Test.YtdnhmpemkpjcaaaGreatDoorIChoice
import Derived.Test.YtdnhmpemkpjcaaaGreatDoorSArgs
import Derived.Test.YtdnhmpemkpjcaaaGreatDoorCheckM2
import Derived.Test.YtdnhmpemkpjcaaaGreatDoorIOnce
import Derived.Test.YtdnhmpemkpjcaaaGreatDoorTreeWants
import Derived.Test.YtdnhmpemkpjcaaaGreatDoorIDeep
import Derived.Test.YtdnhmpemkpjcaaaGreatDoorSTypA
import Derived.Test.YtdnhmpemkpjcaaaGreatDoorSWord
import Derived.Deep.RegionHeld3
import Derived.Deep.AppendLies
import Derived.Test.YtdnhmpemkpjcaaaGreatDoorCopy
import Derived.BigRegion
import Derived.Laws.AppendOwn
import Derived.Test.YtdnhmpemkpjcaaaGreatDoorLFnExactTypeOf
import Derived.Test.YtdnhmpemkpjcaaaGreatDoorSFault
import Derived.Test.YtdnhmpemkpjcaaaGreatDoorIPlain
import Derived.Test.YtdnhmpemkpjcaaaGreatDoorILex
import Derived.Test.YtdnhmpemkpjcaaaGreatDoorIMisfit
import Derived.Test.YtdnhmpemkpjcaaaGreatDoorIFault
import Derived.Test.YtdnhmpemkpjcaaaGreatDoorTreeC
namespace Go.Proofs.YtdnhmpemkpjcaaaGreatDoor
open Go.RowKit
set_option linter.unusedVariables false
attribute [local go_sem] bs_size bs_get bs_extract bs_append bs_eq bs_toList

theorem ICk.store {W0 W1 : World} {cp mp : Nat} {vn vl vl' : Value} (hb : Below W0.heap.size W0 W1) (hl : W0.heap.size ≤ cp) (h : W1.heap[cp]? = some (.cells #[vn, .map (some mp), vl] 184 (0, 0))) : ICk W0 (W1.setCell ⟨cp, 2, none⟩ vl') cp mp vn vl' := by
  refine ⟨hb.setCell (by simp; omega) _, ?_⟩
  rw [heap_setCell_same _ _ _ _ _ _ h]; rfl
/-- a row that an append made longer, stored into the checker's block -/
theorem i_push {W0 w6 Wa w1 : World} {cp mp B gg cap H : Nat} {vn vl : Value} {L : List (List UInt8)} {nm : List UInt8} (hC : ICk W0 w6 cp mp vn vl) (hL : LoopO w6 B vl L) (hB : B = cp + 1) (hlow : W0.heap.size ≤ cp)
    (hb : Below w6.heap.size w6 Wa) (hgrow : Wa.grownBy w1 vl.ownBlock) (hown : w1.ownsRow B 9 1 (.slice (some ⟨gg, 0, none⟩) (L.length + 1) cap) (L.length + 1) (namC L ++ [.string (bs nm)])) (hat : vl.ownBlock = some gg ∨ gg = H) (hH : w6.heap.size ≤ H) :
    ICk W0 (w1.setCell ⟨cp, 2, none⟩ (.slice (some ⟨gg, 0, none⟩) (L.length + 1) cap)) cp mp vn (.slice (some ⟨gg, 0, none⟩) (L.length + 1) cap) ∧ LoopO (w1.setCell ⟨cp, 2, none⟩ (.slice (some ⟨gg, 0, none⟩) (L.length + 1) cap)) B (.slice (some ⟨gg, 0, none⟩) (L.length + 1) cap) (L ++ [nm]) ∧ Duo cp vl (.slice (some ⟨gg, 0, none⟩) (L.length + 1) cap) w6 (w1.setCell ⟨cp, 2, none⟩ (.slice (some ⟨gg, 0, none⟩) (L.length + 1) cap)) := by
  have hrl : ∀ g, vl.ownBlock = some g → B ≤ g ∧ g < w6.heap.size := fun g hg => World.ownsRow.lt hL g hg
  have hkl := blk_lt hC.row
  have hz := hb.size
  have hz0 := hC.bel.size
  have hr : w1.heap[cp]? = some (.cells #[vn, .map (some mp), vl] 184 (0, 0)) := by
    rw [hgrow.block cp (by omega) (fun e => by have := (hrl _ e.symm).1; omega)]; exact blk hC.row hb
  have hb1 : Below W0.heap.size W0 w1 := (hC.bel.trans (hb.mono hz0)).grown hgrow (by omega) (fun g hg => by have := (hrl _ hg).1; omega)
  have hb6 : Below 0 w6 w1 := (hb.mono (Nat.zero_le _)).grown hgrow (Nat.zero_le _) (fun g hg => Nat.zero_le _)
  have hgg : B ≤ gg := by
    rcases hat with h | h
    · exact (hrl _ h).1
    · omega
  refine ⟨ICk.store hb1 hlow hr, ?_, ⟨hb6.setCell (by simp) _, fun b hb2 hk hv => ?_, fun g hg => ?_⟩⟩
  · have e : (L ++ [nm]).length = L.length + 1 := by simp
    unfold LoopO
    rw [e, namC_snoc]
    refine rowE_same hown fun g hg hl => ?_
    exact Below.heap_setCell _ _ _ _ (by simp; omega)
  · rw [Below.heap_setCell _ _ _ _ (by simpa using hk)]
    rw [hgrow.block b (by omega) (fun e => hv e.symm), hb.block b hb2]
  · have : gg = g := by simpa [Value.ownBlock] using hg
    subst this
    rcases hat with h | h
    · exact .inl h
    · exact .inr (by omega)
/-- the row cut again, stored into the checker's block -/
theorem i_pop {W0 w8 : World} {cp mp B gg cap : Nat} {vn : Value} {L : List (List UInt8)} {nm : List UInt8} (hC : ICk W0 w8 cp mp vn (.slice (some ⟨gg, 0, none⟩) (L.length + 1) cap)) (hL : LoopO w8 B (.slice (some ⟨gg, 0, none⟩) (L.length + 1) cap) (L ++ [nm])) (hB : B = cp + 1) (hlow : W0.heap.size ≤ cp) :
    ICk W0 (w8.drew.setCell ⟨cp, 2, none⟩ (.slice (some ⟨gg, 0, none⟩) L.length cap)) cp mp vn (.slice (some ⟨gg, 0, none⟩) L.length cap) ∧ LoopO (w8.drew.setCell ⟨cp, 2, none⟩ (.slice (some ⟨gg, 0, none⟩) L.length cap)) B (.slice (some ⟨gg, 0, none⟩) L.length cap) L ∧ Duo cp (.slice (some ⟨gg, 0, none⟩) (L.length + 1) cap) (.slice (some ⟨gg, 0, none⟩) L.length cap) w8 (w8.drew.setCell ⟨cp, 2, none⟩ (.slice (some ⟨gg, 0, none⟩) L.length cap)) := by
  refine ⟨ICk.store hC.bel.drew hlow hC.row, ?_, ⟨((Below.refl _ _).drew).setCell (by simp) _, fun b hb2 hk hv => ?_, fun g hg => .inl hg⟩⟩
  · refine rowE_same (LoopO.pop hL) fun g hg hl => ?_
    exact Below.heap_setCell _ _ _ _ (by simp; omega)
  · rw [Below.heap_setCell _ _ _ _ (by simpa using hk)]; rfl
theorem loop_for {T : LTree} {K : Int} {L : List (List UInt8)} {n : LNode} {x : Int} (hk : n.kind = 10) :
    ((settF (allL K T) T.vars.length L n x).1 ≠ 0 → forF T.vars L n x (0, 0) = settF (allL K T) T.vars.length L n x) ∧
    ((settF (allL K T) T.vars.length L n x).1 = 0 → forF T.vars L n x (0, 0) = if ((allL K T).getD (varFrom n.name (allL K T) 0).toNat default).type ≠ 1 then (8, x) else if 1000 < n.num ∨ 1000 < n.far then (3, x) else (0, 0)) := by
  obtain ⟨h1, h2⟩ := sett_target (T := T) (K := K) (L := L) (n := n) (x := x) (row := false) (by simp [hk]) (.inr (.inr hk))
  refine ⟨fun hz => ?_, fun hz => ?_⟩
  · have hA : forA T.vars L n x (0, 0) = settF (allL K T) T.vars.length L n x := by unfold forA; rw [h1, if_neg (fun h => hz h.1)]
    unfold forF
    rw [hA]
    split
    · exact metAt_met hz _ _
    · rfl
  · have hz2 : settF (allL K T) T.vars.length L n x = (0, 0) := by
      rw [← h1]; exact (target_orz (.inl rfl)).resolve_right (fun h => h (by rw [h1]; exact hz))
    by_cases ht : ((allL K T).getD (varFrom n.name (allL K T) 0).toNat default).type = 1
    · have hA : forA T.vars L n x (0, 0) = (0, 0) := by unfold forA; rw [h1, h2 hz, hz2, if_neg (fun h => h.2 ht)]
      have ht2 : ¬ (((allL K T).getD (varFrom n.name (allL K T) 0).toNat default).type ≠ 1) := fun h => h ht
      unfold forF
      rw [hA, metAt_zero, if_neg ht2]
    · have hA : forA T.vars L n x (0, 0) = (8, x) := by unfold forA; rw [h1, h2 hz, hz2, if_pos ⟨rfl, ht⟩, metAt_zero]
      unfold forF
      rw [hA, if_pos ht]
      split
      · exact metAt_met (show ((8 : Int), x).1 ≠ 0 from by simp) _ _
      · rfl

set_option maxHeartbeats 12800000 in
set_option maxRecDepth 100000 in
theorem loop_any (lo : Nat) (W0 W : World) (cp mp B f : Nat) (K : Int) (vn vl : Value) (T : LTree) (L : List (List UInt8)) (x : Nat) (h : CkT lo W0 cp mp vn T (allL K T)) (hC : ICk W0 W cp mp vn vl) (hL : LoopO W B vl L) (hB : B = cp + 1) (hLl : L.length ≤ 1000) (hx : x < T.nodes.length) (hk : (nodeOf T.nodes (x : Int)).kind = 10)
    (hT : IListC lo W0 cp mp B vn T (allL K T) f (L ++ [(nodeOf T.nodes (x : Int)).name]) (nodeOf T.nodes (x : Int)).thn) :
    Calls Tryz.prog 199 #[.pointer (some ⟨cp, 0, none⟩), .int .i64 (x : Int)] W fun e w' => e = .returned (errV (goL (stmtF (mustT (allL K T) T.vars.length T.nodes) T.vars T.nodes f (L ++ [(nodeOf T.nodes (x : Int)).name])) (nodeOf T.nodes (x : Int)).thn (forF T.vars L (nodeOf T.nodes (x : Int)) (x : Int) (0, 0)))) ∧ ∃ vl', ICk W0 w' cp mp vn vl' ∧ LoopO w' B vl' L ∧ Duo cp vl vl' W w' := by
  obtain ⟨i0, hi, hz0, hz1, hz2⟩ := info_parts infoS
  have hsm := (h.small.node _ (List.mem_of_getElem? (node_get hx))).1
  have HSE : Hid (Calls Tryz.prog 210 #[.pointer (some ⟨cp, 0, none⟩), .int .i64 (x : Int)] W fun e w' => e = .returned (.tuple #[namedV (allL K T) T.vars.length (nodeOf T.nodes (x : Int)) (x : Int), errV (settF (allL K T) T.vars.length L (nodeOf T.nodes (x : Int)) (x : Int))]) ∧ Below W.heap.size W w') := settable_any lo W0 W cp mp B vn vl T (allL K T) L x h.b hC hL hB (by omega) hx hsm
  obtain ⟨hlf1, hlf2⟩ := loop_for (T := T) (K := K) (L := L) (n := nodeOf T.nodes (x : Int)) (x := (x : Int)) hk
  have HB0 : Hid (CkB lo W0 cp mp vn T (allL K T)) := h.b
  have HLC : Hid (IListC lo W0 cp mp B vn T (allL K T) f (L ++ [(nodeOf T.nodes (x : Int)).name]) (nodeOf T.nodes (x : Int)).thn) := hT
  have hnl := h.b.good.nodes
  have hlow := h.b.low
  have hcl := blk_lt hC.row
  obtain ⟨R, hR⟩ : ∃ R, R = goL (stmtF (mustT (allL K T) T.vars.length T.nodes) T.vars T.nodes f (L ++ [(nodeOf T.nodes (x : Int)).name])) (nodeOf T.nodes (x : Int)).thn (forF T.vars L (nodeOf T.nodes (x : Int)) (x : Int) (0, 0)) := ⟨_, rfl⟩
  rw [← hR]
  have HR : Hid (R = goL (stmtF (mustT (allL K T) T.vars.length T.nodes) T.vars T.nodes f (L ++ [(nodeOf T.nodes (x : Int)).name])) (nodeOf T.nodes (x : Int)).thn (forF T.vars L (nodeOf T.nodes (x : Int)) (x : Int) (0, 0))) := hR
  obtain ⟨y0, y1, y2, y3, y4, y5, hy⟩ := namedV_form (allL K T) T.vars.length (nodeOf T.nodes (x : Int)) (x : Int)
  obtain ⟨m, hm⟩ : ∃ m, m = settF (allL K T) T.vars.length L (nodeOf T.nodes (x : Int)) (x : Int) := ⟨_, rfl⟩
  have HY : Hid (m.1 = 0 → ((allL K T).getD (varFrom (nodeOf T.nodes (x : Int)).name (allL K T) 0).toNat default).type = y2 ∧ y0 = (nodeOf T.nodes (x : Int)).name) := fun h0 => by
    have hn0 : (namedF (allL K T) T.vars.length (nodeOf T.nodes (x : Int)) (x : Int)).1 = 0 := by
      rw [hm] at h0; unfold settF at h0
      split at h0
      · rename_i h1; exact absurd h0 h1
      · rename_i h1; exact Classical.byContradiction fun h2 => h1 h2
    have h := hy
    unfold namedV at h
    rw [if_pos hn0] at h
    unfold entVal at h
    injection h with h
    have h2 := congrArg Array.toList h
    simp at h2
    refine ⟨h2.2.2.1, ?_⟩
    have hv0 : 0 ≤ varFrom (nodeOf T.nodes (x : Int)).name (allL K T) 0 := by
      unfold namedF at hn0
      split at hn0
      · simp at hn0
      · rename_i h1; omega
    have h3 := varFrom_name hv0
    rw [Nat.sub_zero] at h3
    rw [← bs_inj h2.1]; exact h3
  rw [hy, ← hm] at HSE
  rw [← hm] at hlf1 hlf2
  have HFO : Hid ((m.1 ≠ 0 → forF T.vars L (nodeOf T.nodes (x : Int)) (x : Int) (0, 0) = m) ∧ (m.1 = 0 → forF T.vars L (nodeOf T.nodes (x : Int)) (x : Int) (0, 0) = if ((allL K T).getD (varFrom (nodeOf T.nodes (x : Int)).name (allL K T) 0).toNat default).type ≠ 1 then (8, (x : Int)) else if 1000 < (nodeOf T.nodes (x : Int)).num ∨ 1000 < (nodeOf T.nodes (x : Int)).far then (3, (x : Int)) else (0, 0))) := ⟨hlf1, hlf2⟩
  have HCK : Hid (∀ W', Below W.heap.size W W' → ICk W0 W' cp mp vn vl ∧ LoopO W' B vl L ∧ Duo cp vl vl W W') := fun W' hb => ⟨hC.below hb, rowE_kept hL hb, hb.sole.duo _⟩
  obtain ⟨aL, cL, evl, _⟩ := hL.form
  subst evl
  have hx0 : (0 : Int) ≤ (x : Int) := by omega
  have hx1 : (x : Int) < (T.nodes.length : Int) := by omega
  clear hy hm hR h hC hL hT hlf1 hlf2
  obtain ⟨m1, m2⟩ := m
  go_enter Tryz.func199, Tryz.ntmps199
  go_wp2_with fail
  refine HSE.out.mono ?_
  rintro e w2 ⟨rfl, hb⟩
  have HB : Hid (Below W.heap.size W w2) := hb
  clear hb HSE
  by_cases hz : m1 = 0
  · subst hz
    obtain ⟨hY1, hY2⟩ := HY.out rfl
    subst hY2
    have HF2 : Hid (forF T.vars L (nodeOf T.nodes (x : Int)) (x : Int) (0, 0) = if y2 ≠ 1 then (8, (x : Int)) else if 1000 < (nodeOf T.nodes (x : Int)).num ∨ 1000 < (nodeOf T.nodes (x : Int)).far then (3, (x : Int)) else (0, 0)) := by unfold Hid; rw [HFO.out.2 rfl, hY1]
    rw [errV_zero rfl]
    obtain ⟨n, hn⟩ : ∃ n, n = nodeOf T.nodes (x : Int) := ⟨_, rfl⟩
    have hb3 : Below W.heap.size W (w2.alloc (.cells #[.string (bs (nodeOf T.nodes (x : Int)).name), .int .i64 y1, .int .i64 y2, .int .i64 y3, .bool y4, .int .i64 y5] 100)) := HB.out.alloc HB.out.size _
    have hV3 := heap_alloc_new w2 (.cells #[.string (bs (nodeOf T.nodes (x : Int)).name), .int .i64 y1, .int .i64 y2, .int .i64 y3, .bool y4, .int .i64 y5] 100)
    have hck3 := HCK.out _ hb3
    obtain ⟨bn, on, cn, rfl, vk, vt, ve, hnc, hkd, htd, hed⟩ := HB0.out.node hck3.1.bel x hx
    obtain ⟨ak, ck, evk, _⟩ := id hkd
    obtain ⟨at1, ct, evt, _⟩ := id htd
    obtain ⟨ae, ce, eve, _⟩ := id hed
    subst evk; subst evt; subst eve
    have HTD : Hid (IntsV lo W0 (.slice at1 (nodeOf T.nodes (x : Int)).thn.length ct) (nodeOf T.nodes (x : Int)).thn) := htd
    have k0 := cell_of_row _ _ 0 _ _ _ hck3.1.row
    simp only [List.getElem?_toArray] at k0
    rw [← hn] at hnc HTD HF2 HR HLC hb3 hV3 hck3 k0 hk ⊢
    obtain ⟨d0, d1, d2, d3, d4, d5, d6, d7⟩ := hnc
    have HCK3 : Hid (ICk W0 (w2.alloc (.cells #[.string (bs n.name), .int .i64 y1, .int .i64 y2, .int .i64 y3, .bool y4, .int .i64 y5] 100)) cp mp (.slice (some ⟨bn, on, none⟩) T.nodes.length cn) (.slice aL L.length cL) ∧ LoopO (w2.alloc (.cells #[.string (bs n.name), .int .i64 y1, .int .i64 y2, .int .i64 y3, .bool y4, .int .i64 y5] 100)) B (.slice aL L.length cL) L ∧ Duo cp (.slice aL L.length cL) (.slice aL L.length cL) W (w2.alloc (.cells #[.string (bs n.name), .int .i64 y1, .int .i64 y2, .int .i64 y3, .bool y4, .int .i64 y5] 100))) := hck3
    have HV3 : Hid ((w2.alloc (.cells #[.string (bs n.name), .int .i64 y1, .int .i64 y2, .int .i64 y3, .bool y4, .int .i64 y5] 100)).heap[w2.heap.size]? = some (.cells #[.string (bs n.name), .int .i64 y1, .int .i64 y2, .int .i64 y3, .bool y4, .int .i64 y5] 100 (0, 0))) := hV3
    have hwz2 := HB.out.size
    clear hck3 hkd htd hed hY1 HY HFO HCK HB HB0 hb3 hn hV3
    go_upto_region 4 with fail
    generalize w2.alloc (.cells #[.string (bs n.name), .int .i64 y1, .int .i64 y2, .int .i64 y3, .bool y4, .int .i64 y5] 100) = W3 at *
    generalize w2.heap.size = gv at *
    have hW3z := HCK3.out.2.2.bel.size
    have hb4 : ∀ o, Below W3.heap.size W3 (W3.alloc o) := fun o => (Below.refl _ _).alloc (Nat.le_refl _) _
    have HC4 : Hid (ICk W0 (W3.alloc (.cells #[.int .i64 10, .int .i64 n.op, .string (bs n.name), .int .i64 n.num, .int .i64 n.far, .slice ak n.kids.length ck, .slice at1 n.thn.length ct, .slice ae n.els.length ce] 111)) cp mp (.slice (some ⟨bn, on, none⟩) T.nodes.length cn) (.slice aL L.length cL) ∧ LoopO (W3.alloc (.cells #[.int .i64 10, .int .i64 n.op, .string (bs n.name), .int .i64 n.num, .int .i64 n.far, .slice ak n.kids.length ck, .slice at1 n.thn.length ct, .slice ae n.els.length ce] 111)) B (.slice aL L.length cL) L ∧ Duo cp (.slice aL L.length cL) (.slice aL L.length cL) W (W3.alloc (.cells #[.int .i64 10, .int .i64 n.op, .string (bs n.name), .int .i64 n.num, .int .i64 n.far, .slice ak n.kids.length ck, .slice at1 n.thn.length ct, .slice ae n.els.length ce] 111))) := ⟨HCK3.out.1.below (hb4 _), rowE_kept HCK3.out.2.1 (hb4 _), HCK3.out.2.2.trans ((hb4 _).sole.duo _)⟩
    have HN4 : Hid ((W3.alloc (.cells #[.int .i64 10, .int .i64 n.op, .string (bs n.name), .int .i64 n.num, .int .i64 n.far, .slice ak n.kids.length ck, .slice at1 n.thn.length ct, .slice ae n.els.length ce] 111)).heap[W3.heap.size]? = some (.cells #[.int .i64 10, .int .i64 n.op, .string (bs n.name), .int .i64 n.num, .int .i64 n.far, .slice ak n.kids.length ck, .slice at1 n.thn.length ct, .slice ae n.els.length ce] 111 (0, 0))) := heap_alloc_new W3 _
    have HV4 : Hid ((W3.alloc (.cells #[.int .i64 10, .int .i64 n.op, .string (bs n.name), .int .i64 n.num, .int .i64 n.far, .slice ak n.kids.length ck, .slice at1 n.thn.length ct, .slice ae n.els.length ce] 111)).heap[gv]? = some (.cells #[.string (bs n.name), .int .i64 y1, .int .i64 y2, .int .i64 y3, .bool y4, .int .i64 y5] 100 (0, 0))) := blk HV3.out (hb4 _)
    have hgn : W3.heap.size ≠ cp := by have := blk_lt HCK3.out.1.row; omega
    have hgo : (Value.slice aL L.length cL).ownBlock ≠ some W3.heap.size := fun e => by have := (World.ownsRow.lt HCK3.out.2.1 _ e).2; omega
    rw [hk] at d0
    have v2 : W3.cell? ⟨gv, 2, none⟩ = some (.int .i64 y2) := cell_of_row _ _ 2 _ _ _ HV3.out
    have hgv3 : gv < W3.heap.size := blk_lt HV3.out
    clear hb4 HCK3 HV3
    go_upto_region 5 with fail
    generalize W3.alloc (.cells #[.int .i64 10, .int .i64 n.op, .string (bs n.name), .int .i64 n.num, .int .i64 n.far, .slice ak n.kids.length ck, .slice at1 n.thn.length ct, .slice ae n.els.length ce] 111) = W4 at *
    generalize W3.heap.size = gn at *
    clear v2 d0 d1 d2 d3 d4 d5 d6 d7 k0
    have v2 : W4.cell? ⟨gv, 2, none⟩ = some (.int .i64 y2) := cell_of_row _ _ 2 _ _ _ HV4.out
    have n3 : W4.cell? ⟨gn, 3, none⟩ = some (.int .i64 n.num) := cell_of_row _ _ 3 _ _ _ HN4.out
    have n4 : W4.cell? ⟨gn, 4, none⟩ = some (.int .i64 n.far) := cell_of_row _ _ 4 _ _ _ HN4.out
    by_cases hy2 : y2 = 1
    · subst hy2
      have HF3 : Hid (forF T.vars L n (x : Int) (0, 0) = if 1000 < n.num ∨ 1000 < n.far then (3, (x : Int)) else (0, 0)) := by unfold Hid; rw [HF2.out, if_neg (fun h => h rfl)]
      clear HF2
      by_cases hnum : 1000 < n.num
      · have hb1 : decide ((1000 : Int) < n.num) = true := decide_eq_true hnum
        have HRE : Hid (R = (3, (x : Int))) := by unfold Hid; rw [HR.out, HF3.out, if_pos (Or.inl hnum), goL_met (show ((3 : Int), (x : Int)).1 ≠ 0 from by simp)]
        clear hnum HR HF3 HLC
        go_wp2_with fail
        go_ret
        exact ⟨by rw [HRE.out]; rfl, _, HC4.out⟩
      · have hb1 : decide ((1000 : Int) < n.num) = false := decide_eq_false hnum
        by_cases hfar : 1000 < n.far
        · have hb2 : decide ((1000 : Int) < n.far) = true := decide_eq_true hfar
          have HRE : Hid (R = (3, (x : Int))) := by unfold Hid; rw [HR.out, HF3.out, if_pos (Or.inr hfar), goL_met (show ((3 : Int), (x : Int)).1 ≠ 0 from by simp)]
          clear hnum hfar HR HF3 HLC
          go_wp2_with fail
          go_ret
          exact ⟨by rw [HRE.out]; rfl, _, HC4.out⟩
        · have hb2 : decide ((1000 : Int) < n.far) = false := decide_eq_false hfar
          have HRE : Hid (R = goL (stmtF (mustT (allL K T) T.vars.length T.nodes) T.vars T.nodes f (L ++ [n.name])) n.thn (0, 0)) := by unfold Hid; rw [HR.out, HF3.out, if_neg (fun h => h.elim hnum hfar)]
          clear hnum hfar HR HF3
          have hown := HC4.out.2.1
          have hrl6 : ∀ g, (Value.slice aL L.length cL).ownBlock = some g → B ≤ g ∧ g < W4.heap.size := fun g hg => World.ownsRow.lt hown g hg
          have q1 : W4.cell? ⟨cp, 2, none⟩ = some (.slice aL L.length cL) := cell_of_row _ _ 2 _ _ _ HC4.out.1.row
          have fq : W4.frozen? ⟨cp, 2, none⟩ = false := frozen_of_row _ _ 2 _ _ HC4.out.1.row
          have v0 : W4.cell? ⟨gv, 0, none⟩ = some (.string (bs n.name)) := cell_of_row _ _ 0 _ _ _ HV4.out
          have hgw : cp < W4.heap.size := blk_lt HC4.out.1.row
          have hgvw : gv < W4.heap.size := blk_lt HV4.out
          have hgnw : gn < W4.heap.size := blk_lt HN4.out
          have ag : (Value.slice aL L.length cL).ownBlock ≠ some cp := fun e => by have := (hrl6 _ e).1; omega
          have h63 : L.length + 1 ≤ maxLen := by unfold maxLen; omega
          have hbb : (L.length + 1) * 16 ≤ 140737488355328 := by omega
          have hbase : B ≤ W4.heap.size := by omega
          go_wp2_with fail
          clear v2 n3 n4
          go_region_law ((refine step_append_lies _ (by rfl) _ _ _ (by rfl) B 9 i0 _ 1 16 Tryz.underlying40 hi hz0 hz1 hz2 rfl (by omega) (.slice aL L.length cL) L.length (namC L) (by rfl) ((hown.alloc _).drew) ⟨W4.heap.size, 0, none⟩ 1 1 [.string (bs n.name)] (by rfl) (by rfl) (World.news_of_block (cs := #[.string (bs n.name)]) (t := 9) (fr := (0, 0)) (heap_alloc_new W4 _)) (by simp [Value.oneCell']) (by omega) h63 hbb (by simp; omega) (W4.heap.size + 1) (by simp) ?_; intro gg cap w1 hown1 hgrow hat hlt1; have q9 : w1.cell? ⟨cp, 2, none⟩ = some (.slice aL L.length cL) := (hgrow.cell_far ⟨cp, 2, none⟩ (by simp; omega) (Ne.symm ag)).trans ((World.cell?_of_block (a := ⟨cp, 2, none⟩) (Below.heap_alloc W4 _ cp hgw)).trans q1); have f9 : w1.frozen? ⟨cp, 2, none⟩ = false := (hgrow.frozen_far ⟨cp, 2, none⟩ (by simp; omega) (Ne.symm ag)).trans ((World.frozen?_of_block (a := ⟨cp, 2, none⟩) (Below.heap_alloc W4 _ cp hgw)).trans fq); have hgw1 : cp < w1.heap.size := World.block_lt_of_cell? _ _ q9))
          all_goals
            have h7 := i_push (nm := n.name) HC4.out.1 HC4.out.2.1 hB hlow (((Below.refl W4.heap.size W4).alloc (Nat.le_refl _) _).drew) hgrow hown1 hat (by omega)
            have H7 : Hid _ := h7
            have n6 : (w1.setCell ⟨cp, 2, none⟩ (.slice (some ⟨gg, 0, none⟩) (L.length + 1) cap)).cell? ⟨gn, 6, none⟩ = some (.slice at1 n.thn.length ct) := h7.2.2.cell (p := ⟨gn, 6, none⟩) hgn hgo (cell_of_row _ _ 6 _ _ _ HN4.out)
            clear hown1 hgrow hat hlt1 q9 f9 hgw1 hown hrl6 q1 fq v0 ag h7
            generalize hW7 : w1.setCell ⟨cp, 2, none⟩ (.slice (some ⟨gg, 0, none⟩) (L.length + 1) cap) = W7 at *
            clear hW7
            go_wp2_with fail
            refine (HLC.out _ _ _ H7.out.1 H7.out.2.1 HTD.out).mono ?_
            rintro e w8 ⟨rfl, vl8, hc8, hl8, hd8⟩
            obtain ⟨a8, c8, ev8, h8⟩ := hl8.form
            obtain ⟨g8, ea8, _⟩ := h8 (by simp)
            subst ev8; subst ea8
            have el8 : (L ++ [n.name]).length = L.length + 1 := by simp
            rw [el8] at hc8 hl8 hd8
            have h9 := i_pop hc8 hl8 hB hlow
            have H9 : Hid _ := h9
            have HD9 : Hid (Duo cp (.slice aL L.length cL) (.slice (some ⟨g8, 0, none⟩) L.length c8) W (w8.drew.setCell ⟨cp, 2, none⟩ (.slice (some ⟨g8, 0, none⟩) L.length c8))) := ((HC4.out.2.2.trans H7.out.2.2).trans hd8).trans h9.2.2
            have hc8c : L.length + 1 ≤ c8 := hl8.cap.2
            have k2 : w8.cell? ⟨cp, 2, none⟩ = some (.slice (some ⟨g8, 0, none⟩) (L.length + 1) c8) := cell_of_row _ _ 2 _ _ _ hc8.row
            have fk : w8.frozen? ⟨cp, 2, none⟩ = false := frozen_of_row _ _ 2 _ _ hc8.row
            have hk8 : cp < w8.heap.size := blk_lt hc8.row
            have hsl : ∀ W, (Instr.slice 40 (.slice (some ⟨g8, 0, none⟩) (L.length + 1) c8) none (some (.int .i64 (L.length : Int))) none).run Tryz.prog W = .ok (.slice (some ⟨g8, 0, none⟩) L.length c8) W := slice_popS g8 L.length (L.length + 1) c8 (by omega) hc8c
            rw [← HRE.out]
            clear hc8 hl8 hd8 h9 H7 HLC HTD n6 h8 el8 HC4 HN4 HV4
            go_wp2_with fail
            go_region
            all_goals
              go_wp2_with fail
              go_ret
              exact ⟨rfl, _, H9.out.1, H9.out.2.1, HD9.out⟩
    · have hyb : (y2 != 1) = true := bne_iff_ne.2 hy2
      have hyd : decide (y2 = 1) = false := decide_eq_false hy2
      have HRE : Hid (R = (8, (x : Int))) := by unfold Hid; rw [HR.out, HF2.out, if_pos hy2, goL_met (show ((8 : Int), (x : Int)).1 ≠ 0 from by simp)]
      clear HR HF2 HLC
      go_wp2_with fail
      go_ret
      exact ⟨by rw [HRE.out]; rfl, _, HC4.out⟩
  · have HRE : Hid (errV R = .iface 89 (.agg #[.int .i64 m1, .int .i64 m2])) := by unfold Hid; rw [HR.out, HFO.out.1 hz, goL_met hz, errV_met hz]
    rw [errV_met hz]
    have HC3 := HCK.out _ (HB.out.alloc HB.out.size (.cells #[.string (bs y0), .int .i64 y1, .int .i64 y2, .int .i64 y3, .bool y4, .int .i64 y5] 100))
    have HC4 : Hid _ := HC3
    clear HR HY HFO HCK HB HB0 HLC hz HC3
    go_wp2_with fail
    go_ret
    exact ⟨by rw [HRE.out]; rfl, _, HC4.out⟩
end Go.Proofs.YtdnhmpemkpjcaaaGreatDoor
namespace Go.Proofs.YtdnhmpemkpjcaaaGreatDoor
open Go.RowKit
set_option linter.unusedVariables false
attribute [local go_sem] bs_size bs_get bs_extract bs_append bs_eq bs_toList

set_option maxHeartbeats 12800000 in
set_option maxRecDepth 100000 in
theorem statement_any (lo : Nat) (W0 W : World) (cp mp B f : Nat) (K : Int) (vn vl : Value) (T : LTree) (L : List (List UInt8)) (x : Nat) (h : CkT lo W0 cp mp vn T (allL K T)) (hC : ICk W0 W cp mp vn vl) (hL : LoopO W B vl L) (hB : B = cp + 1) (hLl : L.length ≤ 1000) (hx : x < T.nodes.length) (hk : 7 ≤ (nodeOf T.nodes (x : Int)).kind ∧ (nodeOf T.nodes (x : Int)).kind ≤ 11)
    (IH : ((nodeOf T.nodes (x : Int)).kind = 9 → IListC lo W0 cp mp B vn T (allL K T) f L (nodeOf T.nodes (x : Int)).thn ∧ IListC lo W0 cp mp B vn T (allL K T) f L (nodeOf T.nodes (x : Int)).els) ∧ ((nodeOf T.nodes (x : Int)).kind = 10 → IListC lo W0 cp mp B vn T (allL K T) f (L ++ [(nodeOf T.nodes (x : Int)).name]) (nodeOf T.nodes (x : Int)).thn)) :
    Calls Tryz.prog 167 #[.pointer (some ⟨cp, 0, none⟩), .int .i64 (x : Int)] W fun e w' => e = .returned (errV (stmtF (mustT (allL K T) T.vars.length T.nodes) T.vars T.nodes (f + 1) L (x : Int) (0, 0))) ∧ ∃ vl', ICk W0 w' cp mp vn vl' ∧ LoopO w' B vl' L ∧ Duo cp vl vl' W w' := by
  have hown := (h.b.good.node x _ (node_get hx)).1
  obtain ⟨bn, on, cn, evn, vk, vt, ve, hnc, hkd, htd, hed⟩ := h.b.node hC.bel x hx
  have k0 := cell_of_row _ _ 0 _ _ _ hC.row
  simp only [List.getElem?_toArray] at k0
  obtain ⟨ak, ck, evk, _⟩ := id hkd
  obtain ⟨at1, ct, evt, _⟩ := id htd
  obtain ⟨ae, ce, eve, _⟩ := id hed
  subst evk; subst evt; subst eve
  have hnl := h.b.good.nodes
  have hx0 : (0 : Int) ≤ (x : Int) := by omega
  have hx1 : (x : Int) < (T.nodes.length : Int) := by omega
  have HDone : Hid (∀ w', Below W.heap.size W w' → ICk W0 w' cp mp vn vl ∧ LoopO w' B vl L ∧ Duo cp vl vl W w') := fun W' hb => ⟨hC.below hb, rowE_kept hL hb, hb.sole.duo _⟩
  have HSF : Hid (∀ st, stmtF (mustT (allL K T) T.vars.length T.nodes) T.vars T.nodes (f + 1) L (x : Int) st = if (nodeOf T.nodes (x : Int)).kind = 7 then mustT (allL K T) T.vars.length T.nodes ((nodeOf T.nodes (x : Int)).kids.getD 0 0) (targetF T.vars L (nodeOf T.nodes (x : Int)).name false (x : Int) st).1 (targetF T.vars L (nodeOf T.nodes (x : Int)).name false (x : Int) st).2
    else if (nodeOf T.nodes (x : Int)).kind = 8 then mustT (allL K T) T.vars.length T.nodes ((nodeOf T.nodes (x : Int)).kids.getD 1 0) (targetF T.vars L (nodeOf T.nodes (x : Int)).name true (x : Int) st).1 (mustT (allL K T) T.vars.length T.nodes ((nodeOf T.nodes (x : Int)).kids.getD 0 0) 1 (targetF T.vars L (nodeOf T.nodes (x : Int)).name true (x : Int) st).2)
    else if (nodeOf T.nodes (x : Int)).kind = 9 then goL (stmtF (mustT (allL K T) T.vars.length T.nodes) T.vars T.nodes f L) (nodeOf T.nodes (x : Int)).els (goL (stmtF (mustT (allL K T) T.vars.length T.nodes) T.vars T.nodes f L) (nodeOf T.nodes (x : Int)).thn (mustT (allL K T) T.vars.length T.nodes ((nodeOf T.nodes (x : Int)).kids.getD 0 0) 2 st))
    else if (nodeOf T.nodes (x : Int)).kind = 10 then goL (stmtF (mustT (allL K T) T.vars.length T.nodes) T.vars T.nodes f (L ++ [(nodeOf T.nodes (x : Int)).name])) (nodeOf T.nodes (x : Int)).thn (forF T.vars L (nodeOf T.nodes (x : Int)) (x : Int) st)
    else if (nodeOf T.nodes (x : Int)).kind = 11 then callF (mustT (allL K T) T.vars.length T.nodes) L (nodeOf T.nodes (x : Int)) (x : Int) st
    else st) := fun st => rfl
  obtain ⟨d0, d1, d2, d3, d4, d5, d6, d7⟩ := hnc
  have hcs : (nodeOf T.nodes (x : Int)).kind = 7 ∨ (nodeOf T.nodes (x : Int)).kind = 8 ∨ (nodeOf T.nodes (x : Int)).kind = 9 ∨ (nodeOf T.nodes (x : Int)).kind = 10 ∨ (nodeOf T.nodes (x : Int)).kind = 11 := by omega
  rcases hcs with hK | hK | hK | hK | hK
  · have HA : Hid (Calls Tryz.prog 197 #[.pointer (some ⟨cp, 0, none⟩), .int .i64 (x : Int)] W fun e w' => e = .returned (errV (stmtF (mustT (allL K T) T.vars.length T.nodes) T.vars T.nodes (f + 1) L (x : Int) (0, 0))) ∧ Below W.heap.size W w') := by
      rw [asg_stmt hown (.inl hK)]; exact assignment_any lo W0 W cp mp B vn vl T (allL K T) L x h hC hL hB (by omega) hx (.inl hK)
    rw [hK] at d0
    subst evn
    clear HSF h hC hL hkd htd hed hown IH hk
    generalize stmtF (mustT (allL K T) T.vars.length T.nodes) T.vars T.nodes (f + 1) L (x : Int) (0, 0) = R at *
    go_enter Tryz.func167, Tryz.ntmps167
    go_wp2_with fail
    refine HA.out.mono ?_
    rintro e w2 ⟨rfl, hb⟩
    have HB : Hid _ := HDone.out w2 hb
    clear hb HA HDone
    go_wp2_with fail
    go_ret
    exact ⟨rfl, vl, HB.out⟩
  · have HA : Hid (Calls Tryz.prog 197 #[.pointer (some ⟨cp, 0, none⟩), .int .i64 (x : Int)] W fun e w' => e = .returned (errV (stmtF (mustT (allL K T) T.vars.length T.nodes) T.vars T.nodes (f + 1) L (x : Int) (0, 0))) ∧ Below W.heap.size W w') := by
      rw [asg_stmt hown (.inr hK)]; exact assignment_any lo W0 W cp mp B vn vl T (allL K T) L x h hC hL hB (by omega) hx (.inr hK)
    rw [hK] at d0
    subst evn
    clear HSF h hC hL hkd htd hed hown IH hk
    generalize stmtF (mustT (allL K T) T.vars.length T.nodes) T.vars T.nodes (f + 1) L (x : Int) (0, 0) = R at *
    go_enter Tryz.func167, Tryz.ntmps167
    go_wp2_with fail
    refine HA.out.mono ?_
    rintro e w2 ⟨rfl, hb⟩
    have HB : Hid _ := HDone.out w2 hb
    clear hb HA HDone
    go_wp2_with fail
    go_ret
    exact ⟨rfl, vl, HB.out⟩
  · have HA : Hid (∀ W', Below W.heap.size W W' → Calls Tryz.prog 198 #[.pointer (some ⟨cp, 0, none⟩), .agg #[.int .i64 9, .int .i64 (nodeOf T.nodes (x : Int)).op, .string (bs (nodeOf T.nodes (x : Int)).name), .int .i64 (nodeOf T.nodes (x : Int)).num, .int .i64 (nodeOf T.nodes (x : Int)).far, .slice ak (nodeOf T.nodes (x : Int)).kids.length ck, .slice at1 (nodeOf T.nodes (x : Int)).thn.length ct, .slice ae (nodeOf T.nodes (x : Int)).els.length ce]] W' fun e w' => e = .returned (errV (stmtF (mustT (allL K T) T.vars.length T.nodes) T.vars T.nodes (f + 1) L (x : Int) (0, 0))) ∧ ∃ vl', ICk W0 w' cp mp vn vl' ∧ LoopO w' B vl' L ∧ Duo cp vl vl' W' w') := fun W' hb => by
      have h9 := IH.1 hK
      have := choice_any lo W0 W' cp mp B f vn vl _ _ _ T (allL K T) L x h (hC.below hb) (rowE_kept hL hb) hB hx hK hkd htd hed h9.1 h9.2
      rw [HSF.out, if_neg (by omega), if_neg (by omega), if_pos hK]
      rwa [nodeV, hK] at this
    rw [hK] at d0
    subst evn
    clear HSF h hC hL hkd htd hed hown IH hk
    generalize stmtF (mustT (allL K T) T.vars.length T.nodes) T.vars T.nodes (f + 1) L (x : Int) (0, 0) = R at *
    generalize nodeOf T.nodes (x : Int) = n at *
    go_enter Tryz.func167, Tryz.ntmps167
    go_wp2_with fail
    refine (HA.out _ (Below.refl _ _)).mono ?_
    rintro e w2 ⟨rfl, vl', hh⟩
    have HB : Hid _ := hh
    clear hh HA HDone
    go_wp2_with fail
    go_ret
    exact ⟨rfl, vl', HB.out⟩
  · have HA : Hid (Calls Tryz.prog 199 #[.pointer (some ⟨cp, 0, none⟩), .int .i64 (x : Int)] W fun e w' => e = .returned (errV (stmtF (mustT (allL K T) T.vars.length T.nodes) T.vars T.nodes (f + 1) L (x : Int) (0, 0))) ∧ ∃ vl', ICk W0 w' cp mp vn vl' ∧ LoopO w' B vl' L ∧ Duo cp vl vl' W w') := by
      have := loop_any lo W0 W cp mp B f K vn vl T L x h hC hL hB hLl hx hK (IH.2 hK)
      rw [HSF.out, if_neg (by omega), if_neg (by omega), if_neg (by omega), if_pos hK]
      exact this
    rw [hK] at d0
    subst evn
    clear HSF h hC hL hkd htd hed hown IH hk
    generalize stmtF (mustT (allL K T) T.vars.length T.nodes) T.vars T.nodes (f + 1) L (x : Int) (0, 0) = R at *
    go_enter Tryz.func167, Tryz.ntmps167
    go_wp2_with fail
    refine HA.out.mono ?_
    rintro e w2 ⟨rfl, vl', hh⟩
    have HB : Hid _ := hh
    clear hh HA HDone
    go_wp2_with fail
    go_ret
    exact ⟨rfl, vl', HB.out⟩
  · have HA : Hid (Calls Tryz.prog 200 #[.pointer (some ⟨cp, 0, none⟩), .int .i64 (x : Int)] W fun e w' => e = .returned (errV (stmtF (mustT (allL K T) T.vars.length T.nodes) T.vars T.nodes (f + 1) L (x : Int) (0, 0))) ∧ Below W.heap.size W w') := by
      have := call_any lo W0 W cp mp B vn vl T (allL K T) L x h hC hL (by omega) hx hK
      rw [HSF.out, if_neg (by omega), if_neg (by omega), if_neg (by omega), if_neg (by omega), if_pos hK]
      exact this
    rw [hK] at d0
    subst evn
    clear HSF h hC hL hkd htd hed hown IH hk
    generalize stmtF (mustT (allL K T) T.vars.length T.nodes) T.vars T.nodes (f + 1) L (x : Int) (0, 0) = R at *
    go_enter Tryz.func167, Tryz.ntmps167
    go_wp2_with fail
    refine HA.out.mono ?_
    rintro e w2 ⟨rfl, hb⟩
    have HB : Hid _ := HDone.out w2 hb
    clear hb HA HDone
    go_wp2_with fail
    go_ret
    exact ⟨rfl, vl, HB.out⟩

set_option maxHeartbeats 12800000 in
set_option maxRecDepth 100000 in
theorem statements_step (lo : Nat) (W0 : World) (cp mp B f : Nat) (K : Int) (vn : Value) (T : LTree) (L : List (List UInt8)) (list : List Int) (hL999 : L.length ≤ 999) (hll : list.length ≤ 1048576) (hlow : W0.heap.size ≤ cp)
    (HS : ∀ (X : Nat) (W : World) (vl : Value), (X : Int) ∈ list → ICk W0 W cp mp vn vl → LoopO W B vl L → Calls Tryz.prog 167 #[.pointer (some ⟨cp, 0, none⟩), .int .i64 (X : Int)] W fun e w' => e = .returned (errV (stmtF (mustT (allL K T) T.vars.length T.nodes) T.vars T.nodes f L (X : Int) (0, 0))) ∧ ∃ vl', ICk W0 w' cp mp vn vl' ∧ LoopO w' B vl' L ∧ Duo cp vl vl' W w')
    (hs : ∀ x ∈ list, 0 ≤ x) : IListC lo W0 cp mp B vn T (allL K T) f L list := by
  intro W vk vl hC hL hV
  obtain ⟨aV, cV, evV, _⟩ := id hV
  subst evV
  have HV : Hid (IntsV lo W0 (.slice aV list.length cV) list) := hV
  have HSS : Hid (∀ (X : Nat) (W : World) (vl : Value), (X : Int) ∈ list → ICk W0 W cp mp vn vl → LoopO W B vl L → Calls Tryz.prog 167 #[.pointer (some ⟨cp, 0, none⟩), .int .i64 (X : Int)] W fun e w' => e = .returned (errV (stmtF (mustT (allL K T) T.vars.length T.nodes) T.vars T.nodes f L (X : Int) (0, 0))) ∧ ∃ vl', ICk W0 w' cp mp vn vl' ∧ LoopO w' B vl' L ∧ Duo cp vl vl' W w') := HS
  have HNN : Hid (∀ x ∈ list, 0 ≤ x) := hs
  obtain ⟨R, hR⟩ : ∃ R, R = goL (stmtF (mustT (allL K T) T.vars.length T.nodes) T.vars T.nodes f L) list (0, 0) := ⟨_, rfl⟩
  rw [← hR]
  have HR : Hid (R = goL (stmtF (mustT (allL K T) T.vars.length T.nodes) T.vars T.nodes f L) (list.drop 0) (0, 0)) := hR
  have HST : Hid (ICk W0 W cp mp vn vl ∧ LoopO W B vl L ∧ Duo cp vl vl W W) := ⟨hC, hL, Duo.refl _ _ _⟩
  clear hC hL hV HS hR hs
  go_enter Tryz.func114, Tryz.ntmps114
  go_wp2_with fail
  go_loopw [10] (fun i wr => ∃ (k : Nat) (vl' : Value), k ≤ list.length ∧ i = .int .i64 k ∧ Hid (R = goL (stmtF (mustT (allL K T) T.vars.length T.nodes) T.vars T.nodes f L) (list.drop k) (0, 0)) ∧ Hid (ICk W0 wr cp mp vn vl' ∧ LoopO wr B vl' L ∧ Duo cp vl vl' W wr)) (fun i _ => list.length - (intOf i).toNat)
  case atStart => exact ⟨0, vl, Nat.zero_le _, rfl, HR, HST⟩
  case round =>
    clear HR HST
    obtain ⟨k, vl', hkl, rfl, HR, HST⟩ := hrel
    by_cases hlt : k < list.length
    · obtain ⟨x, hx⟩ : ∃ x, list[k]? = some x := ⟨_, List.getElem?_eq_getElem hlt⟩
      have hxm := List.mem_of_getElem? hx
      obtain ⟨X, rfl⟩ := Int.eq_ofNat_of_zero_le (HNN.out x hxm)
      have HSX := HSS.out X wr vl' hxm HST.out.1 HST.out.2.1
      have HO : Hid (Orz (stmtF (mustT (allL K T) T.vars.length T.nodes) T.vars T.nodes f L (X : Int) (0, 0))) := stmt_orz (fun _ _ _ h => must_orz h) f L (X : Int) (0, 0) (.inl rfl)
      have HR1 : Hid (R = goL (stmtF (mustT (allL K T) T.vars.length T.nodes) T.vars T.nodes f L) (list.drop (k + 1)) (stmtF (mustT (allL K T) T.vars.length T.nodes) T.vars T.nodes f L (X : Int) (0, 0))) := by unfold Hid; rw [HR.out]; exact goL_step hx
      obtain ⟨bV, oV, eaV, hcV⟩ : ∃ b o, aV = some ⟨b, o, none⟩ ∧ wr.cell? ⟨b, o + k, none⟩ = some (.int .i64 (X : Int)) := by
        obtain ⟨_, _, e, _, h⟩ := HV.out.below HST.out.1.bel
        injection e with e1 e2 e3
        subst e1
        obtain ⟨b, o, e, _, hc⟩ := h (by intro e; rw [e] at hlt; simp at hlt)
        exact ⟨b, o, e, hc k _ hx⟩
      subst eaV
      have hk0 : (0 : Int) ≤ (k : Int) := by omega
      have hk1 : (k : Int) < (list.length : Int) := by omega
      clear HR hx hxm HSS HV HNN
      obtain ⟨m, hm⟩ : ∃ m, m = stmtF (mustT (allL K T) T.vars.length T.nodes) T.vars T.nodes f L (X : Int) (0, 0) := ⟨_, rfl⟩
      rw [← hm] at HSX HO HR1
      clear hm
      have HSC : Hid (Calls Tryz.prog 167 #[.pointer (some ⟨cp, 0, none⟩), .int .i64 (X : Int)] wr fun e w' => e = .returned (errV m) ∧ ∃ vl'', ICk W0 w' cp mp vn vl'' ∧ LoopO w' B vl'' L ∧ Duo cp vl' vl'' wr w') := HSX
      clear HSX
      obtain ⟨m1, m2⟩ := m
      by_cases hz : m1 = 0
      · subst hz
        have hm0 : ((0 : Int), m2) = (0, 0) := (HO.out).resolve_right (fun h => h rfl)
        rw [hm0] at HR1
        rw [errV_zero rfl] at HSC
        clear HO hm0
        go_wp2_with fail
        refine HSC.out.mono ?_
        rintro e w3 ⟨rfl, vl3, hc3, hl3, hd3⟩
        have HC3 : Hid (ICk W0 w3 cp mp vn vl3 ∧ LoopO w3 B vl3 L ∧ Duo cp vl vl3 W w3) := ⟨hc3, hl3, HST.out.2.2.trans hd3⟩
        clear hc3 hl3 hd3 HST HSC hcV
        go_wp2_with fail
        go_roundw
        case rel => exact ⟨k + 1, vl3, by omega, by go_num, HR1, HC3⟩
        case measure => simp [intOf]; omega
      · have HRE : Hid (errV R = .iface 89 (.agg #[.int .i64 m1, .int .i64 m2])) := by unfold Hid; rw [HR1.out, goL_met (show ((m1, m2) : Met).1 ≠ 0 from hz), errV_met hz]
        rw [errV_met hz] at HSC
        clear HO hz HR1
        go_wp2_with fail
        refine HSC.out.mono ?_
        rintro e w3 ⟨rfl, vl3, hc3, hl3, hd3⟩
        have HC3 : Hid (ICk W0 w3 cp mp vn vl3 ∧ LoopO w3 B vl3 L ∧ Duo cp vl vl3 W w3) := ⟨hc3, hl3, HST.out.2.2.trans hd3⟩
        clear hc3 hl3 hd3 HST HSC hcV
        go_wp2_with fail
        go_ret
        exact ⟨by rw [HRE.out]; rfl, vl3, HC3.out⟩
    · have hke : k = list.length := by omega
      have HRE : Hid (errV R = .nilIface) := by unfold Hid; rw [HR.out, hke, List.drop_length]; rfl
      clear HR HSS HV HNN hke
      go_wp2_with fail
      go_ret
      exact ⟨by rw [HRE.out]; rfl, vl', HST.out⟩

theorem statements_all (lo : Nat) (W0 : World) (cp mp B : Nat) (K : Int) (vn : Value) (T : LTree) (h : CkT lo W0 cp mp vn T (allL K T)) (hB : B = cp + 1) :
    ∀ (f : Nat), f ≤ T.nodes.length → ∀ (L : List (List UInt8)) (list : List Int), L.length + f ≤ 999 → list.length ≤ 1048576 → (∀ x ∈ list, (0 ≤ x ∧ x < (f : Int)) ∧ (7 ≤ (nodeOf T.nodes x).kind ∧ (nodeOf T.nodes x).kind ≤ 11)) → IListC lo W0 cp mp B vn T (allL K T) f L list := by
  intro f
  induction f with
  | zero =>
    intro _ L list hLf hll hs
    exact statements_step lo W0 cp mp B 0 K vn T L list (by omega) hll h.b.low (fun X W vl hX hC hL => by have := (hs _ hX).1; omega) (fun x hx => (hs x hx).1.1)
  | succ f ih =>
    intro hf L list hLf hll hs
    refine statements_step lo W0 cp mp B (f + 1) K vn T L list (by omega) hll h.b.low (fun X W vl hX hC hL => ?_) (fun x hx => (hs x hx).1.1)
    have h1 := (hs _ hX).1
    have hj : X < T.nodes.length := by omega
    have hg := h.b.good.node X _ (node_get hj)
    have hk := h.stk X _ (node_get hj)
    have hsz := h.small.node _ (List.mem_of_getElem? (node_get hj))
    exact statement_any lo W0 W cp mp B f K vn vl T L X h hC hL hB (by omega) hj (hs _ hX).2
      ⟨fun _ => ⟨ih (by omega) L _ (by omega) hsz.2.2.1 (fun y hy => ⟨⟨(hg.2.2.1 y hy).1, by have := (hg.2.2.1 y hy).2; omega⟩, hk.1 y hy⟩), ih (by omega) L _ (by omega) hsz.2.2.2 (fun y hy => ⟨⟨(hg.2.2.2 y hy).1, by have := (hg.2.2.2 y hy).2; omega⟩, hk.2 y hy⟩)⟩,
       fun _ => ih (by omega) _ _ (by simp; omega) hsz.2.2.1 (fun y hy => ⟨⟨(hg.2.2.1 y hy).1, by have := (hg.2.2.1 y hy).2; omega⟩, hk.1 y hy⟩)⟩
end Go.Proofs.YtdnhmpemkpjcaaaGreatDoor
namespace Go.Proofs.YtdnhmpemkpjcaaaGreatDoor
open Go.RowKit
set_option linter.unusedVariables false
attribute [local go_sem] bs_size bs_get bs_extract bs_append bs_eq bs_toList

set_option maxHeartbeats 6400000 in
set_option maxRecDepth 100000 in
theorem newChecker_ctx (lo : Nat) (vv vn vb : Value) (T : LTree) (w : World) (h : TreeV lo w vv vn vb T) (hG : Good T) :
    Calls Tryz.prog 72 #[.agg #[vv, vn, vb]] w fun e w' => (∃ cp mp W0, e = .returned (.pointer (some ⟨cp, 0, none⟩)) ∧ CkB lo W0 cp mp vn T (allL 0 T) ∧ ICk W0 w' cp mp vn (.slice none 0 0) ∧ Below w.heap.size w W0) ∧ Below w.heap.size w w' := by
  obtain ⟨av, cv, rfl, _⟩ := id h.vars
  obtain ⟨an, cn, rfl, _⟩ := id h.nodes
  obtain ⟨ab, cb, rfl, _⟩ := id h.body
  have HD : Hid (∀ (w' : World), Below w.heap.size w w' → Calls Tryz.prog 51 #[.agg #[.slice av T.vars.length cv, .slice an T.nodes.length cn, .slice ab T.body.length cb]] w' fun e w2 => (∃ ad cp, e = .returned (.slice ad (allL 0 T).length cp) ∧ RowE w2 ad (allL 0 T) T.vars.length) ∧ Below w'.heap.size w' w2) := fun w' hb =>
    (variablesOf_any lo _ _ _ T w' (h.below hb) hG).mono (fun e w2 hh => by
      obtain ⟨v, rfl, hown, hb⟩ := hh
      obtain ⟨ad, cp, rfl⟩ := rowE_shape hown
      exact ⟨⟨ad, cp, rfl, RowE.of_own hown rfl⟩, hb⟩)
  have HBN : Hid (∀ (ad : Option Addr) (c : Nat) (w : World), RowE w ad (allL 0 T) T.vars.length → Calls Tryz.prog 58 #[.slice ad (allL 0 T).length c] w fun e w' => e = .returned (.map (some w.heap.size)) ∧ NamesAt w' w.heap.size (allL 0 T) T.vars.length ∧ Below w.heap.size w w') := fun ad c w h1 =>
    byName_any (allL 0 T) T.vars.length ad (allL 0 T).length c w rfl h1 (hG.all_len 0) (fun x hx => by have := all_names hG 0 x hx; omega)
  have HNO : Hid (∀ w', Below w.heap.size w w' → NodesV lo w' (.slice an T.nodes.length cn) T.nodes) := fun w' hb => (h.below hb).nodes
  have HGG : Hid (Good T ∧ (allL 0 T).length ≤ 624) := ⟨hG, hG.all_len 0⟩
  clear h hG
  generalize (allL 0 T).length = L at *
  go_enter Tryz.func72, Tryz.ntmps72
  go_wp2_with fail
  have hb1 : Below w.heap.size w (w.alloc (.cells #[.slice av T.vars.length cv, .slice an T.nodes.length cn, .slice ab T.body.length cb] 28)) := (Below.refl _ _).alloc (Nat.le_refl _) _
  have hA := heap_alloc_new w (.cells #[.slice av T.vars.length cv, .slice an T.nodes.length cn, .slice ab T.body.length cb] 28)
  generalize hW : w.alloc (.cells #[.slice av T.vars.length cv, .slice an T.nodes.length cn, .slice ab T.body.length cb] 28) = W1 at *
  clear hW
  have p0 := cell_of_row _ _ 0 _ _ _ hA
  have p1 := cell_of_row _ _ 1 _ _ _ hA
  have p2 := cell_of_row _ _ 2 _ _ _ hA
  simp at p0 p1 p2
  have hlt := blk_lt hA
  have HB1 : Hid (Below w.heap.size w W1.drew) := hb1.drew
  clear hA hb1
  go_region_held3 (fun Z => Z.cell? ⟨w.heap.size, 0, none⟩ = some (.slice av T.vars.length cv) ∧ Z.cell? ⟨w.heap.size, 1, none⟩ = some (.slice an T.nodes.length cn) ∧ Z.cell? ⟨w.heap.size, 2, none⟩ = some (.slice ab T.body.length cb)) (go_keep) (first | (go_at_call 51; refine (HD.out _ HB1.out).mono ?_; rintro e w2 ⟨⟨ad, cp, rfl, hrow⟩, hb⟩; have s0 := (hb.cell (p := ⟨w.heap.size, 0, none⟩) hlt).trans p0; have s1 := (hb.cell (p := ⟨w.heap.size, 1, none⟩) hlt).trans p1; have s2 := (hb.cell (p := ⟨w.heap.size, 2, none⟩) hlt).trans p2; have HRW : Hid (RowE w2 ad (allL 0 T) T.vars.length) := hrow; have HB2 : Hid (Below w.heap.size w w2) := HB1.out.trans (hb.mono HB1.out.size); have hl2 : w.heap.size < w2.heap.size := Nat.lt_of_lt_of_le hlt hb.size; clear hb hrow) | (go_at_call 58; refine (HBN.out _ _ _ HRW.out).mono ?_; rintro e w3 ⟨rfl, hmap, hb⟩; have u0 := (hb.cell (p := ⟨w.heap.size, 0, none⟩) hl2).trans s0; have u1 := (hb.cell (p := ⟨w.heap.size, 1, none⟩) hl2).trans s1; have u2 := (hb.cell (p := ⟨w.heap.size, 2, none⟩) hl2).trans s2; have HMAP : Hid (NamesAt w3 w2.heap.size (allL 0 T) T.vars.length) := hmap; have HB3 : Hid (Below w.heap.size w w3) := HB2.out.trans (hb.mono HB2.out.size); clear hb hmap))
  have HB4 : Hid (Below w.heap.size w (w3.alloc (.cells #[.slice an T.nodes.length cn, .map (some w2.heap.size), .slice none 0 0] 184))) := HB3.out.alloc HB3.out.size _
  have HCK : Hid (CkB lo w3 w3.heap.size w2.heap.size (.slice an T.nodes.length cn) T (allL 0 T) ∧ ICk w3 (w3.alloc (.cells #[.slice an T.nodes.length cn, .map (some w2.heap.size), .slice none 0 0] 184)) w3.heap.size w2.heap.size (.slice an T.nodes.length cn) (.slice none 0 0) ∧ Below w.heap.size w w3) := ⟨⟨HNO.out _ HB3.out, HMAP.out, HGG.out.1, HGG.out.1.all_len 0, Nat.le_refl _⟩, ⟨(Below.refl _ _).alloc (Nat.le_refl _) _, heap_alloc_new w3 _⟩, HB3.out⟩
  clear u0 u1 u2 s0 s1 s2 p0 p1 p2 HD HBN HNO HGG HMAP HRW HB1 HB2 HB3
  go_wp2
  go_ret
  exact ⟨⟨_, _, w3, rfl, HCK.out⟩, HB4.out⟩
end Go.Proofs.YtdnhmpemkpjcaaaGreatDoor
namespace Go.Proofs.YtdnhmpemkpjcaaaGreatDoor
open Go.RowKit
set_option linter.unusedVariables false
attribute [local go_sem] bs_size bs_get bs_extract bs_append bs_eq bs_toList

set_option maxHeartbeats 3200000 in
set_option maxRecDepth 100000 in
theorem sumAt_any (cs l : List Int) (a : Option Addr) (k c hi : Nat) (v : Value) (w : World) (hk : cs.length = k) (hk1 : k ≤ 1048576) (hN : Nums w a cs) (hv : IntsB hi w v l) (hin : ∀ x ∈ l, 0 ≤ x ∧ x < (k : Int)) (hb : Betw 100000 cs) (hl : l.length ≤ 1048576) :
    Calls Tryz.prog 115 #[.slice a k c, v] w fun e w' => e = .returned (.int .i64 (sumAtL cs l)) ∧ w' = w := by
  obtain ⟨al, cp, rfl, hh⟩ := hv
  have HH : Hid (l ≠ [] → ∃ b o, al = some ⟨b, o, none⟩ ∧ b < hi ∧ ∀ (i : Nat) (x : Int), l[i]? = some x → w.cell? ⟨b, o + i, none⟩ = some (.int .i64 x)) := hh
  have HN : Hid (Nums w a cs) := hN
  have HI : Hid (∀ x ∈ l, 0 ≤ x ∧ x < (k : Int)) := hin
  have HB : Hid (Betw 100000 cs) := hb
  clear hh hN hin hb
  go_enter Tryz.func115, Tryz.ntmps115
  go_wp2
  go_loopw [5, 10] (fun d i wr => ∃ j : Nat, j ≤ l.length ∧ i = .int .i64 j ∧ d = .int .i64 (sumAtL cs (l.take j)) ∧ SameW wr w) (fun d i _ => l.length - (intOf i).toNat)
  case atStart => exact ⟨0, by omega, rfl, rfl, rfl⟩
  case round =>
    obtain ⟨j, hj, rfl, rfl, hw⟩ := hrel
    have HW : Hid (SameW wr w) := hw
    by_cases hlt : j < l.length
    · obtain ⟨x, hx⟩ : ∃ x, l[j]? = some x := ⟨l[j], List.getElem?_eq_getElem hlt⟩
      obtain ⟨b, o, rfl, _, hc1⟩ := HH.out (by intro e; rw [e] at hlt; simp at hlt)
      have c0 : wr.cell? ⟨b, o + j, none⟩ = _ := (congrArg (fun W => World.cell? W ⟨b, o + j, none⟩) hw).trans (hc1 j x hx)
      have HD : Hid (sumAtL cs (l.take (j + 1)) = sumAtL cs (l.take j) + cs.getD x.toNat 0) := sumAt_take hx
      have hx2 := HI.out x (List.mem_of_getElem? hx)
      obtain ⟨p, rfl⟩ : ∃ p : Nat, x = p := ⟨x.toNat, by omega⟩
      have hpk : p < k := by omega
      rcases HN.out with hz | ⟨g3, o3, rfl, hc3⟩
      · rw [hz] at hk; simp at hk; omega
      have c3 : wr.cell? ⟨g3, o3 + p, none⟩ = _ := (congrArg (fun W => World.cell? W ⟨g3, o3 + p, none⟩) hw).trans (hc3 p (by omega))
      have hz2 := HB.out p
      have hs := sum_big HB.out (l := l.take j) (by rw [List.length_take]; omega)
      change Hid (sumAtL cs (l.take (j + 1)) = sumAtL cs (l.take j) + cs.getD p 0) at HD
      generalize sumAtL cs (l.take j) = s at *
      generalize cs.getD p 0 = z at *
      have hp0 : (0 : Int) ≤ (p : Int) := by omega
      have hp1 : (p : Int) < (k : Int) := by omega
      clear hx hc1 hw hx2 hc3
      go_wp2_with fail
      go_roundw
      case rel => exact ⟨j + 1, by omega, by go_num, by rw [HD.out], HW.out⟩
      case measure => simp [intOf]; omega
    · have hje : j = l.length := by omega
      have e : sumAtL cs (l.take j) = sumAtL cs l := by rw [hje, List.take_length]
      rw [e]
      clear hje e
      go_wp2
      go_ret
      exact ⟨rfl, hw⟩

end Go.Proofs.YtdnhmpemkpjcaaaGreatDoor
namespace Go.Proofs.YtdnhmpemkpjcaaaGreatDoor
open Go.RowKit
set_option linter.unusedVariables false
attribute [local go_sem] bs_size bs_get bs_extract bs_append bs_eq bs_toList

theorem max2 (x y : Int) (W : World) : (Builtin.max_ #[2, 2] 2 #[.int .i64 x, .int .i64 y]).run Tryz.prog W = .ok (.int .i64 (max x y)) W := by
  have e1 : (if y > x then y else x) = max x y := by split <;> omega
  show (([Value.int .i64 y].foldlM Builtin.max2 (.int .i64 x) : Sem Value)).run Tryz.prog W = _
  simp only [List.foldlM_cons, List.foldlM_nil, Builtin.max2, Sem.run_bind, Sem.run_pure, Result.andThen_ok, e1]

set_option maxHeartbeats 6400000 in
set_option maxRecDepth 100000 in
theorem costs_any (lo : Nat) (a2 : Option Addr) (c2 : Nat) (N : List LNode) (w : World) (h : NodesV lo w (.slice a2 N.length c2) N) (hn : N.length ≤ 200) (hT : ∀ n ∈ N, Tame n)
    (hG : ∀ (k : Nat) (n : LNode), N[k]? = some n → (∀ x ∈ n.kids, 0 ≤ x ∧ x < (k : Int)) ∧ (∀ x ∈ n.thn, 0 ≤ x ∧ x < (k : Int)) ∧ (∀ x ∈ n.els, 0 ≤ x ∧ x < (k : Int))) :
    Calls Tryz.prog 116 #[.slice a2 N.length c2] w fun e w' => e = .returned (.slice (some ⟨w.heap.size, 0, none⟩) N.length N.length) ∧ Cnt w' w.heap.size 2 (costsF N N.length) ∧ Below w.heap.size w w' := by
  obtain ⟨i0, hi, hz0, hz1, hz2⟩ := info_parts infoInt
  have hmax : N.length ≤ maxLen := by unfold maxLen; omega
  obtain ⟨_, _, he, _, hhn⟩ := id h
  cases he
  have HN : Hid (N ≠ [] → ∃ b o, a2 = some ⟨b, o, none⟩ ∧ lo ≤ b ∧ ∀ (i : Nat) (x : LNode), N[i]? = some x → NodeAt lo w b (o + i * 8) x) := hhn
  have HS : Hid (∀ n ∈ N, Tame n) := hT
  have HGG : Hid (∀ (k : Nat) (n : LNode), N[k]? = some n → (∀ x ∈ n.kids, 0 ≤ x ∧ x < (k : Int)) ∧ (∀ x ∈ n.thn, 0 ≤ x ∧ x < (k : Int)) ∧ (∀ x ∈ n.els, 0 ≤ x ∧ x < (k : Int))) := hG
  have HLE : Hid (∀ k : Nat, k ≤ N.length → Betw 100000 (costsF N k)) := costsF_le N hT
  clear h hhn hT hG
  go_enter Tryz.func116, Tryz.ntmps116
  go_wp2_with (at_make; refine wpList_make_full _ rfl (.tmp 9) (.tmp 9) 26 rfl w.heap.size 2 i0 (.int .i64 0) 1 Tryz.underlying26 hi hz0 hz1 .i64 .i64 N.length N.length N.length rfl rfl rfl rfl ?_ hmax (Nat.le_refl _) ?_)
  · rw [hz2]; omega
  intro w1 hown hgrow
  have HB : Hid (Below w.heap.size w w1) := (Below.refl _ _).grown hgrow (Nat.le_refl _) (fun k hk => by cases hk)
  have HC : Hid (Cnt w1 w.heap.size 2 (List.replicate N.length 0)) := cnt_of_own64 (by rw [toList_madeCells_one] at hown; simpa using hown)
  have hg : w.heap.size < w1.heap.size := (Array.getElem?_eq_some_iff.1 HC.out).1
  clear hgrow hown
  generalize hge : w.heap.size = g at *
  go_wp2
  go_loopw [13] (fun i wr => ∃ k : Nat, k ≤ N.length ∧ i = .int .i64 k ∧ Cnt wr g 2 (costsF N k ++ List.replicate (N.length - k) 0) ∧ But g w1 wr) (fun i _ => N.length - (intOf i).toNat)
  case atStart => exact ⟨0, by omega, rfl, HC.out, But.refl _ _⟩
  case round =>
    obtain ⟨k, hk, rfl, hcnt, hbut⟩ := hrel
    have HCN : Hid (Cnt wr g 2 (costsF N k ++ List.replicate (N.length - k) 0)) := hcnt
    have HBT : Hid (But g w1 wr) := hbut
    by_cases hlt : k < N.length
    · obtain ⟨y, hy⟩ : ∃ y, N[k]? = some y := ⟨N[k], List.getElem?_eq_getElem hlt⟩
      obtain ⟨b, o, rfl, _, hc2⟩ := HN.out (by intro e; rw [e] at hlt; simp at hlt)
      obtain ⟨vk, vt, ve, hcs, hvs⟩ := hc2 k y hy
      have hbw : b < w.heap.size := World.block_lt_of_cell? _ _ hcs.c0
      have hkp : ∀ q, q < w.heap.size → wr.heap[q]? = w.heap[q]? := fun q hq => (hbut.rest q (by omega) (by omega)).trans (HB.out.block q (by omega))
      obtain ⟨d0, d1, d2, d3, d4, d5, d6, d7⟩ := hcs.keep (lo := 0) (w' := wr) (fun q _ hq => hkp q hq) (Nat.zero_le _)
      have HK : Hid (IntsB w.heap.size w vk y.kids) := hvs.kids.toB
      have HT : Hid (IntsB w.heap.size w vt y.thn) := hvs.thn.toB
      have HE : Hid (IntsB w.heap.size w ve y.els) := hvs.els.toB
      have HKP : Hid (∀ q, q < w.heap.size → wr.heap[q]? = w.heap[q]?) := hkp
      obtain ⟨ak, ck, rfl, _⟩ := id hvs.kids
      obtain ⟨at2, ct, rfl, _⟩ := id hvs.thn
      obtain ⟨ae, ce, rfl, _⟩ := id hvs.els
      have HY : Hid (N[k]? = some y) := hy
      have hgr : g < wr.heap.size := Nat.lt_of_lt_of_le hg hbut.below.size
      have HTY : Hid (Tame y) := HS.out y (List.mem_of_getElem? hy)
      have HGY : Hid ((∀ x ∈ y.kids, 0 ≤ x ∧ x < (k : Int)) ∧ (∀ x ∈ y.thn, 0 ≤ x ∧ x < (k : Int)) ∧ (∀ x ∈ y.els, 0 ≤ x ∧ x < (k : Int))) := HGG.out k y hy
      clear hy hc2 hcs hvs hkp hcnt hbut
      go_wp2_with fail
      have hA := heap_alloc_new wr (.cells #[.int .i64 y.kind, .int .i64 y.op, .string (bs y.name), .int .i64 y.num, .int .i64 y.far, .slice ak y.kids.length ck, .slice at2 y.thn.length ct, .slice ae y.els.length ce] 111)
      have hB5 : But g wr (wr.alloc (.cells #[.int .i64 y.kind, .int .i64 y.op, .string (bs y.name), .int .i64 y.num, .int .i64 y.far, .slice ak y.kids.length ck, .slice at2 y.thn.length ct, .slice ae y.els.length ce] 111)) := (But.refl g wr).alloc (by omega) _
      have hC5 := HCN.out.alloc (.cells #[.int .i64 y.kind, .int .i64 y.op, .string (bs y.name), .int .i64 y.num, .int .i64 y.far, .slice ak y.kids.length ck, .slice at2 y.thn.length ct, .slice ae y.els.length ce] 111)
      generalize wr.alloc (.cells #[.int .i64 y.kind, .int .i64 y.op, .string (bs y.name), .int .i64 y.num, .int .i64 y.far, .slice ak y.kids.length ck, .slice at2 y.thn.length ct, .slice ae y.els.length ce] 111) = W5 at *
      have e0 : W5.cell? ⟨wr.heap.size, 0, none⟩ = some (.int .i64 y.kind) := cell_of_row _ _ 0 _ _ _ hA
      have e3 : W5.cell? ⟨wr.heap.size, 3, none⟩ = some (.int .i64 y.num) := cell_of_row _ _ 3 _ _ _ hA
      have e4 : W5.cell? ⟨wr.heap.size, 4, none⟩ = some (.int .i64 y.far) := cell_of_row _ _ 4 _ _ _ hA
      have e5 : W5.cell? ⟨wr.heap.size, 5, none⟩ = some (.slice ak y.kids.length ck) := cell_of_row _ _ 5 _ _ _ hA
      have e6 : W5.cell? ⟨wr.heap.size, 6, none⟩ = some (.slice at2 y.thn.length ct) := cell_of_row _ _ 6 _ _ _ hA
      have e7 : W5.cell? ⟨wr.heap.size, 7, none⟩ = some (.slice ae y.els.length ce) := cell_of_row _ _ 7 _ _ _ hA
      have hkp5 : ∀ q, q < w.heap.size → W5.heap[q]? = w.heap[q]? := fun q hq => (hB5.rest q (by omega) (by omega)).trans (HKP.out q hq)
      have HC5 : Hid (Cnt W5 g 2 (costsF N k ++ List.replicate (N.length - k) 0)) := hC5
      have HB5 : Hid (But g wr W5) := hB5
      have hbw2 := HLE.out k (by omega)
      have hll : (costsF N k ++ List.replicate (N.length - k) 0).length = N.length := by rw [List.length_append, costsF_len, List.length_replicate]; omega
      have hcall : ∀ (v : Value) (l : List Int), IntsB w.heap.size w v l → (∀ x ∈ l, 0 ≤ x ∧ x < (k : Int)) → l.length ≤ 1048576 → ∀ W, W.heap = W5.heap → Calls Tryz.prog 115 #[.slice (some ⟨g, 0, none⟩) N.length N.length, v] W fun e w' => e = .returned (.int .i64 (sumAtL (costsF N k) l)) ∧ w' = W := fun v l hv hx hl W hW => by
        have := sumAt_any (costsF N k ++ List.replicate (N.length - k) 0) l (some ⟨g, 0, none⟩) N.length N.length w.heap.size v W hll (by omega) (.inr ⟨g, 0, rfl, fun i hi => by
          rw [Nat.zero_add, ← (hC5.cell i hi).1]; exact World.cell?_of_block (a := ⟨g, i, none⟩) (by rw [hW])⟩) (hv.keep (fun q hq => by rw [hW]; exact hkp5 q hq) (Nat.le_refl _)) (fun x hx' => by have := hx x hx'; omega) (hbw2.zeros _) hl
        rw [sumAt_zeros] at this
        exact this
      have H1 : Hid (∀ W, W.heap = W5.heap → Calls Tryz.prog 115 #[.slice (some ⟨g, 0, none⟩) N.length N.length, .slice ak y.kids.length ck] W fun e w' => e = .returned (.int .i64 (sumAtL (costsF N k) y.kids)) ∧ w' = W) := hcall _ _ HK.out HGY.out.1 HTY.out.kids
      have H2 : Hid (∀ W, W.heap = W5.heap → Calls Tryz.prog 115 #[.slice (some ⟨g, 0, none⟩) N.length N.length, .slice at2 y.thn.length ct] W fun e w' => e = .returned (.int .i64 (sumAtL (costsF N k) y.thn)) ∧ w' = W) := hcall _ _ HT.out HGY.out.2.1 HTY.out.thn
      have H3 : Hid (∀ W, W.heap = W5.heap → Calls Tryz.prog 115 #[.slice (some ⟨g, 0, none⟩) N.length N.length, .slice ae y.els.length ce] W fun e w' => e = .returned (.int .i64 (sumAtL (costsF N k) y.els)) ∧ w' = W) := hcall _ _ HE.out HGY.out.2.2 HTY.out.els
      have hs1 := sum_big hbw2 HTY.out.kids
      have hs2 := sum_big hbw2 HTY.out.thn
      have hs3 := sum_big hbw2 HTY.out.els
      have hrd := rounds_le HTY.out
      have hnm := HTY.out.num
      have hfr := HTY.out.far
      have hmul := mul_le_of hrd.1 hrd.2 (b := 3 + sumAtL (costsF N k) y.thn) (by omega) (Int.add_le_add_left hs2.2 3)
      have HPUT : Hid ((costsF N k ++ List.replicate (N.length - k) 0).set k (costN (costsF N k) y) = costsF N (k + 1) ++ List.replicate (N.length - (k + 1)) 0) := by
        have := costs_put N k N.length hlt
        rw [List.getD_eq_getElem?_getD, HY.out] at this
        exact this
      have C9 : Hid (y.kind = 9 → costN (costsF N k) y = min 100000 (1 + sumAtL (costsF N k) y.kids + max (sumAtL (costsF N k) y.thn) (sumAtL (costsF N k) y.els))) := fun h => by unfold costN; rw [if_pos h]
      have C10 : Hid (y.kind = 10 → costN (costsF N k) y = min 100000 (1 + sumAtL (costsF N k) y.kids + 2 + max 0 (y.far - y.num + 1) * (3 + sumAtL (costsF N k) y.thn))) := fun h => by unfold costN; rw [if_neg (by omega), if_pos h]
      have C11 : Hid (y.kind = 11 → costN (costsF N k) y = min 100000 (1 + sumAtL (costsF N k) y.kids + 12)) := fun h => by unfold costN; rw [if_neg (by omega), if_neg (by omega), if_pos h]
      have C0 : Hid (y.kind ≠ 9 → y.kind ≠ 10 → y.kind ≠ 11 → costN (costsF N k) y = min 100000 (1 + sumAtL (costsF N k) y.kids)) := fun h1 h2 h3 => by unfold costN; rw [if_neg h1, if_neg h2, if_neg h3]
      generalize sumAtL (costsF N k) y.kids = s1 at *
      generalize sumAtL (costsF N k) y.thn = s2 at *
      generalize sumAtL (costsF N k) y.els = s3 at *
      generalize Value.slice ak y.kids.length ck = v1 at *
      generalize Value.slice at2 y.thn.length ct = v2 at *
      generalize Value.slice ae y.els.length ce = v3 at *
      clear hA hcall hC5 hB5 hbw2 hkp5 d0 d1 d2 d3 d4 d5 d6 d7 HK HT HE HKP
      refine (H1.out _ rfl).mono ?_
      rintro e w2 ⟨rfl, rfl⟩
      have hc0 := (HC5.out.cell k (by omega)).1
      have hf0 := (HC5.out.cell k (by omega)).2
      have hmx := max2 s2 s3
      by_cases k9 : y.kind = 9
      · have HCE : Hid (costN (costsF N k) y = min 100000 (1 + s1 + max s2 s3)) := C9.out k9
        have hw9 : IntKind.i64.wrap (1 + s1 + max s2 s3) = 1 + s1 + max s2 s3 := IntWalk.i64_in _ (by omega)
        go_wp2_with fail
        go_region_held3 (fun W => W.cell? ⟨wr.heap.size, 6, none⟩ = some v2 ∧ W.cell? ⟨wr.heap.size, 7, none⟩ = some v3) (go_keep) (first | (go_at_call 115; (with_reducible show Calls _ _ #[_, v2] _ _); refine (H2.out _ (by rfl)).mono ?_; rintro e w3 ⟨rfl, rfl⟩) | (go_at_call 115; (with_reducible show Calls _ _ #[_, v3] _ _); refine (H3.out _ (by rfl)).mono ?_; rintro e w3 ⟨rfl, rfl⟩))
        have hcd : Hid (Cnt w2.drew g 2 (costsF N k ++ List.replicate (N.length - k) 0)) := HC5.out
        have hbd : Hid (But g wr w2.drew) := HB5.out.drew
        have hc0 : w2.drew.cell? ⟨g, k, none⟩ = _ := hc0
        have hf0 : w2.drew.frozen? ⟨g, k, none⟩ = false := hf0
        clear HC5 HB5 hmx hw9 e0 e3 e4 e5 e6 e7 H1 H2 H3
        have HC5 := hcd
        have HB5 := hbd
        clear hcd hbd
        generalize w2.drew = w2 at *
        go_wp2_with fail
        have hX : (if 100000 < 1 + s1 + max s2 s3 then 100000 else 1 + s1 + max s2 s3) = costN (costsF N k) y := by rw [HCE.out]; split <;> omega
        rw [hX]
        have hP : Hid (Cnt (w2.setCell ⟨g, k, none⟩ (.int .i64 (costN (costsF N k) y))) g 2 (costsF N (k + 1) ++ List.replicate (N.length - (k + 1)) 0)) := by
          have := HC5.out.put k (costN (costsF N k) y)
          rw [HPUT.out] at this
          exact this
        have hQ : Hid (But g w1 (w2.setCell ⟨g, k, none⟩ (.int .i64 (costN (costsF N k) y)))) := (HBT.out.trans HB5.out).set _ _
        exact ⟨⟨k + 1, by omega, by go_num, hP.out, hQ.out⟩, by simp [intOf]; omega⟩
      by_cases k10 : y.kind = 10
      · have HCE : Hid (costN (costsF N k) y = min 100000 (1 + s1 + 2 + max 0 (y.far - y.num + 1) * (3 + s2))) := C10.out k10
        by_cases hr : 0 < y.far - y.num + 1
        · have hR : max 0 (y.far - y.num + 1) = y.far - y.num + 1 := by omega
          rw [hR] at HCE hmul
          clear hR hrd
          go_wp2_with fail
          refine (H2.out _ rfl).mono ?_
          rintro e w3 ⟨rfl, rfl⟩
          have hr2 : y.far - y.num + 1 ≤ 65536 := by omega
          generalize y.far - y.num + 1 = R at *
          obtain ⟨M, hM⟩ : ∃ M, M = R * (3 + s2) := ⟨_, rfl⟩
          have hwe : IntKind.i64.wrap (R * (3 + s2)) = M := by rw [hM]; exact IntWalk.i64_in _ (by omega)
          rw [← hM] at hmul HCE
          clear hM
          go_wp2_with fail
          have hX : (if 100000 < 1 + s1 + (2 + M) then 100000 else 1 + s1 + (2 + M)) = costN (costsF N k) y := by rw [HCE.out]; split <;> omega
          rw [hX]
          have hP : Hid (Cnt (w3.setCell ⟨g, k, none⟩ (.int .i64 (costN (costsF N k) y))) g 2 (costsF N (k + 1) ++ List.replicate (N.length - (k + 1)) 0)) := by
            have := HC5.out.put k (costN (costsF N k) y)
            rw [HPUT.out] at this
            exact this
          have hQ : Hid (But g w1 (w3.setCell ⟨g, k, none⟩ (.int .i64 (costN (costsF N k) y)))) := (HBT.out.trans HB5.out).set _ _
          exact ⟨⟨k + 1, by omega, by go_num, hP.out, hQ.out⟩, by simp [intOf]; omega⟩
        · have hR : max 0 (y.far - y.num + 1) = 0 := by omega
          rw [hR] at HCE
          clear hR hrd
          go_wp2_with fail
          refine (H2.out _ rfl).mono ?_
          rintro e w3 ⟨rfl, rfl⟩
          go_wp2_with fail
          have hX : (if 100000 < 1 + s1 + 2 then 100000 else 1 + s1 + 2) = costN (costsF N k) y := by rw [HCE.out]; split <;> omega
          rw [hX]
          have hP : Hid (Cnt (w3.setCell ⟨g, k, none⟩ (.int .i64 (costN (costsF N k) y))) g 2 (costsF N (k + 1) ++ List.replicate (N.length - (k + 1)) 0)) := by
            have := HC5.out.put k (costN (costsF N k) y)
            rw [HPUT.out] at this
            exact this
          have hQ : Hid (But g w1 (w3.setCell ⟨g, k, none⟩ (.int .i64 (costN (costsF N k) y)))) := (HBT.out.trans HB5.out).set _ _
          exact ⟨⟨k + 1, by omega, by go_num, hP.out, hQ.out⟩, by simp [intOf]; omega⟩

      by_cases k11 : y.kind = 11
      · have HCE : Hid (costN (costsF N k) y = min 100000 (1 + s1 + 12)) := C11.out k11
        go_wp2_with fail
        have hX : (if 100000 < 1 + s1 + 12 then 100000 else 1 + s1 + 12) = costN (costsF N k) y := by rw [HCE.out]; split <;> omega
        rw [hX]
        have hP : Hid (Cnt (w2.setCell ⟨g, k, none⟩ (.int .i64 (costN (costsF N k) y))) g 2 (costsF N (k + 1) ++ List.replicate (N.length - (k + 1)) 0)) := by
          have := HC5.out.put k (costN (costsF N k) y)
          rw [HPUT.out] at this
          exact this
        have hQ : Hid (But g w1 (w2.setCell ⟨g, k, none⟩ (.int .i64 (costN (costsF N k) y)))) := (HBT.out.trans HB5.out).set _ _
        exact ⟨⟨k + 1, by omega, by go_num, hP.out, hQ.out⟩, by simp [intOf]; omega⟩
      have HCE : Hid (costN (costsF N k) y = min 100000 (1 + s1)) := C0.out k9 k10 k11
      go_wp2_with fail
      have hX : (if 100000 < 1 + s1 then 100000 else 1 + s1) = costN (costsF N k) y := by rw [HCE.out]; split <;> omega
      rw [hX]
      have hP : Hid (Cnt (w2.setCell ⟨g, k, none⟩ (.int .i64 (costN (costsF N k) y))) g 2 (costsF N (k + 1) ++ List.replicate (N.length - (k + 1)) 0)) := by
        have := HC5.out.put k (costN (costsF N k) y)
        rw [HPUT.out] at this
        exact this
      have hQ : Hid (But g w1 (w2.setCell ⟨g, k, none⟩ (.int .i64 (costN (costsF N k) y)))) := (HBT.out.trans HB5.out).set _ _
      exact ⟨⟨k + 1, by omega, by go_num, hP.out, hQ.out⟩, by simp [intOf]; omega⟩
    · have hke : k = N.length := by omega
      subst hke
      have HCN0 : Hid (Cnt wr g 2 (costsF N N.length)) := by unfold Hid; have := HCN.out; simpa using this
      clear hcnt hbut HCN
      go_wp2
      go_ret
      subst hge
      exact ⟨rfl, HCN0.out, HB.out.trans HBT.out.below⟩
end Go.Proofs.YtdnhmpemkpjcaaaGreatDoor
namespace Go.Proofs.YtdnhmpemkpjcaaaGreatDoor
open Go.RowKit
set_option linter.unusedVariables false
attribute [local go_sem] bs_size bs_get bs_extract bs_append bs_eq bs_toList

theorem RowV.take {W : World} {a : Option Addr} {V : List LVar} (h : RowV W a V) (k : Nat) : RowV W a (V.take k) := fun hne => by
  obtain ⟨g, e, hc⟩ := h (by intro e; rw [e] at hne; simp at hne)
  exact ⟨g, e, fun i x hx => hc i x (by
    rw [List.getElem?_take] at hx
    split at hx
    · exact hx
    · cases hx)⟩
theorem rowV_drew {W : World} {a : Option Addr} {V : List LVar} (h : RowV W a V) : RowV W.drew a V := fun hne => by
  obtain ⟨g, e, hc⟩ := h hne
  exact ⟨g, e, fun i x hx => hc i x hx⟩
theorem slice_preV (a : Option Addr) (k n c : Nat) (h : k ≤ n) (hc : n ≤ c) (ha : ∀ x, a = some x → ∃ g, x = ⟨g, 0, none⟩) (W : World) : (Instr.slice 24 (.slice a n c) none (some (.int .i64 (k : Int))) none).run Tryz.prog W = .ok (.slice a k c) W := by
  have hu := Tryz.underlying24
  have hkc : k ≤ c := Nat.le_trans h hc
  cases a with
  | none => simp [go_sem, hu, hkc]
  | some x =>
    obtain ⟨g, rfl⟩ := ha x rfl
    simp [go_sem, hu, hkc]

set_option maxHeartbeats 12800000 in
set_option maxRecDepth 100000 in
theorem l5Names_any (lo p : Nat) (vv vn vb : Value) (T : LTree) (w : World) (h : TreeP lo w p vv vn vb T) (hg : Good T) :
    Calls Tryz.prog 135 #[.pointer (some ⟨p, 0, none⟩)] w fun e w' => e = .returned (.int .i64 (namesF (allL 3 T) T.vars.length)) ∧ Below w.heap.size w w' := by
  obtain ⟨i0, hi, hz0, hz1, hz2⟩ := info_parts infoV
  have HAL : Hid (∀ (w' : World), Below w.heap.size w w' → Calls Tryz.prog 57 #[.pointer (some ⟨p, 0, none⟩)] w' fun e w2 => ∃ v, e = .returned v ∧ w2.ownsRow w'.heap.size 38 4 v (allL 3 T).length (varCells (allL 3 T)) ∧ Below w'.heap.size w' w2) := fun w' hb => l5All_any lo p vv vn vb T w' (h.below hb) hg
  obtain ⟨an, cn, rfl, _, hhn⟩ := id h.tree.nodes
  obtain ⟨av, cv, rfl, _⟩ := id h.tree.vars
  have HN : Hid (T.nodes ≠ [] → ∃ b o, an = some ⟨b, o, none⟩ ∧ lo ≤ b ∧ ∀ (i : Nat) (x : LNode), T.nodes[i]? = some x → NodeAt lo w b (o + i * 8) x) := hhn
  have hpw : p < w.heap.size := World.block_lt_of_cell? _ _ h.c1
  have HP0 : Hid (w.cell? ⟨p, 0, none⟩ = some (.slice av T.vars.length cv)) := h.c0
  have HP1 : Hid (w.cell? ⟨p, 1, none⟩ = some (.slice an T.nodes.length cn)) := h.c1
  have hnl := hg.nodes
  have hvl := hg.vars
  have hal := hg.all_len 3
  have hvle : T.vars.length ≤ (allL 3 T).length := by unfold allL; rw [List.length_append]; omega
  have HNM : Hid (∀ x ∈ allL 3 T, x.name.length ≤ 9) := all_names hg 3
  have HCN : Hid (∀ n ∈ T.nodes, n.kind = 11 → n.name.length ≤ 8) := fun n hn hk => by
    obtain ⟨k, hk2, rfl⟩ := List.getElem_of_mem hn
    exact (name_len (own_name (hg.node k _ (List.getElem?_eq_getElem hk2)).1 hk)).2
  have HFR : Hid (dupB (allL 3 T) = false → ∀ (k : Nat) (n : LNode), T.nodes[k]? = some n → n.kind = 11 → varFrom n.name (callsL (T.nodes.take k)) 0 < 0) := fun h k n hk hc => calls_fresh h hk hc
  have HCL : Hid (∀ k, (callsL (T.nodes.take k)).length ≤ 200) := fun k => by
    have := callsL_len (T.nodes.take k)
    have : (T.nodes.take k).length ≤ 200 := by rw [List.length_take]; omega
    omega
  clear h hg hhn
  obtain ⟨V, hV⟩ : ∃ V, V = allL 3 T := ⟨_, rfl⟩
  rw [← hV] at HAL hal hvle HNM HFR ⊢
  clear hV
  obtain ⟨R, hR⟩ : ∃ R, R = namesF V T.vars.length := ⟨_, rfl⟩
  rw [← hR]
  have HR : Hid (R = if dupB V then 7 else if (V.drop T.vars.length).any (fun v => !isNameL v.name) then 5 else 0) := hR
  clear hR
  go_enter Tryz.func135, Tryz.ntmps135
  go_wp2_with fail
  refine (HAL.out _ (Below.refl _ _)).mono ?_
  rintro e w1 ⟨v, rfl, hown, hb1⟩
  obtain ⟨ad, cp, rfl⟩ := rowE_shape hown
  have hcap := row_cap hown
  have HRV : Hid (RowV w1 ad V) := RowV.of_own hown rfl
  have HAD : Hid (∀ x, ad = some x → ∃ g, x = ⟨g, 0, none⟩) := by
    rcases hown.2 with ⟨e, _⟩ | ⟨g, c, cur, e, _⟩
    · injection e with e1 e2 e3; subst e1; exact fun x hx => by cases hx
    · injection e with e1 e2 e3; subst e1; exact fun x hx => by injection hx with hx; exact ⟨g, hx.symm⟩
  have HB1 : Hid (Below w.heap.size w w1) := hb1
  clear hb1 hown HAL
  go_wp2_with fail
  go_loopw [4] (fun i wr => ∃ k : Nat, k ≤ V.length ∧ i = .int .i64 k ∧ Hid (∀ j, j < k → varFrom (V.getD j default).name (V.take j) 0 < 0) ∧ Hid (Below w1.heap.size w1 wr)) (fun i _ => V.length - (intOf i).toNat)
  case atStart => exact ⟨0, by omega, rfl, fun j hj => by omega, Below.refl _ _⟩
  case round =>
    obtain ⟨k, hk, rfl, HD, HB⟩ := hrel
    by_cases hlt : k < V.length
    · obtain ⟨x, hx⟩ : ∃ x, V[k]? = some x := ⟨V[k], List.getElem?_eq_getElem hlt⟩
      have hxd : V.getD k default = x := by rw [List.getD_eq_getElem?_getD, hx]; rfl
      have hrv := HRV.out.below HB.out
      obtain ⟨g, rfl, hc⟩ := id hrv (by intro e; rw [e] at hlt; simp at hlt)
      obtain ⟨c0, _, _, _⟩ := hc k x hx
      have hsl : ∀ W, (Instr.slice 24 (.slice (some ⟨g, 0, none⟩) V.length cp) none (some (.int .i64 (k : Int))) none).run Tryz.prog W = .ok (.slice (some ⟨g, 0, none⟩) k cp) W := slice_preV _ k V.length cp (by omega) hcap HAD.out
      have HFI : Hid (Calls Tryz.prog 173 #[.slice (some ⟨g, 0, none⟩) k cp, .string (bs x.name)] wr.drew fun e w' => e = .returned (.int .i64 (varFrom x.name (V.take k) 0)) ∧ w' = wr.drew) := l5Find_any (V.take k) x.name _ k cp wr.drew (by rw [List.length_take]; omega) (rowV_drew (hrv.take k)) (by rw [List.length_take]; omega)
      have hk0 : (0 : Int) ≤ (k : Int) := by omega
      have hk1 : (k : Int) < (V.length : Int) := by omega
      have HVD : Hid (V.getD k default = x) := hxd
      obtain ⟨X, hX⟩ : ∃ X, varFrom x.name (V.take k) 0 = X := ⟨_, rfl⟩
      have HX : Hid (varFrom x.name (V.take k) 0 = X) := hX
      rw [hX] at HFI
      have HB2 : Hid (Below w1.heap.size w1 wr.drew) := HB.out.drew
      clear hrv hc hx hxd hX
      go_wp2_with fail
      go_region_held3 (fun Z => Z.cell? ⟨g, k * 4, none⟩ = some (.string (bs x.name))) (go_keep) (first | (go_at_call 173; refine HFI.out.mono ?_; rintro e w2 ⟨rfl, rfl⟩))
      clear c0 hsl HFI
      by_cases hX0 : 0 ≤ X
      · have HR2 : Hid (R = 7) := by unfold Hid; rw [HR.out, dup_hit hlt (by rw [HVD.out, HX.out]; exact hX0), if_pos rfl]
        clear HR HD
        go_wp2_with fail
        go_ret
        exact ⟨by rw [HR2.out]; rfl, HB1.out.trans (HB2.out.mono HB1.out.size)⟩
      · have HD2 : Hid (∀ j, j < k + 1 → varFrom (V.getD j default).name (V.take j) 0 < 0) := fun j hj => by
          by_cases e : j = k
          · rw [e, HVD.out, HX.out]; omega
          · exact HD.out j (by omega)
        clear HD
        go_wp2_with fail
        go_roundw
        case rel => exact ⟨k + 1, by omega, by go_num, HD2, HB2⟩
        case measure => simp [intOf]; omega
    · have hke : k = V.length := by omega
      have hdf : dupB V = false := dup_none (by rw [← hke]; exact HD.out)
      have HR2 : Hid (R = if (V.drop T.vars.length).any (fun v => !isNameL v.name) then 5 else 0) := by unfold Hid; rw [HR.out, hdf]; rfl
      have HFR2 : Hid (∀ (k : Nat) (n : LNode), T.nodes[k]? = some n → n.kind = 11 → varFrom n.name (callsL (T.nodes.take k)) 0 < 0) := HFR.out hdf
      have HRV2 : Hid (RowV wr ad V) := HRV.out.below HB.out
      have HBW : Hid (Below w.heap.size w wr) := HB1.out.trans (HB.out.mono HB1.out.size)
      clear HR HFR HD HB HB1 HRV hdf hke
      generalize wr = wa at *
      go_wp2_with fail
      have HOW0 : Hid ((wa.alloc (.cells #[] 38)).ownsRow wa.heap.size 38 4 (.slice (some ⟨wa.heap.size, 0, none⟩) 0 0) (callsL (T.nodes.take 0)).length (varCells (callsL (T.nodes.take 0)))) :=
        ⟨rfl, .inr ⟨wa.heap.size, 0, #[], rfl, Nat.le_refl _, heap_alloc_new wa _, Nat.le_refl _, by decide, rfl, rfl⟩⟩
      have HB0 : Hid (Below wa.heap.size wa (wa.alloc (.cells #[] 38))) := (Below.refl _ _).alloc (Nat.le_refl _) _
      generalize wa.alloc (.cells #[] 38) = Wx at *
      go_loopw [5, 6] (fun v i wz => ∃ k : Nat, k ≤ T.nodes.length ∧ i = .int .i64 k ∧ Hid (wz.ownsRow wa.heap.size 38 4 v (callsL (T.nodes.take k)).length (varCells (callsL (T.nodes.take k)))) ∧ Hid (Below wa.heap.size wa wz)) (fun v i _ => T.nodes.length - (intOf i).toNat)
      case atStart => exact ⟨0, by omega, rfl, HOW0, HB0⟩
      case round =>
        clear HOW0 HB0
        obtain ⟨k, hk, rfl, HOWN, HBZ⟩ := hrel
        generalize wr = wz at *
        obtain ⟨az, cz, rfl⟩ := rowE_shape HOWN.out
        have HBF : Hid (Below w.heap.size w wz) := HBW.out.trans (HBZ.out.mono HBW.out.size)
        have q1 := (HBF.out.cell (p := ⟨p, 1, none⟩) hpw).trans HP1.out
        by_cases hlt : k < T.nodes.length
        · obtain ⟨y, hy⟩ : ∃ y, T.nodes[k]? = some y := ⟨T.nodes[k], List.getElem?_eq_getElem hlt⟩
          obtain ⟨b, o, rfl, _, hc2⟩ := HN.out (by intro e; rw [e] at hlt; simp at hlt)
          obtain ⟨vk, vt, ve, hcs, hvs⟩ := hc2 k y hy
          obtain ⟨d0, d1, d2, d3, d4, d5, d6, d7⟩ := hcs.keep (lo := 0) (Keeps.of_below HBF.out) (Nat.zero_le _)
          have hk0 : (0 : Int) ≤ (k : Int) := by omega
          have hk1 : (k : Int) < (T.nodes.length : Int) := by omega
          clear hc2 hcs hvs d1 d3 d4 d5 d6 d7
          by_cases k11 : y.kind = 11
          · have HFX : Hid (varFrom y.name (callsL (T.nodes.take k)) 0 < 0) := HFR2.out k y hy k11
            have HNX : Hid (callsL (T.nodes.take (k + 1)) = callsL (T.nodes.take k) ++ [⟨y.name, 0, 0, 0⟩]) := callsL_hit hy k11
            have hlk := HCL.out k
            have hyn := HCN.out y (List.mem_of_getElem? hy) k11
            have hown := HOWN.out
            have HFI : Hid (Calls Tryz.prog 173 #[.slice az (callsL (T.nodes.take k)).length cz, .string (bs y.name)] wz fun e w' => e = .returned (.int .i64 (varFrom y.name (callsL (T.nodes.take k)) 0)) ∧ w' = wz) := l5Find_any (callsL (T.nodes.take k)) y.name az _ cz wz rfl (RowV.of_own hown rfl) (by omega)
            rw [k11] at d0
            clear hy k11 HOWN
            generalize callsL (T.nodes.take k) = M at *
            obtain ⟨X, hX⟩ : ∃ X, varFrom y.name M 0 = X := ⟨_, rfl⟩
            rw [hX] at HFX HFI
            have hXn : X < 0 := HFX.out
            have hXn2 : ¬ (0 ≤ X) := by omega
            have hzz := HBZ.out.size
            clear hX HFX
            go_wp2_with fail
            refine HFI.out.mono ?_
            rintro e w2 ⟨rfl, rfl⟩
            clear HFI
            go_wp2_with (at_builtin; go_loud (refine wpList_append_own _ rfl _ _ 24 rfl wa.heap.size 38 i0 (.agg #[.string ⟨#[]⟩, .int .i64 0, .int .i64 0, .int .i64 0]) 4 40 Tryz.underlying24 hi hz0 hz1 hz2 rfl (by decide) _ _ _ rfl (hown.alloc _) ⟨w2.heap.size, 0, none⟩ 1 1 [.string (bs y.name), .int .i64 0, .int .i64 0, .int .i64 0] rfl rfl ?c1 ?c2 ?c3 ?c4 ?c5 ?_))
            case c1 => exact World.news_of_block (heap_alloc_new w2 _)
            case c2 => simp [Value.oneCell']
            case c3 => unfold maxLen; omega
            case c4 => omega
            case c5 => simp; omega
            intro v' w9 hown' hgrow _
            have HON : Hid (w9.ownsRow wa.heap.size 38 4 v' (callsL (T.nodes.take (k + 1))).length (varCells (callsL (T.nodes.take (k + 1))))) := by
              unfold Hid
              rw [HNX.out, varCells_append, List.length_append]; exact hown'
            have HB9 : Hid (Below wa.heap.size wa w9) := (HBZ.out.alloc hzz _).grown hgrow (by simp; omega) (fun j hj => (hown.lt j hj).1)
            clear hown' hgrow hown d0 d2 q1 HNX HBZ HBF
            go_wp2_with fail
            go_roundw
            case rel => exact ⟨k + 1, by omega, by go_num, HON, HB9⟩
            case measure => simp [intOf]; omega
          · have HNX : Hid (callsL (T.nodes.take (k + 1)) = callsL (T.nodes.take k)) := callsL_miss hy k11
            have hkb : (y.kind != 11) = true := bne_iff_ne.2 k11
            have hkd : decide (y.kind = 11) = false := decide_eq_false k11
            clear hy d2
            go_wp2_with fail
            go_roundw
            case rel => exact ⟨k + 1, by omega, by go_num, by unfold Hid; rw [HNX.out]; exact HOWN.out, HBZ⟩
            case measure => simp [intOf]; omega
        · have q0 := (HBF.out.cell (p := ⟨p, 0, none⟩) hpw).trans HP0.out
          have HRZ : Hid (RowV wz ad V) := HRV2.out.below HBZ.out
          clear HOWN HBZ HRV2 HFR2 HN HCN HCL
          go_wp2_with fail
          go_loopw [7] (fun i wl => ∃ k : Nat, T.vars.length ≤ k ∧ k ≤ V.length ∧ i = .int .i64 k ∧ Hid (R = if (V.drop k).any (fun v => !isNameL v.name) then 5 else 0) ∧ Hid (Below wz.heap.size wz wl)) (fun i _ => V.length - (intOf i).toNat)
          case atStart => exact ⟨T.vars.length, Nat.le_refl _, hvle, rfl, HR2, Below.refl _ _⟩
          case round =>
            clear HR2
            obtain ⟨m, hm0, hm, rfl, HRM, HBL⟩ := hrel
            generalize wr = wl at *
            by_cases hlm : m < V.length
            · obtain ⟨x, hx⟩ : ∃ x, V[m]? = some x := ⟨V[m], List.getElem?_eq_getElem hlm⟩
              have hrv := HRZ.out.below HBL.out
              obtain ⟨g, rfl, hc⟩ := id hrv (by intro e; rw [e] at hlm; simp at hlm)
              obtain ⟨c0, _, _, _⟩ := hc m x hx
              have hxl := HNM.out x (List.mem_of_getElem? hx)
              have HST : Hid (R = if (!isNameL x.name || (V.drop (m + 1)).any (fun v => !isNameL v.name)) then 5 else 0) := by unfold Hid; rw [HRM.out, any_drop_step hx]
              obtain ⟨q, hq⟩ : ∃ q, isNameL x.name = q := ⟨_, rfl⟩
              have HIN : Hid (∀ w, Calls Tryz.prog 117 #[.string (bs x.name)] w fun e w' => e = .returned (.bool q) ∧ Below w.heap.size w w') := fun w => by rw [← hq]; exact isName_any x.name w (by omega)
              rw [hq] at HST
              have hk0 : (0 : Int) ≤ (m : Int) := by omega
              have hk1 : (m : Int) < (V.length : Int) := by omega
              clear hq hrv hc hx HRM
              cases q with
              | true =>
                have HR3 : Hid (R = if (V.drop (m + 1)).any (fun v => !isNameL v.name) then 5 else 0) := HST.out
                clear HST
                go_wp2_with fail
                refine (HIN.out _).mono ?_
                rintro e w8 ⟨rfl, hb8⟩
                have HB8 : Hid (Below wz.heap.size wz w8) := HBL.out.trans (hb8.mono HBL.out.size)
                clear hb8 HBL c0 HIN
                go_wp2_with fail
                go_roundw
                case rel => exact ⟨m + 1, by omega, by omega, by go_num, HR3, HB8⟩
                case measure => simp [intOf]; omega
              | false =>
                have HR3 : Hid (R = 5) := by unfold Hid; rw [HST.out]; rfl
                clear HST
                go_wp2_with fail
                refine (HIN.out _).mono ?_
                rintro e w8 ⟨rfl, hb8⟩
                have HB8 : Hid (Below wz.heap.size wz w8) := HBL.out.trans (hb8.mono HBL.out.size)
                clear hb8 HBL c0 HIN
                go_wp2_with fail
                go_ret
                exact ⟨by rw [HR3.out]; rfl, HBF.out.trans (HB8.out.mono HBF.out.size)⟩
            · have hme : m = V.length := by omega
              have HR3 : Hid (R = 0) := by unfold Hid; rw [HRM.out, hme, List.drop_length]; rfl
              clear HRM hme
              go_wp2_with fail
              go_ret
              exact ⟨by rw [HR3.out]; rfl, HBF.out.trans (HBL.out.mono HBF.out.size)⟩
end Go.Proofs.YtdnhmpemkpjcaaaGreatDoor
namespace Go.Proofs.YtdnhmpemkpjcaaaGreatDoor
open Go.RowKit
set_option linter.unusedVariables false
attribute [local go_sem] bs_size bs_get bs_extract bs_append bs_eq bs_toList

set_option maxHeartbeats 3200000 in
set_option maxRecDepth 100000 in
theorem l5Sum_any (cs l : List Int) (a : Option Addr) (k c hi : Nat) (v : Value) (w : World) (hk : cs.length = k) (hk1 : k ≤ 1048576) (hN : Nums w a cs) (hv : IntsB hi w v l) (hin : ∀ x ∈ l, 0 ≤ x ∧ x < (k : Int)) (hb : Betw 100000 cs) (hl : l.length ≤ 1048576) :
    Calls Tryz.prog 137 #[.slice a k c, v] w fun e w' => e = .returned (.int .i64 (sumAtL cs l)) ∧ w' = w := by
  obtain ⟨al, cp, rfl, hh⟩ := hv
  have HH : Hid (l ≠ [] → ∃ b o, al = some ⟨b, o, none⟩ ∧ b < hi ∧ ∀ (i : Nat) (x : Int), l[i]? = some x → w.cell? ⟨b, o + i, none⟩ = some (.int .i64 x)) := hh
  have HN : Hid (Nums w a cs) := hN
  have HI : Hid (∀ x ∈ l, 0 ≤ x ∧ x < (k : Int)) := hin
  have HB : Hid (Betw 100000 cs) := hb
  clear hh hN hin hb
  go_enter Tryz.func137, Tryz.ntmps137
  go_wp2
  go_loopw [5, 6] (fun d i wr => ∃ j : Nat, j ≤ l.length ∧ i = .int .i64 j ∧ d = .int .i64 (sumAtL cs (l.take j)) ∧ SameW wr w) (fun d i _ => l.length - (intOf i).toNat)
  case atStart => exact ⟨0, by omega, rfl, rfl, rfl⟩
  case round =>
    obtain ⟨j, hj, rfl, rfl, hw⟩ := hrel
    have HW : Hid (SameW wr w) := hw
    by_cases hlt : j < l.length
    · obtain ⟨x, hx⟩ : ∃ x, l[j]? = some x := ⟨l[j], List.getElem?_eq_getElem hlt⟩
      obtain ⟨b, o, rfl, _, hc1⟩ := HH.out (by intro e; rw [e] at hlt; simp at hlt)
      have c0 : wr.cell? ⟨b, o + j, none⟩ = _ := (congrArg (fun W => World.cell? W ⟨b, o + j, none⟩) hw).trans (hc1 j x hx)
      have HD : Hid (sumAtL cs (l.take (j + 1)) = sumAtL cs (l.take j) + cs.getD x.toNat 0) := sumAt_take hx
      have hx2 := HI.out x (List.mem_of_getElem? hx)
      obtain ⟨p, rfl⟩ : ∃ p : Nat, x = p := ⟨x.toNat, by omega⟩
      have hpk : p < k := by omega
      rcases HN.out with hz | ⟨g3, o3, rfl, hc3⟩
      · rw [hz] at hk; simp at hk; omega
      have c3 : wr.cell? ⟨g3, o3 + p, none⟩ = _ := (congrArg (fun W => World.cell? W ⟨g3, o3 + p, none⟩) hw).trans (hc3 p (by omega))
      have hz2 := HB.out p
      have hs := sum_big HB.out (l := l.take j) (by rw [List.length_take]; omega)
      change Hid (sumAtL cs (l.take (j + 1)) = sumAtL cs (l.take j) + cs.getD p 0) at HD
      generalize sumAtL cs (l.take j) = s at *
      generalize cs.getD p 0 = z at *
      have hp0 : (0 : Int) ≤ (p : Int) := by omega
      have hp1 : (p : Int) < (k : Int) := by omega
      clear hx hc1 hw hx2 hc3
      go_wp2_with fail
      go_roundw
      case rel => exact ⟨j + 1, by omega, by go_num, by rw [HD.out], HW.out⟩
      case measure => simp [intOf]; omega
    · have hje : j = l.length := by omega
      have e : sumAtL cs (l.take j) = sumAtL cs l := by rw [hje, List.take_length]
      rw [e]
      clear hje e
      go_wp2
      go_ret
      exact ⟨rfl, hw⟩

set_option maxHeartbeats 800000 in
theorem l1Min_any (a b : Int) (w : World) : Calls Tryz.prog 182 #[.int .i64 a, .int .i64 b] w fun e w' => e = .returned (.int .i64 (min a b)) ∧ w' = w := by
  by_cases h : a < b
  · have e : min a b = a := by omega
    rw [e]
    go_enter Tryz.func182, Tryz.ntmps182
    go_wp2
    go_ret
    exact ⟨rfl, rfl⟩
  · have e : min a b = b := by omega
    rw [e]
    go_enter Tryz.func182, Tryz.ntmps182
    go_wp2
    go_ret
    exact ⟨rfl, rfl⟩
end Go.Proofs.YtdnhmpemkpjcaaaGreatDoor
namespace Go.Proofs.YtdnhmpemkpjcaaaGreatDoor
open Go.RowKit
set_option linter.unusedVariables false
attribute [local go_sem] bs_size bs_get bs_extract bs_append bs_eq bs_toList

theorem costN_9 {cs : List Int} {n : LNode} (h : n.kind = 9) : costN cs n = min 100000 (1 + sumAtL cs n.kids + max (sumAtL cs n.thn) (sumAtL cs n.els)) := by unfold costN; rw [if_pos h]
theorem costN_10 {cs : List Int} {n : LNode} (h : n.kind = 10) : costN cs n = min 100000 (1 + sumAtL cs n.kids + 2 + max 0 (n.far - n.num + 1) * (3 + sumAtL cs n.thn)) := by unfold costN; rw [if_neg (by omega), if_pos h]
theorem costN_11 {cs : List Int} {n : LNode} (h : n.kind = 11) : costN cs n = min 100000 (1 + sumAtL cs n.kids + 12) := by unfold costN; rw [if_neg (by omega), if_neg (by omega), if_pos h]
theorem costN_0 {cs : List Int} {n : LNode} (h1 : n.kind ≠ 9) (h2 : n.kind ≠ 10) (h3 : n.kind ≠ 11) : costN cs n = min 100000 (1 + sumAtL cs n.kids) := by unfold costN; rw [if_neg h1, if_neg h2, if_neg h3]

set_option maxHeartbeats 6400000 in
set_option maxRecDepth 100000 in
theorem l5Costs_any (lo p : Nat) (vv vn vb : Value) (T : LTree) (w : World) (h : TreeP lo w p vv vn vb T) (hg : Good T) (hS : Sized 1048576 T) :
    Calls Tryz.prog 138 #[.pointer (some ⟨p, 0, none⟩)] w fun e w' => ∃ v, e = .returned v ∧ Own w' w.heap.size v (costsF T.nodes T.nodes.length) ∧ Below w.heap.size w w' := by
  obtain ⟨an, cn, rfl, _, hhn⟩ := id h.tree.nodes
  have HN : Hid (T.nodes ≠ [] → ∃ b o, an = some ⟨b, o, none⟩ ∧ lo ≤ b ∧ ∀ (i : Nat) (x : LNode), T.nodes[i]? = some x → NodeAt lo w b (o + i * 8) x) := hhn
  have p1 := h.c1
  have HP1 : Hid (w.cell? ⟨p, 1, none⟩ = some (.slice an T.nodes.length cn)) := p1
  have hpw : p < w.heap.size := World.block_lt_of_cell? _ _ p1
  have hn200 := hg.nodes
  have HT : Hid (∀ n ∈ T.nodes, Tame n) := hg.tame hS
  have HG : Hid (∀ (k : Nat) (n : LNode), T.nodes[k]? = some n → ownB n = true ∧ (∀ x ∈ n.kids, 0 ≤ x ∧ x < (k : Int)) ∧ (∀ x ∈ n.thn, 0 ≤ x ∧ x < (k : Int)) ∧ (∀ x ∈ n.els, 0 ≤ x ∧ x < (k : Int))) := hg.node
  have HLE : Hid (∀ k : Nat, k ≤ T.nodes.length → Betw 100000 (costsF T.nodes k)) := costsF_le T.nodes (hg.tame hS)
  clear h hhn hS hg
  obtain ⟨i0, hi, hz0, hz1, hz2⟩ := info_parts infoInt
  go_enter Tryz.func138, Tryz.ntmps138
  go_wp2
  have HOW0 : Hid ((w.alloc (.cells #[] 2)).ownsRow w.heap.size 2 1 (.slice (some ⟨w.heap.size, 0, none⟩) 0 0) 0 []) :=
    ⟨rfl, .inr ⟨w.heap.size, 0, #[], rfl, Nat.le_refl _, heap_alloc_new w _, Nat.le_refl _, by decide, rfl, rfl⟩⟩
  have HB0 : Hid (Below w.heap.size w (w.alloc (.cells #[] 2))) := (Below.refl _ _).alloc (Nat.le_refl _) _
  generalize w.alloc (.cells #[] 2) = W0 at *
  go_loopw [3, 4] (fun v i wr => ∃ k : Nat, k ≤ T.nodes.length ∧ i = .int .i64 k ∧ wr.ownsRow w.heap.size 2 1 v k ((costsF T.nodes k).map (Value.int .i64)) ∧ Below w.heap.size w wr) (fun v i _ => T.nodes.length - (intOf i).toNat)
  case atStart => exact ⟨0, by omega, rfl, HOW0.out, HB0.out⟩
  case round =>
    clear HOW0 HB0
    obtain ⟨k, hk, rfl, hown, hB⟩ := hrel
    obtain ⟨ad, cp, rfl⟩ := own_shape hown
    have HOWN : Hid (wr.ownsRow w.heap.size 2 1 (.slice ad k cp) k ((costsF T.nodes k).map (Value.int .i64))) := hown
    have HB : Hid (Below w.heap.size w wr) := hB
    have q1 := (hB.cell (p := ⟨p, 1, none⟩) hpw).trans HP1.out
    clear hown
    by_cases hlt : k < T.nodes.length
    · obtain ⟨y, hy⟩ : ∃ y, T.nodes[k]? = some y := ⟨T.nodes[k], List.getElem?_eq_getElem hlt⟩
      obtain ⟨b, o, rfl, _, hc2⟩ := HN.out (by intro e; rw [e] at hlt; simp at hlt)
      obtain ⟨vk, vt, ve, hcs, hvs⟩ := hc2 k y hy
      have hkp : ∀ q, q < w.heap.size → wr.heap[q]? = w.heap[q]? := fun q hq => hB.block q hq
      obtain ⟨d0, d1, d2, d3, d4, d5, d6, d7⟩ := hcs.keep (lo := 0) (w' := wr) (fun q _ hq => hkp q hq) (Nat.zero_le _)
      have HK : Hid (IntsB w.heap.size w vk y.kids) := hvs.kids.toB
      have HTH : Hid (IntsB w.heap.size w vt y.thn) := hvs.thn.toB
      have HE : Hid (IntsB w.heap.size w ve y.els) := hvs.els.toB
      have HKP : Hid (∀ q, q < w.heap.size → wr.heap[q]? = w.heap[q]?) := hkp
      have HY : Hid (T.nodes[k]? = some y) := hy
      have HTY : Hid (Tame y) := HT.out y (List.mem_of_getElem? hy)
      have HGY : Hid (ownB y = true ∧ (∀ x ∈ y.kids, 0 ≤ x ∧ x < (k : Int)) ∧ (∀ x ∈ y.thn, 0 ≤ x ∧ x < (k : Int)) ∧ (∀ x ∈ y.els, 0 ≤ x ∧ x < (k : Int))) := HG.out k y hy
      have hk0 : (0 : Int) ≤ (k : Int) := by omega
      have hk1 : (k : Int) < (T.nodes.length : Int) := by omega
      have hwz : w.heap.size ≤ wr.heap.size := hB.size
      obtain ⟨ak, ck, rfl, _⟩ := id hvs.kids
      obtain ⟨at2, ct, rfl, _⟩ := id hvs.thn
      obtain ⟨ae, ce, rfl, _⟩ := id hvs.els
      clear hy hc2 hcs hvs hkp hB
      go_wp2_with fail
      have hA := heap_alloc_new wr (.cells #[.int .i64 y.kind, .int .i64 y.op, .string (bs y.name), .int .i64 y.num, .int .i64 y.far, .slice ak y.kids.length ck, .slice at2 y.thn.length ct, .slice ae y.els.length ce] 111)
      have hB6 : Below wr.heap.size wr (wr.alloc (.cells #[.int .i64 y.kind, .int .i64 y.op, .string (bs y.name), .int .i64 y.num, .int .i64 y.far, .slice ak y.kids.length ck, .slice at2 y.thn.length ct, .slice ae y.els.length ce] 111)) := (Below.refl wr.heap.size wr).alloc (Nat.le_refl _) _
      generalize wr.alloc (.cells #[.int .i64 y.kind, .int .i64 y.op, .string (bs y.name), .int .i64 y.num, .int .i64 y.far, .slice ak y.kids.length ck, .slice at2 y.thn.length ct, .slice ae y.els.length ce] 111) = W5 at *
      have e0 : W5.cell? ⟨wr.heap.size, 0, none⟩ = some (.int .i64 y.kind) := cell_of_row _ _ 0 _ _ _ hA
      have e3 : W5.cell? ⟨wr.heap.size, 3, none⟩ = some (.int .i64 y.num) := cell_of_row _ _ 3 _ _ _ hA
      have e4 : W5.cell? ⟨wr.heap.size, 4, none⟩ = some (.int .i64 y.far) := cell_of_row _ _ 4 _ _ _ hA
      have e5 : W5.cell? ⟨wr.heap.size, 5, none⟩ = some (.slice ak y.kids.length ck) := cell_of_row _ _ 5 _ _ _ hA
      have e6 : W5.cell? ⟨wr.heap.size, 6, none⟩ = some (.slice at2 y.thn.length ct) := cell_of_row _ _ 6 _ _ _ hA
      have e7 : W5.cell? ⟨wr.heap.size, 7, none⟩ = some (.slice ae y.els.length ce) := cell_of_row _ _ 7 _ _ _ hA
      have hown5 : W5.ownsRow w.heap.size 2 1 (.slice ad k cp) k ((costsF T.nodes k).map (Value.int .i64)) := own_kept HOWN.out hB6
      have HOW5 : Hid (W5.ownsRow w.heap.size 2 1 (.slice ad k cp) k ((costsF T.nodes k).map (Value.int .i64))) := hown5
      have HNM : Nums W5 ad (costsF T.nodes k) := by
        have e : k = (costsF T.nodes k).length := (costsF_len _ _).symm
        have h2 : Own W5 w.heap.size (.slice ad k cp) (costsF T.nodes k) := by unfold Own; rw [← e]; exact hown5
        exact (nums_of_own h2).2
      have HB5 : Hid (Below w.heap.size w W5) := HB.out.trans (hB6.mono hwz)
      have hkp5 : ∀ q, q < w.heap.size → W5.heap[q]? = w.heap[q]? := fun q hq => (hB6.block q (Nat.lt_of_lt_of_le hq hwz)).trans (HKP.out q hq)
      have hbw := HLE.out k (by omega)
      have hcall : ∀ (v : Value) (l : List Int), IntsB w.heap.size w v l → (∀ x ∈ l, 0 ≤ x ∧ x < (k : Int)) → l.length ≤ 1048576 → ∀ W, W.heap = W5.heap → Calls Tryz.prog 137 #[.slice ad k cp, v] W fun e w' => e = .returned (.int .i64 (sumAtL (costsF T.nodes k) l)) ∧ w' = W := fun v l hv hx hl W hW =>
        l5Sum_any (costsF T.nodes k) l ad k cp w.heap.size v W (costsF_len _ _) (by omega) (by
          rcases HNM with hz | ⟨b, off, e, hc⟩
          · exact .inl hz
          · exact .inr ⟨b, off, e, fun i hi => by rw [← hc i hi]; exact World.cell?_of_block (a := ⟨b, off + i, none⟩) (by rw [hW])⟩) (hv.keep (fun q hq => by rw [hW]; exact hkp5 q hq) (Nat.le_refl _)) hx hbw hl
      have H1 : Hid (∀ W, W.heap = W5.heap → Calls Tryz.prog 137 #[.slice ad k cp, .slice ak y.kids.length ck] W fun e w' => e = .returned (.int .i64 (sumAtL (costsF T.nodes k) y.kids)) ∧ w' = W) := hcall _ _ HK.out HGY.out.2.1 HTY.out.kids
      have H2 : Hid (∀ W, W.heap = W5.heap → Calls Tryz.prog 137 #[.slice ad k cp, .slice at2 y.thn.length ct] W fun e w' => e = .returned (.int .i64 (sumAtL (costsF T.nodes k) y.thn)) ∧ w' = W) := hcall _ _ HTH.out HGY.out.2.2.1 HTY.out.thn
      have H3 : Hid (∀ W, W.heap = W5.heap → Calls Tryz.prog 137 #[.slice ad k cp, .slice ae y.els.length ce] W fun e w' => e = .returned (.int .i64 (sumAtL (costsF T.nodes k) y.els)) ∧ w' = W) := hcall _ _ HE.out HGY.out.2.2.2 HTY.out.els
      have HMX : Hid (∀ (a b : Int) (w : World), Calls Tryz.prog 172 #[.int .i64 a, .int .i64 b] w fun e w' => e = .returned (.int .i64 (max a b)) ∧ w' = w) := l1Max_any
      have HMN : Hid (∀ (a b : Int) (w : World), Calls Tryz.prog 182 #[.int .i64 a, .int .i64 b] w fun e w' => e = .returned (.int .i64 (min a b)) ∧ w' = w) := l1Min_any
      have hs1 := sum_big hbw HTY.out.kids
      have hs2 := sum_big hbw HTY.out.thn
      have hs3 := sum_big hbw HTY.out.els
      have hrd := rounds_le HTY.out
      have hnm := HTY.out.num
      have hfr := HTY.out.far
      have hmul := mul_le_of hrd.1 hrd.2 (b := 3 + sumAtL (costsF T.nodes k) y.thn) (by omega) (Int.add_le_add_left hs2.2 3)
      have HNX : Hid (costsF T.nodes (k + 1) = costsF T.nodes k ++ [costN (costsF T.nodes k) y]) := by
        show costsF T.nodes k ++ [costN (costsF T.nodes k) (T.nodes.getD k default)] = _
        rw [List.getD_eq_getElem?_getD, HY.out]; rfl
      have C9 : Hid (y.kind = 9 → costN (costsF T.nodes k) y = min 100000 (1 + sumAtL (costsF T.nodes k) y.kids + max (sumAtL (costsF T.nodes k) y.thn) (sumAtL (costsF T.nodes k) y.els))) := costN_9
      have C10 : Hid (y.kind = 10 → costN (costsF T.nodes k) y = min 100000 (1 + sumAtL (costsF T.nodes k) y.kids + 2 + max 0 (y.far - y.num + 1) * (3 + sumAtL (costsF T.nodes k) y.thn))) := costN_10
      have C11 : Hid (y.kind = 11 → costN (costsF T.nodes k) y = min 100000 (1 + sumAtL (costsF T.nodes k) y.kids + 12)) := costN_11
      have C0 : Hid (y.kind ≠ 9 → y.kind ≠ 10 → y.kind ≠ 11 → costN (costsF T.nodes k) y = min 100000 (1 + sumAtL (costsF T.nodes k) y.kids)) := costN_0
      generalize sumAtL (costsF T.nodes k) y.kids = s1 at *
      generalize sumAtL (costsF T.nodes k) y.thn = s2 at *
      generalize sumAtL (costsF T.nodes k) y.els = s3 at *
      generalize Value.slice ak y.kids.length ck = v1 at *
      generalize Value.slice at2 y.thn.length ct = v2 at *
      generalize Value.slice ae y.els.length ce = v3 at *
      clear hA hcall hown5 HNM hbw hkp5 d0 d1 d2 d3 d4 d5 d6 d7 q1 HK HTH HE HKP HOWN HB HY hB6
      refine (H1.out _ rfl).mono ?_
      rintro e w2 ⟨rfl, rfl⟩
      by_cases k9 : y.kind = 9
      · have HCE : Hid (costN (costsF T.nodes k) y = min 100000 (1 + s1 + max s2 s3)) := C9.out k9
        have hw9 : IntKind.i64.wrap (1 + s1 + max s2 s3) = 1 + s1 + max s2 s3 := IntWalk.i64_in _ (by omega)
        go_wp2_with fail
        go_region_held3 (fun W => W.cell? ⟨wr.heap.size, 6, none⟩ = some v2 ∧ W.cell? ⟨wr.heap.size, 7, none⟩ = some v3) (go_keep) (first | (go_at_call 137; (with_reducible show Calls _ _ #[_, v2] _ _); refine (H2.out _ (by rfl)).mono ?_; rintro e w3 ⟨rfl, rfl⟩) | (go_at_call 137; (with_reducible show Calls _ _ #[_, v3] _ _); refine (H3.out _ (by rfl)).mono ?_; rintro e w3 ⟨rfl, rfl⟩) | (go_at_call 172; refine (HMX.out _ _ _).mono ?_; rintro e w3 ⟨rfl, rfl⟩))
        go_wp2_with fail
        have hownd : Hid (w2.drew.ownsRow w.heap.size 2 1 (.slice ad k cp) k ((costsF T.nodes k).map (Value.int .i64))) := own_kept HOW5.out ((Below.refl w2.heap.size w2).drew)
        have hbd : Hid (Below w.heap.size w w2.drew) := HB5.out.drew
        clear HOW5 HB5 e0 e3 e4 e5 e6 e7
        have HOW5 := hownd
        have HB5 := hbd
        clear hownd hbd
        generalize w2.drew = w4 at *
        refine (HMN.out _ _ _).mono ?_
        rintro e w3 ⟨rfl, rfl⟩
        rw [← HCE.out]
        obtain ⟨D, hD⟩ : ∃ D, D = costN (costsF T.nodes k) y := ⟨_, rfl⟩
        rw [← hD] at HNX HCE ⊢
        have hown := HOW5.out
        clear hD H1 H2 H3 HMX HMN C9 C10 C11 C0 hmul hs1 hs2 hs3 hrd hnm hfr HCE
        go_wp2_with (at_builtin; refine wpList_append_own _ rfl _ _ 26 rfl w.heap.size 2 i0 (.int .i64 0) 1 8 Tryz.underlying26 hi hz0 hz1 hz2 rfl (by decide) _ _ _ rfl (hown.alloc _) ⟨w3.heap.size, 0, none⟩ 1 1 [.int .i64 D] rfl rfl ?c1 ?c2 ?c3 ?c4 ?c5 ?_)
        case c1 =>
          intro j u hj
          match j, hj with
          | 0, hj => simp at hj; subst hj; simp [Addr.add]
          | j + 1, hj => simp at hj
        case c2 => intro u hu; simp at hu; subst hu; rfl
        case c3 => unfold maxLen; omega
        case c4 => omega
        case c5 => have := HB5.out.size; simp; omega
        intro v' w9 hown' hgrow _
        have hbel9 : Hid (Below w.heap.size w w9) := by
          have h3 : Below w.heap.size w (w3.alloc (.cells #[.int .i64 D] 2)) := HB5.out.alloc HB5.out.size _
          exact h3.grown hgrow (by have := HB5.out.size; simp; omega) (fun j hj => (hown.lt j hj).1)
        have hnew : Hid (w9.ownsRow w.heap.size 2 1 v' (k + 1) ((costsF T.nodes (k + 1)).map (Value.int .i64))) := by
          unfold Hid; rw [HNX.out, List.map_append]; exact hown'
        clear hown' hgrow hown
        go_wp2_with fail
        go_roundw
        case rel => exact ⟨k + 1, by omega, by go_num, hnew.out, hbel9.out⟩
        case measure => simp [intOf]; omega
      by_cases k10 : y.kind = 10
      · have HCE : Hid (costN (costsF T.nodes k) y = min 100000 (1 + s1 + 2 + max 0 (y.far - y.num + 1) * (3 + s2))) := C10.out k10
        have hwa : IntKind.i64.wrap (1 + s1 + 2) = 1 + s1 + 2 := IntWalk.i64_in _ (by omega)
        have hwb : IntKind.i64.wrap (y.far - y.num) = y.far - y.num := IntWalk.i64_in _ (by omega)
        have hwc : IntKind.i64.wrap (y.far - y.num + 1) = y.far - y.num + 1 := IntWalk.i64_in _ (by omega)
        have hwd : IntKind.i64.wrap (3 + s2) = 3 + s2 := IntWalk.i64_in _ (by omega)
        have hwe : IntKind.i64.wrap (max 0 (y.far - y.num + 1) * (3 + s2)) = max 0 (y.far - y.num + 1) * (3 + s2) := IntWalk.i64_in _ (by omega)
        have hwf : IntKind.i64.wrap (1 + s1 + 2 + max 0 (y.far - y.num + 1) * (3 + s2)) = 1 + s1 + 2 + max 0 (y.far - y.num + 1) * (3 + s2) := IntWalk.i64_in _ (by omega)
        go_wp2_with fail
        go_region_held3 (fun W => W.cell? ⟨wr.heap.size, 6, none⟩ = some v2 ∧ W.cell? ⟨wr.heap.size, 3, none⟩ = some (.int .i64 y.num) ∧ W.cell? ⟨wr.heap.size, 4, none⟩ = some (.int .i64 y.far)) (go_keep) (first | (go_at_call 137; (with_reducible show Calls _ _ #[_, v2] _ _); refine (H2.out _ (by rfl)).mono ?_; rintro e w3 ⟨rfl, rfl⟩) | (go_at_call 172; refine (HMX.out _ _ _).mono ?_; rintro e w3 ⟨rfl, rfl⟩))
        go_wp2_with fail
        clear hwa hwb hwc hwd hwe hwf
        have hownd : Hid (w2.drew.ownsRow w.heap.size 2 1 (.slice ad k cp) k ((costsF T.nodes k).map (Value.int .i64))) := own_kept HOW5.out ((Below.refl w2.heap.size w2).drew)
        have hbd : Hid (Below w.heap.size w w2.drew) := HB5.out.drew
        clear HOW5 HB5 e0 e3 e4 e5 e6 e7
        have HOW5 := hownd
        have HB5 := hbd
        clear hownd hbd
        generalize w2.drew = w4 at *
        refine (HMN.out _ _ _).mono ?_
        rintro e w3 ⟨rfl, rfl⟩
        rw [← HCE.out]
        obtain ⟨D, hD⟩ : ∃ D, D = costN (costsF T.nodes k) y := ⟨_, rfl⟩
        rw [← hD] at HNX HCE ⊢
        have hown := HOW5.out
        clear hD H1 H2 H3 HMX HMN C9 C10 C11 C0 hmul hs1 hs2 hs3 hrd hnm hfr HCE
        go_wp2_with (at_builtin; refine wpList_append_own _ rfl _ _ 26 rfl w.heap.size 2 i0 (.int .i64 0) 1 8 Tryz.underlying26 hi hz0 hz1 hz2 rfl (by decide) _ _ _ rfl (hown.alloc _) ⟨w3.heap.size, 0, none⟩ 1 1 [.int .i64 D] rfl rfl ?c1 ?c2 ?c3 ?c4 ?c5 ?_)
        case c1 =>
          intro j u hj
          match j, hj with
          | 0, hj => simp at hj; subst hj; simp [Addr.add]
          | j + 1, hj => simp at hj
        case c2 => intro u hu; simp at hu; subst hu; rfl
        case c3 => unfold maxLen; omega
        case c4 => omega
        case c5 => have := HB5.out.size; simp; omega
        intro v' w9 hown' hgrow _
        have hbel9 : Hid (Below w.heap.size w w9) := by
          have h3 : Below w.heap.size w (w3.alloc (.cells #[.int .i64 D] 2)) := HB5.out.alloc HB5.out.size _
          exact h3.grown hgrow (by have := HB5.out.size; simp; omega) (fun j hj => (hown.lt j hj).1)
        have hnew : Hid (w9.ownsRow w.heap.size 2 1 v' (k + 1) ((costsF T.nodes (k + 1)).map (Value.int .i64))) := by
          unfold Hid; rw [HNX.out, List.map_append]; exact hown'
        clear hown' hgrow hown
        go_wp2_with fail
        go_roundw
        case rel => exact ⟨k + 1, by omega, by go_num, hnew.out, hbel9.out⟩
        case measure => simp [intOf]; omega
      by_cases k11 : y.kind = 11
      · have HCE : Hid (costN (costsF T.nodes k) y = min 100000 (1 + s1 + 12)) := C11.out k11
        go_wp2_with fail
        refine (HMN.out _ _ _).mono ?_
        rintro e w3 ⟨rfl, rfl⟩
        rw [← HCE.out]
        obtain ⟨D, hD⟩ : ∃ D, D = costN (costsF T.nodes k) y := ⟨_, rfl⟩
        rw [← hD] at HNX HCE ⊢
        have hown := HOW5.out
        clear hD H1 H2 H3 HMX HMN C9 C10 C11 C0 e0 e3 e4 e5 e6 e7 hmul hs1 hs2 hs3 hrd hnm hfr HCE
        go_wp2_with (at_builtin; refine wpList_append_own _ rfl _ _ 26 rfl w.heap.size 2 i0 (.int .i64 0) 1 8 Tryz.underlying26 hi hz0 hz1 hz2 rfl (by decide) _ _ _ rfl (hown.alloc _) ⟨w3.heap.size, 0, none⟩ 1 1 [.int .i64 D] rfl rfl ?c1 ?c2 ?c3 ?c4 ?c5 ?_)
        case c1 =>
          intro j u hj
          match j, hj with
          | 0, hj => simp at hj; subst hj; simp [Addr.add]
          | j + 1, hj => simp at hj
        case c2 => intro u hu; simp at hu; subst hu; rfl
        case c3 => unfold maxLen; omega
        case c4 => omega
        case c5 => have := HB5.out.size; simp; omega
        intro v' w9 hown' hgrow _
        have hbel9 : Hid (Below w.heap.size w w9) := by
          have h3 : Below w.heap.size w (w3.alloc (.cells #[.int .i64 D] 2)) := HB5.out.alloc HB5.out.size _
          exact h3.grown hgrow (by have := HB5.out.size; simp; omega) (fun j hj => (hown.lt j hj).1)
        have hnew : Hid (w9.ownsRow w.heap.size 2 1 v' (k + 1) ((costsF T.nodes (k + 1)).map (Value.int .i64))) := by
          unfold Hid; rw [HNX.out, List.map_append]; exact hown'
        clear hown' hgrow hown
        go_wp2_with fail
        go_roundw
        case rel => exact ⟨k + 1, by omega, by go_num, hnew.out, hbel9.out⟩
        case measure => simp [intOf]; omega
      have HCE : Hid (costN (costsF T.nodes k) y = min 100000 (1 + s1)) := C0.out k9 k10 k11
      go_wp2_with fail
      refine (HMN.out _ _ _).mono ?_
      rintro e w3 ⟨rfl, rfl⟩
      rw [← HCE.out]
      obtain ⟨D, hD⟩ : ∃ D, D = costN (costsF T.nodes k) y := ⟨_, rfl⟩
      rw [← hD] at HNX HCE ⊢
      have hown := HOW5.out
      clear hD H1 H2 H3 HMX HMN C9 C10 C11 C0 e0 e3 e4 e5 e6 e7 hmul hs1 hs2 hs3 hrd hnm hfr HCE
      go_wp2_with (at_builtin; refine wpList_append_own _ rfl _ _ 26 rfl w.heap.size 2 i0 (.int .i64 0) 1 8 Tryz.underlying26 hi hz0 hz1 hz2 rfl (by decide) _ _ _ rfl (hown.alloc _) ⟨w3.heap.size, 0, none⟩ 1 1 [.int .i64 D] rfl rfl ?c1 ?c2 ?c3 ?c4 ?c5 ?_)
      case c1 =>
        intro j u hj
        match j, hj with
        | 0, hj => simp at hj; subst hj; simp [Addr.add]
        | j + 1, hj => simp at hj
      case c2 => intro u hu; simp at hu; subst hu; rfl
      case c3 => unfold maxLen; omega
      case c4 => omega
      case c5 => have := HB5.out.size; simp; omega
      intro v' w9 hown' hgrow _
      have hbel9 : Hid (Below w.heap.size w w9) := by
        have h3 : Below w.heap.size w (w3.alloc (.cells #[.int .i64 D] 2)) := HB5.out.alloc HB5.out.size _
        exact h3.grown hgrow (by have := HB5.out.size; simp; omega) (fun j hj => (hown.lt j hj).1)
      have hnew : Hid (w9.ownsRow w.heap.size 2 1 v' (k + 1) ((costsF T.nodes (k + 1)).map (Value.int .i64))) := by
        unfold Hid; rw [HNX.out, List.map_append]; exact hown'
      clear hown' hgrow hown
      go_wp2_with fail
      go_roundw
      case rel => exact ⟨k + 1, by omega, by go_num, hnew.out, hbel9.out⟩
      case measure => simp [intOf]; omega
    · have hke : k = T.nodes.length := by omega
      subst hke
      go_wp2
      go_ret
      refine ⟨_, rfl, ?_, HB.out⟩
      have h := HOWN.out
      unfold Own
      rw [costsF_len]
      exact h
end Go.Proofs.YtdnhmpemkpjcaaaGreatDoor
namespace Go.Proofs.YtdnhmpemkpjcaaaGreatDoor
open Go.RowKit
set_option linter.unusedVariables false
attribute [local go_sem] bs_size bs_get bs_extract bs_append bs_eq bs_toList

/-- what a program takes at most -/
def budT (T : LTree) : Int := 1 + sumAtL (costsF T.nodes T.nodes.length) T.body
/-- the check's answer: a code, a node, a budget -/
def chkT (T : LTree) : Met × Int :=
  if faultL T ≠ 0 then ((faultL T, -1), 0) else if namesF (allL 3 T) T.vars.length ≠ 0 then ((namesF (allL 3 T) T.vars.length, -1), 0)
  else if (bodyF (allL 3 T) T).1 ≠ 0 then (bodyF (allL 3 T) T, 0) else if 2000 < budT T ∨ 60 < cellsL (allL 3 T) then ((2, -1), 0) else ((0, 0), budT T)
theorem Duo.belowN {kp : Nat} {vl vl' : Value} {W W' : World} {B : Nat} (h : Duo kp vl vl' W W') (hB : B ≤ kp) (hs : B ≤ W.heap.size) (hv : vl.ownBlock = none) : Below B W W' :=
  ⟨h.bel.os, h.bel.tape, h.bel.output, h.bel.size, fun k hk => h.rest k (by omega) (by omega) (by rw [hv]; intro e; cases e)⟩
theorem three_set {w : World} {b : Nat} {T : TypeId} {a0 a1 a2 : Value} (x y z : Value) (h : w.heap[b]? = some (.cells #[a0, a1, a2] T (0, 0))) : (((w.setCell ⟨b, 0, none⟩ x).setCell ⟨b, 1, none⟩ y).setCell ⟨b, 2, none⟩ z).heap[b]? = some (.cells #[x, y, z] T (0, 0)) := by
  rw [heap_setCell_same _ _ _ _ _ _ (heap_setCell_same _ _ _ _ _ _ (heap_setCell_same _ _ _ _ _ _ h))]
  rfl

set_option maxHeartbeats 12800000 in
set_option maxRecDepth 100000 in
theorem l5Tree_any (lo p : Nat) (vv vn vb : Value) (T : LTree) (w : World) (h : TreeP lo w p vv vn vb T) (hS : Sized 1048576 T) :
    Calls Tryz.prog 77 #[.pointer (some ⟨p, 0, none⟩)] w fun e w' => e = .returned (.agg #[.int .i64 (chkT T).1.1, .int .i64 (chkT T).1.2, .int .i64 (chkT T).2]) ∧ Below w.heap.size w w' := by
  have HF : Hid (∀ (w' : World), Below w.heap.size w w' → Calls Tryz.prog 55 #[.pointer (some ⟨p, 0, none⟩)] w' fun e w2 => e = .returned (.int .i64 (faultL T)) ∧ Below w'.heap.size w' w2) := fun w' hb =>
    l4Fault_any lo p vv vn vb T w' (h.below hb) hS (fun hn k W hb2 hk => l4Right_any lo p vv vn vb T k W ((h.below hb).below hb2) hS hn hk)
  have HNM : Hid (faultL T = 0 → ∀ (w' : World), Below w.heap.size w w' → Calls Tryz.prog 135 #[.pointer (some ⟨p, 0, none⟩)] w' fun e w2 => e = .returned (.int .i64 (namesF (allL 3 T) T.vars.length)) ∧ Below w'.heap.size w' w2) := fun h0 w' hb => l5Names_any lo p vv vn vb T w' (h.below hb) (good_of h0)
  have HAL : Hid (faultL T = 0 → ∀ (w' : World), Below w.heap.size w w' → Calls Tryz.prog 57 #[.pointer (some ⟨p, 0, none⟩)] w' fun e w2 => ∃ v, e = .returned v ∧ w2.ownsRow w'.heap.size 38 4 v (allL 3 T).length (varCells (allL 3 T)) ∧ Below w'.heap.size w' w2) := fun h0 w' hb => l5All_any lo p vv vn vb T w' (h.below hb) (good_of h0)
  have HCO : Hid (faultL T = 0 → ∀ (w' : World), Below w.heap.size w w' → Calls Tryz.prog 138 #[.pointer (some ⟨p, 0, none⟩)] w' fun e w2 => ∃ v, e = .returned v ∧ Own w2 w'.heap.size v (costsF T.nodes T.nodes.length) ∧ Below w'.heap.size w' w2) := fun h0 w' hb => l5Costs_any lo p vv vn vb T w' (h.below hb) (good_of h0) hS
  have HLI : Hid (faultL T = 0 → ∀ (W0 : World) (kp cA : Nat) (aA : Option Addr), Below w.heap.size w W0 → RowV W0 aA (allL 3 T) → W0.heap.size ≤ kp → ListC lo W0 kp p cA (kp + 1) aA T (allL 3 T) T.nodes.length [] T.body) := fun h0 W0 kp cA aA hb hr hk =>
    l5List_all lo W0 kp p cA (kp + 1) vv vn vb aA T (allL 3 T) ⟨h.below hb, hr, (good_of h0).all_len 3, hk, good_of h0⟩ (kin_of h0) (stk_of h0) hS rfl T.nodes.length (Nat.le_refl _) [] T.body (by have := (good_of h0).nodes; simp; omega) hS.body (fun x hx => ⟨(good_of h0).body x hx, body_stat h0 x hx⟩)
  have HCE : Hid (faultL T = 0 → ∀ (ad : Option Addr) (c : Nat) (W : World), RowV W ad (allL 3 T) → Calls Tryz.prog 56 #[.slice ad (allL 3 T).length c] W fun e w' => e = .returned (.int .i64 (cellsL (allL 3 T))) ∧ Below W.heap.size W w') := fun h0 ad c W hr => by
    have := l5Cells_any (allL 3 T) ad (allL 3 T).length c W (Nat.le_refl _) hr ((good_of h0).sizes 3) ((good_of h0).all_len 3)
    rwa [List.take_length] at this
  have HBD : Hid (∀ W, Below w.heap.size w W → IntsV lo W vb T.body) := fun W hb => (h.tree.below hb).body
  have HC2 : Hid (∀ W, Below w.heap.size w W → W.cell? ⟨p, 2, none⟩ = some vb) := fun W hb => (h.below hb).c2
  have HSU : Hid (faultL T = 0 → ∀ (a : Option Addr) (c : Nat) (W : World), Below w.heap.size w W → Nums W a (costsF T.nodes T.nodes.length) → Calls Tryz.prog 137 #[.slice a T.nodes.length c, vb] W fun e w' => e = .returned (.int .i64 (sumAtL (costsF T.nodes T.nodes.length) T.body)) ∧ w' = W) := fun h0 a c W hb hn =>
    l5Sum_any (costsF T.nodes T.nodes.length) T.body a T.nodes.length c W.heap.size vb W (costsF_len _ _) (by have := (good_of h0).nodes; omega) hn (HBD.out W hb).toB (good_of h0).body (costsF_le T.nodes ((good_of h0).tame hS) _ (Nat.le_refl _)) hS.body
  have HSB : Hid (faultL T = 0 → 0 ≤ sumAtL (costsF T.nodes T.nodes.length) T.body ∧ sumAtL (costsF T.nodes T.nodes.length) T.body ≤ 104857600000) := fun h0 => sum_big (costsF_le T.nodes ((good_of h0).tame hS) _ (Nat.le_refl _)) hS.body
  have hpw : p < w.heap.size := World.block_lt_of_cell? _ _ h.c0
  obtain ⟨ab, cb, evb, _⟩ := id h.tree.body
  subst evb
  clear h hS
  obtain ⟨⟨⟨c1, c2⟩, c3⟩, hR⟩ : ∃ R, R = chkT T := ⟨_, rfl⟩
  rw [← hR]
  have HC : Hid (((c1, c2), c3) = if faultL T ≠ 0 then ((faultL T, -1), 0) else if namesF (allL 3 T) T.vars.length ≠ 0 then ((namesF (allL 3 T) T.vars.length, -1), 0)
      else if (bodyF (allL 3 T) T).1 ≠ 0 then (bodyF (allL 3 T) T, 0) else if 2000 < budT T ∨ 60 < cellsL (allL 3 T) then ((2, -1), 0) else ((0, 0), budT T)) := hR
  clear hR
  go_enter Tryz.func77, Tryz.ntmps77
  go_wp2_with fail
  have hA := heap_alloc_new w (.cells #[.int .i64 0, .int .i64 0, .int .i64 0] 34)
  have hB : Below w.heap.size w (w.alloc (.cells #[.int .i64 0, .int .i64 0, .int .i64 0] 34)) := (Below.refl _ _).alloc (Nat.le_refl _) _
  generalize w.alloc (.cells #[.int .i64 0, .int .i64 0, .int .i64 0] 34) = W1 at *
  refine (HF.out _ hB).mono ?_
  rintro e w2 ⟨rfl, hb⟩
  have HA : Hid (w2.heap[w.heap.size]? = some (.cells #[.int .i64 0, .int .i64 0, .int .i64 0] 34 (0, 0))) := blk hA hb
  have HB : Hid (Below w.heap.size w w2) := hB.trans (hb.mono hB.size)
  clear hA hB hb HF
  obtain ⟨F, hF⟩ : ∃ F, faultL T = F := ⟨_, rfl⟩
  have HFF : Hid (faultL T = F) := hF
  rw [hF]
  by_cases hz : F = 0
  · subst hz
    have HCN : Hid (((c1, c2), c3) = if namesF (allL 3 T) T.vars.length ≠ 0 then ((namesF (allL 3 T) T.vars.length, -1), 0)
      else if (bodyF (allL 3 T) T).1 ≠ 0 then (bodyF (allL 3 T) T, 0) else if 2000 < budT T ∨ 60 < cellsL (allL 3 T) then ((2, -1), 0) else ((0, 0), budT T)) := by unfold Hid; rw [HC.out, hF, if_neg (by simp)]
    clear HC hF
    go_wp2_with fail
    refine (HNM.out HFF.out _ HB.out).mono ?_
    rintro e w3 ⟨rfl, hb⟩
    have HA3 : Hid (w3.heap[w.heap.size]? = some (.cells #[.int .i64 0, .int .i64 0, .int .i64 0] 34 (0, 0))) := blk HA.out hb
    have HB3 : Hid (Below w.heap.size w w3) := HB.out.trans (hb.mono HB.out.size)
    clear HA HB hb HNM
    obtain ⟨N, hN⟩ : ∃ N, namesF (allL 3 T) T.vars.length = N := ⟨_, rfl⟩
    rw [hN] at HCN ⊢
    clear hN
    by_cases hn : N = 0
    · subst hn
      have HCB : Hid (((c1, c2), c3) = if (bodyF (allL 3 T) T).1 ≠ 0 then (bodyF (allL 3 T) T, 0) else if 2000 < budT T ∨ 60 < cellsL (allL 3 T) then ((2, -1), 0) else ((0, 0), budT T)) := by unfold Hid; rw [HCN.out, if_neg (by simp)]
      clear HCN
      go_wp2_with fail
      refine (HAL.out HFF.out _ HB3.out).mono ?_
      rintro e w4 ⟨v, rfl, hown, hb⟩
      obtain ⟨ad, cp, rfl⟩ := rowE_shape hown
      have HRV : Hid (RowV w4 ad (allL 3 T)) := RowV.of_own hown rfl
      have HA4 : Hid (w4.heap[w.heap.size]? = some (.cells #[.int .i64 0, .int .i64 0, .int .i64 0] 34 (0, 0))) := blk HA3.out hb
      have HB4 : Hid (Below w.heap.size w w4) := HB3.out.trans (hb.mono HB3.out.size)
      clear hown hb HA3 HB3 HAL
      have HLC := HLI.out HFF.out w4 w4.heap.size cp ad HB4.out HRV.out (Nat.le_refl _)
      have HL : Hid (ListC lo w4 w4.heap.size p cp (w4.heap.size + 1) ad T (allL 3 T) T.nodes.length [] T.body) := HLC
      clear HLC HLI
      have k5 := heap_alloc_new w4 (.cells #[.pointer (some ⟨p, 0, none⟩), .slice ad (allL 3 T).length cp, .slice none 0 0, .int .i64 0, .int .i64 0] 113)
      have hb5 : Below w4.heap.size w4 (w4.alloc (.cells #[.pointer (some ⟨p, 0, none⟩), .slice ad (allL 3 T).length cp, .slice none 0 0, .int .i64 0, .int .i64 0] 113)) := (Below.refl _ _).alloc (Nat.le_refl _) _
      have HCK : Hid (Chk w4 (w4.alloc (.cells #[.pointer (some ⟨p, 0, none⟩), .slice ad (allL 3 T).length cp, .slice none 0 0, .int .i64 0, .int .i64 0] 113)) w4.heap.size p ad (allL 3 T).length cp (.slice none 0 0) (0, 0)) := ⟨hb5, k5⟩
      have pc2 : (w4.alloc (.cells #[.pointer (some ⟨p, 0, none⟩), .slice ad (allL 3 T).length cp, .slice none 0 0, .int .i64 0, .int .i64 0] 113)).cell? ⟨p, 2, none⟩ = some (.slice ab T.body.length cb) := HC2.out _ (HB4.out.trans (hb5.mono HB4.out.size))
      have HB5 : Hid (Below w4.heap.size w4 (w4.alloc (.cells #[.pointer (some ⟨p, 0, none⟩), .slice ad (allL 3 T).length cp, .slice none 0 0, .int .i64 0, .int .i64 0] 113))) := hb5
      have hpw4 : p < w4.heap.size := Nat.lt_of_lt_of_le hpw HB4.out.size
      clear k5 hb5
      go_wp2_with fail
      generalize hW5 : w4.alloc (.cells #[.pointer (some ⟨p, 0, none⟩), .slice ad (allL 3 T).length cp, .slice none 0 0, .int .i64 0, .int .i64 0] 113) = W5 at *
      clear hW5
      refine (HL.out _ _ _ _ HCK.out (LoopO.nil _ _) (HBD.out _ HB4.out)).mono ?_
      rintro e w6 ⟨rfl, vl, hc6, hl6, hd6⟩
      have hb56 : Below w4.heap.size w4 w6 := hc6.bel
      have HA6 : Hid (w6.heap[w.heap.size]? = some (.cells #[.int .i64 0, .int .i64 0, .int .i64 0] 34 (0, 0))) := blk HA4.out hb56
      have HB6 : Hid (Below w.heap.size w w6) := HB4.out.trans (hb56.mono HB4.out.size)
      have HC6 : Hid (Chk w4 w6 w4.heap.size p ad (allL 3 T).length cp vl (bodyF (allL 3 T) T)) := hc6
      have HRV6 : Hid (RowV w6 ad (allL 3 T)) := HRV.out.below hb56
      clear hc6 hl6 hd6 hb56 HCK HB5 HL HA4 HB4 HRV pc2
      generalize w4.heap.size = kp at *
      obtain ⟨⟨s1, s2⟩, hs⟩ : ∃ s, s = bodyF (allL 3 T) T := ⟨_, rfl⟩
      rw [← hs] at HC6 HCB
      clear hs
      have k1 := cell_of_row _ _ 1 _ _ _ HC6.out.row
      have k3 := cell_of_row _ _ 3 _ _ _ HC6.out.row
      have k4 := cell_of_row _ _ 4 _ _ _ HC6.out.row
      have r0 := cell_of_row _ _ 0 _ _ _ HA6.out
      have r1 := cell_of_row _ _ 1 _ _ _ HA6.out
      have r2 := cell_of_row _ _ 2 _ _ _ HA6.out
      have f0 := frozen_of_row _ _ 0 _ _ HA6.out
      have f1 := frozen_of_row _ _ 1 _ _ HA6.out
      have f2 := frozen_of_row _ _ 2 _ _ HA6.out
      simp at k1 k3 k4 r0 r1 r2 f0 f1 f2
      by_cases hs1 : s1 = 0
      · subst hs1
        have HCW : Hid (((c1, c2), c3) = if 2000 < budT T ∨ 60 < cellsL (allL 3 T) then ((2, -1), 0) else ((0, 0), budT T)) := by unfold Hid; rw [HCB.out, if_neg (by simp)]
        have pc2 := HC2.out _ HB6.out
        have hkl : kp < w6.heap.size := blk_lt HC6.out.row
        have hrl : w.heap.size < w6.heap.size := blk_lt HA6.out
        have hpl : p < w6.heap.size := Nat.lt_of_lt_of_le hpw HB6.out.size
        have HCX : Hid (Calls Tryz.prog 138 #[.pointer (some ⟨p, 0, none⟩)] w6.drew fun e w2 => ∃ v, e = .returned v ∧ Own w2 w6.drew.heap.size v (costsF T.nodes T.nodes.length) ∧ Below w6.drew.heap.size w6.drew w2) := HCO.out HFF.out w6.drew HB6.out.drew
        have HB7 : Hid (Below w.heap.size w w6.drew) := HB6.out.drew
        have HS7 : Hid (∀ (a : Option Addr) (c : Nat) (W : World), Below w.heap.size w W → Nums W a (costsF T.nodes T.nodes.length) → Calls Tryz.prog 137 #[.slice a T.nodes.length c, .slice ab T.body.length cb] W fun e w' => e = .returned (.int .i64 (sumAtL (costsF T.nodes T.nodes.length) T.body)) ∧ w' = W) := HSU.out HFF.out
        have hsb := HSB.out HFF.out
        have HCL : Hid (∀ (W : World), RowV W ad (allL 3 T) → Calls Tryz.prog 56 #[.slice ad (allL 3 T).length cp] W fun e w' => e = .returned (.int .i64 (cellsL (allL 3 T))) ∧ Below W.heap.size W w') := fun W hr => HCE.out HFF.out ad cp W hr
        have HBU : Hid (budT T = 1 + sumAtL (costsF T.nodes T.nodes.length) T.body) := rfl
        have HK1 : Hid (w6.cell? ⟨kp, 1, none⟩ = some (.slice ad (allL 3 T).length cp)) := k1
        clear HCB HCO HSU HSB HCE HC6 HFF k4 k1 r0 r1 r2 f0 f1 f2
        have HDL : Hid ((costsF T.nodes T.nodes.length).length = T.nodes.length) := costsF_len _ _
        obtain ⟨ds, hds⟩ : ∃ ds, ds = costsF T.nodes T.nodes.length := ⟨_, rfl⟩
        rw [← hds] at HCX HS7 hsb HBU HDL
        clear hds
        obtain ⟨sm, hsm⟩ : ∃ sm, sm = sumAtL ds T.body := ⟨_, rfl⟩
        rw [← hsm] at HS7 hsb HBU
        clear hsm
        go_wp2_with fail
        go_region_held3 (fun Z => Z.cell? ⟨p, 2, none⟩ = some (.slice ab T.body.length cb)) (go_keep) (first | (go_at_call 138; refine HCX.out.mono ?_; rintro e w7 ⟨v7, rfl, hown7, hb7⟩; obtain ⟨a7, c7, rfl⟩ := own_shape hown7; have q2 := (hb7.cell (p := ⟨p, 2, none⟩) hpl).trans pc2; have HNU : Hid (Nums w7 a7 ds) := (nums_of_own hown7).2; have HB8 : Hid (Below w6.drew.heap.size w6.drew w7) := hb7; have HB9 : Hid (Below w.heap.size w w7) := HB7.out.trans (hb7.mono HB7.out.size); rw [HDL.out]; clear hown7 hb7) | (go_at_call 137; refine (HS7.out _ _ _ HB9.out HNU.out).mono ?_; rintro e w8 ⟨rfl, rfl⟩))
        clear pc2 HCX HS7 k3
        have HB10 : Hid (Below w.heap.size w w8) := HB9
        have HA9 : Hid (w8.heap[w.heap.size]? = some (.cells #[.int .i64 0, .int .i64 0, .int .i64 0] 34 (0, 0))) := (HB8.out.block w.heap.size hrl).trans HA6.out
        have k1 : w8.cell? ⟨kp, 1, none⟩ = some (.slice ad (allL 3 T).length cp) := (HB8.out.cell (p := ⟨kp, 1, none⟩) hkl).trans HK1.out
        have HRV8 : Hid (RowV w8 ad (allL 3 T)) := by
          refine RowV.below (w := w6.drew) ?_ HB8.out
          exact rowV_drew HRV6.out
        try clear q2
        try clear HNU
        clear HB8 HA6 HK1 HRV6 HB6 HB7 HB9
        by_cases hbu : 2000 < 1 + sm
        · have hb1 : decide ((2000 : Int) < 1 + sm) = true := decide_eq_true hbu
          have HCV : Hid (((c1, c2), c3) = ((2, -1), 0)) := by unfold Hid; rw [HCW.out, if_pos (Or.inl (by rw [HBU.out]; exact hbu))]
          have r0 := cell_of_row _ _ 0 _ _ _ HA9.out
          have r1 := cell_of_row _ _ 1 _ _ _ HA9.out
          have r2 := cell_of_row _ _ 2 _ _ _ HA9.out
          have f0 := frozen_of_row _ _ 0 _ _ HA9.out
          have f1 := frozen_of_row _ _ 1 _ _ HA9.out
          have f2 := frozen_of_row _ _ 2 _ _ HA9.out
          simp at r0 r1 r2 f0 f1 f2
          clear HCW hbu HCL
          go_wp2_with fail
          refine bodyPost_ret (v := .agg #[.int .i64 2, .int .i64 (-1), .int .i64 (0)]) (by simp [results, Tryz.results77, go_sem, r0, r1, r2]) rfl ⟨?_, ((HB10.out.setCell (by simp) _).setCell (by simp) _).setCell (by simp) _⟩
          have e := HCV.out
          injection e with e1 e3
          injection e1 with e1 e2
          rw [e1, e2, e3]
        · have hb1 : decide ((2000 : Int) < 1 + sm) = false := decide_eq_false hbu
          by_cases hce : 60 < cellsL (allL 3 T)
          · have HCV : Hid (((c1, c2), c3) = ((2, -1), 0)) := by unfold Hid; rw [HCW.out, if_pos (Or.inr hce)]
            clear HCW hbu
            go_wp2_with fail
            refine (HCL.out _ HRV8.out).mono ?_
            rintro e w10 ⟨rfl, hb⟩
            have HB11 : Hid (Below w.heap.size w w10) := HB10.out.trans (hb.mono HB10.out.size)
            have HA10 := blk HA9.out hb
            clear HA9 hb
            have HA9 : Hid _ := HA10
            have r0 := cell_of_row _ _ 0 _ _ _ HA9.out
            have r1 := cell_of_row _ _ 1 _ _ _ HA9.out
            have r2 := cell_of_row _ _ 2 _ _ _ HA9.out
            have f0 := frozen_of_row _ _ 0 _ _ HA9.out
            have f1 := frozen_of_row _ _ 1 _ _ HA9.out
            have f2 := frozen_of_row _ _ 2 _ _ HA9.out
            simp at r0 r1 r2 f0 f1 f2
            clear HA10 k1 HCL
            go_wp2_with fail
            refine bodyPost_ret (v := .agg #[.int .i64 2, .int .i64 (-1), .int .i64 (0)]) (by simp [results, Tryz.results77, go_sem, r0, r1, r2]) rfl ⟨?_, ((HB11.out.setCell (by simp) _).setCell (by simp) _).setCell (by simp) _⟩
            have e := HCV.out
            injection e with e1 e3
            injection e1 with e1 e2
            rw [e1, e2, e3]
          · have HCV : Hid (((c1, c2), c3) = ((0, 0), 1 + sm)) := by unfold Hid; rw [HCW.out, if_neg (by rw [HBU.out]; exact fun h => h.elim hbu hce), HBU.out]
            clear HCW hbu
            go_wp2_with fail
            refine (HCL.out _ HRV8.out).mono ?_
            rintro e w10 ⟨rfl, hb⟩
            have HB11 : Hid (Below w.heap.size w w10) := HB10.out.trans (hb.mono HB10.out.size)
            have HA10 := blk HA9.out hb
            clear HA9 hb
            have HA9 : Hid _ := HA10
            have r0 := cell_of_row _ _ 0 _ _ _ HA9.out
            have r1 := cell_of_row _ _ 1 _ _ _ HA9.out
            have r2 := cell_of_row _ _ 2 _ _ _ HA9.out
            have f0 := frozen_of_row _ _ 0 _ _ HA9.out
            have f1 := frozen_of_row _ _ 1 _ _ HA9.out
            have f2 := frozen_of_row _ _ 2 _ _ HA9.out
            simp at r0 r1 r2 f0 f1 f2
            clear HA10 k1 HCL
            go_wp2_with fail
            refine bodyPost_ret (v := .agg #[.int .i64 0, .int .i64 (0), .int .i64 (1 + sm)]) (by simp [results, Tryz.results77, go_sem, r0, r1, r2]) rfl ⟨?_, ((HB11.out.setCell (by simp) _).setCell (by simp) _).setCell (by simp) _⟩
            have e := HCV.out
            injection e with e1 e3
            injection e1 with e1 e2
            rw [e1, e2, e3]
      · have hsb : (s1 == 0) = false := by simpa using hs1
        have hsd : decide (s1 = 0) = false := decide_eq_false hs1
        have HCW : Hid (((c1, c2), c3) = ((s1, s2), 0)) := by unfold Hid; rw [HCB.out, if_pos hs1]
        clear HCB
        go_wp2_with fail
        refine bodyPost_ret (v := .agg #[.int .i64 s1, .int .i64 s2, .int .i64 0]) (by simp [results, Tryz.results77, go_sem, r0, r1, r2]) rfl ⟨?_, ((HB6.out.setCell (by simp) _).setCell (by simp) _).setCell (by simp) _⟩
        have e := HCW.out
        injection e with e1 e3
        injection e1 with e1 e2
        rw [e1, e2, e3]
    · have hnb : (N == 0) = false := by simpa using hn
      have hnd : decide (N = 0) = false := decide_eq_false hn
      have HCW : Hid (((c1, c2), c3) = ((N, -1), 0)) := by unfold Hid; rw [HCN.out, if_pos hn]
      have r0 := cell_of_row _ _ 0 _ _ _ HA3.out
      have r1 := cell_of_row _ _ 1 _ _ _ HA3.out
      have r2 := cell_of_row _ _ 2 _ _ _ HA3.out
      have f0 := frozen_of_row _ _ 0 _ _ HA3.out
      have f1 := frozen_of_row _ _ 1 _ _ HA3.out
      have f2 := frozen_of_row _ _ 2 _ _ HA3.out
      simp at r0 r1 r2 f0 f1 f2
      clear HCN
      go_wp2_with fail
      refine bodyPost_ret (v := .agg #[.int .i64 N, .int .i64 (-1), .int .i64 0]) (by simp [results, Tryz.results77, go_sem, r0, r1, r2]) rfl ⟨?_, ((HB3.out.setCell (by simp) _).setCell (by simp) _).setCell (by simp) _⟩
      have e := HCW.out
      injection e with e1 e3
      injection e1 with e1 e2
      rw [e1, e2, e3]
  · have hzb : (F == 0) = false := by simpa using hz
    have hzd : decide (F = 0) = false := decide_eq_false hz
    have HCW : Hid (((c1, c2), c3) = ((F, -1), 0)) := by unfold Hid; rw [HC.out, hF, if_pos hz]
    have r0 := cell_of_row _ _ 0 _ _ _ HA.out
    have r1 := cell_of_row _ _ 1 _ _ _ HA.out
    have r2 := cell_of_row _ _ 2 _ _ _ HA.out
    have f0 := frozen_of_row _ _ 0 _ _ HA.out
    have f1 := frozen_of_row _ _ 1 _ _ HA.out
    have f2 := frozen_of_row _ _ 2 _ _ HA.out
    simp at r0 r1 r2 f0 f1 f2
    clear HC hF
    go_wp2_with fail
    refine bodyPost_ret (v := .agg #[.int .i64 F, .int .i64 (-1), .int .i64 0]) (by simp [results, Tryz.results77, go_sem, r0, r1, r2]) rfl ⟨?_, ((HB.out.setCell (by simp) _).setCell (by simp) _).setCell (by simp) _⟩
    have e := HCW.out
    injection e with e1 e3
    injection e1 with e1 e2
    rw [e1, e2, e3]

theorem specCheckTree_of (lo : Nat) (vv vn vb : Value) (T : LTree) (w : World) (h : TreeV lo w vv vn vb T) (hS : Sized 1048576 T) :
    Calls Tryz.prog 23 #[treeV vv vn vb] w fun e w' => e = .returned (.agg #[.int .i64 (chkT T).1.1, .int .i64 (chkT T).1.2, .int .i64 (chkT T).2]) ∧ Below w.heap.size w w' := by
  have HX : Hid (∀ (W : World), Below w.heap.size w W → W.heap[w.heap.size]? = some (.cells #[vv, vn, vb] 28 (0, 0)) → Calls Tryz.prog 77 #[.pointer (some ⟨w.heap.size, 0, none⟩)] W fun e w' => e = .returned (.agg #[.int .i64 (chkT T).1.1, .int .i64 (chkT T).1.2, .int .i64 (chkT T).2]) ∧ Below W.heap.size W w') := fun W hb hA =>
    l5Tree_any lo w.heap.size vv vn vb T W ⟨cell_of_row _ _ 0 _ _ _ hA, cell_of_row _ _ 1 _ _ _ hA, cell_of_row _ _ 2 _ _ _ hA, h.below hb⟩ hS
  obtain ⟨av, cv, rfl, _⟩ := id h.vars
  obtain ⟨an, cn, rfl, _⟩ := id h.nodes
  obtain ⟨ab, cb, rfl, _⟩ := id h.body
  clear h hS
  generalize (chkT T).1.1 = c1 at *
  generalize (chkT T).1.2 = c2 at *
  generalize (chkT T).2 = c3 at *
  go_enter Tryz.func23, Tryz.ntmps23
  go_wp2_with fail
  obtain ⟨hA, hA2, hB⟩ := three_start w (.slice av T.vars.length cv) (.slice an T.nodes.length cn) (.slice ab T.body.length cb) 28 34
  generalize ((w.alloc (.cells #[.slice av T.vars.length cv, .slice an T.nodes.length cn, .slice ab T.body.length cb] 28)).alloc (.cells #[.int .i64 0, .int .i64 0, .int .i64 0] 34)) = W at *
  refine (HX.out _ hB hA).mono ?_
  rintro e w2 ⟨rfl, hb⟩
  have hA3 := blk hA2 hb
  have HB : Hid (Below w.heap.size w w2) := hB.trans (hb.mono hB.size)
  have r0 := cell_of_row _ _ 0 _ _ _ hA3
  have r1 := cell_of_row _ _ 1 _ _ _ hA3
  have r2 := cell_of_row _ _ 2 _ _ _ hA3
  have f0 := frozen_of_row _ _ 0 _ _ hA3
  have f1 := frozen_of_row _ _ 1 _ _ hA3
  have f2 := frozen_of_row _ _ 2 _ _ hA3
  simp at r0 r1 r2 f0 f1 f2
  clear hA hA2 hB hb hA3 HX
  go_wp2_with fail
  refine bodyPost_ret (v := .agg #[.int .i64 c1, .int .i64 c2, .int .i64 c3]) (by simp [results, Tryz.results23, go_sem, r0, r1, r2]) rfl ⟨rfl, ((HB.out.setCell (by simp) _).setCell (by simp) _).setCell (by simp) _⟩
end Go.Proofs.YtdnhmpemkpjcaaaGreatDoor
namespace Go.Proofs.YtdnhmpemkpjcaaaGreatDoor
open Go.RowKit
set_option linter.unusedVariables false
attribute [local go_sem] bs_size bs_get bs_extract bs_append bs_eq bs_toList

set_option maxHeartbeats 6400000 in
set_option maxRecDepth 100000 in
theorem budgetOf_any (lo : Nat) (vv vn vb : Value) (T : LTree) (w : World) (h : TreeV lo w vv vn vb T) (hS : Sized 1048576 T) (hG : Good T) :
    Calls Tryz.prog 54 #[treeV vv vn vb] w fun e w' => e = .returned (.int .i64 (budT T)) ∧ Below w.heap.size w w' := by
  obtain ⟨av, cv, rfl, _⟩ := id h.vars
  obtain ⟨an, cn, rfl, _⟩ := id h.nodes
  obtain ⟨ab, cb, rfl, _⟩ := id h.body
  have HCO : Hid (∀ (w' : World), Below w.heap.size w w' → Calls Tryz.prog 116 #[.slice an T.nodes.length cn] w' fun e w2 => e = .returned (.slice (some ⟨w'.heap.size, 0, none⟩) T.nodes.length T.nodes.length) ∧ Cnt w2 w'.heap.size 2 (costsF T.nodes T.nodes.length) ∧ Below w'.heap.size w' w2) := fun w' hb =>
    costs_any lo an cn T.nodes w' (h.nodes.below hb) hG.nodes (hG.tame hS) (fun k n hk => (hG.node k n hk).2)
  have HSU : Hid (∀ (a : Option Addr) (c : Nat) (W : World), Below w.heap.size w W → Nums W a (costsF T.nodes T.nodes.length) → Calls Tryz.prog 115 #[.slice a T.nodes.length c, .slice ab T.body.length cb] W fun e w' => e = .returned (.int .i64 (sumAtL (costsF T.nodes T.nodes.length) T.body)) ∧ w' = W) := fun a c W hb hn =>
    sumAt_any (costsF T.nodes T.nodes.length) T.body a T.nodes.length c W.heap.size _ W (costsF_len _ _) (by have := hG.nodes; omega) hn ((h.below hb).body).toB hG.body (costsF_le T.nodes (hG.tame hS) _ (Nat.le_refl _)) hS.body
  have hsb := sum_big (costsF_le T.nodes (hG.tame hS) _ (Nat.le_refl _)) hS.body
  have HDL : Hid ((costsF T.nodes T.nodes.length).length = T.nodes.length) := costsF_len _ _
  have HBU : Hid (budT T = 1 + sumAtL (costsF T.nodes T.nodes.length) T.body) := rfl
  clear h hS hG
  obtain ⟨ds, hds⟩ : ∃ ds, ds = costsF T.nodes T.nodes.length := ⟨_, rfl⟩
  rw [← hds] at HCO HSU hsb HDL HBU
  clear hds
  obtain ⟨sm, hsm⟩ : ∃ sm, sm = sumAtL ds T.body := ⟨_, rfl⟩
  rw [← hsm] at HSU hsb HBU
  clear hsm
  go_enter Tryz.func54, Tryz.ntmps54
  go_wp2_with fail
  have hb1 : Below w.heap.size w (w.alloc (.cells #[.slice av T.vars.length cv, .slice an T.nodes.length cn, .slice ab T.body.length cb] 28)) := (Below.refl _ _).alloc (Nat.le_refl _) _
  have hA := heap_alloc_new w (.cells #[.slice av T.vars.length cv, .slice an T.nodes.length cn, .slice ab T.body.length cb] 28)
  generalize w.alloc (.cells #[.slice av T.vars.length cv, .slice an T.nodes.length cn, .slice ab T.body.length cb] 28) = W1 at *
  have p1 : W1.cell? ⟨w.heap.size, 1, none⟩ = some (.slice an T.nodes.length cn) := cell_of_row _ _ 1 _ _ _ hA
  have p2 : W1.cell? ⟨w.heap.size, 2, none⟩ = some (.slice ab T.body.length cb) := cell_of_row _ _ 2 _ _ _ hA
  have hlt := blk_lt hA
  have HB1 : Hid (Below w.heap.size w W1.drew) := hb1.drew
  clear hA hb1
  go_region_held3 (fun Z => Z.cell? ⟨w.heap.size, 1, none⟩ = some (.slice an T.nodes.length cn) ∧ Z.cell? ⟨w.heap.size, 2, none⟩ = some (.slice ab T.body.length cb)) (go_keep) (first | (go_at_call 116; refine (HCO.out _ HB1.out).mono ?_; rintro e w7 ⟨rfl, hcnt, hb7⟩; have q1 := (hb7.cell (p := ⟨w.heap.size, 1, none⟩) hlt).trans p1; have q2 := (hb7.cell (p := ⟨w.heap.size, 2, none⟩) hlt).trans p2; have HNU : Hid (Nums w7 (some ⟨W1.drew.heap.size, 0, none⟩) ds) := .inr ⟨_, 0, rfl, fun i hi => by rw [Nat.zero_add]; exact (hcnt.cell i hi).1⟩; have HB9 : Hid (Below w.heap.size w w7) := HB1.out.trans (hb7.mono HB1.out.size); clear hcnt hb7) | (go_at_call 115; refine (HSU.out _ _ _ HB9.out HNU.out).mono ?_; rintro e w8 ⟨rfl, rfl⟩))
  clear p1 p2 q1 q2 HCO HSU
  go_wp2_with fail
  go_ret
  have e : Ending.returned (Value.int .i64 (IntKind.i64.wrap (1 + sm))) = Ending.returned (Value.int .i64 (budT T)) := by rw [HBU.out, IntWalk.i64_in _ (by omega)]
  exact ⟨e, HB9.out⟩
end Go.Proofs.YtdnhmpemkpjcaaaGreatDoor
namespace Go.Proofs.YtdnhmpemkpjcaaaGreatDoor
open Go.RowKit
open Go.Maps
set_option linter.unusedVariables false

theorem first_some (V : List LVar) (nm : List UInt8) : ∀ k, k ≤ V.length → ((firstI V nm k).isSome = true ↔ ∃ v ∈ V.take k, v.name = nm) := by
  intro k
  induction k with
  | zero => intro _; simp [firstI]
  | succ k ih =>
    intro hk
    have hk2 : k < V.length := by omega
    rw [List.take_succ_eq_append_getElem hk2]
    have e : V.getD k default = V[k] := by rw [List.getD_eq_getElem?_getD, List.getElem?_eq_getElem hk2]; rfl
    cases hf : firstI V nm k with
    | some i =>
      rw [firstI_some hf]
      have h1 := (ih (by omega)).1 (by rw [hf]; rfl)
      obtain ⟨v, hv, e2⟩ := h1
      exact ⟨fun _ => ⟨v, List.mem_append.2 (.inl hv), e2⟩, fun _ => rfl⟩
    | none =>
      have h1 : ¬ ∃ v ∈ V.take k, v.name = nm := fun h => by
        have := (ih (by omega)).2 h
        rw [hf] at this; cases this
      by_cases he : (V.getD k default).name = nm
      · rw [firstI_hit hf he]
        rw [e] at he
        exact ⟨fun _ => ⟨V[k], List.mem_append.2 (.inr (List.mem_singleton.2 rfl)), he⟩, fun _ => rfl⟩
      · rw [firstI_miss hf he]
        rw [e] at he
        refine ⟨fun h => (by cases h), fun ⟨v, hv, e2⟩ => ?_⟩
        rcases List.mem_append.1 hv with hv | hv
        · exact absurd ⟨v, hv, e2⟩ h1
        · rw [List.mem_singleton] at hv; subst hv; exact absurd e2 he
theorem nameD_tidy (V : List LVar) (nv : Nat) : ∀ k, Tidy (nameD V nv k) := by
  intro k
  induction k with
  | zero => exact tidy_empty
  | succ k ih =>
    unfold nameD
    split
    · exact ih
    · exact ih.put (key_lit _) _
theorem nameD_size (V : List LVar) (nv : Nat) : ∀ k, k ≤ V.length → Maps.size (nameD V nv k) ≤ k ∧ (Maps.size (nameD V nv k) = k ↔ ∀ j, j < k → varFrom (V.getD j default).name (V.take j) 0 < 0) := by
  intro k
  induction k with
  | zero => intro _; exact ⟨Nat.le_refl _, ⟨fun _ j hj => by omega, fun _ => rfl⟩⟩
  | succ k ih =>
    intro hk
    obtain ⟨h1, h2⟩ := ih (by omega)
    have hfs := first_some V (V.getD k default).name k (by omega)
    have hvm := varFrom_mem (V.getD k default).name (V.take k) 0
    unfold nameD
    by_cases hs : (firstI V (V.getD k default).name k).isSome = true
    · rw [if_pos hs]
      refine ⟨by omega, ⟨fun e => by omega, fun h => ?_⟩⟩
      have h3 := h k (by omega)
      have h4 := hvm.2 (hfs.1 hs)
      omega
    · rw [if_neg hs, size_put (nameD_tidy V nv k)]
      rw [(nameD_at V nv (.held noVal) k (V.getD k default).name).1, if_neg hs]
      have h5 : varFrom (V.getD k default).name (V.take k) 0 < 0 := Classical.byContradiction fun h => hs (hfs.2 (hvm.1 (by omega)))
      refine ⟨by omega, ⟨fun e j hj => ?_, fun h => ?_⟩⟩
      · by_cases ej : j = k
        · rw [ej]; exact h5
        · exact h2.1 (by omega) j (by omega)
      · have := h2.2 (fun j hj => h j (by omega)); omega
theorem size_dup (V : List LVar) (nv : Nat) : Maps.size (nameD V nv V.length) ≤ V.length ∧ (Maps.size (nameD V nv V.length) < V.length ↔ dupB V = true) := by
  obtain ⟨h1, h2⟩ := nameD_size V nv V.length (Nat.le_refl _)
  refine ⟨h1, ⟨fun h => ?_, fun h => ?_⟩⟩
  · cases hd : dupB V with
    | true => rfl
    | false =>
      exfalso
      have : Maps.size (nameD V nv V.length) = V.length := h2.2 fun j hj => by
        refine Classical.byContradiction fun hh => ?_
        rw [dup_hit hj (by omega)] at hd; cases hd
      omega
  · refine Nat.lt_of_le_of_ne h1 fun e => ?_
    have := dup_none (h2.1 e)
    rw [this] at h; cases h
end Go.Proofs.YtdnhmpemkpjcaaaGreatDoor
namespace Go.Proofs.YtdnhmpemkpjcaaaGreatDoor
open Go.RowKit
set_option linter.unusedVariables false
attribute [local go_sem] bs_size bs_get bs_extract bs_append bs_eq bs_toList

set_option maxHeartbeats 6400000 in
set_option maxRecDepth 100000 in
theorem namesFault_any (V : List LVar) (nv : Nat) (ad : Option Addr) (k c : Nat) (w : World) (hk : k = V.length) (hV : RowE w ad V nv) (hl : V.length ≤ 624) (hn : ∀ x ∈ V, x.name.length ≤ 1048576) (hnv : nv ≤ V.length) :
    Calls Tryz.prog 113 #[.slice ad k c] w fun e w' => e = .returned (.int .i64 (namesF V nv)) ∧ Below w.heap.size w w' := by
  subst hk
  have HV : Hid (RowE w ad V nv) := hV
  have HBN : Hid (Calls Tryz.prog 58 #[.slice ad V.length c] w fun e w' => e = .returned (.map (some w.heap.size)) ∧ w'.ownsMap Tryz.prog 9 heldR w.heap.size V.length (nameD V nv V.length) ∧ Below w.heap.size w w') := byName_any V nv ad V.length c w rfl hV hl hn
  have HNM : Hid (∀ x ∈ V, x.name.length ≤ 1048576) := hn
  obtain ⟨hsd1, hsd2⟩ := size_dup V nv
  obtain ⟨sz, hsz⟩ : ∃ sz, sz = Maps.size (nameD V nv V.length) := ⟨_, rfl⟩
  have HLEN : Hid (∀ (W : World), W.ownsMap Tryz.prog 9 heldR w.heap.size V.length (nameD V nv V.length) → (Builtin.len_ #[102] 3 #[.map (some w.heap.size)]).run Tryz.prog W = .ok (.int .i64 (sz : Int)) W) := fun W h => by rw [hsz]; exact h.len Tryz.underlying102 _
  rw [← hsz] at hsd1 hsd2
  obtain ⟨R, hR⟩ : ∃ R, R = namesF V nv := ⟨_, rfl⟩
  rw [← hR]
  have HR : Hid (R = if dupB V then 7 else if (V.drop nv).any (fun v => !isNameL v.name) then 5 else 0) := hR
  clear hV hn hR hsz
  go_enter Tryz.func113, Tryz.ntmps113
  go_wp2_with fail
  refine HBN.out.mono ?_
  rintro e w1 ⟨rfl, hm, hb⟩
  have hlen := HLEN.out w1 hm
  have HB : Hid (Below w.heap.size w w1) := hb
  clear hm hb HBN HLEN
  by_cases hd : sz < V.length
  · have HR2 : Hid (R = 7) := by unfold Hid; rw [HR.out, hsd2.1 hd, if_pos rfl]
    clear HR hsd2
    go_wp2_with fail
    go_ret
    exact ⟨by rw [HR2.out]; rfl, HB.out⟩
  · have hdf : dupB V = false := by cases h : dupB V with
      | false => rfl
      | true => exact absurd (hsd2.2 h) hd
    have HR2 : Hid (R = if (V.drop (max nv 0)).any (fun v => !isNameL v.name) then 5 else 0) := by unfold Hid; rw [HR.out, hdf, Nat.max_zero]; rfl
    clear HR hsd2 hdf
    go_wp2_with fail
    go_loopw [13] (fun i wr => ∃ j : Nat, j ≤ V.length ∧ i = .int .i64 j ∧ Hid (R = if (V.drop (max nv j)).any (fun v => !isNameL v.name) then 5 else 0) ∧ Hid (Below w.heap.size w wr)) (fun i _ => V.length - (intOf i).toNat)
    case atStart => exact ⟨0, by omega, rfl, HR2, HB⟩
    case round =>
      clear HR2 HB hlen
      obtain ⟨j, hj, rfl, HR, HB⟩ := hrel
      by_cases hlt : j < V.length
      · obtain ⟨x, hx⟩ : ∃ x, V[j]? = some x := ⟨V[j]'(by omega), List.getElem?_eq_getElem _⟩
        obtain ⟨g, rfl, hc⟩ := (HV.out.below HB.out) (by intro e; rw [e] at hx; simp at hx)
        obtain ⟨⟨c0, c1, c2, c3⟩, c4, c5⟩ := hc j x hx
        have hj0 : (0 : Int) ≤ (j : Int) := by omega
        have hj1 : (j : Int) < (V.length : Int) := by omega
        have hxn := HNM.out x (List.mem_of_getElem? hx)
        have hwz := HB.out.size
        have HBX : Hid (∀ o, Below w.heap.size w (wr.alloc o)) := fun o => HB.out.alloc hwz o
        by_cases hov : nv ≤ j
        · have HST : Hid (R = if (!isNameL x.name || (V.drop (j + 1)).any (fun v => !isNameL v.name)) then 5 else 0) := by unfold Hid; rw [HR.out, show max nv j = j by omega, any_drop_step hx]
          have hod : decide (nv ≤ j) = true := decide_eq_true hov
          rw [hod] at c4
          obtain ⟨q, hq⟩ : ∃ q, isNameL x.name = q := ⟨_, rfl⟩
          have HIN : Hid (∀ w, Calls Tryz.prog 104 #[.string (bs x.name)] w fun e w' => e = .returned (.bool q) ∧ w' = w) := fun w => by rw [← hq]; exact iIsName_any x.name w (by omega)
          rw [hq] at HST
          clear hx hc HR hq hod HB
          generalize cellsL (V.take j) = s at *
          cases q with
          | true =>
            have HR3 : Hid (R = if (V.drop (max nv (j + 1))).any (fun v => !isNameL v.name) then 5 else 0) := by unfold Hid; rw [show max nv (j + 1) = j + 1 by omega]; exact HST.out
            clear HST hov
            go_wp2_with fail
            refine (HIN.out _).mono ?_
            rintro e w8 ⟨rfl, rfl⟩
            have HB8 : Hid (Below w.heap.size w _) := HBX.out (.cells #[.string (bs x.name), .int .i64 x.kind, .int .i64 x.type, .int .i64 x.size, .bool true, .int .i64 s] 100)
            clear HIN c0 c1 c2 c3 c4 c5
            go_wp2_with fail
            go_roundw
            case rel => exact ⟨j + 1, by omega, by go_num, HR3, HB8⟩
            case measure => simp [intOf]; omega
          | false =>
            have HR3 : Hid (R = 5) := by unfold Hid; rw [HST.out]; rfl
            clear HST hov
            go_wp2_with fail
            refine (HIN.out _).mono ?_
            rintro e w8 ⟨rfl, rfl⟩
            have HB8 : Hid (Below w.heap.size w _) := HBX.out (.cells #[.string (bs x.name), .int .i64 x.kind, .int .i64 x.type, .int .i64 x.size, .bool true, .int .i64 s] 100)
            clear HIN c0 c1 c2 c3 c4 c5
            go_wp2_with fail
            go_ret
            exact ⟨by rw [HR3.out]; rfl, HB8.out⟩
        · have HR3 : Hid (R = if (V.drop (max nv (j + 1))).any (fun v => !isNameL v.name) then 5 else 0) := by unfold Hid; rw [HR.out, show max nv (j + 1) = max nv j by omega]
          have hod : decide (nv ≤ j) = false := decide_eq_false hov
          rw [hod] at c4
          clear hx hc HR hod HB hov
          generalize cellsL (V.take j) = s at *
          have HB8 : Hid (Below w.heap.size w _) := HBX.out (.cells #[.string (bs x.name), .int .i64 x.kind, .int .i64 x.type, .int .i64 x.size, .bool false, .int .i64 s] 100)
          go_wp2_with fail
          go_roundw
          case rel => exact ⟨j + 1, by omega, by go_num, HR3, HB8⟩
          case measure => simp [intOf]; omega
      · have hje : j = V.length := by omega
        have HR3 : Hid (R = 0) := by unfold Hid; rw [HR.out, show max nv j = V.length by omega, List.drop_length]; rfl
        clear HR hje
        go_wp2_with fail
        go_ret
        exact ⟨by rw [HR3.out]; rfl, HB.out⟩
end Go.Proofs.YtdnhmpemkpjcaaaGreatDoor
namespace Go.Proofs.YtdnhmpemkpjcaaaGreatDoor
open Go.RowKit
set_option linter.unusedVariables false
attribute [local go_sem] bs_size bs_get bs_extract bs_append bs_eq bs_toList

/-- what impl's check meets of a right tree -/
def mayF (T : LTree) : Met :=
  if namesF (allL 0 T) T.vars.length ≠ 0 then (namesF (allL 0 T) T.vars.length, -1)
  else if (bodyF (allL 0 T) T).1 ≠ 0 then bodyF (allL 0 T) T else if 2000 < budT T ∨ 60 < cellsL (allL 0 T) then (2, -1) else (0, 0)

set_option maxHeartbeats 12800000 in
set_option maxRecDepth 100000 in
theorem mayRun_any (lo : Nat) (vv vn vb : Value) (T : LTree) (w : World) (h : TreeV lo w vv vn vb T) (hS : Sized 1048576 T) (h0 : faultL T = 0) :
    Calls Tryz.prog 53 #[treeV vv vn vb] w fun e w' => e = .returned (errV (mayF T)) ∧ Below w.heap.size w w' := by
  have hG := good_of h0
  have HVA : Hid (∀ (w' : World), Below w.heap.size w w' → Calls Tryz.prog 51 #[treeV vv vn vb] w' fun e w2 => ∃ v, e = .returned v ∧ w2.ownsRow w'.heap.size 100 6 v (allL 0 T).length (entC (allL 0 T) T.vars.length (allL 0 T).length) ∧ Below w'.heap.size w' w2) := fun w' hb => variablesOf_any lo vv vn vb T w' (h.below hb) hG
  have HNF : Hid (∀ (ad : Option Addr) (c : Nat) (W : World), RowE W ad (allL 0 T) T.vars.length → Calls Tryz.prog 113 #[.slice ad (allL 0 T).length c] W fun e w' => e = .returned (.int .i64 (namesF (allL 0 T) T.vars.length)) ∧ Below W.heap.size W w') := fun ad c W hr =>
    namesFault_any (allL 0 T) T.vars.length ad _ c W rfl hr (hG.all_len 0) (fun x hx => by have := all_names hG 0 x hx; omega) (by unfold allL; rw [List.length_append]; omega)
  have HCC : Hid (∀ (ad : Option Addr) (c : Nat) (W : World), RowE W ad (allL 0 T) T.vars.length → Calls Tryz.prog 50 #[.slice ad (allL 0 T).length c] W fun e w' => e = .returned (.int .i64 (cellsL (allL 0 T))) ∧ Below W.heap.size W w') := fun ad c W hr => cellCount_any (allL 0 T) T.vars.length ad _ c W rfl hr (hG.sizes 0) (hG.all_len 0)
  have HBU : Hid (∀ (w' : World), Below w.heap.size w w' → Calls Tryz.prog 54 #[treeV vv vn vb] w' fun e w2 => e = .returned (.int .i64 (budT T)) ∧ Below w'.heap.size w' w2) := fun w' hb => budgetOf_any lo vv vn vb T w' (h.below hb) hS hG
  have HNC : Hid (∀ (w' : World), Below w.heap.size w w' → Calls Tryz.prog 72 #[treeV vv vn vb] w' fun e w2 => (∃ cp mp W0, e = .returned (.pointer (some ⟨cp, 0, none⟩)) ∧ CkB lo W0 cp mp vn T (allL 0 T) ∧ ICk W0 w2 cp mp vn (.slice none 0 0) ∧ Below w'.heap.size w' W0) ∧ Below w'.heap.size w' w2) := fun w' hb => newChecker_ctx lo vv vn vb T w' (h.below hb) hG
  have HST : Hid (∀ (W0 W : World) (cp mp : Nat), Below w.heap.size w W0 → CkB lo W0 cp mp vn T (allL 0 T) → ICk W0 W cp mp vn (.slice none 0 0) → Calls Tryz.prog 114 #[.pointer (some ⟨cp, 0, none⟩), vb] W fun e w' => e = .returned (errV (bodyF (allL 0 T) T)) ∧ Below W0.heap.size W w') := fun W0 W cp mp hb hck hic => by
    have hct : CkT lo W0 cp mp vn T (allL 0 T) := ⟨hck, fun vl f x hx hk hf => typeOf_all lo cp mp vn vl T (allL 0 T) (types_ok hG 0) (fits_of h0) (names_small hS) x hx hk f (by omega), fits_of h0, kin_of h0, stk_of h0, hS⟩
    refine (statements_all lo W0 cp mp (cp + 1) 0 vn T hct rfl T.nodes.length (Nat.le_refl _) [] T.body (by have := hG.nodes; simp; omega) hS.body (fun x hx => ⟨hG.body x hx, body_stat h0 x hx⟩) W vb _ hic (LoopO.nil _ _) (h.below hb).body).mono ?_
    rintro e w' ⟨he, vl, _, _, hd⟩
    exact ⟨he, hd.belowN hck.low hic.bel.size rfl⟩
  have hbb : 0 ≤ budT T ∧ budT T ≤ 104857600001 := by
    have := sum_big (costsF_le T.nodes (hG.tame hS) _ (Nat.le_refl _)) hS.body
    unfold budT; omega
  obtain ⟨av, cv, rfl, _⟩ := id h.vars
  obtain ⟨an, cn, rfl, _⟩ := id h.nodes
  obtain ⟨ab, cb, rfl, _⟩ := id h.body
  clear h hS h0 hG
  obtain ⟨R, hR⟩ : ∃ R, R = mayF T := ⟨_, rfl⟩
  rw [← hR]
  have HR : Hid (R = if namesF (allL 0 T) T.vars.length ≠ 0 then (namesF (allL 0 T) T.vars.length, -1)
    else if (bodyF (allL 0 T) T).1 ≠ 0 then bodyF (allL 0 T) T else if 2000 < budT T ∨ 60 < cellsL (allL 0 T) then (2, -1) else (0, 0)) := hR
  clear hR
  generalize namesF (allL 0 T) T.vars.length = F at *
  generalize bodyF (allL 0 T) T = Bd at *
  generalize budT T = bu at *
  obtain ⟨b1, b2⟩ := Bd
  go_enter Tryz.func53, Tryz.ntmps53
  go_wp2_with fail
  have hA := heap_alloc_new w (.cells #[.slice av T.vars.length cv, .slice an T.nodes.length cn, .slice ab T.body.length cb] 28)
  have hb1 : Below w.heap.size w (w.alloc (.cells #[.slice av T.vars.length cv, .slice an T.nodes.length cn, .slice ab T.body.length cb] 28)) := (Below.refl _ _).alloc (Nat.le_refl _) _
  generalize w.alloc (.cells #[.slice av T.vars.length cv, .slice an T.nodes.length cn, .slice ab T.body.length cb] 28) = W1 at *
  refine (HVA.out _ hb1).mono ?_
  rintro e w2 ⟨v, rfl, hown, hb⟩
  obtain ⟨ad, cp0, rfl⟩ := rowE_shape hown
  have HRE : Hid (RowE w2 ad (allL 0 T) T.vars.length) := RowE.of_own hown rfl
  have HA : Hid (w2.heap[w.heap.size]? = some (.cells #[.slice av T.vars.length cv, .slice an T.nodes.length cn, .slice ab T.body.length cb] 28 (0, 0))) := blk hA hb
  have HB : Hid (Below w.heap.size w w2) := hb1.trans (hb.mono hb1.size)
  clear hA hb1 hb hown HVA
  go_wp2_with fail
  refine (HNF.out _ _ _ HRE.out).mono ?_
  rintro e w3 ⟨rfl, hb⟩
  have HRE3 : Hid (RowE w3 ad (allL 0 T) T.vars.length) := HRE.out.below hb
  have hA3 := blk HA.out hb
  have HA3 : Hid (w3.heap[w.heap.size]? = some (.cells #[.slice av T.vars.length cv, .slice an T.nodes.length cn, .slice ab T.body.length cb] 28 (0, 0))) := hA3
  have HB3 : Hid (Below w.heap.size w w3) := HB.out.trans (hb.mono HB.out.size)
  clear hb hA3 HRE HA HB HNF
  by_cases hF : F = 0
  · subst hF
    have HR2 : Hid (R = if b1 ≠ 0 then (b1, b2) else if 2000 < bu ∨ 60 < cellsL (allL 0 T) then (2, -1) else (0, 0)) := by unfold Hid; rw [HR.out, if_neg (by simp)]
    clear HR
    have p0 : w3.cell? ⟨w.heap.size, 0, none⟩ = some (.slice av T.vars.length cv) := cell_of_row _ _ 0 _ _ _ HA3.out
    have p1 : w3.cell? ⟨w.heap.size, 1, none⟩ = some (.slice an T.nodes.length cn) := cell_of_row _ _ 1 _ _ _ HA3.out
    have p2 : w3.cell? ⟨w.heap.size, 2, none⟩ = some (.slice ab T.body.length cb) := cell_of_row _ _ 2 _ _ _ HA3.out
    have hlt : w.heap.size < w3.heap.size := blk_lt HA3.out
    have HBD : Hid (Below w.heap.size w w3.drew) := HB3.out.drew
    have HX : Hid (w3.drew.heap[w.heap.size]? = some (.cells #[.slice av T.vars.length cv, .slice an T.nodes.length cn, .slice ab T.body.length cb] 28 (0, 0)) ∧ RowE w3.drew ad (allL 0 T) T.vars.length) := ⟨HA3.out, fun hne => HRE3.out hne⟩
    go_wp2_with fail
    go_region_held3 (fun Z => Z.cell? ⟨w.heap.size, 0, none⟩ = some (.slice av T.vars.length cv) ∧ Z.cell? ⟨w.heap.size, 1, none⟩ = some (.slice an T.nodes.length cn) ∧ Z.cell? ⟨w.heap.size, 2, none⟩ = some (.slice ab T.body.length cb)) (go_keep) (first | (go_at_call 72; refine (HNC.out _ HBD.out).mono ?_; rintro e w5 ⟨⟨cp, mp, W0, rfl, hck, hic, hw0⟩, hb5⟩; have s0 := (hb5.cell (p := ⟨w.heap.size, 0, none⟩) hlt).trans p0; have s1 := (hb5.cell (p := ⟨w.heap.size, 1, none⟩) hlt).trans p1; have s2 := (hb5.cell (p := ⟨w.heap.size, 2, none⟩) hlt).trans p2; have HS5 : Hid (Calls Tryz.prog 114 #[.pointer (some ⟨cp, 0, none⟩), .slice ab T.body.length cb] w5 fun e w' => e = .returned (errV (b1, b2)) ∧ Below W0.heap.size w5 w') := HST.out W0 w5 cp mp (HBD.out.trans (hw0.mono HBD.out.size)) hck hic; have HB5 : Hid (Below w3.drew.heap.size w3.drew w5) := hb5; have HW0 : Hid (w3.drew.heap.size ≤ W0.heap.size) := hw0.size; clear hck hic hw0 hb5) | (go_at_call 114; refine HS5.out.mono ?_; rintro e w6 ⟨rfl, hb6⟩; have HB6 : Hid (Below w3.drew.heap.size w3.drew w6) := HB5.out.trans (hb6.mono HW0.out); have u0 := (HB6.out.cell (p := ⟨w.heap.size, 0, none⟩) hlt).trans p0; have u1 := (HB6.out.cell (p := ⟨w.heap.size, 1, none⟩) hlt).trans p1; have u2 := (HB6.out.cell (p := ⟨w.heap.size, 2, none⟩) hlt).trans p2; clear hb6))
    have HB7 : Hid (Below w.heap.size w w6) := HBD.out.trans (HB6.out.mono HBD.out.size)
    have HRE7 : Hid (RowE w6 ad (allL 0 T) T.vars.length) := HX.out.2.below HB6.out
    clear p0 p1 p2 s0 s1 s2 HS5 HB5 HW0 HB6 HX HBD HRE3 HA3 HB3 HNC HST
    by_cases hb : b1 = 0
    · subst hb
      have HR3 : Hid (R = if 2000 < bu ∨ 60 < cellsL (allL 0 T) then (2, -1) else (0, 0)) := by unfold Hid; rw [HR2.out, if_neg (by simp)]
      rw [errV_zero rfl]
      clear HR2
      go_wp2_with fail
      refine (HBU.out _ HB7.out).mono ?_
      rintro e w8 ⟨rfl, hb8⟩
      have HB8 : Hid (Below w.heap.size w w8) := HB7.out.trans (hb8.mono HB7.out.size)
      have HRE8 : Hid (RowE w8 ad (allL 0 T) T.vars.length) := HRE7.out.below hb8
      clear hb8 HB7 HRE7 u0 u1 u2 HBU
      by_cases hbu : 2000 < bu
      · have hbd : decide ((2000 : Int) < bu) = true := decide_eq_true hbu
        have HRR : Hid (errV R = .iface 89 (.agg #[.int .i64 2, .int .i64 (-1)])) := by unfold Hid; rw [HR3.out, if_pos (Or.inl hbu), errV_met (show (((2 : Int), (-1 : Int)) : Met).1 ≠ 0 from by simp)]
        clear HR3 hbu HCC
        go_wp2_with fail
        go_ret
        exact ⟨by rw [HRR.out]; rfl, HB8.out⟩
      · have hbd : decide ((2000 : Int) < bu) = false := decide_eq_false hbu
        by_cases hce : 60 < cellsL (allL 0 T)
        · have HRR : Hid (errV R = .iface 89 (.agg #[.int .i64 2, .int .i64 (-1)])) := by unfold Hid; rw [HR3.out, if_pos (Or.inr hce), errV_met (show (((2 : Int), (-1 : Int)) : Met).1 ≠ 0 from by simp)]
          clear HR3 hbu
          go_wp2_with fail
          refine (HCC.out _ _ _ HRE8.out).mono ?_
          rintro e w9 ⟨rfl, hb9⟩
          have HB9 : Hid (Below w.heap.size w w9) := HB8.out.trans (hb9.mono HB8.out.size)
          clear hb9 HB8 HCC HRE8
          go_wp2_with fail
          go_ret
          exact ⟨by rw [HRR.out]; rfl, HB9.out⟩
        · have HRR : Hid (errV R = .nilIface) := by unfold Hid; rw [HR3.out, if_neg (fun h => h.elim hbu hce), errV_zero rfl]
          clear HR3 hbu
          go_wp2_with fail
          refine (HCC.out _ _ _ HRE8.out).mono ?_
          rintro e w9 ⟨rfl, hb9⟩
          have HB9 : Hid (Below w.heap.size w w9) := HB8.out.trans (hb9.mono HB8.out.size)
          clear hb9 HB8 HCC HRE8
          go_wp2_with fail
          go_ret
          exact ⟨by rw [HRR.out]; rfl, HB9.out⟩
    · have HRR : Hid (errV R = .iface 89 (.agg #[.int .i64 b1, .int .i64 b2])) := by unfold Hid; rw [HR2.out, if_pos hb, errV_met (show ((b1, b2) : Met).1 ≠ 0 from hb)]
      rw [errV_met (show ((b1, b2) : Met).1 ≠ 0 from hb)]
      clear HR2 hb HBU HCC
      go_wp2_with fail
      go_ret
      exact ⟨by rw [HRR.out]; rfl, HB7.out⟩
  · have hFb : (F == 0) = false := by simpa using hF
    have hFd : decide (F = 0) = false := decide_eq_false hF
    have HRR : Hid (errV R = .iface 89 (.agg #[.int .i64 F, .int .i64 (-1)])) := by unfold Hid; rw [HR.out, if_pos hF, errV_met (show ((F, (-1 : Int)) : Met).1 ≠ 0 from hF)]
    clear HR hF HNC HST HBU HCC
    go_wp2_with fail
    go_ret
    exact ⟨by rw [HRR.out]; rfl, HB3.out⟩
end Go.Proofs.YtdnhmpemkpjcaaaGreatDoor
namespace Go.Proofs.YtdnhmpemkpjcaaaGreatDoor
open Go.RowKit
set_option linter.unusedVariables false
attribute [local go_sem] bs_size bs_get bs_extract bs_append bs_eq bs_toList

theorem any_name (V W : List LVar) : V.map LVar.name = W.map LVar.name → V.any (fun v => !isNameL v.name) = W.any (fun v => !isNameL v.name) := by
  intro h
  have e : ∀ U : List LVar, U.any (fun v => !isNameL v.name) = (U.map LVar.name).any (fun l => !isNameL l) := fun U => by rw [List.any_map]; rfl
  rw [e, e, h]
theorem names_kind (T : LTree) : namesF (allL 3 T) T.vars.length = namesF (allL 0 T) T.vars.length := by
  unfold namesF
  rw [dup_kind T]
  have : (List.drop T.vars.length (allL 3 T)).any (fun v => !isNameL v.name) = (List.drop T.vars.length (allL 0 T)).any (fun v => !isNameL v.name) := by
    apply any_name
    rw [List.map_drop, List.map_drop, nts_names (allL_nts T)]
  rw [this]
theorem must_kind (T : LTree) : mustT (allL 3 T) T.vars.length T.nodes = mustT (allL 0 T) T.vars.length T.nodes := by
  funext y t st
  unfold mustT
  rw [typeF_kind]
theorem body_kind (T : LTree) : bodyF (allL 3 T) T = bodyF (allL 0 T) T := by unfold bodyF; rw [must_kind]
theorem cells_kind (T : LTree) : cellsL (allL 3 T) = cellsL (allL 0 T) := by
  have h := cellsL_kind T (allL 3 T).length
  rw [List.take_length, allL_len T, List.take_length] at h; exact h
theorem chk_may {T : LTree} (h0 : faultL T = 0) : chkT T = if (mayF T).1 ≠ 0 then (mayF T, 0) else ((0, 0), budT T) := by
  unfold chkT mayF
  rw [if_neg (by simp [h0]), names_kind, body_kind, cells_kind]
  by_cases h1 : namesF (allL 0 T) T.vars.length ≠ 0
  · rw [if_pos h1, if_pos h1, if_pos h1]
  rw [if_neg h1, if_neg h1]
  by_cases h2 : (bodyF (allL 0 T) T).1 ≠ 0
  · rw [if_pos h2, if_pos h2, if_pos h2]
  rw [if_neg h2, if_neg h2]
  by_cases h3 : 2000 < budT T ∨ 60 < cellsL (allL 0 T)
  · rw [if_pos h3, if_pos h3, if_pos (by simp)]
  · rw [if_neg h3, if_neg h3, if_neg (by simp)]

/-- a function of a tree that answers a code, a node and a number -/
def Tree3 (f : FuncId) (R : LTree → Met × Int) : Prop := ∀ (lo : Nat) (vv vn vb : Value) (T : LTree) (w : World), TreeV lo w vv vn vb T → Sized 1048576 T →
  Calls Tryz.prog f #[treeV vv vn vb] w fun e w' => e = .returned (.agg #[.int .i64 (R T).1.1, .int .i64 (R T).1.2, .int .i64 (R T).2]) ∧ Below w.heap.size w w'
/-- the like, where the variable errors.errorType is laid -/
def Tree3G (f : FuncId) (R : LTree → Met × Int) : Prop := ∀ (lo : Nat) (vv vn vb : Value) (T : LTree) (w : World), TreeV lo w vv vn vb T → Sized 1048576 T → ErrT w →
  Calls Tryz.prog f #[treeV vv vn vb] w fun e w' => e = .returned (.agg #[.int .i64 (R T).1.1, .int .i64 (R T).1.2, .int .i64 (R T).2]) ∧ Below w.heap.size w w'
theorem specCheckTree : Tree3 23 chkT := fun lo vv vn vb T w h hS => specCheckTree_of lo vv vn vb T w h hS

set_option maxHeartbeats 6400000 in
set_option maxRecDepth 100000 in
theorem implCheckTree : Tree3G 13 chkT := by
  intro lo vv vn vb T w h hS hE
  have HF : Hid (∀ (w' : World), Below w.heap.size w w' → Calls Tryz.prog 49 #[treeV vv vn vb] w' fun e w2 => e = .returned (.int .i64 (faultL T)) ∧ Below w'.heap.size w' w2) := fun w' hb => implTreeFault lo _ _ _ T w' (h.below hb) hS
  have HM : Hid (faultL T = 0 → ∀ (w' : World), Below w.heap.size w w' → Calls Tryz.prog 53 #[treeV vv vn vb] w' fun e w2 => e = .returned (errV (mayF T)) ∧ Below w'.heap.size w' w2) := fun h0 w' hb => mayRun_any lo vv vn vb T w' (h.below hb) hS h0
  have HBU : Hid (faultL T = 0 → ∀ (w' : World), Below w.heap.size w w' → Calls Tryz.prog 54 #[treeV vv vn vb] w' fun e w2 => e = .returned (.int .i64 (budT T)) ∧ Below w'.heap.size w' w2) := fun h0 w' hb => budgetOf_any lo vv vn vb T w' (h.below hb) hS (good_of h0)
  have HER : Hid (∀ w', Below w.heap.size w w' → ErrT w') := fun w' hb => hE.kept hb
  obtain ⟨av, cv, rfl, _⟩ := id h.vars
  obtain ⟨an, cn, rfl, _⟩ := id h.nodes
  obtain ⟨ab, cb, rfl, _⟩ := id h.body
  have HCM : Hid (faultL T = 0 → chkT T = if (mayF T).1 ≠ 0 then (mayF T, 0) else ((0, 0), budT T)) := chk_may
  have HC0 : Hid (faultL T ≠ 0 → chkT T = ((faultL T, -1), 0)) := fun h0 => by unfold chkT; rw [if_pos h0]
  clear h hS hE
  obtain ⟨⟨⟨c1, c2⟩, c3⟩, hR⟩ : ∃ R, R = chkT T := ⟨_, rfl⟩
  rw [← hR] at HCM HC0 ⊢
  clear hR
  go_enter Tryz.func13, Tryz.ntmps13
  go_wp2_with fail
  obtain ⟨hA, hA2, hB⟩ := three_start w (.slice av T.vars.length cv) (.slice an T.nodes.length cn) (.slice ab T.body.length cb) 28 34
  generalize ((w.alloc (.cells #[.slice av T.vars.length cv, .slice an T.nodes.length cn, .slice ab T.body.length cb] 28)).alloc (.cells #[.int .i64 0, .int .i64 0, .int .i64 0] 34)) = W at *
  refine (HF.out _ hB).mono ?_
  rintro e w2 ⟨rfl, hb⟩
  have HA : Hid (w2.heap[w.heap.size]? = some (.cells #[.slice av T.vars.length cv, .slice an T.nodes.length cn, .slice ab T.body.length cb] 28 (0, 0))) := blk hA hb
  have HA2 : Hid (w2.heap[w.heap.size + 1]? = some (.cells #[.int .i64 0, .int .i64 0, .int .i64 0] 34 (0, 0))) := blk hA2 hb
  have HB : Hid (Below w.heap.size w w2) := hB.trans (hb.mono hB.size)
  clear hA hA2 hB hb HF
  obtain ⟨F, hF⟩ : ∃ F, faultL T = F := ⟨_, rfl⟩
  rw [hF] at HM HBU HCM HC0 ⊢
  clear hF
  by_cases hz : F = 0
  · subst hz
    have HCV : Hid (((c1, c2), c3) = if (mayF T).1 ≠ 0 then (mayF T, 0) else ((0, 0), budT T)) := HCM.out rfl
    have p0 : w2.cell? ⟨w.heap.size, 0, none⟩ = some (.slice av T.vars.length cv) := cell_of_row _ _ 0 _ _ _ HA.out
    have p1 : w2.cell? ⟨w.heap.size, 1, none⟩ = some (.slice an T.nodes.length cn) := cell_of_row _ _ 1 _ _ _ HA.out
    have p2 : w2.cell? ⟨w.heap.size, 2, none⟩ = some (.slice ab T.body.length cb) := cell_of_row _ _ 2 _ _ _ HA.out
    have HM2 : Hid (∀ (w' : World), Below w.heap.size w w' → Calls Tryz.prog 53 #[treeV (.slice av T.vars.length cv) (.slice an T.nodes.length cn) (.slice ab T.body.length cb)] w' fun e w2 => e = .returned (errV (mayF T)) ∧ Below w'.heap.size w' w2) := HM.out rfl
    have HBU2 : Hid (∀ (w' : World), Below w.heap.size w w' → Calls Tryz.prog 54 #[treeV (.slice av T.vars.length cv) (.slice an T.nodes.length cn) (.slice ab T.body.length cb)] w' fun e w2 => e = .returned (.int .i64 (budT T)) ∧ Below w'.heap.size w' w2) := HBU.out rfl
    clear HCM HC0 HM HBU
    generalize mayF T = m at *
    generalize budT T = bu at *
    obtain ⟨m1, m2⟩ := m
    go_wp2_with fail
    refine (HM2.out _ HB.out).mono ?_
    rintro e w3 ⟨rfl, hb⟩
    have HA3 : Hid (w3.heap[w.heap.size]? = some (.cells #[.slice av T.vars.length cv, .slice an T.nodes.length cn, .slice ab T.body.length cb] 28 (0, 0))) := blk HA.out hb
    have HA4 : Hid (w3.heap[w.heap.size + 1]? = some (.cells #[.int .i64 0, .int .i64 0, .int .i64 0] 34 (0, 0))) := blk HA2.out hb
    have HB3 : Hid (Below w.heap.size w w3) := HB.out.trans (hb.mono HB.out.size)
    clear hb HA HA2 HB p0 p1 p2 HM2
    by_cases hm : m1 = 0
    · subst hm
      have HCW : Hid (((c1, c2), c3) = ((0, 0), bu)) := by unfold Hid; rw [HCV.out, if_neg (by simp)]
      rw [errV_zero rfl]
      clear HCV
      go_wp2_with fail
      refine (misfit_nil _).mono ?_
      rintro e w4 ⟨rfl, hb⟩
      have hA5 := blk HA3.out hb
      have hA6 := blk HA4.out hb
      have hB4 : Below w.heap.size w w4 := HB3.out.trans (hb.mono HB3.out.size)
      have hbx : Below w4.heap.size w4 (w4.alloc (.cells #[.int .i64 0, .int .i64 0] 89)) := (Below.refl _ _).alloc (Nat.le_refl _) _
      have HA5 : Hid _ := blk hA5 hbx
      have HA6 : Hid _ := blk hA6 hbx
      have HB5 : Hid _ := hB4.trans (hbx.mono hB4.size)
      have hl1 : w.heap.size < w4.heap.size := blk_lt hA5
      have hl2 : w.heap.size + 1 < w4.heap.size := blk_lt hA6
      clear hb hA5 hA6 hB4 hbx HA3 HA4 HB3
      go_upto_region 7 with fail
      generalize w4.alloc (.cells #[.int .i64 0, .int .i64 0] 89) = W5 at *
      have p0 : W5.cell? ⟨w.heap.size, 0, none⟩ = some (.slice av T.vars.length cv) := cell_of_row _ _ 0 _ _ _ HA5.out
      have p1 : W5.cell? ⟨w.heap.size, 1, none⟩ = some (.slice an T.nodes.length cn) := cell_of_row _ _ 1 _ _ _ HA5.out
      have p2 : W5.cell? ⟨w.heap.size, 2, none⟩ = some (.slice ab T.body.length cb) := cell_of_row _ _ 2 _ _ _ HA5.out
      go_wp2_with fail
      refine (HBU2.out _ HB5.out).mono ?_
      rintro e w6 ⟨rfl, hb⟩
      have hA7 := blk HA6.out hb
      have HB6 : Hid (Below w.heap.size w w6) := HB5.out.trans (hb.mono HB5.out.size)
      have r0 := cell_of_row _ _ 0 _ _ _ hA7
      have r1 := cell_of_row _ _ 1 _ _ _ hA7
      have r2 := cell_of_row _ _ 2 _ _ _ hA7
      have f0 := frozen_of_row _ _ 0 _ _ hA7
      have f1 := frozen_of_row _ _ 1 _ _ hA7
      have f2 := frozen_of_row _ _ 2 _ _ hA7
      simp at r0 r1 r2 f0 f1 f2
      clear hA7 hb HA5 HA6 HB5 p0 p1 p2 HBU2
      go_wp2_with fail
      refine bodyPost_ret (v := .agg #[.int .i64 0, .int .i64 0, .int .i64 bu]) (by simp [results, Tryz.results13, go_sem, r0, r1, r2]) rfl ⟨?_, ((HB6.out.setCell (by simp) _).setCell (by simp) _).setCell (by simp) _⟩
      have e := HCW.out
      injection e with e1 e3
      injection e1 with e1 e2
      rw [e1, e2, e3]
    · have HCW : Hid (((c1, c2), c3) = ((m1, m2), 0)) := by unfold Hid; rw [HCV.out, if_pos hm]
      rw [errV_met hm]
      clear HCV HBU2
      go_wp2_with fail
      refine (misfit_hit m1 m2 _ (HER.out _ HB3.out)).mono ?_
      rintro e w4 ⟨rfl, hb⟩
      have hA6 := blk HA4.out hb
      have hB4 : Below w.heap.size w w4 := HB3.out.trans (hb.mono HB3.out.size)
      have hbx : Below w4.heap.size w4 (w4.alloc (.cells #[.int .i64 m1, .int .i64 m2] 89)) := (Below.refl _ _).alloc (Nat.le_refl _) _
      have HA6 : Hid _ := blk hA6 hbx
      have HB5 : Hid _ := hB4.trans (hbx.mono hB4.size)
      have HV5 : Hid _ := heap_alloc_new w4 (.cells #[.int .i64 m1, .int .i64 m2] 89)
      have hl2 : w.heap.size + 1 < w4.heap.size := blk_lt hA6
      clear hb hA6 hB4 hbx HA3 HA4 HB3 hm
      go_upto_region 6 with fail
      generalize w4.alloc (.cells #[.int .i64 m1, .int .i64 m2] 89) = W5 at *
      generalize w4.heap.size = g4 at *
      have v0 := cell_of_row _ _ 0 _ _ _ HV5.out
      have v1 := cell_of_row _ _ 1 _ _ _ HV5.out
      have r0 := cell_of_row _ _ 0 _ _ _ HA6.out
      have r1 := cell_of_row _ _ 1 _ _ _ HA6.out
      have r2 := cell_of_row _ _ 2 _ _ _ HA6.out
      have f0 := frozen_of_row _ _ 0 _ _ HA6.out
      have f1 := frozen_of_row _ _ 1 _ _ HA6.out
      have f2 := frozen_of_row _ _ 2 _ _ HA6.out
      simp at v0 v1 r0 r1 r2 f0 f1 f2
      go_wp2_with fail
      refine bodyPost_ret (v := .agg #[.int .i64 m1, .int .i64 m2, .int .i64 0]) (by simp [results, Tryz.results13, go_sem, r0, r1, r2]) rfl ⟨?_, ((HB5.out.setCell (by simp) _).setCell (by simp) _).setCell (by simp) _⟩
      have e := HCW.out
      injection e with e1 e3
      injection e1 with e1 e2
      rw [e1, e2, e3]
  · have hzb : (F == 0) = false := by simpa using hz
    have hzd : decide (F = 0) = false := decide_eq_false hz
    have HCW : Hid (((c1, c2), c3) = ((F, -1), 0)) := HC0.out hz
    have r0 := cell_of_row _ _ 0 _ _ _ HA2.out
    have r1 := cell_of_row _ _ 1 _ _ _ HA2.out
    have r2 := cell_of_row _ _ 2 _ _ _ HA2.out
    have f0 := frozen_of_row _ _ 0 _ _ HA2.out
    have f1 := frozen_of_row _ _ 1 _ _ HA2.out
    have f2 := frozen_of_row _ _ 2 _ _ HA2.out
    simp at r0 r1 r2 f0 f1 f2
    clear HCM HC0 HM HBU
    go_wp2_with fail
    refine bodyPost_ret (v := .agg #[.int .i64 F, .int .i64 (-1), .int .i64 0]) (by simp [results, Tryz.results13, go_sem, r0, r1, r2]) rfl ⟨?_, ((HB.out.setCell (by simp) _).setCell (by simp) _).setCell (by simp) _⟩
    have e := HCW.out
    injection e with e1 e3
    injection e1 with e1 e2
    rw [e1, e2, e3]
end Go.Proofs.YtdnhmpemkpjcaaaGreatDoor
namespace Go.Proofs.YtdnhmpemkpjcaaaGreatDoor
open Go.RowKit
set_option linter.unusedVariables false
attribute [local go_sem] bs_size bs_get bs_extract bs_append bs_eq bs_toList

set_option maxHeartbeats 800000 in
theorem eqCheckRes_any (a b c : Int) (w : World) : Calls Tryz.prog 24 #[.agg #[.int .i64 a, .int .i64 b, .int .i64 c], .agg #[.int .i64 a, .int .i64 b, .int .i64 c]] w fun e w' => e = .returned (.bool true) ∧ Below w.heap.size w w' := by
  go_enter Tryz.func24, Tryz.ntmps24
  go_wp2
  go_ret
  exact ⟨rfl, by go_grown⟩

set_option maxHeartbeats 6400000 in
set_option maxRecDepth 100000 in
theorem checkTree_law (R : LTree → Met × Int) (hS : Tree3 23 R) (hI : Tree3G 13 R) (vv vn vb : Value) (T : LTree) (w : World) (h : IsTree w vv vn vb T) (hE : ErrT w) :
    Calls Tryz.prog 5 #[treeV vv vn vb] w fun e w' => e = .returned (.bool true) ∧ Below w.heap.size w w' := by
  obtain ⟨ht, hf⟩ := h
  obtain ⟨av, cv, rfl, _⟩ := id ht.vars
  obtain ⟨an, cn, rfl, _⟩ := id ht.nodes
  obtain ⟨ab, cb, rfl, _⟩ := id ht.body
  have HT : Hid (TreeV 0 w (.slice av T.vars.length cv) (.slice an T.nodes.length cn) (.slice ab T.body.length cb) T) := ht
  have HF : Hid (Fits T) := hf
  have HS : Hid (Tree3 23 R) := hS
  have HI : Hid (Tree3G 13 R) := hI
  have HER : Hid (∀ w', Below w.heap.size w w' → ErrT w') := fun w' hb => hE.kept hb
  have HQ : Hid (∀ (a b c : Int) (w : World), Calls Tryz.prog 24 #[.agg #[.int .i64 a, .int .i64 b, .int .i64 c], .agg #[.int .i64 a, .int .i64 b, .int .i64 c]] w fun e w' => e = .returned (.bool true) ∧ Below w.heap.size w w') := eqCheckRes_any
  clear ht hf hS hI hE
  go_enter Tryz.func5, Tryz.ntmps5
  go_wp2_with fail
  have hA := heap_alloc_new w (.cells #[.slice av T.vars.length cv, .slice an T.nodes.length cn, .slice ab T.body.length cb] 47)
  have hB : Below w.heap.size w (w.alloc (.cells #[.slice av T.vars.length cv, .slice an T.nodes.length cn, .slice ab T.body.length cb] 47)) := (Below.refl _ _).alloc (Nat.le_refl _) _
  generalize w.alloc (.cells #[.slice av T.vars.length cv, .slice an T.nodes.length cn, .slice ab T.body.length cb] 47) = W at *
  refine (szTree_any 0 T _ _ _ _ (HT.out.below hB) HF.out).mono ?_
  rintro e w1 ⟨r, rfl, hr, hb1⟩
  have HA : Hid (w1.heap[w.heap.size]? = some (.cells #[.slice av T.vars.length cv, .slice an T.nodes.length cn, .slice ab T.body.length cb] 47 (0, 0))) := blk hA hb1
  have HB : Hid (Below w.heap.size w w1) := hB.trans (hb1.mono hB.size)
  clear hb1 hA hB
  by_cases h0 : 0 ≤ r
  · have HZ : Hid (Sized 1048576 T) := hr h0
    clear hr
    have a0 := cell_of_row _ _ 0 _ _ _ HA.out
    have a1 := cell_of_row _ _ 1 _ _ _ HA.out
    have a2 := cell_of_row _ _ 2 _ _ _ HA.out
    simp at a0 a1 a2
    go_wp2_with fail
    refine (toTree_any 0 T _ _ _ _ (HT.out.below HB.out) HZ.out).mono ?_
    rintro e w2 ⟨_, _, _, rfl, ht2, hb⟩
    obtain ⟨av2, cv2, rfl, _⟩ := id ht2.vars
    obtain ⟨an2, cn2, rfl, _⟩ := id ht2.nodes
    obtain ⟨ab2, cb2, rfl, _⟩ := id ht2.body
    have hA := blk HA.out hb
    have hB := HB.out.trans (hb.mono HB.out.size)
    clear HA HB hb a0 a1 a2
    have HA : Hid _ := hA
    have HB : Hid (Below w.heap.size w w2) := hB
    have HT2 : Hid (TreeV w1.heap.size w2 (.slice av2 T.vars.length cv2) (.slice an2 T.nodes.length cn2) (.slice ab2 T.body.length cb2) T) := ht2
    clear hA hB ht2
    go_wp2_with fail
    refine (HS.out _ _ _ _ T _ HT2.out HZ.out).mono ?_
    rintro e w3 ⟨rfl, hb⟩
    have hA := blk HA.out hb
    have hB := HB.out.trans (hb.mono HB.out.size)
    clear HA HB hb HT2
    have HA : Hid _ := hA
    have HB : Hid (Below w.heap.size w w3) := hB
    clear hA hB
    have hbx : Below w3.heap.size w3 (w3.alloc (.cells #[.int .i64 (R T).1.1, .int .i64 (R T).1.2, .int .i64 (R T).2] 34)) := (Below.refl _ _).alloc (Nat.le_refl _) _
    have HG : Hid _ := heap_alloc_new w3 (.cells #[.int .i64 (R T).1.1, .int .i64 (R T).1.2, .int .i64 (R T).2] 34)
    have hA := blk HA.out hbx
    have a0 := cell_of_row _ _ 0 _ _ _ hA
    have a1 := cell_of_row _ _ 1 _ _ _ hA
    have a2 := cell_of_row _ _ 2 _ _ _ hA
    simp at a0 a1 a2
    have hB := HB.out.trans (hbx.mono HB.out.size)
    clear HA HB hbx
    have HA : Hid _ := hA
    have HB : Hid _ := hB
    clear hA hB
    go_wp2_with fail
    have hA := HA.out
    have hB := HB.out
    have hG := HG.out
    clear HA HB HG a0 a1 a2
    generalize w3.alloc (.cells #[.int .i64 (R T).1.1, .int .i64 (R T).1.2, .int .i64 (R T).2] 34) = W3 at *
    generalize w3.heap.size = g3 at *
    refine (toTree_any 0 T _ _ _ _ (HT.out.below hB) HZ.out).mono ?_
    rintro e w4 ⟨_, _, _, rfl, ht4, hb⟩
    obtain ⟨av4, cv4, rfl, _⟩ := id ht4.vars
    obtain ⟨an4, cn4, rfl, _⟩ := id ht4.nodes
    obtain ⟨ab4, cb4, rfl, _⟩ := id ht4.body
    have HA : Hid _ := blk hA hb
    have HG : Hid _ := blk hG hb
    have HB : Hid (Below w.heap.size w w4) := hB.trans (hb.mono hB.size)
    have HT4 : Hid (TreeV W3.heap.size w4 (.slice av4 T.vars.length cv4) (.slice an4 T.nodes.length cn4) (.slice ab4 T.body.length cb4) T) := ht4
    clear hA hB ht4 hG hb
    go_wp2_with fail
    have hbx : Below w4.heap.size w4 (w4.alloc (.cells #[.slice av4 T.vars.length cv4, .slice an4 T.nodes.length cn4, .slice ab4 T.body.length cb4] 28)) := (Below.refl _ _).alloc (Nat.le_refl _) _
    have hX := heap_alloc_new w4 (.cells #[.slice av4 T.vars.length cv4, .slice an4 T.nodes.length cn4, .slice ab4 T.body.length cb4] 28)
    have hA := blk HA.out hbx
    have hG := blk HG.out hbx
    have hB := HB.out.trans (hbx.mono HB.out.size)
    have hT4 := HT4.out.below hbx
    clear HA HB HG HT4 hbx
    generalize w4.alloc (.cells #[.slice av4 T.vars.length cv4, .slice an4 T.nodes.length cn4, .slice ab4 T.body.length cb4] 28) = W5 at *
    generalize w4.heap.size = g4 at *
    refine (HI.out _ _ _ _ T _ hT4 HZ.out (HER.out _ hB)).mono ?_
    rintro e w5 ⟨rfl, hb⟩
    have hA5 := blk hA hb
    have hG5 := blk hG hb
    have hX5 := blk hX hb
    have hB5 := hB.trans (hb.mono hB.size)
    have hT5 := hT4.below hb
    clear hb hB hT4 hA hX hG
    have hbx : Below w5.heap.size w5 (w5.alloc (.cells #[.int .i64 (R T).1.1, .int .i64 (R T).1.2, .int .i64 (R T).2] 34)) := (Below.refl _ _).alloc (Nat.le_refl _) _
    have hH := heap_alloc_new w5 (.cells #[.int .i64 (R T).1.1, .int .i64 (R T).1.2, .int .i64 (R T).2] 34)
    have HA : Hid _ := blk hA5 hbx
    have HG : Hid _ := blk hG5 hbx
    have HX : Hid _ := blk hX5 hbx
    have HH : Hid _ := hH
    have HB : Hid _ := hB5.trans (hbx.mono hB5.size)
    have HT5 : Hid _ := hT5.below hbx
    have b0 := cell_of_row _ _ 0 _ _ _ HG.out
    have b1 := cell_of_row _ _ 1 _ _ _ HG.out
    have b2 := cell_of_row _ _ 2 _ _ _ HG.out
    have d0 := cell_of_row _ _ 0 _ _ _ HH.out
    have d1 := cell_of_row _ _ 1 _ _ _ HH.out
    have d2 := cell_of_row _ _ 2 _ _ _ HH.out
    simp at b0 b1 b2 d0 d1 d2
    clear hA5 hG5 hX5 hH hB5 hT5 hbx
    go_wp2_with fail
    generalize w5.alloc (.cells #[.int .i64 (R T).1.1, .int .i64 (R T).1.2, .int .i64 (R T).2] 34) = W6 at *
    refine (HQ.out _ _ _ _).mono ?_
    rintro e w6 ⟨rfl, hb⟩
    have hA6 := blk HA.out hb
    have hX6 := blk HX.out hb
    have hB6 := HB.out.trans (hb.mono HB.out.size)
    have hT6 := HT5.out.below hb
    clear HA HG HX HH HB HT5 b0 b1 b2 d0 d1 d2 hb
    have HB : Hid (Below w.heap.size w w6) := hB6
    have HT6 : Hid (TreeV W3.heap.size w6 (.slice av4 T.vars.length cv4) (.slice an4 T.nodes.length cn4) (.slice ab4 T.body.length cb4) T) := hT6
    clear hB6 hT6
    have hgA : w.heap.size < w6.heap.size := blk_lt hA6
    have hgX : g4 < w6.heap.size := blk_lt hX6
    have a0 := cell_of_row _ _ 0 _ _ _ hA6
    have a1 := cell_of_row _ _ 1 _ _ _ hA6
    have a2 := cell_of_row _ _ 2 _ _ _ hA6
    simp at a0 a1 a2
    have x0 := cell_of_row _ _ 0 _ _ _ hX6
    have x1 := cell_of_row _ _ 1 _ _ _ hX6
    have x2 := cell_of_row _ _ 2 _ _ _ hX6
    simp at x0 x1 x2
    clear hA6 hX6
    have A0 : Hid _ := a0
    have X0 : Hid _ := x0
    have A1 : Hid _ := a1
    have X1 : Hid _ := x1
    have A2 : Hid _ := a2
    have X2 : Hid _ := x2
    have HC : Hid (∀ W, Below w6.heap.size w6 W → Calls Tryz.prog 19 #[.agg #[.slice av T.vars.length cv, .slice an T.nodes.length cn, .slice ab T.body.length cb]] W fun e w' => ∃ a c a2 c2 a3 c3, e = .returned (treeV (.slice a T.vars.length c) (.slice a2 T.nodes.length c2) (.slice a3 T.body.length c3)) ∧ TreeV W.heap.size w' (.slice a T.vars.length c) (.slice a2 T.nodes.length c2) (.slice a3 T.body.length c3) T ∧ Below W.heap.size W w') := fun W hW =>
      (toTree_any 0 T _ _ _ W (HT.out.below (HB.out.trans (hW.mono HB.out.size))) HZ.out).mono fun e w' h => by
        obtain ⟨_, _, _, rfl, h1, h2⟩ := h
        obtain ⟨_, _, rfl, _⟩ := id h1.vars
        obtain ⟨_, _, rfl, _⟩ := id h1.nodes
        obtain ⟨_, _, rfl, _⟩ := id h1.body
        exact ⟨_, _, _, _, _, _, rfl, h1, h2⟩
    have HE : Hid (∀ W lo v1 v2 v3, Below w6.heap.size w6 W → TreeV lo W v1 v2 v3 T → Calls Tryz.prog 22 #[.agg #[.slice av4 T.vars.length cv4, .slice an4 T.nodes.length cn4, .slice ab4 T.body.length cb4], treeV v1 v2 v3] W fun e w' => e = .returned (.bool true) ∧ Below W.heap.size W w') := fun W lo v1 v2 v3 hW h =>
      eqTree_any _ _ T _ _ _ _ _ _ W (HT6.out.below hW) h HZ.out
    go_wp2_with fail
    go_region_held3 (fun W => (W.cell? ⟨w.heap.size, 0, none⟩ = some (.slice av T.vars.length cv) ∧ W.cell? ⟨w.heap.size, 1, none⟩ = some (.slice an T.nodes.length cn) ∧ W.cell? ⟨w.heap.size, 2, none⟩ = some (.slice ab T.body.length cb)) ∧ (W.cell? ⟨g4, 0, none⟩ = some (.slice av4 T.vars.length cv4) ∧ W.cell? ⟨g4, 1, none⟩ = some (.slice an4 T.nodes.length cn4) ∧ W.cell? ⟨g4, 2, none⟩ = some (.slice ab4 T.body.length cb4))) (go_keep) (first | (go_at_call 19; refine (HC.out _ (Below.refl w6.heap.size w6).drew).mono ?_; rintro e w7 ⟨a7, c7, b7, d7, e7, f7, rfl, ht7, hb⟩; have hD : Below w6.heap.size w6 w7 := ((Below.refl w6.heap.size w6).drew).trans (Below.mono hb (Nat.le_refl _)); have a0 := (hD.cell (p := ⟨w.heap.size, 0, none⟩) hgA).trans A0.out; have a1 := (hD.cell (p := ⟨w.heap.size, 1, none⟩) hgA).trans A1.out; have a2 := (hD.cell (p := ⟨w.heap.size, 2, none⟩) hgA).trans A2.out; have x0 := (hD.cell (p := ⟨g4, 0, none⟩) hgX).trans X0.out; have x1 := (hD.cell (p := ⟨g4, 1, none⟩) hgX).trans X1.out; have x2 := (hD.cell (p := ⟨g4, 2, none⟩) hgX).trans X2.out; have HD : Hid (Below w6.heap.size w6 w7) := hD; have HT7 : Hid (TreeV _ w7 _ _ _ T) := ht7; clear hb hD ht7) | (go_at_call 22; refine (HE.out _ _ _ _ _ HD.out HT7.out).mono ?_; rintro e w8 ⟨rfl, hb⟩; have hD : Below w6.heap.size w6 w8 := HD.out.trans (Below.mono hb HD.out.size); have a0 := (hD.cell (p := ⟨w.heap.size, 0, none⟩) hgA).trans A0.out; have a1 := (hD.cell (p := ⟨w.heap.size, 1, none⟩) hgA).trans A1.out; have a2 := (hD.cell (p := ⟨w.heap.size, 2, none⟩) hgA).trans A2.out; have x0 := (hD.cell (p := ⟨g4, 0, none⟩) hgX).trans X0.out; have x1 := (hD.cell (p := ⟨g4, 1, none⟩) hgX).trans X1.out; have x2 := (hD.cell (p := ⟨g4, 2, none⟩) hgX).trans X2.out; have hBB := HB.out.trans (hD.mono HB.out.size); clear hb))
    go_wp2
    go_ret
    exact ⟨rfl, hBB⟩
  · go_wp2_with fail
    go_ret
    exact ⟨rfl, HB.out⟩

end Go.Proofs.YtdnhmpemkpjcaaaGreatDoor
namespace Go.Proofs.YtdnhmpemkpjcaaaGreatDoor
open Go.RowKit
set_option linter.unusedVariables false

theorem fnExactCheckTree_walk (vv0 vn0 vb0 : Value) (T0 : LTree) (w : World) (w0 : IsTree w vv0 vn0 vb0 T0) (hE : ErrT w) :
    Calls Tryz.prog 5 #[treeV vv0 vn0 vb0] w fun e w' => e = .returned (.bool true) ∧ Below w.heap.size w w' :=
  checkTree_law chkT specCheckTree implCheckTree vv0 vn0 vb0 T0 w w0 hE
end Go.Proofs.YtdnhmpemkpjcaaaGreatDoor
