/-
  spec.l5Call.
-/
import Derived.Test.YtdnhmpemkpjcaaaGreatDoorSTarg
import Derived.Deep.Cut
import Derived.Deep.CutRange
import Derived.Deep.DeepCutAuto
import Derived.Deep.AppendLies
import Derived.Deep.RegionLaw
import Derived.Test.YtdnhmpemkpjcaaaGreatDoorITyOf
import Derived.Test.YtdnhmpemkpjcaaaGreatDoorAllKind
import Derived.Test.YtdnhmpemkpjcaaaGreatDoorCheckS
import Derived.Test.YtdnhmpemkpjcaaaGreatDoorCheckM2
import Derived.Deep.QuietTactic
import Derived.BigQuiet
import Derived.Test.YtdnhmpemkpjcaaaGreatDoorBlkOwn
import Derived.Test.YtdnhmpemkpjcaaaGreatDoorBase
namespace Go.Proofs.YtdnhmpemkpjcaaaGreatDoor
open Go.RowKit
set_option linter.unusedVariables false
attribute [local go_sem] bs_size bs_get bs_extract bs_append bs_eq bs_toList
structure Duo (kp : Nat) (vl vl' : Value) (W W' : World) : Prop where
 bel : Below 0 W W'
 rest : ∀ b, b < W.heap.size → b ≠ kp → vl.ownBlock ≠ some b → W'.heap[b]? = W.heap[b]?
 own : ∀ g, vl'.ownBlock = some g → vl.ownBlock = some g ∨ W.heap.size ≤ g
theorem Duo.refl (kp : Nat) (vl : Value) (W : World) : Duo kp vl vl W W := ⟨Below.refl _ _, fun _ _ _ _ => rfl, fun _ h => .inl h⟩
theorem Duo.trans {kp : Nat} {va vb vc : Value} {a b c : World} (h : Duo kp va vb a b) (k : Duo kp vb vc b c) : Duo kp va vc a c := by
 refine ⟨h.bel.trans k.bel, fun i hi hg hv => ?_, fun g hg => ?_⟩
 ·refine (k.rest i (Nat.lt_of_lt_of_le hi h.bel.size) hg (fun e => ?_)).trans (h.rest i hi hg hv)
  rcases h.own i e with h2 | h2
  ·exact hv h2
  ·omega
 ·rcases k.own g hg with h2 | h2
  ·exact h.own g h2
  ·exact .inr (Nat.le_trans h.bel.size h2)
theorem Sole.duo {kp : Nat} {W W' : World} (h : Sole kp W W') (vl : Value) : Duo kp vl vl W W' := ⟨h.bel, fun b hb hk _ => h.rest b hb hk, fun _ h => .inl h⟩
theorem Duo.cell {kp : Nat} {vl vl' : Value} {w w' : World} (h : Duo kp vl vl' w w') {p : Addr} {u : Value} (hne : p.block ≠ kp) (hv : vl.ownBlock ≠ some p.block) (hc : w.cell? p = some u) : w'.cell? p = some u := by
 rw [World.cell?_of_block (h.rest p.block (World.block_lt_of_cell? _ _ hc) hne hv)]; exact hc
def ListC (lo : Nat) (W0 : World) (kp p cA B : Nat) (aA : Option Addr) (T : LTree) (V : List LVar) (f : Nat) (L : List (List UInt8)) (list : List Int) : Prop := ∀ (W : World) (vk vl : Value) (st : Met), Chk W0 W kp p aA V.length cA vl st → LoopO W B vl L → IntsV lo W0 vk list →
 Calls Tryz.prog 136 #[.pointer (some ⟨kp, 0, none⟩), vk] W fun e w' => e = .returned (.tuple #[]) ∧ ∃ vl', Chk W0 w' kp p aA V.length cA vl' (goL (stmtF (mustT V T.vars.length T.nodes) T.vars T.nodes f L) list st) ∧ LoopO w' B vl' L ∧ Duo kp vl vl' W w'
theorem Chk.store {W0 W1 : World} {kp p lA cA : Nat} {aA : Option Addr} {vl vl' : Value} {st : Met} (hb : Below W0.heap.size W0 W1) (hl : W0.heap.size ≤ kp) (h : W1.heap[kp]? = some (.cells #[.pointer (some ⟨p, 0, none⟩), .slice aA lA cA, vl, .int .i64 st.1, .int .i64 st.2] 113 (0, 0))) :
  Chk W0 (W1.setCell ⟨kp, 2, none⟩ vl') kp p aA lA cA vl' st := by
 refine ⟨hb.setCell (by simp; omega) _, ?_⟩
 rw [heap_setCell_same _ _ _ _ _ _ h]; rfl
theorem slice_popS (g k n c : Nat) (h : k ≤ n) (hc : n ≤ c) (W : World) : (Instr.slice 40 (.slice (some ⟨g, 0, none⟩) n c) none (some (.int .i64 (k : Int))) none).run Tryz.prog W = .ok (.slice (some ⟨g, 0, none⟩) k c) W := by
 have hu := Tryz.underlying40
 have hkc : k ≤ c := Nat.le_trans h hc
 simp [go_sem, hu, hkc]
theorem ChkE.node3 {lo p kp : Nat} {W0 W : World} {vv vn vb : Value} {aA : Option Addr} {T : LTree} {V : List LVar} (h : ChkE lo W0 p kp vv vn vb aA T V) (hb : Below W0.heap.size W0 W) (x : Nat) (hx : x < T.nodes.length) :
  ∃ bn on cn, vn = .slice (some ⟨bn, on, none⟩) T.nodes.length cn ∧ W.cell? ⟨p, 1, none⟩ = some vn ∧ ∃ vk vt ve, NodeCells W bn (on + x * 8) (nodeOf T.nodes (x : Int)) vk vt ve ∧ IntsV lo W0 vk (nodeOf T.nodes (x : Int)).kids ∧ IntsV lo W0 vt (nodeOf T.nodes (x : Int)).thn ∧ IntsV lo W0 ve (nodeOf T.nodes (x : Int)).els := by
 obtain ⟨an, cn, rfl, _, hh⟩ := id h.tree.tree.nodes
 obtain ⟨bn, on, rfl, _, hc⟩ := hh (by intro e; rw [e] at hx; simp at hx)
 obtain ⟨vk, vt, ve, h1, h2⟩ := hc x _ (node_get hx)
 have hpw : p < W0.heap.size := World.block_lt_of_cell? _ _ h.tree.c1
 exact ⟨bn, on, cn, rfl, (hb.cell (p := ⟨p, 1, none⟩) hpw).trans h.tree.c1, vk, vt, ve, h1.keep (lo := 0) (.of_below hb) (Nat.zero_le _), h2.kids, h2.thn, h2.els⟩
theorem LoopO.cap {W : World} {B n c : Nat} {a : Option Addr} {L : List (List UInt8)} (h : LoopO W B (.slice a n c) L) : n = L.length ∧ n ≤ c := by
 obtain ⟨_, h | ⟨g', cap', cur, e, hb, hg, hn, hm, hs, ht⟩⟩ := id h
 ·obtain ⟨e, h0⟩ := h
  injection e with e1 e2 e3
  subst e2; subst e3
  exact ⟨h0.symm, Nat.le_refl _⟩
 ·injection e with e1 e2 e3
  subst e2; subst e3
  exact ⟨rfl, hn⟩
theorem for_push {W0 w6 Wa w1 : World} {kp p lA cA B gg cap H : Nat} {aA : Option Addr} {vl : Value} {st : Met} {L : List (List UInt8)} {nm : List UInt8} (hC : Chk W0 w6 kp p aA lA cA vl st) (hL : LoopO w6 B vl L) (hB : B = kp + 1) (hlow : W0.heap.size ≤ kp)
  (hb : Below w6.heap.size w6 Wa) (hgrow : Wa.grownBy w1 vl.ownBlock) (hown : w1.ownsRow B 9 1 (.slice (some ⟨gg, 0, none⟩) (L.length + 1) cap) (L.length + 1) (namC L ++ [.string (bs nm)])) (hat : vl.ownBlock = some gg ∨ gg = H) (hH : w6.heap.size ≤ H) :
  Chk W0 (w1.setCell ⟨kp, 2, none⟩ (.slice (some ⟨gg, 0, none⟩) (L.length + 1) cap)) kp p aA lA cA (.slice (some ⟨gg, 0, none⟩) (L.length + 1) cap) st ∧ LoopO (w1.setCell ⟨kp, 2, none⟩ (.slice (some ⟨gg, 0, none⟩) (L.length + 1) cap)) B (.slice (some ⟨gg, 0, none⟩) (L.length + 1) cap) (L ++ [nm]) ∧ Duo kp vl (.slice (some ⟨gg, 0, none⟩) (L.length + 1) cap) w6 (w1.setCell ⟨kp, 2, none⟩ (.slice (some ⟨gg, 0, none⟩) (L.length + 1) cap)) := by
 have hrl : ∀ g, vl.ownBlock = some g → B ≤ g ∧ g < w6.heap.size := fun g hg => World.ownsRow.lt hL g hg
 have hkl := blk_lt hC.row
 have hz := hb.size
 have hz0 := hC.bel.size
 have hr : w1.heap[kp]? = some (.cells #[.pointer (some ⟨p, 0, none⟩), .slice aA lA cA, vl, .int .i64 st.1, .int .i64 st.2] 113 (0, 0)) := by
  rw [hgrow.block kp (by omega) (fun e => by have := (hrl _ e.symm).1; omega)]; exact blk hC.row hb
 have hb1 : Below W0.heap.size W0 w1 := (hC.bel.trans (hb.mono hz0)).grown hgrow (by omega) (fun g hg => by have := (hrl _ hg).1; omega)
 have hb6 : Below 0 w6 w1 := (hb.mono (Nat.zero_le _)).grown hgrow (Nat.zero_le _) (fun g hg => Nat.zero_le _)
 have hgg : B ≤ gg := by
  rcases hat with h | h
  ·exact (hrl _ h).1
  ·omega
 refine ⟨Chk.store hb1 hlow hr, ?_, ⟨hb6.setCell (by simp) _, fun b hb2 hk hv => ?_, fun g hg => ?_⟩⟩
 ·have e : (L ++ [nm]).length = L.length + 1 := by simp
  unfold LoopO
  rw [e, namC_snoc]
  refine rowE_same hown fun g hg hl => ?_
  exact Below.heap_setCell _ _ _ _ (by simp; omega)
 ·rw [Below.heap_setCell _ _ _ _ (by simpa using hk)]
  rw [hgrow.block b (by omega) (fun e => hv e.symm), hb.block b hb2]
 ·have : gg = g := by simpa [Value.ownBlock] using hg
  subst this
  rcases hat with h | h
  ·exact .inl h
  ·exact .inr (by omega)
theorem for_pop {W0 w8 : World} {kp p lA cA B gg cap : Nat} {aA : Option Addr} {st : Met} {L : List (List UInt8)} {nm : List UInt8} (hC : Chk W0 w8 kp p aA lA cA (.slice (some ⟨gg, 0, none⟩) (L.length + 1) cap) st) (hL : LoopO w8 B (.slice (some ⟨gg, 0, none⟩) (L.length + 1) cap) (L ++ [nm])) (hB : B = kp + 1) (hlow : W0.heap.size ≤ kp) :
  Chk W0 (w8.drew.setCell ⟨kp, 2, none⟩ (.slice (some ⟨gg, 0, none⟩) L.length cap)) kp p aA lA cA (.slice (some ⟨gg, 0, none⟩) L.length cap) st ∧ LoopO (w8.drew.setCell ⟨kp, 2, none⟩ (.slice (some ⟨gg, 0, none⟩) L.length cap)) B (.slice (some ⟨gg, 0, none⟩) L.length cap) L ∧ Duo kp (.slice (some ⟨gg, 0, none⟩) (L.length + 1) cap) (.slice (some ⟨gg, 0, none⟩) L.length cap) w8 (w8.drew.setCell ⟨kp, 2, none⟩ (.slice (some ⟨gg, 0, none⟩) L.length cap)) := by
 refine ⟨Chk.store hC.bel.drew hlow hC.row, ?_, ⟨((Below.refl _ _).drew).setCell (by simp) _, fun b hb2 hk hv => ?_, fun g hg => .inl hg⟩⟩
 ·refine rowE_same (LoopO.pop hL) fun g hg hl => ?_
  exact Below.heap_setCell _ _ _ _ (by simp; omega)
 ·rw [Below.heap_setCell _ _ _ _ (by simpa using hk)]; rfl
set_option maxHeartbeats 12800000 in
set_option maxRecDepth 100000 in
theorem l5For_any (lo : Nat) (W0 W : World) (kp p cA B f : Nat) (vv vn vb : Value) (aA : Option Addr) (T : LTree) (V : List LVar) (vl : Value) (st : Met) (L : List (List UInt8)) (j : Nat) (hE : ChkE lo W0 p kp vv vn vb aA T V) (hC : Chk W0 W kp p aA V.length cA vl st) (hL : LoopO W B vl L) (hB : B = kp + 1) (hLl : L.length ≤ 1000) (hj : j < T.nodes.length) (hk : (nodeOf T.nodes (j : Int)).kind = 10)
  (hLC : ListC lo W0 kp p cA B aA T V f (L ++ [(nodeOf T.nodes (j : Int)).name]) (nodeOf T.nodes (j : Int)).thn) :
  Calls Tryz.prog 180 #[.pointer (some ⟨kp, 0, none⟩), .int .i64 (j : Int)] W fun e w' => e = .returned (.tuple #[]) ∧ ∃ vl', Chk W0 w' kp p aA V.length cA vl' (goL (stmtF (mustT V T.vars.length T.nodes) T.vars T.nodes f (L ++ [(nodeOf T.nodes (j : Int)).name])) (nodeOf T.nodes (j : Int)).thn (forF T.vars L (nodeOf T.nodes (j : Int)) (j : Int) st)) ∧ LoopO w' B vl' L ∧ Duo kp vl vl' W w' := by
 obtain ⟨i0, hi, hz0, hz1, hz2⟩ := info_parts infoS
 obtain ⟨bn, on, cn, rfl, q1, vk, vt, ve, hnc, hkd, htd, hed⟩ := hE.node3 hC.bel j hj
 have k0 := cell_of_row _ _ 0 _ _ _ hC.row
 simp at k0
 have hkW := blk_lt hC.row
 have hnl := hE.good.nodes
 have hlow := hE.low
 have hW0 := hC.bel.size
 have hrl : ∀ g, vl.ownBlock = some g → B ≤ g ∧ g < W.heap.size := fun g hg => World.ownsRow.lt hL g hg
 have HSTOP : Hid (∀ (c : Int) (s : Met) (W' : World), Chk W0 W' kp p aA V.length cA vl s → Calls Tryz.prog 174 #[.pointer (some ⟨kp, 0, none⟩), .int .i64 c, .int .i64 (j : Int)] W' fun e w' => e = .returned (.tuple #[]) ∧ Chk W0 w' kp p aA V.length cA vl (metAt s c (j : Int)) ∧ Sole kp W' w') := fun c s W' h => l5Stop_any W0 W' kp p V.length cA aA vl s c (j : Int) h hlow
 obtain ⟨⟨g, s1, s2⟩, hg⟩ : ∃ r, r = targetF T.vars L (nodeOf T.nodes (j : Int)).name false (j : Int) st := ⟨_, rfl⟩
 have HTA : Hid (∀ (W' : World), Chk W0 W' kp p aA V.length cA vl st → LoopO W' B vl L → Calls Tryz.prog 179 #[.pointer (some ⟨kp, 0, none⟩), .int .i64 (j : Int), .bool false] W' fun e w' => e = .returned (.int .i64 g) ∧ Chk W0 w' kp p aA V.length cA vl (s1, s2) ∧ Sole kp W' w') := fun W' h h2 => by
  have := l5Target_any lo W0 W' kp p cA B vv _ vb aA T V vl st L j false hE h h2 (by omega) (by omega) hj
  rw [← hg] at this; exact this
 obtain ⟨R, hR⟩ : ∃ R, R = goL (stmtF (mustT V T.vars.length T.nodes) T.vars T.nodes f (L ++ [(nodeOf T.nodes (j : Int)).name])) (nodeOf T.nodes (j : Int)).thn (forF T.vars L (nodeOf T.nodes (j : Int)) (j : Int) st) := ⟨_, rfl⟩
 rw [← hR]
 have HF : Hid (forF T.vars L (nodeOf T.nodes (j : Int)) (j : Int) st = if 1000 < (nodeOf T.nodes (j : Int)).num ∨ 1000 < (nodeOf T.nodes (j : Int)).far then metAt (if s1 = 0 ∧ g ≠ 1 then metAt (s1, s2) 8 (j : Int) else (s1, s2)) 3 (j : Int) else (if s1 = 0 ∧ g ≠ 1 then metAt (s1, s2) 8 (j : Int) else (s1, s2))) := by unfold Hid forF forA; rw [← hg]
 have HLC : Hid (ListC lo W0 kp p cA B aA T V f (L ++ [(nodeOf T.nodes (j : Int)).name]) (nodeOf T.nodes (j : Int)).thn) := hLC
 have HRR : Hid (R = goL (stmtF (mustT V T.vars.length T.nodes) T.vars T.nodes f (L ++ [(nodeOf T.nodes (j : Int)).name])) (nodeOf T.nodes (j : Int)).thn (forF T.vars L (nodeOf T.nodes (j : Int)) (j : Int) st)) := hR
 have HLO : Hid (∀ W', Sole kp W W' → LoopO W' B vl L) := fun W' h => hL.sole h (by omega)
 have HCA : Hid (∀ o, Chk W0 (W.alloc o) kp p aA V.length cA vl st ∧ Sole kp W (W.alloc o)) := fun o =>
  have hb : Below W.heap.size W (W.alloc o) := (Below.refl _ _).alloc (Nat.le_refl _) _
  ⟨hC.below hb, hb.sole⟩
 obtain ⟨ak, lk, ck, evk⟩ : ∃ a l c, vk = .slice a l c := by obtain ⟨a, c, e, _⟩ := id hkd; exact ⟨_, _, _, e⟩
 obtain ⟨ae, le, ce, eve⟩ : ∃ a l c, ve = .slice a l c := by obtain ⟨a, c, e, _⟩ := id hed; exact ⟨_, _, _, e⟩
 obtain ⟨at1, ct, evt, _⟩ := id htd
 subst evk; subst eve; subst evt
 have HTD : Hid (IntsV lo W0 (.slice at1 (nodeOf T.nodes (j : Int)).thn.length ct) (nodeOf T.nodes (j : Int)).thn) := htd
 clear hkd hed htd
 obtain ⟨nm, hnm⟩ : ∃ nm, nm = (nodeOf T.nodes (j : Int)).name := ⟨_, rfl⟩
 obtain ⟨d0, d1, d2, d3, d4, d5, d6, d7⟩ := hnc
 rw [← hnm] at d2 HLC HRR
 rw [hk] at d0
 generalize nodeOf T.nodes (j : Int) = n at *
 have hj0 : (0 : Int) ≤ (j : Int) := by omega
 have hj1 : (j : Int) < (T.nodes.length : Int) := by omega
 obtain ⟨aL, cL, evl, _⟩ := hL.form
 subst evl
 have hWn : W.heap.size ≠ kp := by omega
 have hWv : (Value.slice aL L.length cL).ownBlock ≠ some W.heap.size := fun e => by have := (hrl _ e).2; omega
 clear hC hE hL hk hg hR hLC hnm
 go_enter Tryz.func180, Tryz.ntmps180
 go_wp2_with fail
 generalize hW5 : W.alloc (.cells #[.int .i64 10, .int .i64 n.op, .string (bs nm), .int .i64 n.num, .int .i64 n.far, .slice ak lk ck, .slice at1 n.thn.length ct, .slice ae le ce] 111) = W5
 have hA := heap_alloc_new W (.cells #[.int .i64 10, .int .i64 n.op, .string (bs nm), .int .i64 n.num, .int .i64 n.far, .slice ak lk ck, .slice at1 n.thn.length ct, .slice ae le ce] 111)
 have hC5 := HCA.out (.cells #[.int .i64 10, .int .i64 n.op, .string (bs nm), .int .i64 n.num, .int .i64 n.far, .slice ak lk ck, .slice at1 n.thn.length ct, .slice ae le ce] 111)
 rw [hW5] at hA hC5
 clear hW5 HCA d0 d1 d2 d3 d4 d5 d6 d7 q1 k0
 refine (HTA.out _ hC5.1 (HLO.out _ hC5.2)).mono ?_
 rintro e w6 ⟨rfl, hc6, hs6⟩
 have HC : Hid (Chk W0 w6 kp p aA V.length cA (.slice aL L.length cL) (s1, s2) ∧ Sole kp W w6) := ⟨hc6, hC5.2.trans hs6⟩
 have HN : Hid (w6.heap[W.heap.size]? = some (.cells #[.int .i64 10, .int .i64 n.op, .string (bs nm), .int .i64 n.num, .int .i64 n.far, .slice ak lk ck, .slice at1 n.thn.length ct, .slice ae le ce] 111 (0, 0))) := (hs6.rest W.heap.size (blk_lt hA) hWn).trans hA
 clear hc6 hs6 hC5 hA HTA
 have k3 : w6.cell? ⟨kp, 3, none⟩ = some (.int .i64 s1) := by have := cell_of_row _ _ 3 _ _ _ HC.out.1.row; simpa using this
 have n3 : w6.cell? ⟨W.heap.size, 3, none⟩ = some (.int .i64 n.num) := cell_of_row _ _ 3 _ _ _ HN.out
 have n4 : w6.cell? ⟨W.heap.size, 4, none⟩ = some (.int .i64 n.far) := cell_of_row _ _ 4 _ _ _ HN.out
 obtain ⟨A1, hA1⟩ : ∃ A1, A1 = (if s1 = 0 ∧ g ≠ 1 then metAt (s1, s2) 8 (j : Int) else (s1, s2)) := ⟨_, rfl⟩
 have HA1 : Hid (A1 = if s1 = 0 ∧ g ≠ 1 then metAt (s1, s2) 8 (j : Int) else (s1, s2)) := hA1
 rw [← hA1] at HF
 clear hA1
 go_upto_region 2 with fail
 go_cut [27] from 19 (fun v wx => v = .bool (decide (s1 = 0 ∧ g ≠ 1)) ∧ wx = w6)
 case first =>
  by_cases hs1 : s1 = 0
  ·subst hs1
   by_cases hg1 : g = 1
   ·subst hg1
    go_wp2_with fail
    go_meet
    case rel => exact ⟨by simp, rfl⟩
   ·have hgb : (g != 1) = true := bne_iff_ne.2 hg1
    have hgd : decide (g = 1) = false := decide_eq_false hg1
    go_wp2_with fail
    go_meet
    case rel => exact ⟨by simp [hg1], rfl⟩
  ·have hsb : (s1 == 0) = false := by simpa using hs1
   have hsd : decide (s1 = 0) = false := decide_eq_false hs1
   go_wp2_with fail
   go_meet
   case rel => exact ⟨by simp [hs1], rfl⟩
 case rest =>
  obtain ⟨hv27, hwc⟩ := hcut
  subst hv27
  subst hwc
  go_upto_if 27 with fail
  go_cut [] from 19 (fun wx => Hid (Chk W0 wx kp p aA V.length cA (.slice aL L.length cL) A1 ∧ Sole kp W wx) ∧ Hid (wx.heap[W.heap.size]? = some (.cells #[.int .i64 10, .int .i64 n.op, .string (bs nm), .int .i64 n.num, .int .i64 n.far, .slice ak lk ck, .slice at1 n.thn.length ct, .slice ae le ce] 111 (0, 0))))
  case first =>
   by_cases hor : s1 = 0 ∧ g ≠ 1
   ·have hob : decide (s1 = 0 ∧ g ≠ 1) = true := decide_eq_true hor
    rw [hob]
    have HA2 : Hid (A1 = metAt (s1, s2) 8 (j : Int)) := by unfold Hid; rw [HA1.out, if_pos hor]
    clear hor hob
    go_wp2_with fail
    refine (HSTOP.out 8 _ _ HC.out.1).mono ?_
    rintro e w62 ⟨rfl, hc, hs⟩
    have hC2 : Hid (Chk W0 w62 kp p aA V.length cA (.slice aL L.length cL) A1 ∧ Sole kp W w62) := ⟨by rw [HA2.out]; exact hc, HC.out.2.trans hs⟩
    have hN2 : Hid (w62.heap[W.heap.size]? = some (.cells #[.int .i64 10, .int .i64 n.op, .string (bs nm), .int .i64 n.num, .int .i64 n.far, .slice ak lk ck, .slice at1 n.thn.length ct, .slice ae le ce] 111 (0, 0))) := (hs.rest W.heap.size (blk_lt HN.out) hWn).trans HN.out
    clear hc hs
    go_wp2_with fail
    go_meet
    case rel => exact ⟨hC2, hN2⟩
   ·have hob : decide (s1 = 0 ∧ g ≠ 1) = false := decide_eq_false hor
    rw [hob]
    have HA2 : Hid (A1 = (s1, s2)) := by unfold Hid; rw [HA1.out, if_neg hor]
    clear hor hob
    go_wp2_with fail
    go_meet
    case rel => exact ⟨by rw [HA2.out]; exact HC, HN⟩
  case rest =>
   clear HC HN k3 n3 n4 HA1
   obtain ⟨HC, HN⟩ := hcut
   have n3 : wc.cell? ⟨W.heap.size, 3, none⟩ = some (.int .i64 n.num) := cell_of_row _ _ 3 _ _ _ HN.out
   have n4 : wc.cell? ⟨W.heap.size, 4, none⟩ = some (.int .i64 n.far) := cell_of_row _ _ 4 _ _ _ HN.out
   go_upto_region 4 with fail
   go_cut [38] from 31 (fun v wx => v = .bool (decide (1000 < n.num ∨ 1000 < n.far)) ∧ wx = wc)
   case first =>
    by_cases hnum : 1000 < n.num
    ·have hb1 : decide ((1000 : Int) < n.num) = true := decide_eq_true hnum
     have hor : decide (1000 < n.num ∨ 1000 < n.far) = true := decide_eq_true (Or.inl hnum)
     clear hnum
     go_wp2_with fail
     go_meet
     case rel => exact ⟨by rw [hor], rfl⟩
    ·have hb1 : decide ((1000 : Int) < n.num) = false := decide_eq_false hnum
     by_cases hfar : 1000 < n.far
     ·have hb2 : decide ((1000 : Int) < n.far) = true := decide_eq_true hfar
      have hor : decide (1000 < n.num ∨ 1000 < n.far) = true := decide_eq_true (Or.inr hfar)
      clear hnum hfar
      go_wp2_with fail
      go_meet
      case rel => exact ⟨by rw [hor], rfl⟩
     ·have hb2 : decide ((1000 : Int) < n.far) = false := decide_eq_false hfar
      have hor : decide (1000 < n.num ∨ 1000 < n.far) = false := decide_eq_false (fun h => h.elim hnum hfar)
      clear hnum hfar
      go_wp2_with fail
      go_meet
      case rel => exact ⟨by rw [hor], rfl⟩
   case rest =>
    obtain ⟨hv38, hwc⟩ := hcut
    subst hv38
    subst hwc
    by_cases hor : 1000 < n.num ∨ 1000 < n.far
    ·have HSTF : Hid (R = goL (stmtF (mustT V T.vars.length T.nodes) T.vars T.nodes f (L ++ [nm])) n.thn (metAt A1 3 (j : Int))) := by unfold Hid; rw [HRR.out, HF.out, if_pos hor]
     have hob : decide (1000 < n.num ∨ 1000 < n.far) = true := decide_eq_true hor
     rw [hob]
     clear hor hob HF n3 n4
     go_wp2_with fail
     refine (HSTOP.out 3 _ _ HC.out.1).mono ?_
     rintro e w63 ⟨rfl, hc, hs⟩
     have hC2 : Chk W0 w63 kp p aA V.length cA (.slice aL L.length cL) (metAt A1 3 (j : Int)) ∧ Sole kp W w63 := ⟨hc, HC.out.2.trans hs⟩
     have hN2 := (hs.rest W.heap.size (blk_lt HN.out) hWn).trans HN.out
     clear HC HN hc hs
     have HC : Hid _ := hC2
     have HN : Hid _ := hN2
     clear hC2 hN2
     have hown := HLO.out _ HC.out.2
     have hrl6 : ∀ g, (Value.slice aL L.length cL).ownBlock = some g → B ≤ g ∧ g < w63.heap.size := fun g hg => World.ownsRow.lt hown g hg
     have q1 : w63.cell? ⟨kp, 2, none⟩ = some (.slice aL L.length cL) := by have := cell_of_row _ _ 2 _ _ _ HC.out.1.row; simpa using this
     have fq : w63.frozen? ⟨kp, 2, none⟩ = false := frozen_of_row _ _ 2 _ _ HC.out.1.row
     have n2 : w63.cell? ⟨W.heap.size, 2, none⟩ = some (.string (bs nm)) := cell_of_row _ _ 2 _ _ _ HN.out
     have hgw : kp < w63.heap.size := blk_lt HC.out.1.row
     have hnw : W.heap.size < w63.heap.size := blk_lt HN.out
     have ag : (Value.slice aL L.length cL).ownBlock ≠ some kp := fun e => by have := (hrl6 _ e).1; omega
     have h63 : L.length + 1 ≤ maxLen := by unfold maxLen; omega
     have hbb : (L.length + 1) * 16 ≤ 140737488355328 := by omega
     have hbase : B ≤ w63.heap.size := by omega
     clear HRR hrl HSTOP
     go_wp2_with fail
     go_region_law ((refine step_append_lies _ (by rfl) _ _ _ (by rfl) B 9 i0 _ 1 16 Tryz.underlying40 hi hz0 hz1 hz2 rfl (by omega) (.slice aL L.length cL) L.length (namC L) (by rfl) ((hown.alloc _).drew) ⟨w63.heap.size, 0, none⟩ 1 1 [.string (bs nm)] (by rfl) (by rfl) (World.news_of_block (cs := #[.string (bs nm)]) (t := 9) (fr := (0, 0)) (heap_alloc_new w63 _)) (by simp [Value.oneCell']) (by omega) h63 hbb (by simp; omega) (w63.heap.size + 1) (by simp) ?_; intro gg cap w1 hown1 hgrow hat hlt1; have q9 : w1.cell? ⟨kp, 2, none⟩ = some (.slice aL L.length cL) := (hgrow.cell_far ⟨kp, 2, none⟩ (by simp; omega) (Ne.symm ag)).trans ((World.cell?_of_block (a := ⟨kp, 2, none⟩) (Below.heap_alloc w63 _ kp hgw)).trans q1); have f9 : w1.frozen? ⟨kp, 2, none⟩ = false := (hgrow.frozen_far ⟨kp, 2, none⟩ (by simp; omega) (Ne.symm ag)).trans ((World.frozen?_of_block (a := ⟨kp, 2, none⟩) (Below.heap_alloc w63 _ kp hgw)).trans fq); have hgw1 : kp < w1.heap.size := World.block_lt_of_cell? _ _ q9))
     all_goals
      have h7 := for_push (nm := nm) HC.out.1 (HLO.out _ HC.out.2) hB hlow (((Below.refl w63.heap.size w63).alloc (Nat.le_refl _) _).drew) hgrow hown1 hat (by omega)
      have H7 : Hid _ := h7
      have n6 : (w1.setCell ⟨kp, 2, none⟩ (.slice (some ⟨gg, 0, none⟩) (L.length + 1) cap)).cell? ⟨W.heap.size, 6, none⟩ = some (.slice at1 n.thn.length ct) := h7.2.2.cell (p := ⟨W.heap.size, 6, none⟩) hWn hWv (cell_of_row _ _ 6 _ _ _ HN.out)
      clear hown1 hgrow hat hlt1 q9 f9 hgw1 hown hrl6 q1 fq n2 ag h7
      generalize hW7 : w1.setCell ⟨kp, 2, none⟩ (.slice (some ⟨gg, 0, none⟩) (L.length + 1) cap) = W7 at *
      clear hW7
      go_wp2_with fail
      refine (HLC.out _ _ _ _ H7.out.1 H7.out.2.1 HTD.out).mono ?_
      rintro e w8 ⟨rfl, vl8, hc8, hl8, hd8⟩
      obtain ⟨a8, c8, ev8, h8⟩ := hl8.form
      obtain ⟨g8, ea8, _⟩ := h8 (by simp)
      subst ev8; subst ea8
      have el8 : (L ++ [nm]).length = L.length + 1 := by simp
      rw [el8] at hc8 hl8 hd8
      have h9 := for_pop hc8 hl8 hB hlow
      have H9 : Hid _ := h9
      have HD9 : Hid (Duo kp (.slice aL L.length cL) (.slice (some ⟨g8, 0, none⟩) L.length c8) W (w8.drew.setCell ⟨kp, 2, none⟩ (.slice (some ⟨g8, 0, none⟩) L.length c8))) := (((HC.out.2.duo _).trans H7.out.2.2).trans hd8).trans h9.2.2
      have hc8c : L.length + 1 ≤ c8 := hl8.cap.2
      have k2 : w8.cell? ⟨kp, 2, none⟩ = some (.slice (some ⟨g8, 0, none⟩) (L.length + 1) c8) := by have := cell_of_row _ _ 2 _ _ _ hc8.row; simpa using this
      have fk : w8.frozen? ⟨kp, 2, none⟩ = false := frozen_of_row _ _ 2 _ _ hc8.row
      have hk8 : kp < w8.heap.size := blk_lt hc8.row
      have hsl : ∀ W, (Instr.slice 40 (.slice (some ⟨g8, 0, none⟩) (L.length + 1) c8) none (some (.int .i64 (L.length : Int))) none).run Tryz.prog W = .ok (.slice (some ⟨g8, 0, none⟩) L.length c8) W := slice_popS g8 L.length (L.length + 1) c8 (by omega) hc8c
      clear hc8 hl8 hd8 h9 H7 HLC HTD n6 h8 el8
      go_wp2_with fail
      go_region
      all_goals
       go_wp2_with fail
       go_end0
       exact ⟨rfl, _, by rw [HSTF.out]; exact H9.out.1, H9.out.2.1, HD9.out⟩
    ·have HSTF : Hid (R = goL (stmtF (mustT V T.vars.length T.nodes) T.vars T.nodes f (L ++ [nm])) n.thn A1) := by unfold Hid; rw [HRR.out, HF.out, if_neg hor]
     have hob : decide (1000 < n.num ∨ 1000 < n.far) = false := decide_eq_false hor
     rw [hob]
     clear hor hob HF n3 n4
     have hown := HLO.out _ HC.out.2
     have hrl6 : ∀ g, (Value.slice aL L.length cL).ownBlock = some g → B ≤ g ∧ g < wc.heap.size := fun g hg => World.ownsRow.lt hown g hg
     have q1 : wc.cell? ⟨kp, 2, none⟩ = some (.slice aL L.length cL) := by have := cell_of_row _ _ 2 _ _ _ HC.out.1.row; simpa using this
     have fq : wc.frozen? ⟨kp, 2, none⟩ = false := frozen_of_row _ _ 2 _ _ HC.out.1.row
     have n2 : wc.cell? ⟨W.heap.size, 2, none⟩ = some (.string (bs nm)) := cell_of_row _ _ 2 _ _ _ HN.out
     have hgw : kp < wc.heap.size := blk_lt HC.out.1.row
     have hnw : W.heap.size < wc.heap.size := blk_lt HN.out
     have ag : (Value.slice aL L.length cL).ownBlock ≠ some kp := fun e => by have := (hrl6 _ e).1; omega
     have h63 : L.length + 1 ≤ maxLen := by unfold maxLen; omega
     have hbb : (L.length + 1) * 16 ≤ 140737488355328 := by omega
     have hbase : B ≤ wc.heap.size := by omega
     clear HRR hrl HSTOP
     go_wp2_with fail
     go_region_law ((refine step_append_lies _ (by rfl) _ _ _ (by rfl) B 9 i0 _ 1 16 Tryz.underlying40 hi hz0 hz1 hz2 rfl (by omega) (.slice aL L.length cL) L.length (namC L) (by rfl) ((hown.alloc _).drew) ⟨wc.heap.size, 0, none⟩ 1 1 [.string (bs nm)] (by rfl) (by rfl) (World.news_of_block (cs := #[.string (bs nm)]) (t := 9) (fr := (0, 0)) (heap_alloc_new wc _)) (by simp [Value.oneCell']) (by omega) h63 hbb (by simp; omega) (wc.heap.size + 1) (by simp) ?_; intro gg cap w1 hown1 hgrow hat hlt1; have q9 : w1.cell? ⟨kp, 2, none⟩ = some (.slice aL L.length cL) := (hgrow.cell_far ⟨kp, 2, none⟩ (by simp; omega) (Ne.symm ag)).trans ((World.cell?_of_block (a := ⟨kp, 2, none⟩) (Below.heap_alloc wc _ kp hgw)).trans q1); have f9 : w1.frozen? ⟨kp, 2, none⟩ = false := (hgrow.frozen_far ⟨kp, 2, none⟩ (by simp; omega) (Ne.symm ag)).trans ((World.frozen?_of_block (a := ⟨kp, 2, none⟩) (Below.heap_alloc wc _ kp hgw)).trans fq); have hgw1 : kp < w1.heap.size := World.block_lt_of_cell? _ _ q9))
     all_goals
      have h7 := for_push (nm := nm) HC.out.1 (HLO.out _ HC.out.2) hB hlow (((Below.refl wc.heap.size wc).alloc (Nat.le_refl _) _).drew) hgrow hown1 hat (by omega)
      have H7 : Hid _ := h7
      have n6 : (w1.setCell ⟨kp, 2, none⟩ (.slice (some ⟨gg, 0, none⟩) (L.length + 1) cap)).cell? ⟨W.heap.size, 6, none⟩ = some (.slice at1 n.thn.length ct) := h7.2.2.cell (p := ⟨W.heap.size, 6, none⟩) hWn hWv (cell_of_row _ _ 6 _ _ _ HN.out)
      clear hown1 hgrow hat hlt1 q9 f9 hgw1 hown hrl6 q1 fq n2 ag h7
      generalize hW7 : w1.setCell ⟨kp, 2, none⟩ (.slice (some ⟨gg, 0, none⟩) (L.length + 1) cap) = W7 at *
      clear hW7
      go_wp2_with fail
      refine (HLC.out _ _ _ _ H7.out.1 H7.out.2.1 HTD.out).mono ?_
      rintro e w8 ⟨rfl, vl8, hc8, hl8, hd8⟩
      obtain ⟨a8, c8, ev8, h8⟩ := hl8.form
      obtain ⟨g8, ea8, _⟩ := h8 (by simp)
      subst ev8; subst ea8
      have el8 : (L ++ [nm]).length = L.length + 1 := by simp
      rw [el8] at hc8 hl8 hd8
      have h9 := for_pop hc8 hl8 hB hlow
      have H9 : Hid _ := h9
      have HD9 : Hid (Duo kp (.slice aL L.length cL) (.slice (some ⟨g8, 0, none⟩) L.length c8) W (w8.drew.setCell ⟨kp, 2, none⟩ (.slice (some ⟨g8, 0, none⟩) L.length c8))) := (((HC.out.2.duo _).trans H7.out.2.2).trans hd8).trans h9.2.2
      have hc8c : L.length + 1 ≤ c8 := hl8.cap.2
      have k2 : w8.cell? ⟨kp, 2, none⟩ = some (.slice (some ⟨g8, 0, none⟩) (L.length + 1) c8) := by have := cell_of_row _ _ 2 _ _ _ hc8.row; simpa using this
      have fk : w8.frozen? ⟨kp, 2, none⟩ = false := frozen_of_row _ _ 2 _ _ hc8.row
      have hk8 : kp < w8.heap.size := blk_lt hc8.row
      have hsl : ∀ W, (Instr.slice 40 (.slice (some ⟨g8, 0, none⟩) (L.length + 1) c8) none (some (.int .i64 (L.length : Int))) none).run Tryz.prog W = .ok (.slice (some ⟨g8, 0, none⟩) L.length c8) W := slice_popS g8 L.length (L.length + 1) c8 (by omega) hc8c
      clear hc8 hl8 hd8 h9 H7 HLC HTD n6 h8 el8
      go_wp2_with fail
      go_region
      all_goals
       go_wp2_with fail
       go_end0
       exact ⟨rfl, _, by rw [HSTF.out]; exact H9.out.1, H9.out.2.1, HD9.out⟩
structure CkB (lo : Nat) (W0 : World) (cp mp : Nat) (vn : Value) (T : LTree) (V : List LVar) : Prop where
 nodes : NodesV lo W0 vn T.nodes
 map : NamesAt W0 mp V T.vars.length
 good : Good T
 few : V.length ≤ 624
 low : W0.heap.size ≤ cp
structure ICk (W0 W : World) (cp mp : Nat) (vn vl : Value) : Prop where
 bel : Below W0.heap.size W0 W
 row : W.heap[cp]? = some (.cells #[vn, .map (some mp), vl] 184 (0, 0))
theorem ICk.below {W0 W W' : World} {cp mp : Nat} {vn vl : Value} (h : ICk W0 W cp mp vn vl) (hb : Below W.heap.size W W') : ICk W0 W' cp mp vn vl := ⟨h.bel.trans (hb.mono h.bel.size), blk h.row hb⟩
theorem CkB.ck {lo : Nat} {W0 W : World} {cp mp : Nat} {vn vl : Value} {T : LTree} {V : List LVar} (h : CkB lo W0 cp mp vn T V) (k : ICk W0 W cp mp vn vl) : CkE lo W cp mp vn vl T V :=
 ⟨k.row, h.nodes.below k.bel, ownsMap_block h.map (k.bel.block _ h.map.lt), h.good, h.few⟩
theorem CkB.node {lo : Nat} {W0 W : World} {cp mp : Nat} {vn : Value} {T : LTree} {V : List LVar} (h : CkB lo W0 cp mp vn T V) (hb : Below W0.heap.size W0 W) (x : Nat) (hx : x < T.nodes.length) :
  ∃ bn on cn, vn = .slice (some ⟨bn, on, none⟩) T.nodes.length cn ∧ ∃ vk vt ve, NodeCells W bn (on + x * 8) (nodeOf T.nodes (x : Int)) vk vt ve ∧ IntsV lo W0 vk (nodeOf T.nodes (x : Int)).kids ∧ IntsV lo W0 vt (nodeOf T.nodes (x : Int)).thn ∧ IntsV lo W0 ve (nodeOf T.nodes (x : Int)).els := by
 obtain ⟨an, cn, rfl, _, hh⟩ := id h.nodes
 obtain ⟨bn, on, rfl, _, hc⟩ := hh (by intro e; rw [e] at hx; simp at hx)
 have hxe : T.nodes[x]? = some (nodeOf T.nodes (x : Int)) := by unfold nodeOf; rw [Int.toNat_natCast, List.getD_eq_getElem?_getD, List.getElem?_eq_getElem hx]; rfl
 obtain ⟨vk, vt, ve, h1, h2⟩ := hc x _ hxe
 exact ⟨bn, on, cn, rfl, vk, vt, ve, h1.keep (lo := 0) (.of_below hb) (Nat.zero_le _), h2.kids, h2.thn, h2.els⟩
set_option maxHeartbeats 1600000 in
theorem indexS_any (a : Option Addr) (c B : Nat) (L : List (List UInt8)) (nm : List UInt8) (W : World) (hL : LoopO W B (.slice a L.length c) L) (hfew : L.length ≤ 1048576) :
  Calls Tryz.prog 215 #[.slice a L.length c, .string (bs nm)] W fun e w' => (∃ i : Int, e = .returned (.int .i64 i) ∧ (0 ≤ i ↔ nm ∈ L)) ∧ w' = W := by
 obtain ⟨a', c', e, hh⟩ := hL.form
 injection e with e1 e2 e3
 subst e1; subst e3
 have HL : Hid (L ≠ [] → ∃ g, a = some ⟨g, 0, none⟩ ∧ B ≤ g ∧ ∀ (i : Nat) (nm : List UInt8), L[i]? = some nm → W.cell? ⟨g, i, none⟩ = some (.string (bs nm))) := hh
 clear hh hL
 go_enter Tryz.func215, Tryz.ntmps215
 go_wp2
 go_loopw [8] (fun i wr => ∃ k : Nat, k ≤ L.length ∧ i = .int .i64 k ∧ (nm ∈ L ↔ nm ∈ L.drop k) ∧ SameW wr W) (fun i _ => L.length - (intOf i).toNat)
 case atStart => exact ⟨0, by omega, rfl, by rw [List.drop_zero], rfl⟩
 case round =>
  obtain ⟨k, hk, rfl, hv, hw⟩ := hrel
  have HF : Hid _ := hv
  clear hv
  by_cases hlt : k < L.length
  ·obtain ⟨x, hx⟩ : ∃ x, L[k]? = some x := ⟨L[k], List.getElem?_eq_getElem hlt⟩
   obtain ⟨g, rfl, _, hc1⟩ := HL.out (by intro e; rw [e] at hlt; simp at hlt)
   have c0 : wr.cell? ⟨g, k, none⟩ = _ := (congrArg (fun W => World.cell? W ⟨g, k, none⟩) hw).trans (hc1 k x hx)
   have HX : Hid (L.drop k = x :: L.drop (k + 1)) := by unfold Hid; rw [List.drop_eq_getElem_cons hlt]; rw [List.getElem?_eq_getElem hlt] at hx; injection hx with hx; rw [hx]
   have hk0 : (0 : Int) ≤ (k : Int) := by omega
   have hk1 : (k : Int) < (L.length : Int) := by omega
   clear hx hc1
   by_cases he : nm = x
   ·have HE : Hid (nm ∈ L) := by unfold Hid; rw [HF.out, HX.out, he]; exact List.mem_cons_self
    subst he
    clear HF HX
    go_wp2
    go_ret
    exact ⟨⟨(k : Int), rfl, ⟨fun _ => HE.out, fun _ => hk0⟩⟩, hw⟩
   ·have hne : (nm == x) = false := by simpa using he
    have hne2 : decide (nm = x) = false := decide_eq_false he
    have HE : Hid (nm ∈ L ↔ nm ∈ L.drop (k + 1)) := by unfold Hid; rw [HF.out, HX.out, List.mem_cons]; exact ⟨fun h => h.resolve_left he, .inr⟩
    clear HF HX
    go_wp2
    go_roundw
    case rel => exact ⟨k + 1, by omega, by go_num, HE.out, hw⟩
    case measure => simp [intOf]; omega
  ·have hke : k = L.length := by omega
   have HE : Hid (nm ∉ L) := by unfold Hid; rw [HF.out, hke, List.drop_length]; exact List.not_mem_nil
   clear HF hke HL
   go_wp2
   go_ret
   exact ⟨⟨-1, rfl, ⟨fun h => by omega, fun h => absurd h HE.out⟩⟩, hw⟩
set_option maxHeartbeats 1600000 in
theorem containsS_any (a : Option Addr) (c B : Nat) (L : List (List UInt8)) (nm : List UInt8) (W : World) (hL : LoopO W B (.slice a L.length c) L) (hfew : L.length ≤ 1048576) :
  Calls Tryz.prog 213 #[.slice a L.length c, .string (bs nm)] W fun e w' => e = .returned (.bool (decide (nm ∈ L))) ∧ w' = W := by
 have H : Hid (Calls Tryz.prog 215 #[.slice a L.length c, .string (bs nm)] W fun e w' => (∃ i : Int, e = .returned (.int .i64 i) ∧ (0 ≤ i ↔ nm ∈ L)) ∧ w' = W) := indexS_any a c B L nm W hL hfew
 clear hL
 go_enter Tryz.func213, Tryz.ntmps213
 go_wp2_with fail
 refine H.out.mono ?_
 rintro e w1 ⟨⟨i, rfl, hi⟩, rfl⟩
 have HE : Hid (decide (nm ∈ L) = decide (0 ≤ i)) := by unfold Hid; rw [decide_eq_decide]; exact hi.symm
 clear hi H
 go_wp2_with fail
 go_ret
 exact ⟨by rw [HE.out]; rfl, rfl⟩
end Go.Proofs.YtdnhmpemkpjcaaaGreatDoor
namespace Go.Proofs.YtdnhmpemkpjcaaaGreatDoor
open Go.RowKit
set_option linter.unusedVariables false
theorem varFrom_mem (nm : List UInt8) : ∀ (V : List LVar) (i : Nat), 0 ≤ varFrom nm V i ↔ ∃ v ∈ V, v.name = nm := by
 intro V
 induction V with
 | nil => intro i; simp [varFrom]
 | cons v r ih =>
  intro i
  unfold varFrom
  by_cases h : v.name = nm
  ·rw [if_pos h]; exact ⟨fun _ => ⟨v, by simp, h⟩, fun _ => by omega⟩
  ·rw [if_neg h, ih]
   refine ⟨fun ⟨x, hx, e⟩ => ⟨x, by simp [hx], e⟩, fun ⟨x, hx, e⟩ => ?_⟩
   rcases List.mem_cons.1 hx with rfl | hx
   ·exact absurd e h
   ·exact ⟨x, hx, e⟩
theorem dup_pair {V : List LVar} : dupB V = false ↔ V.Pairwise (fun a b => a.name ≠ b.name) := by
 unfold dupB
 rw [List.any_eq_false]
 constructor
 ·intro h
  rw [List.pairwise_iff_getElem]
  intro i j hi hj hij e
  have h1 := h j (List.mem_range.2 hj)
  rw [decide_eq_true_eq, varFrom_mem] at h1
  refine h1 ⟨V[i], ?_, ?_⟩
  ·rw [List.mem_take_iff_getElem]; exact ⟨i, by omega, rfl⟩
  ·rw [List.getD_eq_getElem?_getD, List.getElem?_eq_getElem hj]; exact e
 ·intro h j hj
  have hj := List.mem_range.1 hj
  rw [decide_eq_true_eq, varFrom_mem]
  rintro ⟨v, hv, e⟩
  obtain ⟨i, hi, rfl⟩ := List.mem_take_iff_getElem.1 hv
  rw [List.getD_eq_getElem?_getD, List.getElem?_eq_getElem hj] at e
  exact (List.pairwise_iff_getElem.1 h) i j (by omega) hj (by omega) e
theorem dup_kind (T : LTree) : dupB (allL 3 T) = dupB (allL 0 T) := by
 have hn : (allL 3 T).map LVar.name = (allL 0 T).map LVar.name := by
  unfold allL ownsL
  rw [List.map_append, List.map_append, List.map_flatMap, List.map_flatMap]
  congr 2
  funext n
  unfold ownN
  split
  ·unfold ownOf
   split
   ·rfl
   split
   ·rfl
   split <;> rfl
  ·rfl
 have key : ∀ V : List LVar, V.Pairwise (fun a b => a.name ≠ b.name) ↔ (V.map LVar.name).Pairwise (fun a b => a ≠ b) := fun V => by rw [List.pairwise_map]
 have h : dupB (allL 3 T) = false ↔ dupB (allL 0 T) = false := by rw [dup_pair, dup_pair, key, key, hn]
 cases h1 : dupB (allL 3 T) <;> cases h2 : dupB (allL 0 T) <;> simp_all
def callsL (N : List LNode) : List LVar := (N.filter fun n => decide (n.kind = 11)).map fun n => ⟨n.name, 0, 0, 0⟩
theorem callsL_hit {N : List LNode} {k : Nat} {n : LNode} (h : N[k]? = some n) (e : n.kind = 11) : callsL (N.take (k + 1)) = callsL (N.take k) ++ [⟨n.name, 0, 0, 0⟩] := by
 obtain ⟨hk, rfl⟩ := List.getElem?_eq_some_iff.1 h
 unfold callsL; rw [List.take_succ_eq_append_getElem hk, List.filter_append, List.map_append]
 simp [e]
theorem callsL_miss {N : List LNode} {k : Nat} {n : LNode} (h : N[k]? = some n) (e : n.kind ≠ 11) : callsL (N.take (k + 1)) = callsL (N.take k) := by
 obtain ⟨hk, rfl⟩ := List.getElem?_eq_some_iff.1 h
 unfold callsL; rw [List.take_succ_eq_append_getElem hk, List.filter_append, List.map_append]
 simp [e]
theorem callsL_len (N : List LNode) : (callsL N).length ≤ N.length := by unfold callsL; rw [List.length_map]; exact List.length_filter_le _ _
theorem own_q (K op : Int) (nm : List UInt8) : ∃ v ∈ ownOf K op nm, v.name = nm ++ [113] := by
 unfold ownOf
 split
 ·exact ⟨⟨nm ++ [113], K, 2, 0⟩, by simp, rfl⟩
 split
 ·exact ⟨⟨nm ++ [113], K, 2, 0⟩, by simp, rfl⟩
 split
 ·exact ⟨⟨nm ++ [113], K, 2, 0⟩, by simp, rfl⟩
 ·exact ⟨⟨nm ++ [113], K, 2, 0⟩, by simp, rfl⟩
theorem calls_fresh {T : LTree} {K : Int} (h : dupB (allL K T) = false) {k : Nat} {n : LNode} (hk : T.nodes[k]? = some n) (hc : n.kind = 11) : varFrom n.name (callsL (T.nodes.take k)) 0 < 0 := by
 refine Classical.byContradiction fun hh => ?_
 obtain ⟨v, hv, e⟩ := (varFrom_mem n.name (callsL (T.nodes.take k)) 0).1 (by omega)
 unfold callsL at hv
 obtain ⟨m, hm, rfl⟩ := List.mem_map.1 hv
 obtain ⟨hm1, hm2⟩ := List.mem_filter.1 hm
 obtain ⟨i, hi, rfl⟩ := List.mem_take_iff_getElem.1 hm1
 have hm3 : (T.nodes[i]).kind = 11 := of_decide_eq_true hm2
 obtain ⟨hkl, rfl⟩ := List.getElem?_eq_some_iff.1 hk
 have hp := dup_pair.1 h
 unfold allL ownsL at hp
 have h2 := (List.pairwise_append.1 hp).2.1
 rw [List.pairwise_flatMap] at h2
 have h3 := (List.pairwise_iff_getElem.1 h2.2) i k (by omega) hkl (by omega)
 obtain ⟨a, ha, ea⟩ := own_q K (T.nodes[i]).op (T.nodes[i]).name
 obtain ⟨b, hb, eb⟩ := own_q K (T.nodes[k]).op (T.nodes[k]).name
 refine h3 a (by unfold ownN; rw [if_pos hm3]; exact ha) b (by unfold ownN; rw [if_pos hc]; exact hb) ?_
 rw [ea, eb]
 simp only at e
 rw [e]
theorem any_drop_step {V : List LVar} {k : Nat} {v : LVar} (h : V[k]? = some v) : (V.drop k).any (fun v => !isNameL v.name) = (!isNameL v.name || (V.drop (k + 1)).any (fun v => !isNameL v.name)) := by
 obtain ⟨hk, rfl⟩ := List.getElem?_eq_some_iff.1 h
 rw [List.drop_eq_getElem_cons hk, List.any_cons]
theorem dup_step {V : List LVar} {k : Nat} (hk : k < V.length) : (List.range (k + 1)).any (fun i => decide (0 ≤ varFrom (V.getD i default).name (V.take i) 0)) = ((List.range k).any (fun i => decide (0 ≤ varFrom (V.getD i default).name (V.take i) 0)) || decide (0 ≤ varFrom (V.getD k default).name (V.take k) 0)) := by
 rw [List.range_succ, List.any_append]; simp
theorem dup_hit {V : List LVar} {k : Nat} (hk : k < V.length) (h : 0 ≤ varFrom (V.getD k default).name (V.take k) 0) : dupB V = true := by
 unfold dupB
 rw [List.any_eq_true]
 exact ⟨k, List.mem_range.2 hk, decide_eq_true h⟩
theorem dup_none {V : List LVar} (h : ∀ k, k < V.length → varFrom (V.getD k default).name (V.take k) 0 < 0) : dupB V = false := by
 unfold dupB
 rw [List.any_eq_false]
 intro i hi
 have := h i (List.mem_range.1 hi)
 rw [decide_eq_true_eq]; omega
end Go.Proofs.YtdnhmpemkpjcaaaGreatDoor
namespace Go.Proofs.YtdnhmpemkpjcaaaGreatDoor
open Go.RowKit
set_option linter.unusedVariables false
attribute [local go_sem] bs_size bs_get bs_extract bs_append bs_eq bs_toList
def settF (V : List LVar) (nv : Nat) (L : List (List UInt8)) (n : LNode) (x : Int) : Met :=
 if (namedF V nv n x).1 ≠ 0 then namedF V nv n x
 else if (V.getD (varFrom n.name V 0).toNat default).kind = 1 ∨ (V.getD (varFrom n.name V 0).toNat default).name ∈ L then (10, x) else (0, 0)
theorem six_set {w : World} {b : Nat} {T : TypeId} {a0 a1 a2 a3 a4 a5 : Value} (x0 x1 x2 x3 x4 x5 : Value) (h : w.heap[b]? = some (.cells #[a0, a1, a2, a3, a4, a5] T (0, 0))) :
  ((((((w.setCell ⟨b, 0, none⟩ x0).setCell ⟨b, 1, none⟩ x1).setCell ⟨b, 2, none⟩ x2).setCell ⟨b, 3, none⟩ x3).setCell ⟨b, 4, none⟩ x4).setCell ⟨b, 5, none⟩ x5).heap[b]? = some (.cells #[x0, x1, x2, x3, x4, x5] T (0, 0)) := by
 rw [heap_setCell_same _ _ _ _ _ _ (heap_setCell_same _ _ _ _ _ _ (heap_setCell_same _ _ _ _ _ _ (heap_setCell_same _ _ _ _ _ _ (heap_setCell_same _ _ _ _ _ _ (heap_setCell_same _ _ _ _ _ _ h)))))]
 rfl
set_option maxHeartbeats 12800000 in
set_option maxRecDepth 100000 in
theorem settable_any (lo : Nat) (W0 W : World) (cp mp B : Nat) (vn vl : Value) (T : LTree) (V : List LVar) (L : List (List UInt8)) (x : Nat) (hE : CkB lo W0 cp mp vn T V) (hC : ICk W0 W cp mp vn vl) (hL : LoopO W B vl L) (hB : B = cp + 1) (hLl : L.length ≤ 1048576) (hx : x < T.nodes.length) (hnm : (nodeOf T.nodes (x : Int)).name.length ≤ 1048576) :
  Calls Tryz.prog 210 #[.pointer (some ⟨cp, 0, none⟩), .int .i64 (x : Int)] W fun e w' => e = .returned (.tuple #[namedV V T.vars.length (nodeOf T.nodes (x : Int)) (x : Int), errV (settF V T.vars.length L (nodeOf T.nodes (x : Int)) (x : Int))]) ∧ Below W.heap.size W w' := by
 have HNA : Hid (∀ W', Below W.heap.size W W' → Calls Tryz.prog 176 #[.pointer (some ⟨cp, 0, none⟩), .int .i64 (x : Int)] W' fun e w' => e = .returned (.tuple #[namedV V T.vars.length (nodeOf T.nodes (x : Int)) (x : Int), errV (namedF V T.vars.length (nodeOf T.nodes (x : Int)) (x : Int))]) ∧ Below W'.heap.size W' w') := fun W' hb => named_any lo cp mp W' vn vl T V x (hE.ck (hC.below hb)) hx hnm
 obtain ⟨aL, cL, evl, _⟩ := hL.form
 subst evl
 have HLO : Hid (∀ W', Below W.heap.size W W' → LoopO W' B (.slice aL L.length cL) L) := fun W' hb => rowE_kept hL hb
 have HCO : Hid (∀ (nm : List UInt8) (W' : World), LoopO W' B (.slice aL L.length cL) L → Calls Tryz.prog 213 #[.slice aL L.length cL, .string (bs nm)] W' fun e w' => e = .returned (.bool (decide (nm ∈ L))) ∧ w' = W') := fun nm W' h => containsS_any aL cL B L nm W' h hLl
 have HROW : Hid (∀ W', Below W.heap.size W W' → W'.cell? ⟨cp, 2, none⟩ = some (.slice aL L.length cL)) := fun W' hb => cell_of_row _ _ 2 _ _ _ (hC.below hb).row
 have hcl := blk_lt hC.row
 obtain ⟨m, hm⟩ : ∃ m, m = namedF V T.vars.length (nodeOf T.nodes (x : Int)) (x : Int) := ⟨_, rfl⟩
 obtain ⟨R, hR⟩ : ∃ R, R = settF V T.vars.length L (nodeOf T.nodes (x : Int)) (x : Int) := ⟨_, rfl⟩
 obtain ⟨y0, y1, y2, y3, y4, y5, hy⟩ := namedV_form V T.vars.length (nodeOf T.nodes (x : Int)) (x : Int)
 have HRR : Hid (R = if m.1 ≠ 0 then m else if (V.getD (varFrom (nodeOf T.nodes (x : Int)).name V 0).toNat default).kind = 1 ∨ (V.getD (varFrom (nodeOf T.nodes (x : Int)).name V 0).toNat default).name ∈ L then (10, (x : Int)) else (0, 0)) := by unfold Hid; rw [hR, hm]; rfl
 have HYV : Hid (m.1 = 0 → (V.getD (varFrom (nodeOf T.nodes (x : Int)).name V 0).toNat default).kind = y1 ∧ (V.getD (varFrom (nodeOf T.nodes (x : Int)).name V 0).toNat default).name = y0) := fun h0 => by
  have h := hy
  unfold namedV at h
  rw [← hm, if_pos h0] at h
  unfold entVal at h
  injection h with h
  have h2 := congrArg Array.toList h
  simp at h2
  exact ⟨h2.2.1, bs_inj h2.1⟩
 rw [hy, ← hm] at HNA
 rw [hy, ← hR]
 clear hm hR hy hE hC hL
 obtain ⟨m1, m2⟩ := m
 go_enter Tryz.func210, Tryz.ntmps210
 go_wp2_with fail
 have hA := heap_alloc_new W (.cells #[.string ⟨#[]⟩, .int .i64 0, .int .i64 0, .int .i64 0, .bool false, .int .i64 0] 100)
 have hB1 : Below W.heap.size W (W.alloc (.cells #[.string ⟨#[]⟩, .int .i64 0, .int .i64 0, .int .i64 0, .bool false, .int .i64 0] 100)) := (Below.refl _ _).alloc (Nat.le_refl _) _
 generalize W.alloc (.cells #[.string ⟨#[]⟩, .int .i64 0, .int .i64 0, .int .i64 0, .bool false, .int .i64 0] 100) = W1 at *
 refine (HNA.out _ hB1).mono ?_
 rintro e w2 ⟨rfl, hb⟩
 have HA : Hid (w2.heap[W.heap.size]? = some (.cells #[.string ⟨#[]⟩, .int .i64 0, .int .i64 0, .int .i64 0, .bool false, .int .i64 0] 100 (0, 0))) := blk hA hb
 have HB : Hid (Below W.heap.size W w2) := hB1.trans (hb.mono hB1.size)
 clear hA hB1 hb HNA
 by_cases hm : m1 = 0
 ·subst hm
  have HY := HYV.out rfl
  have HR2 : Hid (R = if y1 = 1 ∨ y0 ∈ L then (10, (x : Int)) else (0, 0)) := by unfold Hid; rw [HRR.out, if_neg (by simp), HY.1, HY.2]
  rw [errV_zero rfl]
  clear HRR HYV HY
  have HV3 : Hid ((w2.alloc (.cells #[.string (bs y0), .int .i64 y1, .int .i64 y2, .int .i64 y3, .bool y4, .int .i64 y5] 100)).heap[w2.heap.size]? = some (.cells #[.string (bs y0), .int .i64 y1, .int .i64 y2, .int .i64 y3, .bool y4, .int .i64 y5] 100 (0, 0))) := heap_alloc_new w2 _
  have hb3 : Below w2.heap.size w2 (w2.alloc (.cells #[.string (bs y0), .int .i64 y1, .int .i64 y2, .int .i64 y3, .bool y4, .int .i64 y5] 100)) := (Below.refl _ _).alloc (Nat.le_refl _) _
  have HA3 : Hid ((w2.alloc (.cells #[.string (bs y0), .int .i64 y1, .int .i64 y2, .int .i64 y3, .bool y4, .int .i64 y5] 100)).heap[W.heap.size]? = some (.cells #[.string ⟨#[]⟩, .int .i64 0, .int .i64 0, .int .i64 0, .bool false, .int .i64 0] 100 (0, 0))) := blk HA.out hb3
  have HB3 : Hid (Below W.heap.size W (w2.alloc (.cells #[.string (bs y0), .int .i64 y1, .int .i64 y2, .int .i64 y3, .bool y4, .int .i64 y5] 100))) := HB.out.trans (hb3.mono HB.out.size)
  have hWz : W.heap.size < w2.heap.size := blk_lt HA.out
  clear hb3 HA HB
  go_wp2_with fail
  generalize w2.alloc (.cells #[.string (bs y0), .int .i64 y1, .int .i64 y2, .int .i64 y3, .bool y4, .int .i64 y5] 100) = W3 at *
  have k2 := HROW.out W3 HB3.out
  have HLX : Hid (∀ W', W'.heap = W3.heap → LoopO W' B (.slice aL L.length cL) L) := fun W' hW => rowE_same (HLO.out W3 HB3.out) (fun g _ _ => by rw [hW])
  generalize w2.heap.size = gv at *
  have v0 := cell_of_row _ _ 0 _ _ _ HV3.out
  have v1 := cell_of_row _ _ 1 _ _ _ HV3.out
  have v2 := cell_of_row _ _ 2 _ _ _ HV3.out
  have v3 := cell_of_row _ _ 3 _ _ _ HV3.out
  have v4 := cell_of_row _ _ 4 _ _ _ HV3.out
  have v5 := cell_of_row _ _ 5 _ _ _ HV3.out
  have f0 := frozen_of_row _ _ 0 _ _ HA3.out
  have f1 := frozen_of_row _ _ 1 _ _ HA3.out
  have f2 := frozen_of_row _ _ 2 _ _ HA3.out
  have f3 := frozen_of_row _ _ 3 _ _ HA3.out
  have f4 := frozen_of_row _ _ 4 _ _ HA3.out
  have f5 := frozen_of_row _ _ 5 _ _ HA3.out
  have r0 := cell_of_row _ _ 0 _ _ _ HA3.out
  have r1 := cell_of_row _ _ 1 _ _ _ HA3.out
  have r2 := cell_of_row _ _ 2 _ _ _ HA3.out
  have r3 := cell_of_row _ _ 3 _ _ _ HA3.out
  have r4 := cell_of_row _ _ 4 _ _ _ HA3.out
  have r5 := cell_of_row _ _ 5 _ _ _ HA3.out
  simp at v0 v1 v2 v3 v4 v5 f0 f1 f2 f3 f4 f5 r0 r1 r2 r3 r4 r5
  have hW3z : W.heap.size < W3.heap.size := blk_lt HA3.out
  have hv3z : gv < W3.heap.size := blk_lt HV3.out
  have hc3z : cp < W3.heap.size := World.block_lt_of_cell? _ _ k2
  by_cases hy1 : y1 = 1
  ·subst hy1
   have HRF : Hid (R = (10, (x : Int))) := by unfold Hid; rw [HR2.out, if_pos (Or.inl rfl)]
   clear HR2
   go_quiet (fail)
   have HV4 : Hid ((W3.drewN nq).heap[gv]? = some (.cells #[.string (bs y0), .int .i64 1, .int .i64 y2, .int .i64 y3, .bool y4, .int .i64 y5] 100 (0, 0))) := HV3.out
   have HA4 : Hid ((W3.drewN nq).heap[W.heap.size]? = some (.cells #[.string ⟨#[]⟩, .int .i64 0, .int .i64 0, .int .i64 0, .bool false, .int .i64 0] 100 (0, 0))) := HA3.out
   have HB4 : Hid (Below W.heap.size W (W3.drewN nq)) := ⟨HB3.out.os, HB3.out.tape, HB3.out.output, HB3.out.size, HB3.out.block⟩
   clear v0 v1 v2 v3 v4 v5 f0 f1 f2 f3 f4 f5 r0 r1 r2 r3 r4 r5 k2 HV3 HA3 HB3 HLX hW3z hv3z hc3z
   generalize W3.drewN nq = W4 at *
   have HV3 : Hid _ := HV4.out
   have HA3 : Hid _ := HA4.out
   have HB3 : Hid _ := HB4.out
   clear HV4 HA4 HB4
   have v0 := cell_of_row _ _ 0 _ _ _ HV3.out
   have v1 := cell_of_row _ _ 1 _ _ _ HV3.out
   have v2 := cell_of_row _ _ 2 _ _ _ HV3.out
   have v3 := cell_of_row _ _ 3 _ _ _ HV3.out
   have v4 := cell_of_row _ _ 4 _ _ _ HV3.out
   have v5 := cell_of_row _ _ 5 _ _ _ HV3.out
   have f0 := frozen_of_row _ _ 0 _ _ HA3.out
   have f1 := frozen_of_row _ _ 1 _ _ HA3.out
   have f2 := frozen_of_row _ _ 2 _ _ HA3.out
   have f3 := frozen_of_row _ _ 3 _ _ HA3.out
   have f4 := frozen_of_row _ _ 4 _ _ HA3.out
   have f5 := frozen_of_row _ _ 5 _ _ HA3.out
   have r0 := cell_of_row _ _ 0 _ _ _ HA3.out
   have r1 := cell_of_row _ _ 1 _ _ _ HA3.out
   have r2 := cell_of_row _ _ 2 _ _ _ HA3.out
   have r3 := cell_of_row _ _ 3 _ _ _ HA3.out
   have r4 := cell_of_row _ _ 4 _ _ _ HA3.out
   have r5 := cell_of_row _ _ 5 _ _ _ HA3.out
   simp at v0 v1 v2 v3 v4 v5 f0 f1 f2 f3 f4 f5 r0 r1 r2 r3 r4 r5
   have hW3z : W.heap.size < W4.heap.size := blk_lt HA3.out
   have HRE : Hid (errV R = .iface 89 (.agg #[.int .i64 10, .int .i64 (x : Int)])) := by unfold Hid; rw [HRF.out]; rfl
   clear HRF
   have hz := six_set (.string (bs y0)) (.int .i64 1) (.int .i64 y2) (.int .i64 y3) (.bool y4) (.int .i64 y5) HA3.out
   have z0 := cell_of_row _ _ 0 _ _ _ hz
   have z1 := cell_of_row _ _ 1 _ _ _ hz
   have z2 := cell_of_row _ _ 2 _ _ _ hz
   have z3 := cell_of_row _ _ 3 _ _ _ hz
   have z4 := cell_of_row _ _ 4 _ _ _ hz
   have z5 := cell_of_row _ _ 5 _ _ _ hz
   simp at z0 z1 z2 z3 z4 z5
   clear hz
   go_wp2_with fail
   refine bodyPost_ret (v := .tuple #[.agg #[.string (bs y0), .int .i64 1, .int .i64 y2, .int .i64 y3, .bool y4, .int .i64 y5], .iface 89 (.agg #[.int .i64 10, .int .i64 (x : Int)])]) (by simp [results, Tryz.results210, go_sem, z0, z1, z2, z3, z4, z5]) rfl ⟨by rw [HRE.out], ?_⟩
   exact (((((HB3.out.setCell (by simp) _).setCell (by simp) _).setCell (by simp) _).setCell (by simp) _).setCell (by simp) _).setCell (by simp) _
  ·have hyb : (y1 == 1) = false := by simpa using hy1
   have hyd : decide (y1 = 1) = false := decide_eq_false hy1
   obtain ⟨q, hq⟩ : ∃ q, decide (y0 ∈ L) = q := ⟨_, rfl⟩
   have HCX : Hid (∀ W', W'.heap = W3.heap → Calls Tryz.prog 213 #[.slice aL L.length cL, .string (bs y0)] W' fun e w' => e = .returned (.bool q) ∧ w' = W') := fun W' hW => by rw [← hq]; exact HCO.out y0 W' (HLX.out W' hW)
   cases q with
   | true =>
    have HRF : Hid (R = (10, (x : Int))) := by unfold Hid; rw [HR2.out, if_pos (Or.inr (of_decide_eq_true hq))]
    clear HR2 hq
    go_quiet (first | (go_at_call 213; exact Calls.quiet_of_same (HCX.out _ rfl)))
    have HV4 : Hid ((W3.drewN nq).heap[gv]? = some (.cells #[.string (bs y0), .int .i64 y1, .int .i64 y2, .int .i64 y3, .bool y4, .int .i64 y5] 100 (0, 0))) := HV3.out
    have HA4 : Hid ((W3.drewN nq).heap[W.heap.size]? = some (.cells #[.string ⟨#[]⟩, .int .i64 0, .int .i64 0, .int .i64 0, .bool false, .int .i64 0] 100 (0, 0))) := HA3.out
    have HB4 : Hid (Below W.heap.size W (W3.drewN nq)) := ⟨HB3.out.os, HB3.out.tape, HB3.out.output, HB3.out.size, HB3.out.block⟩
    clear v0 v1 v2 v3 v4 v5 f0 f1 f2 f3 f4 f5 r0 r1 r2 r3 r4 r5 k2 HV3 HA3 HB3 HLX hW3z hv3z hc3z
    generalize W3.drewN nq = W4 at *
    have HV3 : Hid _ := HV4.out
    have HA3 : Hid _ := HA4.out
    have HB3 : Hid _ := HB4.out
    clear HV4 HA4 HB4
    have v0 := cell_of_row _ _ 0 _ _ _ HV3.out
    have v1 := cell_of_row _ _ 1 _ _ _ HV3.out
    have v2 := cell_of_row _ _ 2 _ _ _ HV3.out
    have v3 := cell_of_row _ _ 3 _ _ _ HV3.out
    have v4 := cell_of_row _ _ 4 _ _ _ HV3.out
    have v5 := cell_of_row _ _ 5 _ _ _ HV3.out
    have f0 := frozen_of_row _ _ 0 _ _ HA3.out
    have f1 := frozen_of_row _ _ 1 _ _ HA3.out
    have f2 := frozen_of_row _ _ 2 _ _ HA3.out
    have f3 := frozen_of_row _ _ 3 _ _ HA3.out
    have f4 := frozen_of_row _ _ 4 _ _ HA3.out
    have f5 := frozen_of_row _ _ 5 _ _ HA3.out
    have r0 := cell_of_row _ _ 0 _ _ _ HA3.out
    have r1 := cell_of_row _ _ 1 _ _ _ HA3.out
    have r2 := cell_of_row _ _ 2 _ _ _ HA3.out
    have r3 := cell_of_row _ _ 3 _ _ _ HA3.out
    have r4 := cell_of_row _ _ 4 _ _ _ HA3.out
    have r5 := cell_of_row _ _ 5 _ _ _ HA3.out
    simp at v0 v1 v2 v3 v4 v5 f0 f1 f2 f3 f4 f5 r0 r1 r2 r3 r4 r5
    have hW3z : W.heap.size < W4.heap.size := blk_lt HA3.out
    have HRE : Hid (errV R = .iface 89 (.agg #[.int .i64 10, .int .i64 (x : Int)])) := by unfold Hid; rw [HRF.out]; rfl
    clear HRF
    have hz := six_set (.string (bs y0)) (.int .i64 y1) (.int .i64 y2) (.int .i64 y3) (.bool y4) (.int .i64 y5) HA3.out
    have z0 := cell_of_row _ _ 0 _ _ _ hz
    have z1 := cell_of_row _ _ 1 _ _ _ hz
    have z2 := cell_of_row _ _ 2 _ _ _ hz
    have z3 := cell_of_row _ _ 3 _ _ _ hz
    have z4 := cell_of_row _ _ 4 _ _ _ hz
    have z5 := cell_of_row _ _ 5 _ _ _ hz
    simp at z0 z1 z2 z3 z4 z5
    clear hz
    go_wp2_with fail
    refine bodyPost_ret (v := .tuple #[.agg #[.string (bs y0), .int .i64 y1, .int .i64 y2, .int .i64 y3, .bool y4, .int .i64 y5], .iface 89 (.agg #[.int .i64 10, .int .i64 (x : Int)])]) (by simp [results, Tryz.results210, go_sem, z0, z1, z2, z3, z4, z5]) rfl ⟨by rw [HRE.out], ?_⟩
    exact (((((HB3.out.setCell (by simp) _).setCell (by simp) _).setCell (by simp) _).setCell (by simp) _).setCell (by simp) _).setCell (by simp) _
   | false =>
    have HRF : Hid (R = (0, 0)) := by unfold Hid; rw [HR2.out, if_neg (fun h => h.elim hy1 (of_decide_eq_false hq))]
    clear HR2 hq
    go_quiet (first | (go_at_call 213; exact Calls.quiet_of_same (HCX.out _ rfl)))
    have HV4 : Hid ((W3.drewN nq).heap[gv]? = some (.cells #[.string (bs y0), .int .i64 y1, .int .i64 y2, .int .i64 y3, .bool y4, .int .i64 y5] 100 (0, 0))) := HV3.out
    have HA4 : Hid ((W3.drewN nq).heap[W.heap.size]? = some (.cells #[.string ⟨#[]⟩, .int .i64 0, .int .i64 0, .int .i64 0, .bool false, .int .i64 0] 100 (0, 0))) := HA3.out
    have HB4 : Hid (Below W.heap.size W (W3.drewN nq)) := ⟨HB3.out.os, HB3.out.tape, HB3.out.output, HB3.out.size, HB3.out.block⟩
    clear v0 v1 v2 v3 v4 v5 f0 f1 f2 f3 f4 f5 r0 r1 r2 r3 r4 r5 k2 HV3 HA3 HB3 HLX hW3z hv3z hc3z
    generalize W3.drewN nq = W4 at *
    have HV3 : Hid _ := HV4.out
    have HA3 : Hid _ := HA4.out
    have HB3 : Hid _ := HB4.out
    clear HV4 HA4 HB4
    have v0 := cell_of_row _ _ 0 _ _ _ HV3.out
    have v1 := cell_of_row _ _ 1 _ _ _ HV3.out
    have v2 := cell_of_row _ _ 2 _ _ _ HV3.out
    have v3 := cell_of_row _ _ 3 _ _ _ HV3.out
    have v4 := cell_of_row _ _ 4 _ _ _ HV3.out
    have v5 := cell_of_row _ _ 5 _ _ _ HV3.out
    have f0 := frozen_of_row _ _ 0 _ _ HA3.out
    have f1 := frozen_of_row _ _ 1 _ _ HA3.out
    have f2 := frozen_of_row _ _ 2 _ _ HA3.out
    have f3 := frozen_of_row _ _ 3 _ _ HA3.out
    have f4 := frozen_of_row _ _ 4 _ _ HA3.out
    have f5 := frozen_of_row _ _ 5 _ _ HA3.out
    have r0 := cell_of_row _ _ 0 _ _ _ HA3.out
    have r1 := cell_of_row _ _ 1 _ _ _ HA3.out
    have r2 := cell_of_row _ _ 2 _ _ _ HA3.out
    have r3 := cell_of_row _ _ 3 _ _ _ HA3.out
    have r4 := cell_of_row _ _ 4 _ _ _ HA3.out
    have r5 := cell_of_row _ _ 5 _ _ _ HA3.out
    simp at v0 v1 v2 v3 v4 v5 f0 f1 f2 f3 f4 f5 r0 r1 r2 r3 r4 r5
    have hW3z : W.heap.size < W4.heap.size := blk_lt HA3.out
    have HRE : Hid (errV R = .nilIface) := by unfold Hid; rw [HRF.out]; rfl
    clear HRF
    have hz := six_set (.string (bs y0)) (.int .i64 y1) (.int .i64 y2) (.int .i64 y3) (.bool y4) (.int .i64 y5) HA3.out
    have z0 := cell_of_row _ _ 0 _ _ _ hz
    have z1 := cell_of_row _ _ 1 _ _ _ hz
    have z2 := cell_of_row _ _ 2 _ _ _ hz
    have z3 := cell_of_row _ _ 3 _ _ _ hz
    have z4 := cell_of_row _ _ 4 _ _ _ hz
    have z5 := cell_of_row _ _ 5 _ _ _ hz
    simp at z0 z1 z2 z3 z4 z5
    clear hz
    go_wp2_with fail
    refine bodyPost_ret (v := .tuple #[.agg #[.string (bs y0), .int .i64 y1, .int .i64 y2, .int .i64 y3, .bool y4, .int .i64 y5], .nilIface]) (by simp [results, Tryz.results210, go_sem, z0, z1, z2, z3, z4, z5]) rfl ⟨by rw [HRE.out], ?_⟩
    exact (((((HB3.out.setCell (by simp) _).setCell (by simp) _).setCell (by simp) _).setCell (by simp) _).setCell (by simp) _).setCell (by simp) _
 ·have HR2 : Hid (R = (m1, m2)) := by unfold Hid; rw [HRR.out, if_pos hm]
  rw [errV_met hm]
  have HRE : Hid (errV R = .iface 89 (.agg #[.int .i64 m1, .int .i64 m2])) := by unfold Hid; rw [HR2.out, errV_met hm]
  clear HRR HYV HR2 hm
  have HV3 : Hid ((w2.alloc (.cells #[.string (bs y0), .int .i64 y1, .int .i64 y2, .int .i64 y3, .bool y4, .int .i64 y5] 100)).heap[w2.heap.size]? = some (.cells #[.string (bs y0), .int .i64 y1, .int .i64 y2, .int .i64 y3, .bool y4, .int .i64 y5] 100 (0, 0))) := heap_alloc_new w2 _
  have hb3 : Below w2.heap.size w2 (w2.alloc (.cells #[.string (bs y0), .int .i64 y1, .int .i64 y2, .int .i64 y3, .bool y4, .int .i64 y5] 100)) := (Below.refl _ _).alloc (Nat.le_refl _) _
  have HA3 : Hid ((w2.alloc (.cells #[.string (bs y0), .int .i64 y1, .int .i64 y2, .int .i64 y3, .bool y4, .int .i64 y5] 100)).heap[W.heap.size]? = some (.cells #[.string ⟨#[]⟩, .int .i64 0, .int .i64 0, .int .i64 0, .bool false, .int .i64 0] 100 (0, 0))) := blk HA.out hb3
  have HB3 : Hid (Below W.heap.size W (w2.alloc (.cells #[.string (bs y0), .int .i64 y1, .int .i64 y2, .int .i64 y3, .bool y4, .int .i64 y5] 100))) := HB.out.trans (hb3.mono HB.out.size)
  have hWz : W.heap.size < w2.heap.size := blk_lt HA.out
  clear hb3 HA HB
  go_upto_region 3 with fail
  generalize w2.alloc (.cells #[.string (bs y0), .int .i64 y1, .int .i64 y2, .int .i64 y3, .bool y4, .int .i64 y5] 100) = W4 at *
  generalize w2.heap.size = gv at *
  have v0 := cell_of_row _ _ 0 _ _ _ HV3.out
  have v1 := cell_of_row _ _ 1 _ _ _ HV3.out
  have v2 := cell_of_row _ _ 2 _ _ _ HV3.out
  have v3 := cell_of_row _ _ 3 _ _ _ HV3.out
  have v4 := cell_of_row _ _ 4 _ _ _ HV3.out
  have v5 := cell_of_row _ _ 5 _ _ _ HV3.out
  have f0 := frozen_of_row _ _ 0 _ _ HA3.out
  have f1 := frozen_of_row _ _ 1 _ _ HA3.out
  have f2 := frozen_of_row _ _ 2 _ _ HA3.out
  have f3 := frozen_of_row _ _ 3 _ _ HA3.out
  have f4 := frozen_of_row _ _ 4 _ _ HA3.out
  have f5 := frozen_of_row _ _ 5 _ _ HA3.out
  have r0 := cell_of_row _ _ 0 _ _ _ HA3.out
  have r1 := cell_of_row _ _ 1 _ _ _ HA3.out
  have r2 := cell_of_row _ _ 2 _ _ _ HA3.out
  have r3 := cell_of_row _ _ 3 _ _ _ HA3.out
  have r4 := cell_of_row _ _ 4 _ _ _ HA3.out
  have r5 := cell_of_row _ _ 5 _ _ _ HA3.out
  simp at v0 v1 v2 v3 v4 v5 f0 f1 f2 f3 f4 f5 r0 r1 r2 r3 r4 r5
  have hW3z : W.heap.size < W4.heap.size := blk_lt HA3.out
  have hz := six_set (.string (bs y0)) (.int .i64 y1) (.int .i64 y2) (.int .i64 y3) (.bool y4) (.int .i64 y5) HA3.out
  have z0 := cell_of_row _ _ 0 _ _ _ hz
  have z1 := cell_of_row _ _ 1 _ _ _ hz
  have z2 := cell_of_row _ _ 2 _ _ _ hz
  have z3 := cell_of_row _ _ 3 _ _ _ hz
  have z4 := cell_of_row _ _ 4 _ _ _ hz
  have z5 := cell_of_row _ _ 5 _ _ _ hz
  simp at z0 z1 z2 z3 z4 z5
  clear hz
  go_wp2_with fail
  refine bodyPost_ret (v := .tuple #[.agg #[.string (bs y0), .int .i64 y1, .int .i64 y2, .int .i64 y3, .bool y4, .int .i64 y5], .iface 89 (.agg #[.int .i64 m1, .int .i64 m2])]) (by simp [results, Tryz.results210, go_sem, z0, z1, z2, z3, z4, z5]) rfl ⟨by rw [HRE.out], ?_⟩
  exact (((((HB3.out.setCell (by simp) _).setCell (by simp) _).setCell (by simp) _).setCell (by simp) _).setCell (by simp) _).setCell (by simp) _
def IntsR (lo : Nat) (w' : World) (e : Ending) (zs : List Int) : Prop := ∃ g, e = .returned (.slice (some ⟨g, 0, none⟩) zs.length zs.length) ∧ lo ≤ g ∧ w'.heap[g]? = some (.cells (zs.map (Value.int .i64)).toArray 2 (0, 0))
set_option maxHeartbeats 800000 in
theorem l5Args_any (op : Int) (w : World) (h1 : 1 ≤ op) (h4 : op ≤ 4) : Calls Tryz.prog 143 #[.int .i64 op] w fun e w' => IntsR w.heap.size w' e (argsL op) ∧ Below w.heap.size w w' := by
 have h : op = 1 ∨ op = 2 ∨ op = 3 ∨ op = 4 := by omega
 rcases h with rfl | rfl | rfl | rfl
 all_goals
  go_enter Tryz.func143, Tryz.ntmps143
  go_wp2
  go_ret
  exact ⟨⟨w.heap.size, rfl, Nat.le_refl _, heap_alloc_new w _⟩, by go_grown⟩
theorem argsF_drop {must : Int → Int → Met → Met} {ks ts : List Int} {j : Nat} {y t : Int} {st : Met} (h1 : ks[j]? = some y) (h2 : ts[j]? = some t) : argsF must (ks.drop j) (ts.drop j) st = argsF must (ks.drop (j + 1)) (ts.drop (j + 1)) (must y t st) := by
 obtain ⟨a1, rfl⟩ := List.getElem?_eq_some_iff.1 h1
 obtain ⟨a2, rfl⟩ := List.getElem?_eq_some_iff.1 h2
 rw [List.drop_eq_getElem_cons a1, List.drop_eq_getElem_cons a2]; rfl
theorem argsL_le (op : Int) : 1 ≤ (argsL op).length ∧ (argsL op).length ≤ 3 := by
 unfold argsL
 split
 ·simp
 split
 ·simp
 split <;> simp
theorem Chk.soleW {W0 W W' : World} {kp p lA cA : Nat} {aA : Option Addr} {vl vl' : Value} {st st' : Met} (h : Chk W0 W kp p aA lA cA vl st) (h' : Chk W0 W' kp p aA lA cA vl' st') : Below W0.heap.size W0 W' := h'.bel
set_option maxHeartbeats 12800000 in
set_option maxRecDepth 100000 in
theorem l5Call_any (lo : Nat) (W0 W : World) (kp p cA B : Nat) (vv vn vb : Value) (aA : Option Addr) (T : LTree) (V : List LVar) (vl : Value) (st : Met) (L : List (List UInt8)) (j : Nat) (hE : ChkE lo W0 p kp vv vn vb aA T V) (hC : Chk W0 W kp p aA V.length cA vl st) (hL : LoopO W B vl L) (hLl : L.length ≤ 1048576) (hj : j < T.nodes.length) (hX : Kin T.nodes) (hk : (nodeOf T.nodes (j : Int)).kind = 11) :
  Calls Tryz.prog 181 #[.pointer (some ⟨kp, 0, none⟩), .int .i64 (j : Int)] W fun e w' => e = .returned (.tuple #[]) ∧ Chk W0 w' kp p aA V.length cA vl (callF (mustT V T.vars.length T.nodes) L (nodeOf T.nodes (j : Int)) (j : Int) st) ∧ Sole kp W w' := by
 have hnode := hE.good.node j _ (node_get hj)
 have hop := own_op hnode.1 hk
 have HKX : Hid (∀ y ∈ (nodeOf T.nodes (j : Int)).kids, exprN (nodeOf T.nodes y) = true ∧ 0 ≤ y ∧ y < (T.nodes.length : Int)) := fun y hy => ⟨hX j _ (node_get hj) y hy, (hnode.2.1 y hy).1, by have := (hnode.2.1 y hy).2; omega⟩
 obtain ⟨bn, on, cn, rfl, q1, vk, vt, ve, hnc, hkd, _, ⟨a6, l6, c6, rfl⟩, ⟨a7, l7, c7, rfl⟩⟩ := hE.node hC.bel j hj
 obtain ⟨aL, cL, rfl, _⟩ := hL.form
 have k0 := cell_of_row _ _ 0 _ _ _ hC.row
 have k2 := cell_of_row _ _ 2 _ _ _ hC.row
 simp at k0 k2
 have hkW := blk_lt hC.row
 have hnl := hE.good.nodes
 have hlow := hE.low
 have hW0 := hC.bel.size
 have HSTOP : Hid (∀ (c : Int) (s : Met) (W' : World), Chk W0 W' kp p aA V.length cA (.slice aL L.length cL) s → Calls Tryz.prog 174 #[.pointer (some ⟨kp, 0, none⟩), .int .i64 c, .int .i64 (j : Int)] W' fun e w' => e = .returned (.tuple #[]) ∧ Chk W0 w' kp p aA V.length cA (.slice aL L.length cL) (metAt s c (j : Int)) ∧ Sole kp W' w') := fun c s W' h => l5Stop_any W0 W' kp p V.length cA aA _ s c (j : Int) h hlow
 have HMU : Hid (∀ (y : Nat) (t : Int) (s : Met) (W' : World), (y : Int) ∈ (nodeOf T.nodes (j : Int)).kids → Chk W0 W' kp p aA V.length cA (.slice aL L.length cL) s → Calls Tryz.prog 127 #[.pointer (some ⟨kp, 0, none⟩), .int .i64 (y : Int), .int .i64 t] W' fun e w' => e = .returned (.tuple #[]) ∧ Chk W0 w' kp p aA V.length cA (.slice aL L.length cL) (mustT V T.vars.length T.nodes (y : Int) t s) ∧ Sole kp W' w') := fun y t s W' hy h => by
  have h3 := HKX.out _ hy
  exact l5Must_all lo W0 W' kp p cA vv _ vb aA T V _ s y t hE hX h (by omega) h3.1
 obtain ⟨ks, hks⟩ : ∃ ks, ks = (nodeOf T.nodes (j : Int)).kids := ⟨_, rfl⟩
 obtain ⟨op, hop2⟩ : ∃ op, op = (nodeOf T.nodes (j : Int)).op := ⟨_, rfl⟩
 have HR : Hid (callF (mustT V T.vars.length T.nodes) L (nodeOf T.nodes (j : Int)) (j : Int) st = if (argsL op).length ≠ ks.length ∨ L ≠ [] then metAt st 2 (j : Int) else argsF (mustT V T.vars.length T.nodes) ks (argsL op) st) := by unfold Hid callF; rw [hks, hop2]
 obtain ⟨d0, d1, d2, d3, d4, d5, d6, d7⟩ := hnc
 rw [← hks] at HMU HKX hkd
 rw [← hop2] at d1 hop
 generalize callF (mustT V T.vars.length T.nodes) L (nodeOf T.nodes (j : Int)) (j : Int) st = R at *
 obtain ⟨ak, ck, evk, _, hik⟩ := id hkd
 subst evk
 have HKD : Hid (IntsV lo W0 (.slice ak ks.length ck) ks) := hkd
 generalize nodeOf T.nodes (j : Int) = n at *
 have HAR : Hid (∀ w, Calls Tryz.prog 143 #[.int .i64 op] w fun e w' => IntsR w.heap.size w' e (argsL op) ∧ Below w.heap.size w w') := fun w => l5Args_any op w hop.1 hop.2
 have hal := argsL_le op
 have HCA : Hid (∀ o, Chk W0 (W.alloc o) kp p aA V.length cA (.slice aL L.length cL) st ∧ Sole kp W (W.alloc o)) := fun o =>
  have hb : Below W.heap.size W (W.alloc o) := (Below.refl _ _).alloc (Nat.le_refl _) _
  ⟨hC.below hb, hb.sole⟩
 have hj0 : (0 : Int) ≤ (j : Int) := by omega
 have hj1 : (j : Int) < (T.nodes.length : Int) := by omega
 clear hC hE hL hik hkd hX hk hnode hks hop2 hop
 generalize argsL op = ts at *
 go_enter Tryz.func181, Tryz.ntmps181
 go_wp2_with fail
 generalize hW5 : W.alloc (.cells #[.int .i64 n.kind, .int .i64 op, .string (bs n.name), .int .i64 n.num, .int .i64 n.far, .slice ak ks.length ck, .slice a6 l6 c6, .slice a7 l7 c7] 111) = W5
 have hA := heap_alloc_new W (.cells #[.int .i64 n.kind, .int .i64 op, .string (bs n.name), .int .i64 n.num, .int .i64 n.far, .slice ak ks.length ck, .slice a6 l6 c6, .slice a7 l7 c7] 111)
 have hC5 := HCA.out (.cells #[.int .i64 n.kind, .int .i64 op, .string (bs n.name), .int .i64 n.num, .int .i64 n.far, .slice ak ks.length ck, .slice a6 l6 c6, .slice a7 l7 c7] 111)
 rw [hW5] at hA hC5
 clear hW5 HCA d0 d1 d2 d3 d4 d5 d6 d7 q1 k0 k2
 refine (HAR.out _).mono ?_
 rintro e w2 ⟨⟨g, rfl, hg, hcg⟩, hb⟩
 have HC : Hid (Chk W0 w2 kp p aA V.length cA (.slice aL L.length cL) st ∧ Sole kp W w2) := ⟨hC5.1.below hb, hC5.2.trans hb.sole⟩
 have HG : Hid (w2.heap[g]? = some (.cells (ts.map (Value.int .i64)).toArray 2 (0, 0))) := hcg
 have HN : Hid (w2.cell? ⟨W.heap.size, 5, none⟩ = some (.slice ak ks.length ck)) := cell_of_row _ _ 5 _ _ _ (blk hA hb)
 have hg5 : g ≠ kp := by have := blk_lt hA; omega
 have hkWn : W.heap.size ≠ kp := by omega
 have hz2 : W.heap.size < w2.heap.size := Nat.lt_of_lt_of_le (blk_lt hA) hb.size
 clear hb hcg hC5 hA HAR hg
 have n5 : w2.cell? ⟨W.heap.size, 5, none⟩ = some (.slice ak ks.length ck) := HN.out
 have k2 : w2.cell? ⟨kp, 2, none⟩ = some (.slice aL L.length cL) := by have := cell_of_row _ _ 2 _ _ _ HC.out.1.row; simpa using this
 have HNG : Hid (∀ wr, Sole kp w2 wr → wr.cell? ⟨W.heap.size, 5, none⟩ = some (.slice ak ks.length ck) ∧ wr.heap[g]? = some (.cells (ts.map (Value.int .i64)).toArray 2 (0, 0))) := fun wr h => ⟨h.cell (p := ⟨W.heap.size, 5, none⟩) hkWn HN.out, (h.rest g (blk_lt HG.out) hg5).trans HG.out⟩
 by_cases hlen : ts.length = ks.length
 ·by_cases hLn : L.length = 0
  ·have HR2 : Hid (R = argsF (mustT V T.vars.length T.nodes) (ks.drop 0) (ts.drop 0) st) := by unfold Hid; rw [HR.out, if_neg (by simp [hlen, List.eq_nil_of_length_eq_zero hLn])]; rfl
   have HTL : Hid (ts.length = ks.length) := hlen
   have hL1 : ¬ (0 < L.length) := by omega
   have HS2 : Hid (Sole kp W w2) := HC.out.2
   have HC1 : Hid (Chk W0 w2 kp p aA V.length cA (.slice aL L.length cL) st ∧ Sole kp w2 w2) := ⟨HC.out.1, Sole.refl _ _⟩
   have hk3 : ks.length ≤ 3 := by omega
   rw [hlen]
   clear HR HSTOP hLn hlen HC HG HN hal
   go_wp2_with fail
   go_loopw [6] (fun i wr => ∃ (k : Nat) (s : Met), k ≤ ks.length ∧ i = .int .i64 k ∧ Hid (R = argsF (mustT V T.vars.length T.nodes) (ks.drop k) (ts.drop k) s) ∧ Hid (Chk W0 wr kp p aA V.length cA (.slice aL L.length cL) s ∧ Sole kp w2 wr)) (fun i _ => ks.length - (intOf i).toNat)
   case atStart => exact ⟨0, st, Nat.zero_le _, rfl, HR2, HC1⟩
   case round =>
    clear HR2 HC1 n5 k2
    obtain ⟨k, s, hkl, rfl, HR, HC⟩ := hrel
    by_cases hlt : k < ks.length
    ·obtain ⟨y, hy⟩ : ∃ y, ks[k]? = some y := ⟨_, List.getElem?_eq_getElem hlt⟩
     obtain ⟨t, ht⟩ : ∃ t, ts[k]? = some t := ⟨_, List.getElem?_eq_getElem (by have := HTL.out; omega)⟩
     have hym := List.mem_of_getElem? hy
     obtain ⟨_, hy0, hy1⟩ := HKX.out y hym
     obtain ⟨Y, rfl⟩ := Int.eq_ofNat_of_zero_le hy0
     have hN := (HNG.out wr HC.out.2).1
     have hG := (HNG.out wr HC.out.2).2
     have hgk : wr.cell? ⟨g, k, none⟩ = some (.int .i64 t) := by
      have := cell_of_row _ _ k _ _ _ hG
      rw [List.getElem?_toArray, List.getElem?_map, ht] at this; exact this
     obtain ⟨bk, ok, rfl, hkc, hbk⟩ : ∃ b o, ak = some ⟨b, o, none⟩ ∧ wr.cell? ⟨b, o + k, none⟩ = some (.int .i64 (Y : Int)) ∧ b ≠ kp := by
      obtain ⟨_, _, e, _, h⟩ := id HKD.out
      injection e with e1 e2 e3
      subst e1
      obtain ⟨b, o, e, _, hc⟩ := h (by intro e; rw [e] at hlt; simp at hlt)
      have hb0 := World.block_lt_of_cell? _ _ (hc k _ hy)
      exact ⟨b, o, e, (HC.out.1.bel.cell (p := ⟨b, o + k, none⟩) hb0).trans (hc k _ hy), by simp at hb0; omega⟩
     have HMK : Hid (Calls Tryz.prog 127 #[.pointer (some ⟨kp, 0, none⟩), .int .i64 (Y : Int), .int .i64 t] wr.drew fun e w' => e = .returned (.tuple #[]) ∧ Chk W0 w' kp p aA V.length cA (.slice aL L.length cL) (mustT V T.vars.length T.nodes (Y : Int) t s) ∧ Sole kp wr.drew w') := HMU.out Y t s wr.drew hym ⟨HC.out.1.bel.drew, HC.out.1.row⟩
     have HSD : Hid (Sole kp w2 wr.drew) := HC.out.2.trans (((Below.refl wr.heap.size wr).drew).sole)
     have HR3 : Hid (R = argsF (mustT V T.vars.length T.nodes) (ks.drop (k + 1)) (ts.drop (k + 1)) (mustT V T.vars.length T.nodes (Y : Int) t s)) := by unfold Hid; rw [HR.out]; exact argsF_drop hy ht
     have hk0 : (0 : Int) ≤ (k : Int) := by omega
     have hk1 : (k : Int) < (ks.length : Int) := by omega
     have HX5 : Hid (wr.drew.cell? ⟨W.heap.size, 5, none⟩ = some (.slice (some ⟨bk, ok, none⟩) ks.length ck) ∧ wr.drew.cell? ⟨bk, ok + k, none⟩ = some (.int .i64 (Y : Int)) ∧ wr.drew.cell? ⟨g, k, none⟩ = some (.int .i64 t)) := ⟨hN, hkc, hgk⟩
     clear hy ht hym hG HC HR HMU hy0 hy1
     generalize mustT V T.vars.length T.nodes (Y : Int) t s = s' at *
     go_wp2_with fail
     go_region_held3 (fun Z => Z.cell? ⟨W.heap.size, 5, none⟩ = some (.slice (some ⟨bk, ok, none⟩) ks.length ck) ∧ Z.cell? ⟨bk, ok + k, none⟩ = some (.int .i64 (Y : Int)) ∧ Z.cell? ⟨g, k, none⟩ = some (.int .i64 t)) (go_keep) (first | (go_at_call 127; refine HMK.out.mono ?_; rintro e w3 ⟨rfl, hc3, hs3⟩; have x5 := hs3.cell (p := ⟨W.heap.size, 5, none⟩) hkWn HX5.out.1; have xk := hs3.cell (p := ⟨bk, ok + k, none⟩) hbk HX5.out.2.1; have xg := hs3.cell (p := ⟨g, k, none⟩) hg5 HX5.out.2.2))
     have HC3 : Hid (Chk W0 w3 kp p aA V.length cA (.slice aL L.length cL) s' ∧ Sole kp w2 w3) := ⟨hc3, HSD.out.trans hs3⟩
     clear hc3 hs3 x5 xk xg HX5 HMK HSD hN hgk hkc
     go_wp2_with fail
     go_roundw
     case rel => exact ⟨k + 1, s', by omega, by go_num, HR3, HC3⟩
     case measure => simp [intOf]; omega
    ·have hke : k = ks.length := by omega
     have HR3 : Hid (R = s) := by unfold Hid; rw [HR.out, hke, List.drop_length]; rfl
     clear HR hke
     go_wp2_with fail
     go_end0
     exact ⟨rfl, by rw [HR3.out]; exact HC.out.1, HS2.out.trans HC.out.2⟩
  ·have HR2 : Hid (R = metAt st 2 (j : Int)) := by unfold Hid; rw [HR.out, if_pos (Or.inr (fun e => hLn (by rw [e]; rfl)))]
   have hL1 : 0 < L.length := by omega
   rw [hlen]
   have hk3 : ks.length ≤ 3 := by omega
   clear HR HMU hLn hlen hal HNG HG HN
   go_wp2_with fail
   refine (HSTOP.out 2 st _ HC.out.1).mono ?_
   rintro e w3 ⟨rfl, hc3, hs3⟩
   have HC3 : Hid (Chk W0 w3 kp p aA V.length cA (.slice aL L.length cL) (metAt st 2 (j : Int)) ∧ Sole kp W w3) := ⟨hc3, HC.out.2.trans hs3⟩
   clear hc3 hs3
   go_wp2_with fail
   first | go_ret | (refine bodyPost_ret (v := .tuple #[]) (by simp [results, Tryz.results181, go_sem]) rfl ?_)
   exact ⟨rfl, by rw [HR2.out]; exact HC3.out.1, HC3.out.2⟩
 ·have HR2 : Hid (R = metAt st 2 (j : Int)) := by unfold Hid; rw [HR.out, if_pos (Or.inl hlen)]
  have hle : ((ts.length : Int) != (ks.length : Int)) = true := bne_iff_ne.2 (by omega)
  clear HR HMU hal HNG HG HN
  go_wp2_with fail
  refine (HSTOP.out 2 st _ HC.out.1).mono ?_
  rintro e w3 ⟨rfl, hc3, hs3⟩
  have HC3 : Hid (Chk W0 w3 kp p aA V.length cA (.slice aL L.length cL) (metAt st 2 (j : Int)) ∧ Sole kp W w3) := ⟨hc3, HC.out.2.trans hs3⟩
  clear hc3 hs3
  go_wp2_with fail
  first | go_ret | (refine bodyPost_ret (v := .tuple #[]) (by simp [results, Tryz.results181, go_sem]) rfl ?_)
  exact ⟨rfl, by rw [HR2.out]; exact HC3.out.1, HC3.out.2⟩
end Go.Proofs.YtdnhmpemkpjcaaaGreatDoor
