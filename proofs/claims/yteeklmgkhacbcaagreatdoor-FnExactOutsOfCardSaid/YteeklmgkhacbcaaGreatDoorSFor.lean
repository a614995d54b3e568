/-
  spec.l5For, from a contract of l5List at its Then.
-/
import Derived.Test.YteeklmgkhacbcaaGreatDoorSTarg
import Derived.Deep.Cut
import Derived.Deep.CutRange
import Derived.Deep.DeepCutAuto
import Derived.Deep.AppendLies
import Derived.Deep.RegionLaw
namespace Go.Proofs.YteeklmgkhacbcaaGreatDoor
open Go.RowKit
set_option linter.unusedVariables false
attribute [local go_sem] bs_size bs_get bs_extract bs_append bs_eq bs_toList
structure Duo (kp : Nat) (vl vl' : Value) (W W' : World) : Prop where
 bel : Below 0 W W'
 rest : ∀ b, b < W.heap.size → b ≠ kp → vl.ownBlock ≠ some b → W'.heap[b]? = W.heap[b]?
 own : ∀ g, vl'.ownBlock = some g → vl.ownBlock = some g ∨ W.heap.size ≤ g
theorem Duo.refl (kp : Nat) (vl : Value) (W : World) : Duo kp vl vl W W := ⟨Below.refl _ _, fun _ _ _ _ => rfl, fun _ h => .inl h⟩
theorem Duo.trans {kp : Nat} {va vb vc : Value} {a b c : World} (h : Duo kp va vb a b) (k : Duo kp vb vc b c) : Duo kp va vc a c := by
 refine ⟨h.bel.trans k.bel, fun i hi hg hv => ?_, fun g hg => ?_⟩
 ·refine (k.rest i (Nat.lt_of_lt_of_le hi h.bel.size) hg (fun e => ?_)).trans (h.rest i hi hg hv)
  rcases h.own i e with h2 | h2
  ·exact hv h2
  ·omega
 ·rcases k.own g hg with h2 | h2
  ·exact h.own g h2
  ·exact .inr (Nat.le_trans h.bel.size h2)
theorem Sole.duo {kp : Nat} {W W' : World} (h : Sole kp W W') (vl : Value) : Duo kp vl vl W W' := ⟨h.bel, fun b hb hk _ => h.rest b hb hk, fun _ h => .inl h⟩
theorem Duo.cell {kp : Nat} {vl vl' : Value} {w w' : World} (h : Duo kp vl vl' w w') {p : Addr} {u : Value} (hne : p.block ≠ kp) (hv : vl.ownBlock ≠ some p.block) (hc : w.cell? p = some u) : w'.cell? p = some u := by
 rw [World.cell?_of_block (h.rest p.block (World.block_lt_of_cell? _ _ hc) hne hv)]; exact hc
def ListC (lo : Nat) (W0 : World) (kp p cA B : Nat) (aA : Option Addr) (T : LTree) (V : List LVar) (f : Nat) (L : List (List UInt8)) (list : List Int) : Prop := ∀ (W : World) (vk vl : Value) (st : Met), Chk W0 W kp p aA V.length cA vl st → LoopO W B vl L → IntsV lo W0 vk list →
 Calls Tryz.prog 66 #[.pointer (some ⟨kp, 0, none⟩), vk] W fun e w' => e = .returned (.tuple #[]) ∧ ∃ vl', Chk W0 w' kp p aA V.length cA vl' (goL (stmtF (mustT V T.vars.length T.nodes) T.vars T.nodes f L) list st) ∧ LoopO w' B vl' L ∧ Duo kp vl vl' W w'
theorem Chk.store {W0 W1 : World} {kp p lA cA : Nat} {aA : Option Addr} {vl vl' : Value} {st : Met} (hb : Below W0.heap.size W0 W1) (hl : W0.heap.size ≤ kp) (h : W1.heap[kp]? = some (.cells #[.pointer (some ⟨p, 0, none⟩), .slice aA lA cA, vl, .int .i64 st.1, .int .i64 st.2] 112 (0, 0))) :
  Chk W0 (W1.setCell ⟨kp, 2, none⟩ vl') kp p aA lA cA vl' st := by
 refine ⟨hb.setCell (by simp; omega) _, ?_⟩
 rw [heap_setCell_same _ _ _ _ _ _ h]; rfl
theorem slice_popS (g k n c : Nat) (h : k ≤ n) (hc : n ≤ c) (W : World) : (Instr.slice 110 (.slice (some ⟨g, 0, none⟩) n c) none (some (.int .i64 (k : Int))) none).run Tryz.prog W = .ok (.slice (some ⟨g, 0, none⟩) k c) W := by
 have hu := Tryz.underlying110
 have hkc : k ≤ c := Nat.le_trans h hc
 simp [go_sem, hu, hkc]
theorem ChkE.node3 {lo p kp : Nat} {W0 W : World} {vv vn vb : Value} {aA : Option Addr} {T : LTree} {V : List LVar} (h : ChkE lo W0 p kp vv vn vb aA T V) (hb : Below W0.heap.size W0 W) (x : Nat) (hx : x < T.nodes.length) :
  ∃ bn on cn, vn = .slice (some ⟨bn, on, none⟩) T.nodes.length cn ∧ W.cell? ⟨p, 1, none⟩ = some vn ∧ ∃ vk vt ve, NodeCells W bn (on + x * 8) (nodeOf T.nodes (x : Int)) vk vt ve ∧ IntsV lo W0 vk (nodeOf T.nodes (x : Int)).kids ∧ IntsV lo W0 vt (nodeOf T.nodes (x : Int)).thn ∧ IntsV lo W0 ve (nodeOf T.nodes (x : Int)).els := by
 obtain ⟨an, cn, rfl, _, hh⟩ := id h.tree.tree.nodes
 obtain ⟨bn, on, rfl, _, hc⟩ := hh (by intro e; rw [e] at hx; simp at hx)
 obtain ⟨vk, vt, ve, h1, h2⟩ := hc x _ (node_get hx)
 have hpw : p < W0.heap.size := World.block_lt_of_cell? _ _ h.tree.c1
 exact ⟨bn, on, cn, rfl, (hb.cell (p := ⟨p, 1, none⟩) hpw).trans h.tree.c1, vk, vt, ve, h1.keep (lo := 0) (.of_below hb) (Nat.zero_le _), h2.kids, h2.thn, h2.els⟩
theorem LoopO.cap {W : World} {B n c : Nat} {a : Option Addr} {L : List (List UInt8)} (h : LoopO W B (.slice a n c) L) : n = L.length ∧ n ≤ c := by
 obtain ⟨_, h | ⟨g', cap', cur, e, hb, hg, hn, hm, hs, ht⟩⟩ := id h
 ·obtain ⟨e, h0⟩ := h
  injection e with e1 e2 e3
  subst e2; subst e3
  exact ⟨h0.symm, Nat.le_refl _⟩
 ·injection e with e1 e2 e3
  subst e2; subst e3
  exact ⟨rfl, hn⟩
theorem for_push {W0 w6 Wa w1 : World} {kp p lA cA B gg cap H : Nat} {aA : Option Addr} {vl : Value} {st : Met} {L : List (List UInt8)} {nm : List UInt8} (hC : Chk W0 w6 kp p aA lA cA vl st) (hL : LoopO w6 B vl L) (hB : B = kp + 1) (hlow : W0.heap.size ≤ kp)
  (hb : Below w6.heap.size w6 Wa) (hgrow : Wa.grownBy w1 vl.ownBlock) (hown : w1.ownsRow B 9 1 (.slice (some ⟨gg, 0, none⟩) (L.length + 1) cap) (L.length + 1) (namC L ++ [.string (bs nm)])) (hat : vl.ownBlock = some gg ∨ gg = H) (hH : w6.heap.size ≤ H) :
  Chk W0 (w1.setCell ⟨kp, 2, none⟩ (.slice (some ⟨gg, 0, none⟩) (L.length + 1) cap)) kp p aA lA cA (.slice (some ⟨gg, 0, none⟩) (L.length + 1) cap) st ∧ LoopO (w1.setCell ⟨kp, 2, none⟩ (.slice (some ⟨gg, 0, none⟩) (L.length + 1) cap)) B (.slice (some ⟨gg, 0, none⟩) (L.length + 1) cap) (L ++ [nm]) ∧ Duo kp vl (.slice (some ⟨gg, 0, none⟩) (L.length + 1) cap) w6 (w1.setCell ⟨kp, 2, none⟩ (.slice (some ⟨gg, 0, none⟩) (L.length + 1) cap)) := by
 have hrl : ∀ g, vl.ownBlock = some g → B ≤ g ∧ g < w6.heap.size := fun g hg => World.ownsRow.lt hL g hg
 have hkl := blk_lt hC.row
 have hz := hb.size
 have hz0 := hC.bel.size
 have hr : w1.heap[kp]? = some (.cells #[.pointer (some ⟨p, 0, none⟩), .slice aA lA cA, vl, .int .i64 st.1, .int .i64 st.2] 112 (0, 0)) := by
  rw [hgrow.block kp (by omega) (fun e => by have := (hrl _ e.symm).1; omega)]; exact blk hC.row hb
 have hb1 : Below W0.heap.size W0 w1 := (hC.bel.trans (hb.mono hz0)).grown hgrow (by omega) (fun g hg => by have := (hrl _ hg).1; omega)
 have hb6 : Below 0 w6 w1 := (hb.mono (Nat.zero_le _)).grown hgrow (Nat.zero_le _) (fun g hg => Nat.zero_le _)
 have hgg : B ≤ gg := by
  rcases hat with h | h
  ·exact (hrl _ h).1
  ·omega
 refine ⟨Chk.store hb1 hlow hr, ?_, ⟨hb6.setCell (by simp) _, fun b hb2 hk hv => ?_, fun g hg => ?_⟩⟩
 ·have e : (L ++ [nm]).length = L.length + 1 := by simp
  unfold LoopO
  rw [e, namC_snoc]
  refine rowE_same hown fun g hg hl => ?_
  exact Below.heap_setCell _ _ _ _ (by simp; omega)
 ·rw [Below.heap_setCell _ _ _ _ (by simpa using hk)]
  rw [hgrow.block b (by omega) (fun e => hv e.symm), hb.block b hb2]
 ·have : gg = g := by simpa [Value.ownBlock] using hg
  subst this
  rcases hat with h | h
  ·exact .inl h
  ·exact .inr (by omega)
theorem for_pop {W0 w8 : World} {kp p lA cA B gg cap : Nat} {aA : Option Addr} {st : Met} {L : List (List UInt8)} {nm : List UInt8} (hC : Chk W0 w8 kp p aA lA cA (.slice (some ⟨gg, 0, none⟩) (L.length + 1) cap) st) (hL : LoopO w8 B (.slice (some ⟨gg, 0, none⟩) (L.length + 1) cap) (L ++ [nm])) (hB : B = kp + 1) (hlow : W0.heap.size ≤ kp) :
  Chk W0 (w8.drew.setCell ⟨kp, 2, none⟩ (.slice (some ⟨gg, 0, none⟩) L.length cap)) kp p aA lA cA (.slice (some ⟨gg, 0, none⟩) L.length cap) st ∧ LoopO (w8.drew.setCell ⟨kp, 2, none⟩ (.slice (some ⟨gg, 0, none⟩) L.length cap)) B (.slice (some ⟨gg, 0, none⟩) L.length cap) L ∧ Duo kp (.slice (some ⟨gg, 0, none⟩) (L.length + 1) cap) (.slice (some ⟨gg, 0, none⟩) L.length cap) w8 (w8.drew.setCell ⟨kp, 2, none⟩ (.slice (some ⟨gg, 0, none⟩) L.length cap)) := by
 refine ⟨Chk.store hC.bel.drew hlow hC.row, ?_, ⟨((Below.refl _ _).drew).setCell (by simp) _, fun b hb2 hk hv => ?_, fun g hg => .inl hg⟩⟩
 ·refine rowE_same (LoopO.pop hL) fun g hg hl => ?_
  exact Below.heap_setCell _ _ _ _ (by simp; omega)
 ·rw [Below.heap_setCell _ _ _ _ (by simpa using hk)]; rfl
set_option maxHeartbeats 12800000 in
set_option maxRecDepth 100000 in
theorem l5For_any (lo : Nat) (W0 W : World) (kp p cA B f : Nat) (vv vn vb : Value) (aA : Option Addr) (T : LTree) (V : List LVar) (vl : Value) (st : Met) (L : List (List UInt8)) (j : Nat) (hE : ChkE lo W0 p kp vv vn vb aA T V) (hC : Chk W0 W kp p aA V.length cA vl st) (hL : LoopO W B vl L) (hB : B = kp + 1) (hLl : L.length ≤ 1000) (hj : j < T.nodes.length) (hk : (nodeOf T.nodes (j : Int)).kind = 10)
  (hLC : ListC lo W0 kp p cA B aA T V f (L ++ [(nodeOf T.nodes (j : Int)).name]) (nodeOf T.nodes (j : Int)).thn) :
  Calls Tryz.prog 89 #[.pointer (some ⟨kp, 0, none⟩), .int .i64 (j : Int)] W fun e w' => e = .returned (.tuple #[]) ∧ ∃ vl', Chk W0 w' kp p aA V.length cA vl' (goL (stmtF (mustT V T.vars.length T.nodes) T.vars T.nodes f (L ++ [(nodeOf T.nodes (j : Int)).name])) (nodeOf T.nodes (j : Int)).thn (forF T.vars L (nodeOf T.nodes (j : Int)) (j : Int) st)) ∧ LoopO w' B vl' L ∧ Duo kp vl vl' W w' := by
 obtain ⟨i0, hi, hz0, hz1, hz2⟩ := info_parts infoS
 obtain ⟨bn, on, cn, rfl, q1, vk, vt, ve, hnc, hkd, htd, hed⟩ := hE.node3 hC.bel j hj
 have k0 := cell_of_row _ _ 0 _ _ _ hC.row
 simp at k0
 have hkW := blk_lt hC.row
 have hnl := hE.good.nodes
 have hlow := hE.low
 have hW0 := hC.bel.size
 have hrl : ∀ g, vl.ownBlock = some g → B ≤ g ∧ g < W.heap.size := fun g hg => World.ownsRow.lt hL g hg
 have HSTOP : Hid (∀ (c : Int) (s : Met) (W' : World), Chk W0 W' kp p aA V.length cA vl s → Calls Tryz.prog 114 #[.pointer (some ⟨kp, 0, none⟩), .int .i64 c, .int .i64 (j : Int)] W' fun e w' => e = .returned (.tuple #[]) ∧ Chk W0 w' kp p aA V.length cA vl (metAt s c (j : Int)) ∧ Sole kp W' w') := fun c s W' h => l5Stop_any W0 W' kp p V.length cA aA vl s c (j : Int) h hlow
 obtain ⟨⟨g, s1, s2⟩, hg⟩ : ∃ r, r = targetF T.vars L (nodeOf T.nodes (j : Int)).name false (j : Int) st := ⟨_, rfl⟩
 have HTA : Hid (∀ (W' : World), Chk W0 W' kp p aA V.length cA vl st → LoopO W' B vl L → Calls Tryz.prog 87 #[.pointer (some ⟨kp, 0, none⟩), .int .i64 (j : Int), .bool false] W' fun e w' => e = .returned (.int .i64 g) ∧ Chk W0 w' kp p aA V.length cA vl (s1, s2) ∧ Sole kp W' w') := fun W' h h2 => by
  have := l5Target_any lo W0 W' kp p cA B vv _ vb aA T V vl st L j false hE h h2 (by omega) (by omega) hj
  rw [← hg] at this; exact this
 obtain ⟨R, hR⟩ : ∃ R, R = goL (stmtF (mustT V T.vars.length T.nodes) T.vars T.nodes f (L ++ [(nodeOf T.nodes (j : Int)).name])) (nodeOf T.nodes (j : Int)).thn (forF T.vars L (nodeOf T.nodes (j : Int)) (j : Int) st) := ⟨_, rfl⟩
 rw [← hR]
 have HF : Hid (forF T.vars L (nodeOf T.nodes (j : Int)) (j : Int) st = if 1000 < (nodeOf T.nodes (j : Int)).num ∨ 1000 < (nodeOf T.nodes (j : Int)).far then metAt (if s1 = 0 ∧ g ≠ 1 then metAt (s1, s2) 8 (j : Int) else (s1, s2)) 3 (j : Int) else (if s1 = 0 ∧ g ≠ 1 then metAt (s1, s2) 8 (j : Int) else (s1, s2))) := by unfold Hid forF forA; rw [← hg]
 have HLC := hid hLC
 have HRR := hid hR
 have HLO : Hid (∀ W', Sole kp W W' → LoopO W' B vl L) := fun W' h => hL.sole h (by omega)
 have HCA : Hid (∀ o, Chk W0 (W.alloc o) kp p aA V.length cA vl st ∧ Sole kp W (W.alloc o)) := fun o =>
  have hb : Below W.heap.size W (W.alloc o) := (Below.refl _ _).alloc (Nat.le_refl _) _
  ⟨hC.below hb, hb.sole⟩
 obtain ⟨ak, lk, ck, evk⟩ : ∃ a l c, vk = .slice a l c := by obtain ⟨a, c, e, _⟩ := id hkd; exact ⟨_, _, _, e⟩
 obtain ⟨ae, le, ce, eve⟩ : ∃ a l c, ve = .slice a l c := by obtain ⟨a, c, e, _⟩ := id hed; exact ⟨_, _, _, e⟩
 obtain ⟨at1, ct, evt, _⟩ := id htd
 subst evk; subst eve; subst evt
 have HTD := hid htd
 clear hkd hed htd
 obtain ⟨nm, hnm⟩ : ∃ nm, nm = (nodeOf T.nodes (j : Int)).name := ⟨_, rfl⟩
 obtain ⟨d0, d1, d2, d3, d4, d5, d6, d7⟩ := hnc
 rw [← hnm] at d2 HLC HRR
 rw [hk] at d0
 generalize nodeOf T.nodes (j : Int) = n at *
 have hj0 : (0 : Int) ≤ (j : Int) := by omega
 have hj1 : (j : Int) < (T.nodes.length : Int) := by omega
 obtain ⟨aL, cL, evl, _⟩ := hL.form
 subst evl
 have hWn : W.heap.size ≠ kp := by omega
 have hWv : (Value.slice aL L.length cL).ownBlock ≠ some W.heap.size := fun e => by have := (hrl _ e).2; omega
 clear hC hE hL hk hg hR hLC hnm
 go_enter Tryz.func89, Tryz.ntmps89
 go_wp2_with fail
 generalize hW5 : W.alloc (.cells #[.int .i64 10, .int .i64 n.op, .string (bs nm), .int .i64 n.num, .int .i64 n.far, .slice ak lk ck, .slice at1 n.thn.length ct, .slice ae le ce] 88) = W5
 have hA := heap_alloc_new W (.cells #[.int .i64 10, .int .i64 n.op, .string (bs nm), .int .i64 n.num, .int .i64 n.far, .slice ak lk ck, .slice at1 n.thn.length ct, .slice ae le ce] 88)
 have hC5 := HCA.out (.cells #[.int .i64 10, .int .i64 n.op, .string (bs nm), .int .i64 n.num, .int .i64 n.far, .slice ak lk ck, .slice at1 n.thn.length ct, .slice ae le ce] 88)
 rw [hW5] at hA hC5
 clear hW5 HCA d0 d1 d2 d3 d4 d5 d6 d7 q1 k0
 refine (HTA.out _ hC5.1 (HLO.out _ hC5.2)).mono ?_
 rintro e w6 ⟨rfl, hc6, hs6⟩
 have HC : Hid (Chk W0 w6 kp p aA V.length cA (.slice aL L.length cL) (s1, s2) ∧ Sole kp W w6) := ⟨hc6, hC5.2.trans hs6⟩
 have HN : Hid (w6.heap[W.heap.size]? = some (.cells #[.int .i64 10, .int .i64 n.op, .string (bs nm), .int .i64 n.num, .int .i64 n.far, .slice ak lk ck, .slice at1 n.thn.length ct, .slice ae le ce] 88 (0, 0))) := (hs6.rest W.heap.size (blk_lt hA) hWn).trans hA
 clear hc6 hs6 hC5 hA HTA
 have k3 : w6.cell? ⟨kp, 3, none⟩ = some (.int .i64 s1) := by have := cell_of_row _ _ 3 _ _ _ HC.out.1.row; simpa using this
 obtain ⟨-, -, -, n3, n4⟩ := cl5 HN.out
 obtain ⟨A1, hA1⟩ : ∃ A1, A1 = (if s1 = 0 ∧ g ≠ 1 then metAt (s1, s2) 8 (j : Int) else (s1, s2)) := ⟨_, rfl⟩
 have HA1 := hid hA1
 rw [← hA1] at HF
 clear hA1
 go_upto_region 2 with fail
 go_cut [27] from 19 (fun v wx => v = .bool (decide (s1 = 0 ∧ g ≠ 1)) ∧ wx = w6)
 case first =>
  by_cases hs1 : s1 = 0
  ·subst hs1
   by_cases hg1 : g = 1
   ·subst hg1
    go_wp2_with fail
    go_meet
    case rel => exact ⟨by simp, rfl⟩
   ·have hgb : (g != 1) = true := bne_iff_ne.2 hg1
    have hgd : decide (g = 1) = false := decide_eq_false hg1
    go_wp2_with fail
    go_meet
    case rel => exact ⟨by simp [hg1], rfl⟩
  ·have hsb : (s1 == 0) = false := by simpa using hs1
   have hsd : decide (s1 = 0) = false := decide_eq_false hs1
   go_wp2_with fail
   go_meet
   case rel => exact ⟨by simp [hs1], rfl⟩
 case rest =>
  obtain ⟨hv27, hwc⟩ := hcut
  subst hv27
  subst hwc
  go_upto_if 27 with fail
  go_cut [] from 19 (fun wx => Hid (Chk W0 wx kp p aA V.length cA (.slice aL L.length cL) A1 ∧ Sole kp W wx) ∧ Hid (wx.heap[W.heap.size]? = some (.cells #[.int .i64 10, .int .i64 n.op, .string (bs nm), .int .i64 n.num, .int .i64 n.far, .slice ak lk ck, .slice at1 n.thn.length ct, .slice ae le ce] 88 (0, 0))))
  case first =>
   by_cases hor : s1 = 0 ∧ g ≠ 1
   ·have hob : decide (s1 = 0 ∧ g ≠ 1) = true := decide_eq_true hor
    rw [hob]
    have HA2 : Hid (A1 = metAt (s1, s2) 8 (j : Int)) := by unfold Hid; rw [HA1.out, if_pos hor]
    clear hor hob
    go_wp2_with fail
    refine (HSTOP.out 8 _ _ HC.out.1).mono ?_
    rintro e w62 ⟨rfl, hc, hs⟩
    have hC2 : Hid (Chk W0 w62 kp p aA V.length cA (.slice aL L.length cL) A1 ∧ Sole kp W w62) := ⟨by rw [HA2.out]; exact hc, HC.out.2.trans hs⟩
    have hN2 : Hid (w62.heap[W.heap.size]? = some (.cells #[.int .i64 10, .int .i64 n.op, .string (bs nm), .int .i64 n.num, .int .i64 n.far, .slice ak lk ck, .slice at1 n.thn.length ct, .slice ae le ce] 88 (0, 0))) := (hs.rest W.heap.size (blk_lt HN.out) hWn).trans HN.out
    clear hc hs
    go_wp2_with fail
    go_meet
    case rel => exact ⟨hC2, hN2⟩
   ·have hob : decide (s1 = 0 ∧ g ≠ 1) = false := decide_eq_false hor
    rw [hob]
    have HA2 : Hid (A1 = (s1, s2)) := by unfold Hid; rw [HA1.out, if_neg hor]
    clear hor hob
    go_wp2_with fail
    go_meet
    case rel => exact ⟨by rw [HA2.out]; exact HC, HN⟩
  case rest =>
   clear HC HN k3 n3 n4 HA1
   obtain ⟨HC, HN⟩ := hcut
   obtain ⟨-, -, -, n3, n4⟩ := cl5 HN.out
   go_upto_region 4 with fail
   go_cut [38] from 31 (fun v wx => v = .bool (decide (1000 < n.num ∨ 1000 < n.far)) ∧ wx = wc)
   case first =>
    by_cases hnum : 1000 < n.num
    ·have hb1 : decide ((1000 : Int) < n.num) = true := decide_eq_true hnum
     have hor : decide (1000 < n.num ∨ 1000 < n.far) = true := decide_eq_true (Or.inl hnum)
     clear hnum
     go_wp2_with fail
     go_meet
     case rel => exact ⟨by rw [hor], rfl⟩
    ·have hb1 : decide ((1000 : Int) < n.num) = false := decide_eq_false hnum
     by_cases hfar : 1000 < n.far
     ·have hb2 : decide ((1000 : Int) < n.far) = true := decide_eq_true hfar
      have hor : decide (1000 < n.num ∨ 1000 < n.far) = true := decide_eq_true (Or.inr hfar)
      clear hnum hfar
      go_wp2_with fail
      go_meet
      case rel => exact ⟨by rw [hor], rfl⟩
     ·have hb2 : decide ((1000 : Int) < n.far) = false := decide_eq_false hfar
      have hor : decide (1000 < n.num ∨ 1000 < n.far) = false := decide_eq_false (fun h => h.elim hnum hfar)
      clear hnum hfar
      go_wp2_with fail
      go_meet
      case rel => exact ⟨by rw [hor], rfl⟩
   case rest =>
    obtain ⟨hv38, hwc⟩ := hcut
    subst hv38
    subst hwc
    by_cases hor : 1000 < n.num ∨ 1000 < n.far
    ·have HSTF : Hid (R = goL (stmtF (mustT V T.vars.length T.nodes) T.vars T.nodes f (L ++ [nm])) n.thn (metAt A1 3 (j : Int))) := by unfold Hid; rw [HRR.out, HF.out, if_pos hor]
     have hob : decide (1000 < n.num ∨ 1000 < n.far) = true := decide_eq_true hor
     rw [hob]
     clear hor hob HF n3 n4
     go_wp2_with fail
     refine (HSTOP.out 3 _ _ HC.out.1).mono ?_
     rintro e w63 ⟨rfl, hc, hs⟩
     have hC2 : Chk W0 w63 kp p aA V.length cA (.slice aL L.length cL) (metAt A1 3 (j : Int)) ∧ Sole kp W w63 := ⟨hc, HC.out.2.trans hs⟩
     have hN2 := (hs.rest W.heap.size (blk_lt HN.out) hWn).trans HN.out
     clear HC HN hc hs
     have HC : Hid _ := hC2
     have HN : Hid _ := hN2
     clear hC2 hN2
     have hown := HLO.out _ HC.out.2
     have hrl6 : ∀ g, (Value.slice aL L.length cL).ownBlock = some g → B ≤ g ∧ g < w63.heap.size := fun g hg => World.ownsRow.lt hown g hg
     have q1 : w63.cell? ⟨kp, 2, none⟩ = some (.slice aL L.length cL) := by have := cell_of_row _ _ 2 _ _ _ HC.out.1.row; simpa using this
     have fq : w63.frozen? ⟨kp, 2, none⟩ = false := frozen_of_row _ _ 2 _ _ HC.out.1.row
     have n2 : w63.cell? ⟨W.heap.size, 2, none⟩ = some (.string (bs nm)) := cell_of_row _ _ 2 _ _ _ HN.out
     have hgw : kp < w63.heap.size := blk_lt HC.out.1.row
     have hnw : W.heap.size < w63.heap.size := blk_lt HN.out
     have ag : (Value.slice aL L.length cL).ownBlock ≠ some kp := fun e => by have := (hrl6 _ e).1; omega
     have h63 : L.length + 1 ≤ maxLen := by unfold maxLen; omega
     have hbb : (L.length + 1) * 16 ≤ 140737488355328 := by omega
     have hbase : B ≤ w63.heap.size := by omega
     clear HRR hrl HSTOP
     go_wp2_with fail
     go_region_law ((refine step_append_lies _ (by rfl) _ _ _ (by rfl) B 9 i0 _ 1 16 Tryz.underlying110 hi hz0 hz1 hz2 rfl (by omega) (.slice aL L.length cL) L.length (namC L) (by rfl) ((hown.alloc _).drew) ⟨w63.heap.size, 0, none⟩ 1 1 [.string (bs nm)] (by rfl) (by rfl) (World.news_of_block (cs := #[.string (bs nm)]) (t := 9) (fr := (0, 0)) (heap_alloc_new w63 _)) (by simp [Value.oneCell']) (by omega) h63 hbb (by simp; omega) (w63.heap.size + 1) (by simp) ?_; intro gg cap w1 hown1 hgrow hat hlt1; have q9 : w1.cell? ⟨kp, 2, none⟩ = some (.slice aL L.length cL) := (hgrow.cell_far ⟨kp, 2, none⟩ (by simp; omega) (Ne.symm ag)).trans ((World.cell?_of_block (a := ⟨kp, 2, none⟩) (Below.heap_alloc w63 _ kp hgw)).trans q1); have f9 : w1.frozen? ⟨kp, 2, none⟩ = false := (hgrow.frozen_far ⟨kp, 2, none⟩ (by simp; omega) (Ne.symm ag)).trans ((World.frozen?_of_block (a := ⟨kp, 2, none⟩) (Below.heap_alloc w63 _ kp hgw)).trans fq); have hgw1 : kp < w1.heap.size := World.block_lt_of_cell? _ _ q9))
     all_goals
      have h7 := for_push (nm := nm) HC.out.1 (HLO.out _ HC.out.2) hB hlow (((Below.refl w63.heap.size w63).alloc (Nat.le_refl _) _).drew) hgrow hown1 hat (by omega)
      have H7 : Hid _ := h7
      have n6 : (w1.setCell ⟨kp, 2, none⟩ (.slice (some ⟨gg, 0, none⟩) (L.length + 1) cap)).cell? ⟨W.heap.size, 6, none⟩ = some (.slice at1 n.thn.length ct) := h7.2.2.cell (p := ⟨W.heap.size, 6, none⟩) hWn hWv (cell_of_row _ _ 6 _ _ _ HN.out)
      clear hown1 hgrow hat hlt1 q9 f9 hgw1 hown hrl6 q1 fq n2 ag h7
      generalize hW7 : w1.setCell ⟨kp, 2, none⟩ (.slice (some ⟨gg, 0, none⟩) (L.length + 1) cap) = W7 at *
      clear hW7
      go_wp2_with fail
      refine (HLC.out _ _ _ _ H7.out.1 H7.out.2.1 HTD.out).mono ?_
      rintro e w8 ⟨rfl, vl8, hc8, hl8, hd8⟩
      obtain ⟨a8, c8, ev8, h8⟩ := hl8.form
      obtain ⟨g8, ea8, _⟩ := h8 (by simp)
      subst ev8; subst ea8
      have el8 : (L ++ [nm]).length = L.length + 1 := by simp
      rw [el8] at hc8 hl8 hd8
      have h9 := for_pop hc8 hl8 hB hlow
      have H9 : Hid _ := h9
      have HD9 : Hid (Duo kp (.slice aL L.length cL) (.slice (some ⟨g8, 0, none⟩) L.length c8) W (w8.drew.setCell ⟨kp, 2, none⟩ (.slice (some ⟨g8, 0, none⟩) L.length c8))) := (((HC.out.2.duo _).trans H7.out.2.2).trans hd8).trans h9.2.2
      have hc8c : L.length + 1 ≤ c8 := hl8.cap.2
      have k2 : w8.cell? ⟨kp, 2, none⟩ = some (.slice (some ⟨g8, 0, none⟩) (L.length + 1) c8) := by have := cell_of_row _ _ 2 _ _ _ hc8.row; simpa using this
      have fk : w8.frozen? ⟨kp, 2, none⟩ = false := frozen_of_row _ _ 2 _ _ hc8.row
      have hk8 : kp < w8.heap.size := blk_lt hc8.row
      have hsl : ∀ W, (Instr.slice 110 (.slice (some ⟨g8, 0, none⟩) (L.length + 1) c8) none (some (.int .i64 (L.length : Int))) none).run Tryz.prog W = .ok (.slice (some ⟨g8, 0, none⟩) L.length c8) W := slice_popS g8 L.length (L.length + 1) c8 (by omega) hc8c
      clear hc8 hl8 hd8 h9 H7 HLC HTD n6 h8 el8
      go_wp2_with fail
      go_region
      all_goals
       go_wp2_with fail
       go_end0
       exact ⟨rfl, _, by rw [HSTF.out]; exact H9.out.1, H9.out.2.1, HD9.out⟩
    ·have HSTF : Hid (R = goL (stmtF (mustT V T.vars.length T.nodes) T.vars T.nodes f (L ++ [nm])) n.thn A1) := by unfold Hid; rw [HRR.out, HF.out, if_neg hor]
     have hob : decide (1000 < n.num ∨ 1000 < n.far) = false := decide_eq_false hor
     rw [hob]
     clear hor hob HF n3 n4
     have hown := HLO.out _ HC.out.2
     have hrl6 : ∀ g, (Value.slice aL L.length cL).ownBlock = some g → B ≤ g ∧ g < wc.heap.size := fun g hg => World.ownsRow.lt hown g hg
     have q1 : wc.cell? ⟨kp, 2, none⟩ = some (.slice aL L.length cL) := by have := cell_of_row _ _ 2 _ _ _ HC.out.1.row; simpa using this
     have fq : wc.frozen? ⟨kp, 2, none⟩ = false := frozen_of_row _ _ 2 _ _ HC.out.1.row
     have n2 : wc.cell? ⟨W.heap.size, 2, none⟩ = some (.string (bs nm)) := cell_of_row _ _ 2 _ _ _ HN.out
     have hgw : kp < wc.heap.size := blk_lt HC.out.1.row
     have hnw : W.heap.size < wc.heap.size := blk_lt HN.out
     have ag : (Value.slice aL L.length cL).ownBlock ≠ some kp := fun e => by have := (hrl6 _ e).1; omega
     have h63 : L.length + 1 ≤ maxLen := by unfold maxLen; omega
     have hbb : (L.length + 1) * 16 ≤ 140737488355328 := by omega
     have hbase : B ≤ wc.heap.size := by omega
     clear HRR hrl HSTOP
     go_wp2_with fail
     go_region_law ((refine step_append_lies _ (by rfl) _ _ _ (by rfl) B 9 i0 _ 1 16 Tryz.underlying110 hi hz0 hz1 hz2 rfl (by omega) (.slice aL L.length cL) L.length (namC L) (by rfl) ((hown.alloc _).drew) ⟨wc.heap.size, 0, none⟩ 1 1 [.string (bs nm)] (by rfl) (by rfl) (World.news_of_block (cs := #[.string (bs nm)]) (t := 9) (fr := (0, 0)) (heap_alloc_new wc _)) (by simp [Value.oneCell']) (by omega) h63 hbb (by simp; omega) (wc.heap.size + 1) (by simp) ?_; intro gg cap w1 hown1 hgrow hat hlt1; have q9 : w1.cell? ⟨kp, 2, none⟩ = some (.slice aL L.length cL) := (hgrow.cell_far ⟨kp, 2, none⟩ (by simp; omega) (Ne.symm ag)).trans ((World.cell?_of_block (a := ⟨kp, 2, none⟩) (Below.heap_alloc wc _ kp hgw)).trans q1); have f9 : w1.frozen? ⟨kp, 2, none⟩ = false := (hgrow.frozen_far ⟨kp, 2, none⟩ (by simp; omega) (Ne.symm ag)).trans ((World.frozen?_of_block (a := ⟨kp, 2, none⟩) (Below.heap_alloc wc _ kp hgw)).trans fq); have hgw1 : kp < w1.heap.size := World.block_lt_of_cell? _ _ q9))
     all_goals
      have h7 := for_push (nm := nm) HC.out.1 (HLO.out _ HC.out.2) hB hlow (((Below.refl wc.heap.size wc).alloc (Nat.le_refl _) _).drew) hgrow hown1 hat (by omega)
      have H7 : Hid _ := h7
      have n6 : (w1.setCell ⟨kp, 2, none⟩ (.slice (some ⟨gg, 0, none⟩) (L.length + 1) cap)).cell? ⟨W.heap.size, 6, none⟩ = some (.slice at1 n.thn.length ct) := h7.2.2.cell (p := ⟨W.heap.size, 6, none⟩) hWn hWv (cell_of_row _ _ 6 _ _ _ HN.out)
      clear hown1 hgrow hat hlt1 q9 f9 hgw1 hown hrl6 q1 fq n2 ag h7
      generalize hW7 : w1.setCell ⟨kp, 2, none⟩ (.slice (some ⟨gg, 0, none⟩) (L.length + 1) cap) = W7 at *
      clear hW7
      go_wp2_with fail
      refine (HLC.out _ _ _ _ H7.out.1 H7.out.2.1 HTD.out).mono ?_
      rintro e w8 ⟨rfl, vl8, hc8, hl8, hd8⟩
      obtain ⟨a8, c8, ev8, h8⟩ := hl8.form
      obtain ⟨g8, ea8, _⟩ := h8 (by simp)
      subst ev8; subst ea8
      have el8 : (L ++ [nm]).length = L.length + 1 := by simp
      rw [el8] at hc8 hl8 hd8
      have h9 := for_pop hc8 hl8 hB hlow
      have H9 : Hid _ := h9
      have HD9 : Hid (Duo kp (.slice aL L.length cL) (.slice (some ⟨g8, 0, none⟩) L.length c8) W (w8.drew.setCell ⟨kp, 2, none⟩ (.slice (some ⟨g8, 0, none⟩) L.length c8))) := (((HC.out.2.duo _).trans H7.out.2.2).trans hd8).trans h9.2.2
      have hc8c : L.length + 1 ≤ c8 := hl8.cap.2
      have k2 : w8.cell? ⟨kp, 2, none⟩ = some (.slice (some ⟨g8, 0, none⟩) (L.length + 1) c8) := by have := cell_of_row _ _ 2 _ _ _ hc8.row; simpa using this
      have fk : w8.frozen? ⟨kp, 2, none⟩ = false := frozen_of_row _ _ 2 _ _ hc8.row
      have hk8 : kp < w8.heap.size := blk_lt hc8.row
      have hsl : ∀ W, (Instr.slice 110 (.slice (some ⟨g8, 0, none⟩) (L.length + 1) c8) none (some (.int .i64 (L.length : Int))) none).run Tryz.prog W = .ok (.slice (some ⟨g8, 0, none⟩) L.length c8) W := slice_popS g8 L.length (L.length + 1) c8 (by omega) hc8c
      clear hc8 hl8 hd8 h9 H7 HLC HTD n6 h8 el8
      go_wp2_with fail
      go_region
      all_goals
       go_wp2_with fail
       go_end0
       exact ⟨rfl, _, by rw [HSTF.out]; exact H9.out.1, H9.out.2.1, HD9.out⟩
end Go.Proofs.YteeklmgkhacbcaaGreatDoor
