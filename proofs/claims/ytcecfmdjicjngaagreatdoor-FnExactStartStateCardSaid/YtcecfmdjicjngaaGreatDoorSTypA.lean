/-
  spec.l5Type: a number, a name, an item.
-/
import Derived.Test.YtcecfmdjicjngaaGreatDoorRowE
import Derived.Test.YtcecfmdjicjngaaGreatDoorSCells
import Derived.Test.YtcecfmdjicjngaaGreatDoorOwnI
import Derived.Deep.RegionHeld3
namespace Go.Proofs.YtcecfmdjicjngaaGreatDoor
open Go.RowKit
set_option linter.unusedVariables false
attribute [local go_sem] bs_size bs_get bs_extract bs_append bs_eq bs_toList
structure Sole (g : Nat) (w w' : World) : Prop where
 bel : Below 0 w w'
 rest : ∀ b, b < w.heap.size → b ≠ g → w'.heap[b]? = w.heap[b]?
theorem Sole.refl (g : Nat) (w : World) : Sole g w w := ⟨Below.refl _ _, fun _ _ _ => rfl⟩
theorem Sole.trans {g : Nat} {a b c : World} (h : Sole g a b) (k : Sole g b c) : Sole g a c :=
 ⟨h.bel.trans k.bel, fun i hi hg => (k.rest i (Nat.lt_of_lt_of_le hi h.bel.size) hg).trans (h.rest i hi hg)⟩
theorem _root_.Go.RowKit.Below.sole {g : Nat} {w w' : World} (h : Below w.heap.size w w') : Sole g w w' := ⟨h.mono (Nat.zero_le _), fun b hb _ => h.block b hb⟩
theorem Sole.set {g : Nat} {w w' : World} (h : Sole g w w') (o : Nat) (u : Value) : Sole g w (w'.setCell ⟨g, o, none⟩ u) :=
 h.trans ⟨(Below.refl _ _).setCell (Nat.zero_le _) _, fun b _ hg => Below.heap_setCell _ _ _ _ hg⟩
theorem Sole.cell {g : Nat} {w w' : World} (h : Sole g w w') {p : Addr} {u : Value} (hne : p.block ≠ g) (hc : w.cell? p = some u) : w'.cell? p = some u := by
 rw [World.cell?_of_block (h.rest p.block (World.block_lt_of_cell? _ _ hc) hne)]; exact hc
structure ChkE (lo : Nat) (W0 : World) (p kp : Nat) (vv vn vb : Value) (aA : Option Addr) (T : LTree) (V : List LVar) : Prop where
 tree : TreeP lo W0 p vv vn vb T
 all : RowV W0 aA V
 few : V.length ≤ 624
 low : W0.heap.size ≤ kp
 good : Good T
structure Chk (W0 W : World) (kp p : Nat) (aA : Option Addr) (lA cA : Nat) (vl : Value) (st : Met) : Prop where
 bel : Below W0.heap.size W0 W
 row : W.heap[kp]? = some (.cells #[.pointer (some ⟨p, 0, none⟩), .slice aA lA cA, vl, .int .i64 st.1, .int .i64 st.2] 190 (0, 0))
theorem Chk.below {W0 W W' : World} {kp p lA cA : Nat} {aA : Option Addr} {vl : Value} {st : Met} (h : Chk W0 W kp p aA lA cA vl st) (hb : Below W.heap.size W W') : Chk W0 W' kp p aA lA cA vl st :=
 ⟨h.bel.trans (hb.mono h.bel.size), blk h.row hb⟩
theorem ChkE.node {lo p kp : Nat} {W0 W : World} {vv vn vb : Value} {aA : Option Addr} {T : LTree} {V : List LVar} (h : ChkE lo W0 p kp vv vn vb aA T V) (hb : Below W0.heap.size W0 W) (x : Nat) (hx : x < T.nodes.length) :
  ∃ bn on cn, vn = .slice (some ⟨bn, on, none⟩) T.nodes.length cn ∧ W.cell? ⟨p, 1, none⟩ = some vn ∧ ∃ vk vt ve, NodeCells W bn (on + x * 8) (nodeOf T.nodes (x : Int)) vk vt ve ∧ IntsV lo W0 vk (nodeOf T.nodes (x : Int)).kids ∧ (∃ a l c, vk = .slice a l c) ∧ (∃ a l c, vt = .slice a l c) ∧ (∃ a l c, ve = .slice a l c) := by
 obtain ⟨an, cn, rfl, _, hh⟩ := id h.tree.tree.nodes
 obtain ⟨bn, on, rfl, _, hc⟩ := hh (by intro e; rw [e] at hx; simp at hx)
 have hxe : T.nodes[x]? = some (nodeOf T.nodes (x : Int)) := by unfold nodeOf; rw [Int.toNat_natCast, List.getD_eq_getElem?_getD, List.getElem?_eq_getElem hx]; rfl
 obtain ⟨vk, vt, ve, h1, h2⟩ := hc x _ hxe
 have hpw : p < W0.heap.size := World.block_lt_of_cell? _ _ h.tree.c1
 obtain ⟨a1, c1, e1, _⟩ := id h2.kids
 obtain ⟨a2, c2, e2, _⟩ := id h2.thn
 obtain ⟨a3, c3, e3, _⟩ := id h2.els
 exact ⟨bn, on, cn, rfl, (hb.cell (p := ⟨p, 1, none⟩) hpw).trans h.tree.c1, vk, vt, ve, h1.keep (lo := 0) (.of_below hb) (Nat.zero_le _), h2.kids, ⟨_, _, _, e1⟩, ⟨_, _, _, e2⟩, ⟨_, _, _, e3⟩⟩
set_option maxHeartbeats 1600000 in
theorem l5Stop_any (W0 W : World) (kp p lA cA : Nat) (aA : Option Addr) (vl : Value) (st : Met) (c x : Int) (h : Chk W0 W kp p aA lA cA vl st) (hl : W0.heap.size ≤ kp) :
  Calls Tryz.prog 259 #[.pointer (some ⟨kp, 0, none⟩), .int .i64 c, .int .i64 x] W fun e w' => e = .returned (.tuple #[]) ∧ Chk W0 w' kp p aA lA cA vl (metAt st c x) ∧ Sole kp W w' := by
 obtain ⟨s1, s2⟩ := st
 obtain ⟨-, -, -, c3, c4⟩ := cl5 h.row
 obtain ⟨-, -, -, f3, f4⟩ := fl5 h.row
 have hk := blk_lt h.row
 have H := hid h
 clear h
 by_cases hz : s1 = 0
 ·subst hz
  go_enter Tryz.func259, Tryz.ntmps259
  go_wp2
  go_end0
  refine ⟨rfl, ⟨H.out.bel.trans (((Below.refl _ _).setCell (by simp; omega) _).setCell (by simp; omega) _), ?_⟩, ((Sole.refl _ _).set _ _).set _ _⟩
  rw [heap_setCell_same _ _ _ _ _ _ (heap_setCell_same _ _ _ _ _ _ H.out.row)]
  rfl
 ·have e : metAt (s1, s2) c x = (s1, s2) := by unfold metAt; rw [if_neg hz]
  rw [e]
  have hz1 : (s1 == 0) = false := by simpa using hz
  have hz2 : decide (s1 = 0) = false := decide_eq_false hz
  go_enter Tryz.func259, Tryz.ntmps259
  go_wp2
  go_end0
  exact ⟨rfl, H.out, Sole.refl _ _⟩
end Go.Proofs.YtcecfmdjicjngaaGreatDoor
namespace Go.Proofs.YtcecfmdjicjngaaGreatDoor
open Go.RowKit
set_option linter.unusedVariables false
attribute [local go_sem] bs_size bs_get bs_extract bs_append bs_eq bs_toList
theorem rowV_heap {W W' : World} {a : Option Addr} {V : List LVar} (h : RowV W a V) (hW : W'.heap = W.heap) : RowV W' a V := fun hne => by
 obtain ⟨g, e, hc⟩ := h hne
 have hs : ∀ o, W'.cell? ⟨g, o, none⟩ = W.cell? ⟨g, o, none⟩ := fun o => World.cell?_of_block (a := ⟨g, o, none⟩) (show W'.heap[g]? = W.heap[g]? from by rw [hW])
 exact ⟨g, e, fun i x hx => by
  obtain ⟨h1, h2, h3, h4⟩ := hc i x hx
  exact ⟨(hs _).trans h1, (hs _).trans h2, (hs _).trans h3, (hs _).trans h4⟩⟩
set_option maxHeartbeats 6400000 in
set_option maxRecDepth 100000 in
theorem l5Name_any (lo : Nat) (W0 W : World) (kp p cA : Nat) (vv vn vb : Value) (aA : Option Addr) (T : LTree) (V : List LVar) (vl : Value) (st : Met) (j : Nat) (row : Bool) (hE : ChkE lo W0 p kp vv vn vb aA T V) (hC : Chk W0 W kp p aA V.length cA vl st) (hj : j < T.nodes.length) :
  Calls Tryz.prog 278 #[.pointer (some ⟨kp, 0, none⟩), .int .i64 (j : Int), .bool row] W fun e w' => e = .returned (.int .i64 (nameF V T.vars.length (nodeOf T.nodes (j : Int)).name row (j : Int) st).1) ∧ Chk W0 w' kp p aA V.length cA vl (nameF V T.vars.length (nodeOf T.nodes (j : Int)).name row (j : Int) st).2 ∧ Sole kp W w' := by
 obtain ⟨bn, on, cn, rfl, q1, vk, vt, ve, hnc, _⟩ := hE.node hC.bel j hj
 have n2 := hnc.c2
 obtain ⟨k0, k1⟩ := cl2 hC.row
 have hrv := hE.all.below hC.bel
 have hfew := hE.few
 have hnl := hE.good.nodes
 have hvl := hE.good.vars
 obtain ⟨av, cv, rfl, _⟩ := id hE.tree.tree.vars
 have hpw : p < W0.heap.size := World.block_lt_of_cell? _ _ hE.tree.c0
 have q0 : W.cell? ⟨p, 0, none⟩ = some (.slice av T.vars.length cv) := (hC.bel.cell (p := ⟨p, 0, none⟩) hpw).trans hE.tree.c0
 have HSTOP : Hid (∀ (c : Int) (W' : World), Chk W0 W' kp p aA V.length cA vl st → Calls Tryz.prog 259 #[.pointer (some ⟨kp, 0, none⟩), .int .i64 c, .int .i64 (j : Int)] W' fun e w' => e = .returned (.tuple #[]) ∧ Chk W0 w' kp p aA V.length cA vl (metAt st c (j : Int)) ∧ Sole kp W' w') := fun c W' h => l5Stop_any W0 W' kp p V.length cA aA vl st c (j : Int) h hE.low
 obtain ⟨nm, hnm⟩ : ∃ nm, nm = (nodeOf T.nodes (j : Int)).name := ⟨_, rfl⟩
 rw [← hnm] at n2 ⊢
 clear hnm
 have HFI : Hid (∀ W', W'.heap = W.heap → Calls Tryz.prog 211 #[.slice aA V.length cA, .string (bs nm)] W' fun e w' => e = .returned (.int .i64 (varFrom nm V 0)) ∧ w' = W') := fun W' hW => l5Find_any V nm aA V.length cA W' rfl (rowV_heap hrv hW) hfew
 have HVO := varFrom_or nm V 0
 have HNF : Hid (∀ X, varFrom nm V 0 = X → nameF V T.vars.length nm row (j : Int) st = (if X < 0 ∨ (row = true ∧ (T.vars.length : Int) ≤ X) then (0, metAt st 4 (j : Int)) else if (decide (0 < (V.getD X.toNat default).size)) ≠ row then (0, metAt st 1 (j : Int)) else ((V.getD X.toNat default).type, st))) := fun X hX => by unfold nameF; rw [hX]
 have HCH := hid hC
 have HRV : Hid (RowV W aA V) := hrv
 have hj0 : (0 : Int) ≤ (j : Int) := by omega
 have hj1 : (j : Int) < (T.nodes.length : Int) := by omega
 obtain ⟨X, hX⟩ : ∃ X, varFrom nm V 0 = X := ⟨_, rfl⟩
 have HN := HNF.out X hX
 rw [hX] at HFI HVO
 clear hC hE hnc hrv hX HNF
 go_enter Tryz.func278, Tryz.ntmps278
 go_wp2_with fail
 go_region_held3 (fun Z => Z.cell? ⟨kp, 0, none⟩ = some (.pointer (some ⟨p, 0, none⟩)) ∧ Z.cell? ⟨kp, 1, none⟩ = some (.slice aA V.length cA) ∧ Z.cell? ⟨p, 1, none⟩ = some (.slice (some ⟨bn, on, none⟩) T.nodes.length cn) ∧ Z.cell? ⟨bn, on + j * 8 + 2, none⟩ = some (.string (bs nm))) (go_keep) (first | (go_at_call 211; refine (HFI.out _ (by rfl)).mono ?_; rintro e w2 ⟨rfl, rfl⟩))
 have hcd : Chk W0 W.drew kp p aA V.length cA vl st := ⟨HCH.out.bel.drew, HCH.out.row⟩
 have hrd : RowV W.drew aA V := rowV_heap HRV.out rfl
 have k0 : W.drew.cell? ⟨kp, 0, none⟩ = _ := k0
 have k1 : W.drew.cell? ⟨kp, 1, none⟩ = _ := k1
 have q0 : W.drew.cell? ⟨p, 0, none⟩ = _ := q0
 have hbd : Sole kp W W.drew := ((Below.refl W.heap.size W).drew).sole
 clear HCH HRV q1 n2 HFI
 have HCD := hid hcd
 have HRD : Hid (RowV W.drew aA V) := hrd
 have HBD : Hid (Sole kp W W.drew) := hbd
 clear hcd hrd hbd
 generalize W.drew = Wd at *
 rcases HVO with hX1 | ⟨i, rfl, hi⟩
 ·have hXn : X < 0 := by omega
  have HR : Hid (nameF V T.vars.length nm row (j : Int) st = (0, metAt st 4 (j : Int))) := by unfold Hid; rw [HN, if_pos (Or.inl hXn)]
  clear hX1 HN HRD
  go_wp2_with fail
  refine (HSTOP.out 4 _ HCD.out).mono ?_
  rintro e w2 ⟨rfl, hc2, hb2⟩
  have HC2 : Hid (Chk W0 w2 kp p aA V.length cA vl (metAt st 4 (j : Int)) ∧ Sole kp W w2) := ⟨hc2, HBD.out.trans hb2⟩
  clear hc2 hb2
  go_wp2_with fail
  go_ret
  exact ⟨by rw [HR.out]; rfl, by rw [HR.out]; exact HC2.out.1, HC2.out.2⟩
 ·have hiV : i < V.length := by omega
  have hni : ¬ ((i : Int) < 0) := by omega
  obtain ⟨v, hv⟩ : ∃ v, V[i]? = some v := ⟨V[i], List.getElem?_eq_getElem hiV⟩
  have hvd : V.getD ((i : Int)).toNat default = v := by rw [Int.toNat_natCast, List.getD_eq_getElem?_getD, hv]; rfl
  rw [hvd] at HN
  obtain ⟨g, rfl, hcs⟩ := HRD.out (by intro e; rw [e] at hiV; simp at hiV)
  obtain ⟨c0, c1, c2, c3⟩ := hcs i v hv
  have hi0 : (0 : Int) ≤ (i : Int) := by omega
  have hi1 : (i : Int) < (V.length : Int) := by omega
  clear hcs hv hvd HRD hi
  by_cases hrow : row = true ∧ (T.vars.length : Int) ≤ (i : Int)
  ·obtain ⟨rfl, hge⟩ := hrow
   have HR : Hid (nameF V T.vars.length nm true (j : Int) st = (0, metAt st 4 (j : Int))) := by unfold Hid; rw [HN, if_pos (Or.inr ⟨rfl, hge⟩)]
   have hge2 : ¬ ((i : Int) < (T.vars.length : Int)) := by omega
   have hge3 : T.vars.length ≤ i := by omega
   clear HN c0 c1 c2 c3
   go_wp2_with fail
   refine (HSTOP.out 4 _ HCD.out).mono ?_
   rintro e w2 ⟨rfl, hc2, hb2⟩
   have HC2 : Hid (Chk W0 w2 kp p (some ⟨g, 0, none⟩) V.length cA vl (metAt st 4 (j : Int)) ∧ Sole kp W w2) := ⟨hc2, HBD.out.trans hb2⟩
   clear hc2 hb2
   go_wp2_with fail
   go_ret
   exact ⟨by rw [HR.out]; rfl, by rw [HR.out]; exact HC2.out.1, HC2.out.2⟩
  ·have hrow2 : row = true → i < T.vars.length := fun hr => by
    by_cases h : (T.vars.length : Int) ≤ (i : Int)
    ·exact absurd ⟨hr, h⟩ hrow
    ·omega
   rw [if_neg (by rintro (h | h); exact hni h; exact hrow h)] at HN
   by_cases hsz : (decide (0 < v.size)) ≠ row
   ·have HR : Hid (nameF V T.vars.length nm row (j : Int) st = (0, metAt st 1 (j : Int))) := by unfold Hid; rw [HN, if_pos hsz]
    clear HN hrow
    cases row with
    | true =>
     have h1 := hrow2 rfl
     have h2 : ¬ (T.vars.length ≤ i) := by omega
     have hs0 : ¬ (0 < v.size) := by intro h; exact hsz (decide_eq_true h)
     clear hsz hrow2
     go_wp2_with fail
     refine (HSTOP.out 1 _ HCD.out).mono ?_
     rintro e w2 ⟨rfl, hc2, hb2⟩
     have HC2 : Hid (Chk W0 w2 kp p (some ⟨g, 0, none⟩) V.length cA vl (metAt st 1 (j : Int)) ∧ Sole kp W w2) := ⟨hc2, HBD.out.trans hb2⟩
     clear hc2 hb2
     go_wp2_with fail
     go_ret
     exact ⟨by rw [HR.out]; rfl, by rw [HR.out]; exact HC2.out.1, HC2.out.2⟩
    | false =>
     have hs0 : 0 < v.size := by
      by_cases h : 0 < v.size
      ·exact h
      ·exact absurd (decide_eq_false h) hsz
     clear hsz hrow2
     go_wp2_with fail
     refine (HSTOP.out 1 _ HCD.out).mono ?_
     rintro e w2 ⟨rfl, hc2, hb2⟩
     have HC2 : Hid (Chk W0 w2 kp p (some ⟨g, 0, none⟩) V.length cA vl (metAt st 1 (j : Int)) ∧ Sole kp W w2) := ⟨hc2, HBD.out.trans hb2⟩
     clear hc2 hb2
     go_wp2_with fail
     go_ret
     exact ⟨by rw [HR.out]; rfl, by rw [HR.out]; exact HC2.out.1, HC2.out.2⟩
   ·have hsz2 : decide (0 < v.size) = row := by simpa using hsz
    have HR : Hid (nameF V T.vars.length nm row (j : Int) st = (v.type, st)) := by unfold Hid; rw [HN, if_neg hsz]
    clear HN hrow hsz HSTOP
    cases row with
    | true =>
     have h1 := hrow2 rfl
     have h2 : ¬ (T.vars.length ≤ i) := by omega
     have hs0 : 0 < v.size := of_decide_eq_true hsz2
     clear hsz2 hrow2
     go_wp2_with fail
     go_ret
     exact ⟨by rw [HR.out]; rfl, by rw [HR.out]; exact HCD.out, HBD.out⟩
    | false =>
     have hs0 : ¬ (0 < v.size) := of_decide_eq_false hsz2
     clear hsz2 hrow2
     go_wp2_with fail
     go_ret
     exact ⟨by rw [HR.out]; rfl, by rw [HR.out]; exact HCD.out, HBD.out⟩
end Go.Proofs.YtcecfmdjicjngaaGreatDoor
namespace Go.Proofs.YtcecfmdjicjngaaGreatDoor
open Go.RowKit
set_option linter.unusedVariables false
attribute [local go_sem] bs_size bs_get bs_extract bs_append bs_eq bs_toList
set_option maxHeartbeats 6400000 in
set_option maxRecDepth 100000 in
theorem l5Bool_any (lo : Nat) (W0 W : World) (kp p cA : Nat) (vv vn vb : Value) (aA : Option Addr) (T : LTree) (V : List LVar) (vl : Value) (st : Met) (j : Nat) (hE : ChkE lo W0 p kp vv vn vb aA T V) (hC : Chk W0 W kp p aA V.length cA vl st) (hj : j < T.nodes.length) :
  Calls Tryz.prog 287 #[.pointer (some ⟨kp, 0, none⟩), .int .i64 (j : Int)] W fun e w' => e = .returned (.bool (boolB V (nodeOf T.nodes (j : Int)))) ∧ Below W.heap.size W w' := by
 obtain ⟨bn, on, cn, rfl, q1, vk, vt, ve, hnc, _, ⟨a, l, c, rfl⟩, ⟨a2, l2, c2, rfl⟩, ⟨a3, l3, c3, rfl⟩⟩ := hE.node hC.bel j hj
 obtain ⟨k0, k1⟩ := cl2 hC.row
 have hkl := blk_lt hC.row
 have hrv := hE.all.below hC.bel
 have hfew := hE.few
 have hnl := hE.good.nodes
 obtain ⟨n, hn⟩ : ∃ n, n = nodeOf T.nodes (j : Int) := ⟨_, rfl⟩
 rw [← hn] at hnc ⊢
 clear hn
 obtain ⟨d0, d1, d2, d3, d4, d5, d6, d7⟩ := hnc
 have HFI : Hid (∀ W', Below W.heap.size W W' → Calls Tryz.prog 211 #[.slice aA V.length cA, .string (bs n.name)] W' fun e w' => e = .returned (.int .i64 (varFrom n.name V 0)) ∧ w' = W') := fun W' hW => l5Find_any V n.name aA V.length cA W' rfl (hrv.below hW) hfew
 have HRV : Hid (RowV W aA V) := hrv
 have HVO := varFrom_or n.name V 0
 have HBB : Hid (boolB V n = (if n.kind = 5 then true else if n.kind = 6 then decide (5 < n.op) else if n.kind = 2 ∨ n.kind = 3 then decide (0 ≤ varFrom n.name V 0 ∧ (V.getD (varFrom n.name V 0).toNat default).type = 2) else false)) := rfl
 have hj0 : (0 : Int) ≤ (j : Int) := by omega
 have hj1 : (j : Int) < (T.nodes.length : Int) := by omega
 clear hC hE hrv
 by_cases k5 : n.kind = 5
 ·have HR : Hid (boolB V n = true) := by unfold Hid; rw [HBB.out, if_pos k5]
  clear HBB HFI HRV HVO
  go_enter Tryz.func287, Tryz.ntmps287
  go_wp2
  go_ret
  exact ⟨by rw [HR.out]; rfl, by go_grown⟩
 by_cases k6 : n.kind = 6
 ·have HR : Hid (boolB V n = decide (5 < n.op)) := by unfold Hid; rw [HBB.out, if_neg k5, if_pos k6]
  clear HBB HFI HRV HVO k5
  go_enter Tryz.func287, Tryz.ntmps287
  go_wp2
  go_ret
  exact ⟨by rw [HR.out]; rfl, by go_grown⟩
 by_cases k2 : n.kind = 2
 ·have hK := k2
  clear k2 k5 k6
  rw [hK] at d0
  have hB5 : Below W.heap.size W (W.alloc (.cells #[.int .i64 2, .int .i64 n.op, .string (bs n.name), .int .i64 n.num, .int .i64 n.far, .slice a l c, .slice a2 l2 c2, .slice a3 l3 c3] 40)) := (Below.refl _ _).alloc (Nat.le_refl _) _
  have hA := heap_alloc_new W (.cells #[.int .i64 2, .int .i64 n.op, .string (bs n.name), .int .i64 n.num, .int .i64 n.far, .slice a l c, .slice a2 l2 c2, .slice a3 l3 c3] 40)
  have n2 : (W.alloc (.cells #[.int .i64 2, .int .i64 n.op, .string (bs n.name), .int .i64 n.num, .int .i64 n.far, .slice a l c, .slice a2 l2 c2, .slice a3 l3 c3] 40)).cell? ⟨W.heap.size, 2, none⟩ = some (.string (bs n.name)) := cell_of_row _ _ 2 _ _ _ hA
  have kk1 : (W.alloc (.cells #[.int .i64 2, .int .i64 n.op, .string (bs n.name), .int .i64 n.num, .int .i64 n.far, .slice a l c, .slice a2 l2 c2, .slice a3 l3 c3] 40)).cell? ⟨kp, 1, none⟩ = some (.slice aA V.length cA) := (hB5.cell (p := ⟨kp, 1, none⟩) hkl).trans k1
  have hrd : RowV (W.alloc (.cells #[.int .i64 2, .int .i64 n.op, .string (bs n.name), .int .i64 n.num, .int .i64 n.far, .slice a l c, .slice a2 l2 c2, .slice a3 l3 c3] 40)).drew aA V := rowV_heap (HRV.out.below hB5) rfl
  have kk1d : (W.alloc (.cells #[.int .i64 2, .int .i64 n.op, .string (bs n.name), .int .i64 n.num, .int .i64 n.far, .slice a l c, .slice a2 l2 c2, .slice a3 l3 c3] 40)).drew.cell? ⟨kp, 1, none⟩ = some (.slice aA V.length cA) := kk1
  have hbd : Below W.heap.size W (W.alloc (.cells #[.int .i64 2, .int .i64 n.op, .string (bs n.name), .int .i64 n.num, .int .i64 n.far, .slice a l c, .slice a2 l2 c2, .slice a3 l3 c3] 40)).drew := hB5.drew
  have HB5 := hid hB5
  have HRD := hid hrd
  have HBD := hid hbd
  have HR : Hid (boolB V n = decide (0 ≤ varFrom n.name V 0 ∧ (V.getD (varFrom n.name V 0).toNat default).type = 2)) := by unfold Hid; rw [HBB.out, hK]; rfl
  clear hB5 hA hrd hbd HBB HRV
  obtain ⟨X, hX⟩ : ∃ X, varFrom n.name V 0 = X := ⟨_, rfl⟩
  rw [hX] at HFI HVO HR
  clear hX
  go_enter Tryz.func287, Tryz.ntmps287
  go_wp2_with fail
  generalize W.alloc (.cells #[.int .i64 2, .int .i64 n.op, .string (bs n.name), .int .i64 n.num, .int .i64 n.far, .slice a l c, .slice a2 l2 c2, .slice a3 l3 c3] 40) = W5 at *
  go_region_held3 (fun Z => Z.cell? ⟨kp, 1, none⟩ = some (.slice aA V.length cA) ∧ Z.cell? ⟨W.heap.size, 2, none⟩ = some (.string (bs n.name))) (go_keep) (first | (go_at_call 211; refine (HFI.out _ HBD.out).mono ?_; rintro e w2 ⟨rfl, rfl⟩))
  generalize W5.drew = W6 at *
  rcases HVO with hX1 | ⟨i, rfl, hi⟩
  ·have hXn : X < 0 := by omega
   have hXn2 : ¬ (0 ≤ X) := by omega
   have HR2 : Hid (boolB V n = false) := by unfold Hid; rw [HR.out, decide_eq_false (fun h => hXn2 h.1)]
   clear hX1 HR HRD HFI
   go_wp2_with fail
   go_ret
   exact ⟨by rw [HR2.out]; rfl, HBD.out⟩
  ·have hiV : i < V.length := by omega
   obtain ⟨v, hv⟩ : ∃ v, V[i]? = some v := ⟨V[i], List.getElem?_eq_getElem hiV⟩
   have hvd : V.getD ((i : Int)).toNat default = v := by rw [Int.toNat_natCast, List.getD_eq_getElem?_getD, hv]; rfl
   have HR2 : Hid (boolB V n = decide (v.type = 2)) := by unfold Hid; rw [HR.out, hvd]; congr 1; simp
   obtain ⟨g, rfl, hcs⟩ := HRD.out (by intro e; rw [e] at hiV; simp at hiV)
   obtain ⟨c0', c1', c2', c3'⟩ := hcs i v hv
   have hi0 : (0 : Int) ≤ (i : Int) := by omega
   have hi1 : (i : Int) < (V.length : Int) := by omega
   clear hcs hv hvd HR HRD HFI hi
   by_cases ht : v.type = 2
   ·have HR3 : Hid (boolB V n = true) := by unfold Hid; rw [HR2.out, decide_eq_true ht]
    clear HR2
    go_wp2_with fail
    go_ret
    exact ⟨by rw [HR3.out]; rfl, HBD.out⟩
   ·have HR3 : Hid (boolB V n = false) := by unfold Hid; rw [HR2.out, decide_eq_false ht]
    have hte : (v.type == 2) = false := by simpa using ht
    clear HR2
    go_wp2_with fail
    go_ret
    exact ⟨by rw [HR3.out]; rfl, HBD.out⟩
 by_cases k3 : n.kind = 3
 ·have hK := k3
  clear k2 k3 k5 k6
  rw [hK] at d0
  have hB5 : Below W.heap.size W (W.alloc (.cells #[.int .i64 3, .int .i64 n.op, .string (bs n.name), .int .i64 n.num, .int .i64 n.far, .slice a l c, .slice a2 l2 c2, .slice a3 l3 c3] 40)) := (Below.refl _ _).alloc (Nat.le_refl _) _
  have hA := heap_alloc_new W (.cells #[.int .i64 3, .int .i64 n.op, .string (bs n.name), .int .i64 n.num, .int .i64 n.far, .slice a l c, .slice a2 l2 c2, .slice a3 l3 c3] 40)
  have n2 : (W.alloc (.cells #[.int .i64 3, .int .i64 n.op, .string (bs n.name), .int .i64 n.num, .int .i64 n.far, .slice a l c, .slice a2 l2 c2, .slice a3 l3 c3] 40)).cell? ⟨W.heap.size, 2, none⟩ = some (.string (bs n.name)) := cell_of_row _ _ 2 _ _ _ hA
  have kk1 : (W.alloc (.cells #[.int .i64 3, .int .i64 n.op, .string (bs n.name), .int .i64 n.num, .int .i64 n.far, .slice a l c, .slice a2 l2 c2, .slice a3 l3 c3] 40)).cell? ⟨kp, 1, none⟩ = some (.slice aA V.length cA) := (hB5.cell (p := ⟨kp, 1, none⟩) hkl).trans k1
  have hrd : RowV (W.alloc (.cells #[.int .i64 3, .int .i64 n.op, .string (bs n.name), .int .i64 n.num, .int .i64 n.far, .slice a l c, .slice a2 l2 c2, .slice a3 l3 c3] 40)).drew aA V := rowV_heap (HRV.out.below hB5) rfl
  have kk1d : (W.alloc (.cells #[.int .i64 3, .int .i64 n.op, .string (bs n.name), .int .i64 n.num, .int .i64 n.far, .slice a l c, .slice a2 l2 c2, .slice a3 l3 c3] 40)).drew.cell? ⟨kp, 1, none⟩ = some (.slice aA V.length cA) := kk1
  have hbd : Below W.heap.size W (W.alloc (.cells #[.int .i64 3, .int .i64 n.op, .string (bs n.name), .int .i64 n.num, .int .i64 n.far, .slice a l c, .slice a2 l2 c2, .slice a3 l3 c3] 40)).drew := hB5.drew
  have HB5 := hid hB5
  have HRD := hid hrd
  have HBD := hid hbd
  have HR : Hid (boolB V n = decide (0 ≤ varFrom n.name V 0 ∧ (V.getD (varFrom n.name V 0).toNat default).type = 2)) := by unfold Hid; rw [HBB.out, hK]; rfl
  clear hB5 hA hrd hbd HBB HRV
  obtain ⟨X, hX⟩ : ∃ X, varFrom n.name V 0 = X := ⟨_, rfl⟩
  rw [hX] at HFI HVO HR
  clear hX
  go_enter Tryz.func287, Tryz.ntmps287
  go_wp2_with fail
  generalize W.alloc (.cells #[.int .i64 3, .int .i64 n.op, .string (bs n.name), .int .i64 n.num, .int .i64 n.far, .slice a l c, .slice a2 l2 c2, .slice a3 l3 c3] 40) = W5 at *
  go_region_held3 (fun Z => Z.cell? ⟨kp, 1, none⟩ = some (.slice aA V.length cA) ∧ Z.cell? ⟨W.heap.size, 2, none⟩ = some (.string (bs n.name))) (go_keep) (first | (go_at_call 211; refine (HFI.out _ HBD.out).mono ?_; rintro e w2 ⟨rfl, rfl⟩))
  generalize W5.drew = W6 at *
  rcases HVO with hX1 | ⟨i, rfl, hi⟩
  ·have hXn : X < 0 := by omega
   have hXn2 : ¬ (0 ≤ X) := by omega
   have HR2 : Hid (boolB V n = false) := by unfold Hid; rw [HR.out, decide_eq_false (fun h => hXn2 h.1)]
   clear hX1 HR HRD HFI
   go_wp2_with fail
   go_ret
   exact ⟨by rw [HR2.out]; rfl, HBD.out⟩
  ·have hiV : i < V.length := by omega
   obtain ⟨v, hv⟩ : ∃ v, V[i]? = some v := ⟨V[i], List.getElem?_eq_getElem hiV⟩
   have hvd : V.getD ((i : Int)).toNat default = v := by rw [Int.toNat_natCast, List.getD_eq_getElem?_getD, hv]; rfl
   have HR2 : Hid (boolB V n = decide (v.type = 2)) := by unfold Hid; rw [HR.out, hvd]; congr 1; simp
   obtain ⟨g, rfl, hcs⟩ := HRD.out (by intro e; rw [e] at hiV; simp at hiV)
   obtain ⟨c0', c1', c2', c3'⟩ := hcs i v hv
   have hi0 : (0 : Int) ≤ (i : Int) := by omega
   have hi1 : (i : Int) < (V.length : Int) := by omega
   clear hcs hv hvd HR HRD HFI hi
   by_cases ht : v.type = 2
   ·have HR3 : Hid (boolB V n = true) := by unfold Hid; rw [HR2.out, decide_eq_true ht]
    clear HR2
    go_wp2_with fail
    go_ret
    exact ⟨by rw [HR3.out]; rfl, HBD.out⟩
   ·have HR3 : Hid (boolB V n = false) := by unfold Hid; rw [HR2.out, decide_eq_false ht]
    have hte : (v.type == 2) = false := by simpa using ht
    clear HR2
    go_wp2_with fail
    go_ret
    exact ⟨by rw [HR3.out]; rfl, HBD.out⟩
 have HR : Hid (boolB V n = false) := by unfold Hid; rw [HBB.out, if_neg k5, if_neg k6, if_neg (by rintro (h | h); exact k2 h; exact k3 h)]
 clear HBB HFI HRV HVO
 go_enter Tryz.func287, Tryz.ntmps287
 go_wp2
 go_ret
 exact ⟨by rw [HR.out]; rfl, by go_grown⟩
set_option maxHeartbeats 3200000 in
set_option maxRecDepth 100000 in
theorem l5Same_any (lo : Nat) (W0 W : World) (kp p cA : Nat) (vv vn vb : Value) (aA : Option Addr) (T : LTree) (V : List LVar) (vl : Value) (st : Met) (x y : Nat) (hE : ChkE lo W0 p kp vv vn vb aA T V) (hC : Chk W0 W kp p aA V.length cA vl st) (hx : x < T.nodes.length) (hy : y < T.nodes.length) :
  Calls Tryz.prog 279 #[.pointer (some ⟨kp, 0, none⟩), .int .i64 (x : Int), .int .i64 (y : Int)] W fun e w' => e = .returned (.int .i64 (sameF V T.nodes (x : Int) (y : Int))) ∧ Below W.heap.size W w' := by
 have HB : Hid (∀ j : Nat, j < T.nodes.length → Calls Tryz.prog 287 #[.pointer (some ⟨kp, 0, none⟩), .int .i64 (j : Int)] W fun e w' => e = .returned (.bool (boolB V (nodeOf T.nodes (j : Int)))) ∧ Below W.heap.size W w') := fun j hj => l5Bool_any lo W0 W kp p cA vv vn vb aA T V vl st j hE hC hj
 obtain ⟨bn, on, cn, rfl, q1, vk, vt, ve, hnc, _⟩ := hE.node hC.bel x hx
 have k0 := cell_of_row _ _ 0 _ _ _ hC.row
 simp at k0
 have d0 := hnc.c0
 have hnl := hE.good.nodes
 have HS : Hid (sameF V T.nodes (x : Int) (y : Int) = if boolB V (nodeOf T.nodes (if (nodeOf T.nodes (x : Int)).kind = 1 then (y : Int) else (x : Int))) then 2 else 1) := rfl
 have hx0 : (0 : Int) ≤ (x : Int) := by omega
 have hx1 : (x : Int) < (T.nodes.length : Int) := by omega
 clear hE hC hnc
 by_cases k1 : (nodeOf T.nodes (x : Int)).kind = 1
 ·have HBY := HB.out y hy
  obtain ⟨q, hq⟩ : ∃ q, boolB V (nodeOf T.nodes (y : Int)) = q := ⟨_, rfl⟩
  have HR : Hid (sameF V T.nodes (x : Int) (y : Int) = if q then 2 else 1) := by unfold Hid; rw [HS.out, if_pos k1, hq]
  rw [hq] at HBY
  have HBQ : Hid (Calls Tryz.prog 287 #[.pointer (some ⟨kp, 0, none⟩), .int .i64 (y : Int)] W fun e w' => e = .returned (.bool q) ∧ Below W.heap.size W w') := HBY
  rw [k1] at d0
  clear HB HBY HS hq k1
  go_enter Tryz.func279, Tryz.ntmps279
  go_wp2_with fail
  refine HBQ.out.mono ?_
  rintro e w2 ⟨rfl, hb⟩
  cases q with
  | true =>
   go_wp2_with fail
   go_ret
   exact ⟨by rw [HR.out]; rfl, hb⟩
  | false =>
   go_wp2_with fail
   go_ret
   exact ⟨by rw [HR.out]; rfl, hb⟩
 ·have HBY := HB.out x hx
  obtain ⟨q, hq⟩ : ∃ q, boolB V (nodeOf T.nodes (x : Int)) = q := ⟨_, rfl⟩
  have HR : Hid (sameF V T.nodes (x : Int) (y : Int) = if q then 2 else 1) := by unfold Hid; rw [HS.out, if_neg k1, hq]
  rw [hq] at HBY
  have HBQ : Hid (Calls Tryz.prog 287 #[.pointer (some ⟨kp, 0, none⟩), .int .i64 (x : Int)] W fun e w' => e = .returned (.bool q) ∧ Below W.heap.size W w') := HBY
  clear HB HBY HS hq
  generalize (nodeOf T.nodes (x : Int)).kind = K at *
  go_enter Tryz.func279, Tryz.ntmps279
  go_wp2_with fail
  refine HBQ.out.mono ?_
  rintro e w2 ⟨rfl, hb⟩
  cases q with
  | true =>
   go_wp2_with fail
   go_ret
   exact ⟨by rw [HR.out]; rfl, hb⟩
  | false =>
   go_wp2_with fail
   go_ret
   exact ⟨by rw [HR.out]; rfl, hb⟩
end Go.Proofs.YtcecfmdjicjngaaGreatDoor
namespace Go.Proofs.YtcecfmdjicjngaaGreatDoor
open Go.RowKit
set_option linter.unusedVariables false
attribute [local go_sem] bs_size bs_get bs_extract bs_append bs_eq bs_toList
def TypeC (W0 : World) (kp p cA : Nat) (aA : Option Addr) (T : LTree) (V : List LVar) (vl : Value) (f : Nat) (y : Nat) : Prop := ∀ (W : World) (st : Met), Chk W0 W kp p aA V.length cA vl st →
 Calls Tryz.prog 261 #[.pointer (some ⟨kp, 0, none⟩), .int .i64 (y : Int)] W fun e w' => e = .returned (.int .i64 (typeF V T.vars.length T.nodes f (y : Int) st).1) ∧ Chk W0 w' kp p aA V.length cA vl (typeF V T.vars.length T.nodes f (y : Int) st).2 ∧ Sole kp W w'
set_option maxHeartbeats 6400000 in
set_option maxRecDepth 100000 in
theorem l5Must_any (lo : Nat) (W0 W : World) (kp p cA : Nat) (vv vn vb : Value) (aA : Option Addr) (T : LTree) (V : List LVar) (vl : Value) (st : Met) (y : Nat) (want : Int) (f : Nat) (hE : ChkE lo W0 p kp vv vn vb aA T V) (hC : Chk W0 W kp p aA V.length cA vl st) (hy : y < T.nodes.length) (hT : TypeC W0 kp p cA aA T V vl f y) :
  Calls Tryz.prog 213 #[.pointer (some ⟨kp, 0, none⟩), .int .i64 (y : Int), .int .i64 want] W fun e w' => e = .returned (.tuple #[]) ∧ Chk W0 w' kp p aA V.length cA vl (mustW (nodeOf T.nodes (y : Int)) (y : Int) want (typeF V T.vars.length T.nodes f (y : Int) st)) ∧ Sole kp W w' := by
 have HT := hT W st hC
 obtain ⟨⟨g, s1, s2⟩, hr⟩ : ∃ r, r = typeF V T.vars.length T.nodes f (y : Int) st := ⟨_, rfl⟩
 rw [← hr] at HT ⊢
 clear hr
 have HTC : Hid (Calls Tryz.prog 261 #[.pointer (some ⟨kp, 0, none⟩), .int .i64 (y : Int)] W fun e w' => e = .returned (.int .i64 g) ∧ Chk W0 w' kp p aA V.length cA vl (s1, s2) ∧ Sole kp W w') := HT
 have HE := hid hE
 have hnl := hE.good.nodes
 have hkW := blk_lt hC.row
 obtain ⟨n, hn⟩ : ∃ n, n = nodeOf T.nodes (y : Int) := ⟨_, rfl⟩
 rw [← hn]
 have HNN := hid hn
 clear HT hT hE hC hn
 go_enter Tryz.func213, Tryz.ntmps213
 go_wp2_with fail
 refine HTC.out.mono ?_
 rintro e w1 ⟨rfl, hc1, hb1⟩
 obtain ⟨bn, on, cn, rfl, q1, vk, vt, ve, hnc, _, ⟨a, l, c, rfl⟩, ⟨a2, l2, c2, rfl⟩, ⟨a3, l3, c3, rfl⟩⟩ := HE.out.node hc1.bel y hy
 obtain ⟨k0, -, -, k3⟩ := cl4 hc1.row
 have hkl := blk_lt hc1.row
 have hlow := HE.out.low
 have HSTOP : Hid (∀ (c : Int) (W' : World), Chk W0 W' kp p aA V.length cA vl (s1, s2) → Calls Tryz.prog 259 #[.pointer (some ⟨kp, 0, none⟩), .int .i64 c, .int .i64 (y : Int)] W' fun e w' => e = .returned (.tuple #[]) ∧ Chk W0 w' kp p aA V.length cA vl (metAt (s1, s2) c (y : Int)) ∧ Sole kp W' w') := fun c W' h => l5Stop_any W0 W' kp p V.length cA aA vl (s1, s2) c (y : Int) h hlow
 have HCA : Hid (∀ o, Chk W0 (w1.alloc o) kp p aA V.length cA vl (s1, s2) ∧ Sole kp W (w1.alloc o)) := fun o =>
  have hb : Below w1.heap.size w1 (w1.alloc o) := (Below.refl _ _).alloc (Nat.le_refl _) _
  ⟨hc1.below hb, hb1.trans hb.sole⟩
 rw [← HNN.out] at hnc
 obtain ⟨d0, d1, d2, d3, d4, d5, d6, d7⟩ := hnc
 have HM : Hid (mustW n (y : Int) want (g, s1, s2) = if want = 2 ∧ n.kind = 1 ∧ n.num ≤ 1 then (s1, s2) else if s1 = 0 ∧ g ≠ want then metAt (s1, s2) 8 (y : Int) else (s1, s2)) := rfl
 have hy0 : (0 : Int) ≤ (y : Int) := by omega
 have hy1 : (y : Int) < (T.nodes.length : Int) := by omega
 obtain ⟨K, hK⟩ : ∃ K, K = n.kind := ⟨_, rfl⟩
 rw [← hK] at d0 HM
 clear hK hc1 hb1 HTC HE hkW
 by_cases hA : want = 2 ∧ K = 1 ∧ n.num ≤ 1
 ·obtain ⟨rfl, rfl, hnum⟩ := hA
  have HR : Hid (mustW n (y : Int) 2 (g, s1, s2) = (s1, s2)) := by unfold Hid; rw [HM.out, if_pos ⟨rfl, rfl, hnum⟩]
  have hnum2 : decide (n.num ≤ 1) = true := decide_eq_true hnum
  clear HM HSTOP
  go_wp2_with fail
  first | go_ret | (refine bodyPost_ret (v := .tuple #[]) (by simp [results, Tryz.results213, go_sem]) rfl ?_)
  exact ⟨rfl, by rw [HR.out]; exact (HCA.out _).1, (HCA.out _).2⟩
 ·have HM2 : Hid (mustW n (y : Int) want (g, s1, s2) = if s1 = 0 ∧ g ≠ want then metAt (s1, s2) 8 (y : Int) else (s1, s2)) := by unfold Hid; rw [HM.out, if_neg hA]
  have hcases : want ≠ 2 ∨ (want = 2 ∧ K ≠ 1) ∨ (want = 2 ∧ K = 1 ∧ 1 < n.num) := by omega
  clear HM hA
  have rest : ∀ (P : Prop), True := fun _ => trivial
  by_cases hB : s1 = 0 ∧ g ≠ want
  ·obtain ⟨rfl, hgw⟩ := hB
   have HR : Hid (mustW n (y : Int) want (g, 0, s2) = metAt (0, s2) 8 (y : Int)) := by unfold Hid; rw [HM2.out, if_pos ⟨rfl, hgw⟩]
   have hgw1 : (g == want) = false := by simpa using hgw
   have hgw2 : decide (g = want) = false := decide_eq_false hgw
   clear HM2 rest
   rcases hcases with h | ⟨rfl, h⟩ | ⟨rfl, rfl, h⟩
   ·have h1 : (want == 2) = false := by simpa using h
    have h2 : decide (want = 2) = false := decide_eq_false h
    go_wp2_with fail
    refine (HSTOP.out 8 _ (HCA.out _).1).mono ?_
    rintro e w2 ⟨rfl, hc2, hb2⟩
    have HC2 : Hid (Chk W0 w2 kp p aA V.length cA vl (metAt (0, s2) 8 (y : Int)) ∧ Sole kp W w2) := ⟨hc2, (HCA.out _).2.trans hb2⟩
    clear hc2 hb2
    go_wp2_with fail
    go_end0
    exact ⟨rfl, by rw [HR.out]; exact HC2.out.1, HC2.out.2⟩
   ·have h1 : (K == 1) = false := by simpa using h
    have h2 : decide (K = 1) = false := decide_eq_false h
    go_wp2_with fail
    refine (HSTOP.out 8 _ (HCA.out _).1).mono ?_
    rintro e w2 ⟨rfl, hc2, hb2⟩
    have HC2 : Hid (Chk W0 w2 kp p aA V.length cA vl (metAt (0, s2) 8 (y : Int)) ∧ Sole kp W w2) := ⟨hc2, (HCA.out _).2.trans hb2⟩
    clear hc2 hb2
    go_wp2_with fail
    go_end0
    exact ⟨rfl, by rw [HR.out]; exact HC2.out.1, HC2.out.2⟩
   ·go_wp2_with fail
    refine (HSTOP.out 8 _ (HCA.out _).1).mono ?_
    rintro e w2 ⟨rfl, hc2, hb2⟩
    have HC2 : Hid (Chk W0 w2 kp p aA V.length cA vl (metAt (0, s2) 8 (y : Int)) ∧ Sole kp W w2) := ⟨hc2, (HCA.out _).2.trans hb2⟩
    clear hc2 hb2
    go_wp2_with fail
    go_end0
    exact ⟨rfl, by rw [HR.out]; exact HC2.out.1, HC2.out.2⟩
  ·have HR : Hid (mustW n (y : Int) want (g, s1, s2) = (s1, s2)) := by unfold Hid; rw [HM2.out, if_neg hB]
   have hcase2 : s1 ≠ 0 ∨ (s1 = 0 ∧ g = want) := by
    by_cases h : s1 = 0
    ·exact .inr ⟨h, Classical.byContradiction fun h2 => hB ⟨h, h2⟩⟩
    ·exact .inl h
   clear HM2 hB rest HSTOP
   rcases hcases with h | ⟨rfl, h⟩ | ⟨rfl, rfl, h⟩ <;> rcases hcase2 with h3 | ⟨rfl, rfl⟩
   ·have h1 : (want == 2) = false := by simpa using h
    have h2 : decide (want = 2) = false := decide_eq_false h
    have h4 : (s1 == 0) = false := by simpa using h3
    have h5 : decide (s1 = 0) = false := decide_eq_false h3
    go_wp2_with fail
    go_end0
    exact ⟨rfl, by rw [HR.out]; exact (HCA.out _).1, (HCA.out _).2⟩
   ·have h1 : (g == 2) = false := by simpa using h
    have h2 : decide (g = 2) = false := decide_eq_false h
    go_wp2_with fail
    go_end0
    exact ⟨rfl, by rw [HR.out]; exact (HCA.out _).1, (HCA.out _).2⟩
   ·have h1 : (K == 1) = false := by simpa using h
    have h2 : decide (K = 1) = false := decide_eq_false h
    have h4 : (s1 == 0) = false := by simpa using h3
    have h5 : decide (s1 = 0) = false := decide_eq_false h3
    go_wp2_with fail
    go_end0
    exact ⟨rfl, by rw [HR.out]; exact (HCA.out _).1, (HCA.out _).2⟩
   ·have h1 : (K == 1) = false := by simpa using h
    have h2 : decide (K = 1) = false := decide_eq_false h
    go_wp2_with fail
    go_end0
    exact ⟨rfl, by rw [HR.out]; exact (HCA.out _).1, (HCA.out _).2⟩
   ·have h4 : (s1 == 0) = false := by simpa using h3
    have h5 : decide (s1 = 0) = false := decide_eq_false h3
    go_wp2_with fail
    go_end0
    exact ⟨rfl, by rw [HR.out]; exact (HCA.out _).1, (HCA.out _).2⟩
   ·go_wp2_with fail
    go_end0
    exact ⟨rfl, by rw [HR.out]; exact (HCA.out _).1, (HCA.out _).2⟩
end Go.Proofs.YtcecfmdjicjngaaGreatDoor
namespace Go.Proofs.YtcecfmdjicjngaaGreatDoor
open Go.RowKit
set_option linter.unusedVariables false
attribute [local go_sem] bs_size bs_get bs_extract bs_append bs_eq bs_toList
def Kin (N : List LNode) : Prop := ∀ (k : Nat) (n : LNode), N[k]? = some n → ∀ x ∈ n.kids, exprN (nodeOf N x) = true
theorem kin_of {T : LTree} (h : faultL T = 0) : Kin T.nodes := fun k n hk x hx => by
 obtain ⟨_, _, _, h4, _⟩ := fault_zero h
 have h1 := List.all_eq_true.1 (right_at h4 hk).2.1 x hx
 unfold refB at h1
 simp only [Bool.and_eq_true] at h1
 have h2 := h1.2
 unfold nodeOf
 revert h2
 cases exprN (T.nodes.getD x.toNat default) <;> simp
theorem node_get {N : List LNode} {x : Nat} (h : x < N.length) : N[x]? = some (nodeOf N (x : Int)) := by
 unfold nodeOf; rw [Int.toNat_natCast, List.getD_eq_getElem?_getD, List.getElem?_eq_getElem h]; rfl
theorem own_kids {n : LNode} (h : ownB n = true) (he : exprN n = true) : (n.kind = 1 ∨ n.kind = 2) ∨ ((n.kind = 3 ∨ n.kind = 4 ∨ n.kind = 5) ∧ n.kids.length = 1) ∨ (n.kind = 6 ∧ n.kids.length = 2 ∧ 1 ≤ n.op ∧ n.op ≤ 10) := by
 have hk := inB_iff.1 he
 unfold ownB at h
 simp only [Bool.and_eq_true] at h
 obtain ⟨⟨⟨⟨⟨⟨⟨_, _⟩, _⟩, hl⟩, _⟩, _⟩, ho⟩, _⟩ := h.1
 have hc : n.kind = 1 ∨ n.kind = 2 ∨ n.kind = 3 ∨ n.kind = 4 ∨ n.kind = 5 ∨ n.kind = 6 := by omega
 rcases hc with e | e | e | e | e | e <;> rw [e] at hl ho <;> simp [wantsN] at hl ho
 ·exact .inl (.inl e)
 ·exact .inl (.inr e)
 ·exact .inr (.inl ⟨.inl e, by omega⟩)
 ·exact .inr (.inl ⟨.inr (.inl e), by omega⟩)
 ·exact .inr (.inl ⟨.inr (.inr e), by omega⟩)
 ·have := inB_iff.1 ho
  exact .inr (.inr ⟨e, by omega, this.1, this.2⟩)
theorem kids_at {lo : Nat} {W : World} {vk : Value} {kids : List Int} (h : IntsV lo W vk kids) (hne : kids ≠ []) : ∃ b o c, vk = .slice (some ⟨b, o, none⟩) kids.length c ∧ b < W.heap.size ∧ ∀ (i : Nat) (y : Int), kids[i]? = some y → W.cell? ⟨b, o + i, none⟩ = some (.int .i64 y) := by
 obtain ⟨a, c, e, _, hh⟩ := h
 obtain ⟨b, o, rfl, _, hc⟩ := hh hne
 obtain ⟨y, r, rfl⟩ := List.exists_cons_of_ne_nil hne
 exact ⟨b, o, c, e, World.block_lt_of_cell? _ _ (hc 0 y rfl), hc⟩
theorem Chk.sole {W0 W W' : World} {kp : Nat} (h : Below W0.heap.size W0 W) (hl : W0.heap.size ≤ kp) (hs : Sole kp W W') {b o : Nat} {u : Value} (hb : b < W0.heap.size) (hc : W0.cell? ⟨b, o, none⟩ = some u) : W'.cell? ⟨b, o, none⟩ = some u :=
 hs.cell (p := ⟨b, o, none⟩) (by simp; omega) ((h.cell (p := ⟨b, o, none⟩) hb).trans hc)
set_option maxHeartbeats 6400000 in
set_option maxRecDepth 100000 in
theorem l5Type_num (lo : Nat) (W0 : World) (kp p cA : Nat) (vv vn vb : Value) (aA : Option Addr) (T : LTree) (V : List LVar) (vl : Value) (f x : Nat) (hE : ChkE lo W0 p kp vv vn vb aA T V) (hx : x < T.nodes.length) (hk : (nodeOf T.nodes (x : Int)).kind = 1) :
  TypeC W0 kp p cA aA T V vl (f + 1) x := by
 intro W st hC
 have HR : Hid (typeF V T.vars.length T.nodes (f + 1) (x : Int) st = (1, st)) := by unfold Hid; rw [typeF]; simp only [hk]; rfl
 obtain ⟨bn, on, cn, rfl, q1, vk, vt, ve, hnc, hkd, ⟨a, l, c, rfl⟩, ⟨a2, l2, c2, rfl⟩, ⟨a3, l3, c3, rfl⟩⟩ := hE.node hC.bel x hx
 have k0 := cell_of_row _ _ 0 _ _ _ hC.row
 simp at k0
 have hkl := blk_lt hC.row
 have hnl := hE.good.nodes
 have HCA : Hid (∀ o, Chk W0 (W.alloc o) kp p aA V.length cA vl st ∧ Sole kp W (W.alloc o)) := fun o =>
  have hb : Below W.heap.size W (W.alloc o) := (Below.refl _ _).alloc (Nat.le_refl _) _
  ⟨hC.below hb, hb.sole⟩
 generalize typeF V T.vars.length T.nodes (f + 1) (x : Int) st = Z at HR ⊢
 generalize nodeOf T.nodes (x : Int) = n at *
 obtain ⟨d0, d1, d2, d3, d4, d5, d6, d7⟩ := hnc
 rw [hk] at d0
 have hx0 : (0 : Int) ≤ (x : Int) := by omega
 have hx1 : (x : Int) < (T.nodes.length : Int) := by omega
 clear hE hC hkd hk
 go_enter Tryz.func261, Tryz.ntmps261
 go_wp2_with fail
 go_ret
 exact ⟨by rw [HR.out]; rfl, by rw [HR.out]; exact (HCA.out _).1, (HCA.out _).2⟩
set_option maxHeartbeats 6400000 in
set_option maxRecDepth 100000 in
theorem l5Type_name (lo : Nat) (W0 : World) (kp p cA : Nat) (vv vn vb : Value) (aA : Option Addr) (T : LTree) (V : List LVar) (vl : Value) (f x : Nat) (hE : ChkE lo W0 p kp vv vn vb aA T V) (hx : x < T.nodes.length) (hk : (nodeOf T.nodes (x : Int)).kind = 2) :
  TypeC W0 kp p cA aA T V vl (f + 1) x := by
 intro W st hC
 have HR : Hid (typeF V T.vars.length T.nodes (f + 1) (x : Int) st = nameF V T.vars.length (nodeOf T.nodes (x : Int)).name false (x : Int) st) := by unfold Hid; rw [typeF]; simp only [hk]; rfl
 have HNM : Hid (∀ W', Chk W0 W' kp p aA V.length cA vl st → Calls Tryz.prog 278 #[.pointer (some ⟨kp, 0, none⟩), .int .i64 (x : Int), .bool false] W' fun e w' => e = .returned (.int .i64 (nameF V T.vars.length (nodeOf T.nodes (x : Int)).name false (x : Int) st).1) ∧ Chk W0 w' kp p aA V.length cA vl (nameF V T.vars.length (nodeOf T.nodes (x : Int)).name false (x : Int) st).2 ∧ Sole kp W' w') := fun W' h => l5Name_any lo W0 W' kp p cA vv vn vb aA T V vl st x false hE h hx
 obtain ⟨bn, on, cn, rfl, q1, vk, vt, ve, hnc, hkd, ⟨a, l, c, rfl⟩, ⟨a2, l2, c2, rfl⟩, ⟨a3, l3, c3, rfl⟩⟩ := hE.node hC.bel x hx
 have k0 := cell_of_row _ _ 0 _ _ _ hC.row
 simp at k0
 have hkl := blk_lt hC.row
 have hnl := hE.good.nodes
 have HCA : Hid (∀ o, Chk W0 (W.alloc o) kp p aA V.length cA vl st ∧ Sole kp W (W.alloc o)) := fun o =>
  have hb : Below W.heap.size W (W.alloc o) := (Below.refl _ _).alloc (Nat.le_refl _) _
  ⟨hC.below hb, hb.sole⟩
 generalize typeF V T.vars.length T.nodes (f + 1) (x : Int) st = Z at HR ⊢
 generalize nameF V T.vars.length (nodeOf T.nodes (x : Int)).name false (x : Int) st = Y at HR HNM
 generalize nodeOf T.nodes (x : Int) = n at *
 obtain ⟨g, st2⟩ := Y
 obtain ⟨d0, d1, d2, d3, d4, d5, d6, d7⟩ := hnc
 rw [hk] at d0
 have hx0 : (0 : Int) ≤ (x : Int) := by omega
 have hx1 : (x : Int) < (T.nodes.length : Int) := by omega
 clear hE hC hkd hk
 go_enter Tryz.func261, Tryz.ntmps261
 go_wp2_with fail
 refine (HNM.out _ (HCA.out _).1).mono ?_
 rintro e w2 ⟨rfl, hc2, hs2⟩
 have HC2 : Hid (Chk W0 w2 kp p aA V.length cA vl st2 ∧ Sole kp W w2) := ⟨hc2, (HCA.out _).2.trans hs2⟩
 clear hc2 hs2
 go_wp2_with fail
 go_ret
 exact ⟨by rw [HR.out]; rfl, by rw [HR.out]; exact HC2.out.1, HC2.out.2⟩
end Go.Proofs.YtcecfmdjicjngaaGreatDoor
