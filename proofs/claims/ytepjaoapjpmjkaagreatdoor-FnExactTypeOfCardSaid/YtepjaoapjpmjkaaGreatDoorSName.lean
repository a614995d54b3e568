/-
  spec.l5Name.
-/
import Derived.Test.YtepjaoapjpmjkaaGreatDoorSVars
import Derived.Test.YtepjaoapjpmjkaaGreatDoorCheckS
import Derived.Test.YtepjaoapjpmjkaaGreatDoorRowE
import Derived.Deep.RegionHeld3
namespace Go.Proofs.YtepjaoapjpmjkaaGreatDoor
open Go.RowKit
set_option linter.unusedVariables false
attribute [local go_sem] bs_size bs_get bs_extract bs_append bs_eq bs_toList
set_option maxHeartbeats 800000 in
theorem l5Size_any (x : LVar) (w : World) : Calls Tryz.prog 97 #[varV x] w fun e w' => e = .returned (.int .i64 (szV x)) ∧ Below w.heap.size w w' := by
 have HM : Hid (∀ (w : World), Calls Tryz.prog 105 #[.int .i64 1, .int .i64 x.size] w fun e w' => e = .returned (.int .i64 (szV x)) ∧ w' = w) := fun w => l1Max_any 1 x.size w
 go_enter Tryz.func97, Tryz.ntmps97
 go_wp2_with fail
 refine (HM.out _).mono ?_
 rintro e w2 ⟨rfl, rfl⟩
 go_wp2_with fail
 go_ret
 exact ⟨rfl, by go_grown⟩
def RowV (w : World) (ad : Option Addr) (V : List LVar) : Prop := V ≠ [] → ∃ g, ad = some ⟨g, 0, none⟩ ∧ ∀ (i : Nat) (x : LVar), V[i]? = some x → VarAt w g (i * 4) x
theorem RowV.of_own {w : World} {B : Nat} {ad : Option Addr} {n c : Nat} {V : List LVar} (h : w.ownsRow B 108 4 (.slice ad n c) n (varCells V)) (hn : n = V.length) : RowV w ad V := by
 intro hne
 subst hn
 have hp : 0 < V.length := List.length_pos_iff.2 hne
 obtain ⟨g, c', e, _, _, hc⟩ := rowE_cells h hp (varCells_len _)
 simp at e
 refine ⟨g, e.1, fun i x hx => ?_⟩
 have hi := (List.getElem?_eq_some_iff.1 hx).1
 obtain ⟨u0, u1, u2, u3⟩ := varCells_at V i x hx
 exact ⟨(hc _ (by omega)).trans u0, (hc _ (by omega)).trans u1, (hc _ (by omega)).trans u2, (hc _ (by omega)).trans u3⟩
theorem RowV.below {w w' : World} {ad : Option Addr} {V : List LVar} (h : RowV w ad V) (hb : Below w.heap.size w w') : RowV w' ad V := fun hne => by
 obtain ⟨g, e, hc⟩ := h hne
 exact ⟨g, e, fun i x hx => (hc i x hx).keep (lo := 0) (Keeps.of_below hb) (Nat.zero_le _)⟩
set_option maxHeartbeats 3200000 in
set_option maxRecDepth 100000 in
theorem l5Cells_any (V : List LVar) (ad : Option Addr) (k c : Nat) (w : World) (hk : k ≤ V.length) (hV : RowV w ad V) (hs : SizesLe V) (hl : V.length ≤ 624) :
  Calls Tryz.prog 49 #[.slice ad k c] w fun e w' => e = .returned (.int .i64 (cellsL (V.take k))) ∧ Below w.heap.size w w' := by
 have HV : Hid (RowV w ad V) := hV
 have HNX : Hid (∀ (k : Nat) (x : LVar), V[k]? = some x → 0 ≤ cellsL (V.take k) ∧ cellsL (V.take k) ≤ 4992 ∧ 0 ≤ szV x ∧ szV x ≤ 8 ∧ cellsL (V.take (k + 1)) = cellsL (V.take k) + szV x) := fun k x hk => cells_next hk hs hl
 have HSZ : Hid (∀ (x : LVar) (w : World), Calls Tryz.prog 97 #[varV x] w fun e w' => e = .returned (.int .i64 (szV x)) ∧ Below w.heap.size w w') := l5Size_any
 clear hV hs
 go_enter Tryz.func49, Tryz.ntmps49
 go_wp2
 go_loopw [3, 4] (fun d i wr => ∃ j : Nat, j ≤ k ∧ i = .int .i64 j ∧ d = .int .i64 (cellsL (V.take j)) ∧ Below w.heap.size w wr) (fun d i _ => k - (intOf i).toNat)
 case atStart => exact ⟨0, by omega, rfl, rfl, Below.refl _ _⟩
 case round =>
  obtain ⟨j, hj, rfl, rfl, hB⟩ := hrel
  have HB := hid hB
  by_cases hlt : j < k
  ·obtain ⟨x, hx⟩ : ∃ x, V[j]? = some x := ⟨V[j]'(by omega), List.getElem?_eq_getElem _⟩
   obtain ⟨g, rfl, hc⟩ := HV.out (by intro e; rw [e] at hx; simp at hx)
   obtain ⟨c0, c1, c2, c3⟩ := (hc j x hx).keep (lo := 0) (Keeps.of_below hB) (Nat.zero_le _)
   obtain ⟨n0, n1, n2, n3, n4⟩ := HNX.out j x hx
   have HN : Hid (cellsL (V.take (j + 1)) = cellsL (V.take j) + szV x) := n4
   have hj0 : (0 : Int) ≤ (j : Int) := by omega
   have hj1 : (j : Int) < (k : Int) := by omega
   clear hx hc n4 hB
   generalize cellsL (V.take j) = s at *
   go_wp2_with fail
   refine (HSZ.out x _).mono ?_
   rintro e w2 ⟨rfl, hb⟩
   have HB2 : Hid (Below w.heap.size w w2) := HB.out.trans (hb.mono HB.out.size)
   clear hb HB c0 c1 c2 c3
   generalize szV x = z at *
   go_wp2_with fail
   go_roundw
   case rel => exact ⟨j + 1, by omega, by go_num, by rw [HN.out], HB2.out⟩
   case measure => simp [intOf]; omega
  ·have hje : j = k := by omega
   subst hje
   go_wp2
   go_ret
   exact ⟨rfl, HB.out⟩
set_option maxHeartbeats 3200000 in
set_option maxRecDepth 100000 in
theorem l5Find_any (V : List LVar) (nm : List UInt8) (ad : Option Addr) (k c : Nat) (w : World) (hk : k = V.length) (hV : RowV w ad V) (hl : V.length ≤ 624) :
  Calls Tryz.prog 107 #[.slice ad k c, .string (bs nm)] w fun e w' => e = .returned (.int .i64 (varFrom nm V 0)) ∧ w' = w := by
 subst hk
 have HV : Hid (RowV w ad V) := hV
 clear hV
 go_enter Tryz.func107, Tryz.ntmps107
 go_wp2
 go_loopw [5] (fun i wr => ∃ k : Nat, k ≤ V.length ∧ i = .int .i64 k ∧ varFrom nm V 0 = varFrom nm (V.drop k) k ∧ SameW wr w) (fun i _ => V.length - (intOf i).toNat)
 case atStart => exact ⟨0, by omega, rfl, rfl, rfl⟩
 case round =>
  obtain ⟨k, hk, rfl, hv, hw⟩ := hrel
  have HF : Hid _ := hv
  clear hv
  by_cases hlt : k < V.length
  ·obtain ⟨x, hx⟩ : ∃ x, V[k]? = some x := ⟨V[k], List.getElem?_eq_getElem hlt⟩
   obtain ⟨g, rfl, hc1⟩ := HV.out (by intro e; rw [e] at hlt; simp at hlt)
   have c0 : wr.cell? ⟨g, k * 4, none⟩ = _ := (congrArg (fun W => World.cell? W ⟨g, k * 4, none⟩) hw).trans (hc1 k x hx).1
   have HX : Hid (V[k]? = some x) := hx
   clear hx hc1
   by_cases he : x.name = nm
   ·have e := HF.out.trans (varFrom_hit HX.out he)
    have HE : Hid _ := e
    clear e
    subst he
    go_wp2
    go_ret
    exact ⟨by rw [HE.out]; rfl, hw⟩
   ·have hne : (x.name == nm) = false := by simpa using he
    have hne2 : decide (x.name = nm) = false := decide_eq_false he
    have e := HF.out.trans (varFrom_miss HX.out he)
    have HE : Hid _ := e
    clear e
    go_wp2
    go_roundw
    case rel => exact ⟨k + 1, by omega, by go_num, HE.out, hw⟩
    case measure => simp [intOf]; omega
  ·have hke : k = V.length := by omega
   have HKE : Hid (k = V.length) := hke
   clear hke
   go_wp2
   go_ret
   refine ⟨?_, hw⟩
   rw [HF.out, HKE.out, List.drop_length]; rfl
end Go.Proofs.YtepjaoapjpmjkaaGreatDoor
namespace Go.Proofs.YtepjaoapjpmjkaaGreatDoor
open Go.RowKit
set_option linter.unusedVariables false
attribute [local go_sem] bs_size bs_get bs_extract bs_append bs_eq bs_toList
structure Sole (g : Nat) (w w' : World) : Prop where
 bel : Below 0 w w'
 rest : ∀ b, b < w.heap.size → b ≠ g → w'.heap[b]? = w.heap[b]?
theorem Sole.refl (g : Nat) (w : World) : Sole g w w := ⟨Below.refl _ _, fun _ _ _ => rfl⟩
theorem Sole.trans {g : Nat} {a b c : World} (h : Sole g a b) (k : Sole g b c) : Sole g a c :=
 ⟨h.bel.trans k.bel, fun i hi hg => (k.rest i (Nat.lt_of_lt_of_le hi h.bel.size) hg).trans (h.rest i hi hg)⟩
theorem _root_.Go.RowKit.Below.sole {g : Nat} {w w' : World} (h : Below w.heap.size w w') : Sole g w w' := ⟨h.mono (Nat.zero_le _), fun b hb _ => h.block b hb⟩
theorem Sole.set {g : Nat} {w w' : World} (h : Sole g w w') (o : Nat) (u : Value) : Sole g w (w'.setCell ⟨g, o, none⟩ u) :=
 h.trans ⟨(Below.refl _ _).setCell (Nat.zero_le _) _, fun b _ hg => Below.heap_setCell _ _ _ _ hg⟩
theorem Sole.cell {g : Nat} {w w' : World} (h : Sole g w w') {p : Addr} {u : Value} (hne : p.block ≠ g) (hc : w.cell? p = some u) : w'.cell? p = some u := by
 rw [World.cell?_of_block (h.rest p.block (World.block_lt_of_cell? _ _ hc) hne)]; exact hc
structure ChkE (lo : Nat) (W0 : World) (p kp : Nat) (vv vn vb : Value) (aA : Option Addr) (T : LTree) (V : List LVar) : Prop where
 tree : TreeP lo W0 p vv vn vb T
 all : RowV W0 aA V
 few : V.length ≤ 624
 low : W0.heap.size ≤ kp
 good : Good T
structure Chk (W0 W : World) (kp p : Nat) (aA : Option Addr) (lA cA : Nat) (vl : Value) (st : Met) : Prop where
 bel : Below W0.heap.size W0 W
 row : W.heap[kp]? = some (.cells #[.pointer (some ⟨p, 0, none⟩), .slice aA lA cA, vl, .int .i64 st.1, .int .i64 st.2] 70 (0, 0))
theorem Chk.below {W0 W W' : World} {kp p lA cA : Nat} {aA : Option Addr} {vl : Value} {st : Met} (h : Chk W0 W kp p aA lA cA vl st) (hb : Below W.heap.size W W') : Chk W0 W' kp p aA lA cA vl st :=
 ⟨h.bel.trans (hb.mono h.bel.size), blk h.row hb⟩
theorem ChkE.node {lo p kp : Nat} {W0 W : World} {vv vn vb : Value} {aA : Option Addr} {T : LTree} {V : List LVar} (h : ChkE lo W0 p kp vv vn vb aA T V) (hb : Below W0.heap.size W0 W) (x : Nat) (hx : x < T.nodes.length) :
  ∃ bn on cn, vn = .slice (some ⟨bn, on, none⟩) T.nodes.length cn ∧ W.cell? ⟨p, 1, none⟩ = some vn ∧ ∃ vk vt ve, NodeCells W bn (on + x * 8) (nodeOf T.nodes (x : Int)) vk vt ve ∧ IntsV lo W0 vk (nodeOf T.nodes (x : Int)).kids ∧ (∃ a l c, vk = .slice a l c) ∧ (∃ a l c, vt = .slice a l c) ∧ (∃ a l c, ve = .slice a l c) := by
 obtain ⟨an, cn, rfl, _, hh⟩ := id h.tree.tree.nodes
 obtain ⟨bn, on, rfl, _, hc⟩ := hh (by intro e; rw [e] at hx; simp at hx)
 have hxe : T.nodes[x]? = some (nodeOf T.nodes (x : Int)) := by unfold nodeOf; rw [Int.toNat_natCast, List.getD_eq_getElem?_getD, List.getElem?_eq_getElem hx]; rfl
 obtain ⟨vk, vt, ve, h1, h2⟩ := hc x _ hxe
 have hpw : p < W0.heap.size := World.block_lt_of_cell? _ _ h.tree.c1
 obtain ⟨a1, c1, e1, _⟩ := id h2.kids
 obtain ⟨a2, c2, e2, _⟩ := id h2.thn
 obtain ⟨a3, c3, e3, _⟩ := id h2.els
 exact ⟨bn, on, cn, rfl, (hb.cell (p := ⟨p, 1, none⟩) hpw).trans h.tree.c1, vk, vt, ve, h1.keep (lo := 0) (.of_below hb) (Nat.zero_le _), h2.kids, ⟨_, _, _, e1⟩, ⟨_, _, _, e2⟩, ⟨_, _, _, e3⟩⟩
set_option maxHeartbeats 1600000 in
theorem l5Stop_any (W0 W : World) (kp p lA cA : Nat) (aA : Option Addr) (vl : Value) (st : Met) (c x : Int) (h : Chk W0 W kp p aA lA cA vl st) (hl : W0.heap.size ≤ kp) :
  Calls Tryz.prog 108 #[.pointer (some ⟨kp, 0, none⟩), .int .i64 c, .int .i64 x] W fun e w' => e = .returned (.tuple #[]) ∧ Chk W0 w' kp p aA lA cA vl (metAt st c x) ∧ Sole kp W w' := by
 obtain ⟨s1, s2⟩ := st
 obtain ⟨-, -, -, c3, c4⟩ := cl5 h.row
 obtain ⟨-, -, -, f3, f4⟩ := fl5 h.row
 have hk := blk_lt h.row
 have H := hid h
 clear h
 by_cases hz : s1 = 0
 ·subst hz
  go_enter Tryz.func108, Tryz.ntmps108
  go_wp2
  go_end0
  refine ⟨rfl, ⟨H.out.bel.trans (((Below.refl _ _).setCell (by simp; omega) _).setCell (by simp; omega) _), ?_⟩, ((Sole.refl _ _).set _ _).set _ _⟩
  rw [heap_setCell_same _ _ _ _ _ _ (heap_setCell_same _ _ _ _ _ _ H.out.row)]
  rfl
 ·have e : metAt (s1, s2) c x = (s1, s2) := by unfold metAt; rw [if_neg hz]
  rw [e]
  have hz1 : (s1 == 0) = false := by simpa using hz
  have hz2 : decide (s1 = 0) = false := decide_eq_false hz
  go_enter Tryz.func108, Tryz.ntmps108
  go_wp2
  go_end0
  exact ⟨rfl, H.out, Sole.refl _ _⟩
end Go.Proofs.YtepjaoapjpmjkaaGreatDoor
namespace Go.Proofs.YtepjaoapjpmjkaaGreatDoor
open Go.RowKit
set_option linter.unusedVariables false
attribute [local go_sem] bs_size bs_get bs_extract bs_append bs_eq bs_toList
theorem rowV_heap {W W' : World} {a : Option Addr} {V : List LVar} (h : RowV W a V) (hW : W'.heap = W.heap) : RowV W' a V := fun hne => by
 obtain ⟨g, e, hc⟩ := h hne
 have hs : ∀ o, W'.cell? ⟨g, o, none⟩ = W.cell? ⟨g, o, none⟩ := fun o => World.cell?_of_block (a := ⟨g, o, none⟩) (show W'.heap[g]? = W.heap[g]? from by rw [hW])
 exact ⟨g, e, fun i x hx => by
  obtain ⟨h1, h2, h3, h4⟩ := hc i x hx
  exact ⟨(hs _).trans h1, (hs _).trans h2, (hs _).trans h3, (hs _).trans h4⟩⟩
set_option maxHeartbeats 6400000 in
set_option maxRecDepth 100000 in
theorem l5Name_any (lo : Nat) (W0 W : World) (kp p cA : Nat) (vv vn vb : Value) (aA : Option Addr) (T : LTree) (V : List LVar) (vl : Value) (st : Met) (j : Nat) (row : Bool) (hE : ChkE lo W0 p kp vv vn vb aA T V) (hC : Chk W0 W kp p aA V.length cA vl st) (hj : j < T.nodes.length) :
  Calls Tryz.prog 67 #[.pointer (some ⟨kp, 0, none⟩), .int .i64 (j : Int), .bool row] W fun e w' => e = .returned (.int .i64 (nameF V T.vars.length (nodeOf T.nodes (j : Int)).name row (j : Int) st).1) ∧ Chk W0 w' kp p aA V.length cA vl (nameF V T.vars.length (nodeOf T.nodes (j : Int)).name row (j : Int) st).2 ∧ Sole kp W w' := by
 obtain ⟨bn, on, cn, rfl, q1, vk, vt, ve, hnc, _⟩ := hE.node hC.bel j hj
 have n2 := hnc.c2
 obtain ⟨k0, k1⟩ := cl2 hC.row
 have hrv := hE.all.below hC.bel
 have hfew := hE.few
 have hnl := hE.good.nodes
 have hvl := hE.good.vars
 obtain ⟨av, cv, rfl, _⟩ := id hE.tree.tree.vars
 have hpw : p < W0.heap.size := World.block_lt_of_cell? _ _ hE.tree.c0
 have q0 : W.cell? ⟨p, 0, none⟩ = some (.slice av T.vars.length cv) := (hC.bel.cell (p := ⟨p, 0, none⟩) hpw).trans hE.tree.c0
 have HSTOP : Hid (∀ (c : Int) (W' : World), Chk W0 W' kp p aA V.length cA vl st → Calls Tryz.prog 108 #[.pointer (some ⟨kp, 0, none⟩), .int .i64 c, .int .i64 (j : Int)] W' fun e w' => e = .returned (.tuple #[]) ∧ Chk W0 w' kp p aA V.length cA vl (metAt st c (j : Int)) ∧ Sole kp W' w') := fun c W' h => l5Stop_any W0 W' kp p V.length cA aA vl st c (j : Int) h hE.low
 obtain ⟨nm, hnm⟩ : ∃ nm, nm = (nodeOf T.nodes (j : Int)).name := ⟨_, rfl⟩
 rw [← hnm] at n2 ⊢
 clear hnm
 have HFI : Hid (∀ W', W'.heap = W.heap → Calls Tryz.prog 107 #[.slice aA V.length cA, .string (bs nm)] W' fun e w' => e = .returned (.int .i64 (varFrom nm V 0)) ∧ w' = W') := fun W' hW => l5Find_any V nm aA V.length cA W' rfl (rowV_heap hrv hW) hfew
 have HVO := varFrom_or nm V 0
 have HNF : Hid (∀ X, varFrom nm V 0 = X → nameF V T.vars.length nm row (j : Int) st = (if X < 0 ∨ (row = true ∧ (T.vars.length : Int) ≤ X) then (0, metAt st 4 (j : Int)) else if (decide (0 < (V.getD X.toNat default).size)) ≠ row then (0, metAt st 1 (j : Int)) else ((V.getD X.toNat default).type, st))) := fun X hX => by unfold nameF; rw [hX]
 have HCH := hid hC
 have HRV : Hid (RowV W aA V) := hrv
 have hj0 : (0 : Int) ≤ (j : Int) := by omega
 have hj1 : (j : Int) < (T.nodes.length : Int) := by omega
 obtain ⟨X, hX⟩ : ∃ X, varFrom nm V 0 = X := ⟨_, rfl⟩
 have HN := HNF.out X hX
 rw [hX] at HFI HVO
 clear hC hE hnc hrv hX HNF
 go_enter Tryz.func67, Tryz.ntmps67
 go_wp2_with fail
 go_region_held3 (fun Z => Z.cell? ⟨kp, 0, none⟩ = some (.pointer (some ⟨p, 0, none⟩)) ∧ Z.cell? ⟨kp, 1, none⟩ = some (.slice aA V.length cA) ∧ Z.cell? ⟨p, 1, none⟩ = some (.slice (some ⟨bn, on, none⟩) T.nodes.length cn) ∧ Z.cell? ⟨bn, on + j * 8 + 2, none⟩ = some (.string (bs nm))) (go_keep) (first | (go_at_call 107; refine (HFI.out _ (by rfl)).mono ?_; rintro e w2 ⟨rfl, rfl⟩))
 have hcd : Chk W0 W.drew kp p aA V.length cA vl st := ⟨HCH.out.bel.drew, HCH.out.row⟩
 have hrd : RowV W.drew aA V := rowV_heap HRV.out rfl
 have k0 : W.drew.cell? ⟨kp, 0, none⟩ = _ := k0
 have k1 : W.drew.cell? ⟨kp, 1, none⟩ = _ := k1
 have q0 : W.drew.cell? ⟨p, 0, none⟩ = _ := q0
 have hbd : Sole kp W W.drew := ((Below.refl W.heap.size W).drew).sole
 clear HCH HRV q1 n2 HFI
 have HCD := hid hcd
 have HRD : Hid (RowV W.drew aA V) := hrd
 have HBD : Hid (Sole kp W W.drew) := hbd
 clear hcd hrd hbd
 generalize W.drew = Wd at *
 rcases HVO with hX1 | ⟨i, rfl, hi⟩
 ·have hXn : X < 0 := by omega
  have HR : Hid (nameF V T.vars.length nm row (j : Int) st = (0, metAt st 4 (j : Int))) := by unfold Hid; rw [HN, if_pos (Or.inl hXn)]
  clear hX1 HN HRD
  go_wp2_with fail
  refine (HSTOP.out 4 _ HCD.out).mono ?_
  rintro e w2 ⟨rfl, hc2, hb2⟩
  have HC2 : Hid (Chk W0 w2 kp p aA V.length cA vl (metAt st 4 (j : Int)) ∧ Sole kp W w2) := ⟨hc2, HBD.out.trans hb2⟩
  clear hc2 hb2
  go_wp2_with fail
  go_ret
  exact ⟨by rw [HR.out]; rfl, by rw [HR.out]; exact HC2.out.1, HC2.out.2⟩
 ·have hiV : i < V.length := by omega
  have hni : ¬ ((i : Int) < 0) := by omega
  obtain ⟨v, hv⟩ : ∃ v, V[i]? = some v := ⟨V[i], List.getElem?_eq_getElem hiV⟩
  have hvd : V.getD ((i : Int)).toNat default = v := by rw [Int.toNat_natCast, List.getD_eq_getElem?_getD, hv]; rfl
  rw [hvd] at HN
  obtain ⟨g, rfl, hcs⟩ := HRD.out (by intro e; rw [e] at hiV; simp at hiV)
  obtain ⟨c0, c1, c2, c3⟩ := hcs i v hv
  have hi0 : (0 : Int) ≤ (i : Int) := by omega
  have hi1 : (i : Int) < (V.length : Int) := by omega
  clear hcs hv hvd HRD hi
  by_cases hrow : row = true ∧ (T.vars.length : Int) ≤ (i : Int)
  ·obtain ⟨rfl, hge⟩ := hrow
   have HR : Hid (nameF V T.vars.length nm true (j : Int) st = (0, metAt st 4 (j : Int))) := by unfold Hid; rw [HN, if_pos (Or.inr ⟨rfl, hge⟩)]
   have hge2 : ¬ ((i : Int) < (T.vars.length : Int)) := by omega
   have hge3 : T.vars.length ≤ i := by omega
   clear HN c0 c1 c2 c3
   go_wp2_with fail
   refine (HSTOP.out 4 _ HCD.out).mono ?_
   rintro e w2 ⟨rfl, hc2, hb2⟩
   have HC2 : Hid (Chk W0 w2 kp p (some ⟨g, 0, none⟩) V.length cA vl (metAt st 4 (j : Int)) ∧ Sole kp W w2) := ⟨hc2, HBD.out.trans hb2⟩
   clear hc2 hb2
   go_wp2_with fail
   go_ret
   exact ⟨by rw [HR.out]; rfl, by rw [HR.out]; exact HC2.out.1, HC2.out.2⟩
  ·have hrow2 : row = true → i < T.vars.length := fun hr => by
    by_cases h : (T.vars.length : Int) ≤ (i : Int)
    ·exact absurd ⟨hr, h⟩ hrow
    ·omega
   rw [if_neg (by rintro (h | h); exact hni h; exact hrow h)] at HN
   by_cases hsz : (decide (0 < v.size)) ≠ row
   ·have HR : Hid (nameF V T.vars.length nm row (j : Int) st = (0, metAt st 1 (j : Int))) := by unfold Hid; rw [HN, if_pos hsz]
    clear HN hrow
    cases row with
    | true =>
     have h1 := hrow2 rfl
     have h2 : ¬ (T.vars.length ≤ i) := by omega
     have hs0 : ¬ (0 < v.size) := by intro h; exact hsz (decide_eq_true h)
     clear hsz hrow2
     go_wp2_with fail
     refine (HSTOP.out 1 _ HCD.out).mono ?_
     rintro e w2 ⟨rfl, hc2, hb2⟩
     have HC2 : Hid (Chk W0 w2 kp p (some ⟨g, 0, none⟩) V.length cA vl (metAt st 1 (j : Int)) ∧ Sole kp W w2) := ⟨hc2, HBD.out.trans hb2⟩
     clear hc2 hb2
     go_wp2_with fail
     go_ret
     exact ⟨by rw [HR.out]; rfl, by rw [HR.out]; exact HC2.out.1, HC2.out.2⟩
    | false =>
     have hs0 : 0 < v.size := by
      by_cases h : 0 < v.size
      ·exact h
      ·exact absurd (decide_eq_false h) hsz
     clear hsz hrow2
     go_wp2_with fail
     refine (HSTOP.out 1 _ HCD.out).mono ?_
     rintro e w2 ⟨rfl, hc2, hb2⟩
     have HC2 : Hid (Chk W0 w2 kp p (some ⟨g, 0, none⟩) V.length cA vl (metAt st 1 (j : Int)) ∧ Sole kp W w2) := ⟨hc2, HBD.out.trans hb2⟩
     clear hc2 hb2
     go_wp2_with fail
     go_ret
     exact ⟨by rw [HR.out]; rfl, by rw [HR.out]; exact HC2.out.1, HC2.out.2⟩
   ·have hsz2 : decide (0 < v.size) = row := by simpa using hsz
    have HR : Hid (nameF V T.vars.length nm row (j : Int) st = (v.type, st)) := by unfold Hid; rw [HN, if_neg hsz]
    clear HN hrow hsz HSTOP
    cases row with
    | true =>
     have h1 := hrow2 rfl
     have h2 : ¬ (T.vars.length ≤ i) := by omega
     have hs0 : 0 < v.size := of_decide_eq_true hsz2
     clear hsz2 hrow2
     go_wp2_with fail
     go_ret
     exact ⟨by rw [HR.out]; rfl, by rw [HR.out]; exact HCD.out, HBD.out⟩
    | false =>
     have hs0 : ¬ (0 < v.size) := of_decide_eq_false hsz2
     clear hsz2 hrow2
     go_wp2_with fail
     go_ret
     exact ⟨by rw [HR.out]; rfl, by rw [HR.out]; exact HCD.out, HBD.out⟩
end Go.Proofs.YtepjaoapjpmjkaaGreatDoor
