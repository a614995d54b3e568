/-
  laws.szTree: how much a tree holds.
-/
import Derived.Test.YteeklmgkhacbcaaGreatDoorTreeMath
import Derived.Test.YteeklmgkhacbcaaGreatDoorStr
import Derived.Test.YteeklmgkhacbcaaGreatDoorTreeTo2
import Derived.Deep.DrawnRows
import Derived.Deep.RegionHeld3
namespace Go.Proofs.YteeklmgkhacbcaaGreatDoor
open Go.RowKit
set_option linter.unusedVariables false
attribute [local go_sem] bs_size bs_get bs_extract bs_append bs_eq bs_toList
attribute [local go_sem ↓] Go.wp_at_zero Go.wp_at_succ
theorem nums_of_ints {lo : Nat} {w : World} {a : Option Addr} {c : Nat} {xs : List Int} (h : IntsV lo w (.slice a xs.length c) xs) : Nums w a xs := by
 obtain ⟨a', c', h1, h2, h3⟩ := h
 simp at h1
 obtain ⟨rfl, rfl⟩ := h1
 by_cases e : xs = []
 ·exact .inl e
 ·obtain ⟨b, o, rfl, _, hc⟩ := h3 e
  refine .inr ⟨b, o, rfl, fun i hi => ?_⟩
  rw [hc i xs[i] (List.getElem?_eq_getElem hi), List.getD_eq_getElem?_getD, List.getElem?_eq_getElem hi]
  rfl
theorem eqInts_any (lo lo' : Nat) (v v' : Value) (xs : List Int) (w : World) (h : IntsV lo w v xs) (h' : IntsV lo' w v' xs) (hl : xs.length ≤ 9223372036854775807) :
  Calls Tryz.prog 15 #[v, v'] w fun e w' => e = .returned (.bool true) ∧ Below w.heap.size w w' := by
 obtain ⟨a, c, rfl, _⟩ := id h
 obtain ⟨a', c', rfl, _⟩ := id h'
 exact eqNums_any a a' xs c c' w hl (nums_of_ints h) (nums_of_ints h')
set_option maxHeartbeats 1600000 in
theorem eqVar_any (x : LVar) (w : World) : Calls Tryz.prog 54 #[varV x, varV x] w fun e w' => e = .returned (.bool true) ∧ Below w.heap.size w w' := by
 go_enter Tryz.func54, Tryz.ntmps54
 go_wp2
 go_ret
 exact ⟨rfl, by go_grown⟩
set_option maxHeartbeats 3200000 in
theorem eqVars_any (lo lo' : Nat) (v v' : Value) (xs : List LVar) (w : World) (h : VarsV lo w v xs) (h' : VarsV lo' w v' xs) (hl : xs.length ≤ 1048576) :
  Calls Tryz.prog 31 #[v, v'] w fun e w' => e = .returned (.bool true) ∧ Below w.heap.size w w' := by
 obtain ⟨a, c, rfl, _, hh1⟩ := h
 obtain ⟨a', c', rfl, _, hh2⟩ := h'
 have H1 := hid hh1
 have H2 := hid hh2
 clear hh1 hh2
 go_enter Tryz.func31, Tryz.ntmps31
 go_wp2
 go_loopw [5] (fun i wr => ∃ k : Nat, k ≤ xs.length ∧ i = .int .i64 k ∧ Below w.heap.size w wr) (fun i _ => xs.length - (intOf i).toNat)
 case atStart => exact ⟨0, by omega, rfl, Below.refl _ _⟩
 case round =>
  obtain ⟨k, hk, rfl, hB⟩ := hrel
  by_cases hlt : k < xs.length
  ·obtain ⟨x, hx⟩ : ∃ x, xs[k]? = some x := ⟨xs[k], List.getElem?_eq_getElem hlt⟩
   have hne : xs ≠ [] := by intro e; rw [e] at hlt; simp at hlt
   obtain ⟨g, o, ha, _, hc1⟩ := H1.out hne
   obtain ⟨h, p, hb, _, hc2⟩ := H2.out hne
   subst ha
   subst hb
   have hgw : g < w.heap.size := World.block_lt_of_cell? _ _ (hc1 k x hx).1
   have hhw : h < w.heap.size := World.block_lt_of_cell? _ _ (hc2 k x hx).1
   obtain ⟨c0, c1, c2, c3⟩ := (hc1 k x hx).keep (lo := 0) (fun g _ hg => hB.block g hg) (Nat.zero_le _)
   obtain ⟨d0, d1, d2, d3⟩ := (hc2 k x hx).keep (lo := 0) (fun g _ hg => hB.block g hg) (Nat.zero_le _)
   have hk0 : (0 : Int) ≤ (k : Int) := by omega
   have hk1 : (k : Int) < (xs.length : Int) := by omega
   have hgr : g < wr.heap.size := Nat.lt_of_lt_of_le hgw hB.size
   have hhr : h < wr.heap.size := Nat.lt_of_lt_of_le hhw hB.size
   have HQ : Hid (∀ w, Calls Tryz.prog 54 #[varV x, varV x] w fun e w' => e = .returned (.bool true) ∧ Below w.heap.size w w') := fun w => eqVar_any x w
   clear hne hx hc1 hc2
   go_wp2_with fail
   go_region_held3 (fun W => (W.cell? ⟨g, o + k * 4, none⟩ = some (.string (bs x.name)) ∧ W.cell? ⟨g, o + k * 4 + 1, none⟩ = some (.int .i64 x.kind) ∧ W.cell? ⟨g, o + k * 4 + 2, none⟩ = some (.int .i64 x.type) ∧ W.cell? ⟨g, o + k * 4 + 3, none⟩ = some (.int .i64 x.size)) ∧ (W.cell? ⟨h, p + k * 4, none⟩ = some (.string (bs x.name)) ∧ W.cell? ⟨h, p + k * 4 + 1, none⟩ = some (.int .i64 x.kind) ∧ W.cell? ⟨h, p + k * 4 + 2, none⟩ = some (.int .i64 x.type) ∧ W.cell? ⟨h, p + k * 4 + 3, none⟩ = some (.int .i64 x.size))) (go_keep) (first | (go_at_call 54; refine (HQ.out _).mono ?_; rintro e w2 ⟨rfl, hb⟩; have hD : Below wr.heap.size wr w2 := ((Below.refl wr.heap.size wr).drew).trans (Below.mono hb (Nat.le_refl _)); have k0 := (hD.cell (p := ⟨g, o + k * 4, none⟩) hgr).trans c0; have k1 := (hD.cell (p := ⟨g, o + k * 4 + 1, none⟩) hgr).trans c1; have k2 := (hD.cell (p := ⟨g, o + k * 4 + 2, none⟩) hgr).trans c2; have k3 := (hD.cell (p := ⟨g, o + k * 4 + 3, none⟩) hgr).trans c3; have j0 := (hD.cell (p := ⟨h, p + k * 4, none⟩) hhr).trans d0; have j1 := (hD.cell (p := ⟨h, p + k * 4 + 1, none⟩) hhr).trans d1; have j2 := (hD.cell (p := ⟨h, p + k * 4 + 2, none⟩) hhr).trans d2; have j3 := (hD.cell (p := ⟨h, p + k * 4 + 3, none⟩) hhr).trans d3; have hB2 := hB.trans (hD.mono hB.size); clear hb hD))
   go_wp2
   go_roundw
   case rel => exact ⟨k + 1, by omega, by go_num, by assumption⟩
   case measure => simp [intOf]; omega
  ·have hke : k = xs.length := by omega
   subst hke
   go_wp2
   go_ret
   exact ⟨rfl, hB⟩
end Go.Proofs.YteeklmgkhacbcaaGreatDoor
namespace Go.Proofs.YteeklmgkhacbcaaGreatDoor
open Go.RowKit
set_option linter.unusedVariables false
attribute [local go_sem] bs_size bs_get bs_extract bs_append bs_eq bs_toList
abbrev nodeZ : Value := .agg #[.int .i64 0, .int .i64 0, .string ⟨#[]⟩, .int .i64 0, .int .i64 0, .slice none 0 0, .slice none 0 0, .slice none 0 0]
theorem infoNode : (Tryz.prog.info? 88).map (fun i => (i.zero, i.size, i.bytes)) = some (some nodeZ, 8, 120) := by kernel_rfl
structure NodesLaid (w : World) (g n k : Nat) (T : TypeId) (xs : List LNode) : Prop where
 row : ∃ cur : Array Value, w.heap[g]? = some (.cells cur T (0, 0)) ∧ cur.size = n * 8
 at_ : ∀ j x, j < k → xs[j]? = some x → NodeAt (g + 1) w g (j * 8) x
theorem NodesLaid.lt {w : World} {g n k : Nat} {T : TypeId} {xs : List LNode} (h : NodesLaid w g n k T xs) : g < w.heap.size := by obtain ⟨cur, h1, _⟩ := h.row; exact blk_lt h1
theorem NodesLaid.below {w w' : World} {g n k : Nat} {T : TypeId} {xs : List LNode} (h : NodesLaid w g n k T xs) (hb : Below w.heap.size w w') : NodesLaid w' g n k T xs := by
 obtain ⟨cur, h1, h2⟩ := h.row
 refine ⟨⟨cur, blk h1 hb, h2⟩, fun j x hj hx => ?_⟩
 obtain ⟨vk, vt, ve, hc, hv⟩ := h.at_ j x hj hx
 exact ⟨vk, vt, ve, hc.keep (lo := g) (.of_below hb) (Nat.le_refl _), hv.below hb⟩
theorem NodesLaid.cell {w : World} {g n k i : Nat} {T : TypeId} {xs : List LNode} (h : NodesLaid w g n k T xs) (hi : i < n * 8) : (∃ y, w.cell? ⟨g, i, none⟩ = some y) ∧ w.frozen? ⟨g, i, none⟩ = false := by
 obtain ⟨cur, h1, h2⟩ := h.row
 refine ⟨⟨cur[i]'(by omega), ?_⟩, frozen_of_row _ _ _ _ _ h1⟩
 rw [cell_of_row _ _ _ _ _ _ h1]
 exact Array.getElem?_eq_getElem (by omega)
theorem NodesLaid.of_own {w : World} {g n B : Nat} {T : TypeId} {xs : List LNode} {ys : List Value} (h : w.ownsRow B T 8 (.slice (some ⟨g, 0, none⟩) n n) n ys) : NodesLaid w g n 0 T xs := by
 refine ⟨?_, fun j x hj => absurd hj (by omega)⟩
 rcases h.2 with ⟨h, _⟩ | ⟨g', c, cur, h, _, hh, _, _, hs, _⟩
 ·simp at h
 ·simp at h
  obtain ⟨rfl, rfl⟩ := h
  exact ⟨cur, hh, hs⟩
theorem NodesLaid.set {w : World} {g n k i : Nat} {T : TypeId} {xs : List LNode} (h : NodesLaid w g n k T xs) (hi : k * 8 ≤ i) (u : Value) : NodesLaid (w.setCell ⟨g, i, none⟩ u) g n k T xs := by
 obtain ⟨cur, h1, h2⟩ := h.row
 refine ⟨⟨cur.setIfInBounds i u, heap_setCell_same w g i _ _ _ h1, by simpa using h2⟩, fun j x hj hx => ?_⟩
 obtain ⟨vk, vt, ve, hc, hv⟩ := h.at_ j x hj hx
 have o : ∀ t, t < 8 → (w.setCell ⟨g, i, none⟩ u).cell? ⟨g, j * 8 + t, none⟩ = w.cell? ⟨g, j * 8 + t, none⟩ := fun t ht => World.cell?_setCell_other _ _ _ _ (fun e => by have := congrArg Addr.off e; simp only at this; omega)
 have o0 := o 0 (by omega)
 rw [Nat.add_zero] at o0
 exact ⟨vk, vt, ve, ⟨o0.trans hc.c0, (o 1 (by omega)).trans hc.c1, (o 2 (by omega)).trans hc.c2, (o 3 (by omega)).trans hc.c3, (o 4 (by omega)).trans hc.c4, (o 5 (by omega)).trans hc.c5, (o 6 (by omega)).trans hc.c6, (o 7 (by omega)).trans hc.c7⟩, hv.set (by omega)⟩
theorem set_get {w : World} {g i : Nat} {u y : Value} (h : w.cell? ⟨g, i, none⟩ = some y) : (w.setCell ⟨g, i, none⟩ u).cell? ⟨g, i, none⟩ = some u := World.cell?_setCell_same _ _ _ h
theorem set_old {w : World} {g i j : Nat} {u v : Value} (h : w.cell? ⟨g, j, none⟩ = some v) (hij : i ≠ j) : (w.setCell ⟨g, i, none⟩ u).cell? ⟨g, j, none⟩ = some v := (World.cell?_setCell_other _ _ _ _ (fun e => by have := congrArg Addr.off e; simp only at this; omega)).trans h
def stored8 (w : World) (g o : Nat) (u0 u1 u2 u3 u4 u5 u6 u7 : Value) : World :=
 (((((((w.setCell ⟨g, o, none⟩ u0).setCell ⟨g, o + 1, none⟩ u1).setCell ⟨g, o + 2, none⟩ u2).setCell ⟨g, o + 3, none⟩ u3).setCell ⟨g, o + 4, none⟩ u4).setCell ⟨g, o + 5, none⟩ u5).setCell ⟨g, o + 6, none⟩ u6).setCell ⟨g, o + 7, none⟩ u7
theorem NodesLaid.store8 {w : World} {g n k : Nat} {T : TypeId} {xs : List LNode} {x : LNode} {vk vt ve : Value} (h : NodesLaid w g n k T xs) (hk : k < n) (hx : xs[k]? = some x) (hv : NodeVals (g + 1) w x vk vt ve) :
  NodesLaid (stored8 w g (k * 8) (.int .i64 x.kind) (.int .i64 x.op) (.string (bs x.name)) (.int .i64 x.num) (.int .i64 x.far) vk vt ve) g n (k + 1) T xs := by
 have c : ∀ t, t < 8 → ∃ y, w.cell? ⟨g, k * 8 + t, none⟩ = some y := fun t ht => (h.cell (by omega)).1
 obtain ⟨y0, c0⟩ := c 0 (by omega)
 obtain ⟨y1, c1⟩ := c 1 (by omega)
 obtain ⟨y2, c2⟩ := c 2 (by omega)
 obtain ⟨y3, c3⟩ := c 3 (by omega)
 obtain ⟨y4, c4⟩ := c 4 (by omega)
 obtain ⟨y5, c5⟩ := c 5 (by omega)
 obtain ⟨y6, c6⟩ := c 6 (by omega)
 obtain ⟨y7, c7⟩ := c 7 (by omega)
 rw [Nat.add_zero] at c0
 have hs := (((((((h.set (i := k * 8) (by omega) (.int .i64 x.kind)).set (i := k * 8 + 1) (by omega) (.int .i64 x.op)).set (i := k * 8 + 2) (by omega) (.string (bs x.name))).set (i := k * 8 + 3) (by omega) (.int .i64 x.num)).set (i := k * 8 + 4) (by omega) (.int .i64 x.far)).set (i := k * 8 + 5) (by omega) vk).set (i := k * 8 + 6) (by omega) vt).set (i := k * 8 + 7) (by omega) ve
 refine ⟨hs.row, fun j z hj hz => ?_⟩
 by_cases e : j = k
 ·subst e
  obtain rfl : z = x := by rw [hx] at hz; exact (Option.some.inj hz).symm
  unfold stored8
  refine ⟨vk, vt, ve, ⟨?_, ?_, ?_, ?_, ?_, ?_, ?_, ?_⟩, ?_⟩
  ·refine set_old ?_ (by omega); refine set_old ?_ (by omega); refine set_old ?_ (by omega); refine set_old ?_ (by omega); refine set_old ?_ (by omega); refine set_old ?_ (by omega); refine set_old ?_ (by omega); refine set_get (y := y0) ?_; exact c0
  ·refine set_old ?_ (by omega); refine set_old ?_ (by omega); refine set_old ?_ (by omega); refine set_old ?_ (by omega); refine set_old ?_ (by omega); refine set_old ?_ (by omega); refine set_get (y := y1) ?_; refine set_old ?_ (by omega); exact c1
  ·refine set_old ?_ (by omega); refine set_old ?_ (by omega); refine set_old ?_ (by omega); refine set_old ?_ (by omega); refine set_old ?_ (by omega); refine set_get (y := y2) ?_; refine set_old ?_ (by omega); refine set_old ?_ (by omega); exact c2
  ·refine set_old ?_ (by omega); refine set_old ?_ (by omega); refine set_old ?_ (by omega); refine set_old ?_ (by omega); refine set_get (y := y3) ?_; refine set_old ?_ (by omega); refine set_old ?_ (by omega); refine set_old ?_ (by omega); exact c3
  ·refine set_old ?_ (by omega); refine set_old ?_ (by omega); refine set_old ?_ (by omega); refine set_get (y := y4) ?_; refine set_old ?_ (by omega); refine set_old ?_ (by omega); refine set_old ?_ (by omega); refine set_old ?_ (by omega); exact c4
  ·refine set_old ?_ (by omega); refine set_old ?_ (by omega); refine set_get (y := y5) ?_; refine set_old ?_ (by omega); refine set_old ?_ (by omega); refine set_old ?_ (by omega); refine set_old ?_ (by omega); refine set_old ?_ (by omega); exact c5
  ·refine set_old ?_ (by omega); refine set_get (y := y6) ?_; refine set_old ?_ (by omega); refine set_old ?_ (by omega); refine set_old ?_ (by omega); refine set_old ?_ (by omega); refine set_old ?_ (by omega); refine set_old ?_ (by omega); exact c6
  ·refine set_get (y := y7) ?_; refine set_old ?_ (by omega); refine set_old ?_ (by omega); refine set_old ?_ (by omega); refine set_old ?_ (by omega); refine set_old ?_ (by omega); refine set_old ?_ (by omega); refine set_old ?_ (by omega); exact c7
  ·iterate 8 refine NodeVals.set ?_ (by omega)
   exact hv
 ·exact hs.at_ j z (by omega) hz
theorem below_stored8 {B : Nat} {w0 w : World} {g o : Nat} {u0 u1 u2 u3 u4 u5 u6 u7 : Value} (h : Below B w0 w) (hB : B ≤ g) : Below B w0 (stored8 w g o u0 u1 u2 u3 u4 u5 u6 u7) := by
 unfold stored8
 iterate 8 refine Below.trans ?_ (below_set _ _ _ _ hB)
 exact h
theorem nodes_of_laid {w : World} {g n : Nat} {T : TypeId} {xs : List LNode} (h : NodesLaid w g n n T xs) (hn : xs.length = n) : NodesV g w (.slice (some ⟨g, 0, none⟩) n n) xs :=
 ⟨some ⟨g, 0, none⟩, n, by rw [hn], by omega, fun _ => ⟨g, 0, rfl, Nat.le_refl _, fun i x hx => by
  have hi : i < n := by have := (List.getElem?_eq_some_iff.1 hx).1; omega
  rw [Nat.zero_add]
  exact (h.at_ i x hi hx).mono (by omega)⟩⟩
set_option maxHeartbeats 6400000 in
set_option maxRecDepth 100000 in
theorem toNodes_any (lo : Nat) (v : Value) (xs : List LNode) (w : World) (h : NodesV lo w v xs) (hl : xs.length ≤ 1048576) (hz : ∀ n ∈ xs, n.kids.length ≤ 1048576 ∧ n.thn.length ≤ 1048576 ∧ n.els.length ≤ 1048576) :
  Calls Tryz.prog 29 #[v] w fun e w' => ∃ v', e = .returned v' ∧ NodesV w.heap.size w' v' xs ∧ Below w.heap.size w w' := by
 obtain ⟨a, c, rfl, hc, hhd⟩ := h
 obtain ⟨i0, hi, hz0, hz1, hz2⟩ := info_parts infoNode
 have hmax2 : xs.length ≤ maxLen := by unfold maxLen; omega
 have HHD := hid hhd
 have HZ := hid hz
 clear hhd hc hz
 go_enter Tryz.func29, Tryz.ntmps29
 go_wp2_with (at_make; refine wpList_make_full _ rfl (.tmp 6) (.tmp 6) 35 rfl w.heap.size 88 i0 nodeZ 8 Tryz.underlying35 hi hz0 hz1 .i64 .i64 xs.length xs.length xs.length rfl rfl rfl rfl ?_ hmax2 (Nat.le_refl _) ?_)
 ·rw [hz2]; omega
 ·intro w1 hown hgrow
  have hB : Below w.heap.size w w1 := (Below.refl _ _).grown hgrow (Nat.le_refl _) (fun k hk => by cases hk)
  have hP : NodesLaid w1 w.heap.size xs.length 0 88 xs := .of_own hown
  clear hgrow hown
  go_wp2
  go_loopw [4] (fun i wr => ∃ k : Nat, k ≤ xs.length ∧ i = .int .i64 k ∧ NodesLaid wr w.heap.size xs.length k 88 xs ∧ Below w.heap.size w wr) (fun i _ => xs.length - (intOf i).toNat)
  case atStart => exact ⟨0, Nat.zero_le _, rfl, hP, hB⟩
  case round =>
   clear hP hB
   obtain ⟨k, hk, rfl, hP, hB⟩ := hrel
   have hgl : w.heap.size < wr.heap.size := hP.lt
   by_cases hlt : k < xs.length
   ·obtain ⟨x, hx⟩ : ∃ x, xs[k]? = some x := ⟨xs[k], List.getElem?_eq_getElem hlt⟩
    obtain ⟨b, o, ha, _, hcl⟩ := HHD.out (by intro e; rw [e] at hlt; simp at hlt)
    subst ha
    obtain ⟨vk, vt, ve, hcs, hvs⟩ := hcl k x hx
    have hbl : b < w.heap.size := World.block_lt_of_cell? _ _ hcs.c0
    obtain ⟨c0, c1, c2, c3, c4, c5, c6, c7⟩ := hcs.keep (lo := 0) (fun g _ hg => hB.block g hg) (Nat.zero_le _)
    have hvs1 := hvs.keep (w' := wr) (fun g _ hg => hB.block g hg)
    obtain ⟨z1, z2, z3⟩ := HZ.out x (List.mem_of_getElem? hx)
    have hto : Hid (Calls Tryz.prog 49 #[nodeV x vk vt ve] wr fun e w' => ∃ vk' vt' ve', e = .returned (nodeV x vk' vt' ve') ∧ NodeVals wr.heap.size w' x vk' vt' ve' ∧ Below wr.heap.size wr w') := toNode_any lo x vk vt ve wr hvs1 z1 z2 z3
    have HP := hid hP
    have HX : Hid (xs[k]? = some x) := hx
    obtain ⟨ak, ck, rfl, _⟩ := id hvs1.kids
    obtain ⟨at_, ct, rfl, _⟩ := id hvs1.thn
    obtain ⟨ae, ce, rfl, _⟩ := id hvs1.els
    clear hcl hx hP hcs hvs hvs1 z1 z2 z3
    go_wp2_with fail
    refine hto.out.mono ?_
    rintro e w2 ⟨_, _, _, rfl, hv, hb⟩
    obtain ⟨ak', ck', rfl, _⟩ := id hv.kids
    obtain ⟨at', ct', rfl, _⟩ := id hv.thn
    obtain ⟨ae', ce', rfl, _⟩ := id hv.els
    have hP2 := HP.out.below hb
    have hB2 := hB.trans (hb.mono hB.size)
    have hgl2 : w.heap.size < w2.heap.size := Nat.lt_of_lt_of_le hgl hb.size
    obtain ⟨⟨y0, d0⟩, f0⟩ := hP2.cell (i := k * 8) (by omega)
    obtain ⟨⟨y1, d1⟩, f1⟩ := hP2.cell (i := k * 8 + 1) (by omega)
    obtain ⟨⟨y2, d2⟩, f2⟩ := hP2.cell (i := k * 8 + 2) (by omega)
    obtain ⟨⟨y3, d3⟩, f3⟩ := hP2.cell (i := k * 8 + 3) (by omega)
    obtain ⟨⟨y4, d4⟩, f4⟩ := hP2.cell (i := k * 8 + 4) (by omega)
    obtain ⟨⟨y5, d5⟩, f5⟩ := hP2.cell (i := k * 8 + 5) (by omega)
    obtain ⟨⟨y6, d6⟩, f6⟩ := hP2.cell (i := k * 8 + 6) (by omega)
    obtain ⟨⟨y7, d7⟩, f7⟩ := hP2.cell (i := k * 8 + 7) (by omega)
    have E3 : Hid (NodesLaid (stored8 w2 w.heap.size (k * 8) (.int .i64 x.kind) (.int .i64 x.op) (.string (bs x.name)) (.int .i64 x.num) (.int .i64 x.far) (.slice ak' x.kids.length ck') (.slice at' x.thn.length ct') (.slice ae' x.els.length ce')) w.heap.size xs.length (k + 1) 88 xs) := hP2.store8 hlt HX.out (hv.mono hgl)
    have B3 : Hid (Below w.heap.size w (stored8 w2 w.heap.size (k * 8) (.int .i64 x.kind) (.int .i64 x.op) (.string (bs x.name)) (.int .i64 x.num) (.int .i64 x.far) (.slice ak' x.kids.length ck') (.slice at' x.thn.length ct') (.slice ae' x.els.length ce'))) := below_stored8 hB2 (Nat.le_refl _)
    clear hP2 hb hB hB2 HP c0 c1 c2 c3 c4 c5 c6 c7 hto hv
    go_wp2_with fail
    go_roundw
    case rel => exact ⟨k + 1, by omega, by go_num, E3.out, B3.out⟩
    case measure => simp [intOf]; omega
   ·have hke : k = xs.length := by omega
    subst hke
    have HP : Hid (NodesV w.heap.size wr (.slice (some ⟨w.heap.size, 0, none⟩) xs.length xs.length) xs) := nodes_of_laid hP rfl
    clear hP
    go_wp2
    go_ret
    exact ⟨_, rfl, HP.out, hB⟩
set_option maxHeartbeats 6400000 in
set_option maxRecDepth 100000 in
theorem toTree_any (lo : Nat) (T : LTree) (vv vn vb : Value) (w : World) (h : TreeV lo w vv vn vb T) (hz : Sized 1048576 T) :
  Calls Tryz.prog 8 #[treeV vv vn vb] w fun e w' => ∃ vv' vn' vb', e = .returned (treeV vv' vn' vb') ∧ TreeV w.heap.size w' vv' vn' vb' T ∧ Below w.heap.size w w' := by
 obtain ⟨av, cv, rfl, _⟩ := id h.vars
 obtain ⟨an, cn, rfl, _⟩ := id h.nodes
 obtain ⟨ab, cb, rfl, _⟩ := id h.body
 have HV := hid h
 have HZ : Hid (Sized 1048576 T) := hz
 clear h hz
 go_enter Tryz.func8, Tryz.ntmps8
 go_wp2_with fail
 obtain ⟨W, hW⟩ : ∃ W, W = (((w.alloc (.cells #[.slice av T.vars.length cv, .slice an T.nodes.length cn, .slice ab T.body.length cb] 26)).alloc (.cells #[.slice none 0 0, .slice none 0 0, .slice none 0 0] 37)).alloc (.cells #[.slice none 0 0, .slice none 0 0, .slice none 0 0] 37)) := ⟨_, rfl⟩
 have hbW : Below w.heap.size w W := by rw [hW]; exact (((Below.refl _ _).alloc (Nat.le_refl _) _).alloc (by simp) _).alloc (by simp; omega) _
 have hA : W.heap[w.heap.size]? = some (.cells #[.slice av T.vars.length cv, .slice an T.nodes.length cn, .slice ab T.body.length cb] 26 (0, 0)) := by
  rw [hW, Below.heap_alloc _ _ _ (by simp; omega), Below.heap_alloc _ _ _ (by simp)]; exact heap_alloc_new w _
 have hR : W.heap[w.heap.size + 1]? = some (.cells #[.slice none 0 0, .slice none 0 0, .slice none 0 0] 37 (0, 0)) := by
  rw [hW, Below.heap_alloc _ _ _ (by simp)]
  have h := heap_alloc_new (w.alloc (.cells #[.slice av T.vars.length cv, .slice an T.nodes.length cn, .slice ab T.body.length cb] 26)) (.cells #[.slice none 0 0, .slice none 0 0, .slice none 0 0] 37)
  rwa [show (w.alloc (.cells #[.slice av T.vars.length cv, .slice an T.nodes.length cn, .slice ab T.body.length cb] 26)).heap.size = w.heap.size + 1 from by simp] at h
 have hO : W.heap[w.heap.size + 1 + 1]? = some (.cells #[.slice none 0 0, .slice none 0 0, .slice none 0 0] 37 (0, 0)) := by
  rw [hW]
  have h := heap_alloc_new ((w.alloc (.cells #[.slice av T.vars.length cv, .slice an T.nodes.length cn, .slice ab T.body.length cb] 26)).alloc (.cells #[.slice none 0 0, .slice none 0 0, .slice none 0 0] 37)) (.cells #[.slice none 0 0, .slice none 0 0, .slice none 0 0] 37)
  rwa [show ((w.alloc (.cells #[.slice av T.vars.length cv, .slice an T.nodes.length cn, .slice ab T.body.length cb] 26)).alloc (.cells #[.slice none 0 0, .slice none 0 0, .slice none 0 0] 37)).heap.size = w.heap.size + 1 + 1 from by simp] at h
 rw [← hW]
 clear hW
 refine (toVars_any lo _ _ _ (HV.out.below hbW).vars HZ.out.vars).mono ?_
 rintro e wv ⟨_, rfl, hv, hb⟩
 obtain ⟨av', cv', rfl, _⟩ := id hv
 have hbC := hbW.trans (hb.mono hbW.size)
 have hAc := blk hA hb
 have hRc := blk hR hb
 have hOc := blk hO hb
 have hv1 : VarsV (w.heap.size + 3) wv (.slice av' T.vars.length cv') T.vars := hv.mono (blk_lt hO)
 have HA : Hid ((wv.setCell ⟨w.heap.size + 1 + 1, 0, none⟩ (.slice av' T.vars.length cv')).heap[w.heap.size]? = some (.cells #[.slice av T.vars.length cv, .slice an T.nodes.length cn, .slice ab T.body.length cb] 26 (0, 0))) := blk_set _ hAc (by omega)
 have HR : Hid ((wv.setCell ⟨w.heap.size + 1 + 1, 0, none⟩ (.slice av' T.vars.length cv')).heap[w.heap.size + 1]? = some (.cells #[.slice none 0 0, .slice none 0 0, .slice none 0 0] 37 (0, 0))) := blk_set _ hRc (by omega)
 have HO : Hid ((wv.setCell ⟨w.heap.size + 1 + 1, 0, none⟩ (.slice av' T.vars.length cv')).heap[w.heap.size + 1 + 1]? = some (.cells #[.slice av' T.vars.length cv', .slice none 0 0, .slice none 0 0] 37 (0, 0))) := by have h := heap_setCell_same wv (w.heap.size + 1 + 1) 0 _ _ (.slice av' T.vars.length cv') hOc; exact h
 have HB : Hid (Below w.heap.size w (wv.setCell ⟨w.heap.size + 1 + 1, 0, none⟩ (.slice av' T.vars.length cv'))) := hbC.trans (below_set _ _ _ _ (by omega))
 have o0 := cell_of_row _ _ 0 _ _ _ hOc
 have g0 := frozen_of_row _ _ 0 _ _ hOc
 simp at o0
 have b1 := cell_of_row _ _ 1 _ _ _ HA.out
 simp at b1
 have Hv : Hid (VarsV (w.heap.size + 3) (wv.setCell ⟨w.heap.size + 1 + 1, 0, none⟩ (.slice av' T.vars.length cv')) (.slice av' T.vars.length cv') T.vars) := hv1.keep (keeps_set _ _ _ _ _ (by omega))
 clear hA hR hO hbW hb hbC hAc hRc hOc hv hv1
 go_wp2_with fail
 have hA := HA.out
 have hR := HR.out
 have hO := HO.out
 have hbW := HB.out
 have hvS := Hv.out
 clear HA HR HO HB Hv b1 o0 g0
 generalize wv.setCell ⟨w.heap.size + 1 + 1, 0, none⟩ (.slice av' T.vars.length cv') = W at *
 refine (toNodes_any lo _ _ _ (HV.out.below hbW).nodes HZ.out.nodes (fun n hn => (HZ.out.node n hn).2)).mono ?_
 rintro e wn ⟨_, rfl, hn, hb⟩
 obtain ⟨an', cn', rfl, _⟩ := id hn
 have hbC := hbW.trans (hb.mono hbW.size)
 have hAc := blk hA hb
 have hRc := blk hR hb
 have hOc := blk hO hb
 have hn1 : NodesV (w.heap.size + 3) wn (.slice an' T.nodes.length cn') T.nodes := hn.mono (blk_lt hO)
 have hvC := hvS.below hb
 have HA : Hid ((wn.setCell ⟨w.heap.size + 1 + 1, 1, none⟩ (.slice an' T.nodes.length cn')).heap[w.heap.size]? = some (.cells #[.slice av T.vars.length cv, .slice an T.nodes.length cn, .slice ab T.body.length cb] 26 (0, 0))) := blk_set _ hAc (by omega)
 have HR : Hid ((wn.setCell ⟨w.heap.size + 1 + 1, 1, none⟩ (.slice an' T.nodes.length cn')).heap[w.heap.size + 1]? = some (.cells #[.slice none 0 0, .slice none 0 0, .slice none 0 0] 37 (0, 0))) := blk_set _ hRc (by omega)
 have HO : Hid ((wn.setCell ⟨w.heap.size + 1 + 1, 1, none⟩ (.slice an' T.nodes.length cn')).heap[w.heap.size + 1 + 1]? = some (.cells #[.slice av' T.vars.length cv', .slice an' T.nodes.length cn', .slice none 0 0] 37 (0, 0))) := by have h := heap_setCell_same wn (w.heap.size + 1 + 1) 1 _ _ (.slice an' T.nodes.length cn') hOc; exact h
 have HB : Hid (Below w.heap.size w (wn.setCell ⟨w.heap.size + 1 + 1, 1, none⟩ (.slice an' T.nodes.length cn'))) := hbC.trans (below_set _ _ _ _ (by omega))
 have o1 := cell_of_row _ _ 1 _ _ _ hOc
 have g1 := frozen_of_row _ _ 1 _ _ hOc
 simp at o1
 have b2 := cell_of_row _ _ 2 _ _ _ HA.out
 simp at b2
 have Hv : Hid (VarsV (w.heap.size + 3) (wn.setCell ⟨w.heap.size + 1 + 1, 1, none⟩ (.slice an' T.nodes.length cn')) (.slice av' T.vars.length cv') T.vars) := hvC.keep (keeps_set _ _ _ _ _ (by omega))
 have Hn : Hid (NodesV (w.heap.size + 3) (wn.setCell ⟨w.heap.size + 1 + 1, 1, none⟩ (.slice an' T.nodes.length cn')) (.slice an' T.nodes.length cn') T.nodes) := hn1.keep (keeps_set _ _ _ _ _ (by omega))
 clear hA hR hO hbW hb hbC hAc hRc hOc hn hn1 hvS hvC
 go_wp2_with fail
 have hA := HA.out
 have hR := HR.out
 have hO := HO.out
 have hbW := HB.out
 have hvS := Hv.out
 have hnS := Hn.out
 clear HA HR HO HB Hv Hn b2 o1 g1
 generalize wn.setCell ⟨w.heap.size + 1 + 1, 1, none⟩ (.slice an' T.nodes.length cn') = W at *
 refine (toInts_any lo _ _ _ (HV.out.below hbW).body HZ.out.body).mono ?_
 rintro e wd ⟨_, rfl, hd, hb⟩
 obtain ⟨ad', cd', rfl, _⟩ := id hd
 have hbC := hbW.trans (hb.mono hbW.size)
 have hAc := blk hA hb
 have hRc := blk hR hb
 have hOc := blk hO hb
 have hd1 : IntsV (w.heap.size + 3) wd (.slice ad' T.body.length cd') T.body := hd.mono (blk_lt hO)
 have hvC := hvS.below hb
 have hnC := hnS.below hb
 have HA : Hid ((wd.setCell ⟨w.heap.size + 1 + 1, 2, none⟩ (.slice ad' T.body.length cd')).heap[w.heap.size]? = some (.cells #[.slice av T.vars.length cv, .slice an T.nodes.length cn, .slice ab T.body.length cb] 26 (0, 0))) := blk_set _ hAc (by omega)
 have HR : Hid ((wd.setCell ⟨w.heap.size + 1 + 1, 2, none⟩ (.slice ad' T.body.length cd')).heap[w.heap.size + 1]? = some (.cells #[.slice none 0 0, .slice none 0 0, .slice none 0 0] 37 (0, 0))) := blk_set _ hRc (by omega)
 have HO : Hid ((wd.setCell ⟨w.heap.size + 1 + 1, 2, none⟩ (.slice ad' T.body.length cd')).heap[w.heap.size + 1 + 1]? = some (.cells #[.slice av' T.vars.length cv', .slice an' T.nodes.length cn', .slice ad' T.body.length cd'] 37 (0, 0))) := by have h := heap_setCell_same wd (w.heap.size + 1 + 1) 2 _ _ (.slice ad' T.body.length cd') hOc; exact h
 have HB : Hid (Below w.heap.size w (wd.setCell ⟨w.heap.size + 1 + 1, 2, none⟩ (.slice ad' T.body.length cd'))) := hbC.trans (below_set _ _ _ _ (by omega))
 have o2 := cell_of_row _ _ 2 _ _ _ hOc
 have g2 := frozen_of_row _ _ 2 _ _ hOc
 simp at o2
 have Hv : Hid (VarsV (w.heap.size + 3) (wd.setCell ⟨w.heap.size + 1 + 1, 2, none⟩ (.slice ad' T.body.length cd')) (.slice av' T.vars.length cv') T.vars) := hvC.keep (keeps_set _ _ _ _ _ (by omega))
 have Hn : Hid (NodesV (w.heap.size + 3) (wd.setCell ⟨w.heap.size + 1 + 1, 2, none⟩ (.slice ad' T.body.length cd')) (.slice an' T.nodes.length cn') T.nodes) := hnC.keep (keeps_set _ _ _ _ _ (by omega))
 have Hd : Hid (IntsV (w.heap.size + 3) (wd.setCell ⟨w.heap.size + 1 + 1, 2, none⟩ (.slice ad' T.body.length cd')) (.slice ad' T.body.length cd') T.body) := hd1.keep (keeps_set _ _ _ _ _ (by omega))
 clear hA hR hO hbW hb hbC hAc hRc hOc hd hd1 hvS hvC hnS hnC
 obtain ⟨O0, O1, O2⟩ := cl3 HO.out
 obtain ⟨R0, R1, R2⟩ := cl3 HR.out
 obtain ⟨G0, G1, G2⟩ := fl3 HR.out
 go_wp2
 refine bodyPost_ret (v := treeV (.slice av' T.vars.length cv') (.slice an' T.nodes.length cn') (.slice ad' T.body.length cd')) (by simp [results, Tryz.results8, go_sem, R0, R1, R2]) rfl ⟨_, _, _, rfl, ?_, ?_⟩
 ·refine TreeV.mono ?_ (by omega : w.heap.size ≤ w.heap.size + 3)
  refine TreeV.keep ⟨Hv.out, Hn.out, Hd.out⟩ (fun b hb hl => ?_)
  rw [Below.heap_setCell _ _ _ _ (by simp; omega), Below.heap_setCell _ _ _ _ (by simp; omega), Below.heap_setCell _ _ _ _ (by simp; omega)]
 ·refine Below.trans ?_ (below_set _ _ _ _ (by omega))
  refine Below.trans ?_ (below_set _ _ _ _ (by omega))
  refine Below.trans ?_ (below_set _ _ _ _ (by omega))
  exact HB.out
def Left (left r : Int) (P : Prop) : Prop := r = -1 ∨ (0 ≤ r ∧ r ≤ left ∧ P)
set_option maxHeartbeats 1600000 in
theorem szInts_any (a : Option Addr) (n c : Nat) (left : Int) (h0 : 0 ≤ left) (h1 : left ≤ 1048576) (hl : n ≤ 9223372036854775807) (w : World) :
  Calls Tryz.prog 25 #[.slice a n c, .int .i64 left] w fun e w' => ∃ r : Int, e = .returned (.int .i64 r) ∧ Left left r (n ≤ 1048576) ∧ Below w.heap.size w w' := by
 by_cases hb : left < n
 ·go_enter Tryz.func25, Tryz.ntmps25
  go_wp2
  go_ret
  exact ⟨_, rfl, Or.inl rfl, by go_grown⟩
 ·go_enter Tryz.func25, Tryz.ntmps25
  go_wp2
  go_ret
  exact ⟨_, rfl, Or.inr ⟨by omega, by omega, by omega⟩, by go_grown⟩
set_option maxHeartbeats 1600000 in
theorem szVar_any (x : LVar) (left : Int) (h0 : 0 ≤ left) (h1 : left ≤ 1048576) (hl : x.name.length ≤ 9223372036854775807) (w : World) :
  Calls Tryz.prog 40 #[varV x, .int .i64 left] w fun e w' => ∃ r : Int, e = .returned (.int .i64 r) ∧ Left left r (x.name.length ≤ 1048576) ∧ Below w.heap.size w w' := by
 by_cases hb : left < x.name.length
 ·go_enter Tryz.func40, Tryz.ntmps40
  go_wp2
  go_ret
  exact ⟨_, rfl, Or.inl rfl, by go_grown⟩
 ·go_enter Tryz.func40, Tryz.ntmps40
  go_wp2
  go_ret
  exact ⟨_, rfl, Or.inr ⟨by omega, by omega, by omega⟩, by go_grown⟩
set_option maxHeartbeats 3200000 in
theorem szVars_any (lo : Nat) (v : Value) (xs : List LVar) (left : Int) (w : World) (h : VarsV lo w v xs) (h0 : 0 ≤ left) (h1 : left ≤ 1048576) (hl : xs.length ≤ 9223372036854775807) (hs : ∀ x ∈ xs, x.name.length ≤ 9223372036854775807) :
  Calls Tryz.prog 23 #[v, .int .i64 left] w fun e w' => ∃ r : Int, e = .returned (.int .i64 r) ∧ Left left r (xs.length ≤ 1048576 ∧ ∀ x ∈ xs, x.name.length ≤ 1048576) ∧ Below w.heap.size w w' := by
 obtain ⟨a, c, rfl, hc, hhd⟩ := h
 have HSZ := hid hs
 have HHD := hid hhd
 clear hhd hc hs
 by_cases hbig : left < xs.length
 ·go_enter Tryz.func23, Tryz.ntmps23
  go_wp2
  go_ret
  exact ⟨_, rfl, Or.inl rfl, Below.refl _ _⟩
 ·go_enter Tryz.func23, Tryz.ntmps23
  go_wp2
  go_loopw [1, 5] (fun x i wr => ∃ (k : Nat) (l : Int), k ≤ xs.length ∧ i = .int .i64 k ∧ x = .int .i64 l ∧ 0 ≤ l ∧ l ≤ left ∧ (∀ j (y : LVar), j < k → xs[j]? = some y → y.name.length ≤ 1048576) ∧ Below w.heap.size w wr) (fun _ i _ => xs.length - (intOf i).toNat)
  case atStart => exact ⟨0, left - (xs.length : Int), by omega, rfl, by first | rfl | go_num, by omega, by omega, by omega, Below.refl _ _⟩
  case round =>
   obtain ⟨k, l, hk, rfl, rfl, hl0, hl1, hall, hB⟩ := hrel
   have HALL := hid hall
   clear hall
   by_cases hlt : k < xs.length
   ·obtain ⟨x, hx⟩ : ∃ x, xs[k]? = some x := ⟨xs[k], List.getElem?_eq_getElem hlt⟩
    obtain ⟨b, o, ha, _, hcl⟩ := HHD.out (by intro e; rw [e] at hlt; simp at hlt)
    subst ha
    obtain ⟨c0, c1, c2, c3⟩ := (hcl k x hx).keep (lo := 0) (fun g _ hg => hB.block g hg) (Nat.zero_le _)
    have hxs := HSZ.out x (List.mem_of_getElem? hx)
    have HX : Hid (xs[k]? = some x) := hx
    have HS : Hid (∀ w, Calls Tryz.prog 40 #[varV x, .int .i64 l] w fun e w' => ∃ r : Int, e = .returned (.int .i64 r) ∧ Left l r (x.name.length ≤ 1048576) ∧ Below w.heap.size w w') := fun w => szVar_any x l hl0 (by omega) hxs w
    clear hcl hx hxs
    go_wp2_with fail
    refine (HS.out _).mono ?_
    rintro e w2 ⟨r, rfl, hr, hb⟩
    have hB2 := hB.trans (hb.mono hB.size)
    clear hb c0 c1 c2 c3 hB HS
    rcases hr with rfl | ⟨r0, r1, r2⟩
    ·go_wp2_with fail
     go_ret
     exact ⟨_, rfl, Or.inl rfl, hB2⟩
    ·have HXL : Hid (x.name.length ≤ 1048576) := r2
     clear r2
     go_wp2_with fail
     go_roundw
     case rel => exact ⟨k + 1, r, by omega, by go_num, rfl, r0, by omega, fun j y hj hy => by
       rcases Nat.lt_succ_iff_lt_or_eq.1 hj with h | rfl
       ·exact HALL.out j y h hy
       ·have := hy.symm.trans HX.out
        cases this
        exact HXL.out, hB2⟩
     case measure => simp [intOf]; omega
   ·have hke : k = xs.length := by omega
    have HKE : Hid (k = xs.length) := hke
    clear hke
    go_wp2
    go_ret
    refine ⟨_, rfl, Or.inr ⟨hl0, hl1, by omega, fun x hx => ?_⟩, hB⟩
    obtain ⟨j, hj, rfl⟩ := List.getElem_of_mem hx
    exact HALL.out j _ (by have := HKE.out; omega) (List.getElem?_eq_getElem hj)
def NodeSz (B : Nat) (n : LNode) : Prop := n.name.length ≤ B ∧ n.kids.length ≤ B ∧ n.thn.length ≤ B ∧ n.els.length ≤ B
set_option maxHeartbeats 6400000 in
theorem szNode_any (lo : Nat) (n : LNode) (vk vt ve : Value) (left : Int) (w : World) (h : NodeVals lo w n vk vt ve) (h0 : 0 ≤ left) (h1 : left ≤ 1048576) (hl : NodeSz 9223372036854775807 n) :
  Calls Tryz.prog 41 #[nodeV n vk vt ve, .int .i64 left] w fun e w' => ∃ r : Int, e = .returned (.int .i64 r) ∧ Left left r (NodeSz 1048576 n) ∧ Below w.heap.size w w' := by
 obtain ⟨ak, ck, rfl, _⟩ := id h.kids
 obtain ⟨at_, ct, rfl, _⟩ := id h.thn
 obtain ⟨ae, ce, rfl, _⟩ := id h.els
 obtain ⟨l1, l2, l3, l4⟩ := hl
 clear h
 have HK : Hid (∀ (l : Int) (w : World), 0 ≤ l → l ≤ 1048576 → Calls Tryz.prog 25 #[.slice ak n.kids.length ck, .int .i64 l] w fun e w' => ∃ r : Int, e = .returned (.int .i64 r) ∧ Left l r (n.kids.length ≤ 1048576) ∧ Below w.heap.size w w') := fun l w a b => szInts_any _ _ _ l a b l2 w
 have HT : Hid (∀ (l : Int) (w : World), 0 ≤ l → l ≤ 1048576 → Calls Tryz.prog 25 #[.slice at_ n.thn.length ct, .int .i64 l] w fun e w' => ∃ r : Int, e = .returned (.int .i64 r) ∧ Left l r (n.thn.length ≤ 1048576) ∧ Below w.heap.size w w') := fun l w a b => szInts_any _ _ _ l a b l3 w
 have HE : Hid (∀ (l : Int) (w : World), 0 ≤ l → l ≤ 1048576 → Calls Tryz.prog 25 #[.slice ae n.els.length ce, .int .i64 l] w fun e w' => ∃ r : Int, e = .returned (.int .i64 r) ∧ Left l r (n.els.length ≤ 1048576) ∧ Below w.heap.size w w') := fun l w a b => szInts_any _ _ _ l a b l4 w
 clear l2 l3 l4
 by_cases hb : left < n.name.length
 ·go_enter Tryz.func41, Tryz.ntmps41
  go_wp2
  go_ret
  exact ⟨_, rfl, Or.inl rfl, by go_grown⟩
 go_enter Tryz.func41, Tryz.ntmps41
 go_wp2_with fail
 have hA := heap_alloc_new w (.cells #[.int .i64 n.kind, .int .i64 n.op, .string (bs n.name), .int .i64 n.num, .int .i64 n.far, .slice ak n.kids.length ck, .slice at_ n.thn.length ct, .slice ae n.els.length ce] 75)
 have hB : Below w.heap.size w (w.alloc (.cells #[.int .i64 n.kind, .int .i64 n.op, .string (bs n.name), .int .i64 n.num, .int .i64 n.far, .slice ak n.kids.length ck, .slice at_ n.thn.length ct, .slice ae n.els.length ce] 75)) := (Below.refl _ _).alloc (Nat.le_refl _) _
 generalize w.alloc (.cells #[.int .i64 n.kind, .int .i64 n.op, .string (bs n.name), .int .i64 n.num, .int .i64 n.far, .slice ak n.kids.length ck, .slice at_ n.thn.length ct, .slice ae n.els.length ce] 75) = W at *
 obtain ⟨L0, hL0⟩ : ∃ L, L = left - (n.name.length : Int) := ⟨_, rfl⟩
 have k0 : 0 ≤ L0 ∧ L0 ≤ left ∧ n.name.length ≤ 1048576 := by omega
 obtain ⟨k0, m0, z0⟩ := k0
 rw [← hL0]
 clear hL0 hb l1
 refine (HK.out _ _ k0 (by omega)).mono ?_
 rintro e w0 ⟨L1, rfl, hr, hb⟩
 have hAc := blk hA hb
 have hBc := hB.trans (hb.mono hB.size)
 clear hA hB hb HK
 have a6 := cell_of_row _ _ 6 _ _ _ hAc
 simp at a6
 have HA : Hid _ := hAc
 have HB : Hid _ := hBc
 clear hAc hBc
 have HZ0 : Hid _ := z0
 clear z0
 rcases hr with rfl | ⟨k1, m1, z1⟩
 ·go_wp2_with fail
  go_ret
  exact ⟨_, rfl, Or.inl rfl, HB.out⟩
 go_wp2_with fail
 have hA := HA.out
 have hB := HB.out
 clear HA HB a6
 refine (HT.out _ _ k1 (by omega)).mono ?_
 rintro e w1 ⟨L2, rfl, hr, hb⟩
 have hAc := blk hA hb
 have hBc := hB.trans (hb.mono hB.size)
 clear hA hB hb HT
 have a7 := cell_of_row _ _ 7 _ _ _ hAc
 simp at a7
 have HA : Hid _ := hAc
 have HB : Hid _ := hBc
 clear hAc hBc
 have HZ1 : Hid _ := z1
 clear z1
 rcases hr with rfl | ⟨k2, m2, z2⟩
 ·go_wp2_with fail
  go_ret
  exact ⟨_, rfl, Or.inl rfl, HB.out⟩
 go_wp2_with fail
 have hA := HA.out
 have hB := HB.out
 clear HA HB a7
 refine (HE.out _ _ k2 (by omega)).mono ?_
 rintro e w2 ⟨L3, rfl, hr, hb⟩
 have hAc := blk hA hb
 have hBc := hB.trans (hb.mono hB.size)
 clear hA hB hb HE
 have HA : Hid _ := hAc
 have HB : Hid _ := hBc
 clear hAc hBc
 have HZ2 : Hid _ := z2
 clear z2
 rcases hr with rfl | ⟨k3, m3, z3⟩
 ·go_wp2_with fail
  go_ret
  exact ⟨_, rfl, Or.inl rfl, HB.out⟩
 have HZ3 : Hid _ := z3
 clear z3
 go_wp2_with fail
 go_ret
 exact ⟨_, rfl, Or.inr ⟨k3, by omega, HZ0.out, HZ1.out, HZ2.out, HZ3.out⟩, HB.out⟩
set_option maxHeartbeats 3200000 in
theorem szNodes_any (lo : Nat) (v : Value) (xs : List LNode) (left : Int) (w : World) (h : NodesV lo w v xs) (h0 : 0 ≤ left) (h1 : left ≤ 1048576) (hl : xs.length ≤ 9223372036854775807) (hs : ∀ x ∈ xs, NodeSz 9223372036854775807 x) :
  Calls Tryz.prog 24 #[v, .int .i64 left] w fun e w' => ∃ r : Int, e = .returned (.int .i64 r) ∧ Left left r (xs.length ≤ 1048576 ∧ ∀ x ∈ xs, NodeSz 1048576 x) ∧ Below w.heap.size w w' := by
 obtain ⟨a, c, rfl, hc, hhd⟩ := h
 have HSZ := hid hs
 have HHD := hid hhd
 clear hhd hc hs
 by_cases hbig : left < xs.length
 ·go_enter Tryz.func24, Tryz.ntmps24
  go_wp2
  go_ret
  exact ⟨_, rfl, Or.inl rfl, Below.refl _ _⟩
 ·go_enter Tryz.func24, Tryz.ntmps24
  go_wp2
  go_loopw [1, 5] (fun x i wr => ∃ (k : Nat) (l : Int), k ≤ xs.length ∧ i = .int .i64 k ∧ x = .int .i64 l ∧ 0 ≤ l ∧ l ≤ left ∧ (∀ j (y : LNode), j < k → xs[j]? = some y → NodeSz 1048576 y) ∧ Below w.heap.size w wr) (fun _ i _ => xs.length - (intOf i).toNat)
  case atStart => exact ⟨0, left - (xs.length : Int), by omega, rfl, by first | rfl | go_num, by omega, by omega, by omega, Below.refl _ _⟩
  case round =>
   obtain ⟨k, l, hk, rfl, rfl, hl0, hl1, hall, hB⟩ := hrel
   have HALL := hid hall
   clear hall
   by_cases hlt : k < xs.length
   ·obtain ⟨x, hx⟩ : ∃ x, xs[k]? = some x := ⟨xs[k], List.getElem?_eq_getElem hlt⟩
    obtain ⟨b, o, ha, _, hcl⟩ := HHD.out (by intro e; rw [e] at hlt; simp at hlt)
    subst ha
    obtain ⟨vk, vt, ve, hcs, hvs⟩ := hcl k x hx
    obtain ⟨c0, c1, c2, c3, c4, c5, c6, c7⟩ := hcs.keep (lo := 0) (fun g _ hg => hB.block g hg) (Nat.zero_le _)
    have hvs1 := hvs.keep (w' := wr) (fun g _ hg => hB.block g hg)
    obtain ⟨ak, ck, rfl, _⟩ := id hvs1.kids
    obtain ⟨at_, ct, rfl, _⟩ := id hvs1.thn
    obtain ⟨ae, ce, rfl, _⟩ := id hvs1.els
    have hxs := HSZ.out x (List.mem_of_getElem? hx)
    have HX : Hid (xs[k]? = some x) := hx
    have HS : Hid (Calls Tryz.prog 41 #[nodeV x (.slice ak x.kids.length ck) (.slice at_ x.thn.length ct) (.slice ae x.els.length ce), .int .i64 l] wr fun e w' => ∃ r : Int, e = .returned (.int .i64 r) ∧ Left l r (NodeSz 1048576 x) ∧ Below wr.heap.size wr w') := szNode_any lo x _ _ _ l wr hvs1 hl0 (by omega) hxs
    clear hcl hx hxs hcs hvs hvs1
    go_wp2_with fail
    refine HS.out.mono ?_
    rintro e w2 ⟨r, rfl, hr, hb⟩
    have hB2 := hB.trans (hb.mono hB.size)
    clear hb c0 c1 c2 c3 c4 c5 c6 c7 hB HS
    rcases hr with rfl | ⟨r0, r1, r2⟩
    ·go_wp2_with fail
     go_ret
     exact ⟨_, rfl, Or.inl rfl, hB2⟩
    ·have HXL : Hid (NodeSz 1048576 x) := r2
     clear r2
     go_wp2_with fail
     go_roundw
     case rel => exact ⟨k + 1, r, by omega, by go_num, rfl, r0, by omega, fun j y hj hy => by
       rcases Nat.lt_succ_iff_lt_or_eq.1 hj with h | rfl
       ·exact HALL.out j y h hy
       ·have := hy.symm.trans HX.out
        cases this
        exact HXL.out, hB2⟩
     case measure => simp [intOf]; omega
   ·have hke : k = xs.length := by omega
    have HKE : Hid (k = xs.length) := hke
    clear hke
    go_wp2
    go_ret
    refine ⟨_, rfl, Or.inr ⟨hl0, hl1, by omega, fun x hx => ?_⟩, hB⟩
    obtain ⟨j, hj, rfl⟩ := List.getElem_of_mem hx
    exact HALL.out j _ (by have := HKE.out; omega) (List.getElem?_eq_getElem hj)
abbrev Fits (T : LTree) : Prop := Sized 9223372036854775807 T
set_option maxHeartbeats 6400000 in
theorem szTree_any (lo : Nat) (T : LTree) (vv vn vb : Value) (w : World) (h : TreeV lo w vv vn vb T) (hf : Fits T) :
  Calls Tryz.prog 5 #[treeV vv vn vb, .int .i64 1048576] w fun e w' => ∃ r : Int, e = .returned (.int .i64 r) ∧ (0 ≤ r → Sized 1048576 T) ∧ Below w.heap.size w w' := by
 obtain ⟨av, cv, rfl, _⟩ := id h.vars
 obtain ⟨an, cn, rfl, _⟩ := id h.nodes
 obtain ⟨ab, cb, rfl, _⟩ := id h.body
 have HV := hid h
 have HF : Hid (Fits T) := hf
 clear h hf
 go_enter Tryz.func5, Tryz.ntmps5
 go_wp2_with fail
 have hA := heap_alloc_new w (.cells #[.slice av T.vars.length cv, .slice an T.nodes.length cn, .slice ab T.body.length cb] 26)
 have hB : Below w.heap.size w (w.alloc (.cells #[.slice av T.vars.length cv, .slice an T.nodes.length cn, .slice ab T.body.length cb] 26)) := (Below.refl _ _).alloc (Nat.le_refl _) _
 generalize w.alloc (.cells #[.slice av T.vars.length cv, .slice an T.nodes.length cn, .slice ab T.body.length cb] 26) = W at *
 refine (szVars_any lo _ _ 1048576 _ (HV.out.below hB).vars (by omega) (by omega) HF.out.vars HF.out.names).mono ?_
 rintro e w0 ⟨L1, rfl, hr, hb⟩
 have hAc := blk hA hb
 have hBc := hB.trans (hb.mono hB.size)
 clear hA hB hb
 have a1 := cell_of_row _ _ 1 _ _ _ hAc
 simp at a1
 have HA : Hid _ := hAc
 have HB : Hid _ := hBc
 clear hAc hBc
 rcases hr with rfl | ⟨k1, m1, z1⟩
 ·go_wp2_with fail
  go_ret
  exact ⟨_, rfl, fun h => absurd h (by omega), HB.out⟩
 have HZ1 : Hid _ := z1
 clear z1
 go_wp2_with fail
 have hA := HA.out
 have hB := HB.out
 clear HA HB a1
 refine (szNodes_any lo _ _ _ _ (HV.out.below hB).nodes k1 (by omega) HF.out.nodes HF.out.node).mono ?_
 rintro e w1 ⟨L2, rfl, hr, hb⟩
 have hAc := blk hA hb
 have hBc := hB.trans (hb.mono hB.size)
 clear hA hB hb
 have a2 := cell_of_row _ _ 2 _ _ _ hAc
 simp at a2
 have HA : Hid _ := hAc
 have HB : Hid _ := hBc
 clear hAc hBc
 rcases hr with rfl | ⟨k2, m2, z2⟩
 ·go_wp2_with fail
  go_ret
  exact ⟨_, rfl, fun h => absurd h (by omega), HB.out⟩
 have HZ2 : Hid _ := z2
 clear z2
 go_wp2_with fail
 have hA := HA.out
 have hB := HB.out
 clear HA HB a2
 refine (szInts_any _ _ _ _ k2 (by omega) HF.out.body _).mono ?_
 rintro e w2 ⟨L3, rfl, hr, hb⟩
 have hAc := blk hA hb
 have hBc := hB.trans (hb.mono hB.size)
 clear hA hB hb
 have HA : Hid _ := hAc
 have HB : Hid _ := hBc
 clear hAc hBc
 rcases hr with rfl | ⟨k3, m3, z3⟩
 ·go_wp2_with fail
  go_ret
  exact ⟨_, rfl, fun h => absurd h (by omega), HB.out⟩
 have HZ3 : Hid _ := z3
 clear z3
 go_wp2_with fail
 go_ret
 exact ⟨_, rfl, fun _ => ⟨HZ1.out.1, HZ2.out.1, HZ3.out, HZ1.out.2, HZ2.out.2⟩, HB.out⟩
end Go.Proofs.YteeklmgkhacbcaaGreatDoor
