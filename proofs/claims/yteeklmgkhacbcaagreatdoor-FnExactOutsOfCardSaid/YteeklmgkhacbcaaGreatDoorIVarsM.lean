/-
  impl's variables: their cells; blockOf, cellsFor, cellCount.
-/
import Derived.Test.YteeklmgkhacbcaaGreatDoorTreeMath
import Derived.Test.YteeklmgkhacbcaaGreatDoorTreeTo2
import Derived.Deep.DrawnRows
import Derived.Deep.RegionHeld3
import Derived.BigQuiet
import Derived.Deep.QuietTactic
import Derived.Test.YteeklmgkhacbcaaGreatDoorSOwn
import Derived.Test.YteeklmgkhacbcaaGreatDoorTreeTo2
namespace Go.Proofs.YteeklmgkhacbcaaGreatDoor
open Go.RowKit
set_option linter.unusedVariables false
attribute [local go_sem] bs_size bs_get bs_extract bs_append bs_eq bs_toList
attribute [local go_sem ↓] Go.wp_at_zero Go.wp_at_succ
structure TreeP (lo : Nat) (w : World) (p : Nat) (vv vn vb : Value) (T : LTree) : Prop where
 c0 : w.cell? ⟨p, 0, none⟩ = some vv
 c1 : w.cell? ⟨p, 1, none⟩ = some vn
 c2 : w.cell? ⟨p, 2, none⟩ = some vb
 tree : TreeV lo w vv vn vb T
theorem TreeP.below {lo p : Nat} {w w' : World} {vv vn vb : Value} {T : LTree} (h : TreeP lo w p vv vn vb T) (hb : Below w.heap.size w w') : TreeP lo w' p vv vn vb T :=
 have hp := World.block_lt_of_cell? _ _ h.c0
 ⟨(hb.cell (p := ⟨p, 0, none⟩) hp).trans h.c0, (hb.cell (p := ⟨p, 1, none⟩) hp).trans h.c1, (hb.cell (p := ⟨p, 2, none⟩) hp).trans h.c2, h.tree.below hb⟩
set_option maxHeartbeats 1600000 in
theorem l4Expr_any (n : LNode) (vk vt ve : Value) (w : World) (h1 : ∃ a l c, vk = .slice a l c) (h2 : ∃ a l c, vt = .slice a l c) (h3 : ∃ a l c, ve = .slice a l c) :
  Calls Tryz.prog 112 #[nodeV n vk vt ve] w fun e w' => e = .returned (.bool (exprN n)) ∧ Below w.heap.size w w' := by
 obtain ⟨a, l, c, rfl⟩ := h1
 obtain ⟨a2, l2, c2, rfl⟩ := h2
 obtain ⟨a3, l3, c3, rfl⟩ := h3
 have H : Hid (∀ w, Calls Tryz.prog 81 #[.int .i64 n.kind, .int .i64 1, .int .i64 6] w fun e w' => e = .returned (.bool (exprN n)) ∧ w' = w) := fun w => l1In_any n.kind 1 6 w
 go_enter Tryz.func112, Tryz.ntmps112
 go_wp2_with fail
 refine (H.out _).mono ?_
 rintro e w' ⟨rfl, rfl⟩
 go_wp2_with fail
 go_ret
 exact ⟨rfl, by go_grown⟩
set_option maxHeartbeats 6400000 in
set_option maxRecDepth 100000 in
theorem l4Refs_any (lo p : Nat) (vv vn vb v : Value) (T : LTree) (at_ : Nat) (l : List Int) (expr : Bool) (lo' : Nat) (w : World) (h : TreeP lo w p vv vn vb T) (hat : at_ ≤ T.nodes.length) (hn : T.nodes.length ≤ 200) (hv : IntsV lo' w v l) (hl : l.length ≤ 1048576) :
  Calls Tryz.prog 83 #[.pointer (some ⟨p, 0, none⟩), .int .i64 at_, v, .bool expr] w fun e w' => e = .returned (.bool (refsB T.nodes at_ l expr)) ∧ Below w.heap.size w w' := by
 obtain ⟨a, c, rfl, hc, hh⟩ := hv
 obtain ⟨an, cn, rfl, hcn, hhn⟩ := id h.tree.nodes
 have H1 := hid hh
 have H2 := hid hhn
 have HP := hid h
 have HIN : Hid (∀ (z a b : Int) (w : World), Calls Tryz.prog 81 #[.int .i64 z, .int .i64 a, .int .i64 b] w fun e w' => e = .returned (.bool (inB z a b)) ∧ w' = w) := l1In_any
 clear h hh hhn hc hcn
 go_enter Tryz.func83, Tryz.ntmps83
 go_wp2
 go_loopw [9] (fun i wr => ∃ k : Nat, k ≤ l.length ∧ i = .int .i64 k ∧ (∀ j x, j < k → l[j]? = some x → refB T.nodes at_ expr x = true) ∧ Below w.heap.size w wr) (fun i _ => l.length - (intOf i).toNat)
 case atStart => exact ⟨0, by omega, rfl, by omega, Below.refl _ _⟩
 case round =>
  obtain ⟨k, hk, rfl, hall, hB⟩ := hrel
  have HALL := hid hall
  clear hall
  by_cases hlt : k < l.length
  ·obtain ⟨x, hx⟩ : ∃ x, l[k]? = some x := ⟨l[k], List.getElem?_eq_getElem hlt⟩
   obtain ⟨g, o, rfl, _, hc1⟩ := H1.out (by intro e; rw [e] at hlt; simp at hlt)
   have hgw : g < w.heap.size := World.block_lt_of_cell? _ _ (hc1 k x hx)
   have c0 := (hB.cell (p := ⟨g, o + k, none⟩) hgw).trans (hc1 k x hx)
   have hpw : p < w.heap.size := World.block_lt_of_cell? _ _ HP.out.c0
   have p1 := (hB.cell (p := ⟨p, 1, none⟩) hpw).trans HP.out.c1
   have hk0 : (0 : Int) ≤ (k : Int) := by omega
   have hk1 : (k : Int) < (l.length : Int) := by omega
   have HX : Hid (l[k]? = some x) := hx
   clear hx hc1
   obtain ⟨q, hq⟩ : ∃ q, inB x 0 ((at_ : Int) - 1) = q := ⟨_, rfl⟩
   cases q with
   | false =>
    have hI : Hid (∀ w, Calls Tryz.prog 81 #[.int .i64 x, .int .i64 0, .int .i64 ((at_ : Int) - 1)] w fun e w' => e = .returned (.bool false) ∧ w' = w) := fun w => by have h := HIN.out x 0 ((at_ : Int) - 1) w; rwa [hq] at h
    go_wp2_with fail
    go_quiet (first | (go_at_call 81; exact Calls.quiet_of_same (hI.out _)))
    have e : refsB T.nodes at_ l expr = false := List.all_eq_false.2 ⟨x, List.mem_of_getElem? HX.out, by simp [refB, hq]⟩
    go_wp2
    go_ret
    exact ⟨by rw [e]; rfl, ⟨hB.os, hB.tape, hB.output, hB.size, hB.block⟩⟩
   | true =>
    have hq2 := inB_iff.1 hq
    obtain ⟨j, rfl⟩ : ∃ j : Nat, x = j := ⟨x.toNat, by omega⟩
    have hja : j < at_ := by omega
    obtain ⟨y, hy⟩ : ∃ y, T.nodes[j]? = some y := ⟨T.nodes[j]'(by omega), List.getElem?_eq_getElem _⟩
    have hjn : j < T.nodes.length := by omega
    obtain ⟨g2, o2, rfl, _, hc2⟩ := H2.out (by intro e; rw [e] at hjn; simp at hjn)
    obtain ⟨vk, vt, ve, hcs, hvs⟩ := hc2 j y hy
    have hgw2 : g2 < w.heap.size := World.block_lt_of_cell? _ _ hcs.c0
    obtain ⟨d0, d1, d2, d3, d4, d5, d6, d7⟩ := hcs.keep (lo := 0) (fun g _ hg => hB.block g hg) (Nat.zero_le _)
    obtain ⟨ak, ck, rfl, _⟩ := id hvs.kids
    obtain ⟨at2, ct, rfl, _⟩ := id hvs.thn
    obtain ⟨ae, ce, rfl, _⟩ := id hvs.els
    have hI : Hid (∀ w, Calls Tryz.prog 81 #[.int .i64 (j : Int), .int .i64 0, .int .i64 ((at_ : Int) - 1)] w fun e w' => e = .returned (.bool true) ∧ w' = w) := fun w => by have h := HIN.out (j : Int) 0 ((at_ : Int) - 1) w; rwa [hq] at h
    have hE : Hid (∀ w, Calls Tryz.prog 112 #[nodeV y (.slice ak y.kids.length ck) (.slice at2 y.thn.length ct) (.slice ae y.els.length ce)] w fun e w' => e = .returned (.bool (exprN y)) ∧ Below w.heap.size w w') := fun w => l4Expr_any y _ _ _ w ⟨_, _, _, rfl⟩ ⟨_, _, _, rfl⟩ ⟨_, _, _, rfl⟩
    have hR : refB T.nodes at_ expr (j : Int) = (exprN y == expr) := by
     have : T.nodes.getD ((j : Int)).toNat default = y := by simp [hy]
     unfold refB
     rw [hq, this]; rfl
    have HR : Hid _ := hR
    have hj0 : (0 : Int) ≤ (j : Int) := by omega
    have hj1 : (j : Int) < (T.nodes.length : Int) := by omega
    have hgr : g < wr.heap.size := Nat.lt_of_lt_of_le hgw hB.size
    have hgr2 : g2 < wr.heap.size := Nat.lt_of_lt_of_le hgw2 hB.size
    have hpr : p < wr.heap.size := Nat.lt_of_lt_of_le hpw hB.size
    have hw : IntKind.i64.wrap ((at_ : Int) - 1) = (at_ : Int) - 1 := IntWalk.i64_in _ (by omega)
    have hI : Hid (∀ w, Calls Tryz.prog 81 #[.int .i64 (j : Int), .int .i64 0, .int .i64 (IntKind.i64.wrap ((at_ : Int) - 1))] w fun e w' => e = .returned (.bool true) ∧ w' = w) := by rw [hw]; exact hI
    clear hq hq2 hy hc2 hcs hvs hR hja hw
    obtain ⟨qe, hqe⟩ : ∃ q, exprN y = q := ⟨_, rfl⟩
    rw [hqe] at hE
    cases qe <;> cases expr
    ·go_wp2_with fail
     go_region_held3 (fun W => (W.cell? ⟨g, o + k, none⟩ = some (.int .i64 (j : Int)) ∧ W.cell? ⟨p, 1, none⟩ = some (.slice (some ⟨g2, o2, none⟩) T.nodes.length cn)) ∧ (W.cell? ⟨g2, o2 + j * 8, none⟩ = some (.int .i64 y.kind) ∧ W.cell? ⟨g2, o2 + j * 8 + 1, none⟩ = some (.int .i64 y.op) ∧ W.cell? ⟨g2, o2 + j * 8 + 2, none⟩ = some (.string (bs y.name)) ∧ W.cell? ⟨g2, o2 + j * 8 + 3, none⟩ = some (.int .i64 y.num) ∧ W.cell? ⟨g2, o2 + j * 8 + 4, none⟩ = some (.int .i64 y.far) ∧ W.cell? ⟨g2, o2 + j * 8 + 5, none⟩ = some (.slice ak y.kids.length ck) ∧ W.cell? ⟨g2, o2 + j * 8 + 6, none⟩ = some (.slice at2 y.thn.length ct) ∧ W.cell? ⟨g2, o2 + j * 8 + 7, none⟩ = some (.slice ae y.els.length ce))) (go_keep) (first | (go_at_call 81; refine (hI.out _).mono ?_; rintro e w2 ⟨rfl, rfl⟩) | (go_at_call 112; refine (hE.out _).mono ?_; rintro e w2 ⟨rfl, hb⟩; have hD : Below wr.heap.size wr w2 := ((Below.refl wr.heap.size wr).drew).trans (Below.mono hb (Nat.le_refl _)); have e0 := (hD.cell (p := ⟨g, o + k, none⟩) hgr).trans c0; have e1 := (hD.cell (p := ⟨p, 1, none⟩) hpr).trans p1; have k0 := (hD.cell (p := ⟨g2, o2 + j * 8, none⟩) hgr2).trans d0; have k1 := (hD.cell (p := ⟨g2, o2 + j * 8 + 1, none⟩) hgr2).trans d1; have k2 := (hD.cell (p := ⟨g2, o2 + j * 8 + 2, none⟩) hgr2).trans d2; have k3 := (hD.cell (p := ⟨g2, o2 + j * 8 + 3, none⟩) hgr2).trans d3; have k4 := (hD.cell (p := ⟨g2, o2 + j * 8 + 4, none⟩) hgr2).trans d4; have k5 := (hD.cell (p := ⟨g2, o2 + j * 8 + 5, none⟩) hgr2).trans d5; have k6 := (hD.cell (p := ⟨g2, o2 + j * 8 + 6, none⟩) hgr2).trans d6; have k7 := (hD.cell (p := ⟨g2, o2 + j * 8 + 7, none⟩) hgr2).trans d7; have hB2 := hB.trans (hD.mono hB.size); clear hb hD))
     go_wp2
     go_roundw
     case rel => exact ⟨k + 1, by omega, by go_num, fun i x hi hx => by
       rcases Nat.lt_succ_iff_lt_or_eq.1 hi with h | rfl
       ·exact HALL.out i x h hx
       ·have := hx.symm.trans HX.out
        cases this
        rw [HR.out, hqe]; rfl, hB2⟩
     case measure => simp [intOf]; omega
    ·go_wp2_with fail
     go_region_held3 (fun W => (W.cell? ⟨g, o + k, none⟩ = some (.int .i64 (j : Int)) ∧ W.cell? ⟨p, 1, none⟩ = some (.slice (some ⟨g2, o2, none⟩) T.nodes.length cn)) ∧ (W.cell? ⟨g2, o2 + j * 8, none⟩ = some (.int .i64 y.kind) ∧ W.cell? ⟨g2, o2 + j * 8 + 1, none⟩ = some (.int .i64 y.op) ∧ W.cell? ⟨g2, o2 + j * 8 + 2, none⟩ = some (.string (bs y.name)) ∧ W.cell? ⟨g2, o2 + j * 8 + 3, none⟩ = some (.int .i64 y.num) ∧ W.cell? ⟨g2, o2 + j * 8 + 4, none⟩ = some (.int .i64 y.far) ∧ W.cell? ⟨g2, o2 + j * 8 + 5, none⟩ = some (.slice ak y.kids.length ck) ∧ W.cell? ⟨g2, o2 + j * 8 + 6, none⟩ = some (.slice at2 y.thn.length ct) ∧ W.cell? ⟨g2, o2 + j * 8 + 7, none⟩ = some (.slice ae y.els.length ce))) (go_keep) (first | (go_at_call 81; refine (hI.out _).mono ?_; rintro e w2 ⟨rfl, rfl⟩) | (go_at_call 112; refine (hE.out _).mono ?_; rintro e w2 ⟨rfl, hb⟩; have hD : Below wr.heap.size wr w2 := ((Below.refl wr.heap.size wr).drew).trans (Below.mono hb (Nat.le_refl _)); have e0 := (hD.cell (p := ⟨g, o + k, none⟩) hgr).trans c0; have e1 := (hD.cell (p := ⟨p, 1, none⟩) hpr).trans p1; have k0 := (hD.cell (p := ⟨g2, o2 + j * 8, none⟩) hgr2).trans d0; have k1 := (hD.cell (p := ⟨g2, o2 + j * 8 + 1, none⟩) hgr2).trans d1; have k2 := (hD.cell (p := ⟨g2, o2 + j * 8 + 2, none⟩) hgr2).trans d2; have k3 := (hD.cell (p := ⟨g2, o2 + j * 8 + 3, none⟩) hgr2).trans d3; have k4 := (hD.cell (p := ⟨g2, o2 + j * 8 + 4, none⟩) hgr2).trans d4; have k5 := (hD.cell (p := ⟨g2, o2 + j * 8 + 5, none⟩) hgr2).trans d5; have k6 := (hD.cell (p := ⟨g2, o2 + j * 8 + 6, none⟩) hgr2).trans d6; have k7 := (hD.cell (p := ⟨g2, o2 + j * 8 + 7, none⟩) hgr2).trans d7; have hB2 := hB.trans (hD.mono hB.size); clear hb hD))
     have e : ∀ E, refB T.nodes at_ E (j : Int) = false → refsB T.nodes at_ l E = false := fun E h => List.all_eq_false.2 ⟨(j : Int), List.mem_of_getElem? HX.out, by rw [h]; decide⟩
     have e := e _ (by rw [HR.out, hqe]; rfl)
     have He : Hid _ := e
     clear e
     go_wp2
     go_ret
     exact ⟨by rw [He.out]; rfl, hB2⟩
    ·go_wp2_with fail
     go_region_held3 (fun W => (W.cell? ⟨g, o + k, none⟩ = some (.int .i64 (j : Int)) ∧ W.cell? ⟨p, 1, none⟩ = some (.slice (some ⟨g2, o2, none⟩) T.nodes.length cn)) ∧ (W.cell? ⟨g2, o2 + j * 8, none⟩ = some (.int .i64 y.kind) ∧ W.cell? ⟨g2, o2 + j * 8 + 1, none⟩ = some (.int .i64 y.op) ∧ W.cell? ⟨g2, o2 + j * 8 + 2, none⟩ = some (.string (bs y.name)) ∧ W.cell? ⟨g2, o2 + j * 8 + 3, none⟩ = some (.int .i64 y.num) ∧ W.cell? ⟨g2, o2 + j * 8 + 4, none⟩ = some (.int .i64 y.far) ∧ W.cell? ⟨g2, o2 + j * 8 + 5, none⟩ = some (.slice ak y.kids.length ck) ∧ W.cell? ⟨g2, o2 + j * 8 + 6, none⟩ = some (.slice at2 y.thn.length ct) ∧ W.cell? ⟨g2, o2 + j * 8 + 7, none⟩ = some (.slice ae y.els.length ce))) (go_keep) (first | (go_at_call 81; refine (hI.out _).mono ?_; rintro e w2 ⟨rfl, rfl⟩) | (go_at_call 112; refine (hE.out _).mono ?_; rintro e w2 ⟨rfl, hb⟩; have hD : Below wr.heap.size wr w2 := ((Below.refl wr.heap.size wr).drew).trans (Below.mono hb (Nat.le_refl _)); have e0 := (hD.cell (p := ⟨g, o + k, none⟩) hgr).trans c0; have e1 := (hD.cell (p := ⟨p, 1, none⟩) hpr).trans p1; have k0 := (hD.cell (p := ⟨g2, o2 + j * 8, none⟩) hgr2).trans d0; have k1 := (hD.cell (p := ⟨g2, o2 + j * 8 + 1, none⟩) hgr2).trans d1; have k2 := (hD.cell (p := ⟨g2, o2 + j * 8 + 2, none⟩) hgr2).trans d2; have k3 := (hD.cell (p := ⟨g2, o2 + j * 8 + 3, none⟩) hgr2).trans d3; have k4 := (hD.cell (p := ⟨g2, o2 + j * 8 + 4, none⟩) hgr2).trans d4; have k5 := (hD.cell (p := ⟨g2, o2 + j * 8 + 5, none⟩) hgr2).trans d5; have k6 := (hD.cell (p := ⟨g2, o2 + j * 8 + 6, none⟩) hgr2).trans d6; have k7 := (hD.cell (p := ⟨g2, o2 + j * 8 + 7, none⟩) hgr2).trans d7; have hB2 := hB.trans (hD.mono hB.size); clear hb hD))
     have e : ∀ E, refB T.nodes at_ E (j : Int) = false → refsB T.nodes at_ l E = false := fun E h => List.all_eq_false.2 ⟨(j : Int), List.mem_of_getElem? HX.out, by rw [h]; decide⟩
     have e := e _ (by rw [HR.out, hqe]; rfl)
     have He : Hid _ := e
     clear e
     go_wp2
     go_ret
     exact ⟨by rw [He.out]; rfl, hB2⟩
    ·go_wp2_with fail
     go_region_held3 (fun W => (W.cell? ⟨g, o + k, none⟩ = some (.int .i64 (j : Int)) ∧ W.cell? ⟨p, 1, none⟩ = some (.slice (some ⟨g2, o2, none⟩) T.nodes.length cn)) ∧ (W.cell? ⟨g2, o2 + j * 8, none⟩ = some (.int .i64 y.kind) ∧ W.cell? ⟨g2, o2 + j * 8 + 1, none⟩ = some (.int .i64 y.op) ∧ W.cell? ⟨g2, o2 + j * 8 + 2, none⟩ = some (.string (bs y.name)) ∧ W.cell? ⟨g2, o2 + j * 8 + 3, none⟩ = some (.int .i64 y.num) ∧ W.cell? ⟨g2, o2 + j * 8 + 4, none⟩ = some (.int .i64 y.far) ∧ W.cell? ⟨g2, o2 + j * 8 + 5, none⟩ = some (.slice ak y.kids.length ck) ∧ W.cell? ⟨g2, o2 + j * 8 + 6, none⟩ = some (.slice at2 y.thn.length ct) ∧ W.cell? ⟨g2, o2 + j * 8 + 7, none⟩ = some (.slice ae y.els.length ce))) (go_keep) (first | (go_at_call 81; refine (hI.out _).mono ?_; rintro e w2 ⟨rfl, rfl⟩) | (go_at_call 112; refine (hE.out _).mono ?_; rintro e w2 ⟨rfl, hb⟩; have hD : Below wr.heap.size wr w2 := ((Below.refl wr.heap.size wr).drew).trans (Below.mono hb (Nat.le_refl _)); have e0 := (hD.cell (p := ⟨g, o + k, none⟩) hgr).trans c0; have e1 := (hD.cell (p := ⟨p, 1, none⟩) hpr).trans p1; have k0 := (hD.cell (p := ⟨g2, o2 + j * 8, none⟩) hgr2).trans d0; have k1 := (hD.cell (p := ⟨g2, o2 + j * 8 + 1, none⟩) hgr2).trans d1; have k2 := (hD.cell (p := ⟨g2, o2 + j * 8 + 2, none⟩) hgr2).trans d2; have k3 := (hD.cell (p := ⟨g2, o2 + j * 8 + 3, none⟩) hgr2).trans d3; have k4 := (hD.cell (p := ⟨g2, o2 + j * 8 + 4, none⟩) hgr2).trans d4; have k5 := (hD.cell (p := ⟨g2, o2 + j * 8 + 5, none⟩) hgr2).trans d5; have k6 := (hD.cell (p := ⟨g2, o2 + j * 8 + 6, none⟩) hgr2).trans d6; have k7 := (hD.cell (p := ⟨g2, o2 + j * 8 + 7, none⟩) hgr2).trans d7; have hB2 := hB.trans (hD.mono hB.size); clear hb hD))
     go_wp2
     go_roundw
     case rel => exact ⟨k + 1, by omega, by go_num, fun i x hi hx => by
       rcases Nat.lt_succ_iff_lt_or_eq.1 hi with h | rfl
       ·exact HALL.out i x h hx
       ·have := hx.symm.trans HX.out
        cases this
        rw [HR.out, hqe]; rfl, hB2⟩
     case measure => simp [intOf]; omega
  ·have hke : k = l.length := by omega
   have HKE : Hid (k = l.length) := hke
   clear hke
   go_wp2
   go_ret
   refine ⟨?_, hB⟩
   have e : refsB T.nodes at_ l expr = true := List.all_eq_true.2 (fun x hx => by
    obtain ⟨j, hj, rfl⟩ := List.getElem_of_mem hx
    exact HALL.out j _ (by have := HKE.out; omega) (List.getElem?_eq_getElem hj))
   rw [e]
   rfl
end Go.Proofs.YteeklmgkhacbcaaGreatDoor
namespace Go.Proofs.YteeklmgkhacbcaaGreatDoor
open Go.RowKit
set_option linter.unusedVariables false
attribute [local go_sem] bs_size bs_get bs_extract bs_append bs_eq bs_toList
abbrev wantsV (q : Bool × Int × Bool) : Value := .tuple #[.bool q.1, .int .i64 q.2.1, .bool q.2.2]
set_option maxHeartbeats 6400000 in
theorem l4Wants_any (n : LNode) (vk vt ve : Value) (w : World) (h1 : ∃ a l c, vk = .slice a l c) (h2 : ∃ a l c, vt = .slice a l c) (h3 : ∃ a l c, ve = .slice a l c) :
  Calls Tryz.prog 111 #[nodeV n vk vt ve] w fun e w' => e = .returned (wantsV (wantsN n.kind)) ∧ Below w.heap.size w w' := by
 obtain ⟨a, l, c, rfl⟩ := h1
 obtain ⟨a2, l2, c2, rfl⟩ := h2
 obtain ⟨a3, l3, c3, rfl⟩ := h3
 unfold wantsN
 go_enter Tryz.func111, Tryz.ntmps111
 by_cases k1 : n.kind = 1
 ·rw [if_pos k1]
  go_wp2
  refine bodyPost_ret (v := wantsV (false, 0, true)) (by simp [results, Tryz.results111, go_sem]) rfl ⟨rfl, by go_grown⟩
 rw [if_neg k1]
 by_cases k2 : n.kind = 2
 ·rw [if_pos k2]
  go_wp2
  refine bodyPost_ret (v := wantsV (true, 0, false)) (by simp [results, Tryz.results111, go_sem]) rfl ⟨rfl, by go_grown⟩
 rw [if_neg k2]
 by_cases k3 : n.kind = 3
 ·rw [if_pos (Or.inl k3)]
  go_wp2
  refine bodyPost_ret (v := wantsV (true, 1, false)) (by simp [results, Tryz.results111, go_sem]) rfl ⟨rfl, by go_grown⟩
 by_cases k7 : n.kind = 7
 ·rw [if_pos (Or.inr k7)]
  go_wp2
  refine bodyPost_ret (v := wantsV (true, 1, false)) (by simp [results, Tryz.results111, go_sem]) rfl ⟨rfl, by go_grown⟩
 rw [if_neg (by omega)]
 by_cases k4 : n.kind = 4
 ·rw [if_pos (Or.inl k4)]
  go_wp2
  refine bodyPost_ret (v := wantsV (false, 1, false)) (by simp [results, Tryz.results111, go_sem]) rfl ⟨rfl, by go_grown⟩
 by_cases k5 : n.kind = 5
 ·rw [if_pos (Or.inr (Or.inl k5))]
  go_wp2
  refine bodyPost_ret (v := wantsV (false, 1, false)) (by simp [results, Tryz.results111, go_sem]) rfl ⟨rfl, by go_grown⟩
 by_cases k9 : n.kind = 9
 ·rw [if_pos (Or.inr (Or.inr k9))]
  go_wp2
  refine bodyPost_ret (v := wantsV (false, 1, false)) (by simp [results, Tryz.results111, go_sem]) rfl ⟨rfl, by go_grown⟩
 rw [if_neg (by omega)]
 by_cases k6 : n.kind = 6
 ·rw [if_pos k6]
  go_wp2
  refine bodyPost_ret (v := wantsV (false, 2, false)) (by simp [results, Tryz.results111, go_sem]) rfl ⟨rfl, by go_grown⟩
 rw [if_neg k6]
 by_cases k8 : n.kind = 8
 ·rw [if_pos k8]
  go_wp2
  refine bodyPost_ret (v := wantsV (true, 2, false)) (by simp [results, Tryz.results111, go_sem]) rfl ⟨rfl, by go_grown⟩
 rw [if_neg k8]
 by_cases k10 : n.kind = 10
 ·rw [if_pos k10]
  go_wp2
  refine bodyPost_ret (v := wantsV (true, 0, true)) (by simp [results, Tryz.results111, go_sem]) rfl ⟨rfl, by go_grown⟩
 rw [if_neg k10]
 go_wp2
 refine bodyPost_ret (v := wantsV (true, -1, false)) (by simp [results, Tryz.results111, go_sem]) rfl ⟨rfl, by go_grown⟩
set_option maxHeartbeats 800000 in
theorem l1Max_any (a b : Int) (w : World) : Calls Tryz.prog 91 #[.int .i64 a, .int .i64 b] w fun e w' => e = .returned (.int .i64 (max a b)) ∧ w' = w := by
 by_cases h : a > b
 ·have e : max a b = a := by omega
  rw [e]
  go_enter Tryz.func91, Tryz.ntmps91
  go_wp2
  go_ret
  exact ⟨rfl, rfl⟩
 ·have e : max a b = b := by omega
  rw [e]
  go_enter Tryz.func91, Tryz.ntmps91
  go_wp2
  go_ret
  exact ⟨rfl, rfl⟩
def SameW (a b : World) : Prop := a = b
theorem infoE : (Tryz.prog.info? 93).map (fun i => (i.zero, i.size, i.bytes)) = some (some (.agg #[.string ⟨#[]⟩, .int .i64 0, .int .i64 0, .int .i64 0, .bool false, .int .i64 0]), 6, 56) := by kernel_rfl
def entV (V : List LVar) (nv i : Nat) : List Value := [.string (bs (V.getD i default).name), .int .i64 (V.getD i default).kind, .int .i64 (V.getD i default).type, .int .i64 (V.getD i default).size, .bool (decide (nv ≤ i)), .int .i64 (cellsL (V.take i))]
def entC (V : List LVar) (nv k : Nat) : List Value := (List.range k).flatMap (entV V nv)
theorem entC_succ (V : List LVar) (nv k : Nat) : entC V nv (k + 1) = entC V nv k ++ entV V nv k := by unfold entC; rw [List.range_succ, List.flatMap_append]; simp
theorem entC_len (V : List LVar) (nv k : Nat) : (entC V nv k).length = k * 6 := by
 induction k with
 | zero => rfl
 | succ k ih => rw [entC_succ, List.length_append, ih]; simp [entV]; omega
theorem entC_at (V : List LVar) (nv : Nat) : ∀ (k i : Nat), i < k → ∀ j, j < 6 → (entC V nv k)[i * 6 + j]? = (entV V nv i)[j]? := by
 intro k
 induction k with
 | zero => intro i h; omega
 | succ k ih =>
  intro i h j hj
  rw [entC_succ]
  by_cases e : i < k
  ·rw [List.getElem?_append_left (by rw [entC_len]; omega)]; exact ih i e j hj
  ·have : i = k := by omega
   subst this
   rw [List.getElem?_append_right (by rw [entC_len]; omega), entC_len, Nat.add_sub_cancel_left]
theorem entV_at {V : List LVar} {nv i : Nat} {x : LVar} (h : V[i]? = some x) : entV V nv i = [.string (bs x.name), .int .i64 x.kind, .int .i64 x.type, .int .i64 x.size, .bool (decide (nv ≤ i)), .int .i64 (cellsL (V.take i))] := by
 have : V.getD i default = x := by rw [List.getD_eq_getElem?_getD, h]; rfl
 unfold entV; rw [this]
set_option maxHeartbeats 800000 in
theorem cellsFor_any (x : LVar) (w : World) : Calls Tryz.prog 62 #[varV x] w fun e w' => e = .returned (.int .i64 (szV x)) ∧ Below w.heap.size w w' := by
 have e1 : (if 1 < x.size then x.size else 1) = szV x := by unfold szV; split <;> omega
 go_enter Tryz.func62, Tryz.ntmps62
 go_wp2
 go_ret
 exact ⟨by rw [← e1]; rfl, by go_grown⟩
end Go.Proofs.YteeklmgkhacbcaaGreatDoor
