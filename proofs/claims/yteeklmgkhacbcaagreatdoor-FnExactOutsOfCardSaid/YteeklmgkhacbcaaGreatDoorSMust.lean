/-
  spec.l5Must, from a contract of l5Type.
-/
import Derived.Test.YteeklmgkhacbcaaGreatDoorSName
namespace Go.Proofs.YteeklmgkhacbcaaGreatDoor
open Go.RowKit
set_option linter.unusedVariables false
attribute [local go_sem] bs_size bs_get bs_extract bs_append bs_eq bs_toList
set_option maxHeartbeats 6400000 in
set_option maxRecDepth 100000 in
theorem l5Bool_any (lo : Nat) (W0 W : World) (kp p cA : Nat) (vv vn vb : Value) (aA : Option Addr) (T : LTree) (V : List LVar) (vl : Value) (st : Met) (j : Nat) (hE : ChkE lo W0 p kp vv vn vb aA T V) (hC : Chk W0 W kp p aA V.length cA vl st) (hj : j < T.nodes.length) :
  Calls Tryz.prog 146 #[.pointer (some ⟨kp, 0, none⟩), .int .i64 (j : Int)] W fun e w' => e = .returned (.bool (boolB V (nodeOf T.nodes (j : Int)))) ∧ Below W.heap.size W w' := by
 obtain ⟨bn, on, cn, rfl, q1, vk, vt, ve, hnc, _, ⟨a, l, c, rfl⟩, ⟨a2, l2, c2, rfl⟩, ⟨a3, l3, c3, rfl⟩⟩ := hE.node hC.bel j hj
 obtain ⟨k0, k1⟩ := cl2 hC.row
 have hkl := blk_lt hC.row
 have hrv := hE.all.below hC.bel
 have hfew := hE.few
 have hnl := hE.good.nodes
 obtain ⟨n, hn⟩ : ∃ n, n = nodeOf T.nodes (j : Int) := ⟨_, rfl⟩
 rw [← hn] at hnc ⊢
 clear hn
 obtain ⟨d0, d1, d2, d3, d4, d5, d6, d7⟩ := hnc
 have HFI : Hid (∀ W', Below W.heap.size W W' → Calls Tryz.prog 86 #[.slice aA V.length cA, .string (bs n.name)] W' fun e w' => e = .returned (.int .i64 (varFrom n.name V 0)) ∧ w' = W') := fun W' hW => l5Find_any V n.name aA V.length cA W' rfl (hrv.below hW) hfew
 have HRV : Hid (RowV W aA V) := hrv
 have HVO := varFrom_or n.name V 0
 have HBB : Hid (boolB V n = (if n.kind = 5 then true else if n.kind = 6 then decide (5 < n.op) else if n.kind = 2 ∨ n.kind = 3 then decide (0 ≤ varFrom n.name V 0 ∧ (V.getD (varFrom n.name V 0).toNat default).type = 2) else false)) := rfl
 have hj0 : (0 : Int) ≤ (j : Int) := by omega
 have hj1 : (j : Int) < (T.nodes.length : Int) := by omega
 clear hC hE hrv
 by_cases k5 : n.kind = 5
 ·have HR : Hid (boolB V n = true) := by unfold Hid; rw [HBB.out, if_pos k5]
  clear HBB HFI HRV HVO
  go_enter Tryz.func146, Tryz.ntmps146
  go_wp2
  go_ret
  exact ⟨by rw [HR.out]; rfl, by go_grown⟩
 by_cases k6 : n.kind = 6
 ·have HR : Hid (boolB V n = decide (5 < n.op)) := by unfold Hid; rw [HBB.out, if_neg k5, if_pos k6]
  clear HBB HFI HRV HVO k5
  go_enter Tryz.func146, Tryz.ntmps146
  go_wp2
  go_ret
  exact ⟨by rw [HR.out]; rfl, by go_grown⟩
 by_cases k2 : n.kind = 2
 ·have hK := k2
  clear k2 k5 k6
  rw [hK] at d0
  have hB5 : Below W.heap.size W (W.alloc (.cells #[.int .i64 2, .int .i64 n.op, .string (bs n.name), .int .i64 n.num, .int .i64 n.far, .slice a l c, .slice a2 l2 c2, .slice a3 l3 c3] 88)) := (Below.refl _ _).alloc (Nat.le_refl _) _
  have hA := heap_alloc_new W (.cells #[.int .i64 2, .int .i64 n.op, .string (bs n.name), .int .i64 n.num, .int .i64 n.far, .slice a l c, .slice a2 l2 c2, .slice a3 l3 c3] 88)
  have n2 : (W.alloc (.cells #[.int .i64 2, .int .i64 n.op, .string (bs n.name), .int .i64 n.num, .int .i64 n.far, .slice a l c, .slice a2 l2 c2, .slice a3 l3 c3] 88)).cell? ⟨W.heap.size, 2, none⟩ = some (.string (bs n.name)) := cell_of_row _ _ 2 _ _ _ hA
  have kk1 : (W.alloc (.cells #[.int .i64 2, .int .i64 n.op, .string (bs n.name), .int .i64 n.num, .int .i64 n.far, .slice a l c, .slice a2 l2 c2, .slice a3 l3 c3] 88)).cell? ⟨kp, 1, none⟩ = some (.slice aA V.length cA) := (hB5.cell (p := ⟨kp, 1, none⟩) hkl).trans k1
  have hrd : RowV (W.alloc (.cells #[.int .i64 2, .int .i64 n.op, .string (bs n.name), .int .i64 n.num, .int .i64 n.far, .slice a l c, .slice a2 l2 c2, .slice a3 l3 c3] 88)).drew aA V := rowV_heap (HRV.out.below hB5) rfl
  have kk1d : (W.alloc (.cells #[.int .i64 2, .int .i64 n.op, .string (bs n.name), .int .i64 n.num, .int .i64 n.far, .slice a l c, .slice a2 l2 c2, .slice a3 l3 c3] 88)).drew.cell? ⟨kp, 1, none⟩ = some (.slice aA V.length cA) := kk1
  have hbd : Below W.heap.size W (W.alloc (.cells #[.int .i64 2, .int .i64 n.op, .string (bs n.name), .int .i64 n.num, .int .i64 n.far, .slice a l c, .slice a2 l2 c2, .slice a3 l3 c3] 88)).drew := hB5.drew
  have HB5 := hid hB5
  have HRD := hid hrd
  have HBD := hid hbd
  have HR : Hid (boolB V n = decide (0 ≤ varFrom n.name V 0 ∧ (V.getD (varFrom n.name V 0).toNat default).type = 2)) := by unfold Hid; rw [HBB.out, hK]; rfl
  clear hB5 hA hrd hbd HBB HRV
  obtain ⟨X, hX⟩ : ∃ X, varFrom n.name V 0 = X := ⟨_, rfl⟩
  rw [hX] at HFI HVO HR
  clear hX
  go_enter Tryz.func146, Tryz.ntmps146
  go_wp2_with fail
  generalize W.alloc (.cells #[.int .i64 2, .int .i64 n.op, .string (bs n.name), .int .i64 n.num, .int .i64 n.far, .slice a l c, .slice a2 l2 c2, .slice a3 l3 c3] 88) = W5 at *
  go_region_held3 (fun Z => Z.cell? ⟨kp, 1, none⟩ = some (.slice aA V.length cA) ∧ Z.cell? ⟨W.heap.size, 2, none⟩ = some (.string (bs n.name))) (go_keep) (first | (go_at_call 86; refine (HFI.out _ HBD.out).mono ?_; rintro e w2 ⟨rfl, rfl⟩))
  generalize W5.drew = W6 at *
  rcases HVO with hX1 | ⟨i, rfl, hi⟩
  ·have hXn : X < 0 := by omega
   have hXn2 : ¬ (0 ≤ X) := by omega
   have HR2 : Hid (boolB V n = false) := by unfold Hid; rw [HR.out, decide_eq_false (fun h => hXn2 h.1)]
   clear hX1 HR HRD HFI
   go_wp2_with fail
   go_ret
   exact ⟨by rw [HR2.out]; rfl, HBD.out⟩
  ·have hiV : i < V.length := by omega
   obtain ⟨v, hv⟩ : ∃ v, V[i]? = some v := ⟨V[i], List.getElem?_eq_getElem hiV⟩
   have hvd : V.getD ((i : Int)).toNat default = v := by rw [Int.toNat_natCast, List.getD_eq_getElem?_getD, hv]; rfl
   have HR2 : Hid (boolB V n = decide (v.type = 2)) := by unfold Hid; rw [HR.out, hvd]; congr 1; simp
   obtain ⟨g, rfl, hcs⟩ := HRD.out (by intro e; rw [e] at hiV; simp at hiV)
   obtain ⟨c0', c1', c2', c3'⟩ := hcs i v hv
   have hi0 : (0 : Int) ≤ (i : Int) := by omega
   have hi1 : (i : Int) < (V.length : Int) := by omega
   clear hcs hv hvd HR HRD HFI hi
   by_cases ht : v.type = 2
   ·have HR3 : Hid (boolB V n = true) := by unfold Hid; rw [HR2.out, decide_eq_true ht]
    clear HR2
    go_wp2_with fail
    go_ret
    exact ⟨by rw [HR3.out]; rfl, HBD.out⟩
   ·have HR3 : Hid (boolB V n = false) := by unfold Hid; rw [HR2.out, decide_eq_false ht]
    have hte : (v.type == 2) = false := by simpa using ht
    clear HR2
    go_wp2_with fail
    go_ret
    exact ⟨by rw [HR3.out]; rfl, HBD.out⟩
 by_cases k3 : n.kind = 3
 ·have hK := k3
  clear k2 k3 k5 k6
  rw [hK] at d0
  have hB5 : Below W.heap.size W (W.alloc (.cells #[.int .i64 3, .int .i64 n.op, .string (bs n.name), .int .i64 n.num, .int .i64 n.far, .slice a l c, .slice a2 l2 c2, .slice a3 l3 c3] 88)) := (Below.refl _ _).alloc (Nat.le_refl _) _
  have hA := heap_alloc_new W (.cells #[.int .i64 3, .int .i64 n.op, .string (bs n.name), .int .i64 n.num, .int .i64 n.far, .slice a l c, .slice a2 l2 c2, .slice a3 l3 c3] 88)
  have n2 : (W.alloc (.cells #[.int .i64 3, .int .i64 n.op, .string (bs n.name), .int .i64 n.num, .int .i64 n.far, .slice a l c, .slice a2 l2 c2, .slice a3 l3 c3] 88)).cell? ⟨W.heap.size, 2, none⟩ = some (.string (bs n.name)) := cell_of_row _ _ 2 _ _ _ hA
  have kk1 : (W.alloc (.cells #[.int .i64 3, .int .i64 n.op, .string (bs n.name), .int .i64 n.num, .int .i64 n.far, .slice a l c, .slice a2 l2 c2, .slice a3 l3 c3] 88)).cell? ⟨kp, 1, none⟩ = some (.slice aA V.length cA) := (hB5.cell (p := ⟨kp, 1, none⟩) hkl).trans k1
  have hrd : RowV (W.alloc (.cells #[.int .i64 3, .int .i64 n.op, .string (bs n.name), .int .i64 n.num, .int .i64 n.far, .slice a l c, .slice a2 l2 c2, .slice a3 l3 c3] 88)).drew aA V := rowV_heap (HRV.out.below hB5) rfl
  have kk1d : (W.alloc (.cells #[.int .i64 3, .int .i64 n.op, .string (bs n.name), .int .i64 n.num, .int .i64 n.far, .slice a l c, .slice a2 l2 c2, .slice a3 l3 c3] 88)).drew.cell? ⟨kp, 1, none⟩ = some (.slice aA V.length cA) := kk1
  have hbd : Below W.heap.size W (W.alloc (.cells #[.int .i64 3, .int .i64 n.op, .string (bs n.name), .int .i64 n.num, .int .i64 n.far, .slice a l c, .slice a2 l2 c2, .slice a3 l3 c3] 88)).drew := hB5.drew
  have HB5 := hid hB5
  have HRD := hid hrd
  have HBD := hid hbd
  have HR : Hid (boolB V n = decide (0 ≤ varFrom n.name V 0 ∧ (V.getD (varFrom n.name V 0).toNat default).type = 2)) := by unfold Hid; rw [HBB.out, hK]; rfl
  clear hB5 hA hrd hbd HBB HRV
  obtain ⟨X, hX⟩ : ∃ X, varFrom n.name V 0 = X := ⟨_, rfl⟩
  rw [hX] at HFI HVO HR
  clear hX
  go_enter Tryz.func146, Tryz.ntmps146
  go_wp2_with fail
  generalize W.alloc (.cells #[.int .i64 3, .int .i64 n.op, .string (bs n.name), .int .i64 n.num, .int .i64 n.far, .slice a l c, .slice a2 l2 c2, .slice a3 l3 c3] 88) = W5 at *
  go_region_held3 (fun Z => Z.cell? ⟨kp, 1, none⟩ = some (.slice aA V.length cA) ∧ Z.cell? ⟨W.heap.size, 2, none⟩ = some (.string (bs n.name))) (go_keep) (first | (go_at_call 86; refine (HFI.out _ HBD.out).mono ?_; rintro e w2 ⟨rfl, rfl⟩))
  generalize W5.drew = W6 at *
  rcases HVO with hX1 | ⟨i, rfl, hi⟩
  ·have hXn : X < 0 := by omega
   have hXn2 : ¬ (0 ≤ X) := by omega
   have HR2 : Hid (boolB V n = false) := by unfold Hid; rw [HR.out, decide_eq_false (fun h => hXn2 h.1)]
   clear hX1 HR HRD HFI
   go_wp2_with fail
   go_ret
   exact ⟨by rw [HR2.out]; rfl, HBD.out⟩
  ·have hiV : i < V.length := by omega
   obtain ⟨v, hv⟩ : ∃ v, V[i]? = some v := ⟨V[i], List.getElem?_eq_getElem hiV⟩
   have hvd : V.getD ((i : Int)).toNat default = v := by rw [Int.toNat_natCast, List.getD_eq_getElem?_getD, hv]; rfl
   have HR2 : Hid (boolB V n = decide (v.type = 2)) := by unfold Hid; rw [HR.out, hvd]; congr 1; simp
   obtain ⟨g, rfl, hcs⟩ := HRD.out (by intro e; rw [e] at hiV; simp at hiV)
   obtain ⟨c0', c1', c2', c3'⟩ := hcs i v hv
   have hi0 : (0 : Int) ≤ (i : Int) := by omega
   have hi1 : (i : Int) < (V.length : Int) := by omega
   clear hcs hv hvd HR HRD HFI hi
   by_cases ht : v.type = 2
   ·have HR3 : Hid (boolB V n = true) := by unfold Hid; rw [HR2.out, decide_eq_true ht]
    clear HR2
    go_wp2_with fail
    go_ret
    exact ⟨by rw [HR3.out]; rfl, HBD.out⟩
   ·have HR3 : Hid (boolB V n = false) := by unfold Hid; rw [HR2.out, decide_eq_false ht]
    have hte : (v.type == 2) = false := by simpa using ht
    clear HR2
    go_wp2_with fail
    go_ret
    exact ⟨by rw [HR3.out]; rfl, HBD.out⟩
 have HR : Hid (boolB V n = false) := by unfold Hid; rw [HBB.out, if_neg k5, if_neg k6, if_neg (by rintro (h | h); exact k2 h; exact k3 h)]
 clear HBB HFI HRV HVO
 go_enter Tryz.func146, Tryz.ntmps146
 go_wp2
 go_ret
 exact ⟨by rw [HR.out]; rfl, by go_grown⟩
set_option maxHeartbeats 3200000 in
set_option maxRecDepth 100000 in
theorem l5Same_any (lo : Nat) (W0 W : World) (kp p cA : Nat) (vv vn vb : Value) (aA : Option Addr) (T : LTree) (V : List LVar) (vl : Value) (st : Met) (x y : Nat) (hE : ChkE lo W0 p kp vv vn vb aA T V) (hC : Chk W0 W kp p aA V.length cA vl st) (hx : x < T.nodes.length) (hy : y < T.nodes.length) :
  Calls Tryz.prog 136 #[.pointer (some ⟨kp, 0, none⟩), .int .i64 (x : Int), .int .i64 (y : Int)] W fun e w' => e = .returned (.int .i64 (sameF V T.nodes (x : Int) (y : Int))) ∧ Below W.heap.size W w' := by
 have HB : Hid (∀ j : Nat, j < T.nodes.length → Calls Tryz.prog 146 #[.pointer (some ⟨kp, 0, none⟩), .int .i64 (j : Int)] W fun e w' => e = .returned (.bool (boolB V (nodeOf T.nodes (j : Int)))) ∧ Below W.heap.size W w') := fun j hj => l5Bool_any lo W0 W kp p cA vv vn vb aA T V vl st j hE hC hj
 obtain ⟨bn, on, cn, rfl, q1, vk, vt, ve, hnc, _⟩ := hE.node hC.bel x hx
 have k0 := cell_of_row _ _ 0 _ _ _ hC.row
 simp at k0
 have d0 := hnc.c0
 have hnl := hE.good.nodes
 have HS : Hid (sameF V T.nodes (x : Int) (y : Int) = if boolB V (nodeOf T.nodes (if (nodeOf T.nodes (x : Int)).kind = 1 then (y : Int) else (x : Int))) then 2 else 1) := rfl
 have hx0 : (0 : Int) ≤ (x : Int) := by omega
 have hx1 : (x : Int) < (T.nodes.length : Int) := by omega
 clear hE hC hnc
 by_cases k1 : (nodeOf T.nodes (x : Int)).kind = 1
 ·have HBY := HB.out y hy
  obtain ⟨q, hq⟩ : ∃ q, boolB V (nodeOf T.nodes (y : Int)) = q := ⟨_, rfl⟩
  have HR : Hid (sameF V T.nodes (x : Int) (y : Int) = if q then 2 else 1) := by unfold Hid; rw [HS.out, if_pos k1, hq]
  rw [hq] at HBY
  have HBQ : Hid (Calls Tryz.prog 146 #[.pointer (some ⟨kp, 0, none⟩), .int .i64 (y : Int)] W fun e w' => e = .returned (.bool q) ∧ Below W.heap.size W w') := HBY
  rw [k1] at d0
  clear HB HBY HS hq k1
  go_enter Tryz.func136, Tryz.ntmps136
  go_wp2_with fail
  refine HBQ.out.mono ?_
  rintro e w2 ⟨rfl, hb⟩
  cases q with
  | true =>
   go_wp2_with fail
   go_ret
   exact ⟨by rw [HR.out]; rfl, hb⟩
  | false =>
   go_wp2_with fail
   go_ret
   exact ⟨by rw [HR.out]; rfl, hb⟩
 ·have HBY := HB.out x hx
  obtain ⟨q, hq⟩ : ∃ q, boolB V (nodeOf T.nodes (x : Int)) = q := ⟨_, rfl⟩
  have HR : Hid (sameF V T.nodes (x : Int) (y : Int) = if q then 2 else 1) := by unfold Hid; rw [HS.out, if_neg k1, hq]
  rw [hq] at HBY
  have HBQ : Hid (Calls Tryz.prog 146 #[.pointer (some ⟨kp, 0, none⟩), .int .i64 (x : Int)] W fun e w' => e = .returned (.bool q) ∧ Below W.heap.size W w') := HBY
  clear HB HBY HS hq
  generalize (nodeOf T.nodes (x : Int)).kind = K at *
  go_enter Tryz.func136, Tryz.ntmps136
  go_wp2_with fail
  refine HBQ.out.mono ?_
  rintro e w2 ⟨rfl, hb⟩
  cases q with
  | true =>
   go_wp2_with fail
   go_ret
   exact ⟨by rw [HR.out]; rfl, hb⟩
  | false =>
   go_wp2_with fail
   go_ret
   exact ⟨by rw [HR.out]; rfl, hb⟩
def TypeC (W0 : World) (kp p cA : Nat) (aA : Option Addr) (T : LTree) (V : List LVar) (vl : Value) (f : Nat) (y : Nat) : Prop := ∀ (W : World) (st : Met), Chk W0 W kp p aA V.length cA vl st →
 Calls Tryz.prog 116 #[.pointer (some ⟨kp, 0, none⟩), .int .i64 (y : Int)] W fun e w' => e = .returned (.int .i64 (typeF V T.vars.length T.nodes f (y : Int) st).1) ∧ Chk W0 w' kp p aA V.length cA vl (typeF V T.vars.length T.nodes f (y : Int) st).2 ∧ Sole kp W w'
set_option maxHeartbeats 6400000 in
set_option maxRecDepth 100000 in
theorem l5Must_any (lo : Nat) (W0 W : World) (kp p cA : Nat) (vv vn vb : Value) (aA : Option Addr) (T : LTree) (V : List LVar) (vl : Value) (st : Met) (y : Nat) (want : Int) (f : Nat) (hE : ChkE lo W0 p kp vv vn vb aA T V) (hC : Chk W0 W kp p aA V.length cA vl st) (hy : y < T.nodes.length) (hT : TypeC W0 kp p cA aA T V vl f y) :
  Calls Tryz.prog 88 #[.pointer (some ⟨kp, 0, none⟩), .int .i64 (y : Int), .int .i64 want] W fun e w' => e = .returned (.tuple #[]) ∧ Chk W0 w' kp p aA V.length cA vl (mustW (nodeOf T.nodes (y : Int)) (y : Int) want (typeF V T.vars.length T.nodes f (y : Int) st)) ∧ Sole kp W w' := by
 have HT := hT W st hC
 obtain ⟨⟨g, s1, s2⟩, hr⟩ : ∃ r, r = typeF V T.vars.length T.nodes f (y : Int) st := ⟨_, rfl⟩
 rw [← hr] at HT ⊢
 clear hr
 have HTC : Hid (Calls Tryz.prog 116 #[.pointer (some ⟨kp, 0, none⟩), .int .i64 (y : Int)] W fun e w' => e = .returned (.int .i64 g) ∧ Chk W0 w' kp p aA V.length cA vl (s1, s2) ∧ Sole kp W w') := HT
 have HE := hid hE
 have hnl := hE.good.nodes
 have hkW := blk_lt hC.row
 obtain ⟨n, hn⟩ : ∃ n, n = nodeOf T.nodes (y : Int) := ⟨_, rfl⟩
 rw [← hn]
 have HNN := hid hn
 clear HT hT hE hC hn
 go_enter Tryz.func88, Tryz.ntmps88
 go_wp2_with fail
 refine HTC.out.mono ?_
 rintro e w1 ⟨rfl, hc1, hb1⟩
 obtain ⟨bn, on, cn, rfl, q1, vk, vt, ve, hnc, _, ⟨a, l, c, rfl⟩, ⟨a2, l2, c2, rfl⟩, ⟨a3, l3, c3, rfl⟩⟩ := HE.out.node hc1.bel y hy
 obtain ⟨k0, -, -, k3⟩ := cl4 hc1.row
 have hkl := blk_lt hc1.row
 have hlow := HE.out.low
 have HSTOP : Hid (∀ (c : Int) (W' : World), Chk W0 W' kp p aA V.length cA vl (s1, s2) → Calls Tryz.prog 114 #[.pointer (some ⟨kp, 0, none⟩), .int .i64 c, .int .i64 (y : Int)] W' fun e w' => e = .returned (.tuple #[]) ∧ Chk W0 w' kp p aA V.length cA vl (metAt (s1, s2) c (y : Int)) ∧ Sole kp W' w') := fun c W' h => l5Stop_any W0 W' kp p V.length cA aA vl (s1, s2) c (y : Int) h hlow
 have HCA : Hid (∀ o, Chk W0 (w1.alloc o) kp p aA V.length cA vl (s1, s2) ∧ Sole kp W (w1.alloc o)) := fun o =>
  have hb : Below w1.heap.size w1 (w1.alloc o) := (Below.refl _ _).alloc (Nat.le_refl _) _
  ⟨hc1.below hb, hb1.trans hb.sole⟩
 rw [← HNN.out] at hnc
 obtain ⟨d0, d1, d2, d3, d4, d5, d6, d7⟩ := hnc
 have HM : Hid (mustW n (y : Int) want (g, s1, s2) = if want = 2 ∧ n.kind = 1 ∧ n.num ≤ 1 then (s1, s2) else if s1 = 0 ∧ g ≠ want then metAt (s1, s2) 8 (y : Int) else (s1, s2)) := rfl
 have hy0 : (0 : Int) ≤ (y : Int) := by omega
 have hy1 : (y : Int) < (T.nodes.length : Int) := by omega
 obtain ⟨K, hK⟩ : ∃ K, K = n.kind := ⟨_, rfl⟩
 rw [← hK] at d0 HM
 clear hK hc1 hb1 HTC HE hkW
 by_cases hA : want = 2 ∧ K = 1 ∧ n.num ≤ 1
 ·obtain ⟨rfl, rfl, hnum⟩ := hA
  have HR : Hid (mustW n (y : Int) 2 (g, s1, s2) = (s1, s2)) := by unfold Hid; rw [HM.out, if_pos ⟨rfl, rfl, hnum⟩]
  have hnum2 : decide (n.num ≤ 1) = true := decide_eq_true hnum
  clear HM HSTOP
  go_wp2_with fail
  first | go_ret | (refine bodyPost_ret (v := .tuple #[]) (by simp [results, Tryz.results88, go_sem]) rfl ?_)
  exact ⟨rfl, by rw [HR.out]; exact (HCA.out _).1, (HCA.out _).2⟩
 ·have HM2 : Hid (mustW n (y : Int) want (g, s1, s2) = if s1 = 0 ∧ g ≠ want then metAt (s1, s2) 8 (y : Int) else (s1, s2)) := by unfold Hid; rw [HM.out, if_neg hA]
  have hcases : want ≠ 2 ∨ (want = 2 ∧ K ≠ 1) ∨ (want = 2 ∧ K = 1 ∧ 1 < n.num) := by omega
  clear HM hA
  have rest : ∀ (P : Prop), True := fun _ => trivial
  by_cases hB : s1 = 0 ∧ g ≠ want
  ·obtain ⟨rfl, hgw⟩ := hB
   have HR : Hid (mustW n (y : Int) want (g, 0, s2) = metAt (0, s2) 8 (y : Int)) := by unfold Hid; rw [HM2.out, if_pos ⟨rfl, hgw⟩]
   have hgw1 : (g == want) = false := by simpa using hgw
   have hgw2 : decide (g = want) = false := decide_eq_false hgw
   clear HM2 rest
   rcases hcases with h | ⟨rfl, h⟩ | ⟨rfl, rfl, h⟩
   ·have h1 : (want == 2) = false := by simpa using h
    have h2 : decide (want = 2) = false := decide_eq_false h
    go_wp2_with fail
    refine (HSTOP.out 8 _ (HCA.out _).1).mono ?_
    rintro e w2 ⟨rfl, hc2, hb2⟩
    have HC2 : Hid (Chk W0 w2 kp p aA V.length cA vl (metAt (0, s2) 8 (y : Int)) ∧ Sole kp W w2) := ⟨hc2, (HCA.out _).2.trans hb2⟩
    clear hc2 hb2
    go_wp2_with fail
    go_end0
    exact ⟨rfl, by rw [HR.out]; exact HC2.out.1, HC2.out.2⟩
   ·have h1 : (K == 1) = false := by simpa using h
    have h2 : decide (K = 1) = false := decide_eq_false h
    go_wp2_with fail
    refine (HSTOP.out 8 _ (HCA.out _).1).mono ?_
    rintro e w2 ⟨rfl, hc2, hb2⟩
    have HC2 : Hid (Chk W0 w2 kp p aA V.length cA vl (metAt (0, s2) 8 (y : Int)) ∧ Sole kp W w2) := ⟨hc2, (HCA.out _).2.trans hb2⟩
    clear hc2 hb2
    go_wp2_with fail
    go_end0
    exact ⟨rfl, by rw [HR.out]; exact HC2.out.1, HC2.out.2⟩
   ·go_wp2_with fail
    refine (HSTOP.out 8 _ (HCA.out _).1).mono ?_
    rintro e w2 ⟨rfl, hc2, hb2⟩
    have HC2 : Hid (Chk W0 w2 kp p aA V.length cA vl (metAt (0, s2) 8 (y : Int)) ∧ Sole kp W w2) := ⟨hc2, (HCA.out _).2.trans hb2⟩
    clear hc2 hb2
    go_wp2_with fail
    go_end0
    exact ⟨rfl, by rw [HR.out]; exact HC2.out.1, HC2.out.2⟩
  ·have HR : Hid (mustW n (y : Int) want (g, s1, s2) = (s1, s2)) := by unfold Hid; rw [HM2.out, if_neg hB]
   have hcase2 : s1 ≠ 0 ∨ (s1 = 0 ∧ g = want) := by
    by_cases h : s1 = 0
    ·exact .inr ⟨h, Classical.byContradiction fun h2 => hB ⟨h, h2⟩⟩
    ·exact .inl h
   clear HM2 hB rest HSTOP
   rcases hcases with h | ⟨rfl, h⟩ | ⟨rfl, rfl, h⟩ <;> rcases hcase2 with h3 | ⟨rfl, rfl⟩
   ·have h1 : (want == 2) = false := by simpa using h
    have h2 : decide (want = 2) = false := decide_eq_false h
    have h4 : (s1 == 0) = false := by simpa using h3
    have h5 : decide (s1 = 0) = false := decide_eq_false h3
    go_wp2_with fail
    go_end0
    exact ⟨rfl, by rw [HR.out]; exact (HCA.out _).1, (HCA.out _).2⟩
   ·have h1 : (g == 2) = false := by simpa using h
    have h2 : decide (g = 2) = false := decide_eq_false h
    go_wp2_with fail
    go_end0
    exact ⟨rfl, by rw [HR.out]; exact (HCA.out _).1, (HCA.out _).2⟩
   ·have h1 : (K == 1) = false := by simpa using h
    have h2 : decide (K = 1) = false := decide_eq_false h
    have h4 : (s1 == 0) = false := by simpa using h3
    have h5 : decide (s1 = 0) = false := decide_eq_false h3
    go_wp2_with fail
    go_end0
    exact ⟨rfl, by rw [HR.out]; exact (HCA.out _).1, (HCA.out _).2⟩
   ·have h1 : (K == 1) = false := by simpa using h
    have h2 : decide (K = 1) = false := decide_eq_false h
    go_wp2_with fail
    go_end0
    exact ⟨rfl, by rw [HR.out]; exact (HCA.out _).1, (HCA.out _).2⟩
   ·have h4 : (s1 == 0) = false := by simpa using h3
    have h5 : decide (s1 = 0) = false := decide_eq_false h3
    go_wp2_with fail
    go_end0
    exact ⟨rfl, by rw [HR.out]; exact (HCA.out _).1, (HCA.out _).2⟩
   ·go_wp2_with fail
    go_end0
    exact ⟨rfl, by rw [HR.out]; exact (HCA.out _).1, (HCA.out _).2⟩
end Go.Proofs.YteeklmgkhacbcaaGreatDoor
