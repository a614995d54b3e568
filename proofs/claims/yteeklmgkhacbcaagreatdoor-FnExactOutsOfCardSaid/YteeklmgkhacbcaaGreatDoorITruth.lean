/-
  impl.isTruth.
-/
import Derived.Test.YteeklmgkhacbcaaGreatDoorICkE
import Derived.RegionTactic
import Derived.Test.YteeklmgkhacbcaaGreatDoorTreeVar
import Derived.Test.YteeklmgkhacbcaaGreatDoorTreeMath
namespace Go.Proofs.YteeklmgkhacbcaaGreatDoor
open Go.RowKit
set_option linter.unusedVariables false
attribute [local go_sem] bs_size bs_get bs_extract bs_append bs_eq bs_toList
def plainT (V : List LVar) (n : LNode) : Int :=
 if n.kind = 2 ∨ n.kind = 3 then (if varFrom n.name V 0 < 0 then 1 else (V.getD (varFrom n.name V 0).toNat default).type)
 else if n.kind = 5 then 2 else if n.kind = 6 then (if 6 ≤ n.op then 2 else 1) else 1
theorem CkE.node {lo cp mp : Nat} {W : World} {vn vl : Value} {T : LTree} {V : List LVar} (h : CkE lo W cp mp vn vl T V) (x : Nat) (hx : x < T.nodes.length) :
  ∃ bn on cn, vn = .slice (some ⟨bn, on, none⟩) T.nodes.length cn ∧ ∃ vk vt ve, NodeCells W bn (on + x * 8) (nodeOf T.nodes (x : Int)) vk vt ve ∧ IntsV lo W vk (nodeOf T.nodes (x : Int)).kids ∧ (∃ a c, vk = .slice a (nodeOf T.nodes (x : Int)).kids.length c) ∧ (∃ a l c, vt = .slice a l c) ∧ (∃ a l c, ve = .slice a l c) := by
 obtain ⟨an, cn, rfl, _, hh⟩ := id h.nodes
 obtain ⟨bn, on, rfl, _, hc⟩ := hh (by intro e; rw [e] at hx; simp at hx)
 have hxe : T.nodes[x]? = some (nodeOf T.nodes (x : Int)) := by unfold nodeOf; rw [Int.toNat_natCast, List.getD_eq_getElem?_getD, List.getElem?_eq_getElem hx]; rfl
 obtain ⟨vk, vt, ve, h1, h2⟩ := hc x _ hxe
 obtain ⟨a1, c1, e1, _⟩ := id h2.kids
 obtain ⟨a2, c2, e2, _⟩ := id h2.thn
 obtain ⟨a3, c3, e3, _⟩ := id h2.els
 exact ⟨bn, on, cn, rfl, vk, vt, ve, h1, h2.kids, ⟨_, _, e1⟩, ⟨_, _, _, e2⟩, ⟨_, _, _, e3⟩⟩
set_option maxHeartbeats 6400000 in
set_option maxRecDepth 100000 in
theorem plainType_any (lo cp mp : Nat) (W : World) (vn vl : Value) (T : LTree) (V : List LVar) (x : Nat) (hE : CkE lo W cp mp vn vl T V) (hx : x < T.nodes.length) (hnm : (nodeOf T.nodes (x : Int)).name.length ≤ 1048576) :
  Calls Tryz.prog 155 #[.pointer (some ⟨cp, 0, none⟩), .int .i64 (x : Int)] W fun e w' => e = .returned (.int .i64 (plainT V (nodeOf T.nodes (x : Int)))) ∧ Below W.heap.size W w' := by
 obtain ⟨bn, on, cn, rfl, vk, vt, ve, ⟨d0, d1, d2, d3, d4, d5, d6, d7⟩, _, ⟨a, c, rfl⟩, ⟨a2, l2, c2, rfl⟩, ⟨a3, l3, c3, rfl⟩⟩ := hE.node x hx
 obtain ⟨k0, k1⟩ := cl2 hE.row
 have hkl := blk_lt hE.row
 have hml := hE.map.lt
 obtain ⟨n, hn⟩ : ∃ n, n = nodeOf T.nodes (x : Int) := ⟨_, rfl⟩
 rw [← hn] at d0 d1 d2 d3 d4 d5 hnm ⊢
 have hnl := hE.good.nodes
 have hx0 : (0 : Int) ≤ (x : Int) := by omega
 have hx1 : (x : Int) < (T.nodes.length : Int) := by omega
 have HMP : Hid (NamesAt W mp V T.vars.length) := hE.map
 have hLK : ∀ Z, NamesAt Z mp V T.vars.length → (Instr.lookup 180 (.map (some mp)) (.string (bs n.name)) true).run Tryz.prog Z = .ok (.tuple #[lookV V T.vars.length V.length n.name, .bool (firstI V n.name V.length).isSome]) Z := fun Z h => names_look h n.name hnm
 have HFR : Hid ((∀ i, firstI V n.name V.length = some i → varFrom n.name V 0 = (i : Int)) ∧ (firstI V n.name V.length = none → varFrom n.name V 0 = -1)) := by
  obtain ⟨h1, h2⟩ := firstI_from V n.name V.length (Nat.le_refl _)
  exact ⟨fun i hi => (h1 i hi).1, fun hn => by rw [h2 hn, List.drop_length]; rfl⟩
 have HPT : Hid (plainT V n = if n.kind = 2 ∨ n.kind = 3 then (if varFrom n.name V 0 < 0 then 1 else (V.getD (varFrom n.name V 0).toNat default).type) else if n.kind = 5 then 2 else if n.kind = 6 then (if 6 ≤ n.op then 2 else 1) else 1) := rfl
 have HLK : Hid _ := hLK
 obtain ⟨R, hR⟩ : ∃ R, R = plainT V n := ⟨_, rfl⟩
 rw [← hR] at HPT ⊢
 clear hLK hn hE hR
 by_cases k5 : n.kind = 5
 ·have HR : Hid (R = 2) := by unfold Hid; rw [HPT.out, if_neg (by omega), if_pos k5]
  clear HPT HFR HLK HMP
  go_enter Tryz.func155, Tryz.ntmps155
  go_wp2
  go_ret
  exact ⟨by rw [HR.out]; rfl, by go_grown⟩
 by_cases k6 : n.kind = 6
 ·by_cases ho : 6 ≤ n.op
  ·have HR : Hid (R = 2) := by unfold Hid; rw [HPT.out, if_neg (by omega), if_neg k5, if_pos k6, if_pos ho]
   clear HPT HFR HLK HMP
   go_enter Tryz.func155, Tryz.ntmps155
   go_wp2
   go_ret
   exact ⟨by rw [HR.out]; rfl, by go_grown⟩
  ·have HR : Hid (R = 1) := by unfold Hid; rw [HPT.out, if_neg (by omega), if_neg k5, if_pos k6, if_neg ho]
   clear HPT HFR HLK HMP
   go_enter Tryz.func155, Tryz.ntmps155
   go_wp2
   go_ret
   exact ⟨by rw [HR.out]; rfl, by go_grown⟩
 by_cases k23 : n.kind = 2 ∨ n.kind = 3
 case neg =>
  have k2 : ¬ n.kind = 2 := fun h => k23 (.inl h)
  have k3 : ¬ n.kind = 3 := fun h => k23 (.inr h)
  have HR : Hid (R = 1) := by unfold Hid; rw [HPT.out, if_neg k23, if_neg k5, if_neg k6]
  clear HPT HFR HLK HMP k23
  go_enter Tryz.func155, Tryz.ntmps155
  go_wp2
  go_ret
  exact ⟨by rw [HR.out]; rfl, by go_grown⟩
 have HR0 : Hid (R = if varFrom n.name V 0 < 0 then 1 else (V.getD (varFrom n.name V 0).toNat default).type) := by unfold Hid; rw [HPT.out, if_pos k23]
 clear HPT k5 k6
 have hne : ¬ mp = W.heap.size := by omega
 cases hr : firstI V n.name V.length with
 | some i =>
  have hvf := HFR.out.1 i hr
  obtain ⟨y0, y1, y3, y4, y5, hy⟩ : ∃ y0 y1 y3 y4 y5, entVal V T.vars.length i = .agg #[.string (bs y0), .int .i64 y1, .int .i64 (V.getD i default).type, .int .i64 y3, .bool y4, .int .i64 y5] := ⟨_, _, _, _, _, rfl⟩
  have HR : Hid (R = (V.getD i default).type) := by unfold Hid; rw [HR0.out, hvf, if_neg (by omega), Int.toNat_natCast]
  have hlk : ∀ Z, NamesAt Z mp V T.vars.length → (Instr.lookup 180 (.map (some mp)) (.string (bs n.name)) true).run Tryz.prog Z = .ok (.tuple #[.agg #[.string (bs y0), .int .i64 y1, .int .i64 (V.getD i default).type, .int .i64 y3, .bool y4, .int .i64 y5], .bool true]) Z := fun Z h => by
   rw [HLK.out Z h]
   have e1 : lookV V T.vars.length V.length n.name = .agg #[.string (bs y0), .int .i64 y1, .int .i64 (V.getD i default).type, .int .i64 y3, .bool y4, .int .i64 y5] := by unfold lookV; rw [hr]; exact hy
   rw [e1, hr]; rfl
  clear hr hy hvf HR0 HFR HLK
  generalize (V.getD i default).type = ty at *
  rcases k23 with k2 | k2
  ·have hK := k2
   clear k2
   rw [hK] at d0
   go_enter Tryz.func155, Tryz.ntmps155
   go_wp2_with fail
   have hA := heap_alloc_new W (.cells #[.int .i64 2, .int .i64 n.op, .string (bs n.name), .int .i64 n.num, .int .i64 n.far, .slice a n.kids.length c, .slice a2 l2 c2, .slice a3 l3 c3] 88)
   have hB : Below W.heap.size W (W.alloc (.cells #[.int .i64 2, .int .i64 n.op, .string (bs n.name), .int .i64 n.num, .int .i64 n.far, .slice a n.kids.length c, .slice a2 l2 c2, .slice a3 l3 c3] 88)) := (Below.refl _ _).alloc (Nat.le_refl _) _
   generalize hW5 : W.alloc (.cells #[.int .i64 2, .int .i64 n.op, .string (bs n.name), .int .i64 n.num, .int .i64 n.far, .slice a n.kids.length c, .slice a2 l2 c2, .slice a3 l3 c3] 88) = W5 at *
   clear hW5
   have q1 : W5.cell? ⟨cp, 1, none⟩ = some (.map (some mp)) := (hB.cell (p := ⟨cp, 1, none⟩) hkl).trans k1
   have q2 : W5.cell? ⟨W.heap.size, 2, none⟩ = some (.string (bs n.name)) := cell_of_row _ _ 2 _ _ _ hA
   have hm5 : NamesAt W5 mp V T.vars.length := ownsMap_block HMP.out (hB.block _ hml)
   have hMA : ∀ (Z : World) (o : Obj), NamesAt Z mp V T.vars.length → NamesAt (Z.alloc o) mp V T.vars.length := fun Z o h => h.alloc o
   have hMS : ∀ (Z : World) (q : Addr) (u : Value), ¬ mp = q.block → NamesAt Z mp V T.vars.length → NamesAt (Z.setCell q u) mp V T.vars.length := fun Z q u hq h => h.setCell hq u
   have hMD : NamesAt W5.drew mp V T.vars.length := hm5
   have hMR : ∀ (Z : World), NamesAt Z mp V T.vars.length → NamesAt Z.drew mp V T.vars.length := fun Z h => h
   clear k0 k1 d0 d1 d2 d3 d4 d5 d6 d7 hA HMP
   go_region_held3 (fun Z => Z.cell? ⟨cp, 1, none⟩ = some (.map (some mp)) ∧ Z.cell? ⟨W.heap.size, 2, none⟩ = some (.string (bs n.name)) ∧ NamesAt Z mp V T.vars.length) (go_keep) (fail)
   all_goals (go_wp2_with fail; go_ret; refine ⟨by rw [HR.out]; rfl, ?_⟩; have hsz := hB.size; go_grown)
  ·have hK := k2
   clear k2
   rw [hK] at d0
   go_enter Tryz.func155, Tryz.ntmps155
   go_wp2_with fail
   have hA := heap_alloc_new W (.cells #[.int .i64 3, .int .i64 n.op, .string (bs n.name), .int .i64 n.num, .int .i64 n.far, .slice a n.kids.length c, .slice a2 l2 c2, .slice a3 l3 c3] 88)
   have hB : Below W.heap.size W (W.alloc (.cells #[.int .i64 3, .int .i64 n.op, .string (bs n.name), .int .i64 n.num, .int .i64 n.far, .slice a n.kids.length c, .slice a2 l2 c2, .slice a3 l3 c3] 88)) := (Below.refl _ _).alloc (Nat.le_refl _) _
   generalize hW5 : W.alloc (.cells #[.int .i64 3, .int .i64 n.op, .string (bs n.name), .int .i64 n.num, .int .i64 n.far, .slice a n.kids.length c, .slice a2 l2 c2, .slice a3 l3 c3] 88) = W5 at *
   clear hW5
   have q1 : W5.cell? ⟨cp, 1, none⟩ = some (.map (some mp)) := (hB.cell (p := ⟨cp, 1, none⟩) hkl).trans k1
   have q2 : W5.cell? ⟨W.heap.size, 2, none⟩ = some (.string (bs n.name)) := cell_of_row _ _ 2 _ _ _ hA
   have hm5 : NamesAt W5 mp V T.vars.length := ownsMap_block HMP.out (hB.block _ hml)
   have hMA : ∀ (Z : World) (o : Obj), NamesAt Z mp V T.vars.length → NamesAt (Z.alloc o) mp V T.vars.length := fun Z o h => h.alloc o
   have hMS : ∀ (Z : World) (q : Addr) (u : Value), ¬ mp = q.block → NamesAt Z mp V T.vars.length → NamesAt (Z.setCell q u) mp V T.vars.length := fun Z q u hq h => h.setCell hq u
   have hMD : NamesAt W5.drew mp V T.vars.length := hm5
   have hMR : ∀ (Z : World), NamesAt Z mp V T.vars.length → NamesAt Z.drew mp V T.vars.length := fun Z h => h
   clear k0 k1 d0 d1 d2 d3 d4 d5 d6 d7 hA HMP
   go_region_held3 (fun Z => Z.cell? ⟨cp, 1, none⟩ = some (.map (some mp)) ∧ Z.cell? ⟨W.heap.size, 2, none⟩ = some (.string (bs n.name)) ∧ NamesAt Z mp V T.vars.length) (go_keep) (fail)
   all_goals (go_wp2_with fail; go_ret; refine ⟨by rw [HR.out]; rfl, ?_⟩; have hsz := hB.size; go_grown)
 | none =>
  have hvf := HFR.out.2 hr
  have HR : Hid (R = 1) := by unfold Hid; rw [HR0.out, hvf, if_pos (by omega)]
  have hlk : ∀ Z, NamesAt Z mp V T.vars.length → (Instr.lookup 180 (.map (some mp)) (.string (bs n.name)) true).run Tryz.prog Z = .ok (.tuple #[.agg #[.string ⟨#[]⟩, .int .i64 0, .int .i64 0, .int .i64 0, .bool false, .int .i64 0], .bool false]) Z := fun Z h => by
   rw [HLK.out Z h]
   have e1 : lookV V T.vars.length V.length n.name = noVal := by unfold lookV; rw [hr]
   rw [e1, hr]; rfl
  clear hr hvf HR0 HFR HLK
  rcases k23 with k2 | k2
  ·have hK := k2
   clear k2
   rw [hK] at d0
   go_enter Tryz.func155, Tryz.ntmps155
   go_wp2_with fail
   have hA := heap_alloc_new W (.cells #[.int .i64 2, .int .i64 n.op, .string (bs n.name), .int .i64 n.num, .int .i64 n.far, .slice a n.kids.length c, .slice a2 l2 c2, .slice a3 l3 c3] 88)
   have hB : Below W.heap.size W (W.alloc (.cells #[.int .i64 2, .int .i64 n.op, .string (bs n.name), .int .i64 n.num, .int .i64 n.far, .slice a n.kids.length c, .slice a2 l2 c2, .slice a3 l3 c3] 88)) := (Below.refl _ _).alloc (Nat.le_refl _) _
   generalize hW5 : W.alloc (.cells #[.int .i64 2, .int .i64 n.op, .string (bs n.name), .int .i64 n.num, .int .i64 n.far, .slice a n.kids.length c, .slice a2 l2 c2, .slice a3 l3 c3] 88) = W5 at *
   clear hW5
   have q1 : W5.cell? ⟨cp, 1, none⟩ = some (.map (some mp)) := (hB.cell (p := ⟨cp, 1, none⟩) hkl).trans k1
   have q2 : W5.cell? ⟨W.heap.size, 2, none⟩ = some (.string (bs n.name)) := cell_of_row _ _ 2 _ _ _ hA
   have hm5 : NamesAt W5 mp V T.vars.length := ownsMap_block HMP.out (hB.block _ hml)
   have hMA : ∀ (Z : World) (o : Obj), NamesAt Z mp V T.vars.length → NamesAt (Z.alloc o) mp V T.vars.length := fun Z o h => h.alloc o
   have hMS : ∀ (Z : World) (q : Addr) (u : Value), ¬ mp = q.block → NamesAt Z mp V T.vars.length → NamesAt (Z.setCell q u) mp V T.vars.length := fun Z q u hq h => h.setCell hq u
   have hMD : NamesAt W5.drew mp V T.vars.length := hm5
   have hMR : ∀ (Z : World), NamesAt Z mp V T.vars.length → NamesAt Z.drew mp V T.vars.length := fun Z h => h
   clear k0 k1 d0 d1 d2 d3 d4 d5 d6 d7 hA HMP
   go_region_held3 (fun Z => Z.cell? ⟨cp, 1, none⟩ = some (.map (some mp)) ∧ Z.cell? ⟨W.heap.size, 2, none⟩ = some (.string (bs n.name)) ∧ NamesAt Z mp V T.vars.length) (go_keep) (fail)
   all_goals (go_wp2_with fail; go_ret; refine ⟨by rw [HR.out]; rfl, ?_⟩; have hsz := hB.size; go_grown)
  ·have hK := k2
   clear k2
   rw [hK] at d0
   go_enter Tryz.func155, Tryz.ntmps155
   go_wp2_with fail
   have hA := heap_alloc_new W (.cells #[.int .i64 3, .int .i64 n.op, .string (bs n.name), .int .i64 n.num, .int .i64 n.far, .slice a n.kids.length c, .slice a2 l2 c2, .slice a3 l3 c3] 88)
   have hB : Below W.heap.size W (W.alloc (.cells #[.int .i64 3, .int .i64 n.op, .string (bs n.name), .int .i64 n.num, .int .i64 n.far, .slice a n.kids.length c, .slice a2 l2 c2, .slice a3 l3 c3] 88)) := (Below.refl _ _).alloc (Nat.le_refl _) _
   generalize hW5 : W.alloc (.cells #[.int .i64 3, .int .i64 n.op, .string (bs n.name), .int .i64 n.num, .int .i64 n.far, .slice a n.kids.length c, .slice a2 l2 c2, .slice a3 l3 c3] 88) = W5 at *
   clear hW5
   have q1 : W5.cell? ⟨cp, 1, none⟩ = some (.map (some mp)) := (hB.cell (p := ⟨cp, 1, none⟩) hkl).trans k1
   have q2 : W5.cell? ⟨W.heap.size, 2, none⟩ = some (.string (bs n.name)) := cell_of_row _ _ 2 _ _ _ hA
   have hm5 : NamesAt W5 mp V T.vars.length := ownsMap_block HMP.out (hB.block _ hml)
   have hMA : ∀ (Z : World) (o : Obj), NamesAt Z mp V T.vars.length → NamesAt (Z.alloc o) mp V T.vars.length := fun Z o h => h.alloc o
   have hMS : ∀ (Z : World) (q : Addr) (u : Value), ¬ mp = q.block → NamesAt Z mp V T.vars.length → NamesAt (Z.setCell q u) mp V T.vars.length := fun Z q u hq h => h.setCell hq u
   have hMD : NamesAt W5.drew mp V T.vars.length := hm5
   have hMR : ∀ (Z : World), NamesAt Z mp V T.vars.length → NamesAt Z.drew mp V T.vars.length := fun Z h => h
   clear k0 k1 d0 d1 d2 d3 d4 d5 d6 d7 hA HMP
   go_region_held3 (fun Z => Z.cell? ⟨cp, 1, none⟩ = some (.map (some mp)) ∧ Z.cell? ⟨W.heap.size, 2, none⟩ = some (.string (bs n.name)) ∧ NamesAt Z mp V T.vars.length) (go_keep) (fail)
   all_goals (go_wp2_with fail; go_ret; refine ⟨by rw [HR.out]; rfl, ?_⟩; have hsz := hB.size; go_grown)
def sidesT (V : List LVar) (N : List LNode) (n : LNode) : Int :=
 if 6 ≤ n.op ∧ n.op ≤ 8 then 2
 else if n.op = 10 then (if (nodeOf N (n.kids.getD 0 0)).kind = 1 then plainT V (nodeOf N (n.kids.getD 1 0)) else plainT V (nodeOf N (n.kids.getD 0 0))) else 1
set_option maxHeartbeats 6400000 in
set_option maxRecDepth 100000 in
theorem sides_any (lo cp mp : Nat) (W : World) (vn vl vk vt ve : Value) (T : LTree) (V : List LVar) (n : LNode) (hE : CkE lo W cp mp vn vl T V) (hk : n.kids.length = 2) (hkk : ∀ y ∈ n.kids, 0 ≤ y ∧ y < (T.nodes.length : Int)) (hi : IntsV lo W vk n.kids) (h2 : ∃ a l c, vt = .slice a l c) (h3 : ∃ a l c, ve = .slice a l c) (hop : 1 ≤ n.op ∧ n.op ≤ 10) (hnm : ∀ y : Nat, y < T.nodes.length → (nodeOf T.nodes (y : Int)).name.length ≤ 1048576) :
  Calls Tryz.prog 156 #[.pointer (some ⟨cp, 0, none⟩), nodeV n vk vt ve] W fun e w' => e = .returned (.int .i64 (sidesT V T.nodes n)) ∧ Below W.heap.size W w' := by
 obtain ⟨a2, l2, c2, rfl⟩ := h2
 obtain ⟨a3, l3, c3, rfl⟩ := h3
 obtain ⟨ak, ck, rfl, _, hih⟩ := id hi
 obtain ⟨bk, ok, rfl, _, hik⟩ := hih (by intro e; rw [e] at hk; simp at hk)
 obtain ⟨u, v, huv⟩ : ∃ u v, n.kids = [u, v] := by
  match hl : n.kids, hk with
  | [u, v], _ => exact ⟨u, v, rfl⟩
 have hu := hkk u (by rw [huv]; simp)
 have hv := hkk v (by rw [huv]; simp)
 obtain ⟨U, rfl⟩ := Int.eq_ofNat_of_zero_le hu.1
 obtain ⟨Y, rfl⟩ := Int.eq_ofNat_of_zero_le hv.1
 have hU : U < T.nodes.length := by omega
 have hY : Y < T.nodes.length := by omega
 have HRES : Hid (sidesT V T.nodes n = if 6 ≤ n.op ∧ n.op ≤ 8 then 2 else if n.op = 10 then (if (nodeOf T.nodes (U : Int)).kind = 1 then plainT V (nodeOf T.nodes (Y : Int)) else plainT V (nodeOf T.nodes (U : Int))) else 1) := by unfold Hid sidesT; rw [huv]; rfl
 obtain ⟨R, hR⟩ : ∃ R, R = sidesT V T.nodes n := ⟨_, rfl⟩
 rw [← hR] at HRES ⊢
 clear hR
 have hb1 : Below W.heap.size W (W.alloc (.cells #[.int .i64 n.kind, .int .i64 n.op, .string (bs n.name), .int .i64 n.num, .int .i64 n.far, .slice (some ⟨bk, ok, none⟩) n.kids.length ck, .slice a2 l2 c2, .slice a3 l3 c3] 88)) := (Below.refl _ _).alloc (Nat.le_refl _) _
 have hE1 := hE.below hb1
 have hi1 := hi.below hb1
 obtain ⟨_, _, e1, _, hih1⟩ := id hi1
 injection e1 with e1 e2 e3
 subst e1 e3
 obtain ⟨_, _, e4, _, hik1⟩ := hih1 (by intro e; rw [e] at hk; simp at hk)
 injection e4 with e4
 injection e4 with e4 e5
 subst e4 e5
 have w0 := hik1 0 (U : Int) (by rw [huv]; rfl)
 have w1 := hik1 1 (Y : Int) (by rw [huv]; rfl)
 obtain ⟨bn, on, cn, rfl, vk', vt', ve', ⟨d0, d1, d2, d3, d4, d5, d6, d7⟩, _⟩ := hE1.node U hU
 have k0 : (W.alloc (.cells #[.int .i64 n.kind, .int .i64 n.op, .string (bs n.name), .int .i64 n.num, .int .i64 n.far, .slice (some ⟨bk, ok, none⟩) n.kids.length ck, .slice a2 l2 c2, .slice a3 l3 c3] 88)).cell? ⟨cp, 0, none⟩ = some (.slice (some ⟨bn, on, none⟩) T.nodes.length cn) := cell_of_row _ _ 0 _ _ _ hE1.row
 have HP : Hid (∀ (y : Nat) (W' : World), y < T.nodes.length → Below W.heap.size W W' → Calls Tryz.prog 155 #[.pointer (some ⟨cp, 0, none⟩), .int .i64 (y : Int)] W' fun e w' => e = .returned (.int .i64 (plainT V (nodeOf T.nodes (y : Int)))) ∧ Below W'.heap.size W' w') := fun y W' hy hb => plainType_any lo cp mp W' _ vl T V y (hE.below hb) hy (hnm y hy)
 have hnl := hE.good.nodes
 have hu0 : (0 : Int) ≤ (U : Int) := by omega
 have hu1 : (U : Int) < (T.nodes.length : Int) := by omega
 have HB1 : Hid _ := hb1
 have hkl2 : (n.kids.length : Int) = 2 := by omega
 obtain ⟨hop1, hop2⟩ := hop
 clear hih hik hih1 hik1 hi hi1 hE hE1 hb1 hu hv hkk hnm d1 d2 d3 d4 d5 d6 d7 huv
 simp only [Nat.add_zero] at w0
 generalize n.kids.length = KL at *
 subst hk
 by_cases h68 : 6 ≤ n.op ∧ n.op ≤ 8
 ·have HR : Hid (R = 2) := by unfold Hid; rw [HRES.out, if_pos h68]
  have h : n.op = 6 ∨ n.op = 7 ∨ n.op = 8 := by omega
  clear HRES HP h68
  rcases h with h | h | h
  all_goals
   go_enter Tryz.func156, Tryz.ntmps156
   go_wp2
   go_ret
   exact ⟨by rw [HR.out]; rfl, by go_grown⟩
 by_cases h10 : n.op = 10
 ·have HR : Hid (R = if (nodeOf T.nodes (U : Int)).kind = 1 then plainT V (nodeOf T.nodes (Y : Int)) else plainT V (nodeOf T.nodes (U : Int))) := by unfold Hid; rw [HRES.out, if_neg h68, if_pos h10]
  clear HRES h68
  generalize (nodeOf T.nodes (U : Int)).kind = KU at *
  rw [h10] at w0 w1 d0 k0 HB1
  have hBD : ∀ W', Below W.heap.size W W' → ∀ k, Below W.heap.size W (W'.drewN k) := fun W' h k => ⟨h.os, h.tape, h.output, h.size, h.block⟩
  have HBD : Hid _ := hBD
  clear hBD
  by_cases hk1 : KU = 1
  ·subst hk1
   have HR2 : Hid (R = plainT V (nodeOf T.nodes (Y : Int))) := by unfold Hid; rw [HR.out, if_pos rfl]
   clear HR
   go_enter Tryz.func156, Tryz.ntmps156
   go_wp2_with fail
   go_region
   go_wp2_with fail
   refine (HP.out Y _ hY (by first | exact HB1.out | exact HB1.out.drew | exact HBD.out _ HB1.out _)).mono ?_
   rintro e w2 ⟨rfl, hb⟩
   have HB2 : Hid (Below W.heap.size W w2) := Below.trans (by first | exact HB1.out | exact HB1.out.drew | exact HBD.out _ HB1.out _) (hb.mono (by simp))
   clear hb
   go_wp2_with fail
   go_ret
   exact ⟨by rw [HR2.out]; rfl, HB2.out⟩
  ·have HR2 : Hid (R = plainT V (nodeOf T.nodes (U : Int))) := by unfold Hid; rw [HR.out, if_neg hk1]
   have hk2 : (KU == 1) = false := by simpa using hk1
   clear HR hk1
   go_enter Tryz.func156, Tryz.ntmps156
   go_wp2_with fail
   go_region
   go_wp2_with fail
   refine (HP.out U _ hU (by first | exact HB1.out | exact HB1.out.drew | exact HBD.out _ HB1.out _)).mono ?_
   rintro e w2 ⟨rfl, hb⟩
   have HB2 : Hid (Below W.heap.size W w2) := Below.trans (by first | exact HB1.out | exact HB1.out.drew | exact HBD.out _ HB1.out _) (hb.mono (by simp))
   clear hb
   go_wp2_with fail
   go_ret
   exact ⟨by rw [HR2.out]; rfl, HB2.out⟩
 ·have HR : Hid (R = 1) := by unfold Hid; rw [HRES.out, if_neg h68, if_neg h10]
  have h6 : ¬ n.op = 6 := by omega
  have h7 : ¬ n.op = 7 := by omega
  have h8 : ¬ n.op = 8 := by omega
  clear HRES HP h68
  go_enter Tryz.func156, Tryz.ntmps156
  go_wp2
  go_ret
  exact ⟨by rw [HR.out]; rfl, by go_grown⟩
end Go.Proofs.YteeklmgkhacbcaaGreatDoor
namespace Go.Proofs.YteeklmgkhacbcaaGreatDoor
open Go.RowKit
set_option linter.unusedVariables false
theorem metAt_or (st : Met) (c x : Int) (hc : c ≠ 0) : metAt st c x = st ∨ (metAt st c x).1 ≠ 0 := by
 unfold metAt
 split
 ·exact .inr hc
 ·exact .inl rfl
theorem nameF_or (V : List LVar) (nv : Nat) (nm : List UInt8) (row : Bool) (x : Int) (st : Met) : (nameF V nv nm row x st).2 = st ∨ (nameF V nv nm row x st).2.1 ≠ 0 := by
 unfold nameF
 split
 ·exact metAt_or st 4 x (by decide)
 split
 ·exact metAt_or st 1 x (by decide)
 ·exact .inl rfl
theorem mustW_or (n : LNode) (y want : Int) (r : Int × Met) : mustW n y want r = r.2 ∨ (mustW n y want r).1 ≠ 0 := by
 unfold mustW
 split
 ·exact .inl rfl
 split
 ·exact metAt_or r.2 8 y (by decide)
 ·exact .inl rfl
theorem must_or {V : List LVar} {nv f : Nat} {N : List LNode} (ih : ∀ (x : Int) (st : Met), (typeF V nv N f x st).2 = st ∨ (typeF V nv N f x st).2.1 ≠ 0) (y want : Int) (st : Met) : mustW (nodeOf N y) y want (typeF V nv N f y st) = st ∨ (mustW (nodeOf N y) y want (typeF V nv N f y st)).1 ≠ 0 := by
 rcases mustW_or (nodeOf N y) y want (typeF V nv N f y st) with h | h
 ·rw [h]; exact ih y st
 ·exact .inr h
theorem typeF_or {V : List LVar} {nv : Nat} {N : List LNode} : ∀ (f : Nat) (x : Int) (st : Met), (typeF V nv N f x st).2 = st ∨ (typeF V nv N f x st).2.1 ≠ 0 := by
 intro f
 induction f with
 | zero => intro x st; exact .inl rfl
 | succ f ih =>
  intro x st
  simp only [typeF]
  by_cases h1 : (nodeOf N x).kind = 1
  ·rw [if_pos h1]; exact .inl rfl
  rw [if_neg h1]
  by_cases h2 : (nodeOf N x).kind = 2
  ·rw [if_pos h2]; exact nameF_or _ _ _ _ _ _
  rw [if_neg h2]
  by_cases h3 : (nodeOf N x).kind = 3
  ·rw [if_pos h3]
   rcases nameF_or V nv (nodeOf N x).name true x st with h | h
   ·rw [h]; exact must_or ih ((nodeOf N x).kids.getD 0 0) 1 st
   ·rcases must_or ih ((nodeOf N x).kids.getD 0 0) 1 (nameF V nv (nodeOf N x).name true x st).2 with h' | h'
    ·exact .inr (by rw [h']; exact h)
    ·exact .inr h'
  rw [if_neg h3]
  by_cases h4 : (nodeOf N x).kind = 4
  ·rw [if_pos h4]; exact must_or ih ((nodeOf N x).kids.getD 0 0) 1 st
  rw [if_neg h4]
  by_cases h5 : (nodeOf N x).kind = 5
  ·rw [if_pos h5]; exact must_or ih ((nodeOf N x).kids.getD 0 0) 2 st
  rw [if_neg h5]
  rcases must_or ih ((nodeOf N x).kids.getD 0 0) (wantF V N (nodeOf N x)) st with h | h
  ·rw [h]; exact must_or ih ((nodeOf N x).kids.getD 1 0) (wantF V N (nodeOf N x)) st
  ·rcases must_or ih ((nodeOf N x).kids.getD 1 0) (wantF V N (nodeOf N x)) (mustW (nodeOf N ((nodeOf N x).kids.getD 0 0)) ((nodeOf N x).kids.getD 0 0) (wantF V N (nodeOf N x)) (typeF V nv N f ((nodeOf N x).kids.getD 0 0) st)) with h' | h'
   ·exact .inr (by rw [h']; exact h)
   ·exact .inr h'
theorem nameF_plain {V : List LVar} {nv : Nat} {nm : List UInt8} {row : Bool} {x : Int} {m : Int} (h : (nameF V nv nm row x (0, m)).2.1 = 0) : (nameF V nv nm row x (0, m)).1 = (if varFrom nm V 0 < 0 then 1 else (V.getD (varFrom nm V 0).toNat default).type) := by
 unfold nameF at h ⊢
 split at h
 ·rw [metAt_zero] at h; simp at h
 rename_i h1
 split at h
 ·rw [metAt_zero] at h; simp at h
 rename_i h2
 rw [if_neg h1, if_neg h2, if_neg (fun e => h1 (.inl e))]
theorem typeF_plain {V : List LVar} {nv : Nat} {N : List LNode} (f : Nat) (x m : Int) (hk : 1 ≤ (nodeOf N x).kind ∧ (nodeOf N x).kind ≤ 6) (h : (typeF V nv N (f + 1) x (0, m)).2.1 = 0) : (typeF V nv N (f + 1) x (0, m)).1 = plainT V (nodeOf N x) := by
 simp only [typeF] at h ⊢
 unfold plainT
 by_cases h1 : (nodeOf N x).kind = 1
 ·rw [if_pos h1, if_neg (show ¬ ((nodeOf N x).kind = 2 ∨ (nodeOf N x).kind = 3) by omega), if_neg (show ¬ (nodeOf N x).kind = 5 by omega), if_neg (show ¬ (nodeOf N x).kind = 6 by omega)]
 rw [if_neg h1] at h ⊢
 by_cases h2 : (nodeOf N x).kind = 2
 ·rw [if_pos h2] at h ⊢
  rw [if_pos (.inl h2)]
  exact nameF_plain h
 rw [if_neg h2] at h ⊢
 by_cases h3 : (nodeOf N x).kind = 3
 ·rw [if_pos h3] at h ⊢
  rw [if_pos (.inr h3)]
  refine nameF_plain (Classical.byContradiction fun hn => ?_)
  have e := typeF_met (V := V) (nv := nv) (N := N) f ((nodeOf N x).kids.getD 0 0) hn
  have e2 : typeF V nv N f ((nodeOf N x).kids.getD 0 0) (nameF V nv (nodeOf N x).name true x (0, m)).2 = ((typeF V nv N f ((nodeOf N x).kids.getD 0 0) (nameF V nv (nodeOf N x).name true x (0, m)).2).1, (nameF V nv (nodeOf N x).name true x (0, m)).2) := Prod.ext rfl e
  rw [e2, mustW_met hn] at h
  exact hn h
 rw [if_neg h3] at h ⊢
 rw [if_neg (show ¬ ((nodeOf N x).kind = 2 ∨ (nodeOf N x).kind = 3) by omega)]
 by_cases h4 : (nodeOf N x).kind = 4
 ·rw [if_pos h4, if_neg (show ¬ (nodeOf N x).kind = 5 by omega), if_neg (show ¬ (nodeOf N x).kind = 6 by omega)]
 rw [if_neg h4] at h ⊢
 by_cases h5 : (nodeOf N x).kind = 5
 ·rw [if_pos h5, if_pos h5]
 rw [if_neg h5] at h ⊢
 rw [if_neg h5, if_pos (show (nodeOf N x).kind = 6 by omega)]
 show (if (nodeOf N x).op ≤ 5 then (1 : Int) else 2) = _
 by_cases ho : (nodeOf N x).op ≤ 5
 ·rw [if_pos ho, if_neg (by omega)]
 ·rw [if_neg ho, if_pos (by omega)]
set_option maxHeartbeats 800000 in
theorem within_any (z a b : Int) (w : World) :
  Calls Tryz.prog 96 #[.int .i64 z, .int .i64 a, .int .i64 b] w fun e w' => e = .returned (.bool (inB z a b)) ∧ w' = w := by
 by_cases h1 : a ≤ z
 ·by_cases h2 : z ≤ b
  ·have e : inB z a b = true := inB_iff.2 ⟨h1, h2⟩
   rw [e]
   go_enter Tryz.func96, Tryz.ntmps96
   go_wp2
   go_ret
   exact ⟨rfl, rfl⟩
  ·have e : inB z a b = false := inB_no.2 (fun h => h2 h.2)
   rw [e]
   go_enter Tryz.func96, Tryz.ntmps96
   go_wp2
   go_ret
   exact ⟨rfl, rfl⟩
 ·have e : inB z a b = false := inB_no.2 (fun h => h1 h.1)
  rw [e]
  go_enter Tryz.func96, Tryz.ntmps96
  go_wp2
  go_ret
  exact ⟨rfl, rfl⟩
theorem within_as (z a b b' : Int) (h : b' = b) (w : World) :
  Calls Tryz.prog 96 #[.int .i64 z, .int .i64 a, .int .i64 b'] w fun e w' => e = .returned (.bool (inB z a b)) ∧ w' = w := by
 subst h; exact within_any z a b' w
set_option maxHeartbeats 800000 in
theorem isExpression_any (z : Int) (w : World) : Calls Tryz.prog 137 #[.int .i64 z] w fun e w' => e = .returned (.bool (inB z 1 6)) ∧ w' = w := by
 have H : Hid (∀ w, Calls Tryz.prog 96 #[.int .i64 z, .int .i64 1, .int .i64 6] w fun e w' => e = .returned (.bool (inB z 1 6)) ∧ w' = w) := fun w => within_any z 1 6 w
 go_enter Tryz.func137, Tryz.ntmps137
 go_wp2_with fail
 refine (H.out _).mono ?_
 rintro e w' ⟨rfl, rfl⟩
 go_wp2_with fail
 go_ret
 exact ⟨rfl, rfl⟩
set_option maxHeartbeats 800000 in
theorem isStatement_any (z : Int) (w : World) : Calls Tryz.prog 124 #[.int .i64 z] w fun e w' => e = .returned (.bool (inB z 7 11)) ∧ w' = w := by
 have H : Hid (∀ w, Calls Tryz.prog 96 #[.int .i64 z, .int .i64 7, .int .i64 11] w fun e w' => e = .returned (.bool (inB z 7 11)) ∧ w' = w) := fun w => within_any z 7 11 w
 go_enter Tryz.func124, Tryz.ntmps124
 go_wp2_with fail
 refine (H.out _).mono ?_
 rintro e w' ⟨rfl, rfl⟩
 go_wp2_with fail
 go_ret
 exact ⟨rfl, rfl⟩
set_option maxHeartbeats 800000 in
theorem isPlace_any (a : Option Addr) (n c : Nat) (z : Int) (w : World) (hn : n ≤ 1048577) : Calls Tryz.prog 123 #[.slice a n c, .int .i64 z] w fun e w' => e = .returned (.bool (inB z 0 ((n : Int) - 1))) ∧ w' = w := by
 have H2 : Hid (∀ w, Calls Tryz.prog 96 #[.int .i64 z, .int .i64 0, .int .i64 ((n : Int) - 1)] w fun e w' => e = .returned (.bool (inB z 0 ((n : Int) - 1))) ∧ w' = w) := fun w => within_any z 0 ((n : Int) - 1) w
 go_enter Tryz.func123, Tryz.ntmps123
 go_wp2_with fail
 refine (H2.out _).mono ?_
 rintro e w' ⟨rfl, rfl⟩
 go_wp2_with fail
 go_ret
 exact ⟨rfl, rfl⟩
set_option maxHeartbeats 800000 in
theorem fitsWord_any (z : Int) (w : World) :
  Calls Tryz.prog 108 #[.int .i64 z] w fun e w' => e = .returned (.bool (inB z 0 65535)) ∧ w' = w := by
 by_cases h1 : 0 ≤ z
 ·by_cases h2 : z ≤ 65535
  ·have e : inB z 0 65535 = true := inB_iff.2 ⟨h1, h2⟩
   rw [e]
   go_enter Tryz.func108, Tryz.ntmps108
   go_wp2
   go_ret
   exact ⟨rfl, rfl⟩
  ·have e : inB z 0 65535 = false := inB_no.2 (fun h => h2 h.2)
   rw [e]
   go_enter Tryz.func108, Tryz.ntmps108
   go_wp2
   go_ret
   exact ⟨rfl, rfl⟩
 ·have e : inB z 0 65535 = false := inB_no.2 (fun h => h1 h.1)
  rw [e]
  go_enter Tryz.func108, Tryz.ntmps108
  go_wp2
  go_ret
  exact ⟨rfl, rfl⟩
attribute [local go_sem] bs_size bs_get bs_extract bs_append bs_eq bs_toList
set_option maxHeartbeats 1600000 in
theorem isTruth_any (n : LNode) (vk vt ve : Value) (W : World) (h1 : ∃ a l c, vk = .slice a l c) (h2 : ∃ a l c, vt = .slice a l c) (h3 : ∃ a l c, ve = .slice a l c) :
  Calls Tryz.prog 152 #[nodeV n vk vt ve] W fun e w' => e = .returned (.bool (decide (n.kind = 1) && inB n.num 0 1)) ∧ Below W.heap.size W w' := by
 obtain ⟨a, l, c, rfl⟩ := h1
 obtain ⟨a2, l2, c2, rfl⟩ := h2
 obtain ⟨a3, l3, c3, rfl⟩ := h3
 have HI : Hid (∀ w, Calls Tryz.prog 96 #[.int .i64 n.num, .int .i64 0, .int .i64 1] w fun e w' => e = .returned (.bool (inB n.num 0 1)) ∧ w' = w) := fun w => within_any n.num 0 1 w
 by_cases hk : n.kind = 1
 ·have e1 : decide (n.kind = 1) = true := decide_eq_true hk
  rw [e1, Bool.true_and]
  clear e1
  generalize inB n.num 0 1 = q at *
  go_enter Tryz.func152, Tryz.ntmps152
  go_wp2_with fail
  refine (HI.out _).mono ?_
  rintro e w2 ⟨rfl, rfl⟩
  go_wp2_with fail
  go_ret
  exact ⟨rfl, by go_grown⟩
 ·have e1 : decide (n.kind = 1) = false := decide_eq_false hk
  have e2 : (n.kind == 1) = false := by simpa using hk
  rw [e1, Bool.false_and]
  clear e1 HI hk
  go_enter Tryz.func152, Tryz.ntmps152
  go_wp2_with fail
  go_ret
  exact ⟨rfl, by go_grown⟩
end Go.Proofs.YteeklmgkhacbcaaGreatDoor
