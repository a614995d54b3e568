/-
  (*impl.checker).plainType.
-/
import Derived.Test.YtepjaoapjpmjkaaGreatDoorICkE
namespace Go.Proofs.YtepjaoapjpmjkaaGreatDoor
open Go.RowKit
set_option linter.unusedVariables false
attribute [local go_sem] bs_size bs_get bs_extract bs_append bs_eq bs_toList
def plainT (V : List LVar) (n : LNode) : Int :=
 if n.kind = 2 ∨ n.kind = 3 then (if varFrom n.name V 0 < 0 then 1 else (V.getD (varFrom n.name V 0).toNat default).type)
 else if n.kind = 5 then 2 else if n.kind = 6 then (if 6 ≤ n.op then 2 else 1) else 1
theorem CkE.node {lo cp mp : Nat} {W : World} {vn vl : Value} {T : LTree} {V : List LVar} (h : CkE lo W cp mp vn vl T V) (x : Nat) (hx : x < T.nodes.length) :
  ∃ bn on cn, vn = .slice (some ⟨bn, on, none⟩) T.nodes.length cn ∧ ∃ vk vt ve, NodeCells W bn (on + x * 8) (nodeOf T.nodes (x : Int)) vk vt ve ∧ IntsV lo W vk (nodeOf T.nodes (x : Int)).kids ∧ (∃ a c, vk = .slice a (nodeOf T.nodes (x : Int)).kids.length c) ∧ (∃ a l c, vt = .slice a l c) ∧ (∃ a l c, ve = .slice a l c) := by
 obtain ⟨an, cn, rfl, _, hh⟩ := id h.nodes
 obtain ⟨bn, on, rfl, _, hc⟩ := hh (by intro e; rw [e] at hx; simp at hx)
 have hxe : T.nodes[x]? = some (nodeOf T.nodes (x : Int)) := by unfold nodeOf; rw [Int.toNat_natCast, List.getD_eq_getElem?_getD, List.getElem?_eq_getElem hx]; rfl
 obtain ⟨vk, vt, ve, h1, h2⟩ := hc x _ hxe
 obtain ⟨a1, c1, e1, _⟩ := id h2.kids
 obtain ⟨a2, c2, e2, _⟩ := id h2.thn
 obtain ⟨a3, c3, e3, _⟩ := id h2.els
 exact ⟨bn, on, cn, rfl, vk, vt, ve, h1, h2.kids, ⟨_, _, e1⟩, ⟨_, _, _, e2⟩, ⟨_, _, _, e3⟩⟩
set_option maxHeartbeats 6400000 in
set_option maxRecDepth 100000 in
theorem plainType_any (lo cp mp : Nat) (W : World) (vn vl : Value) (T : LTree) (V : List LVar) (x : Nat) (hE : CkE lo W cp mp vn vl T V) (hx : x < T.nodes.length) (hnm : (nodeOf T.nodes (x : Int)).name.length ≤ 1048576) :
  Calls Tryz.prog 84 #[.pointer (some ⟨cp, 0, none⟩), .int .i64 (x : Int)] W fun e w' => e = .returned (.int .i64 (plainT V (nodeOf T.nodes (x : Int)))) ∧ Below W.heap.size W w' := by
 obtain ⟨bn, on, cn, rfl, vk, vt, ve, ⟨d0, d1, d2, d3, d4, d5, d6, d7⟩, _, ⟨a, c, rfl⟩, ⟨a2, l2, c2, rfl⟩, ⟨a3, l3, c3, rfl⟩⟩ := hE.node x hx
 obtain ⟨k0, k1⟩ := cl2 hE.row
 have hkl := blk_lt hE.row
 have hml := hE.map.lt
 obtain ⟨n, hn⟩ : ∃ n, n = nodeOf T.nodes (x : Int) := ⟨_, rfl⟩
 rw [← hn] at d0 d1 d2 d3 d4 d5 hnm ⊢
 have hnl := hE.good.nodes
 have hx0 : (0 : Int) ≤ (x : Int) := by omega
 have hx1 : (x : Int) < (T.nodes.length : Int) := by omega
 have HMP : Hid (NamesAt W mp V T.vars.length) := hE.map
 have hLK : ∀ Z, NamesAt Z mp V T.vars.length → (Instr.lookup 123 (.map (some mp)) (.string (bs n.name)) true).run Tryz.prog Z = .ok (.tuple #[lookV V T.vars.length V.length n.name, .bool (firstI V n.name V.length).isSome]) Z := fun Z h => names_look h n.name hnm
 have HFR : Hid ((∀ i, firstI V n.name V.length = some i → varFrom n.name V 0 = (i : Int)) ∧ (firstI V n.name V.length = none → varFrom n.name V 0 = -1)) := by
  obtain ⟨h1, h2⟩ := firstI_from V n.name V.length (Nat.le_refl _)
  exact ⟨fun i hi => (h1 i hi).1, fun hn => by rw [h2 hn, List.drop_length]; rfl⟩
 have HPT : Hid (plainT V n = if n.kind = 2 ∨ n.kind = 3 then (if varFrom n.name V 0 < 0 then 1 else (V.getD (varFrom n.name V 0).toNat default).type) else if n.kind = 5 then 2 else if n.kind = 6 then (if 6 ≤ n.op then 2 else 1) else 1) := rfl
 have HLK : Hid _ := hLK
 obtain ⟨R, hR⟩ : ∃ R, R = plainT V n := ⟨_, rfl⟩
 rw [← hR] at HPT ⊢
 clear hLK hn hE hR
 by_cases k5 : n.kind = 5
 ·have HR : Hid (R = 2) := by unfold Hid; rw [HPT.out, if_neg (by omega), if_pos k5]
  clear HPT HFR HLK HMP
  go_enter Tryz.func84, Tryz.ntmps84
  go_wp2
  go_ret
  exact ⟨by rw [HR.out]; rfl, by go_grown⟩
 by_cases k6 : n.kind = 6
 ·by_cases ho : 6 ≤ n.op
  ·have HR : Hid (R = 2) := by unfold Hid; rw [HPT.out, if_neg (by omega), if_neg k5, if_pos k6, if_pos ho]
   clear HPT HFR HLK HMP
   go_enter Tryz.func84, Tryz.ntmps84
   go_wp2
   go_ret
   exact ⟨by rw [HR.out]; rfl, by go_grown⟩
  ·have HR : Hid (R = 1) := by unfold Hid; rw [HPT.out, if_neg (by omega), if_neg k5, if_pos k6, if_neg ho]
   clear HPT HFR HLK HMP
   go_enter Tryz.func84, Tryz.ntmps84
   go_wp2
   go_ret
   exact ⟨by rw [HR.out]; rfl, by go_grown⟩
 by_cases k23 : n.kind = 2 ∨ n.kind = 3
 case neg =>
  have k2 : ¬ n.kind = 2 := fun h => k23 (.inl h)
  have k3 : ¬ n.kind = 3 := fun h => k23 (.inr h)
  have HR : Hid (R = 1) := by unfold Hid; rw [HPT.out, if_neg k23, if_neg k5, if_neg k6]
  clear HPT HFR HLK HMP k23
  go_enter Tryz.func84, Tryz.ntmps84
  go_wp2
  go_ret
  exact ⟨by rw [HR.out]; rfl, by go_grown⟩
 have HR0 : Hid (R = if varFrom n.name V 0 < 0 then 1 else (V.getD (varFrom n.name V 0).toNat default).type) := by unfold Hid; rw [HPT.out, if_pos k23]
 clear HPT k5 k6
 have hne : ¬ mp = W.heap.size := by omega
 cases hr : firstI V n.name V.length with
 | some i =>
  have hvf := HFR.out.1 i hr
  obtain ⟨y0, y1, y3, y4, y5, hy⟩ : ∃ y0 y1 y3 y4 y5, entVal V T.vars.length i = .agg #[.string (bs y0), .int .i64 y1, .int .i64 (V.getD i default).type, .int .i64 y3, .bool y4, .int .i64 y5] := ⟨_, _, _, _, _, rfl⟩
  have HR : Hid (R = (V.getD i default).type) := by unfold Hid; rw [HR0.out, hvf, if_neg (by omega), Int.toNat_natCast]
  have hlk : ∀ Z, NamesAt Z mp V T.vars.length → (Instr.lookup 123 (.map (some mp)) (.string (bs n.name)) true).run Tryz.prog Z = .ok (.tuple #[.agg #[.string (bs y0), .int .i64 y1, .int .i64 (V.getD i default).type, .int .i64 y3, .bool y4, .int .i64 y5], .bool true]) Z := fun Z h => by
   rw [HLK.out Z h]
   have e1 : lookV V T.vars.length V.length n.name = .agg #[.string (bs y0), .int .i64 y1, .int .i64 (V.getD i default).type, .int .i64 y3, .bool y4, .int .i64 y5] := by unfold lookV; rw [hr]; exact hy
   rw [e1, hr]; rfl
  clear hr hy hvf HR0 HFR HLK
  generalize (V.getD i default).type = ty at *
  rcases k23 with k2 | k2
  ·have hK := k2
   clear k2
   rw [hK] at d0
   go_enter Tryz.func84, Tryz.ntmps84
   go_wp2_with fail
   have hA := heap_alloc_new W (.cells #[.int .i64 2, .int .i64 n.op, .string (bs n.name), .int .i64 n.num, .int .i64 n.far, .slice a n.kids.length c, .slice a2 l2 c2, .slice a3 l3 c3] 66)
   have hB : Below W.heap.size W (W.alloc (.cells #[.int .i64 2, .int .i64 n.op, .string (bs n.name), .int .i64 n.num, .int .i64 n.far, .slice a n.kids.length c, .slice a2 l2 c2, .slice a3 l3 c3] 66)) := (Below.refl _ _).alloc (Nat.le_refl _) _
   generalize hW5 : W.alloc (.cells #[.int .i64 2, .int .i64 n.op, .string (bs n.name), .int .i64 n.num, .int .i64 n.far, .slice a n.kids.length c, .slice a2 l2 c2, .slice a3 l3 c3] 66) = W5 at *
   clear hW5
   have q1 : W5.cell? ⟨cp, 1, none⟩ = some (.map (some mp)) := (hB.cell (p := ⟨cp, 1, none⟩) hkl).trans k1
   have q2 : W5.cell? ⟨W.heap.size, 2, none⟩ = some (.string (bs n.name)) := cell_of_row _ _ 2 _ _ _ hA
   have hm5 : NamesAt W5 mp V T.vars.length := ownsMap_block HMP.out (hB.block _ hml)
   have hMA : ∀ (Z : World) (o : Obj), NamesAt Z mp V T.vars.length → NamesAt (Z.alloc o) mp V T.vars.length := fun Z o h => h.alloc o
   have hMS : ∀ (Z : World) (q : Addr) (u : Value), ¬ mp = q.block → NamesAt Z mp V T.vars.length → NamesAt (Z.setCell q u) mp V T.vars.length := fun Z q u hq h => h.setCell hq u
   have hMD : NamesAt W5.drew mp V T.vars.length := hm5
   have hMR : ∀ (Z : World), NamesAt Z mp V T.vars.length → NamesAt Z.drew mp V T.vars.length := fun Z h => h
   clear k0 k1 d0 d1 d2 d3 d4 d5 d6 d7 hA HMP
   go_region_held3 (fun Z => Z.cell? ⟨cp, 1, none⟩ = some (.map (some mp)) ∧ Z.cell? ⟨W.heap.size, 2, none⟩ = some (.string (bs n.name)) ∧ NamesAt Z mp V T.vars.length) (go_keep) (fail)
   all_goals (go_wp2_with fail; go_ret; refine ⟨by rw [HR.out]; rfl, ?_⟩; have hsz := hB.size; go_grown)
  ·have hK := k2
   clear k2
   rw [hK] at d0
   go_enter Tryz.func84, Tryz.ntmps84
   go_wp2_with fail
   have hA := heap_alloc_new W (.cells #[.int .i64 3, .int .i64 n.op, .string (bs n.name), .int .i64 n.num, .int .i64 n.far, .slice a n.kids.length c, .slice a2 l2 c2, .slice a3 l3 c3] 66)
   have hB : Below W.heap.size W (W.alloc (.cells #[.int .i64 3, .int .i64 n.op, .string (bs n.name), .int .i64 n.num, .int .i64 n.far, .slice a n.kids.length c, .slice a2 l2 c2, .slice a3 l3 c3] 66)) := (Below.refl _ _).alloc (Nat.le_refl _) _
   generalize hW5 : W.alloc (.cells #[.int .i64 3, .int .i64 n.op, .string (bs n.name), .int .i64 n.num, .int .i64 n.far, .slice a n.kids.length c, .slice a2 l2 c2, .slice a3 l3 c3] 66) = W5 at *
   clear hW5
   have q1 : W5.cell? ⟨cp, 1, none⟩ = some (.map (some mp)) := (hB.cell (p := ⟨cp, 1, none⟩) hkl).trans k1
   have q2 : W5.cell? ⟨W.heap.size, 2, none⟩ = some (.string (bs n.name)) := cell_of_row _ _ 2 _ _ _ hA
   have hm5 : NamesAt W5 mp V T.vars.length := ownsMap_block HMP.out (hB.block _ hml)
   have hMA : ∀ (Z : World) (o : Obj), NamesAt Z mp V T.vars.length → NamesAt (Z.alloc o) mp V T.vars.length := fun Z o h => h.alloc o
   have hMS : ∀ (Z : World) (q : Addr) (u : Value), ¬ mp = q.block → NamesAt Z mp V T.vars.length → NamesAt (Z.setCell q u) mp V T.vars.length := fun Z q u hq h => h.setCell hq u
   have hMD : NamesAt W5.drew mp V T.vars.length := hm5
   have hMR : ∀ (Z : World), NamesAt Z mp V T.vars.length → NamesAt Z.drew mp V T.vars.length := fun Z h => h
   clear k0 k1 d0 d1 d2 d3 d4 d5 d6 d7 hA HMP
   go_region_held3 (fun Z => Z.cell? ⟨cp, 1, none⟩ = some (.map (some mp)) ∧ Z.cell? ⟨W.heap.size, 2, none⟩ = some (.string (bs n.name)) ∧ NamesAt Z mp V T.vars.length) (go_keep) (fail)
   all_goals (go_wp2_with fail; go_ret; refine ⟨by rw [HR.out]; rfl, ?_⟩; have hsz := hB.size; go_grown)
 | none =>
  have hvf := HFR.out.2 hr
  have HR : Hid (R = 1) := by unfold Hid; rw [HR0.out, hvf, if_pos (by omega)]
  have hlk : ∀ Z, NamesAt Z mp V T.vars.length → (Instr.lookup 123 (.map (some mp)) (.string (bs n.name)) true).run Tryz.prog Z = .ok (.tuple #[.agg #[.string ⟨#[]⟩, .int .i64 0, .int .i64 0, .int .i64 0, .bool false, .int .i64 0], .bool false]) Z := fun Z h => by
   rw [HLK.out Z h]
   have e1 : lookV V T.vars.length V.length n.name = noVal := by unfold lookV; rw [hr]
   rw [e1, hr]; rfl
  clear hr hvf HR0 HFR HLK
  rcases k23 with k2 | k2
  ·have hK := k2
   clear k2
   rw [hK] at d0
   go_enter Tryz.func84, Tryz.ntmps84
   go_wp2_with fail
   have hA := heap_alloc_new W (.cells #[.int .i64 2, .int .i64 n.op, .string (bs n.name), .int .i64 n.num, .int .i64 n.far, .slice a n.kids.length c, .slice a2 l2 c2, .slice a3 l3 c3] 66)
   have hB : Below W.heap.size W (W.alloc (.cells #[.int .i64 2, .int .i64 n.op, .string (bs n.name), .int .i64 n.num, .int .i64 n.far, .slice a n.kids.length c, .slice a2 l2 c2, .slice a3 l3 c3] 66)) := (Below.refl _ _).alloc (Nat.le_refl _) _
   generalize hW5 : W.alloc (.cells #[.int .i64 2, .int .i64 n.op, .string (bs n.name), .int .i64 n.num, .int .i64 n.far, .slice a n.kids.length c, .slice a2 l2 c2, .slice a3 l3 c3] 66) = W5 at *
   clear hW5
   have q1 : W5.cell? ⟨cp, 1, none⟩ = some (.map (some mp)) := (hB.cell (p := ⟨cp, 1, none⟩) hkl).trans k1
   have q2 : W5.cell? ⟨W.heap.size, 2, none⟩ = some (.string (bs n.name)) := cell_of_row _ _ 2 _ _ _ hA
   have hm5 : NamesAt W5 mp V T.vars.length := ownsMap_block HMP.out (hB.block _ hml)
   have hMA : ∀ (Z : World) (o : Obj), NamesAt Z mp V T.vars.length → NamesAt (Z.alloc o) mp V T.vars.length := fun Z o h => h.alloc o
   have hMS : ∀ (Z : World) (q : Addr) (u : Value), ¬ mp = q.block → NamesAt Z mp V T.vars.length → NamesAt (Z.setCell q u) mp V T.vars.length := fun Z q u hq h => h.setCell hq u
   have hMD : NamesAt W5.drew mp V T.vars.length := hm5
   have hMR : ∀ (Z : World), NamesAt Z mp V T.vars.length → NamesAt Z.drew mp V T.vars.length := fun Z h => h
   clear k0 k1 d0 d1 d2 d3 d4 d5 d6 d7 hA HMP
   go_region_held3 (fun Z => Z.cell? ⟨cp, 1, none⟩ = some (.map (some mp)) ∧ Z.cell? ⟨W.heap.size, 2, none⟩ = some (.string (bs n.name)) ∧ NamesAt Z mp V T.vars.length) (go_keep) (fail)
   all_goals (go_wp2_with fail; go_ret; refine ⟨by rw [HR.out]; rfl, ?_⟩; have hsz := hB.size; go_grown)
  ·have hK := k2
   clear k2
   rw [hK] at d0
   go_enter Tryz.func84, Tryz.ntmps84
   go_wp2_with fail
   have hA := heap_alloc_new W (.cells #[.int .i64 3, .int .i64 n.op, .string (bs n.name), .int .i64 n.num, .int .i64 n.far, .slice a n.kids.length c, .slice a2 l2 c2, .slice a3 l3 c3] 66)
   have hB : Below W.heap.size W (W.alloc (.cells #[.int .i64 3, .int .i64 n.op, .string (bs n.name), .int .i64 n.num, .int .i64 n.far, .slice a n.kids.length c, .slice a2 l2 c2, .slice a3 l3 c3] 66)) := (Below.refl _ _).alloc (Nat.le_refl _) _
   generalize hW5 : W.alloc (.cells #[.int .i64 3, .int .i64 n.op, .string (bs n.name), .int .i64 n.num, .int .i64 n.far, .slice a n.kids.length c, .slice a2 l2 c2, .slice a3 l3 c3] 66) = W5 at *
   clear hW5
   have q1 : W5.cell? ⟨cp, 1, none⟩ = some (.map (some mp)) := (hB.cell (p := ⟨cp, 1, none⟩) hkl).trans k1
   have q2 : W5.cell? ⟨W.heap.size, 2, none⟩ = some (.string (bs n.name)) := cell_of_row _ _ 2 _ _ _ hA
   have hm5 : NamesAt W5 mp V T.vars.length := ownsMap_block HMP.out (hB.block _ hml)
   have hMA : ∀ (Z : World) (o : Obj), NamesAt Z mp V T.vars.length → NamesAt (Z.alloc o) mp V T.vars.length := fun Z o h => h.alloc o
   have hMS : ∀ (Z : World) (q : Addr) (u : Value), ¬ mp = q.block → NamesAt Z mp V T.vars.length → NamesAt (Z.setCell q u) mp V T.vars.length := fun Z q u hq h => h.setCell hq u
   have hMD : NamesAt W5.drew mp V T.vars.length := hm5
   have hMR : ∀ (Z : World), NamesAt Z mp V T.vars.length → NamesAt Z.drew mp V T.vars.length := fun Z h => h
   clear k0 k1 d0 d1 d2 d3 d4 d5 d6 d7 hA HMP
   go_region_held3 (fun Z => Z.cell? ⟨cp, 1, none⟩ = some (.map (some mp)) ∧ Z.cell? ⟨W.heap.size, 2, none⟩ = some (.string (bs n.name)) ∧ NamesAt Z mp V T.vars.length) (go_keep) (fail)
   all_goals (go_wp2_with fail; go_ret; refine ⟨by rw [HR.out]; rfl, ?_⟩; have hsz := hB.size; go_grown)
end Go.Proofs.YtepjaoapjpmjkaaGreatDoor
