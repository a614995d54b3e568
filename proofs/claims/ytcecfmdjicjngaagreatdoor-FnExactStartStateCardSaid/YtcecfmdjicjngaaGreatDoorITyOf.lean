/-
  (*impl.checker).typeOf at every expression.
-/
import Derived.Test.YtcecfmdjicjngaaGreatDoorIByName
import Derived.Test.YtcecfmdjicjngaaGreatDoorCheckS
import Derived.Deep.RegionHeld3
import Derived.RegionTactic
import Derived.Test.YtcecfmdjicjngaaGreatDoorIIn
namespace Go.Proofs.YtcecfmdjicjngaaGreatDoor
open Go.RowKit
set_option linter.unusedVariables false
attribute [local go_sem] bs_size bs_get bs_extract bs_append bs_eq bs_toList
theorem ownsMap_block {w w' : World} {b n : Nat} {D : DataW Value} (h : w.ownsMap Tryz.prog 9 heldR b n D) (e : w'.heap[b]? = w.heap[b]?) : w'.ownsMap Tryz.prog 9 heldR b n D := by
 obtain ⟨es, clock, hb, F, hs, hD⟩ := h
 exact ⟨es, clock, e.trans hb, F, hs, hD⟩
abbrev NamesAt (W : World) (mp : Nat) (V : List LVar) (nv : Nat) : Prop := W.ownsMap Tryz.prog 9 heldR mp V.length (nameD V nv V.length)
theorem names_look {W : World} {mp nv : Nat} {V : List LVar} (h : NamesAt W mp V nv) (nm : List UInt8) (hn : nm.length ≤ 1048576) :
  (Instr.lookup 138 (.map (some mp)) (.string (bs nm)) true).run Tryz.prog W = .ok (.tuple #[lookV V nv V.length nm, .bool (firstI V nm V.length).isSome]) W := by
 obtain ⟨v, ps, hrun, hv⟩ := h.look_ok (zp := []) (Maps.string_keyed Tryz.underlying9) Tryz.underlying138 (zeroE W) (zd := .held noVal) rfl (keyOf_nm nm hn)
 obtain ⟨h1, h2⟩ := nameD_at V nv (.held noVal) V.length nm
 rw [h1] at hrun
 rw [h2] at hv
 have e : v = lookV V nv V.length nm := by
  unfold lookV
  unfold heldR at hv
  split at hv <;> · simp at hv; exact hv.1
 rw [hrun, e]
structure CkE (lo : Nat) (W : World) (cp mp : Nat) (vn vl : Value) (T : LTree) (V : List LVar) : Prop where
 row : W.heap[cp]? = some (.cells #[vn, .map (some mp), vl] 196 (0, 0))
 nodes : NodesV lo W vn T.nodes
 map : NamesAt W mp V T.vars.length
 good : Good T
 few : V.length ≤ 624
theorem CkE.below {lo cp mp : Nat} {W W' : World} {vn vl : Value} {T : LTree} {V : List LVar} (h : CkE lo W cp mp vn vl T V) (hb : Below W.heap.size W W') : CkE lo W' cp mp vn vl T V :=
 ⟨blk h.row hb, h.nodes.below hb, ownsMap_block h.map (hb.block _ h.map.lt), h.good, h.few⟩
end Go.Proofs.YtcecfmdjicjngaaGreatDoor
namespace Go.Proofs.YtcecfmdjicjngaaGreatDoor
open Go.RowKit
set_option linter.unusedVariables false
attribute [local go_sem] bs_size bs_get bs_extract bs_append bs_eq bs_toList
def plainT (V : List LVar) (n : LNode) : Int :=
 if n.kind = 2 ∨ n.kind = 3 then (if varFrom n.name V 0 < 0 then 1 else (V.getD (varFrom n.name V 0).toNat default).type)
 else if n.kind = 5 then 2 else if n.kind = 6 then (if 6 ≤ n.op then 2 else 1) else 1
theorem CkE.node {lo cp mp : Nat} {W : World} {vn vl : Value} {T : LTree} {V : List LVar} (h : CkE lo W cp mp vn vl T V) (x : Nat) (hx : x < T.nodes.length) :
  ∃ bn on cn, vn = .slice (some ⟨bn, on, none⟩) T.nodes.length cn ∧ ∃ vk vt ve, NodeCells W bn (on + x * 8) (nodeOf T.nodes (x : Int)) vk vt ve ∧ IntsV lo W vk (nodeOf T.nodes (x : Int)).kids ∧ (∃ a c, vk = .slice a (nodeOf T.nodes (x : Int)).kids.length c) ∧ (∃ a l c, vt = .slice a l c) ∧ (∃ a l c, ve = .slice a l c) := by
 obtain ⟨an, cn, rfl, _, hh⟩ := id h.nodes
 obtain ⟨bn, on, rfl, _, hc⟩ := hh (by intro e; rw [e] at hx; simp at hx)
 have hxe : T.nodes[x]? = some (nodeOf T.nodes (x : Int)) := by unfold nodeOf; rw [Int.toNat_natCast, List.getD_eq_getElem?_getD, List.getElem?_eq_getElem hx]; rfl
 obtain ⟨vk, vt, ve, h1, h2⟩ := hc x _ hxe
 obtain ⟨a1, c1, e1, _⟩ := id h2.kids
 obtain ⟨a2, c2, e2, _⟩ := id h2.thn
 obtain ⟨a3, c3, e3, _⟩ := id h2.els
 exact ⟨bn, on, cn, rfl, vk, vt, ve, h1, h2.kids, ⟨_, _, e1⟩, ⟨_, _, _, e2⟩, ⟨_, _, _, e3⟩⟩
set_option maxHeartbeats 6400000 in
set_option maxRecDepth 100000 in
theorem plainType_any (lo cp mp : Nat) (W : World) (vn vl : Value) (T : LTree) (V : List LVar) (x : Nat) (hE : CkE lo W cp mp vn vl T V) (hx : x < T.nodes.length) (hnm : (nodeOf T.nodes (x : Int)).name.length ≤ 1048576) :
  Calls Tryz.prog 151 #[.pointer (some ⟨cp, 0, none⟩), .int .i64 (x : Int)] W fun e w' => e = .returned (.int .i64 (plainT V (nodeOf T.nodes (x : Int)))) ∧ Below W.heap.size W w' := by
 obtain ⟨bn, on, cn, rfl, vk, vt, ve, ⟨d0, d1, d2, d3, d4, d5, d6, d7⟩, _, ⟨a, c, rfl⟩, ⟨a2, l2, c2, rfl⟩, ⟨a3, l3, c3, rfl⟩⟩ := hE.node x hx
 obtain ⟨k0, k1⟩ := cl2 hE.row
 have hkl := blk_lt hE.row
 have hml := hE.map.lt
 obtain ⟨n, hn⟩ : ∃ n, n = nodeOf T.nodes (x : Int) := ⟨_, rfl⟩
 rw [← hn] at d0 d1 d2 d3 d4 d5 hnm ⊢
 have hnl := hE.good.nodes
 have hx0 : (0 : Int) ≤ (x : Int) := by omega
 have hx1 : (x : Int) < (T.nodes.length : Int) := by omega
 have HMP : Hid (NamesAt W mp V T.vars.length) := hE.map
 have hLK : ∀ Z, NamesAt Z mp V T.vars.length → (Instr.lookup 138 (.map (some mp)) (.string (bs n.name)) true).run Tryz.prog Z = .ok (.tuple #[lookV V T.vars.length V.length n.name, .bool (firstI V n.name V.length).isSome]) Z := fun Z h => names_look h n.name hnm
 have HFR : Hid ((∀ i, firstI V n.name V.length = some i → varFrom n.name V 0 = (i : Int)) ∧ (firstI V n.name V.length = none → varFrom n.name V 0 = -1)) := by
  obtain ⟨h1, h2⟩ := firstI_from V n.name V.length (Nat.le_refl _)
  exact ⟨fun i hi => (h1 i hi).1, fun hn => by rw [h2 hn, List.drop_length]; rfl⟩
 have HPT : Hid (plainT V n = if n.kind = 2 ∨ n.kind = 3 then (if varFrom n.name V 0 < 0 then 1 else (V.getD (varFrom n.name V 0).toNat default).type) else if n.kind = 5 then 2 else if n.kind = 6 then (if 6 ≤ n.op then 2 else 1) else 1) := rfl
 have HLK : Hid _ := hLK
 obtain ⟨R, hR⟩ : ∃ R, R = plainT V n := ⟨_, rfl⟩
 rw [← hR] at HPT ⊢
 clear hLK hn hE hR
 by_cases k5 : n.kind = 5
 ·have HR : Hid (R = 2) := by unfold Hid; rw [HPT.out, if_neg (by omega), if_pos k5]
  clear HPT HFR HLK HMP
  go_enter Tryz.func151, Tryz.ntmps151
  go_wp2
  go_ret
  exact ⟨by rw [HR.out]; rfl, by go_grown⟩
 by_cases k6 : n.kind = 6
 ·by_cases ho : 6 ≤ n.op
  ·have HR : Hid (R = 2) := by unfold Hid; rw [HPT.out, if_neg (by omega), if_neg k5, if_pos k6, if_pos ho]
   clear HPT HFR HLK HMP
   go_enter Tryz.func151, Tryz.ntmps151
   go_wp2
   go_ret
   exact ⟨by rw [HR.out]; rfl, by go_grown⟩
  ·have HR : Hid (R = 1) := by unfold Hid; rw [HPT.out, if_neg (by omega), if_neg k5, if_pos k6, if_neg ho]
   clear HPT HFR HLK HMP
   go_enter Tryz.func151, Tryz.ntmps151
   go_wp2
   go_ret
   exact ⟨by rw [HR.out]; rfl, by go_grown⟩
 by_cases k23 : n.kind = 2 ∨ n.kind = 3
 case neg =>
  have k2 : ¬ n.kind = 2 := fun h => k23 (.inl h)
  have k3 : ¬ n.kind = 3 := fun h => k23 (.inr h)
  have HR : Hid (R = 1) := by unfold Hid; rw [HPT.out, if_neg k23, if_neg k5, if_neg k6]
  clear HPT HFR HLK HMP k23
  go_enter Tryz.func151, Tryz.ntmps151
  go_wp2
  go_ret
  exact ⟨by rw [HR.out]; rfl, by go_grown⟩
 have HR0 : Hid (R = if varFrom n.name V 0 < 0 then 1 else (V.getD (varFrom n.name V 0).toNat default).type) := by unfold Hid; rw [HPT.out, if_pos k23]
 clear HPT k5 k6
 have hne : ¬ mp = W.heap.size := by omega
 cases hr : firstI V n.name V.length with
 | some i =>
  have hvf := HFR.out.1 i hr
  obtain ⟨y0, y1, y3, y4, y5, hy⟩ : ∃ y0 y1 y3 y4 y5, entVal V T.vars.length i = .agg #[.string (bs y0), .int .i64 y1, .int .i64 (V.getD i default).type, .int .i64 y3, .bool y4, .int .i64 y5] := ⟨_, _, _, _, _, rfl⟩
  have HR : Hid (R = (V.getD i default).type) := by unfold Hid; rw [HR0.out, hvf, if_neg (by omega), Int.toNat_natCast]
  have hlk : ∀ Z, NamesAt Z mp V T.vars.length → (Instr.lookup 138 (.map (some mp)) (.string (bs n.name)) true).run Tryz.prog Z = .ok (.tuple #[.agg #[.string (bs y0), .int .i64 y1, .int .i64 (V.getD i default).type, .int .i64 y3, .bool y4, .int .i64 y5], .bool true]) Z := fun Z h => by
   rw [HLK.out Z h]
   have e1 : lookV V T.vars.length V.length n.name = .agg #[.string (bs y0), .int .i64 y1, .int .i64 (V.getD i default).type, .int .i64 y3, .bool y4, .int .i64 y5] := by unfold lookV; rw [hr]; exact hy
   rw [e1, hr]; rfl
  clear hr hy hvf HR0 HFR HLK
  generalize (V.getD i default).type = ty at *
  rcases k23 with k2 | k2
  ·have hK := k2
   clear k2
   rw [hK] at d0
   go_enter Tryz.func151, Tryz.ntmps151
   go_wp2_with fail
   have hA := heap_alloc_new W (.cells #[.int .i64 2, .int .i64 n.op, .string (bs n.name), .int .i64 n.num, .int .i64 n.far, .slice a n.kids.length c, .slice a2 l2 c2, .slice a3 l3 c3] 40)
   have hB : Below W.heap.size W (W.alloc (.cells #[.int .i64 2, .int .i64 n.op, .string (bs n.name), .int .i64 n.num, .int .i64 n.far, .slice a n.kids.length c, .slice a2 l2 c2, .slice a3 l3 c3] 40)) := (Below.refl _ _).alloc (Nat.le_refl _) _
   generalize hW5 : W.alloc (.cells #[.int .i64 2, .int .i64 n.op, .string (bs n.name), .int .i64 n.num, .int .i64 n.far, .slice a n.kids.length c, .slice a2 l2 c2, .slice a3 l3 c3] 40) = W5 at *
   clear hW5
   have q1 : W5.cell? ⟨cp, 1, none⟩ = some (.map (some mp)) := (hB.cell (p := ⟨cp, 1, none⟩) hkl).trans k1
   have q2 : W5.cell? ⟨W.heap.size, 2, none⟩ = some (.string (bs n.name)) := cell_of_row _ _ 2 _ _ _ hA
   have hm5 : NamesAt W5 mp V T.vars.length := ownsMap_block HMP.out (hB.block _ hml)
   have hMA : ∀ (Z : World) (o : Obj), NamesAt Z mp V T.vars.length → NamesAt (Z.alloc o) mp V T.vars.length := fun Z o h => h.alloc o
   have hMS : ∀ (Z : World) (q : Addr) (u : Value), ¬ mp = q.block → NamesAt Z mp V T.vars.length → NamesAt (Z.setCell q u) mp V T.vars.length := fun Z q u hq h => h.setCell hq u
   have hMD : NamesAt W5.drew mp V T.vars.length := hm5
   have hMR : ∀ (Z : World), NamesAt Z mp V T.vars.length → NamesAt Z.drew mp V T.vars.length := fun Z h => h
   clear k0 k1 d0 d1 d2 d3 d4 d5 d6 d7 hA HMP
   go_region_held3 (fun Z => Z.cell? ⟨cp, 1, none⟩ = some (.map (some mp)) ∧ Z.cell? ⟨W.heap.size, 2, none⟩ = some (.string (bs n.name)) ∧ NamesAt Z mp V T.vars.length) (go_keep) (fail)
   all_goals (go_wp2_with fail; go_ret; refine ⟨by rw [HR.out]; rfl, ?_⟩; have hsz := hB.size; go_grown)
  ·have hK := k2
   clear k2
   rw [hK] at d0
   go_enter Tryz.func151, Tryz.ntmps151
   go_wp2_with fail
   have hA := heap_alloc_new W (.cells #[.int .i64 3, .int .i64 n.op, .string (bs n.name), .int .i64 n.num, .int .i64 n.far, .slice a n.kids.length c, .slice a2 l2 c2, .slice a3 l3 c3] 40)
   have hB : Below W.heap.size W (W.alloc (.cells #[.int .i64 3, .int .i64 n.op, .string (bs n.name), .int .i64 n.num, .int .i64 n.far, .slice a n.kids.length c, .slice a2 l2 c2, .slice a3 l3 c3] 40)) := (Below.refl _ _).alloc (Nat.le_refl _) _
   generalize hW5 : W.alloc (.cells #[.int .i64 3, .int .i64 n.op, .string (bs n.name), .int .i64 n.num, .int .i64 n.far, .slice a n.kids.length c, .slice a2 l2 c2, .slice a3 l3 c3] 40) = W5 at *
   clear hW5
   have q1 : W5.cell? ⟨cp, 1, none⟩ = some (.map (some mp)) := (hB.cell (p := ⟨cp, 1, none⟩) hkl).trans k1
   have q2 : W5.cell? ⟨W.heap.size, 2, none⟩ = some (.string (bs n.name)) := cell_of_row _ _ 2 _ _ _ hA
   have hm5 : NamesAt W5 mp V T.vars.length := ownsMap_block HMP.out (hB.block _ hml)
   have hMA : ∀ (Z : World) (o : Obj), NamesAt Z mp V T.vars.length → NamesAt (Z.alloc o) mp V T.vars.length := fun Z o h => h.alloc o
   have hMS : ∀ (Z : World) (q : Addr) (u : Value), ¬ mp = q.block → NamesAt Z mp V T.vars.length → NamesAt (Z.setCell q u) mp V T.vars.length := fun Z q u hq h => h.setCell hq u
   have hMD : NamesAt W5.drew mp V T.vars.length := hm5
   have hMR : ∀ (Z : World), NamesAt Z mp V T.vars.length → NamesAt Z.drew mp V T.vars.length := fun Z h => h
   clear k0 k1 d0 d1 d2 d3 d4 d5 d6 d7 hA HMP
   go_region_held3 (fun Z => Z.cell? ⟨cp, 1, none⟩ = some (.map (some mp)) ∧ Z.cell? ⟨W.heap.size, 2, none⟩ = some (.string (bs n.name)) ∧ NamesAt Z mp V T.vars.length) (go_keep) (fail)
   all_goals (go_wp2_with fail; go_ret; refine ⟨by rw [HR.out]; rfl, ?_⟩; have hsz := hB.size; go_grown)
 | none =>
  have hvf := HFR.out.2 hr
  have HR : Hid (R = 1) := by unfold Hid; rw [HR0.out, hvf, if_pos (by omega)]
  have hlk : ∀ Z, NamesAt Z mp V T.vars.length → (Instr.lookup 138 (.map (some mp)) (.string (bs n.name)) true).run Tryz.prog Z = .ok (.tuple #[.agg #[.string ⟨#[]⟩, .int .i64 0, .int .i64 0, .int .i64 0, .bool false, .int .i64 0], .bool false]) Z := fun Z h => by
   rw [HLK.out Z h]
   have e1 : lookV V T.vars.length V.length n.name = noVal := by unfold lookV; rw [hr]
   rw [e1, hr]; rfl
  clear hr hvf HR0 HFR HLK
  rcases k23 with k2 | k2
  ·have hK := k2
   clear k2
   rw [hK] at d0
   go_enter Tryz.func151, Tryz.ntmps151
   go_wp2_with fail
   have hA := heap_alloc_new W (.cells #[.int .i64 2, .int .i64 n.op, .string (bs n.name), .int .i64 n.num, .int .i64 n.far, .slice a n.kids.length c, .slice a2 l2 c2, .slice a3 l3 c3] 40)
   have hB : Below W.heap.size W (W.alloc (.cells #[.int .i64 2, .int .i64 n.op, .string (bs n.name), .int .i64 n.num, .int .i64 n.far, .slice a n.kids.length c, .slice a2 l2 c2, .slice a3 l3 c3] 40)) := (Below.refl _ _).alloc (Nat.le_refl _) _
   generalize hW5 : W.alloc (.cells #[.int .i64 2, .int .i64 n.op, .string (bs n.name), .int .i64 n.num, .int .i64 n.far, .slice a n.kids.length c, .slice a2 l2 c2, .slice a3 l3 c3] 40) = W5 at *
   clear hW5
   have q1 : W5.cell? ⟨cp, 1, none⟩ = some (.map (some mp)) := (hB.cell (p := ⟨cp, 1, none⟩) hkl).trans k1
   have q2 : W5.cell? ⟨W.heap.size, 2, none⟩ = some (.string (bs n.name)) := cell_of_row _ _ 2 _ _ _ hA
   have hm5 : NamesAt W5 mp V T.vars.length := ownsMap_block HMP.out (hB.block _ hml)
   have hMA : ∀ (Z : World) (o : Obj), NamesAt Z mp V T.vars.length → NamesAt (Z.alloc o) mp V T.vars.length := fun Z o h => h.alloc o
   have hMS : ∀ (Z : World) (q : Addr) (u : Value), ¬ mp = q.block → NamesAt Z mp V T.vars.length → NamesAt (Z.setCell q u) mp V T.vars.length := fun Z q u hq h => h.setCell hq u
   have hMD : NamesAt W5.drew mp V T.vars.length := hm5
   have hMR : ∀ (Z : World), NamesAt Z mp V T.vars.length → NamesAt Z.drew mp V T.vars.length := fun Z h => h
   clear k0 k1 d0 d1 d2 d3 d4 d5 d6 d7 hA HMP
   go_region_held3 (fun Z => Z.cell? ⟨cp, 1, none⟩ = some (.map (some mp)) ∧ Z.cell? ⟨W.heap.size, 2, none⟩ = some (.string (bs n.name)) ∧ NamesAt Z mp V T.vars.length) (go_keep) (fail)
   all_goals (go_wp2_with fail; go_ret; refine ⟨by rw [HR.out]; rfl, ?_⟩; have hsz := hB.size; go_grown)
  ·have hK := k2
   clear k2
   rw [hK] at d0
   go_enter Tryz.func151, Tryz.ntmps151
   go_wp2_with fail
   have hA := heap_alloc_new W (.cells #[.int .i64 3, .int .i64 n.op, .string (bs n.name), .int .i64 n.num, .int .i64 n.far, .slice a n.kids.length c, .slice a2 l2 c2, .slice a3 l3 c3] 40)
   have hB : Below W.heap.size W (W.alloc (.cells #[.int .i64 3, .int .i64 n.op, .string (bs n.name), .int .i64 n.num, .int .i64 n.far, .slice a n.kids.length c, .slice a2 l2 c2, .slice a3 l3 c3] 40)) := (Below.refl _ _).alloc (Nat.le_refl _) _
   generalize hW5 : W.alloc (.cells #[.int .i64 3, .int .i64 n.op, .string (bs n.name), .int .i64 n.num, .int .i64 n.far, .slice a n.kids.length c, .slice a2 l2 c2, .slice a3 l3 c3] 40) = W5 at *
   clear hW5
   have q1 : W5.cell? ⟨cp, 1, none⟩ = some (.map (some mp)) := (hB.cell (p := ⟨cp, 1, none⟩) hkl).trans k1
   have q2 : W5.cell? ⟨W.heap.size, 2, none⟩ = some (.string (bs n.name)) := cell_of_row _ _ 2 _ _ _ hA
   have hm5 : NamesAt W5 mp V T.vars.length := ownsMap_block HMP.out (hB.block _ hml)
   have hMA : ∀ (Z : World) (o : Obj), NamesAt Z mp V T.vars.length → NamesAt (Z.alloc o) mp V T.vars.length := fun Z o h => h.alloc o
   have hMS : ∀ (Z : World) (q : Addr) (u : Value), ¬ mp = q.block → NamesAt Z mp V T.vars.length → NamesAt (Z.setCell q u) mp V T.vars.length := fun Z q u hq h => h.setCell hq u
   have hMD : NamesAt W5.drew mp V T.vars.length := hm5
   have hMR : ∀ (Z : World), NamesAt Z mp V T.vars.length → NamesAt Z.drew mp V T.vars.length := fun Z h => h
   clear k0 k1 d0 d1 d2 d3 d4 d5 d6 d7 hA HMP
   go_region_held3 (fun Z => Z.cell? ⟨cp, 1, none⟩ = some (.map (some mp)) ∧ Z.cell? ⟨W.heap.size, 2, none⟩ = some (.string (bs n.name)) ∧ NamesAt Z mp V T.vars.length) (go_keep) (fail)
   all_goals (go_wp2_with fail; go_ret; refine ⟨by rw [HR.out]; rfl, ?_⟩; have hsz := hB.size; go_grown)
end Go.Proofs.YtcecfmdjicjngaaGreatDoor
namespace Go.Proofs.YtcecfmdjicjngaaGreatDoor
open Go.RowKit
set_option linter.unusedVariables false
attribute [local go_sem] bs_size bs_get bs_extract bs_append bs_eq bs_toList
def sidesT (V : List LVar) (N : List LNode) (n : LNode) : Int :=
 if 6 ≤ n.op ∧ n.op ≤ 8 then 2
 else if n.op = 10 then (if (nodeOf N (n.kids.getD 0 0)).kind = 1 then plainT V (nodeOf N (n.kids.getD 1 0)) else plainT V (nodeOf N (n.kids.getD 0 0))) else 1
set_option maxHeartbeats 6400000 in
set_option maxRecDepth 100000 in
theorem sides_any (lo cp mp : Nat) (W : World) (vn vl vk vt ve : Value) (T : LTree) (V : List LVar) (n : LNode) (hE : CkE lo W cp mp vn vl T V) (hk : n.kids.length = 2) (hkk : ∀ y ∈ n.kids, 0 ≤ y ∧ y < (T.nodes.length : Int)) (hi : IntsV lo W vk n.kids) (h2 : ∃ a l c, vt = .slice a l c) (h3 : ∃ a l c, ve = .slice a l c) (hop : 1 ≤ n.op ∧ n.op ≤ 10) (hnm : ∀ y : Nat, y < T.nodes.length → (nodeOf T.nodes (y : Int)).name.length ≤ 1048576) :
  Calls Tryz.prog 220 #[.pointer (some ⟨cp, 0, none⟩), nodeV n vk vt ve] W fun e w' => e = .returned (.int .i64 (sidesT V T.nodes n)) ∧ Below W.heap.size W w' := by
 obtain ⟨a2, l2, c2, rfl⟩ := h2
 obtain ⟨a3, l3, c3, rfl⟩ := h3
 obtain ⟨ak, ck, rfl, _, hih⟩ := id hi
 obtain ⟨bk, ok, rfl, _, hik⟩ := hih (by intro e; rw [e] at hk; simp at hk)
 obtain ⟨u, v, huv⟩ : ∃ u v, n.kids = [u, v] := by
  match hl : n.kids, hk with
  | [u, v], _ => exact ⟨u, v, rfl⟩
 have hu := hkk u (by rw [huv]; simp)
 have hv := hkk v (by rw [huv]; simp)
 obtain ⟨U, rfl⟩ := Int.eq_ofNat_of_zero_le hu.1
 obtain ⟨Y, rfl⟩ := Int.eq_ofNat_of_zero_le hv.1
 have hU : U < T.nodes.length := by omega
 have hY : Y < T.nodes.length := by omega
 have HRES : Hid (sidesT V T.nodes n = if 6 ≤ n.op ∧ n.op ≤ 8 then 2 else if n.op = 10 then (if (nodeOf T.nodes (U : Int)).kind = 1 then plainT V (nodeOf T.nodes (Y : Int)) else plainT V (nodeOf T.nodes (U : Int))) else 1) := by unfold Hid sidesT; rw [huv]; rfl
 obtain ⟨R, hR⟩ : ∃ R, R = sidesT V T.nodes n := ⟨_, rfl⟩
 rw [← hR] at HRES ⊢
 clear hR
 have hb1 : Below W.heap.size W (W.alloc (.cells #[.int .i64 n.kind, .int .i64 n.op, .string (bs n.name), .int .i64 n.num, .int .i64 n.far, .slice (some ⟨bk, ok, none⟩) n.kids.length ck, .slice a2 l2 c2, .slice a3 l3 c3] 40)) := (Below.refl _ _).alloc (Nat.le_refl _) _
 have hE1 := hE.below hb1
 have hi1 := hi.below hb1
 obtain ⟨_, _, e1, _, hih1⟩ := id hi1
 injection e1 with e1 e2 e3
 subst e1 e3
 obtain ⟨_, _, e4, _, hik1⟩ := hih1 (by intro e; rw [e] at hk; simp at hk)
 injection e4 with e4
 injection e4 with e4 e5
 subst e4 e5
 have w0 := hik1 0 (U : Int) (by rw [huv]; rfl)
 have w1 := hik1 1 (Y : Int) (by rw [huv]; rfl)
 obtain ⟨bn, on, cn, rfl, vk', vt', ve', ⟨d0, d1, d2, d3, d4, d5, d6, d7⟩, _⟩ := hE1.node U hU
 have k0 : (W.alloc (.cells #[.int .i64 n.kind, .int .i64 n.op, .string (bs n.name), .int .i64 n.num, .int .i64 n.far, .slice (some ⟨bk, ok, none⟩) n.kids.length ck, .slice a2 l2 c2, .slice a3 l3 c3] 40)).cell? ⟨cp, 0, none⟩ = some (.slice (some ⟨bn, on, none⟩) T.nodes.length cn) := cell_of_row _ _ 0 _ _ _ hE1.row
 have HP : Hid (∀ (y : Nat) (W' : World), y < T.nodes.length → Below W.heap.size W W' → Calls Tryz.prog 151 #[.pointer (some ⟨cp, 0, none⟩), .int .i64 (y : Int)] W' fun e w' => e = .returned (.int .i64 (plainT V (nodeOf T.nodes (y : Int)))) ∧ Below W'.heap.size W' w') := fun y W' hy hb => plainType_any lo cp mp W' _ vl T V y (hE.below hb) hy (hnm y hy)
 have hnl := hE.good.nodes
 have hu0 : (0 : Int) ≤ (U : Int) := by omega
 have hu1 : (U : Int) < (T.nodes.length : Int) := by omega
 have HB1 : Hid _ := hb1
 have hkl2 : (n.kids.length : Int) = 2 := by omega
 obtain ⟨hop1, hop2⟩ := hop
 clear hih hik hih1 hik1 hi hi1 hE hE1 hb1 hu hv hkk hnm d1 d2 d3 d4 d5 d6 d7 huv
 simp only [Nat.add_zero] at w0
 generalize n.kids.length = KL at *
 subst hk
 by_cases h68 : 6 ≤ n.op ∧ n.op ≤ 8
 ·have HR : Hid (R = 2) := by unfold Hid; rw [HRES.out, if_pos h68]
  have h : n.op = 6 ∨ n.op = 7 ∨ n.op = 8 := by omega
  clear HRES HP h68
  rcases h with h | h | h
  all_goals
   go_enter Tryz.func220, Tryz.ntmps220
   go_wp2
   go_ret
   exact ⟨by rw [HR.out]; rfl, by go_grown⟩
 by_cases h10 : n.op = 10
 ·have HR : Hid (R = if (nodeOf T.nodes (U : Int)).kind = 1 then plainT V (nodeOf T.nodes (Y : Int)) else plainT V (nodeOf T.nodes (U : Int))) := by unfold Hid; rw [HRES.out, if_neg h68, if_pos h10]
  clear HRES h68
  generalize (nodeOf T.nodes (U : Int)).kind = KU at *
  rw [h10] at w0 w1 d0 k0 HB1
  have hBD : ∀ W', Below W.heap.size W W' → ∀ k, Below W.heap.size W (W'.drewN k) := fun W' h k => ⟨h.os, h.tape, h.output, h.size, h.block⟩
  have HBD : Hid _ := hBD
  clear hBD
  by_cases hk1 : KU = 1
  ·subst hk1
   have HR2 : Hid (R = plainT V (nodeOf T.nodes (Y : Int))) := by unfold Hid; rw [HR.out, if_pos rfl]
   clear HR
   go_enter Tryz.func220, Tryz.ntmps220
   go_wp2_with fail
   go_region
   go_wp2_with fail
   refine (HP.out Y _ hY (by first | exact HB1.out | exact HB1.out.drew | exact HBD.out _ HB1.out _)).mono ?_
   rintro e w2 ⟨rfl, hb⟩
   have HB2 : Hid (Below W.heap.size W w2) := Below.trans (by first | exact HB1.out | exact HB1.out.drew | exact HBD.out _ HB1.out _) (hb.mono (by simp))
   clear hb
   go_wp2_with fail
   go_ret
   exact ⟨by rw [HR2.out]; rfl, HB2.out⟩
  ·have HR2 : Hid (R = plainT V (nodeOf T.nodes (U : Int))) := by unfold Hid; rw [HR.out, if_neg hk1]
   have hk2 : (KU == 1) = false := by simpa using hk1
   clear HR hk1
   go_enter Tryz.func220, Tryz.ntmps220
   go_wp2_with fail
   go_region
   go_wp2_with fail
   refine (HP.out U _ hU (by first | exact HB1.out | exact HB1.out.drew | exact HBD.out _ HB1.out _)).mono ?_
   rintro e w2 ⟨rfl, hb⟩
   have HB2 : Hid (Below W.heap.size W w2) := Below.trans (by first | exact HB1.out | exact HB1.out.drew | exact HBD.out _ HB1.out _) (hb.mono (by simp))
   clear hb
   go_wp2_with fail
   go_ret
   exact ⟨by rw [HR2.out]; rfl, HB2.out⟩
 ·have HR : Hid (R = 1) := by unfold Hid; rw [HRES.out, if_neg h68, if_neg h10]
  have h6 : ¬ n.op = 6 := by omega
  have h7 : ¬ n.op = 7 := by omega
  have h8 : ¬ n.op = 8 := by omega
  clear HRES HP h68
  go_enter Tryz.func220, Tryz.ntmps220
  go_wp2
  go_ret
  exact ⟨by rw [HR.out]; rfl, by go_grown⟩
end Go.Proofs.YtcecfmdjicjngaaGreatDoor
namespace Go.Proofs.YtcecfmdjicjngaaGreatDoor
open Go.RowKit
set_option linter.unusedVariables false
theorem metAt_or (st : Met) (c x : Int) (hc : c ≠ 0) : metAt st c x = st ∨ (metAt st c x).1 ≠ 0 := by
 unfold metAt
 split
 ·exact .inr hc
 ·exact .inl rfl
theorem nameF_or (V : List LVar) (nv : Nat) (nm : List UInt8) (row : Bool) (x : Int) (st : Met) : (nameF V nv nm row x st).2 = st ∨ (nameF V nv nm row x st).2.1 ≠ 0 := by
 unfold nameF
 split
 ·exact metAt_or st 4 x (by decide)
 split
 ·exact metAt_or st 1 x (by decide)
 ·exact .inl rfl
theorem mustW_or (n : LNode) (y want : Int) (r : Int × Met) : mustW n y want r = r.2 ∨ (mustW n y want r).1 ≠ 0 := by
 unfold mustW
 split
 ·exact .inl rfl
 split
 ·exact metAt_or r.2 8 y (by decide)
 ·exact .inl rfl
theorem must_or {V : List LVar} {nv f : Nat} {N : List LNode} (ih : ∀ (x : Int) (st : Met), (typeF V nv N f x st).2 = st ∨ (typeF V nv N f x st).2.1 ≠ 0) (y want : Int) (st : Met) : mustW (nodeOf N y) y want (typeF V nv N f y st) = st ∨ (mustW (nodeOf N y) y want (typeF V nv N f y st)).1 ≠ 0 := by
 rcases mustW_or (nodeOf N y) y want (typeF V nv N f y st) with h | h
 ·rw [h]; exact ih y st
 ·exact .inr h
theorem typeF_or {V : List LVar} {nv : Nat} {N : List LNode} : ∀ (f : Nat) (x : Int) (st : Met), (typeF V nv N f x st).2 = st ∨ (typeF V nv N f x st).2.1 ≠ 0 := by
 intro f
 induction f with
 | zero => intro x st; exact .inl rfl
 | succ f ih =>
  intro x st
  simp only [typeF]
  by_cases h1 : (nodeOf N x).kind = 1
  ·rw [if_pos h1]; exact .inl rfl
  rw [if_neg h1]
  by_cases h2 : (nodeOf N x).kind = 2
  ·rw [if_pos h2]; exact nameF_or _ _ _ _ _ _
  rw [if_neg h2]
  by_cases h3 : (nodeOf N x).kind = 3
  ·rw [if_pos h3]
   rcases nameF_or V nv (nodeOf N x).name true x st with h | h
   ·rw [h]; exact must_or ih ((nodeOf N x).kids.getD 0 0) 1 st
   ·rcases must_or ih ((nodeOf N x).kids.getD 0 0) 1 (nameF V nv (nodeOf N x).name true x st).2 with h' | h'
    ·exact .inr (by rw [h']; exact h)
    ·exact .inr h'
  rw [if_neg h3]
  by_cases h4 : (nodeOf N x).kind = 4
  ·rw [if_pos h4]; exact must_or ih ((nodeOf N x).kids.getD 0 0) 1 st
  rw [if_neg h4]
  by_cases h5 : (nodeOf N x).kind = 5
  ·rw [if_pos h5]; exact must_or ih ((nodeOf N x).kids.getD 0 0) 2 st
  rw [if_neg h5]
  rcases must_or ih ((nodeOf N x).kids.getD 0 0) (wantF V N (nodeOf N x)) st with h | h
  ·rw [h]; exact must_or ih ((nodeOf N x).kids.getD 1 0) (wantF V N (nodeOf N x)) st
  ·rcases must_or ih ((nodeOf N x).kids.getD 1 0) (wantF V N (nodeOf N x)) (mustW (nodeOf N ((nodeOf N x).kids.getD 0 0)) ((nodeOf N x).kids.getD 0 0) (wantF V N (nodeOf N x)) (typeF V nv N f ((nodeOf N x).kids.getD 0 0) st)) with h' | h'
   ·exact .inr (by rw [h']; exact h)
   ·exact .inr h'
theorem nameF_plain {V : List LVar} {nv : Nat} {nm : List UInt8} {row : Bool} {x : Int} {m : Int} (h : (nameF V nv nm row x (0, m)).2.1 = 0) : (nameF V nv nm row x (0, m)).1 = (if varFrom nm V 0 < 0 then 1 else (V.getD (varFrom nm V 0).toNat default).type) := by
 unfold nameF at h ⊢
 split at h
 ·rw [metAt_zero] at h; simp at h
 rename_i h1
 split at h
 ·rw [metAt_zero] at h; simp at h
 rename_i h2
 rw [if_neg h1, if_neg h2, if_neg (fun e => h1 (.inl e))]
theorem typeF_plain {V : List LVar} {nv : Nat} {N : List LNode} (f : Nat) (x m : Int) (hk : 1 ≤ (nodeOf N x).kind ∧ (nodeOf N x).kind ≤ 6) (h : (typeF V nv N (f + 1) x (0, m)).2.1 = 0) : (typeF V nv N (f + 1) x (0, m)).1 = plainT V (nodeOf N x) := by
 simp only [typeF] at h ⊢
 unfold plainT
 by_cases h1 : (nodeOf N x).kind = 1
 ·rw [if_pos h1, if_neg (show ¬ ((nodeOf N x).kind = 2 ∨ (nodeOf N x).kind = 3) by omega), if_neg (show ¬ (nodeOf N x).kind = 5 by omega), if_neg (show ¬ (nodeOf N x).kind = 6 by omega)]
 rw [if_neg h1] at h ⊢
 by_cases h2 : (nodeOf N x).kind = 2
 ·rw [if_pos h2] at h ⊢
  rw [if_pos (.inl h2)]
  exact nameF_plain h
 rw [if_neg h2] at h ⊢
 by_cases h3 : (nodeOf N x).kind = 3
 ·rw [if_pos h3] at h ⊢
  rw [if_pos (.inr h3)]
  refine nameF_plain (Classical.byContradiction fun hn => ?_)
  have e := typeF_met (V := V) (nv := nv) (N := N) f ((nodeOf N x).kids.getD 0 0) hn
  have e2 : typeF V nv N f ((nodeOf N x).kids.getD 0 0) (nameF V nv (nodeOf N x).name true x (0, m)).2 = ((typeF V nv N f ((nodeOf N x).kids.getD 0 0) (nameF V nv (nodeOf N x).name true x (0, m)).2).1, (nameF V nv (nodeOf N x).name true x (0, m)).2) := Prod.ext rfl e
  rw [e2, mustW_met hn] at h
  exact hn h
 rw [if_neg h3] at h ⊢
 rw [if_neg (show ¬ ((nodeOf N x).kind = 2 ∨ (nodeOf N x).kind = 3) by omega)]
 by_cases h4 : (nodeOf N x).kind = 4
 ·rw [if_pos h4, if_neg (show ¬ (nodeOf N x).kind = 5 by omega), if_neg (show ¬ (nodeOf N x).kind = 6 by omega)]
 rw [if_neg h4] at h ⊢
 by_cases h5 : (nodeOf N x).kind = 5
 ·rw [if_pos h5, if_pos h5]
 rw [if_neg h5] at h ⊢
 rw [if_neg h5, if_pos (show (nodeOf N x).kind = 6 by omega)]
 show (if (nodeOf N x).op ≤ 5 then (1 : Int) else 2) = _
 by_cases ho : (nodeOf N x).op ≤ 5
 ·rw [if_pos ho, if_neg (by omega)]
 ·rw [if_neg ho, if_pos (by omega)]
end Go.Proofs.YtcecfmdjicjngaaGreatDoor
namespace Go.Proofs.YtcecfmdjicjngaaGreatDoor
open Go.RowKit
set_option linter.unusedVariables false
attribute [local go_sem] bs_size bs_get bs_extract bs_append bs_eq bs_toList
set_option maxHeartbeats 1600000 in
theorem isTruth_any (n : LNode) (vk vt ve : Value) (W : World) (h1 : ∃ a l c, vk = .slice a l c) (h2 : ∃ a l c, vt = .slice a l c) (h3 : ∃ a l c, ve = .slice a l c) :
  Calls Tryz.prog 262 #[nodeV n vk vt ve] W fun e w' => e = .returned (.bool (decide (n.kind = 1) && inB n.num 0 1)) ∧ Below W.heap.size W w' := by
 obtain ⟨a, l, c, rfl⟩ := h1
 obtain ⟨a2, l2, c2, rfl⟩ := h2
 obtain ⟨a3, l3, c3, rfl⟩ := h3
 have HI : Hid (∀ w, Calls Tryz.prog 84 #[.int .i64 n.num, .int .i64 0, .int .i64 1] w fun e w' => e = .returned (.bool (inB n.num 0 1)) ∧ w' = w) := fun w => within_any n.num 0 1 w
 by_cases hk : n.kind = 1
 ·have e1 : decide (n.kind = 1) = true := decide_eq_true hk
  rw [e1, Bool.true_and]
  clear e1
  generalize inB n.num 0 1 = q at *
  go_enter Tryz.func262, Tryz.ntmps262
  go_wp2_with fail
  refine (HI.out _).mono ?_
  rintro e w2 ⟨rfl, rfl⟩
  go_wp2_with fail
  go_ret
  exact ⟨rfl, by go_grown⟩
 ·have e1 : decide (n.kind = 1) = false := decide_eq_false hk
  have e2 : (n.kind == 1) = false := by simpa using hk
  rw [e1, Bool.false_and]
  clear e1 HI hk
  go_enter Tryz.func262, Tryz.ntmps262
  go_wp2_with fail
  go_ret
  exact ⟨rfl, by go_grown⟩
end Go.Proofs.YtcecfmdjicjngaaGreatDoor
namespace Go.Proofs.YtcecfmdjicjngaaGreatDoor
open Go.RowKit
set_option linter.unusedVariables false
attribute [local go_sem] bs_size bs_get bs_extract bs_append bs_eq bs_toList
def errV (m : Met) : Value := if m.1 = 0 then .nilIface else .iface 107 (.agg #[.int .i64 m.1, .int .i64 m.2])
def namedF (V : List LVar) (nv : Nat) (n : LNode) (x : Int) : Met :=
 if varFrom n.name V 0 < 0 ∨ ((nv : Int) ≤ varFrom n.name V 0 ∧ n.kind ≠ 2) then (4, x)
 else if decide (n.kind = 3 ∨ n.kind = 8) ≠ decide (0 < (V.getD (varFrom n.name V 0).toNat default).size) then (1, x) else (0, 0)
def namedV (V : List LVar) (nv : Nat) (n : LNode) (x : Int) : Value := if (namedF V nv n x).1 = 0 then entVal V nv (varFrom n.name V 0).toNat else noVal
set_option maxHeartbeats 12800000 in
set_option maxRecDepth 100000 in
theorem named_any (lo cp mp : Nat) (W : World) (vn vl : Value) (T : LTree) (V : List LVar) (x : Nat) (hE : CkE lo W cp mp vn vl T V) (hx : x < T.nodes.length) (hnm : (nodeOf T.nodes (x : Int)).name.length ≤ 1048576) :
  Calls Tryz.prog 218 #[.pointer (some ⟨cp, 0, none⟩), .int .i64 (x : Int)] W fun e w' => e = .returned (.tuple #[namedV V T.vars.length (nodeOf T.nodes (x : Int)) (x : Int), errV (namedF V T.vars.length (nodeOf T.nodes (x : Int)) (x : Int))]) ∧ Below W.heap.size W w' := by
 have hB0 : Below W.heap.size W (W.alloc (.cells #[.string ⟨#[]⟩, .int .i64 0, .int .i64 0, .int .i64 0, .bool false, .int .i64 0] 136)) := (Below.refl _ _).alloc (Nat.le_refl _) _
 obtain ⟨bn, on, cn, rfl, vk, vt, ve, ⟨d0, d1, d2, d3, d4, d5, d6, d7⟩, _, ⟨a, c, rfl⟩, ⟨a2, l2, c2, rfl⟩, ⟨a3, l3, c3, rfl⟩⟩ := (hE.below hB0).node x hx
 have k0 : (W.alloc (.cells #[.string ⟨#[]⟩, .int .i64 0, .int .i64 0, .int .i64 0, .bool false, .int .i64 0] 136)).cell? ⟨cp, 0, none⟩ = some (.slice (some ⟨bn, on, none⟩) T.nodes.length cn) := cell_of_row _ _ 0 _ _ _ (hE.below hB0).row
 have k1 : (W.alloc (.cells #[.string ⟨#[]⟩, .int .i64 0, .int .i64 0, .int .i64 0, .bool false, .int .i64 0] 136)).cell? ⟨cp, 1, none⟩ = some (.map (some mp)) := cell_of_row _ _ 1 _ _ _ (hE.below hB0).row
 have hkl := blk_lt hE.row
 have HB0 : Hid _ := hB0
 clear hB0
 have hml := hE.map.lt
 obtain ⟨n, hn⟩ : ∃ n, n = nodeOf T.nodes (x : Int) := ⟨_, rfl⟩
 rw [← hn] at d0 d1 d2 d3 d4 d5 hnm ⊢
 have hnl := hE.good.nodes
 have hx0 : (0 : Int) ≤ (x : Int) := by omega
 have hx1 : (x : Int) < (T.nodes.length : Int) := by omega
 have HMP : Hid (NamesAt W mp V T.vars.length) := hE.map
 have HLK : Hid (∀ Z, NamesAt Z mp V T.vars.length → (Instr.lookup 138 (.map (some mp)) (.string (bs n.name)) true).run Tryz.prog Z = .ok (.tuple #[lookV V T.vars.length V.length n.name, .bool (firstI V n.name V.length).isSome]) Z) := fun Z h => names_look h n.name hnm
 have HFR : Hid ((∀ i, firstI V n.name V.length = some i → varFrom n.name V 0 = (i : Int)) ∧ (firstI V n.name V.length = none → varFrom n.name V 0 = -1)) := by
  obtain ⟨h1, h2⟩ := firstI_from V n.name V.length (Nat.le_refl _)
  exact ⟨fun i hi => (h1 i hi).1, fun hn => by rw [h2 hn, List.drop_length]; rfl⟩
 obtain ⟨F, hF⟩ : ∃ F, F = namedF V T.vars.length n (x : Int) := ⟨_, rfl⟩
 obtain ⟨R, hR⟩ : ∃ R, R = namedV V T.vars.length n (x : Int) := ⟨_, rfl⟩
 have HF : Hid (F = if varFrom n.name V 0 < 0 ∨ ((T.vars.length : Int) ≤ varFrom n.name V 0 ∧ n.kind ≠ 2) then (4, (x : Int)) else if decide (n.kind = 3 ∨ n.kind = 8) ≠ decide (0 < (V.getD (varFrom n.name V 0).toNat default).size) then (1, (x : Int)) else (0, 0)) := hF
 have HR : Hid (R = if F.1 = 0 then entVal V T.vars.length (varFrom n.name V 0).toNat else noVal) := by unfold Hid; rw [hR, hF]; rfl
 rw [← hF, ← hR]
 have hne : ¬ mp = W.heap.size := by omega
 have hne1 : ¬ mp = W.heap.size + 1 := by omega
 obtain ⟨KK, hKK⟩ : ∃ KK, KK = n.kind := ⟨_, rfl⟩
 rw [← hKK] at d0 HF
 clear hn hE hF hR hKK
 cases hr : firstI V n.name V.length with
 | none =>
  have hvf := HFR.out.2 hr
  have HFF : Hid (F = (4, (x : Int))) := by unfold Hid; rw [HF.out, hvf, if_pos (.inl (by omega))]
  have HRR : Hid (R = (.agg #[.string ⟨#[]⟩, .int .i64 0, .int .i64 0, .int .i64 0, .bool false, .int .i64 0])) := by unfold Hid; rw [HR.out, HFF.out]; rfl
  obtain ⟨y0, y1, y2, y3, ob, y5, hy⟩ : ∃ y0 y1 y2 y3 ob y5, noVal = .agg #[.string (bs y0), .int .i64 y1, .int .i64 y2, .int .i64 y3, .bool ob, .int .i64 y5] := ⟨[], 0, 0, 0, false, 0, rfl⟩
  have hlk : ∀ Z, NamesAt Z mp V T.vars.length → (Instr.lookup 138 (.map (some mp)) (.string (bs n.name)) true).run Tryz.prog Z = .ok (.tuple #[.agg #[.string (bs y0), .int .i64 y1, .int .i64 y2, .int .i64 y3, .bool ob, .int .i64 y5], .bool false]) Z := fun Z h => by
   rw [HLK.out Z h]
   have e1 : lookV V T.vars.length V.length n.name = .agg #[.string (bs y0), .int .i64 y1, .int .i64 y2, .int .i64 y3, .bool ob, .int .i64 y5] := by unfold lookV; rw [hr]; exact hy
   rw [e1, hr]; rfl
  clear hy
  clear hr hvf HF HR HFR HLK
  go_enter Tryz.func218, Tryz.ntmps218
  go_wp2_with fail
  have hB0 := HB0.out
  have hZ := heap_alloc_new W (.cells #[.string ⟨#[]⟩, .int .i64 0, .int .i64 0, .int .i64 0, .bool false, .int .i64 0] 136)
  have hA : ((W.alloc (.cells #[.string ⟨#[]⟩, .int .i64 0, .int .i64 0, .int .i64 0, .bool false, .int .i64 0] 136)).alloc (.cells #[.int .i64 KK, .int .i64 n.op, .string (bs n.name), .int .i64 n.num, .int .i64 n.far, .slice a n.kids.length c, .slice a2 l2 c2, .slice a3 l3 c3] 40)).heap[W.heap.size + 1]? = some (.cells #[.int .i64 KK, .int .i64 n.op, .string (bs n.name), .int .i64 n.num, .int .i64 n.far, .slice a n.kids.length c, .slice a2 l2 c2, .slice a3 l3 c3] 40 (0, 0)) := by have h := heap_alloc_new (W.alloc (.cells #[.string ⟨#[]⟩, .int .i64 0, .int .i64 0, .int .i64 0, .bool false, .int .i64 0] 136)) (.cells #[.int .i64 KK, .int .i64 n.op, .string (bs n.name), .int .i64 n.num, .int .i64 n.far, .slice a n.kids.length c, .slice a2 l2 c2, .slice a3 l3 c3] 40); rwa [World.size_alloc] at h
  have hB1 : Below (W.alloc (.cells #[.string ⟨#[]⟩, .int .i64 0, .int .i64 0, .int .i64 0, .bool false, .int .i64 0] 136)).heap.size (W.alloc (.cells #[.string ⟨#[]⟩, .int .i64 0, .int .i64 0, .int .i64 0, .bool false, .int .i64 0] 136)) ((W.alloc (.cells #[.string ⟨#[]⟩, .int .i64 0, .int .i64 0, .int .i64 0, .bool false, .int .i64 0] 136)).alloc (.cells #[.int .i64 KK, .int .i64 n.op, .string (bs n.name), .int .i64 n.num, .int .i64 n.far, .slice a n.kids.length c, .slice a2 l2 c2, .slice a3 l3 c3] 40)) := (Below.refl _ _).alloc (Nat.le_refl _) _
  have hB := hB0.trans (hB1.mono hB0.size)
  have hZ5 := (hB1.block W.heap.size (by simp)).trans hZ
  generalize hW5 : (W.alloc (.cells #[.string ⟨#[]⟩, .int .i64 0, .int .i64 0, .int .i64 0, .bool false, .int .i64 0] 136)).alloc (.cells #[.int .i64 KK, .int .i64 n.op, .string (bs n.name), .int .i64 n.num, .int .i64 n.far, .slice a n.kids.length c, .slice a2 l2 c2, .slice a3 l3 c3] 40) = W5 at *
  clear hW5 hZ
  have q1 : W5.cell? ⟨cp, 1, none⟩ = some (.map (some mp)) := (hB1.cell (p := ⟨cp, 1, none⟩) (Nat.lt_of_lt_of_le hkl hB0.size)).trans k1
  obtain ⟨q3, -, q2⟩ := cl3 hA
  obtain ⟨z0, z1, z2, z3, z4, z5⟩ := cl6 hZ5
  obtain ⟨f0, f1, f2, f3, f4, f5⟩ := fl6 hZ5
  have hm5 : NamesAt W5 mp V T.vars.length := ownsMap_block HMP.out (hB.block _ hml)
  have hMA : ∀ (Z : World) (o : Obj), NamesAt Z mp V T.vars.length → NamesAt (Z.alloc o) mp V T.vars.length := fun Z o h => h.alloc o
  have hMS : ∀ (Z : World) (q : Addr) (u : Value), ¬ mp = q.block → NamesAt Z mp V T.vars.length → NamesAt (Z.setCell q u) mp V T.vars.length := fun Z q u hq h => h.setCell hq u
  have hMR : ∀ (Z : World), NamesAt Z mp V T.vars.length → NamesAt Z.drew mp V T.vars.length := fun Z h => h
  have hMD := hMR _ hm5
  have hsz := blk_lt hA
  have hsz0 : W.heap.size < W5.heap.size := by omega
  have hne5 : ¬ mp = W5.heap.size := by omega
  have HBW : Hid (Below W.heap.size W W5) := hB
  clear k0 k1 d0 d1 d2 d3 d4 d5 d6 d7 hA HMP hB hZ5 hB0 hB1 HB0
  go_region_held3 (fun Z => Z.cell? ⟨cp, 1, none⟩ = some (.map (some mp)) ∧ Z.cell? ⟨W.heap.size + 1, 2, none⟩ = some (.string (bs n.name)) ∧ NamesAt Z mp V T.vars.length) (go_keep) (fail)
  all_goals
   have hb7 : Below W5.heap.size W5 ((W5.alloc (.cells #[.string (bs y0), .int .i64 y1, .int .i64 y2, .int .i64 y3, .bool ob, .int .i64 y5] 136)).drew) := ((Below.refl _ _).alloc (Nat.le_refl _) _).drew
   have hv7 : ((W5.alloc (.cells #[.string (bs y0), .int .i64 y1, .int .i64 y2, .int .i64 y3, .bool ob, .int .i64 y5] 136)).drew).heap[W5.heap.size]? = some (.cells #[.string (bs y0), .int .i64 y1, .int .i64 y2, .int .i64 y3, .bool ob, .int .i64 y5] 136 (0, 0)) := heap_alloc_new W5 _
   generalize hW7 : (W5.alloc (.cells #[.string (bs y0), .int .i64 y1, .int .i64 y2, .int .i64 y3, .bool ob, .int .i64 y5] 136)).drew = W7 at *
   clear hW7 hMA hMS hMR hMD hlk hm5
   have hBW7 : Below W.heap.size W W7 := HBW.out.trans (hb7.mono HBW.out.size)
   have HB7 : Hid (Below W.heap.size W W7) := hBW7
   have u0 := (hb7.cell (p := ⟨W.heap.size, 0, none⟩) hsz0).trans z0
   have u1 := (hb7.cell (p := ⟨W.heap.size, 1, none⟩) hsz0).trans z1
   have u2 := (hb7.cell (p := ⟨W.heap.size, 2, none⟩) hsz0).trans z2
   have u3 := (hb7.cell (p := ⟨W.heap.size, 3, none⟩) hsz0).trans z3
   have u4 := (hb7.cell (p := ⟨W.heap.size, 4, none⟩) hsz0).trans z4
   have u5 := (hb7.cell (p := ⟨W.heap.size, 5, none⟩) hsz0).trans z5
   have g0 := (hb7.frozen (p := ⟨W.heap.size, 0, none⟩) hsz0).trans f0
   have g1 := (hb7.frozen (p := ⟨W.heap.size, 1, none⟩) hsz0).trans f1
   have g2 := (hb7.frozen (p := ⟨W.heap.size, 2, none⟩) hsz0).trans f2
   have g3 := (hb7.frozen (p := ⟨W.heap.size, 3, none⟩) hsz0).trans f3
   have g4 := (hb7.frozen (p := ⟨W.heap.size, 4, none⟩) hsz0).trans f4
   have g5 := (hb7.frozen (p := ⟨W.heap.size, 5, none⟩) hsz0).trans f5
   have q7 := (hb7.cell (p := ⟨W.heap.size + 1, 0, none⟩) hsz).trans q3
   obtain ⟨v0, v1, v2, v3, v4, v5⟩ := cl6 hv7
   clear hb7 hv7 z0 z1 z2 z3 z4 z5 f0 f1 f2 f3 f4 f5 q1 q2 q3 HBW hBW7
   generalize hX : W5.heap.size = X5 at *
   clear hX hsz hsz0 hne hne1 hne5
   go_wp2_with fail
   refine bodyPost_ret (v := .tuple #[R, errV F]) (by rw [HRR.out, HFF.out]; simp [results, Tryz.results218, go_sem, errV, u0, u1, u2, u3, u4, u5]) rfl ⟨rfl, ?_⟩
   exact (((((HB7.out.setCell (Nat.le_refl _) _).setCell (Nat.le_refl _) _).setCell (Nat.le_refl _) _).setCell (Nat.le_refl _) _).setCell (Nat.le_refl _) _).setCell (Nat.le_refl _) _
 | some i =>
  have hvf := HFR.out.1 i hr
  obtain ⟨y0, y1, y2, y3, ob, y5, hy, h3, hob⟩ : ∃ y0 y1 y2 y3 ob y5, entVal V T.vars.length i = .agg #[.string (bs y0), .int .i64 y1, .int .i64 y2, .int .i64 y3, .bool ob, .int .i64 y5] ∧ y3 = (V.getD i default).size ∧ ob = decide (T.vars.length ≤ i) := ⟨_, _, _, _, _, _, rfl, rfl, rfl⟩
  have hlk : ∀ Z, NamesAt Z mp V T.vars.length → (Instr.lookup 138 (.map (some mp)) (.string (bs n.name)) true).run Tryz.prog Z = .ok (.tuple #[.agg #[.string (bs y0), .int .i64 y1, .int .i64 y2, .int .i64 y3, .bool ob, .int .i64 y5], .bool true]) Z := fun Z h => by
   rw [HLK.out Z h]
   have e1 : lookV V T.vars.length V.length n.name = .agg #[.string (bs y0), .int .i64 y1, .int .i64 y2, .int .i64 y3, .bool ob, .int .i64 y5] := by unfold lookV; rw [hr]; exact hy
   rw [e1, hr]; rfl
  have HF2 : Hid (F = if ob = true ∧ KK ≠ 2 then (4, (x : Int)) else if decide (KK = 3 ∨ KK = 8) ≠ decide (0 < y3) then (1, (x : Int)) else (0, 0)) := by
   unfold Hid
   rw [HF.out, hvf, Int.toNat_natCast, ← h3, hob]
   congr 1
   simp only [decide_eq_true_eq, eq_iff_iff]
   omega
  have HR2 : Hid (R = if F.1 = 0 then .agg #[.string (bs y0), .int .i64 y1, .int .i64 y2, .int .i64 y3, .bool ob, .int .i64 y5] else noVal) := by unfold Hid; rw [HR.out, hvf, Int.toNat_natCast, hy]
  clear hr hvf HF HR HFR HLK hy h3 hob
  by_cases hown : ob = true ∧ KK ≠ 2
  ·have HFX : Hid (F = (4, (x : Int))) := by unfold Hid; rw [HF2.out, if_pos hown]
   obtain ⟨rfl, hk⟩ := hown
   have e2 : (KK != 2) = true := by simpa using hk
   have HFF := HFX
   have HRR : Hid (R = (.agg #[.string ⟨#[]⟩, .int .i64 0, .int .i64 0, .int .i64 0, .bool false, .int .i64 0])) := by unfold Hid; rw [HR2.out, HFX.out]; rfl
   clear HF2 HR2 HFX hk
   go_enter Tryz.func218, Tryz.ntmps218
   go_wp2_with fail
   have hB0 := HB0.out
   have hZ := heap_alloc_new W (.cells #[.string ⟨#[]⟩, .int .i64 0, .int .i64 0, .int .i64 0, .bool false, .int .i64 0] 136)
   have hA : ((W.alloc (.cells #[.string ⟨#[]⟩, .int .i64 0, .int .i64 0, .int .i64 0, .bool false, .int .i64 0] 136)).alloc (.cells #[.int .i64 KK, .int .i64 n.op, .string (bs n.name), .int .i64 n.num, .int .i64 n.far, .slice a n.kids.length c, .slice a2 l2 c2, .slice a3 l3 c3] 40)).heap[W.heap.size + 1]? = some (.cells #[.int .i64 KK, .int .i64 n.op, .string (bs n.name), .int .i64 n.num, .int .i64 n.far, .slice a n.kids.length c, .slice a2 l2 c2, .slice a3 l3 c3] 40 (0, 0)) := by have h := heap_alloc_new (W.alloc (.cells #[.string ⟨#[]⟩, .int .i64 0, .int .i64 0, .int .i64 0, .bool false, .int .i64 0] 136)) (.cells #[.int .i64 KK, .int .i64 n.op, .string (bs n.name), .int .i64 n.num, .int .i64 n.far, .slice a n.kids.length c, .slice a2 l2 c2, .slice a3 l3 c3] 40); rwa [World.size_alloc] at h
   have hB1 : Below (W.alloc (.cells #[.string ⟨#[]⟩, .int .i64 0, .int .i64 0, .int .i64 0, .bool false, .int .i64 0] 136)).heap.size (W.alloc (.cells #[.string ⟨#[]⟩, .int .i64 0, .int .i64 0, .int .i64 0, .bool false, .int .i64 0] 136)) ((W.alloc (.cells #[.string ⟨#[]⟩, .int .i64 0, .int .i64 0, .int .i64 0, .bool false, .int .i64 0] 136)).alloc (.cells #[.int .i64 KK, .int .i64 n.op, .string (bs n.name), .int .i64 n.num, .int .i64 n.far, .slice a n.kids.length c, .slice a2 l2 c2, .slice a3 l3 c3] 40)) := (Below.refl _ _).alloc (Nat.le_refl _) _
   have hB := hB0.trans (hB1.mono hB0.size)
   have hZ5 := (hB1.block W.heap.size (by simp)).trans hZ
   generalize hW5 : (W.alloc (.cells #[.string ⟨#[]⟩, .int .i64 0, .int .i64 0, .int .i64 0, .bool false, .int .i64 0] 136)).alloc (.cells #[.int .i64 KK, .int .i64 n.op, .string (bs n.name), .int .i64 n.num, .int .i64 n.far, .slice a n.kids.length c, .slice a2 l2 c2, .slice a3 l3 c3] 40) = W5 at *
   clear hW5 hZ
   have q1 : W5.cell? ⟨cp, 1, none⟩ = some (.map (some mp)) := (hB1.cell (p := ⟨cp, 1, none⟩) (Nat.lt_of_lt_of_le hkl hB0.size)).trans k1
   obtain ⟨q3, -, q2⟩ := cl3 hA
   obtain ⟨z0, z1, z2, z3, z4, z5⟩ := cl6 hZ5
   obtain ⟨f0, f1, f2, f3, f4, f5⟩ := fl6 hZ5
   have hm5 : NamesAt W5 mp V T.vars.length := ownsMap_block HMP.out (hB.block _ hml)
   have hMA : ∀ (Z : World) (o : Obj), NamesAt Z mp V T.vars.length → NamesAt (Z.alloc o) mp V T.vars.length := fun Z o h => h.alloc o
   have hMS : ∀ (Z : World) (q : Addr) (u : Value), ¬ mp = q.block → NamesAt Z mp V T.vars.length → NamesAt (Z.setCell q u) mp V T.vars.length := fun Z q u hq h => h.setCell hq u
   have hMR : ∀ (Z : World), NamesAt Z mp V T.vars.length → NamesAt Z.drew mp V T.vars.length := fun Z h => h
   have hMD := hMR _ hm5
   have hsz := blk_lt hA
   have hsz0 : W.heap.size < W5.heap.size := by omega
   have hne5 : ¬ mp = W5.heap.size := by omega
   have HBW : Hid (Below W.heap.size W W5) := hB
   clear k0 k1 d0 d1 d2 d3 d4 d5 d6 d7 hA HMP hB hZ5 hB0 hB1 HB0
   go_region_held3 (fun Z => Z.cell? ⟨cp, 1, none⟩ = some (.map (some mp)) ∧ Z.cell? ⟨W.heap.size + 1, 2, none⟩ = some (.string (bs n.name)) ∧ NamesAt Z mp V T.vars.length) (go_keep) (fail)
   all_goals
    have hb7 : Below W5.heap.size W5 ((W5.alloc (.cells #[.string (bs y0), .int .i64 y1, .int .i64 y2, .int .i64 y3, .bool true, .int .i64 y5] 136)).drew) := ((Below.refl _ _).alloc (Nat.le_refl _) _).drew
    have hv7 : ((W5.alloc (.cells #[.string (bs y0), .int .i64 y1, .int .i64 y2, .int .i64 y3, .bool true, .int .i64 y5] 136)).drew).heap[W5.heap.size]? = some (.cells #[.string (bs y0), .int .i64 y1, .int .i64 y2, .int .i64 y3, .bool true, .int .i64 y5] 136 (0, 0)) := heap_alloc_new W5 _
    generalize hW7 : (W5.alloc (.cells #[.string (bs y0), .int .i64 y1, .int .i64 y2, .int .i64 y3, .bool true, .int .i64 y5] 136)).drew = W7 at *
    clear hW7 hMA hMS hMR hMD hlk hm5
    have hBW7 : Below W.heap.size W W7 := HBW.out.trans (hb7.mono HBW.out.size)
    have HB7 : Hid (Below W.heap.size W W7) := hBW7
    have u0 := (hb7.cell (p := ⟨W.heap.size, 0, none⟩) hsz0).trans z0
    have u1 := (hb7.cell (p := ⟨W.heap.size, 1, none⟩) hsz0).trans z1
    have u2 := (hb7.cell (p := ⟨W.heap.size, 2, none⟩) hsz0).trans z2
    have u3 := (hb7.cell (p := ⟨W.heap.size, 3, none⟩) hsz0).trans z3
    have u4 := (hb7.cell (p := ⟨W.heap.size, 4, none⟩) hsz0).trans z4
    have u5 := (hb7.cell (p := ⟨W.heap.size, 5, none⟩) hsz0).trans z5
    have g0 := (hb7.frozen (p := ⟨W.heap.size, 0, none⟩) hsz0).trans f0
    have g1 := (hb7.frozen (p := ⟨W.heap.size, 1, none⟩) hsz0).trans f1
    have g2 := (hb7.frozen (p := ⟨W.heap.size, 2, none⟩) hsz0).trans f2
    have g3 := (hb7.frozen (p := ⟨W.heap.size, 3, none⟩) hsz0).trans f3
    have g4 := (hb7.frozen (p := ⟨W.heap.size, 4, none⟩) hsz0).trans f4
    have g5 := (hb7.frozen (p := ⟨W.heap.size, 5, none⟩) hsz0).trans f5
    have q7 := (hb7.cell (p := ⟨W.heap.size + 1, 0, none⟩) hsz).trans q3
    obtain ⟨v0, v1, v2, v3, v4, v5⟩ := cl6 hv7
    clear hb7 hv7 z0 z1 z2 z3 z4 z5 f0 f1 f2 f3 f4 f5 q1 q2 q3 HBW hBW7
    generalize hX : W5.heap.size = X5 at *
    clear hX hsz hsz0 hne hne1 hne5
    go_wp2_with fail
    refine bodyPost_ret (v := .tuple #[R, errV F]) (by rw [HRR.out, HFF.out]; simp [results, Tryz.results218, go_sem, errV, u0, u1, u2, u3, u4, u5]) rfl ⟨rfl, ?_⟩
    exact (((((HB7.out.setCell (Nat.le_refl _) _).setCell (Nat.le_refl _) _).setCell (Nat.le_refl _) _).setCell (Nat.le_refl _) _).setCell (Nat.le_refl _) _).setCell (Nat.le_refl _) _
  have HF3 : Hid (F = if decide (KK = 3 ∨ KK = 8) ≠ decide (0 < y3) then (1, (x : Int)) else (0, 0)) := by unfold Hid; rw [HF2.out, if_neg hown]
  clear HF2
  have hown2 : ob = false ∨ (ob = true ∧ KK = 2) := by
   cases ob with
   | false => exact .inl rfl
   | true => exact .inr ⟨rfl, Classical.byContradiction fun h => hown ⟨rfl, h⟩⟩
  clear hown
  by_cases h3 : 0 < y3
  ·have hd3 : decide (0 < y3) = true := decide_eq_true h3
   rcases hown2 with rfl | ⟨rfl, rfl⟩
   ·by_cases k3 : KK = 3
    ·subst k3
     have hrw : decide ((3 : Int) = 3 ∨ (3 : Int) = 8) = true := by decide
     have HFF : Hid (F = (0, 0)) := by unfold Hid; rw [HF3.out, hrw, hd3, if_neg (by decide)]
     have HRR : Hid (R = (.agg #[.string (bs y0), .int .i64 y1, .int .i64 y2, .int .i64 y3, .bool false, .int .i64 y5])) := by unfold Hid; rw [HR2.out, HFF.out]; rfl
     clear HF3 HR2 hrw
     go_enter Tryz.func218, Tryz.ntmps218
     go_wp2_with fail
     have hB0 := HB0.out
     have hZ := heap_alloc_new W (.cells #[.string ⟨#[]⟩, .int .i64 0, .int .i64 0, .int .i64 0, .bool false, .int .i64 0] 136)
     have hA : ((W.alloc (.cells #[.string ⟨#[]⟩, .int .i64 0, .int .i64 0, .int .i64 0, .bool false, .int .i64 0] 136)).alloc (.cells #[.int .i64 3, .int .i64 n.op, .string (bs n.name), .int .i64 n.num, .int .i64 n.far, .slice a n.kids.length c, .slice a2 l2 c2, .slice a3 l3 c3] 40)).heap[W.heap.size + 1]? = some (.cells #[.int .i64 3, .int .i64 n.op, .string (bs n.name), .int .i64 n.num, .int .i64 n.far, .slice a n.kids.length c, .slice a2 l2 c2, .slice a3 l3 c3] 40 (0, 0)) := by have h := heap_alloc_new (W.alloc (.cells #[.string ⟨#[]⟩, .int .i64 0, .int .i64 0, .int .i64 0, .bool false, .int .i64 0] 136)) (.cells #[.int .i64 3, .int .i64 n.op, .string (bs n.name), .int .i64 n.num, .int .i64 n.far, .slice a n.kids.length c, .slice a2 l2 c2, .slice a3 l3 c3] 40); rwa [World.size_alloc] at h
     have hB1 : Below (W.alloc (.cells #[.string ⟨#[]⟩, .int .i64 0, .int .i64 0, .int .i64 0, .bool false, .int .i64 0] 136)).heap.size (W.alloc (.cells #[.string ⟨#[]⟩, .int .i64 0, .int .i64 0, .int .i64 0, .bool false, .int .i64 0] 136)) ((W.alloc (.cells #[.string ⟨#[]⟩, .int .i64 0, .int .i64 0, .int .i64 0, .bool false, .int .i64 0] 136)).alloc (.cells #[.int .i64 3, .int .i64 n.op, .string (bs n.name), .int .i64 n.num, .int .i64 n.far, .slice a n.kids.length c, .slice a2 l2 c2, .slice a3 l3 c3] 40)) := (Below.refl _ _).alloc (Nat.le_refl _) _
     have hB := hB0.trans (hB1.mono hB0.size)
     have hZ5 := (hB1.block W.heap.size (by simp)).trans hZ
     generalize hW5 : (W.alloc (.cells #[.string ⟨#[]⟩, .int .i64 0, .int .i64 0, .int .i64 0, .bool false, .int .i64 0] 136)).alloc (.cells #[.int .i64 3, .int .i64 n.op, .string (bs n.name), .int .i64 n.num, .int .i64 n.far, .slice a n.kids.length c, .slice a2 l2 c2, .slice a3 l3 c3] 40) = W5 at *
     clear hW5 hZ
     have q1 : W5.cell? ⟨cp, 1, none⟩ = some (.map (some mp)) := (hB1.cell (p := ⟨cp, 1, none⟩) (Nat.lt_of_lt_of_le hkl hB0.size)).trans k1
     obtain ⟨q3, -, q2⟩ := cl3 hA
     obtain ⟨z0, z1, z2, z3, z4, z5⟩ := cl6 hZ5
     obtain ⟨f0, f1, f2, f3, f4, f5⟩ := fl6 hZ5
     have hm5 : NamesAt W5 mp V T.vars.length := ownsMap_block HMP.out (hB.block _ hml)
     have hMA : ∀ (Z : World) (o : Obj), NamesAt Z mp V T.vars.length → NamesAt (Z.alloc o) mp V T.vars.length := fun Z o h => h.alloc o
     have hMS : ∀ (Z : World) (q : Addr) (u : Value), ¬ mp = q.block → NamesAt Z mp V T.vars.length → NamesAt (Z.setCell q u) mp V T.vars.length := fun Z q u hq h => h.setCell hq u
     have hMR : ∀ (Z : World), NamesAt Z mp V T.vars.length → NamesAt Z.drew mp V T.vars.length := fun Z h => h
     have hMD := hMR _ hm5
     have hsz := blk_lt hA
     have hsz0 : W.heap.size < W5.heap.size := by omega
     have hne5 : ¬ mp = W5.heap.size := by omega
     have HBW : Hid (Below W.heap.size W W5) := hB
     clear k0 k1 d0 d1 d2 d3 d4 d5 d6 d7 hA HMP hB hZ5 hB0 hB1 HB0
     go_region_held3 (fun Z => Z.cell? ⟨cp, 1, none⟩ = some (.map (some mp)) ∧ Z.cell? ⟨W.heap.size + 1, 2, none⟩ = some (.string (bs n.name)) ∧ NamesAt Z mp V T.vars.length) (go_keep) (fail)
     all_goals
      have hb7 : Below W5.heap.size W5 ((W5.alloc (.cells #[.string (bs y0), .int .i64 y1, .int .i64 y2, .int .i64 y3, .bool false, .int .i64 y5] 136)).drew) := ((Below.refl _ _).alloc (Nat.le_refl _) _).drew
      have hv7 : ((W5.alloc (.cells #[.string (bs y0), .int .i64 y1, .int .i64 y2, .int .i64 y3, .bool false, .int .i64 y5] 136)).drew).heap[W5.heap.size]? = some (.cells #[.string (bs y0), .int .i64 y1, .int .i64 y2, .int .i64 y3, .bool false, .int .i64 y5] 136 (0, 0)) := heap_alloc_new W5 _
      generalize hW7 : (W5.alloc (.cells #[.string (bs y0), .int .i64 y1, .int .i64 y2, .int .i64 y3, .bool false, .int .i64 y5] 136)).drew = W7 at *
      clear hW7 hMA hMS hMR hMD hlk hm5
      have hBW7 : Below W.heap.size W W7 := HBW.out.trans (hb7.mono HBW.out.size)
      have HB7 : Hid (Below W.heap.size W W7) := hBW7
      have u0 := (hb7.cell (p := ⟨W.heap.size, 0, none⟩) hsz0).trans z0
      have u1 := (hb7.cell (p := ⟨W.heap.size, 1, none⟩) hsz0).trans z1
      have u2 := (hb7.cell (p := ⟨W.heap.size, 2, none⟩) hsz0).trans z2
      have u3 := (hb7.cell (p := ⟨W.heap.size, 3, none⟩) hsz0).trans z3
      have u4 := (hb7.cell (p := ⟨W.heap.size, 4, none⟩) hsz0).trans z4
      have u5 := (hb7.cell (p := ⟨W.heap.size, 5, none⟩) hsz0).trans z5
      have g0 := (hb7.frozen (p := ⟨W.heap.size, 0, none⟩) hsz0).trans f0
      have g1 := (hb7.frozen (p := ⟨W.heap.size, 1, none⟩) hsz0).trans f1
      have g2 := (hb7.frozen (p := ⟨W.heap.size, 2, none⟩) hsz0).trans f2
      have g3 := (hb7.frozen (p := ⟨W.heap.size, 3, none⟩) hsz0).trans f3
      have g4 := (hb7.frozen (p := ⟨W.heap.size, 4, none⟩) hsz0).trans f4
      have g5 := (hb7.frozen (p := ⟨W.heap.size, 5, none⟩) hsz0).trans f5
      have q7 := (hb7.cell (p := ⟨W.heap.size + 1, 0, none⟩) hsz).trans q3
      obtain ⟨v0, v1, v2, v3, v4, v5⟩ := cl6 hv7
      clear hb7 hv7 z0 z1 z2 z3 z4 z5 f0 f1 f2 f3 f4 f5 q1 q2 q3 HBW hBW7
      generalize hX : W5.heap.size = X5 at *
      clear hX hsz hsz0 hne hne1 hne5
      go_wp2_with fail
      refine bodyPost_ret (v := .tuple #[R, errV F]) (by rw [HRR.out, HFF.out]; simp [results, Tryz.results218, go_sem, errV, u0, u1, u2, u3, u4, u5]) rfl ⟨rfl, ?_⟩
      exact (((((HB7.out.setCell (Nat.le_refl _) _).setCell (Nat.le_refl _) _).setCell (Nat.le_refl _) _).setCell (Nat.le_refl _) _).setCell (Nat.le_refl _) _).setCell (Nat.le_refl _) _
    by_cases k8 : KK = 8
    ·subst k8
     have hrw : decide ((8 : Int) = 3 ∨ (8 : Int) = 8) = true := by decide
     have HFF : Hid (F = (0, 0)) := by unfold Hid; rw [HF3.out, hrw, hd3, if_neg (by decide)]
     have HRR : Hid (R = (.agg #[.string (bs y0), .int .i64 y1, .int .i64 y2, .int .i64 y3, .bool false, .int .i64 y5])) := by unfold Hid; rw [HR2.out, HFF.out]; rfl
     clear HF3 HR2 hrw
     go_enter Tryz.func218, Tryz.ntmps218
     go_wp2_with fail
     have hB0 := HB0.out
     have hZ := heap_alloc_new W (.cells #[.string ⟨#[]⟩, .int .i64 0, .int .i64 0, .int .i64 0, .bool false, .int .i64 0] 136)
     have hA : ((W.alloc (.cells #[.string ⟨#[]⟩, .int .i64 0, .int .i64 0, .int .i64 0, .bool false, .int .i64 0] 136)).alloc (.cells #[.int .i64 8, .int .i64 n.op, .string (bs n.name), .int .i64 n.num, .int .i64 n.far, .slice a n.kids.length c, .slice a2 l2 c2, .slice a3 l3 c3] 40)).heap[W.heap.size + 1]? = some (.cells #[.int .i64 8, .int .i64 n.op, .string (bs n.name), .int .i64 n.num, .int .i64 n.far, .slice a n.kids.length c, .slice a2 l2 c2, .slice a3 l3 c3] 40 (0, 0)) := by have h := heap_alloc_new (W.alloc (.cells #[.string ⟨#[]⟩, .int .i64 0, .int .i64 0, .int .i64 0, .bool false, .int .i64 0] 136)) (.cells #[.int .i64 8, .int .i64 n.op, .string (bs n.name), .int .i64 n.num, .int .i64 n.far, .slice a n.kids.length c, .slice a2 l2 c2, .slice a3 l3 c3] 40); rwa [World.size_alloc] at h
     have hB1 : Below (W.alloc (.cells #[.string ⟨#[]⟩, .int .i64 0, .int .i64 0, .int .i64 0, .bool false, .int .i64 0] 136)).heap.size (W.alloc (.cells #[.string ⟨#[]⟩, .int .i64 0, .int .i64 0, .int .i64 0, .bool false, .int .i64 0] 136)) ((W.alloc (.cells #[.string ⟨#[]⟩, .int .i64 0, .int .i64 0, .int .i64 0, .bool false, .int .i64 0] 136)).alloc (.cells #[.int .i64 8, .int .i64 n.op, .string (bs n.name), .int .i64 n.num, .int .i64 n.far, .slice a n.kids.length c, .slice a2 l2 c2, .slice a3 l3 c3] 40)) := (Below.refl _ _).alloc (Nat.le_refl _) _
     have hB := hB0.trans (hB1.mono hB0.size)
     have hZ5 := (hB1.block W.heap.size (by simp)).trans hZ
     generalize hW5 : (W.alloc (.cells #[.string ⟨#[]⟩, .int .i64 0, .int .i64 0, .int .i64 0, .bool false, .int .i64 0] 136)).alloc (.cells #[.int .i64 8, .int .i64 n.op, .string (bs n.name), .int .i64 n.num, .int .i64 n.far, .slice a n.kids.length c, .slice a2 l2 c2, .slice a3 l3 c3] 40) = W5 at *
     clear hW5 hZ
     have q1 : W5.cell? ⟨cp, 1, none⟩ = some (.map (some mp)) := (hB1.cell (p := ⟨cp, 1, none⟩) (Nat.lt_of_lt_of_le hkl hB0.size)).trans k1
     obtain ⟨q3, -, q2⟩ := cl3 hA
     obtain ⟨z0, z1, z2, z3, z4, z5⟩ := cl6 hZ5
     obtain ⟨f0, f1, f2, f3, f4, f5⟩ := fl6 hZ5
     have hm5 : NamesAt W5 mp V T.vars.length := ownsMap_block HMP.out (hB.block _ hml)
     have hMA : ∀ (Z : World) (o : Obj), NamesAt Z mp V T.vars.length → NamesAt (Z.alloc o) mp V T.vars.length := fun Z o h => h.alloc o
     have hMS : ∀ (Z : World) (q : Addr) (u : Value), ¬ mp = q.block → NamesAt Z mp V T.vars.length → NamesAt (Z.setCell q u) mp V T.vars.length := fun Z q u hq h => h.setCell hq u
     have hMR : ∀ (Z : World), NamesAt Z mp V T.vars.length → NamesAt Z.drew mp V T.vars.length := fun Z h => h
     have hMD := hMR _ hm5
     have hsz := blk_lt hA
     have hsz0 : W.heap.size < W5.heap.size := by omega
     have hne5 : ¬ mp = W5.heap.size := by omega
     have HBW : Hid (Below W.heap.size W W5) := hB
     clear k0 k1 d0 d1 d2 d3 d4 d5 d6 d7 hA HMP hB hZ5 hB0 hB1 HB0
     go_region_held3 (fun Z => Z.cell? ⟨cp, 1, none⟩ = some (.map (some mp)) ∧ Z.cell? ⟨W.heap.size + 1, 2, none⟩ = some (.string (bs n.name)) ∧ NamesAt Z mp V T.vars.length) (go_keep) (fail)
     all_goals
      have hb7 : Below W5.heap.size W5 ((W5.alloc (.cells #[.string (bs y0), .int .i64 y1, .int .i64 y2, .int .i64 y3, .bool false, .int .i64 y5] 136)).drew) := ((Below.refl _ _).alloc (Nat.le_refl _) _).drew
      have hv7 : ((W5.alloc (.cells #[.string (bs y0), .int .i64 y1, .int .i64 y2, .int .i64 y3, .bool false, .int .i64 y5] 136)).drew).heap[W5.heap.size]? = some (.cells #[.string (bs y0), .int .i64 y1, .int .i64 y2, .int .i64 y3, .bool false, .int .i64 y5] 136 (0, 0)) := heap_alloc_new W5 _
      generalize hW7 : (W5.alloc (.cells #[.string (bs y0), .int .i64 y1, .int .i64 y2, .int .i64 y3, .bool false, .int .i64 y5] 136)).drew = W7 at *
      clear hW7 hMA hMS hMR hMD hlk hm5
      have hBW7 : Below W.heap.size W W7 := HBW.out.trans (hb7.mono HBW.out.size)
      have HB7 : Hid (Below W.heap.size W W7) := hBW7
      have u0 := (hb7.cell (p := ⟨W.heap.size, 0, none⟩) hsz0).trans z0
      have u1 := (hb7.cell (p := ⟨W.heap.size, 1, none⟩) hsz0).trans z1
      have u2 := (hb7.cell (p := ⟨W.heap.size, 2, none⟩) hsz0).trans z2
      have u3 := (hb7.cell (p := ⟨W.heap.size, 3, none⟩) hsz0).trans z3
      have u4 := (hb7.cell (p := ⟨W.heap.size, 4, none⟩) hsz0).trans z4
      have u5 := (hb7.cell (p := ⟨W.heap.size, 5, none⟩) hsz0).trans z5
      have g0 := (hb7.frozen (p := ⟨W.heap.size, 0, none⟩) hsz0).trans f0
      have g1 := (hb7.frozen (p := ⟨W.heap.size, 1, none⟩) hsz0).trans f1
      have g2 := (hb7.frozen (p := ⟨W.heap.size, 2, none⟩) hsz0).trans f2
      have g3 := (hb7.frozen (p := ⟨W.heap.size, 3, none⟩) hsz0).trans f3
      have g4 := (hb7.frozen (p := ⟨W.heap.size, 4, none⟩) hsz0).trans f4
      have g5 := (hb7.frozen (p := ⟨W.heap.size, 5, none⟩) hsz0).trans f5
      have q7 := (hb7.cell (p := ⟨W.heap.size + 1, 0, none⟩) hsz).trans q3
      obtain ⟨v0, v1, v2, v3, v4, v5⟩ := cl6 hv7
      clear hb7 hv7 z0 z1 z2 z3 z4 z5 f0 f1 f2 f3 f4 f5 q1 q2 q3 HBW hBW7
      generalize hX : W5.heap.size = X5 at *
      clear hX hsz hsz0 hne hne1 hne5
      go_wp2_with fail
      refine bodyPost_ret (v := .tuple #[R, errV F]) (by rw [HRR.out, HFF.out]; simp [results, Tryz.results218, go_sem, errV, u0, u1, u2, u3, u4, u5]) rfl ⟨rfl, ?_⟩
      exact (((((HB7.out.setCell (Nat.le_refl _) _).setCell (Nat.le_refl _) _).setCell (Nat.le_refl _) _).setCell (Nat.le_refl _) _).setCell (Nat.le_refl _) _).setCell (Nat.le_refl _) _
    have e3 : (KK == 3) = false := by simpa using k3
    have e8 : (KK == 8) = false := by simpa using k8
    have hrw : decide (KK = 3 ∨ KK = 8) = false := decide_eq_false (by omega)
    have HFF : Hid (F = (1, (x : Int))) := by unfold Hid; rw [HF3.out, hrw, hd3, if_pos (by decide)]
    have HRR : Hid (R = (.agg #[.string ⟨#[]⟩, .int .i64 0, .int .i64 0, .int .i64 0, .bool false, .int .i64 0])) := by unfold Hid; rw [HR2.out, HFF.out]; rfl
    clear HF3 HR2 hrw
    clear k3 k8
    go_enter Tryz.func218, Tryz.ntmps218
    go_wp2_with fail
    have hB0 := HB0.out
    have hZ := heap_alloc_new W (.cells #[.string ⟨#[]⟩, .int .i64 0, .int .i64 0, .int .i64 0, .bool false, .int .i64 0] 136)
    have hA : ((W.alloc (.cells #[.string ⟨#[]⟩, .int .i64 0, .int .i64 0, .int .i64 0, .bool false, .int .i64 0] 136)).alloc (.cells #[.int .i64 KK, .int .i64 n.op, .string (bs n.name), .int .i64 n.num, .int .i64 n.far, .slice a n.kids.length c, .slice a2 l2 c2, .slice a3 l3 c3] 40)).heap[W.heap.size + 1]? = some (.cells #[.int .i64 KK, .int .i64 n.op, .string (bs n.name), .int .i64 n.num, .int .i64 n.far, .slice a n.kids.length c, .slice a2 l2 c2, .slice a3 l3 c3] 40 (0, 0)) := by have h := heap_alloc_new (W.alloc (.cells #[.string ⟨#[]⟩, .int .i64 0, .int .i64 0, .int .i64 0, .bool false, .int .i64 0] 136)) (.cells #[.int .i64 KK, .int .i64 n.op, .string (bs n.name), .int .i64 n.num, .int .i64 n.far, .slice a n.kids.length c, .slice a2 l2 c2, .slice a3 l3 c3] 40); rwa [World.size_alloc] at h
    have hB1 : Below (W.alloc (.cells #[.string ⟨#[]⟩, .int .i64 0, .int .i64 0, .int .i64 0, .bool false, .int .i64 0] 136)).heap.size (W.alloc (.cells #[.string ⟨#[]⟩, .int .i64 0, .int .i64 0, .int .i64 0, .bool false, .int .i64 0] 136)) ((W.alloc (.cells #[.string ⟨#[]⟩, .int .i64 0, .int .i64 0, .int .i64 0, .bool false, .int .i64 0] 136)).alloc (.cells #[.int .i64 KK, .int .i64 n.op, .string (bs n.name), .int .i64 n.num, .int .i64 n.far, .slice a n.kids.length c, .slice a2 l2 c2, .slice a3 l3 c3] 40)) := (Below.refl _ _).alloc (Nat.le_refl _) _
    have hB := hB0.trans (hB1.mono hB0.size)
    have hZ5 := (hB1.block W.heap.size (by simp)).trans hZ
    generalize hW5 : (W.alloc (.cells #[.string ⟨#[]⟩, .int .i64 0, .int .i64 0, .int .i64 0, .bool false, .int .i64 0] 136)).alloc (.cells #[.int .i64 KK, .int .i64 n.op, .string (bs n.name), .int .i64 n.num, .int .i64 n.far, .slice a n.kids.length c, .slice a2 l2 c2, .slice a3 l3 c3] 40) = W5 at *
    clear hW5 hZ
    have q1 : W5.cell? ⟨cp, 1, none⟩ = some (.map (some mp)) := (hB1.cell (p := ⟨cp, 1, none⟩) (Nat.lt_of_lt_of_le hkl hB0.size)).trans k1
    obtain ⟨q3, -, q2⟩ := cl3 hA
    obtain ⟨z0, z1, z2, z3, z4, z5⟩ := cl6 hZ5
    obtain ⟨f0, f1, f2, f3, f4, f5⟩ := fl6 hZ5
    have hm5 : NamesAt W5 mp V T.vars.length := ownsMap_block HMP.out (hB.block _ hml)
    have hMA : ∀ (Z : World) (o : Obj), NamesAt Z mp V T.vars.length → NamesAt (Z.alloc o) mp V T.vars.length := fun Z o h => h.alloc o
    have hMS : ∀ (Z : World) (q : Addr) (u : Value), ¬ mp = q.block → NamesAt Z mp V T.vars.length → NamesAt (Z.setCell q u) mp V T.vars.length := fun Z q u hq h => h.setCell hq u
    have hMR : ∀ (Z : World), NamesAt Z mp V T.vars.length → NamesAt Z.drew mp V T.vars.length := fun Z h => h
    have hMD := hMR _ hm5
    have hsz := blk_lt hA
    have hsz0 : W.heap.size < W5.heap.size := by omega
    have hne5 : ¬ mp = W5.heap.size := by omega
    have HBW : Hid (Below W.heap.size W W5) := hB
    clear k0 k1 d0 d1 d2 d3 d4 d5 d6 d7 hA HMP hB hZ5 hB0 hB1 HB0
    go_region_held3 (fun Z => Z.cell? ⟨cp, 1, none⟩ = some (.map (some mp)) ∧ Z.cell? ⟨W.heap.size + 1, 2, none⟩ = some (.string (bs n.name)) ∧ NamesAt Z mp V T.vars.length) (go_keep) (fail)
    all_goals
     have hb7 : Below W5.heap.size W5 ((W5.alloc (.cells #[.string (bs y0), .int .i64 y1, .int .i64 y2, .int .i64 y3, .bool false, .int .i64 y5] 136)).drew) := ((Below.refl _ _).alloc (Nat.le_refl _) _).drew
     have hv7 : ((W5.alloc (.cells #[.string (bs y0), .int .i64 y1, .int .i64 y2, .int .i64 y3, .bool false, .int .i64 y5] 136)).drew).heap[W5.heap.size]? = some (.cells #[.string (bs y0), .int .i64 y1, .int .i64 y2, .int .i64 y3, .bool false, .int .i64 y5] 136 (0, 0)) := heap_alloc_new W5 _
     generalize hW7 : (W5.alloc (.cells #[.string (bs y0), .int .i64 y1, .int .i64 y2, .int .i64 y3, .bool false, .int .i64 y5] 136)).drew = W7 at *
     clear hW7 hMA hMS hMR hMD hlk hm5
     have hBW7 : Below W.heap.size W W7 := HBW.out.trans (hb7.mono HBW.out.size)
     have HB7 : Hid (Below W.heap.size W W7) := hBW7
     have u0 := (hb7.cell (p := ⟨W.heap.size, 0, none⟩) hsz0).trans z0
     have u1 := (hb7.cell (p := ⟨W.heap.size, 1, none⟩) hsz0).trans z1
     have u2 := (hb7.cell (p := ⟨W.heap.size, 2, none⟩) hsz0).trans z2
     have u3 := (hb7.cell (p := ⟨W.heap.size, 3, none⟩) hsz0).trans z3
     have u4 := (hb7.cell (p := ⟨W.heap.size, 4, none⟩) hsz0).trans z4
     have u5 := (hb7.cell (p := ⟨W.heap.size, 5, none⟩) hsz0).trans z5
     have g0 := (hb7.frozen (p := ⟨W.heap.size, 0, none⟩) hsz0).trans f0
     have g1 := (hb7.frozen (p := ⟨W.heap.size, 1, none⟩) hsz0).trans f1
     have g2 := (hb7.frozen (p := ⟨W.heap.size, 2, none⟩) hsz0).trans f2
     have g3 := (hb7.frozen (p := ⟨W.heap.size, 3, none⟩) hsz0).trans f3
     have g4 := (hb7.frozen (p := ⟨W.heap.size, 4, none⟩) hsz0).trans f4
     have g5 := (hb7.frozen (p := ⟨W.heap.size, 5, none⟩) hsz0).trans f5
     have q7 := (hb7.cell (p := ⟨W.heap.size + 1, 0, none⟩) hsz).trans q3
     obtain ⟨v0, v1, v2, v3, v4, v5⟩ := cl6 hv7
     clear hb7 hv7 z0 z1 z2 z3 z4 z5 f0 f1 f2 f3 f4 f5 q1 q2 q3 HBW hBW7
     generalize hX : W5.heap.size = X5 at *
     clear hX hsz hsz0 hne hne1 hne5
     go_wp2_with fail
     refine bodyPost_ret (v := .tuple #[R, errV F]) (by rw [HRR.out, HFF.out]; simp [results, Tryz.results218, go_sem, errV, u0, u1, u2, u3, u4, u5]) rfl ⟨rfl, ?_⟩
     exact (((((HB7.out.setCell (Nat.le_refl _) _).setCell (Nat.le_refl _) _).setCell (Nat.le_refl _) _).setCell (Nat.le_refl _) _).setCell (Nat.le_refl _) _).setCell (Nat.le_refl _) _
   ·have hrw : decide ((2 : Int) = 3 ∨ (2 : Int) = 8) = false := by decide
    have HFF : Hid (F = (1, (x : Int))) := by unfold Hid; rw [HF3.out, hrw, hd3, if_pos (by decide)]
    have HRR : Hid (R = (.agg #[.string ⟨#[]⟩, .int .i64 0, .int .i64 0, .int .i64 0, .bool false, .int .i64 0])) := by unfold Hid; rw [HR2.out, HFF.out]; rfl
    clear HF3 HR2 hrw
    go_enter Tryz.func218, Tryz.ntmps218
    go_wp2_with fail
    have hB0 := HB0.out
    have hZ := heap_alloc_new W (.cells #[.string ⟨#[]⟩, .int .i64 0, .int .i64 0, .int .i64 0, .bool false, .int .i64 0] 136)
    have hA : ((W.alloc (.cells #[.string ⟨#[]⟩, .int .i64 0, .int .i64 0, .int .i64 0, .bool false, .int .i64 0] 136)).alloc (.cells #[.int .i64 2, .int .i64 n.op, .string (bs n.name), .int .i64 n.num, .int .i64 n.far, .slice a n.kids.length c, .slice a2 l2 c2, .slice a3 l3 c3] 40)).heap[W.heap.size + 1]? = some (.cells #[.int .i64 2, .int .i64 n.op, .string (bs n.name), .int .i64 n.num, .int .i64 n.far, .slice a n.kids.length c, .slice a2 l2 c2, .slice a3 l3 c3] 40 (0, 0)) := by have h := heap_alloc_new (W.alloc (.cells #[.string ⟨#[]⟩, .int .i64 0, .int .i64 0, .int .i64 0, .bool false, .int .i64 0] 136)) (.cells #[.int .i64 2, .int .i64 n.op, .string (bs n.name), .int .i64 n.num, .int .i64 n.far, .slice a n.kids.length c, .slice a2 l2 c2, .slice a3 l3 c3] 40); rwa [World.size_alloc] at h
    have hB1 : Below (W.alloc (.cells #[.string ⟨#[]⟩, .int .i64 0, .int .i64 0, .int .i64 0, .bool false, .int .i64 0] 136)).heap.size (W.alloc (.cells #[.string ⟨#[]⟩, .int .i64 0, .int .i64 0, .int .i64 0, .bool false, .int .i64 0] 136)) ((W.alloc (.cells #[.string ⟨#[]⟩, .int .i64 0, .int .i64 0, .int .i64 0, .bool false, .int .i64 0] 136)).alloc (.cells #[.int .i64 2, .int .i64 n.op, .string (bs n.name), .int .i64 n.num, .int .i64 n.far, .slice a n.kids.length c, .slice a2 l2 c2, .slice a3 l3 c3] 40)) := (Below.refl _ _).alloc (Nat.le_refl _) _
    have hB := hB0.trans (hB1.mono hB0.size)
    have hZ5 := (hB1.block W.heap.size (by simp)).trans hZ
    generalize hW5 : (W.alloc (.cells #[.string ⟨#[]⟩, .int .i64 0, .int .i64 0, .int .i64 0, .bool false, .int .i64 0] 136)).alloc (.cells #[.int .i64 2, .int .i64 n.op, .string (bs n.name), .int .i64 n.num, .int .i64 n.far, .slice a n.kids.length c, .slice a2 l2 c2, .slice a3 l3 c3] 40) = W5 at *
    clear hW5 hZ
    have q1 : W5.cell? ⟨cp, 1, none⟩ = some (.map (some mp)) := (hB1.cell (p := ⟨cp, 1, none⟩) (Nat.lt_of_lt_of_le hkl hB0.size)).trans k1
    obtain ⟨q3, -, q2⟩ := cl3 hA
    obtain ⟨z0, z1, z2, z3, z4, z5⟩ := cl6 hZ5
    obtain ⟨f0, f1, f2, f3, f4, f5⟩ := fl6 hZ5
    have hm5 : NamesAt W5 mp V T.vars.length := ownsMap_block HMP.out (hB.block _ hml)
    have hMA : ∀ (Z : World) (o : Obj), NamesAt Z mp V T.vars.length → NamesAt (Z.alloc o) mp V T.vars.length := fun Z o h => h.alloc o
    have hMS : ∀ (Z : World) (q : Addr) (u : Value), ¬ mp = q.block → NamesAt Z mp V T.vars.length → NamesAt (Z.setCell q u) mp V T.vars.length := fun Z q u hq h => h.setCell hq u
    have hMR : ∀ (Z : World), NamesAt Z mp V T.vars.length → NamesAt Z.drew mp V T.vars.length := fun Z h => h
    have hMD := hMR _ hm5
    have hsz := blk_lt hA
    have hsz0 : W.heap.size < W5.heap.size := by omega
    have hne5 : ¬ mp = W5.heap.size := by omega
    have HBW : Hid (Below W.heap.size W W5) := hB
    clear k0 k1 d0 d1 d2 d3 d4 d5 d6 d7 hA HMP hB hZ5 hB0 hB1 HB0
    go_region_held3 (fun Z => Z.cell? ⟨cp, 1, none⟩ = some (.map (some mp)) ∧ Z.cell? ⟨W.heap.size + 1, 2, none⟩ = some (.string (bs n.name)) ∧ NamesAt Z mp V T.vars.length) (go_keep) (fail)
    all_goals
     have hb7 : Below W5.heap.size W5 ((W5.alloc (.cells #[.string (bs y0), .int .i64 y1, .int .i64 y2, .int .i64 y3, .bool true, .int .i64 y5] 136)).drew) := ((Below.refl _ _).alloc (Nat.le_refl _) _).drew
     have hv7 : ((W5.alloc (.cells #[.string (bs y0), .int .i64 y1, .int .i64 y2, .int .i64 y3, .bool true, .int .i64 y5] 136)).drew).heap[W5.heap.size]? = some (.cells #[.string (bs y0), .int .i64 y1, .int .i64 y2, .int .i64 y3, .bool true, .int .i64 y5] 136 (0, 0)) := heap_alloc_new W5 _
     generalize hW7 : (W5.alloc (.cells #[.string (bs y0), .int .i64 y1, .int .i64 y2, .int .i64 y3, .bool true, .int .i64 y5] 136)).drew = W7 at *
     clear hW7 hMA hMS hMR hMD hlk hm5
     have hBW7 : Below W.heap.size W W7 := HBW.out.trans (hb7.mono HBW.out.size)
     have HB7 : Hid (Below W.heap.size W W7) := hBW7
     have u0 := (hb7.cell (p := ⟨W.heap.size, 0, none⟩) hsz0).trans z0
     have u1 := (hb7.cell (p := ⟨W.heap.size, 1, none⟩) hsz0).trans z1
     have u2 := (hb7.cell (p := ⟨W.heap.size, 2, none⟩) hsz0).trans z2
     have u3 := (hb7.cell (p := ⟨W.heap.size, 3, none⟩) hsz0).trans z3
     have u4 := (hb7.cell (p := ⟨W.heap.size, 4, none⟩) hsz0).trans z4
     have u5 := (hb7.cell (p := ⟨W.heap.size, 5, none⟩) hsz0).trans z5
     have g0 := (hb7.frozen (p := ⟨W.heap.size, 0, none⟩) hsz0).trans f0
     have g1 := (hb7.frozen (p := ⟨W.heap.size, 1, none⟩) hsz0).trans f1
     have g2 := (hb7.frozen (p := ⟨W.heap.size, 2, none⟩) hsz0).trans f2
     have g3 := (hb7.frozen (p := ⟨W.heap.size, 3, none⟩) hsz0).trans f3
     have g4 := (hb7.frozen (p := ⟨W.heap.size, 4, none⟩) hsz0).trans f4
     have g5 := (hb7.frozen (p := ⟨W.heap.size, 5, none⟩) hsz0).trans f5
     have q7 := (hb7.cell (p := ⟨W.heap.size + 1, 0, none⟩) hsz).trans q3
     obtain ⟨v0, v1, v2, v3, v4, v5⟩ := cl6 hv7
     clear hb7 hv7 z0 z1 z2 z3 z4 z5 f0 f1 f2 f3 f4 f5 q1 q2 q3 HBW hBW7
     generalize hX : W5.heap.size = X5 at *
     clear hX hsz hsz0 hne hne1 hne5
     go_wp2_with fail
     refine bodyPost_ret (v := .tuple #[R, errV F]) (by rw [HRR.out, HFF.out]; simp [results, Tryz.results218, go_sem, errV, u0, u1, u2, u3, u4, u5]) rfl ⟨rfl, ?_⟩
     exact (((((HB7.out.setCell (Nat.le_refl _) _).setCell (Nat.le_refl _) _).setCell (Nat.le_refl _) _).setCell (Nat.le_refl _) _).setCell (Nat.le_refl _) _).setCell (Nat.le_refl _) _
  have hd3 : decide (0 < y3) = false := decide_eq_false h3
  rcases hown2 with rfl | ⟨rfl, rfl⟩
  ·by_cases k3 : KK = 3
   ·subst k3
    have hrw : decide ((3 : Int) = 3 ∨ (3 : Int) = 8) = true := by decide
    have HFF : Hid (F = (1, (x : Int))) := by unfold Hid; rw [HF3.out, hrw, hd3, if_pos (by decide)]
    have HRR : Hid (R = (.agg #[.string ⟨#[]⟩, .int .i64 0, .int .i64 0, .int .i64 0, .bool false, .int .i64 0])) := by unfold Hid; rw [HR2.out, HFF.out]; rfl
    clear HF3 HR2 hrw
    go_enter Tryz.func218, Tryz.ntmps218
    go_wp2_with fail
    have hB0 := HB0.out
    have hZ := heap_alloc_new W (.cells #[.string ⟨#[]⟩, .int .i64 0, .int .i64 0, .int .i64 0, .bool false, .int .i64 0] 136)
    have hA : ((W.alloc (.cells #[.string ⟨#[]⟩, .int .i64 0, .int .i64 0, .int .i64 0, .bool false, .int .i64 0] 136)).alloc (.cells #[.int .i64 3, .int .i64 n.op, .string (bs n.name), .int .i64 n.num, .int .i64 n.far, .slice a n.kids.length c, .slice a2 l2 c2, .slice a3 l3 c3] 40)).heap[W.heap.size + 1]? = some (.cells #[.int .i64 3, .int .i64 n.op, .string (bs n.name), .int .i64 n.num, .int .i64 n.far, .slice a n.kids.length c, .slice a2 l2 c2, .slice a3 l3 c3] 40 (0, 0)) := by have h := heap_alloc_new (W.alloc (.cells #[.string ⟨#[]⟩, .int .i64 0, .int .i64 0, .int .i64 0, .bool false, .int .i64 0] 136)) (.cells #[.int .i64 3, .int .i64 n.op, .string (bs n.name), .int .i64 n.num, .int .i64 n.far, .slice a n.kids.length c, .slice a2 l2 c2, .slice a3 l3 c3] 40); rwa [World.size_alloc] at h
    have hB1 : Below (W.alloc (.cells #[.string ⟨#[]⟩, .int .i64 0, .int .i64 0, .int .i64 0, .bool false, .int .i64 0] 136)).heap.size (W.alloc (.cells #[.string ⟨#[]⟩, .int .i64 0, .int .i64 0, .int .i64 0, .bool false, .int .i64 0] 136)) ((W.alloc (.cells #[.string ⟨#[]⟩, .int .i64 0, .int .i64 0, .int .i64 0, .bool false, .int .i64 0] 136)).alloc (.cells #[.int .i64 3, .int .i64 n.op, .string (bs n.name), .int .i64 n.num, .int .i64 n.far, .slice a n.kids.length c, .slice a2 l2 c2, .slice a3 l3 c3] 40)) := (Below.refl _ _).alloc (Nat.le_refl _) _
    have hB := hB0.trans (hB1.mono hB0.size)
    have hZ5 := (hB1.block W.heap.size (by simp)).trans hZ
    generalize hW5 : (W.alloc (.cells #[.string ⟨#[]⟩, .int .i64 0, .int .i64 0, .int .i64 0, .bool false, .int .i64 0] 136)).alloc (.cells #[.int .i64 3, .int .i64 n.op, .string (bs n.name), .int .i64 n.num, .int .i64 n.far, .slice a n.kids.length c, .slice a2 l2 c2, .slice a3 l3 c3] 40) = W5 at *
    clear hW5 hZ
    have q1 : W5.cell? ⟨cp, 1, none⟩ = some (.map (some mp)) := (hB1.cell (p := ⟨cp, 1, none⟩) (Nat.lt_of_lt_of_le hkl hB0.size)).trans k1
    obtain ⟨q3, -, q2⟩ := cl3 hA
    obtain ⟨z0, z1, z2, z3, z4, z5⟩ := cl6 hZ5
    obtain ⟨f0, f1, f2, f3, f4, f5⟩ := fl6 hZ5
    have hm5 : NamesAt W5 mp V T.vars.length := ownsMap_block HMP.out (hB.block _ hml)
    have hMA : ∀ (Z : World) (o : Obj), NamesAt Z mp V T.vars.length → NamesAt (Z.alloc o) mp V T.vars.length := fun Z o h => h.alloc o
    have hMS : ∀ (Z : World) (q : Addr) (u : Value), ¬ mp = q.block → NamesAt Z mp V T.vars.length → NamesAt (Z.setCell q u) mp V T.vars.length := fun Z q u hq h => h.setCell hq u
    have hMR : ∀ (Z : World), NamesAt Z mp V T.vars.length → NamesAt Z.drew mp V T.vars.length := fun Z h => h
    have hMD := hMR _ hm5
    have hsz := blk_lt hA
    have hsz0 : W.heap.size < W5.heap.size := by omega
    have hne5 : ¬ mp = W5.heap.size := by omega
    have HBW : Hid (Below W.heap.size W W5) := hB
    clear k0 k1 d0 d1 d2 d3 d4 d5 d6 d7 hA HMP hB hZ5 hB0 hB1 HB0
    go_region_held3 (fun Z => Z.cell? ⟨cp, 1, none⟩ = some (.map (some mp)) ∧ Z.cell? ⟨W.heap.size + 1, 2, none⟩ = some (.string (bs n.name)) ∧ NamesAt Z mp V T.vars.length) (go_keep) (fail)
    all_goals
     have hb7 : Below W5.heap.size W5 ((W5.alloc (.cells #[.string (bs y0), .int .i64 y1, .int .i64 y2, .int .i64 y3, .bool false, .int .i64 y5] 136)).drew) := ((Below.refl _ _).alloc (Nat.le_refl _) _).drew
     have hv7 : ((W5.alloc (.cells #[.string (bs y0), .int .i64 y1, .int .i64 y2, .int .i64 y3, .bool false, .int .i64 y5] 136)).drew).heap[W5.heap.size]? = some (.cells #[.string (bs y0), .int .i64 y1, .int .i64 y2, .int .i64 y3, .bool false, .int .i64 y5] 136 (0, 0)) := heap_alloc_new W5 _
     generalize hW7 : (W5.alloc (.cells #[.string (bs y0), .int .i64 y1, .int .i64 y2, .int .i64 y3, .bool false, .int .i64 y5] 136)).drew = W7 at *
     clear hW7 hMA hMS hMR hMD hlk hm5
     have hBW7 : Below W.heap.size W W7 := HBW.out.trans (hb7.mono HBW.out.size)
     have HB7 : Hid (Below W.heap.size W W7) := hBW7
     have u0 := (hb7.cell (p := ⟨W.heap.size, 0, none⟩) hsz0).trans z0
     have u1 := (hb7.cell (p := ⟨W.heap.size, 1, none⟩) hsz0).trans z1
     have u2 := (hb7.cell (p := ⟨W.heap.size, 2, none⟩) hsz0).trans z2
     have u3 := (hb7.cell (p := ⟨W.heap.size, 3, none⟩) hsz0).trans z3
     have u4 := (hb7.cell (p := ⟨W.heap.size, 4, none⟩) hsz0).trans z4
     have u5 := (hb7.cell (p := ⟨W.heap.size, 5, none⟩) hsz0).trans z5
     have g0 := (hb7.frozen (p := ⟨W.heap.size, 0, none⟩) hsz0).trans f0
     have g1 := (hb7.frozen (p := ⟨W.heap.size, 1, none⟩) hsz0).trans f1
     have g2 := (hb7.frozen (p := ⟨W.heap.size, 2, none⟩) hsz0).trans f2
     have g3 := (hb7.frozen (p := ⟨W.heap.size, 3, none⟩) hsz0).trans f3
     have g4 := (hb7.frozen (p := ⟨W.heap.size, 4, none⟩) hsz0).trans f4
     have g5 := (hb7.frozen (p := ⟨W.heap.size, 5, none⟩) hsz0).trans f5
     have q7 := (hb7.cell (p := ⟨W.heap.size + 1, 0, none⟩) hsz).trans q3
     obtain ⟨v0, v1, v2, v3, v4, v5⟩ := cl6 hv7
     clear hb7 hv7 z0 z1 z2 z3 z4 z5 f0 f1 f2 f3 f4 f5 q1 q2 q3 HBW hBW7
     generalize hX : W5.heap.size = X5 at *
     clear hX hsz hsz0 hne hne1 hne5
     go_wp2_with fail
     refine bodyPost_ret (v := .tuple #[R, errV F]) (by rw [HRR.out, HFF.out]; simp [results, Tryz.results218, go_sem, errV, u0, u1, u2, u3, u4, u5]) rfl ⟨rfl, ?_⟩
     exact (((((HB7.out.setCell (Nat.le_refl _) _).setCell (Nat.le_refl _) _).setCell (Nat.le_refl _) _).setCell (Nat.le_refl _) _).setCell (Nat.le_refl _) _).setCell (Nat.le_refl _) _
   by_cases k8 : KK = 8
   ·subst k8
    have hrw : decide ((8 : Int) = 3 ∨ (8 : Int) = 8) = true := by decide
    have HFF : Hid (F = (1, (x : Int))) := by unfold Hid; rw [HF3.out, hrw, hd3, if_pos (by decide)]
    have HRR : Hid (R = (.agg #[.string ⟨#[]⟩, .int .i64 0, .int .i64 0, .int .i64 0, .bool false, .int .i64 0])) := by unfold Hid; rw [HR2.out, HFF.out]; rfl
    clear HF3 HR2 hrw
    go_enter Tryz.func218, Tryz.ntmps218
    go_wp2_with fail
    have hB0 := HB0.out
    have hZ := heap_alloc_new W (.cells #[.string ⟨#[]⟩, .int .i64 0, .int .i64 0, .int .i64 0, .bool false, .int .i64 0] 136)
    have hA : ((W.alloc (.cells #[.string ⟨#[]⟩, .int .i64 0, .int .i64 0, .int .i64 0, .bool false, .int .i64 0] 136)).alloc (.cells #[.int .i64 8, .int .i64 n.op, .string (bs n.name), .int .i64 n.num, .int .i64 n.far, .slice a n.kids.length c, .slice a2 l2 c2, .slice a3 l3 c3] 40)).heap[W.heap.size + 1]? = some (.cells #[.int .i64 8, .int .i64 n.op, .string (bs n.name), .int .i64 n.num, .int .i64 n.far, .slice a n.kids.length c, .slice a2 l2 c2, .slice a3 l3 c3] 40 (0, 0)) := by have h := heap_alloc_new (W.alloc (.cells #[.string ⟨#[]⟩, .int .i64 0, .int .i64 0, .int .i64 0, .bool false, .int .i64 0] 136)) (.cells #[.int .i64 8, .int .i64 n.op, .string (bs n.name), .int .i64 n.num, .int .i64 n.far, .slice a n.kids.length c, .slice a2 l2 c2, .slice a3 l3 c3] 40); rwa [World.size_alloc] at h
    have hB1 : Below (W.alloc (.cells #[.string ⟨#[]⟩, .int .i64 0, .int .i64 0, .int .i64 0, .bool false, .int .i64 0] 136)).heap.size (W.alloc (.cells #[.string ⟨#[]⟩, .int .i64 0, .int .i64 0, .int .i64 0, .bool false, .int .i64 0] 136)) ((W.alloc (.cells #[.string ⟨#[]⟩, .int .i64 0, .int .i64 0, .int .i64 0, .bool false, .int .i64 0] 136)).alloc (.cells #[.int .i64 8, .int .i64 n.op, .string (bs n.name), .int .i64 n.num, .int .i64 n.far, .slice a n.kids.length c, .slice a2 l2 c2, .slice a3 l3 c3] 40)) := (Below.refl _ _).alloc (Nat.le_refl _) _
    have hB := hB0.trans (hB1.mono hB0.size)
    have hZ5 := (hB1.block W.heap.size (by simp)).trans hZ
    generalize hW5 : (W.alloc (.cells #[.string ⟨#[]⟩, .int .i64 0, .int .i64 0, .int .i64 0, .bool false, .int .i64 0] 136)).alloc (.cells #[.int .i64 8, .int .i64 n.op, .string (bs n.name), .int .i64 n.num, .int .i64 n.far, .slice a n.kids.length c, .slice a2 l2 c2, .slice a3 l3 c3] 40) = W5 at *
    clear hW5 hZ
    have q1 : W5.cell? ⟨cp, 1, none⟩ = some (.map (some mp)) := (hB1.cell (p := ⟨cp, 1, none⟩) (Nat.lt_of_lt_of_le hkl hB0.size)).trans k1
    obtain ⟨q3, -, q2⟩ := cl3 hA
    obtain ⟨z0, z1, z2, z3, z4, z5⟩ := cl6 hZ5
    obtain ⟨f0, f1, f2, f3, f4, f5⟩ := fl6 hZ5
    have hm5 : NamesAt W5 mp V T.vars.length := ownsMap_block HMP.out (hB.block _ hml)
    have hMA : ∀ (Z : World) (o : Obj), NamesAt Z mp V T.vars.length → NamesAt (Z.alloc o) mp V T.vars.length := fun Z o h => h.alloc o
    have hMS : ∀ (Z : World) (q : Addr) (u : Value), ¬ mp = q.block → NamesAt Z mp V T.vars.length → NamesAt (Z.setCell q u) mp V T.vars.length := fun Z q u hq h => h.setCell hq u
    have hMR : ∀ (Z : World), NamesAt Z mp V T.vars.length → NamesAt Z.drew mp V T.vars.length := fun Z h => h
    have hMD := hMR _ hm5
    have hsz := blk_lt hA
    have hsz0 : W.heap.size < W5.heap.size := by omega
    have hne5 : ¬ mp = W5.heap.size := by omega
    have HBW : Hid (Below W.heap.size W W5) := hB
    clear k0 k1 d0 d1 d2 d3 d4 d5 d6 d7 hA HMP hB hZ5 hB0 hB1 HB0
    go_region_held3 (fun Z => Z.cell? ⟨cp, 1, none⟩ = some (.map (some mp)) ∧ Z.cell? ⟨W.heap.size + 1, 2, none⟩ = some (.string (bs n.name)) ∧ NamesAt Z mp V T.vars.length) (go_keep) (fail)
    all_goals
     have hb7 : Below W5.heap.size W5 ((W5.alloc (.cells #[.string (bs y0), .int .i64 y1, .int .i64 y2, .int .i64 y3, .bool false, .int .i64 y5] 136)).drew) := ((Below.refl _ _).alloc (Nat.le_refl _) _).drew
     have hv7 : ((W5.alloc (.cells #[.string (bs y0), .int .i64 y1, .int .i64 y2, .int .i64 y3, .bool false, .int .i64 y5] 136)).drew).heap[W5.heap.size]? = some (.cells #[.string (bs y0), .int .i64 y1, .int .i64 y2, .int .i64 y3, .bool false, .int .i64 y5] 136 (0, 0)) := heap_alloc_new W5 _
     generalize hW7 : (W5.alloc (.cells #[.string (bs y0), .int .i64 y1, .int .i64 y2, .int .i64 y3, .bool false, .int .i64 y5] 136)).drew = W7 at *
     clear hW7 hMA hMS hMR hMD hlk hm5
     have hBW7 : Below W.heap.size W W7 := HBW.out.trans (hb7.mono HBW.out.size)
     have HB7 : Hid (Below W.heap.size W W7) := hBW7
     have u0 := (hb7.cell (p := ⟨W.heap.size, 0, none⟩) hsz0).trans z0
     have u1 := (hb7.cell (p := ⟨W.heap.size, 1, none⟩) hsz0).trans z1
     have u2 := (hb7.cell (p := ⟨W.heap.size, 2, none⟩) hsz0).trans z2
     have u3 := (hb7.cell (p := ⟨W.heap.size, 3, none⟩) hsz0).trans z3
     have u4 := (hb7.cell (p := ⟨W.heap.size, 4, none⟩) hsz0).trans z4
     have u5 := (hb7.cell (p := ⟨W.heap.size, 5, none⟩) hsz0).trans z5
     have g0 := (hb7.frozen (p := ⟨W.heap.size, 0, none⟩) hsz0).trans f0
     have g1 := (hb7.frozen (p := ⟨W.heap.size, 1, none⟩) hsz0).trans f1
     have g2 := (hb7.frozen (p := ⟨W.heap.size, 2, none⟩) hsz0).trans f2
     have g3 := (hb7.frozen (p := ⟨W.heap.size, 3, none⟩) hsz0).trans f3
     have g4 := (hb7.frozen (p := ⟨W.heap.size, 4, none⟩) hsz0).trans f4
     have g5 := (hb7.frozen (p := ⟨W.heap.size, 5, none⟩) hsz0).trans f5
     have q7 := (hb7.cell (p := ⟨W.heap.size + 1, 0, none⟩) hsz).trans q3
     obtain ⟨v0, v1, v2, v3, v4, v5⟩ := cl6 hv7
     clear hb7 hv7 z0 z1 z2 z3 z4 z5 f0 f1 f2 f3 f4 f5 q1 q2 q3 HBW hBW7
     generalize hX : W5.heap.size = X5 at *
     clear hX hsz hsz0 hne hne1 hne5
     go_wp2_with fail
     refine bodyPost_ret (v := .tuple #[R, errV F]) (by rw [HRR.out, HFF.out]; simp [results, Tryz.results218, go_sem, errV, u0, u1, u2, u3, u4, u5]) rfl ⟨rfl, ?_⟩
     exact (((((HB7.out.setCell (Nat.le_refl _) _).setCell (Nat.le_refl _) _).setCell (Nat.le_refl _) _).setCell (Nat.le_refl _) _).setCell (Nat.le_refl _) _).setCell (Nat.le_refl _) _
   have e3 : (KK == 3) = false := by simpa using k3
   have e8 : (KK == 8) = false := by simpa using k8
   have hrw : decide (KK = 3 ∨ KK = 8) = false := decide_eq_false (by omega)
   have HFF : Hid (F = (0, 0)) := by unfold Hid; rw [HF3.out, hrw, hd3, if_neg (by decide)]
   have HRR : Hid (R = (.agg #[.string (bs y0), .int .i64 y1, .int .i64 y2, .int .i64 y3, .bool false, .int .i64 y5])) := by unfold Hid; rw [HR2.out, HFF.out]; rfl
   clear HF3 HR2 hrw
   clear k3 k8
   go_enter Tryz.func218, Tryz.ntmps218
   go_wp2_with fail
   have hB0 := HB0.out
   have hZ := heap_alloc_new W (.cells #[.string ⟨#[]⟩, .int .i64 0, .int .i64 0, .int .i64 0, .bool false, .int .i64 0] 136)
   have hA : ((W.alloc (.cells #[.string ⟨#[]⟩, .int .i64 0, .int .i64 0, .int .i64 0, .bool false, .int .i64 0] 136)).alloc (.cells #[.int .i64 KK, .int .i64 n.op, .string (bs n.name), .int .i64 n.num, .int .i64 n.far, .slice a n.kids.length c, .slice a2 l2 c2, .slice a3 l3 c3] 40)).heap[W.heap.size + 1]? = some (.cells #[.int .i64 KK, .int .i64 n.op, .string (bs n.name), .int .i64 n.num, .int .i64 n.far, .slice a n.kids.length c, .slice a2 l2 c2, .slice a3 l3 c3] 40 (0, 0)) := by have h := heap_alloc_new (W.alloc (.cells #[.string ⟨#[]⟩, .int .i64 0, .int .i64 0, .int .i64 0, .bool false, .int .i64 0] 136)) (.cells #[.int .i64 KK, .int .i64 n.op, .string (bs n.name), .int .i64 n.num, .int .i64 n.far, .slice a n.kids.length c, .slice a2 l2 c2, .slice a3 l3 c3] 40); rwa [World.size_alloc] at h
   have hB1 : Below (W.alloc (.cells #[.string ⟨#[]⟩, .int .i64 0, .int .i64 0, .int .i64 0, .bool false, .int .i64 0] 136)).heap.size (W.alloc (.cells #[.string ⟨#[]⟩, .int .i64 0, .int .i64 0, .int .i64 0, .bool false, .int .i64 0] 136)) ((W.alloc (.cells #[.string ⟨#[]⟩, .int .i64 0, .int .i64 0, .int .i64 0, .bool false, .int .i64 0] 136)).alloc (.cells #[.int .i64 KK, .int .i64 n.op, .string (bs n.name), .int .i64 n.num, .int .i64 n.far, .slice a n.kids.length c, .slice a2 l2 c2, .slice a3 l3 c3] 40)) := (Below.refl _ _).alloc (Nat.le_refl _) _
   have hB := hB0.trans (hB1.mono hB0.size)
   have hZ5 := (hB1.block W.heap.size (by simp)).trans hZ
   generalize hW5 : (W.alloc (.cells #[.string ⟨#[]⟩, .int .i64 0, .int .i64 0, .int .i64 0, .bool false, .int .i64 0] 136)).alloc (.cells #[.int .i64 KK, .int .i64 n.op, .string (bs n.name), .int .i64 n.num, .int .i64 n.far, .slice a n.kids.length c, .slice a2 l2 c2, .slice a3 l3 c3] 40) = W5 at *
   clear hW5 hZ
   have q1 : W5.cell? ⟨cp, 1, none⟩ = some (.map (some mp)) := (hB1.cell (p := ⟨cp, 1, none⟩) (Nat.lt_of_lt_of_le hkl hB0.size)).trans k1
   obtain ⟨q3, -, q2⟩ := cl3 hA
   obtain ⟨z0, z1, z2, z3, z4, z5⟩ := cl6 hZ5
   obtain ⟨f0, f1, f2, f3, f4, f5⟩ := fl6 hZ5
   have hm5 : NamesAt W5 mp V T.vars.length := ownsMap_block HMP.out (hB.block _ hml)
   have hMA : ∀ (Z : World) (o : Obj), NamesAt Z mp V T.vars.length → NamesAt (Z.alloc o) mp V T.vars.length := fun Z o h => h.alloc o
   have hMS : ∀ (Z : World) (q : Addr) (u : Value), ¬ mp = q.block → NamesAt Z mp V T.vars.length → NamesAt (Z.setCell q u) mp V T.vars.length := fun Z q u hq h => h.setCell hq u
   have hMR : ∀ (Z : World), NamesAt Z mp V T.vars.length → NamesAt Z.drew mp V T.vars.length := fun Z h => h
   have hMD := hMR _ hm5
   have hsz := blk_lt hA
   have hsz0 : W.heap.size < W5.heap.size := by omega
   have hne5 : ¬ mp = W5.heap.size := by omega
   have HBW : Hid (Below W.heap.size W W5) := hB
   clear k0 k1 d0 d1 d2 d3 d4 d5 d6 d7 hA HMP hB hZ5 hB0 hB1 HB0
   go_region_held3 (fun Z => Z.cell? ⟨cp, 1, none⟩ = some (.map (some mp)) ∧ Z.cell? ⟨W.heap.size + 1, 2, none⟩ = some (.string (bs n.name)) ∧ NamesAt Z mp V T.vars.length) (go_keep) (fail)
   all_goals
    have hb7 : Below W5.heap.size W5 ((W5.alloc (.cells #[.string (bs y0), .int .i64 y1, .int .i64 y2, .int .i64 y3, .bool false, .int .i64 y5] 136)).drew) := ((Below.refl _ _).alloc (Nat.le_refl _) _).drew
    have hv7 : ((W5.alloc (.cells #[.string (bs y0), .int .i64 y1, .int .i64 y2, .int .i64 y3, .bool false, .int .i64 y5] 136)).drew).heap[W5.heap.size]? = some (.cells #[.string (bs y0), .int .i64 y1, .int .i64 y2, .int .i64 y3, .bool false, .int .i64 y5] 136 (0, 0)) := heap_alloc_new W5 _
    generalize hW7 : (W5.alloc (.cells #[.string (bs y0), .int .i64 y1, .int .i64 y2, .int .i64 y3, .bool false, .int .i64 y5] 136)).drew = W7 at *
    clear hW7 hMA hMS hMR hMD hlk hm5
    have hBW7 : Below W.heap.size W W7 := HBW.out.trans (hb7.mono HBW.out.size)
    have HB7 : Hid (Below W.heap.size W W7) := hBW7
    have u0 := (hb7.cell (p := ⟨W.heap.size, 0, none⟩) hsz0).trans z0
    have u1 := (hb7.cell (p := ⟨W.heap.size, 1, none⟩) hsz0).trans z1
    have u2 := (hb7.cell (p := ⟨W.heap.size, 2, none⟩) hsz0).trans z2
    have u3 := (hb7.cell (p := ⟨W.heap.size, 3, none⟩) hsz0).trans z3
    have u4 := (hb7.cell (p := ⟨W.heap.size, 4, none⟩) hsz0).trans z4
    have u5 := (hb7.cell (p := ⟨W.heap.size, 5, none⟩) hsz0).trans z5
    have g0 := (hb7.frozen (p := ⟨W.heap.size, 0, none⟩) hsz0).trans f0
    have g1 := (hb7.frozen (p := ⟨W.heap.size, 1, none⟩) hsz0).trans f1
    have g2 := (hb7.frozen (p := ⟨W.heap.size, 2, none⟩) hsz0).trans f2
    have g3 := (hb7.frozen (p := ⟨W.heap.size, 3, none⟩) hsz0).trans f3
    have g4 := (hb7.frozen (p := ⟨W.heap.size, 4, none⟩) hsz0).trans f4
    have g5 := (hb7.frozen (p := ⟨W.heap.size, 5, none⟩) hsz0).trans f5
    have q7 := (hb7.cell (p := ⟨W.heap.size + 1, 0, none⟩) hsz).trans q3
    obtain ⟨v0, v1, v2, v3, v4, v5⟩ := cl6 hv7
    clear hb7 hv7 z0 z1 z2 z3 z4 z5 f0 f1 f2 f3 f4 f5 q1 q2 q3 HBW hBW7
    generalize hX : W5.heap.size = X5 at *
    clear hX hsz hsz0 hne hne1 hne5
    go_wp2_with fail
    refine bodyPost_ret (v := .tuple #[R, errV F]) (by rw [HRR.out, HFF.out]; simp [results, Tryz.results218, go_sem, errV, u0, u1, u2, u3, u4, u5]) rfl ⟨rfl, ?_⟩
    exact (((((HB7.out.setCell (Nat.le_refl _) _).setCell (Nat.le_refl _) _).setCell (Nat.le_refl _) _).setCell (Nat.le_refl _) _).setCell (Nat.le_refl _) _).setCell (Nat.le_refl _) _
  ·have hrw : decide ((2 : Int) = 3 ∨ (2 : Int) = 8) = false := by decide
   have HFF : Hid (F = (0, 0)) := by unfold Hid; rw [HF3.out, hrw, hd3, if_neg (by decide)]
   have HRR : Hid (R = (.agg #[.string (bs y0), .int .i64 y1, .int .i64 y2, .int .i64 y3, .bool true, .int .i64 y5])) := by unfold Hid; rw [HR2.out, HFF.out]; rfl
   clear HF3 HR2 hrw
   go_enter Tryz.func218, Tryz.ntmps218
   go_wp2_with fail
   have hB0 := HB0.out
   have hZ := heap_alloc_new W (.cells #[.string ⟨#[]⟩, .int .i64 0, .int .i64 0, .int .i64 0, .bool false, .int .i64 0] 136)
   have hA : ((W.alloc (.cells #[.string ⟨#[]⟩, .int .i64 0, .int .i64 0, .int .i64 0, .bool false, .int .i64 0] 136)).alloc (.cells #[.int .i64 2, .int .i64 n.op, .string (bs n.name), .int .i64 n.num, .int .i64 n.far, .slice a n.kids.length c, .slice a2 l2 c2, .slice a3 l3 c3] 40)).heap[W.heap.size + 1]? = some (.cells #[.int .i64 2, .int .i64 n.op, .string (bs n.name), .int .i64 n.num, .int .i64 n.far, .slice a n.kids.length c, .slice a2 l2 c2, .slice a3 l3 c3] 40 (0, 0)) := by have h := heap_alloc_new (W.alloc (.cells #[.string ⟨#[]⟩, .int .i64 0, .int .i64 0, .int .i64 0, .bool false, .int .i64 0] 136)) (.cells #[.int .i64 2, .int .i64 n.op, .string (bs n.name), .int .i64 n.num, .int .i64 n.far, .slice a n.kids.length c, .slice a2 l2 c2, .slice a3 l3 c3] 40); rwa [World.size_alloc] at h
   have hB1 : Below (W.alloc (.cells #[.string ⟨#[]⟩, .int .i64 0, .int .i64 0, .int .i64 0, .bool false, .int .i64 0] 136)).heap.size (W.alloc (.cells #[.string ⟨#[]⟩, .int .i64 0, .int .i64 0, .int .i64 0, .bool false, .int .i64 0] 136)) ((W.alloc (.cells #[.string ⟨#[]⟩, .int .i64 0, .int .i64 0, .int .i64 0, .bool false, .int .i64 0] 136)).alloc (.cells #[.int .i64 2, .int .i64 n.op, .string (bs n.name), .int .i64 n.num, .int .i64 n.far, .slice a n.kids.length c, .slice a2 l2 c2, .slice a3 l3 c3] 40)) := (Below.refl _ _).alloc (Nat.le_refl _) _
   have hB := hB0.trans (hB1.mono hB0.size)
   have hZ5 := (hB1.block W.heap.size (by simp)).trans hZ
   generalize hW5 : (W.alloc (.cells #[.string ⟨#[]⟩, .int .i64 0, .int .i64 0, .int .i64 0, .bool false, .int .i64 0] 136)).alloc (.cells #[.int .i64 2, .int .i64 n.op, .string (bs n.name), .int .i64 n.num, .int .i64 n.far, .slice a n.kids.length c, .slice a2 l2 c2, .slice a3 l3 c3] 40) = W5 at *
   clear hW5 hZ
   have q1 : W5.cell? ⟨cp, 1, none⟩ = some (.map (some mp)) := (hB1.cell (p := ⟨cp, 1, none⟩) (Nat.lt_of_lt_of_le hkl hB0.size)).trans k1
   obtain ⟨q3, -, q2⟩ := cl3 hA
   obtain ⟨z0, z1, z2, z3, z4, z5⟩ := cl6 hZ5
   obtain ⟨f0, f1, f2, f3, f4, f5⟩ := fl6 hZ5
   have hm5 : NamesAt W5 mp V T.vars.length := ownsMap_block HMP.out (hB.block _ hml)
   have hMA : ∀ (Z : World) (o : Obj), NamesAt Z mp V T.vars.length → NamesAt (Z.alloc o) mp V T.vars.length := fun Z o h => h.alloc o
   have hMS : ∀ (Z : World) (q : Addr) (u : Value), ¬ mp = q.block → NamesAt Z mp V T.vars.length → NamesAt (Z.setCell q u) mp V T.vars.length := fun Z q u hq h => h.setCell hq u
   have hMR : ∀ (Z : World), NamesAt Z mp V T.vars.length → NamesAt Z.drew mp V T.vars.length := fun Z h => h
   have hMD := hMR _ hm5
   have hsz := blk_lt hA
   have hsz0 : W.heap.size < W5.heap.size := by omega
   have hne5 : ¬ mp = W5.heap.size := by omega
   have HBW : Hid (Below W.heap.size W W5) := hB
   clear k0 k1 d0 d1 d2 d3 d4 d5 d6 d7 hA HMP hB hZ5 hB0 hB1 HB0
   go_region_held3 (fun Z => Z.cell? ⟨cp, 1, none⟩ = some (.map (some mp)) ∧ Z.cell? ⟨W.heap.size + 1, 2, none⟩ = some (.string (bs n.name)) ∧ NamesAt Z mp V T.vars.length) (go_keep) (fail)
   all_goals
    have hb7 : Below W5.heap.size W5 ((W5.alloc (.cells #[.string (bs y0), .int .i64 y1, .int .i64 y2, .int .i64 y3, .bool true, .int .i64 y5] 136)).drew) := ((Below.refl _ _).alloc (Nat.le_refl _) _).drew
    have hv7 : ((W5.alloc (.cells #[.string (bs y0), .int .i64 y1, .int .i64 y2, .int .i64 y3, .bool true, .int .i64 y5] 136)).drew).heap[W5.heap.size]? = some (.cells #[.string (bs y0), .int .i64 y1, .int .i64 y2, .int .i64 y3, .bool true, .int .i64 y5] 136 (0, 0)) := heap_alloc_new W5 _
    generalize hW7 : (W5.alloc (.cells #[.string (bs y0), .int .i64 y1, .int .i64 y2, .int .i64 y3, .bool true, .int .i64 y5] 136)).drew = W7 at *
    clear hW7 hMA hMS hMR hMD hlk hm5
    have hBW7 : Below W.heap.size W W7 := HBW.out.trans (hb7.mono HBW.out.size)
    have HB7 : Hid (Below W.heap.size W W7) := hBW7
    have u0 := (hb7.cell (p := ⟨W.heap.size, 0, none⟩) hsz0).trans z0
    have u1 := (hb7.cell (p := ⟨W.heap.size, 1, none⟩) hsz0).trans z1
    have u2 := (hb7.cell (p := ⟨W.heap.size, 2, none⟩) hsz0).trans z2
    have u3 := (hb7.cell (p := ⟨W.heap.size, 3, none⟩) hsz0).trans z3
    have u4 := (hb7.cell (p := ⟨W.heap.size, 4, none⟩) hsz0).trans z4
    have u5 := (hb7.cell (p := ⟨W.heap.size, 5, none⟩) hsz0).trans z5
    have g0 := (hb7.frozen (p := ⟨W.heap.size, 0, none⟩) hsz0).trans f0
    have g1 := (hb7.frozen (p := ⟨W.heap.size, 1, none⟩) hsz0).trans f1
    have g2 := (hb7.frozen (p := ⟨W.heap.size, 2, none⟩) hsz0).trans f2
    have g3 := (hb7.frozen (p := ⟨W.heap.size, 3, none⟩) hsz0).trans f3
    have g4 := (hb7.frozen (p := ⟨W.heap.size, 4, none⟩) hsz0).trans f4
    have g5 := (hb7.frozen (p := ⟨W.heap.size, 5, none⟩) hsz0).trans f5
    have q7 := (hb7.cell (p := ⟨W.heap.size + 1, 0, none⟩) hsz).trans q3
    obtain ⟨v0, v1, v2, v3, v4, v5⟩ := cl6 hv7
    clear hb7 hv7 z0 z1 z2 z3 z4 z5 f0 f1 f2 f3 f4 f5 q1 q2 q3 HBW hBW7
    generalize hX : W5.heap.size = X5 at *
    clear hX hsz hsz0 hne hne1 hne5
    go_wp2_with fail
    refine bodyPost_ret (v := .tuple #[R, errV F]) (by rw [HRR.out, HFF.out]; simp [results, Tryz.results218, go_sem, errV, u0, u1, u2, u3, u4, u5]) rfl ⟨rfl, ?_⟩
    exact (((((HB7.out.setCell (Nat.le_refl _) _).setCell (Nat.le_refl _) _).setCell (Nat.le_refl _) _).setCell (Nat.le_refl _) _).setCell (Nat.le_refl _) _).setCell (Nat.le_refl _) _
end Go.Proofs.YtcecfmdjicjngaaGreatDoor
namespace Go.Proofs.YtcecfmdjicjngaaGreatDoor
open Go.RowKit
set_option linter.unusedVariables false
attribute [local go_sem] bs_size bs_get bs_extract bs_append bs_eq bs_toList
def metT (V : List LVar) (T : LTree) (f : Nat) (y : Int) : Met := (typeF V T.vars.length T.nodes f y (0, 0)).2
def ITypeC (lo cp mp : Nat) (vn vl : Value) (T : LTree) (V : List LVar) (f : Nat) (y : Nat) : Prop := ∀ (W : World), CkE lo W cp mp vn vl T V →
 Calls Tryz.prog 82 #[.pointer (some ⟨cp, 0, none⟩), .int .i64 (y : Int)] W fun e w' => e = .returned (.tuple #[.int .i64 (if (metT V T f (y : Int)).1 = 0 then plainT V (nodeOf T.nodes (y : Int)) else 0), errV (metT V T f (y : Int))]) ∧ Below W.heap.size W w'
def mustsF (V : List LVar) (T : LTree) (f : Nat) (ks ts : List Int) (st : Met) : Met := argsF (fun y want st => mustW (nodeOf T.nodes y) y want (typeF V T.vars.length T.nodes f y st)) ks ts st
theorem mustsF_cons (V : List LVar) (T : LTree) (f : Nat) (y t : Int) (ks ts : List Int) (st : Met) : mustsF V T f (y :: ks) (t :: ts) st = mustsF V T f ks ts (mustW (nodeOf T.nodes y) y t (typeF V T.vars.length T.nodes f y st)) := rfl
theorem mustsF_met (V : List LVar) (T : LTree) (f : Nat) : ∀ (ks ts : List Int) (st : Met), st.1 ≠ 0 → mustsF V T f ks ts st = st := by
 intro ks
 induction ks with
 | nil => intro ts st h; rfl
 | cons y r ih =>
  intro ts st h
  cases ts with
  | nil => rfl
  | cons t q =>
   have e : typeF V T.vars.length T.nodes f y st = ((typeF V T.vars.length T.nodes f y st).1, st) := Prod.ext rfl (typeF_met f y h)
   rw [mustsF_cons, e, mustW_met h]
   exact ih q st h
theorem mustsF_drop {V : List LVar} {T : LTree} {f : Nat} {ks ts : List Int} {j : Nat} {y t : Int} {st : Met} (h1 : ks[j]? = some y) (h2 : ts[j]? = some t) : mustsF V T f (ks.drop j) (ts.drop j) st = mustsF V T f (ks.drop (j + 1)) (ts.drop (j + 1)) (mustW (nodeOf T.nodes y) y t (typeF V T.vars.length T.nodes f y st)) := by
 obtain ⟨a1, rfl⟩ := List.getElem?_eq_some_iff.1 h1
 obtain ⟨a2, rfl⟩ := List.getElem?_eq_some_iff.1 h2
 rw [List.drop_eq_getElem_cons a1, List.drop_eq_getElem_cons a2, mustsF_cons]
theorem must_ok {V : List LVar} {T : LTree} {f : Nat} {y t : Int} (hk : 1 ≤ (nodeOf T.nodes y).kind ∧ (nodeOf T.nodes y).kind ≤ 6) (hn : (nodeOf T.nodes y).kind = 1 → 0 ≤ (nodeOf T.nodes y).num) (h : (metT V T (f + 1) y).1 = 0) :
  mustW (nodeOf T.nodes y) y t (typeF V T.vars.length T.nodes (f + 1) y (0, 0)) = if plainT V (nodeOf T.nodes y) = t ∨ (t = 2 ∧ (decide ((nodeOf T.nodes y).kind = 1) && inB (nodeOf T.nodes y).num 0 1) = true) then (0, 0) else (8, y) := by
 have h1 : (typeF V T.vars.length T.nodes (f + 1) y (0, 0)).1 = plainT V (nodeOf T.nodes y) := typeF_plain f y 0 hk h
 have h2 : (typeF V T.vars.length T.nodes (f + 1) y (0, 0)).2 = (0, 0) := (typeF_or (f + 1) y (0, 0)).resolve_right (fun hne => hne h)
 have e : typeF V T.vars.length T.nodes (f + 1) y (0, 0) = (plainT V (nodeOf T.nodes y), (0, 0)) := Prod.ext h1 h2
 rw [e]
 unfold mustW
 by_cases hA : t = 2 ∧ (nodeOf T.nodes y).kind = 1 ∧ (nodeOf T.nodes y).num ≤ 1
 ·rw [if_pos hA, if_pos (.inr ⟨hA.1, by rw [decide_eq_true hA.2.1, inB_iff.2 ⟨hn hA.2.1, hA.2.2⟩]; rfl⟩)]
 rw [if_neg hA]
 by_cases hB : plainT V (nodeOf T.nodes y) = t
 ·rw [if_neg (fun hh => hh.2 hB), if_pos (.inl hB)]
 rw [if_pos ⟨rfl, hB⟩, if_neg]
 ·rfl
 ·rintro (h | ⟨h3, h4⟩)
  ·exact hB h
  ·rw [Bool.and_eq_true, decide_eq_true_eq] at h4
   exact hA ⟨h3, h4.1, (inB_iff.1 h4.2).2⟩
end Go.Proofs.YtcecfmdjicjngaaGreatDoor
namespace Go.Proofs.YtcecfmdjicjngaaGreatDoor
open Go.RowKit
set_option linter.unusedVariables false
attribute [local go_sem] bs_size bs_get bs_extract bs_append bs_eq bs_toList
theorem errV_zero {m : Met} (h : m.1 = 0) : errV m = .nilIface := by unfold errV; rw [if_pos h]
theorem errV_met {m : Met} (h : m.1 ≠ 0) : errV m = .iface 107 (.agg #[.int .i64 m.1, .int .i64 m.2]) := by unfold errV; rw [if_neg h]
set_option maxHeartbeats 12800000 in
set_option maxRecDepth 100000 in
theorem mustBe_any (lo lk lt cp mp f : Nat) (W : World) (vn vl vk vt : Value) (T : LTree) (V : List LVar) (ks ts : List Int) (hE : CkE lo W cp mp vn vl T V) (hlen : ks.length = ts.length) (hk3 : ks.length ≤ 3)
  (hks : ∀ y ∈ ks, (0 ≤ y ∧ y < (T.nodes.length : Int)) ∧ (1 ≤ (nodeOf T.nodes y).kind ∧ (nodeOf T.nodes y).kind ≤ 6) ∧ ((nodeOf T.nodes y).kind = 1 → 0 ≤ (nodeOf T.nodes y).num)) (hi : IntsV lk W vk ks) (hj : IntsV lt W vt ts)
  (hT : ∀ y : Nat, (y : Int) ∈ ks → ITypeC lo cp mp vn vl T V (f + 1) y) :
  Calls Tryz.prog 219 #[.pointer (some ⟨cp, 0, none⟩), vk, vt] W fun e w' => e = .returned (errV (mustsF V T (f + 1) ks ts (0, 0))) ∧ Below W.heap.size W w' := by
 obtain ⟨ak, ck, rfl, _, hik⟩ := id hi
 obtain ⟨a9, ct, rfl, _, hit⟩ := id hj
 have HI := hid hi
 have HJ := hid hj
 have HE := hid hE
 have HKS := hid hks
 have HT := hid hT
 have HLEN := hid hlen
 have hnl := hE.good.nodes
 have hkl := blk_lt hE.row
 obtain ⟨R, hR⟩ : ∃ R, R = mustsF V T (f + 1) ks ts (0, 0) := ⟨_, rfl⟩
 rw [← hR]
 have HR := hid hR
 clear hi hj hE hks hT hR hik hit hlen
 go_enter Tryz.func219, Tryz.ntmps219
 go_wp2
 go_loopw [13] (fun i wr => ∃ j : Nat, j ≤ ks.length ∧ i = .int .i64 j ∧ Hid (R = mustsF V T (f + 1) (ks.drop j) (ts.drop j) (0, 0)) ∧ Below W.heap.size W wr) (fun i _ => ks.length - (intOf i).toNat)
 case atStart => exact ⟨0, Nat.zero_le _, rfl, HR, Below.refl _ _⟩
 case round =>
  clear HR
  obtain ⟨j, hjl, rfl, HR, hB⟩ := hrel
  have HB := hid hB
  by_cases hlt : j < ks.length
  ·obtain ⟨y, hy⟩ : ∃ y, ks[j]? = some y := ⟨_, List.getElem?_eq_getElem hlt⟩
   obtain ⟨t, ht⟩ : ∃ t, ts[j]? = some t := ⟨_, List.getElem?_eq_getElem (by have := HLEN.out; omega)⟩
   have hmem := List.mem_of_getElem? hy
   obtain ⟨⟨hy0, hy1⟩, hkind, hnum⟩ := HKS.out y hmem
   obtain ⟨Y, rfl⟩ := Int.eq_ofNat_of_zero_le hy0
   obtain ⟨b1, o1, rfl, _, hc1⟩ : ∃ b o, ak = some ⟨b, o, none⟩ ∧ True ∧ ∀ i x, ks[i]? = some x → wr.cell? ⟨b, o + i, none⟩ = some (.int .i64 x) := by
    obtain ⟨_, _, e, _, h⟩ := HI.out.below hB
    injection e with e1 e2 e3
    subst e1
    obtain ⟨b, o, e, _, hc⟩ := h (by intro e; rw [e] at hlt; simp at hlt)
    exact ⟨b, o, e, trivial, hc⟩
   have c1 := hc1 j _ hy
   have HTY := HT.out Y hmem wr (HE.out.below hB)
   have hdrop := HR.out.trans (mustsF_drop hy ht)
   have hMO := must_ok (V := V) (T := T) (f := f) (y := (Y : Int)) (t := t) hkind hnum
   have HW2 : Hid (∀ w2, Below wr.heap.size wr w2 → (∃ b o, a9 = some ⟨b, o, none⟩ ∧ w2.cell? ⟨b, o + j, none⟩ = some (.int .i64 t)) ∧ CkE lo w2 cp mp vn vl T V) := fun w2 hb => by
    have hb2 := HB.out.trans (hb.mono HB.out.size)
    obtain ⟨_, _, e, _, h⟩ := HJ.out.below hb2
    injection e with e1 e2 e3
    subst e1
    obtain ⟨b, o, e, _, hc⟩ := h (by intro e; rw [e] at ht; simp at ht)
    exact ⟨⟨b, o, e, hc j _ ht⟩, HE.out.below hb2⟩
   have hjt : j < ts.length := by have := HLEN.out; omega
   have hj0 : (0 : Int) ≤ (j : Int) := by omega
   have hj1 : (j : Int) < (ks.length : Int) := by omega
   have hj2 : (j : Int) < (ts.length : Int) := by omega
   have hYl : Y < T.nodes.length := by omega
   have hY1 : (Y : Int) < (T.nodes.length : Int) := hy1
   clear hc1 hB hy ht hkind hnum HKS HT HR HI HJ HE hmem hjt
   obtain ⟨m, hm⟩ : ∃ m, m = metT V T (f + 1) (Y : Int) := ⟨_, rfl⟩
   rw [← hm] at HTY hMO
   by_cases hz : m.1 = 0
   ·rw [if_pos hz, errV_zero hz] at HTY
    rw [hMO hz] at hdrop
    generalize plainT V (nodeOf T.nodes (Y : Int)) = g at *
    have HD : Hid _ := hdrop
    have HTC : Hid (Calls Tryz.prog 82 #[.pointer (some ⟨cp, 0, none⟩), .int .i64 (Y : Int)] wr fun e w' => e = .returned (.tuple #[.int .i64 g, .nilIface]) ∧ Below wr.heap.size wr w') := HTY
    clear hdrop HTY hMO hm hz m
    by_cases hgt : g = t
    ·have HR2 : Hid (R = mustsF V T (f + 1) (ks.drop (j + 1)) (ts.drop (j + 1)) (0, 0)) := by unfold Hid; rw [HD.out, if_pos (.inl hgt)]
     subst hgt
     clear HD
     go_wp2_with fail
     refine HTC.out.mono ?_
     rintro e w2 ⟨rfl, hb⟩
     obtain ⟨⟨b2, o2, rfl, c2⟩, _⟩ := HW2.out w2 hb
     have HB2 : Hid (Below W.heap.size W w2) := HB.out.trans (hb.mono HB.out.size)
     clear hb HTC HW2 HB
     go_wp2_with fail
     go_roundw
     case rel => exact ⟨j + 1, by omega, by go_num, HR2, HB2.out⟩
     case measure => simp [intOf]; omega
    ·have hgb : (g != t) = true := by simpa using hgt
     by_cases ht2 : t = 2
     ·subst ht2
      obtain ⟨q, hq⟩ : ∃ q, q = (decide ((nodeOf T.nodes (Y : Int)).kind = 1) && inB (nodeOf T.nodes (Y : Int)).num 0 1) := ⟨_, rfl⟩
      rw [← hq] at HD
      have HTR : Hid (∀ (vk vt ve : Value) (w : World), (∃ a l c, vk = .slice a l c) → (∃ a l c, vt = .slice a l c) → (∃ a l c, ve = .slice a l c) → Calls Tryz.prog 262 #[nodeV (nodeOf T.nodes (Y : Int)) vk vt ve] w fun e w' => e = .returned (.bool q) ∧ Below w.heap.size w w') := fun vk vt ve w h1 h2 h3 => by rw [hq]; exact isTruth_any _ vk vt ve w h1 h2 h3
      clear hq
      go_wp2_with fail
      refine HTC.out.mono ?_
      rintro e w2 ⟨rfl, hb⟩
      obtain ⟨⟨b2, o2, rfl, c2⟩, hE2⟩ := HW2.out w2 hb
      have HB2 : Hid (Below W.heap.size W w2) := HB.out.trans (hb.mono HB.out.size)
      have k0 := cell_of_row _ _ 0 _ _ _ hE2.row
      simp at k0
      obtain ⟨bn, on, cn, rfl, vk', vt', ve', ⟨d0, d1, d2, d3, d4, d5, d6, d7⟩, _, ⟨a5, c5, rfl⟩, ⟨a6, l6, c6, rfl⟩, ⟨a7, l7, c7, rfl⟩⟩ := hE2.node Y hYl
      have HTR2 : Hid (∀ (w : World), Calls Tryz.prog 262 #[nodeV (nodeOf T.nodes (Y : Int)) (.slice a5 (nodeOf T.nodes (Y : Int)).kids.length c5) (.slice a6 l6 c6) (.slice a7 l7 c7)] w fun e w' => e = .returned (.bool q) ∧ Below w.heap.size w w') := fun w => HTR.out _ _ _ w ⟨_, _, _, rfl⟩ ⟨_, _, _, rfl⟩ ⟨_, _, _, rfl⟩
      generalize nodeOf T.nodes (Y : Int) = n at *
      clear hb HTC HW2 HB HTR hE2
      cases q with
      | true =>
       have HR2 : Hid (R = mustsF V T (f + 1) (ks.drop (j + 1)) (ts.drop (j + 1)) (0, 0)) := by unfold Hid; rw [HD.out, if_pos (by simp)]
       clear HD
       go_wp2_with fail
       refine (HTR2.out _).mono ?_
       rintro e w3 ⟨rfl, hb⟩
       have HB3 : Hid (Below W.heap.size W w3) := HB2.out.trans (hb.mono HB2.out.size)
       clear hb HTR2 HB2 d0 d1 d2 d3 d4 d5 d6 d7 k0 c2 c1
       go_wp2_with fail
       go_roundw
       case rel => exact ⟨j + 1, by omega, by go_num, HR2, HB3.out⟩
       case measure => simp [intOf]; omega
      | false =>
       have HR2 : Hid (R = (8, (Y : Int))) := by unfold Hid; rw [HD.out, if_neg (by simp [hgt])]; exact mustsF_met _ _ _ _ _ _ (show (8 : Int) ≠ 0 by decide)
       clear HD
       go_wp2_with fail
       refine (HTR2.out _).mono ?_
       rintro e w3 ⟨rfl, hb⟩
       have HB3 : Hid (Below W.heap.size W w3) := HB2.out.trans (hb.mono HB2.out.size)
       clear hb HTR2 HB2 d0 d1 d2 d3 d4 d5 d6 d7 k0 c2 c1
       go_wp2_with fail
       go_ret
       exact ⟨by rw [HR2.out]; rfl, HB3.out⟩
     ·have htb : (t == 2) = false := by simpa using ht2
      have HR2 : Hid (R = (8, (Y : Int))) := by unfold Hid; rw [HD.out, if_neg (by simp [hgt, ht2])]; exact mustsF_met _ _ _ _ _ _ (show (8 : Int) ≠ 0 by decide)
      clear HD
      go_wp2_with fail
      refine HTC.out.mono ?_
      rintro e w2 ⟨rfl, hb⟩
      obtain ⟨⟨b2, o2, rfl, c2⟩, hE2⟩ := HW2.out w2 hb
      have HB2 : Hid (Below W.heap.size W w2) := HB.out.trans (hb.mono HB.out.size)
      clear hb HTC HW2 HB hE2
      go_wp2_with fail
      go_ret
      exact ⟨by rw [HR2.out]; rfl, HB2.out⟩
   ·have HR2 : Hid (R = m) := by
     unfold Hid
     have e1 : typeF V T.vars.length T.nodes (f + 1) (Y : Int) (0, 0) = ((typeF V T.vars.length T.nodes (f + 1) (Y : Int) (0, 0)).1, m) := Prod.ext rfl hm.symm
     rw [hdrop, e1, mustW_met hz]
     exact mustsF_met _ _ _ _ _ _ hz
    rw [if_neg hz, errV_met hz] at HTY
    have HTC : Hid (Calls Tryz.prog 82 #[.pointer (some ⟨cp, 0, none⟩), .int .i64 (Y : Int)] wr fun e w' => e = .returned (.tuple #[.int .i64 0, .iface 107 (.agg #[.int .i64 m.1, .int .i64 m.2])]) ∧ Below wr.heap.size wr w') := HTY
    have HEV : Hid (errV m = .iface 107 (.agg #[.int .i64 m.1, .int .i64 m.2])) := errV_met hz
    clear hdrop HTY hMO hm hz
    generalize m.1 = m1 at *
    generalize m.2 = m2 at *
    go_wp2_with fail
    refine HTC.out.mono ?_
    rintro e w2 ⟨rfl, hb⟩
    obtain ⟨⟨b2, o2, rfl, c2⟩, hE2⟩ := HW2.out w2 hb
    have HB2 : Hid (Below W.heap.size W w2) := HB.out.trans (hb.mono HB.out.size)
    clear hb HTC HW2 HB hE2
    go_wp2_with fail
    go_ret
    exact ⟨by rw [HR2.out, HEV.out]; rfl, HB2.out⟩
  ·have hje : j = ks.length := by omega
   have HR2 : Hid (R = (0, 0)) := by unfold Hid; rw [HR.out, hje, List.drop_length]; rfl
   clear HR HI HJ HE HKS HT HLEN hje
   go_wp2_with fail
   go_ret
   exact ⟨by rw [HR2.out]; rfl, HB.out⟩
end Go.Proofs.YtcecfmdjicjngaaGreatDoor
namespace Go.Proofs.YtcecfmdjicjngaaGreatDoor
open Go.RowKit
set_option linter.unusedVariables false
def TypesOk (V : List LVar) : Prop := ∀ i : Nat, i < V.length → (V.getD i default).type = 1 ∨ (V.getD i default).type = 2
theorem varFrom_nat (nm : List UInt8) (V : List LVar) : varFrom nm V 0 < 0 ∨ ∃ i : Nat, varFrom nm V 0 = i ∧ i < V.length := by
 rcases varFrom_or nm V 0 with h | ⟨j, h, hj⟩
 ·exact .inl (by omega)
 ·exact .inr ⟨j, h, by omega⟩
theorem plainT_bool {V : List LVar} (hV : TypesOk V) (n : LNode) : plainT V n = if boolB V n = true then 2 else 1 := by
 unfold plainT boolB
 by_cases h5 : n.kind = 5
 ·rw [if_neg (show ¬ (n.kind = 2 ∨ n.kind = 3) by omega), if_pos h5, if_pos h5, if_pos rfl]
 rw [if_neg h5, if_neg h5]
 by_cases h6 : n.kind = 6
 ·rw [if_neg (show ¬ (n.kind = 2 ∨ n.kind = 3) by omega), if_pos h6, if_pos h6]
  by_cases ho : 6 ≤ n.op
  ·rw [if_pos ho, decide_eq_true (by omega), if_pos rfl]
  ·rw [if_neg ho, decide_eq_false (by omega), if_neg (by decide)]
 rw [if_neg h6, if_neg h6]
 by_cases h23 : n.kind = 2 ∨ n.kind = 3
 ·rw [if_pos h23, if_pos h23]
  rcases varFrom_nat n.name V with h | ⟨i, h, hi⟩
  ·rw [if_pos h, decide_eq_false (by omega), if_neg (by decide)]
  ·rw [h, if_neg (by omega), Int.toNat_natCast]
   rcases hV i hi with e | e
   ·rw [e, decide_eq_false (by omega), if_neg (by decide)]
   ·rw [e, decide_eq_true ⟨by omega, rfl⟩, if_pos rfl]
 ·rw [if_neg h23, if_neg h23, if_neg (by decide)]
theorem sides_want {V : List LVar} (hV : TypesOk V) (N : List LNode) (n : LNode) : sidesT V N n = wantF V N n := by
 unfold sidesT wantF
 by_cases h10 : n.op = 10
 ·rw [if_neg (by omega), if_pos h10, if_pos h10]
  unfold sameF
  by_cases hk : (nodeOf N (n.kids.getD 0 0)).kind = 1
  ·rw [if_pos hk, if_pos hk]; exact plainT_bool hV _
  ·rw [if_neg hk, if_neg hk]; exact plainT_bool hV _
 rw [if_neg h10, if_neg h10]
theorem named_name {V : List LVar} {nv : Nat} {n : LNode} {x : Int} (hk : n.kind = 2) : namedF V nv n x = (nameF V nv n.name false x (0, 0)).2 := by
 unfold namedF nameF
 by_cases h : varFrom n.name V 0 < 0
 ·rw [if_pos (Or.inl h : varFrom n.name V 0 < 0 ∨ ((nv : Int) ≤ varFrom n.name V 0 ∧ n.kind ≠ 2)), if_pos (Or.inl h : varFrom n.name V 0 < 0 ∨ (false = true ∧ (nv : Int) ≤ varFrom n.name V 0))]; rfl
 have n1 : ¬ (varFrom n.name V 0 < 0 ∨ ((nv : Int) ≤ varFrom n.name V 0 ∧ n.kind ≠ 2)) := by omega
 have n2 : ¬ (varFrom n.name V 0 < 0 ∨ (false = true ∧ (nv : Int) ≤ varFrom n.name V 0)) := fun e => e.elim h (fun e => Bool.noConfusion e.1)
 rw [if_neg n1, if_neg n2, decide_eq_false (show ¬ (n.kind = 3 ∨ n.kind = 8) by omega)]
 by_cases hs : 0 < (V.getD (varFrom n.name V 0).toNat default).size
 ·rw [decide_eq_true hs, if_pos (by decide), if_pos (by decide)]; rfl
 ·rw [decide_eq_false hs, if_neg (by decide), if_neg (by decide)]
theorem named_item {V : List LVar} {nv : Nat} {n : LNode} {x : Int} (hk : n.kind = 3) : namedF V nv n x = (nameF V nv n.name true x (0, 0)).2 := by
 unfold namedF nameF
 by_cases h : varFrom n.name V 0 < 0 ∨ (nv : Int) ≤ varFrom n.name V 0
 ·have h2 : varFrom n.name V 0 < 0 ∨ ((true : Bool) = true ∧ (nv : Int) ≤ varFrom n.name V 0) := h.imp id (fun e => ⟨rfl, e⟩)
  rw [if_pos (h.imp id (fun e => ⟨e, by omega⟩)), if_pos h2]; rfl
 have n1 : ¬ (varFrom n.name V 0 < 0 ∨ ((nv : Int) ≤ varFrom n.name V 0 ∧ n.kind ≠ 2)) := by omega
 have n2 : ¬ (varFrom n.name V 0 < 0 ∨ (true = true ∧ (nv : Int) ≤ varFrom n.name V 0)) := fun e => h (e.imp id (fun e => e.2))
 rw [if_neg n1, if_neg n2, decide_eq_true (show n.kind = 3 ∨ n.kind = 8 by omega)]
 by_cases hs : 0 < (V.getD (varFrom n.name V 0).toNat default).size
 ·rw [decide_eq_true hs, if_neg (by decide), if_neg (by decide)]
 ·rw [decide_eq_false hs, if_pos (by decide), if_pos (by decide)]; rfl
theorem metT_num {V : List LVar} {T : LTree} {f : Nat} {x : Int} (hk : (nodeOf T.nodes x).kind = 1) : metT V T (f + 1) x = (0, 0) := by
 unfold metT; simp only [typeF]; rw [if_pos hk]
theorem metT_name {V : List LVar} {T : LTree} {f : Nat} {x : Int} (hk : (nodeOf T.nodes x).kind = 2) : metT V T (f + 1) x = namedF V T.vars.length (nodeOf T.nodes x) x := by
 unfold metT; simp only [typeF]; rw [if_neg (by omega), if_pos hk, named_name hk]
theorem metT_item {V : List LVar} {T : LTree} {f : Nat} {x k : Int} (hk : (nodeOf T.nodes x).kind = 3) (hks : (nodeOf T.nodes x).kids = [k]) : metT V T (f + 1) x = if (namedF V T.vars.length (nodeOf T.nodes x) x).1 ≠ 0 then namedF V T.vars.length (nodeOf T.nodes x) x else mustsF V T f [k] [1] (namedF V T.vars.length (nodeOf T.nodes x) x) := by
 have e : metT V T (f + 1) x = mustsF V T f [k] [1] (namedF V T.vars.length (nodeOf T.nodes x) x) := by
  unfold metT; simp only [typeF]; rw [if_neg (by omega), if_neg (by omega), if_pos hk, named_item hk, hks]; rfl
 rw [e]
 split
 ·rename_i h; exact mustsF_met _ _ _ _ _ _ h
 ·rfl
theorem metT_neg {V : List LVar} {T : LTree} {f : Nat} {x k : Int} (hk : (nodeOf T.nodes x).kind = 4) (hks : (nodeOf T.nodes x).kids = [k]) : metT V T (f + 1) x = mustsF V T f [k] [1] (0, 0) := by
 unfold metT; simp only [typeF]; rw [if_neg (by omega), if_neg (by omega), if_neg (by omega), if_pos hk, hks]; rfl
theorem metT_not {V : List LVar} {T : LTree} {f : Nat} {x k : Int} (hk : (nodeOf T.nodes x).kind = 5) (hks : (nodeOf T.nodes x).kids = [k]) : metT V T (f + 1) x = mustsF V T f [k] [2] (0, 0) := by
 unfold metT; simp only [typeF]; rw [if_neg (by omega), if_neg (by omega), if_neg (by omega), if_neg (by omega), if_pos hk, hks]; rfl
theorem metT_two {V : List LVar} {T : LTree} {f : Nat} {x k l : Int} (hV : TypesOk V) (hk : (nodeOf T.nodes x).kind = 6) (hks : (nodeOf T.nodes x).kids = [k, l]) : metT V T (f + 1) x = mustsF V T f [k, l] [sidesT V T.nodes (nodeOf T.nodes x), sidesT V T.nodes (nodeOf T.nodes x)] (0, 0) := by
 rw [sides_want hV]
 unfold metT; simp only [typeF]; rw [if_neg (by omega), if_neg (by omega), if_neg (by omega), if_neg (by omega), if_neg (by omega), hks]; rfl
end Go.Proofs.YtcecfmdjicjngaaGreatDoor
namespace Go.Proofs.YtcecfmdjicjngaaGreatDoor
open Go.RowKit
set_option linter.unusedVariables false
attribute [local go_sem] bs_size bs_get bs_extract bs_append bs_eq bs_toList
theorem namedF_or (V : List LVar) (nv : Nat) (n : LNode) (x : Int) : namedF V nv n x = (0, 0) ∨ (namedF V nv n x).1 ≠ 0 := by
 unfold namedF
 split
 ·exact .inr (show (4 : Int) ≠ 0 by decide)
 split
 ·exact .inr (show (1 : Int) ≠ 0 by decide)
 ·exact .inl rfl
theorem namedV_form (V : List LVar) (nv : Nat) (n : LNode) (x : Int) : ∃ y0 y1 y2 y3 y4 y5, namedV V nv n x = .agg #[.string (bs y0), .int .i64 y1, .int .i64 y2, .int .i64 y3, .bool y4, .int .i64 y5] := by
 unfold namedV
 split
 ·exact ⟨_, _, _, _, _, _, rfl⟩
 ·exact ⟨[], 0, 0, 0, false, 0, rfl⟩
set_option maxHeartbeats 12800000 in
set_option maxRecDepth 100000 in
theorem partsFit_any (lo cp mp f : Nat) (W : World) (vn vl : Value) (T : LTree) (V : List LVar) (x : Nat) (hE : CkE lo W cp mp vn vl T V) (hx : x < T.nodes.length) (hV : TypesOk V) (hkind : 1 ≤ (nodeOf T.nodes (x : Int)).kind ∧ (nodeOf T.nodes (x : Int)).kind ≤ 6)
  (hnm : ∀ y : Nat, y < T.nodes.length → (nodeOf T.nodes (y : Int)).name.length ≤ 1048576) (hop : (nodeOf T.nodes (x : Int)).kind = 6 → 1 ≤ (nodeOf T.nodes (x : Int)).op ∧ (nodeOf T.nodes (x : Int)).op ≤ 10)
  (hkn : (3 ≤ (nodeOf T.nodes (x : Int)).kind ∧ (nodeOf T.nodes (x : Int)).kind ≤ 5 → (nodeOf T.nodes (x : Int)).kids.length = 1) ∧ ((nodeOf T.nodes (x : Int)).kind = 6 → (nodeOf T.nodes (x : Int)).kids.length = 2))
  (hks : ∀ y ∈ (nodeOf T.nodes (x : Int)).kids, (0 ≤ y ∧ y < (T.nodes.length : Int)) ∧ (1 ≤ (nodeOf T.nodes y).kind ∧ (nodeOf T.nodes y).kind ≤ 6) ∧ ((nodeOf T.nodes y).kind = 1 → 0 ≤ (nodeOf T.nodes y).num))
  (hT : (nodeOf T.nodes (x : Int)).kids ≠ [] → ∃ f', f = f' + 1 ∧ ∀ y : Nat, (y : Int) ∈ (nodeOf T.nodes (x : Int)).kids → ITypeC lo cp mp vn vl T V (f' + 1) y) :
  Calls Tryz.prog 150 #[.pointer (some ⟨cp, 0, none⟩), .int .i64 (x : Int)] W fun e w' => e = .returned (errV (metT V T (f + 1) (x : Int))) ∧ Below W.heap.size W w' := by
 obtain ⟨bn, on, cn, rfl, vk, vt, ve, ⟨d0, d1, d2, d3, d4, d5, d6, d7⟩, hi, ⟨a, c, rfl⟩, ⟨a2, l2, c2, rfl⟩, ⟨a3, l3, c3, rfl⟩⟩ := hE.node x hx
 have k0 := cell_of_row _ _ 0 _ _ _ hE.row
 simp at k0
 have hnl := hE.good.nodes
 have hx0 : (0 : Int) ≤ (x : Int) := by omega
 have hx1 : (x : Int) < (T.nodes.length : Int) := by omega
 have HMB : Hid ((nodeOf T.nodes (x : Int)).kids ≠ [] → ∀ (W' : World) (g : Nat) (ts : List Int), Below W.heap.size W W' → W'.heap[g]? = some (.cells (ts.map (Value.int .i64)).toArray 2 (0, 0)) → (nodeOf T.nodes (x : Int)).kids.length = ts.length → (nodeOf T.nodes (x : Int)).kids.length ≤ 3 →
   Calls Tryz.prog 219 #[.pointer (some ⟨cp, 0, none⟩), .slice a (nodeOf T.nodes (x : Int)).kids.length c, .slice (some ⟨g, 0, none⟩) ts.length ts.length] W' fun e w' => e = .returned (errV (mustsF V T f (nodeOf T.nodes (x : Int)).kids ts (0, 0))) ∧ Below W'.heap.size W' w') := fun hne W' g ts hb hg hl h3 => by
  obtain ⟨f', rfl, hc⟩ := hT hne
  exact mustBe_any lo lo 0 cp mp f' W' _ vl _ _ T V _ ts (hE.below hb) hl h3 hks (hi.below hb) (ints_of_cells hg rfl rfl (Nat.zero_le _)) hc
 have HNA : Hid (∀ W', Below W.heap.size W W' → Calls Tryz.prog 218 #[.pointer (some ⟨cp, 0, none⟩), .int .i64 (x : Int)] W' fun e w' => e = .returned (.tuple #[namedV V T.vars.length (nodeOf T.nodes (x : Int)) (x : Int), errV (namedF V T.vars.length (nodeOf T.nodes (x : Int)) (x : Int))]) ∧ Below W'.heap.size W' w') := fun W' hb => named_any lo cp mp W' _ vl T V x (hE.below hb) hx (hnm x hx)
 have HSI : Hid ((nodeOf T.nodes (x : Int)).kind = 6 → ∀ W', Below W.heap.size W W' → Calls Tryz.prog 220 #[.pointer (some ⟨cp, 0, none⟩), nodeV (nodeOf T.nodes (x : Int)) (.slice a (nodeOf T.nodes (x : Int)).kids.length c) (.slice a2 l2 c2) (.slice a3 l3 c3)] W' fun e w' => e = .returned (.int .i64 (sidesT V T.nodes (nodeOf T.nodes (x : Int)))) ∧ Below W'.heap.size W' w') := fun h6 W' hb => sides_any lo cp mp W' _ vl _ _ _ T V _ (hE.below hb) (hkn.2 h6) (fun y hy => (hks y hy).1) (hi.below hb) ⟨_, _, _, rfl⟩ ⟨_, _, _, rfl⟩ (hop h6) hnm
 obtain ⟨m, hm⟩ : ∃ m, m = metT V T (f + 1) (x : Int) := ⟨_, rfl⟩
 rw [← hm]
 obtain ⟨ev, hev⟩ : ∃ ev, ev = errV m := ⟨_, rfl⟩
 rw [← hev]
 have HEV : Hid (ev = errV m) := hev
 have HM := hid hm
 have HV : Hid (TypesOk V) := hV
 have HKN := hkn
 obtain ⟨y0, y1, y2, y3, y4, y5, hnv⟩ := namedV_form V T.vars.length (nodeOf T.nodes (x : Int)) (x : Int)
 rw [hnv] at HNA
 have hb1 : Below W.heap.size W (W.alloc (.cells #[.int .i64 (nodeOf T.nodes (x : Int)).kind, .int .i64 (nodeOf T.nodes (x : Int)).op, .string (bs (nodeOf T.nodes (x : Int)).name), .int .i64 (nodeOf T.nodes (x : Int)).num, .int .i64 (nodeOf T.nodes (x : Int)).far, .slice a (nodeOf T.nodes (x : Int)).kids.length c, .slice a2 l2 c2, .slice a3 l3 c3] 40)) := (Below.refl _ _).alloc (Nat.le_refl _) _
 have HB1 : Hid _ := hb1
 clear hm hV hkn hks hT hop hi hE hb1 hnm hnv hev
 by_cases h1 : (nodeOf T.nodes (x : Int)).kind = 1
 ·have HR : Hid (m = (0, 0)) := by unfold Hid; rw [HM.out, metT_num h1]
  clear HM HMB HNA HSI HB1 HKN hkind
  generalize nodeOf T.nodes (x : Int) = n at *
  go_enter Tryz.func150, Tryz.ntmps150
  go_wp2
  go_ret
  exact ⟨by rw [HEV.out, HR.out]; rfl, by go_grown⟩
 by_cases h2 : (nodeOf T.nodes (x : Int)).kind = 2
 ·have HR : Hid (m = namedF V T.vars.length (nodeOf T.nodes (x : Int)) (x : Int)) := by unfold Hid; rw [HM.out, metT_name h2]
  clear HM HMB HSI HKN hkind h1
  rw [← HR.out, ← HEV.out] at HNA
  generalize nodeOf T.nodes (x : Int) = n at *
  rw [h2] at HB1
  clear HR
  go_enter Tryz.func150, Tryz.ntmps150
  go_wp2_with fail
  refine (HNA.out _ HB1.out).mono ?_
  rintro e w2 ⟨rfl, hb⟩
  have HB2 : Hid (Below W.heap.size W w2) := HB1.out.trans (hb.mono HB1.out.size)
  clear hb HNA HB1 d0 d1 d2 d3 d4 d5 d6 d7 k0
  have hsz := HB2.out.size
  go_wp2_with fail
  go_ret
  exact ⟨rfl, HB2.out.alloc hsz _⟩
 by_cases h4 : (nodeOf T.nodes (x : Int)).kind = 4
 ·obtain ⟨k, hk⟩ : ∃ k, (nodeOf T.nodes (x : Int)).kids = [k] := by
   match hl : (nodeOf T.nodes (x : Int)).kids, HKN.1 ⟨by omega, by omega⟩ with
   | [k], _ => exact ⟨k, rfl⟩
  have HR : Hid (m = mustsF V T f [k] [1] (0, 0)) := by unfold Hid; rw [HM.out, metT_neg h4 hk]
  rw [hk] at HMB d5 HB1
  clear HM HNA HSI HKN hkind h1 h2
  generalize nodeOf T.nodes (x : Int) = n at *
  rw [h4] at HB1
  go_enter Tryz.func150, Tryz.ntmps150
  go_wp2_with fail
  refine (HMB.out (by simp) _ (W.heap.size + 1) [1] ?_ ?_ rfl (by simp)).mono ?_
  ·exact HB1.out.trans (((Below.refl _ _).alloc (Nat.le_refl _) _).mono HB1.out.size)
  ·have h := heap_alloc_new (W.alloc (.cells #[.int .i64 4, .int .i64 n.op, .string (bs n.name), .int .i64 n.num, .int .i64 n.far, .slice a [k].length c, .slice a2 l2 c2, .slice a3 l3 c3] 40)) (.cells #[.int .i64 1] 2)
   rwa [World.size_alloc] at h
  rintro e w2 ⟨rfl, hb⟩
  rw [← HR.out, ← HEV.out]
  have HB2 : Hid (Below W.heap.size W w2) := (HB1.out.trans (((Below.refl _ _).alloc (Nat.le_refl _) _).mono HB1.out.size)).trans (hb.mono (by simp; omega))
  clear hb HR HMB HB1
  go_wp2_with fail
  go_ret
  exact ⟨rfl, HB2.out⟩
 by_cases h5 : (nodeOf T.nodes (x : Int)).kind = 5
 ·obtain ⟨k, hk⟩ : ∃ k, (nodeOf T.nodes (x : Int)).kids = [k] := by
   match hl : (nodeOf T.nodes (x : Int)).kids, HKN.1 ⟨by omega, by omega⟩ with
   | [k], _ => exact ⟨k, rfl⟩
  have HR : Hid (m = mustsF V T f [k] [2] (0, 0)) := by unfold Hid; rw [HM.out, metT_not h5 hk]
  rw [hk] at HMB d5 HB1
  clear HM HNA HSI HKN hkind h1 h2
  generalize nodeOf T.nodes (x : Int) = n at *
  rw [h5] at HB1
  go_enter Tryz.func150, Tryz.ntmps150
  go_wp2_with fail
  refine (HMB.out (by simp) _ (W.heap.size + 1) [2] ?_ ?_ rfl (by simp)).mono ?_
  ·exact HB1.out.trans (((Below.refl _ _).alloc (Nat.le_refl _) _).mono HB1.out.size)
  ·have h := heap_alloc_new (W.alloc (.cells #[.int .i64 5, .int .i64 n.op, .string (bs n.name), .int .i64 n.num, .int .i64 n.far, .slice a [k].length c, .slice a2 l2 c2, .slice a3 l3 c3] 40)) (.cells #[.int .i64 2] 2)
   rwa [World.size_alloc] at h
  rintro e w2 ⟨rfl, hb⟩
  rw [← HR.out, ← HEV.out]
  have HB2 : Hid (Below W.heap.size W w2) := (HB1.out.trans (((Below.refl _ _).alloc (Nat.le_refl _) _).mono HB1.out.size)).trans (hb.mono (by simp; omega))
  clear hb HR HMB HB1
  go_wp2_with fail
  go_ret
  exact ⟨rfl, HB2.out⟩
 by_cases h6 : (nodeOf T.nodes (x : Int)).kind = 6
 ·obtain ⟨k, l, hk⟩ : ∃ k l, (nodeOf T.nodes (x : Int)).kids = [k, l] := by
   match hl : (nodeOf T.nodes (x : Int)).kids, HKN.2 h6 with
   | [k, l], _ => exact ⟨k, l, rfl⟩
  have HR : Hid (m = mustsF V T f [k, l] [sidesT V T.nodes (nodeOf T.nodes (x : Int)), sidesT V T.nodes (nodeOf T.nodes (x : Int))] (0, 0)) := by unfold Hid; rw [HM.out, metT_two HV.out h6 hk]
  have HS2 := HSI.out h6
  have HS3 : Hid (∀ W', Below W.heap.size W W' → Calls Tryz.prog 220 #[.pointer (some ⟨cp, 0, none⟩), nodeV (nodeOf T.nodes (x : Int)) (.slice a (nodeOf T.nodes (x : Int)).kids.length c) (.slice a2 l2 c2) (.slice a3 l3 c3)] W' fun e w' => e = .returned (.int .i64 (sidesT V T.nodes (nodeOf T.nodes (x : Int)))) ∧ Below W'.heap.size W' w') := HS2
  clear HS2 HSI HM HNA HKN hkind h1 h2 h4 h5 HV
  generalize sidesT V T.nodes (nodeOf T.nodes (x : Int)) = sd at *
  rw [hk] at HMB d5 HB1 HS3
  generalize nodeOf T.nodes (x : Int) = n at *
  rw [h6] at HB1
  go_enter Tryz.func150, Tryz.ntmps150
  go_wp2_with fail
  have HS4 : Hid (∀ W', Below W.heap.size W W' → Calls Tryz.prog 220 #[.pointer (some ⟨cp, 0, none⟩), .agg #[.int .i64 6, .int .i64 n.op, .string (bs n.name), .int .i64 n.num, .int .i64 n.far, .slice a [k, l].length c, .slice a2 l2 c2, .slice a3 l3 c3]] W' fun e w' => e = .returned (.int .i64 sd) ∧ Below W'.heap.size W' w') := fun W' h => by have := HS3.out W' h; rw [← h6]; exact this
  have hA := heap_alloc_new W (.cells #[.int .i64 6, .int .i64 n.op, .string (bs n.name), .int .i64 n.num, .int .i64 n.far, .slice a [k, l].length c, .slice a2 l2 c2, .slice a3 l3 c3] 40)
  refine (HS4.out _ HB1.out).mono ?_
  rintro e w2 ⟨rfl, hb⟩
  have hA2 := blk hA hb
  have e5 : w2.cell? ⟨W.heap.size, 5, none⟩ = some (.slice a [k, l].length c) := cell_of_row _ _ 5 _ _ _ hA2
  have HB2 : Hid (Below W.heap.size W w2) := HB1.out.trans (hb.mono HB1.out.size)
  have hsz := HB2.out.size
  clear hb HS3 HS4 HB1 hA hA2 d0 d1 d2 d3 d4 d5 d6 d7 k0
  go_wp2_with fail
  refine (HMB.out (by simp) _ w2.heap.size [sd, sd] ?_ (heap_alloc_new w2 _) rfl (by simp)).mono ?_
  ·exact HB2.out.alloc hsz _
  rintro e w3 ⟨rfl, hb⟩
  rw [← HR.out, ← HEV.out]
  have HB3 : Hid (Below W.heap.size W w3) := (HB2.out.alloc hsz _).trans (hb.mono (by simp; omega))
  clear hb HR HMB HB2
  go_wp2_with fail
  go_ret
  exact ⟨rfl, HB3.out⟩
 have h3 : (nodeOf T.nodes (x : Int)).kind = 3 := by omega
 obtain ⟨k, hk⟩ : ∃ k, (nodeOf T.nodes (x : Int)).kids = [k] := by
  match hl : (nodeOf T.nodes (x : Int)).kids, HKN.1 ⟨by omega, by omega⟩ with
  | [k], _ => exact ⟨k, rfl⟩
 have HR0 := metT_item (V := V) (T := T) (f := f) (x := (x : Int)) h3 hk
 have hor := namedF_or V T.vars.length (nodeOf T.nodes (x : Int)) (x : Int)
 rw [← HM.out] at HR0
 rw [hk] at HMB d5 HB1
 clear HSI HKN hkind h1 h2 h4 h5 h6 HV
 obtain ⟨q, hq⟩ : ∃ q, q = namedF V T.vars.length (nodeOf T.nodes (x : Int)) (x : Int) := ⟨_, rfl⟩
 rw [← hq] at HNA HR0 hor
 clear hq HM
 generalize nodeOf T.nodes (x : Int) = n at *
 rw [h3] at HB1
 rcases hor with rfl | hne
 ·have HR : Hid (m = mustsF V T f [k] [1] (0, 0)) := by unfold Hid; rw [HR0, if_neg (by simp)]
  have HNB : Hid (∀ W', Below W.heap.size W W' → Calls Tryz.prog 218 #[.pointer (some ⟨cp, 0, none⟩), .int .i64 (x : Int)] W' fun e w' => e = .returned (.tuple #[.agg #[.string (bs y0), .int .i64 y1, .int .i64 y2, .int .i64 y3, .bool y4, .int .i64 y5], .nilIface]) ∧ Below W'.heap.size W' w') := HNA.out
  clear HNA HR0
  go_enter Tryz.func150, Tryz.ntmps150
  go_wp2_with fail
  have hA := heap_alloc_new W (.cells #[.int .i64 3, .int .i64 n.op, .string (bs n.name), .int .i64 n.num, .int .i64 n.far, .slice a [k].length c, .slice a2 l2 c2, .slice a3 l3 c3] 40)
  refine (HNB.out _ HB1.out).mono ?_
  rintro e w2 ⟨rfl, hb⟩
  have hA2 := blk hA hb
  have HB2 : Hid (Below W.heap.size W w2) := HB1.out.trans (hb.mono HB1.out.size)
  have hsz := HB2.out.size
  have hVB : Below w2.heap.size w2 (w2.alloc (.cells #[.string (bs y0), .int .i64 y1, .int .i64 y2, .int .i64 y3, .bool y4, .int .i64 y5] 136)) := (Below.refl _ _).alloc (Nat.le_refl _) _
  have hA3 := blk hA2 hVB
  have e5 : (w2.alloc (.cells #[.string (bs y0), .int .i64 y1, .int .i64 y2, .int .i64 y3, .bool y4, .int .i64 y5] 136)).cell? ⟨W.heap.size, 5, none⟩ = some (.slice a [k].length c) := cell_of_row _ _ 5 _ _ _ hA3
  have HB3 : Hid (Below W.heap.size W (w2.alloc (.cells #[.string (bs y0), .int .i64 y1, .int .i64 y2, .int .i64 y3, .bool y4, .int .i64 y5] 136))) := HB2.out.alloc hsz _
  have hsz3 := HB3.out.size
  clear hb HNB HB1 hA hA2 hA3 hVB d0 d1 d2 d3 d4 d5 d6 d7 k0 HB2
  go_wp2_with fail
  refine (HMB.out (by simp) _ (w2.heap.size + 1) [1] ?_ ?_ rfl (by simp)).mono ?_
  ·exact HB3.out.alloc hsz3 _
  ·have h := heap_alloc_new (w2.alloc (.cells #[.string (bs y0), .int .i64 y1, .int .i64 y2, .int .i64 y3, .bool y4, .int .i64 y5] 136)) (.cells #[.int .i64 1] 2)
   rwa [World.size_alloc] at h
  rintro e w4 ⟨rfl, hb⟩
  rw [← HR.out, ← HEV.out]
  have HB4 : Hid (Below W.heap.size W w4) := (HB3.out.alloc hsz3 _).trans (hb.mono (by simp; omega))
  clear hb HR HMB HB3
  go_wp2_with fail
  go_ret
  exact ⟨rfl, HB4.out⟩
 ·have HR : Hid (m = q) := by unfold Hid; rw [HR0, if_pos hne]
  rw [errV_met hne] at HNA
  have HEV2 : Hid (ev = .iface 107 (.agg #[.int .i64 q.1, .int .i64 q.2])) := by unfold Hid; rw [HEV.out, HR.out]; exact errV_met hne
  clear HR0 HR HEV HMB hne
  generalize q.1 = q1 at *
  generalize q.2 = q2 at *
  go_enter Tryz.func150, Tryz.ntmps150
  go_wp2_with fail
  refine (HNA.out _ HB1.out).mono ?_
  rintro e w2 ⟨rfl, hb⟩
  have HB2 : Hid (Below W.heap.size W w2) := HB1.out.trans (hb.mono HB1.out.size)
  have hsz := HB2.out.size
  clear hb HNA HB1 d0 d1 d2 d3 d4 d5 d6 d7 k0
  go_wp2_with fail
  go_ret
  exact ⟨by rw [HEV2.out]; rfl, HB2.out.alloc hsz _⟩
end Go.Proofs.YtcecfmdjicjngaaGreatDoor
namespace Go.Proofs.YtcecfmdjicjngaaGreatDoor
open Go.RowKit
set_option linter.unusedVariables false
attribute [local go_sem] bs_size bs_get bs_extract bs_append bs_eq bs_toList
def FitsE (T : LTree) : Prop := ∀ x : Nat, x < T.nodes.length → 1 ≤ (nodeOf T.nodes (x : Int)).kind ∧ (nodeOf T.nodes (x : Int)).kind ≤ 6 →
 ((nodeOf T.nodes (x : Int)).kind = 6 → 1 ≤ (nodeOf T.nodes (x : Int)).op ∧ (nodeOf T.nodes (x : Int)).op ≤ 10) ∧
 ((3 ≤ (nodeOf T.nodes (x : Int)).kind ∧ (nodeOf T.nodes (x : Int)).kind ≤ 5 → (nodeOf T.nodes (x : Int)).kids.length = 1) ∧ ((nodeOf T.nodes (x : Int)).kind = 6 → (nodeOf T.nodes (x : Int)).kids.length = 2)) ∧
 ∀ y ∈ (nodeOf T.nodes (x : Int)).kids, (0 ≤ y ∧ y < (x : Int)) ∧ (1 ≤ (nodeOf T.nodes y).kind ∧ (nodeOf T.nodes y).kind ≤ 6) ∧ ((nodeOf T.nodes y).kind = 1 → 0 ≤ (nodeOf T.nodes y).num)
set_option maxHeartbeats 6400000 in
set_option maxRecDepth 100000 in
theorem typeOf_step (lo cp mp f : Nat) (W : World) (vn vl : Value) (T : LTree) (V : List LVar) (x : Nat) (hE : CkE lo W cp mp vn vl T V) (hx : x < T.nodes.length) (hnm : ∀ y : Nat, y < T.nodes.length → (nodeOf T.nodes (y : Int)).name.length ≤ 1048576)
  (hP : Calls Tryz.prog 150 #[.pointer (some ⟨cp, 0, none⟩), .int .i64 (x : Int)] W fun e w' => e = .returned (errV (metT V T (f + 1) (x : Int))) ∧ Below W.heap.size W w') :
  Calls Tryz.prog 82 #[.pointer (some ⟨cp, 0, none⟩), .int .i64 (x : Int)] W fun e w' => e = .returned (.tuple #[.int .i64 (if (metT V T (f + 1) (x : Int)).1 = 0 then plainT V (nodeOf T.nodes (x : Int)) else 0), errV (metT V T (f + 1) (x : Int))]) ∧ Below W.heap.size W w' := by
 have HPL : Hid (∀ W', Below W.heap.size W W' → Calls Tryz.prog 151 #[.pointer (some ⟨cp, 0, none⟩), .int .i64 (x : Int)] W' fun e w' => e = .returned (.int .i64 (plainT V (nodeOf T.nodes (x : Int)))) ∧ Below W'.heap.size W' w') := fun W' hb => plainType_any lo cp mp W' vn vl T V x (hE.below hb) hx (hnm x hx)
 generalize metT V T (f + 1) (x : Int) = m at *
 generalize plainT V (nodeOf T.nodes (x : Int)) = g at *
 clear hE hnm hx
 by_cases hz : m.1 = 0
 ·rw [if_pos hz, errV_zero hz]
  rw [errV_zero hz] at hP
  have HP := hid hP
  clear hP hz
  go_enter Tryz.func82, Tryz.ntmps82
  go_wp2_with fail
  refine HP.out.mono ?_
  rintro e w2 ⟨rfl, hb⟩
  have HB := hid hb
  clear hb HP
  go_wp2_with fail
  refine (HPL.out _ HB.out).mono ?_
  rintro e w3 ⟨rfl, hb⟩
  have HB2 : Hid (Below W.heap.size W w3) := HB.out.trans (hb.mono HB.out.size)
  clear hb HPL HB
  go_wp2_with fail
  go_returns
  exact ⟨rfl, HB2.out⟩
 ·rw [if_neg hz, errV_met hz]
  rw [errV_met hz] at hP
  generalize m.1 = m1 at *
  generalize m.2 = m2 at *
  have HP := hid hP
  clear hP hz HPL
  go_enter Tryz.func82, Tryz.ntmps82
  go_wp2_with fail
  refine HP.out.mono ?_
  rintro e w2 ⟨rfl, hb⟩
  have HB := hid hb
  clear hb HP
  go_wp2_with fail
  go_returns
  exact ⟨rfl, HB.out⟩
theorem typeOf_all (lo cp mp : Nat) (vn vl : Value) (T : LTree) (V : List LVar) (hV : TypesOk V) (hF : FitsE T) (hnm : ∀ y : Nat, y < T.nodes.length → (nodeOf T.nodes (y : Int)).name.length ≤ 1048576) :
  ∀ (x : Nat), x < T.nodes.length → 1 ≤ (nodeOf T.nodes (x : Int)).kind ∧ (nodeOf T.nodes (x : Int)).kind ≤ 6 → ∀ f, x ≤ f → ITypeC lo cp mp vn vl T V (f + 1) x := by
 intro x
 induction x using Nat.strongRecOn with
 | _ x ih =>
  intro hx hk f hf W hE
  obtain ⟨h1, h2, h3⟩ := hF x hx hk
  refine typeOf_step lo cp mp f W vn vl T V x hE hx hnm (partsFit_any lo cp mp f W vn vl T V x hE hx hV hk hnm h1 h2 (fun y hy => ⟨⟨(h3 y hy).1.1, by have := (h3 y hy).1.2; omega⟩, (h3 y hy).2⟩) (fun hne => ?_))
  obtain ⟨y0, hy0⟩ := List.exists_mem_of_ne_nil _ hne
  have hp := (h3 y0 hy0).1
  refine ⟨f - 1, by omega, fun y hy => ?_⟩
  have hy2 := (h3 (y : Int) hy).1
  exact ih y (by omega) (by omega) (h3 (y : Int) hy).2.1 (f - 1) (by omega)
end Go.Proofs.YtcecfmdjicjngaaGreatDoor
