/-
  (*impl.checker).named.
-/
import Derived.Test.YteeklmgkhacbcaaGreatDoorITruth
namespace Go.Proofs.YteeklmgkhacbcaaGreatDoor
open Go.RowKit
set_option linter.unusedVariables false
attribute [local go_sem] bs_size bs_get bs_extract bs_append bs_eq bs_toList
def errV (m : Met) : Value := if m.1 = 0 then .nilIface else .iface 121 (.agg #[.int .i64 m.1, .int .i64 m.2])
def namedF (V : List LVar) (nv : Nat) (n : LNode) (x : Int) : Met :=
 if varFrom n.name V 0 < 0 ∨ ((nv : Int) ≤ varFrom n.name V 0 ∧ n.kind ≠ 2) then (4, x)
 else if decide (n.kind = 3 ∨ n.kind = 8) ≠ decide (0 < (V.getD (varFrom n.name V 0).toNat default).size) then (1, x) else (0, 0)
def namedV (V : List LVar) (nv : Nat) (n : LNode) (x : Int) : Value := if (namedF V nv n x).1 = 0 then entVal V nv (varFrom n.name V 0).toNat else noVal
set_option maxHeartbeats 12800000 in
set_option maxRecDepth 100000 in
theorem named_any (lo cp mp : Nat) (W : World) (vn vl : Value) (T : LTree) (V : List LVar) (x : Nat) (hE : CkE lo W cp mp vn vl T V) (hx : x < T.nodes.length) (hnm : (nodeOf T.nodes (x : Int)).name.length ≤ 1048576) :
  Calls Tryz.prog 149 #[.pointer (some ⟨cp, 0, none⟩), .int .i64 (x : Int)] W fun e w' => e = .returned (.tuple #[namedV V T.vars.length (nodeOf T.nodes (x : Int)) (x : Int), errV (namedF V T.vars.length (nodeOf T.nodes (x : Int)) (x : Int))]) ∧ Below W.heap.size W w' := by
 have hB0 : Below W.heap.size W (W.alloc (.cells #[.string ⟨#[]⟩, .int .i64 0, .int .i64 0, .int .i64 0, .bool false, .int .i64 0] 93)) := (Below.refl _ _).alloc (Nat.le_refl _) _
 obtain ⟨bn, on, cn, rfl, vk, vt, ve, ⟨d0, d1, d2, d3, d4, d5, d6, d7⟩, _, ⟨a, c, rfl⟩, ⟨a2, l2, c2, rfl⟩, ⟨a3, l3, c3, rfl⟩⟩ := (hE.below hB0).node x hx
 have k0 : (W.alloc (.cells #[.string ⟨#[]⟩, .int .i64 0, .int .i64 0, .int .i64 0, .bool false, .int .i64 0] 93)).cell? ⟨cp, 0, none⟩ = some (.slice (some ⟨bn, on, none⟩) T.nodes.length cn) := cell_of_row _ _ 0 _ _ _ (hE.below hB0).row
 have k1 : (W.alloc (.cells #[.string ⟨#[]⟩, .int .i64 0, .int .i64 0, .int .i64 0, .bool false, .int .i64 0] 93)).cell? ⟨cp, 1, none⟩ = some (.map (some mp)) := cell_of_row _ _ 1 _ _ _ (hE.below hB0).row
 have hkl := blk_lt hE.row
 have HB0 : Hid _ := hB0
 clear hB0
 have hml := hE.map.lt
 obtain ⟨n, hn⟩ : ∃ n, n = nodeOf T.nodes (x : Int) := ⟨_, rfl⟩
 rw [← hn] at d0 d1 d2 d3 d4 d5 hnm ⊢
 have hnl := hE.good.nodes
 have hx0 : (0 : Int) ≤ (x : Int) := by omega
 have hx1 : (x : Int) < (T.nodes.length : Int) := by omega
 have HMP : Hid (NamesAt W mp V T.vars.length) := hE.map
 have HLK : Hid (∀ Z, NamesAt Z mp V T.vars.length → (Instr.lookup 180 (.map (some mp)) (.string (bs n.name)) true).run Tryz.prog Z = .ok (.tuple #[lookV V T.vars.length V.length n.name, .bool (firstI V n.name V.length).isSome]) Z) := fun Z h => names_look h n.name hnm
 have HFR : Hid ((∀ i, firstI V n.name V.length = some i → varFrom n.name V 0 = (i : Int)) ∧ (firstI V n.name V.length = none → varFrom n.name V 0 = -1)) := by
  obtain ⟨h1, h2⟩ := firstI_from V n.name V.length (Nat.le_refl _)
  exact ⟨fun i hi => (h1 i hi).1, fun hn => by rw [h2 hn, List.drop_length]; rfl⟩
 obtain ⟨F, hF⟩ : ∃ F, F = namedF V T.vars.length n (x : Int) := ⟨_, rfl⟩
 obtain ⟨R, hR⟩ : ∃ R, R = namedV V T.vars.length n (x : Int) := ⟨_, rfl⟩
 have HF : Hid (F = if varFrom n.name V 0 < 0 ∨ ((T.vars.length : Int) ≤ varFrom n.name V 0 ∧ n.kind ≠ 2) then (4, (x : Int)) else if decide (n.kind = 3 ∨ n.kind = 8) ≠ decide (0 < (V.getD (varFrom n.name V 0).toNat default).size) then (1, (x : Int)) else (0, 0)) := hF
 have HR : Hid (R = if F.1 = 0 then entVal V T.vars.length (varFrom n.name V 0).toNat else noVal) := by unfold Hid; rw [hR, hF]; rfl
 rw [← hF, ← hR]
 have hne : ¬ mp = W.heap.size := by omega
 have hne1 : ¬ mp = W.heap.size + 1 := by omega
 obtain ⟨KK, hKK⟩ : ∃ KK, KK = n.kind := ⟨_, rfl⟩
 rw [← hKK] at d0 HF
 clear hn hE hF hR hKK
 cases hr : firstI V n.name V.length with
 | none =>
  have hvf := HFR.out.2 hr
  have HFF : Hid (F = (4, (x : Int))) := by unfold Hid; rw [HF.out, hvf, if_pos (.inl (by omega))]
  have HRR : Hid (R = (.agg #[.string ⟨#[]⟩, .int .i64 0, .int .i64 0, .int .i64 0, .bool false, .int .i64 0])) := by unfold Hid; rw [HR.out, HFF.out]; rfl
  obtain ⟨y0, y1, y2, y3, ob, y5, hy⟩ : ∃ y0 y1 y2 y3 ob y5, noVal = .agg #[.string (bs y0), .int .i64 y1, .int .i64 y2, .int .i64 y3, .bool ob, .int .i64 y5] := ⟨[], 0, 0, 0, false, 0, rfl⟩
  have hlk : ∀ Z, NamesAt Z mp V T.vars.length → (Instr.lookup 180 (.map (some mp)) (.string (bs n.name)) true).run Tryz.prog Z = .ok (.tuple #[.agg #[.string (bs y0), .int .i64 y1, .int .i64 y2, .int .i64 y3, .bool ob, .int .i64 y5], .bool false]) Z := fun Z h => by
   rw [HLK.out Z h]
   have e1 : lookV V T.vars.length V.length n.name = .agg #[.string (bs y0), .int .i64 y1, .int .i64 y2, .int .i64 y3, .bool ob, .int .i64 y5] := by unfold lookV; rw [hr]; exact hy
   rw [e1, hr]; rfl
  clear hy
  clear hr hvf HF HR HFR HLK
  go_enter Tryz.func149, Tryz.ntmps149
  go_wp2_with fail
  have hB0 := HB0.out
  have hZ := heap_alloc_new W (.cells #[.string ⟨#[]⟩, .int .i64 0, .int .i64 0, .int .i64 0, .bool false, .int .i64 0] 93)
  have hA : ((W.alloc (.cells #[.string ⟨#[]⟩, .int .i64 0, .int .i64 0, .int .i64 0, .bool false, .int .i64 0] 93)).alloc (.cells #[.int .i64 KK, .int .i64 n.op, .string (bs n.name), .int .i64 n.num, .int .i64 n.far, .slice a n.kids.length c, .slice a2 l2 c2, .slice a3 l3 c3] 88)).heap[W.heap.size + 1]? = some (.cells #[.int .i64 KK, .int .i64 n.op, .string (bs n.name), .int .i64 n.num, .int .i64 n.far, .slice a n.kids.length c, .slice a2 l2 c2, .slice a3 l3 c3] 88 (0, 0)) := by have h := heap_alloc_new (W.alloc (.cells #[.string ⟨#[]⟩, .int .i64 0, .int .i64 0, .int .i64 0, .bool false, .int .i64 0] 93)) (.cells #[.int .i64 KK, .int .i64 n.op, .string (bs n.name), .int .i64 n.num, .int .i64 n.far, .slice a n.kids.length c, .slice a2 l2 c2, .slice a3 l3 c3] 88); rwa [World.size_alloc] at h
  have hB1 : Below (W.alloc (.cells #[.string ⟨#[]⟩, .int .i64 0, .int .i64 0, .int .i64 0, .bool false, .int .i64 0] 93)).heap.size (W.alloc (.cells #[.string ⟨#[]⟩, .int .i64 0, .int .i64 0, .int .i64 0, .bool false, .int .i64 0] 93)) ((W.alloc (.cells #[.string ⟨#[]⟩, .int .i64 0, .int .i64 0, .int .i64 0, .bool false, .int .i64 0] 93)).alloc (.cells #[.int .i64 KK, .int .i64 n.op, .string (bs n.name), .int .i64 n.num, .int .i64 n.far, .slice a n.kids.length c, .slice a2 l2 c2, .slice a3 l3 c3] 88)) := (Below.refl _ _).alloc (Nat.le_refl _) _
  have hB := hB0.trans (hB1.mono hB0.size)
  have hZ5 := (hB1.block W.heap.size (by simp)).trans hZ
  generalize hW5 : (W.alloc (.cells #[.string ⟨#[]⟩, .int .i64 0, .int .i64 0, .int .i64 0, .bool false, .int .i64 0] 93)).alloc (.cells #[.int .i64 KK, .int .i64 n.op, .string (bs n.name), .int .i64 n.num, .int .i64 n.far, .slice a n.kids.length c, .slice a2 l2 c2, .slice a3 l3 c3] 88) = W5 at *
  clear hW5 hZ
  have q1 : W5.cell? ⟨cp, 1, none⟩ = some (.map (some mp)) := (hB1.cell (p := ⟨cp, 1, none⟩) (Nat.lt_of_lt_of_le hkl hB0.size)).trans k1
  obtain ⟨q3, -, q2⟩ := cl3 hA
  obtain ⟨z0, z1, z2, z3, z4, z5⟩ := cl6 hZ5
  obtain ⟨f0, f1, f2, f3, f4, f5⟩ := fl6 hZ5
  have hm5 : NamesAt W5 mp V T.vars.length := ownsMap_block HMP.out (hB.block _ hml)
  have hMA : ∀ (Z : World) (o : Obj), NamesAt Z mp V T.vars.length → NamesAt (Z.alloc o) mp V T.vars.length := fun Z o h => h.alloc o
  have hMS : ∀ (Z : World) (q : Addr) (u : Value), ¬ mp = q.block → NamesAt Z mp V T.vars.length → NamesAt (Z.setCell q u) mp V T.vars.length := fun Z q u hq h => h.setCell hq u
  have hMR : ∀ (Z : World), NamesAt Z mp V T.vars.length → NamesAt Z.drew mp V T.vars.length := fun Z h => h
  have hMD := hMR _ hm5
  have hsz := blk_lt hA
  have hsz0 : W.heap.size < W5.heap.size := by omega
  have hne5 : ¬ mp = W5.heap.size := by omega
  have HBW : Hid (Below W.heap.size W W5) := hB
  clear k0 k1 d0 d1 d2 d3 d4 d5 d6 d7 hA HMP hB hZ5 hB0 hB1 HB0
  go_region_held3 (fun Z => Z.cell? ⟨cp, 1, none⟩ = some (.map (some mp)) ∧ Z.cell? ⟨W.heap.size + 1, 2, none⟩ = some (.string (bs n.name)) ∧ NamesAt Z mp V T.vars.length) (go_keep) (fail)
  all_goals
   have hb7 : Below W5.heap.size W5 ((W5.alloc (.cells #[.string (bs y0), .int .i64 y1, .int .i64 y2, .int .i64 y3, .bool ob, .int .i64 y5] 93)).drew) := ((Below.refl _ _).alloc (Nat.le_refl _) _).drew
   have hv7 : ((W5.alloc (.cells #[.string (bs y0), .int .i64 y1, .int .i64 y2, .int .i64 y3, .bool ob, .int .i64 y5] 93)).drew).heap[W5.heap.size]? = some (.cells #[.string (bs y0), .int .i64 y1, .int .i64 y2, .int .i64 y3, .bool ob, .int .i64 y5] 93 (0, 0)) := heap_alloc_new W5 _
   generalize hW7 : (W5.alloc (.cells #[.string (bs y0), .int .i64 y1, .int .i64 y2, .int .i64 y3, .bool ob, .int .i64 y5] 93)).drew = W7 at *
   clear hW7 hMA hMS hMR hMD hlk hm5
   have hBW7 : Below W.heap.size W W7 := HBW.out.trans (hb7.mono HBW.out.size)
   have HB7 : Hid (Below W.heap.size W W7) := hBW7
   have u0 := (hb7.cell (p := ⟨W.heap.size, 0, none⟩) hsz0).trans z0
   have u1 := (hb7.cell (p := ⟨W.heap.size, 1, none⟩) hsz0).trans z1
   have u2 := (hb7.cell (p := ⟨W.heap.size, 2, none⟩) hsz0).trans z2
   have u3 := (hb7.cell (p := ⟨W.heap.size, 3, none⟩) hsz0).trans z3
   have u4 := (hb7.cell (p := ⟨W.heap.size, 4, none⟩) hsz0).trans z4
   have u5 := (hb7.cell (p := ⟨W.heap.size, 5, none⟩) hsz0).trans z5
   have g0 := (hb7.frozen (p := ⟨W.heap.size, 0, none⟩) hsz0).trans f0
   have g1 := (hb7.frozen (p := ⟨W.heap.size, 1, none⟩) hsz0).trans f1
   have g2 := (hb7.frozen (p := ⟨W.heap.size, 2, none⟩) hsz0).trans f2
   have g3 := (hb7.frozen (p := ⟨W.heap.size, 3, none⟩) hsz0).trans f3
   have g4 := (hb7.frozen (p := ⟨W.heap.size, 4, none⟩) hsz0).trans f4
   have g5 := (hb7.frozen (p := ⟨W.heap.size, 5, none⟩) hsz0).trans f5
   have q7 := (hb7.cell (p := ⟨W.heap.size + 1, 0, none⟩) hsz).trans q3
   obtain ⟨v0, v1, v2, v3, v4, v5⟩ := cl6 hv7
   clear hb7 hv7 z0 z1 z2 z3 z4 z5 f0 f1 f2 f3 f4 f5 q1 q2 q3 HBW hBW7
   generalize hX : W5.heap.size = X5 at *
   clear hX hsz hsz0 hne hne1 hne5
   go_wp2_with fail
   refine bodyPost_ret (v := .tuple #[R, errV F]) (by rw [HRR.out, HFF.out]; simp [results, Tryz.results149, go_sem, errV, u0, u1, u2, u3, u4, u5]) rfl ⟨rfl, ?_⟩
   exact (((((HB7.out.setCell (Nat.le_refl _) _).setCell (Nat.le_refl _) _).setCell (Nat.le_refl _) _).setCell (Nat.le_refl _) _).setCell (Nat.le_refl _) _).setCell (Nat.le_refl _) _
 | some i =>
  have hvf := HFR.out.1 i hr
  obtain ⟨y0, y1, y2, y3, ob, y5, hy, h3, hob⟩ : ∃ y0 y1 y2 y3 ob y5, entVal V T.vars.length i = .agg #[.string (bs y0), .int .i64 y1, .int .i64 y2, .int .i64 y3, .bool ob, .int .i64 y5] ∧ y3 = (V.getD i default).size ∧ ob = decide (T.vars.length ≤ i) := ⟨_, _, _, _, _, _, rfl, rfl, rfl⟩
  have hlk : ∀ Z, NamesAt Z mp V T.vars.length → (Instr.lookup 180 (.map (some mp)) (.string (bs n.name)) true).run Tryz.prog Z = .ok (.tuple #[.agg #[.string (bs y0), .int .i64 y1, .int .i64 y2, .int .i64 y3, .bool ob, .int .i64 y5], .bool true]) Z := fun Z h => by
   rw [HLK.out Z h]
   have e1 : lookV V T.vars.length V.length n.name = .agg #[.string (bs y0), .int .i64 y1, .int .i64 y2, .int .i64 y3, .bool ob, .int .i64 y5] := by unfold lookV; rw [hr]; exact hy
   rw [e1, hr]; rfl
  have HF2 : Hid (F = if ob = true ∧ KK ≠ 2 then (4, (x : Int)) else if decide (KK = 3 ∨ KK = 8) ≠ decide (0 < y3) then (1, (x : Int)) else (0, 0)) := by
   unfold Hid
   rw [HF.out, hvf, Int.toNat_natCast, ← h3, hob]
   congr 1
   simp only [decide_eq_true_eq, eq_iff_iff]
   omega
  have HR2 : Hid (R = if F.1 = 0 then .agg #[.string (bs y0), .int .i64 y1, .int .i64 y2, .int .i64 y3, .bool ob, .int .i64 y5] else noVal) := by unfold Hid; rw [HR.out, hvf, Int.toNat_natCast, hy]
  clear hr hvf HF HR HFR HLK hy h3 hob
  by_cases hown : ob = true ∧ KK ≠ 2
  ·have HFX : Hid (F = (4, (x : Int))) := by unfold Hid; rw [HF2.out, if_pos hown]
   obtain ⟨rfl, hk⟩ := hown
   have e2 : (KK != 2) = true := by simpa using hk
   have HFF := HFX
   have HRR : Hid (R = (.agg #[.string ⟨#[]⟩, .int .i64 0, .int .i64 0, .int .i64 0, .bool false, .int .i64 0])) := by unfold Hid; rw [HR2.out, HFX.out]; rfl
   clear HF2 HR2 HFX hk
   go_enter Tryz.func149, Tryz.ntmps149
   go_wp2_with fail
   have hB0 := HB0.out
   have hZ := heap_alloc_new W (.cells #[.string ⟨#[]⟩, .int .i64 0, .int .i64 0, .int .i64 0, .bool false, .int .i64 0] 93)
   have hA : ((W.alloc (.cells #[.string ⟨#[]⟩, .int .i64 0, .int .i64 0, .int .i64 0, .bool false, .int .i64 0] 93)).alloc (.cells #[.int .i64 KK, .int .i64 n.op, .string (bs n.name), .int .i64 n.num, .int .i64 n.far, .slice a n.kids.length c, .slice a2 l2 c2, .slice a3 l3 c3] 88)).heap[W.heap.size + 1]? = some (.cells #[.int .i64 KK, .int .i64 n.op, .string (bs n.name), .int .i64 n.num, .int .i64 n.far, .slice a n.kids.length c, .slice a2 l2 c2, .slice a3 l3 c3] 88 (0, 0)) := by have h := heap_alloc_new (W.alloc (.cells #[.string ⟨#[]⟩, .int .i64 0, .int .i64 0, .int .i64 0, .bool false, .int .i64 0] 93)) (.cells #[.int .i64 KK, .int .i64 n.op, .string (bs n.name), .int .i64 n.num, .int .i64 n.far, .slice a n.kids.length c, .slice a2 l2 c2, .slice a3 l3 c3] 88); rwa [World.size_alloc] at h
   have hB1 : Below (W.alloc (.cells #[.string ⟨#[]⟩, .int .i64 0, .int .i64 0, .int .i64 0, .bool false, .int .i64 0] 93)).heap.size (W.alloc (.cells #[.string ⟨#[]⟩, .int .i64 0, .int .i64 0, .int .i64 0, .bool false, .int .i64 0] 93)) ((W.alloc (.cells #[.string ⟨#[]⟩, .int .i64 0, .int .i64 0, .int .i64 0, .bool false, .int .i64 0] 93)).alloc (.cells #[.int .i64 KK, .int .i64 n.op, .string (bs n.name), .int .i64 n.num, .int .i64 n.far, .slice a n.kids.length c, .slice a2 l2 c2, .slice a3 l3 c3] 88)) := (Below.refl _ _).alloc (Nat.le_refl _) _
   have hB := hB0.trans (hB1.mono hB0.size)
   have hZ5 := (hB1.block W.heap.size (by simp)).trans hZ
   generalize hW5 : (W.alloc (.cells #[.string ⟨#[]⟩, .int .i64 0, .int .i64 0, .int .i64 0, .bool false, .int .i64 0] 93)).alloc (.cells #[.int .i64 KK, .int .i64 n.op, .string (bs n.name), .int .i64 n.num, .int .i64 n.far, .slice a n.kids.length c, .slice a2 l2 c2, .slice a3 l3 c3] 88) = W5 at *
   clear hW5 hZ
   have q1 : W5.cell? ⟨cp, 1, none⟩ = some (.map (some mp)) := (hB1.cell (p := ⟨cp, 1, none⟩) (Nat.lt_of_lt_of_le hkl hB0.size)).trans k1
   obtain ⟨q3, -, q2⟩ := cl3 hA
   obtain ⟨z0, z1, z2, z3, z4, z5⟩ := cl6 hZ5
   obtain ⟨f0, f1, f2, f3, f4, f5⟩ := fl6 hZ5
   have hm5 : NamesAt W5 mp V T.vars.length := ownsMap_block HMP.out (hB.block _ hml)
   have hMA : ∀ (Z : World) (o : Obj), NamesAt Z mp V T.vars.length → NamesAt (Z.alloc o) mp V T.vars.length := fun Z o h => h.alloc o
   have hMS : ∀ (Z : World) (q : Addr) (u : Value), ¬ mp = q.block → NamesAt Z mp V T.vars.length → NamesAt (Z.setCell q u) mp V T.vars.length := fun Z q u hq h => h.setCell hq u
   have hMR : ∀ (Z : World), NamesAt Z mp V T.vars.length → NamesAt Z.drew mp V T.vars.length := fun Z h => h
   have hMD := hMR _ hm5
   have hsz := blk_lt hA
   have hsz0 : W.heap.size < W5.heap.size := by omega
   have hne5 : ¬ mp = W5.heap.size := by omega
   have HBW : Hid (Below W.heap.size W W5) := hB
   clear k0 k1 d0 d1 d2 d3 d4 d5 d6 d7 hA HMP hB hZ5 hB0 hB1 HB0
   go_region_held3 (fun Z => Z.cell? ⟨cp, 1, none⟩ = some (.map (some mp)) ∧ Z.cell? ⟨W.heap.size + 1, 2, none⟩ = some (.string (bs n.name)) ∧ NamesAt Z mp V T.vars.length) (go_keep) (fail)
   all_goals
    have hb7 : Below W5.heap.size W5 ((W5.alloc (.cells #[.string (bs y0), .int .i64 y1, .int .i64 y2, .int .i64 y3, .bool true, .int .i64 y5] 93)).drew) := ((Below.refl _ _).alloc (Nat.le_refl _) _).drew
    have hv7 : ((W5.alloc (.cells #[.string (bs y0), .int .i64 y1, .int .i64 y2, .int .i64 y3, .bool true, .int .i64 y5] 93)).drew).heap[W5.heap.size]? = some (.cells #[.string (bs y0), .int .i64 y1, .int .i64 y2, .int .i64 y3, .bool true, .int .i64 y5] 93 (0, 0)) := heap_alloc_new W5 _
    generalize hW7 : (W5.alloc (.cells #[.string (bs y0), .int .i64 y1, .int .i64 y2, .int .i64 y3, .bool true, .int .i64 y5] 93)).drew = W7 at *
    clear hW7 hMA hMS hMR hMD hlk hm5
    have hBW7 : Below W.heap.size W W7 := HBW.out.trans (hb7.mono HBW.out.size)
    have HB7 : Hid (Below W.heap.size W W7) := hBW7
    have u0 := (hb7.cell (p := ⟨W.heap.size, 0, none⟩) hsz0).trans z0
    have u1 := (hb7.cell (p := ⟨W.heap.size, 1, none⟩) hsz0).trans z1
    have u2 := (hb7.cell (p := ⟨W.heap.size, 2, none⟩) hsz0).trans z2
    have u3 := (hb7.cell (p := ⟨W.heap.size, 3, none⟩) hsz0).trans z3
    have u4 := (hb7.cell (p := ⟨W.heap.size, 4, none⟩) hsz0).trans z4
    have u5 := (hb7.cell (p := ⟨W.heap.size, 5, none⟩) hsz0).trans z5
    have g0 := (hb7.frozen (p := ⟨W.heap.size, 0, none⟩) hsz0).trans f0
    have g1 := (hb7.frozen (p := ⟨W.heap.size, 1, none⟩) hsz0).trans f1
    have g2 := (hb7.frozen (p := ⟨W.heap.size, 2, none⟩) hsz0).trans f2
    have g3 := (hb7.frozen (p := ⟨W.heap.size, 3, none⟩) hsz0).trans f3
    have g4 := (hb7.frozen (p := ⟨W.heap.size, 4, none⟩) hsz0).trans f4
    have g5 := (hb7.frozen (p := ⟨W.heap.size, 5, none⟩) hsz0).trans f5
    have q7 := (hb7.cell (p := ⟨W.heap.size + 1, 0, none⟩) hsz).trans q3
    obtain ⟨v0, v1, v2, v3, v4, v5⟩ := cl6 hv7
    clear hb7 hv7 z0 z1 z2 z3 z4 z5 f0 f1 f2 f3 f4 f5 q1 q2 q3 HBW hBW7
    generalize hX : W5.heap.size = X5 at *
    clear hX hsz hsz0 hne hne1 hne5
    go_wp2_with fail
    refine bodyPost_ret (v := .tuple #[R, errV F]) (by rw [HRR.out, HFF.out]; simp [results, Tryz.results149, go_sem, errV, u0, u1, u2, u3, u4, u5]) rfl ⟨rfl, ?_⟩
    exact (((((HB7.out.setCell (Nat.le_refl _) _).setCell (Nat.le_refl _) _).setCell (Nat.le_refl _) _).setCell (Nat.le_refl _) _).setCell (Nat.le_refl _) _).setCell (Nat.le_refl _) _
  have HF3 : Hid (F = if decide (KK = 3 ∨ KK = 8) ≠ decide (0 < y3) then (1, (x : Int)) else (0, 0)) := by unfold Hid; rw [HF2.out, if_neg hown]
  clear HF2
  have hown2 : ob = false ∨ (ob = true ∧ KK = 2) := by
   cases ob with
   | false => exact .inl rfl
   | true => exact .inr ⟨rfl, Classical.byContradiction fun h => hown ⟨rfl, h⟩⟩
  clear hown
  by_cases h3 : 0 < y3
  ·have hd3 : decide (0 < y3) = true := decide_eq_true h3
   rcases hown2 with rfl | ⟨rfl, rfl⟩
   ·by_cases k3 : KK = 3
    ·subst k3
     have hrw : decide ((3 : Int) = 3 ∨ (3 : Int) = 8) = true := by decide
     have HFF : Hid (F = (0, 0)) := by unfold Hid; rw [HF3.out, hrw, hd3, if_neg (by decide)]
     have HRR : Hid (R = (.agg #[.string (bs y0), .int .i64 y1, .int .i64 y2, .int .i64 y3, .bool false, .int .i64 y5])) := by unfold Hid; rw [HR2.out, HFF.out]; rfl
     clear HF3 HR2 hrw
     go_enter Tryz.func149, Tryz.ntmps149
     go_wp2_with fail
     have hB0 := HB0.out
     have hZ := heap_alloc_new W (.cells #[.string ⟨#[]⟩, .int .i64 0, .int .i64 0, .int .i64 0, .bool false, .int .i64 0] 93)
     have hA : ((W.alloc (.cells #[.string ⟨#[]⟩, .int .i64 0, .int .i64 0, .int .i64 0, .bool false, .int .i64 0] 93)).alloc (.cells #[.int .i64 3, .int .i64 n.op, .string (bs n.name), .int .i64 n.num, .int .i64 n.far, .slice a n.kids.length c, .slice a2 l2 c2, .slice a3 l3 c3] 88)).heap[W.heap.size + 1]? = some (.cells #[.int .i64 3, .int .i64 n.op, .string (bs n.name), .int .i64 n.num, .int .i64 n.far, .slice a n.kids.length c, .slice a2 l2 c2, .slice a3 l3 c3] 88 (0, 0)) := by have h := heap_alloc_new (W.alloc (.cells #[.string ⟨#[]⟩, .int .i64 0, .int .i64 0, .int .i64 0, .bool false, .int .i64 0] 93)) (.cells #[.int .i64 3, .int .i64 n.op, .string (bs n.name), .int .i64 n.num, .int .i64 n.far, .slice a n.kids.length c, .slice a2 l2 c2, .slice a3 l3 c3] 88); rwa [World.size_alloc] at h
     have hB1 : Below (W.alloc (.cells #[.string ⟨#[]⟩, .int .i64 0, .int .i64 0, .int .i64 0, .bool false, .int .i64 0] 93)).heap.size (W.alloc (.cells #[.string ⟨#[]⟩, .int .i64 0, .int .i64 0, .int .i64 0, .bool false, .int .i64 0] 93)) ((W.alloc (.cells #[.string ⟨#[]⟩, .int .i64 0, .int .i64 0, .int .i64 0, .bool false, .int .i64 0] 93)).alloc (.cells #[.int .i64 3, .int .i64 n.op, .string (bs n.name), .int .i64 n.num, .int .i64 n.far, .slice a n.kids.length c, .slice a2 l2 c2, .slice a3 l3 c3] 88)) := (Below.refl _ _).alloc (Nat.le_refl _) _
     have hB := hB0.trans (hB1.mono hB0.size)
     have hZ5 := (hB1.block W.heap.size (by simp)).trans hZ
     generalize hW5 : (W.alloc (.cells #[.string ⟨#[]⟩, .int .i64 0, .int .i64 0, .int .i64 0, .bool false, .int .i64 0] 93)).alloc (.cells #[.int .i64 3, .int .i64 n.op, .string (bs n.name), .int .i64 n.num, .int .i64 n.far, .slice a n.kids.length c, .slice a2 l2 c2, .slice a3 l3 c3] 88) = W5 at *
     clear hW5 hZ
     have q1 : W5.cell? ⟨cp, 1, none⟩ = some (.map (some mp)) := (hB1.cell (p := ⟨cp, 1, none⟩) (Nat.lt_of_lt_of_le hkl hB0.size)).trans k1
     obtain ⟨q3, -, q2⟩ := cl3 hA
     obtain ⟨z0, z1, z2, z3, z4, z5⟩ := cl6 hZ5
     obtain ⟨f0, f1, f2, f3, f4, f5⟩ := fl6 hZ5
     have hm5 : NamesAt W5 mp V T.vars.length := ownsMap_block HMP.out (hB.block _ hml)
     have hMA : ∀ (Z : World) (o : Obj), NamesAt Z mp V T.vars.length → NamesAt (Z.alloc o) mp V T.vars.length := fun Z o h => h.alloc o
     have hMS : ∀ (Z : World) (q : Addr) (u : Value), ¬ mp = q.block → NamesAt Z mp V T.vars.length → NamesAt (Z.setCell q u) mp V T.vars.length := fun Z q u hq h => h.setCell hq u
     have hMR : ∀ (Z : World), NamesAt Z mp V T.vars.length → NamesAt Z.drew mp V T.vars.length := fun Z h => h
     have hMD := hMR _ hm5
     have hsz := blk_lt hA
     have hsz0 : W.heap.size < W5.heap.size := by omega
     have hne5 : ¬ mp = W5.heap.size := by omega
     have HBW : Hid (Below W.heap.size W W5) := hB
     clear k0 k1 d0 d1 d2 d3 d4 d5 d6 d7 hA HMP hB hZ5 hB0 hB1 HB0
     go_region_held3 (fun Z => Z.cell? ⟨cp, 1, none⟩ = some (.map (some mp)) ∧ Z.cell? ⟨W.heap.size + 1, 2, none⟩ = some (.string (bs n.name)) ∧ NamesAt Z mp V T.vars.length) (go_keep) (fail)
     all_goals
      have hb7 : Below W5.heap.size W5 ((W5.alloc (.cells #[.string (bs y0), .int .i64 y1, .int .i64 y2, .int .i64 y3, .bool false, .int .i64 y5] 93)).drew) := ((Below.refl _ _).alloc (Nat.le_refl _) _).drew
      have hv7 : ((W5.alloc (.cells #[.string (bs y0), .int .i64 y1, .int .i64 y2, .int .i64 y3, .bool false, .int .i64 y5] 93)).drew).heap[W5.heap.size]? = some (.cells #[.string (bs y0), .int .i64 y1, .int .i64 y2, .int .i64 y3, .bool false, .int .i64 y5] 93 (0, 0)) := heap_alloc_new W5 _
      generalize hW7 : (W5.alloc (.cells #[.string (bs y0), .int .i64 y1, .int .i64 y2, .int .i64 y3, .bool false, .int .i64 y5] 93)).drew = W7 at *
      clear hW7 hMA hMS hMR hMD hlk hm5
      have hBW7 : Below W.heap.size W W7 := HBW.out.trans (hb7.mono HBW.out.size)
      have HB7 : Hid (Below W.heap.size W W7) := hBW7
      have u0 := (hb7.cell (p := ⟨W.heap.size, 0, none⟩) hsz0).trans z0
      have u1 := (hb7.cell (p := ⟨W.heap.size, 1, none⟩) hsz0).trans z1
      have u2 := (hb7.cell (p := ⟨W.heap.size, 2, none⟩) hsz0).trans z2
      have u3 := (hb7.cell (p := ⟨W.heap.size, 3, none⟩) hsz0).trans z3
      have u4 := (hb7.cell (p := ⟨W.heap.size, 4, none⟩) hsz0).trans z4
      have u5 := (hb7.cell (p := ⟨W.heap.size, 5, none⟩) hsz0).trans z5
      have g0 := (hb7.frozen (p := ⟨W.heap.size, 0, none⟩) hsz0).trans f0
      have g1 := (hb7.frozen (p := ⟨W.heap.size, 1, none⟩) hsz0).trans f1
      have g2 := (hb7.frozen (p := ⟨W.heap.size, 2, none⟩) hsz0).trans f2
      have g3 := (hb7.frozen (p := ⟨W.heap.size, 3, none⟩) hsz0).trans f3
      have g4 := (hb7.frozen (p := ⟨W.heap.size, 4, none⟩) hsz0).trans f4
      have g5 := (hb7.frozen (p := ⟨W.heap.size, 5, none⟩) hsz0).trans f5
      have q7 := (hb7.cell (p := ⟨W.heap.size + 1, 0, none⟩) hsz).trans q3
      obtain ⟨v0, v1, v2, v3, v4, v5⟩ := cl6 hv7
      clear hb7 hv7 z0 z1 z2 z3 z4 z5 f0 f1 f2 f3 f4 f5 q1 q2 q3 HBW hBW7
      generalize hX : W5.heap.size = X5 at *
      clear hX hsz hsz0 hne hne1 hne5
      go_wp2_with fail
      refine bodyPost_ret (v := .tuple #[R, errV F]) (by rw [HRR.out, HFF.out]; simp [results, Tryz.results149, go_sem, errV, u0, u1, u2, u3, u4, u5]) rfl ⟨rfl, ?_⟩
      exact (((((HB7.out.setCell (Nat.le_refl _) _).setCell (Nat.le_refl _) _).setCell (Nat.le_refl _) _).setCell (Nat.le_refl _) _).setCell (Nat.le_refl _) _).setCell (Nat.le_refl _) _
    by_cases k8 : KK = 8
    ·subst k8
     have hrw : decide ((8 : Int) = 3 ∨ (8 : Int) = 8) = true := by decide
     have HFF : Hid (F = (0, 0)) := by unfold Hid; rw [HF3.out, hrw, hd3, if_neg (by decide)]
     have HRR : Hid (R = (.agg #[.string (bs y0), .int .i64 y1, .int .i64 y2, .int .i64 y3, .bool false, .int .i64 y5])) := by unfold Hid; rw [HR2.out, HFF.out]; rfl
     clear HF3 HR2 hrw
     go_enter Tryz.func149, Tryz.ntmps149
     go_wp2_with fail
     have hB0 := HB0.out
     have hZ := heap_alloc_new W (.cells #[.string ⟨#[]⟩, .int .i64 0, .int .i64 0, .int .i64 0, .bool false, .int .i64 0] 93)
     have hA : ((W.alloc (.cells #[.string ⟨#[]⟩, .int .i64 0, .int .i64 0, .int .i64 0, .bool false, .int .i64 0] 93)).alloc (.cells #[.int .i64 8, .int .i64 n.op, .string (bs n.name), .int .i64 n.num, .int .i64 n.far, .slice a n.kids.length c, .slice a2 l2 c2, .slice a3 l3 c3] 88)).heap[W.heap.size + 1]? = some (.cells #[.int .i64 8, .int .i64 n.op, .string (bs n.name), .int .i64 n.num, .int .i64 n.far, .slice a n.kids.length c, .slice a2 l2 c2, .slice a3 l3 c3] 88 (0, 0)) := by have h := heap_alloc_new (W.alloc (.cells #[.string ⟨#[]⟩, .int .i64 0, .int .i64 0, .int .i64 0, .bool false, .int .i64 0] 93)) (.cells #[.int .i64 8, .int .i64 n.op, .string (bs n.name), .int .i64 n.num, .int .i64 n.far, .slice a n.kids.length c, .slice a2 l2 c2, .slice a3 l3 c3] 88); rwa [World.size_alloc] at h
     have hB1 : Below (W.alloc (.cells #[.string ⟨#[]⟩, .int .i64 0, .int .i64 0, .int .i64 0, .bool false, .int .i64 0] 93)).heap.size (W.alloc (.cells #[.string ⟨#[]⟩, .int .i64 0, .int .i64 0, .int .i64 0, .bool false, .int .i64 0] 93)) ((W.alloc (.cells #[.string ⟨#[]⟩, .int .i64 0, .int .i64 0, .int .i64 0, .bool false, .int .i64 0] 93)).alloc (.cells #[.int .i64 8, .int .i64 n.op, .string (bs n.name), .int .i64 n.num, .int .i64 n.far, .slice a n.kids.length c, .slice a2 l2 c2, .slice a3 l3 c3] 88)) := (Below.refl _ _).alloc (Nat.le_refl _) _
     have hB := hB0.trans (hB1.mono hB0.size)
     have hZ5 := (hB1.block W.heap.size (by simp)).trans hZ
     generalize hW5 : (W.alloc (.cells #[.string ⟨#[]⟩, .int .i64 0, .int .i64 0, .int .i64 0, .bool false, .int .i64 0] 93)).alloc (.cells #[.int .i64 8, .int .i64 n.op, .string (bs n.name), .int .i64 n.num, .int .i64 n.far, .slice a n.kids.length c, .slice a2 l2 c2, .slice a3 l3 c3] 88) = W5 at *
     clear hW5 hZ
     have q1 : W5.cell? ⟨cp, 1, none⟩ = some (.map (some mp)) := (hB1.cell (p := ⟨cp, 1, none⟩) (Nat.lt_of_lt_of_le hkl hB0.size)).trans k1
     obtain ⟨q3, -, q2⟩ := cl3 hA
     obtain ⟨z0, z1, z2, z3, z4, z5⟩ := cl6 hZ5
     obtain ⟨f0, f1, f2, f3, f4, f5⟩ := fl6 hZ5
     have hm5 : NamesAt W5 mp V T.vars.length := ownsMap_block HMP.out (hB.block _ hml)
     have hMA : ∀ (Z : World) (o : Obj), NamesAt Z mp V T.vars.length → NamesAt (Z.alloc o) mp V T.vars.length := fun Z o h => h.alloc o
     have hMS : ∀ (Z : World) (q : Addr) (u : Value), ¬ mp = q.block → NamesAt Z mp V T.vars.length → NamesAt (Z.setCell q u) mp V T.vars.length := fun Z q u hq h => h.setCell hq u
     have hMR : ∀ (Z : World), NamesAt Z mp V T.vars.length → NamesAt Z.drew mp V T.vars.length := fun Z h => h
     have hMD := hMR _ hm5
     have hsz := blk_lt hA
     have hsz0 : W.heap.size < W5.heap.size := by omega
     have hne5 : ¬ mp = W5.heap.size := by omega
     have HBW : Hid (Below W.heap.size W W5) := hB
     clear k0 k1 d0 d1 d2 d3 d4 d5 d6 d7 hA HMP hB hZ5 hB0 hB1 HB0
     go_region_held3 (fun Z => Z.cell? ⟨cp, 1, none⟩ = some (.map (some mp)) ∧ Z.cell? ⟨W.heap.size + 1, 2, none⟩ = some (.string (bs n.name)) ∧ NamesAt Z mp V T.vars.length) (go_keep) (fail)
     all_goals
      have hb7 : Below W5.heap.size W5 ((W5.alloc (.cells #[.string (bs y0), .int .i64 y1, .int .i64 y2, .int .i64 y3, .bool false, .int .i64 y5] 93)).drew) := ((Below.refl _ _).alloc (Nat.le_refl _) _).drew
      have hv7 : ((W5.alloc (.cells #[.string (bs y0), .int .i64 y1, .int .i64 y2, .int .i64 y3, .bool false, .int .i64 y5] 93)).drew).heap[W5.heap.size]? = some (.cells #[.string (bs y0), .int .i64 y1, .int .i64 y2, .int .i64 y3, .bool false, .int .i64 y5] 93 (0, 0)) := heap_alloc_new W5 _
      generalize hW7 : (W5.alloc (.cells #[.string (bs y0), .int .i64 y1, .int .i64 y2, .int .i64 y3, .bool false, .int .i64 y5] 93)).drew = W7 at *
      clear hW7 hMA hMS hMR hMD hlk hm5
      have hBW7 : Below W.heap.size W W7 := HBW.out.trans (hb7.mono HBW.out.size)
      have HB7 : Hid (Below W.heap.size W W7) := hBW7
      have u0 := (hb7.cell (p := ⟨W.heap.size, 0, none⟩) hsz0).trans z0
      have u1 := (hb7.cell (p := ⟨W.heap.size, 1, none⟩) hsz0).trans z1
      have u2 := (hb7.cell (p := ⟨W.heap.size, 2, none⟩) hsz0).trans z2
      have u3 := (hb7.cell (p := ⟨W.heap.size, 3, none⟩) hsz0).trans z3
      have u4 := (hb7.cell (p := ⟨W.heap.size, 4, none⟩) hsz0).trans z4
      have u5 := (hb7.cell (p := ⟨W.heap.size, 5, none⟩) hsz0).trans z5
      have g0 := (hb7.frozen (p := ⟨W.heap.size, 0, none⟩) hsz0).trans f0
      have g1 := (hb7.frozen (p := ⟨W.heap.size, 1, none⟩) hsz0).trans f1
      have g2 := (hb7.frozen (p := ⟨W.heap.size, 2, none⟩) hsz0).trans f2
      have g3 := (hb7.frozen (p := ⟨W.heap.size, 3, none⟩) hsz0).trans f3
      have g4 := (hb7.frozen (p := ⟨W.heap.size, 4, none⟩) hsz0).trans f4
      have g5 := (hb7.frozen (p := ⟨W.heap.size, 5, none⟩) hsz0).trans f5
      have q7 := (hb7.cell (p := ⟨W.heap.size + 1, 0, none⟩) hsz).trans q3
      obtain ⟨v0, v1, v2, v3, v4, v5⟩ := cl6 hv7
      clear hb7 hv7 z0 z1 z2 z3 z4 z5 f0 f1 f2 f3 f4 f5 q1 q2 q3 HBW hBW7
      generalize hX : W5.heap.size = X5 at *
      clear hX hsz hsz0 hne hne1 hne5
      go_wp2_with fail
      refine bodyPost_ret (v := .tuple #[R, errV F]) (by rw [HRR.out, HFF.out]; simp [results, Tryz.results149, go_sem, errV, u0, u1, u2, u3, u4, u5]) rfl ⟨rfl, ?_⟩
      exact (((((HB7.out.setCell (Nat.le_refl _) _).setCell (Nat.le_refl _) _).setCell (Nat.le_refl _) _).setCell (Nat.le_refl _) _).setCell (Nat.le_refl _) _).setCell (Nat.le_refl _) _
    have e3 : (KK == 3) = false := by simpa using k3
    have e8 : (KK == 8) = false := by simpa using k8
    have hrw : decide (KK = 3 ∨ KK = 8) = false := decide_eq_false (by omega)
    have HFF : Hid (F = (1, (x : Int))) := by unfold Hid; rw [HF3.out, hrw, hd3, if_pos (by decide)]
    have HRR : Hid (R = (.agg #[.string ⟨#[]⟩, .int .i64 0, .int .i64 0, .int .i64 0, .bool false, .int .i64 0])) := by unfold Hid; rw [HR2.out, HFF.out]; rfl
    clear HF3 HR2 hrw
    clear k3 k8
    go_enter Tryz.func149, Tryz.ntmps149
    go_wp2_with fail
    have hB0 := HB0.out
    have hZ := heap_alloc_new W (.cells #[.string ⟨#[]⟩, .int .i64 0, .int .i64 0, .int .i64 0, .bool false, .int .i64 0] 93)
    have hA : ((W.alloc (.cells #[.string ⟨#[]⟩, .int .i64 0, .int .i64 0, .int .i64 0, .bool false, .int .i64 0] 93)).alloc (.cells #[.int .i64 KK, .int .i64 n.op, .string (bs n.name), .int .i64 n.num, .int .i64 n.far, .slice a n.kids.length c, .slice a2 l2 c2, .slice a3 l3 c3] 88)).heap[W.heap.size + 1]? = some (.cells #[.int .i64 KK, .int .i64 n.op, .string (bs n.name), .int .i64 n.num, .int .i64 n.far, .slice a n.kids.length c, .slice a2 l2 c2, .slice a3 l3 c3] 88 (0, 0)) := by have h := heap_alloc_new (W.alloc (.cells #[.string ⟨#[]⟩, .int .i64 0, .int .i64 0, .int .i64 0, .bool false, .int .i64 0] 93)) (.cells #[.int .i64 KK, .int .i64 n.op, .string (bs n.name), .int .i64 n.num, .int .i64 n.far, .slice a n.kids.length c, .slice a2 l2 c2, .slice a3 l3 c3] 88); rwa [World.size_alloc] at h
    have hB1 : Below (W.alloc (.cells #[.string ⟨#[]⟩, .int .i64 0, .int .i64 0, .int .i64 0, .bool false, .int .i64 0] 93)).heap.size (W.alloc (.cells #[.string ⟨#[]⟩, .int .i64 0, .int .i64 0, .int .i64 0, .bool false, .int .i64 0] 93)) ((W.alloc (.cells #[.string ⟨#[]⟩, .int .i64 0, .int .i64 0, .int .i64 0, .bool false, .int .i64 0] 93)).alloc (.cells #[.int .i64 KK, .int .i64 n.op, .string (bs n.name), .int .i64 n.num, .int .i64 n.far, .slice a n.kids.length c, .slice a2 l2 c2, .slice a3 l3 c3] 88)) := (Below.refl _ _).alloc (Nat.le_refl _) _
    have hB := hB0.trans (hB1.mono hB0.size)
    have hZ5 := (hB1.block W.heap.size (by simp)).trans hZ
    generalize hW5 : (W.alloc (.cells #[.string ⟨#[]⟩, .int .i64 0, .int .i64 0, .int .i64 0, .bool false, .int .i64 0] 93)).alloc (.cells #[.int .i64 KK, .int .i64 n.op, .string (bs n.name), .int .i64 n.num, .int .i64 n.far, .slice a n.kids.length c, .slice a2 l2 c2, .slice a3 l3 c3] 88) = W5 at *
    clear hW5 hZ
    have q1 : W5.cell? ⟨cp, 1, none⟩ = some (.map (some mp)) := (hB1.cell (p := ⟨cp, 1, none⟩) (Nat.lt_of_lt_of_le hkl hB0.size)).trans k1
    obtain ⟨q3, -, q2⟩ := cl3 hA
    obtain ⟨z0, z1, z2, z3, z4, z5⟩ := cl6 hZ5
    obtain ⟨f0, f1, f2, f3, f4, f5⟩ := fl6 hZ5
    have hm5 : NamesAt W5 mp V T.vars.length := ownsMap_block HMP.out (hB.block _ hml)
    have hMA : ∀ (Z : World) (o : Obj), NamesAt Z mp V T.vars.length → NamesAt (Z.alloc o) mp V T.vars.length := fun Z o h => h.alloc o
    have hMS : ∀ (Z : World) (q : Addr) (u : Value), ¬ mp = q.block → NamesAt Z mp V T.vars.length → NamesAt (Z.setCell q u) mp V T.vars.length := fun Z q u hq h => h.setCell hq u
    have hMR : ∀ (Z : World), NamesAt Z mp V T.vars.length → NamesAt Z.drew mp V T.vars.length := fun Z h => h
    have hMD := hMR _ hm5
    have hsz := blk_lt hA
    have hsz0 : W.heap.size < W5.heap.size := by omega
    have hne5 : ¬ mp = W5.heap.size := by omega
    have HBW : Hid (Below W.heap.size W W5) := hB
    clear k0 k1 d0 d1 d2 d3 d4 d5 d6 d7 hA HMP hB hZ5 hB0 hB1 HB0
    go_region_held3 (fun Z => Z.cell? ⟨cp, 1, none⟩ = some (.map (some mp)) ∧ Z.cell? ⟨W.heap.size + 1, 2, none⟩ = some (.string (bs n.name)) ∧ NamesAt Z mp V T.vars.length) (go_keep) (fail)
    all_goals
     have hb7 : Below W5.heap.size W5 ((W5.alloc (.cells #[.string (bs y0), .int .i64 y1, .int .i64 y2, .int .i64 y3, .bool false, .int .i64 y5] 93)).drew) := ((Below.refl _ _).alloc (Nat.le_refl _) _).drew
     have hv7 : ((W5.alloc (.cells #[.string (bs y0), .int .i64 y1, .int .i64 y2, .int .i64 y3, .bool false, .int .i64 y5] 93)).drew).heap[W5.heap.size]? = some (.cells #[.string (bs y0), .int .i64 y1, .int .i64 y2, .int .i64 y3, .bool false, .int .i64 y5] 93 (0, 0)) := heap_alloc_new W5 _
     generalize hW7 : (W5.alloc (.cells #[.string (bs y0), .int .i64 y1, .int .i64 y2, .int .i64 y3, .bool false, .int .i64 y5] 93)).drew = W7 at *
     clear hW7 hMA hMS hMR hMD hlk hm5
     have hBW7 : Below W.heap.size W W7 := HBW.out.trans (hb7.mono HBW.out.size)
     have HB7 : Hid (Below W.heap.size W W7) := hBW7
     have u0 := (hb7.cell (p := ⟨W.heap.size, 0, none⟩) hsz0).trans z0
     have u1 := (hb7.cell (p := ⟨W.heap.size, 1, none⟩) hsz0).trans z1
     have u2 := (hb7.cell (p := ⟨W.heap.size, 2, none⟩) hsz0).trans z2
     have u3 := (hb7.cell (p := ⟨W.heap.size, 3, none⟩) hsz0).trans z3
     have u4 := (hb7.cell (p := ⟨W.heap.size, 4, none⟩) hsz0).trans z4
     have u5 := (hb7.cell (p := ⟨W.heap.size, 5, none⟩) hsz0).trans z5
     have g0 := (hb7.frozen (p := ⟨W.heap.size, 0, none⟩) hsz0).trans f0
     have g1 := (hb7.frozen (p := ⟨W.heap.size, 1, none⟩) hsz0).trans f1
     have g2 := (hb7.frozen (p := ⟨W.heap.size, 2, none⟩) hsz0).trans f2
     have g3 := (hb7.frozen (p := ⟨W.heap.size, 3, none⟩) hsz0).trans f3
     have g4 := (hb7.frozen (p := ⟨W.heap.size, 4, none⟩) hsz0).trans f4
     have g5 := (hb7.frozen (p := ⟨W.heap.size, 5, none⟩) hsz0).trans f5
     have q7 := (hb7.cell (p := ⟨W.heap.size + 1, 0, none⟩) hsz).trans q3
     obtain ⟨v0, v1, v2, v3, v4, v5⟩ := cl6 hv7
     clear hb7 hv7 z0 z1 z2 z3 z4 z5 f0 f1 f2 f3 f4 f5 q1 q2 q3 HBW hBW7
     generalize hX : W5.heap.size = X5 at *
     clear hX hsz hsz0 hne hne1 hne5
     go_wp2_with fail
     refine bodyPost_ret (v := .tuple #[R, errV F]) (by rw [HRR.out, HFF.out]; simp [results, Tryz.results149, go_sem, errV, u0, u1, u2, u3, u4, u5]) rfl ⟨rfl, ?_⟩
     exact (((((HB7.out.setCell (Nat.le_refl _) _).setCell (Nat.le_refl _) _).setCell (Nat.le_refl _) _).setCell (Nat.le_refl _) _).setCell (Nat.le_refl _) _).setCell (Nat.le_refl _) _
   ·have hrw : decide ((2 : Int) = 3 ∨ (2 : Int) = 8) = false := by decide
    have HFF : Hid (F = (1, (x : Int))) := by unfold Hid; rw [HF3.out, hrw, hd3, if_pos (by decide)]
    have HRR : Hid (R = (.agg #[.string ⟨#[]⟩, .int .i64 0, .int .i64 0, .int .i64 0, .bool false, .int .i64 0])) := by unfold Hid; rw [HR2.out, HFF.out]; rfl
    clear HF3 HR2 hrw
    go_enter Tryz.func149, Tryz.ntmps149
    go_wp2_with fail
    have hB0 := HB0.out
    have hZ := heap_alloc_new W (.cells #[.string ⟨#[]⟩, .int .i64 0, .int .i64 0, .int .i64 0, .bool false, .int .i64 0] 93)
    have hA : ((W.alloc (.cells #[.string ⟨#[]⟩, .int .i64 0, .int .i64 0, .int .i64 0, .bool false, .int .i64 0] 93)).alloc (.cells #[.int .i64 2, .int .i64 n.op, .string (bs n.name), .int .i64 n.num, .int .i64 n.far, .slice a n.kids.length c, .slice a2 l2 c2, .slice a3 l3 c3] 88)).heap[W.heap.size + 1]? = some (.cells #[.int .i64 2, .int .i64 n.op, .string (bs n.name), .int .i64 n.num, .int .i64 n.far, .slice a n.kids.length c, .slice a2 l2 c2, .slice a3 l3 c3] 88 (0, 0)) := by have h := heap_alloc_new (W.alloc (.cells #[.string ⟨#[]⟩, .int .i64 0, .int .i64 0, .int .i64 0, .bool false, .int .i64 0] 93)) (.cells #[.int .i64 2, .int .i64 n.op, .string (bs n.name), .int .i64 n.num, .int .i64 n.far, .slice a n.kids.length c, .slice a2 l2 c2, .slice a3 l3 c3] 88); rwa [World.size_alloc] at h
    have hB1 : Below (W.alloc (.cells #[.string ⟨#[]⟩, .int .i64 0, .int .i64 0, .int .i64 0, .bool false, .int .i64 0] 93)).heap.size (W.alloc (.cells #[.string ⟨#[]⟩, .int .i64 0, .int .i64 0, .int .i64 0, .bool false, .int .i64 0] 93)) ((W.alloc (.cells #[.string ⟨#[]⟩, .int .i64 0, .int .i64 0, .int .i64 0, .bool false, .int .i64 0] 93)).alloc (.cells #[.int .i64 2, .int .i64 n.op, .string (bs n.name), .int .i64 n.num, .int .i64 n.far, .slice a n.kids.length c, .slice a2 l2 c2, .slice a3 l3 c3] 88)) := (Below.refl _ _).alloc (Nat.le_refl _) _
    have hB := hB0.trans (hB1.mono hB0.size)
    have hZ5 := (hB1.block W.heap.size (by simp)).trans hZ
    generalize hW5 : (W.alloc (.cells #[.string ⟨#[]⟩, .int .i64 0, .int .i64 0, .int .i64 0, .bool false, .int .i64 0] 93)).alloc (.cells #[.int .i64 2, .int .i64 n.op, .string (bs n.name), .int .i64 n.num, .int .i64 n.far, .slice a n.kids.length c, .slice a2 l2 c2, .slice a3 l3 c3] 88) = W5 at *
    clear hW5 hZ
    have q1 : W5.cell? ⟨cp, 1, none⟩ = some (.map (some mp)) := (hB1.cell (p := ⟨cp, 1, none⟩) (Nat.lt_of_lt_of_le hkl hB0.size)).trans k1
    obtain ⟨q3, -, q2⟩ := cl3 hA
    obtain ⟨z0, z1, z2, z3, z4, z5⟩ := cl6 hZ5
    obtain ⟨f0, f1, f2, f3, f4, f5⟩ := fl6 hZ5
    have hm5 : NamesAt W5 mp V T.vars.length := ownsMap_block HMP.out (hB.block _ hml)
    have hMA : ∀ (Z : World) (o : Obj), NamesAt Z mp V T.vars.length → NamesAt (Z.alloc o) mp V T.vars.length := fun Z o h => h.alloc o
    have hMS : ∀ (Z : World) (q : Addr) (u : Value), ¬ mp = q.block → NamesAt Z mp V T.vars.length → NamesAt (Z.setCell q u) mp V T.vars.length := fun Z q u hq h => h.setCell hq u
    have hMR : ∀ (Z : World), NamesAt Z mp V T.vars.length → NamesAt Z.drew mp V T.vars.length := fun Z h => h
    have hMD := hMR _ hm5
    have hsz := blk_lt hA
    have hsz0 : W.heap.size < W5.heap.size := by omega
    have hne5 : ¬ mp = W5.heap.size := by omega
    have HBW : Hid (Below W.heap.size W W5) := hB
    clear k0 k1 d0 d1 d2 d3 d4 d5 d6 d7 hA HMP hB hZ5 hB0 hB1 HB0
    go_region_held3 (fun Z => Z.cell? ⟨cp, 1, none⟩ = some (.map (some mp)) ∧ Z.cell? ⟨W.heap.size + 1, 2, none⟩ = some (.string (bs n.name)) ∧ NamesAt Z mp V T.vars.length) (go_keep) (fail)
    all_goals
     have hb7 : Below W5.heap.size W5 ((W5.alloc (.cells #[.string (bs y0), .int .i64 y1, .int .i64 y2, .int .i64 y3, .bool true, .int .i64 y5] 93)).drew) := ((Below.refl _ _).alloc (Nat.le_refl _) _).drew
     have hv7 : ((W5.alloc (.cells #[.string (bs y0), .int .i64 y1, .int .i64 y2, .int .i64 y3, .bool true, .int .i64 y5] 93)).drew).heap[W5.heap.size]? = some (.cells #[.string (bs y0), .int .i64 y1, .int .i64 y2, .int .i64 y3, .bool true, .int .i64 y5] 93 (0, 0)) := heap_alloc_new W5 _
     generalize hW7 : (W5.alloc (.cells #[.string (bs y0), .int .i64 y1, .int .i64 y2, .int .i64 y3, .bool true, .int .i64 y5] 93)).drew = W7 at *
     clear hW7 hMA hMS hMR hMD hlk hm5
     have hBW7 : Below W.heap.size W W7 := HBW.out.trans (hb7.mono HBW.out.size)
     have HB7 : Hid (Below W.heap.size W W7) := hBW7
     have u0 := (hb7.cell (p := ⟨W.heap.size, 0, none⟩) hsz0).trans z0
     have u1 := (hb7.cell (p := ⟨W.heap.size, 1, none⟩) hsz0).trans z1
     have u2 := (hb7.cell (p := ⟨W.heap.size, 2, none⟩) hsz0).trans z2
     have u3 := (hb7.cell (p := ⟨W.heap.size, 3, none⟩) hsz0).trans z3
     have u4 := (hb7.cell (p := ⟨W.heap.size, 4, none⟩) hsz0).trans z4
     have u5 := (hb7.cell (p := ⟨W.heap.size, 5, none⟩) hsz0).trans z5
     have g0 := (hb7.frozen (p := ⟨W.heap.size, 0, none⟩) hsz0).trans f0
     have g1 := (hb7.frozen (p := ⟨W.heap.size, 1, none⟩) hsz0).trans f1
     have g2 := (hb7.frozen (p := ⟨W.heap.size, 2, none⟩) hsz0).trans f2
     have g3 := (hb7.frozen (p := ⟨W.heap.size, 3, none⟩) hsz0).trans f3
     have g4 := (hb7.frozen (p := ⟨W.heap.size, 4, none⟩) hsz0).trans f4
     have g5 := (hb7.frozen (p := ⟨W.heap.size, 5, none⟩) hsz0).trans f5
     have q7 := (hb7.cell (p := ⟨W.heap.size + 1, 0, none⟩) hsz).trans q3
     obtain ⟨v0, v1, v2, v3, v4, v5⟩ := cl6 hv7
     clear hb7 hv7 z0 z1 z2 z3 z4 z5 f0 f1 f2 f3 f4 f5 q1 q2 q3 HBW hBW7
     generalize hX : W5.heap.size = X5 at *
     clear hX hsz hsz0 hne hne1 hne5
     go_wp2_with fail
     refine bodyPost_ret (v := .tuple #[R, errV F]) (by rw [HRR.out, HFF.out]; simp [results, Tryz.results149, go_sem, errV, u0, u1, u2, u3, u4, u5]) rfl ⟨rfl, ?_⟩
     exact (((((HB7.out.setCell (Nat.le_refl _) _).setCell (Nat.le_refl _) _).setCell (Nat.le_refl _) _).setCell (Nat.le_refl _) _).setCell (Nat.le_refl _) _).setCell (Nat.le_refl _) _
  have hd3 : decide (0 < y3) = false := decide_eq_false h3
  rcases hown2 with rfl | ⟨rfl, rfl⟩
  ·by_cases k3 : KK = 3
   ·subst k3
    have hrw : decide ((3 : Int) = 3 ∨ (3 : Int) = 8) = true := by decide
    have HFF : Hid (F = (1, (x : Int))) := by unfold Hid; rw [HF3.out, hrw, hd3, if_pos (by decide)]
    have HRR : Hid (R = (.agg #[.string ⟨#[]⟩, .int .i64 0, .int .i64 0, .int .i64 0, .bool false, .int .i64 0])) := by unfold Hid; rw [HR2.out, HFF.out]; rfl
    clear HF3 HR2 hrw
    go_enter Tryz.func149, Tryz.ntmps149
    go_wp2_with fail
    have hB0 := HB0.out
    have hZ := heap_alloc_new W (.cells #[.string ⟨#[]⟩, .int .i64 0, .int .i64 0, .int .i64 0, .bool false, .int .i64 0] 93)
    have hA : ((W.alloc (.cells #[.string ⟨#[]⟩, .int .i64 0, .int .i64 0, .int .i64 0, .bool false, .int .i64 0] 93)).alloc (.cells #[.int .i64 3, .int .i64 n.op, .string (bs n.name), .int .i64 n.num, .int .i64 n.far, .slice a n.kids.length c, .slice a2 l2 c2, .slice a3 l3 c3] 88)).heap[W.heap.size + 1]? = some (.cells #[.int .i64 3, .int .i64 n.op, .string (bs n.name), .int .i64 n.num, .int .i64 n.far, .slice a n.kids.length c, .slice a2 l2 c2, .slice a3 l3 c3] 88 (0, 0)) := by have h := heap_alloc_new (W.alloc (.cells #[.string ⟨#[]⟩, .int .i64 0, .int .i64 0, .int .i64 0, .bool false, .int .i64 0] 93)) (.cells #[.int .i64 3, .int .i64 n.op, .string (bs n.name), .int .i64 n.num, .int .i64 n.far, .slice a n.kids.length c, .slice a2 l2 c2, .slice a3 l3 c3] 88); rwa [World.size_alloc] at h
    have hB1 : Below (W.alloc (.cells #[.string ⟨#[]⟩, .int .i64 0, .int .i64 0, .int .i64 0, .bool false, .int .i64 0] 93)).heap.size (W.alloc (.cells #[.string ⟨#[]⟩, .int .i64 0, .int .i64 0, .int .i64 0, .bool false, .int .i64 0] 93)) ((W.alloc (.cells #[.string ⟨#[]⟩, .int .i64 0, .int .i64 0, .int .i64 0, .bool false, .int .i64 0] 93)).alloc (.cells #[.int .i64 3, .int .i64 n.op, .string (bs n.name), .int .i64 n.num, .int .i64 n.far, .slice a n.kids.length c, .slice a2 l2 c2, .slice a3 l3 c3] 88)) := (Below.refl _ _).alloc (Nat.le_refl _) _
    have hB := hB0.trans (hB1.mono hB0.size)
    have hZ5 := (hB1.block W.heap.size (by simp)).trans hZ
    generalize hW5 : (W.alloc (.cells #[.string ⟨#[]⟩, .int .i64 0, .int .i64 0, .int .i64 0, .bool false, .int .i64 0] 93)).alloc (.cells #[.int .i64 3, .int .i64 n.op, .string (bs n.name), .int .i64 n.num, .int .i64 n.far, .slice a n.kids.length c, .slice a2 l2 c2, .slice a3 l3 c3] 88) = W5 at *
    clear hW5 hZ
    have q1 : W5.cell? ⟨cp, 1, none⟩ = some (.map (some mp)) := (hB1.cell (p := ⟨cp, 1, none⟩) (Nat.lt_of_lt_of_le hkl hB0.size)).trans k1
    obtain ⟨q3, -, q2⟩ := cl3 hA
    obtain ⟨z0, z1, z2, z3, z4, z5⟩ := cl6 hZ5
    obtain ⟨f0, f1, f2, f3, f4, f5⟩ := fl6 hZ5
    have hm5 : NamesAt W5 mp V T.vars.length := ownsMap_block HMP.out (hB.block _ hml)
    have hMA : ∀ (Z : World) (o : Obj), NamesAt Z mp V T.vars.length → NamesAt (Z.alloc o) mp V T.vars.length := fun Z o h => h.alloc o
    have hMS : ∀ (Z : World) (q : Addr) (u : Value), ¬ mp = q.block → NamesAt Z mp V T.vars.length → NamesAt (Z.setCell q u) mp V T.vars.length := fun Z q u hq h => h.setCell hq u
    have hMR : ∀ (Z : World), NamesAt Z mp V T.vars.length → NamesAt Z.drew mp V T.vars.length := fun Z h => h
    have hMD := hMR _ hm5
    have hsz := blk_lt hA
    have hsz0 : W.heap.size < W5.heap.size := by omega
    have hne5 : ¬ mp = W5.heap.size := by omega
    have HBW : Hid (Below W.heap.size W W5) := hB
    clear k0 k1 d0 d1 d2 d3 d4 d5 d6 d7 hA HMP hB hZ5 hB0 hB1 HB0
    go_region_held3 (fun Z => Z.cell? ⟨cp, 1, none⟩ = some (.map (some mp)) ∧ Z.cell? ⟨W.heap.size + 1, 2, none⟩ = some (.string (bs n.name)) ∧ NamesAt Z mp V T.vars.length) (go_keep) (fail)
    all_goals
     have hb7 : Below W5.heap.size W5 ((W5.alloc (.cells #[.string (bs y0), .int .i64 y1, .int .i64 y2, .int .i64 y3, .bool false, .int .i64 y5] 93)).drew) := ((Below.refl _ _).alloc (Nat.le_refl _) _).drew
     have hv7 : ((W5.alloc (.cells #[.string (bs y0), .int .i64 y1, .int .i64 y2, .int .i64 y3, .bool false, .int .i64 y5] 93)).drew).heap[W5.heap.size]? = some (.cells #[.string (bs y0), .int .i64 y1, .int .i64 y2, .int .i64 y3, .bool false, .int .i64 y5] 93 (0, 0)) := heap_alloc_new W5 _
     generalize hW7 : (W5.alloc (.cells #[.string (bs y0), .int .i64 y1, .int .i64 y2, .int .i64 y3, .bool false, .int .i64 y5] 93)).drew = W7 at *
     clear hW7 hMA hMS hMR hMD hlk hm5
     have hBW7 : Below W.heap.size W W7 := HBW.out.trans (hb7.mono HBW.out.size)
     have HB7 : Hid (Below W.heap.size W W7) := hBW7
     have u0 := (hb7.cell (p := ⟨W.heap.size, 0, none⟩) hsz0).trans z0
     have u1 := (hb7.cell (p := ⟨W.heap.size, 1, none⟩) hsz0).trans z1
     have u2 := (hb7.cell (p := ⟨W.heap.size, 2, none⟩) hsz0).trans z2
     have u3 := (hb7.cell (p := ⟨W.heap.size, 3, none⟩) hsz0).trans z3
     have u4 := (hb7.cell (p := ⟨W.heap.size, 4, none⟩) hsz0).trans z4
     have u5 := (hb7.cell (p := ⟨W.heap.size, 5, none⟩) hsz0).trans z5
     have g0 := (hb7.frozen (p := ⟨W.heap.size, 0, none⟩) hsz0).trans f0
     have g1 := (hb7.frozen (p := ⟨W.heap.size, 1, none⟩) hsz0).trans f1
     have g2 := (hb7.frozen (p := ⟨W.heap.size, 2, none⟩) hsz0).trans f2
     have g3 := (hb7.frozen (p := ⟨W.heap.size, 3, none⟩) hsz0).trans f3
     have g4 := (hb7.frozen (p := ⟨W.heap.size, 4, none⟩) hsz0).trans f4
     have g5 := (hb7.frozen (p := ⟨W.heap.size, 5, none⟩) hsz0).trans f5
     have q7 := (hb7.cell (p := ⟨W.heap.size + 1, 0, none⟩) hsz).trans q3
     obtain ⟨v0, v1, v2, v3, v4, v5⟩ := cl6 hv7
     clear hb7 hv7 z0 z1 z2 z3 z4 z5 f0 f1 f2 f3 f4 f5 q1 q2 q3 HBW hBW7
     generalize hX : W5.heap.size = X5 at *
     clear hX hsz hsz0 hne hne1 hne5
     go_wp2_with fail
     refine bodyPost_ret (v := .tuple #[R, errV F]) (by rw [HRR.out, HFF.out]; simp [results, Tryz.results149, go_sem, errV, u0, u1, u2, u3, u4, u5]) rfl ⟨rfl, ?_⟩
     exact (((((HB7.out.setCell (Nat.le_refl _) _).setCell (Nat.le_refl _) _).setCell (Nat.le_refl _) _).setCell (Nat.le_refl _) _).setCell (Nat.le_refl _) _).setCell (Nat.le_refl _) _
   by_cases k8 : KK = 8
   ·subst k8
    have hrw : decide ((8 : Int) = 3 ∨ (8 : Int) = 8) = true := by decide
    have HFF : Hid (F = (1, (x : Int))) := by unfold Hid; rw [HF3.out, hrw, hd3, if_pos (by decide)]
    have HRR : Hid (R = (.agg #[.string ⟨#[]⟩, .int .i64 0, .int .i64 0, .int .i64 0, .bool false, .int .i64 0])) := by unfold Hid; rw [HR2.out, HFF.out]; rfl
    clear HF3 HR2 hrw
    go_enter Tryz.func149, Tryz.ntmps149
    go_wp2_with fail
    have hB0 := HB0.out
    have hZ := heap_alloc_new W (.cells #[.string ⟨#[]⟩, .int .i64 0, .int .i64 0, .int .i64 0, .bool false, .int .i64 0] 93)
    have hA : ((W.alloc (.cells #[.string ⟨#[]⟩, .int .i64 0, .int .i64 0, .int .i64 0, .bool false, .int .i64 0] 93)).alloc (.cells #[.int .i64 8, .int .i64 n.op, .string (bs n.name), .int .i64 n.num, .int .i64 n.far, .slice a n.kids.length c, .slice a2 l2 c2, .slice a3 l3 c3] 88)).heap[W.heap.size + 1]? = some (.cells #[.int .i64 8, .int .i64 n.op, .string (bs n.name), .int .i64 n.num, .int .i64 n.far, .slice a n.kids.length c, .slice a2 l2 c2, .slice a3 l3 c3] 88 (0, 0)) := by have h := heap_alloc_new (W.alloc (.cells #[.string ⟨#[]⟩, .int .i64 0, .int .i64 0, .int .i64 0, .bool false, .int .i64 0] 93)) (.cells #[.int .i64 8, .int .i64 n.op, .string (bs n.name), .int .i64 n.num, .int .i64 n.far, .slice a n.kids.length c, .slice a2 l2 c2, .slice a3 l3 c3] 88); rwa [World.size_alloc] at h
    have hB1 : Below (W.alloc (.cells #[.string ⟨#[]⟩, .int .i64 0, .int .i64 0, .int .i64 0, .bool false, .int .i64 0] 93)).heap.size (W.alloc (.cells #[.string ⟨#[]⟩, .int .i64 0, .int .i64 0, .int .i64 0, .bool false, .int .i64 0] 93)) ((W.alloc (.cells #[.string ⟨#[]⟩, .int .i64 0, .int .i64 0, .int .i64 0, .bool false, .int .i64 0] 93)).alloc (.cells #[.int .i64 8, .int .i64 n.op, .string (bs n.name), .int .i64 n.num, .int .i64 n.far, .slice a n.kids.length c, .slice a2 l2 c2, .slice a3 l3 c3] 88)) := (Below.refl _ _).alloc (Nat.le_refl _) _
    have hB := hB0.trans (hB1.mono hB0.size)
    have hZ5 := (hB1.block W.heap.size (by simp)).trans hZ
    generalize hW5 : (W.alloc (.cells #[.string ⟨#[]⟩, .int .i64 0, .int .i64 0, .int .i64 0, .bool false, .int .i64 0] 93)).alloc (.cells #[.int .i64 8, .int .i64 n.op, .string (bs n.name), .int .i64 n.num, .int .i64 n.far, .slice a n.kids.length c, .slice a2 l2 c2, .slice a3 l3 c3] 88) = W5 at *
    clear hW5 hZ
    have q1 : W5.cell? ⟨cp, 1, none⟩ = some (.map (some mp)) := (hB1.cell (p := ⟨cp, 1, none⟩) (Nat.lt_of_lt_of_le hkl hB0.size)).trans k1
    obtain ⟨q3, -, q2⟩ := cl3 hA
    obtain ⟨z0, z1, z2, z3, z4, z5⟩ := cl6 hZ5
    obtain ⟨f0, f1, f2, f3, f4, f5⟩ := fl6 hZ5
    have hm5 : NamesAt W5 mp V T.vars.length := ownsMap_block HMP.out (hB.block _ hml)
    have hMA : ∀ (Z : World) (o : Obj), NamesAt Z mp V T.vars.length → NamesAt (Z.alloc o) mp V T.vars.length := fun Z o h => h.alloc o
    have hMS : ∀ (Z : World) (q : Addr) (u : Value), ¬ mp = q.block → NamesAt Z mp V T.vars.length → NamesAt (Z.setCell q u) mp V T.vars.length := fun Z q u hq h => h.setCell hq u
    have hMR : ∀ (Z : World), NamesAt Z mp V T.vars.length → NamesAt Z.drew mp V T.vars.length := fun Z h => h
    have hMD := hMR _ hm5
    have hsz := blk_lt hA
    have hsz0 : W.heap.size < W5.heap.size := by omega
    have hne5 : ¬ mp = W5.heap.size := by omega
    have HBW : Hid (Below W.heap.size W W5) := hB
    clear k0 k1 d0 d1 d2 d3 d4 d5 d6 d7 hA HMP hB hZ5 hB0 hB1 HB0
    go_region_held3 (fun Z => Z.cell? ⟨cp, 1, none⟩ = some (.map (some mp)) ∧ Z.cell? ⟨W.heap.size + 1, 2, none⟩ = some (.string (bs n.name)) ∧ NamesAt Z mp V T.vars.length) (go_keep) (fail)
    all_goals
     have hb7 : Below W5.heap.size W5 ((W5.alloc (.cells #[.string (bs y0), .int .i64 y1, .int .i64 y2, .int .i64 y3, .bool false, .int .i64 y5] 93)).drew) := ((Below.refl _ _).alloc (Nat.le_refl _) _).drew
     have hv7 : ((W5.alloc (.cells #[.string (bs y0), .int .i64 y1, .int .i64 y2, .int .i64 y3, .bool false, .int .i64 y5] 93)).drew).heap[W5.heap.size]? = some (.cells #[.string (bs y0), .int .i64 y1, .int .i64 y2, .int .i64 y3, .bool false, .int .i64 y5] 93 (0, 0)) := heap_alloc_new W5 _
     generalize hW7 : (W5.alloc (.cells #[.string (bs y0), .int .i64 y1, .int .i64 y2, .int .i64 y3, .bool false, .int .i64 y5] 93)).drew = W7 at *
     clear hW7 hMA hMS hMR hMD hlk hm5
     have hBW7 : Below W.heap.size W W7 := HBW.out.trans (hb7.mono HBW.out.size)
     have HB7 : Hid (Below W.heap.size W W7) := hBW7
     have u0 := (hb7.cell (p := ⟨W.heap.size, 0, none⟩) hsz0).trans z0
     have u1 := (hb7.cell (p := ⟨W.heap.size, 1, none⟩) hsz0).trans z1
     have u2 := (hb7.cell (p := ⟨W.heap.size, 2, none⟩) hsz0).trans z2
     have u3 := (hb7.cell (p := ⟨W.heap.size, 3, none⟩) hsz0).trans z3
     have u4 := (hb7.cell (p := ⟨W.heap.size, 4, none⟩) hsz0).trans z4
     have u5 := (hb7.cell (p := ⟨W.heap.size, 5, none⟩) hsz0).trans z5
     have g0 := (hb7.frozen (p := ⟨W.heap.size, 0, none⟩) hsz0).trans f0
     have g1 := (hb7.frozen (p := ⟨W.heap.size, 1, none⟩) hsz0).trans f1
     have g2 := (hb7.frozen (p := ⟨W.heap.size, 2, none⟩) hsz0).trans f2
     have g3 := (hb7.frozen (p := ⟨W.heap.size, 3, none⟩) hsz0).trans f3
     have g4 := (hb7.frozen (p := ⟨W.heap.size, 4, none⟩) hsz0).trans f4
     have g5 := (hb7.frozen (p := ⟨W.heap.size, 5, none⟩) hsz0).trans f5
     have q7 := (hb7.cell (p := ⟨W.heap.size + 1, 0, none⟩) hsz).trans q3
     obtain ⟨v0, v1, v2, v3, v4, v5⟩ := cl6 hv7
     clear hb7 hv7 z0 z1 z2 z3 z4 z5 f0 f1 f2 f3 f4 f5 q1 q2 q3 HBW hBW7
     generalize hX : W5.heap.size = X5 at *
     clear hX hsz hsz0 hne hne1 hne5
     go_wp2_with fail
     refine bodyPost_ret (v := .tuple #[R, errV F]) (by rw [HRR.out, HFF.out]; simp [results, Tryz.results149, go_sem, errV, u0, u1, u2, u3, u4, u5]) rfl ⟨rfl, ?_⟩
     exact (((((HB7.out.setCell (Nat.le_refl _) _).setCell (Nat.le_refl _) _).setCell (Nat.le_refl _) _).setCell (Nat.le_refl _) _).setCell (Nat.le_refl _) _).setCell (Nat.le_refl _) _
   have e3 : (KK == 3) = false := by simpa using k3
   have e8 : (KK == 8) = false := by simpa using k8
   have hrw : decide (KK = 3 ∨ KK = 8) = false := decide_eq_false (by omega)
   have HFF : Hid (F = (0, 0)) := by unfold Hid; rw [HF3.out, hrw, hd3, if_neg (by decide)]
   have HRR : Hid (R = (.agg #[.string (bs y0), .int .i64 y1, .int .i64 y2, .int .i64 y3, .bool false, .int .i64 y5])) := by unfold Hid; rw [HR2.out, HFF.out]; rfl
   clear HF3 HR2 hrw
   clear k3 k8
   go_enter Tryz.func149, Tryz.ntmps149
   go_wp2_with fail
   have hB0 := HB0.out
   have hZ := heap_alloc_new W (.cells #[.string ⟨#[]⟩, .int .i64 0, .int .i64 0, .int .i64 0, .bool false, .int .i64 0] 93)
   have hA : ((W.alloc (.cells #[.string ⟨#[]⟩, .int .i64 0, .int .i64 0, .int .i64 0, .bool false, .int .i64 0] 93)).alloc (.cells #[.int .i64 KK, .int .i64 n.op, .string (bs n.name), .int .i64 n.num, .int .i64 n.far, .slice a n.kids.length c, .slice a2 l2 c2, .slice a3 l3 c3] 88)).heap[W.heap.size + 1]? = some (.cells #[.int .i64 KK, .int .i64 n.op, .string (bs n.name), .int .i64 n.num, .int .i64 n.far, .slice a n.kids.length c, .slice a2 l2 c2, .slice a3 l3 c3] 88 (0, 0)) := by have h := heap_alloc_new (W.alloc (.cells #[.string ⟨#[]⟩, .int .i64 0, .int .i64 0, .int .i64 0, .bool false, .int .i64 0] 93)) (.cells #[.int .i64 KK, .int .i64 n.op, .string (bs n.name), .int .i64 n.num, .int .i64 n.far, .slice a n.kids.length c, .slice a2 l2 c2, .slice a3 l3 c3] 88); rwa [World.size_alloc] at h
   have hB1 : Below (W.alloc (.cells #[.string ⟨#[]⟩, .int .i64 0, .int .i64 0, .int .i64 0, .bool false, .int .i64 0] 93)).heap.size (W.alloc (.cells #[.string ⟨#[]⟩, .int .i64 0, .int .i64 0, .int .i64 0, .bool false, .int .i64 0] 93)) ((W.alloc (.cells #[.string ⟨#[]⟩, .int .i64 0, .int .i64 0, .int .i64 0, .bool false, .int .i64 0] 93)).alloc (.cells #[.int .i64 KK, .int .i64 n.op, .string (bs n.name), .int .i64 n.num, .int .i64 n.far, .slice a n.kids.length c, .slice a2 l2 c2, .slice a3 l3 c3] 88)) := (Below.refl _ _).alloc (Nat.le_refl _) _
   have hB := hB0.trans (hB1.mono hB0.size)
   have hZ5 := (hB1.block W.heap.size (by simp)).trans hZ
   generalize hW5 : (W.alloc (.cells #[.string ⟨#[]⟩, .int .i64 0, .int .i64 0, .int .i64 0, .bool false, .int .i64 0] 93)).alloc (.cells #[.int .i64 KK, .int .i64 n.op, .string (bs n.name), .int .i64 n.num, .int .i64 n.far, .slice a n.kids.length c, .slice a2 l2 c2, .slice a3 l3 c3] 88) = W5 at *
   clear hW5 hZ
   have q1 : W5.cell? ⟨cp, 1, none⟩ = some (.map (some mp)) := (hB1.cell (p := ⟨cp, 1, none⟩) (Nat.lt_of_lt_of_le hkl hB0.size)).trans k1
   obtain ⟨q3, -, q2⟩ := cl3 hA
   obtain ⟨z0, z1, z2, z3, z4, z5⟩ := cl6 hZ5
   obtain ⟨f0, f1, f2, f3, f4, f5⟩ := fl6 hZ5
   have hm5 : NamesAt W5 mp V T.vars.length := ownsMap_block HMP.out (hB.block _ hml)
   have hMA : ∀ (Z : World) (o : Obj), NamesAt Z mp V T.vars.length → NamesAt (Z.alloc o) mp V T.vars.length := fun Z o h => h.alloc o
   have hMS : ∀ (Z : World) (q : Addr) (u : Value), ¬ mp = q.block → NamesAt Z mp V T.vars.length → NamesAt (Z.setCell q u) mp V T.vars.length := fun Z q u hq h => h.setCell hq u
   have hMR : ∀ (Z : World), NamesAt Z mp V T.vars.length → NamesAt Z.drew mp V T.vars.length := fun Z h => h
   have hMD := hMR _ hm5
   have hsz := blk_lt hA
   have hsz0 : W.heap.size < W5.heap.size := by omega
   have hne5 : ¬ mp = W5.heap.size := by omega
   have HBW : Hid (Below W.heap.size W W5) := hB
   clear k0 k1 d0 d1 d2 d3 d4 d5 d6 d7 hA HMP hB hZ5 hB0 hB1 HB0
   go_region_held3 (fun Z => Z.cell? ⟨cp, 1, none⟩ = some (.map (some mp)) ∧ Z.cell? ⟨W.heap.size + 1, 2, none⟩ = some (.string (bs n.name)) ∧ NamesAt Z mp V T.vars.length) (go_keep) (fail)
   all_goals
    have hb7 : Below W5.heap.size W5 ((W5.alloc (.cells #[.string (bs y0), .int .i64 y1, .int .i64 y2, .int .i64 y3, .bool false, .int .i64 y5] 93)).drew) := ((Below.refl _ _).alloc (Nat.le_refl _) _).drew
    have hv7 : ((W5.alloc (.cells #[.string (bs y0), .int .i64 y1, .int .i64 y2, .int .i64 y3, .bool false, .int .i64 y5] 93)).drew).heap[W5.heap.size]? = some (.cells #[.string (bs y0), .int .i64 y1, .int .i64 y2, .int .i64 y3, .bool false, .int .i64 y5] 93 (0, 0)) := heap_alloc_new W5 _
    generalize hW7 : (W5.alloc (.cells #[.string (bs y0), .int .i64 y1, .int .i64 y2, .int .i64 y3, .bool false, .int .i64 y5] 93)).drew = W7 at *
    clear hW7 hMA hMS hMR hMD hlk hm5
    have hBW7 : Below W.heap.size W W7 := HBW.out.trans (hb7.mono HBW.out.size)
    have HB7 : Hid (Below W.heap.size W W7) := hBW7
    have u0 := (hb7.cell (p := ⟨W.heap.size, 0, none⟩) hsz0).trans z0
    have u1 := (hb7.cell (p := ⟨W.heap.size, 1, none⟩) hsz0).trans z1
    have u2 := (hb7.cell (p := ⟨W.heap.size, 2, none⟩) hsz0).trans z2
    have u3 := (hb7.cell (p := ⟨W.heap.size, 3, none⟩) hsz0).trans z3
    have u4 := (hb7.cell (p := ⟨W.heap.size, 4, none⟩) hsz0).trans z4
    have u5 := (hb7.cell (p := ⟨W.heap.size, 5, none⟩) hsz0).trans z5
    have g0 := (hb7.frozen (p := ⟨W.heap.size, 0, none⟩) hsz0).trans f0
    have g1 := (hb7.frozen (p := ⟨W.heap.size, 1, none⟩) hsz0).trans f1
    have g2 := (hb7.frozen (p := ⟨W.heap.size, 2, none⟩) hsz0).trans f2
    have g3 := (hb7.frozen (p := ⟨W.heap.size, 3, none⟩) hsz0).trans f3
    have g4 := (hb7.frozen (p := ⟨W.heap.size, 4, none⟩) hsz0).trans f4
    have g5 := (hb7.frozen (p := ⟨W.heap.size, 5, none⟩) hsz0).trans f5
    have q7 := (hb7.cell (p := ⟨W.heap.size + 1, 0, none⟩) hsz).trans q3
    obtain ⟨v0, v1, v2, v3, v4, v5⟩ := cl6 hv7
    clear hb7 hv7 z0 z1 z2 z3 z4 z5 f0 f1 f2 f3 f4 f5 q1 q2 q3 HBW hBW7
    generalize hX : W5.heap.size = X5 at *
    clear hX hsz hsz0 hne hne1 hne5
    go_wp2_with fail
    refine bodyPost_ret (v := .tuple #[R, errV F]) (by rw [HRR.out, HFF.out]; simp [results, Tryz.results149, go_sem, errV, u0, u1, u2, u3, u4, u5]) rfl ⟨rfl, ?_⟩
    exact (((((HB7.out.setCell (Nat.le_refl _) _).setCell (Nat.le_refl _) _).setCell (Nat.le_refl _) _).setCell (Nat.le_refl _) _).setCell (Nat.le_refl _) _).setCell (Nat.le_refl _) _
  ·have hrw : decide ((2 : Int) = 3 ∨ (2 : Int) = 8) = false := by decide
   have HFF : Hid (F = (0, 0)) := by unfold Hid; rw [HF3.out, hrw, hd3, if_neg (by decide)]
   have HRR : Hid (R = (.agg #[.string (bs y0), .int .i64 y1, .int .i64 y2, .int .i64 y3, .bool true, .int .i64 y5])) := by unfold Hid; rw [HR2.out, HFF.out]; rfl
   clear HF3 HR2 hrw
   go_enter Tryz.func149, Tryz.ntmps149
   go_wp2_with fail
   have hB0 := HB0.out
   have hZ := heap_alloc_new W (.cells #[.string ⟨#[]⟩, .int .i64 0, .int .i64 0, .int .i64 0, .bool false, .int .i64 0] 93)
   have hA : ((W.alloc (.cells #[.string ⟨#[]⟩, .int .i64 0, .int .i64 0, .int .i64 0, .bool false, .int .i64 0] 93)).alloc (.cells #[.int .i64 2, .int .i64 n.op, .string (bs n.name), .int .i64 n.num, .int .i64 n.far, .slice a n.kids.length c, .slice a2 l2 c2, .slice a3 l3 c3] 88)).heap[W.heap.size + 1]? = some (.cells #[.int .i64 2, .int .i64 n.op, .string (bs n.name), .int .i64 n.num, .int .i64 n.far, .slice a n.kids.length c, .slice a2 l2 c2, .slice a3 l3 c3] 88 (0, 0)) := by have h := heap_alloc_new (W.alloc (.cells #[.string ⟨#[]⟩, .int .i64 0, .int .i64 0, .int .i64 0, .bool false, .int .i64 0] 93)) (.cells #[.int .i64 2, .int .i64 n.op, .string (bs n.name), .int .i64 n.num, .int .i64 n.far, .slice a n.kids.length c, .slice a2 l2 c2, .slice a3 l3 c3] 88); rwa [World.size_alloc] at h
   have hB1 : Below (W.alloc (.cells #[.string ⟨#[]⟩, .int .i64 0, .int .i64 0, .int .i64 0, .bool false, .int .i64 0] 93)).heap.size (W.alloc (.cells #[.string ⟨#[]⟩, .int .i64 0, .int .i64 0, .int .i64 0, .bool false, .int .i64 0] 93)) ((W.alloc (.cells #[.string ⟨#[]⟩, .int .i64 0, .int .i64 0, .int .i64 0, .bool false, .int .i64 0] 93)).alloc (.cells #[.int .i64 2, .int .i64 n.op, .string (bs n.name), .int .i64 n.num, .int .i64 n.far, .slice a n.kids.length c, .slice a2 l2 c2, .slice a3 l3 c3] 88)) := (Below.refl _ _).alloc (Nat.le_refl _) _
   have hB := hB0.trans (hB1.mono hB0.size)
   have hZ5 := (hB1.block W.heap.size (by simp)).trans hZ
   generalize hW5 : (W.alloc (.cells #[.string ⟨#[]⟩, .int .i64 0, .int .i64 0, .int .i64 0, .bool false, .int .i64 0] 93)).alloc (.cells #[.int .i64 2, .int .i64 n.op, .string (bs n.name), .int .i64 n.num, .int .i64 n.far, .slice a n.kids.length c, .slice a2 l2 c2, .slice a3 l3 c3] 88) = W5 at *
   clear hW5 hZ
   have q1 : W5.cell? ⟨cp, 1, none⟩ = some (.map (some mp)) := (hB1.cell (p := ⟨cp, 1, none⟩) (Nat.lt_of_lt_of_le hkl hB0.size)).trans k1
   obtain ⟨q3, -, q2⟩ := cl3 hA
   obtain ⟨z0, z1, z2, z3, z4, z5⟩ := cl6 hZ5
   obtain ⟨f0, f1, f2, f3, f4, f5⟩ := fl6 hZ5
   have hm5 : NamesAt W5 mp V T.vars.length := ownsMap_block HMP.out (hB.block _ hml)
   have hMA : ∀ (Z : World) (o : Obj), NamesAt Z mp V T.vars.length → NamesAt (Z.alloc o) mp V T.vars.length := fun Z o h => h.alloc o
   have hMS : ∀ (Z : World) (q : Addr) (u : Value), ¬ mp = q.block → NamesAt Z mp V T.vars.length → NamesAt (Z.setCell q u) mp V T.vars.length := fun Z q u hq h => h.setCell hq u
   have hMR : ∀ (Z : World), NamesAt Z mp V T.vars.length → NamesAt Z.drew mp V T.vars.length := fun Z h => h
   have hMD := hMR _ hm5
   have hsz := blk_lt hA
   have hsz0 : W.heap.size < W5.heap.size := by omega
   have hne5 : ¬ mp = W5.heap.size := by omega
   have HBW : Hid (Below W.heap.size W W5) := hB
   clear k0 k1 d0 d1 d2 d3 d4 d5 d6 d7 hA HMP hB hZ5 hB0 hB1 HB0
   go_region_held3 (fun Z => Z.cell? ⟨cp, 1, none⟩ = some (.map (some mp)) ∧ Z.cell? ⟨W.heap.size + 1, 2, none⟩ = some (.string (bs n.name)) ∧ NamesAt Z mp V T.vars.length) (go_keep) (fail)
   all_goals
    have hb7 : Below W5.heap.size W5 ((W5.alloc (.cells #[.string (bs y0), .int .i64 y1, .int .i64 y2, .int .i64 y3, .bool true, .int .i64 y5] 93)).drew) := ((Below.refl _ _).alloc (Nat.le_refl _) _).drew
    have hv7 : ((W5.alloc (.cells #[.string (bs y0), .int .i64 y1, .int .i64 y2, .int .i64 y3, .bool true, .int .i64 y5] 93)).drew).heap[W5.heap.size]? = some (.cells #[.string (bs y0), .int .i64 y1, .int .i64 y2, .int .i64 y3, .bool true, .int .i64 y5] 93 (0, 0)) := heap_alloc_new W5 _
    generalize hW7 : (W5.alloc (.cells #[.string (bs y0), .int .i64 y1, .int .i64 y2, .int .i64 y3, .bool true, .int .i64 y5] 93)).drew = W7 at *
    clear hW7 hMA hMS hMR hMD hlk hm5
    have hBW7 : Below W.heap.size W W7 := HBW.out.trans (hb7.mono HBW.out.size)
    have HB7 : Hid (Below W.heap.size W W7) := hBW7
    have u0 := (hb7.cell (p := ⟨W.heap.size, 0, none⟩) hsz0).trans z0
    have u1 := (hb7.cell (p := ⟨W.heap.size, 1, none⟩) hsz0).trans z1
    have u2 := (hb7.cell (p := ⟨W.heap.size, 2, none⟩) hsz0).trans z2
    have u3 := (hb7.cell (p := ⟨W.heap.size, 3, none⟩) hsz0).trans z3
    have u4 := (hb7.cell (p := ⟨W.heap.size, 4, none⟩) hsz0).trans z4
    have u5 := (hb7.cell (p := ⟨W.heap.size, 5, none⟩) hsz0).trans z5
    have g0 := (hb7.frozen (p := ⟨W.heap.size, 0, none⟩) hsz0).trans f0
    have g1 := (hb7.frozen (p := ⟨W.heap.size, 1, none⟩) hsz0).trans f1
    have g2 := (hb7.frozen (p := ⟨W.heap.size, 2, none⟩) hsz0).trans f2
    have g3 := (hb7.frozen (p := ⟨W.heap.size, 3, none⟩) hsz0).trans f3
    have g4 := (hb7.frozen (p := ⟨W.heap.size, 4, none⟩) hsz0).trans f4
    have g5 := (hb7.frozen (p := ⟨W.heap.size, 5, none⟩) hsz0).trans f5
    have q7 := (hb7.cell (p := ⟨W.heap.size + 1, 0, none⟩) hsz).trans q3
    obtain ⟨v0, v1, v2, v3, v4, v5⟩ := cl6 hv7
    clear hb7 hv7 z0 z1 z2 z3 z4 z5 f0 f1 f2 f3 f4 f5 q1 q2 q3 HBW hBW7
    generalize hX : W5.heap.size = X5 at *
    clear hX hsz hsz0 hne hne1 hne5
    go_wp2_with fail
    refine bodyPost_ret (v := .tuple #[R, errV F]) (by rw [HRR.out, HFF.out]; simp [results, Tryz.results149, go_sem, errV, u0, u1, u2, u3, u4, u5]) rfl ⟨rfl, ?_⟩
    exact (((((HB7.out.setCell (Nat.le_refl _) _).setCell (Nat.le_refl _) _).setCell (Nat.le_refl _) _).setCell (Nat.le_refl _) _).setCell (Nat.le_refl _) _).setCell (Nat.le_refl _) _
end Go.Proofs.YteeklmgkhacbcaaGreatDoor
