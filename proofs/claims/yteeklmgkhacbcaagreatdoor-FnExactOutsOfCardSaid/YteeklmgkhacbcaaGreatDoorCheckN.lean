/-
  Names of variables, plainly: where no two are one, no two calls have one name.
-/
import Derived.Test.YteeklmgkhacbcaaGreatDoorCheckQ
import Derived.Test.YteeklmgkhacbcaaGreatDoorSOwn
import Derived.Test.YteeklmgkhacbcaaGreatDoorSFor
import Derived.Test.YteeklmgkhacbcaaGreatDoorTreeVar
namespace Go.Proofs.YteeklmgkhacbcaaGreatDoor
open Go.RowKit
set_option linter.unusedVariables false
attribute [local go_sem] bs_size bs_get bs_extract bs_append bs_eq bs_toList
theorem namedF_or (V : List LVar) (nv : Nat) (n : LNode) (x : Int) : namedF V nv n x = (0, 0) ∨ (namedF V nv n x).1 ≠ 0 := by
 unfold namedF
 split
 ·exact .inr (show (4 : Int) ≠ 0 by decide)
 split
 ·exact .inr (show (1 : Int) ≠ 0 by decide)
 ·exact .inl rfl
theorem namedV_form (V : List LVar) (nv : Nat) (n : LNode) (x : Int) : ∃ y0 y1 y2 y3 y4 y5, namedV V nv n x = .agg #[.string (bs y0), .int .i64 y1, .int .i64 y2, .int .i64 y3, .bool y4, .int .i64 y5] := by
 unfold namedV
 split
 ·exact ⟨_, _, _, _, _, _, rfl⟩
 ·exact ⟨[], 0, 0, 0, false, 0, rfl⟩
set_option maxHeartbeats 12800000 in
set_option maxRecDepth 100000 in
theorem partsFit_any (lo cp mp f : Nat) (W : World) (vn vl : Value) (T : LTree) (V : List LVar) (x : Nat) (hE : CkE lo W cp mp vn vl T V) (hx : x < T.nodes.length) (hV : TypesOk V) (hkind : 1 ≤ (nodeOf T.nodes (x : Int)).kind ∧ (nodeOf T.nodes (x : Int)).kind ≤ 6)
  (hnm : ∀ y : Nat, y < T.nodes.length → (nodeOf T.nodes (y : Int)).name.length ≤ 1048576) (hop : (nodeOf T.nodes (x : Int)).kind = 6 → 1 ≤ (nodeOf T.nodes (x : Int)).op ∧ (nodeOf T.nodes (x : Int)).op ≤ 10)
  (hkn : (3 ≤ (nodeOf T.nodes (x : Int)).kind ∧ (nodeOf T.nodes (x : Int)).kind ≤ 5 → (nodeOf T.nodes (x : Int)).kids.length = 1) ∧ ((nodeOf T.nodes (x : Int)).kind = 6 → (nodeOf T.nodes (x : Int)).kids.length = 2))
  (hks : ∀ y ∈ (nodeOf T.nodes (x : Int)).kids, (0 ≤ y ∧ y < (T.nodes.length : Int)) ∧ (1 ≤ (nodeOf T.nodes y).kind ∧ (nodeOf T.nodes y).kind ≤ 6) ∧ ((nodeOf T.nodes y).kind = 1 → 0 ≤ (nodeOf T.nodes y).num))
  (hT : (nodeOf T.nodes (x : Int)).kids ≠ [] → ∃ f', f = f' + 1 ∧ ∀ y : Nat, (y : Int) ∈ (nodeOf T.nodes (x : Int)).kids → ITypeC lo cp mp vn vl T V (f' + 1) y) :
  Calls Tryz.prog 154 #[.pointer (some ⟨cp, 0, none⟩), .int .i64 (x : Int)] W fun e w' => e = .returned (errV (metT V T (f + 1) (x : Int))) ∧ Below W.heap.size W w' := by
 obtain ⟨bn, on, cn, rfl, vk, vt, ve, ⟨d0, d1, d2, d3, d4, d5, d6, d7⟩, hi, ⟨a, c, rfl⟩, ⟨a2, l2, c2, rfl⟩, ⟨a3, l3, c3, rfl⟩⟩ := hE.node x hx
 have k0 := cell_of_row _ _ 0 _ _ _ hE.row
 simp at k0
 have hnl := hE.good.nodes
 have hx0 : (0 : Int) ≤ (x : Int) := by omega
 have hx1 : (x : Int) < (T.nodes.length : Int) := by omega
 have HMB : Hid ((nodeOf T.nodes (x : Int)).kids ≠ [] → ∀ (W' : World) (g : Nat) (ts : List Int), Below W.heap.size W W' → W'.heap[g]? = some (.cells (ts.map (Value.int .i64)).toArray 2 (0, 0)) → (nodeOf T.nodes (x : Int)).kids.length = ts.length → (nodeOf T.nodes (x : Int)).kids.length ≤ 3 →
   Calls Tryz.prog 148 #[.pointer (some ⟨cp, 0, none⟩), .slice a (nodeOf T.nodes (x : Int)).kids.length c, .slice (some ⟨g, 0, none⟩) ts.length ts.length] W' fun e w' => e = .returned (errV (mustsF V T f (nodeOf T.nodes (x : Int)).kids ts (0, 0))) ∧ Below W'.heap.size W' w') := fun hne W' g ts hb hg hl h3 => by
  obtain ⟨f', rfl, hc⟩ := hT hne
  exact mustBe_any lo lo 0 cp mp f' W' _ vl _ _ T V _ ts (hE.below hb) hl h3 hks (hi.below hb) (ints_of_cells hg rfl rfl (Nat.zero_le _)) hc
 have HNA : Hid (∀ W', Below W.heap.size W W' → Calls Tryz.prog 149 #[.pointer (some ⟨cp, 0, none⟩), .int .i64 (x : Int)] W' fun e w' => e = .returned (.tuple #[namedV V T.vars.length (nodeOf T.nodes (x : Int)) (x : Int), errV (namedF V T.vars.length (nodeOf T.nodes (x : Int)) (x : Int))]) ∧ Below W'.heap.size W' w') := fun W' hb => named_any lo cp mp W' _ vl T V x (hE.below hb) hx (hnm x hx)
 have HSI : Hid ((nodeOf T.nodes (x : Int)).kind = 6 → ∀ W', Below W.heap.size W W' → Calls Tryz.prog 156 #[.pointer (some ⟨cp, 0, none⟩), nodeV (nodeOf T.nodes (x : Int)) (.slice a (nodeOf T.nodes (x : Int)).kids.length c) (.slice a2 l2 c2) (.slice a3 l3 c3)] W' fun e w' => e = .returned (.int .i64 (sidesT V T.nodes (nodeOf T.nodes (x : Int)))) ∧ Below W'.heap.size W' w') := fun h6 W' hb => sides_any lo cp mp W' _ vl _ _ _ T V _ (hE.below hb) (hkn.2 h6) (fun y hy => (hks y hy).1) (hi.below hb) ⟨_, _, _, rfl⟩ ⟨_, _, _, rfl⟩ (hop h6) hnm
 obtain ⟨m, hm⟩ : ∃ m, m = metT V T (f + 1) (x : Int) := ⟨_, rfl⟩
 rw [← hm]
 obtain ⟨ev, hev⟩ : ∃ ev, ev = errV m := ⟨_, rfl⟩
 rw [← hev]
 have HEV : Hid (ev = errV m) := hev
 have HM := hid hm
 have HV : Hid (TypesOk V) := hV
 have HKN := hkn
 obtain ⟨y0, y1, y2, y3, y4, y5, hnv⟩ := namedV_form V T.vars.length (nodeOf T.nodes (x : Int)) (x : Int)
 rw [hnv] at HNA
 have hb1 : Below W.heap.size W (W.alloc (.cells #[.int .i64 (nodeOf T.nodes (x : Int)).kind, .int .i64 (nodeOf T.nodes (x : Int)).op, .string (bs (nodeOf T.nodes (x : Int)).name), .int .i64 (nodeOf T.nodes (x : Int)).num, .int .i64 (nodeOf T.nodes (x : Int)).far, .slice a (nodeOf T.nodes (x : Int)).kids.length c, .slice a2 l2 c2, .slice a3 l3 c3] 88)) := (Below.refl _ _).alloc (Nat.le_refl _) _
 have HB1 : Hid _ := hb1
 clear hm hV hkn hks hT hop hi hE hb1 hnm hnv hev
 by_cases h1 : (nodeOf T.nodes (x : Int)).kind = 1
 ·have HR : Hid (m = (0, 0)) := by unfold Hid; rw [HM.out, metT_num h1]
  clear HM HMB HNA HSI HB1 HKN hkind
  generalize nodeOf T.nodes (x : Int) = n at *
  go_enter Tryz.func154, Tryz.ntmps154
  go_wp2
  go_ret
  exact ⟨by rw [HEV.out, HR.out]; rfl, by go_grown⟩
 by_cases h2 : (nodeOf T.nodes (x : Int)).kind = 2
 ·have HR : Hid (m = namedF V T.vars.length (nodeOf T.nodes (x : Int)) (x : Int)) := by unfold Hid; rw [HM.out, metT_name h2]
  clear HM HMB HSI HKN hkind h1
  rw [← HR.out, ← HEV.out] at HNA
  generalize nodeOf T.nodes (x : Int) = n at *
  rw [h2] at HB1
  clear HR
  go_enter Tryz.func154, Tryz.ntmps154
  go_wp2_with fail
  refine (HNA.out _ HB1.out).mono ?_
  rintro e w2 ⟨rfl, hb⟩
  have HB2 : Hid (Below W.heap.size W w2) := HB1.out.trans (hb.mono HB1.out.size)
  clear hb HNA HB1 d0 d1 d2 d3 d4 d5 d6 d7 k0
  have hsz := HB2.out.size
  go_wp2_with fail
  go_ret
  exact ⟨rfl, HB2.out.alloc hsz _⟩
 by_cases h4 : (nodeOf T.nodes (x : Int)).kind = 4
 ·obtain ⟨k, hk⟩ : ∃ k, (nodeOf T.nodes (x : Int)).kids = [k] := by
   match hl : (nodeOf T.nodes (x : Int)).kids, HKN.1 ⟨by omega, by omega⟩ with
   | [k], _ => exact ⟨k, rfl⟩
  have HR : Hid (m = mustsF V T f [k] [1] (0, 0)) := by unfold Hid; rw [HM.out, metT_neg h4 hk]
  rw [hk] at HMB d5 HB1
  clear HM HNA HSI HKN hkind h1 h2
  generalize nodeOf T.nodes (x : Int) = n at *
  rw [h4] at HB1
  go_enter Tryz.func154, Tryz.ntmps154
  go_wp2_with fail
  refine (HMB.out (by simp) _ (W.heap.size + 1) [1] ?_ ?_ rfl (by simp)).mono ?_
  ·exact HB1.out.trans (((Below.refl _ _).alloc (Nat.le_refl _) _).mono HB1.out.size)
  ·have h := heap_alloc_new (W.alloc (.cells #[.int .i64 4, .int .i64 n.op, .string (bs n.name), .int .i64 n.num, .int .i64 n.far, .slice a [k].length c, .slice a2 l2 c2, .slice a3 l3 c3] 88)) (.cells #[.int .i64 1] 2)
   rwa [World.size_alloc] at h
  rintro e w2 ⟨rfl, hb⟩
  rw [← HR.out, ← HEV.out]
  have HB2 : Hid (Below W.heap.size W w2) := (HB1.out.trans (((Below.refl _ _).alloc (Nat.le_refl _) _).mono HB1.out.size)).trans (hb.mono (by simp; omega))
  clear hb HR HMB HB1
  go_wp2_with fail
  go_ret
  exact ⟨rfl, HB2.out⟩
 by_cases h5 : (nodeOf T.nodes (x : Int)).kind = 5
 ·obtain ⟨k, hk⟩ : ∃ k, (nodeOf T.nodes (x : Int)).kids = [k] := by
   match hl : (nodeOf T.nodes (x : Int)).kids, HKN.1 ⟨by omega, by omega⟩ with
   | [k], _ => exact ⟨k, rfl⟩
  have HR : Hid (m = mustsF V T f [k] [2] (0, 0)) := by unfold Hid; rw [HM.out, metT_not h5 hk]
  rw [hk] at HMB d5 HB1
  clear HM HNA HSI HKN hkind h1 h2
  generalize nodeOf T.nodes (x : Int) = n at *
  rw [h5] at HB1
  go_enter Tryz.func154, Tryz.ntmps154
  go_wp2_with fail
  refine (HMB.out (by simp) _ (W.heap.size + 1) [2] ?_ ?_ rfl (by simp)).mono ?_
  ·exact HB1.out.trans (((Below.refl _ _).alloc (Nat.le_refl _) _).mono HB1.out.size)
  ·have h := heap_alloc_new (W.alloc (.cells #[.int .i64 5, .int .i64 n.op, .string (bs n.name), .int .i64 n.num, .int .i64 n.far, .slice a [k].length c, .slice a2 l2 c2, .slice a3 l3 c3] 88)) (.cells #[.int .i64 2] 2)
   rwa [World.size_alloc] at h
  rintro e w2 ⟨rfl, hb⟩
  rw [← HR.out, ← HEV.out]
  have HB2 : Hid (Below W.heap.size W w2) := (HB1.out.trans (((Below.refl _ _).alloc (Nat.le_refl _) _).mono HB1.out.size)).trans (hb.mono (by simp; omega))
  clear hb HR HMB HB1
  go_wp2_with fail
  go_ret
  exact ⟨rfl, HB2.out⟩
 by_cases h6 : (nodeOf T.nodes (x : Int)).kind = 6
 ·obtain ⟨k, l, hk⟩ : ∃ k l, (nodeOf T.nodes (x : Int)).kids = [k, l] := by
   match hl : (nodeOf T.nodes (x : Int)).kids, HKN.2 h6 with
   | [k, l], _ => exact ⟨k, l, rfl⟩
  have HR : Hid (m = mustsF V T f [k, l] [sidesT V T.nodes (nodeOf T.nodes (x : Int)), sidesT V T.nodes (nodeOf T.nodes (x : Int))] (0, 0)) := by unfold Hid; rw [HM.out, metT_two HV.out h6 hk]
  have HS2 := HSI.out h6
  have HS3 : Hid (∀ W', Below W.heap.size W W' → Calls Tryz.prog 156 #[.pointer (some ⟨cp, 0, none⟩), nodeV (nodeOf T.nodes (x : Int)) (.slice a (nodeOf T.nodes (x : Int)).kids.length c) (.slice a2 l2 c2) (.slice a3 l3 c3)] W' fun e w' => e = .returned (.int .i64 (sidesT V T.nodes (nodeOf T.nodes (x : Int)))) ∧ Below W'.heap.size W' w') := HS2
  clear HS2 HSI HM HNA HKN hkind h1 h2 h4 h5 HV
  generalize sidesT V T.nodes (nodeOf T.nodes (x : Int)) = sd at *
  rw [hk] at HMB d5 HB1 HS3
  generalize nodeOf T.nodes (x : Int) = n at *
  rw [h6] at HB1
  go_enter Tryz.func154, Tryz.ntmps154
  go_wp2_with fail
  have HS4 : Hid (∀ W', Below W.heap.size W W' → Calls Tryz.prog 156 #[.pointer (some ⟨cp, 0, none⟩), .agg #[.int .i64 6, .int .i64 n.op, .string (bs n.name), .int .i64 n.num, .int .i64 n.far, .slice a [k, l].length c, .slice a2 l2 c2, .slice a3 l3 c3]] W' fun e w' => e = .returned (.int .i64 sd) ∧ Below W'.heap.size W' w') := fun W' h => by have := HS3.out W' h; rw [← h6]; exact this
  have hA := heap_alloc_new W (.cells #[.int .i64 6, .int .i64 n.op, .string (bs n.name), .int .i64 n.num, .int .i64 n.far, .slice a [k, l].length c, .slice a2 l2 c2, .slice a3 l3 c3] 88)
  refine (HS4.out _ HB1.out).mono ?_
  rintro e w2 ⟨rfl, hb⟩
  have hA2 := blk hA hb
  have e5 : w2.cell? ⟨W.heap.size, 5, none⟩ = some (.slice a [k, l].length c) := cell_of_row _ _ 5 _ _ _ hA2
  have HB2 : Hid (Below W.heap.size W w2) := HB1.out.trans (hb.mono HB1.out.size)
  have hsz := HB2.out.size
  clear hb HS3 HS4 HB1 hA hA2 d0 d1 d2 d3 d4 d5 d6 d7 k0
  go_wp2_with fail
  refine (HMB.out (by simp) _ w2.heap.size [sd, sd] ?_ (heap_alloc_new w2 _) rfl (by simp)).mono ?_
  ·exact HB2.out.alloc hsz _
  rintro e w3 ⟨rfl, hb⟩
  rw [← HR.out, ← HEV.out]
  have HB3 : Hid (Below W.heap.size W w3) := (HB2.out.alloc hsz _).trans (hb.mono (by simp; omega))
  clear hb HR HMB HB2
  go_wp2_with fail
  go_ret
  exact ⟨rfl, HB3.out⟩
 have h3 : (nodeOf T.nodes (x : Int)).kind = 3 := by omega
 obtain ⟨k, hk⟩ : ∃ k, (nodeOf T.nodes (x : Int)).kids = [k] := by
  match hl : (nodeOf T.nodes (x : Int)).kids, HKN.1 ⟨by omega, by omega⟩ with
  | [k], _ => exact ⟨k, rfl⟩
 have HR0 := metT_item (V := V) (T := T) (f := f) (x := (x : Int)) h3 hk
 have hor := namedF_or V T.vars.length (nodeOf T.nodes (x : Int)) (x : Int)
 rw [← HM.out] at HR0
 rw [hk] at HMB d5 HB1
 clear HSI HKN hkind h1 h2 h4 h5 h6 HV
 obtain ⟨q, hq⟩ : ∃ q, q = namedF V T.vars.length (nodeOf T.nodes (x : Int)) (x : Int) := ⟨_, rfl⟩
 rw [← hq] at HNA HR0 hor
 clear hq HM
 generalize nodeOf T.nodes (x : Int) = n at *
 rw [h3] at HB1
 rcases hor with rfl | hne
 ·have HR : Hid (m = mustsF V T f [k] [1] (0, 0)) := by unfold Hid; rw [HR0, if_neg (by simp)]
  have HNB : Hid (∀ W', Below W.heap.size W W' → Calls Tryz.prog 149 #[.pointer (some ⟨cp, 0, none⟩), .int .i64 (x : Int)] W' fun e w' => e = .returned (.tuple #[.agg #[.string (bs y0), .int .i64 y1, .int .i64 y2, .int .i64 y3, .bool y4, .int .i64 y5], .nilIface]) ∧ Below W'.heap.size W' w') := HNA.out
  clear HNA HR0
  go_enter Tryz.func154, Tryz.ntmps154
  go_wp2_with fail
  have hA := heap_alloc_new W (.cells #[.int .i64 3, .int .i64 n.op, .string (bs n.name), .int .i64 n.num, .int .i64 n.far, .slice a [k].length c, .slice a2 l2 c2, .slice a3 l3 c3] 88)
  refine (HNB.out _ HB1.out).mono ?_
  rintro e w2 ⟨rfl, hb⟩
  have hA2 := blk hA hb
  have HB2 : Hid (Below W.heap.size W w2) := HB1.out.trans (hb.mono HB1.out.size)
  have hsz := HB2.out.size
  have hVB : Below w2.heap.size w2 (w2.alloc (.cells #[.string (bs y0), .int .i64 y1, .int .i64 y2, .int .i64 y3, .bool y4, .int .i64 y5] 93)) := (Below.refl _ _).alloc (Nat.le_refl _) _
  have hA3 := blk hA2 hVB
  have e5 : (w2.alloc (.cells #[.string (bs y0), .int .i64 y1, .int .i64 y2, .int .i64 y3, .bool y4, .int .i64 y5] 93)).cell? ⟨W.heap.size, 5, none⟩ = some (.slice a [k].length c) := cell_of_row _ _ 5 _ _ _ hA3
  have HB3 : Hid (Below W.heap.size W (w2.alloc (.cells #[.string (bs y0), .int .i64 y1, .int .i64 y2, .int .i64 y3, .bool y4, .int .i64 y5] 93))) := HB2.out.alloc hsz _
  have hsz3 := HB3.out.size
  clear hb HNB HB1 hA hA2 hA3 hVB d0 d1 d2 d3 d4 d5 d6 d7 k0 HB2
  go_wp2_with fail
  refine (HMB.out (by simp) _ (w2.heap.size + 1) [1] ?_ ?_ rfl (by simp)).mono ?_
  ·exact HB3.out.alloc hsz3 _
  ·have h := heap_alloc_new (w2.alloc (.cells #[.string (bs y0), .int .i64 y1, .int .i64 y2, .int .i64 y3, .bool y4, .int .i64 y5] 93)) (.cells #[.int .i64 1] 2)
   rwa [World.size_alloc] at h
  rintro e w4 ⟨rfl, hb⟩
  rw [← HR.out, ← HEV.out]
  have HB4 : Hid (Below W.heap.size W w4) := (HB3.out.alloc hsz3 _).trans (hb.mono (by simp; omega))
  clear hb HR HMB HB3
  go_wp2_with fail
  go_ret
  exact ⟨rfl, HB4.out⟩
 ·have HR : Hid (m = q) := by unfold Hid; rw [HR0, if_pos hne]
  rw [errV_met hne] at HNA
  have HEV2 : Hid (ev = .iface 121 (.agg #[.int .i64 q.1, .int .i64 q.2])) := by unfold Hid; rw [HEV.out, HR.out]; exact errV_met hne
  clear HR0 HR HEV HMB hne
  generalize q.1 = q1 at *
  generalize q.2 = q2 at *
  go_enter Tryz.func154, Tryz.ntmps154
  go_wp2_with fail
  refine (HNA.out _ HB1.out).mono ?_
  rintro e w2 ⟨rfl, hb⟩
  have HB2 : Hid (Below W.heap.size W w2) := HB1.out.trans (hb.mono HB1.out.size)
  have hsz := HB2.out.size
  clear hb HNA HB1 d0 d1 d2 d3 d4 d5 d6 d7 k0
  go_wp2_with fail
  go_ret
  exact ⟨by rw [HEV2.out]; rfl, HB2.out.alloc hsz _⟩
def FitsE (T : LTree) : Prop := ∀ x : Nat, x < T.nodes.length → 1 ≤ (nodeOf T.nodes (x : Int)).kind ∧ (nodeOf T.nodes (x : Int)).kind ≤ 6 →
 ((nodeOf T.nodes (x : Int)).kind = 6 → 1 ≤ (nodeOf T.nodes (x : Int)).op ∧ (nodeOf T.nodes (x : Int)).op ≤ 10) ∧
 ((3 ≤ (nodeOf T.nodes (x : Int)).kind ∧ (nodeOf T.nodes (x : Int)).kind ≤ 5 → (nodeOf T.nodes (x : Int)).kids.length = 1) ∧ ((nodeOf T.nodes (x : Int)).kind = 6 → (nodeOf T.nodes (x : Int)).kids.length = 2)) ∧
 ∀ y ∈ (nodeOf T.nodes (x : Int)).kids, (0 ≤ y ∧ y < (x : Int)) ∧ (1 ≤ (nodeOf T.nodes y).kind ∧ (nodeOf T.nodes y).kind ≤ 6) ∧ ((nodeOf T.nodes y).kind = 1 → 0 ≤ (nodeOf T.nodes y).num)
set_option maxHeartbeats 6400000 in
set_option maxRecDepth 100000 in
theorem typeOf_step (lo cp mp f : Nat) (W : World) (vn vl : Value) (T : LTree) (V : List LVar) (x : Nat) (hE : CkE lo W cp mp vn vl T V) (hx : x < T.nodes.length) (hnm : ∀ y : Nat, y < T.nodes.length → (nodeOf T.nodes (y : Int)).name.length ≤ 1048576)
  (hP : Calls Tryz.prog 154 #[.pointer (some ⟨cp, 0, none⟩), .int .i64 (x : Int)] W fun e w' => e = .returned (errV (metT V T (f + 1) (x : Int))) ∧ Below W.heap.size W w') :
  Calls Tryz.prog 151 #[.pointer (some ⟨cp, 0, none⟩), .int .i64 (x : Int)] W fun e w' => e = .returned (.tuple #[.int .i64 (if (metT V T (f + 1) (x : Int)).1 = 0 then plainT V (nodeOf T.nodes (x : Int)) else 0), errV (metT V T (f + 1) (x : Int))]) ∧ Below W.heap.size W w' := by
 have HPL : Hid (∀ W', Below W.heap.size W W' → Calls Tryz.prog 155 #[.pointer (some ⟨cp, 0, none⟩), .int .i64 (x : Int)] W' fun e w' => e = .returned (.int .i64 (plainT V (nodeOf T.nodes (x : Int)))) ∧ Below W'.heap.size W' w') := fun W' hb => plainType_any lo cp mp W' vn vl T V x (hE.below hb) hx (hnm x hx)
 generalize metT V T (f + 1) (x : Int) = m at *
 generalize plainT V (nodeOf T.nodes (x : Int)) = g at *
 clear hE hnm hx
 by_cases hz : m.1 = 0
 ·rw [if_pos hz, errV_zero hz]
  rw [errV_zero hz] at hP
  have HP := hid hP
  clear hP hz
  go_enter Tryz.func151, Tryz.ntmps151
  go_wp2_with fail
  refine HP.out.mono ?_
  rintro e w2 ⟨rfl, hb⟩
  have HB := hid hb
  clear hb HP
  go_wp2_with fail
  refine (HPL.out _ HB.out).mono ?_
  rintro e w3 ⟨rfl, hb⟩
  have HB2 : Hid (Below W.heap.size W w3) := HB.out.trans (hb.mono HB.out.size)
  clear hb HPL HB
  go_wp2_with fail
  go_returns
  exact ⟨rfl, HB2.out⟩
 ·rw [if_neg hz, errV_met hz]
  rw [errV_met hz] at hP
  generalize m.1 = m1 at *
  generalize m.2 = m2 at *
  have HP := hid hP
  clear hP hz HPL
  go_enter Tryz.func151, Tryz.ntmps151
  go_wp2_with fail
  refine HP.out.mono ?_
  rintro e w2 ⟨rfl, hb⟩
  have HB := hid hb
  clear hb HP
  go_wp2_with fail
  go_returns
  exact ⟨rfl, HB.out⟩
theorem typeOf_all (lo cp mp : Nat) (vn vl : Value) (T : LTree) (V : List LVar) (hV : TypesOk V) (hF : FitsE T) (hnm : ∀ y : Nat, y < T.nodes.length → (nodeOf T.nodes (y : Int)).name.length ≤ 1048576) :
  ∀ (x : Nat), x < T.nodes.length → 1 ≤ (nodeOf T.nodes (x : Int)).kind ∧ (nodeOf T.nodes (x : Int)).kind ≤ 6 → ∀ f, x ≤ f → ITypeC lo cp mp vn vl T V (f + 1) x := by
 intro x
 induction x using Nat.strongRecOn with
 | _ x ih =>
  intro hx hk f hf W hE
  obtain ⟨h1, h2, h3⟩ := hF x hx hk
  refine typeOf_step lo cp mp f W vn vl T V x hE hx hnm (partsFit_any lo cp mp f W vn vl T V x hE hx hV hk hnm h1 h2 (fun y hy => ⟨⟨(h3 y hy).1.1, by have := (h3 y hy).1.2; omega⟩, (h3 y hy).2⟩) (fun hne => ?_))
  obtain ⟨y0, hy0⟩ := List.exists_mem_of_ne_nil _ hne
  have hp := (h3 y0 hy0).1
  refine ⟨f - 1, by omega, fun y hy => ?_⟩
  have hy2 := (h3 (y : Int) hy).1
  exact ih y (by omega) (by omega) (h3 (y : Int) hy).2.1 (f - 1) (by omega)
end Go.Proofs.YteeklmgkhacbcaaGreatDoor
namespace Go.Proofs.YteeklmgkhacbcaaGreatDoor
open Go.RowKit
set_option linter.unusedVariables false
theorem cellsL_kind (T : LTree) (n : Nat) : cellsL ((allL 3 T).take n) = cellsL ((allL 0 T).take n) := by
 have h1 : ∀ (V W : List LVar), V.map szV = W.map szV → cellsL V = cellsL W := by
  intro V W h
  have : ∀ (V : List LVar) (a : Int), V.foldl (fun s v => s + szV v) a = (V.map szV).foldl (fun s z => s + z) a := by
   intro V; induction V with
   | nil => intro a; rfl
   | cons v r ih => intro a; exact ih _
  unfold cellsL; rw [this, this, h]
 have h2 : ∀ op nm, (ownOf 3 op nm).map szV = (ownOf 0 op nm).map szV := by
  intro op nm; unfold ownOf
  split
  ·rfl
  split
  ·rfl
  split <;> rfl
 have h3 : (allL 3 T).map szV = (allL 0 T).map szV := by
  unfold allL ownsL
  rw [List.map_append, List.map_append, List.map_flatMap, List.map_flatMap]
  congr 2
  funext n
  unfold ownN
  split
  ·exact h2 _ _
  ·rfl
 apply h1
 rw [List.map_take, List.map_take, h3]
theorem allL_len (T : LTree) : (allL 3 T).length = (allL 0 T).length := by
 have h2 : ∀ op nm, (ownOf 3 op nm).map szV = (ownOf 0 op nm).map szV := by
  intro op nm; unfold ownOf
  split
  ·rfl
  split
  ·rfl
  split <;> rfl
 have h3 : (allL 3 T).map szV = (allL 0 T).map szV := by
  unfold allL ownsL
  rw [List.map_append, List.map_append, List.map_flatMap, List.map_flatMap]
  congr 2
  funext n
  unfold ownN
  split
  ·exact h2 _ _
  ·rfl
 have := congrArg List.length h3
 simpa using this
theorem varFrom_names (nm : List UInt8) : ∀ (V W : List LVar) (i : Nat), V.map LVar.name = W.map LVar.name → varFrom nm V i = varFrom nm W i := by
 intro V
 induction V with
 | nil => intro W i h; cases W with
  | nil => rfl
  | cons w r => simp at h
 | cons v r ih =>
  intro W i h
  cases W with
  | nil => simp at h
  | cons w s =>
   simp at h
   unfold varFrom
   rw [h.1, ih s (i + 1) h.2]
theorem varFrom_kind (T : LTree) (nm : List UInt8) : varFrom nm (allL 3 T) 0 = varFrom nm (allL 0 T) 0 := by
 apply varFrom_names
 unfold allL ownsL
 rw [List.map_append, List.map_append, List.map_flatMap, List.map_flatMap]
 congr 2
 funext n
 unfold ownN
 split
 ·unfold ownOf
  split
  ·rfl
  split
  ·rfl
  split <;> rfl
 ·rfl
theorem all_names {T : LTree} (h : Good T) (K : Int) : ∀ x ∈ allL K T, x.name.length ≤ 9 := fun x hx => by
 rcases List.mem_append.1 hx with hx | hx
 ·have := (name_len (h.var x hx).1).2; omega
 ·obtain ⟨n, hn, hx⟩ := List.mem_flatMap.1 hx
  unfold ownN at hx
  split at hx
  ·rename_i hk
   obtain ⟨k, hk2, rfl⟩ := List.getElem_of_mem hn
   have h1 := (name_len (own_name (h.node k _ (List.getElem?_eq_getElem hk2)).1 hk)).2
   rw [ownOf_nm] at hx
   obtain ⟨y, hy, rfl⟩ := List.mem_map.1 hx
   have := ownOf_one K _ y hy
   simp; omega
  ·cases hx
attribute [local go_sem] bs_size bs_get bs_extract bs_append bs_eq bs_toList
structure CkB (lo : Nat) (W0 : World) (cp mp : Nat) (vn : Value) (T : LTree) (V : List LVar) : Prop where
 nodes : NodesV lo W0 vn T.nodes
 map : NamesAt W0 mp V T.vars.length
 good : Good T
 few : V.length ≤ 624
 low : W0.heap.size ≤ cp
structure ICk (W0 W : World) (cp mp : Nat) (vn vl : Value) : Prop where
 bel : Below W0.heap.size W0 W
 row : W.heap[cp]? = some (.cells #[vn, .map (some mp), vl] 183 (0, 0))
theorem ICk.below {W0 W W' : World} {cp mp : Nat} {vn vl : Value} (h : ICk W0 W cp mp vn vl) (hb : Below W.heap.size W W') : ICk W0 W' cp mp vn vl := ⟨h.bel.trans (hb.mono h.bel.size), blk h.row hb⟩
theorem CkB.ck {lo : Nat} {W0 W : World} {cp mp : Nat} {vn vl : Value} {T : LTree} {V : List LVar} (h : CkB lo W0 cp mp vn T V) (k : ICk W0 W cp mp vn vl) : CkE lo W cp mp vn vl T V :=
 ⟨k.row, h.nodes.below k.bel, ownsMap_block h.map (k.bel.block _ h.map.lt), h.good, h.few⟩
theorem CkB.node {lo : Nat} {W0 W : World} {cp mp : Nat} {vn : Value} {T : LTree} {V : List LVar} (h : CkB lo W0 cp mp vn T V) (hb : Below W0.heap.size W0 W) (x : Nat) (hx : x < T.nodes.length) :
  ∃ bn on cn, vn = .slice (some ⟨bn, on, none⟩) T.nodes.length cn ∧ ∃ vk vt ve, NodeCells W bn (on + x * 8) (nodeOf T.nodes (x : Int)) vk vt ve ∧ IntsV lo W0 vk (nodeOf T.nodes (x : Int)).kids ∧ IntsV lo W0 vt (nodeOf T.nodes (x : Int)).thn ∧ IntsV lo W0 ve (nodeOf T.nodes (x : Int)).els := by
 obtain ⟨an, cn, rfl, _, hh⟩ := id h.nodes
 obtain ⟨bn, on, rfl, _, hc⟩ := hh (by intro e; rw [e] at hx; simp at hx)
 have hxe : T.nodes[x]? = some (nodeOf T.nodes (x : Int)) := by unfold nodeOf; rw [Int.toNat_natCast, List.getD_eq_getElem?_getD, List.getElem?_eq_getElem hx]; rfl
 obtain ⟨vk, vt, ve, h1, h2⟩ := hc x _ hxe
 exact ⟨bn, on, cn, rfl, vk, vt, ve, h1.keep (lo := 0) (.of_below hb) (Nat.zero_le _), h2.kids, h2.thn, h2.els⟩
set_option maxHeartbeats 1600000 in
theorem indexS_any (a : Option Addr) (c B : Nat) (L : List (List UInt8)) (nm : List UInt8) (W : World) (hL : LoopO W B (.slice a L.length c) L) (hfew : L.length ≤ 1048576) :
  Calls Tryz.prog 153 #[.slice a L.length c, .string (bs nm)] W fun e w' => (∃ i : Int, e = .returned (.int .i64 i) ∧ (0 ≤ i ↔ nm ∈ L)) ∧ w' = W := by
 obtain ⟨a', c', e, hh⟩ := hL.form
 injection e with e1 e2 e3
 subst e1; subst e3
 have HL := hid hh
 clear hh hL
 go_enter Tryz.func153, Tryz.ntmps153
 go_wp2
 go_loopw [8] (fun i wr => ∃ k : Nat, k ≤ L.length ∧ i = .int .i64 k ∧ (nm ∈ L ↔ nm ∈ L.drop k) ∧ SameW wr W) (fun i _ => L.length - (intOf i).toNat)
 case atStart => exact ⟨0, by omega, rfl, by rw [List.drop_zero], rfl⟩
 case round =>
  obtain ⟨k, hk, rfl, hv, hw⟩ := hrel
  have HF : Hid _ := hv
  clear hv
  by_cases hlt : k < L.length
  ·obtain ⟨x, hx⟩ : ∃ x, L[k]? = some x := ⟨L[k], List.getElem?_eq_getElem hlt⟩
   obtain ⟨g, rfl, _, hc1⟩ := HL.out (by intro e; rw [e] at hlt; simp at hlt)
   have c0 : wr.cell? ⟨g, k, none⟩ = _ := (congrArg (fun W => World.cell? W ⟨g, k, none⟩) hw).trans (hc1 k x hx)
   have HX : Hid (L.drop k = x :: L.drop (k + 1)) := by unfold Hid; rw [List.drop_eq_getElem_cons hlt]; rw [List.getElem?_eq_getElem hlt] at hx; injection hx with hx; rw [hx]
   have hk0 : (0 : Int) ≤ (k : Int) := by omega
   have hk1 : (k : Int) < (L.length : Int) := by omega
   clear hx hc1
   by_cases he : nm = x
   ·have HE : Hid (nm ∈ L) := by unfold Hid; rw [HF.out, HX.out, he]; exact List.mem_cons_self
    subst he
    clear HF HX
    go_wp2
    go_ret
    exact ⟨⟨(k : Int), rfl, ⟨fun _ => HE.out, fun _ => hk0⟩⟩, hw⟩
   ·have hne : (nm == x) = false := by simpa using he
    have hne2 : decide (nm = x) = false := decide_eq_false he
    have HE : Hid (nm ∈ L ↔ nm ∈ L.drop (k + 1)) := by unfold Hid; rw [HF.out, HX.out, List.mem_cons]; exact ⟨fun h => h.resolve_left he, .inr⟩
    clear HF HX
    go_wp2
    go_roundw
    case rel => exact ⟨k + 1, by omega, by go_num, HE.out, hw⟩
    case measure => simp [intOf]; omega
  ·have hke : k = L.length := by omega
   have HE : Hid (nm ∉ L) := by unfold Hid; rw [HF.out, hke, List.drop_length]; exact List.not_mem_nil
   clear HF hke HL
   go_wp2
   go_ret
   exact ⟨⟨-1, rfl, ⟨fun h => by omega, fun h => absurd h HE.out⟩⟩, hw⟩
set_option maxHeartbeats 1600000 in
theorem containsS_any (a : Option Addr) (c B : Nat) (L : List (List UInt8)) (nm : List UInt8) (W : World) (hL : LoopO W B (.slice a L.length c) L) (hfew : L.length ≤ 1048576) :
  Calls Tryz.prog 150 #[.slice a L.length c, .string (bs nm)] W fun e w' => e = .returned (.bool (decide (nm ∈ L))) ∧ w' = W := by
 have H : Hid (Calls Tryz.prog 153 #[.slice a L.length c, .string (bs nm)] W fun e w' => (∃ i : Int, e = .returned (.int .i64 i) ∧ (0 ≤ i ↔ nm ∈ L)) ∧ w' = W) := indexS_any a c B L nm W hL hfew
 clear hL
 go_enter Tryz.func150, Tryz.ntmps150
 go_wp2_with fail
 refine H.out.mono ?_
 rintro e w1 ⟨⟨i, rfl, hi⟩, rfl⟩
 have HE : Hid (decide (nm ∈ L) = decide (0 ≤ i)) := by unfold Hid; rw [decide_eq_decide]; exact hi.symm
 clear hi H
 go_wp2_with fail
 go_ret
 exact ⟨by rw [HE.out]; rfl, rfl⟩
end Go.Proofs.YteeklmgkhacbcaaGreatDoor
namespace Go.Proofs.YteeklmgkhacbcaaGreatDoor
open Go.RowKit
set_option linter.unusedVariables false
theorem varFrom_mem (nm : List UInt8) : ∀ (V : List LVar) (i : Nat), 0 ≤ varFrom nm V i ↔ ∃ v ∈ V, v.name = nm := by
 intro V
 induction V with
 | nil => intro i; simp [varFrom]
 | cons v r ih =>
  intro i
  unfold varFrom
  by_cases h : v.name = nm
  ·rw [if_pos h]; exact ⟨fun _ => ⟨v, by simp, h⟩, fun _ => by omega⟩
  ·rw [if_neg h, ih]
   refine ⟨fun ⟨x, hx, e⟩ => ⟨x, by simp [hx], e⟩, fun ⟨x, hx, e⟩ => ?_⟩
   rcases List.mem_cons.1 hx with rfl | hx
   ·exact absurd e h
   ·exact ⟨x, hx, e⟩
theorem dup_pair {V : List LVar} : dupB V = false ↔ V.Pairwise (fun a b => a.name ≠ b.name) := by
 unfold dupB
 rw [List.any_eq_false]
 constructor
 ·intro h
  rw [List.pairwise_iff_getElem]
  intro i j hi hj hij e
  have h1 := h j (List.mem_range.2 hj)
  rw [decide_eq_true_eq, varFrom_mem] at h1
  refine h1 ⟨V[i], ?_, ?_⟩
  ·rw [List.mem_take_iff_getElem]; exact ⟨i, by omega, rfl⟩
  ·rw [List.getD_eq_getElem?_getD, List.getElem?_eq_getElem hj]; exact e
 ·intro h j hj
  have hj := List.mem_range.1 hj
  rw [decide_eq_true_eq, varFrom_mem]
  rintro ⟨v, hv, e⟩
  obtain ⟨i, hi, rfl⟩ := List.mem_take_iff_getElem.1 hv
  rw [List.getD_eq_getElem?_getD, List.getElem?_eq_getElem hj] at e
  exact (List.pairwise_iff_getElem.1 h) i j (by omega) hj (by omega) e
theorem dup_kind (T : LTree) : dupB (allL 3 T) = dupB (allL 0 T) := by
 have hn : (allL 3 T).map LVar.name = (allL 0 T).map LVar.name := by
  unfold allL ownsL
  rw [List.map_append, List.map_append, List.map_flatMap, List.map_flatMap]
  congr 2
  funext n
  unfold ownN
  split
  ·unfold ownOf
   split
   ·rfl
   split
   ·rfl
   split <;> rfl
  ·rfl
 have key : ∀ V : List LVar, V.Pairwise (fun a b => a.name ≠ b.name) ↔ (V.map LVar.name).Pairwise (fun a b => a ≠ b) := fun V => by rw [List.pairwise_map]
 have h : dupB (allL 3 T) = false ↔ dupB (allL 0 T) = false := by rw [dup_pair, dup_pair, key, key, hn]
 cases h1 : dupB (allL 3 T) <;> cases h2 : dupB (allL 0 T) <;> simp_all
def callsL (N : List LNode) : List LVar := (N.filter fun n => decide (n.kind = 11)).map fun n => ⟨n.name, 0, 0, 0⟩
theorem callsL_hit {N : List LNode} {k : Nat} {n : LNode} (h : N[k]? = some n) (e : n.kind = 11) : callsL (N.take (k + 1)) = callsL (N.take k) ++ [⟨n.name, 0, 0, 0⟩] := by
 obtain ⟨hk, rfl⟩ := List.getElem?_eq_some_iff.1 h
 unfold callsL; rw [List.take_succ_eq_append_getElem hk, List.filter_append, List.map_append]
 simp [e]
theorem callsL_miss {N : List LNode} {k : Nat} {n : LNode} (h : N[k]? = some n) (e : n.kind ≠ 11) : callsL (N.take (k + 1)) = callsL (N.take k) := by
 obtain ⟨hk, rfl⟩ := List.getElem?_eq_some_iff.1 h
 unfold callsL; rw [List.take_succ_eq_append_getElem hk, List.filter_append, List.map_append]
 simp [e]
theorem callsL_len (N : List LNode) : (callsL N).length ≤ N.length := by unfold callsL; rw [List.length_map]; exact List.length_filter_le _ _
theorem own_q (K op : Int) (nm : List UInt8) : ∃ v ∈ ownOf K op nm, v.name = nm ++ [113] := by
 unfold ownOf
 split
 ·exact ⟨⟨nm ++ [113], K, 2, 0⟩, by simp, rfl⟩
 split
 ·exact ⟨⟨nm ++ [113], K, 2, 0⟩, by simp, rfl⟩
 split
 ·exact ⟨⟨nm ++ [113], K, 2, 0⟩, by simp, rfl⟩
 ·exact ⟨⟨nm ++ [113], K, 2, 0⟩, by simp, rfl⟩
theorem calls_fresh {T : LTree} {K : Int} (h : dupB (allL K T) = false) {k : Nat} {n : LNode} (hk : T.nodes[k]? = some n) (hc : n.kind = 11) : varFrom n.name (callsL (T.nodes.take k)) 0 < 0 := by
 refine Classical.byContradiction fun hh => ?_
 obtain ⟨v, hv, e⟩ := (varFrom_mem n.name (callsL (T.nodes.take k)) 0).1 (by omega)
 unfold callsL at hv
 obtain ⟨m, hm, rfl⟩ := List.mem_map.1 hv
 obtain ⟨hm1, hm2⟩ := List.mem_filter.1 hm
 obtain ⟨i, hi, rfl⟩ := List.mem_take_iff_getElem.1 hm1
 have hm3 : (T.nodes[i]).kind = 11 := of_decide_eq_true hm2
 obtain ⟨hkl, rfl⟩ := List.getElem?_eq_some_iff.1 hk
 have hp := dup_pair.1 h
 unfold allL ownsL at hp
 have h2 := (List.pairwise_append.1 hp).2.1
 rw [List.pairwise_flatMap] at h2
 have h3 := (List.pairwise_iff_getElem.1 h2.2) i k (by omega) hkl (by omega)
 obtain ⟨a, ha, ea⟩ := own_q K (T.nodes[i]).op (T.nodes[i]).name
 obtain ⟨b, hb, eb⟩ := own_q K (T.nodes[k]).op (T.nodes[k]).name
 refine h3 a (by unfold ownN; rw [if_pos hm3]; exact ha) b (by unfold ownN; rw [if_pos hc]; exact hb) ?_
 rw [ea, eb]
 simp only at e
 rw [e]
theorem any_drop_step {V : List LVar} {k : Nat} {v : LVar} (h : V[k]? = some v) : (V.drop k).any (fun v => !isNameL v.name) = (!isNameL v.name || (V.drop (k + 1)).any (fun v => !isNameL v.name)) := by
 obtain ⟨hk, rfl⟩ := List.getElem?_eq_some_iff.1 h
 rw [List.drop_eq_getElem_cons hk, List.any_cons]
theorem dup_step {V : List LVar} {k : Nat} (hk : k < V.length) : (List.range (k + 1)).any (fun i => decide (0 ≤ varFrom (V.getD i default).name (V.take i) 0)) = ((List.range k).any (fun i => decide (0 ≤ varFrom (V.getD i default).name (V.take i) 0)) || decide (0 ≤ varFrom (V.getD k default).name (V.take k) 0)) := by
 rw [List.range_succ, List.any_append]; simp
theorem dup_hit {V : List LVar} {k : Nat} (hk : k < V.length) (h : 0 ≤ varFrom (V.getD k default).name (V.take k) 0) : dupB V = true := by
 unfold dupB
 rw [List.any_eq_true]
 exact ⟨k, List.mem_range.2 hk, decide_eq_true h⟩
theorem dup_none {V : List LVar} (h : ∀ k, k < V.length → varFrom (V.getD k default).name (V.take k) 0 < 0) : dupB V = false := by
 unfold dupB
 rw [List.any_eq_false]
 intro i hi
 have := h i (List.mem_range.1 hi)
 rw [decide_eq_true_eq]; omega
end Go.Proofs.YteeklmgkhacbcaaGreatDoor
