/-
  (*impl.checker).partsFit, from contracts of typeOf at the kids.
-/
import Derived.Test.YtepjaoapjpmjkaaGreatDoorCheckQ
namespace Go.Proofs.YtepjaoapjpmjkaaGreatDoor
open Go.RowKit
set_option linter.unusedVariables false
attribute [local go_sem] bs_size bs_get bs_extract bs_append bs_eq bs_toList
theorem namedF_or (V : List LVar) (nv : Nat) (n : LNode) (x : Int) : namedF V nv n x = (0, 0) ∨ (namedF V nv n x).1 ≠ 0 := by
 unfold namedF
 split
 ·exact .inr (show (4 : Int) ≠ 0 by decide)
 split
 ·exact .inr (show (1 : Int) ≠ 0 by decide)
 ·exact .inl rfl
theorem namedV_form (V : List LVar) (nv : Nat) (n : LNode) (x : Int) : ∃ y0 y1 y2 y3 y4 y5, namedV V nv n x = .agg #[.string (bs y0), .int .i64 y1, .int .i64 y2, .int .i64 y3, .bool y4, .int .i64 y5] := by
 unfold namedV
 split
 ·exact ⟨_, _, _, _, _, _, rfl⟩
 ·exact ⟨[], 0, 0, 0, false, 0, rfl⟩
set_option maxHeartbeats 12800000 in
set_option maxRecDepth 100000 in
theorem partsFit_any (lo cp mp f : Nat) (W : World) (vn vl : Value) (T : LTree) (V : List LVar) (x : Nat) (hE : CkE lo W cp mp vn vl T V) (hx : x < T.nodes.length) (hV : TypesOk V) (hkind : 1 ≤ (nodeOf T.nodes (x : Int)).kind ∧ (nodeOf T.nodes (x : Int)).kind ≤ 6)
  (hnm : ∀ y : Nat, y < T.nodes.length → (nodeOf T.nodes (y : Int)).name.length ≤ 1048576) (hop : (nodeOf T.nodes (x : Int)).kind = 6 → 1 ≤ (nodeOf T.nodes (x : Int)).op ∧ (nodeOf T.nodes (x : Int)).op ≤ 10)
  (hkn : (3 ≤ (nodeOf T.nodes (x : Int)).kind ∧ (nodeOf T.nodes (x : Int)).kind ≤ 5 → (nodeOf T.nodes (x : Int)).kids.length = 1) ∧ ((nodeOf T.nodes (x : Int)).kind = 6 → (nodeOf T.nodes (x : Int)).kids.length = 2))
  (hks : ∀ y ∈ (nodeOf T.nodes (x : Int)).kids, (0 ≤ y ∧ y < (T.nodes.length : Int)) ∧ (1 ≤ (nodeOf T.nodes y).kind ∧ (nodeOf T.nodes y).kind ≤ 6) ∧ ((nodeOf T.nodes y).kind = 1 → 0 ≤ (nodeOf T.nodes y).num))
  (hT : (nodeOf T.nodes (x : Int)).kids ≠ [] → ∃ f', f = f' + 1 ∧ ∀ y : Nat, (y : Int) ∈ (nodeOf T.nodes (x : Int)).kids → ITypeC lo cp mp vn vl T V (f' + 1) y) :
  Calls Tryz.prog 83 #[.pointer (some ⟨cp, 0, none⟩), .int .i64 (x : Int)] W fun e w' => e = .returned (errV (metT V T (f + 1) (x : Int))) ∧ Below W.heap.size W w' := by
 obtain ⟨bn, on, cn, rfl, vk, vt, ve, ⟨d0, d1, d2, d3, d4, d5, d6, d7⟩, hi, ⟨a, c, rfl⟩, ⟨a2, l2, c2, rfl⟩, ⟨a3, l3, c3, rfl⟩⟩ := hE.node x hx
 have k0 := cell_of_row _ _ 0 _ _ _ hE.row
 simp at k0
 have hnl := hE.good.nodes
 have hx0 : (0 : Int) ≤ (x : Int) := by omega
 have hx1 : (x : Int) < (T.nodes.length : Int) := by omega
 have HMB : Hid ((nodeOf T.nodes (x : Int)).kids ≠ [] → ∀ (W' : World) (g : Nat) (ts : List Int), Below W.heap.size W W' → W'.heap[g]? = some (.cells (ts.map (Value.int .i64)).toArray 2 (0, 0)) → (nodeOf T.nodes (x : Int)).kids.length = ts.length → (nodeOf T.nodes (x : Int)).kids.length ≤ 3 →
   Calls Tryz.prog 120 #[.pointer (some ⟨cp, 0, none⟩), .slice a (nodeOf T.nodes (x : Int)).kids.length c, .slice (some ⟨g, 0, none⟩) ts.length ts.length] W' fun e w' => e = .returned (errV (mustsF V T f (nodeOf T.nodes (x : Int)).kids ts (0, 0))) ∧ Below W'.heap.size W' w') := fun hne W' g ts hb hg hl h3 => by
  obtain ⟨f', rfl, hc⟩ := hT hne
  exact mustBe_any lo lo 0 cp mp f' W' _ vl _ _ T V _ ts (hE.below hb) hl h3 hks (hi.below hb) (ints_of_cells hg rfl rfl (Nat.zero_le _)) hc
 have HNA : Hid (∀ W', Below W.heap.size W W' → Calls Tryz.prog 119 #[.pointer (some ⟨cp, 0, none⟩), .int .i64 (x : Int)] W' fun e w' => e = .returned (.tuple #[namedV V T.vars.length (nodeOf T.nodes (x : Int)) (x : Int), errV (namedF V T.vars.length (nodeOf T.nodes (x : Int)) (x : Int))]) ∧ Below W'.heap.size W' w') := fun W' hb => named_any lo cp mp W' _ vl T V x (hE.below hb) hx (hnm x hx)
 have HSI : Hid ((nodeOf T.nodes (x : Int)).kind = 6 → ∀ W', Below W.heap.size W W' → Calls Tryz.prog 121 #[.pointer (some ⟨cp, 0, none⟩), nodeV (nodeOf T.nodes (x : Int)) (.slice a (nodeOf T.nodes (x : Int)).kids.length c) (.slice a2 l2 c2) (.slice a3 l3 c3)] W' fun e w' => e = .returned (.int .i64 (sidesT V T.nodes (nodeOf T.nodes (x : Int)))) ∧ Below W'.heap.size W' w') := fun h6 W' hb => sides_any lo cp mp W' _ vl _ _ _ T V _ (hE.below hb) (hkn.2 h6) (fun y hy => (hks y hy).1) (hi.below hb) ⟨_, _, _, rfl⟩ ⟨_, _, _, rfl⟩ (hop h6) hnm
 obtain ⟨m, hm⟩ : ∃ m, m = metT V T (f + 1) (x : Int) := ⟨_, rfl⟩
 rw [← hm]
 obtain ⟨ev, hev⟩ : ∃ ev, ev = errV m := ⟨_, rfl⟩
 rw [← hev]
 have HEV : Hid (ev = errV m) := hev
 have HM := hid hm
 have HV : Hid (TypesOk V) := hV
 have HKN := hkn
 obtain ⟨y0, y1, y2, y3, y4, y5, hnv⟩ := namedV_form V T.vars.length (nodeOf T.nodes (x : Int)) (x : Int)
 rw [hnv] at HNA
 have hb1 : Below W.heap.size W (W.alloc (.cells #[.int .i64 (nodeOf T.nodes (x : Int)).kind, .int .i64 (nodeOf T.nodes (x : Int)).op, .string (bs (nodeOf T.nodes (x : Int)).name), .int .i64 (nodeOf T.nodes (x : Int)).num, .int .i64 (nodeOf T.nodes (x : Int)).far, .slice a (nodeOf T.nodes (x : Int)).kids.length c, .slice a2 l2 c2, .slice a3 l3 c3] 66)) := (Below.refl _ _).alloc (Nat.le_refl _) _
 have HB1 : Hid _ := hb1
 clear hm hV hkn hks hT hop hi hE hb1 hnm hnv hev
 by_cases h1 : (nodeOf T.nodes (x : Int)).kind = 1
 ·have HR : Hid (m = (0, 0)) := by unfold Hid; rw [HM.out, metT_num h1]
  clear HM HMB HNA HSI HB1 HKN hkind
  generalize nodeOf T.nodes (x : Int) = n at *
  go_enter Tryz.func83, Tryz.ntmps83
  go_wp2
  go_ret
  exact ⟨by rw [HEV.out, HR.out]; rfl, by go_grown⟩
 by_cases h2 : (nodeOf T.nodes (x : Int)).kind = 2
 ·have HR : Hid (m = namedF V T.vars.length (nodeOf T.nodes (x : Int)) (x : Int)) := by unfold Hid; rw [HM.out, metT_name h2]
  clear HM HMB HSI HKN hkind h1
  rw [← HR.out, ← HEV.out] at HNA
  generalize nodeOf T.nodes (x : Int) = n at *
  rw [h2] at HB1
  clear HR
  go_enter Tryz.func83, Tryz.ntmps83
  go_wp2_with fail
  refine (HNA.out _ HB1.out).mono ?_
  rintro e w2 ⟨rfl, hb⟩
  have HB2 : Hid (Below W.heap.size W w2) := HB1.out.trans (hb.mono HB1.out.size)
  clear hb HNA HB1 d0 d1 d2 d3 d4 d5 d6 d7 k0
  have hsz := HB2.out.size
  go_wp2_with fail
  go_ret
  exact ⟨rfl, HB2.out.alloc hsz _⟩
 by_cases h4 : (nodeOf T.nodes (x : Int)).kind = 4
 ·obtain ⟨k, hk⟩ : ∃ k, (nodeOf T.nodes (x : Int)).kids = [k] := by
   match hl : (nodeOf T.nodes (x : Int)).kids, HKN.1 ⟨by omega, by omega⟩ with
   | [k], _ => exact ⟨k, rfl⟩
  have HR : Hid (m = mustsF V T f [k] [1] (0, 0)) := by unfold Hid; rw [HM.out, metT_neg h4 hk]
  rw [hk] at HMB d5 HB1
  clear HM HNA HSI HKN hkind h1 h2
  generalize nodeOf T.nodes (x : Int) = n at *
  rw [h4] at HB1
  go_enter Tryz.func83, Tryz.ntmps83
  go_wp2_with fail
  refine (HMB.out (by simp) _ (W.heap.size + 1) [1] ?_ ?_ rfl (by simp)).mono ?_
  ·exact HB1.out.trans (((Below.refl _ _).alloc (Nat.le_refl _) _).mono HB1.out.size)
  ·have h := heap_alloc_new (W.alloc (.cells #[.int .i64 4, .int .i64 n.op, .string (bs n.name), .int .i64 n.num, .int .i64 n.far, .slice a [k].length c, .slice a2 l2 c2, .slice a3 l3 c3] 66)) (.cells #[.int .i64 1] 2)
   rwa [World.size_alloc] at h
  rintro e w2 ⟨rfl, hb⟩
  rw [← HR.out, ← HEV.out]
  have HB2 : Hid (Below W.heap.size W w2) := (HB1.out.trans (((Below.refl _ _).alloc (Nat.le_refl _) _).mono HB1.out.size)).trans (hb.mono (by simp; omega))
  clear hb HR HMB HB1
  go_wp2_with fail
  go_ret
  exact ⟨rfl, HB2.out⟩
 by_cases h5 : (nodeOf T.nodes (x : Int)).kind = 5
 ·obtain ⟨k, hk⟩ : ∃ k, (nodeOf T.nodes (x : Int)).kids = [k] := by
   match hl : (nodeOf T.nodes (x : Int)).kids, HKN.1 ⟨by omega, by omega⟩ with
   | [k], _ => exact ⟨k, rfl⟩
  have HR : Hid (m = mustsF V T f [k] [2] (0, 0)) := by unfold Hid; rw [HM.out, metT_not h5 hk]
  rw [hk] at HMB d5 HB1
  clear HM HNA HSI HKN hkind h1 h2
  generalize nodeOf T.nodes (x : Int) = n at *
  rw [h5] at HB1
  go_enter Tryz.func83, Tryz.ntmps83
  go_wp2_with fail
  refine (HMB.out (by simp) _ (W.heap.size + 1) [2] ?_ ?_ rfl (by simp)).mono ?_
  ·exact HB1.out.trans (((Below.refl _ _).alloc (Nat.le_refl _) _).mono HB1.out.size)
  ·have h := heap_alloc_new (W.alloc (.cells #[.int .i64 5, .int .i64 n.op, .string (bs n.name), .int .i64 n.num, .int .i64 n.far, .slice a [k].length c, .slice a2 l2 c2, .slice a3 l3 c3] 66)) (.cells #[.int .i64 2] 2)
   rwa [World.size_alloc] at h
  rintro e w2 ⟨rfl, hb⟩
  rw [← HR.out, ← HEV.out]
  have HB2 : Hid (Below W.heap.size W w2) := (HB1.out.trans (((Below.refl _ _).alloc (Nat.le_refl _) _).mono HB1.out.size)).trans (hb.mono (by simp; omega))
  clear hb HR HMB HB1
  go_wp2_with fail
  go_ret
  exact ⟨rfl, HB2.out⟩
 by_cases h6 : (nodeOf T.nodes (x : Int)).kind = 6
 ·obtain ⟨k, l, hk⟩ : ∃ k l, (nodeOf T.nodes (x : Int)).kids = [k, l] := by
   match hl : (nodeOf T.nodes (x : Int)).kids, HKN.2 h6 with
   | [k, l], _ => exact ⟨k, l, rfl⟩
  have HR : Hid (m = mustsF V T f [k, l] [sidesT V T.nodes (nodeOf T.nodes (x : Int)), sidesT V T.nodes (nodeOf T.nodes (x : Int))] (0, 0)) := by unfold Hid; rw [HM.out, metT_two HV.out h6 hk]
  have HS2 := HSI.out h6
  have HS3 : Hid (∀ W', Below W.heap.size W W' → Calls Tryz.prog 121 #[.pointer (some ⟨cp, 0, none⟩), nodeV (nodeOf T.nodes (x : Int)) (.slice a (nodeOf T.nodes (x : Int)).kids.length c) (.slice a2 l2 c2) (.slice a3 l3 c3)] W' fun e w' => e = .returned (.int .i64 (sidesT V T.nodes (nodeOf T.nodes (x : Int)))) ∧ Below W'.heap.size W' w') := HS2
  clear HS2 HSI HM HNA HKN hkind h1 h2 h4 h5 HV
  generalize sidesT V T.nodes (nodeOf T.nodes (x : Int)) = sd at *
  rw [hk] at HMB d5 HB1 HS3
  generalize nodeOf T.nodes (x : Int) = n at *
  rw [h6] at HB1
  go_enter Tryz.func83, Tryz.ntmps83
  go_wp2_with fail
  have HS4 : Hid (∀ W', Below W.heap.size W W' → Calls Tryz.prog 121 #[.pointer (some ⟨cp, 0, none⟩), .agg #[.int .i64 6, .int .i64 n.op, .string (bs n.name), .int .i64 n.num, .int .i64 n.far, .slice a [k, l].length c, .slice a2 l2 c2, .slice a3 l3 c3]] W' fun e w' => e = .returned (.int .i64 sd) ∧ Below W'.heap.size W' w') := fun W' h => by have := HS3.out W' h; rw [← h6]; exact this
  have hA := heap_alloc_new W (.cells #[.int .i64 6, .int .i64 n.op, .string (bs n.name), .int .i64 n.num, .int .i64 n.far, .slice a [k, l].length c, .slice a2 l2 c2, .slice a3 l3 c3] 66)
  refine (HS4.out _ HB1.out).mono ?_
  rintro e w2 ⟨rfl, hb⟩
  have hA2 := blk hA hb
  have e5 : w2.cell? ⟨W.heap.size, 5, none⟩ = some (.slice a [k, l].length c) := cell_of_row _ _ 5 _ _ _ hA2
  have HB2 : Hid (Below W.heap.size W w2) := HB1.out.trans (hb.mono HB1.out.size)
  have hsz := HB2.out.size
  clear hb HS3 HS4 HB1 hA hA2 d0 d1 d2 d3 d4 d5 d6 d7 k0
  go_wp2_with fail
  refine (HMB.out (by simp) _ w2.heap.size [sd, sd] ?_ (heap_alloc_new w2 _) rfl (by simp)).mono ?_
  ·exact HB2.out.alloc hsz _
  rintro e w3 ⟨rfl, hb⟩
  rw [← HR.out, ← HEV.out]
  have HB3 : Hid (Below W.heap.size W w3) := (HB2.out.alloc hsz _).trans (hb.mono (by simp; omega))
  clear hb HR HMB HB2
  go_wp2_with fail
  go_ret
  exact ⟨rfl, HB3.out⟩
 have h3 : (nodeOf T.nodes (x : Int)).kind = 3 := by omega
 obtain ⟨k, hk⟩ : ∃ k, (nodeOf T.nodes (x : Int)).kids = [k] := by
  match hl : (nodeOf T.nodes (x : Int)).kids, HKN.1 ⟨by omega, by omega⟩ with
  | [k], _ => exact ⟨k, rfl⟩
 have HR0 := metT_item (V := V) (T := T) (f := f) (x := (x : Int)) h3 hk
 have hor := namedF_or V T.vars.length (nodeOf T.nodes (x : Int)) (x : Int)
 rw [← HM.out] at HR0
 rw [hk] at HMB d5 HB1
 clear HSI HKN hkind h1 h2 h4 h5 h6 HV
 obtain ⟨q, hq⟩ : ∃ q, q = namedF V T.vars.length (nodeOf T.nodes (x : Int)) (x : Int) := ⟨_, rfl⟩
 rw [← hq] at HNA HR0 hor
 clear hq HM
 generalize nodeOf T.nodes (x : Int) = n at *
 rw [h3] at HB1
 rcases hor with rfl | hne
 ·have HR : Hid (m = mustsF V T f [k] [1] (0, 0)) := by unfold Hid; rw [HR0, if_neg (by simp)]
  have HNB : Hid (∀ W', Below W.heap.size W W' → Calls Tryz.prog 119 #[.pointer (some ⟨cp, 0, none⟩), .int .i64 (x : Int)] W' fun e w' => e = .returned (.tuple #[.agg #[.string (bs y0), .int .i64 y1, .int .i64 y2, .int .i64 y3, .bool y4, .int .i64 y5], .nilIface]) ∧ Below W'.heap.size W' w') := HNA.out
  clear HNA HR0
  go_enter Tryz.func83, Tryz.ntmps83
  go_wp2_with fail
  have hA := heap_alloc_new W (.cells #[.int .i64 3, .int .i64 n.op, .string (bs n.name), .int .i64 n.num, .int .i64 n.far, .slice a [k].length c, .slice a2 l2 c2, .slice a3 l3 c3] 66)
  refine (HNB.out _ HB1.out).mono ?_
  rintro e w2 ⟨rfl, hb⟩
  have hA2 := blk hA hb
  have HB2 : Hid (Below W.heap.size W w2) := HB1.out.trans (hb.mono HB1.out.size)
  have hsz := HB2.out.size
  have hVB : Below w2.heap.size w2 (w2.alloc (.cells #[.string (bs y0), .int .i64 y1, .int .i64 y2, .int .i64 y3, .bool y4, .int .i64 y5] 158)) := (Below.refl _ _).alloc (Nat.le_refl _) _
  have hA3 := blk hA2 hVB
  have e5 : (w2.alloc (.cells #[.string (bs y0), .int .i64 y1, .int .i64 y2, .int .i64 y3, .bool y4, .int .i64 y5] 158)).cell? ⟨W.heap.size, 5, none⟩ = some (.slice a [k].length c) := cell_of_row _ _ 5 _ _ _ hA3
  have HB3 : Hid (Below W.heap.size W (w2.alloc (.cells #[.string (bs y0), .int .i64 y1, .int .i64 y2, .int .i64 y3, .bool y4, .int .i64 y5] 158))) := HB2.out.alloc hsz _
  have hsz3 := HB3.out.size
  clear hb HNB HB1 hA hA2 hA3 hVB d0 d1 d2 d3 d4 d5 d6 d7 k0 HB2
  go_wp2_with fail
  refine (HMB.out (by simp) _ (w2.heap.size + 1) [1] ?_ ?_ rfl (by simp)).mono ?_
  ·exact HB3.out.alloc hsz3 _
  ·have h := heap_alloc_new (w2.alloc (.cells #[.string (bs y0), .int .i64 y1, .int .i64 y2, .int .i64 y3, .bool y4, .int .i64 y5] 158)) (.cells #[.int .i64 1] 2)
   rwa [World.size_alloc] at h
  rintro e w4 ⟨rfl, hb⟩
  rw [← HR.out, ← HEV.out]
  have HB4 : Hid (Below W.heap.size W w4) := (HB3.out.alloc hsz3 _).trans (hb.mono (by simp; omega))
  clear hb HR HMB HB3
  go_wp2_with fail
  go_ret
  exact ⟨rfl, HB4.out⟩
 ·have HR : Hid (m = q) := by unfold Hid; rw [HR0, if_pos hne]
  rw [errV_met hne] at HNA
  have HEV2 : Hid (ev = .iface 85 (.agg #[.int .i64 q.1, .int .i64 q.2])) := by unfold Hid; rw [HEV.out, HR.out]; exact errV_met hne
  clear HR0 HR HEV HMB hne
  generalize q.1 = q1 at *
  generalize q.2 = q2 at *
  go_enter Tryz.func83, Tryz.ntmps83
  go_wp2_with fail
  refine (HNA.out _ HB1.out).mono ?_
  rintro e w2 ⟨rfl, hb⟩
  have HB2 : Hid (Below W.heap.size W w2) := HB1.out.trans (hb.mono HB1.out.size)
  have hsz := HB2.out.size
  clear hb HNA HB1 d0 d1 d2 d3 d4 d5 d6 d7 k0
  go_wp2_with fail
  go_ret
  exact ⟨by rw [HEV2.out]; rfl, HB2.out.alloc hsz _⟩
end Go.Proofs.YtepjaoapjpmjkaaGreatDoor
