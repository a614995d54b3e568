/-
  Appending nothing.
-/
import Derived.Test.YtepjaoapjpmjkaaGreatDoorIFit
import Derived.Test.YtepjaoapjpmjkaaGreatDoorCheckS
import Derived.Test.YtepjaoapjpmjkaaGreatDoorTreeTo
import Derived.Test.YtepjaoapjpmjkaaGreatDoorCheckM
import Derived.Deep.RegionHeld3
import Derived.Test.YtepjaoapjpmjkaaGreatDoorTreeTo
import Derived.Laws.AppendOwn
namespace Go.Proofs.YtepjaoapjpmjkaaGreatDoor
open Go.RowKit
set_option linter.unusedVariables false
attribute [local go_sem] bs_size bs_get bs_extract bs_append bs_eq bs_toList
def FitsE (T : LTree) : Prop := ∀ x : Nat, x < T.nodes.length → 1 ≤ (nodeOf T.nodes (x : Int)).kind ∧ (nodeOf T.nodes (x : Int)).kind ≤ 6 →
 ((nodeOf T.nodes (x : Int)).kind = 6 → 1 ≤ (nodeOf T.nodes (x : Int)).op ∧ (nodeOf T.nodes (x : Int)).op ≤ 10) ∧
 ((3 ≤ (nodeOf T.nodes (x : Int)).kind ∧ (nodeOf T.nodes (x : Int)).kind ≤ 5 → (nodeOf T.nodes (x : Int)).kids.length = 1) ∧ ((nodeOf T.nodes (x : Int)).kind = 6 → (nodeOf T.nodes (x : Int)).kids.length = 2)) ∧
 ∀ y ∈ (nodeOf T.nodes (x : Int)).kids, (0 ≤ y ∧ y < (x : Int)) ∧ (1 ≤ (nodeOf T.nodes y).kind ∧ (nodeOf T.nodes y).kind ≤ 6) ∧ ((nodeOf T.nodes y).kind = 1 → 0 ≤ (nodeOf T.nodes y).num)
set_option maxHeartbeats 6400000 in
set_option maxRecDepth 100000 in
theorem typeOf_step (lo cp mp f : Nat) (W : World) (vn vl : Value) (T : LTree) (V : List LVar) (x : Nat) (hE : CkE lo W cp mp vn vl T V) (hx : x < T.nodes.length) (hnm : ∀ y : Nat, y < T.nodes.length → (nodeOf T.nodes (y : Int)).name.length ≤ 1048576)
  (hP : Calls Tryz.prog 83 #[.pointer (some ⟨cp, 0, none⟩), .int .i64 (x : Int)] W fun e w' => e = .returned (errV (metT V T (f + 1) (x : Int))) ∧ Below W.heap.size W w') :
  Calls Tryz.prog 41 #[.pointer (some ⟨cp, 0, none⟩), .int .i64 (x : Int)] W fun e w' => e = .returned (.tuple #[.int .i64 (if (metT V T (f + 1) (x : Int)).1 = 0 then plainT V (nodeOf T.nodes (x : Int)) else 0), errV (metT V T (f + 1) (x : Int))]) ∧ Below W.heap.size W w' := by
 have HPL : Hid (∀ W', Below W.heap.size W W' → Calls Tryz.prog 84 #[.pointer (some ⟨cp, 0, none⟩), .int .i64 (x : Int)] W' fun e w' => e = .returned (.int .i64 (plainT V (nodeOf T.nodes (x : Int)))) ∧ Below W'.heap.size W' w') := fun W' hb => plainType_any lo cp mp W' vn vl T V x (hE.below hb) hx (hnm x hx)
 generalize metT V T (f + 1) (x : Int) = m at *
 generalize plainT V (nodeOf T.nodes (x : Int)) = g at *
 clear hE hnm hx
 by_cases hz : m.1 = 0
 ·rw [if_pos hz, errV_zero hz]
  rw [errV_zero hz] at hP
  have HP := hid hP
  clear hP hz
  go_enter Tryz.func41, Tryz.ntmps41
  go_wp2_with fail
  refine HP.out.mono ?_
  rintro e w2 ⟨rfl, hb⟩
  have HB := hid hb
  clear hb HP
  go_wp2_with fail
  refine (HPL.out _ HB.out).mono ?_
  rintro e w3 ⟨rfl, hb⟩
  have HB2 : Hid (Below W.heap.size W w3) := HB.out.trans (hb.mono HB.out.size)
  clear hb HPL HB
  go_wp2_with fail
  go_returns
  exact ⟨rfl, HB2.out⟩
 ·rw [if_neg hz, errV_met hz]
  rw [errV_met hz] at hP
  generalize m.1 = m1 at *
  generalize m.2 = m2 at *
  have HP := hid hP
  clear hP hz HPL
  go_enter Tryz.func41, Tryz.ntmps41
  go_wp2_with fail
  refine HP.out.mono ?_
  rintro e w2 ⟨rfl, hb⟩
  have HB := hid hb
  clear hb HP
  go_wp2_with fail
  go_returns
  exact ⟨rfl, HB.out⟩
theorem typeOf_all (lo cp mp : Nat) (vn vl : Value) (T : LTree) (V : List LVar) (hV : TypesOk V) (hF : FitsE T) (hnm : ∀ y : Nat, y < T.nodes.length → (nodeOf T.nodes (y : Int)).name.length ≤ 1048576) :
  ∀ (x : Nat), x < T.nodes.length → 1 ≤ (nodeOf T.nodes (x : Int)).kind ∧ (nodeOf T.nodes (x : Int)).kind ≤ 6 → ∀ f, x ≤ f → ITypeC lo cp mp vn vl T V (f + 1) x := by
 intro x
 induction x using Nat.strongRecOn with
 | _ x ih =>
  intro hx hk f hf W hE
  obtain ⟨h1, h2, h3⟩ := hF x hx hk
  refine typeOf_step lo cp mp f W vn vl T V x hE hx hnm (partsFit_any lo cp mp f W vn vl T V x hE hx hV hk hnm h1 h2 (fun y hy => ⟨⟨(h3 y hy).1.1, by have := (h3 y hy).1.2; omega⟩, (h3 y hy).2⟩) (fun hne => ?_))
  obtain ⟨y0, hy0⟩ := List.exists_mem_of_ne_nil _ hne
  have hp := (h3 y0 hy0).1
  refine ⟨f - 1, by omega, fun y hy => ?_⟩
  have hy2 := (h3 (y : Int) hy).1
  exact ih y (by omega) (by omega) (h3 (y : Int) hy).2.1 (f - 1) (by omega)
end Go.Proofs.YtepjaoapjpmjkaaGreatDoor
namespace Go.Proofs.YtepjaoapjpmjkaaGreatDoor
open Go.RowKit
set_option linter.unusedVariables false
theorem cellsL_kind (T : LTree) (n : Nat) : cellsL ((allL 3 T).take n) = cellsL ((allL 0 T).take n) := by
 have h1 : ∀ (V W : List LVar), V.map szV = W.map szV → cellsL V = cellsL W := by
  intro V W h
  have : ∀ (V : List LVar) (a : Int), V.foldl (fun s v => s + szV v) a = (V.map szV).foldl (fun s z => s + z) a := by
   intro V; induction V with
   | nil => intro a; rfl
   | cons v r ih => intro a; exact ih _
  unfold cellsL; rw [this, this, h]
 have h2 : ∀ op nm, (ownOf 3 op nm).map szV = (ownOf 0 op nm).map szV := by
  intro op nm; unfold ownOf
  split
  ·rfl
  split
  ·rfl
  split <;> rfl
 have h3 : (allL 3 T).map szV = (allL 0 T).map szV := by
  unfold allL ownsL
  rw [List.map_append, List.map_append, List.map_flatMap, List.map_flatMap]
  congr 2
  funext n
  unfold ownN
  split
  ·exact h2 _ _
  ·rfl
 apply h1
 rw [List.map_take, List.map_take, h3]
theorem allL_len (T : LTree) : (allL 3 T).length = (allL 0 T).length := by
 have h2 : ∀ op nm, (ownOf 3 op nm).map szV = (ownOf 0 op nm).map szV := by
  intro op nm; unfold ownOf
  split
  ·rfl
  split
  ·rfl
  split <;> rfl
 have h3 : (allL 3 T).map szV = (allL 0 T).map szV := by
  unfold allL ownsL
  rw [List.map_append, List.map_append, List.map_flatMap, List.map_flatMap]
  congr 2
  funext n
  unfold ownN
  split
  ·exact h2 _ _
  ·rfl
 have := congrArg List.length h3
 simpa using this
theorem varFrom_names (nm : List UInt8) : ∀ (V W : List LVar) (i : Nat), V.map LVar.name = W.map LVar.name → varFrom nm V i = varFrom nm W i := by
 intro V
 induction V with
 | nil => intro W i h; cases W with
  | nil => rfl
  | cons w r => simp at h
 | cons v r ih =>
  intro W i h
  cases W with
  | nil => simp at h
  | cons w s =>
   simp at h
   unfold varFrom
   rw [h.1, ih s (i + 1) h.2]
theorem varFrom_kind (T : LTree) (nm : List UInt8) : varFrom nm (allL 3 T) 0 = varFrom nm (allL 0 T) 0 := by
 apply varFrom_names
 unfold allL ownsL
 rw [List.map_append, List.map_append, List.map_flatMap, List.map_flatMap]
 congr 2
 funext n
 unfold ownN
 split
 ·unfold ownOf
  split
  ·rfl
  split
  ·rfl
  split <;> rfl
 ·rfl
theorem all_names {T : LTree} (h : Good T) (K : Int) : ∀ x ∈ allL K T, x.name.length ≤ 9 := fun x hx => by
 rcases List.mem_append.1 hx with hx | hx
 ·have := (name_len (h.var x hx).1).2; omega
 ·obtain ⟨n, hn, hx⟩ := List.mem_flatMap.1 hx
  unfold ownN at hx
  split at hx
  ·rename_i hk
   obtain ⟨k, hk2, rfl⟩ := List.getElem_of_mem hn
   have h1 := (name_len (own_name (h.node k _ (List.getElem?_eq_getElem hk2)).1 hk)).2
   rw [ownOf_nm] at hx
   obtain ⟨y, hy, rfl⟩ := List.mem_map.1 hx
   have := ownOf_one K _ y hy
   simp; omega
  ·cases hx
end Go.Proofs.YtepjaoapjpmjkaaGreatDoor
namespace Go.Proofs.YtepjaoapjpmjkaaGreatDoor
open Go.RowKit
set_option linter.unusedVariables false
attribute [local go_sem] bs_size bs_get bs_extract bs_append bs_eq bs_toList
set_option maxHeartbeats 800000 in
theorem l5Var_any (nm : List UInt8) (c : UInt8) (t : Int) (w : World) (hn : nm.length ≤ 1048576) :
  Calls Tryz.prog 133 #[.string (bs nm), .string (bs [c]), .int .i64 t] w fun e w' => e = .returned (varV ⟨nm ++ [c], 3, t, 0⟩) ∧ Below w.heap.size w w' := by
 have hsum : ¬ (9223372036854775807 < nm.length + 1) := by omega
 go_enter Tryz.func133, Tryz.ntmps133
 go_wp2
 refine bodyPost_ret (v := varV ⟨nm ++ [c], 3, t, 0⟩) (by simp [results, Tryz.results133, go_sem]) rfl ⟨rfl, by go_grown⟩
set_option maxHeartbeats 6400000 in
set_option maxRecDepth 100000 in
theorem l5Own_1 (n : LNode) (vk vt ve : Value) (w : World) (h1 : ∃ a l c, vk = .slice a l c) (h2 : ∃ a l c, vt = .slice a l c) (h3 : ∃ a l c, ve = .slice a l c) (hn : n.name.length ≤ 1048576) (hop : n.op = 1) :
  Calls Tryz.prog 106 #[nodeV n vk vt ve] w fun e w' => (∃ g, e = .returned (.slice (some ⟨g, 0, none⟩) (ownOf 3 1 n.name).length (ownOf 3 1 n.name).length) ∧ w.heap.size ≤ g ∧ w'.heap[g]? = some (.cells (varCells (ownOf 3 1 n.name)).toArray 108 (0, 0))) ∧ Below w.heap.size w w' := by
 obtain ⟨a, l, c, rfl⟩ := h1
 obtain ⟨a2, l2, c2, rfl⟩ := h2
 obtain ⟨a3, l3, c3, rfl⟩ := h3
 obtain ⟨k, op, nm, num, far, kids, thn, els⟩ := n
 simp only at hop hn ⊢
 subst hop
 have HX : Hid (∀ (c : UInt8) (t : Int) (w : World), Calls Tryz.prog 133 #[.string (bs nm), .string (bs [c]), .int .i64 t] w fun e w' => e = .returned (varV ⟨nm ++ [c], 3, t, 0⟩) ∧ Below w.heap.size w w') := fun c t w => l5Var_any nm c t w hn
 go_enter Tryz.func106, Tryz.ntmps106
 go_wp2_with fail
 have hA := heap_alloc_new w (.cells #[.int .i64 k, .int .i64 1, .string (bs nm), .int .i64 num, .int .i64 far, .slice a l c, .slice a2 l2 c2, .slice a3 l3 c3] 66)
 have hB : Below w.heap.size w (w.alloc (.cells #[.int .i64 k, .int .i64 1, .string (bs nm), .int .i64 num, .int .i64 far, .slice a l c, .slice a2 l2 c2, .slice a3 l3 c3] 66)) := (Below.refl _ _).alloc (Nat.le_refl _) _
 generalize w.alloc (.cells #[.int .i64 k, .int .i64 1, .string (bs nm), .int .i64 num, .int .i64 far, .slice a l c, .slice a2 l2 c2, .slice a3 l3 c3] 66) = W at *
 have hc2 : W.cell? ⟨w.heap.size, 2, none⟩ = some (.string (bs nm)) := cell_of_row _ _ 2 _ _ _ hA
 have hlt : w.heap.size < W.heap.size := blk_lt hA
 have HC2 := hid hc2
 have HB := hid hB
 have HBW : Hid (Below W.heap.size W W.drew) := (Below.refl _ _).drew
 clear hA hB
 go_region_held3 (fun Z => Z.cell? ⟨w.heap.size, 2, none⟩ = some (.string (bs nm))) (go_keep) (first | (go_at_call 133; refine (HX.out _ _ _).mono ?_; rintro e w2 ⟨rfl, hb⟩; have hD : Below W.heap.size W w2 := HBW.out.trans (Below.mono hb HBW.out.size); have k2 := (hD.cell (p := ⟨w.heap.size, 2, none⟩) hlt).trans HC2.out; clear HBW hb; have HBW : Hid (Below W.heap.size W w2) := hD; clear hD))
 go_wp2
 go_ret
 exact ⟨⟨w2.heap.size, rfl, Nat.le_trans HB.out.size HBW.out.size, heap_alloc_new w2 _⟩, (HB.out.trans (HBW.out.mono HB.out.size)).alloc (Nat.le_trans HB.out.size HBW.out.size) _⟩
set_option maxHeartbeats 6400000 in
set_option maxRecDepth 100000 in
theorem l5Own_2 (n : LNode) (vk vt ve : Value) (w : World) (h1 : ∃ a l c, vk = .slice a l c) (h2 : ∃ a l c, vt = .slice a l c) (h3 : ∃ a l c, ve = .slice a l c) (hn : n.name.length ≤ 1048576) (hop : n.op = 2) :
  Calls Tryz.prog 106 #[nodeV n vk vt ve] w fun e w' => (∃ g, e = .returned (.slice (some ⟨g, 0, none⟩) (ownOf 3 2 n.name).length (ownOf 3 2 n.name).length) ∧ w.heap.size ≤ g ∧ w'.heap[g]? = some (.cells (varCells (ownOf 3 2 n.name)).toArray 108 (0, 0))) ∧ Below w.heap.size w w' := by
 obtain ⟨a, l, c, rfl⟩ := h1
 obtain ⟨a2, l2, c2, rfl⟩ := h2
 obtain ⟨a3, l3, c3, rfl⟩ := h3
 obtain ⟨k, op, nm, num, far, kids, thn, els⟩ := n
 simp only at hop hn ⊢
 subst hop
 have HX : Hid (∀ (c : UInt8) (t : Int) (w : World), Calls Tryz.prog 133 #[.string (bs nm), .string (bs [c]), .int .i64 t] w fun e w' => e = .returned (varV ⟨nm ++ [c], 3, t, 0⟩) ∧ Below w.heap.size w w') := fun c t w => l5Var_any nm c t w hn
 go_enter Tryz.func106, Tryz.ntmps106
 go_wp2_with fail
 have hA := heap_alloc_new w (.cells #[.int .i64 k, .int .i64 2, .string (bs nm), .int .i64 num, .int .i64 far, .slice a l c, .slice a2 l2 c2, .slice a3 l3 c3] 66)
 have hB : Below w.heap.size w (w.alloc (.cells #[.int .i64 k, .int .i64 2, .string (bs nm), .int .i64 num, .int .i64 far, .slice a l c, .slice a2 l2 c2, .slice a3 l3 c3] 66)) := (Below.refl _ _).alloc (Nat.le_refl _) _
 generalize w.alloc (.cells #[.int .i64 k, .int .i64 2, .string (bs nm), .int .i64 num, .int .i64 far, .slice a l c, .slice a2 l2 c2, .slice a3 l3 c3] 66) = W at *
 have hc2 : W.cell? ⟨w.heap.size, 2, none⟩ = some (.string (bs nm)) := cell_of_row _ _ 2 _ _ _ hA
 have hlt : w.heap.size < W.heap.size := blk_lt hA
 have HC2 := hid hc2
 have HB := hid hB
 have HBW : Hid (Below W.heap.size W W.drew) := (Below.refl _ _).drew
 clear hA hB
 go_region_held3 (fun Z => Z.cell? ⟨w.heap.size, 2, none⟩ = some (.string (bs nm))) (go_keep) (first | (go_at_call 133; refine (HX.out _ _ _).mono ?_; rintro e w2 ⟨rfl, hb⟩; have hD : Below W.heap.size W w2 := HBW.out.trans (Below.mono hb HBW.out.size); have k2 := (hD.cell (p := ⟨w.heap.size, 2, none⟩) hlt).trans HC2.out; clear HBW hb; have HBW : Hid (Below W.heap.size W w2) := hD; clear hD))
 go_wp2
 go_ret
 exact ⟨⟨w2.heap.size, rfl, Nat.le_trans HB.out.size HBW.out.size, heap_alloc_new w2 _⟩, (HB.out.trans (HBW.out.mono HB.out.size)).alloc (Nat.le_trans HB.out.size HBW.out.size) _⟩
set_option maxHeartbeats 6400000 in
set_option maxRecDepth 100000 in
theorem l5Own_3 (n : LNode) (vk vt ve : Value) (w : World) (h1 : ∃ a l c, vk = .slice a l c) (h2 : ∃ a l c, vt = .slice a l c) (h3 : ∃ a l c, ve = .slice a l c) (hn : n.name.length ≤ 1048576) (hop : n.op = 3) :
  Calls Tryz.prog 106 #[nodeV n vk vt ve] w fun e w' => (∃ g, e = .returned (.slice (some ⟨g, 0, none⟩) (ownOf 3 3 n.name).length (ownOf 3 3 n.name).length) ∧ w.heap.size ≤ g ∧ w'.heap[g]? = some (.cells (varCells (ownOf 3 3 n.name)).toArray 108 (0, 0))) ∧ Below w.heap.size w w' := by
 obtain ⟨a, l, c, rfl⟩ := h1
 obtain ⟨a2, l2, c2, rfl⟩ := h2
 obtain ⟨a3, l3, c3, rfl⟩ := h3
 obtain ⟨k, op, nm, num, far, kids, thn, els⟩ := n
 simp only at hop hn ⊢
 subst hop
 have HX : Hid (∀ (c : UInt8) (t : Int) (w : World), Calls Tryz.prog 133 #[.string (bs nm), .string (bs [c]), .int .i64 t] w fun e w' => e = .returned (varV ⟨nm ++ [c], 3, t, 0⟩) ∧ Below w.heap.size w w') := fun c t w => l5Var_any nm c t w hn
 go_enter Tryz.func106, Tryz.ntmps106
 go_wp2_with fail
 have hA := heap_alloc_new w (.cells #[.int .i64 k, .int .i64 3, .string (bs nm), .int .i64 num, .int .i64 far, .slice a l c, .slice a2 l2 c2, .slice a3 l3 c3] 66)
 have hB : Below w.heap.size w (w.alloc (.cells #[.int .i64 k, .int .i64 3, .string (bs nm), .int .i64 num, .int .i64 far, .slice a l c, .slice a2 l2 c2, .slice a3 l3 c3] 66)) := (Below.refl _ _).alloc (Nat.le_refl _) _
 generalize w.alloc (.cells #[.int .i64 k, .int .i64 3, .string (bs nm), .int .i64 num, .int .i64 far, .slice a l c, .slice a2 l2 c2, .slice a3 l3 c3] 66) = W at *
 have hc2 : W.cell? ⟨w.heap.size, 2, none⟩ = some (.string (bs nm)) := cell_of_row _ _ 2 _ _ _ hA
 have hlt : w.heap.size < W.heap.size := blk_lt hA
 have HC2 := hid hc2
 have HB := hid hB
 have HBW : Hid (Below W.heap.size W W.drew) := (Below.refl _ _).drew
 clear hA hB
 go_region_held3 (fun Z => Z.cell? ⟨w.heap.size, 2, none⟩ = some (.string (bs nm))) (go_keep) (first | (go_at_call 133; refine (HX.out _ _ _).mono ?_; rintro e w2 ⟨rfl, hb⟩; have hD : Below W.heap.size W w2 := HBW.out.trans (Below.mono hb HBW.out.size); have k2 := (hD.cell (p := ⟨w.heap.size, 2, none⟩) hlt).trans HC2.out; clear HBW hb; have HBW : Hid (Below W.heap.size W w2) := hD; clear hD))
 go_wp2
 go_ret
 exact ⟨⟨w2.heap.size, rfl, Nat.le_trans HB.out.size HBW.out.size, heap_alloc_new w2 _⟩, (HB.out.trans (HBW.out.mono HB.out.size)).alloc (Nat.le_trans HB.out.size HBW.out.size) _⟩
set_option maxHeartbeats 6400000 in
set_option maxRecDepth 100000 in
theorem l5Own_4 (n : LNode) (vk vt ve : Value) (w : World) (h1 : ∃ a l c, vk = .slice a l c) (h2 : ∃ a l c, vt = .slice a l c) (h3 : ∃ a l c, ve = .slice a l c) (hn : n.name.length ≤ 1048576) (hop : n.op = 4) :
  Calls Tryz.prog 106 #[nodeV n vk vt ve] w fun e w' => (∃ g, e = .returned (.slice (some ⟨g, 0, none⟩) (ownOf 3 4 n.name).length (ownOf 3 4 n.name).length) ∧ w.heap.size ≤ g ∧ w'.heap[g]? = some (.cells (varCells (ownOf 3 4 n.name)).toArray 108 (0, 0))) ∧ Below w.heap.size w w' := by
 obtain ⟨a, l, c, rfl⟩ := h1
 obtain ⟨a2, l2, c2, rfl⟩ := h2
 obtain ⟨a3, l3, c3, rfl⟩ := h3
 obtain ⟨k, op, nm, num, far, kids, thn, els⟩ := n
 simp only at hop hn ⊢
 subst hop
 have HX : Hid (∀ (c : UInt8) (t : Int) (w : World), Calls Tryz.prog 133 #[.string (bs nm), .string (bs [c]), .int .i64 t] w fun e w' => e = .returned (varV ⟨nm ++ [c], 3, t, 0⟩) ∧ Below w.heap.size w w') := fun c t w => l5Var_any nm c t w hn
 go_enter Tryz.func106, Tryz.ntmps106
 go_wp2_with fail
 have hA := heap_alloc_new w (.cells #[.int .i64 k, .int .i64 4, .string (bs nm), .int .i64 num, .int .i64 far, .slice a l c, .slice a2 l2 c2, .slice a3 l3 c3] 66)
 have hB : Below w.heap.size w (w.alloc (.cells #[.int .i64 k, .int .i64 4, .string (bs nm), .int .i64 num, .int .i64 far, .slice a l c, .slice a2 l2 c2, .slice a3 l3 c3] 66)) := (Below.refl _ _).alloc (Nat.le_refl _) _
 generalize w.alloc (.cells #[.int .i64 k, .int .i64 4, .string (bs nm), .int .i64 num, .int .i64 far, .slice a l c, .slice a2 l2 c2, .slice a3 l3 c3] 66) = W at *
 have hc2 : W.cell? ⟨w.heap.size, 2, none⟩ = some (.string (bs nm)) := cell_of_row _ _ 2 _ _ _ hA
 have hlt : w.heap.size < W.heap.size := blk_lt hA
 have HC2 := hid hc2
 have HB := hid hB
 clear hA hB
 refine (HX.out 113 2 _).mono ?_
 rintro e w2 ⟨rfl, hb⟩
 have HBW := hid hb
 clear hb
 go_wp2_with fail
 go_ret
 exact ⟨⟨w2.heap.size, rfl, Nat.le_trans HB.out.size HBW.out.size, heap_alloc_new w2 _⟩, (HB.out.trans (HBW.out.mono HB.out.size)).alloc (Nat.le_trans HB.out.size HBW.out.size) _⟩
def VarsR (lo : Nat) (w' : World) (e : Ending) (V : List LVar) : Prop := ∃ g, e = .returned (.slice (some ⟨g, 0, none⟩) V.length V.length) ∧ lo ≤ g ∧ w'.heap[g]? = some (.cells (varCells V).toArray 108 (0, 0))
theorem l5Own_any (n : LNode) (vk vt ve : Value) (w : World) (h1 : ∃ a l c, vk = .slice a l c) (h2 : ∃ a l c, vt = .slice a l c) (h3 : ∃ a l c, ve = .slice a l c) (hn : n.name.length ≤ 1048576) (ho1 : 1 ≤ n.op) (ho4 : n.op ≤ 4) :
  Calls Tryz.prog 106 #[nodeV n vk vt ve] w fun e w' => VarsR w.heap.size w' e (ownOf 3 n.op n.name) ∧ Below w.heap.size w w' := by
 have h : n.op = 1 ∨ n.op = 2 ∨ n.op = 3 ∨ n.op = 4 := by omega
 rcases h with h | h | h | h <;> rw [h]
 ·exact l5Own_1 n vk vt ve w h1 h2 h3 hn h
 ·exact l5Own_2 n vk vt ve w h1 h2 h3 hn h
 ·exact l5Own_3 n vk vt ve w h1 h2 h3 hn h
 ·exact l5Own_4 n vk vt ve w h1 h2 h3 hn h
end Go.Proofs.YtepjaoapjpmjkaaGreatDoor
namespace Go.Proofs.YtepjaoapjpmjkaaGreatDoor
open Go.RowKit
set_option linter.unusedVariables false
theorem addr_add0 (g j : Nat) : (⟨g, 0, none⟩ : Addr).add j = ⟨g, j, none⟩ := by
 unfold Addr.add; split <;> simp_all
theorem append_nothing (ty : TypeId) (ad a2 : Option Addr) (n c c2 : Nat) (w : World) (h : n ≤ c) :
  (Builtin.append_ #[31, 31] ty #[.slice ad n c, .slice a2 0 c2]).run Tryz.prog w = .ok (.slice ad n c) w := by
 cases ad <;> cases a2 <;> simp [Builtin.append_, go_sem, h, Builtin.lenOf, Builtin.firstCells, sizeOf]
theorem wpList_append_none {w : World} {ops : Array Oper} {rest : List Oper} {o : Oper} {a : Act} {Q : Exit → Act → World → Prop} (hgd : o.guard = none) (s x : Operand)
  (ho : o.op = .call { callee := .builtin .append, args := #[s, x], argTypes := #[31, 31] }) (ad a2 : Option Addr) (n c c2 : Nat) (hs : a.eval s = .slice ad n c) (hx : a.eval x = .slice a2 0 c2) (hle : n ≤ c)
  (h : wpList Tryz.prog ops Q rest (a.put o.dst (.slice ad n c)) w) : wpList Tryz.prog ops Q (o :: rest) a w :=
 wpList_plain hgd fun _ hK => by
  have hr := append_nothing o.type ad a2 n c c2 w hle
  unfold Oper.wp execOp
  simp only [ho, resolve, invoke, builtin, Sem.run_bind, Sem.run_pure, Result.andThen_ok, List.map_toArray, List.map_cons, List.map_nil, hs, hx, hr]
  exact hK _ _ h
end Go.Proofs.YtepjaoapjpmjkaaGreatDoor
