/-
  impl.blockOf.
-/
import Derived.Test.YtepjaoapjpmjkaaGreatDoorTreeTo
import Derived.Test.YtepjaoapjpmjkaaGreatDoorCheckM
import Derived.Deep.RegionHeld3
import Derived.Test.YtepjaoapjpmjkaaGreatDoorOpenTree
namespace Go.Proofs.YtepjaoapjpmjkaaGreatDoor
open Go.RowKit
set_option linter.unusedVariables false
attribute [local go_sem] bs_size bs_get bs_extract bs_append bs_eq bs_toList
set_option maxHeartbeats 800000 in
theorem l5Var_any (nm : List UInt8) (c : UInt8) (t : Int) (w : World) (hn : nm.length ≤ 1048576) :
  Calls Tryz.prog 133 #[.string (bs nm), .string (bs [c]), .int .i64 t] w fun e w' => e = .returned (varV ⟨nm ++ [c], 3, t, 0⟩) ∧ Below w.heap.size w w' := by
 have hsum : ¬ (9223372036854775807 < nm.length + 1) := by omega
 go_enter Tryz.func133, Tryz.ntmps133
 go_wp2
 refine bodyPost_ret (v := varV ⟨nm ++ [c], 3, t, 0⟩) (by simp [results, Tryz.results133, go_sem]) rfl ⟨rfl, by go_grown⟩
set_option maxHeartbeats 6400000 in
set_option maxRecDepth 100000 in
theorem l5Own_1 (n : LNode) (vk vt ve : Value) (w : World) (h1 : ∃ a l c, vk = .slice a l c) (h2 : ∃ a l c, vt = .slice a l c) (h3 : ∃ a l c, ve = .slice a l c) (hn : n.name.length ≤ 1048576) (hop : n.op = 1) :
  Calls Tryz.prog 106 #[nodeV n vk vt ve] w fun e w' => (∃ g, e = .returned (.slice (some ⟨g, 0, none⟩) (ownOf 3 1 n.name).length (ownOf 3 1 n.name).length) ∧ w.heap.size ≤ g ∧ w'.heap[g]? = some (.cells (varCells (ownOf 3 1 n.name)).toArray 108 (0, 0))) ∧ Below w.heap.size w w' := by
 obtain ⟨a, l, c, rfl⟩ := h1
 obtain ⟨a2, l2, c2, rfl⟩ := h2
 obtain ⟨a3, l3, c3, rfl⟩ := h3
 obtain ⟨k, op, nm, num, far, kids, thn, els⟩ := n
 simp only at hop hn ⊢
 subst hop
 have HX : Hid (∀ (c : UInt8) (t : Int) (w : World), Calls Tryz.prog 133 #[.string (bs nm), .string (bs [c]), .int .i64 t] w fun e w' => e = .returned (varV ⟨nm ++ [c], 3, t, 0⟩) ∧ Below w.heap.size w w') := fun c t w => l5Var_any nm c t w hn
 go_enter Tryz.func106, Tryz.ntmps106
 go_wp2_with fail
 have hA := heap_alloc_new w (.cells #[.int .i64 k, .int .i64 1, .string (bs nm), .int .i64 num, .int .i64 far, .slice a l c, .slice a2 l2 c2, .slice a3 l3 c3] 66)
 have hB : Below w.heap.size w (w.alloc (.cells #[.int .i64 k, .int .i64 1, .string (bs nm), .int .i64 num, .int .i64 far, .slice a l c, .slice a2 l2 c2, .slice a3 l3 c3] 66)) := (Below.refl _ _).alloc (Nat.le_refl _) _
 generalize w.alloc (.cells #[.int .i64 k, .int .i64 1, .string (bs nm), .int .i64 num, .int .i64 far, .slice a l c, .slice a2 l2 c2, .slice a3 l3 c3] 66) = W at *
 have hc2 : W.cell? ⟨w.heap.size, 2, none⟩ = some (.string (bs nm)) := cell_of_row _ _ 2 _ _ _ hA
 have hlt : w.heap.size < W.heap.size := blk_lt hA
 have HC2 := hid hc2
 have HB := hid hB
 have HBW : Hid (Below W.heap.size W W.drew) := (Below.refl _ _).drew
 clear hA hB
 go_region_held3 (fun Z => Z.cell? ⟨w.heap.size, 2, none⟩ = some (.string (bs nm))) (go_keep) (first | (go_at_call 133; refine (HX.out _ _ _).mono ?_; rintro e w2 ⟨rfl, hb⟩; have hD : Below W.heap.size W w2 := HBW.out.trans (Below.mono hb HBW.out.size); have k2 := (hD.cell (p := ⟨w.heap.size, 2, none⟩) hlt).trans HC2.out; clear HBW hb; have HBW : Hid (Below W.heap.size W w2) := hD; clear hD))
 go_wp2
 go_ret
 exact ⟨⟨w2.heap.size, rfl, Nat.le_trans HB.out.size HBW.out.size, heap_alloc_new w2 _⟩, (HB.out.trans (HBW.out.mono HB.out.size)).alloc (Nat.le_trans HB.out.size HBW.out.size) _⟩
set_option maxHeartbeats 6400000 in
set_option maxRecDepth 100000 in
theorem l5Own_2 (n : LNode) (vk vt ve : Value) (w : World) (h1 : ∃ a l c, vk = .slice a l c) (h2 : ∃ a l c, vt = .slice a l c) (h3 : ∃ a l c, ve = .slice a l c) (hn : n.name.length ≤ 1048576) (hop : n.op = 2) :
  Calls Tryz.prog 106 #[nodeV n vk vt ve] w fun e w' => (∃ g, e = .returned (.slice (some ⟨g, 0, none⟩) (ownOf 3 2 n.name).length (ownOf 3 2 n.name).length) ∧ w.heap.size ≤ g ∧ w'.heap[g]? = some (.cells (varCells (ownOf 3 2 n.name)).toArray 108 (0, 0))) ∧ Below w.heap.size w w' := by
 obtain ⟨a, l, c, rfl⟩ := h1
 obtain ⟨a2, l2, c2, rfl⟩ := h2
 obtain ⟨a3, l3, c3, rfl⟩ := h3
 obtain ⟨k, op, nm, num, far, kids, thn, els⟩ := n
 simp only at hop hn ⊢
 subst hop
 have HX : Hid (∀ (c : UInt8) (t : Int) (w : World), Calls Tryz.prog 133 #[.string (bs nm), .string (bs [c]), .int .i64 t] w fun e w' => e = .returned (varV ⟨nm ++ [c], 3, t, 0⟩) ∧ Below w.heap.size w w') := fun c t w => l5Var_any nm c t w hn
 go_enter Tryz.func106, Tryz.ntmps106
 go_wp2_with fail
 have hA := heap_alloc_new w (.cells #[.int .i64 k, .int .i64 2, .string (bs nm), .int .i64 num, .int .i64 far, .slice a l c, .slice a2 l2 c2, .slice a3 l3 c3] 66)
 have hB : Below w.heap.size w (w.alloc (.cells #[.int .i64 k, .int .i64 2, .string (bs nm), .int .i64 num, .int .i64 far, .slice a l c, .slice a2 l2 c2, .slice a3 l3 c3] 66)) := (Below.refl _ _).alloc (Nat.le_refl _) _
 generalize w.alloc (.cells #[.int .i64 k, .int .i64 2, .string (bs nm), .int .i64 num, .int .i64 far, .slice a l c, .slice a2 l2 c2, .slice a3 l3 c3] 66) = W at *
 have hc2 : W.cell? ⟨w.heap.size, 2, none⟩ = some (.string (bs nm)) := cell_of_row _ _ 2 _ _ _ hA
 have hlt : w.heap.size < W.heap.size := blk_lt hA
 have HC2 := hid hc2
 have HB := hid hB
 have HBW : Hid (Below W.heap.size W W.drew) := (Below.refl _ _).drew
 clear hA hB
 go_region_held3 (fun Z => Z.cell? ⟨w.heap.size, 2, none⟩ = some (.string (bs nm))) (go_keep) (first | (go_at_call 133; refine (HX.out _ _ _).mono ?_; rintro e w2 ⟨rfl, hb⟩; have hD : Below W.heap.size W w2 := HBW.out.trans (Below.mono hb HBW.out.size); have k2 := (hD.cell (p := ⟨w.heap.size, 2, none⟩) hlt).trans HC2.out; clear HBW hb; have HBW : Hid (Below W.heap.size W w2) := hD; clear hD))
 go_wp2
 go_ret
 exact ⟨⟨w2.heap.size, rfl, Nat.le_trans HB.out.size HBW.out.size, heap_alloc_new w2 _⟩, (HB.out.trans (HBW.out.mono HB.out.size)).alloc (Nat.le_trans HB.out.size HBW.out.size) _⟩
set_option maxHeartbeats 6400000 in
set_option maxRecDepth 100000 in
theorem l5Own_3 (n : LNode) (vk vt ve : Value) (w : World) (h1 : ∃ a l c, vk = .slice a l c) (h2 : ∃ a l c, vt = .slice a l c) (h3 : ∃ a l c, ve = .slice a l c) (hn : n.name.length ≤ 1048576) (hop : n.op = 3) :
  Calls Tryz.prog 106 #[nodeV n vk vt ve] w fun e w' => (∃ g, e = .returned (.slice (some ⟨g, 0, none⟩) (ownOf 3 3 n.name).length (ownOf 3 3 n.name).length) ∧ w.heap.size ≤ g ∧ w'.heap[g]? = some (.cells (varCells (ownOf 3 3 n.name)).toArray 108 (0, 0))) ∧ Below w.heap.size w w' := by
 obtain ⟨a, l, c, rfl⟩ := h1
 obtain ⟨a2, l2, c2, rfl⟩ := h2
 obtain ⟨a3, l3, c3, rfl⟩ := h3
 obtain ⟨k, op, nm, num, far, kids, thn, els⟩ := n
 simp only at hop hn ⊢
 subst hop
 have HX : Hid (∀ (c : UInt8) (t : Int) (w : World), Calls Tryz.prog 133 #[.string (bs nm), .string (bs [c]), .int .i64 t] w fun e w' => e = .returned (varV ⟨nm ++ [c], 3, t, 0⟩) ∧ Below w.heap.size w w') := fun c t w => l5Var_any nm c t w hn
 go_enter Tryz.func106, Tryz.ntmps106
 go_wp2_with fail
 have hA := heap_alloc_new w (.cells #[.int .i64 k, .int .i64 3, .string (bs nm), .int .i64 num, .int .i64 far, .slice a l c, .slice a2 l2 c2, .slice a3 l3 c3] 66)
 have hB : Below w.heap.size w (w.alloc (.cells #[.int .i64 k, .int .i64 3, .string (bs nm), .int .i64 num, .int .i64 far, .slice a l c, .slice a2 l2 c2, .slice a3 l3 c3] 66)) := (Below.refl _ _).alloc (Nat.le_refl _) _
 generalize w.alloc (.cells #[.int .i64 k, .int .i64 3, .string (bs nm), .int .i64 num, .int .i64 far, .slice a l c, .slice a2 l2 c2, .slice a3 l3 c3] 66) = W at *
 have hc2 : W.cell? ⟨w.heap.size, 2, none⟩ = some (.string (bs nm)) := cell_of_row _ _ 2 _ _ _ hA
 have hlt : w.heap.size < W.heap.size := blk_lt hA
 have HC2 := hid hc2
 have HB := hid hB
 have HBW : Hid (Below W.heap.size W W.drew) := (Below.refl _ _).drew
 clear hA hB
 go_region_held3 (fun Z => Z.cell? ⟨w.heap.size, 2, none⟩ = some (.string (bs nm))) (go_keep) (first | (go_at_call 133; refine (HX.out _ _ _).mono ?_; rintro e w2 ⟨rfl, hb⟩; have hD : Below W.heap.size W w2 := HBW.out.trans (Below.mono hb HBW.out.size); have k2 := (hD.cell (p := ⟨w.heap.size, 2, none⟩) hlt).trans HC2.out; clear HBW hb; have HBW : Hid (Below W.heap.size W w2) := hD; clear hD))
 go_wp2
 go_ret
 exact ⟨⟨w2.heap.size, rfl, Nat.le_trans HB.out.size HBW.out.size, heap_alloc_new w2 _⟩, (HB.out.trans (HBW.out.mono HB.out.size)).alloc (Nat.le_trans HB.out.size HBW.out.size) _⟩
set_option maxHeartbeats 6400000 in
set_option maxRecDepth 100000 in
theorem l5Own_4 (n : LNode) (vk vt ve : Value) (w : World) (h1 : ∃ a l c, vk = .slice a l c) (h2 : ∃ a l c, vt = .slice a l c) (h3 : ∃ a l c, ve = .slice a l c) (hn : n.name.length ≤ 1048576) (hop : n.op = 4) :
  Calls Tryz.prog 106 #[nodeV n vk vt ve] w fun e w' => (∃ g, e = .returned (.slice (some ⟨g, 0, none⟩) (ownOf 3 4 n.name).length (ownOf 3 4 n.name).length) ∧ w.heap.size ≤ g ∧ w'.heap[g]? = some (.cells (varCells (ownOf 3 4 n.name)).toArray 108 (0, 0))) ∧ Below w.heap.size w w' := by
 obtain ⟨a, l, c, rfl⟩ := h1
 obtain ⟨a2, l2, c2, rfl⟩ := h2
 obtain ⟨a3, l3, c3, rfl⟩ := h3
 obtain ⟨k, op, nm, num, far, kids, thn, els⟩ := n
 simp only at hop hn ⊢
 subst hop
 have HX : Hid (∀ (c : UInt8) (t : Int) (w : World), Calls Tryz.prog 133 #[.string (bs nm), .string (bs [c]), .int .i64 t] w fun e w' => e = .returned (varV ⟨nm ++ [c], 3, t, 0⟩) ∧ Below w.heap.size w w') := fun c t w => l5Var_any nm c t w hn
 go_enter Tryz.func106, Tryz.ntmps106
 go_wp2_with fail
 have hA := heap_alloc_new w (.cells #[.int .i64 k, .int .i64 4, .string (bs nm), .int .i64 num, .int .i64 far, .slice a l c, .slice a2 l2 c2, .slice a3 l3 c3] 66)
 have hB : Below w.heap.size w (w.alloc (.cells #[.int .i64 k, .int .i64 4, .string (bs nm), .int .i64 num, .int .i64 far, .slice a l c, .slice a2 l2 c2, .slice a3 l3 c3] 66)) := (Below.refl _ _).alloc (Nat.le_refl _) _
 generalize w.alloc (.cells #[.int .i64 k, .int .i64 4, .string (bs nm), .int .i64 num, .int .i64 far, .slice a l c, .slice a2 l2 c2, .slice a3 l3 c3] 66) = W at *
 have hc2 : W.cell? ⟨w.heap.size, 2, none⟩ = some (.string (bs nm)) := cell_of_row _ _ 2 _ _ _ hA
 have hlt : w.heap.size < W.heap.size := blk_lt hA
 have HC2 := hid hc2
 have HB := hid hB
 clear hA hB
 refine (HX.out 113 2 _).mono ?_
 rintro e w2 ⟨rfl, hb⟩
 have HBW := hid hb
 clear hb
 go_wp2_with fail
 go_ret
 exact ⟨⟨w2.heap.size, rfl, Nat.le_trans HB.out.size HBW.out.size, heap_alloc_new w2 _⟩, (HB.out.trans (HBW.out.mono HB.out.size)).alloc (Nat.le_trans HB.out.size HBW.out.size) _⟩
def VarsR (lo : Nat) (w' : World) (e : Ending) (V : List LVar) : Prop := ∃ g, e = .returned (.slice (some ⟨g, 0, none⟩) V.length V.length) ∧ lo ≤ g ∧ w'.heap[g]? = some (.cells (varCells V).toArray 108 (0, 0))
theorem l5Own_any (n : LNode) (vk vt ve : Value) (w : World) (h1 : ∃ a l c, vk = .slice a l c) (h2 : ∃ a l c, vt = .slice a l c) (h3 : ∃ a l c, ve = .slice a l c) (hn : n.name.length ≤ 1048576) (ho1 : 1 ≤ n.op) (ho4 : n.op ≤ 4) :
  Calls Tryz.prog 106 #[nodeV n vk vt ve] w fun e w' => VarsR w.heap.size w' e (ownOf 3 n.op n.name) ∧ Below w.heap.size w w' := by
 have h : n.op = 1 ∨ n.op = 2 ∨ n.op = 3 ∨ n.op = 4 := by omega
 rcases h with h | h | h | h <;> rw [h]
 ·exact l5Own_1 n vk vt ve w h1 h2 h3 hn h
 ·exact l5Own_2 n vk vt ve w h1 h2 h3 hn h
 ·exact l5Own_3 n vk vt ve w h1 h2 h3 hn h
 ·exact l5Own_4 n vk vt ve w h1 h2 h3 hn h
end Go.Proofs.YtepjaoapjpmjkaaGreatDoor
namespace Go.Proofs.YtepjaoapjpmjkaaGreatDoor
open Go.RowKit
set_option linter.unusedVariables false
theorem rowE_shape {w : World} {B z n : Nat} {T : TypeId} {v : Value} {xs : List Value} (h : w.ownsRow B T z v n xs) : ∃ a cap, v = .slice a n cap := by
 rcases h.2 with ⟨rfl, rfl⟩ | ⟨g, c, cur, rfl, _⟩
 ·exact ⟨_, _, rfl⟩
 ·exact ⟨_, _, rfl⟩
theorem rowE_mono {w : World} {B C z n : Nat} {T : TypeId} {v : Value} {xs : List Value} (h : w.ownsRow B T z v n xs) (hC : C ≤ B) : w.ownsRow C T z v n xs := by
 refine ⟨h.1, ?_⟩
 rcases h.2 with h2 | ⟨g, c, cur, rfl, hg, hr⟩
 ·exact .inl h2
 ·exact .inr ⟨g, c, cur, rfl, by omega, hr⟩
theorem rowE_same {w w' : World} {B z n : Nat} {T : TypeId} {v : Value} {xs : List Value} (h : w.ownsRow B T z v n xs) (hs : ∀ g, B ≤ g → g < w.heap.size → w'.heap[g]? = w.heap[g]?) : w'.ownsRow B T z v n xs := by
 refine ⟨h.1, ?_⟩
 rcases h.2 with h2 | ⟨g, c, cur, rfl, hg, hh, hr⟩
 ·exact .inl h2
 ·refine .inr ⟨g, c, cur, rfl, hg, ?_, hr⟩
  rw [hs g hg (Array.getElem?_eq_some_iff.1 hh).1]; exact hh
theorem rowE_kept {w w' : World} {B z n : Nat} {T : TypeId} {v : Value} {xs : List Value} (h : w.ownsRow B T z v n xs) (hb : Below w.heap.size w w') : w'.ownsRow B T z v n xs :=
 rowE_same h fun g _ hg => hb.block g hg
theorem rowE_nil (w : World) (B z : Nat) (T : TypeId) : w.ownsRow B T z (.slice none 0 0) 0 [] := ⟨by simp, .inl ⟨rfl, rfl⟩⟩
theorem rowE_cells {w : World} {B z n : Nat} {T : TypeId} {v : Value} {xs : List Value} (h : w.ownsRow B T z v n xs) (hn : 0 < n) (hx : xs.length = n * z) : ∃ g c, v = .slice (some ⟨g, 0, none⟩) n c ∧ B ≤ g ∧ g < w.heap.size ∧ ∀ i, i < n * z → w.cell? ⟨g, i, none⟩ = xs[i]? := by
 rcases h.2 with ⟨_, h2⟩ | ⟨g, c, cur, rfl, hg, hh, hr, _, hs, ht⟩
 ·omega
 ·refine ⟨g, c, rfl, hg, (Array.getElem?_eq_some_iff.1 hh).1, fun i hi => ?_⟩
  rw [cell_of_row _ _ _ _ _ _ hh, ← ht, List.getElem?_take_of_lt hi]; simp
theorem row_cap {w : World} {B z n c : Nat} {T : TypeId} {a : Option Addr} {xs : List Value} (h : w.ownsRow B T z (.slice a n c) n xs) : n ≤ c := by
 rcases h.2 with ⟨h, h0⟩ | ⟨g, c', cur, h, _, _, hr, _⟩
 ·omega
 ·simp at h; omega
end Go.Proofs.YtepjaoapjpmjkaaGreatDoor
namespace Go.Proofs.YtepjaoapjpmjkaaGreatDoor
open Go.RowKit
set_option linter.unusedVariables false
attribute [local go_sem] bs_size bs_get bs_extract bs_append bs_eq bs_toList
theorem vars_of_cells {w : World} {g lo n : Nat} {T : TypeId} {cs : Array Value} {xs : List LVar} (h : w.heap[g]? = some (.cells cs T (0, 0))) (hcs : cs = (varCells xs).toArray) (hn : xs.length = n) (hl : lo ≤ g) : VarsV lo w (.slice (some ⟨g, 0, none⟩) n n) xs :=
 ⟨some ⟨g, 0, none⟩, n, by rw [hn], by omega, fun _ => ⟨g, 0, rfl, hl, fun i x hx => by
  subst hcs
  obtain ⟨u0, u1, u2, u3⟩ := varCells_at xs i x hx
  rw [Nat.zero_add]
  refine ⟨?_, ?_, ?_, ?_⟩ <;> rw [cell_of_row _ _ _ _ _ _ h] <;> simpa⟩⟩
theorem ints_of_cells {w : World} {g lo n : Nat} {T : TypeId} {cs : Array Value} {xs : List Int} (h : w.heap[g]? = some (.cells cs T (0, 0))) (hcs : cs = (xs.map (Value.int .i64)).toArray) (hn : xs.length = n) (hl : lo ≤ g) : IntsV lo w (.slice (some ⟨g, 0, none⟩) n n) xs :=
 ⟨some ⟨g, 0, none⟩, n, by rw [hn], by omega, fun _ => ⟨g, 0, rfl, hl, fun i x hx => by
  subst hcs
  rw [Nat.zero_add, cell_of_row _ _ _ _ _ _ h]
  simp [hx]⟩⟩
theorem heap_last (w : World) (o : Obj) (g : Nat) (h : w.heap.size = g) : (w.alloc o).heap[g]? = some o := by subst h; exact heap_alloc_new w o
theorem heap_keep {w : World} {o u : Obj} {g : Nat} (h : w.heap[g]? = some u) : (w.alloc o).heap[g]? = some u := (Below.heap_alloc _ _ _ (Array.getElem?_eq_some_iff.1 h).1).trans h
def BlockR (lo : Nat) (w' : World) (e : Ending) (op : Int) : Prop := ∃ g v2, e = .returned (.agg #[.slice (some ⟨g, 0, none⟩) (ownOf 0 op []).length (ownOf 0 op []).length, v2]) ∧ lo ≤ g ∧ w'.heap[g]? = some (.cells (varCells (ownOf 0 op [])).toArray 108 (0, 0)) ∧ IntsV lo w' v2 (argsL op)
set_option maxHeartbeats 3200000 in
set_option maxRecDepth 100000 in
theorem blockOf_1 (w : World) : Calls Tryz.prog 118 #[.int .i64 1] w fun e w' => BlockR w.heap.size w' e 1 ∧ Below w.heap.size w w' := by
 go_enter Tryz.func118, Tryz.ntmps118
 go_wp2
 refine bodyPost_ret (v := .agg #[.slice (some ⟨w.heap.size + 1 + 1 + 1 + 1, 0, none⟩) 3 3, .slice (some ⟨w.heap.size + 1 + 1 + 1 + 1 + 1, 0, none⟩) 3 3]) (by simp [results, Tryz.results118, go_sem]) rfl ⟨⟨w.heap.size + 1 + 1 + 1 + 1, _, rfl, by omega, ?_, ints_of_cells (cs := ((argsL 1).map (Value.int .i64)).toArray) (T := 2) ?_ rfl rfl (by omega)⟩, by go_grown⟩
 ·exact heap_keep (heap_keep (heap_keep (heap_keep (heap_keep (heap_keep (heap_keep (heap_keep (heap_last _ _ _ (by simp)))))))))
 ·exact heap_keep (heap_keep (heap_keep (heap_keep (heap_keep (heap_keep (heap_keep (heap_last _ _ _ (by simp))))))))
set_option maxHeartbeats 3200000 in
set_option maxRecDepth 100000 in
theorem blockOf_2 (w : World) : Calls Tryz.prog 118 #[.int .i64 2] w fun e w' => BlockR w.heap.size w' e 2 ∧ Below w.heap.size w w' := by
 go_enter Tryz.func118, Tryz.ntmps118
 go_wp2
 refine bodyPost_ret (v := .agg #[.slice (some ⟨w.heap.size + 1 + 1 + 1 + 1 + 1 + 1, 0, none⟩) 2 2, .slice (some ⟨w.heap.size + 1 + 1 + 1 + 1 + 1 + 1 + 1, 0, none⟩) 2 2]) (by simp [results, Tryz.results118, go_sem]) rfl ⟨⟨w.heap.size + 1 + 1 + 1 + 1 + 1 + 1, _, rfl, by omega, ?_, ints_of_cells (cs := ((argsL 2).map (Value.int .i64)).toArray) (T := 2) ?_ rfl rfl (by omega)⟩, by go_grown⟩
 ·exact heap_keep (heap_keep (heap_keep (heap_keep (heap_keep (heap_keep (heap_last _ _ _ (by simp)))))))
 ·exact heap_keep (heap_keep (heap_keep (heap_keep (heap_keep (heap_last _ _ _ (by simp))))))
set_option maxHeartbeats 3200000 in
set_option maxRecDepth 100000 in
theorem blockOf_3 (w : World) : Calls Tryz.prog 118 #[.int .i64 3] w fun e w' => BlockR w.heap.size w' e 3 ∧ Below w.heap.size w w' := by
 go_enter Tryz.func118, Tryz.ntmps118
 go_wp2
 refine bodyPost_ret (v := .agg #[.slice (some ⟨w.heap.size + 1 + 1 + 1 + 1 + 1 + 1 + 1 + 1, 0, none⟩) 2 2, .slice (some ⟨w.heap.size + 1 + 1 + 1 + 1 + 1 + 1 + 1 + 1 + 1, 0, none⟩) 1 1]) (by simp [results, Tryz.results118, go_sem]) rfl ⟨⟨w.heap.size + 1 + 1 + 1 + 1 + 1 + 1 + 1 + 1, _, rfl, by omega, ?_, ints_of_cells (cs := ((argsL 3).map (Value.int .i64)).toArray) (T := 2) ?_ rfl rfl (by omega)⟩, by go_grown⟩
 ·exact heap_keep (heap_keep (heap_keep (heap_keep (heap_last _ _ _ (by simp)))))
 ·exact heap_keep (heap_keep (heap_keep (heap_last _ _ _ (by simp))))
set_option maxHeartbeats 3200000 in
set_option maxRecDepth 100000 in
theorem blockOf_4 (w : World) : Calls Tryz.prog 118 #[.int .i64 4] w fun e w' => BlockR w.heap.size w' e 4 ∧ Below w.heap.size w w' := by
 go_enter Tryz.func118, Tryz.ntmps118
 go_wp2
 refine bodyPost_ret (v := .agg #[.slice (some ⟨w.heap.size + 1 + 1 + 1 + 1 + 1 + 1 + 1 + 1 + 1 + 1, 0, none⟩) 1 1, .slice (some ⟨w.heap.size + 1 + 1 + 1 + 1 + 1 + 1 + 1 + 1 + 1 + 1 + 1, 0, none⟩) 2 2]) (by simp [results, Tryz.results118, go_sem]) rfl ⟨⟨w.heap.size + 1 + 1 + 1 + 1 + 1 + 1 + 1 + 1 + 1 + 1, _, rfl, by omega, ?_, ints_of_cells (cs := ((argsL 4).map (Value.int .i64)).toArray) (T := 2) ?_ rfl rfl (by omega)⟩, by go_grown⟩
 ·exact heap_keep (heap_keep (heap_last _ _ _ (by simp)))
 ·exact heap_keep (heap_last _ _ _ (by simp))
theorem blockOf_any (op : Int) (h1 : 1 ≤ op) (h4 : op ≤ 4) (w : World) : Calls Tryz.prog 118 #[.int .i64 op] w fun e w' => BlockR w.heap.size w' e op ∧ Below w.heap.size w w' := by
 have h : op = 1 ∨ op = 2 ∨ op = 3 ∨ op = 4 := by omega
 rcases h with rfl | rfl | rfl | rfl
 ·exact blockOf_1 w
 ·exact blockOf_2 w
 ·exact blockOf_3 w
 ·exact blockOf_4 w
end Go.Proofs.YtepjaoapjpmjkaaGreatDoor
