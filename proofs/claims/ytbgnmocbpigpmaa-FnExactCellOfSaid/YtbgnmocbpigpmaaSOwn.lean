/-
  spec.l5Var, l5Own.
-/
import Derived.Test.YtbgnmocbpigpmaaTreeM
import Derived.Deep.RegionHeld3
namespace Go.Proofs.Ytbgnmocbpigpmaa
open Go.RowKit
set_option linter.unusedVariables false
attribute [local go_sem] bs_size bs_get bs_extract bs_append bs_eq bs_toList

/-- a row's block behind a call -/
theorem blk {w w' : World} {g : Nat} {cs : Array Value} {T : TypeId} (h : w.heap[g]? = some (.cells cs T (0, 0))) (hb : Below w.heap.size w w') : w'.heap[g]? = some (.cells cs T (0, 0)) :=
  (hb.block g (Array.getElem?_eq_some_iff.1 h).1).trans h
theorem blk_lt {w : World} {g : Nat} {o : Obj} (h : w.heap[g]? = some o) : g < w.heap.size := (Array.getElem?_eq_some_iff.1 h).1
abbrev varV (x : LVar) : Value := .agg #[.string (bs x.name), .int .i64 x.kind, .int .i64 x.type, .int .i64 x.size]
/-- the cells of variables -/
def varCells (xs : List LVar) : List Value := xs.flatMap fun x => [.string (bs x.name), .int .i64 x.kind, .int .i64 x.type, .int .i64 x.size]
theorem varCells_len (xs : List LVar) : (varCells xs).length = xs.length * 4 := by
  induction xs with
  | nil => rfl
  | cons x T ih => simp [varCells] at *; omega
theorem varCells_at (T : List LVar) (k : Nat) (x : LVar) (hk : T[k]? = some x) : (varCells T)[k * 4]? = some (.string (bs x.name)) ∧ (varCells T)[k * 4 + 1]? = some (.int .i64 x.kind) ∧ (varCells T)[k * 4 + 2]? = some (.int .i64 x.type) ∧ (varCells T)[k * 4 + 3]? = some (.int .i64 x.size) := by
  induction T generalizing k with
  | nil => simp at hk
  | cons y T ih =>
    cases k with
    | zero =>
      have hy : y = x := by simpa using hk
      subst hy
      simp [varCells]
    | succ k =>
      have h := ih k (by simpa using hk)
      have e : ∀ j, (varCells (y :: T))[(k + 1) * 4 + j]? = (varCells T)[k * 4 + j]? := fun j => by
        unfold varCells
        rw [List.flatMap_cons, List.getElem?_append_right (by simp; omega)]
        congr 1
        simp; omega
      have e0 := e 0
      rw [Nat.add_zero, Nat.add_zero] at e0
      rw [e0, e 1, e 2, e 3]
      exact h
end Go.Proofs.Ytbgnmocbpigpmaa
namespace Go.Proofs.Ytbgnmocbpigpmaa
open Go.RowKit
set_option linter.unusedVariables false
attribute [local go_sem] bs_size bs_get bs_extract bs_append bs_eq bs_toList

/-- the variables that a call needs; K: what stands as their kind -/
def ownOf (K : Int) (op : Int) (nm : List UInt8) : List LVar :=
  if op = 1 then [⟨nm ++ [118], K, 1, 0⟩, ⟨nm ++ [109], K, 2, 0⟩, ⟨nm ++ [113], K, 2, 0⟩]
  else if op = 2 then [⟨nm ++ [118], K, 1, 0⟩, ⟨nm ++ [113], K, 2, 0⟩]
  else if op = 3 then [⟨nm ++ [109], K, 2, 0⟩, ⟨nm ++ [113], K, 2, 0⟩]
  else [⟨nm ++ [113], K, 2, 0⟩]
theorem ownOf_len (K op : Int) (nm : List UInt8) : 1 ≤ (ownOf K op nm).length ∧ (ownOf K op nm).length ≤ 3 := by
  unfold ownOf; split
  · simp
  split
  · simp
  split <;> simp
theorem ownOf_size (K op : Int) (nm : List UInt8) : ∀ v ∈ ownOf K op nm, v.size = 0 := by
  intro v hv; unfold ownOf at hv
  split at hv
  · simp at hv; rcases hv with rfl | rfl | rfl <;> rfl
  split at hv
  · simp at hv; rcases hv with rfl | rfl <;> rfl
  split at hv
  · simp at hv; rcases hv with rfl | rfl <;> rfl
  · simp at hv; subst hv; rfl
theorem ownOf_name (K op : Int) (nm : List UInt8) : ownOf K op nm = (ownOf K op []).map fun v => { v with name := nm ++ v.name } := by
  unfold ownOf
  split
  · rfl
  split
  · rfl
  split <;> rfl
theorem ownOf_get {K op : Int} {nm : List UInt8} {j : Nat} {v : LVar} (h : (ownOf K op [])[j]? = some v) : (ownOf K op nm)[j]? = some { v with name := nm ++ v.name } := by rw [ownOf_name, List.getElem?_map, h]; rfl
theorem ownOf_len2 (K op : Int) (nm : List UInt8) : (ownOf K op nm).length = (ownOf K op []).length := by rw [ownOf_name K op nm, List.length_map]
/-- what a block's call wants -/
def argsL (op : Int) : List Int := if op = 1 then [2, 2, 1] else if op = 2 then [2, 1] else if op = 3 then [2] else [2, 2]
end Go.Proofs.Ytbgnmocbpigpmaa
namespace Go.Proofs.Ytbgnmocbpigpmaa
open Go.RowKit
set_option linter.unusedVariables false
attribute [local go_sem] bs_size bs_get bs_extract bs_append bs_eq bs_toList

set_option maxHeartbeats 800000 in
theorem l5Var_any (nm : List UInt8) (c : UInt8) (t : Int) (w : World) (hn : nm.length ≤ 1048576) :
    Calls Try.prog 168 #[.string (bs nm), .string (bs [c]), .int .i64 t] w fun e w' => e = .returned (varV ⟨nm ++ [c], 3, t, 0⟩) ∧ Below w.heap.size w w' := by
  have hsum : ¬ (9223372036854775807 < nm.length + 1) := by omega
  go_enter Try.func168, Try.ntmps168
  go_wp2
  refine bodyPost_ret (v := varV ⟨nm ++ [c], 3, t, 0⟩) (by simp [results, Try.results168, go_sem]) rfl ⟨rfl, by go_grown⟩

set_option maxHeartbeats 6400000 in
set_option maxRecDepth 100000 in
theorem l5Own_1 (n : LNode) (vk vt ve : Value) (w : World) (h1 : ∃ a l c, vk = .slice a l c) (h2 : ∃ a l c, vt = .slice a l c) (h3 : ∃ a l c, ve = .slice a l c) (hn : n.name.length ≤ 1048576) (hop : n.op = 1) :
    Calls Try.prog 148 #[nodeV n vk vt ve] w fun e w' => (∃ g, e = .returned (.slice (some ⟨g, 0, none⟩) (ownOf 3 1 n.name).length (ownOf 3 1 n.name).length) ∧ w.heap.size ≤ g ∧ w'.heap[g]? = some (.cells (varCells (ownOf 3 1 n.name)).toArray 85 (0, 0))) ∧ Below w.heap.size w w' := by
  obtain ⟨a, l, c, rfl⟩ := h1
  obtain ⟨a2, l2, c2, rfl⟩ := h2
  obtain ⟨a3, l3, c3, rfl⟩ := h3
  obtain ⟨k, op, nm, num, far, kids, thn, els⟩ := n
  simp only at hop hn ⊢
  subst hop
  have HX : Hid (∀ (c : UInt8) (t : Int) (w : World), Calls Try.prog 168 #[.string (bs nm), .string (bs [c]), .int .i64 t] w fun e w' => e = .returned (varV ⟨nm ++ [c], 3, t, 0⟩) ∧ Below w.heap.size w w') := fun c t w => l5Var_any nm c t w hn
  go_enter Try.func148, Try.ntmps148
  go_wp2_with fail
  have hA := heap_alloc_new w (.cells #[.int .i64 k, .int .i64 1, .string (bs nm), .int .i64 num, .int .i64 far, .slice a l c, .slice a2 l2 c2, .slice a3 l3 c3] 99)
  have hB : Below w.heap.size w (w.alloc (.cells #[.int .i64 k, .int .i64 1, .string (bs nm), .int .i64 num, .int .i64 far, .slice a l c, .slice a2 l2 c2, .slice a3 l3 c3] 99)) := (Below.refl _ _).alloc (Nat.le_refl _) _
  generalize w.alloc (.cells #[.int .i64 k, .int .i64 1, .string (bs nm), .int .i64 num, .int .i64 far, .slice a l c, .slice a2 l2 c2, .slice a3 l3 c3] 99) = W at *
  have hc2 : W.cell? ⟨w.heap.size, 2, none⟩ = some (.string (bs nm)) := cell_of_row _ _ 2 _ _ _ hA
  have hlt : w.heap.size < W.heap.size := blk_lt hA
  have HC2 := hid hc2
  have HB := hid hB
  have HBW : Hid (Below W.heap.size W W.drew) := (Below.refl _ _).drew
  clear hA hB
  go_region_held3 (fun Z => Z.cell? ⟨w.heap.size, 2, none⟩ = some (.string (bs nm))) (go_keep) (first | (go_at_call 168; refine (HX.out _ _ _).mono ?_; rintro e w2 ⟨rfl, hb⟩; have hD : Below W.heap.size W w2 := HBW.out.trans (Below.mono hb HBW.out.size); have k2 := (hD.cell (p := ⟨w.heap.size, 2, none⟩) hlt).trans HC2.out; clear HBW hb; have HBW : Hid (Below W.heap.size W w2) := hD; clear hD))
  go_wp2
  go_ret
  exact ⟨⟨w2.heap.size, rfl, Nat.le_trans HB.out.size HBW.out.size, heap_alloc_new w2 _⟩, (HB.out.trans (HBW.out.mono HB.out.size)).alloc (Nat.le_trans HB.out.size HBW.out.size) _⟩

set_option maxHeartbeats 6400000 in
set_option maxRecDepth 100000 in
theorem l5Own_2 (n : LNode) (vk vt ve : Value) (w : World) (h1 : ∃ a l c, vk = .slice a l c) (h2 : ∃ a l c, vt = .slice a l c) (h3 : ∃ a l c, ve = .slice a l c) (hn : n.name.length ≤ 1048576) (hop : n.op = 2) :
    Calls Try.prog 148 #[nodeV n vk vt ve] w fun e w' => (∃ g, e = .returned (.slice (some ⟨g, 0, none⟩) (ownOf 3 2 n.name).length (ownOf 3 2 n.name).length) ∧ w.heap.size ≤ g ∧ w'.heap[g]? = some (.cells (varCells (ownOf 3 2 n.name)).toArray 85 (0, 0))) ∧ Below w.heap.size w w' := by
  obtain ⟨a, l, c, rfl⟩ := h1
  obtain ⟨a2, l2, c2, rfl⟩ := h2
  obtain ⟨a3, l3, c3, rfl⟩ := h3
  obtain ⟨k, op, nm, num, far, kids, thn, els⟩ := n
  simp only at hop hn ⊢
  subst hop
  have HX : Hid (∀ (c : UInt8) (t : Int) (w : World), Calls Try.prog 168 #[.string (bs nm), .string (bs [c]), .int .i64 t] w fun e w' => e = .returned (varV ⟨nm ++ [c], 3, t, 0⟩) ∧ Below w.heap.size w w') := fun c t w => l5Var_any nm c t w hn
  go_enter Try.func148, Try.ntmps148
  go_wp2_with fail
  have hA := heap_alloc_new w (.cells #[.int .i64 k, .int .i64 2, .string (bs nm), .int .i64 num, .int .i64 far, .slice a l c, .slice a2 l2 c2, .slice a3 l3 c3] 99)
  have hB : Below w.heap.size w (w.alloc (.cells #[.int .i64 k, .int .i64 2, .string (bs nm), .int .i64 num, .int .i64 far, .slice a l c, .slice a2 l2 c2, .slice a3 l3 c3] 99)) := (Below.refl _ _).alloc (Nat.le_refl _) _
  generalize w.alloc (.cells #[.int .i64 k, .int .i64 2, .string (bs nm), .int .i64 num, .int .i64 far, .slice a l c, .slice a2 l2 c2, .slice a3 l3 c3] 99) = W at *
  have hc2 : W.cell? ⟨w.heap.size, 2, none⟩ = some (.string (bs nm)) := cell_of_row _ _ 2 _ _ _ hA
  have hlt : w.heap.size < W.heap.size := blk_lt hA
  have HC2 := hid hc2
  have HB := hid hB
  have HBW : Hid (Below W.heap.size W W.drew) := (Below.refl _ _).drew
  clear hA hB
  go_region_held3 (fun Z => Z.cell? ⟨w.heap.size, 2, none⟩ = some (.string (bs nm))) (go_keep) (first | (go_at_call 168; refine (HX.out _ _ _).mono ?_; rintro e w2 ⟨rfl, hb⟩; have hD : Below W.heap.size W w2 := HBW.out.trans (Below.mono hb HBW.out.size); have k2 := (hD.cell (p := ⟨w.heap.size, 2, none⟩) hlt).trans HC2.out; clear HBW hb; have HBW : Hid (Below W.heap.size W w2) := hD; clear hD))
  go_wp2
  go_ret
  exact ⟨⟨w2.heap.size, rfl, Nat.le_trans HB.out.size HBW.out.size, heap_alloc_new w2 _⟩, (HB.out.trans (HBW.out.mono HB.out.size)).alloc (Nat.le_trans HB.out.size HBW.out.size) _⟩

set_option maxHeartbeats 6400000 in
set_option maxRecDepth 100000 in
theorem l5Own_3 (n : LNode) (vk vt ve : Value) (w : World) (h1 : ∃ a l c, vk = .slice a l c) (h2 : ∃ a l c, vt = .slice a l c) (h3 : ∃ a l c, ve = .slice a l c) (hn : n.name.length ≤ 1048576) (hop : n.op = 3) :
    Calls Try.prog 148 #[nodeV n vk vt ve] w fun e w' => (∃ g, e = .returned (.slice (some ⟨g, 0, none⟩) (ownOf 3 3 n.name).length (ownOf 3 3 n.name).length) ∧ w.heap.size ≤ g ∧ w'.heap[g]? = some (.cells (varCells (ownOf 3 3 n.name)).toArray 85 (0, 0))) ∧ Below w.heap.size w w' := by
  obtain ⟨a, l, c, rfl⟩ := h1
  obtain ⟨a2, l2, c2, rfl⟩ := h2
  obtain ⟨a3, l3, c3, rfl⟩ := h3
  obtain ⟨k, op, nm, num, far, kids, thn, els⟩ := n
  simp only at hop hn ⊢
  subst hop
  have HX : Hid (∀ (c : UInt8) (t : Int) (w : World), Calls Try.prog 168 #[.string (bs nm), .string (bs [c]), .int .i64 t] w fun e w' => e = .returned (varV ⟨nm ++ [c], 3, t, 0⟩) ∧ Below w.heap.size w w') := fun c t w => l5Var_any nm c t w hn
  go_enter Try.func148, Try.ntmps148
  go_wp2_with fail
  have hA := heap_alloc_new w (.cells #[.int .i64 k, .int .i64 3, .string (bs nm), .int .i64 num, .int .i64 far, .slice a l c, .slice a2 l2 c2, .slice a3 l3 c3] 99)
  have hB : Below w.heap.size w (w.alloc (.cells #[.int .i64 k, .int .i64 3, .string (bs nm), .int .i64 num, .int .i64 far, .slice a l c, .slice a2 l2 c2, .slice a3 l3 c3] 99)) := (Below.refl _ _).alloc (Nat.le_refl _) _
  generalize w.alloc (.cells #[.int .i64 k, .int .i64 3, .string (bs nm), .int .i64 num, .int .i64 far, .slice a l c, .slice a2 l2 c2, .slice a3 l3 c3] 99) = W at *
  have hc2 : W.cell? ⟨w.heap.size, 2, none⟩ = some (.string (bs nm)) := cell_of_row _ _ 2 _ _ _ hA
  have hlt : w.heap.size < W.heap.size := blk_lt hA
  have HC2 := hid hc2
  have HB := hid hB
  have HBW : Hid (Below W.heap.size W W.drew) := (Below.refl _ _).drew
  clear hA hB
  go_region_held3 (fun Z => Z.cell? ⟨w.heap.size, 2, none⟩ = some (.string (bs nm))) (go_keep) (first | (go_at_call 168; refine (HX.out _ _ _).mono ?_; rintro e w2 ⟨rfl, hb⟩; have hD : Below W.heap.size W w2 := HBW.out.trans (Below.mono hb HBW.out.size); have k2 := (hD.cell (p := ⟨w.heap.size, 2, none⟩) hlt).trans HC2.out; clear HBW hb; have HBW : Hid (Below W.heap.size W w2) := hD; clear hD))
  go_wp2
  go_ret
  exact ⟨⟨w2.heap.size, rfl, Nat.le_trans HB.out.size HBW.out.size, heap_alloc_new w2 _⟩, (HB.out.trans (HBW.out.mono HB.out.size)).alloc (Nat.le_trans HB.out.size HBW.out.size) _⟩

set_option maxHeartbeats 6400000 in
set_option maxRecDepth 100000 in
theorem l5Own_4 (n : LNode) (vk vt ve : Value) (w : World) (h1 : ∃ a l c, vk = .slice a l c) (h2 : ∃ a l c, vt = .slice a l c) (h3 : ∃ a l c, ve = .slice a l c) (hn : n.name.length ≤ 1048576) (hop : n.op = 4) :
    Calls Try.prog 148 #[nodeV n vk vt ve] w fun e w' => (∃ g, e = .returned (.slice (some ⟨g, 0, none⟩) (ownOf 3 4 n.name).length (ownOf 3 4 n.name).length) ∧ w.heap.size ≤ g ∧ w'.heap[g]? = some (.cells (varCells (ownOf 3 4 n.name)).toArray 85 (0, 0))) ∧ Below w.heap.size w w' := by
  obtain ⟨a, l, c, rfl⟩ := h1
  obtain ⟨a2, l2, c2, rfl⟩ := h2
  obtain ⟨a3, l3, c3, rfl⟩ := h3
  obtain ⟨k, op, nm, num, far, kids, thn, els⟩ := n
  simp only at hop hn ⊢
  subst hop
  have HX : Hid (∀ (c : UInt8) (t : Int) (w : World), Calls Try.prog 168 #[.string (bs nm), .string (bs [c]), .int .i64 t] w fun e w' => e = .returned (varV ⟨nm ++ [c], 3, t, 0⟩) ∧ Below w.heap.size w w') := fun c t w => l5Var_any nm c t w hn
  go_enter Try.func148, Try.ntmps148
  go_wp2_with fail
  have hA := heap_alloc_new w (.cells #[.int .i64 k, .int .i64 4, .string (bs nm), .int .i64 num, .int .i64 far, .slice a l c, .slice a2 l2 c2, .slice a3 l3 c3] 99)
  have hB : Below w.heap.size w (w.alloc (.cells #[.int .i64 k, .int .i64 4, .string (bs nm), .int .i64 num, .int .i64 far, .slice a l c, .slice a2 l2 c2, .slice a3 l3 c3] 99)) := (Below.refl _ _).alloc (Nat.le_refl _) _
  generalize w.alloc (.cells #[.int .i64 k, .int .i64 4, .string (bs nm), .int .i64 num, .int .i64 far, .slice a l c, .slice a2 l2 c2, .slice a3 l3 c3] 99) = W at *
  have hc2 : W.cell? ⟨w.heap.size, 2, none⟩ = some (.string (bs nm)) := cell_of_row _ _ 2 _ _ _ hA
  have hlt : w.heap.size < W.heap.size := blk_lt hA
  have HC2 := hid hc2
  have HB := hid hB
  clear hA hB
  refine (HX.out 113 2 _).mono ?_
  rintro e w2 ⟨rfl, hb⟩
  have HBW := hid hb
  clear hb
  go_wp2_with fail
  go_ret
  exact ⟨⟨w2.heap.size, rfl, Nat.le_trans HB.out.size HBW.out.size, heap_alloc_new w2 _⟩, (HB.out.trans (HBW.out.mono HB.out.size)).alloc (Nat.le_trans HB.out.size HBW.out.size) _⟩

/-- a row of variables that a call made -/
def VarsR (lo : Nat) (w' : World) (e : Ending) (V : List LVar) : Prop := ∃ g, e = .returned (.slice (some ⟨g, 0, none⟩) V.length V.length) ∧ lo ≤ g ∧ w'.heap[g]? = some (.cells (varCells V).toArray 85 (0, 0))
theorem l5Own_any (n : LNode) (vk vt ve : Value) (w : World) (h1 : ∃ a l c, vk = .slice a l c) (h2 : ∃ a l c, vt = .slice a l c) (h3 : ∃ a l c, ve = .slice a l c) (hn : n.name.length ≤ 1048576) (ho1 : 1 ≤ n.op) (ho4 : n.op ≤ 4) :
    Calls Try.prog 148 #[nodeV n vk vt ve] w fun e w' => VarsR w.heap.size w' e (ownOf 3 n.op n.name) ∧ Below w.heap.size w w' := by
  have h : n.op = 1 ∨ n.op = 2 ∨ n.op = 3 ∨ n.op = 4 := by omega
  rcases h with h | h | h | h <;> rw [h]
  · exact l5Own_1 n vk vt ve w h1 h2 h3 hn h
  · exact l5Own_2 n vk vt ve w h1 h2 h3 hn h
  · exact l5Own_3 n vk vt ve w h1 h2 h3 hn h
  · exact l5Own_4 n vk vt ve w h1 h2 h3 hn h
end Go.Proofs.Ytbgnmocbpigpmaa
