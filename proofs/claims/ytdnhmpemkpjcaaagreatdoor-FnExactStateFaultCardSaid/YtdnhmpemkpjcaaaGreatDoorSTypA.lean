/-
  spec.l5Type: a number, a name, an item.
-/
import Derived.Test.YtdnhmpemkpjcaaaGreatDoorVarC
import Derived.Test.YtdnhmpemkpjcaaaGreatDoorBlkOwn
import Derived.Deep.RegionHeld3
import Derived.Test.YtdnhmpemkpjcaaaGreatDoorTreeTo
import Derived.Laws.AppendOwn
import Derived.Test.YtdnhmpemkpjcaaaGreatDoorRowE
import Derived.Test.YtdnhmpemkpjcaaaGreatDoorIVars
import Derived.Test.YtdnhmpemkpjcaaaGreatDoorVarFrom
import Derived.Test.YtdnhmpemkpjcaaaGreatDoorCheckerM
import Derived.Test.YtdnhmpemkpjcaaaGreatDoorTreeWants
namespace Go.Proofs.YtdnhmpemkpjcaaaGreatDoor
open Go.RowKit
set_option linter.unusedVariables false
attribute [local go_sem] bs_size bs_get bs_extract bs_append bs_eq bs_toList

set_option maxHeartbeats 800000 in
theorem l5Var_any (nm : List UInt8) (c : UInt8) (t : Int) (w : World) (hn : nm.length ≤ 1048576) :
    Calls Tryz.prog 144 #[.string (bs nm), .string (bs [c]), .int .i64 t] w fun e w' => e = .returned (varV ⟨nm ++ [c], 3, t, 0⟩) ∧ Below w.heap.size w w' := by
  have hsum : ¬ (9223372036854775807 < nm.length + 1) := by omega
  go_enter Tryz.func144, Tryz.ntmps144
  go_wp2
  refine bodyPost_ret (v := varV ⟨nm ++ [c], 3, t, 0⟩) (by simp [results, Tryz.results144, go_sem]) rfl ⟨rfl, by go_grown⟩

set_option maxHeartbeats 6400000 in
set_option maxRecDepth 100000 in
theorem l5Own_1 (n : LNode) (vk vt ve : Value) (w : World) (h1 : ∃ a l c, vk = .slice a l c) (h2 : ∃ a l c, vt = .slice a l c) (h3 : ∃ a l c, ve = .slice a l c) (hn : n.name.length ≤ 1048576) (hop : n.op = 1) :
    Calls Tryz.prog 147 #[nodeV n vk vt ve] w fun e w' => (∃ g, e = .returned (.slice (some ⟨g, 0, none⟩) (ownOf 3 1 n.name).length (ownOf 3 1 n.name).length) ∧ w.heap.size ≤ g ∧ w'.heap[g]? = some (.cells (varCells (ownOf 3 1 n.name)).toArray 38 (0, 0))) ∧ Below w.heap.size w w' := by
  obtain ⟨a, l, c, rfl⟩ := h1
  obtain ⟨a2, l2, c2, rfl⟩ := h2
  obtain ⟨a3, l3, c3, rfl⟩ := h3
  obtain ⟨k, op, nm, num, far, kids, thn, els⟩ := n
  simp only at hop hn ⊢
  subst hop
  have HX : Hid (∀ (c : UInt8) (t : Int) (w : World), Calls Tryz.prog 144 #[.string (bs nm), .string (bs [c]), .int .i64 t] w fun e w' => e = .returned (varV ⟨nm ++ [c], 3, t, 0⟩) ∧ Below w.heap.size w w') := fun c t w => l5Var_any nm c t w hn
  go_enter Tryz.func147, Tryz.ntmps147
  go_wp2_with fail
  have hA := heap_alloc_new w (.cells #[.int .i64 k, .int .i64 1, .string (bs nm), .int .i64 num, .int .i64 far, .slice a l c, .slice a2 l2 c2, .slice a3 l3 c3] 111)
  have hB : Below w.heap.size w (w.alloc (.cells #[.int .i64 k, .int .i64 1, .string (bs nm), .int .i64 num, .int .i64 far, .slice a l c, .slice a2 l2 c2, .slice a3 l3 c3] 111)) := (Below.refl _ _).alloc (Nat.le_refl _) _
  generalize w.alloc (.cells #[.int .i64 k, .int .i64 1, .string (bs nm), .int .i64 num, .int .i64 far, .slice a l c, .slice a2 l2 c2, .slice a3 l3 c3] 111) = W at *
  have hc2 : W.cell? ⟨w.heap.size, 2, none⟩ = some (.string (bs nm)) := cell_of_row _ _ 2 _ _ _ hA
  have hlt : w.heap.size < W.heap.size := blk_lt hA
  have HC2 : Hid (W.cell? ⟨w.heap.size, 2, none⟩ = some (.string (bs nm))) := hc2
  have HB : Hid (Below w.heap.size w W) := hB
  have HBW : Hid (Below W.heap.size W W.drew) := (Below.refl _ _).drew
  clear hA hB
  go_region_held3 (fun Z => Z.cell? ⟨w.heap.size, 2, none⟩ = some (.string (bs nm))) (go_keep) (first | (go_at_call 144; refine (HX.out _ _ _).mono ?_; rintro e w2 ⟨rfl, hb⟩; have hD : Below W.heap.size W w2 := HBW.out.trans (Below.mono hb HBW.out.size); have k2 := (hD.cell (p := ⟨w.heap.size, 2, none⟩) hlt).trans HC2.out; clear HBW hb; have HBW : Hid (Below W.heap.size W w2) := hD; clear hD))
  go_wp2
  go_ret
  exact ⟨⟨w2.heap.size, rfl, Nat.le_trans HB.out.size HBW.out.size, heap_alloc_new w2 _⟩, (HB.out.trans (HBW.out.mono HB.out.size)).alloc (Nat.le_trans HB.out.size HBW.out.size) _⟩

set_option maxHeartbeats 6400000 in
set_option maxRecDepth 100000 in
theorem l5Own_2 (n : LNode) (vk vt ve : Value) (w : World) (h1 : ∃ a l c, vk = .slice a l c) (h2 : ∃ a l c, vt = .slice a l c) (h3 : ∃ a l c, ve = .slice a l c) (hn : n.name.length ≤ 1048576) (hop : n.op = 2) :
    Calls Tryz.prog 147 #[nodeV n vk vt ve] w fun e w' => (∃ g, e = .returned (.slice (some ⟨g, 0, none⟩) (ownOf 3 2 n.name).length (ownOf 3 2 n.name).length) ∧ w.heap.size ≤ g ∧ w'.heap[g]? = some (.cells (varCells (ownOf 3 2 n.name)).toArray 38 (0, 0))) ∧ Below w.heap.size w w' := by
  obtain ⟨a, l, c, rfl⟩ := h1
  obtain ⟨a2, l2, c2, rfl⟩ := h2
  obtain ⟨a3, l3, c3, rfl⟩ := h3
  obtain ⟨k, op, nm, num, far, kids, thn, els⟩ := n
  simp only at hop hn ⊢
  subst hop
  have HX : Hid (∀ (c : UInt8) (t : Int) (w : World), Calls Tryz.prog 144 #[.string (bs nm), .string (bs [c]), .int .i64 t] w fun e w' => e = .returned (varV ⟨nm ++ [c], 3, t, 0⟩) ∧ Below w.heap.size w w') := fun c t w => l5Var_any nm c t w hn
  go_enter Tryz.func147, Tryz.ntmps147
  go_wp2_with fail
  have hA := heap_alloc_new w (.cells #[.int .i64 k, .int .i64 2, .string (bs nm), .int .i64 num, .int .i64 far, .slice a l c, .slice a2 l2 c2, .slice a3 l3 c3] 111)
  have hB : Below w.heap.size w (w.alloc (.cells #[.int .i64 k, .int .i64 2, .string (bs nm), .int .i64 num, .int .i64 far, .slice a l c, .slice a2 l2 c2, .slice a3 l3 c3] 111)) := (Below.refl _ _).alloc (Nat.le_refl _) _
  generalize w.alloc (.cells #[.int .i64 k, .int .i64 2, .string (bs nm), .int .i64 num, .int .i64 far, .slice a l c, .slice a2 l2 c2, .slice a3 l3 c3] 111) = W at *
  have hc2 : W.cell? ⟨w.heap.size, 2, none⟩ = some (.string (bs nm)) := cell_of_row _ _ 2 _ _ _ hA
  have hlt : w.heap.size < W.heap.size := blk_lt hA
  have HC2 : Hid (W.cell? ⟨w.heap.size, 2, none⟩ = some (.string (bs nm))) := hc2
  have HB : Hid (Below w.heap.size w W) := hB
  have HBW : Hid (Below W.heap.size W W.drew) := (Below.refl _ _).drew
  clear hA hB
  go_region_held3 (fun Z => Z.cell? ⟨w.heap.size, 2, none⟩ = some (.string (bs nm))) (go_keep) (first | (go_at_call 144; refine (HX.out _ _ _).mono ?_; rintro e w2 ⟨rfl, hb⟩; have hD : Below W.heap.size W w2 := HBW.out.trans (Below.mono hb HBW.out.size); have k2 := (hD.cell (p := ⟨w.heap.size, 2, none⟩) hlt).trans HC2.out; clear HBW hb; have HBW : Hid (Below W.heap.size W w2) := hD; clear hD))
  go_wp2
  go_ret
  exact ⟨⟨w2.heap.size, rfl, Nat.le_trans HB.out.size HBW.out.size, heap_alloc_new w2 _⟩, (HB.out.trans (HBW.out.mono HB.out.size)).alloc (Nat.le_trans HB.out.size HBW.out.size) _⟩

set_option maxHeartbeats 6400000 in
set_option maxRecDepth 100000 in
theorem l5Own_3 (n : LNode) (vk vt ve : Value) (w : World) (h1 : ∃ a l c, vk = .slice a l c) (h2 : ∃ a l c, vt = .slice a l c) (h3 : ∃ a l c, ve = .slice a l c) (hn : n.name.length ≤ 1048576) (hop : n.op = 3) :
    Calls Tryz.prog 147 #[nodeV n vk vt ve] w fun e w' => (∃ g, e = .returned (.slice (some ⟨g, 0, none⟩) (ownOf 3 3 n.name).length (ownOf 3 3 n.name).length) ∧ w.heap.size ≤ g ∧ w'.heap[g]? = some (.cells (varCells (ownOf 3 3 n.name)).toArray 38 (0, 0))) ∧ Below w.heap.size w w' := by
  obtain ⟨a, l, c, rfl⟩ := h1
  obtain ⟨a2, l2, c2, rfl⟩ := h2
  obtain ⟨a3, l3, c3, rfl⟩ := h3
  obtain ⟨k, op, nm, num, far, kids, thn, els⟩ := n
  simp only at hop hn ⊢
  subst hop
  have HX : Hid (∀ (c : UInt8) (t : Int) (w : World), Calls Tryz.prog 144 #[.string (bs nm), .string (bs [c]), .int .i64 t] w fun e w' => e = .returned (varV ⟨nm ++ [c], 3, t, 0⟩) ∧ Below w.heap.size w w') := fun c t w => l5Var_any nm c t w hn
  go_enter Tryz.func147, Tryz.ntmps147
  go_wp2_with fail
  have hA := heap_alloc_new w (.cells #[.int .i64 k, .int .i64 3, .string (bs nm), .int .i64 num, .int .i64 far, .slice a l c, .slice a2 l2 c2, .slice a3 l3 c3] 111)
  have hB : Below w.heap.size w (w.alloc (.cells #[.int .i64 k, .int .i64 3, .string (bs nm), .int .i64 num, .int .i64 far, .slice a l c, .slice a2 l2 c2, .slice a3 l3 c3] 111)) := (Below.refl _ _).alloc (Nat.le_refl _) _
  generalize w.alloc (.cells #[.int .i64 k, .int .i64 3, .string (bs nm), .int .i64 num, .int .i64 far, .slice a l c, .slice a2 l2 c2, .slice a3 l3 c3] 111) = W at *
  have hc2 : W.cell? ⟨w.heap.size, 2, none⟩ = some (.string (bs nm)) := cell_of_row _ _ 2 _ _ _ hA
  have hlt : w.heap.size < W.heap.size := blk_lt hA
  have HC2 : Hid (W.cell? ⟨w.heap.size, 2, none⟩ = some (.string (bs nm))) := hc2
  have HB : Hid (Below w.heap.size w W) := hB
  have HBW : Hid (Below W.heap.size W W.drew) := (Below.refl _ _).drew
  clear hA hB
  go_region_held3 (fun Z => Z.cell? ⟨w.heap.size, 2, none⟩ = some (.string (bs nm))) (go_keep) (first | (go_at_call 144; refine (HX.out _ _ _).mono ?_; rintro e w2 ⟨rfl, hb⟩; have hD : Below W.heap.size W w2 := HBW.out.trans (Below.mono hb HBW.out.size); have k2 := (hD.cell (p := ⟨w.heap.size, 2, none⟩) hlt).trans HC2.out; clear HBW hb; have HBW : Hid (Below W.heap.size W w2) := hD; clear hD))
  go_wp2
  go_ret
  exact ⟨⟨w2.heap.size, rfl, Nat.le_trans HB.out.size HBW.out.size, heap_alloc_new w2 _⟩, (HB.out.trans (HBW.out.mono HB.out.size)).alloc (Nat.le_trans HB.out.size HBW.out.size) _⟩

set_option maxHeartbeats 6400000 in
set_option maxRecDepth 100000 in
theorem l5Own_4 (n : LNode) (vk vt ve : Value) (w : World) (h1 : ∃ a l c, vk = .slice a l c) (h2 : ∃ a l c, vt = .slice a l c) (h3 : ∃ a l c, ve = .slice a l c) (hn : n.name.length ≤ 1048576) (hop : n.op = 4) :
    Calls Tryz.prog 147 #[nodeV n vk vt ve] w fun e w' => (∃ g, e = .returned (.slice (some ⟨g, 0, none⟩) (ownOf 3 4 n.name).length (ownOf 3 4 n.name).length) ∧ w.heap.size ≤ g ∧ w'.heap[g]? = some (.cells (varCells (ownOf 3 4 n.name)).toArray 38 (0, 0))) ∧ Below w.heap.size w w' := by
  obtain ⟨a, l, c, rfl⟩ := h1
  obtain ⟨a2, l2, c2, rfl⟩ := h2
  obtain ⟨a3, l3, c3, rfl⟩ := h3
  obtain ⟨k, op, nm, num, far, kids, thn, els⟩ := n
  simp only at hop hn ⊢
  subst hop
  have HX : Hid (∀ (c : UInt8) (t : Int) (w : World), Calls Tryz.prog 144 #[.string (bs nm), .string (bs [c]), .int .i64 t] w fun e w' => e = .returned (varV ⟨nm ++ [c], 3, t, 0⟩) ∧ Below w.heap.size w w') := fun c t w => l5Var_any nm c t w hn
  go_enter Tryz.func147, Tryz.ntmps147
  go_wp2_with fail
  have hA := heap_alloc_new w (.cells #[.int .i64 k, .int .i64 4, .string (bs nm), .int .i64 num, .int .i64 far, .slice a l c, .slice a2 l2 c2, .slice a3 l3 c3] 111)
  have hB : Below w.heap.size w (w.alloc (.cells #[.int .i64 k, .int .i64 4, .string (bs nm), .int .i64 num, .int .i64 far, .slice a l c, .slice a2 l2 c2, .slice a3 l3 c3] 111)) := (Below.refl _ _).alloc (Nat.le_refl _) _
  generalize w.alloc (.cells #[.int .i64 k, .int .i64 4, .string (bs nm), .int .i64 num, .int .i64 far, .slice a l c, .slice a2 l2 c2, .slice a3 l3 c3] 111) = W at *
  have hc2 : W.cell? ⟨w.heap.size, 2, none⟩ = some (.string (bs nm)) := cell_of_row _ _ 2 _ _ _ hA
  have hlt : w.heap.size < W.heap.size := blk_lt hA
  have HC2 : Hid (W.cell? ⟨w.heap.size, 2, none⟩ = some (.string (bs nm))) := hc2
  have HB : Hid (Below w.heap.size w W) := hB
  clear hA hB
  refine (HX.out 113 2 _).mono ?_
  rintro e w2 ⟨rfl, hb⟩
  have HBW : Hid (Below W.heap.size W w2) := hb
  clear hb
  go_wp2_with fail
  go_ret
  exact ⟨⟨w2.heap.size, rfl, Nat.le_trans HB.out.size HBW.out.size, heap_alloc_new w2 _⟩, (HB.out.trans (HBW.out.mono HB.out.size)).alloc (Nat.le_trans HB.out.size HBW.out.size) _⟩

/-- a row of variables that a call made -/
def VarsR (lo : Nat) (w' : World) (e : Ending) (V : List LVar) : Prop := ∃ g, e = .returned (.slice (some ⟨g, 0, none⟩) V.length V.length) ∧ lo ≤ g ∧ w'.heap[g]? = some (.cells (varCells V).toArray 38 (0, 0))
theorem l5Own_any (n : LNode) (vk vt ve : Value) (w : World) (h1 : ∃ a l c, vk = .slice a l c) (h2 : ∃ a l c, vt = .slice a l c) (h3 : ∃ a l c, ve = .slice a l c) (hn : n.name.length ≤ 1048576) (ho1 : 1 ≤ n.op) (ho4 : n.op ≤ 4) :
    Calls Tryz.prog 147 #[nodeV n vk vt ve] w fun e w' => VarsR w.heap.size w' e (ownOf 3 n.op n.name) ∧ Below w.heap.size w w' := by
  have h : n.op = 1 ∨ n.op = 2 ∨ n.op = 3 ∨ n.op = 4 := by omega
  rcases h with h | h | h | h <;> rw [h]
  · exact l5Own_1 n vk vt ve w h1 h2 h3 hn h
  · exact l5Own_2 n vk vt ve w h1 h2 h3 hn h
  · exact l5Own_3 n vk vt ve w h1 h2 h3 hn h
  · exact l5Own_4 n vk vt ve w h1 h2 h3 hn h
end Go.Proofs.YtdnhmpemkpjcaaaGreatDoor
namespace Go.Proofs.YtdnhmpemkpjcaaaGreatDoor
open Go.RowKit
set_option linter.unusedVariables false
theorem addr_add0 (g j : Nat) : (⟨g, 0, none⟩ : Addr).add j = ⟨g, j, none⟩ := by
  unfold Addr.add; split <;> simp_all
theorem append_nothing (ty : TypeId) (ad a2 : Option Addr) (n c c2 : Nat) (w : World) (h : n ≤ c) :
    (Builtin.append_ #[24, 24] ty #[.slice ad n c, .slice a2 0 c2]).run Tryz.prog w = .ok (.slice ad n c) w := by
  cases ad <;> cases a2 <;> simp [Builtin.append_, go_sem, h, Builtin.lenOf, Builtin.firstCells, sizeOf]
theorem wpList_append_none {w : World} {ops : Array Oper} {rest : List Oper} {o : Oper} {a : Act} {Q : Exit → Act → World → Prop} (hgd : o.guard = none) (s x : Operand)
    (ho : o.op = .call { callee := .builtin .append, args := #[s, x], argTypes := #[24, 24] }) (ad a2 : Option Addr) (n c c2 : Nat) (hs : a.eval s = .slice ad n c) (hx : a.eval x = .slice a2 0 c2) (hle : n ≤ c)
    (h : wpList Tryz.prog ops Q rest (a.put o.dst (.slice ad n c)) w) : wpList Tryz.prog ops Q (o :: rest) a w :=
  wpList_plain hgd fun _ hK => by
    have hr := append_nothing o.type ad a2 n c c2 w hle
    unfold Oper.wp execOp
    simp only [ho, resolve, invoke, builtin, Sem.run_bind, Sem.run_pure, Result.andThen_ok, List.map_toArray, List.map_cons, List.map_nil, hs, hx, hr]
    exact hK _ _ h
end Go.Proofs.YtdnhmpemkpjcaaaGreatDoor
namespace Go.Proofs.YtdnhmpemkpjcaaaGreatDoor
open Go.RowKit
set_option linter.unusedVariables false
attribute [local go_sem] bs_size bs_get bs_extract bs_append bs_eq bs_toList

theorem varCells_append (a b : List LVar) : varCells (a ++ b) = varCells a ++ varCells b := by unfold varCells; rw [List.flatMap_append]
theorem varCells_one (xs : List LVar) : ∀ u ∈ varCells xs, u.oneCell' = true := by
  intro u hu
  obtain ⟨x, _, h⟩ := List.mem_flatMap.1 hu
  simp at h
  rcases h with rfl | rfl | rfl | rfl <;> rfl
theorem cells_of_heap {w : World} {g : Nat} {T : TypeId} {l : List Value} (h : w.heap[g]? = some (.cells l.toArray T (0, 0))) : ∀ j u, l[j]? = some u → w.cell? ((⟨g, 0, none⟩ : Addr).add j) = some u := by
  intro j u hj
  have := cell_of_row _ _ j _ _ _ h
  rw [addr_add0, this]
  simpa using hj

theorem varCells_from {w : World} {b o : Nat} {V : List LVar} (h : ∀ (i : Nat) (x : LVar), V[i]? = some x → VarAt w b (o + i * 4) x) : ∀ j u, (varCells V)[j]? = some u → w.cell? ((⟨b, o, none⟩ : Addr).add j) = some u := by
  intro j u hj
  have hlt := (List.getElem?_eq_some_iff.1 hj).1
  rw [varCells_len] at hlt
  obtain ⟨i, r, hr, rfl⟩ : ∃ i r, r < 4 ∧ j = i * 4 + r := ⟨j / 4, j % 4, Nat.mod_lt _ (by omega), by omega⟩
  have hi : i < V.length := by omega
  obtain ⟨x, hx⟩ : ∃ x, V[i]? = some x := ⟨V[i], List.getElem?_eq_getElem hi⟩
  obtain ⟨c0, c1, c2, c3⟩ := h i x hx
  obtain ⟨u0, u1, u2, u3⟩ := varCells_at V i x hx
  have e : (⟨b, o, none⟩ : Addr).add (i * 4 + r) = ⟨b, o + i * 4 + r, none⟩ := by simp [Addr.add, Nat.add_assoc]
  rw [e]
  match r, hr with
  | 0, _ => rw [Nat.add_zero] at hj ⊢; rw [c0, ← u0, hj]
  | 1, _ => rw [c1, ← u1, hj]
  | 2, _ => rw [c2, ← u2, hj]
  | 3, _ => rw [c3, ← u3, hj]

set_option maxHeartbeats 6400000 in
set_option maxRecDepth 100000 in
theorem l5Owns_any (lo p : Nat) (vv vn vb : Value) (T : LTree) (w : World) (h : TreeP lo w p vv vn vb T) (hg : Good T) :
    Calls Tryz.prog 93 #[.pointer (some ⟨p, 0, none⟩)] w fun e w' => ∃ v, e = .returned v ∧ w'.ownsRow w.heap.size 38 4 v (ownsL 3 T.nodes).length (varCells (ownsL 3 T.nodes)) ∧ Below w.heap.size w w' := by
  obtain ⟨i0, hi, hz0, hz1, hz2⟩ := info_parts infoV
  obtain ⟨an, cn, rfl, _, hhn⟩ := id h.tree.nodes
  have HN : Hid (T.nodes ≠ [] → ∃ b o, an = some ⟨b, o, none⟩ ∧ lo ≤ b ∧ ∀ (i : Nat) (x : LNode), T.nodes[i]? = some x → NodeAt lo w b (o + i * 8) x) := hhn
  have p1 := h.c1
  have HP1 : Hid (w.cell? ⟨p, 1, none⟩ = some (.slice an T.nodes.length cn)) := p1
  have hpw : p < w.heap.size := World.block_lt_of_cell? _ _ p1
  have HOP : Hid (∀ n ∈ T.nodes, n.kind = 11 → (1 ≤ n.op ∧ n.op ≤ 4) ∧ n.name.length ≤ 8) := fun n hn hk => by
    obtain ⟨k, hk2, rfl⟩ := List.getElem_of_mem hn
    have := (hg.node k _ (List.getElem?_eq_getElem hk2)).1
    exact ⟨own_op this hk, (name_len (own_name this hk)).2⟩
  have hnl := hg.nodes
  have HOWL : Hid (∀ k, (ownsL 3 (T.nodes.take k)).length ≤ 600) := fun k => by
    have := ownsL_len 3 (T.nodes.take k)
    have : (T.nodes.take k).length ≤ 200 := by rw [List.length_take]; omega
    omega
  clear h hhn hg p1
  go_enter Tryz.func93, Tryz.ntmps93
  go_wp2
  have HOW0 : Hid ((w.alloc (.cells #[] 38)).ownsRow w.heap.size 38 4 (.slice (some ⟨w.heap.size, 0, none⟩) 0 0) (ownsL 3 (T.nodes.take 0)).length (varCells (ownsL 3 (T.nodes.take 0)))) :=
    ⟨rfl, .inr ⟨w.heap.size, 0, #[], rfl, Nat.le_refl _, heap_alloc_new w _, Nat.le_refl _, by decide, rfl, rfl⟩⟩
  have HB0 : Hid (Below w.heap.size w (w.alloc (.cells #[] 38))) := (Below.refl _ _).alloc (Nat.le_refl _) _
  generalize w.alloc (.cells #[] 38) = W0 at *
  go_loopw [3, 4] (fun v i wr => ∃ k : Nat, k ≤ T.nodes.length ∧ i = .int .i64 k ∧ wr.ownsRow w.heap.size 38 4 v (ownsL 3 (T.nodes.take k)).length (varCells (ownsL 3 (T.nodes.take k))) ∧ Below w.heap.size w wr) (fun v i _ => T.nodes.length - (intOf i).toNat)
  case atStart => exact ⟨0, by omega, rfl, HOW0.out, HB0.out⟩
  case round =>
    clear HOW0 HB0
    obtain ⟨k, hk, rfl, hown, hB⟩ := hrel
    obtain ⟨ad, cp, rfl⟩ := rowE_shape hown
    have HOWN : Hid (wr.ownsRow w.heap.size 38 4 (.slice ad (ownsL 3 (T.nodes.take k)).length cp) (ownsL 3 (T.nodes.take k)).length (varCells (ownsL 3 (T.nodes.take k)))) := hown
    have HB : Hid (Below w.heap.size w wr) := hB
    have q1 := (hB.cell (p := ⟨p, 1, none⟩) hpw).trans HP1.out
    have hlk := HOWL.out k
    clear hown
    by_cases hlt : k < T.nodes.length
    · obtain ⟨y, hy⟩ : ∃ y, T.nodes[k]? = some y := ⟨T.nodes[k], List.getElem?_eq_getElem hlt⟩
      obtain ⟨b, o, rfl, _, hc2⟩ := HN.out (by intro e; rw [e] at hlt; simp at hlt)
      obtain ⟨vk, vt, ve, hcs, hvs⟩ := hc2 k y hy
      obtain ⟨d0, d1, d2, d3, d4, d5, d6, d7⟩ := hcs.keep (lo := 0) (Keeps.of_below hB) (Nat.zero_le _)
      have HTK : Hid (ownsL 3 (T.nodes.take (k + 1)) = ownsL 3 (T.nodes.take k) ++ ownN 3 y) := ownsL_take hy
      have hopy := HOP.out y (List.mem_of_getElem? hy)
      have hk0 : (0 : Int) ≤ (k : Int) := by omega
      have hk1 : (k : Int) < (T.nodes.length : Int) := by omega
      obtain ⟨ak, ck, rfl, _⟩ := id hvs.kids
      obtain ⟨at2, ct, rfl, _⟩ := id hvs.thn
      obtain ⟨ae, ce, rfl, _⟩ := id hvs.els
      clear hy hc2 hcs hvs hB
      generalize ownsL 3 (T.nodes.take k) = M at *
      by_cases k11 : y.kind = 11
      · have hop : 1 ≤ y.op ∧ y.op ≤ 4 := (hopy k11).1
        have hyn : y.name.length ≤ 8 := (hopy k11).2
        have HOW : Hid (ownN 3 y = ownOf 3 y.op y.name) := by unfold Hid ownN; rw [if_pos k11]
        have HCO : Hid (∀ w, Calls Tryz.prog 147 #[.agg #[.int .i64 11, .int .i64 y.op, .string (bs y.name), .int .i64 y.num, .int .i64 y.far, .slice ak y.kids.length ck, .slice at2 y.thn.length ct, .slice ae y.els.length ce]] w fun e w' => VarsR w.heap.size w' e (ownOf 3 y.op y.name) ∧ Below w.heap.size w w') := fun w => by
          have := l5Own_any y (.slice ak y.kids.length ck) (.slice at2 y.thn.length ct) (.slice ae y.els.length ce) w ⟨_, _, _, rfl⟩ ⟨_, _, _, rfl⟩ ⟨_, _, _, rfl⟩ (by omega) hop.1 hop.2
          rwa [nodeV, k11] at this
        have hol := (ownOf_len 3 y.op y.name).2
        clear hopy
        go_wp2_with fail
        refine (HCO.out _).mono ?_
        rintro e w2 ⟨⟨gv, rfl, hgv, hvb⟩, hb⟩
        have hown := rowE_kept HOWN.out hb
        have HB2 : Hid (Below w.heap.size w w2) := HB.out.trans (hb.mono HB.out.size)
        have hwz := HB2.out.size
        have HCL : Hid (∀ j u, (varCells (ownOf 3 y.op y.name))[j]? = some u → w2.cell? ((⟨gv, 0, none⟩ : Addr).add j) = some u) := cells_of_heap hvb
        clear HCO hb hvb HOWN HB d0 d1 d2 d3 d4 d5 d6 d7 q1
        obtain ⟨X, hX⟩ : ∃ X, X = ownOf 3 y.op y.name := ⟨_, rfl⟩
        rw [← hX] at HCL HOW hol ⊢
        clear hX
        go_wp2_with (at_builtin; go_loud (refine wpList_append_own _ rfl _ _ 24 rfl w.heap.size 38 i0 (.agg #[.string ⟨#[]⟩, .int .i64 0, .int .i64 0, .int .i64 0]) 4 40 Tryz.underlying24 hi hz0 hz1 hz2 rfl (by decide) _ _ _ rfl hown ⟨gv, 0, none⟩ X.length X.length (varCells X) rfl ?c1 HCL.out (varCells_one X) ?c3 ?c4 ?c5 ?_))
        case c1 => exact varCells_len X
        case c3 => unfold maxLen; omega
        case c4 => omega
        case c5 => exact hwz
        intro v' w9 hown' hgrow _
        have hnew : Hid (w9.ownsRow w.heap.size 38 4 v' (ownsL 3 (T.nodes.take (k + 1))).length (varCells (ownsL 3 (T.nodes.take (k + 1))))) := by
          unfold Hid
          rw [HTK.out, HOW.out, varCells_append, List.length_append]; exact hown'
        have hbel9 : Hid (Below w.heap.size w w9) := HB2.out.grown hgrow hwz (fun j hj => (hown.lt j hj).1)
        clear hown' hgrow hown HB2 HCL
        go_wp2_with fail
        go_roundw
        case rel => exact ⟨k + 1, by omega, by go_num, hnew.out, hbel9.out⟩
        case measure => simp [intOf]; omega
      · have HOW : Hid (ownN 3 y = []) := by unfold Hid ownN; rw [if_neg k11]
        clear hopy
        go_wp2_with fail
        go_roundw
        case rel => exact ⟨k + 1, by omega, by go_num, by rw [HTK.out, HOW.out, List.append_nil]; exact HOWN.out, HB.out⟩
        case measure => simp [intOf]; omega
    · have hke : k = T.nodes.length := by omega
      subst hke
      go_wp2
      go_ret
      refine ⟨_, rfl, ?_, HB.out⟩
      have h := HOWN.out
      rw [List.take_length] at h
      rw [List.take_length]
      exact h

set_option maxHeartbeats 6400000 in
set_option maxRecDepth 100000 in
theorem l5All_any (lo p : Nat) (vv vn vb : Value) (T : LTree) (w : World) (h : TreeP lo w p vv vn vb T) (hg : Good T) :
    Calls Tryz.prog 57 #[.pointer (some ⟨p, 0, none⟩)] w fun e w' => ∃ v, e = .returned v ∧ w'.ownsRow w.heap.size 38 4 v (allL 3 T).length (varCells (allL 3 T)) ∧ Below w.heap.size w w' := by
  obtain ⟨i0, hi, hz0, hz1, hz2⟩ := info_parts infoV
  obtain ⟨av, cv, rfl, _, hhv⟩ := id h.tree.vars
  have p0 := h.c0
  have hpw : p < w.heap.size := World.block_lt_of_cell? _ _ p0
  have HTP : Hid (TreeP lo w p (.slice av T.vars.length cv) vn vb T) := h
  have HCO : Hid (∀ w', Below w.heap.size w w' → Calls Tryz.prog 93 #[.pointer (some ⟨p, 0, none⟩)] w' fun e w2 => ∃ v, e = .returned v ∧ w2.ownsRow w'.heap.size 38 4 v (ownsL 3 T.nodes).length (varCells (ownsL 3 T.nodes)) ∧ Below w'.heap.size w' w2) := fun w' hb => l5Owns_any lo p _ _ _ T w' (h.below hb) hg
  have hvl := hg.vars
  have hol : (ownsL 3 T.nodes).length ≤ 600 := by have := ownsL_len 3 T.nodes; have := hg.nodes; omega
  have HOW0 : Hid ((w.alloc (.cells #[] 38)).ownsRow w.heap.size 38 4 (.slice (some ⟨w.heap.size, 0, none⟩) 0 0) 0 []) :=
    ⟨rfl, .inr ⟨w.heap.size, 0, #[], rfl, Nat.le_refl _, heap_alloc_new w _, Nat.le_refl _, by decide, rfl, rfl⟩⟩
  have HB0 : Hid (Below w.heap.size w (w.alloc (.cells #[] 38))) := (Below.refl _ _).alloc (Nat.le_refl _) _
  have hsz0 : w.heap.size ≤ (w.alloc (.cells #[] 38)).heap.size := by simp
  by_cases hnil : T.vars = []
  · have hn0 : T.vars.length = 0 := by rw [hnil]; rfl
    have HOW6 : Hid ((w.alloc (.cells #[] 38)).ownsRow w.heap.size 38 4 (.slice (some ⟨w.heap.size, 0, none⟩) 0 0) 0 []) := HOW0
    have HB6 : Hid (Below w.heap.size w (w.alloc (.cells #[] 38))) := HB0
    rw [hn0] at p0
    clear h hg hhv HOW0 HB0 HTP hvl hn0
    go_enter Tryz.func57, Tryz.ntmps57
    go_wp2_with (at_builtin; go_loud (refine wpList_append_none rfl _ _ rfl (some ⟨w.heap.size, 0, none⟩) av 0 0 cv rfl rfl (Nat.le_refl 0) ?_))
    generalize w.alloc (.cells #[] 38) = w6 at *
    obtain ⟨ad, cp, hsv⟩ : ∃ ad cp, (Value.slice (some ⟨w.heap.size, 0, none⟩) 0 0) = .slice ad 0 cp := ⟨_, _, rfl⟩
    rw [hsv] at HOW6 ⊢
    clear hsv
    have HC6 : Hid (Calls Tryz.prog 93 #[.pointer (some ⟨p, 0, none⟩)] w6 fun e w2 => ∃ v, e = .returned v ∧ w2.ownsRow w6.heap.size 38 4 v (ownsL 3 T.nodes).length (varCells (ownsL 3 T.nodes)) ∧ Below w6.heap.size w6 w2) := HCO.out w6 HB6.out
    clear HCO
    go_wp2_with fail
    refine HC6.out.mono ?_
    rintro e w7 ⟨v7, rfl, hown7, hb⟩
    have hwz := HB6.out.size
    have hown := rowE_kept HOW6.out hb
    have HB7 : Hid (Below w.heap.size w w7) := HB6.out.trans (hb.mono HB6.out.size)
    have hsz7 := HB7.out.size
    have HALL : Hid (allL 3 T = ownsL 3 T.nodes) := by unfold Hid allL; rw [hnil]; rfl
    clear HC6 hb HOW6
    by_cases hne : 0 < (ownsL 3 T.nodes).length
    · obtain ⟨gv, c, rfl, _, _, hcs⟩ := rowE_cells hown7 hne (varCells_len _)
      have HCL : Hid (∀ j u, (varCells (ownsL 3 T.nodes))[j]? = some u → w7.cell? ((⟨gv, 0, none⟩ : Addr).add j) = some u) := fun j u hj => by
        have hlt := (List.getElem?_eq_some_iff.1 hj).1
        rw [varCells_len] at hlt
        rw [addr_add0, hcs j hlt, hj]
      clear hown7 hcs
      obtain ⟨X, hX⟩ : ∃ X, X = ownsL 3 T.nodes := ⟨_, rfl⟩
      rw [← hX] at HCL HALL hol hne ⊢
      clear hX
      go_wp2_with (at_builtin; go_loud (refine wpList_append_own _ rfl _ _ 24 rfl w.heap.size 38 i0 (.agg #[.string ⟨#[]⟩, .int .i64 0, .int .i64 0, .int .i64 0]) 4 40 Tryz.underlying24 hi hz0 hz1 hz2 rfl (by decide) _ _ _ rfl hown ⟨gv, 0, none⟩ X.length c (varCells X) rfl ?c1 HCL.out (varCells_one X) ?c3 ?c4 ?c5 ?_))
      case c1 => exact varCells_len _
      case c3 => unfold maxLen; omega
      case c4 => omega
      case c5 => exact hsz7
      intro v' w9 hown' hgrow _
      have hnew : Hid (w9.ownsRow w.heap.size 38 4 v' (allL 3 T).length (varCells (allL 3 T))) := by
        unfold Hid
        rw [HALL.out]; simpa using hown'
      have hbel9 : Hid (Below w.heap.size w w9) := HB7.out.grown hgrow hsz7 (fun j hj => (hown.lt j hj).1)
      clear hown' hgrow hown HB7 HCL
      go_wp2_with fail
      go_ret
      exact ⟨_, rfl, hnew.out, hbel9.out⟩
    · have hz : ownsL 3 T.nodes = [] := List.length_eq_zero_iff.1 (by omega)
      have HAL2 : Hid (allL 3 T = []) := by unfold Hid; rw [HALL.out, hz]
      rw [hz] at hown7
      obtain ⟨a7, c7, rfl⟩ := rowE_shape hown7
      have hcp : 0 ≤ cp := row_cap hown
      have HOW7 : Hid (w7.ownsRow w.heap.size 38 4 (.slice ad 0 cp) 0 ([])) := hown
      clear hown hown7 hz hne HALL
      go_wp2_with (at_builtin; go_loud (refine wpList_append_none rfl _ _ rfl ad a7 0 cp c7 rfl rfl hcp ?_))
      go_wp2_with fail
      go_ret
      exact ⟨_, rfl, by rw [HAL2.out]; exact HOW7.out, HB7.out⟩
  · obtain ⟨b, o, rfl, _, hcs⟩ := hhv hnil
    have HCL : Hid (∀ j u, (varCells T.vars)[j]? = some u → (w.alloc (.cells #[] 38)).cell? ((⟨b, o, none⟩ : Addr).add j) = some u) := varCells_from fun i x hx => (hcs i x hx).keep (lo := 0) (Keeps.of_below ((Below.refl _ _).alloc (Nat.le_refl _) _)) (Nat.zero_le _)
    have hown := HOW0.out
    clear h hg hhv HOW0 hcs
    go_enter Tryz.func57, Tryz.ntmps57
    go_wp2_with (at_builtin; go_loud (refine wpList_append_own _ rfl _ _ 24 rfl w.heap.size 38 i0 (.agg #[.string ⟨#[]⟩, .int .i64 0, .int .i64 0, .int .i64 0]) 4 40 Tryz.underlying24 hi hz0 hz1 hz2 rfl (by decide) _ 0 [] rfl hown ⟨b, o, none⟩ T.vars.length cv (varCells T.vars) rfl ?c1 HCL.out (varCells_one T.vars) ?c3 ?c4 ?c5 ?_))
    case c1 => exact varCells_len _
    case c3 => unfold maxLen; omega
    case c4 => omega
    case c5 => exact hsz0
    intro v' w6 hown' hgrow _
    have HOW6 : Hid (w6.ownsRow w.heap.size 38 4 v' T.vars.length (varCells T.vars)) := hown'
    have HB6 : Hid (Below w.heap.size w w6) := HB0.out.grown hgrow hsz0 (fun j hj => (hown.lt j hj).1)
    obtain ⟨ad, cp, rfl⟩ := rowE_shape HOW6.out
    have HC6 : Hid (Calls Tryz.prog 93 #[.pointer (some ⟨p, 0, none⟩)] w6 fun e w2 => ∃ v, e = .returned v ∧ w2.ownsRow w6.heap.size 38 4 v (ownsL 3 T.nodes).length (varCells (ownsL 3 T.nodes)) ∧ Below w6.heap.size w6 w2) := HCO.out w6 HB6.out
    clear hown' hgrow hown HB0 HCL HCO
    go_wp2_with fail
    refine HC6.out.mono ?_
    rintro e w7 ⟨v7, rfl, hown7, hb⟩
    have hwz := HB6.out.size
    have hown := rowE_kept HOW6.out hb
    have HB7 : Hid (Below w.heap.size w w7) := HB6.out.trans (hb.mono HB6.out.size)
    have hsz7 := HB7.out.size
    have HALL : Hid (allL 3 T = T.vars ++ ownsL 3 T.nodes) := rfl
    clear HC6 hb HOW6
    by_cases hne : 0 < (ownsL 3 T.nodes).length
    · obtain ⟨gv, c, rfl, _, _, hcs⟩ := rowE_cells hown7 hne (varCells_len _)
      have HCL : Hid (∀ j u, (varCells (ownsL 3 T.nodes))[j]? = some u → w7.cell? ((⟨gv, 0, none⟩ : Addr).add j) = some u) := fun j u hj => by
        have hlt := (List.getElem?_eq_some_iff.1 hj).1
        rw [varCells_len] at hlt
        rw [addr_add0, hcs j hlt, hj]
      clear hown7 hcs
      obtain ⟨X, hX⟩ : ∃ X, X = ownsL 3 T.nodes := ⟨_, rfl⟩
      rw [← hX] at HCL HALL hol hne ⊢
      clear hX
      go_wp2_with (at_builtin; go_loud (refine wpList_append_own _ rfl _ _ 24 rfl w.heap.size 38 i0 (.agg #[.string ⟨#[]⟩, .int .i64 0, .int .i64 0, .int .i64 0]) 4 40 Tryz.underlying24 hi hz0 hz1 hz2 rfl (by decide) _ _ _ rfl hown ⟨gv, 0, none⟩ X.length c (varCells X) rfl ?c1 HCL.out (varCells_one X) ?c3 ?c4 ?c5 ?_))
      case c1 => exact varCells_len _
      case c3 => unfold maxLen; omega
      case c4 => omega
      case c5 => exact hsz7
      intro v' w9 hown' hgrow _
      have hnew : Hid (w9.ownsRow w.heap.size 38 4 v' (allL 3 T).length (varCells (allL 3 T))) := by
        unfold Hid
        rw [HALL.out, varCells_append, List.length_append]; exact hown'
      have hbel9 : Hid (Below w.heap.size w w9) := HB7.out.grown hgrow hsz7 (fun j hj => (hown.lt j hj).1)
      clear hown' hgrow hown HB7 HCL
      go_wp2_with fail
      go_ret
      exact ⟨_, rfl, hnew.out, hbel9.out⟩
    · have hz : ownsL 3 T.nodes = [] := List.length_eq_zero_iff.1 (by omega)
      have HAL2 : Hid (allL 3 T = T.vars) := by unfold Hid; rw [HALL.out, hz, List.append_nil]
      rw [hz] at hown7
      obtain ⟨a7, c7, rfl⟩ := rowE_shape hown7
      have hcp : T.vars.length ≤ cp := row_cap hown
      have HOW7 : Hid (w7.ownsRow w.heap.size 38 4 (.slice ad T.vars.length cp) T.vars.length (varCells T.vars)) := hown
      clear hown hown7 hz hne HALL
      go_wp2_with (at_builtin; go_loud (refine wpList_append_none rfl _ _ rfl ad a7 T.vars.length cp c7 rfl rfl hcp ?_))
      go_wp2_with fail
      go_ret
      exact ⟨_, rfl, by rw [HAL2.out]; exact HOW7.out, HB7.out⟩
end Go.Proofs.YtdnhmpemkpjcaaaGreatDoor
namespace Go.Proofs.YtdnhmpemkpjcaaaGreatDoor
open Go.RowKit
set_option linter.unusedVariables false
attribute [local go_sem] bs_size bs_get bs_extract bs_append bs_eq bs_toList

set_option maxHeartbeats 800000 in
theorem l5Size_any (x : LVar) (w : World) : Calls Tryz.prog 122 #[varV x] w fun e w' => e = .returned (.int .i64 (szV x)) ∧ Below w.heap.size w w' := by
  have HM : Hid (∀ (w : World), Calls Tryz.prog 172 #[.int .i64 1, .int .i64 x.size] w fun e w' => e = .returned (.int .i64 (szV x)) ∧ w' = w) := fun w => l1Max_any 1 x.size w
  go_enter Tryz.func122, Tryz.ntmps122
  go_wp2_with fail
  refine (HM.out _).mono ?_
  rintro e w2 ⟨rfl, rfl⟩
  go_wp2_with fail
  go_ret
  exact ⟨rfl, by go_grown⟩

/-- variables that lie in a row, the first k of them -/
def RowV (w : World) (ad : Option Addr) (V : List LVar) : Prop := V ≠ [] → ∃ g, ad = some ⟨g, 0, none⟩ ∧ ∀ (i : Nat) (x : LVar), V[i]? = some x → VarAt w g (i * 4) x
theorem RowV.of_own {w : World} {B : Nat} {ad : Option Addr} {n c : Nat} {V : List LVar} (h : w.ownsRow B 38 4 (.slice ad n c) n (varCells V)) (hn : n = V.length) : RowV w ad V := by
  intro hne
  subst hn
  have hp : 0 < V.length := List.length_pos_iff.2 hne
  obtain ⟨g, c', e, _, _, hc⟩ := rowE_cells h hp (varCells_len _)
  simp at e
  refine ⟨g, e.1, fun i x hx => ?_⟩
  have hi := (List.getElem?_eq_some_iff.1 hx).1
  obtain ⟨u0, u1, u2, u3⟩ := varCells_at V i x hx
  exact ⟨(hc _ (by omega)).trans u0, (hc _ (by omega)).trans u1, (hc _ (by omega)).trans u2, (hc _ (by omega)).trans u3⟩
theorem RowV.below {w w' : World} {ad : Option Addr} {V : List LVar} (h : RowV w ad V) (hb : Below w.heap.size w w') : RowV w' ad V := fun hne => by
  obtain ⟨g, e, hc⟩ := h hne
  exact ⟨g, e, fun i x hx => (hc i x hx).keep (lo := 0) (Keeps.of_below hb) (Nat.zero_le _)⟩

set_option maxHeartbeats 3200000 in
set_option maxRecDepth 100000 in
theorem l5Cells_any (V : List LVar) (ad : Option Addr) (k c : Nat) (w : World) (hk : k ≤ V.length) (hV : RowV w ad V) (hs : SizesLe V) (hl : V.length ≤ 624) :
    Calls Tryz.prog 56 #[.slice ad k c] w fun e w' => e = .returned (.int .i64 (cellsL (V.take k))) ∧ Below w.heap.size w w' := by
  have HV : Hid (RowV w ad V) := hV
  have HNX : Hid (∀ (k : Nat) (x : LVar), V[k]? = some x → 0 ≤ cellsL (V.take k) ∧ cellsL (V.take k) ≤ 4992 ∧ 0 ≤ szV x ∧ szV x ≤ 8 ∧ cellsL (V.take (k + 1)) = cellsL (V.take k) + szV x) := fun k x hk => cells_next hk hs hl
  have HSZ : Hid (∀ (x : LVar) (w : World), Calls Tryz.prog 122 #[varV x] w fun e w' => e = .returned (.int .i64 (szV x)) ∧ Below w.heap.size w w') := l5Size_any
  clear hV hs
  go_enter Tryz.func56, Tryz.ntmps56
  go_wp2
  go_loopw [3, 4] (fun d i wr => ∃ j : Nat, j ≤ k ∧ i = .int .i64 j ∧ d = .int .i64 (cellsL (V.take j)) ∧ Below w.heap.size w wr) (fun d i _ => k - (intOf i).toNat)
  case atStart => exact ⟨0, by omega, rfl, rfl, Below.refl _ _⟩
  case round =>
    obtain ⟨j, hj, rfl, rfl, hB⟩ := hrel
    have HB : Hid (Below w.heap.size w wr) := hB
    by_cases hlt : j < k
    · obtain ⟨x, hx⟩ : ∃ x, V[j]? = some x := ⟨V[j]'(by omega), List.getElem?_eq_getElem _⟩
      obtain ⟨g, rfl, hc⟩ := HV.out (by intro e; rw [e] at hx; simp at hx)
      obtain ⟨c0, c1, c2, c3⟩ := (hc j x hx).keep (lo := 0) (Keeps.of_below hB) (Nat.zero_le _)
      obtain ⟨n0, n1, n2, n3, n4⟩ := HNX.out j x hx
      have HN : Hid (cellsL (V.take (j + 1)) = cellsL (V.take j) + szV x) := n4
      have hj0 : (0 : Int) ≤ (j : Int) := by omega
      have hj1 : (j : Int) < (k : Int) := by omega
      clear hx hc n4 hB
      generalize cellsL (V.take j) = s at *
      go_wp2_with fail
      refine (HSZ.out x _).mono ?_
      rintro e w2 ⟨rfl, hb⟩
      have HB2 : Hid (Below w.heap.size w w2) := HB.out.trans (hb.mono HB.out.size)
      clear hb HB c0 c1 c2 c3
      generalize szV x = z at *
      go_wp2_with fail
      go_roundw
      case rel => exact ⟨j + 1, by omega, by go_num, by rw [HN.out], HB2.out⟩
      case measure => simp [intOf]; omega
    · have hje : j = k := by omega
      subst hje
      go_wp2
      go_ret
      exact ⟨rfl, HB.out⟩

set_option maxHeartbeats 3200000 in
set_option maxRecDepth 100000 in
theorem l5Find_any (V : List LVar) (nm : List UInt8) (ad : Option Addr) (k c : Nat) (w : World) (hk : k = V.length) (hV : RowV w ad V) (hl : V.length ≤ 624) :
    Calls Tryz.prog 173 #[.slice ad k c, .string (bs nm)] w fun e w' => e = .returned (.int .i64 (varFrom nm V 0)) ∧ w' = w := by
  subst hk
  have HV : Hid (RowV w ad V) := hV
  clear hV
  go_enter Tryz.func173, Tryz.ntmps173
  go_wp2
  go_loopw [5] (fun i wr => ∃ k : Nat, k ≤ V.length ∧ i = .int .i64 k ∧ varFrom nm V 0 = varFrom nm (V.drop k) k ∧ SameW wr w) (fun i _ => V.length - (intOf i).toNat)
  case atStart => exact ⟨0, by omega, rfl, rfl, rfl⟩
  case round =>
    obtain ⟨k, hk, rfl, hv, hw⟩ := hrel
    have HF : Hid _ := hv
    clear hv
    by_cases hlt : k < V.length
    · obtain ⟨x, hx⟩ : ∃ x, V[k]? = some x := ⟨V[k], List.getElem?_eq_getElem hlt⟩
      obtain ⟨g, rfl, hc1⟩ := HV.out (by intro e; rw [e] at hlt; simp at hlt)
      have c0 : wr.cell? ⟨g, k * 4, none⟩ = _ := (congrArg (fun W => World.cell? W ⟨g, k * 4, none⟩) hw).trans (hc1 k x hx).1
      have HX : Hid (V[k]? = some x) := hx
      clear hx hc1
      by_cases he : x.name = nm
      · have e := HF.out.trans (varFrom_hit HX.out he)
        have HE : Hid _ := e
        clear e
        subst he
        go_wp2
        go_ret
        exact ⟨by rw [HE.out]; rfl, hw⟩
      · have hne : (x.name == nm) = false := by simpa using he
        have hne2 : decide (x.name = nm) = false := decide_eq_false he
        have e := HF.out.trans (varFrom_miss HX.out he)
        have HE : Hid _ := e
        clear e
        go_wp2
        go_roundw
        case rel => exact ⟨k + 1, by omega, by go_num, HE.out, hw⟩
        case measure => simp [intOf]; omega
    · have hke : k = V.length := by omega
      have HKE : Hid (k = V.length) := hke
      clear hke
      go_wp2
      go_ret
      refine ⟨?_, hw⟩
      rw [HF.out, HKE.out, List.drop_length]; rfl
end Go.Proofs.YtdnhmpemkpjcaaaGreatDoor
namespace Go.Proofs.YtdnhmpemkpjcaaaGreatDoor
open Go.RowKit
set_option linter.unusedVariables false
attribute [local go_sem] bs_size bs_get bs_extract bs_append bs_eq bs_toList

/-- all blocks but g are as they were -/
structure Sole (g : Nat) (w w' : World) : Prop where
  bel : Below 0 w w'
  rest : ∀ b, b < w.heap.size → b ≠ g → w'.heap[b]? = w.heap[b]?
theorem Sole.refl (g : Nat) (w : World) : Sole g w w := ⟨Below.refl _ _, fun _ _ _ => rfl⟩
theorem Sole.trans {g : Nat} {a b c : World} (h : Sole g a b) (k : Sole g b c) : Sole g a c :=
  ⟨h.bel.trans k.bel, fun i hi hg => (k.rest i (Nat.lt_of_lt_of_le hi h.bel.size) hg).trans (h.rest i hi hg)⟩
theorem _root_.Go.RowKit.Below.sole {g : Nat} {w w' : World} (h : Below w.heap.size w w') : Sole g w w' := ⟨h.mono (Nat.zero_le _), fun b hb _ => h.block b hb⟩
theorem Sole.set {g : Nat} {w w' : World} (h : Sole g w w') (o : Nat) (u : Value) : Sole g w (w'.setCell ⟨g, o, none⟩ u) :=
  h.trans ⟨(Below.refl _ _).setCell (Nat.zero_le _) _, fun b _ hg => Below.heap_setCell _ _ _ _ hg⟩
theorem Sole.cell {g : Nat} {w w' : World} (h : Sole g w w') {p : Addr} {u : Value} (hne : p.block ≠ g) (hc : w.cell? p = some u) : w'.cell? p = some u := by
  rw [World.cell?_of_block (h.rest p.block (World.block_lt_of_cell? _ _ hc) hne)]; exact hc
/-- what a check leans on: the tree at p, all variables, in a world ahead of the check's own block -/
structure ChkE (lo : Nat) (W0 : World) (p kp : Nat) (vv vn vb : Value) (aA : Option Addr) (T : LTree) (V : List LVar) : Prop where
  tree : TreeP lo W0 p vv vn vb T
  all : RowV W0 aA V
  few : V.length ≤ 624
  low : W0.heap.size ≤ kp
  good : Good T
/-- the check's block, with what was met -/
structure Chk (W0 W : World) (kp p : Nat) (aA : Option Addr) (lA cA : Nat) (vl : Value) (st : Met) : Prop where
  bel : Below W0.heap.size W0 W
  row : W.heap[kp]? = some (.cells #[.pointer (some ⟨p, 0, none⟩), .slice aA lA cA, vl, .int .i64 st.1, .int .i64 st.2] 113 (0, 0))
theorem Chk.below {W0 W W' : World} {kp p lA cA : Nat} {aA : Option Addr} {vl : Value} {st : Met} (h : Chk W0 W kp p aA lA cA vl st) (hb : Below W.heap.size W W') : Chk W0 W' kp p aA lA cA vl st :=
  ⟨h.bel.trans (hb.mono h.bel.size), blk h.row hb⟩
/-- the cells of a node that a walk reads -/
theorem ChkE.node {lo p kp : Nat} {W0 W : World} {vv vn vb : Value} {aA : Option Addr} {T : LTree} {V : List LVar} (h : ChkE lo W0 p kp vv vn vb aA T V) (hb : Below W0.heap.size W0 W) (x : Nat) (hx : x < T.nodes.length) :
    ∃ bn on cn, vn = .slice (some ⟨bn, on, none⟩) T.nodes.length cn ∧ W.cell? ⟨p, 1, none⟩ = some vn ∧ ∃ vk vt ve, NodeCells W bn (on + x * 8) (nodeOf T.nodes (x : Int)) vk vt ve ∧ IntsV lo W0 vk (nodeOf T.nodes (x : Int)).kids ∧ (∃ a l c, vk = .slice a l c) ∧ (∃ a l c, vt = .slice a l c) ∧ (∃ a l c, ve = .slice a l c) := by
  obtain ⟨an, cn, rfl, _, hh⟩ := id h.tree.tree.nodes
  obtain ⟨bn, on, rfl, _, hc⟩ := hh (by intro e; rw [e] at hx; simp at hx)
  have hxe : T.nodes[x]? = some (nodeOf T.nodes (x : Int)) := by unfold nodeOf; rw [Int.toNat_natCast, List.getD_eq_getElem?_getD, List.getElem?_eq_getElem hx]; rfl
  obtain ⟨vk, vt, ve, h1, h2⟩ := hc x _ hxe
  have hpw : p < W0.heap.size := World.block_lt_of_cell? _ _ h.tree.c1
  obtain ⟨a1, c1, e1, _⟩ := id h2.kids
  obtain ⟨a2, c2, e2, _⟩ := id h2.thn
  obtain ⟨a3, c3, e3, _⟩ := id h2.els
  exact ⟨bn, on, cn, rfl, (hb.cell (p := ⟨p, 1, none⟩) hpw).trans h.tree.c1, vk, vt, ve, h1.keep (lo := 0) (.of_below hb) (Nat.zero_le _), h2.kids, ⟨_, _, _, e1⟩, ⟨_, _, _, e2⟩, ⟨_, _, _, e3⟩⟩

set_option maxHeartbeats 1600000 in
theorem l5Stop_any (W0 W : World) (kp p lA cA : Nat) (aA : Option Addr) (vl : Value) (st : Met) (c x : Int) (h : Chk W0 W kp p aA lA cA vl st) (hl : W0.heap.size ≤ kp) :
    Calls Tryz.prog 174 #[.pointer (some ⟨kp, 0, none⟩), .int .i64 c, .int .i64 x] W fun e w' => e = .returned (.tuple #[]) ∧ Chk W0 w' kp p aA lA cA vl (metAt st c x) ∧ Sole kp W w' := by
  obtain ⟨s1, s2⟩ := st
  have c3 := cell_of_row _ _ 3 _ _ _ h.row
  have c4 := cell_of_row _ _ 4 _ _ _ h.row
  have f3 := frozen_of_row _ _ 3 _ _ h.row
  have f4 := frozen_of_row _ _ 4 _ _ h.row
  simp at c3 c4
  have hk := blk_lt h.row
  have H : Hid (Chk W0 W kp p aA lA cA vl (s1, s2)) := h
  clear h
  by_cases hz : s1 = 0
  · subst hz
    go_enter Tryz.func174, Tryz.ntmps174
    go_wp2
    go_end0
    refine ⟨rfl, ⟨H.out.bel.trans (((Below.refl _ _).setCell (by simp; omega) _).setCell (by simp; omega) _), ?_⟩, ((Sole.refl _ _).set _ _).set _ _⟩
    rw [heap_setCell_same _ _ _ _ _ _ (heap_setCell_same _ _ _ _ _ _ H.out.row)]
    rfl
  · have e : metAt (s1, s2) c x = (s1, s2) := by unfold metAt; rw [if_neg hz]
    rw [e]
    have hz1 : (s1 == 0) = false := by simpa using hz
    have hz2 : decide (s1 = 0) = false := decide_eq_false hz
    go_enter Tryz.func174, Tryz.ntmps174
    go_wp2
    go_end0
    exact ⟨rfl, H.out, Sole.refl _ _⟩
end Go.Proofs.YtdnhmpemkpjcaaaGreatDoor
namespace Go.Proofs.YtdnhmpemkpjcaaaGreatDoor
open Go.RowKit
set_option linter.unusedVariables false
attribute [local go_sem] bs_size bs_get bs_extract bs_append bs_eq bs_toList

theorem rowV_heap {W W' : World} {a : Option Addr} {V : List LVar} (h : RowV W a V) (hW : W'.heap = W.heap) : RowV W' a V := fun hne => by
  obtain ⟨g, e, hc⟩ := h hne
  have hs : ∀ o, W'.cell? ⟨g, o, none⟩ = W.cell? ⟨g, o, none⟩ := fun o => World.cell?_of_block (a := ⟨g, o, none⟩) (show W'.heap[g]? = W.heap[g]? from by rw [hW])
  exact ⟨g, e, fun i x hx => by
    obtain ⟨h1, h2, h3, h4⟩ := hc i x hx
    exact ⟨(hs _).trans h1, (hs _).trans h2, (hs _).trans h3, (hs _).trans h4⟩⟩
set_option maxHeartbeats 6400000 in
set_option maxRecDepth 100000 in
theorem l5Name_any (lo : Nat) (W0 W : World) (kp p cA : Nat) (vv vn vb : Value) (aA : Option Addr) (T : LTree) (V : List LVar) (vl : Value) (st : Met) (j : Nat) (row : Bool) (hE : ChkE lo W0 p kp vv vn vb aA T V) (hC : Chk W0 W kp p aA V.length cA vl st) (hj : j < T.nodes.length) :
    Calls Tryz.prog 126 #[.pointer (some ⟨kp, 0, none⟩), .int .i64 (j : Int), .bool row] W fun e w' => e = .returned (.int .i64 (nameF V T.vars.length (nodeOf T.nodes (j : Int)).name row (j : Int) st).1) ∧ Chk W0 w' kp p aA V.length cA vl (nameF V T.vars.length (nodeOf T.nodes (j : Int)).name row (j : Int) st).2 ∧ Sole kp W w' := by
  obtain ⟨bn, on, cn, rfl, q1, vk, vt, ve, hnc, _⟩ := hE.node hC.bel j hj
  have n2 := hnc.c2
  have k0 := cell_of_row _ _ 0 _ _ _ hC.row
  have k1 := cell_of_row _ _ 1 _ _ _ hC.row
  simp at k0 k1
  have hrv := hE.all.below hC.bel
  have hfew := hE.few
  have hnl := hE.good.nodes
  have hvl := hE.good.vars
  obtain ⟨av, cv, rfl, _⟩ := id hE.tree.tree.vars
  have hpw : p < W0.heap.size := World.block_lt_of_cell? _ _ hE.tree.c0
  have q0 : W.cell? ⟨p, 0, none⟩ = some (.slice av T.vars.length cv) := (hC.bel.cell (p := ⟨p, 0, none⟩) hpw).trans hE.tree.c0
  have HSTOP : Hid (∀ (c : Int) (W' : World), Chk W0 W' kp p aA V.length cA vl st → Calls Tryz.prog 174 #[.pointer (some ⟨kp, 0, none⟩), .int .i64 c, .int .i64 (j : Int)] W' fun e w' => e = .returned (.tuple #[]) ∧ Chk W0 w' kp p aA V.length cA vl (metAt st c (j : Int)) ∧ Sole kp W' w') := fun c W' h => l5Stop_any W0 W' kp p V.length cA aA vl st c (j : Int) h hE.low
  obtain ⟨nm, hnm⟩ : ∃ nm, nm = (nodeOf T.nodes (j : Int)).name := ⟨_, rfl⟩
  rw [← hnm] at n2 ⊢
  clear hnm
  have HFI : Hid (∀ W', W'.heap = W.heap → Calls Tryz.prog 173 #[.slice aA V.length cA, .string (bs nm)] W' fun e w' => e = .returned (.int .i64 (varFrom nm V 0)) ∧ w' = W') := fun W' hW => l5Find_any V nm aA V.length cA W' rfl (rowV_heap hrv hW) hfew
  have HVO := varFrom_or nm V 0
  have HNF : Hid (∀ X, varFrom nm V 0 = X → nameF V T.vars.length nm row (j : Int) st = (if X < 0 ∨ (row = true ∧ (T.vars.length : Int) ≤ X) then (0, metAt st 4 (j : Int)) else if (decide (0 < (V.getD X.toNat default).size)) ≠ row then (0, metAt st 1 (j : Int)) else ((V.getD X.toNat default).type, st))) := fun X hX => by unfold nameF; rw [hX]
  have HCH : Hid (Chk W0 W kp p aA V.length cA vl st) := hC
  have HRV : Hid (RowV W aA V) := hrv
  have hj0 : (0 : Int) ≤ (j : Int) := by omega
  have hj1 : (j : Int) < (T.nodes.length : Int) := by omega
  obtain ⟨X, hX⟩ : ∃ X, varFrom nm V 0 = X := ⟨_, rfl⟩
  have HN := HNF.out X hX
  rw [hX] at HFI HVO
  clear hC hE hnc hrv hX HNF
  go_enter Tryz.func126, Tryz.ntmps126
  go_wp2_with fail
  go_region_held3 (fun Z => Z.cell? ⟨kp, 0, none⟩ = some (.pointer (some ⟨p, 0, none⟩)) ∧ Z.cell? ⟨kp, 1, none⟩ = some (.slice aA V.length cA) ∧ Z.cell? ⟨p, 1, none⟩ = some (.slice (some ⟨bn, on, none⟩) T.nodes.length cn) ∧ Z.cell? ⟨bn, on + j * 8 + 2, none⟩ = some (.string (bs nm))) (go_keep) (first | (go_at_call 173; refine (HFI.out _ (by rfl)).mono ?_; rintro e w2 ⟨rfl, rfl⟩))
  have hcd : Chk W0 W.drew kp p aA V.length cA vl st := ⟨HCH.out.bel.drew, HCH.out.row⟩
  have hrd : RowV W.drew aA V := rowV_heap HRV.out rfl
  have k0 : W.drew.cell? ⟨kp, 0, none⟩ = _ := k0
  have k1 : W.drew.cell? ⟨kp, 1, none⟩ = _ := k1
  have q0 : W.drew.cell? ⟨p, 0, none⟩ = _ := q0
  have hbd : Sole kp W W.drew := ((Below.refl W.heap.size W).drew).sole
  clear HCH HRV q1 n2 HFI
  have HCD : Hid (Chk W0 W.drew kp p aA V.length cA vl st) := hcd
  have HRD : Hid (RowV W.drew aA V) := hrd
  have HBD : Hid (Sole kp W W.drew) := hbd
  clear hcd hrd hbd
  generalize W.drew = Wd at *
  rcases HVO with hX1 | ⟨i, rfl, hi⟩
  · have hXn : X < 0 := by omega
    have HR : Hid (nameF V T.vars.length nm row (j : Int) st = (0, metAt st 4 (j : Int))) := by unfold Hid; rw [HN, if_pos (Or.inl hXn)]
    clear hX1 HN HRD
    go_wp2_with fail
    refine (HSTOP.out 4 _ HCD.out).mono ?_
    rintro e w2 ⟨rfl, hc2, hb2⟩
    have HC2 : Hid (Chk W0 w2 kp p aA V.length cA vl (metAt st 4 (j : Int)) ∧ Sole kp W w2) := ⟨hc2, HBD.out.trans hb2⟩
    clear hc2 hb2
    go_wp2_with fail
    go_ret
    exact ⟨by rw [HR.out]; rfl, by rw [HR.out]; exact HC2.out.1, HC2.out.2⟩
  · have hiV : i < V.length := by omega
    have hni : ¬ ((i : Int) < 0) := by omega
    obtain ⟨v, hv⟩ : ∃ v, V[i]? = some v := ⟨V[i], List.getElem?_eq_getElem hiV⟩
    have hvd : V.getD ((i : Int)).toNat default = v := by rw [Int.toNat_natCast, List.getD_eq_getElem?_getD, hv]; rfl
    rw [hvd] at HN
    obtain ⟨g, rfl, hcs⟩ := HRD.out (by intro e; rw [e] at hiV; simp at hiV)
    obtain ⟨c0, c1, c2, c3⟩ := hcs i v hv
    have hi0 : (0 : Int) ≤ (i : Int) := by omega
    have hi1 : (i : Int) < (V.length : Int) := by omega
    clear hcs hv hvd HRD hi
    by_cases hrow : row = true ∧ (T.vars.length : Int) ≤ (i : Int)
    · obtain ⟨rfl, hge⟩ := hrow
      have HR : Hid (nameF V T.vars.length nm true (j : Int) st = (0, metAt st 4 (j : Int))) := by unfold Hid; rw [HN, if_pos (Or.inr ⟨rfl, hge⟩)]
      have hge2 : ¬ ((i : Int) < (T.vars.length : Int)) := by omega
      have hge3 : T.vars.length ≤ i := by omega
      clear HN c0 c1 c2 c3
      go_wp2_with fail
      refine (HSTOP.out 4 _ HCD.out).mono ?_
      rintro e w2 ⟨rfl, hc2, hb2⟩
      have HC2 : Hid (Chk W0 w2 kp p (some ⟨g, 0, none⟩) V.length cA vl (metAt st 4 (j : Int)) ∧ Sole kp W w2) := ⟨hc2, HBD.out.trans hb2⟩
      clear hc2 hb2
      go_wp2_with fail
      go_ret
      exact ⟨by rw [HR.out]; rfl, by rw [HR.out]; exact HC2.out.1, HC2.out.2⟩
    · have hrow2 : row = true → i < T.vars.length := fun hr => by
        by_cases h : (T.vars.length : Int) ≤ (i : Int)
        · exact absurd ⟨hr, h⟩ hrow
        · omega
      rw [if_neg (by rintro (h | h); exact hni h; exact hrow h)] at HN
      by_cases hsz : (decide (0 < v.size)) ≠ row
      · have HR : Hid (nameF V T.vars.length nm row (j : Int) st = (0, metAt st 1 (j : Int))) := by unfold Hid; rw [HN, if_pos hsz]
        clear HN hrow
        cases row with
        | true =>
          have h1 := hrow2 rfl
          have h2 : ¬ (T.vars.length ≤ i) := by omega
          have hs0 : ¬ (0 < v.size) := by intro h; exact hsz (decide_eq_true h)
          clear hsz hrow2
          go_wp2_with fail
          refine (HSTOP.out 1 _ HCD.out).mono ?_
          rintro e w2 ⟨rfl, hc2, hb2⟩
          have HC2 : Hid (Chk W0 w2 kp p (some ⟨g, 0, none⟩) V.length cA vl (metAt st 1 (j : Int)) ∧ Sole kp W w2) := ⟨hc2, HBD.out.trans hb2⟩
          clear hc2 hb2
          go_wp2_with fail
          go_ret
          exact ⟨by rw [HR.out]; rfl, by rw [HR.out]; exact HC2.out.1, HC2.out.2⟩
        | false =>
          have hs0 : 0 < v.size := by
            by_cases h : 0 < v.size
            · exact h
            · exact absurd (decide_eq_false h) hsz
          clear hsz hrow2
          go_wp2_with fail
          refine (HSTOP.out 1 _ HCD.out).mono ?_
          rintro e w2 ⟨rfl, hc2, hb2⟩
          have HC2 : Hid (Chk W0 w2 kp p (some ⟨g, 0, none⟩) V.length cA vl (metAt st 1 (j : Int)) ∧ Sole kp W w2) := ⟨hc2, HBD.out.trans hb2⟩
          clear hc2 hb2
          go_wp2_with fail
          go_ret
          exact ⟨by rw [HR.out]; rfl, by rw [HR.out]; exact HC2.out.1, HC2.out.2⟩
      · have hsz2 : decide (0 < v.size) = row := by simpa using hsz
        have HR : Hid (nameF V T.vars.length nm row (j : Int) st = (v.type, st)) := by unfold Hid; rw [HN, if_neg hsz]
        clear HN hrow hsz HSTOP
        cases row with
        | true =>
          have h1 := hrow2 rfl
          have h2 : ¬ (T.vars.length ≤ i) := by omega
          have hs0 : 0 < v.size := of_decide_eq_true hsz2
          clear hsz2 hrow2
          go_wp2_with fail
          go_ret
          exact ⟨by rw [HR.out]; rfl, by rw [HR.out]; exact HCD.out, HBD.out⟩
        | false =>
          have hs0 : ¬ (0 < v.size) := of_decide_eq_false hsz2
          clear hsz2 hrow2
          go_wp2_with fail
          go_ret
          exact ⟨by rw [HR.out]; rfl, by rw [HR.out]; exact HCD.out, HBD.out⟩
end Go.Proofs.YtdnhmpemkpjcaaaGreatDoor
namespace Go.Proofs.YtdnhmpemkpjcaaaGreatDoor
open Go.RowKit
set_option linter.unusedVariables false
attribute [local go_sem] bs_size bs_get bs_extract bs_append bs_eq bs_toList

set_option maxHeartbeats 6400000 in
set_option maxRecDepth 100000 in
theorem l5Bool_any (lo : Nat) (W0 W : World) (kp p cA : Nat) (vv vn vb : Value) (aA : Option Addr) (T : LTree) (V : List LVar) (vl : Value) (st : Met) (j : Nat) (hE : ChkE lo W0 p kp vv vn vb aA T V) (hC : Chk W0 W kp p aA V.length cA vl st) (hj : j < T.nodes.length) :
    Calls Tryz.prog 175 #[.pointer (some ⟨kp, 0, none⟩), .int .i64 (j : Int)] W fun e w' => e = .returned (.bool (boolB V (nodeOf T.nodes (j : Int)))) ∧ Below W.heap.size W w' := by
  obtain ⟨bn, on, cn, rfl, q1, vk, vt, ve, hnc, _, ⟨a, l, c, rfl⟩, ⟨a2, l2, c2, rfl⟩, ⟨a3, l3, c3, rfl⟩⟩ := hE.node hC.bel j hj
  have k0 := cell_of_row _ _ 0 _ _ _ hC.row
  have k1 := cell_of_row _ _ 1 _ _ _ hC.row
  simp at k0 k1
  have hkl := blk_lt hC.row
  have hrv := hE.all.below hC.bel
  have hfew := hE.few
  have hnl := hE.good.nodes
  obtain ⟨n, hn⟩ : ∃ n, n = nodeOf T.nodes (j : Int) := ⟨_, rfl⟩
  rw [← hn] at hnc ⊢
  clear hn
  obtain ⟨d0, d1, d2, d3, d4, d5, d6, d7⟩ := hnc
  have HFI : Hid (∀ W', Below W.heap.size W W' → Calls Tryz.prog 173 #[.slice aA V.length cA, .string (bs n.name)] W' fun e w' => e = .returned (.int .i64 (varFrom n.name V 0)) ∧ w' = W') := fun W' hW => l5Find_any V n.name aA V.length cA W' rfl (hrv.below hW) hfew
  have HRV : Hid (RowV W aA V) := hrv
  have HVO := varFrom_or n.name V 0
  have HBB : Hid (boolB V n = (if n.kind = 5 then true else if n.kind = 6 then decide (5 < n.op) else if n.kind = 2 ∨ n.kind = 3 then decide (0 ≤ varFrom n.name V 0 ∧ (V.getD (varFrom n.name V 0).toNat default).type = 2) else false)) := rfl
  have hj0 : (0 : Int) ≤ (j : Int) := by omega
  have hj1 : (j : Int) < (T.nodes.length : Int) := by omega
  clear hC hE hrv
  by_cases k5 : n.kind = 5
  · have HR : Hid (boolB V n = true) := by unfold Hid; rw [HBB.out, if_pos k5]
    clear HBB HFI HRV HVO
    go_enter Tryz.func175, Tryz.ntmps175
    go_wp2
    go_ret
    exact ⟨by rw [HR.out]; rfl, by go_grown⟩
  by_cases k6 : n.kind = 6
  · have HR : Hid (boolB V n = decide (5 < n.op)) := by unfold Hid; rw [HBB.out, if_neg k5, if_pos k6]
    clear HBB HFI HRV HVO k5
    go_enter Tryz.func175, Tryz.ntmps175
    go_wp2
    go_ret
    exact ⟨by rw [HR.out]; rfl, by go_grown⟩
  by_cases k2 : n.kind = 2
  · have hK := k2
    clear k2 k5 k6
    rw [hK] at d0
    have hB5 : Below W.heap.size W (W.alloc (.cells #[.int .i64 2, .int .i64 n.op, .string (bs n.name), .int .i64 n.num, .int .i64 n.far, .slice a l c, .slice a2 l2 c2, .slice a3 l3 c3] 111)) := (Below.refl _ _).alloc (Nat.le_refl _) _
    have hA := heap_alloc_new W (.cells #[.int .i64 2, .int .i64 n.op, .string (bs n.name), .int .i64 n.num, .int .i64 n.far, .slice a l c, .slice a2 l2 c2, .slice a3 l3 c3] 111)
    have n2 : (W.alloc (.cells #[.int .i64 2, .int .i64 n.op, .string (bs n.name), .int .i64 n.num, .int .i64 n.far, .slice a l c, .slice a2 l2 c2, .slice a3 l3 c3] 111)).cell? ⟨W.heap.size, 2, none⟩ = some (.string (bs n.name)) := cell_of_row _ _ 2 _ _ _ hA
    have kk1 : (W.alloc (.cells #[.int .i64 2, .int .i64 n.op, .string (bs n.name), .int .i64 n.num, .int .i64 n.far, .slice a l c, .slice a2 l2 c2, .slice a3 l3 c3] 111)).cell? ⟨kp, 1, none⟩ = some (.slice aA V.length cA) := (hB5.cell (p := ⟨kp, 1, none⟩) hkl).trans k1
    have hrd : RowV (W.alloc (.cells #[.int .i64 2, .int .i64 n.op, .string (bs n.name), .int .i64 n.num, .int .i64 n.far, .slice a l c, .slice a2 l2 c2, .slice a3 l3 c3] 111)).drew aA V := rowV_heap (HRV.out.below hB5) rfl
    have kk1d : (W.alloc (.cells #[.int .i64 2, .int .i64 n.op, .string (bs n.name), .int .i64 n.num, .int .i64 n.far, .slice a l c, .slice a2 l2 c2, .slice a3 l3 c3] 111)).drew.cell? ⟨kp, 1, none⟩ = some (.slice aA V.length cA) := kk1
    have hbd : Below W.heap.size W (W.alloc (.cells #[.int .i64 2, .int .i64 n.op, .string (bs n.name), .int .i64 n.num, .int .i64 n.far, .slice a l c, .slice a2 l2 c2, .slice a3 l3 c3] 111)).drew := hB5.drew
    have HB5 : Hid (Below W.heap.size W (W.alloc (.cells #[.int .i64 2, .int .i64 n.op, .string (bs n.name), .int .i64 n.num, .int .i64 n.far, .slice a l c, .slice a2 l2 c2, .slice a3 l3 c3] 111))) := hB5
    have HRD : Hid (RowV (W.alloc (.cells #[.int .i64 2, .int .i64 n.op, .string (bs n.name), .int .i64 n.num, .int .i64 n.far, .slice a l c, .slice a2 l2 c2, .slice a3 l3 c3] 111)).drew aA V) := hrd
    have HBD : Hid (Below W.heap.size W (W.alloc (.cells #[.int .i64 2, .int .i64 n.op, .string (bs n.name), .int .i64 n.num, .int .i64 n.far, .slice a l c, .slice a2 l2 c2, .slice a3 l3 c3] 111)).drew) := hbd
    have HR : Hid (boolB V n = decide (0 ≤ varFrom n.name V 0 ∧ (V.getD (varFrom n.name V 0).toNat default).type = 2)) := by unfold Hid; rw [HBB.out, hK]; rfl
    clear hB5 hA hrd hbd HBB HRV
    obtain ⟨X, hX⟩ : ∃ X, varFrom n.name V 0 = X := ⟨_, rfl⟩
    rw [hX] at HFI HVO HR
    clear hX
    go_enter Tryz.func175, Tryz.ntmps175
    go_wp2_with fail
    generalize W.alloc (.cells #[.int .i64 2, .int .i64 n.op, .string (bs n.name), .int .i64 n.num, .int .i64 n.far, .slice a l c, .slice a2 l2 c2, .slice a3 l3 c3] 111) = W5 at *
    go_region_held3 (fun Z => Z.cell? ⟨kp, 1, none⟩ = some (.slice aA V.length cA) ∧ Z.cell? ⟨W.heap.size, 2, none⟩ = some (.string (bs n.name))) (go_keep) (first | (go_at_call 173; refine (HFI.out _ HBD.out).mono ?_; rintro e w2 ⟨rfl, rfl⟩))
    generalize W5.drew = W6 at *
    rcases HVO with hX1 | ⟨i, rfl, hi⟩
    · have hXn : X < 0 := by omega
      have hXn2 : ¬ (0 ≤ X) := by omega
      have HR2 : Hid (boolB V n = false) := by unfold Hid; rw [HR.out, decide_eq_false (fun h => hXn2 h.1)]
      clear hX1 HR HRD HFI
      go_wp2_with fail
      go_ret
      exact ⟨by rw [HR2.out]; rfl, HBD.out⟩
    · have hiV : i < V.length := by omega
      obtain ⟨v, hv⟩ : ∃ v, V[i]? = some v := ⟨V[i], List.getElem?_eq_getElem hiV⟩
      have hvd : V.getD ((i : Int)).toNat default = v := by rw [Int.toNat_natCast, List.getD_eq_getElem?_getD, hv]; rfl
      have HR2 : Hid (boolB V n = decide (v.type = 2)) := by unfold Hid; rw [HR.out, hvd]; congr 1; simp
      obtain ⟨g, rfl, hcs⟩ := HRD.out (by intro e; rw [e] at hiV; simp at hiV)
      obtain ⟨c0', c1', c2', c3'⟩ := hcs i v hv
      have hi0 : (0 : Int) ≤ (i : Int) := by omega
      have hi1 : (i : Int) < (V.length : Int) := by omega
      clear hcs hv hvd HR HRD HFI hi
      by_cases ht : v.type = 2
      · have HR3 : Hid (boolB V n = true) := by unfold Hid; rw [HR2.out, decide_eq_true ht]
        clear HR2
        go_wp2_with fail
        go_ret
        exact ⟨by rw [HR3.out]; rfl, HBD.out⟩
      · have HR3 : Hid (boolB V n = false) := by unfold Hid; rw [HR2.out, decide_eq_false ht]
        have hte : (v.type == 2) = false := by simpa using ht
        clear HR2
        go_wp2_with fail
        go_ret
        exact ⟨by rw [HR3.out]; rfl, HBD.out⟩
  by_cases k3 : n.kind = 3
  · have hK := k3
    clear k2 k3 k5 k6
    rw [hK] at d0
    have hB5 : Below W.heap.size W (W.alloc (.cells #[.int .i64 3, .int .i64 n.op, .string (bs n.name), .int .i64 n.num, .int .i64 n.far, .slice a l c, .slice a2 l2 c2, .slice a3 l3 c3] 111)) := (Below.refl _ _).alloc (Nat.le_refl _) _
    have hA := heap_alloc_new W (.cells #[.int .i64 3, .int .i64 n.op, .string (bs n.name), .int .i64 n.num, .int .i64 n.far, .slice a l c, .slice a2 l2 c2, .slice a3 l3 c3] 111)
    have n2 : (W.alloc (.cells #[.int .i64 3, .int .i64 n.op, .string (bs n.name), .int .i64 n.num, .int .i64 n.far, .slice a l c, .slice a2 l2 c2, .slice a3 l3 c3] 111)).cell? ⟨W.heap.size, 2, none⟩ = some (.string (bs n.name)) := cell_of_row _ _ 2 _ _ _ hA
    have kk1 : (W.alloc (.cells #[.int .i64 3, .int .i64 n.op, .string (bs n.name), .int .i64 n.num, .int .i64 n.far, .slice a l c, .slice a2 l2 c2, .slice a3 l3 c3] 111)).cell? ⟨kp, 1, none⟩ = some (.slice aA V.length cA) := (hB5.cell (p := ⟨kp, 1, none⟩) hkl).trans k1
    have hrd : RowV (W.alloc (.cells #[.int .i64 3, .int .i64 n.op, .string (bs n.name), .int .i64 n.num, .int .i64 n.far, .slice a l c, .slice a2 l2 c2, .slice a3 l3 c3] 111)).drew aA V := rowV_heap (HRV.out.below hB5) rfl
    have kk1d : (W.alloc (.cells #[.int .i64 3, .int .i64 n.op, .string (bs n.name), .int .i64 n.num, .int .i64 n.far, .slice a l c, .slice a2 l2 c2, .slice a3 l3 c3] 111)).drew.cell? ⟨kp, 1, none⟩ = some (.slice aA V.length cA) := kk1
    have hbd : Below W.heap.size W (W.alloc (.cells #[.int .i64 3, .int .i64 n.op, .string (bs n.name), .int .i64 n.num, .int .i64 n.far, .slice a l c, .slice a2 l2 c2, .slice a3 l3 c3] 111)).drew := hB5.drew
    have HB5 : Hid (Below W.heap.size W (W.alloc (.cells #[.int .i64 3, .int .i64 n.op, .string (bs n.name), .int .i64 n.num, .int .i64 n.far, .slice a l c, .slice a2 l2 c2, .slice a3 l3 c3] 111))) := hB5
    have HRD : Hid (RowV (W.alloc (.cells #[.int .i64 3, .int .i64 n.op, .string (bs n.name), .int .i64 n.num, .int .i64 n.far, .slice a l c, .slice a2 l2 c2, .slice a3 l3 c3] 111)).drew aA V) := hrd
    have HBD : Hid (Below W.heap.size W (W.alloc (.cells #[.int .i64 3, .int .i64 n.op, .string (bs n.name), .int .i64 n.num, .int .i64 n.far, .slice a l c, .slice a2 l2 c2, .slice a3 l3 c3] 111)).drew) := hbd
    have HR : Hid (boolB V n = decide (0 ≤ varFrom n.name V 0 ∧ (V.getD (varFrom n.name V 0).toNat default).type = 2)) := by unfold Hid; rw [HBB.out, hK]; rfl
    clear hB5 hA hrd hbd HBB HRV
    obtain ⟨X, hX⟩ : ∃ X, varFrom n.name V 0 = X := ⟨_, rfl⟩
    rw [hX] at HFI HVO HR
    clear hX
    go_enter Tryz.func175, Tryz.ntmps175
    go_wp2_with fail
    generalize W.alloc (.cells #[.int .i64 3, .int .i64 n.op, .string (bs n.name), .int .i64 n.num, .int .i64 n.far, .slice a l c, .slice a2 l2 c2, .slice a3 l3 c3] 111) = W5 at *
    go_region_held3 (fun Z => Z.cell? ⟨kp, 1, none⟩ = some (.slice aA V.length cA) ∧ Z.cell? ⟨W.heap.size, 2, none⟩ = some (.string (bs n.name))) (go_keep) (first | (go_at_call 173; refine (HFI.out _ HBD.out).mono ?_; rintro e w2 ⟨rfl, rfl⟩))
    generalize W5.drew = W6 at *
    rcases HVO with hX1 | ⟨i, rfl, hi⟩
    · have hXn : X < 0 := by omega
      have hXn2 : ¬ (0 ≤ X) := by omega
      have HR2 : Hid (boolB V n = false) := by unfold Hid; rw [HR.out, decide_eq_false (fun h => hXn2 h.1)]
      clear hX1 HR HRD HFI
      go_wp2_with fail
      go_ret
      exact ⟨by rw [HR2.out]; rfl, HBD.out⟩
    · have hiV : i < V.length := by omega
      obtain ⟨v, hv⟩ : ∃ v, V[i]? = some v := ⟨V[i], List.getElem?_eq_getElem hiV⟩
      have hvd : V.getD ((i : Int)).toNat default = v := by rw [Int.toNat_natCast, List.getD_eq_getElem?_getD, hv]; rfl
      have HR2 : Hid (boolB V n = decide (v.type = 2)) := by unfold Hid; rw [HR.out, hvd]; congr 1; simp
      obtain ⟨g, rfl, hcs⟩ := HRD.out (by intro e; rw [e] at hiV; simp at hiV)
      obtain ⟨c0', c1', c2', c3'⟩ := hcs i v hv
      have hi0 : (0 : Int) ≤ (i : Int) := by omega
      have hi1 : (i : Int) < (V.length : Int) := by omega
      clear hcs hv hvd HR HRD HFI hi
      by_cases ht : v.type = 2
      · have HR3 : Hid (boolB V n = true) := by unfold Hid; rw [HR2.out, decide_eq_true ht]
        clear HR2
        go_wp2_with fail
        go_ret
        exact ⟨by rw [HR3.out]; rfl, HBD.out⟩
      · have HR3 : Hid (boolB V n = false) := by unfold Hid; rw [HR2.out, decide_eq_false ht]
        have hte : (v.type == 2) = false := by simpa using ht
        clear HR2
        go_wp2_with fail
        go_ret
        exact ⟨by rw [HR3.out]; rfl, HBD.out⟩
  have HR : Hid (boolB V n = false) := by unfold Hid; rw [HBB.out, if_neg k5, if_neg k6, if_neg (by rintro (h | h); exact k2 h; exact k3 h)]
  clear HBB HFI HRV HVO
  go_enter Tryz.func175, Tryz.ntmps175
  go_wp2
  go_ret
  exact ⟨by rw [HR.out]; rfl, by go_grown⟩

set_option maxHeartbeats 3200000 in
set_option maxRecDepth 100000 in
theorem l5Same_any (lo : Nat) (W0 W : World) (kp p cA : Nat) (vv vn vb : Value) (aA : Option Addr) (T : LTree) (V : List LVar) (vl : Value) (st : Met) (x y : Nat) (hE : ChkE lo W0 p kp vv vn vb aA T V) (hC : Chk W0 W kp p aA V.length cA vl st) (hx : x < T.nodes.length) (hy : y < T.nodes.length) :
    Calls Tryz.prog 128 #[.pointer (some ⟨kp, 0, none⟩), .int .i64 (x : Int), .int .i64 (y : Int)] W fun e w' => e = .returned (.int .i64 (sameF V T.nodes (x : Int) (y : Int))) ∧ Below W.heap.size W w' := by
  have HB : Hid (∀ j : Nat, j < T.nodes.length → Calls Tryz.prog 175 #[.pointer (some ⟨kp, 0, none⟩), .int .i64 (j : Int)] W fun e w' => e = .returned (.bool (boolB V (nodeOf T.nodes (j : Int)))) ∧ Below W.heap.size W w') := fun j hj => l5Bool_any lo W0 W kp p cA vv vn vb aA T V vl st j hE hC hj
  obtain ⟨bn, on, cn, rfl, q1, vk, vt, ve, hnc, _⟩ := hE.node hC.bel x hx
  have k0 := cell_of_row _ _ 0 _ _ _ hC.row
  simp at k0
  have d0 := hnc.c0
  have hnl := hE.good.nodes
  have HS : Hid (sameF V T.nodes (x : Int) (y : Int) = if boolB V (nodeOf T.nodes (if (nodeOf T.nodes (x : Int)).kind = 1 then (y : Int) else (x : Int))) then 2 else 1) := rfl
  have hx0 : (0 : Int) ≤ (x : Int) := by omega
  have hx1 : (x : Int) < (T.nodes.length : Int) := by omega
  clear hE hC hnc
  by_cases k1 : (nodeOf T.nodes (x : Int)).kind = 1
  · have HBY := HB.out y hy
    obtain ⟨q, hq⟩ : ∃ q, boolB V (nodeOf T.nodes (y : Int)) = q := ⟨_, rfl⟩
    have HR : Hid (sameF V T.nodes (x : Int) (y : Int) = if q then 2 else 1) := by unfold Hid; rw [HS.out, if_pos k1, hq]
    rw [hq] at HBY
    have HBQ : Hid (Calls Tryz.prog 175 #[.pointer (some ⟨kp, 0, none⟩), .int .i64 (y : Int)] W fun e w' => e = .returned (.bool q) ∧ Below W.heap.size W w') := HBY
    rw [k1] at d0
    clear HB HBY HS hq k1
    go_enter Tryz.func128, Tryz.ntmps128
    go_wp2_with fail
    refine HBQ.out.mono ?_
    rintro e w2 ⟨rfl, hb⟩
    cases q with
    | true =>
      go_wp2_with fail
      go_ret
      exact ⟨by rw [HR.out]; rfl, hb⟩
    | false =>
      go_wp2_with fail
      go_ret
      exact ⟨by rw [HR.out]; rfl, hb⟩
  · have HBY := HB.out x hx
    obtain ⟨q, hq⟩ : ∃ q, boolB V (nodeOf T.nodes (x : Int)) = q := ⟨_, rfl⟩
    have HR : Hid (sameF V T.nodes (x : Int) (y : Int) = if q then 2 else 1) := by unfold Hid; rw [HS.out, if_neg k1, hq]
    rw [hq] at HBY
    have HBQ : Hid (Calls Tryz.prog 175 #[.pointer (some ⟨kp, 0, none⟩), .int .i64 (x : Int)] W fun e w' => e = .returned (.bool q) ∧ Below W.heap.size W w') := HBY
    clear HB HBY HS hq
    generalize (nodeOf T.nodes (x : Int)).kind = K at *
    go_enter Tryz.func128, Tryz.ntmps128
    go_wp2_with fail
    refine HBQ.out.mono ?_
    rintro e w2 ⟨rfl, hb⟩
    cases q with
    | true =>
      go_wp2_with fail
      go_ret
      exact ⟨by rw [HR.out]; rfl, hb⟩
    | false =>
      go_wp2_with fail
      go_ret
      exact ⟨by rw [HR.out]; rfl, hb⟩
end Go.Proofs.YtdnhmpemkpjcaaaGreatDoor
namespace Go.Proofs.YtdnhmpemkpjcaaaGreatDoor
open Go.RowKit
set_option linter.unusedVariables false
attribute [local go_sem] bs_size bs_get bs_extract bs_append bs_eq bs_toList

/-- l5Type's contract at a place, of places below f -/
def TypeC (W0 : World) (kp p cA : Nat) (aA : Option Addr) (T : LTree) (V : List LVar) (vl : Value) (f : Nat) (y : Nat) : Prop := ∀ (W : World) (st : Met), Chk W0 W kp p aA V.length cA vl st →
  Calls Tryz.prog 66 #[.pointer (some ⟨kp, 0, none⟩), .int .i64 (y : Int)] W fun e w' => e = .returned (.int .i64 (typeF V T.vars.length T.nodes f (y : Int) st).1) ∧ Chk W0 w' kp p aA V.length cA vl (typeF V T.vars.length T.nodes f (y : Int) st).2 ∧ Sole kp W w'

set_option maxHeartbeats 6400000 in
set_option maxRecDepth 100000 in
theorem l5Must_any (lo : Nat) (W0 W : World) (kp p cA : Nat) (vv vn vb : Value) (aA : Option Addr) (T : LTree) (V : List LVar) (vl : Value) (st : Met) (y : Nat) (want : Int) (f : Nat) (hE : ChkE lo W0 p kp vv vn vb aA T V) (hC : Chk W0 W kp p aA V.length cA vl st) (hy : y < T.nodes.length) (hT : TypeC W0 kp p cA aA T V vl f y) :
    Calls Tryz.prog 127 #[.pointer (some ⟨kp, 0, none⟩), .int .i64 (y : Int), .int .i64 want] W fun e w' => e = .returned (.tuple #[]) ∧ Chk W0 w' kp p aA V.length cA vl (mustW (nodeOf T.nodes (y : Int)) (y : Int) want (typeF V T.vars.length T.nodes f (y : Int) st)) ∧ Sole kp W w' := by
  have HT := hT W st hC
  obtain ⟨⟨g, s1, s2⟩, hr⟩ : ∃ r, r = typeF V T.vars.length T.nodes f (y : Int) st := ⟨_, rfl⟩
  rw [← hr] at HT ⊢
  clear hr
  have HTC : Hid (Calls Tryz.prog 66 #[.pointer (some ⟨kp, 0, none⟩), .int .i64 (y : Int)] W fun e w' => e = .returned (.int .i64 g) ∧ Chk W0 w' kp p aA V.length cA vl (s1, s2) ∧ Sole kp W w') := HT
  have HE : Hid (ChkE lo W0 p kp vv vn vb aA T V) := hE
  have hnl := hE.good.nodes
  have hkW := blk_lt hC.row
  obtain ⟨n, hn⟩ : ∃ n, n = nodeOf T.nodes (y : Int) := ⟨_, rfl⟩
  rw [← hn]
  have HNN : Hid (n = nodeOf T.nodes (y : Int)) := hn
  clear HT hT hE hC hn
  go_enter Tryz.func127, Tryz.ntmps127
  go_wp2_with fail
  refine HTC.out.mono ?_
  rintro e w1 ⟨rfl, hc1, hb1⟩
  obtain ⟨bn, on, cn, rfl, q1, vk, vt, ve, hnc, _, ⟨a, l, c, rfl⟩, ⟨a2, l2, c2, rfl⟩, ⟨a3, l3, c3, rfl⟩⟩ := HE.out.node hc1.bel y hy
  have k0 := cell_of_row _ _ 0 _ _ _ hc1.row
  have k3 := cell_of_row _ _ 3 _ _ _ hc1.row
  simp at k0 k3
  have hkl := blk_lt hc1.row
  have hlow := HE.out.low
  have HSTOP : Hid (∀ (c : Int) (W' : World), Chk W0 W' kp p aA V.length cA vl (s1, s2) → Calls Tryz.prog 174 #[.pointer (some ⟨kp, 0, none⟩), .int .i64 c, .int .i64 (y : Int)] W' fun e w' => e = .returned (.tuple #[]) ∧ Chk W0 w' kp p aA V.length cA vl (metAt (s1, s2) c (y : Int)) ∧ Sole kp W' w') := fun c W' h => l5Stop_any W0 W' kp p V.length cA aA vl (s1, s2) c (y : Int) h hlow
  have HCA : Hid (∀ o, Chk W0 (w1.alloc o) kp p aA V.length cA vl (s1, s2) ∧ Sole kp W (w1.alloc o)) := fun o =>
    have hb : Below w1.heap.size w1 (w1.alloc o) := (Below.refl _ _).alloc (Nat.le_refl _) _
    ⟨hc1.below hb, hb1.trans hb.sole⟩
  rw [← HNN.out] at hnc
  obtain ⟨d0, d1, d2, d3, d4, d5, d6, d7⟩ := hnc
  have HM : Hid (mustW n (y : Int) want (g, s1, s2) = if want = 2 ∧ n.kind = 1 ∧ n.num ≤ 1 then (s1, s2) else if s1 = 0 ∧ g ≠ want then metAt (s1, s2) 8 (y : Int) else (s1, s2)) := rfl
  have hy0 : (0 : Int) ≤ (y : Int) := by omega
  have hy1 : (y : Int) < (T.nodes.length : Int) := by omega
  obtain ⟨K, hK⟩ : ∃ K, K = n.kind := ⟨_, rfl⟩
  rw [← hK] at d0 HM
  clear hK hc1 hb1 HTC HE hkW
  by_cases hA : want = 2 ∧ K = 1 ∧ n.num ≤ 1
  · obtain ⟨rfl, rfl, hnum⟩ := hA
    have HR : Hid (mustW n (y : Int) 2 (g, s1, s2) = (s1, s2)) := by unfold Hid; rw [HM.out, if_pos ⟨rfl, rfl, hnum⟩]
    have hnum2 : decide (n.num ≤ 1) = true := decide_eq_true hnum
    clear HM HSTOP
    go_wp2_with fail
    first | go_ret | (refine bodyPost_ret (v := .tuple #[]) (by simp [results, Tryz.results127, go_sem]) rfl ?_)
    exact ⟨rfl, by rw [HR.out]; exact (HCA.out _).1, (HCA.out _).2⟩
  · have HM2 : Hid (mustW n (y : Int) want (g, s1, s2) = if s1 = 0 ∧ g ≠ want then metAt (s1, s2) 8 (y : Int) else (s1, s2)) := by unfold Hid; rw [HM.out, if_neg hA]
    have hcases : want ≠ 2 ∨ (want = 2 ∧ K ≠ 1) ∨ (want = 2 ∧ K = 1 ∧ 1 < n.num) := by omega
    clear HM hA
    have rest : ∀ (P : Prop), True := fun _ => trivial
    by_cases hB : s1 = 0 ∧ g ≠ want
    · obtain ⟨rfl, hgw⟩ := hB
      have HR : Hid (mustW n (y : Int) want (g, 0, s2) = metAt (0, s2) 8 (y : Int)) := by unfold Hid; rw [HM2.out, if_pos ⟨rfl, hgw⟩]
      have hgw1 : (g == want) = false := by simpa using hgw
      have hgw2 : decide (g = want) = false := decide_eq_false hgw
      clear HM2 rest
      rcases hcases with h | ⟨rfl, h⟩ | ⟨rfl, rfl, h⟩
      · have h1 : (want == 2) = false := by simpa using h
        have h2 : decide (want = 2) = false := decide_eq_false h
        go_wp2_with fail
        refine (HSTOP.out 8 _ (HCA.out _).1).mono ?_
        rintro e w2 ⟨rfl, hc2, hb2⟩
        have HC2 : Hid (Chk W0 w2 kp p aA V.length cA vl (metAt (0, s2) 8 (y : Int)) ∧ Sole kp W w2) := ⟨hc2, (HCA.out _).2.trans hb2⟩
        clear hc2 hb2
        go_wp2_with fail
        go_end0
        exact ⟨rfl, by rw [HR.out]; exact HC2.out.1, HC2.out.2⟩
      · have h1 : (K == 1) = false := by simpa using h
        have h2 : decide (K = 1) = false := decide_eq_false h
        go_wp2_with fail
        refine (HSTOP.out 8 _ (HCA.out _).1).mono ?_
        rintro e w2 ⟨rfl, hc2, hb2⟩
        have HC2 : Hid (Chk W0 w2 kp p aA V.length cA vl (metAt (0, s2) 8 (y : Int)) ∧ Sole kp W w2) := ⟨hc2, (HCA.out _).2.trans hb2⟩
        clear hc2 hb2
        go_wp2_with fail
        go_end0
        exact ⟨rfl, by rw [HR.out]; exact HC2.out.1, HC2.out.2⟩
      · go_wp2_with fail
        refine (HSTOP.out 8 _ (HCA.out _).1).mono ?_
        rintro e w2 ⟨rfl, hc2, hb2⟩
        have HC2 : Hid (Chk W0 w2 kp p aA V.length cA vl (metAt (0, s2) 8 (y : Int)) ∧ Sole kp W w2) := ⟨hc2, (HCA.out _).2.trans hb2⟩
        clear hc2 hb2
        go_wp2_with fail
        go_end0
        exact ⟨rfl, by rw [HR.out]; exact HC2.out.1, HC2.out.2⟩
    · have HR : Hid (mustW n (y : Int) want (g, s1, s2) = (s1, s2)) := by unfold Hid; rw [HM2.out, if_neg hB]
      have hcase2 : s1 ≠ 0 ∨ (s1 = 0 ∧ g = want) := by
        by_cases h : s1 = 0
        · exact .inr ⟨h, Classical.byContradiction fun h2 => hB ⟨h, h2⟩⟩
        · exact .inl h
      clear HM2 hB rest HSTOP
      rcases hcases with h | ⟨rfl, h⟩ | ⟨rfl, rfl, h⟩ <;> rcases hcase2 with h3 | ⟨rfl, rfl⟩
      · have h1 : (want == 2) = false := by simpa using h
        have h2 : decide (want = 2) = false := decide_eq_false h
        have h4 : (s1 == 0) = false := by simpa using h3
        have h5 : decide (s1 = 0) = false := decide_eq_false h3
        go_wp2_with fail
        go_end0
        exact ⟨rfl, by rw [HR.out]; exact (HCA.out _).1, (HCA.out _).2⟩
      · have h1 : (g == 2) = false := by simpa using h
        have h2 : decide (g = 2) = false := decide_eq_false h
        go_wp2_with fail
        go_end0
        exact ⟨rfl, by rw [HR.out]; exact (HCA.out _).1, (HCA.out _).2⟩
      · have h1 : (K == 1) = false := by simpa using h
        have h2 : decide (K = 1) = false := decide_eq_false h
        have h4 : (s1 == 0) = false := by simpa using h3
        have h5 : decide (s1 = 0) = false := decide_eq_false h3
        go_wp2_with fail
        go_end0
        exact ⟨rfl, by rw [HR.out]; exact (HCA.out _).1, (HCA.out _).2⟩
      · have h1 : (K == 1) = false := by simpa using h
        have h2 : decide (K = 1) = false := decide_eq_false h
        go_wp2_with fail
        go_end0
        exact ⟨rfl, by rw [HR.out]; exact (HCA.out _).1, (HCA.out _).2⟩
      · have h4 : (s1 == 0) = false := by simpa using h3
        have h5 : decide (s1 = 0) = false := decide_eq_false h3
        go_wp2_with fail
        go_end0
        exact ⟨rfl, by rw [HR.out]; exact (HCA.out _).1, (HCA.out _).2⟩
      · go_wp2_with fail
        go_end0
        exact ⟨rfl, by rw [HR.out]; exact (HCA.out _).1, (HCA.out _).2⟩
end Go.Proofs.YtdnhmpemkpjcaaaGreatDoor
namespace Go.Proofs.YtdnhmpemkpjcaaaGreatDoor
open Go.RowKit
set_option linter.unusedVariables false
attribute [local go_sem] bs_size bs_get bs_extract bs_append bs_eq bs_toList

/-- kids are expressions -/
def Kin (N : List LNode) : Prop := ∀ (k : Nat) (n : LNode), N[k]? = some n → ∀ x ∈ n.kids, exprN (nodeOf N x) = true
theorem kin_of {T : LTree} (h : faultL T = 0) : Kin T.nodes := fun k n hk x hx => by
  obtain ⟨_, _, _, h4, _⟩ := fault_zero h
  have h1 := List.all_eq_true.1 (right_at h4 hk).2.1 x hx
  unfold refB at h1
  simp only [Bool.and_eq_true] at h1
  have h2 := h1.2
  unfold nodeOf
  revert h2
  cases exprN (T.nodes.getD x.toNat default) <;> simp
theorem node_get {N : List LNode} {x : Nat} (h : x < N.length) : N[x]? = some (nodeOf N (x : Int)) := by
  unfold nodeOf; rw [Int.toNat_natCast, List.getD_eq_getElem?_getD, List.getElem?_eq_getElem h]; rfl
theorem own_kids {n : LNode} (h : ownB n = true) (he : exprN n = true) : (n.kind = 1 ∨ n.kind = 2) ∨ ((n.kind = 3 ∨ n.kind = 4 ∨ n.kind = 5) ∧ n.kids.length = 1) ∨ (n.kind = 6 ∧ n.kids.length = 2 ∧ 1 ≤ n.op ∧ n.op ≤ 10) := by
  have hk := inB_iff.1 he
  unfold ownB at h
  simp only [Bool.and_eq_true] at h
  obtain ⟨⟨⟨⟨⟨⟨⟨_, _⟩, _⟩, hl⟩, _⟩, _⟩, ho⟩, _⟩ := h.1
  have hc : n.kind = 1 ∨ n.kind = 2 ∨ n.kind = 3 ∨ n.kind = 4 ∨ n.kind = 5 ∨ n.kind = 6 := by omega
  rcases hc with e | e | e | e | e | e <;> rw [e] at hl ho <;> simp [wantsN] at hl ho
  · exact .inl (.inl e)
  · exact .inl (.inr e)
  · exact .inr (.inl ⟨.inl e, by omega⟩)
  · exact .inr (.inl ⟨.inr (.inl e), by omega⟩)
  · exact .inr (.inl ⟨.inr (.inr e), by omega⟩)
  · have := inB_iff.1 ho
    exact .inr (.inr ⟨e, by omega, this.1, this.2⟩)
theorem kids_at {lo : Nat} {W : World} {vk : Value} {kids : List Int} (h : IntsV lo W vk kids) (hne : kids ≠ []) : ∃ b o c, vk = .slice (some ⟨b, o, none⟩) kids.length c ∧ b < W.heap.size ∧ ∀ (i : Nat) (y : Int), kids[i]? = some y → W.cell? ⟨b, o + i, none⟩ = some (.int .i64 y) := by
  obtain ⟨a, c, e, _, hh⟩ := h
  obtain ⟨b, o, rfl, _, hc⟩ := hh hne
  obtain ⟨y, r, rfl⟩ := List.exists_cons_of_ne_nil hne
  exact ⟨b, o, c, e, World.block_lt_of_cell? _ _ (hc 0 y rfl), hc⟩
theorem Chk.sole {W0 W W' : World} {kp : Nat} (h : Below W0.heap.size W0 W) (hl : W0.heap.size ≤ kp) (hs : Sole kp W W') {b o : Nat} {u : Value} (hb : b < W0.heap.size) (hc : W0.cell? ⟨b, o, none⟩ = some u) : W'.cell? ⟨b, o, none⟩ = some u :=
  hs.cell (p := ⟨b, o, none⟩) (by simp; omega) ((h.cell (p := ⟨b, o, none⟩) hb).trans hc)

set_option maxHeartbeats 6400000 in
set_option maxRecDepth 100000 in
theorem l5Type_num (lo : Nat) (W0 : World) (kp p cA : Nat) (vv vn vb : Value) (aA : Option Addr) (T : LTree) (V : List LVar) (vl : Value) (f x : Nat) (hE : ChkE lo W0 p kp vv vn vb aA T V) (hx : x < T.nodes.length) (hk : (nodeOf T.nodes (x : Int)).kind = 1) :
    TypeC W0 kp p cA aA T V vl (f + 1) x := by
  intro W st hC
  have HR : Hid (typeF V T.vars.length T.nodes (f + 1) (x : Int) st = (1, st)) := by unfold Hid; rw [typeF]; simp only [hk]; rfl
  obtain ⟨bn, on, cn, rfl, q1, vk, vt, ve, hnc, hkd, ⟨a, l, c, rfl⟩, ⟨a2, l2, c2, rfl⟩, ⟨a3, l3, c3, rfl⟩⟩ := hE.node hC.bel x hx
  have k0 := cell_of_row _ _ 0 _ _ _ hC.row
  simp at k0
  have hkl := blk_lt hC.row
  have hnl := hE.good.nodes
  have HCA : Hid (∀ o, Chk W0 (W.alloc o) kp p aA V.length cA vl st ∧ Sole kp W (W.alloc o)) := fun o =>
    have hb : Below W.heap.size W (W.alloc o) := (Below.refl _ _).alloc (Nat.le_refl _) _
    ⟨hC.below hb, hb.sole⟩
  generalize typeF V T.vars.length T.nodes (f + 1) (x : Int) st = Z at HR ⊢
  generalize nodeOf T.nodes (x : Int) = n at *
  obtain ⟨d0, d1, d2, d3, d4, d5, d6, d7⟩ := hnc
  rw [hk] at d0
  have hx0 : (0 : Int) ≤ (x : Int) := by omega
  have hx1 : (x : Int) < (T.nodes.length : Int) := by omega
  clear hE hC hkd hk
  go_enter Tryz.func66, Tryz.ntmps66
  go_wp2_with fail
  go_ret
  exact ⟨by rw [HR.out]; rfl, by rw [HR.out]; exact (HCA.out _).1, (HCA.out _).2⟩

set_option maxHeartbeats 6400000 in
set_option maxRecDepth 100000 in
theorem l5Type_name (lo : Nat) (W0 : World) (kp p cA : Nat) (vv vn vb : Value) (aA : Option Addr) (T : LTree) (V : List LVar) (vl : Value) (f x : Nat) (hE : ChkE lo W0 p kp vv vn vb aA T V) (hx : x < T.nodes.length) (hk : (nodeOf T.nodes (x : Int)).kind = 2) :
    TypeC W0 kp p cA aA T V vl (f + 1) x := by
  intro W st hC
  have HR : Hid (typeF V T.vars.length T.nodes (f + 1) (x : Int) st = nameF V T.vars.length (nodeOf T.nodes (x : Int)).name false (x : Int) st) := by unfold Hid; rw [typeF]; simp only [hk]; rfl
  have HNM : Hid (∀ W', Chk W0 W' kp p aA V.length cA vl st → Calls Tryz.prog 126 #[.pointer (some ⟨kp, 0, none⟩), .int .i64 (x : Int), .bool false] W' fun e w' => e = .returned (.int .i64 (nameF V T.vars.length (nodeOf T.nodes (x : Int)).name false (x : Int) st).1) ∧ Chk W0 w' kp p aA V.length cA vl (nameF V T.vars.length (nodeOf T.nodes (x : Int)).name false (x : Int) st).2 ∧ Sole kp W' w') := fun W' h => l5Name_any lo W0 W' kp p cA vv vn vb aA T V vl st x false hE h hx
  obtain ⟨bn, on, cn, rfl, q1, vk, vt, ve, hnc, hkd, ⟨a, l, c, rfl⟩, ⟨a2, l2, c2, rfl⟩, ⟨a3, l3, c3, rfl⟩⟩ := hE.node hC.bel x hx
  have k0 := cell_of_row _ _ 0 _ _ _ hC.row
  simp at k0
  have hkl := blk_lt hC.row
  have hnl := hE.good.nodes
  have HCA : Hid (∀ o, Chk W0 (W.alloc o) kp p aA V.length cA vl st ∧ Sole kp W (W.alloc o)) := fun o =>
    have hb : Below W.heap.size W (W.alloc o) := (Below.refl _ _).alloc (Nat.le_refl _) _
    ⟨hC.below hb, hb.sole⟩
  generalize typeF V T.vars.length T.nodes (f + 1) (x : Int) st = Z at HR ⊢
  generalize nameF V T.vars.length (nodeOf T.nodes (x : Int)).name false (x : Int) st = Y at HR HNM
  generalize nodeOf T.nodes (x : Int) = n at *
  obtain ⟨g, st2⟩ := Y
  obtain ⟨d0, d1, d2, d3, d4, d5, d6, d7⟩ := hnc
  rw [hk] at d0
  have hx0 : (0 : Int) ≤ (x : Int) := by omega
  have hx1 : (x : Int) < (T.nodes.length : Int) := by omega
  clear hE hC hkd hk
  go_enter Tryz.func66, Tryz.ntmps66
  go_wp2_with fail
  refine (HNM.out _ (HCA.out _).1).mono ?_
  rintro e w2 ⟨rfl, hc2, hs2⟩
  have HC2 : Hid (Chk W0 w2 kp p aA V.length cA vl st2 ∧ Sole kp W w2) := ⟨hc2, (HCA.out _).2.trans hs2⟩
  clear hc2 hs2
  go_wp2_with fail
  go_ret
  exact ⟨by rw [HR.out]; rfl, by rw [HR.out]; exact HC2.out.1, HC2.out.2⟩
end Go.Proofs.YtdnhmpemkpjcaaaGreatDoor
