/-
  Owned rows of elements of any size.
-/
import Derived.Test.YtepjaoapjpmjkaaGreatDoorTreeTo
import Derived.Test.YtepjaoapjpmjkaaGreatDoorCheckM
import Derived.Test.YtepjaoapjpmjkaaGreatDoorTreeRefs
import Derived.Test.YtepjaoapjpmjkaaGreatDoorCheckS
import Derived.Test.YtepjaoapjpmjkaaGreatDoorTreeTo
import Derived.Test.YtepjaoapjpmjkaaGreatDoorTreeM
namespace Go.Proofs.YtepjaoapjpmjkaaGreatDoor
open Go.RowKit
set_option linter.unusedVariables false
attribute [local go_sem] bs_size bs_get bs_extract bs_append bs_eq bs_toList
theorem vars_of_cells {w : World} {g lo n : Nat} {T : TypeId} {cs : Array Value} {xs : List LVar} (h : w.heap[g]? = some (.cells cs T (0, 0))) (hcs : cs = (varCells xs).toArray) (hn : xs.length = n) (hl : lo ≤ g) : VarsV lo w (.slice (some ⟨g, 0, none⟩) n n) xs :=
 ⟨some ⟨g, 0, none⟩, n, by rw [hn], by omega, fun _ => ⟨g, 0, rfl, hl, fun i x hx => by
  subst hcs
  obtain ⟨u0, u1, u2, u3⟩ := varCells_at xs i x hx
  rw [Nat.zero_add]
  refine ⟨?_, ?_, ?_, ?_⟩ <;> rw [cell_of_row _ _ _ _ _ _ h] <;> simpa⟩⟩
theorem ints_of_cells {w : World} {g lo n : Nat} {T : TypeId} {cs : Array Value} {xs : List Int} (h : w.heap[g]? = some (.cells cs T (0, 0))) (hcs : cs = (xs.map (Value.int .i64)).toArray) (hn : xs.length = n) (hl : lo ≤ g) : IntsV lo w (.slice (some ⟨g, 0, none⟩) n n) xs :=
 ⟨some ⟨g, 0, none⟩, n, by rw [hn], by omega, fun _ => ⟨g, 0, rfl, hl, fun i x hx => by
  subst hcs
  rw [Nat.zero_add, cell_of_row _ _ _ _ _ _ h]
  simp [hx]⟩⟩
theorem heap_last (w : World) (o : Obj) (g : Nat) (h : w.heap.size = g) : (w.alloc o).heap[g]? = some o := by subst h; exact heap_alloc_new w o
theorem heap_keep {w : World} {o u : Obj} {g : Nat} (h : w.heap[g]? = some u) : (w.alloc o).heap[g]? = some u := (Below.heap_alloc _ _ _ (Array.getElem?_eq_some_iff.1 h).1).trans h
def BlockR (lo : Nat) (w' : World) (e : Ending) (op : Int) : Prop := ∃ g v2, e = .returned (.agg #[.slice (some ⟨g, 0, none⟩) (ownOf 0 op []).length (ownOf 0 op []).length, v2]) ∧ lo ≤ g ∧ w'.heap[g]? = some (.cells (varCells (ownOf 0 op [])).toArray 108 (0, 0)) ∧ IntsV lo w' v2 (argsL op)
set_option maxHeartbeats 3200000 in
set_option maxRecDepth 100000 in
theorem blockOf_1 (w : World) : Calls Tryz.prog 118 #[.int .i64 1] w fun e w' => BlockR w.heap.size w' e 1 ∧ Below w.heap.size w w' := by
 go_enter Tryz.func118, Tryz.ntmps118
 go_wp2
 refine bodyPost_ret (v := .agg #[.slice (some ⟨w.heap.size + 1 + 1 + 1 + 1, 0, none⟩) 3 3, .slice (some ⟨w.heap.size + 1 + 1 + 1 + 1 + 1, 0, none⟩) 3 3]) (by simp [results, Tryz.results118, go_sem]) rfl ⟨⟨w.heap.size + 1 + 1 + 1 + 1, _, rfl, by omega, ?_, ints_of_cells (cs := ((argsL 1).map (Value.int .i64)).toArray) (T := 2) ?_ rfl rfl (by omega)⟩, by go_grown⟩
 ·exact heap_keep (heap_keep (heap_keep (heap_keep (heap_keep (heap_keep (heap_keep (heap_keep (heap_last _ _ _ (by simp)))))))))
 ·exact heap_keep (heap_keep (heap_keep (heap_keep (heap_keep (heap_keep (heap_keep (heap_last _ _ _ (by simp))))))))
set_option maxHeartbeats 3200000 in
set_option maxRecDepth 100000 in
theorem blockOf_2 (w : World) : Calls Tryz.prog 118 #[.int .i64 2] w fun e w' => BlockR w.heap.size w' e 2 ∧ Below w.heap.size w w' := by
 go_enter Tryz.func118, Tryz.ntmps118
 go_wp2
 refine bodyPost_ret (v := .agg #[.slice (some ⟨w.heap.size + 1 + 1 + 1 + 1 + 1 + 1, 0, none⟩) 2 2, .slice (some ⟨w.heap.size + 1 + 1 + 1 + 1 + 1 + 1 + 1, 0, none⟩) 2 2]) (by simp [results, Tryz.results118, go_sem]) rfl ⟨⟨w.heap.size + 1 + 1 + 1 + 1 + 1 + 1, _, rfl, by omega, ?_, ints_of_cells (cs := ((argsL 2).map (Value.int .i64)).toArray) (T := 2) ?_ rfl rfl (by omega)⟩, by go_grown⟩
 ·exact heap_keep (heap_keep (heap_keep (heap_keep (heap_keep (heap_keep (heap_last _ _ _ (by simp)))))))
 ·exact heap_keep (heap_keep (heap_keep (heap_keep (heap_keep (heap_last _ _ _ (by simp))))))
set_option maxHeartbeats 3200000 in
set_option maxRecDepth 100000 in
theorem blockOf_3 (w : World) : Calls Tryz.prog 118 #[.int .i64 3] w fun e w' => BlockR w.heap.size w' e 3 ∧ Below w.heap.size w w' := by
 go_enter Tryz.func118, Tryz.ntmps118
 go_wp2
 refine bodyPost_ret (v := .agg #[.slice (some ⟨w.heap.size + 1 + 1 + 1 + 1 + 1 + 1 + 1 + 1, 0, none⟩) 2 2, .slice (some ⟨w.heap.size + 1 + 1 + 1 + 1 + 1 + 1 + 1 + 1 + 1, 0, none⟩) 1 1]) (by simp [results, Tryz.results118, go_sem]) rfl ⟨⟨w.heap.size + 1 + 1 + 1 + 1 + 1 + 1 + 1 + 1, _, rfl, by omega, ?_, ints_of_cells (cs := ((argsL 3).map (Value.int .i64)).toArray) (T := 2) ?_ rfl rfl (by omega)⟩, by go_grown⟩
 ·exact heap_keep (heap_keep (heap_keep (heap_keep (heap_last _ _ _ (by simp)))))
 ·exact heap_keep (heap_keep (heap_keep (heap_last _ _ _ (by simp))))
set_option maxHeartbeats 3200000 in
set_option maxRecDepth 100000 in
theorem blockOf_4 (w : World) : Calls Tryz.prog 118 #[.int .i64 4] w fun e w' => BlockR w.heap.size w' e 4 ∧ Below w.heap.size w w' := by
 go_enter Tryz.func118, Tryz.ntmps118
 go_wp2
 refine bodyPost_ret (v := .agg #[.slice (some ⟨w.heap.size + 1 + 1 + 1 + 1 + 1 + 1 + 1 + 1 + 1 + 1, 0, none⟩) 1 1, .slice (some ⟨w.heap.size + 1 + 1 + 1 + 1 + 1 + 1 + 1 + 1 + 1 + 1 + 1, 0, none⟩) 2 2]) (by simp [results, Tryz.results118, go_sem]) rfl ⟨⟨w.heap.size + 1 + 1 + 1 + 1 + 1 + 1 + 1 + 1 + 1 + 1, _, rfl, by omega, ?_, ints_of_cells (cs := ((argsL 4).map (Value.int .i64)).toArray) (T := 2) ?_ rfl rfl (by omega)⟩, by go_grown⟩
 ·exact heap_keep (heap_keep (heap_last _ _ _ (by simp)))
 ·exact heap_keep (heap_last _ _ _ (by simp))
theorem blockOf_any (op : Int) (h1 : 1 ≤ op) (h4 : op ≤ 4) (w : World) : Calls Tryz.prog 118 #[.int .i64 op] w fun e w' => BlockR w.heap.size w' e op ∧ Below w.heap.size w w' := by
 have h : op = 1 ∨ op = 2 ∨ op = 3 ∨ op = 4 := by omega
 rcases h with rfl | rfl | rfl | rfl
 ·exact blockOf_1 w
 ·exact blockOf_2 w
 ·exact blockOf_3 w
 ·exact blockOf_4 w
end Go.Proofs.YtepjaoapjpmjkaaGreatDoor
namespace Go.Proofs.YtepjaoapjpmjkaaGreatDoor
open Go.RowKit
set_option linter.unusedVariables false
attribute [local go_sem] bs_size bs_get bs_extract bs_append bs_eq bs_toList
abbrev wantsV (q : Bool × Int × Bool) : Value := .tuple #[.bool q.1, .int .i64 q.2.1, .bool q.2.2]
set_option maxHeartbeats 6400000 in
theorem l4Wants_any (n : LNode) (vk vt ve : Value) (w : World) (h1 : ∃ a l c, vk = .slice a l c) (h2 : ∃ a l c, vt = .slice a l c) (h3 : ∃ a l c, ve = .slice a l c) :
  Calls Tryz.prog 103 #[nodeV n vk vt ve] w fun e w' => e = .returned (wantsV (wantsN n.kind)) ∧ Below w.heap.size w w' := by
 obtain ⟨a, l, c, rfl⟩ := h1
 obtain ⟨a2, l2, c2, rfl⟩ := h2
 obtain ⟨a3, l3, c3, rfl⟩ := h3
 unfold wantsN
 go_enter Tryz.func103, Tryz.ntmps103
 by_cases k1 : n.kind = 1
 ·rw [if_pos k1]
  go_wp2
  refine bodyPost_ret (v := wantsV (false, 0, true)) (by simp [results, Tryz.results103, go_sem]) rfl ⟨rfl, by go_grown⟩
 rw [if_neg k1]
 by_cases k2 : n.kind = 2
 ·rw [if_pos k2]
  go_wp2
  refine bodyPost_ret (v := wantsV (true, 0, false)) (by simp [results, Tryz.results103, go_sem]) rfl ⟨rfl, by go_grown⟩
 rw [if_neg k2]
 by_cases k3 : n.kind = 3
 ·rw [if_pos (Or.inl k3)]
  go_wp2
  refine bodyPost_ret (v := wantsV (true, 1, false)) (by simp [results, Tryz.results103, go_sem]) rfl ⟨rfl, by go_grown⟩
 by_cases k7 : n.kind = 7
 ·rw [if_pos (Or.inr k7)]
  go_wp2
  refine bodyPost_ret (v := wantsV (true, 1, false)) (by simp [results, Tryz.results103, go_sem]) rfl ⟨rfl, by go_grown⟩
 rw [if_neg (by omega)]
 by_cases k4 : n.kind = 4
 ·rw [if_pos (Or.inl k4)]
  go_wp2
  refine bodyPost_ret (v := wantsV (false, 1, false)) (by simp [results, Tryz.results103, go_sem]) rfl ⟨rfl, by go_grown⟩
 by_cases k5 : n.kind = 5
 ·rw [if_pos (Or.inr (Or.inl k5))]
  go_wp2
  refine bodyPost_ret (v := wantsV (false, 1, false)) (by simp [results, Tryz.results103, go_sem]) rfl ⟨rfl, by go_grown⟩
 by_cases k9 : n.kind = 9
 ·rw [if_pos (Or.inr (Or.inr k9))]
  go_wp2
  refine bodyPost_ret (v := wantsV (false, 1, false)) (by simp [results, Tryz.results103, go_sem]) rfl ⟨rfl, by go_grown⟩
 rw [if_neg (by omega)]
 by_cases k6 : n.kind = 6
 ·rw [if_pos k6]
  go_wp2
  refine bodyPost_ret (v := wantsV (false, 2, false)) (by simp [results, Tryz.results103, go_sem]) rfl ⟨rfl, by go_grown⟩
 rw [if_neg k6]
 by_cases k8 : n.kind = 8
 ·rw [if_pos k8]
  go_wp2
  refine bodyPost_ret (v := wantsV (true, 2, false)) (by simp [results, Tryz.results103, go_sem]) rfl ⟨rfl, by go_grown⟩
 rw [if_neg k8]
 by_cases k10 : n.kind = 10
 ·rw [if_pos k10]
  go_wp2
  refine bodyPost_ret (v := wantsV (true, 0, true)) (by simp [results, Tryz.results103, go_sem]) rfl ⟨rfl, by go_grown⟩
 rw [if_neg k10]
 go_wp2
 refine bodyPost_ret (v := wantsV (true, -1, false)) (by simp [results, Tryz.results103, go_sem]) rfl ⟨rfl, by go_grown⟩
set_option maxHeartbeats 800000 in
theorem l1Max_any (a b : Int) (w : World) : Calls Tryz.prog 105 #[.int .i64 a, .int .i64 b] w fun e w' => e = .returned (.int .i64 (max a b)) ∧ w' = w := by
 by_cases h : a > b
 ·have e : max a b = a := by omega
  rw [e]
  go_enter Tryz.func105, Tryz.ntmps105
  go_wp2
  go_ret
  exact ⟨rfl, rfl⟩
 ·have e : max a b = b := by omega
  rw [e]
  go_enter Tryz.func105, Tryz.ntmps105
  go_wp2
  go_ret
  exact ⟨rfl, rfl⟩
def SameW (a b : World) : Prop := a = b
end Go.Proofs.YtepjaoapjpmjkaaGreatDoor
namespace Go.Proofs.YtepjaoapjpmjkaaGreatDoor
open Go.RowKit
set_option linter.unusedVariables false
attribute [local go_sem] bs_size bs_get bs_extract bs_append bs_eq bs_toList
theorem infoE : (Tryz.prog.info? 158).map (fun i => (i.zero, i.size, i.bytes)) = some (some (.agg #[.string ⟨#[]⟩, .int .i64 0, .int .i64 0, .int .i64 0, .bool false, .int .i64 0]), 6, 56) := by kernel_rfl
def entV (V : List LVar) (nv i : Nat) : List Value := [.string (bs (V.getD i default).name), .int .i64 (V.getD i default).kind, .int .i64 (V.getD i default).type, .int .i64 (V.getD i default).size, .bool (decide (nv ≤ i)), .int .i64 (cellsL (V.take i))]
def entC (V : List LVar) (nv k : Nat) : List Value := (List.range k).flatMap (entV V nv)
theorem entC_succ (V : List LVar) (nv k : Nat) : entC V nv (k + 1) = entC V nv k ++ entV V nv k := by unfold entC; rw [List.range_succ, List.flatMap_append]; simp
theorem entC_len (V : List LVar) (nv k : Nat) : (entC V nv k).length = k * 6 := by
 induction k with
 | zero => rfl
 | succ k ih => rw [entC_succ, List.length_append, ih]; simp [entV]; omega
theorem entC_at (V : List LVar) (nv : Nat) : ∀ (k i : Nat), i < k → ∀ j, j < 6 → (entC V nv k)[i * 6 + j]? = (entV V nv i)[j]? := by
 intro k
 induction k with
 | zero => intro i h; omega
 | succ k ih =>
  intro i h j hj
  rw [entC_succ]
  by_cases e : i < k
  ·rw [List.getElem?_append_left (by rw [entC_len]; omega)]; exact ih i e j hj
  ·have : i = k := by omega
   subst this
   rw [List.getElem?_append_right (by rw [entC_len]; omega), entC_len, Nat.add_sub_cancel_left]
theorem entV_at {V : List LVar} {nv i : Nat} {x : LVar} (h : V[i]? = some x) : entV V nv i = [.string (bs x.name), .int .i64 x.kind, .int .i64 x.type, .int .i64 x.size, .bool (decide (nv ≤ i)), .int .i64 (cellsL (V.take i))] := by
 have : V.getD i default = x := by rw [List.getD_eq_getElem?_getD, h]; rfl
 unfold entV; rw [this]
set_option maxHeartbeats 800000 in
theorem cellsFor_any (x : LVar) (w : World) : Calls Tryz.prog 117 #[varV x] w fun e w' => e = .returned (.int .i64 (szV x)) ∧ Below w.heap.size w w' := by
 have e1 : (if 1 < x.size then x.size else 1) = szV x := by unfold szV; split <;> omega
 go_enter Tryz.func117, Tryz.ntmps117
 go_wp2
 go_ret
 exact ⟨by rw [← e1]; rfl, by go_grown⟩
end Go.Proofs.YtepjaoapjpmjkaaGreatDoor
namespace Go.Proofs.YtepjaoapjpmjkaaGreatDoor
open Go.RowKit
set_option linter.unusedVariables false
theorem rowE_shape {w : World} {B z n : Nat} {T : TypeId} {v : Value} {xs : List Value} (h : w.ownsRow B T z v n xs) : ∃ a cap, v = .slice a n cap := by
 rcases h.2 with ⟨rfl, rfl⟩ | ⟨g, c, cur, rfl, _⟩
 ·exact ⟨_, _, rfl⟩
 ·exact ⟨_, _, rfl⟩
theorem rowE_mono {w : World} {B C z n : Nat} {T : TypeId} {v : Value} {xs : List Value} (h : w.ownsRow B T z v n xs) (hC : C ≤ B) : w.ownsRow C T z v n xs := by
 refine ⟨h.1, ?_⟩
 rcases h.2 with h2 | ⟨g, c, cur, rfl, hg, hr⟩
 ·exact .inl h2
 ·exact .inr ⟨g, c, cur, rfl, by omega, hr⟩
theorem rowE_same {w w' : World} {B z n : Nat} {T : TypeId} {v : Value} {xs : List Value} (h : w.ownsRow B T z v n xs) (hs : ∀ g, B ≤ g → g < w.heap.size → w'.heap[g]? = w.heap[g]?) : w'.ownsRow B T z v n xs := by
 refine ⟨h.1, ?_⟩
 rcases h.2 with h2 | ⟨g, c, cur, rfl, hg, hh, hr⟩
 ·exact .inl h2
 ·refine .inr ⟨g, c, cur, rfl, hg, ?_, hr⟩
  rw [hs g hg (Array.getElem?_eq_some_iff.1 hh).1]; exact hh
theorem rowE_kept {w w' : World} {B z n : Nat} {T : TypeId} {v : Value} {xs : List Value} (h : w.ownsRow B T z v n xs) (hb : Below w.heap.size w w') : w'.ownsRow B T z v n xs :=
 rowE_same h fun g _ hg => hb.block g hg
theorem rowE_nil (w : World) (B z : Nat) (T : TypeId) : w.ownsRow B T z (.slice none 0 0) 0 [] := ⟨by simp, .inl ⟨rfl, rfl⟩⟩
theorem rowE_cells {w : World} {B z n : Nat} {T : TypeId} {v : Value} {xs : List Value} (h : w.ownsRow B T z v n xs) (hn : 0 < n) (hx : xs.length = n * z) : ∃ g c, v = .slice (some ⟨g, 0, none⟩) n c ∧ B ≤ g ∧ g < w.heap.size ∧ ∀ i, i < n * z → w.cell? ⟨g, i, none⟩ = xs[i]? := by
 rcases h.2 with ⟨_, h2⟩ | ⟨g, c, cur, rfl, hg, hh, hr, _, hs, ht⟩
 ·omega
 ·refine ⟨g, c, rfl, hg, (Array.getElem?_eq_some_iff.1 hh).1, fun i hi => ?_⟩
  rw [cell_of_row _ _ _ _ _ _ hh, ← ht, List.getElem?_take_of_lt hi]; simp
theorem row_cap {w : World} {B z n c : Nat} {T : TypeId} {a : Option Addr} {xs : List Value} (h : w.ownsRow B T z (.slice a n c) n xs) : n ≤ c := by
 rcases h.2 with ⟨h, h0⟩ | ⟨g, c', cur, h, _, _, hr, _⟩
 ·omega
 ·simp at h; omega
end Go.Proofs.YtepjaoapjpmjkaaGreatDoor
