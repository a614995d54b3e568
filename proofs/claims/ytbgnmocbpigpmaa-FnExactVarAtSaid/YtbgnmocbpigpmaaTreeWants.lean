/-
  spec.l4Wants, l1Max.
-/
import Derived.Test.YtbgnmocbpigpmaaTreeRefs
namespace Go.Proofs.Ytbgnmocbpigpmaa
open Go.RowKit
set_option linter.unusedVariables false
attribute [local go_sem] bs_size bs_get bs_extract bs_append bs_eq bs_toList

abbrev wantsV (q : Bool × Int × Bool) : Value := .tuple #[.bool q.1, .int .i64 q.2.1, .bool q.2.2]
set_option maxHeartbeats 6400000 in
theorem l4Wants_any (n : LNode) (vk vt ve : Value) (w : World) (h1 : ∃ a l c, vk = .slice a l c) (h2 : ∃ a l c, vt = .slice a l c) (h3 : ∃ a l c, ve = .slice a l c) :
    Calls Try.prog 146 #[nodeV n vk vt ve] w fun e w' => e = .returned (wantsV (wantsN n.kind)) ∧ Below w.heap.size w w' := by
  obtain ⟨a, l, c, rfl⟩ := h1
  obtain ⟨a2, l2, c2, rfl⟩ := h2
  obtain ⟨a3, l3, c3, rfl⟩ := h3
  unfold wantsN
  go_enter Try.func146, Try.ntmps146
  by_cases k1 : n.kind = 1
  · rw [if_pos k1]
    go_wp2
    refine bodyPost_ret (v := wantsV (false, 0, true)) (by simp [results, Try.results146, go_sem]) rfl ⟨rfl, by go_grown⟩
  rw [if_neg k1]
  by_cases k2 : n.kind = 2
  · rw [if_pos k2]
    go_wp2
    refine bodyPost_ret (v := wantsV (true, 0, false)) (by simp [results, Try.results146, go_sem]) rfl ⟨rfl, by go_grown⟩
  rw [if_neg k2]
  by_cases k3 : n.kind = 3
  · rw [if_pos (Or.inl k3)]
    go_wp2
    refine bodyPost_ret (v := wantsV (true, 1, false)) (by simp [results, Try.results146, go_sem]) rfl ⟨rfl, by go_grown⟩
  by_cases k7 : n.kind = 7
  · rw [if_pos (Or.inr k7)]
    go_wp2
    refine bodyPost_ret (v := wantsV (true, 1, false)) (by simp [results, Try.results146, go_sem]) rfl ⟨rfl, by go_grown⟩
  rw [if_neg (by omega)]
  by_cases k4 : n.kind = 4
  · rw [if_pos (Or.inl k4)]
    go_wp2
    refine bodyPost_ret (v := wantsV (false, 1, false)) (by simp [results, Try.results146, go_sem]) rfl ⟨rfl, by go_grown⟩
  by_cases k5 : n.kind = 5
  · rw [if_pos (Or.inr (Or.inl k5))]
    go_wp2
    refine bodyPost_ret (v := wantsV (false, 1, false)) (by simp [results, Try.results146, go_sem]) rfl ⟨rfl, by go_grown⟩
  by_cases k9 : n.kind = 9
  · rw [if_pos (Or.inr (Or.inr k9))]
    go_wp2
    refine bodyPost_ret (v := wantsV (false, 1, false)) (by simp [results, Try.results146, go_sem]) rfl ⟨rfl, by go_grown⟩
  rw [if_neg (by omega)]
  by_cases k6 : n.kind = 6
  · rw [if_pos k6]
    go_wp2
    refine bodyPost_ret (v := wantsV (false, 2, false)) (by simp [results, Try.results146, go_sem]) rfl ⟨rfl, by go_grown⟩
  rw [if_neg k6]
  by_cases k8 : n.kind = 8
  · rw [if_pos k8]
    go_wp2
    refine bodyPost_ret (v := wantsV (true, 2, false)) (by simp [results, Try.results146, go_sem]) rfl ⟨rfl, by go_grown⟩
  rw [if_neg k8]
  by_cases k10 : n.kind = 10
  · rw [if_pos k10]
    go_wp2
    refine bodyPost_ret (v := wantsV (true, 0, true)) (by simp [results, Try.results146, go_sem]) rfl ⟨rfl, by go_grown⟩
  rw [if_neg k10]
  go_wp2
  refine bodyPost_ret (v := wantsV (true, -1, false)) (by simp [results, Try.results146, go_sem]) rfl ⟨rfl, by go_grown⟩

set_option maxHeartbeats 800000 in
theorem l1Max_any (a b : Int) (w : World) : Calls Try.prog 106 #[.int .i64 a, .int .i64 b] w fun e w' => e = .returned (.int .i64 (max a b)) ∧ w' = w := by
  by_cases h : a > b
  · have e : max a b = a := by omega
    rw [e]
    go_enter Try.func106, Try.ntmps106
    go_wp2
    go_ret
    exact ⟨rfl, rfl⟩
  · have e : max a b = b := by omega
    rw [e]
    go_enter Try.func106, Try.ntmps106
    go_wp2
    go_ret
    exact ⟨rfl, rfl⟩

/-- a world is another (a word that no simp lays open) -/
def SameW (a b : World) : Prop := a = b
end Go.Proofs.Ytbgnmocbpigpmaa
