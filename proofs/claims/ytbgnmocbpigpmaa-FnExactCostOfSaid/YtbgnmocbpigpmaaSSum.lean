/-
  spec.l5Sum, l1Min.
-/
import Derived.Test.YtbgnmocbpigpmaaTreeRefs
import Derived.Test.YtbgnmocbpigpmaaVarC
import Derived.Test.YtbgnmocbpigpmaaICount
namespace Go.Proofs.Ytbgnmocbpigpmaa
open Go.RowKit
set_option linter.unusedVariables false
attribute [local go_sem] bs_size bs_get bs_extract bs_append bs_eq bs_toList

abbrev wantsV (q : Bool × Int × Bool) : Value := .tuple #[.bool q.1, .int .i64 q.2.1, .bool q.2.2]
set_option maxHeartbeats 6400000 in
theorem l4Wants_any (n : LNode) (vk vt ve : Value) (w : World) (h1 : ∃ a l c, vk = .slice a l c) (h2 : ∃ a l c, vt = .slice a l c) (h3 : ∃ a l c, ve = .slice a l c) :
    Calls Try.prog 146 #[nodeV n vk vt ve] w fun e w' => e = .returned (wantsV (wantsN n.kind)) ∧ Below w.heap.size w w' := by
  obtain ⟨a, l, c, rfl⟩ := h1
  obtain ⟨a2, l2, c2, rfl⟩ := h2
  obtain ⟨a3, l3, c3, rfl⟩ := h3
  unfold wantsN
  go_enter Try.func146, Try.ntmps146
  by_cases k1 : n.kind = 1
  · rw [if_pos k1]
    go_wp2
    refine bodyPost_ret (v := wantsV (false, 0, true)) (by simp [results, Try.results146, go_sem]) rfl ⟨rfl, by go_grown⟩
  rw [if_neg k1]
  by_cases k2 : n.kind = 2
  · rw [if_pos k2]
    go_wp2
    refine bodyPost_ret (v := wantsV (true, 0, false)) (by simp [results, Try.results146, go_sem]) rfl ⟨rfl, by go_grown⟩
  rw [if_neg k2]
  by_cases k3 : n.kind = 3
  · rw [if_pos (Or.inl k3)]
    go_wp2
    refine bodyPost_ret (v := wantsV (true, 1, false)) (by simp [results, Try.results146, go_sem]) rfl ⟨rfl, by go_grown⟩
  by_cases k7 : n.kind = 7
  · rw [if_pos (Or.inr k7)]
    go_wp2
    refine bodyPost_ret (v := wantsV (true, 1, false)) (by simp [results, Try.results146, go_sem]) rfl ⟨rfl, by go_grown⟩
  rw [if_neg (by omega)]
  by_cases k4 : n.kind = 4
  · rw [if_pos (Or.inl k4)]
    go_wp2
    refine bodyPost_ret (v := wantsV (false, 1, false)) (by simp [results, Try.results146, go_sem]) rfl ⟨rfl, by go_grown⟩
  by_cases k5 : n.kind = 5
  · rw [if_pos (Or.inr (Or.inl k5))]
    go_wp2
    refine bodyPost_ret (v := wantsV (false, 1, false)) (by simp [results, Try.results146, go_sem]) rfl ⟨rfl, by go_grown⟩
  by_cases k9 : n.kind = 9
  · rw [if_pos (Or.inr (Or.inr k9))]
    go_wp2
    refine bodyPost_ret (v := wantsV (false, 1, false)) (by simp [results, Try.results146, go_sem]) rfl ⟨rfl, by go_grown⟩
  rw [if_neg (by omega)]
  by_cases k6 : n.kind = 6
  · rw [if_pos k6]
    go_wp2
    refine bodyPost_ret (v := wantsV (false, 2, false)) (by simp [results, Try.results146, go_sem]) rfl ⟨rfl, by go_grown⟩
  rw [if_neg k6]
  by_cases k8 : n.kind = 8
  · rw [if_pos k8]
    go_wp2
    refine bodyPost_ret (v := wantsV (true, 2, false)) (by simp [results, Try.results146, go_sem]) rfl ⟨rfl, by go_grown⟩
  rw [if_neg k8]
  by_cases k10 : n.kind = 10
  · rw [if_pos k10]
    go_wp2
    refine bodyPost_ret (v := wantsV (true, 0, true)) (by simp [results, Try.results146, go_sem]) rfl ⟨rfl, by go_grown⟩
  rw [if_neg k10]
  go_wp2
  refine bodyPost_ret (v := wantsV (true, -1, false)) (by simp [results, Try.results146, go_sem]) rfl ⟨rfl, by go_grown⟩

set_option maxHeartbeats 800000 in
theorem l1Max_any (a b : Int) (w : World) : Calls Try.prog 106 #[.int .i64 a, .int .i64 b] w fun e w' => e = .returned (.int .i64 (max a b)) ∧ w' = w := by
  by_cases h : a > b
  · have e : max a b = a := by omega
    rw [e]
    go_enter Try.func106, Try.ntmps106
    go_wp2
    go_ret
    exact ⟨rfl, rfl⟩
  · have e : max a b = b := by omega
    rw [e]
    go_enter Try.func106, Try.ntmps106
    go_wp2
    go_ret
    exact ⟨rfl, rfl⟩

/-- a world is another (a word that no simp lays open) -/
def SameW (a b : World) : Prop := a = b
end Go.Proofs.Ytbgnmocbpigpmaa
namespace Go.Proofs.Ytbgnmocbpigpmaa
open Go.RowKit
set_option linter.unusedVariables false
attribute [local go_sem] bs_size bs_get bs_extract bs_append bs_eq bs_toList

set_option maxHeartbeats 3200000 in
set_option maxRecDepth 100000 in
theorem l5Sum_any (cs l : List Int) (a : Option Addr) (k c hi : Nat) (v : Value) (w : World) (hk : cs.length = k) (hk1 : k ≤ 1048576) (hN : Nums w a cs) (hv : IntsB hi w v l) (hin : ∀ x ∈ l, 0 ≤ x ∧ x < (k : Int)) (hb : Betw 100000 cs) (hl : l.length ≤ 1048576) :
    Calls Try.prog 105 #[.slice a k c, v] w fun e w' => e = .returned (.int .i64 (sumAtL cs l)) ∧ w' = w := by
  obtain ⟨al, cp, rfl, hh⟩ := hv
  have HH := hid hh
  have HN : Hid (Nums w a cs) := hN
  have HI := hid hin
  have HB : Hid (Betw 100000 cs) := hb
  clear hh hN hin hb
  go_enter Try.func105, Try.ntmps105
  go_wp2
  go_loopw [5, 6] (fun d i wr => ∃ j : Nat, j ≤ l.length ∧ i = .int .i64 j ∧ d = .int .i64 (sumAtL cs (l.take j)) ∧ SameW wr w) (fun d i _ => l.length - (intOf i).toNat)
  case atStart => exact ⟨0, by omega, rfl, rfl, rfl⟩
  case round =>
    obtain ⟨j, hj, rfl, rfl, hw⟩ := hrel
    have HW : Hid (SameW wr w) := hw
    by_cases hlt : j < l.length
    · obtain ⟨x, hx⟩ : ∃ x, l[j]? = some x := ⟨l[j], List.getElem?_eq_getElem hlt⟩
      obtain ⟨b, o, rfl, _, hc1⟩ := HH.out (by intro e; rw [e] at hlt; simp at hlt)
      have c0 : wr.cell? ⟨b, o + j, none⟩ = _ := (congrArg (fun W => World.cell? W ⟨b, o + j, none⟩) hw).trans (hc1 j x hx)
      have HD : Hid (sumAtL cs (l.take (j + 1)) = sumAtL cs (l.take j) + cs.getD x.toNat 0) := sumAt_take hx
      have hx2 := HI.out x (List.mem_of_getElem? hx)
      obtain ⟨p, rfl⟩ : ∃ p : Nat, x = p := ⟨x.toNat, by omega⟩
      have hpk : p < k := by omega
      rcases HN.out with hz | ⟨g3, o3, rfl, hc3⟩
      · rw [hz] at hk; simp at hk; omega
      have c3 : wr.cell? ⟨g3, o3 + p, none⟩ = _ := (congrArg (fun W => World.cell? W ⟨g3, o3 + p, none⟩) hw).trans (hc3 p (by omega))
      have hz2 := HB.out p
      have hs := sum_big HB.out (l := l.take j) (by rw [List.length_take]; omega)
      change Hid (sumAtL cs (l.take (j + 1)) = sumAtL cs (l.take j) + cs.getD p 0) at HD
      generalize sumAtL cs (l.take j) = s at *
      generalize cs.getD p 0 = z at *
      have hp0 : (0 : Int) ≤ (p : Int) := by omega
      have hp1 : (p : Int) < (k : Int) := by omega
      clear hx hc1 hw hx2 hc3
      go_wp2_with fail
      go_roundw
      case rel => exact ⟨j + 1, by omega, by go_num, by rw [HD.out], HW.out⟩
      case measure => simp [intOf]; omega
    · have hje : j = l.length := by omega
      have e : sumAtL cs (l.take j) = sumAtL cs l := by rw [hje, List.take_length]
      rw [e]
      clear hje e
      go_wp2
      go_ret
      exact ⟨rfl, hw⟩

set_option maxHeartbeats 800000 in
theorem l1Min_any (a b : Int) (w : World) : Calls Try.prog 107 #[.int .i64 a, .int .i64 b] w fun e w' => e = .returned (.int .i64 (min a b)) ∧ w' = w := by
  by_cases h : a < b
  · have e : min a b = a := by omega
    rw [e]
    go_enter Try.func107, Try.ntmps107
    go_wp2
    go_ret
    exact ⟨rfl, rfl⟩
  · have e : min a b = b := by omega
    rw [e]
    go_enter Try.func107, Try.ntmps107
    go_wp2
    go_ret
    exact ⟨rfl, rfl⟩
end Go.Proofs.Ytbgnmocbpigpmaa
