/-
  spec.BuildFault.
-/
import Derived.Test.YtpobajblngblfaaBldF
import Derived.Deep.RegionHeld3
import Derived.BigQuiet
namespace Go.Proofs.Ytpobajblngblfaa
open Go.RowKit
set_option linter.unusedVariables false

theorem step_belowBS {a b c : World} (h : Below a.heap.size a b) (hb : Below b.heap.size b c) : Below a.heap.size a c := h.trans (hb.mono h.size)

set_option maxHeartbeats 800000 in
theorem l12Cell_any (p : Nat) (c z : Int) (w : World) (hc0 : 0 ≤ c) (hc1 : c ≤ 80) (h : w.cell? ⟨p, 0, none⟩ = some (.int .i64 c)) :
    Calls Try.prog 50 #[.pointer (some ⟨p, 0, none⟩), .int .i64 z] w fun e w' => e = .returned (.bool (inB z 0 (c - 1))) ∧ w' = w := by
  have HX : Hid (∀ W, Calls Try.prog 49 #[.int .i64 z, .int .i64 0, .int .i64 (c - 1)] W fun e w' => e = .returned (.bool (inB z 0 (c - 1))) ∧ w' = W) := fun W => l1In_any _ _ _ W
  have hw : IntKind.i64.wrap (c - 1) = c - 1 := IntWalk.i64_in _ ⟨by omega, by omega⟩
  generalize inB z 0 (c - 1) = r at *
  go_enter Try.func50, Try.ntmps50
  go_wp2_with fail
  refine (HX.out _).mono ?_
  rintro e W ⟨rfl, rfl⟩
  go_wp2_with fail
  go_ret
  exact ⟨rfl, rfl⟩

set_option maxHeartbeats 1600000 in
theorem l12Same_any (v1 v2 : Value) (xs ys : List Int) (w : World) (h1 : RowV w v1 xs) (h2 : RowV w v2 ys) (l1 : xs.length ≤ 1048576) (l2 : ys.length ≤ 1048576) :
    Calls Try.prog 44 #[v1, v2] w fun e w' => e = .returned (.bool (decide (ys = xs))) ∧ ∃ q, w' = w.drewN q := by
  obtain ⟨a1, c1, rfl, hn1, _⟩ := h1
  obtain ⟨a2, c2, rfl, hn2, _⟩ := h2
  by_cases hl : xs.length = ys.length
  · have HX : Hid (∀ k : Nat, (∀ j, j < k → xs.getD j 0 = ys.getD j 0) → ¬ k < xs.length → decide (ys = xs) = true) := fun k h hk => by
      refine decide_eq_true (List.ext_getElem hl.symm (fun i h1 h2 => ?_))
      have := h i (by omega)
      rw [List.getD_eq_getElem?_getD, List.getD_eq_getElem?_getD, List.getElem?_eq_getElem h1, List.getElem?_eq_getElem h2] at this
      exact this.symm
    have HN : Hid (∀ k : Nat, k < xs.length → ¬ xs.getD k 0 = ys.getD k 0 → decide (ys = xs) = false) := fun k hk h => decide_eq_false (fun e => h (by rw [e]))
    have HC : Hid (∀ k : Nat, k < xs.length → ∃ b1 o1 b2 o2, a1 = some ⟨b1, o1, none⟩ ∧ a2 = some ⟨b2, o2, none⟩ ∧ w.cell? ⟨b1, o1 + k, none⟩ = some (.int .i64 (xs.getD k 0)) ∧ w.cell? ⟨b2, o2 + k, none⟩ = some (.int .i64 (ys.getD k 0))) := fun k hk => by
      rcases hn1 with h | ⟨b1, o1, e1, hc1⟩
      · rw [h] at hk; simp at hk
      rcases hn2 with h | ⟨b2, o2, e2, hc2⟩
      · rw [h] at hl; simp at hl; rw [hl] at hk; simp at hk
      exact ⟨b1, o1, b2, o2, e1, e2, hc1 k hk, hc2 k (by omega)⟩
    have ely : ys.length = xs.length := hl.symm
    have hnn : ((xs.length : Int) != (xs.length : Int)) = false := by simp
    obtain ⟨r, hr⟩ : ∃ r, r = decide (ys = xs) := ⟨_, rfl⟩
    rw [← hr] at HX HN ⊢
    rw [ely]
    clear hr hn1 hn2 hl ely l2
    generalize hL : xs.length = L at *
    clear hL
    go_enter Try.func44, Try.ntmps44
    go_wp2
    go_loopw [5] (fun i wr => ∃ k : Nat, k ≤ L ∧ i = .int .i64 k ∧ Hid (∀ j, j < k → xs.getD j 0 = ys.getD j 0) ∧ ∃ q, wr = w.drewN q) (fun i _ => L - (intOf i).toNat)
    case atStart => exact ⟨0, Nat.zero_le _, rfl, fun j hj => absurd hj (by omega), 0, rfl⟩
    case round =>
      obtain ⟨k, hk, rfl, HE, q, rfl⟩ := hrel
      by_cases hlt : k < L
      · obtain ⟨b1, o1, b2, o2, rfl, rfl, g1, g2⟩ := HC.out k hlt
        have HNk := hid (HN.out k hlt)
        have HEk : Hid (xs.getD k 0 = ys.getD k 0 → ∀ j, j < k + 1 → xs.getD j 0 = ys.getD j 0) := fun h j hj => by
          rcases Nat.lt_succ_iff_lt_or_eq.1 hj with h2 | rfl
          · exact HE.out j h2
          · exact h
        generalize xs.getD k 0 = x at *
        generalize ys.getD k 0 = y at *
        have q0 : (0 : Int) ≤ (k : Int) := by omega
        have q1 : (k : Int) < (L : Int) := by omega
        by_cases hxy : x = y
        · subst hxy
          go_wp2
          go_region
          all_goals
            go_wp2
            go_roundw
            case rel => exact ⟨k + 1, by omega, by go_num, HEk.out (by first | rfl | trivial), q + 1, rfl⟩
            case measure => simp [intOf]; omega
        · have hne : (x != y) = true := by simpa using hxy
          have HR := hid (HNk.out hxy)
          go_wp2
          go_region
          all_goals
            go_wp2
            go_ret
            exact ⟨by rw [HR.out]; rfl, q + 1, rfl⟩
      · have HR := hid (HX.out k HE.out hlt)
        go_wp2
        go_ret
        exact ⟨by rw [HR.out]; rfl, q, rfl⟩
  · have HR : Hid (decide (ys = xs) = false) := decide_eq_false (fun e => hl (by rw [e]))
    have hnn : ((xs.length : Int) != (ys.length : Int)) = true := by simpa using (fun e : (xs.length : Int) = ys.length => hl (by omega))
    clear hn1 hn2
    generalize xs.length = n1 at *
    generalize ys.length = n2 at *
    generalize decide (ys = xs) = r at *
    go_enter Try.func44, Try.ntmps44
    go_wp2
    go_ret
    exact ⟨by rw [HR.out]; rfl, 0, rfl⟩
end Go.Proofs.Ytpobajblngblfaa
