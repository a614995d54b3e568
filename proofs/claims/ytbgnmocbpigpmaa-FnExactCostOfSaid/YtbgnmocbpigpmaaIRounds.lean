/-
  impl.roundsOf: how often a loop goes round.
-/
import Derived.Test.YtbgnmocbpigpmaaVarC
import Derived.Test.YtbgnmocbpigpmaaICount
import Derived.Test.YtbgnmocbpigpmaaSSum
import Derived.Test.YtbgnmocbpigpmaaIDeep
import Derived.Deep.Cut
namespace Go.Proofs.Ytbgnmocbpigpmaa
open Go.RowKit
set_option linter.unusedVariables false
attribute [local go_sem] bs_size bs_get bs_extract bs_append bs_eq bs_toList

set_option maxHeartbeats 3200000 in
set_option maxRecDepth 100000 in
theorem sumAt_any (cs l : List Int) (a : Option Addr) (k c hi : Nat) (v : Value) (w : World) (hk : cs.length = k) (hk1 : k ≤ 1048576) (hN : Nums w a cs) (hv : IntsB hi w v l) (hin : ∀ x ∈ l, 0 ≤ x ∧ x < (k : Int)) (hb : Betw 100000 cs) (hl : l.length ≤ 1048576) :
    Calls Try.prog 110 #[.slice a k c, v] w fun e w' => e = .returned (.int .i64 (sumAtL cs l)) ∧ w' = w := by
  obtain ⟨al, cp, rfl, hh⟩ := hv
  have HH := hid hh
  have HN : Hid (Nums w a cs) := hN
  have HI := hid hin
  have HB : Hid (Betw 100000 cs) := hb
  clear hh hN hin hb
  go_enter Try.func110, Try.ntmps110
  go_wp2
  go_loopw [5, 10] (fun d i wr => ∃ j : Nat, j ≤ l.length ∧ i = .int .i64 j ∧ d = .int .i64 (sumAtL cs (l.take j)) ∧ SameW wr w) (fun d i _ => l.length - (intOf i).toNat)
  case atStart => exact ⟨0, by omega, rfl, rfl, rfl⟩
  case round =>
    obtain ⟨j, hj, rfl, rfl, hw⟩ := hrel
    have HW : Hid (SameW wr w) := hw
    by_cases hlt : j < l.length
    · obtain ⟨x, hx⟩ : ∃ x, l[j]? = some x := ⟨l[j], List.getElem?_eq_getElem hlt⟩
      obtain ⟨b, o, rfl, _, hc1⟩ := HH.out (by intro e; rw [e] at hlt; simp at hlt)
      have c0 : wr.cell? ⟨b, o + j, none⟩ = _ := (congrArg (fun W => World.cell? W ⟨b, o + j, none⟩) hw).trans (hc1 j x hx)
      have HD : Hid (sumAtL cs (l.take (j + 1)) = sumAtL cs (l.take j) + cs.getD x.toNat 0) := sumAt_take hx
      have hx2 := HI.out x (List.mem_of_getElem? hx)
      obtain ⟨p, rfl⟩ : ∃ p : Nat, x = p := ⟨x.toNat, by omega⟩
      have hpk : p < k := by omega
      rcases HN.out with hz | ⟨g3, o3, rfl, hc3⟩
      · rw [hz] at hk; simp at hk; omega
      have c3 : wr.cell? ⟨g3, o3 + p, none⟩ = _ := (congrArg (fun W => World.cell? W ⟨g3, o3 + p, none⟩) hw).trans (hc3 p (by omega))
      have hz2 := HB.out p
      have hs := sum_big HB.out (l := l.take j) (by rw [List.length_take]; omega)
      change Hid (sumAtL cs (l.take (j + 1)) = sumAtL cs (l.take j) + cs.getD p 0) at HD
      generalize sumAtL cs (l.take j) = s at *
      generalize cs.getD p 0 = z at *
      have hp0 : (0 : Int) ≤ (p : Int) := by omega
      have hp1 : (p : Int) < (k : Int) := by omega
      clear hx hc1 hw hx2 hc3
      go_wp2_with fail
      go_roundw
      case rel => exact ⟨j + 1, by omega, by go_num, by rw [HD.out], HW.out⟩
      case measure => simp [intOf]; omega
    · have hje : j = l.length := by omega
      have e : sumAtL cs (l.take j) = sumAtL cs l := by rw [hje, List.take_length]
      rw [e]
      clear hje e
      go_wp2
      go_ret
      exact ⟨rfl, hw⟩

end Go.Proofs.Ytbgnmocbpigpmaa
namespace Go.Proofs.Ytbgnmocbpigpmaa
open Go.RowKit
set_option linter.unusedVariables false

theorem max2 (x y : Int) (W : World) : (Builtin.max_ #[2, 2] 2 #[.int .i64 x, .int .i64 y]).run Try.prog W = .ok (.int .i64 (max x y)) W := by
  have e1 : (if y > x then y else x) = max x y := by split <;> omega
  show (([Value.int .i64 y].foldlM Builtin.max2 (.int .i64 x) : Sem Value)).run Try.prog W = _
  simp only [List.foldlM_cons, List.foldlM_nil, Builtin.max2, Sem.run_bind, Sem.run_pure, Result.andThen_ok, e1]

set_option maxHeartbeats 800000 in
theorem roundsOf_any (x0 x1 x2 x5 x6 x7 : Value) (num far : Int) (hf : -1 ≤ far ∧ far ≤ 65535) (hn : -1 ≤ num ∧ num ≤ 65535) (w : World) :
    Calls Try.prog 111 #[.agg #[x0, x1, x2, .int .i64 num, .int .i64 far, x5, x6, x7]] w fun e w' => e = .returned (.int .i64 (max 0 (far - num + 1))) ∧ Below w.heap.size w w' := by
  have hA := heap_alloc_new w (.cells #[x0, x1, x2, .int .i64 num, .int .i64 far, x5, x6, x7] 99)
  have hB : Below w.heap.size w (w.alloc (.cells #[x0, x1, x2, .int .i64 num, .int .i64 far, x5, x6, x7] 99)) := (Below.refl _ _).alloc (Nat.le_refl _) _
  have hmx := max2 0 (far - num + 1)
  go_enter Try.func111, Try.ntmps111
  go_upto_region 1 with fail
  generalize w.alloc (.cells #[x0, x1, x2, .int .i64 num, .int .i64 far, x5, x6, x7] 99) = W at *
  obtain ⟨-, -, -, d3, d4⟩ := cl5 hA
  have HB := hid hB
  clear hA hB
  go_wp2_with fail
  go_ret
  exact ⟨rfl, HB.out⟩
end Go.Proofs.Ytbgnmocbpigpmaa
