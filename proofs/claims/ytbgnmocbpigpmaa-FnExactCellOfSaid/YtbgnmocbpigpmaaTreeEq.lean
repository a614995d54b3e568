/-
  laws.eqTree: equal trees are found equal.
-/
import Derived.Test.YtbgnmocbpigpmaaTreeM
import Derived.Test.YtbgnmocbpigpmaaCopy
import Derived.Test.YtbgnmocbpigpmaaTreeTo2
import Derived.Deep.DrawnRows
import Derived.Deep.RegionHeld3
namespace Go.Proofs.Ytbgnmocbpigpmaa
open Go.RowKit
set_option linter.unusedVariables false
attribute [local go_sem] bs_size bs_get bs_extract bs_append bs_eq bs_toList
attribute [local go_sem ↓] Go.wp_at_zero Go.wp_at_succ

theorem nums_of_ints {lo : Nat} {w : World} {a : Option Addr} {c : Nat} {xs : List Int} (h : IntsV lo w (.slice a xs.length c) xs) : Nums w a xs := by
  obtain ⟨a', c', h1, h2, h3⟩ := h
  simp at h1
  obtain ⟨rfl, rfl⟩ := h1
  by_cases e : xs = []
  · exact .inl e
  · obtain ⟨b, o, rfl, _, hc⟩ := h3 e
    refine .inr ⟨b, o, rfl, fun i hi => ?_⟩
    rw [hc i xs[i] (List.getElem?_eq_getElem hi), List.getD_eq_getElem?_getD, List.getElem?_eq_getElem hi]
    rfl
theorem eqInts_any (lo lo' : Nat) (v v' : Value) (xs : List Int) (w : World) (h : IntsV lo w v xs) (h' : IntsV lo' w v' xs) (hl : xs.length ≤ 9223372036854775807) :
    Calls Try.prog 55 #[v, v'] w fun e w' => e = .returned (.bool true) ∧ Below w.heap.size w w' := by
  obtain ⟨a, c, rfl, _⟩ := id h
  obtain ⟨a', c', rfl, _⟩ := id h'
  exact eqNums_any a a' xs c c' w hl (nums_of_ints h) (nums_of_ints h')

set_option maxHeartbeats 1600000 in
theorem eqVar_any (x : LVar) (w : World) : Calls Try.prog 112 #[varV x, varV x] w fun e w' => e = .returned (.bool true) ∧ Below w.heap.size w w' := by
  go_enter Try.func112, Try.ntmps112
  go_wp2
  go_ret
  exact ⟨rfl, by go_grown⟩

set_option maxHeartbeats 3200000 in
theorem eqVars_any (lo lo' : Nat) (v v' : Value) (xs : List LVar) (w : World) (h : VarsV lo w v xs) (h' : VarsV lo' w v' xs) (hl : xs.length ≤ 1048576) :
    Calls Try.prog 53 #[v, v'] w fun e w' => e = .returned (.bool true) ∧ Below w.heap.size w w' := by
  obtain ⟨a, c, rfl, _, hh1⟩ := h
  obtain ⟨a', c', rfl, _, hh2⟩ := h'
  have H1 := hid hh1
  have H2 := hid hh2
  clear hh1 hh2
  go_enter Try.func53, Try.ntmps53
  go_wp2
  go_loopw [5] (fun i wr => ∃ k : Nat, k ≤ xs.length ∧ i = .int .i64 k ∧ Below w.heap.size w wr) (fun i _ => xs.length - (intOf i).toNat)
  case atStart => exact ⟨0, by omega, rfl, Below.refl _ _⟩
  case round =>
    obtain ⟨k, hk, rfl, hB⟩ := hrel
    by_cases hlt : k < xs.length
    · obtain ⟨x, hx⟩ : ∃ x, xs[k]? = some x := ⟨xs[k], List.getElem?_eq_getElem hlt⟩
      have hne : xs ≠ [] := by intro e; rw [e] at hlt; simp at hlt
      obtain ⟨g, o, ha, _, hc1⟩ := H1.out hne
      obtain ⟨h, p, hb, _, hc2⟩ := H2.out hne
      subst ha
      subst hb
      have hgw : g < w.heap.size := World.block_lt_of_cell? _ _ (hc1 k x hx).1
      have hhw : h < w.heap.size := World.block_lt_of_cell? _ _ (hc2 k x hx).1
      obtain ⟨c0, c1, c2, c3⟩ := (hc1 k x hx).keep (lo := 0) (fun g _ hg => hB.block g hg) (Nat.zero_le _)
      obtain ⟨d0, d1, d2, d3⟩ := (hc2 k x hx).keep (lo := 0) (fun g _ hg => hB.block g hg) (Nat.zero_le _)
      have hk0 : (0 : Int) ≤ (k : Int) := by omega
      have hk1 : (k : Int) < (xs.length : Int) := by omega
      have hgr : g < wr.heap.size := Nat.lt_of_lt_of_le hgw hB.size
      have hhr : h < wr.heap.size := Nat.lt_of_lt_of_le hhw hB.size
      have HQ : Hid (∀ w, Calls Try.prog 112 #[varV x, varV x] w fun e w' => e = .returned (.bool true) ∧ Below w.heap.size w w') := fun w => eqVar_any x w
      clear hne hx hc1 hc2
      go_wp2_with fail
      go_region_held3 (fun W => (W.cell? ⟨g, o + k * 4, none⟩ = some (.string (bs x.name)) ∧ W.cell? ⟨g, o + k * 4 + 1, none⟩ = some (.int .i64 x.kind) ∧ W.cell? ⟨g, o + k * 4 + 2, none⟩ = some (.int .i64 x.type) ∧ W.cell? ⟨g, o + k * 4 + 3, none⟩ = some (.int .i64 x.size)) ∧ (W.cell? ⟨h, p + k * 4, none⟩ = some (.string (bs x.name)) ∧ W.cell? ⟨h, p + k * 4 + 1, none⟩ = some (.int .i64 x.kind) ∧ W.cell? ⟨h, p + k * 4 + 2, none⟩ = some (.int .i64 x.type) ∧ W.cell? ⟨h, p + k * 4 + 3, none⟩ = some (.int .i64 x.size))) (go_keep) (first | (go_at_call 112; refine (HQ.out _).mono ?_; rintro e w2 ⟨rfl, hb⟩; have hD : Below wr.heap.size wr w2 := ((Below.refl wr.heap.size wr).drew).trans (Below.mono hb (Nat.le_refl _)); have k0 := (hD.cell (p := ⟨g, o + k * 4, none⟩) hgr).trans c0; have k1 := (hD.cell (p := ⟨g, o + k * 4 + 1, none⟩) hgr).trans c1; have k2 := (hD.cell (p := ⟨g, o + k * 4 + 2, none⟩) hgr).trans c2; have k3 := (hD.cell (p := ⟨g, o + k * 4 + 3, none⟩) hgr).trans c3; have j0 := (hD.cell (p := ⟨h, p + k * 4, none⟩) hhr).trans d0; have j1 := (hD.cell (p := ⟨h, p + k * 4 + 1, none⟩) hhr).trans d1; have j2 := (hD.cell (p := ⟨h, p + k * 4 + 2, none⟩) hhr).trans d2; have j3 := (hD.cell (p := ⟨h, p + k * 4 + 3, none⟩) hhr).trans d3; have hB2 := hB.trans (hD.mono hB.size); clear hb hD))
      go_wp2
      go_roundw
      case rel => exact ⟨k + 1, by omega, by go_num, by assumption⟩
      case measure => simp [intOf]; omega
    · have hke : k = xs.length := by omega
      subst hke
      go_wp2
      go_ret
      exact ⟨rfl, hB⟩
end Go.Proofs.Ytbgnmocbpigpmaa
