/-
  laws.eqToken, eqTokenS, eqTokensResult: equal tokens are found equal.
-/
import Derived.Test.YtbgfabkneifccaaDoorSSpell
import Derived.Deep.DrawnRows
import Derived.Deep.RegionHeld3
namespace Go.Proofs.YtbgfabkneifccaaDoor
open Go.RowKit
set_option linter.unusedVariables false
attribute [local go_sem] bs_size bs_get bs_extract bs_append bs_eq bs_toList
attribute [local go_sem ↓] Go.wp_at_zero Go.wp_at_succ

set_option maxHeartbeats 800000 in
theorem eqToken_any (t : Tok) (p : Int) (w : World) : Calls Tryd.prog 40 #[tokV t p, tokV t p] w fun e w' => e = .returned (.bool true) ∧ Below w.heap.size w w' := by
  go_enter Tryd.func40, Tryd.ntmps40
  go_wp2
  go_ret
  exact ⟨rfl, by go_grown⟩

set_option maxHeartbeats 3200000 in
theorem eqTokenS_any (T : List (Tok × Int)) (g h cap cap' : Nat) (a b : Option Addr) (w : World) (hn : T.length ≤ 1048577) (ha : T ≠ [] → a = some ⟨g, 0, none⟩) (hb : T ≠ [] → b = some ⟨h, 0, none⟩) (hT : T ≠ [] → Toks w g T) (hU : T ≠ [] → Toks w h T) :
    Calls Tryd.prog 25 #[.slice a T.length cap, .slice b T.length cap'] w fun e w' => e = .returned (.bool true) ∧ Below w.heap.size w w' := by
  have HA : Hid (T ≠ [] → a = some ⟨g, 0, none⟩) := ha
  have HB : Hid (T ≠ [] → b = some ⟨h, 0, none⟩) := hb
  have HT : Hid (T ≠ [] → Toks w g T) := hT
  have HU : Hid (T ≠ [] → Toks w h T) := hU
  clear ha hb hT hU
  go_enter Tryd.func25, Tryd.ntmps25
  go_wp2
  go_loopw [5] (fun i wr => ∃ k : Nat, k ≤ T.length ∧ i = .int .i64 k ∧ Below w.heap.size w wr) (fun i _ => T.length - (intOf i).toNat)
  case atStart => exact ⟨0, by omega, rfl, Below.refl _ _⟩
  case round =>
    obtain ⟨k, hk, rfl, hB⟩ := hrel
    by_cases hlt : k < T.length
    · obtain ⟨x, hx⟩ : ∃ x, T[k]? = some x := ⟨T[k], List.getElem?_eq_getElem hlt⟩
      have hne : T ≠ [] := by intro e; rw [e] at hlt; simp at hlt
      have ha := HA.out hne
      have hb := HB.out hne
      subst ha
      subst hb
      have hgw : g < w.heap.size := by obtain ⟨c0, _⟩ := toks_at (HT.out hne) hx; exact World.block_lt_of_cell? _ _ c0
      have hhw : h < w.heap.size := by obtain ⟨c0, _⟩ := toks_at (HU.out hne) hx; exact World.block_lt_of_cell? _ _ c0
      obtain ⟨c0, c1, c2, c3⟩ := toks_at (toks_below (HT.out hne) hB hgw) hx
      obtain ⟨d0, d1, d2, d3⟩ := toks_at (toks_below (HU.out hne) hB hhw) hx
      have hk0 : (0 : Int) ≤ (k : Int) := by omega
      have hk1 : (k : Int) < (T.length : Int) := by omega
      have hgr : g < wr.heap.size := Nat.lt_of_lt_of_le hgw hB.size
      have hhr : h < wr.heap.size := Nat.lt_of_lt_of_le hhw hB.size
      obtain ⟨t, q⟩ := x
      have HQ : Hid (∀ w, Calls Tryd.prog 40 #[tokV t q, tokV t q] w fun e w' => e = .returned (.bool true) ∧ Below w.heap.size w w') := fun w => eqToken_any t q w
      clear hne hx
      go_wp2_with fail
      go_region_held3 (fun W => (W.cell? ⟨g, k * 4, none⟩ = some (.int .i64 t.kind) ∧ W.cell? ⟨g, k * 4 + 1, none⟩ = some (.string (bs t.text)) ∧ W.cell? ⟨g, k * 4 + 2, none⟩ = some (.int .i64 t.num) ∧ W.cell? ⟨g, k * 4 + 3, none⟩ = some (.int .i64 q)) ∧ (W.cell? ⟨h, k * 4, none⟩ = some (.int .i64 t.kind) ∧ W.cell? ⟨h, k * 4 + 1, none⟩ = some (.string (bs t.text)) ∧ W.cell? ⟨h, k * 4 + 2, none⟩ = some (.int .i64 t.num) ∧ W.cell? ⟨h, k * 4 + 3, none⟩ = some (.int .i64 q))) (go_keep) (first | (go_at_call 40; refine (HQ.out _).mono ?_; rintro e w2 ⟨rfl, hb⟩; have hD : Below wr.heap.size wr w2 := ((Below.refl wr.heap.size wr).drew).trans (Below.mono hb (Nat.le_refl _)); have k0 := (hD.cell (p := ⟨g, k * 4, none⟩) hgr).trans c0; have k1 := (hD.cell (p := ⟨g, k * 4 + 1, none⟩) hgr).trans c1; have k2 := (hD.cell (p := ⟨g, k * 4 + 2, none⟩) hgr).trans c2; have k3 := (hD.cell (p := ⟨g, k * 4 + 3, none⟩) hgr).trans c3; have j0 := (hD.cell (p := ⟨h, k * 4, none⟩) hhr).trans d0; have j1 := (hD.cell (p := ⟨h, k * 4 + 1, none⟩) hhr).trans d1; have j2 := (hD.cell (p := ⟨h, k * 4 + 2, none⟩) hhr).trans d2; have j3 := (hD.cell (p := ⟨h, k * 4 + 3, none⟩) hhr).trans d3; have hB2 := hB.trans (hD.mono hB.size); clear hb hD))
      go_wp2
      go_roundw
      case rel => exact ⟨k + 1, by omega, by go_num, by assumption⟩
      case measure => simp [intOf]; omega
    · have hke : k = T.length := by omega
      subst hke
      go_wp2
      go_ret
      exact ⟨rfl, hB⟩
end Go.Proofs.YtbgfabkneifccaaDoor
