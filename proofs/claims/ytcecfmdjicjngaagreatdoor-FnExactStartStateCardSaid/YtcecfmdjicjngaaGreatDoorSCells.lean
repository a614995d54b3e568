/-
  spec.l5Size, l5Cells, l5Find.
-/
import Derived.Test.YtcecfmdjicjngaaGreatDoorSVars
import Derived.Test.YtcecfmdjicjngaaGreatDoorRowE
namespace Go.Proofs.YtcecfmdjicjngaaGreatDoor
open Go.RowKit
set_option linter.unusedVariables false
attribute [local go_sem] bs_size bs_get bs_extract bs_append bs_eq bs_toList
set_option maxHeartbeats 800000 in
theorem l5Size_any (x : LVar) (w : World) : Calls Tryz.prog 166 #[varV x] w fun e w' => e = .returned (.int .i64 (szV x)) ∧ Below w.heap.size w w' := by
 have HM : Hid (∀ (w : World), Calls Tryz.prog 216 #[.int .i64 1, .int .i64 x.size] w fun e w' => e = .returned (.int .i64 (szV x)) ∧ w' = w) := fun w => l1Max_any 1 x.size w
 go_enter Tryz.func166, Tryz.ntmps166
 go_wp2_with fail
 refine (HM.out _).mono ?_
 rintro e w2 ⟨rfl, rfl⟩
 go_wp2_with fail
 go_ret
 exact ⟨rfl, by go_grown⟩
def RowV (w : World) (ad : Option Addr) (V : List LVar) : Prop := V ≠ [] → ∃ g, ad = some ⟨g, 0, none⟩ ∧ ∀ (i : Nat) (x : LVar), V[i]? = some x → VarAt w g (i * 4) x
theorem RowV.of_own {w : World} {B : Nat} {ad : Option Addr} {n c : Nat} {V : List LVar} (h : w.ownsRow B 45 4 (.slice ad n c) n (varCells V)) (hn : n = V.length) : RowV w ad V := by
 intro hne
 subst hn
 have hp : 0 < V.length := List.length_pos_iff.2 hne
 obtain ⟨g, c', e, _, _, hc⟩ := rowE_cells h hp (varCells_len _)
 simp at e
 refine ⟨g, e.1, fun i x hx => ?_⟩
 have hi := (List.getElem?_eq_some_iff.1 hx).1
 obtain ⟨u0, u1, u2, u3⟩ := varCells_at V i x hx
 exact ⟨(hc _ (by omega)).trans u0, (hc _ (by omega)).trans u1, (hc _ (by omega)).trans u2, (hc _ (by omega)).trans u3⟩
theorem RowV.below {w w' : World} {ad : Option Addr} {V : List LVar} (h : RowV w ad V) (hb : Below w.heap.size w w') : RowV w' ad V := fun hne => by
 obtain ⟨g, e, hc⟩ := h hne
 exact ⟨g, e, fun i x hx => (hc i x hx).keep (lo := 0) (Keeps.of_below hb) (Nat.zero_le _)⟩
set_option maxHeartbeats 3200000 in
set_option maxRecDepth 100000 in
theorem l5Cells_any (V : List LVar) (ad : Option Addr) (k c : Nat) (w : World) (hk : k ≤ V.length) (hV : RowV w ad V) (hs : SizesLe V) (hl : V.length ≤ 624) :
  Calls Tryz.prog 93 #[.slice ad k c] w fun e w' => e = .returned (.int .i64 (cellsL (V.take k))) ∧ Below w.heap.size w w' := by
 have HV : Hid (RowV w ad V) := hV
 have HNX : Hid (∀ (k : Nat) (x : LVar), V[k]? = some x → 0 ≤ cellsL (V.take k) ∧ cellsL (V.take k) ≤ 4992 ∧ 0 ≤ szV x ∧ szV x ≤ 8 ∧ cellsL (V.take (k + 1)) = cellsL (V.take k) + szV x) := fun k x hk => cells_next hk hs hl
 have HSZ : Hid (∀ (x : LVar) (w : World), Calls Tryz.prog 166 #[varV x] w fun e w' => e = .returned (.int .i64 (szV x)) ∧ Below w.heap.size w w') := l5Size_any
 clear hV hs
 go_enter Tryz.func93, Tryz.ntmps93
 go_wp2
 go_loopw [3, 4] (fun d i wr => ∃ j : Nat, j ≤ k ∧ i = .int .i64 j ∧ d = .int .i64 (cellsL (V.take j)) ∧ Below w.heap.size w wr) (fun d i _ => k - (intOf i).toNat)
 case atStart => exact ⟨0, by omega, rfl, rfl, Below.refl _ _⟩
 case round =>
  obtain ⟨j, hj, rfl, rfl, hB⟩ := hrel
  have HB := hid hB
  by_cases hlt : j < k
  ·obtain ⟨x, hx⟩ : ∃ x, V[j]? = some x := ⟨V[j]'(by omega), List.getElem?_eq_getElem _⟩
   obtain ⟨g, rfl, hc⟩ := HV.out (by intro e; rw [e] at hx; simp at hx)
   obtain ⟨c0, c1, c2, c3⟩ := (hc j x hx).keep (lo := 0) (Keeps.of_below hB) (Nat.zero_le _)
   obtain ⟨n0, n1, n2, n3, n4⟩ := HNX.out j x hx
   have HN : Hid (cellsL (V.take (j + 1)) = cellsL (V.take j) + szV x) := n4
   have hj0 : (0 : Int) ≤ (j : Int) := by omega
   have hj1 : (j : Int) < (k : Int) := by omega
   clear hx hc n4 hB
   generalize cellsL (V.take j) = s at *
   go_wp2_with fail
   refine (HSZ.out x _).mono ?_
   rintro e w2 ⟨rfl, hb⟩
   have HB2 : Hid (Below w.heap.size w w2) := HB.out.trans (hb.mono HB.out.size)
   clear hb HB c0 c1 c2 c3
   generalize szV x = z at *
   go_wp2_with fail
   go_roundw
   case rel => exact ⟨j + 1, by omega, by go_num, by rw [HN.out], HB2.out⟩
   case measure => simp [intOf]; omega
  ·have hje : j = k := by omega
   subst hje
   go_wp2
   go_ret
   exact ⟨rfl, HB.out⟩
set_option maxHeartbeats 3200000 in
set_option maxRecDepth 100000 in
theorem l5Find_any (V : List LVar) (nm : List UInt8) (ad : Option Addr) (k c : Nat) (w : World) (hk : k = V.length) (hV : RowV w ad V) (hl : V.length ≤ 624) :
  Calls Tryz.prog 211 #[.slice ad k c, .string (bs nm)] w fun e w' => e = .returned (.int .i64 (varFrom nm V 0)) ∧ w' = w := by
 subst hk
 have HV : Hid (RowV w ad V) := hV
 clear hV
 go_enter Tryz.func211, Tryz.ntmps211
 go_wp2
 go_loopw [5] (fun i wr => ∃ k : Nat, k ≤ V.length ∧ i = .int .i64 k ∧ varFrom nm V 0 = varFrom nm (V.drop k) k ∧ SameW wr w) (fun i _ => V.length - (intOf i).toNat)
 case atStart => exact ⟨0, by omega, rfl, rfl, rfl⟩
 case round =>
  obtain ⟨k, hk, rfl, hv, hw⟩ := hrel
  have HF : Hid _ := hv
  clear hv
  by_cases hlt : k < V.length
  ·obtain ⟨x, hx⟩ : ∃ x, V[k]? = some x := ⟨V[k], List.getElem?_eq_getElem hlt⟩
   obtain ⟨g, rfl, hc1⟩ := HV.out (by intro e; rw [e] at hlt; simp at hlt)
   have c0 : wr.cell? ⟨g, k * 4, none⟩ = _ := (congrArg (fun W => World.cell? W ⟨g, k * 4, none⟩) hw).trans (hc1 k x hx).1
   have HX : Hid (V[k]? = some x) := hx
   clear hx hc1
   by_cases he : x.name = nm
   ·have e := HF.out.trans (varFrom_hit HX.out he)
    have HE : Hid _ := e
    clear e
    subst he
    go_wp2
    go_ret
    exact ⟨by rw [HE.out]; rfl, hw⟩
   ·have hne : (x.name == nm) = false := by simpa using he
    have hne2 : decide (x.name = nm) = false := decide_eq_false he
    have e := HF.out.trans (varFrom_miss HX.out he)
    have HE : Hid _ := e
    clear e
    go_wp2
    go_roundw
    case rel => exact ⟨k + 1, by omega, by go_num, HE.out, hw⟩
    case measure => simp [intOf]; omega
  ·have hke : k = V.length := by omega
   have HKE : Hid (k = V.length) := hke
   clear hke
   go_wp2
   go_ret
   refine ⟨?_, hw⟩
   rw [HF.out, HKE.out, List.drop_length]; rfl
end Go.Proofs.YtcecfmdjicjngaaGreatDoor
