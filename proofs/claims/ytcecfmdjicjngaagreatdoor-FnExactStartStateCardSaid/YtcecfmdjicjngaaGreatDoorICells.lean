/-
  impl.cellCount.
-/
import Derived.Test.YtcecfmdjicjngaaGreatDoorIVars
namespace Go.Proofs.YtcecfmdjicjngaaGreatDoor
open Go.RowKit
set_option linter.unusedVariables false
attribute [local go_sem] bs_size bs_get bs_extract bs_append bs_eq bs_toList
def RowE (w : World) (ad : Option Addr) (V : List LVar) (nv : Nat) : Prop := V ≠ [] → ∃ g, ad = some ⟨g, 0, none⟩ ∧ ∀ (i : Nat) (x : LVar), V[i]? = some x → VarAt w g (i * 6) x ∧ w.cell? ⟨g, i * 6 + 4, none⟩ = some (.bool (decide (nv ≤ i))) ∧ w.cell? ⟨g, i * 6 + 5, none⟩ = some (.int .i64 (cellsL (V.take i)))
theorem RowE.of_own {w : World} {B : Nat} {ad : Option Addr} {n c nv : Nat} {V : List LVar} (h : w.ownsRow B 136 6 (.slice ad n c) n (entC V nv n)) (hn : n = V.length) : RowE w ad V nv := by
 intro hne
 subst hn
 have hp : 0 < V.length := List.length_pos_iff.2 hne
 obtain ⟨g, c', e, _, _, hc⟩ := rowE_cells h hp (entC_len _ _ _)
 simp at e
 refine ⟨g, e.1, fun i x hx => ?_⟩
 have hi := (List.getElem?_eq_some_iff.1 hx).1
 have hat : ∀ j, j < 6 → w.cell? ⟨g, i * 6 + j, none⟩ = (entV V nv i)[j]? := fun j hj => by rw [hc _ (by omega), entC_at V nv _ i hi j hj]
 rw [entV_at hx] at hat
 exact ⟨⟨hat 0 (by omega), hat 1 (by omega), hat 2 (by omega), hat 3 (by omega)⟩, hat 4 (by omega), hat 5 (by omega)⟩
theorem RowE.below {w w' : World} {ad : Option Addr} {V : List LVar} {nv : Nat} (h : RowE w ad V nv) (hb : Below w.heap.size w w') : RowE w' ad V nv := fun hne => by
 obtain ⟨g, e, hc⟩ := h hne
 refine ⟨g, e, fun i x hx => ?_⟩
 have hk : Keeps 0 w w' := Keeps.of_below hb
 obtain ⟨h1, h2, h3⟩ := hc i x hx
 exact ⟨h1.keep (lo := 0) hk (Nat.zero_le _), hk.cell (p := ⟨g, i * 6 + 4, none⟩) (Nat.zero_le _) h2, hk.cell (p := ⟨g, i * 6 + 5, none⟩) (Nat.zero_le _) h3⟩
set_option maxHeartbeats 3200000 in
set_option maxRecDepth 100000 in
theorem cellCount_any (V : List LVar) (nv : Nat) (ad : Option Addr) (k c : Nat) (w : World) (hk : k = V.length) (hV : RowE w ad V nv) (hs : SizesLe V) (hl : V.length ≤ 624) :
  Calls Tryz.prog 90 #[.slice ad k c] w fun e w' => e = .returned (.int .i64 (cellsL V)) ∧ Below w.heap.size w w' := by
 subst hk
 have HV : Hid (RowE w ad V nv) := hV
 have HNX : Hid (∀ (k : Nat) (x : LVar), V[k]? = some x → 0 ≤ cellsL (V.take k) ∧ cellsL (V.take k) ≤ 4992 ∧ 0 ≤ szV x ∧ szV x ≤ 8 ∧ cellsL (V.take (k + 1)) = cellsL (V.take k) + szV x) := fun k x hk => cells_next hk hs hl
 have HSZ : Hid (∀ (x : LVar) (w : World), Calls Tryz.prog 158 #[varV x] w fun e w' => e = .returned (.int .i64 (szV x)) ∧ Below w.heap.size w w') := cellsFor_any
 clear hV hs
 go_enter Tryz.func90, Tryz.ntmps90
 go_wp2
 go_loopw [3, 8] (fun d i wr => ∃ j : Nat, j ≤ V.length ∧ i = .int .i64 j ∧ d = .int .i64 (cellsL (V.take j)) ∧ Below w.heap.size w wr) (fun d i _ => V.length - (intOf i).toNat)
 case atStart => exact ⟨0, by omega, rfl, rfl, Below.refl _ _⟩
 case round =>
  obtain ⟨j, hj, rfl, rfl, hB⟩ := hrel
  have HB := hid hB
  by_cases hlt : j < V.length
  ·obtain ⟨x, hx⟩ : ∃ x, V[j]? = some x := ⟨V[j]'(by omega), List.getElem?_eq_getElem _⟩
   obtain ⟨g, rfl, hc⟩ := (HV.out.below hB) (by intro e; rw [e] at hx; simp at hx)
   obtain ⟨⟨c0, c1, c2, c3⟩, c4, c5⟩ := hc j x hx
   obtain ⟨n0, n1, n2, n3, n4⟩ := HNX.out j x hx
   have HN : Hid (cellsL (V.take (j + 1)) = cellsL (V.take j) + szV x) := n4
   have hj0 : (0 : Int) ≤ (j : Int) := by omega
   have hj1 : (j : Int) < (V.length : Int) := by omega
   have hwz := hB.size
   clear hx hc n4 hB
   generalize cellsL (V.take j) = s at *
   go_wp2_with fail
   have hbb : Below wr.heap.size wr (wr.alloc (.cells #[.string (bs x.name), .int .i64 x.kind, .int .i64 x.type, .int .i64 x.size, .bool (decide (nv ≤ j)), .int .i64 s] 136)) := (Below.refl _ _).alloc (Nat.le_refl _) _
   generalize wr.alloc (.cells #[.string (bs x.name), .int .i64 x.kind, .int .i64 x.type, .int .i64 x.size, .bool (decide (nv ≤ j)), .int .i64 s] 136) = w1 at *
   refine (HSZ.out x _).mono ?_
   rintro e w2 ⟨rfl, hb⟩
   have HB2 : Hid (Below w.heap.size w w2) := HB.out.trans ((hbb.trans (hb.mono hbb.size)).mono HB.out.size)
   clear hb hbb HB c0 c1 c2 c3 c4 c5
   generalize szV x = z at *
   go_wp2_with fail
   go_roundw
   case rel => exact ⟨j + 1, by omega, by go_num, by rw [HN.out], HB2.out⟩
   case measure => simp [intOf]; omega
  ·have hje : j = V.length := by omega
   subst hje
   go_wp2
   go_ret
   exact ⟨by rw [List.take_length]; rfl, HB.out⟩
end Go.Proofs.YtcecfmdjicjngaaGreatDoor
