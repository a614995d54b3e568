/-
  impl.byName.
-/
import Derived.Test.YtbgnmocbpigpmaaIVars
import Derived.Test.YtbgnmocbpigpmaaNamesMap
namespace Go.Proofs.Ytbgnmocbpigpmaa
open Go.RowKit
set_option linter.unusedVariables false
attribute [local go_sem] bs_size bs_get bs_extract bs_append bs_eq bs_toList

/-- impl's variables in a row -/
def RowE (w : World) (ad : Option Addr) (V : List LVar) (nv : Nat) : Prop := V ≠ [] → ∃ g, ad = some ⟨g, 0, none⟩ ∧ ∀ (i : Nat) (x : LVar), V[i]? = some x → VarAt w g (i * 6) x ∧ w.cell? ⟨g, i * 6 + 4, none⟩ = some (.bool (decide (nv ≤ i))) ∧ w.cell? ⟨g, i * 6 + 5, none⟩ = some (.int .i64 (cellsL (V.take i)))
theorem RowE.of_own {w : World} {B : Nat} {ad : Option Addr} {n c nv : Nat} {V : List LVar} (h : w.ownsRow B 87 6 (.slice ad n c) n (entC V nv n)) (hn : n = V.length) : RowE w ad V nv := by
  intro hne
  subst hn
  have hp : 0 < V.length := List.length_pos_iff.2 hne
  obtain ⟨g, c', e, _, _, hc⟩ := rowE_cells h hp (entC_len _ _ _)
  simp at e
  refine ⟨g, e.1, fun i x hx => ?_⟩
  have hi := (List.getElem?_eq_some_iff.1 hx).1
  have hat : ∀ j, j < 6 → w.cell? ⟨g, i * 6 + j, none⟩ = (entV V nv i)[j]? := fun j hj => by rw [hc _ (by omega), entC_at V nv _ i hi j hj]
  rw [entV_at hx] at hat
  exact ⟨⟨hat 0 (by omega), hat 1 (by omega), hat 2 (by omega), hat 3 (by omega)⟩, hat 4 (by omega), hat 5 (by omega)⟩
theorem RowE.below {w w' : World} {ad : Option Addr} {V : List LVar} {nv : Nat} (h : RowE w ad V nv) (hb : Below w.heap.size w w') : RowE w' ad V nv := fun hne => by
  obtain ⟨g, e, hc⟩ := h hne
  refine ⟨g, e, fun i x hx => ?_⟩
  have hk : Keeps 0 w w' := Keeps.of_below hb
  obtain ⟨h1, h2, h3⟩ := hc i x hx
  exact ⟨h1.keep (lo := 0) hk (Nat.zero_le _), hk.cell (p := ⟨g, i * 6 + 4, none⟩) (Nat.zero_le _) h2, hk.cell (p := ⟨g, i * 6 + 5, none⟩) (Nat.zero_le _) h3⟩

set_option maxHeartbeats 3200000 in
set_option maxRecDepth 100000 in
theorem cellCount_any (V : List LVar) (nv : Nat) (ad : Option Addr) (k c : Nat) (w : World) (hk : k = V.length) (hV : RowE w ad V nv) (hs : SizesLe V) (hl : V.length ≤ 624) :
    Calls Try.prog 58 #[.slice ad k c] w fun e w' => e = .returned (.int .i64 (cellsL V)) ∧ Below w.heap.size w w' := by
  subst hk
  have HV : Hid (RowE w ad V nv) := hV
  have HNX : Hid (∀ (k : Nat) (x : LVar), V[k]? = some x → 0 ≤ cellsL (V.take k) ∧ cellsL (V.take k) ≤ 4992 ∧ 0 ≤ szV x ∧ szV x ≤ 8 ∧ cellsL (V.take (k + 1)) = cellsL (V.take k) + szV x) := fun k x hk => cells_next hk hs hl
  have HSZ : Hid (∀ (x : LVar) (w : World), Calls Try.prog 116 #[varV x] w fun e w' => e = .returned (.int .i64 (szV x)) ∧ Below w.heap.size w w') := cellsFor_any
  clear hV hs
  go_enter Try.func58, Try.ntmps58
  go_wp2
  go_loopw [3, 8] (fun d i wr => ∃ j : Nat, j ≤ V.length ∧ i = .int .i64 j ∧ d = .int .i64 (cellsL (V.take j)) ∧ Below w.heap.size w wr) (fun d i _ => V.length - (intOf i).toNat)
  case atStart => exact ⟨0, by omega, rfl, rfl, Below.refl _ _⟩
  case round =>
    obtain ⟨j, hj, rfl, rfl, hB⟩ := hrel
    have HB := hid hB
    by_cases hlt : j < V.length
    · obtain ⟨x, hx⟩ : ∃ x, V[j]? = some x := ⟨V[j]'(by omega), List.getElem?_eq_getElem _⟩
      obtain ⟨g, rfl, hc⟩ := (HV.out.below hB) (by intro e; rw [e] at hx; simp at hx)
      obtain ⟨⟨c0, c1, c2, c3⟩, c4, c5⟩ := hc j x hx
      obtain ⟨n0, n1, n2, n3, n4⟩ := HNX.out j x hx
      have HN : Hid (cellsL (V.take (j + 1)) = cellsL (V.take j) + szV x) := n4
      have hj0 : (0 : Int) ≤ (j : Int) := by omega
      have hj1 : (j : Int) < (V.length : Int) := by omega
      have hwz := hB.size
      clear hx hc n4 hB
      generalize cellsL (V.take j) = s at *
      go_wp2_with fail
      have hbb : Below wr.heap.size wr (wr.alloc (.cells #[.string (bs x.name), .int .i64 x.kind, .int .i64 x.type, .int .i64 x.size, .bool (decide (nv ≤ j)), .int .i64 s] 87)) := (Below.refl _ _).alloc (Nat.le_refl _) _
      generalize wr.alloc (.cells #[.string (bs x.name), .int .i64 x.kind, .int .i64 x.type, .int .i64 x.size, .bool (decide (nv ≤ j)), .int .i64 s] 87) = w1 at *
      refine (HSZ.out x _).mono ?_
      rintro e w2 ⟨rfl, hb⟩
      have HB2 : Hid (Below w.heap.size w w2) := HB.out.trans ((hbb.trans (hb.mono hbb.size)).mono HB.out.size)
      clear hb hbb HB c0 c1 c2 c3 c4 c5
      generalize szV x = z at *
      go_wp2_with fail
      go_roundw
      case rel => exact ⟨j + 1, by omega, by go_num, by rw [HN.out], HB2.out⟩
      case measure => simp [intOf]; omega
    · have hje : j = V.length := by omega
      subst hje
      go_wp2
      go_ret
      exact ⟨by rw [List.take_length]; rfl, HB.out⟩
end Go.Proofs.Ytbgnmocbpigpmaa
namespace Go.Proofs.Ytbgnmocbpigpmaa
open Go.RowKit
set_option linter.unusedVariables false
attribute [local go_sem] bs_size bs_get bs_extract bs_append bs_eq bs_toList

set_option maxHeartbeats 6400000 in
set_option maxRecDepth 100000 in
theorem byName_any (V : List LVar) (nv : Nat) (ad : Option Addr) (k c : Nat) (w : World) (hk : k = V.length) (hV : RowE w ad V nv) (hl : V.length ≤ 624) (hn : ∀ x ∈ V, x.name.length ≤ 1048576) :
    Calls Try.prog 61 #[.slice ad k c] w fun e w' => e = .returned (.map (some w.heap.size)) ∧ w'.ownsMap Try.prog 9 heldR w.heap.size V.length (nameD V nv V.length) ∧ Below w.heap.size w w' := by
  subst hk
  have HV : Hid (RowE w ad V nv) := hV
  have HN := hid hn
  have hmm := @run_makeMap Try.prog
  clear hV hn
  go_enter Try.func61, Try.ntmps61
  go_wp2
  have HM0 : Hid ((w.alloc (.map #[] 0)).ownsMap Try.prog 9 heldR w.heap.size 0 (nameD V nv 0)) := World.ownsMap_made _ _ _ _
  have HB0 : Hid (Below w.heap.size w (w.alloc (.map #[] 0))) := (Below.refl _ _).alloc (Nat.le_refl _) _
  generalize w.alloc (.map #[] 0) = W0 at *
  clear hmm
  go_loopw [11] (fun i wr => ∃ j : Nat, j ≤ V.length ∧ i = .int .i64 j ∧ wr.ownsMap Try.prog 9 heldR w.heap.size j (nameD V nv j) ∧ Below w.heap.size w wr) (fun i _ => V.length - (intOf i).toNat)
  case atStart => exact ⟨0, by omega, rfl, HM0.out, HB0.out⟩
  case round =>
    clear HM0 HB0
    obtain ⟨j, hj, rfl, hown, hB⟩ := hrel
    have HOWN := hid hown
    have HB := hid hB
    by_cases hlt : j < V.length
    · obtain ⟨x, hx⟩ : ∃ x, V[j]? = some x := ⟨V[j]'(by omega), List.getElem?_eq_getElem _⟩
      obtain ⟨g, rfl, hc⟩ := (HV.out.below hB) (by intro e; rw [e] at hx; simp at hx)
      obtain ⟨⟨c0, c1, c2, c3⟩, c4, c5⟩ := hc j x hx
      have hj0 : (0 : Int) ≤ (j : Int) := by omega
      have hj1 : (j : Int) < (V.length : Int) := by omega
      have hwz := hB.size
      have hxn := HN.out x (List.mem_of_getElem? hx)
      have HXD : Hid (V.getD j default = x) := by unfold Hid; rw [List.getD_eq_getElem?_getD, hx]; rfl
      have HEV : Hid (entVal V nv j = .agg #[.string (bs x.name), .int .i64 x.kind, .int .i64 x.type, .int .i64 x.size, .bool (decide (nv ≤ j)), .int .i64 (cellsL (V.take j))]) := by unfold Hid entVal; rw [HXD.out]
      clear hx hc hB
      generalize cellsL (V.take j) = s at *
      generalize decide (nv ≤ j) = ob at *
      have hown1 := hown.alloc (.cells #[.string (bs x.name), .int .i64 x.kind, .int .i64 x.type, .int .i64 x.size, .bool ob, .int .i64 s] 87)
      cases hr : firstI V x.name j with
      | some i =>
        have HSK : Hid (nameD V nv (j + 1) = nameD V nv j) := nameD_skip (by rw [HXD.out, hr]; rfl)
        obtain ⟨y0, y1, y2, y3, y4, y5, hy⟩ : ∃ y0 y1 y2 y3 y4 y5, entVal V nv i = .agg #[.string (bs y0), .int .i64 y1, .int .i64 y2, .int .i64 y3, .bool y4, .int .i64 y5] := ⟨_, _, _, _, _, _, rfl⟩
        have hlv : lookV V nv j x.name = .agg #[.string (bs y0), .int .i64 y1, .int .i64 y2, .int .i64 y3, .bool y4, .int .i64 y5] := by unfold lookV; rw [hr]; exact hy
        have hok : (firstI V x.name j).isSome = true := by rw [hr]; rfl
        have HOW2 : Hid (((wr.alloc (.cells #[.string (bs x.name), .int .i64 x.kind, .int .i64 x.type, .int .i64 x.size, .bool ob, .int .i64 s] 87)).alloc (.cells #[.string (bs y0), .int .i64 y1, .int .i64 y2, .int .i64 y3, .bool y4, .int .i64 y5] 87)).ownsMap Try.prog 9 heldR w.heap.size j (nameD V nv j)) := hown1.alloc _
        have HB2 : Hid (Below w.heap.size w ((wr.alloc (.cells #[.string (bs x.name), .int .i64 x.kind, .int .i64 x.type, .int .i64 x.size, .bool ob, .int .i64 s] 87)).alloc (.cells #[.string (bs y0), .int .i64 y1, .int .i64 y2, .int .i64 y3, .bool y4, .int .i64 y5] 87))) := (HB.out.alloc HB.out.size _).alloc (by have := HB.out.size; simp; omega) _
        clear hr hy hown
        go_wp2_with (at_lookup; go_loud (refine wpList_look_names rfl _ _ rfl V nv j w.heap.size j rfl hown1 x.name hxn rfl _ true hlv hok ?_))
        go_roundw
        case rel => exact ⟨j + 1, by omega, by go_num, by rw [HSK.out]; exact HOW2.out.mono (by omega), HB2.out⟩
        case measure => simp [intOf]; omega
      | none =>
        have hlv : lookV V nv j x.name = noVal := by unfold lookV; rw [hr]
        have hok : (firstI V x.name j).isSome = false := by rw [hr]; rfl
        have hown2 := hown1.alloc (.cells #[.string ⟨#[]⟩, .int .i64 0, .int .i64 0, .int .i64 0, .bool false, .int .i64 0] 87)
        have HB2 : Hid (Below w.heap.size w ((wr.alloc (.cells #[.string (bs x.name), .int .i64 x.kind, .int .i64 x.type, .int .i64 x.size, .bool ob, .int .i64 s] 87)).alloc (.cells #[.string ⟨#[]⟩, .int .i64 0, .int .i64 0, .int .i64 0, .bool false, .int .i64 0] 87))) := (HB.out.alloc HB.out.size _).alloc (by have := HB.out.size; simp; omega) _
        have hff : firstI V (V.getD j default).name j = none := by rw [HXD.out]; exact hr
        have hxe : (V.getD j default).name = x.name := by rw [HXD.out]
        clear hr hown
        go_wp2_with (first | (at_lookup; refine wpList_look_names rfl _ _ rfl V nv j w.heap.size j rfl hown1 x.name hxn rfl _ false hlv hok ?_) | (at_mapUpdate; go_loud (refine wpList_put_names rfl _ _ _ rfl V nv j w.heap.size j rfl hown2 (by unfold maxLen; omega) (by rw [hxe]; exact hxn) (by rw [hxe]; rfl) HEV.out.symm hff ?_)))
        intro w9 hown9 hgrow
        have HOW9 := hid hown9
        have HB9 : Hid (Below w.heap.size w w9) := HB2.out.grown hgrow (by have := HB2.out.size; omega) (fun b hb => by cases hb; omega)
        clear hown9 hgrow hown1 hown2 HEV hlv hok hff hxe HB2 HOWN
        go_wp2_with fail
        go_roundw
        case rel => exact ⟨j + 1, by omega, by go_num, HOW9.out, HB9.out⟩
        case measure => simp [intOf]; omega
    · have hje : j = V.length := by omega
      subst hje
      clear hown hB
      go_wp2
      go_ret
      exact ⟨rfl, HOWN.out, HB.out⟩
end Go.Proofs.Ytbgnmocbpigpmaa
