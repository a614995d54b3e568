/-
  The kind that stands with blocks' own variables makes no odds.
-/
import Derived.Test.YtbgnmocbpigpmaaTreeM
import Derived.Test.YtbgnmocbpigpmaaSVars
import Derived.Test.YtbgnmocbpigpmaaCheckM2
namespace Go.Proofs.Ytbgnmocbpigpmaa
open Go.RowKit
set_option linter.unusedVariables false

/-- the place of a variable; -1: there is none -/
def varFrom (nm : List UInt8) : List LVar → Nat → Int
  | [], _ => -1
  | v :: r, i => if v.name = nm then (i : Int) else varFrom nm r (i + 1)
theorem varFrom_hit {nm : List UInt8} {V : List LVar} {k : Nat} {x : LVar} (hx : V[k]? = some x) (h : x.name = nm) : varFrom nm (V.drop k) k = k := by
  rw [List.drop_eq_getElem_cons (List.getElem?_eq_some_iff.1 hx).1, (List.getElem?_eq_some_iff.1 hx).2, varFrom, if_pos h]
theorem varFrom_miss {nm : List UInt8} {V : List LVar} {k : Nat} {x : LVar} (hx : V[k]? = some x) (h : x.name ≠ nm) : varFrom nm (V.drop k) k = varFrom nm (V.drop (k + 1)) (k + 1) := by
  rw [List.drop_eq_getElem_cons (List.getElem?_eq_some_iff.1 hx).1, (List.getElem?_eq_some_iff.1 hx).2, varFrom, if_neg h]
theorem varFrom_or (nm : List UInt8) : ∀ (V : List LVar) (i : Nat), varFrom nm V i = -1 ∨ ∃ j : Nat, varFrom nm V i = j ∧ j < i + V.length := by
  intro V
  induction V with
  | nil => intro i; exact .inl rfl
  | cons v r ih =>
    intro i
    unfold varFrom
    split
    · exact .inr ⟨i, rfl, by simp⟩
    · rcases ih (i + 1) with h | ⟨j, h, hj⟩
      · exact .inl h
      · exact .inr ⟨j, h, by simp; omega⟩
end Go.Proofs.Ytbgnmocbpigpmaa
namespace Go.Proofs.Ytbgnmocbpigpmaa
open Go.RowKit
set_option linter.unusedVariables false
attribute [local go_sem] bs_size bs_get bs_extract bs_append bs_eq bs_toList

set_option maxHeartbeats 800000 in
theorem l5Size_any (x : LVar) (w : World) : Calls Try.prog 114 #[varV x] w fun e w' => e = .returned (.int .i64 (szV x)) ∧ Below w.heap.size w w' := by
  have HM : Hid (∀ (w : World), Calls Try.prog 106 #[.int .i64 1, .int .i64 x.size] w fun e w' => e = .returned (.int .i64 (szV x)) ∧ w' = w) := fun w => l1Max_any 1 x.size w
  go_enter Try.func114, Try.ntmps114
  go_wp2_with fail
  refine (HM.out _).mono ?_
  rintro e w2 ⟨rfl, rfl⟩
  go_wp2_with fail
  go_ret
  exact ⟨rfl, by go_grown⟩

/-- variables that lie in a row, the first k of them -/
def RowV (w : World) (ad : Option Addr) (V : List LVar) : Prop := V ≠ [] → ∃ g, ad = some ⟨g, 0, none⟩ ∧ ∀ (i : Nat) (x : LVar), V[i]? = some x → VarAt w g (i * 4) x
theorem RowV.of_own {w : World} {B : Nat} {ad : Option Addr} {n c : Nat} {V : List LVar} (h : w.ownsRow B 85 4 (.slice ad n c) n (varCells V)) (hn : n = V.length) : RowV w ad V := by
  intro hne
  subst hn
  have hp : 0 < V.length := List.length_pos_iff.2 hne
  obtain ⟨g, c', e, _, _, hc⟩ := rowE_cells h hp (varCells_len _)
  simp at e
  refine ⟨g, e.1, fun i x hx => ?_⟩
  have hi := (List.getElem?_eq_some_iff.1 hx).1
  obtain ⟨u0, u1, u2, u3⟩ := varCells_at V i x hx
  exact ⟨(hc _ (by omega)).trans u0, (hc _ (by omega)).trans u1, (hc _ (by omega)).trans u2, (hc _ (by omega)).trans u3⟩
theorem RowV.below {w w' : World} {ad : Option Addr} {V : List LVar} (h : RowV w ad V) (hb : Below w.heap.size w w') : RowV w' ad V := fun hne => by
  obtain ⟨g, e, hc⟩ := h hne
  exact ⟨g, e, fun i x hx => (hc i x hx).keep (lo := 0) (Keeps.of_below hb) (Nat.zero_le _)⟩

set_option maxHeartbeats 3200000 in
set_option maxRecDepth 100000 in
theorem l5Cells_any (V : List LVar) (ad : Option Addr) (k c : Nat) (w : World) (hk : k ≤ V.length) (hV : RowV w ad V) (hs : SizesLe V) (hl : V.length ≤ 624) :
    Calls Try.prog 56 #[.slice ad k c] w fun e w' => e = .returned (.int .i64 (cellsL (V.take k))) ∧ Below w.heap.size w w' := by
  have HV : Hid (RowV w ad V) := hV
  have HNX : Hid (∀ (k : Nat) (x : LVar), V[k]? = some x → 0 ≤ cellsL (V.take k) ∧ cellsL (V.take k) ≤ 4992 ∧ 0 ≤ szV x ∧ szV x ≤ 8 ∧ cellsL (V.take (k + 1)) = cellsL (V.take k) + szV x) := fun k x hk => cells_next hk hs hl
  have HSZ : Hid (∀ (x : LVar) (w : World), Calls Try.prog 114 #[varV x] w fun e w' => e = .returned (.int .i64 (szV x)) ∧ Below w.heap.size w w') := l5Size_any
  clear hV hs
  go_enter Try.func56, Try.ntmps56
  go_wp2
  go_loopw [3, 4] (fun d i wr => ∃ j : Nat, j ≤ k ∧ i = .int .i64 j ∧ d = .int .i64 (cellsL (V.take j)) ∧ Below w.heap.size w wr) (fun d i _ => k - (intOf i).toNat)
  case atStart => exact ⟨0, by omega, rfl, rfl, Below.refl _ _⟩
  case round =>
    obtain ⟨j, hj, rfl, rfl, hB⟩ := hrel
    have HB := hid hB
    by_cases hlt : j < k
    · obtain ⟨x, hx⟩ : ∃ x, V[j]? = some x := ⟨V[j]'(by omega), List.getElem?_eq_getElem _⟩
      obtain ⟨g, rfl, hc⟩ := HV.out (by intro e; rw [e] at hx; simp at hx)
      obtain ⟨c0, c1, c2, c3⟩ := (hc j x hx).keep (lo := 0) (Keeps.of_below hB) (Nat.zero_le _)
      obtain ⟨n0, n1, n2, n3, n4⟩ := HNX.out j x hx
      have HN : Hid (cellsL (V.take (j + 1)) = cellsL (V.take j) + szV x) := n4
      have hj0 : (0 : Int) ≤ (j : Int) := by omega
      have hj1 : (j : Int) < (k : Int) := by omega
      clear hx hc n4 hB
      generalize cellsL (V.take j) = s at *
      go_wp2_with fail
      refine (HSZ.out x _).mono ?_
      rintro e w2 ⟨rfl, hb⟩
      have HB2 : Hid (Below w.heap.size w w2) := HB.out.trans (hb.mono HB.out.size)
      clear hb HB c0 c1 c2 c3
      generalize szV x = z at *
      go_wp2_with fail
      go_roundw
      case rel => exact ⟨j + 1, by omega, by go_num, by rw [HN.out], HB2.out⟩
      case measure => simp [intOf]; omega
    · have hje : j = k := by omega
      subst hje
      go_wp2
      go_ret
      exact ⟨rfl, HB.out⟩

set_option maxHeartbeats 3200000 in
set_option maxRecDepth 100000 in
theorem l5Find_any (V : List LVar) (nm : List UInt8) (ad : Option Addr) (k c : Nat) (w : World) (hk : k = V.length) (hV : RowV w ad V) (hl : V.length ≤ 624) :
    Calls Try.prog 60 #[.slice ad k c, .string (bs nm)] w fun e w' => e = .returned (.int .i64 (varFrom nm V 0)) ∧ w' = w := by
  subst hk
  have HV : Hid (RowV w ad V) := hV
  clear hV
  go_enter Try.func60, Try.ntmps60
  go_wp2
  go_loopw [5] (fun i wr => ∃ k : Nat, k ≤ V.length ∧ i = .int .i64 k ∧ varFrom nm V 0 = varFrom nm (V.drop k) k ∧ SameW wr w) (fun i _ => V.length - (intOf i).toNat)
  case atStart => exact ⟨0, by omega, rfl, rfl, rfl⟩
  case round =>
    obtain ⟨k, hk, rfl, hv, hw⟩ := hrel
    have HF : Hid _ := hv
    clear hv
    by_cases hlt : k < V.length
    · obtain ⟨x, hx⟩ : ∃ x, V[k]? = some x := ⟨V[k], List.getElem?_eq_getElem hlt⟩
      obtain ⟨g, rfl, hc1⟩ := HV.out (by intro e; rw [e] at hlt; simp at hlt)
      have c0 : wr.cell? ⟨g, k * 4, none⟩ = _ := (congrArg (fun W => World.cell? W ⟨g, k * 4, none⟩) hw).trans (hc1 k x hx).1
      have HX : Hid (V[k]? = some x) := hx
      clear hx hc1
      by_cases he : x.name = nm
      · have e := HF.out.trans (varFrom_hit HX.out he)
        have HE : Hid _ := e
        clear e
        subst he
        go_wp2
        go_ret
        exact ⟨by rw [HE.out]; rfl, hw⟩
      · have hne : (x.name == nm) = false := by simpa using he
        have hne2 : decide (x.name = nm) = false := decide_eq_false he
        have e := HF.out.trans (varFrom_miss HX.out he)
        have HE : Hid _ := e
        clear e
        go_wp2
        go_roundw
        case rel => exact ⟨k + 1, by omega, by go_num, HE.out, hw⟩
        case measure => simp [intOf]; omega
    · have hke : k = V.length := by omega
      have HKE : Hid (k = V.length) := hke
      clear hke
      go_wp2
      go_ret
      refine ⟨?_, hw⟩
      rw [HF.out, HKE.out, List.drop_length]; rfl
end Go.Proofs.Ytbgnmocbpigpmaa
namespace Go.Proofs.Ytbgnmocbpigpmaa
open Go.RowKit
set_option linter.unusedVariables false

theorem cellsL_kind (T : LTree) (n : Nat) : cellsL ((allL 3 T).take n) = cellsL ((allL 0 T).take n) := by
  have h1 : ∀ (V W : List LVar), V.map szV = W.map szV → cellsL V = cellsL W := by
    intro V W h
    have : ∀ (V : List LVar) (a : Int), V.foldl (fun s v => s + szV v) a = (V.map szV).foldl (fun s z => s + z) a := by
      intro V; induction V with
      | nil => intro a; rfl
      | cons v r ih => intro a; exact ih _
    unfold cellsL; rw [this, this, h]
  have h2 : ∀ op nm, (ownOf 3 op nm).map szV = (ownOf 0 op nm).map szV := by
    intro op nm; unfold ownOf
    split
    · rfl
    split
    · rfl
    split <;> rfl
  have h3 : (allL 3 T).map szV = (allL 0 T).map szV := by
    unfold allL ownsL
    rw [List.map_append, List.map_append, List.map_flatMap, List.map_flatMap]
    congr 2
    funext n
    unfold ownN
    split
    · exact h2 _ _
    · rfl
  apply h1
  rw [List.map_take, List.map_take, h3]
theorem allL_len (T : LTree) : (allL 3 T).length = (allL 0 T).length := by
  have h2 : ∀ op nm, (ownOf 3 op nm).map szV = (ownOf 0 op nm).map szV := by
    intro op nm; unfold ownOf
    split
    · rfl
    split
    · rfl
    split <;> rfl
  have h3 : (allL 3 T).map szV = (allL 0 T).map szV := by
    unfold allL ownsL
    rw [List.map_append, List.map_append, List.map_flatMap, List.map_flatMap]
    congr 2
    funext n
    unfold ownN
    split
    · exact h2 _ _
    · rfl
  have := congrArg List.length h3
  simpa using this
theorem varFrom_names (nm : List UInt8) : ∀ (V W : List LVar) (i : Nat), V.map LVar.name = W.map LVar.name → varFrom nm V i = varFrom nm W i := by
  intro V
  induction V with
  | nil => intro W i h; cases W with
    | nil => rfl
    | cons w r => simp at h
  | cons v r ih =>
    intro W i h
    cases W with
    | nil => simp at h
    | cons w s =>
      simp at h
      unfold varFrom
      rw [h.1, ih s (i + 1) h.2]
theorem varFrom_kind (T : LTree) (nm : List UInt8) : varFrom nm (allL 3 T) 0 = varFrom nm (allL 0 T) 0 := by
  apply varFrom_names
  unfold allL ownsL
  rw [List.map_append, List.map_append, List.map_flatMap, List.map_flatMap]
  congr 2
  funext n
  unfold ownN
  split
  · unfold ownOf
    split
    · rfl
    split
    · rfl
    split <;> rfl
  · rfl
theorem all_names {T : LTree} (h : Good T) (K : Int) : ∀ x ∈ allL K T, x.name.length ≤ 9 := fun x hx => by
  rcases List.mem_append.1 hx with hx | hx
  · have := (name_len (h.var x hx).1).2; omega
  · obtain ⟨n, hn, hx⟩ := List.mem_flatMap.1 hx
    unfold ownN at hx
    split at hx
    · rename_i hk
      obtain ⟨k, hk2, rfl⟩ := List.getElem_of_mem hn
      have h1 := (name_len (own_name (h.node k _ (List.getElem?_eq_getElem hk2)).1 hk)).2
      rw [ownOf_nm] at hx
      obtain ⟨y, hy, rfl⟩ := List.mem_map.1 hx
      have := ownOf_one K _ y hy
      simp; omega
    · cases hx
end Go.Proofs.Ytbgnmocbpigpmaa
