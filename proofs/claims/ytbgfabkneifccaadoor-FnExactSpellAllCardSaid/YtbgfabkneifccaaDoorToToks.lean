/-
  laws.szTokenS, toTokenS: how much tokens hold; a copy of tokens in new memory.
-/
import Derived.Test.YtbgfabkneifccaaDoorToTok
import Derived.Test.YtbgfabkneifccaaDoorOpenTok
import Derived.OwnWalk
import Derived.Laws.OwnMore
namespace Go.Proofs.YtbgfabkneifccaaDoor
open Go.RowKit
set_option linter.unusedVariables false
attribute [local go_sem] bs_size bs_get bs_extract bs_append bs_eq bs_toList

/-- tokens that lie in a row at b, o -/
def TokIn (w : World) (b o : Nat) (T : List (Tok × Int)) : Prop := ∀ (k : Nat) (x : Tok × Int), T[k]? = some x →
  w.cell? ⟨b, o + k * 4, none⟩ = some (.int .i64 x.1.kind) ∧ w.cell? ⟨b, o + k * 4 + 1, none⟩ = some (.string (bs x.1.text)) ∧ w.cell? ⟨b, o + k * 4 + 2, none⟩ = some (.int .i64 x.1.num) ∧ w.cell? ⟨b, o + k * 4 + 3, none⟩ = some (.int .i64 x.2)
theorem TokIn.below {w w' : World} {b o B : Nat} {T : List (Tok × Int)} (h : TokIn w b o T) (hb : Below B w w') (hB : b < B) : TokIn w' b o T := fun k x hx => by
  obtain ⟨c0, c1, c2, c3⟩ := h k x hx
  exact ⟨(hb.cell (p := ⟨b, o + k * 4, none⟩) hB).trans c0, (hb.cell (p := ⟨b, o + k * 4 + 1, none⟩) hB).trans c1, (hb.cell (p := ⟨b, o + k * 4 + 2, none⟩) hB).trans c2, (hb.cell (p := ⟨b, o + k * 4 + 3, none⟩) hB).trans c3⟩
/-- tokens that came in, as plain tokens -/
structure Came (w : World) (a : Option Addr) (len cap : Nat) (T : List (Tok × Int)) : Prop where
  cnt : T.length = len
  max : cap ≤ maxLen
  le : len ≤ cap
  hd : len ≠ 0 → ∃ b o, a = some ⟨b, o, none⟩ ∧ b < w.heap.size ∧ TokIn w b o T
  size : ∀ x ∈ T, x.1.text.length ≤ maxLen
theorem came_of {w : World} {a : Option Addr} {len cap : Nat} {z : List (Int × ByteArray × Int × Int)} (h : IsToks w a len cap z) : ∃ T, Came w a len cap T := by
  obtain ⟨h1, h2, h3, h4, h5⟩ := h
  refine ⟨z.map fun y => (⟨y.1, y.2.1.data.toList, y.2.2.1⟩, y.2.2.2), by simpa using h1, h3, h2, fun hn => ?_, fun x hx => ?_⟩
  · obtain ⟨b, o, rfl, hb, hc⟩ := h4 hn
    refine ⟨b, o, rfl, hb, fun k x hx => ?_⟩
    rw [List.getElem?_map] at hx
    cases hz : z[k]? with
    | none => rw [hz] at hx; simp at hx
    | some y =>
      rw [hz] at hx
      simp at hx
      subst hx
      obtain ⟨c0, c1, c2, c3⟩ := hc k y hz
      exact ⟨c0, c1, c2, c3⟩
  · obtain ⟨y, hy, rfl⟩ := List.mem_map.1 hx
    have := h5 y hy
    show y.2.1.data.toList.length ≤ maxLen
    rw [Array.length_toList]
    exact this

set_option maxHeartbeats 3200000 in
theorem szToks_any (a : Option Addr) (len cap : Nat) (T : List (Tok × Int)) (w : World) (h : Came w a len cap T) :
    Calls Tryd.prog 22 #[.slice a len cap, .int .i64 1048576] w fun e w' => (∃ r : Int, e = .returned (.int .i64 r) ∧ (0 ≤ r → len ≤ 1048576 ∧ ∀ x ∈ T, x.1.text.length ≤ 1048576)) ∧ Below w.heap.size w w' := by
  obtain ⟨hlen, hmax, hle, hhd, hsz⟩ := h
  have hl9 : len ≤ 9223372036854775807 := by unfold maxLen at hmax; omega
  have HSZ : Hid (∀ x ∈ T, x.1.text.length ≤ 9223372036854775807) := hsz
  have HHD : Hid (len ≠ 0 → ∃ b o, a = some ⟨b, o, none⟩ ∧ b < w.heap.size ∧ TokIn w b o T) := hhd
  have HLEN : Hid (T.length = len) := hlen
  clear hmax hle hhd hsz hlen
  by_cases hbig : 1048576 < len
  · go_enter Tryd.func22, Tryd.ntmps22
    go_wp2
    go_ret
    exact ⟨⟨_, rfl, fun h => absurd h (by omega)⟩, Below.refl _ _⟩
  · go_enter Tryd.func22, Tryd.ntmps22
    go_wp2
    go_loopw [1, 5] (fun x i wr => ∃ (k : Nat) (left : Int), k ≤ len ∧ i = .int .i64 k ∧ x = .int .i64 left ∧ 0 ≤ left ∧ left ≤ 1048576 ∧ (∀ j (y : Tok × Int), j < k → T[j]? = some y → y.1.text.length ≤ 1048576) ∧ Below w.heap.size w wr) (fun _ i _ => len - (intOf i).toNat)
    case atStart => exact ⟨0, 1048576 - (len : Int), by omega, rfl, by first | rfl | go_num, by omega, by omega, by omega, Below.refl _ _⟩
    case round =>
      obtain ⟨k, left, hk, rfl, rfl, hl0, hl1, hall, hB⟩ := hrel
      have HALL : Hid (∀ j (y : Tok × Int), j < k → T[j]? = some y → y.1.text.length ≤ 1048576) := hall
      clear hall
      by_cases hlt : k < len
      · obtain ⟨x, hx⟩ : ∃ x, T[k]? = some x := ⟨T[k]'(by rw [HLEN.out]; exact hlt), List.getElem?_eq_getElem _⟩
        obtain ⟨b, o, ha, hbw, hin⟩ := HHD.out (by omega)
        subst ha
        obtain ⟨c0, c1, c2, c3⟩ := hin.below hB hbw k x hx
        have hxs := HSZ.out x (List.mem_of_getElem? hx)
        have HX : Hid (T[k]? = some x) := hx
        have hs := fun w => szTok_any x.1 x.2 left hl0 hl1 hxs w
        clear hin hx
        by_cases hbg : left < x.1.text.length
        · rw [if_pos hbg] at hs
          have HS : Hid (∀ w, Calls Tryd.prog 18 #[tokV x.1 x.2, .int .i64 left] w fun e w' => e = .returned (.int .i64 (-1)) ∧ Below w.heap.size w w') := hs
          clear hs
          go_wp2_with fail
          refine (HS.out _).mono ?_
          rintro e w2 ⟨rfl, hb⟩
          have hB2 := hB.trans (hb.mono hB.size)
          clear hb c0 c1 c2 c3 hB
          go_wp2_with fail
          go_ret
          exact ⟨⟨_, rfl, fun h => absurd h (by omega)⟩, hB2⟩
        · rw [if_neg hbg] at hs
          obtain ⟨L, hL⟩ : ∃ L, L = left - (x.1.text.length : Int) := ⟨_, rfl⟩
          rw [← hL] at hs
          have HS : Hid (∀ w, Calls Tryd.prog 18 #[tokV x.1 x.2, .int .i64 left] w fun e w' => e = .returned (.int .i64 L) ∧ Below w.heap.size w w') := hs
          have hL0 : 0 ≤ L := by omega
          have hL1 : L ≤ 1048576 := by omega
          have HXL : Hid (x.1.text.length ≤ 1048576) := by show _ ≤ _; omega
          clear hs hL hbg
          go_wp2_with fail
          refine (HS.out _).mono ?_
          rintro e w2 ⟨rfl, hb⟩
          have hB2 := hB.trans (hb.mono hB.size)
          clear hb c0 c1 c2 c3 hB
          go_wp2_with fail
          go_roundw
          case rel => exact ⟨k + 1, L, by omega, by go_num, rfl, hL0, hL1, fun j y hj hy => by
              rcases Nat.lt_succ_iff_lt_or_eq.1 hj with h | rfl
              · exact HALL.out j y h hy
              · have := hy.symm.trans HX.out
                cases this
                exact HXL.out, hB2⟩
          case measure => simp [intOf]; omega
      · have hke : k = len := by omega
        have HKE : Hid (k = len) := hke
        clear hke
        go_wp2
        go_ret
        refine ⟨⟨_, rfl, fun _ => ⟨by omega, fun x hx => ?_⟩⟩, hB⟩
        obtain ⟨j, hj, rfl⟩ := List.getElem_of_mem hx
        exact HALL.out j _ (by have := HKE.out; have := HLEN.out; omega) (List.getElem?_eq_getElem hj)

theorem infoTokA : (Tryd.prog.info? 33).map (fun i => (i.zero, i.size, i.bytes)) = some (some (.agg #[.int .i64 0, .string ⟨#[]⟩, .int .i64 0, .int .i64 0]), 4, 40) := by kernel_rfl
theorem tokCellsI_len (T : List (Tok × Int)) : (tokCellsI T).length = T.length * 4 := by
  induction T with
  | nil => rfl
  | cons x T ih => simp [tokCellsI] at *; omega
theorem tokCellsI_at (T : List (Tok × Int)) (k : Nat) (x : Tok × Int) (hk : T[k]? = some x) : (tokCellsI T)[k * 4]? = some (.int .i64 x.1.kind) ∧ (tokCellsI T)[k * 4 + 1]? = some (.string (bs x.1.text)) ∧ (tokCellsI T)[k * 4 + 2]? = some (.int .i64 x.1.num) ∧ (tokCellsI T)[k * 4 + 3]? = some (.int .i64 x.2) := by
  induction T generalizing k with
  | nil => simp at hk
  | cons y T ih =>
    cases k with
    | zero =>
      have hy : y = x := by simpa using hk
      subst hy
      simp [tokCellsI]
    | succ k =>
      have h := ih k (by simpa using hk)
      have e : ∀ j, (tokCellsI (y :: T))[(k + 1) * 4 + j]? = (tokCellsI T)[k * 4 + j]? := fun j => by
        unfold tokCellsI
        rw [List.flatMap_cons, List.getElem?_append_right (by simp; omega)]
        congr 1
        simp; omega
      have e0 := e 0
      rw [Nat.add_zero, Nat.add_zero] at e0
      rw [e0, e 1, e 2, e 3]
      exact h
/-- a row of n tokens of its own, of which the first c cells are laid -/
def Part (w : World) (g n : Nat) (T : List (Tok × Int)) (c : Nat) : Prop := ∃ cur : Array Value, w.heap[g]? = some (.cells cur 33 (0, 0)) ∧ cur.size = n * 4 ∧ ∀ i, i < c → cur[i]? = (tokCellsI T)[i]?
theorem Part.below {w w' : World} {g n c : Nat} {T : List (Tok × Int)} (h : Part w g n T c) (hb : Below w.heap.size w w') : Part w' g n T c := by
  obtain ⟨cur, h1, h2, h3⟩ := h
  exact ⟨cur, (hb.block g (Array.getElem?_eq_some_iff.1 h1).1).trans h1, h2, h3⟩
theorem Part.cell {w : World} {g n c i : Nat} {T : List (Tok × Int)} (h : Part w g n T c) (hi : i < n * 4) : (∃ y, w.cell? ⟨g, i, none⟩ = some y) ∧ w.frozen? ⟨g, i, none⟩ = false := by
  obtain ⟨cur, h1, h2, h3⟩ := h
  refine ⟨⟨cur[i]'(by omega), ?_⟩, frozen_of_row _ _ _ _ _ h1⟩
  rw [cell_of_row _ _ _ _ _ _ h1]
  exact Array.getElem?_eq_getElem (by omega)
theorem Part.store {w : World} {g n c : Nat} {T : List (Tok × Int)} {u : Value} (h : Part w g n T c) (hc : c < n * 4) (hu : (tokCellsI T)[c]? = some u) : Part (w.setCell ⟨g, c, none⟩ u) g n T (c + 1) := by
  obtain ⟨cur, h1, h2, h3⟩ := h
  refine ⟨cur.setIfInBounds c u, heap_setCell_same w g c _ _ _ h1, by simpa using h2, fun i hi => ?_⟩
  by_cases e : c = i
  · subst e; rw [Array.getElem?_setIfInBounds_self_of_lt (by omega), hu]
  · rw [Array.getElem?_setIfInBounds_ne e]; exact h3 i (by omega)
theorem Part.toks {w : World} {g n : Nat} {T : List (Tok × Int)} (h : Part w g n T (T.length * 4)) : Toks w g T := fun j u hu => by
  obtain ⟨cur, h1, h2, h3⟩ := h
  rw [cell_of_row _ _ _ _ _ _ h1, h3 j (by have := (List.getElem?_eq_some_iff.1 hu).1; rwa [tokCellsI_len] at this)]
  exact hu

set_option maxHeartbeats 3200000 in
theorem toToks_any (a : Option Addr) (len cap : Nat) (T : List (Tok × Int)) (w : World) (h : Came w a len cap T) (hl : len ≤ 1048576) :
    Calls Tryd.prog 24 #[.slice a len cap] w fun e w' => e = .returned (.slice (some ⟨w.heap.size, 0, none⟩) len len) ∧ Toks w' w.heap.size T ∧ Below w.heap.size w w' := by
  obtain ⟨i0, hi, hz0, hz1, hz2⟩ := info_parts infoTokA
  obtain ⟨hlen, hmax, hle, hhd, hsz⟩ := h
  have hmax2 : len ≤ maxLen := by unfold maxLen; omega
  have HHD : Hid (len ≠ 0 → ∃ b o, a = some ⟨b, o, none⟩ ∧ b < w.heap.size ∧ TokIn w b o T) := hhd
  have HLEN : Hid (T.length = len) := hlen
  clear hmax hle hhd hsz hlen
  go_enter Tryd.func24, Tryd.ntmps24
  go_wp2_with (at_make; refine wpList_make_full _ rfl (.tmp 6) (.tmp 6) 25 rfl w.heap.size 33 i0 (.agg #[.int .i64 0, .string ⟨#[]⟩, .int .i64 0, .int .i64 0]) 4 Tryd.underlying25 hi hz0 hz1 .i64 .i64 len len len rfl rfl rfl rfl ?_ hmax2 (Nat.le_refl _) ?_)
  · rw [hz2]; omega
  · intro w1 hown hgrow
    have hB : Below w.heap.size w w1 := (Below.refl _ _).grown hgrow (Nat.le_refl _) (fun k hk => by cases hk)
    have hP : Part w1 w.heap.size len T 0 := by
      rcases hown.2 with ⟨h, _⟩ | ⟨g, c, cur, h, _, hh, _, _, hs, _⟩
      · simp at h
      · simp at h
        obtain ⟨rfl, rfl⟩ := h
        exact ⟨cur, hh, hs, fun i hi => absurd hi (by omega)⟩
    clear hgrow hown
    go_wp2
    go_loopw [4] (fun i wr => ∃ k : Nat, k ≤ len ∧ i = .int .i64 k ∧ Part wr w.heap.size len T (k * 4) ∧ Below w.heap.size w wr) (fun i _ => len - (intOf i).toNat)
    case atStart => exact ⟨0, Nat.zero_le _, rfl, by simpa using hP, hB⟩
    case round =>
      clear hP hB
      obtain ⟨k, hk, rfl, hP, hB⟩ := hrel
      have hgl : w.heap.size < wr.heap.size := by obtain ⟨cur, h1, _⟩ := hP; exact (Array.getElem?_eq_some_iff.1 h1).1
      by_cases hlt : k < len
      · obtain ⟨x, hx⟩ : ∃ x, T[k]? = some x := ⟨T[k]'(by rw [HLEN.out]; exact hlt), List.getElem?_eq_getElem _⟩
        obtain ⟨b, o, ha, hbw, hin⟩ := HHD.out (by omega)
        subst ha
        obtain ⟨c0, c1, c2, c3⟩ := hin.below hB hbw k x hx
        obtain ⟨u0, u1, u2, u3⟩ := tokCellsI_at T k x hx
        have HU0 : Hid ((tokCellsI T)[k * 4]? = some (.int .i64 x.1.kind)) := u0
        have HU1 : Hid ((tokCellsI T)[k * 4 + 1]? = some (.string (bs x.1.text))) := u1
        have HU2 : Hid ((tokCellsI T)[k * 4 + 2]? = some (.int .i64 x.1.num)) := u2
        have HU3 : Hid ((tokCellsI T)[k * 4 + 3]? = some (.int .i64 x.2)) := u3
        have hto : Hid (∀ w, Calls Tryd.prog 20 #[tokV x.1 x.2] w fun e w' => e = .returned (tokV x.1 x.2) ∧ Below w.heap.size w w') := fun w => toTok_any x.1 x.2 w
        have HP : Hid (Part wr w.heap.size len T (k * 4)) := hP
        clear hin hx u0 u1 u2 u3 hP
        go_wp2_with fail
        refine (hto.out _).mono ?_
        rintro e w2 ⟨rfl, hb⟩
        have hP2 := HP.out.below hb
        have hB2 := hB.trans (hb.mono hB.size)
        have hgl2 : w.heap.size < w2.heap.size := Nat.lt_of_lt_of_le hgl hb.size
        obtain ⟨⟨y0, d0⟩, f0⟩ := hP2.cell (i := k * 4) (by omega)
        obtain ⟨⟨y1, d1⟩, f1⟩ := hP2.cell (i := k * 4 + 1) (by omega)
        obtain ⟨⟨y2, d2⟩, f2⟩ := hP2.cell (i := k * 4 + 2) (by omega)
        obtain ⟨⟨y3, d3⟩, f3⟩ := hP2.cell (i := k * 4 + 3) (by omega)
        have e0 := hP2.store (by omega) HU0.out
        have e1 := e0.store (by omega) HU1.out
        have e2 := e1.store (by omega) HU2.out
        have e3 := e2.store (by omega) HU3.out
        have E3 : Hid (Part ((((w2.setCell ⟨w.heap.size, k * 4, none⟩ (.int .i64 x.1.kind)).setCell ⟨w.heap.size, k * 4 + 1, none⟩ (.string (bs x.1.text))).setCell ⟨w.heap.size, k * 4 + 2, none⟩ (.int .i64 x.1.num)).setCell ⟨w.heap.size, k * 4 + 3, none⟩ (.int .i64 x.2)) w.heap.size len T (k * 4 + 1 + 1 + 1 + 1)) := e3
        have B3 : Hid (Below w.heap.size w ((((w2.setCell ⟨w.heap.size, k * 4, none⟩ (.int .i64 x.1.kind)).setCell ⟨w.heap.size, k * 4 + 1, none⟩ (.string (bs x.1.text))).setCell ⟨w.heap.size, k * 4 + 2, none⟩ (.int .i64 x.1.num)).setCell ⟨w.heap.size, k * 4 + 3, none⟩ (.int .i64 x.2))) :=
          (((hB2.setCell (Nat.le_refl _) _).setCell (Nat.le_refl _) _).setCell (Nat.le_refl _) _).setCell (Nat.le_refl _) _
        clear hP2 e0 e1 e2 e3 hb hB hB2 HP c0 c1 c2 c3 hto
        go_wp2_with fail
        go_roundw
        case rel => exact ⟨k + 1, by omega, by go_num, by have h := E3.out; rwa [show k * 4 + 1 + 1 + 1 + 1 = (k + 1) * 4 from by omega] at h, B3.out⟩
        case measure => simp [intOf]; omega
      · have hke : k = len := by omega
        subst hke
        have HP : Hid (Toks wr w.heap.size T) := Part.toks (n := k) (by rw [HLEN.out]; exact hP)
        clear hP
        go_wp2
        go_ret
        exact ⟨rfl, HP.out, hB⟩
end Go.Proofs.YtbgfabkneifccaaDoor
