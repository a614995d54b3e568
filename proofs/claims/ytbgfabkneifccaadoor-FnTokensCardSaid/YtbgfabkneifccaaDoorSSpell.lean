/-
  spec.TokenText, SpellAll: the text of a token, of tokens.
-/
import Derived.Test.YtbgfabkneifccaaDoorSRight
namespace Go.Proofs.YtbgfabkneifccaaDoor
open Go.RowKit
set_option linter.unusedVariables false
attribute [local go_sem] bs_size bs_get bs_extract bs_append bs_eq bs_toList

/-- a TextResult -/
abbrev txt (c : Int) (s : List UInt8) : Value := .agg #[.int .i64 c, .string (bs s)]
theorem right_len {t : Tok} (h : rightL t = true) : t.text.length ≤ 1200 := by
  unfold rightL rightR at h
  simp only [Bool.and_eq_true, beq_iff_eq] at h
  obtain ⟨h1, _⟩ := h
  rcases hR : lexL t.text with ⟨c, q, T⟩
  rw [hR] at h1
  have hc : c = 0 := h1
  subst hc
  exact (lexL_ok hR).1

set_option maxHeartbeats 1600000 in
theorem tokenText_any (t : Tok) (q : Int) (w : World) (hl : t.text.length ≤ 2000000) : Calls Tryd.prog 19 #[tokV t q] w fun e w' => e = .returned (txt (if rightL t then 0 else 1) (if rightL t then t.text else [])) ∧ Below w.heap.size w w' := by
  have hr := fun w => right_any t q w hl
  cases hb : rightL t
  all_goals
    rw [hb] at hr
    first | rw [if_pos rfl, if_pos rfl] | rw [if_neg (by simp), if_neg (by simp)]
    have HR : Hid (∀ w, Calls Tryd.prog 39 #[tokV t q] w fun e w' => e = .returned (.bool _) ∧ Below w.heap.size w w') := hr
    clear hr hb
    go_enter Tryd.func19, Tryd.ntmps19
    go_wp2_with fail
    refine (HR.out _).mono ?_
    rintro e w1 ⟨rfl, hb⟩
    have e1 := hb.block w.heap.size (by simp; omega)
    have e2 := hb.block (w.heap.size + 1) (by simp)
    rw [Below.heap_alloc _ _ _ (by simp), heap_alloc_new w _] at e1
    rw [show w.heap.size + 1 = (w.alloc (.cells #[.int .i64 t.kind, .string (bs t.text), .int .i64 t.num, .int .i64 q] 33)).heap.size from by simp, heap_alloc_new _ _] at e2
    have b1 := cell_of_row _ _ 1 _ _ _ e1
    have r0 := cell_of_row _ _ 0 _ _ _ e2
    have r1 := cell_of_row _ _ 1 _ _ _ e2
    have f0 := frozen_of_row _ _ 0 _ _ e2
    have f1 := frozen_of_row _ _ 1 _ _ e2
    simp at b1 r0 r1 f0 f1
    have hB : Below w.heap.size w w1 := (((Below.refl w.heap.size w).alloc (Nat.le_refl _) _).alloc (by simp) _).trans (hb.mono (by simp; omega))
    have hBs := hB.size
    clear hb e1 e2
    go_wp2_with fail
    first
    | (refine bodyPost_ret (v := txt 1 []) (by simp [results, Tryd.results19, go_sem, r0, r1]; rfl) rfl ⟨rfl, ?_⟩; go_grown)
    | (refine bodyPost_ret (v := txt 0 t.text) (by simp [results, Tryd.results19, go_sem, r0, r1]) rfl ⟨rfl, ?_⟩; go_grown)
theorem spell_snoc (ts : List Tok) (t : Tok) (h : ts ≠ []) : spell (ts ++ [t]) = spell ts ++ 32 :: t.text := by
  induction ts with
  | nil => exact absurd rfl h
  | cons u ts ih =>
    cases ts with
    | nil => rfl
    | cons v ts =>
      have := ih (by simp)
      simp only [List.cons_append] at this ⊢
      simp only [spell]
      rw [this]; simp
/-- tokens whose cells lie in a row -/
def tokCellsI (T : List (Tok × Int)) : List Value := T.flatMap fun x => [.int .i64 x.1.kind, .string (bs x.1.text), .int .i64 x.1.num, .int .i64 x.2]
def Toks (w : World) (g : Nat) (T : List (Tok × Int)) : Prop := ∀ (j : Nat) (u : Value), (tokCellsI T)[j]? = some u → w.cell? ⟨g, j, none⟩ = some u
theorem toks_at {w : World} {g : Nat} {T : List (Tok × Int)} (h : Toks w g T) {k : Nat} {x : Tok × Int} (hk : T[k]? = some x) :
    w.cell? ⟨g, k * 4, none⟩ = some (.int .i64 x.1.kind) ∧ w.cell? ⟨g, k * 4 + 1, none⟩ = some (.string (bs x.1.text)) ∧ w.cell? ⟨g, k * 4 + 2, none⟩ = some (.int .i64 x.1.num) ∧ w.cell? ⟨g, k * 4 + 3, none⟩ = some (.int .i64 x.2) := by
  have key : ∀ (T : List (Tok × Int)) (k : Nat), T[k]? = some x → ∀ j (u : Value), j < 4 → [Value.int .i64 x.1.kind, .string (bs x.1.text), .int .i64 x.1.num, .int .i64 x.2][j]? = some u → (tokCellsI T)[k * 4 + j]? = some u := by
    intro T
    induction T with
    | nil => intro k h; simp at h
    | cons y T ih =>
      intro k hk j u hj hu
      cases k with
      | zero =>
        have hy : y = x := by simpa using hk
        subst hy
        unfold tokCellsI
        rw [List.flatMap_cons, List.getElem?_append_left (by simp; omega)]
        simpa using hu
      | succ k =>
        have := ih k (by simpa using hk) j u hj hu
        unfold tokCellsI at *
        rw [List.flatMap_cons, List.getElem?_append_right (by simp; omega)]
        rw [← this]
        congr 1
        simp; omega
  exact ⟨h _ _ (key T k hk 0 _ (by omega) rfl), h _ _ (key T k hk 1 _ (by omega) rfl), h _ _ (key T k hk 2 _ (by omega) rfl), h _ _ (key T k hk 3 _ (by omega) rfl)⟩
theorem toks_below {w w' : World} {g : Nat} {T : List (Tok × Int)} (h : Toks w g T) {B : Nat} (hb : Below B w w') (hg : g < B) : Toks w' g T := fun j u hu => (hb.cell (p := ⟨g, j, none⟩) hg).trans (h j u hu)

theorem spell_take (ts : List Tok) (k : Nat) (t : Tok) (h : ts[k]? = some t) : spell (ts.take (k + 1)) = if k = 0 then t.text else spell (ts.take k) ++ 32 :: t.text := by
  have hk : k < ts.length := (List.getElem?_eq_some_iff.1 h).1
  have e : ts.take (k + 1) = ts.take k ++ [t] := by rw [List.take_succ_eq_append_getElem hk, (List.getElem?_eq_some_iff.1 h).2]
  rw [e]
  by_cases h0 : k = 0
  · subst h0; rfl
  · rw [if_neg h0, spell_snoc _ _ (by intro e2; have h3 := congrArg List.length e2; rw [List.length_take] at h3; have h00 : ([] : List Tok).length = 0 := rfl; omega)]
theorem spell_len (ts : List Tok) (k : Nat) (h : ∀ j (t : Tok), j < k → ts[j]? = some t → t.text.length ≤ 1200) : (spell (ts.take k)).length ≤ k * 1201 := by
  induction k with
  | zero => simp [spell]
  | succ k ih =>
    have h1 := ih (fun j t hj => h j t (by omega))
    cases hx : ts[k]? with
    | none =>
      have hle := List.getElem?_eq_none_iff.1 hx
      have e1 : ts.take (k + 1) = ts := List.take_of_length_le (by omega)
      have e2 : ts.take k = ts := List.take_of_length_le hle
      exact Nat.le_trans (Nat.le_of_eq (by rw [e1, e2])) (Nat.le_trans h1 (Nat.mul_le_mul_right _ (Nat.le_succ k)))
    | some t =>
      have h2 := h k t (by omega) hx
      rw [spell_take ts k t hx]
      split
      · omega
      · simp; omega
/-- what SpellAll answers -/
def spellC (ts : List Tok) : Int := if 400 < ts.length then 2 else if ts.all rightL then 0 else 1
def spellS (ts : List Tok) : List UInt8 := if 400 < ts.length then [] else if ts.all rightL then spell ts else []

set_option maxHeartbeats 3200000 in
theorem spellAll_any (T : List (Tok × Int)) (g cap : Nat) (a : Option Addr) (w : World) (hl : ∀ x ∈ T, x.1.text.length ≤ 2000000) (hn : T.length ≤ 1048577) (ha : T ≠ [] → a = some ⟨g, 0, none⟩) (hT : T ≠ [] → Toks w g T) :
    Calls Tryd.prog 23 #[.slice a T.length cap] w fun e w' => e = .returned (txt (spellC (T.map Prod.fst)) (spellS (T.map Prod.fst))) ∧ Below w.heap.size w w' := by
  have hml : (T.map Prod.fst).length = T.length := by simp
  by_cases h4 : 400 < T.length
  · have hc : spellC (T.map Prod.fst) = 2 := by unfold spellC; rw [hml, if_pos h4]
    have hs : spellS (T.map Prod.fst) = [] := by unfold spellS; rw [hml, if_pos h4]
    rw [hc, hs]
    have hb : decide ((400 : Int) < (T.length : Int)) = true := decide_eq_true (by omega)
    clear hc hs hml hT hl ha h4
    go_enter Tryd.func23, Tryd.ntmps23
    go_wp2
    refine bodyPost_ret (v := txt 2 []) (by simp [results, Tryd.results23, go_sem]; rfl) rfl ⟨rfl, ?_⟩
    go_grown
  · have hc : spellC (T.map Prod.fst) = if (T.map Prod.fst).all rightL then 0 else 1 := by unfold spellC; rw [hml, if_neg h4]
    have hs : spellS (T.map Prod.fst) = if (T.map Prod.fst).all rightL then spell (T.map Prod.fst) else [] := by unfold spellS; rw [hml, if_neg h4]
    have HC : Hid (spellC (T.map Prod.fst) = if (T.map Prod.fst).all rightL then 0 else 1) := hc
    have HS : Hid (spellS (T.map Prod.fst) = if (T.map Prod.fst).all rightL then spell (T.map Prod.fst) else []) := hs
    have hb : decide ((400 : Int) < (T.length : Int)) = false := decide_eq_false (by omega)
    have hn4 : T.length ≤ 400 := by omega
    generalize spellC (T.map Prod.fst) = C at *
    generalize spellS (T.map Prod.fst) = Z at *
    have HL : Hid (∀ x ∈ T, x.1.text.length ≤ 2000000) := hl
    have HA : Hid (T ≠ [] → a = some ⟨g, 0, none⟩) := ha
    have HT : Hid (T ≠ [] → Toks w g T) := hT
    have hst : Below w.heap.size w (w.alloc (.cells #[.int .i64 0, .string ⟨#[]⟩] 30)) := (Below.refl _ _).alloc (Nat.le_refl _) _
    have HST : Hid (Below w.heap.size w (w.alloc (.cells #[.int .i64 0, .string ⟨#[]⟩] 30))) := hst
    have hres : (w.alloc (.cells #[.int .i64 0, .string ⟨#[]⟩] 30)).heap[w.heap.size]? = some (.cells #[.int .i64 0, .string ⟨#[]⟩] 30 (0, 0)) := heap_alloc_new _ _
    have HRES : Hid ((w.alloc (.cells #[.int .i64 0, .string ⟨#[]⟩] 30)).heap[w.heap.size]? = some (.cells #[.int .i64 0, .string ⟨#[]⟩] 30 (0, 0))) := hres
    clear hc hs hml hT hl ha h4 hst hres
    go_enter Tryd.func23, Tryd.ntmps23
    go_wp2
    go_loopw [3, 4] (fun o i wr => ∃ k : Nat, k ≤ T.length ∧ i = .int .i64 k ∧ o = .string (bs (spell ((T.map Prod.fst).take k))) ∧ (∀ j (x : Tok × Int), j < k → T[j]? = some x → rightL x.1 = true) ∧ Below w.heap.size w wr ∧ wr.heap[w.heap.size]? = some (.cells #[.int .i64 0, .string ⟨#[]⟩] 30 (0, 0))) (fun _ i _ => T.length - (intOf i).toNat)
    case atStart => exact ⟨0, by omega, rfl, rfl, by omega, HST.out, HRES.out⟩
    case round =>
      clear HST HRES
      obtain ⟨k, hk, rfl, rfl, hri, hB, hres⟩ := hrel
      have HRI : Hid (∀ j (x : Tok × Int), j < k → T[j]? = some x → rightL x.1 = true) := hri
      have HRES : Hid (wr.heap[w.heap.size]? = some (.cells #[.int .i64 0, .string ⟨#[]⟩] 30 (0, 0))) := hres
      have hlen : (spell ((T.map Prod.fst).take k)).length ≤ k * 1201 := spell_len _ _ (fun j t hj ht => by
        rw [List.getElem?_map] at ht
        cases hx : T[j]? with
        | none => rw [hx] at ht; simp at ht
        | some x => rw [hx] at ht; simp at ht; subst ht; exact right_len (hri j x hj hx))
      have hlt0 : w.heap.size < wr.heap.size := (Array.getElem?_eq_some_iff.1 hres).1
      clear hri hres
      by_cases hlt : k < T.length
      · obtain ⟨x, hx⟩ : ∃ x, T[k]? = some x := ⟨T[k], List.getElem?_eq_getElem hlt⟩
        have hne : T ≠ [] := by intro e; rw [e] at hlt; simp at hlt
        have ha := HA.out hne
        subst ha
        have hTk := HT.out hne
        have hgw : g < w.heap.size := by
          obtain ⟨c0, _⟩ := toks_at hTk hx
          exact World.block_lt_of_cell? _ _ c0
        obtain ⟨c0, c1, c2, c3⟩ := toks_at (toks_below hTk hB hgw) hx
        have hxl : x.1.text.length ≤ 2000000 := HL.out x (List.mem_of_getElem? hx)
        have HX : Hid (T[k]? = some x) := hx
        have hr := fun w => right_any x.1 x.2 w hxl
        have hsp := spell_take (T.map Prod.fst) k x.1 (by rw [List.getElem?_map, hx]; rfl)
        have HSP : Hid (spell ((T.map Prod.fst).take (k + 1)) = if k = 0 then x.1.text else spell ((T.map Prod.fst).take k) ++ 32 :: x.1.text) := hsp
        clear hx hTk hne hsp
        have HUN : Hid (k = 0 → spell ((T.map Prod.fst).take k) = []) := fun h => by rw [h]; rfl
        generalize spell ((T.map Prod.fst).take k) = U at *
        cases hb : rightL x.1
        · rw [hb] at hr
          have HR : Hid (∀ w, Calls Tryd.prog 39 #[tokV x.1 x.2] w fun e w' => e = .returned (.bool false) ∧ Below w.heap.size w w') := hr
          have HB : Hid (rightL x.1 = false) := hb
          clear hr hb
          go_wp2_with fail
          refine (HR.out _).mono ?_
          rintro e w2 ⟨rfl, hb⟩
          have hres2 := (hb.block _ hlt0).trans HRES.out
          have r0 := cell_of_row _ _ 0 _ _ _ hres2
          have r1 := cell_of_row _ _ 1 _ _ _ hres2
          have f0 := frozen_of_row _ _ 0 _ _ hres2
          have f1 := frozen_of_row _ _ 1 _ _ hres2
          simp at r0 r1
          have hB2 : Below w.heap.size w w2 := hB.trans (hb.mono hB.size)
          have hBs := hB2.size
          clear hb hres2 c0 c1 c2 c3
          go_wp2_with fail
          have hall : (T.map Prod.fst).all rightL = false := List.all_eq_false.2 ⟨x.1, List.mem_map_of_mem (List.mem_of_getElem? HX.out), by rw [HB.out]; simp⟩
          refine bodyPost_ret (v := txt 1 []) (by simp [results, Tryd.results23, go_sem, r0, r1]; rfl) rfl ⟨?_, ?_⟩
          · rw [HC.out, HS.out, hall]; rfl
          · go_grown
        · rw [hb] at hr
          have HR : Hid (∀ w, Calls Tryd.prog 39 #[tokV x.1 x.2] w fun e w' => e = .returned (.bool true) ∧ Below w.heap.size w w') := hr
          have HB : Hid (rightL x.1 = true) := hb
          have hxl2 := right_len hb
          clear hr hb
          have hkk : ((¬ (0 : Int) < (k : Int)) ∧ spell ((T.map Prod.fst).take (k + 1)) = U ++ x.1.text) ∨ ((0 : Int) < (k : Int) ∧ spell ((T.map Prod.fst).take (k + 1)) = U ++ 32 :: x.1.text) := by
            rw [HSP.out]
            by_cases h : k = 0
            · exact .inl ⟨by omega, by rw [if_pos h, HUN.out h]; rfl⟩
            · exact .inr ⟨by omega, if_neg h⟩
          have hU : U.length + 1 + 1200 ≤ 1000000 := by omega
          rcases hkk with ⟨hkb, hsp⟩ | ⟨hkb, hsp⟩
          all_goals
            have HSQ : Hid (spell ((T.map Prod.fst).take (k + 1)) = _) := hsp
            clear hsp
            go_wp2_with fail
            refine (HR.out _).mono ?_
            rintro e w2 ⟨rfl, hb⟩
            have hres2 : Hid (w2.heap[w.heap.size]? = some (.cells #[.int .i64 0, .string ⟨#[]⟩] 30 (0, 0))) := (hb.block _ hlt0).trans HRES.out
            have hB2 : Below w.heap.size w w2 := hB.trans (hb.mono hB.size)
            have d1 := (hb.cell (p := ⟨g, k * 4 + 1, none⟩) (Nat.lt_of_lt_of_le hgw hB.size)).trans c1
            have HB2 : Hid (Below w.heap.size w w2) := hB2
            clear hb c0 c1 c2 c3 hB2 hB
            go_wp2_with fail
            refine ⟨⟨k + 1, by omega, by go_num, ?_, fun j y hj hy => ?_, HB2.out, hres2.out⟩, by simp [intOf]; omega⟩
          all_goals first
            | (rw [HSQ.out]; done)
            | (rw [HSQ.out]; (rw [show (ByteArray.mk #[32]) = bs [32] from rfl, bs_append, bs_append]; simp))
            | (rcases Nat.lt_succ_iff_lt_or_eq.1 hj with h | rfl
               · exact HRI.out j y h hy
               · have := hy.symm.trans HX.out
                 cases this
                 exact HB.out)
      · have hke : k = T.length := by omega
        subst hke
        have hall : (T.map Prod.fst).all rightL = true := by
          refine List.all_eq_true.2 fun t ht => ?_
          obtain ⟨x, hx, rfl⟩ := List.mem_map.1 ht
          obtain ⟨j, hj, hx⟩ := List.getElem_of_mem hx
          exact HRI.out j x hj (by rw [List.getElem?_eq_getElem hj, hx])
        have hZ : Hid (Z = spell (T.map Prod.fst)) := by show Z = _; rw [HS.out, hall]; rfl
        have hC : Hid (C = 0) := by show C = 0; rw [HC.out, hall]; rfl
        have htk : (T.map Prod.fst).take T.length = T.map Prod.fst := List.take_of_length_le (by simp)
        have HTK : Hid ((T.map Prod.fst).take T.length = T.map Prod.fst) := htk
        have r0 := cell_of_row _ _ 0 _ _ _ HRES.out
        have r1 := cell_of_row _ _ 1 _ _ _ HRES.out
        have f0 := frozen_of_row _ _ 0 _ _ HRES.out
        have f1 := frozen_of_row _ _ 1 _ _ HRES.out
        simp at r0 r1
        have hBs := hB.size
        clear htk hall
        generalize hU : spell ((T.map Prod.fst).take T.length) = U at *
        have HU : Hid (spell ((T.map Prod.fst).take T.length) = U) := hU
        clear hU
        go_wp2_with fail
        refine bodyPost_ret (v := txt 0 U) (by simp [results, Tryd.results23, go_sem, r0, r1]) rfl ⟨?_, ?_⟩
        · rw [hC.out, hZ.out, ← HU.out, HTK.out]
        · go_grown
end Go.Proofs.YtbgfabkneifccaaDoor
