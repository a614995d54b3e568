/-
  impl.SpellAll: the texts of tokens, a blank between two; where the variables strconv.ErrSyntax, ErrRange hold a value.
-/
import Derived.Test.YtbgfabkneifccaaDoorITText
import Derived.Lib.Join
namespace Go.Proofs.YtbgfabkneifccaaDoor
open Go.RowKit
set_option linter.unusedVariables false
attribute [local go_sem] bs_size bs_get bs_extract bs_append bs_eq bs_toList

theorem join_spell (ts : List Tok) : Lib.join (ts.map fun t => t.text) [32] = spell ts := by
  induction ts with
  | nil => rfl
  | cons t r ih =>
    cases r with
    | nil => exact Lib.join_one _ _
    | cons u r =>
      rw [List.map_cons] at ih
      rw [List.map_cons, List.map_cons, Lib.join_cons]
      rw [Lib.join_cons] at ih
      show t.text ++ _ = t.text ++ 32 :: spell (u :: r)
      rw [← ih]
      simp [Lib.joinTail]
theorem infoStr : (Tryd.prog.info? 9).map (fun i => (i.zero, i.size, i.bytes)) = some (some (.string ⟨#[]⟩), 1, 16) := by kernel_rfl
/-- the texts of tokens, as they lie -/
def textCells (ts : List Tok) : List Value := ts.map fun t => .string (bs t.text)
theorem textCells_len (ts : List Tok) : (textCells ts).length = ts.length := by simp [textCells]
theorem spell_le (ts : List Tok) (h : ∀ t ∈ ts, t.text.length ≤ 1200) : (spell ts).length ≤ ts.length * 1201 := by
  have := spell_len ts ts.length (fun j t hj ht => h t (List.mem_of_getElem? ht))
  rwa [List.take_length] at this

/-- between two rounds: the answer's block, the row of texts -/
structure ISp (w wr : World) (vt : Value) (ts : List Tok) : Prop where
  res : wr.heap[w.heap.size]? = some (.cells #[.int .i64 0, .string ⟨#[]⟩] 30 (0, 0))
  own : wr.ownsRow (w.heap.size + 1) 9 1 vt ts.length (textCells ts)
  bel : Below w.heap.size w wr
  size : w.heap.size + 1 ≤ wr.heap.size
theorem ISp.below {w wr w' : World} {vt : Value} {ts : List Tok} (h : ISp w wr vt ts) (hb : Below wr.heap.size wr w') : ISp w w' vt ts :=
  ⟨(hb.block _ (by have := h.size; omega)).trans h.res, ownE_same h.own (fun g _ hg => hb.block g hg), h.bel.trans (hb.mono h.bel.size), Nat.le_trans h.size hb.size⟩

/-- strings.Join over a row of one's own -/
theorem join_own (w : World) (B : Nat) (ad : Option Addr) (cp : Nat) (ts : List Tok) (hts : ∀ t ∈ ts, t.text.length ≤ 1200) (hn : ts.length ≤ 400) (hown : w.ownsRow B 9 1 (.slice ad ts.length cp) ts.length (textCells ts)) :
    Calls Tryd.prog 36 #[.slice ad ts.length cp, .string ⟨#[32]⟩] w fun e w' => e = .returned (.string (bs (spell ts))) ∧ Below w.heap.size w w' := by
  by_cases h0 : ts = []
  · subst h0
    refine (Tryd.strings_Join_none ad cp ⟨#[32]⟩ w).mono ?_
    rintro e w' ⟨rfl, rfl⟩
    exact ⟨rfl, Below.refl _ _⟩
  · obtain ⟨g, rfl, hg, hgl, hcells⟩ := own_cells hown (by intro e; have := congrArg List.length e; rw [textCells_len] at this; exact h0 (List.length_eq_zero_iff.1 this))
    have hcap : ts.length ≤ cp := by
      rcases hown.2 with ⟨hv, h⟩ | ⟨g', c, cur, hv, _, _, hle, _⟩
      · exact absurd (List.length_eq_zero_iff.1 h) h0
      · cases hv; exact hle
    have hj : Lib.join ((ts.map fun t => bs t.text).map (·.data.toList)) [32] = spell ts := by
      rw [← join_spell, List.map_map]; rfl
    have := Tryd.strings_Join g 0 cp (ts.map fun t => bs t.text) ⟨#[32]⟩ w (fun j x hx => by
      rw [Nat.zero_add]
      refine hcells j (.string x) ?_
      unfold textCells
      rw [List.getElem?_map] at hx ⊢
      cases ht : ts[j]? with
      | none => rw [ht] at hx; simp at hx
      | some t => rw [ht] at hx; simp at hx; subst hx; rfl) hgl (by simp; omega) (by simpa using hcap) (by
        show (Lib.join ((ts.map fun t => bs t.text).map (·.data.toList)) [32]).length ≤ _
        rw [hj]; have := spell_le ts hts; omega)
    rw [List.length_map] at this
    refine this.mono ?_
    rintro e w' ⟨rfl, hb⟩
    exact ⟨by show Ending.returned (.string (bs (Lib.join ((ts.map fun t => bs t.text).map (·.data.toList)) [32]))) = _; rw [hj], hb⟩

set_option maxHeartbeats 12800000 in
set_option maxRecDepth 100000 in
theorem implSpell_any (T : List (Tok × Int)) (g cap : Nat) (a : Option Addr) (w : World) (hl : ∀ x ∈ T, x.1.text.length ≤ 2000000) (hn : T.length ≤ 1048577) (ha : T ≠ [] → a = some ⟨g, 0, none⟩) (hT : T ≠ [] → Toks w g T) (hE : Errs w) :
    Calls Tryd.prog 11 #[.slice a T.length cap] w fun e w' => e = .returned (txt (spellC (T.map Prod.fst)) (spellS (T.map Prod.fst))) ∧ Below w.heap.size w w' := by
  have hml : (T.map Prod.fst).length = T.length := by simp
  by_cases h4 : 400 < T.length
  · have hc : spellC (T.map Prod.fst) = 2 := by unfold spellC; rw [hml, if_pos h4]
    have hs : spellS (T.map Prod.fst) = [] := by unfold spellS; rw [hml, if_pos h4]
    rw [hc, hs]
    have hb : decide ((400 : Int) < (T.length : Int)) = true := decide_eq_true (by omega)
    clear hc hs hml hT hl ha h4 hE
    go_enter Tryd.func11, Tryd.ntmps11
    go_wp2
    refine bodyPost_ret (v := txt 2 []) (by simp [results, Tryd.results11, go_sem]; rfl) rfl ⟨rfl, ?_⟩
    go_grown
  · obtain ⟨i0, hi, hz0, hz1, hz2⟩ := info_parts infoStr
    have hc : spellC (T.map Prod.fst) = if (T.map Prod.fst).all rightL then 0 else 1 := by unfold spellC; rw [hml, if_neg h4]
    have hs : spellS (T.map Prod.fst) = if (T.map Prod.fst).all rightL then spell (T.map Prod.fst) else [] := by unfold spellS; rw [hml, if_neg h4]
    have HC : Hid (spellC (T.map Prod.fst) = if (T.map Prod.fst).all rightL then 0 else 1) := hc
    have HS : Hid (spellS (T.map Prod.fst) = if (T.map Prod.fst).all rightL then spell (T.map Prod.fst) else []) := hs
    have hb : decide ((400 : Int) < (T.length : Int)) = false := decide_eq_false (by omega)
    have hn4 : T.length ≤ 400 := by omega
    generalize spellC (T.map Prod.fst) = C at *
    generalize spellS (T.map Prod.fst) = Z at *
    have HL : Hid (∀ x ∈ T, x.1.text.length ≤ 2000000) := hl
    have HA : Hid (T ≠ [] → a = some ⟨g, 0, none⟩) := ha
    have HT : Hid (T ≠ [] → Toks w g T) := hT
    have HE : Hid (Errs w) := hE
    have hbn : Below w.heap.size w (w.alloc (.cells #[.int .i64 0, .string ⟨#[]⟩] 30)) := (Below.refl _ _).alloc (Nat.le_refl _) _
    have HST : Hid (ISp w (w.alloc (.cells #[.int .i64 0, .string ⟨#[]⟩] 30)) (.slice none 0 0) []) := ⟨heap_alloc_new _ _, ownE_nil _ _ _ _, hbn, by simp⟩
    clear hc hs hml hT hl ha h4 hbn hE
    go_enter Tryd.func11, Tryd.ntmps11
    go_wp2
    go_loopw [3, 13] (fun vt i wr => ∃ k : Nat, k ≤ T.length ∧ i = .int .i64 k ∧ (∀ j (x : Tok × Int), j < k → T[j]? = some x → rightL x.1 = true) ∧ ISp w wr vt ((T.map Prod.fst).take k)) (fun _ i _ => T.length - (intOf i).toNat)
    case atStart => exact ⟨0, by omega, rfl, by omega, HST.out⟩
    case round =>
      clear HST
      obtain ⟨k, hk, rfl, hri, hst⟩ := hrel
      have HRI : Hid (∀ j (x : Tok × Int), j < k → T[j]? = some x → rightL x.1 = true) := hri
      have HST : Hid (ISp w wr _ ((T.map Prod.fst).take k)) := hst
      have hlk : ((T.map Prod.fst).take k).length = k := by simp; omega
      obtain ⟨ad, cp, rfl⟩ := ownE_shape hst.own
      rw [hlk] at HST hst
      have HLK : Hid (((T.map Prod.fst).take k).length = k) := hlk
      have hB := hst.bel
      have hsz := hst.size
      clear hri hlk
      by_cases hlt : k < T.length
      · obtain ⟨x, hx⟩ : ∃ x, T[k]? = some x := ⟨T[k], List.getElem?_eq_getElem hlt⟩
        have hne : T ≠ [] := by intro e; rw [e] at hlt; simp at hlt
        have ha := HA.out hne
        subst ha
        have hTk := HT.out hne
        have hgw : g < w.heap.size := by
          obtain ⟨c0, _⟩ := toks_at hTk hx
          exact World.block_lt_of_cell? _ _ c0
        obtain ⟨c0, c1, c2, c3⟩ := toks_at (toks_below hTk hB hgw) hx
        have hxl : x.1.text.length ≤ 2000000 := HL.out x (List.mem_of_getElem? hx)
        have HX : Hid (T[k]? = some x) := hx
        have HNXT : Hid ((T.map Prod.fst).take (k + 1) = (T.map Prod.fst).take k ++ [x.1]) := by
          show _ = _
          have hk' : k < (T.map Prod.fst).length := by simpa using hlt
          rw [List.take_succ_eq_append_getElem hk']
          have h2 := (List.getElem?_eq_some_iff.1 hx).2
          simp [h2]
        have hbt : Below wr.heap.size wr (wr.alloc (.cells #[.int .i64 x.1.kind, .string (bs x.1.text), .int .i64 x.1.num, .int .i64 x.2] 33)) := (Below.refl _ _).alloc (Nat.le_refl _) _
        have hr := implText_any x.1 x.2 (wr.alloc (.cells #[.int .i64 x.1.kind, .string (bs x.1.text), .int .i64 x.1.num, .int .i64 x.2] 33)) hxl (HE.out.below (hB.trans (hbt.mono hB.size)))
        have HBT : Hid (Below wr.heap.size wr (wr.alloc (.cells #[.int .i64 x.1.kind, .string (bs x.1.text), .int .i64 x.1.num, .int .i64 x.2] 33))) := hbt
        clear hx hTk hne hbt hB hst
        cases hb : rightL x.1
        · rw [hb, if_neg (by simp), if_neg (by simp)] at hr
          have HR : Hid (Calls Tryd.prog 12 #[tokV x.1 x.2] (wr.alloc (.cells #[.int .i64 x.1.kind, .string (bs x.1.text), .int .i64 x.1.num, .int .i64 x.2] 33)) fun e w' => e = .returned (txt 1 []) ∧ Below (wr.alloc (.cells #[.int .i64 x.1.kind, .string (bs x.1.text), .int .i64 x.1.num, .int .i64 x.2] 33)).heap.size (wr.alloc (.cells #[.int .i64 x.1.kind, .string (bs x.1.text), .int .i64 x.1.num, .int .i64 x.2] 33)) w') := hr
          have HB : Hid (rightL x.1 = false) := hb
          clear hr hb
          go_wp2_with fail
          refine HR.out.mono ?_
          rintro e w2 ⟨rfl, hb⟩
          have hst2 := HST.out.below (HBT.out.trans (hb.mono HBT.out.size))
          have r0 := cell_of_row _ _ 0 _ _ _ hst2.res
          have r1 := cell_of_row _ _ 1 _ _ _ hst2.res
          have f0 := frozen_of_row _ _ 0 _ _ hst2.res
          have f1 := frozen_of_row _ _ 1 _ _ hst2.res
          simp at r0 r1
          have hB2 := hst2.bel
          have hsz2 : w.heap.size < w2.heap.size := by have := hst2.size; omega
          clear hb hst2 c0 c1 c2 c3 HR HBT HST
          go_wp2_with fail
          have hall : (T.map Prod.fst).all rightL = false := List.all_eq_false.2 ⟨x.1, List.mem_map_of_mem (List.mem_of_getElem? HX.out), by rw [HB.out]; simp⟩
          refine bodyPost_ret (v := txt 1 []) (by simp [results, Tryd.results11, go_sem, r0, r1, hsz2]) rfl ⟨?_, ?_⟩
          · rw [HC.out, HS.out, hall]; rfl
          · go_grown
        · rw [hb, if_pos rfl, if_pos rfl] at hr
          have HR : Hid (Calls Tryd.prog 12 #[tokV x.1 x.2] (wr.alloc (.cells #[.int .i64 x.1.kind, .string (bs x.1.text), .int .i64 x.1.num, .int .i64 x.2] 33)) fun e w' => e = .returned (txt 0 x.1.text) ∧ Below (wr.alloc (.cells #[.int .i64 x.1.kind, .string (bs x.1.text), .int .i64 x.1.num, .int .i64 x.2] 33)).heap.size (wr.alloc (.cells #[.int .i64 x.1.kind, .string (bs x.1.text), .int .i64 x.1.num, .int .i64 x.2] 33)) w') := hr
          have HB : Hid (rightL x.1 = true) := hb
          clear hr hb
          go_wp2_with fail
          refine HR.out.mono ?_
          rintro e w2 ⟨rfl, hb⟩
          have hst2 := HST.out.below (HBT.out.trans (hb.mono HBT.out.size))
          have HST2 : Hid (ISp w w2 (.slice ad k cp) ((T.map Prod.fst).take k)) := hst2
          have hown := hst2.own
          rw [HLK.out] at hown
          have hsz2 := hst2.size
          clear hb c0 c1 c2 c3 HR HBT HST hst2
          go_wp2_with (at_builtin; refine wpList_append_own _ rfl _ _ 56 rfl (w.heap.size + 1) 9 i0 (.string ⟨#[]⟩) 1 16 Tryd.underlying56 hi hz0 hz1 hz2 rfl (by decide) _ _ _ rfl ((hown.alloc _).alloc _) ⟨w2.heap.size + 1, 0, none⟩ 1 1 [.string (bs x.1.text)] rfl rfl ?c1 ?c2 ?c3 ?c4 ?c5 ?_)
          case c1 =>
            intro j u hj
            match j, hj with
            | 0, hj => simp at hj; subst hj; simp [Addr.add]
            | j + 1, hj => simp at hj
          case c2 => intro u hu; simp at hu; subst hu; rfl
          case c3 => unfold maxLen; omega
          case c4 => omega
          case c5 => simp; omega
          intro v' w6 hown' hgrow _
          have hrow : ∀ j, (Value.slice ad k cp).ownBlock = some j → w.heap.size + 1 ≤ j ∧ j < w2.heap.size := fun j hj => hown.lt j hj
          have hres6 : w6.heap[w.heap.size]? = some (.cells #[.int .i64 0, .string ⟨#[]⟩] 30 (0, 0)) := by
            rw [hgrow.block w.heap.size (by simp; omega) (fun e => by have := (hrow _ e.symm).1; omega), Below.heap_alloc _ _ _ (by simp; omega), Below.heap_alloc _ _ _ (by omega)]
            exact HST2.out.res
          have hbel6 : Below w.heap.size w w6 := by
            have h3 : Below w.heap.size w ((w2.alloc (.cells #[.int .i64 0, .string (bs x.1.text)] 30)).alloc (.cells #[.string (bs x.1.text)] 9)) := (HST2.out.bel.alloc (by omega) _).alloc (by simp; omega) _
            exact h3.grown hgrow (by simp; omega) (fun j hj => by have := (hrow j hj).1; omega)
          have hsz6 : w.heap.size + 1 ≤ w6.heap.size := by have := hgrow.size; simp at this; omega
          have hst7 : Hid (ISp w w6 v' ((T.map Prod.fst).take (k + 1))) := by
            show ISp _ _ _ _
            rw [HNXT.out]
            refine ⟨hres6, ?_, hbel6, hsz6⟩
            rw [show ((T.map Prod.fst).take k ++ [x.1]).length = k + 1 from by rw [List.length_append, HLK.out]; rfl]
            have : textCells ((T.map Prod.fst).take k ++ [x.1]) = textCells ((T.map Prod.fst).take k) ++ [.string (bs x.1.text)] := by simp [textCells]
            rw [this]
            exact hown'
          clear hown' hgrow hrow hres6 hbel6 hsz6 hown HST2
          go_wp2_with fail
          go_roundw
          case rel => exact ⟨k + 1, by omega, by go_num, fun j y hj hy => by
              rcases Nat.lt_succ_iff_lt_or_eq.1 hj with h | rfl
              · exact HRI.out j y h hy
              · have := hy.symm.trans HX.out
                cases this
                exact HB.out, hst7.out⟩
          case measure => simp [intOf]; omega
      · have hke : k = T.length := by omega
        have HKE : Hid (k = T.length) := hke
        have hall : (T.map Prod.fst).all rightL = true := by
          refine List.all_eq_true.2 fun t ht => ?_
          obtain ⟨x, hx, rfl⟩ := List.mem_map.1 ht
          obtain ⟨j, hj, hx⟩ := List.getElem_of_mem hx
          exact HRI.out j x (by omega) (by rw [List.getElem?_eq_getElem hj, hx])
        have htk : (T.map Prod.fst).take k = T.map Prod.fst := List.take_of_length_le (by simp; omega)
        have hlen : (T.map Prod.fst).length = k := by simp; omega
        have HZ : Hid (Z = spell (T.map Prod.fst)) := by show Z = _; rw [HS.out, hall]; rfl
        have HCC : Hid (C = 0) := by show C = _; rw [HC.out, hall]; rfl
        have hbt : ∀ t ∈ T.map Prod.fst, t.text.length ≤ 1200 := fun t ht => right_len (List.all_eq_true.1 hall t ht)
        rw [htk] at hst
        have hj := join_own wr (w.heap.size + 1) ad cp (T.map Prod.fst) hbt (by simpa using hn4) (by rw [hlen]; have h2 := hst.own; rw [hlen] at h2; exact h2)
        rw [hlen] at hj
        have r0 := cell_of_row _ _ 0 _ _ _ hst.res
        have HJ : Hid (Calls Tryd.prog 36 #[.slice ad k cp, .string ⟨#[32]⟩] wr fun e w' => e = .returned (.string (bs (spell (T.map Prod.fst)))) ∧ Below wr.heap.size wr w') := hj
        have HST3 : Hid (ISp w wr (.slice ad k cp) (T.map Prod.fst)) := hst
        clear hke hall htk hlen hbt hj hst hB HST r0
        go_wp2_with fail
        refine HJ.out.mono ?_
        rintro e w2 ⟨rfl, hb⟩
        have hst2 := HST3.out.below hb
        have r0 := cell_of_row _ _ 0 _ _ _ hst2.res
        have r1 := cell_of_row _ _ 1 _ _ _ hst2.res
        have f0 := frozen_of_row _ _ 0 _ _ hst2.res
        have f1 := frozen_of_row _ _ 1 _ _ hst2.res
        simp at r0 r1
        have hB2 := hst2.bel
        have hsz2 : w.heap.size < w2.heap.size := by have := hst2.size; omega
        clear hb hst2 HJ HST3
        go_wp2_with fail
        refine bodyPost_ret (v := txt 0 (spell (T.map Prod.fst))) (by simp [results, Tryd.results11, go_sem, r0, r1]) rfl ⟨?_, ?_⟩
        · rw [HCC.out, HZ.out]
        · go_grown
end Go.Proofs.YtbgfabkneifccaaDoor
