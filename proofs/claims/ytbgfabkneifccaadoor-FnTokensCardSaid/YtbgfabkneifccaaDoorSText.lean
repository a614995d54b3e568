/-
  spec.LexText: the tokens of a text, from left to right.
-/
import Derived.Test.YtbgfabkneifccaaDoorSOne
import Derived.Test.YtbgfabkneifccaaDoorTokC
import Derived.OwnWalk
import Derived.Laws.OwnMore
namespace Go.Proofs.YtbgfabkneifccaaDoor
open Go.RowKit
set_option linter.unusedVariables false
attribute [local go_sem] bs_size bs_get bs_extract bs_append bs_eq bs_toList

theorem lexF_fuel : ∀ (f f' : Nat) (l : List UInt8) (p : Nat) (acc : List (Tok × Nat)), l.length ≤ f → l.length ≤ f' → lexF f l p acc = lexF f' l p acc := by
  intro f
  induction f with
  | zero =>
    intro f' l p acc h h'
    have : l = [] := List.length_eq_zero_iff.1 (by omega)
    subst this
    cases f' <;> rfl
  | succ f ih =>
    intro f' l p acc h h'
    cases l with
    | nil => cases f' <;> rfl
    | cons c r =>
      cases f' with
      | zero => simp at h'
      | succ f' =>
        have h1 : r.length ≤ f := by simpa using h
        have h2 : r.length ≤ f' := by simpa using h'
        simp only [lexF]
        split
        · exact ih f' r _ _ h1 h2
        · split
          · rfl
          · split
            · rfl
            · rename_i t ho
              obtain ⟨hne, _⟩ := oneL_text ho
              have hlen : 1 ≤ t.text.length := by cases hx : t.text with | nil => exact absurd hx hne | cons _ _ => simp
              exact ih f' _ _ _ (by simp; omega) (by simp; omega)
def lexW (l : List UInt8) (p : Nat) (acc : List (Tok × Nat)) : Int × Nat × List (Tok × Nat) := lexF l.length l p acc
theorem lexW_nil (p : Nat) (acc : List (Tok × Nat)) : lexW [] p acc = (0, 0, acc) := rfl
theorem lexW_blank {c : UInt8} (r : List UInt8) (p : Nat) (acc : List (Tok × Nat)) (h : isBlank c = true) : lexW (c :: r) p acc = lexW r (p + 1) acc := by
  show lexF (r.length + 1) (c :: r) p acc = _
  simp only [lexF, h, if_true]; rfl
theorem lexW_many {c : UInt8} (r : List UInt8) (p : Nat) (acc : List (Tok × Nat)) (h : isBlank c = false) (hm : 400 ≤ acc.length) : lexW (c :: r) p acc = (2, p, []) := by
  show lexF (r.length + 1) (c :: r) p acc = _
  simp only [lexF, h]; rw [if_neg (by simp), if_pos hm]
theorem lexW_none {c : UInt8} (r : List UInt8) (p : Nat) (acc : List (Tok × Nat)) (h : isBlank c = false) (hm : ¬ 400 ≤ acc.length) (ho : oneL (c :: r) = none) : lexW (c :: r) p acc = (5, p, []) := by
  show lexF (r.length + 1) (c :: r) p acc = _
  simp only [lexF, h, ho]; rw [if_neg (by simp), if_neg hm]
theorem lexW_some {c : UInt8} (r : List UInt8) (p : Nat) (acc : List (Tok × Nat)) (t : Tok) (h : isBlank c = false) (hm : ¬ 400 ≤ acc.length) (ho : oneL (c :: r) = some t) : lexW (c :: r) p acc = lexW ((c :: r).drop t.text.length) (p + t.text.length) (acc ++ [(t, p)]) := by
  show lexF (r.length + 1) (c :: r) p acc = _
  simp only [lexF, h, ho]; rw [if_neg (by simp), if_neg hm]
  obtain ⟨hne, _⟩ := oneL_text ho
  have hlen : 1 ≤ t.text.length := by cases hx : t.text with | nil => exact absurd hx hne | cons _ _ => simp
  exact lexF_fuel _ _ _ _ _ (by simp; omega) (Nat.le_refl _)

/-- the cells of tokens with their places -/
def tokCells (T : List (Tok × Nat)) : List Value := T.flatMap fun x => [.int .i64 x.1.kind, .string (bs x.1.text), .int .i64 x.1.num, .int .i64 (x.2 : Int)]
theorem tokCells_snoc (T : List (Tok × Nat)) (t : Tok) (p : Nat) : tokCells (T ++ [(t, p)]) = tokCells T ++ [.int .i64 t.kind, .string (bs t.text), .int .i64 t.num, .int .i64 (p : Int)] := by simp [tokCells]
theorem tokCells_len (T : List (Tok × Nat)) : (tokCells T).length = T.length * 4 := by
  induction T with
  | nil => rfl
  | cons x T ih => simp [tokCells] at *; omega
theorem infoTok : (Tryd.prog.info? 33).map (fun i => (i.zero, i.size, i.bytes)) = some (some (.agg #[.int .i64 0, .string ⟨#[]⟩, .int .i64 0, .int .i64 0]), 4, 40) := by kernel_rfl

/-- what LexText answers: a code, a place, tokens in new memory -/
def Lexed (R : Int × Nat × List (Tok × Nat)) (B : Nat) (e : Ending) (w' : World) : Prop :=
  ∃ v, e = .returned (.agg #[.int .i64 R.1, .int .i64 (R.2.1 : Int), v]) ∧ w'.ownsRow B 33 4 v R.2.2.length (tokCells R.2.2)

theorem ownE_shape {w : World} {B z n : Nat} {T : TypeId} {v : Value} {xs : List Value} (h : w.ownsRow B T z v n xs) : ∃ a cap, v = .slice a n cap := by
  rcases h.2 with ⟨rfl, rfl⟩ | ⟨g, c, cur, rfl, _⟩
  · exact ⟨_, _, rfl⟩
  · exact ⟨_, _, rfl⟩
theorem ownE_mono {w : World} {B C z n : Nat} {T : TypeId} {v : Value} {xs : List Value} (h : w.ownsRow B T z v n xs) (hC : C ≤ B) : w.ownsRow C T z v n xs := by
  refine ⟨h.1, ?_⟩
  rcases h.2 with h2 | ⟨g, c, cur, rfl, hg, hr⟩
  · exact .inl h2
  · exact .inr ⟨g, c, cur, rfl, by omega, hr⟩
theorem ownE_same {w w' : World} {B z n : Nat} {T : TypeId} {v : Value} {xs : List Value} (h : w.ownsRow B T z v n xs) (hs : ∀ g, B ≤ g → g < w.heap.size → w'.heap[g]? = w.heap[g]?) : w'.ownsRow B T z v n xs := by
  refine ⟨h.1, ?_⟩
  rcases h.2 with h2 | ⟨g, c, cur, rfl, hg, hh, hr⟩
  · exact .inl h2
  · refine .inr ⟨g, c, cur, rfl, hg, ?_, hr⟩
    rw [hs g hg (Array.getElem?_eq_some_iff.1 hh).1]; exact hh
theorem ownE_nil (w : World) (B z : Nat) (T : TypeId) : w.ownsRow B T z (.slice none 0 0) 0 [] := ⟨by simp, .inl ⟨rfl, rfl⟩⟩

/-- the state between two rounds: the answer's block, the tokens' block, the row of tokens -/
structure Lexing (w wr : World) (vt : Value) (acc : List (Tok × Nat)) : Prop where
  res : wr.heap[w.heap.size]? = some (.cells #[.int .i64 0, .int .i64 0, .slice none 0 0] 27 (0, 0))
  out : wr.heap[w.heap.size + 1]? = some (.cells #[.int .i64 0, .int .i64 0, vt] 27 (0, 0))
  own : wr.ownsRow (w.heap.size + 2) 33 4 vt acc.length (tokCells acc)
  bel : Below w.heap.size w wr
  size : w.heap.size + 2 ≤ wr.heap.size
theorem Lexing.below {w wr w' : World} {vt : Value} {acc : List (Tok × Nat)} (h : Lexing w wr vt acc) (hb : Below wr.heap.size wr w') : Lexing w w' vt acc :=
  ⟨(hb.block _ (by have := h.size; omega)).trans h.res, (hb.block _ (by have := h.size; omega)).trans h.out, ownE_same h.own (fun g _ hg => hb.block g hg), h.bel.trans (hb.mono h.bel.size), Nat.le_trans h.size hb.size⟩

set_option maxHeartbeats 3200000 in
theorem lex_any (l : List UInt8) (w : World) (hl : l.length ≤ 2000000) : Calls Tryd.prog 10 #[.string (bs l)] w fun e w' => Lexed (lexL l) w.heap.size e w' ∧ Below w.heap.size w w' := by
  obtain ⟨i0, hi, hz0, hz1, hz2⟩ := info_parts infoTok
  by_cases h12 : 1200 < l.length
  · have hR : lexL l = (2, 0, []) := by unfold lexL; rw [if_pos h12]
    rw [hR]
    have hb : decide ((1200 : Int) < (l.length : Int)) = true := decide_eq_true (by omega)
    clear hR h12
    go_enter Tryd.func10, Tryd.ntmps10
    go_wp2
    refine bodyPost_ret (v := .agg #[.int .i64 2, .int .i64 0, .slice none 0 0]) (by simp [results, Tryd.results10, go_sem]) rfl ⟨⟨_, rfl, ownE_nil _ _ _ _⟩, ?_⟩
    go_grown
  · have hR0 : lexL l = lexW l 0 [] := by unfold lexL; rw [if_neg h12]; rfl
    rw [hR0]
    clear hR0
    have hb : decide ((1200 : Int) < (l.length : Int)) = false := decide_eq_false (by omega)
    have hl2 : l.length ≤ 1200 := by omega
    obtain ⟨R, hR⟩ : ∃ R, R = lexW l 0 [] := ⟨_, rfl⟩
    rw [← hR]
    have HR : Hid (R = lexW l 0 []) := hR
    clear hR h12
    have hst : Lexing w ((w.alloc (.cells #[.int .i64 0, .int .i64 0, .slice none 0 0] 27)).alloc (.cells #[.int .i64 0, .int .i64 0, .slice none 0 0] 27)) (.slice none 0 0) [] := by
      refine ⟨?_, ?_, ownE_nil _ _ _ _, ((Below.refl _ _).alloc (Nat.le_refl _) _).alloc (by simp) _, by simp⟩
      · rw [Below.heap_alloc _ _ _ (by simp)]; exact heap_alloc_new w _
      · have h := heap_alloc_new (w.alloc (.cells #[.int .i64 0, .int .i64 0, .slice none 0 0] 27)) (.cells #[.int .i64 0, .int .i64 0, .slice none 0 0] 27)
        rwa [show (w.alloc (.cells #[.int .i64 0, .int .i64 0, .slice none 0 0] 27)).heap.size = w.heap.size + 1 from by simp] at h
    have HST : Hid (Lexing w ((w.alloc (.cells #[.int .i64 0, .int .i64 0, .slice none 0 0] 27)).alloc (.cells #[.int .i64 0, .int .i64 0, .slice none 0 0] 27)) (.slice none 0 0) []) := hst
    clear hst
    go_enter Tryd.func10, Tryd.ntmps10
    go_wp2
    go_loopw [4] (fun v wr => ∃ (p : Nat) (acc : List (Tok × Nat)) (vt : Value), v = .int .i64 p ∧ p ≤ l.length ∧ acc.length ≤ 400 ∧ R = lexW (l.drop p) p acc ∧ Lexing w wr vt acc) (fun v _ => l.length - (intOf v).toNat)
    case atStart => exact ⟨0, [], _, rfl, by omega, by simp, HR.out, HST.out⟩
    case round =>
      clear HR HST
      obtain ⟨p, acc, vt, rfl, hp, hacc, hR, hst⟩ := hrel
      obtain ⟨ad, cp, rfl⟩ := ownE_shape hst.own
      have HR : Hid (R = lexW (l.drop p) p acc) := hR
      have HST : Hid (Lexing w wr (.slice ad acc.length cp) acc) := hst
      have r0 := cell_of_row _ _ 0 _ _ _ hst.res
      have r1 := cell_of_row _ _ 1 _ _ _ hst.res
      have r2 := cell_of_row _ _ 2 _ _ _ hst.res
      have f0 := frozen_of_row _ _ 0 _ _ hst.res
      have f1 := frozen_of_row _ _ 1 _ _ hst.res
      have f2 := frozen_of_row _ _ 2 _ _ hst.res
      have o0 := cell_of_row _ _ 0 _ _ _ hst.out
      have o1 := cell_of_row _ _ 1 _ _ _ hst.out
      have o2 := cell_of_row _ _ 2 _ _ _ hst.out
      have g2 := frozen_of_row _ _ 2 _ _ hst.out
      simp at r0 r1 r2 o0 o1 o2
      have hB := hst.bel
      have hsz := hst.size
      clear hR hst
      by_cases hlt : p < l.length
      · have hd := drop_at l p hlt
        have HD : Hid (l.drop p = ch l p :: l.drop (p + 1)) := hd
        clear hd
        cases hbl : isBlank (ch l p)
        · have HBL : Hid (isBlank (ch l p) = false) := hbl
          have hb32 : (((ch l p).toNat : Int) == 32) = false := by unfold isBlank at hbl; rw [Bool.or_eq_false_iff] at hbl; simpa using hbl.1
          have hb10 : (((ch l p).toNat : Int) == 10) = false := by unfold isBlank at hbl; rw [Bool.or_eq_false_iff] at hbl; simpa using hbl.2
          clear hbl
          by_cases hm : 400 ≤ acc.length
          · have hmb : decide ((400 : Int) ≤ (acc.length : Int)) = true := decide_eq_true (by omega)
            have HM : Hid (400 ≤ acc.length) := hm
            clear hm hacc
            go_wp2
            refine bodyPost_ret (v := .agg #[.int .i64 2, .int .i64 p, .slice none 0 0]) (by simp [results, Tryd.results10, go_sem, r0, r1, r2]) rfl ⟨?_, ?_⟩
            · rw [HR.out, HD.out, lexW_many _ _ _ HBL.out HM.out]
              exact ⟨_, rfl, ownE_nil _ _ _ _⟩
            · go_grown
          · have hmb : decide ((400 : Int) ≤ (acc.length : Int)) = false := decide_eq_false (by omega)
            have HM : Hid (¬ 400 ≤ acc.length) := hm
            clear hm
            have ho := one_any l p hlt wr hl
            rw [HD.out] at ho
            go_wp2_with fail
            refine ho.mono ?_
            rintro e w2 ⟨⟨t, ok, rfl, hok, ht⟩, hb2⟩
            have hst2 := HST.out.below hb2
            clear r0 r1 r2 f0 f1 f2 o0 o1 o2 g2 hB hsz hb2 HST
            have HST : Hid (Lexing w w2 (.slice ad acc.length cp) acc) := hst2
            have r0 := cell_of_row _ _ 0 _ _ _ hst2.res
            have r1 := cell_of_row _ _ 1 _ _ _ hst2.res
            have r2 := cell_of_row _ _ 2 _ _ _ hst2.res
            have f0 := frozen_of_row _ _ 0 _ _ hst2.res
            have f1 := frozen_of_row _ _ 1 _ _ hst2.res
            have f2 := frozen_of_row _ _ 2 _ _ hst2.res
            have o0 := cell_of_row _ _ 0 _ _ _ hst2.out
            have o1 := cell_of_row _ _ 1 _ _ _ hst2.out
            have o2 := cell_of_row _ _ 2 _ _ _ hst2.out
            have g2 := frozen_of_row _ _ 2 _ _ hst2.out
            simp at r0 r1 r2 o0 o1 o2
            have hB := hst2.bel
            have hsz := hst2.size
            clear hst2
            have n2 := World.new_ne w2 _ o2
            have n0 := World.new_ne w2 _ r0
            have hlt1 : w.heap.size + 1 < w2.heap.size := by omega
            have hlt0 : w.heap.size < w2.heap.size := by omega
            have HT : Hid (∀ u, oneL (ch l p :: l.drop (p + 1)) = some u → t = u) := ht
            clear ht ho
            cases ok
            · have HO : Hid (oneL (ch l p :: l.drop (p + 1)) = none) := by
                show _ = none
                cases hx : oneL (ch l p :: l.drop (p + 1)) with
                | none => rfl
                | some u => rw [hx] at hok; cases hok
              clear hok
              go_wp2
              refine bodyPost_ret (v := .agg #[.int .i64 5, .int .i64 p, .slice none 0 0]) (by simp [results, Tryd.results10, go_sem, r0, r1, r2, hlt0]) rfl ⟨?_, ?_⟩
              · rw [HR.out, HD.out, lexW_none _ _ _ HBL.out HM.out HO.out]
                exact ⟨_, rfl, ownE_nil _ _ _ _⟩
              · go_grown
            · have HO : Hid (oneL (ch l p :: l.drop (p + 1)) = some t) := by
                show _ = some t
                cases hx : oneL (ch l p :: l.drop (p + 1)) with
                | none => rw [hx] at hok; cases hok
                | some u => rw [HT.out u hx]
              clear hok HT
              have hown := HST.out.own
              go_wp2_with (at_builtin; refine wpList_append_own _ rfl _ _ 25 rfl (w.heap.size + 2) 33 i0 (.agg #[.int .i64 0, .string ⟨#[]⟩, .int .i64 0, .int .i64 0]) 4 40 Tryd.underlying25 hi hz0 hz1 hz2 rfl (by decide) _ _ _ rfl ((hown.alloc _).alloc _) ⟨w2.heap.size + 1, 0, none⟩ 1 1 [.int .i64 t.kind, .string (bs t.text), .int .i64 t.num, .int .i64 (p : Int)] rfl rfl ?c1 ?c2 ?c3 ?c4 ?c5 ?_)
              case c1 =>
                intro j u hj
                match j, hj with
                | 0, hj => simp at hj; subst hj; simp [Addr.add]
                | 1, hj => simp at hj; subst hj; simp [Addr.add]
                | 2, hj => simp at hj; subst hj; simp [Addr.add]
                | 3, hj => simp at hj; subst hj; simp [Addr.add]
                | j + 4, hj => simp at hj
              case c2 => intro u hu; simp at hu; rcases hu with rfl | rfl | rfl | rfl <;> rfl
              case c3 => unfold maxLen; omega
              case c4 => omega
              case c5 => simp; omega
              intro v' w6 hown' hgrow _
              have hrow : ∀ j, (Value.slice ad acc.length cp).ownBlock = some j → w.heap.size + 2 ≤ j ∧ j < w2.heap.size := fun j hj => hown.lt j hj
              have hsame : ∀ g, g < w2.heap.size → (Value.slice ad acc.length cp).ownBlock ≠ some g → w6.heap[g]? = w2.heap[g]? := fun g hg hne => by
                rw [hgrow.block g (by simp; omega) (fun e => hne e.symm), Below.heap_alloc _ _ _ (by simp; omega), Below.heap_alloc _ _ _ hg]
              have hres6 : w6.heap[w.heap.size]? = some (.cells #[.int .i64 0, .int .i64 0, .slice none 0 0] 27 (0, 0)) := (hsame _ hlt0 (fun e => by have := (hrow _ e).1; omega)).trans HST.out.res
              have hout6 : w6.heap[w.heap.size + 1]? = some (.cells #[.int .i64 0, .int .i64 0, .slice ad acc.length cp] 27 (0, 0)) := (hsame _ hlt1 (fun e => by have := (hrow _ e).1; omega)).trans HST.out.out
              have htok6 : w6.heap[w2.heap.size]? = some (.cells #[.int .i64 t.kind, .string (bs t.text), .int .i64 t.num, .int .i64 (p : Int)] 33 (0, 0)) := by
                rw [hgrow.block w2.heap.size (by simp; omega) (fun e => by have := (hrow _ e.symm).2; omega), Below.heap_alloc _ _ _ (by simp)]
                exact heap_alloc_new w2 _
              have hbel6 : Below w.heap.size w w6 := by
                have h3 : Below w.heap.size w ((w2.alloc (.cells #[.int .i64 t.kind, .string (bs t.text), .int .i64 t.num, .int .i64 (p : Int)] 33)).alloc (.cells #[.int .i64 t.kind, .string (bs t.text), .int .i64 t.num, .int .i64 (p : Int)] 33)) := (hB.alloc (by omega) _).alloc (by simp; omega) _
                exact h3.grown hgrow (by simp; omega) (fun j hj => by have := (hrow j hj).1; omega)
              have hsz6 : w.heap.size + 2 ≤ w6.heap.size := by have := hgrow.size; simp at this; omega
              obtain ⟨a', c', rfl⟩ := ownE_shape hown'
              have hst7 : Lexing w (w6.setCell ⟨w.heap.size + 1, 2, none⟩ (.slice a' (acc.length + 1) c')) (.slice a' (acc.length + 1) c') (acc ++ [(t, p)]) := by
                refine ⟨?_, ?_, ?_, ?_, ?_⟩
                · rw [Below.heap_setCell _ _ _ _ (by simp)]; exact hres6
                · exact heap_setCell_same w6 (w.heap.size + 1) 2 _ _ _ hout6
                · have hlen : (acc ++ [(t, p)]).length = acc.length + 1 := by simp
                  rw [hlen, tokCells_snoc]
                  refine ownE_same hown' (fun g hg _ => ?_)
                  rw [Below.heap_setCell _ _ _ _ (by simp; omega)]
                · exact hbel6.setCell (by simp) _
                · simpa using hsz6
              have HST7 : Hid (Lexing w (w6.setCell ⟨w.heap.size + 1, 2, none⟩ (.slice a' (acc.length + 1) c')) (.slice a' (acc.length + 1) c') (acc ++ [(t, p)])) := hst7
              have o6 := cell_of_row _ _ 2 _ _ _ hout6
              have g6 := frozen_of_row _ _ 2 _ _ hout6
              have t6 := cell_of_row _ _ 1 _ _ _ htok6
              simp at o6 t6
              have hne2 : w2.heap.size ≠ w.heap.size + 1 := by omega
              have hpl : p + t.text.length ≤ l.length := by
                obtain ⟨_, r, hr⟩ := oneL_text HO.out
                have := congrArg List.length (HD.out.trans hr)
                simp at this; omega
              have hpos : 1 ≤ t.text.length := by
                obtain ⟨hne, _⟩ := oneL_text HO.out
                cases hx : t.text with
                | nil => exact absurd hx hne
                | cons _ _ => simp
              have hacc2 : (acc ++ [(t, p)]).length ≤ 400 := by simp; have := HM.out; omega
              have hdrop : (ch l p :: l.drop (p + 1)).drop t.text.length = l.drop (p + t.text.length) := by rw [← HD.out, List.drop_drop]
              have HDR : Hid ((ch l p :: l.drop (p + 1)).drop t.text.length = l.drop (p + t.text.length)) := hdrop
              clear hst7 hrow hsame hres6 hout6 htok6 hbel6 hsz6 hown' hgrow hown HST r0 r1 r2 f0 f1 f2 o0 o1 o2 g2 n2 n0 hB hsz hdrop
              go_wp2
              go_roundw
              case rel => exact ⟨p + t.text.length, acc ++ [(t, p)], _, by go_num, hpl, hacc2, by rw [HR.out, HD.out, lexW_some _ _ _ _ HBL.out HM.out HO.out, HDR.out], HST7.out⟩
              case measure => simp [intOf]; omega
        · have HBL : Hid (isBlank (ch l p) = true) := hbl
          have hbb : ((ch l p).toNat : Int) = 32 ∨ (¬ ((ch l p).toNat : Int) = 32 ∧ ((ch l p).toNat : Int) = 10) := by
            unfold isBlank at hbl; simp only [Bool.or_eq_true, decide_eq_true_eq] at hbl; omega
          clear hbl
          rcases hbb with h32 | ⟨h32, h10⟩
          · go_wp2
            go_roundw
            case rel => exact ⟨p + 1, acc, _, by go_num, by omega, hacc, by rw [HR.out, HD.out, lexW_blank _ _ _ HBL.out], HST.out⟩
            case measure => simp [intOf]; omega
          · have hb32 : (((ch l p).toNat : Int) == 32) = false := by simpa using h32
            go_wp2
            go_roundw
            case rel => exact ⟨p + 1, acc, _, by go_num, by omega, hacc, by rw [HR.out, HD.out, lexW_blank _ _ _ HBL.out], HST.out⟩
            case measure => simp [intOf]; omega
      · have hpe : p = l.length := by omega
        subst hpe
        go_wp2
        refine bodyPost_ret (v := .agg #[.int .i64 0, .int .i64 0, .slice ad acc.length cp]) (by simp [results, Tryd.results10, go_sem, r0, r1, r2]) rfl ⟨?_, ?_⟩
        · rw [HR.out, List.drop_length, lexW_nil]
          refine ⟨_, rfl, ownE_mono (ownE_same HST.out.own (fun g hg _ => ?_)) (by omega)⟩
          rw [Below.heap_setCell _ _ _ _ (by simp; omega), Below.heap_setCell _ _ _ _ (by simp; omega), Below.heap_setCell _ _ _ _ (by simp; omega)]
        · go_grown
end Go.Proofs.YtbgfabkneifccaaDoor
