/-
  spec.l3Right, TokenText: a token that its own text tells, and no other.
-/
import Derived.Test.YtbgfabkneifccaaDoorSText
namespace Go.Proofs.YtbgfabkneifccaaDoor
open Go.RowKit
set_option linter.unusedVariables false
attribute [local go_sem] bs_size bs_get bs_extract bs_append bs_eq bs_toList

/-- what is owned lies there -/
theorem own_cells {w : World} {B z n : Nat} {T : TypeId} {a : Option Addr} {m cap : Nat} {xs : List Value} (h : w.ownsRow B T z (.slice a m cap) n xs) (hx : xs ≠ []) :
    ∃ g, a = some ⟨g, 0, none⟩ ∧ B ≤ g ∧ g < w.heap.size ∧ (∀ (i : Nat) (u : Value), xs[i]? = some u → w.cell? ⟨g, i, none⟩ = some u) := by
  rcases h.2 with ⟨hv, rfl⟩ | ⟨g, c, cur, hv, hg, hh, _, _, hsz, ht⟩
  · have := h.1; simp at this; exact absurd this hx
  · cases hv
    refine ⟨g, rfl, hg, (Array.getElem?_eq_some_iff.1 hh).1, fun i u hu => ?_⟩
    rw [cell_of_row _ _ i _ _ _ hh]
    have hi : i < xs.length := (List.getElem?_eq_some_iff.1 hu).1
    rw [← ht] at hu hi
    rw [List.length_take] at hi
    rw [List.getElem?_take_of_lt (by omega)] at hu
    simpa using hu

def rightR (t : Tok) (R : Int × Nat × List (Tok × Nat)) : Bool := R.1 == 0 && (R.2.2.length == 1 && (R.2.2.map Prod.fst == [t]))
def rightL (t : Tok) : Bool := rightR t (lexL t.text)

/-- behind LexText: the code, the place, the tokens in a block of their own -/
theorem lexed_lt {R : Int × Nat × List (Tok × Nat)} {B : Nat} {e : Ending} {w : World} (h : Lexed R B e w) :
    ∃ ad cp, e = .returned (.agg #[.int .i64 R.1, .int .i64 (R.2.1 : Int), .slice ad R.2.2.length cp]) ∧ w.ownsRow B 33 4 (.slice ad R.2.2.length cp) R.2.2.length (tokCells R.2.2) := by
  obtain ⟨v, h1, h2⟩ := h
  obtain ⟨ad, cp, rfl⟩ := ownE_shape h2
  exact ⟨ad, cp, h1, h2⟩

theorem rightR_one (t x : Tok) (P xp : Nat) : rightR t (0, P, [(x, xp)]) = (x.kind == t.kind && (x.num == t.num && x.text == t.text)) := by
  unfold rightR
  rw [Bool.eq_iff_iff]
  cases x; cases t
  simp
  intro _
  exact And.comm
/-- a struct of four cells, laid just ahead of a call, behind it -/
theorem own4 {w w' : World} {r0 r1 r2 r3 : Value} {T : TypeId} (hb : Below (w.alloc (.cells #[r0, r1, r2, r3] T)).heap.size (w.alloc (.cells #[r0, r1, r2, r3] T)) w') :
    (w'.cell? ⟨w.heap.size, 0, none⟩ = some r0 ∧ w'.cell? ⟨w.heap.size, 1, none⟩ = some r1 ∧ w'.cell? ⟨w.heap.size, 2, none⟩ = some r2 ∧ w'.cell? ⟨w.heap.size, 3, none⟩ = some r3) ∧ w.heap.size < w'.heap.size ∧ Below w.heap.size w w' := by
  have h1 := hb.block w.heap.size (by simp)
  rw [heap_alloc_new w _] at h1
  refine ⟨⟨cell_of_row _ _ 0 _ _ _ h1, cell_of_row _ _ 1 _ _ _ h1, cell_of_row _ _ 2 _ _ _ h1, cell_of_row _ _ 3 _ _ _ h1⟩, ?_, ?_⟩
  · have := hb.size; simp at this; omega
  · exact ((Below.refl w.heap.size w).alloc (Nat.le_refl _) _).trans (hb.mono (by simp))

set_option maxHeartbeats 3200000 in
theorem right_any (t : Tok) (q : Int) (w : World) (hl : t.text.length ≤ 2000000) : Calls Tryd.prog 39 #[tokV t q] w fun e w' => e = .returned (.bool (rightL t)) ∧ Below w.heap.size w w' := by
  have hlex := lex_any t.text
  unfold rightL
  generalize lexL t.text = R at *
  obtain ⟨C, P, T⟩ := R
  by_cases hc : C = 0
  · subst hc
    match T with
    | [] =>
      have hr : rightR t (0, P, []) = false := rfl
      rw [hr]
      clear hr
      go_enter Tryd.func39, Tryd.ntmps39
      go_wp2_with fail
      refine (hlex _ hl).mono ?_
      rintro e w1 ⟨hx, hb⟩
      obtain ⟨ad, cp, rfl, hown⟩ := lexed_lt hx
      clear hx hown
      have hB := back hb
      have hBs := hB.size
      clear hb
      go_wp2_with fail
      go_ret
      exact ⟨rfl, by go_grown⟩
    | [(x, xp)] =>
      rw [rightR_one]
      by_cases h1 : x.kind = t.kind <;> by_cases h2 : x.num = t.num <;> by_cases h3 : x.text = t.text
      all_goals
        have e1 : Hid ((x.kind == t.kind) = decide (x.kind = t.kind)) := rfl
        have e3 : Hid ((x.text == t.text) = decide (x.text = t.text)) := by
          show (x.text == t.text) = decide (x.text = t.text)
          by_cases hx : x.text = t.text
          · simp [hx]
          · simp [hx]
        go_enter Tryd.func39, Tryd.ntmps39
        go_wp2_with fail
        refine (hlex _ hl).mono ?_
        rintro e w1 ⟨hx, hb⟩
        obtain ⟨ad, cp, rfl, hown⟩ := lexed_lt hx
        obtain ⟨g, rfl, hg1, hg2, hcell⟩ := own_cells hown (by simp [tokCells])
        have c0 := hcell 0 (.int .i64 x.kind) rfl
        have c1 := hcell 1 (.string (bs x.text)) rfl
        have c2 := hcell 2 (.int .i64 x.num) rfl
        have c3 := hcell 3 (.int .i64 (xp : Int)) rfl
        obtain ⟨⟨t0, t1, t2, t3⟩, hz, hB⟩ := own4 hb
        have n1 : g ≠ w1.heap.size := by omega
        have n2 : g ≠ w1.heap.size + 1 := by omega
        have n3 : w.heap.size ≠ w1.heap.size := by omega
        have n4 : w.heap.size < w1.heap.size + 1 := by omega
        have n5 : g < w1.heap.size + 1 := by omega
        clear hx hown hcell hb
        have hBs := hB.size
        go_wp2_with fail
        go_ret
        refine ⟨retB ?_, by go_grown⟩
        simp [h1, h2, h3]
    | x :: y :: T =>
      have hr : rightR t (0, P, x :: y :: T) = false := by unfold rightR; simp
      rw [hr]
      clear hr
      have hlen : ((((x :: y :: T).length : Nat) : Int) != 1) = true := by simp; omega
      generalize x :: y :: T = L at *
      go_enter Tryd.func39, Tryd.ntmps39
      go_wp2_with fail
      refine (hlex _ hl).mono ?_
      rintro e w1 ⟨hx, hb⟩
      obtain ⟨ad, cp, rfl, hown⟩ := lexed_lt hx
      clear hx hown
      have hB := back hb
      have hBs := hB.size
      clear hb
      go_wp2_with fail
      go_ret
      exact ⟨rfl, by go_grown⟩
  · have hcb : (C != 0) = true := by simpa using hc
    have hr : rightR t (C, P, T) = false := by unfold rightR; rw [show ((C, P, T).1 == 0) = false from by simpa using hc]; rfl
    rw [hr]
    clear hr hc
    go_enter Tryd.func39, Tryd.ntmps39
    go_wp2_with fail
    refine (hlex _ hl).mono ?_
    rintro e w1 ⟨hx, hb⟩
    obtain ⟨ad, cp, rfl, hown⟩ := lexed_lt hx
    clear hx hown
    have hB := back hb
    have hBs := hB.size
    clear hb
    go_wp2_with fail
    go_ret
    exact ⟨rfl, by go_grown⟩
end Go.Proofs.YtbgfabkneifccaaDoor
