/-
  Where tokens lie in their text, and that they are read back: for FnTokens. Plain mathematics.
-/
import Derived.Test.YtbgfabkneifccaaDoorSSpell
namespace Go.Proofs.YtbgfabkneifccaaDoor
set_option linter.unusedVariables false

/-- where the token ahead of the i-th ends -/
def prevEnd (p : Nat) (T : List (Tok × Nat)) : Nat → Nat
  | 0 => p
  | i + 1 => (T[i]?.map fun x => x.2 + x.1.text.length).getD 0
theorem prevEnd_cons (p p' : Nat) (x : Tok × Nat) (T : List (Tok × Nat)) (h : p' = x.2 + x.1.text.length) (i : Nat) : prevEnd p (x :: T) (i + 1) = prevEnd p' T i := by
  cases i with
  | zero => simp [prevEnd, h]
  | succ i => simp [prevEnd]
theorem prevEnd_succ (p : Nat) (T : List (Tok × Nat)) (i : Nat) (x : Tok × Nat) (h : T[i]? = some x) : prevEnd p T (i + 1) = x.2 + x.1.text.length := by
  simp [prevEnd, h]
/-- a token lies in the text, blanks ahead of it -/
structure Lies (s : List UInt8) (from_ : Nat) (x : Tok × Nat) : Prop where
  le : from_ ≤ x.2
  fits : x.2 + x.1.text.length ≤ s.length
  text : (s.drop x.2).take x.1.text.length = x.1.text
  blank : ∀ k, from_ ≤ k → k < x.2 → isBlank (ch s k) = true
theorem chain_lies {l : List UInt8} {p : Nat} {T : List (Tok × Nat)} (h : Chain l p T) (s : List UInt8) (hs : s.drop p = l) (hp : p ≤ s.length) : ∀ i x, T[i]? = some x → Lies s (prevEnd p T i) x := by
  induction h with
  | nil => intro i x hx; simp at hx
  | cons b t l p T hb ho hC ih =>
    have hlen : s.length - p = b.length + (t.text.length + l.length) := by have := congrArg List.length hs; simpa using this
    have hd1 : s.drop (p + b.length) = t.text ++ l := by rw [← List.drop_drop, hs, List.drop_left]
    have hd2 : s.drop (p + b.length + t.text.length) = l := by rw [← List.drop_drop, hd1, List.drop_left]
    intro i x hx
    cases i with
    | zero =>
      have hx : (t, p + b.length) = x := by simpa using hx
      subst hx
      refine ⟨Nat.le_add_right _ _, by show p + b.length + t.text.length ≤ _; omega, by show (s.drop (p + b.length)).take _ = _; rw [hd1, List.take_left], fun k h1 h2 => ?_⟩
      have h1 : p ≤ k := h1
      have h2 : k < p + b.length := h2
      have e : ch s k = ch (b ++ (t.text ++ l)) (k - p) := by rw [← hs, ch_drop]; congr 1; omega
      rw [e]
      have hk : k - p < b.length := by omega
      have : ch (b ++ (t.text ++ l)) (k - p) = b[k - p] := by
        unfold ch
        rw [List.getD_eq_getElem?_getD, List.getElem?_append_left hk, List.getElem?_eq_getElem hk]; rfl
      rw [this]
      exact hb _ (List.getElem_mem hk)
    | succ i =>
      have hx : T[i]? = some x := by simpa using hx
      rw [prevEnd_cons p (p + b.length + t.text.length) (t, p + b.length) T rfl i]
      exact ih hd2 (by omega) i x hx

/-- what FnTokens wants of the tokens of a text -/
structure Good (s : List UInt8) (T : List (Tok × Nat)) : Prop where
  short : s.length ≤ 1200
  few : T.length ≤ 400
  lies : ∀ i x, T[i]? = some x → Lies s (prevEnd 0 T i) x
  self : ∀ x ∈ T, Self x.1
  right : ∀ x ∈ T, rightL x.1 = true
  name : ∀ x ∈ T, (x.1.kind = 1 ↔ isNameL x.1.text = true)
  word : ∀ x ∈ T, (x.1.kind = 3 ↔ isWordL x.1.text = true)
  size : ∀ x ∈ T, x.1.text.length ≤ 1200
theorem good_of {s : List UInt8} {q : Nat} {T : List (Tok × Nat)} (h : lexL s = (0, q, T)) : Good s T := by
  obtain ⟨h1, h2, h3, h4⟩ := lexL_ok h
  have hs := h3.self
  refine ⟨h1, h4, chain_lies h3 s rfl (Nat.zero_le _), fun x hx => (hs x hx).1, fun x hx => ?_, fun x hx => (hs x hx).2.2.1, fun x hx => (hs x hx).2.2.2.1, fun x hx => by have := (hs x hx).2.2.2.2; omega⟩
  have hle : x.1.text.length ≤ 1200 := by have := (hs x hx).2.2.2.2; omega
  unfold rightL
  rw [lexL_self (hs x hx).1 hle, rightR_one]
  simp
theorem good_spell {s : List UInt8} {T : List (Tok × Nat)} (h : Good s T) : spellC (T.map Prod.fst) = 0 ∧ spellS (T.map Prod.fst) = spell (T.map Prod.fst) := by
  have hall : (T.map Prod.fst).all rightL = true := List.all_eq_true.2 fun t ht => by
    obtain ⟨x, hx, rfl⟩ := List.mem_map.1 ht
    exact h.right x hx
  have hn : ¬ 400 < (T.map Prod.fst).length := by have := h.few; simp; omega
  unfold spellC spellS
  rw [if_neg hn, if_neg hn, hall]
  exact ⟨rfl, rfl⟩
theorem good_again {s : List UInt8} {T : List (Tok × Nat)} (h : Good s T) (hl : (spell (T.map Prod.fst)).length ≤ 1200) : lexL (spell (T.map Prod.fst)) = (0, 0, placed 0 (T.map Prod.fst)) :=
  lexL_spell (fun t ht => by obtain ⟨x, hx, rfl⟩ := List.mem_map.1 ht; exact h.self x hx) hl (by have := h.few; simpa using this)
theorem placed_at (ts : List Tok) (p i : Nat) (y : Tok × Nat) (h : (placed p ts)[i]? = some y) : ts[i]? = some y.1 := by
  have := congrArg (fun l => l[i]?) (placed_fst ts p)
  simp only [List.getElem?_map, h] at this
  exact this.symm
end Go.Proofs.YtbgfabkneifccaaDoor
