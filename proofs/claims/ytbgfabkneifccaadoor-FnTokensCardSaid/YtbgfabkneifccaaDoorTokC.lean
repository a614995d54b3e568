/-
  The plain mathematics of tokens: a text that is read is blanks and tokens, one behind the other; tokens that are spelled with a blank between are read again. No condition; nothing of Go.
-/
import Derived.Test.YtbgfabkneifccaaDoorTokM
namespace Go.Proofs.YtbgfabkneifccaaDoor

/-- blanks and tokens, one behind the other -/
inductive Chain : List UInt8 → Nat → List (Tok × Nat) → Prop
  | nil (l : List UInt8) (p : Nat) : (∀ c ∈ l, isBlank c = true) → Chain l p []
  | cons (b : List UInt8) (t : Tok) (l : List UInt8) (p : Nat) (T : List (Tok × Nat)) : (∀ c ∈ b, isBlank c = true) → oneL (t.text ++ l) = some t → Chain l (p + b.length + t.text.length) T → Chain (b ++ (t.text ++ l)) p ((t, p + b.length) :: T)

theorem Chain.blank {l : List UInt8} {p : Nat} {T : List (Tok × Nat)} {c : UInt8} (hc : isBlank c = true) (h : Chain l (p + 1) T) : Chain (c :: l) p T := by
  cases h with
  | nil _ _ h => exact .nil _ _ (fun x hx => by rcases List.mem_cons.1 hx with rfl | hx; exact hc; exact h x hx)
  | cons b t l _ T hb ho hT =>
    have e : p + 1 + b.length = p + (c :: b).length := by simp; omega
    rw [e] at hT ⊢
    exact .cons (c :: b) t l p T (fun x hx => by rcases List.mem_cons.1 hx with rfl | hx; exact hc; exact hb x hx) ho hT

theorem oneL_text {l : List UInt8} {t : Tok} (h : oneL l = some t) : t.text ≠ [] ∧ ∃ r, l = t.text ++ r := by
  obtain ⟨hw, _⟩ := oneL_again l t h
  exact ⟨hw.some, hw.pre⟩

/-- what is read is a chain -/
theorem lexF_chain : ∀ (f : Nat) (l : List UInt8) (p : Nat) (acc : List (Tok × Nat)) (q : Nat) (T : List (Tok × Nat)), l.length ≤ f → lexF f l p acc = (0, q, T) →
    ∃ T', T = acc ++ T' ∧ q = 0 ∧ Chain l p T' ∧ (T' ≠ [] → T.length ≤ 400) := by
  intro f
  induction f with
  | zero =>
    intro l p acc q T hl h
    have : l = [] := List.length_eq_zero_iff.1 (by omega)
    subst this
    simp only [lexF, Prod.mk.injEq] at h
    obtain ⟨_, rfl, rfl⟩ := h
    exact ⟨[], by simp, rfl, .nil _ _ (by simp), by simp⟩
  | succ f ih =>
    intro l p acc q T hl h
    cases l with
    | nil =>
      simp only [lexF, Prod.mk.injEq] at h
      obtain ⟨_, rfl, rfl⟩ := h
      exact ⟨[], by simp, rfl, .nil _ _ (by simp), by simp⟩
    | cons c r =>
      have hl' : r.length ≤ f := by simpa using hl
      cases hb : isBlank c
      · by_cases hm : 400 ≤ acc.length
        · simp [lexF, hb, hm] at h
        · cases ho : oneL (c :: r) with
          | none => simp [lexF, hb, hm, ho] at h
          | some t =>
            simp only [lexF, hb, ho] at h
            rw [if_neg (by simp), if_neg hm] at h
            obtain ⟨hne, r', hr'⟩ := oneL_text ho
            have hlen : 1 ≤ t.text.length := by cases hx : t.text with | nil => exact absurd hx hne | cons _ _ => simp
            have hd : (c :: r).drop t.text.length = r' := by rw [hr', List.drop_left]
            rw [hd] at h
            have hrl : r'.length + t.text.length = r.length + 1 := by have := congrArg List.length hr'; simp at this; omega
            obtain ⟨T', rfl, hq, hC, hT⟩ := ih r' _ _ _ _ (by omega) h
            refine ⟨(t, p) :: T', by simp, hq, ?_, fun _ => ?_⟩
            · rw [hr']
              have := Chain.cons [] t r' p T' (by simp) (by rw [← hr']; exact ho) (by simpa using hC)
              simpa using this
            · by_cases hT' : T' = []
              · subst hT'; simp; omega
              · exact hT hT'
      · simp only [lexF, hb, if_true] at h
        obtain ⟨T', h1, h2, h3, h4⟩ := ih r _ _ _ _ hl' h
        exact ⟨T', h1, h2, h3.blank hb, h4⟩

/-- a chain is read as it stands -/
theorem chain_lexF : ∀ (f : Nat) (l : List UInt8) (p : Nat) (acc T : List (Tok × Nat)), l.length ≤ f → Chain l p T → acc.length + T.length ≤ 400 → lexF f l p acc = (0, 0, acc ++ T) := by
  intro f
  induction f with
  | zero =>
    intro l p acc T hl hC hT
    have hl0 : l = [] := List.length_eq_zero_iff.1 (by omega)
    cases hC with
    | nil _ _ _ => simp [lexF]
    | cons b t l' _ T hb ho hC =>
      obtain ⟨hne, _⟩ := oneL_text ho
      have := congrArg List.length hl0
      cases hx : t.text with
      | nil => exact absurd hx hne
      | cons _ _ => rw [hx] at this; simp at this
  | succ f ih =>
    intro l p acc T hl hC hT
    cases hC with
    | nil _ _ hbl =>
      cases l with
      | nil => simp [lexF]
      | cons c r =>
        have hc := hbl c (by simp)
        simp only [lexF, hc, if_true]
        exact ih r _ _ _ (by simpa using hl) (.nil _ _ (fun x hx => hbl x (by simp [hx]))) hT
    | cons b t l' _ T hb ho hC =>
      obtain ⟨hne, _⟩ := oneL_text ho
      cases b with
      | cons c b =>
        have hc := hb c (by simp)
        simp only [lexF, hc, if_true, List.cons_append]
        have e : p + (c :: b).length = p + 1 + b.length := by simp; omega
        rw [e] at hC ⊢
        exact ih _ _ _ _ (by simpa using hl) (.cons b t l' (p + 1) T (fun x hx => hb x (by simp [hx])) ho hC) hT
      | nil =>
        obtain ⟨hw, _⟩ := oneL_again _ _ ho
        cases hx : t.text with
        | nil => exact absurd hx hne
        | cons c s =>
          have hcb : isBlank c = false := hw.solid c (by rw [hx]; simp)
          have ho' : oneL (c :: (s ++ l')) = some t := by rw [hx] at ho; simpa using ho
          have hd : (c :: (s ++ l')).drop t.text.length = l' := by rw [hx, ← List.cons_append, List.drop_left]
          simp only [List.nil_append, List.cons_append, lexF, hcb, ho']
          rw [if_neg (by simp), if_neg (by simp at hT; omega), hd]
          have hC' : Chain l' (p + t.text.length) T := by simpa using hC
          have hlen : l'.length ≤ f := by simp [hx] at hl; omega
          rw [ih l' _ (acc ++ [(t, p)]) T hlen hC' (by simp at hT ⊢; omega)]
          simp

/-- tokens that are spelled, a blank between -/
def spell : List Tok → List UInt8
  | [] => []
  | [t] => t.text
  | t :: u :: ts => t.text ++ 32 :: spell (u :: ts)
def placed : Nat → List Tok → List (Tok × Nat)
  | _, [] => []
  | p, t :: ts => (t, p) :: placed (p + t.text.length + 1) ts
theorem placed_fst : ∀ (ts : List Tok) (p : Nat), (placed p ts).map Prod.fst = ts := by
  intro ts
  induction ts with
  | nil => intro p; rfl
  | cons t ts ih => intro p; simp [placed, ih]
theorem placed_len (ts : List Tok) (p : Nat) : (placed p ts).length = ts.length := by
  have := congrArg List.length (placed_fst ts p)
  simpa using this

/-- a token that its own text tells, and no other -/
def Self (t : Tok) : Prop := ∀ r, Stops r → oneL (t.text ++ r) = some t

theorem spell_chain : ∀ (ts : List Tok) (p : Nat), (∀ t ∈ ts, Self t) → Chain (spell ts) p (placed p ts) := by
  intro ts
  induction ts with
  | nil => intro p _; exact .nil _ _ (by simp [spell])
  | cons t ts ih =>
    intro p hs
    have ht := hs t (by simp)
    cases ts with
    | nil =>
      have h := Chain.cons [] t [] p [] (by simp) (ht [] (by intro c hc; simp at hc)) (.nil _ _ (by simp))
      simpa [spell, placed] using h
    | cons u ts =>
      have h := ih (p + t.text.length + 1) (fun x hx => hs x (by simp [hx]))
      have hb : Chain (32 :: spell (u :: ts)) (p + t.text.length) (placed (p + t.text.length + 1) (u :: ts)) := h.blank (by decide)
      have := Chain.cons [] t (32 :: spell (u :: ts)) p _ (by simp) (ht _ (by intro c hc; simp at hc; subst hc; decide)) (by simpa using hb)
      simpa [spell, placed] using this

theorem Chain.self : ∀ {l : List UInt8} {p : Nat} {T : List (Tok × Nat)}, Chain l p T → ∀ x ∈ T, Self x.1 ∧ x.1.text ≠ [] ∧ (x.1.kind = 1 ↔ isNameL x.1.text = true) ∧ (x.1.kind = 3 ↔ isWordL x.1.text = true) ∧ x.1.text.length ≤ l.length := by
  intro l p T h
  induction h with
  | nil => intro x hx; simp at hx
  | cons b t l p T hb ho hC ih =>
    intro x hx
    rcases List.mem_cons.1 hx with rfl | hx
    · obtain ⟨hw, ha⟩ := oneL_again _ _ ho
      exact ⟨ha, hw.some, hw.name, hw.word, by simp; omega⟩
    · obtain ⟨h1, h2, h3, h4, h5⟩ := ih x hx
      exact ⟨h1, h2, h3, h4, by simp; omega⟩

/-- the whole of it -/
theorem lexL_ok {l : List UInt8} {q : Nat} {T : List (Tok × Nat)} (h : lexL l = (0, q, T)) : l.length ≤ 1200 ∧ q = 0 ∧ Chain l 0 T ∧ T.length ≤ 400 := by
  unfold lexL at h
  by_cases hl : 1200 < l.length
  · rw [if_pos hl] at h; simp at h
  · rw [if_neg hl] at h
    obtain ⟨T', h1, h2, h3, h4⟩ := lexF_chain _ _ _ _ _ _ (Nat.le_refl _) h
    simp at h1
    subst h1
    refine ⟨by omega, h2, h3, ?_⟩
    by_cases hT : T = []
    · subst hT; simp
    · exact h4 hT
theorem lexL_of_chain {l : List UInt8} {T : List (Tok × Nat)} (hl : l.length ≤ 1200) (h : Chain l 0 T) (hT : T.length ≤ 400) : lexL l = (0, 0, T) := by
  unfold lexL
  rw [if_neg (by omega), chain_lexF _ _ _ _ _ (Nat.le_refl _) h (by simpa using hT)]
  simp
theorem lexL_self {t : Tok} (h : Self t) (hl : t.text.length ≤ 1200) : lexL t.text = (0, 0, [(t, 0)]) := by
  have hs := spell_chain [t] 0 (by simpa using h)
  exact lexL_of_chain hl hs (by simp)
theorem lexL_spell {ts : List Tok} (h : ∀ t ∈ ts, Self t) (hl : (spell ts).length ≤ 1200) (hn : ts.length ≤ 400) : lexL (spell ts) = (0, 0, placed 0 ts) :=
  lexL_of_chain hl (spell_chain ts 0 h) (by rw [placed_len]; exact hn)
end Go.Proofs.YtbgfabkneifccaaDoor
