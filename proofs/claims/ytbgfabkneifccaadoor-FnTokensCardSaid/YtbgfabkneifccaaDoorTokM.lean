/-
  The plain mathematics of tokens: a token is read again from its own text, with a blank or nothing behind it. No condition; nothing of Go.
-/
import Derived.Test.YtbgfabkneifccaaDoorTok
namespace Go.Proofs.YtbgfabkneifccaaDoor

/-- nothing, or a blank ahead -/
def Stops (r : List UInt8) : Prop := ∀ c, r.head? = some c → isBlank c = true

theorem blank_let {c : UInt8} (h : isBlank c = true) : isLet c = false := by
  simp only [isBlank, isLet, isLetI, Bool.or_eq_true, decide_eq_true_eq, decide_eq_false_iff_not] at *
  omega
theorem blank_num {c : UInt8} (h : isBlank c = true) : isNum c = false := by
  simp only [isBlank, isNum, isDig, isHex, isDigI, isHexI, Bool.or_eq_true, decide_eq_true_eq, Bool.or_eq_false_iff, decide_eq_false_iff_not] at *
  omega
theorem dig_num {c : UInt8} (h : isDig c = true) : isNum c = true := by unfold isNum; rw [h]; rfl
theorem let_blank {c : UInt8} (h : isLet c = true) : isBlank c = false := by
  cases hb : isBlank c
  · rfl
  · rw [blank_let hb] at h; exact absurd h (by simp)
theorem num_blank {c : UInt8} (h : isNum c = true) : isBlank c = false := by
  cases hb : isBlank c
  · rfl
  · rw [blank_num hb] at h; exact absurd h (by simp)

theorem while_stop (p : UInt8 → Bool) (l r : List UInt8) (hr : ∀ c, r.head? = some c → p c = false) : (l.takeWhile p ++ r).takeWhile p = l.takeWhile p := by
  induction l with
  | nil =>
    cases r with
    | nil => rfl
    | cons c r => simp [hr c rfl]
  | cons x l ih =>
    cases hx : p x
    · simp only [List.takeWhile_cons, hx]
      cases r with
      | nil => rfl
      | cons c r => simp [hr c rfl]
    · simp only [List.takeWhile_cons, hx, if_true, List.cons_append]
      rw [ih]
theorem while_head (p : UInt8 → Bool) (l r : List UInt8) (h : p (l.getD 0 0) = true) (h0 : p 0 = false) : (l.takeWhile p ++ r).getD 0 0 = l.getD 0 0 ∧ l.takeWhile p ≠ [] := by
  cases l with
  | nil => simp [h0] at h
  | cons x l =>
    have hx : p x = true := by simpa using h
    simp [hx]
theorem while_prefix (p : UInt8 → Bool) (l : List UInt8) : ∃ r, l = l.takeWhile p ++ r := ⟨l.dropWhile p, (List.takeWhile_append_dropWhile).symm⟩

/-- of the marks: none begins with a letter, a digit or a blank, none is empty; each is read again from itself -/
theorem marks_head : ∀ m ∈ marksL, m ≠ [] ∧ isLet (m.getD 0 0) = false ∧ isDig (m.getD 0 0) = false ∧ isBlank (m.getD 0 0) = false ∧ (∀ c ∈ m, isBlank c = false) := by decide +kernel
theorem marks_self : ∀ m ∈ marksL, markL m = m ∧ markL (m ++ [32]) = m ∧ markL (m ++ [10]) = m := by decide +kernel
theorem prefix_two (m : List UInt8) (hm : m.length ≤ 2) (a : List UInt8) (c : UInt8) (r : List UInt8) (ha : 1 ≤ a.length) : m.isPrefixOf (a ++ c :: r) = m.isPrefixOf (a ++ [c]) := by
  match a, ha with
  | x :: a, _ =>
    match m, hm with
    | [], _ => rfl
    | [y], _ => simp [List.isPrefixOf]
    | [y, z], _ =>
      cases a with
      | nil => simp [List.isPrefixOf]
      | cons u a => simp [List.isPrefixOf]
theorem marks_len : ∀ m ∈ marksL, m.length ≤ 2 := by decide +kernel
theorem find_congr {α : Type} (p q : α → Bool) (l : List α) (h : ∀ x ∈ l, p x = q x) : l.find? p = l.find? q := by
  induction l with
  | nil => rfl
  | cons x l ih =>
    simp only [List.find?_cons, h x (by simp)]
    rw [ih (fun y hy => h y (by simp [hy]))]
theorem markL_mem (l : List UInt8) (h : markL l ≠ []) : markL l ∈ marksL ∧ (markL l).isPrefixOf l = true := by
  unfold markL at *
  cases hf : marksL.find? (fun m => m.isPrefixOf l) with
  | none => rw [hf] at h; exact absurd rfl h
  | some m => exact ⟨List.mem_of_find?_eq_some hf, by have h := List.find?_some hf; exact h⟩
theorem markL_again (l r : List UInt8) (h : markL l ≠ []) (hr : Stops r) : markL (markL l ++ r) = markL l := by
  obtain ⟨hm, _⟩ := markL_mem l h
  obtain ⟨h1, h2, h3⟩ := marks_self _ hm
  cases r with
  | nil => rw [List.append_nil]; exact h1
  | cons c r =>
    have hc := hr c rfl
    have hlen : 1 ≤ (markL l).length := by cases hx : markL l with | nil => exact absurd hx h | cons _ _ => simp
    have e : markL (markL l ++ c :: r) = markL (markL l ++ [c]) := by
      show (marksL.find? _).getD [] = (marksL.find? _).getD []
      rw [find_congr _ _ marksL (fun m hm => prefix_two m (marks_len m hm) (markL l) c r hlen)]
    rw [e]
    have hcc : c = 32 ∨ c = 10 := by
      simp only [isBlank, Bool.or_eq_true, decide_eq_true_eq] at hc
      rcases hc with hc | hc
      · exact .inl (UInt8.toNat_inj.1 (by show c.toNat = 32; omega))
      · exact .inr (UInt8.toNat_inj.1 (by show c.toNat = 10; omega))
    rcases hcc with rfl | rfl
    · exact h2
    · exact h3

/-- what a token's text is -/
structure Whole (t : Tok) (l : List UInt8) : Prop where
  some : t.text ≠ []
  pre : ∃ r, l = t.text ++ r
  solid : ∀ c ∈ t.text, isBlank c = false
  name : t.kind = 1 ↔ isNameL t.text = true
  word : t.kind = 3 ↔ isWordL t.text = true

theorem mem_while {p : UInt8 → Bool} {l : List UInt8} {c : UInt8} (h : c ∈ l.takeWhile p) : p c = true := by
  induction l with
  | nil => simp at h
  | cons x l ih =>
    rw [List.takeWhile_cons] at h
    split at h
    · rcases List.mem_cons.1 h with rfl | h
      · assumption
      · exact ih h
    · simp at h

theorem words_let : ∀ m ∈ wordsL, m ≠ [] ∧ isLet (m.getD 0 0) = true := by decide +kernel
theorem word_head {l : List UInt8} (h : isWordL l = true) : isLet (l.getD 0 0) = true := by
  unfold isWordL at h
  obtain ⟨m, hm, he⟩ := List.any_eq_true.1 h
  have : m = l := by simpa using he
  subst this
  exact (words_let _ hm).2
theorem name_head {l : List UInt8} (h : isNameL l = true) : isLet (l.getD 0 0) = true := by
  unfold isNameL at h
  simp only [Bool.and_eq_true, decide_eq_true_eq] at h
  obtain ⟨⟨hl, _⟩, ha⟩ := h
  cases l with
  | nil => simp at hl
  | cons x l => simpa using (List.all_eq_true.1 ha) x (by simp)

theorem oneL_again (l : List UInt8) (t : Tok) (h : oneL l = some t) : Whole t l ∧ ∀ r, Stops r → oneL (t.text ++ r) = some t := by
  by_cases hl : isLet (l.getD 0 0) = true
  · unfold oneL at h
    simp only [hl, if_true] at h
    obtain ⟨hh, hne⟩ := while_head isLet l [] hl (by decide)
    have hns : ∀ c ∈ l.takeWhile isLet, isBlank c = false := fun c hc => let_blank (mem_while hc)
    have hag : ∀ r, Stops r → (l.takeWhile isLet ++ r).takeWhile isLet = l.takeWhile isLet := fun r hr => while_stop isLet l r (fun c hc => blank_let (hr c hc))
    have hgd : ∀ r, (l.takeWhile isLet ++ r).getD 0 0 = l.getD 0 0 := fun r => (while_head isLet l r hl (by decide)).1
    by_cases hw : isWordL (l.takeWhile isLet) = true
    · rw [if_pos hw] at h
      obtain rfl := Option.some.inj h
      have hnn : isNameL (l.takeWhile isLet) = false := by unfold isNameL; rw [hw]; simp
      refine ⟨⟨hne, while_prefix isLet l, hns, by simp [hnn], by simp [hw]⟩, fun r hr => ?_⟩
      unfold oneL
      simp only [hgd r, hl, if_true, hag r hr, hw]
    · rw [if_neg hw] at h
      by_cases hn : isNameL (l.takeWhile isLet) = true
      · rw [if_pos hn] at h
        obtain rfl := Option.some.inj h
        refine ⟨⟨hne, while_prefix isLet l, hns, by simp [hn], by simp [hw]⟩, fun r hr => ?_⟩
        unfold oneL
        simp only [hgd r, hl, if_true, hag r hr, if_neg hw, hn]
      · rw [if_neg hn] at h; exact absurd h (by simp)
  · by_cases hd : isDig (l.getD 0 0) = true
    · unfold oneL at h
      simp only [if_neg hl, hd, if_true] at h
      have hn0 : isNum (l.getD 0 0) = true := dig_num hd
      obtain ⟨hh, hne⟩ := while_head isNum l [] hn0 (by decide)
      have hns : ∀ c ∈ l.takeWhile isNum, isBlank c = false := fun c hc => num_blank (mem_while hc)
      have hag : ∀ r, Stops r → (l.takeWhile isNum ++ r).takeWhile isNum = l.takeWhile isNum := fun r hr => while_stop isNum l r (fun c hc => blank_num (hr c hc))
      have hgd : ∀ r, (l.takeWhile isNum ++ r).getD 0 0 = l.getD 0 0 := fun r => (while_head isNum l r hn0 (by decide)).1
      have hgl : isLet ((l.takeWhile isNum).getD 0 0) = false := by have := hgd []; rw [List.append_nil] at this; rw [this]; simpa using hl
      by_cases hk : numOk (l.takeWhile isNum) = true
      · rw [if_pos hk] at h
        obtain rfl := Option.some.inj h
        have hw : isWordL (l.takeWhile isNum) ≠ true := fun e => by rw [word_head e] at hgl; exact absurd hgl (by simp)
        have hn : isNameL (l.takeWhile isNum) ≠ true := fun e => by rw [name_head e] at hgl; exact absurd hgl (by simp)
        refine ⟨⟨hne, while_prefix isNum l, hns, by simp [hn], by simp [hw]⟩, fun r hr => ?_⟩
        unfold oneL
        simp only [hgd r, if_neg hl, hd, if_true, hag r hr, hk]
      · rw [if_neg hk] at h; exact absurd h (by simp)
    · unfold oneL at h
      simp only [if_neg hl, if_neg hd] at h
      by_cases hm : markL l = []
      · rw [if_pos hm] at h; exact absurd h (by simp)
      · rw [if_neg hm] at h
        obtain rfl := Option.some.inj h
        obtain ⟨hmem, hpre⟩ := markL_mem l hm
        obtain ⟨hne, h1, h2, h3, h4⟩ := marks_head _ hmem
        have hw : isWordL (markL l) ≠ true := fun e => by rw [word_head e] at h1; exact absurd h1 (by simp)
        have hn : isNameL (markL l) ≠ true := fun e => by rw [name_head e] at h1; exact absurd h1 (by simp)
        refine ⟨⟨hne, ?_, h4, by simp [hn], by simp [hw]⟩, fun r hr => ?_⟩
        · obtain ⟨r, hr⟩ := List.isPrefixOf_iff_prefix.1 hpre
          exact ⟨r, hr.symm⟩
        · have hgd : (markL l ++ r).getD 0 0 = (markL l).getD 0 0 := by
            cases hx : markL l with
            | nil => exact absurd hx hm
            | cons x m => simp
          unfold oneL
          simp only [hgd, h1, h2, markL_again l r hm hr, if_neg hm]
          simp
end Go.Proofs.YtbgfabkneifccaaDoor
