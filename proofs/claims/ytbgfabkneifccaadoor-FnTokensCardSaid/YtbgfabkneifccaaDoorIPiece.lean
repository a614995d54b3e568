/-
  The pieces that a text is cut into: what the token at a place is, by its piece. Plain mathematics.
-/
import Derived.Test.YtbgfabkneifccaaDoorITok
import Derived.Test.YtbgfabkneifccaaDoorTokM
namespace Go.Proofs.YtbgfabkneifccaaDoor
set_option linter.unusedVariables false

/-- the piece of k bytes at p tells the token at p -/
def Fit (l : List UInt8) (p k : Nat) : Prop :=
  oneL (l.drop p) = (if kindL ((l.drop p).take k) = 0 then none else some (tokL ((l.drop p).take k))) ∧
  (based ((l.drop p).take k) = true → (((l.drop p).take k).drop 3).length ≤ 4 → (((l.drop p).take k).drop 3).all isNum = true)

theorem piece_head (l : List UInt8) (p k : Nat) (hk : 1 ≤ k) (hp : p < l.length) : ((l.drop p).take k).getD 0 0 = ch l p := by
  rw [drop_at l p hp]
  obtain ⟨j, rfl⟩ : ∃ j, k = j + 1 := ⟨k - 1, by omega⟩
  rw [List.take_succ_cons]; rfl
theorem based_head {x : List UInt8} (h : based x = true) : x.getD 0 0 = 49 := by
  unfold based at h
  rw [Bool.and_eq_true] at h
  have h3 : x.take 3 = [49, 54, 35] := by simpa using h.2
  cases x with
  | nil => simp at h3
  | cons c r => rw [List.take_succ_cons] at h3; exact (List.cons.inj h3).1
theorem mark_head' {x : List UInt8} (h : isMarkL x = true) : isLet (x.getD 0 0) = false ∧ isDig (x.getD 0 0) = false := by
  unfold isMarkL at h
  obtain ⟨m, hm, he⟩ := List.any_eq_true.1 h
  have he : m = x := by simpa using he
  subst he
  exact ⟨(marks_head m hm).2.1, (marks_head m hm).2.2.1⟩
theorem dec_head {x : List UInt8} (h : decOk x = true) : isDig (x.getD 0 0) = true := by
  unfold decOk at h
  simp only [Bool.and_eq_true] at h
  obtain ⟨⟨⟨h1, _⟩, h2⟩, _⟩ := h
  have h1 := (of_decide_eq_true h1).1
  cases x with
  | nil => simp at h1
  | cons c r => exact List.all_eq_true.1 h2 c (by simp)
theorem num_head {x : List UInt8} (h : numOk x = true) : isDig (x.getD 0 0) = true := by
  unfold numOk at h
  cases hb : based x
  · rw [hb] at h; exact dec_head h
  · rw [based_head hb]; decide
theorem let_dig {c : UInt8} (h : isLet c = true) : isDig c = false := by
  have h' : (97 ≤ (c.toNat : Int) ∧ (c.toNat : Int) ≤ 122) ∨ (c.toNat : Int) = 95 := of_decide_eq_true h
  exact decide_eq_false (by omega)

theorem fit_let (l : List UInt8) (p k : Nat) (hp : p < l.length) (hc : isLet (ch l p) = true) (hk : 1 ≤ k) (hkl : p + k ≤ l.length) (h : ∀ j, j < k → isLet (ch l (p + j)) = true) (he : p + k = l.length ∨ isLet (ch l (p + k)) = false) : Fit l p k := by
  have hw := while_take hkl h he
  have hh := piece_head l p k hk hp
  have ho : oneL (l.drop p) = if isWordL ((l.drop p).take k) then some ⟨3, (l.drop p).take k, 0⟩ else if isNameL ((l.drop p).take k) then some ⟨1, (l.drop p).take k, 0⟩ else none := by
    rw [← hw]
    unfold oneL
    rw [drop_head]; simp only [hc]; rfl
  unfold Fit
  rw [ho]
  generalize (l.drop p).take k = x at *
  have hd : isDig (x.getD 0 0) = false := by rw [hh]; exact let_dig hc
  have hno : numOk x = false := by
    cases hx : numOk x
    · rfl
    · rw [num_head hx] at hd; cases hd
  have hma : isMarkL x = false := by
    cases hx : isMarkL x
    · rfl
    · have := (mark_head' hx).1; rw [hh, hc] at this; cases this
  refine ⟨?_, fun hb => ?_⟩
  · cases h1 : isWordL x <;> cases h2 : isNameL x <;> simp [kindL, tokL, h1, h2, hma, hno]
  · have := based_head hb
    rw [this] at hd; exact absurd hd (by decide)

theorem fit_dig (l : List UInt8) (p k : Nat) (hp : p < l.length) (hc : isDig (ch l p) = true) (hk : 1 ≤ k) (hkl : p + k ≤ l.length) (h : ∀ j, j < k → isNum (ch l (p + j)) = true) (he : p + k = l.length ∨ isNum (ch l (p + k)) = false) : Fit l p k := by
  have hw := while_take hkl h he
  have hh := piece_head l p k hk hp
  have hnl : isLet (ch l p) = false := by
    cases hx : isLet (ch l p)
    · rfl
    · rw [let_dig hx] at hc; cases hc
  have ho : oneL (l.drop p) = if numOk ((l.drop p).take k) then some ⟨2, (l.drop p).take k, numV ((l.drop p).take k)⟩ else none := by
    rw [← hw]
    unfold oneL
    rw [drop_head]; simp only [hc, hnl]; rfl
  have hall : ((l.drop p).take k).all isNum = true := by
    rw [← hw]
    exact List.all_eq_true.2 fun c hc => mem_while hc
  unfold Fit
  rw [ho]
  generalize (l.drop p).take k = x at *
  have h1 : isWordL x = false := by
    cases hx : isWordL x
    · rfl
    · have := word_head hx; rw [hh, hnl] at this; cases this
  have h2 : isNameL x = false := by
    cases hx : isNameL x
    · rfl
    · have := name_head hx; rw [hh, hnl] at this; cases this
  have h3 : isMarkL x = false := by
    cases hx : isMarkL x
    · rfl
    · have := (mark_head' hx).2; rw [hh, hc] at this; cases this
  refine ⟨?_, fun _ _ => all_drop hall 3⟩
  cases hx : numOk x <;> simp [kindL, tokL, numR, h1, h2, h3, hx]

theorem mark_in {x : List UInt8} : isMarkL x = true ↔ x ∈ marksL := by
  unfold isMarkL
  rw [List.any_eq_true]
  constructor
  · rintro ⟨m, hm, he⟩; have he : m = x := by simpa using he
    rwa [← he]
  · intro h; exact ⟨x, h, by simp⟩
theorem markL_some {l m : List UInt8} (hm : m ∈ marksL) (hp : m.isPrefixOf l = true) : markL l ≠ [] := by
  intro h
  unfold markL at h
  cases hf : marksL.find? (fun m => m.isPrefixOf l) with
  | none => exact absurd hp (by simpa using List.find?_eq_none.1 hf m hm)
  | some y =>
    rw [hf] at h
    exact (marks_head y (List.mem_of_find?_eq_some hf)).1 h
theorem prefix_le2 {m : List UInt8} {c : UInt8} {r : List UInt8} (h0 : m ≠ []) (h2 : m.length ≤ 2) (hp : m.isPrefixOf (c :: r) = true) : m = [c] ∨ (∃ d r', r = d :: r' ∧ m = [c, d]) := by
  obtain ⟨s, hs⟩ := List.isPrefixOf_iff_prefix.1 hp
  match m, h0, h2, hs with
  | [a], _, _, hs => left; rw [(List.cons.inj hs).1]
  | [a, b], _, _, hs =>
    right
    obtain ⟨e1, e2⟩ := List.cons.inj hs
    exact ⟨b, s, e2.symm, by rw [e1]⟩
/-- the mark that a text begins with, by its first two bytes -/
theorem markL_two (c d : UInt8) (r : List UInt8) : markL (c :: d :: r) = if isMarkL [c, d] then [c, d] else if isMarkL [c] then [c] else [] := by
  have hcg : markL (c :: d :: r) = markL [c, d] := by
    unfold markL
    exact congrArg (fun o => Option.getD o []) (find_congr _ _ marksL fun m hm => prefix_two m (marks_len m hm) [c] d r (by simp))
  rw [hcg]
  cases h2 : isMarkL [c, d]
  · have key : markL [c, d] ≠ [] → markL [c, d] = [c] ∧ isMarkL [c] = true := fun h => by
      obtain ⟨hm, hp⟩ := markL_mem [c, d] h
      rcases prefix_le2 h (marks_len _ hm) hp with e | ⟨d', r', e1, e2⟩
      · exact ⟨e, by rw [← e]; exact mark_in.2 hm⟩
      · have : d' = d := (List.cons.inj e1).1.symm
        subst this
        rw [e2] at hm
        rw [mark_in.2 hm] at h2; cases h2
    cases h1 : isMarkL [c]
    · rw [if_neg (by simp), if_neg (by simp)]
      cases hx : markL [c, d] with
      | nil => rfl
      | cons a b => have := (key (by rw [hx]; simp)).2; rw [h1] at this; cases this
    · rw [if_neg (by simp), if_pos rfl]
      exact (key (markL_some (m := [c]) (mark_in.1 h1) (by simp [List.isPrefixOf]))).1
  · rw [if_pos rfl]
    exact (marks_self _ (mark_in.1 h2)).1
theorem markL_one (c : UInt8) : markL [c] = if isMarkL [c] then [c] else [] := by
  cases h1 : isMarkL [c]
  · rw [if_neg (by simp)]
    cases hx : markL [c] with
    | nil => rfl
    | cons a b =>
      obtain ⟨hm, hp⟩ := markL_mem [c] (by rw [hx]; simp)
      rcases prefix_le2 (by rw [hx]; simp) (marks_len _ hm) hp with e | ⟨d', r', e1, e2⟩
      · rw [e] at hm; rw [mark_in.2 hm] at h1; cases h1
      · cases e1
  · rw [if_pos rfl]; exact (marks_self _ (mark_in.1 h1)).1

theorem fit_mark (l : List UInt8) (p k : Nat) (hp : p < l.length) (hc : isLet (ch l p) = false) (hd : isDig (ch l p) = false)
    (hk : (k = 2 ∧ p + 1 < l.length ∧ isMarkL ((l.drop p).take 2) = true) ∨ (k = 1 ∧ (p + 1 = l.length ∨ isMarkL ((l.drop p).take 2) = false))) : Fit l p k := by
  have ho : oneL (l.drop p) = if markL (l.drop p) = [] then none else some ⟨4, markL (l.drop p), 0⟩ := by
    unfold oneL
    rw [drop_head]; simp only [hc, hd]; rfl
  have hm : markL (l.drop p) = if isMarkL ((l.drop p).take k) then (l.drop p).take k else [] := by
    rw [drop_at l p hp] at hk ⊢
    by_cases h1 : p + 1 < l.length
    · rw [drop_at l (p + 1) h1] at hk ⊢
      rw [markL_two]
      rcases hk with ⟨rfl, _, h2⟩ | ⟨rfl, h2 | h2⟩
      · have e2 : ∀ (a b : UInt8) (r : List UInt8), (a :: b :: r).take 2 = [a, b] := fun _ _ _ => rfl
        rw [e2] at h2 ⊢
        rw [if_pos h2, if_pos h2]
      · omega
      · have e2 : ∀ (a b : UInt8) (r : List UInt8), (a :: b :: r).take 2 = [a, b] := fun _ _ _ => rfl
        have e1 : ∀ (a b : UInt8) (r : List UInt8), (a :: b :: r).take 1 = [a] := fun _ _ _ => rfl
        rw [e2] at h2
        rw [e1, if_neg (by rw [h2]; simp)]
    · rw [List.drop_eq_nil_of_le (by omega)]
      rcases hk with ⟨_, h2, _⟩ | ⟨rfl, _⟩
      · omega
      · rw [markL_one]; rfl
  have hk1 : 1 ≤ k ∧ k ≤ 2 := by rcases hk with ⟨rfl, _⟩ | ⟨rfl, _⟩ <;> omega
  have hh := piece_head l p k hk1.1 hp
  have hlen : ((l.drop p).take k).length ≤ 2 := by rw [List.length_take]; omega
  have hne : (l.drop p).take k ≠ [] := by
    intro e
    have := congrArg List.length e
    rw [List.length_take, List.length_drop] at this
    simp at this
    omega
  unfold Fit
  rw [ho, hm]
  generalize (l.drop p).take k = x at *
  have h1 : isWordL x = false := by
    cases hx : isWordL x
    · rfl
    · have := word_head hx; rw [hh, hc] at this; cases this
  have h2 : isNameL x = false := by
    cases hx : isNameL x
    · rfl
    · have := name_head hx; rw [hh, hc] at this; cases this
  have h3 : numOk x = false := by
    cases hx : numOk x
    · rfl
    · have := num_head hx; rw [hh, hd] at this; cases this
  refine ⟨?_, fun hb => ?_⟩
  · cases hx : isMarkL x <;> simp [kindL, tokL, h1, h2, h3, hx, hne]
  · unfold based at hb
    rw [Bool.and_eq_true] at hb
    exact absurd (of_decide_eq_true hb.1) (by omega)
end Go.Proofs.YtbgfabkneifccaaDoor
