/-
  impl.TokenText: the text of a token that its own text tells; where the variables strconv.ErrSyntax, ErrRange hold a value.
-/
import Derived.Test.YtbgfabkneifccaaDoorILexT
import Derived.Test.YtbgfabkneifccaaDoorSSpell
namespace Go.Proofs.YtbgfabkneifccaaDoor
open Go.RowKit
set_option linter.unusedVariables false
attribute [local go_sem] bs_size bs_get bs_extract bs_append bs_eq bs_toList

theorem lexF_err : ∀ (f : Nat) (l : List UInt8) (p : Nat) (acc : List (Tok × Nat)), (lexF f l p acc).1 ≠ 0 → (lexF f l p acc).2.2 = [] := by
  intro f
  induction f with
  | zero => intro l p acc h; exact absurd rfl h
  | succ f ih =>
    intro l p acc h
    cases l with
    | nil => exact absurd rfl h
    | cons c r =>
      simp only [lexF] at h ⊢
      split at h
      · rename_i hb; rw [if_pos hb]; exact ih _ _ _ h
      · rename_i hb
        rw [if_neg hb]
        split at h
        · rename_i hm; rw [if_pos hm]
        · rename_i hm
          rw [if_neg hm]
          cases ho : oneL (c :: r) with
          | none => rfl
          | some t => rw [ho] at h; exact ih _ _ _ h
theorem lexL_err (l : List UInt8) (h : (lexL l).1 ≠ 0) : (lexL l).2.2 = [] := by
  unfold lexL at h ⊢
  split
  · rfl
  · rename_i h2; rw [if_neg h2] at h; exact lexF_err _ _ _ _ h
theorem fieldT (c q : Int) (v : Value) (w : World) : (Instr.field 27 (.agg #[.int .i64 c, .int .i64 q, v]) 2).run Tryd.prog w = .ok v w := by kernel_rfl

/-- a token and an answer, laid just ahead of a call, behind it -/
theorem own42 {w w' : World} {r0 r1 r2 r3 s0 s1 : Value} {T U : TypeId} (hb : Below ((w.alloc (.cells #[r0, r1, r2, r3] T)).alloc (.cells #[s0, s1] U)).heap.size ((w.alloc (.cells #[r0, r1, r2, r3] T)).alloc (.cells #[s0, s1] U)) w') :
    (w'.cell? ⟨w.heap.size, 0, none⟩ = some r0 ∧ w'.cell? ⟨w.heap.size, 1, none⟩ = some r1 ∧ w'.cell? ⟨w.heap.size, 2, none⟩ = some r2 ∧ w'.cell? ⟨w.heap.size, 3, none⟩ = some r3) ∧
    (w'.cell? ⟨w.heap.size + 1, 0, none⟩ = some s0 ∧ w'.cell? ⟨w.heap.size + 1, 1, none⟩ = some s1) ∧ (w'.frozen? ⟨w.heap.size + 1, 0, none⟩ = false ∧ w'.frozen? ⟨w.heap.size + 1, 1, none⟩ = false) ∧ w.heap.size + 1 < w'.heap.size ∧ Below w.heap.size w w' := by
  have e1 := hb.block w.heap.size (by simp; omega)
  have e2 := hb.block (w.heap.size + 1) (by simp)
  rw [Below.heap_alloc _ _ _ (by simp), heap_alloc_new w _] at e1
  rw [show w.heap.size + 1 = (w.alloc (.cells #[r0, r1, r2, r3] T)).heap.size from by simp, heap_alloc_new _ _] at e2
  have b0 := cell_of_row _ _ 0 _ _ _ e2
  have b1 := cell_of_row _ _ 1 _ _ _ e2
  have f0 := frozen_of_row _ _ 0 _ _ e2
  have f1 := frozen_of_row _ _ 1 _ _ e2
  simp at b0 b1 f0 f1
  exact ⟨⟨cell_of_row _ _ 0 _ _ _ e1, cell_of_row _ _ 1 _ _ _ e1, cell_of_row _ _ 2 _ _ _ e1, cell_of_row _ _ 3 _ _ _ e1⟩, ⟨b0, b1⟩, ⟨f0, f1⟩, by have := hb.size; simp at this; omega,
    (((Below.refl w.heap.size w).alloc (Nat.le_refl _) _).alloc (by simp) _).trans (hb.mono (by simp; omega))⟩

set_option maxHeartbeats 6400000 in
set_option maxRecDepth 100000 in
theorem implText_any (t : Tok) (q : Int) (w : World) (hl : t.text.length ≤ 2000000) (hE : Errs w) : Calls Tryd.prog 12 #[tokV t q] w fun e w' => e = .returned (txt (if rightL t then 0 else 1) (if rightL t then t.text else [])) ∧ Below w.heap.size w w' := by
  have hE2 : Errs ((w.alloc (.cells #[.int .i64 t.kind, .string (bs t.text), .int .i64 t.num, .int .i64 q] 33)).alloc (.cells #[.int .i64 0, .string ⟨#[]⟩] 30)) := hE.below (((Below.refl _ _).alloc (Nat.le_refl _) _).alloc (by simp) _)
  have hlex := implLex_any t.text _ hl hE2
  have herr := lexL_err t.text
  have hfl := fieldT
  unfold rightL
  generalize lexL t.text = R at *
  obtain ⟨C, P, T⟩ := R
  have HL : Hid (Calls Tryd.prog 9 #[.string (bs t.text)] ((w.alloc (.cells #[.int .i64 t.kind, .string (bs t.text), .int .i64 t.num, .int .i64 q] 33)).alloc (.cells #[.int .i64 0, .string ⟨#[]⟩] 30)) fun e w' => Lexed (C, P, T) ((w.alloc (.cells #[.int .i64 t.kind, .string (bs t.text), .int .i64 t.num, .int .i64 q] 33)).alloc (.cells #[.int .i64 0, .string ⟨#[]⟩] 30)).heap.size e w' ∧ Below ((w.alloc (.cells #[.int .i64 t.kind, .string (bs t.text), .int .i64 t.num, .int .i64 q] 33)).alloc (.cells #[.int .i64 0, .string ⟨#[]⟩] 30)).heap.size ((w.alloc (.cells #[.int .i64 t.kind, .string (bs t.text), .int .i64 t.num, .int .i64 q] 33)).alloc (.cells #[.int .i64 0, .string ⟨#[]⟩] 30)) w') := hlex
  clear hE hE2 hlex hl
  match T with
  | [] =>
    have hr : rightR t (C, P, []) = false := by unfold rightR; simp
    rw [hr]
    clear hr herr
    rw [if_neg (by simp), if_neg (by simp)]
    go_enter Tryd.func12, Tryd.ntmps12
    go_wp2_with fail
    refine HL.out.mono ?_
    rintro e w1 ⟨hx, hb⟩
    obtain ⟨ad, cp, rfl, hown⟩ := lexed_lt hx
    obtain ⟨⟨b0, b1, b2, b3⟩, ⟨r0, r1⟩, ⟨f0, f1⟩, hz, hB⟩ := own42 hb
    clear hx hown hb HL
    go_wp2_with fail
    refine bodyPost_ret (v := txt 1 []) (by simp [results, Tryd.results12, go_sem, r0, r1]; rfl) rfl ⟨rfl, ?_⟩
    go_grown
  | [(x, xp)] =>
    have hc : C = 0 := by
      rcases Decidable.em (C = 0) with h | h
      · exact h
      · have := herr h; cases this
    subst hc
    rw [rightR_one]
    clear herr
    by_cases hall : x.kind = t.kind ∧ x.text = t.text ∧ x.num = t.num
    · obtain ⟨h1, h3, h2⟩ := hall
      have hr : (x.kind == t.kind && (x.num == t.num && x.text == t.text)) = true := by rw [h1, h2, h3]; simp
      rw [hr, if_pos rfl, if_pos rfl]
      have H3 : Hid (x.text = t.text) := h3
      have n3 : (x.text == t.text) = true := by simpa using h3
      have n1 : (x.kind != t.kind) = false := by simpa using h1
      have n2 : (x.num != t.num) = false := by simpa using h2
      clear hr h1 h2 h3
      go_enter Tryd.func12, Tryd.ntmps12
      go_wp2_with fail
      refine HL.out.mono ?_
      rintro e w1 ⟨hx, hb⟩
      obtain ⟨ad, cp, rfl, hown⟩ := lexed_lt hx
      obtain ⟨g, rfl, hg1, hg2, hcell⟩ := own_cells hown (by simp [tokCells])
      have c0 := hcell 0 (.int .i64 x.kind) rfl
      have c1 := hcell 1 (.string (bs x.text)) rfl
      have c2 := hcell 2 (.int .i64 x.num) rfl
      have c3 := hcell 3 (.int .i64 (xp : Int)) rfl
      obtain ⟨⟨b0, b1, b2, b3⟩, ⟨r0, r1⟩, ⟨f0, f1⟩, hz, hB⟩ := own42 hb
      clear hx hown hcell hb HL hg1
      have m1 : g ≠ w1.heap.size := by omega
      have m2 : w.heap.size ≠ w1.heap.size := by omega
      have m3 : w.heap.size + 1 ≠ w1.heap.size := by omega
      have hz0 : w.heap.size < w1.heap.size := by omega
      go_wp2_with fail
      refine bodyPost_ret (v := txt 0 x.text) (by simp [results, Tryd.results12, go_sem, r0, r1, hz]) rfl ⟨by rw [H3.out], ?_⟩
      go_grown
    · have hr : (x.kind == t.kind && (x.num == t.num && x.text == t.text)) = false := by
        cases hx : (x.kind == t.kind && (x.num == t.num && x.text == t.text))
        · rfl
        · simp only [Bool.and_eq_true, beq_iff_eq] at hx
          exact absurd ⟨hx.1, hx.2.2, hx.2.1⟩ hall
      rw [hr, if_neg (by simp), if_neg (by simp)]
      have hcase : (x.kind != t.kind) = true ∨ ((x.kind != t.kind) = false ∧ (x.text == t.text) = false) ∨ ((x.kind != t.kind) = false ∧ (x.text == t.text) = true ∧ (x.num != t.num) = true) := by
        by_cases h1 : x.kind = t.kind
        · by_cases h3 : x.text = t.text
          · exact .inr (.inr ⟨by simpa using h1, by simpa using h3, by simpa using fun h2 => hall ⟨h1, h3, h2⟩⟩)
          · exact .inr (.inl ⟨by simpa using h1, by simpa using h3⟩)
        · exact .inl (by simpa using h1)
      clear hr hall
      rcases hcase with n1 | ⟨n1, n3⟩ | ⟨n1, n3, n2⟩
      all_goals
        go_enter Tryd.func12, Tryd.ntmps12
        go_wp2_with fail
        refine HL.out.mono ?_
        rintro e w1 ⟨hx, hb⟩
        obtain ⟨ad, cp, rfl, hown⟩ := lexed_lt hx
        obtain ⟨g, rfl, hg1, hg2, hcell⟩ := own_cells hown (by simp [tokCells])
        have c0 := hcell 0 (.int .i64 x.kind) rfl
        have c1 := hcell 1 (.string (bs x.text)) rfl
        have c2 := hcell 2 (.int .i64 x.num) rfl
        have c3 := hcell 3 (.int .i64 (xp : Int)) rfl
        obtain ⟨⟨b0, b1, b2, b3⟩, ⟨r0, r1⟩, ⟨f0, f1⟩, hz, hB⟩ := own42 hb
        clear hx hown hcell hb HL hg1
        have m1 : g ≠ w1.heap.size := by omega
        have m2 : w.heap.size ≠ w1.heap.size := by omega
        have m3 : w.heap.size + 1 ≠ w1.heap.size := by omega
        have hz0 : w.heap.size < w1.heap.size := by omega
        go_wp2_with fail
        refine bodyPost_ret (v := txt 1 []) (by simp [results, Tryd.results12, go_sem, r0, r1, hz]; rfl) rfl ⟨rfl, ?_⟩
        go_grown
  | x :: y :: T =>
    have hr : rightR t (C, P, x :: y :: T) = false := by unfold rightR; simp
    rw [hr]
    clear hr herr
    rw [if_neg (by simp), if_neg (by simp)]
    have hlen : ((((x :: y :: T).length : Nat) : Int) != 1) = true := by simp; omega
    generalize x :: y :: T = L at *
    go_enter Tryd.func12, Tryd.ntmps12
    go_wp2_with fail
    refine HL.out.mono ?_
    rintro e w1 ⟨hx, hb⟩
    obtain ⟨ad, cp, rfl, hown⟩ := lexed_lt hx
    obtain ⟨⟨b0, b1, b2, b3⟩, ⟨r0, r1⟩, ⟨f0, f1⟩, hz, hB⟩ := own42 hb
    clear hx hown hb HL
    go_wp2_with fail
    refine bodyPost_ret (v := txt 1 []) (by simp [results, Tryd.results12, go_sem, r0, r1]; rfl) rfl ⟨rfl, ?_⟩
    go_grown
end Go.Proofs.YtbgfabkneifccaaDoor
