/-
  Steps of blocks, plainly: a step of what a step answers; by how much a count turns.
-/
import Derived.Test.YtalopffpaepaaaaBlkH
namespace Go.Proofs.Ytalopffpaepaaaa
open Go.RowKit
set_option linter.unusedVariables false

theorem blkC_zero {op : Int} {zs ys : List Int} (h : blkC op zs ys = 0) : (1 ≤ op ∧ op ≤ 4) ∧ zs.length = bkN op ∧ ys.length = bkA op ∧ wordsB zs = true ∧ wordsB ys = true := by
  unfold blkC at h
  split at h
  · simp at h
  rename_i h1
  split at h
  · simp at h
  rename_i h2
  unfold fitB at h2
  simp only [Bool.not_eq_false, Bool.and_eq_true, decide_eq_true_eq] at h2
  exact ⟨by omega, h2.1.1.1, h2.1.1.2, h2.1.2, h2.2⟩
theorem b01_word (b : Bool) : inB (b01 b) 0 65535 = true := by cases b <;> rfl
theorem wd_word (x : Int) : inB (wd x) 0 65535 = true := inB_iff.2 ⟨wd_lo x, by have := wd_hi x; omega⟩
theorem ctuC_word {k0 k1 a0 a1 : Int} (h : 0 ≤ k0 ∧ k0 ≤ 65535) : inB (ctuC k0 k1 a0 a1) 0 65535 = true := by
  unfold ctuC
  split
  · rfl
  split
  · exact wd_word _
  · exact inB_iff.2 h
theorem tonC_word {k0 a0 a1 : Int} (h : 0 ≤ k0 ∧ k0 ≤ 65535) : inB (tonC k0 a0 a1) 0 65535 = true := by
  unfold tonC
  split
  · rfl
  split
  · exact wd_word _
  · exact inB_iff.2 h
theorem blkL_words {op : Int} {zs ys : List Int} (hz : wordsB zs = true) (hp : 0 < zs.length) : wordsB (blkL op zs ys) = true := by
  have hk := word_at hz hp
  unfold blkL wordsB
  split
  · simp only [List.all_cons, List.all_nil, b01_word, ctuC_word hk, Bool.and_self]
  split
  · simp only [List.all_cons, List.all_nil, b01_word, tonC_word hk, Bool.and_self]
  split
  · simp only [List.all_cons, List.all_nil, b01_word, Bool.and_self]
  · simp only [List.all_cons, List.all_nil, b01_word, Bool.and_self]
theorem blkC_again {op : Int} {zs ys : List Int} (h : blkC op zs ys = 0) : blkC op (blkL op zs ys) ys = 0 := by
  obtain ⟨h1, h2, h3, h4, h5⟩ := blkC_zero h
  have hp := (bk_pos op).1
  unfold blkC
  rw [if_neg (by omega), if_neg]
  unfold fitB
  rw [decide_eq_true (blkL_len op zs ys), decide_eq_true h3, blkL_words h4 (by omega), h5]
  simp
theorem ctu_again (k0 k1 a0 : Int) : ctuC (ctuC k0 k1 a0 0) (b01 (decide (a0 ≠ 0))) a0 0 = ctuC k0 k1 a0 0 := by
  by_cases h : a0 = 0
  · unfold ctuC; simp [h]
  · have : b01 (decide (a0 ≠ 0)) = 1 := by unfold b01; rw [decide_eq_true h]; rfl
    rw [this]
    generalize ctuC k0 k1 a0 0 = C
    unfold ctuC; simp
theorem wd_one {k0 : Int} (h : 0 ≤ k0 ∧ k0 ≤ 65535) : wd (wd (k0 + 1) - k0) = 1 := by unfold wd; omega
theorem wd_none (k0 : Int) : wd (k0 - k0) = 0 := by unfold wd; omega
theorem ctu_step {k0 k1 a0 : Int} (h : 0 ≤ k0 ∧ k0 ≤ 65535) : wd (ctuC k0 k1 a0 0 - k0) = 0 ∨ wd (ctuC k0 k1 a0 0 - k0) = 1 := by
  unfold ctuC
  rw [if_neg (by simp)]
  split
  · exact .inr (wd_one h)
  · exact .inl (wd_none k0)
theorem ton_step {k0 a0 a1 : Int} (h : 0 ≤ k0 ∧ k0 ≤ 65535) (ha : a0 ≠ 0) : wd (tonC k0 a0 a1 - k0) = 0 ∨ wd (tonC k0 a0 a1 - k0) = 1 := by
  unfold tonC
  rw [if_neg ha]
  split
  · exact .inr (wd_one h)
  · exact .inl (wd_none k0)
theorem ctuC_reset {k0 k1 a0 a1 : Int} (h : a1 ≠ 0) : ctuC k0 k1 a0 a1 = 0 := by unfold ctuC; rw [if_pos h]
theorem tonC_off (k0 a1 : Int) : tonC k0 0 a1 = 0 := by unfold tonC; rw [if_pos rfl]
theorem trig_again (a0 : Int) : b01 (decide (a0 ≠ 0 ∧ b01 (decide (a0 ≠ 0)) = 0)) = 0 := by
  by_cases h : a0 = 0
  · simp [h, b01]
  · have : b01 (decide (a0 ≠ 0)) = 1 := by unfold b01; rw [decide_eq_true h]; rfl
    rw [this]; simp [b01]
theorem sr_again (k0 a0 a1 : Int) : b01 (decide (a0 ≠ 0 ∨ (b01 (decide (a0 ≠ 0 ∨ (k0 ≠ 0 ∧ a1 = 0))) ≠ 0 ∧ a1 = 0))) = b01 (decide (a0 ≠ 0 ∨ (k0 ≠ 0 ∧ a1 = 0))) := by
  by_cases h : a0 = 0
  · by_cases h1 : a1 = 0
    · by_cases h2 : k0 = 0
      · subst h h1 h2; rfl
      · simp [h, h1, h2, b01]
    · simp [h, h1, b01]
  · simp [h]
theorem list3 {l : List Int} (h : l.length = 3) : l = [l.getD 0 0, l.getD 1 0, l.getD 2 0] := by
  match l, h with
  | [a, b, c], _ => rfl
theorem list2 {l : List Int} (h : l.length = 2) : l = [l.getD 0 0, l.getD 1 0] := by
  match l, h with
  | [a, b], _ => rfl
theorem list1 {l : List Int} (h : l.length = 1) : l = [l.getD 0 0] := by
  match l, h with
  | [a], _ => rfl
end Go.Proofs.Ytalopffpaepaaaa
