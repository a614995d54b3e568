/-
  What a block's step answers: a row of its own.
-/
import Derived.Test.YtalopffpaepaaaaSBlk1
namespace Go.Proofs.Ytalopffpaepaaaa
open Go.RowKit
set_option linter.unusedVariables false

theorem StepR.own {w w' : World} {e : Ending} {zs : List Int} (h : StepR w w' e zs) (hz : zs.length ≤ 3) : e = .returned (.slice (some ⟨w.heap.size, 0, none⟩) zs.length zs.length) ∧ Own w' w.heap.size (.slice (some ⟨w.heap.size, 0, none⟩) zs.length zs.length) zs ∧ Below w.heap.size w w' := by
  obtain ⟨h1, h2, h3⟩ := h
  exact ⟨h1, ⟨by simp, .inr ⟨w.heap.size, zs.length, _, rfl, Nat.le_refl _, h2, Nat.le_refl _, by unfold maxLen; omega, by simp, by rw [Nat.mul_one]; exact List.take_of_length_le (by simp)⟩⟩, h3⟩
/-- the cells of numbers -/
theorem Nums.at {w : World} {a : Option Addr} {zs : List Int} (h : Nums w a zs) (hp : 0 < zs.length) : ∃ b o, a = some ⟨b, o, none⟩ ∧ ∀ i, i < zs.length → w.cell? ⟨b, o + i, none⟩ = some (.int .i64 (zs.getD i 0)) := by
  rcases h with h | ⟨b, o, rfl, hc⟩
  · rw [h] at hp; simp at hp
  · exact ⟨b, o, rfl, hc⟩
theorem word_at {zs : List Int} (h : wordsB zs = true) (hp : 0 < zs.length) : 0 ≤ zs.getD 0 0 ∧ zs.getD 0 0 ≤ 65535 := by
  apply wordsB_mem h
  rw [List.getD_eq_getElem?_getD, List.getElem?_eq_getElem hp]; simp
theorem bk_pos (op : Int) : 0 < bkN op ∧ 0 < bkA op := by
  unfold bkN bkA
  split
  · exact ⟨by omega, by omega⟩
  split
  · exact ⟨by omega, by omega⟩
  split <;> exact ⟨by omega, by omega⟩

end Go.Proofs.Ytalopffpaepaaaa
