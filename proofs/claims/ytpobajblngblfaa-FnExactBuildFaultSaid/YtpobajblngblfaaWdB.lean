/-
  Rows of words, plainly; a bool as a number.
-/
import Derived.Test.YtpobajblngblfaaIn
namespace Go.Proofs.Ytpobajblngblfaa
open Go.RowKit
set_option linter.unusedVariables false

def b01 (b : Bool) : Int := if b then 1 else 0
def wordsB (zs : List Int) : Bool := zs.all (fun z => inB z 0 65535)
theorem wordsB_mem {zs : List Int} (h : wordsB zs = true) {z : Int} (hz : z ∈ zs) : 0 ≤ z ∧ z ≤ 65535 := by
  unfold wordsB at h
  rw [List.all_eq_true] at h
  exact inB_iff.1 (h z hz)
theorem wordsB_ok {zs : List Int} (h : ∀ j, j < zs.length → 0 ≤ zs.getD j 0 ∧ zs.getD j 0 ≤ 65535) : wordsB zs = true := by
  unfold wordsB
  rw [List.all_eq_true]
  intro z hz
  obtain ⟨i, hi, rfl⟩ := List.getElem_of_mem hz
  have := h i hi
  rw [List.getD_eq_getElem?_getD, List.getElem?_eq_getElem hi] at this
  exact inB_iff.2 this
theorem wordsB_bad {zs : List Int} (i : Nat) (hi : i < zs.length) (h : zs.getD i 0 < 0 ∨ 65535 < zs.getD i 0) : wordsB zs = false := by
  cases hw : wordsB zs with
  | false => rfl
  | true =>
    have hm : zs.getD i 0 ∈ zs := by rw [List.getD_eq_getElem?_getD, List.getElem?_eq_getElem hi]; simp
    have := wordsB_mem hw hm
    omega
theorem wordsB_get {zs : List Int} (h : wordsB zs = true) {i : Nat} (hi : i < zs.length) : 0 ≤ zs.getD i 0 ∧ zs.getD i 0 ≤ 65535 :=
  wordsB_mem h (by rw [List.getD_eq_getElem?_getD, List.getElem?_eq_getElem hi]; simp)
theorem wordsB_take {zs : List Int} (h : wordsB zs = true) (n : Nat) : wordsB (zs.take n) = true := by
  unfold wordsB at *
  rw [List.all_eq_true] at *
  exact fun z hz => h z (List.mem_of_mem_take hz)
theorem wordsB_snoc {zs : List Int} (h : wordsB zs = true) {z : Int} (h0 : 0 ≤ z) (h1 : z ≤ 65535) : wordsB (zs ++ [z]) = true := by
  unfold wordsB at *
  rw [List.all_append, h]
  simp [inB, h0, h1]
theorem wordsB_set {zs : List Int} (h : wordsB zs = true) {z : Int} (i : Nat) (h0 : 0 ≤ z) (h1 : z ≤ 65535) : wordsB (zs.set i z) = true := by
  unfold wordsB at *
  rw [List.all_eq_true] at *
  intro x hx
  rcases List.mem_or_eq_of_mem_set hx with hx | rfl
  · exact h x hx
  · exact inB_iff.2 ⟨h0, h1⟩
/-- all of the first n rows -/
def allB (Z : Nat → List Int) (n : Nat) : Bool := (List.range n).all (fun i => wordsB (Z i))
theorem allB_ok {Z : Nat → List Int} {n : Nat} (h : ∀ i, i < n → wordsB (Z i) = true) : allB Z n = true := by
  unfold allB
  rw [List.all_eq_true]
  exact fun i hi => h i (List.mem_range.1 hi)
theorem allB_bad {Z : Nat → List Int} {n : Nat} (i : Nat) (hi : i < n) (h : wordsB (Z i) = false) : allB Z n = false := by
  cases hw : allB Z n with
  | false => rfl
  | true =>
    unfold allB at hw
    rw [List.all_eq_true] at hw
    rw [hw i (List.mem_range.2 hi)] at h
    cases h
theorem allB_one (Z : Nat → List Int) : allB Z 1 = wordsB (Z 0) := by
  unfold allB; simp [List.range_succ]
theorem allB_three (Z : Nat → List Int) : allB Z 3 = (wordsB (Z 0) && wordsB (Z 1) && wordsB (Z 2)) := by
  unfold allB; simp [List.range_succ, Bool.and_assoc]
end Go.Proofs.Ytpobajblngblfaa
