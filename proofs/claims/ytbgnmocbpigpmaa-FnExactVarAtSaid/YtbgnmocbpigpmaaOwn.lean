/-
  ownB, kind by kind.
-/
import Derived.Test.YtbgnmocbpigpmaaFaultM
namespace Go.Proofs.Ytbgnmocbpigpmaa
open Go.RowKit
set_option linter.unusedVariables false

theorem isNameL_nil : isNameL [] = false := by decide +kernel
theorem ownK1 (op : Int) (name : List UInt8) (num far : Int) (kids thn els : List Int) : ownB (⟨1, op, name, num, far, kids, thn, els⟩ : LNode) = (decide (op = 0) && name.isEmpty && inB num 0 65535 && decide (far = 0) && kids.isEmpty && thn.isEmpty && els.isEmpty) := by
  have hn := isNameL_nil
  rw [Bool.eq_iff_iff]
  cases name <;> simp [ownB, wantsN, inB, hn] <;> (try (intros; constructor <;> intro h <;> (try simp_all) <;> (try omega)))
theorem ownK2 (op : Int) (name : List UInt8) (num far : Int) (kids thn els : List Int) : ownB (⟨2, op, name, num, far, kids, thn, els⟩ : LNode) = (decide (op = 0) && isNameL name && decide (num = 0) && decide (far = 0) && kids.isEmpty && thn.isEmpty && els.isEmpty) := by
  have hn := isNameL_nil
  rw [Bool.eq_iff_iff]
  cases name <;> simp [ownB, wantsN, inB, hn] <;> (try (intros; constructor <;> intro h <;> (try simp_all) <;> (try omega)))
theorem ownK3 (op : Int) (name : List UInt8) (num far : Int) (kids thn els : List Int) : ownB (⟨3, op, name, num, far, kids, thn, els⟩ : LNode) = (decide (op = 0) && isNameL name && decide (num = 0) && decide (far = 0) && decide (1 ≤ kids.length ∧ kids.length ≤ 1) && thn.isEmpty && els.isEmpty) := by
  have hn := isNameL_nil
  rw [Bool.eq_iff_iff]
  cases name <;> simp [ownB, wantsN, inB, hn] <;> (try (intros; constructor <;> intro h <;> (try simp_all) <;> (try omega)))
theorem ownK4 (op : Int) (name : List UInt8) (num far : Int) (kids thn els : List Int) : ownB (⟨4, op, name, num, far, kids, thn, els⟩ : LNode) = (decide (op = 0) && name.isEmpty && decide (num = 0) && decide (far = 0) && decide (1 ≤ kids.length ∧ kids.length ≤ 1) && thn.isEmpty && els.isEmpty) := by
  have hn := isNameL_nil
  rw [Bool.eq_iff_iff]
  cases name <;> simp [ownB, wantsN, inB, hn] <;> (try (intros; constructor <;> intro h <;> (try simp_all) <;> (try omega)))
theorem ownK5 (op : Int) (name : List UInt8) (num far : Int) (kids thn els : List Int) : ownB (⟨5, op, name, num, far, kids, thn, els⟩ : LNode) = (decide (op = 0) && name.isEmpty && decide (num = 0) && decide (far = 0) && decide (1 ≤ kids.length ∧ kids.length ≤ 1) && thn.isEmpty && els.isEmpty) := by
  have hn := isNameL_nil
  rw [Bool.eq_iff_iff]
  cases name <;> simp [ownB, wantsN, inB, hn] <;> (try (intros; constructor <;> intro h <;> (try simp_all) <;> (try omega)))
theorem ownK6 (op : Int) (name : List UInt8) (num far : Int) (kids thn els : List Int) : ownB (⟨6, op, name, num, far, kids, thn, els⟩ : LNode) = (inB op 1 10 && name.isEmpty && decide (num = 0) && decide (far = 0) && decide (2 ≤ kids.length ∧ kids.length ≤ 2) && thn.isEmpty && els.isEmpty) := by
  have hn := isNameL_nil
  rw [Bool.eq_iff_iff]
  cases name <;> simp [ownB, wantsN, inB, hn] <;> (try (intros; constructor <;> intro h <;> (try simp_all) <;> (try omega)))
theorem ownK7 (op : Int) (name : List UInt8) (num far : Int) (kids thn els : List Int) : ownB (⟨7, op, name, num, far, kids, thn, els⟩ : LNode) = (decide (op = 0) && isNameL name && decide (num = 0) && decide (far = 0) && decide (1 ≤ kids.length ∧ kids.length ≤ 1) && thn.isEmpty && els.isEmpty) := by
  have hn := isNameL_nil
  rw [Bool.eq_iff_iff]
  cases name <;> simp [ownB, wantsN, inB, hn] <;> (try (intros; constructor <;> intro h <;> (try simp_all) <;> (try omega)))
theorem ownK8 (op : Int) (name : List UInt8) (num far : Int) (kids thn els : List Int) : ownB (⟨8, op, name, num, far, kids, thn, els⟩ : LNode) = (decide (op = 0) && isNameL name && decide (num = 0) && decide (far = 0) && decide (2 ≤ kids.length ∧ kids.length ≤ 2) && thn.isEmpty && els.isEmpty) := by
  have hn := isNameL_nil
  rw [Bool.eq_iff_iff]
  cases name <;> simp [ownB, wantsN, inB, hn] <;> (try (intros; constructor <;> intro h <;> (try simp_all) <;> (try omega)))
theorem ownK9 (op : Int) (name : List UInt8) (num far : Int) (kids thn els : List Int) : ownB (⟨9, op, name, num, far, kids, thn, els⟩ : LNode) = (decide (op = 0) && name.isEmpty && decide (num = 0) && decide (far = 0) && decide (1 ≤ kids.length ∧ kids.length ≤ 1)) := by
  have hn := isNameL_nil
  rw [Bool.eq_iff_iff]
  cases name <;> simp [ownB, wantsN, inB, hn] <;> (try (intros; constructor <;> intro h <;> (try simp_all) <;> (try omega)))
theorem ownK10 (op : Int) (name : List UInt8) (num far : Int) (kids thn els : List Int) : ownB (⟨10, op, name, num, far, kids, thn, els⟩ : LNode) = (decide (op = 0) && isNameL name && inB num 0 65535 && inB far 0 65535 && kids.isEmpty && els.isEmpty) := by
  have hn := isNameL_nil
  rw [Bool.eq_iff_iff]
  cases name <;> simp [ownB, wantsN, inB, hn] <;> (try (intros; constructor <;> intro h <;> (try simp_all) <;> (try omega)))
theorem ownK11 (op : Int) (name : List UInt8) (num far : Int) (kids thn els : List Int) : ownB (⟨11, op, name, num, far, kids, thn, els⟩ : LNode) = (inB op 1 4 && isNameL name && decide (num = 0) && decide (far = 0) && decide (1 ≤ kids.length ∧ kids.length ≤ 3) && thn.isEmpty && els.isEmpty) := by
  have hn := isNameL_nil
  rw [Bool.eq_iff_iff]
  cases name <;> simp [ownB, wantsN, inB, hn] <;> (try (intros; constructor <;> intro h <;> (try simp_all) <;> (try omega)))
end Go.Proofs.Ytbgnmocbpigpmaa
