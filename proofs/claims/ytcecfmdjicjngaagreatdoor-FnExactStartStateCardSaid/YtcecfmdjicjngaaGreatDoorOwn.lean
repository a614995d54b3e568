/-
  ownB, kind by kind.
-/
import Derived.Test.YtcecfmdjicjngaaGreatDoorTreeM
import Derived.Test.YtcecfmdjicjngaaGreatDoorFaultM
namespace Go.Proofs.YtcecfmdjicjngaaGreatDoor
open Go.RowKit
set_option linter.unusedVariables false
attribute [local go_sem] bs_size bs_get bs_extract bs_append bs_eq bs_toList
def ownOf (K : Int) (op : Int) (nm : List UInt8) : List LVar :=
 if op = 1 then [⟨nm ++ [118], K, 1, 0⟩, ⟨nm ++ [109], K, 2, 0⟩, ⟨nm ++ [113], K, 2, 0⟩]
 else if op = 2 then [⟨nm ++ [118], K, 1, 0⟩, ⟨nm ++ [113], K, 2, 0⟩]
 else if op = 3 then [⟨nm ++ [109], K, 2, 0⟩, ⟨nm ++ [113], K, 2, 0⟩]
 else [⟨nm ++ [113], K, 2, 0⟩]
theorem ownOf_len (K op : Int) (nm : List UInt8) : 1 ≤ (ownOf K op nm).length ∧ (ownOf K op nm).length ≤ 3 := by
 unfold ownOf; split
 ·simp
 split
 ·simp
 split <;> simp
theorem ownOf_size (K op : Int) (nm : List UInt8) : ∀ v ∈ ownOf K op nm, v.size = 0 := by
 intro v hv; unfold ownOf at hv
 split at hv
 ·simp at hv; rcases hv with rfl | rfl | rfl <;> rfl
 split at hv
 ·simp at hv; rcases hv with rfl | rfl <;> rfl
 split at hv
 ·simp at hv; rcases hv with rfl | rfl <;> rfl
 ·simp at hv; subst hv; rfl
theorem ownOf_name (K op : Int) (nm : List UInt8) : ownOf K op nm = (ownOf K op []).map fun v => { v with name := nm ++ v.name } := by
 unfold ownOf
 split
 ·rfl
 split
 ·rfl
 split <;> rfl
theorem ownOf_get {K op : Int} {nm : List UInt8} {j : Nat} {v : LVar} (h : (ownOf K op [])[j]? = some v) : (ownOf K op nm)[j]? = some { v with name := nm ++ v.name } := by rw [ownOf_name, List.getElem?_map, h]; rfl
theorem ownOf_len2 (K op : Int) (nm : List UInt8) : (ownOf K op nm).length = (ownOf K op []).length := by rw [ownOf_name K op nm, List.length_map]
def argsL (op : Int) : List Int := if op = 1 then [2, 2, 1] else if op = 2 then [2, 1] else if op = 3 then [2] else [2, 2]
end Go.Proofs.YtcecfmdjicjngaaGreatDoor
namespace Go.Proofs.YtcecfmdjicjngaaGreatDoor
open Go.RowKit
set_option linter.unusedVariables false
theorem isNameL_nil : isNameL [] = false := by decide +kernel
theorem ownK1 (op : Int) (name : List UInt8) (num far : Int) (kids thn els : List Int) : ownB (⟨1, op, name, num, far, kids, thn, els⟩ : LNode) = (decide (op = 0) && name.isEmpty && inB num 0 65535 && decide (far = 0) && kids.isEmpty && thn.isEmpty && els.isEmpty) := by
 have hn := isNameL_nil
 rw [Bool.eq_iff_iff]
 cases name <;> simp [ownB, wantsN, inB, hn] <;> (try (intros; constructor <;> intro h <;> (try simp_all) <;> (try omega)))
theorem ownK2 (op : Int) (name : List UInt8) (num far : Int) (kids thn els : List Int) : ownB (⟨2, op, name, num, far, kids, thn, els⟩ : LNode) = (decide (op = 0) && isNameL name && decide (num = 0) && decide (far = 0) && kids.isEmpty && thn.isEmpty && els.isEmpty) := by
 have hn := isNameL_nil
 rw [Bool.eq_iff_iff]
 cases name <;> simp [ownB, wantsN, inB, hn] <;> (try (intros; constructor <;> intro h <;> (try simp_all) <;> (try omega)))
theorem ownK3 (op : Int) (name : List UInt8) (num far : Int) (kids thn els : List Int) : ownB (⟨3, op, name, num, far, kids, thn, els⟩ : LNode) = (decide (op = 0) && isNameL name && decide (num = 0) && decide (far = 0) && decide (1 ≤ kids.length ∧ kids.length ≤ 1) && thn.isEmpty && els.isEmpty) := by
 have hn := isNameL_nil
 rw [Bool.eq_iff_iff]
 cases name <;> simp [ownB, wantsN, inB, hn] <;> (try (intros; constructor <;> intro h <;> (try simp_all) <;> (try omega)))
theorem ownK4 (op : Int) (name : List UInt8) (num far : Int) (kids thn els : List Int) : ownB (⟨4, op, name, num, far, kids, thn, els⟩ : LNode) = (decide (op = 0) && name.isEmpty && decide (num = 0) && decide (far = 0) && decide (1 ≤ kids.length ∧ kids.length ≤ 1) && thn.isEmpty && els.isEmpty) := by
 have hn := isNameL_nil
 rw [Bool.eq_iff_iff]
 cases name <;> simp [ownB, wantsN, inB, hn] <;> (try (intros; constructor <;> intro h <;> (try simp_all) <;> (try omega)))
theorem ownK5 (op : Int) (name : List UInt8) (num far : Int) (kids thn els : List Int) : ownB (⟨5, op, name, num, far, kids, thn, els⟩ : LNode) = (decide (op = 0) && name.isEmpty && decide (num = 0) && decide (far = 0) && decide (1 ≤ kids.length ∧ kids.length ≤ 1) && thn.isEmpty && els.isEmpty) := by
 have hn := isNameL_nil
 rw [Bool.eq_iff_iff]
 cases name <;> simp [ownB, wantsN, inB, hn] <;> (try (intros; constructor <;> intro h <;> (try simp_all) <;> (try omega)))
theorem ownK6 (op : Int) (name : List UInt8) (num far : Int) (kids thn els : List Int) : ownB (⟨6, op, name, num, far, kids, thn, els⟩ : LNode) = (inB op 1 10 && name.isEmpty && decide (num = 0) && decide (far = 0) && decide (2 ≤ kids.length ∧ kids.length ≤ 2) && thn.isEmpty && els.isEmpty) := by
 have hn := isNameL_nil
 rw [Bool.eq_iff_iff]
 cases name <;> simp [ownB, wantsN, inB, hn] <;> (try (intros; constructor <;> intro h <;> (try simp_all) <;> (try omega)))
theorem ownK7 (op : Int) (name : List UInt8) (num far : Int) (kids thn els : List Int) : ownB (⟨7, op, name, num, far, kids, thn, els⟩ : LNode) = (decide (op = 0) && isNameL name && decide (num = 0) && decide (far = 0) && decide (1 ≤ kids.length ∧ kids.length ≤ 1) && thn.isEmpty && els.isEmpty) := by
 have hn := isNameL_nil
 rw [Bool.eq_iff_iff]
 cases name <;> simp [ownB, wantsN, inB, hn] <;> (try (intros; constructor <;> intro h <;> (try simp_all) <;> (try omega)))
theorem ownK8 (op : Int) (name : List UInt8) (num far : Int) (kids thn els : List Int) : ownB (⟨8, op, name, num, far, kids, thn, els⟩ : LNode) = (decide (op = 0) && isNameL name && decide (num = 0) && decide (far = 0) && decide (2 ≤ kids.length ∧ kids.length ≤ 2) && thn.isEmpty && els.isEmpty) := by
 have hn := isNameL_nil
 rw [Bool.eq_iff_iff]
 cases name <;> simp [ownB, wantsN, inB, hn] <;> (try (intros; constructor <;> intro h <;> (try simp_all) <;> (try omega)))
theorem ownK9 (op : Int) (name : List UInt8) (num far : Int) (kids thn els : List Int) : ownB (⟨9, op, name, num, far, kids, thn, els⟩ : LNode) = (decide (op = 0) && name.isEmpty && decide (num = 0) && decide (far = 0) && decide (1 ≤ kids.length ∧ kids.length ≤ 1)) := by
 have hn := isNameL_nil
 rw [Bool.eq_iff_iff]
 cases name <;> simp [ownB, wantsN, inB, hn] <;> (try (intros; constructor <;> intro h <;> (try simp_all) <;> (try omega)))
theorem ownK10 (op : Int) (name : List UInt8) (num far : Int) (kids thn els : List Int) : ownB (⟨10, op, name, num, far, kids, thn, els⟩ : LNode) = (decide (op = 0) && isNameL name && inB num 0 65535 && inB far 0 65535 && kids.isEmpty && els.isEmpty) := by
 have hn := isNameL_nil
 rw [Bool.eq_iff_iff]
 cases name <;> simp [ownB, wantsN, inB, hn] <;> (try (intros; constructor <;> intro h <;> (try simp_all) <;> (try omega)))
theorem ownK11 (op : Int) (name : List UInt8) (num far : Int) (kids thn els : List Int) : ownB (⟨11, op, name, num, far, kids, thn, els⟩ : LNode) = (inB op 1 4 && isNameL name && decide (num = 0) && decide (far = 0) && decide (1 ≤ kids.length ∧ kids.length ≤ 3) && thn.isEmpty && els.isEmpty) := by
 have hn := isNameL_nil
 rw [Bool.eq_iff_iff]
 cases name <;> simp [ownB, wantsN, inB, hn] <;> (try (intros; constructor <;> intro h <;> (try simp_all) <;> (try omega)))
end Go.Proofs.YtcecfmdjicjngaaGreatDoor
