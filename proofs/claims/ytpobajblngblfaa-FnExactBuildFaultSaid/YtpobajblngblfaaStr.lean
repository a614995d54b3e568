/-
  Strings as lists of bytes: their length, a byte, a piece, equality, one behind the other.
-/
import Derived.WalkKit
import Derived.Laws.Strings2
import Derived.Laws.Strings3
import Derived.Laws.Concat
namespace Go.Proofs.Ytpobajblngblfaa

/-- a text of bytes; its byte at a place -/
def bs (l : List UInt8) : ByteArray := ⟨l.toArray⟩
def ch (l : List UInt8) (k : Nat) : UInt8 := l.getD k 0

theorem bs_toList (l : List UInt8) : (bs l).toList = l := ByteArray.toList_mk l
theorem bs_size (l : List UInt8) : (bs l).size = l.length := rfl
theorem bs_get (l : List UInt8) (k : Nat) (h : k < (bs l).size) : (bs l)[k]'h = ch l k := by
  have h' : k < l.length := by rw [bs_size] at h; exact h
  show l.toArray[k] = l.getD k 0
  rw [List.getD_eq_getElem?_getD, List.getElem?_eq_getElem h']
  simp
theorem bs_extract (l : List UInt8) (a b : Nat) : (bs l).extract a b = bs ((l.drop a).take (b - a)) := ByteArray.extract_mk l a b
theorem bs_append (a b : List UInt8) : bs a ++ bs b = bs (a ++ b) := ByteArray.mk_append_mk a b
theorem bs_eq (a b : List UInt8) : ((bs a).toList == (bs b).toList) = (a == b) := by rw [bs_toList, bs_toList]
theorem bs_of (s : ByteArray) : s = bs s.data.toList := by cases s; rfl
theorem bs_inj {a b : List UInt8} (h : bs a = bs b) : a = b := by have := congrArg ByteArray.toList h; rwa [bs_toList, bs_toList] at this
theorem ch_lo (l : List UInt8) (k : Nat) : (0 : Int) ≤ ((ch l k).toNat : Int) := by omega
theorem ch_hi (l : List UInt8) (k : Nat) : ((ch l k).toNat : Int) ≤ 255 := by have := (ch l k).toNat_lt; omega
theorem ch_cons (c : UInt8) (l : List UInt8) : ch (c :: l) 0 = c := rfl
theorem ch_drop (l : List UInt8) (p k : Nat) : ch (l.drop p) k = ch l (p + k) := by unfold ch; simp [List.getD_eq_getElem?_getD]
theorem ch_get (l : List UInt8) (k : Nat) (h : k < l.length) : ch l k = l[k] := by unfold ch; rw [List.getD_eq_getElem?_getD, List.getElem?_eq_getElem h]; rfl
theorem drop_at (l : List UInt8) (k : Nat) (h : k < l.length) : l.drop k = ch l k :: l.drop (k + 1) := by rw [List.drop_eq_getElem_cons h, ch_get l k h]
theorem take_at (l : List UInt8) (k : Nat) (h : k < l.length) : l.take (k + 1) = l.take k ++ [ch l k] := by rw [List.take_succ_eq_append_getElem h, ch_get l k h]
end Go.Proofs.Ytpobajblngblfaa
