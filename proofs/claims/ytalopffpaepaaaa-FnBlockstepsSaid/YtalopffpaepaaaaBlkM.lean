/-
  A block's step, plainly.
-/
import Derived.Test.YtalopffpaepaaaaIBlkOf
import Derived.Test.YtalopffpaepaaaaIn
import Derived.Test.YtalopffpaepaaaaReck0
import Derived.Test.YtalopffpaepaaaaWords0
import Derived.Test.YtalopffpaepaaaaOwnI
namespace Go.Proofs.Ytalopffpaepaaaa
open Go.RowKit
set_option linter.unusedVariables false

/-- the count, the ticks behind a step -/
def ctuC (k0 k1 a0 a1 : Int) : Int := if a1 ≠ 0 then 0 else if a0 ≠ 0 ∧ k1 = 0 ∧ sg k0 < 32767 then wd (k0 + 1) else k0
def tonC (k0 a0 a1 : Int) : Int := if a0 = 0 then 0 else if sg k0 < sg a1 then wd (k0 + 1) else k0
/-- what a block's own are behind a step -/
def blkL (op : Int) (k a : List Int) : List Int :=
  if op = 1 then [ctuC (k.getD 0 0) (k.getD 1 0) (a.getD 0 0) (a.getD 1 0), b01 (decide (a.getD 0 0 ≠ 0)), b01 (decide (sg (a.getD 2 0) ≤ sg (ctuC (k.getD 0 0) (k.getD 1 0) (a.getD 0 0) (a.getD 1 0))))]
  else if op = 2 then [tonC (k.getD 0 0) (a.getD 0 0) (a.getD 1 0), b01 (decide (a.getD 0 0 ≠ 0 ∧ sg (a.getD 1 0) ≤ sg (tonC (k.getD 0 0) (a.getD 0 0) (a.getD 1 0))))]
  else if op = 3 then [b01 (decide (a.getD 0 0 ≠ 0)), b01 (decide (a.getD 0 0 ≠ 0 ∧ k.getD 0 0 = 0))]
  else [b01 (decide (a.getD 0 0 ≠ 0 ∨ (k.getD 0 0 ≠ 0 ∧ a.getD 1 0 = 0)))]
def bkN (op : Int) : Nat := if op = 1 then 3 else if op = 2 then 2 else if op = 3 then 2 else 1
def bkA (op : Int) : Nat := if op = 1 then 3 else if op = 2 then 2 else if op = 3 then 1 else 2
def fitB (op : Int) (k a : List Int) : Bool := decide (k.length = bkN op) && decide (a.length = bkA op) && wordsB k && wordsB a
def blkC (op : Int) (k a : List Int) : Int := if op < 1 ∨ 4 < op then 3 else if fitB op k a = false then 1 else 0
def blkV (op : Int) (k a : List Int) : List Int := if blkC op k a = 0 then blkL op k a else []
theorem blkL_len (op : Int) (k a : List Int) : (blkL op k a).length = bkN op := by
  unfold blkL bkN
  split
  · rfl
  split
  · rfl
  split <;> rfl
theorem blkV_len (op : Int) (k a : List Int) : (blkV op k a).length ≤ 3 := by
  unfold blkV
  split
  · rw [blkL_len]; unfold bkN; split
    · omega
    split
    · omega
    split <;> omega
  · simp
theorem bkOf_len (op K : Int) (nm : List UInt8) : (ownOf K op nm).length = bkN op := by
  unfold ownOf bkN
  split
  · rfl
  split
  · rfl
  split <;> rfl
theorem argsL_len (op : Int) : (argsL op).length = bkA op := by
  unfold argsL bkA
  split
  · rfl
  split
  · rfl
  split <;> rfl
/-- few words: impl.WordsFault tells of them what wordsB tells -/
theorem fault_few {zs : List Int} (h : zs.length ≤ 3) : (fault zs = 0) = (wordsB zs = true) := by
  apply propext
  constructor
  · intro hf
    rw [fault, if_neg (by omega)] at hf
    have hw : ∀ z ∈ zs, 0 ≤ z ∧ z ≤ 65535 := by
      by_cases h2 : ∀ z ∈ zs, 0 ≤ z ∧ z ≤ 65535
      · exact h2
      · rw [if_neg h2] at hf; omega
    unfold wordsB
    rw [List.all_eq_true]
    exact fun z hz => inB_iff.2 (hw z hz)
  · intro hw
    rw [fault, if_neg (by omega), if_pos (fun z hz => wordsB_mem hw hz)]
end Go.Proofs.Ytalopffpaepaaaa
