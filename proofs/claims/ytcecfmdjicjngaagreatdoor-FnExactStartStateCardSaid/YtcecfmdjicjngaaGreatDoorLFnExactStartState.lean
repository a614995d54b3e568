/-
  The Go function laws.FnExactStartState answers true at every input and writes nothing that was there. No condition beside the laid variable errors.errorType.
-/
import Derived.Test.YtcecfmdjicjngaaGreatDoorIn
import Derived.Test.YtcecfmdjicjngaaGreatDoorICheck
import Derived.Test.YtcecfmdjicjngaaGreatDoorSCells
import Derived.Deep.RegionHeld3
import Derived.Test.YtcecfmdjicjngaaGreatDoorTreeSz
import Derived.Test.YtcecfmdjicjngaaGreatDoorCopy
import Derived.Laws.Rows
import Derived.Deep.Cut
import Derived.Test.YtcecfmdjicjngaaGreatDoorTreeC
import Derived.Test.YtcecfmdjicjngaaGreatDoorICells
import Derived.Test.YtcecfmdjicjngaaGreatDoorIFault
import Derived.Test.YtcecfmdjicjngaaGreatDoorTreeTo3
import Derived.Test.YtcecfmdjicjngaaGreatDoorTreeTo
import Derived.Laws.IdiomStrings
import Derived.Test.YtcecfmdjicjngaaGreatDoorOpenTree
namespace Go.Proofs.YtcecfmdjicjngaaGreatDoor
open Go.RowKit
set_option linter.unusedVariables false
def b01 (b : Bool) : Int := if b then 1 else 0
def wordsB (zs : List Int) : Bool := zs.all (fun z => inB z 0 65535)
theorem wordsB_mem {zs : List Int} (h : wordsB zs = true) {z : Int} (hz : z ∈ zs) : 0 ≤ z ∧ z ≤ 65535 := by
 unfold wordsB at h
 rw [List.all_eq_true] at h
 exact inB_iff.1 (h z hz)
theorem wordsB_ok {zs : List Int} (h : ∀ j, j < zs.length → 0 ≤ zs.getD j 0 ∧ zs.getD j 0 ≤ 65535) : wordsB zs = true := by
 unfold wordsB
 rw [List.all_eq_true]
 intro z hz
 obtain ⟨i, hi, rfl⟩ := List.getElem_of_mem hz
 have := h i hi
 rw [List.getD_eq_getElem?_getD, List.getElem?_eq_getElem hi] at this
 exact inB_iff.2 this
theorem wordsB_bad {zs : List Int} (i : Nat) (hi : i < zs.length) (h : zs.getD i 0 < 0 ∨ 65535 < zs.getD i 0) : wordsB zs = false := by
 cases hw : wordsB zs with
 | false => rfl
 | true =>
  have hm : zs.getD i 0 ∈ zs := by rw [List.getD_eq_getElem?_getD, List.getElem?_eq_getElem hi]; simp
  have := wordsB_mem hw hm
  omega
theorem wordsB_get {zs : List Int} (h : wordsB zs = true) {i : Nat} (hi : i < zs.length) : 0 ≤ zs.getD i 0 ∧ zs.getD i 0 ≤ 65535 :=
 wordsB_mem h (by rw [List.getD_eq_getElem?_getD, List.getElem?_eq_getElem hi]; simp)
theorem wordsB_take {zs : List Int} (h : wordsB zs = true) (n : Nat) : wordsB (zs.take n) = true := by
 unfold wordsB at *
 rw [List.all_eq_true] at *
 exact fun z hz => h z (List.mem_of_mem_take hz)
theorem wordsB_snoc {zs : List Int} (h : wordsB zs = true) {z : Int} (h0 : 0 ≤ z) (h1 : z ≤ 65535) : wordsB (zs ++ [z]) = true := by
 unfold wordsB at *
 rw [List.all_append, h]
 simp [inB, h0, h1]
theorem wordsB_set {zs : List Int} (h : wordsB zs = true) {z : Int} (i : Nat) (h0 : 0 ≤ z) (h1 : z ≤ 65535) : wordsB (zs.set i z) = true := by
 unfold wordsB at *
 rw [List.all_eq_true] at *
 intro x hx
 rcases List.mem_or_eq_of_mem_set hx with hx | rfl
 ·exact h x hx
 ·exact inB_iff.2 ⟨h0, h1⟩
def allB (Z : Nat → List Int) (n : Nat) : Bool := (List.range n).all (fun i => wordsB (Z i))
theorem allB_ok {Z : Nat → List Int} {n : Nat} (h : ∀ i, i < n → wordsB (Z i) = true) : allB Z n = true := by
 unfold allB
 rw [List.all_eq_true]
 exact fun i hi => h i (List.mem_range.1 hi)
theorem allB_bad {Z : Nat → List Int} {n : Nat} (i : Nat) (hi : i < n) (h : wordsB (Z i) = false) : allB Z n = false := by
 cases hw : allB Z n with
 | false => rfl
 | true =>
  unfold allB at hw
  rw [List.all_eq_true] at hw
  rw [hw i (List.mem_range.2 hi)] at h
  cases h
theorem allB_one (Z : Nat → List Int) : allB Z 1 = wordsB (Z 0) := by
 unfold allB; simp [List.range_succ]
theorem allB_three (Z : Nat → List Int) : allB Z 3 = (wordsB (Z 0) && wordsB (Z 1) && wordsB (Z 2)) := by
 unfold allB; simp [List.range_succ, Bool.and_assoc]
end Go.Proofs.YtcecfmdjicjngaaGreatDoor
namespace Go.Proofs.YtcecfmdjicjngaaGreatDoor
open Go.RowKit
def isWord (z : Int) : Prop := 0 ≤ z ∧ z ≤ 65535
theorem fitsWord_yes (z : Int) (w : World) (h1 : 0 ≤ z) (h2 : z ≤ 65535) :
  Calls Tryz.prog 155 #[.int .i64 z] w fun e w' => e = .returned (.bool true) ∧ w' = w := by
 go_enter Tryz.func155, Tryz.ntmps155
 go_wp2
 go_ret
 exact ⟨rfl, rfl⟩
theorem fitsWord_no (z : Int) (w : World) (h : z < 0 ∨ 65535 < z) :
  Calls Tryz.prog 155 #[.int .i64 z] w fun e w' => e = .returned (.bool false) ∧ w' = w := by
 rcases h with h | h
 ·have hd : decide (0 ≤ z) = false := decide_eq_false (by omega)
  go_enter Tryz.func155, Tryz.ntmps155
  go_wp2
  go_ret
  exact ⟨rfl, rfl⟩
 ·have h0 : 0 ≤ z := by omega
  have hd : decide (z ≤ 65535) = false := decide_eq_false (by omega)
  go_enter Tryz.func155, Tryz.ntmps155
  go_wp2
  go_ret
  exact ⟨rfl, rfl⟩
theorem l1In_yes (z a b : Int) (w : World) (h1 : a ≤ z) (h2 : z ≤ b) :
  Calls Tryz.prog 161 #[.int .i64 z, .int .i64 a, .int .i64 b] w fun e w' => e = .returned (.bool true) ∧ w' = w := by
 go_enter Tryz.func161, Tryz.ntmps161
 go_wp2
 go_ret
 exact ⟨rfl, rfl⟩
theorem l1In_no (z a b : Int) (w : World) (h : z < a ∨ b < z) :
  Calls Tryz.prog 161 #[.int .i64 z, .int .i64 a, .int .i64 b] w fun e w' => e = .returned (.bool false) ∧ w' = w := by
 by_cases h1 : a ≤ z
 ·have hd : decide (z ≤ b) = false := decide_eq_false (by omega)
  clear h
  go_enter Tryz.func161, Tryz.ntmps161
  go_wp2
  go_ret
  exact ⟨rfl, rfl⟩
 ·have hd : decide (a ≤ z) = false := decide_eq_false (by omega)
  clear h
  go_enter Tryz.func161, Tryz.ntmps161
  go_wp2
  go_ret
  exact ⟨rfl, rfl⟩
theorem l1Word_yes (z : Int) (w : World) (h1 : 0 ≤ z) (h2 : z ≤ 65535) :
  Calls Tryz.prog 225 #[.int .i64 z] w fun e w' => e = .returned (.bool true) ∧ w' = w := by
 go_enter Tryz.func225, Tryz.ntmps225
 go_wp2_with (go_at_call 161; refine (l1In_yes _ _ _ _ h1 h2).mono ?_; rintro e w' ⟨rfl, rfl⟩)
 go_ret
 exact ⟨rfl, rfl⟩
theorem l1Word_no (z : Int) (w : World) (h : z < 0 ∨ 65535 < z) :
  Calls Tryz.prog 225 #[.int .i64 z] w fun e w' => e = .returned (.bool false) ∧ w' = w := by
 go_enter Tryz.func225, Tryz.ntmps225
 go_wp2_with (go_at_call 161; refine (l1In_no _ _ _ _ h).mono ?_; rintro e w' ⟨rfl, rfl⟩)
 go_ret
 exact ⟨rfl, rfl⟩
def fault (zs : List Int) : Int := if 400 < zs.length then 2 else if ∀ z ∈ zs, 0 ≤ z ∧ z ≤ 65535 then 0 else 3
theorem fault_many {zs : List Int} (h : 400 < zs.length) : fault zs = 2 := by rw [fault, if_pos h]
theorem fault_ok {zs : List Int} (h : zs.length ≤ 400) (hz : ∀ i, i < zs.length → 0 ≤ zs.getD i 0 ∧ zs.getD i 0 ≤ 65535) : fault zs = 0 := by
 rw [fault, if_neg (by omega), if_pos]
 intro z hm
 obtain ⟨i, hi, rfl⟩ := List.getElem_of_mem hm
 have := hz i hi
 rw [List.getD_eq_getElem?_getD, List.getElem?_eq_getElem hi] at this
 simpa using this
theorem fault_bad {zs : List Int} (h : zs.length ≤ 400) (i : Nat) (hi : i < zs.length) (hz : zs.getD i 0 < 0 ∨ 65535 < zs.getD i 0) : fault zs = 3 := by
 rw [fault, if_neg (by omega), if_neg]
 intro ha
 have hm : zs.getD i 0 ∈ zs := by
  rw [List.getD_eq_getElem?_getD, List.getElem?_eq_getElem hi]; simp
 have := ha _ hm
 omega
theorem fault_all {zs : List Int} (h : zs.length ≤ 400) : fault zs = if wordsB zs then 0 else 3 := by
 rw [fault, if_neg (by omega)]
 by_cases hw : wordsB zs = true
 ·rw [if_pos (fun z hz => wordsB_mem hw hz), if_pos hw]
 ·rw [if_neg (fun h => hw (by unfold wordsB; rw [List.all_eq_true]; exact fun z hz => inB_iff.2 (h z hz))), if_neg hw]
set_option maxHeartbeats 800000 in
theorem allWords_any (g cap n : Nat) (A : Nat → Option Addr) (Z : Nat → List Int) (C : Nat → Nat) (w : World) (hn8 : n ≤ 8)
  (hg : ∀ i, i < n → w.cell? ⟨g, i, none⟩ = some (.slice (A i) (Z i).length (C i)))
  (hlen : ∀ i, i < n → (Z i).length ≤ 9223372036854775807) (hn : ∀ i, i < n → Nums w (A i) (Z i)) :
  Calls Tryz.prog 185 #[.slice (some ⟨g, 0, none⟩) n cap] w fun e w' => e = .returned (.bool (allB Z n)) ∧ w' = w := by
 go_enter Tryz.func185, Tryz.ntmps185
 go_wp2
 go_loop [4, 9] (fun _ i => ∃ k : Nat, k ≤ n ∧ i = .int .i64 k ∧ ∀ j, j < k → wordsB (Z j) = true) (fun _ i => n - (intOf i).toNat)
 case atStart => exact ⟨0, Nat.zero_le _, rfl, fun j hj => by omega⟩
 case round =>
  obtain ⟨k, hk, rfl, ho⟩ := hrel
  have HO : Hid _ := ho
  clear ho
  by_cases hlt : k < n
  ·have hcell := hg k hlt
   have hl := hlen k hlt
   have hnn := hn k hlt
   have HB : Hid (∀ m, m < (Z k).length → ((Z k).getD m 0 < 0 ∨ 65535 < (Z k).getD m 0) → allB Z n = false) := fun m hm hz => allB_bad k hlt (wordsB_bad m hm hz)
   have HG : Hid (wordsB (Z k) = true → ∀ j, j < k + 1 → wordsB (Z j) = true) := fun hw j hj => by
    by_cases e : j = k
    ·subst e; exact hw
    ·exact HO.out j (by omega)
   generalize hzs : Z k = zs at *
   generalize A k = a at *
   generalize C k = c at *
   clear hg hlen hn hzs HO
   go_wp2
   go_loop [6, 15] (fun _ i => ∃ m : Nat, m ≤ zs.length ∧ i = .int .i64 m ∧ ∀ j, j < m → 0 ≤ zs.getD j 0 ∧ zs.getD j 0 ≤ 65535) (fun _ i => zs.length - (intOf i).toNat)
   case atStart => exact ⟨0, Nat.zero_le _, rfl, fun j hj => by omega⟩
   case round =>
    obtain ⟨m, hm, rfl, ho⟩ := hrel
    have HO : Hid _ := ho
    clear ho
    by_cases hlm : m < zs.length
    ·rcases hnn with hnn | ⟨b, off, rfl, hc⟩
     ·subst hnn; simp at hlm
     have hcell2 := hc m hlm
     clear hc
     obtain ⟨z, hz⟩ : ∃ z, z = zs.getD m 0 := ⟨_, rfl⟩
     rw [← hz] at hcell2
     have HZ : Hid _ := hz
     clear hz
     by_cases h5 : 0 ≤ z ∧ z ≤ 65535
     ·obtain ⟨h5, h6⟩ := h5
      go_wp2_with (go_at_call 155; refine (fitsWord_yes _ _ h5 h6).mono ?_; rintro e w' ⟨rfl, rfl⟩)
      go_round
      case rel =>
       refine ⟨m + 1, by omega, by go_num, fun j hj => ?_⟩
       by_cases hjk : j = m
       ·subst hjk; rw [← HZ.out]; exact ⟨h5, h6⟩
       ·exact HO.out j (by omega)
      case measure => simp [intOf]; omega
     ·have h6 : z < 0 ∨ 65535 < z := by omega
      have H6 : Hid _ := h6
      clear h6 h5
      go_wp2_with (go_at_call 155; refine (fitsWord_no _ _ H6.out).mono ?_; rintro e w' ⟨rfl, rfl⟩)
      go_ret
      exact ⟨by rw [HB.out m hlm (by rw [← HZ.out]; exact H6.out)]; rfl, rfl⟩
    ·have hk2 : m = zs.length := by omega
     subst hk2
     go_wp2
     go_round
     case rel => exact ⟨k + 1, by omega, by go_num, HG.out (wordsB_ok HO.out)⟩
     case measure => simp [intOf]; omega
  ·have hk2 : k = n := by omega
   subst hk2
   go_wp2
   go_ret
   exact ⟨by rw [allB_ok HO.out]; rfl, rfl⟩
set_option maxHeartbeats 400000 in
theorem implFault_any (a : Option Addr) (zs : List Int) (cap : Nat) (w : World) (hlen : zs.length ≤ 9223372036854775807) (hn : Nums w a zs) :
  Calls Tryz.prog 113 #[.slice a zs.length cap] w fun e w' => e = .returned (.int .i64 (fault zs)) ∧ Below w.heap.size w w' := by
 by_cases h4 : 400 < zs.length
 ·rw [fault_many h4]
  go_enter Tryz.func113, Tryz.ntmps113
  go_wp2
  go_ret
  exact ⟨rfl, Below.refl _ _⟩
 ·have HA : Hid (∀ W, Below w.heap.size w W → W.cell? ⟨w.heap.size, 0, none⟩ = some (.slice a zs.length cap) → Calls Tryz.prog 185 #[.slice (some ⟨w.heap.size, 0, none⟩) 1 1] W fun e w' => e = .returned (.bool (wordsB zs)) ∧ w' = W) := fun W hb hc => by
   have := allWords_any w.heap.size 1 1 (fun _ => a) (fun _ => zs) (fun _ => cap) W (by omega) (fun i hi => by rw [show i = 0 from by omega]; exact hc) (fun i hi => hlen) (fun i hi => hn.below hb)
   rw [allB_one] at this
   exact this
  have HF : Hid (fault zs = if wordsB zs then 0 else 3) := fault_all (by omega)
  have hB : Below w.heap.size w (w.alloc (.cells #[.slice a zs.length cap] 26 (0, 0))) := (Below.refl _ _).alloc (Nat.le_refl _) _
  have hC : (w.alloc (.cells #[.slice a zs.length cap] 26 (0, 0))).cell? ⟨w.heap.size, 0, none⟩ = some (.slice a zs.length cap) := by simp [go_sem]
  have HX : Hid (Calls Tryz.prog 185 #[.slice (some ⟨w.heap.size, 0, none⟩) 1 1] (w.alloc (.cells #[.slice a zs.length cap] 26 (0, 0))) fun e w' => e = .returned (.bool (wordsB zs)) ∧ w' = (w.alloc (.cells #[.slice a zs.length cap] 26 (0, 0)))) := HA.out _ hB hC
  have HB : Hid _ := hB
  clear HA hB hC hn
  obtain ⟨q, hq⟩ : ∃ q, q = wordsB zs := ⟨_, rfl⟩
  rw [← hq] at HX HF
  clear hq
  go_enter Tryz.func113, Tryz.ntmps113
  go_wp2_with fail
  refine HX.out.mono ?_
  rintro e w' ⟨rfl, rfl⟩
  clear HX
  cases q
  ·go_wp2_with fail
   go_ret
   exact ⟨by rw [HF.out]; rfl, HB.out⟩
  ·go_wp2_with fail
   go_ret
   exact ⟨by rw [HF.out]; rfl, HB.out⟩
end Go.Proofs.YtcecfmdjicjngaaGreatDoor
namespace Go.Proofs.YtcecfmdjicjngaaGreatDoor
open Go.RowKit
set_option linter.unusedVariables false
def allW (zs : List Int) : Bool := zs.all fun z => decide (0 ≤ z ∧ z ≤ 65535)
theorem allW_iff {zs : List Int} : allW zs = true ↔ ∀ z ∈ zs, 0 ≤ z ∧ z ≤ 65535 := by unfold allW; rw [List.all_eq_true]; simp
theorem allW_ok {zs : List Int} (h : ∀ j, j < zs.length → 0 ≤ zs.getD j 0 ∧ zs.getD j 0 ≤ 65535) : allW zs = true := by
 rw [allW_iff]
 intro z hm
 obtain ⟨i, hi, rfl⟩ := List.getElem_of_mem hm
 have := h i hi
 rw [List.getD_eq_getElem?_getD, List.getElem?_eq_getElem hi] at this
 simpa using this
theorem allW_bad {zs : List Int} (i : Nat) (hi : i < zs.length) (h : zs.getD i 0 < 0 ∨ 65535 < zs.getD i 0) : allW zs = false := by
 cases hw : allW zs with
 | false => rfl
 | true =>
  have hm : zs.getD i 0 ∈ zs := by rw [List.getD_eq_getElem?_getD, List.getElem?_eq_getElem hi]; simp
  have := (allW_iff.1 hw) _ hm
  omega
theorem fault_allW {zs : List Int} (h : zs.length ≤ 400) : fault zs = if allW zs = true then 0 else 3 := by
 unfold fault
 rw [if_neg (by omega)]
 by_cases hw : ∀ z ∈ zs, 0 ≤ z ∧ z ≤ 65535
 ·rw [if_pos hw, if_pos (allW_iff.2 hw)]
 ·rw [if_neg hw, if_neg (fun h => hw (allW_iff.1 h))]
def staF (T : LTree) (zs : List Int) : Int := if (chkT T).1.1 ≠ 0 then (chkT T).1.1 else if (zs.length : Int) ≠ cellsL (allL 0 T) then 1 else if allW zs = true then 0 else 3
theorem chk_good {T : LTree} (h : (chkT T).1.1 = 0) : faultL T = 0 ∧ cellsL (allL 0 T) ≤ 60 := by
 unfold chkT at h
 by_cases h0 : faultL T = 0
 ·rw [if_neg (by simpa using h0)] at h
  refine ⟨h0, ?_⟩
  by_cases h1 : namesF (allL 3 T) T.vars.length = 0
  ·rw [if_neg (by simpa using h1)] at h
   by_cases h2 : (bodyF (allL 3 T) T).1 = 0
   ·rw [if_neg (by simpa using h2)] at h
    by_cases h3 : 2000 < budT T ∨ 60 < cellsL (allL 3 T)
    ·rw [if_pos h3] at h; simp at h
    ·rw [cells_kind] at h3; omega
   ·rw [if_pos h2] at h; exact absurd h h2
  ·rw [if_pos h1] at h; exact absurd h h1
 ·rw [if_pos h0] at h; exact absurd h h0
end Go.Proofs.YtcecfmdjicjngaaGreatDoor
namespace Go.Proofs.YtcecfmdjicjngaaGreatDoor
open Go.RowKit
set_option linter.unusedVariables false
attribute [local go_sem] bs_size bs_get bs_extract bs_append bs_eq bs_toList
set_option maxHeartbeats 800000 in
theorem l6AllW_any (a : Option Addr) (zs : List Int) (cap : Nat) (w : World) (hlen : zs.length ≤ 1048576) (hn : Nums w a zs) :
  Calls Tryz.prog 175 #[.slice a zs.length cap] w fun e w' => e = .returned (.bool (allW zs)) ∧ w' = w := by
 go_enter Tryz.func175, Tryz.ntmps175
 go_wp2
 go_loop [3] (fun i => ∃ k : Nat, k ≤ zs.length ∧ i = .int .i64 k ∧ ∀ j, j < k → 0 ≤ zs.getD j 0 ∧ zs.getD j 0 ≤ 65535) (fun i => zs.length - (intOf i).toNat)
 case atStart => exact ⟨0, Nat.zero_le _, rfl, fun j hj => by omega⟩
 case round =>
  obtain ⟨k, hk, rfl, ho⟩ := hrel
  have HO : Hid _ := ho
  clear ho
  by_cases hlt : k < zs.length
  ·rcases hn with hn | ⟨b, off, rfl, hc⟩
   ·subst hn; simp at hlt
   have hcell := hc k hlt
   clear hc
   obtain ⟨z, hz⟩ : ∃ z, z = zs.getD k 0 := ⟨_, rfl⟩
   rw [← hz] at hcell
   have HZ : Hid _ := hz
   clear hz
   by_cases h5 : 0 ≤ z ∧ z ≤ 65535
   ·obtain ⟨h5, h6⟩ := h5
    go_wp2_with (go_at_call 225; refine (l1Word_yes _ _ h5 h6).mono ?_; rintro e w' ⟨rfl, rfl⟩)
    go_round
    case rel =>
     refine ⟨k + 1, by omega, by go_num, fun j hj => ?_⟩
     by_cases hjk : j = k
     ·subst hjk; rw [← HZ.out]; exact ⟨h5, h6⟩
     ·exact HO.out j (by omega)
    case measure => simp [intOf]; omega
   ·have h6 : z < 0 ∨ 65535 < z := by omega
    have H6 : Hid _ := h6
    clear h6 h5
    go_wp2_with (go_at_call 225; refine (l1Word_no _ _ H6.out).mono ?_; rintro e w' ⟨rfl, rfl⟩)
    go_ret
    have hf := allW_bad k hlt (by rw [← HZ.out]; exact H6.out)
    exact ⟨by rw [hf]; rfl, rfl⟩
  ·have hk2 : k = zs.length := by omega
   subst hk2
   go_wp2
   go_ret
   have hf := allW_ok HO.out
   exact ⟨by rw [hf]; rfl, rfl⟩
set_option maxHeartbeats 6400000 in
set_option maxRecDepth 100000 in
theorem l6Fault_any (lo p q : Nat) (vv vn vb : Value) (T : LTree) (a : Option Addr) (zs : List Int) (cap : Nat) (w : World) (h : TreeP lo w p vv vn vb T) (hS : Sized 1048576 T) (hq : w.cell? ⟨q, 0, none⟩ = some (.slice a zs.length cap)) (hn : Nums w a zs) (hlen : zs.length ≤ 1048576) :
  Calls Tryz.prog 99 #[.pointer (some ⟨p, 0, none⟩), .pointer (some ⟨q, 0, none⟩)] w fun e w' => e = .returned (.int .i64 (staF T zs)) ∧ Below w.heap.size w w' := by
 have HX : Hid (Calls Tryz.prog 77 #[.pointer (some ⟨p, 0, none⟩)] w fun e w' => e = .returned (.agg #[.int .i64 (chkT T).1.1, .int .i64 (chkT T).1.2, .int .i64 (chkT T).2]) ∧ Below w.heap.size w w') := l5Tree_any lo p vv vn vb T w h hS
 have HAL : Hid ((chkT T).1.1 = 0 → ∀ (w' : World), Below w.heap.size w w' → Calls Tryz.prog 94 #[.pointer (some ⟨p, 0, none⟩)] w' fun e w2 => ∃ v, e = .returned v ∧ w2.ownsRow w'.heap.size 45 4 v (allL 3 T).length (varCells (allL 3 T)) ∧ Below w'.heap.size w' w2) := fun h0 w' hb => l5All_any lo p vv vn vb T w' (h.below hb) (good_of (chk_good h0).1)
 have HCE : Hid ((chkT T).1.1 = 0 → ∀ (ad : Option Addr) (c : Nat) (W : World), RowV W ad (allL 3 T) → Calls Tryz.prog 93 #[.slice ad (allL 3 T).length c] W fun e w' => e = .returned (.int .i64 (cellsL (allL 0 T))) ∧ Below W.heap.size W w') := fun h0 ad c W hr => by
  have g := good_of (chk_good h0).1
  have := l5Cells_any (allL 3 T) ad (allL 3 T).length c W (Nat.le_refl _) hr (g.sizes 3) (g.all_len 3)
  rwa [List.take_length, cells_kind] at this
 have HL6 : Hid (∀ W, Below w.heap.size w W → Calls Tryz.prog 175 #[.slice a zs.length cap] W fun e w' => e = .returned (.bool (allW zs)) ∧ w' = W) := fun W hb => l6AllW_any a zs cap W hlen (hn.below hb)
 have HQ : Hid (∀ W, Below w.heap.size w W → W.cell? ⟨q, 0, none⟩ = some (.slice a zs.length cap)) := fun W hb => (hb.cell (p := ⟨q, 0, none⟩) (World.block_lt_of_cell? _ _ hq)).trans hq
 have HST : Hid (staF T zs = if (chkT T).1.1 ≠ 0 then (chkT T).1.1 else if (zs.length : Int) ≠ cellsL (allL 0 T) then 1 else if allW zs = true then 0 else 3) := rfl
 clear h hS hq hn
 generalize staF T zs = R at *
 generalize (chkT T).1.1 = c1 at *
 generalize (chkT T).1.2 = c2 at *
 generalize (chkT T).2 = c3 at *
 generalize cellsL (allL 0 T) = z at *
 generalize allW zs = aw at *
 go_enter Tryz.func99, Tryz.ntmps99
 go_wp2_with fail
 refine HX.out.mono ?_
 rintro e w2 ⟨rfl, hb⟩
 have HB := hid hb
 clear hb HX
 by_cases hc : c1 = 0
 ·subst hc
  have HST2 : Hid (R = if (zs.length : Int) ≠ z then 1 else if aw = true then 0 else 3) := by unfold Hid; rw [HST.out, if_neg (by simp)]
  have HAL2 := HAL.out rfl
  have HCE2 := HCE.out rfl
  clear HST HAL HCE
  have HAL : Hid _ := HAL2
  have HCE : Hid _ := HCE2
  clear HAL2 HCE2
  go_upto_region 4 with fail
  have HB3 : Hid (Below w.heap.size w (w2.alloc (.cells #[.int .i64 0, .int .i64 c2, .int .i64 c3] 31))) := HB.out.alloc HB.out.size _
  generalize w2.alloc (.cells #[.int .i64 0, .int .i64 c2, .int .i64 c3] 31) = W3 at *
  have q0 : W3.cell? ⟨q, 0, none⟩ = some (.slice a zs.length cap) := HQ.out _ HB3.out
  clear HB
  by_cases hz : (zs.length : Int) = z
  ·subst hz
   have HR : Hid (R = if aw = true then 0 else 3) := by unfold Hid; rw [HST2.out, if_neg (by simp)]
   clear HST2
   go_region_held3 (fun W => W.cell? ⟨q, 0, none⟩ = some (.slice a zs.length cap)) (go_keep) (first | (go_at_call 94; refine (HAL.out _ HB3.out.drew).mono ?_; rintro e w7 ⟨v, rfl, hown, hb⟩; obtain ⟨ad, cp, rfl⟩ := rowE_shape hown; have HRV : Hid (RowV w7 ad (allL 3 T)) := RowV.of_own hown rfl; have HD : Hid (Below w.heap.size w w7) := HB3.out.drew.trans (hb.mono HB3.out.drew.size); have q0 := HQ.out _ HD.out; clear hb hown) | (go_at_call 93; refine (HCE.out _ _ _ HRV.out).mono ?_; rintro e w8 ⟨rfl, hb⟩; have HE : Hid (Below w.heap.size w w8) := HD.out.trans (hb.mono HD.out.size); have q0 := HQ.out _ HE.out; clear hb))
   go_wp2_with fail
   refine (HL6.out _ HE.out).mono ?_
   rintro e w9 ⟨rfl, rfl⟩
   cases aw with
   | true =>
    go_wp2_with fail
    go_ret
    exact ⟨by rw [HR.out]; rfl, HE.out⟩
   | false =>
    go_wp2_with fail
    go_ret
    exact ⟨by rw [HR.out]; rfl, HE.out⟩
  ·have hz1 : ((zs.length : Int) == z) = false := by simpa using hz
   have hz2 : decide ((zs.length : Int) = z) = false := decide_eq_false hz
   have HR : Hid (R = 1) := by unfold Hid; rw [HST2.out, if_pos hz]
   clear HST2
   go_region_held3 (fun W => W.cell? ⟨q, 0, none⟩ = some (.slice a zs.length cap)) (go_keep) (first | (go_at_call 94; refine (HAL.out _ HB3.out.drew).mono ?_; rintro e w7 ⟨v, rfl, hown, hb⟩; obtain ⟨ad, cp, rfl⟩ := rowE_shape hown; have HRV : Hid (RowV w7 ad (allL 3 T)) := RowV.of_own hown rfl; have HD : Hid (Below w.heap.size w w7) := HB3.out.drew.trans (hb.mono HB3.out.drew.size); have q0 := HQ.out _ HD.out; clear hb hown) | (go_at_call 93; refine (HCE.out _ _ _ HRV.out).mono ?_; rintro e w8 ⟨rfl, hb⟩; have HE : Hid (Below w.heap.size w w8) := HD.out.trans (hb.mono HD.out.size); have q0 := HQ.out _ HE.out; clear hb))
   go_wp2_with fail
   go_ret
   exact ⟨by rw [HR.out]; rfl, HE.out⟩
 ·have hz1 : (c1 == 0) = false := by simpa using hc
  have hz2 : decide (c1 = 0) = false := decide_eq_false hc
  have HR : Hid (R = c1) := by unfold Hid; rw [HST.out, if_pos hc]
  clear HST HAL HCE HL6 HQ
  go_wp2_with fail
  go_ret
  exact ⟨by rw [HR.out]; rfl, HB.out.alloc HB.out.size _⟩
end Go.Proofs.YtcecfmdjicjngaaGreatDoor
namespace Go.Proofs.YtcecfmdjicjngaaGreatDoor
open Go.RowKit
set_option linter.unusedVariables false
attribute [local go_sem] bs_size bs_get bs_extract bs_append bs_eq bs_toList
set_option maxHeartbeats 6400000 in
theorem szTreeLe_any (lo : Nat) (T : LTree) (vv vn vb : Value) (w : World) (h : TreeV lo w vv vn vb T) (hf : Fits T) :
  Calls Tryz.prog 30 #[treeV vv vn vb, .int .i64 1048576] w fun e w' => ∃ r : Int, e = .returned (.int .i64 r) ∧ (0 ≤ r → Sized 1048576 T ∧ r ≤ 1048576) ∧ Below w.heap.size w w' := by
 obtain ⟨av, cv, rfl, _⟩ := id h.vars
 obtain ⟨an, cn, rfl, _⟩ := id h.nodes
 obtain ⟨ab, cb, rfl, _⟩ := id h.body
 have HV := hid h
 have HF : Hid (Fits T) := hf
 clear h hf
 go_enter Tryz.func30, Tryz.ntmps30
 go_wp2_with fail
 have hA := heap_alloc_new w (.cells #[.slice av T.vars.length cv, .slice an T.nodes.length cn, .slice ab T.body.length cb] 62)
 have hB : Below w.heap.size w (w.alloc (.cells #[.slice av T.vars.length cv, .slice an T.nodes.length cn, .slice ab T.body.length cb] 62)) := (Below.refl _ _).alloc (Nat.le_refl _) _
 generalize w.alloc (.cells #[.slice av T.vars.length cv, .slice an T.nodes.length cn, .slice ab T.body.length cb] 62) = W at *
 refine (szVars_any lo _ _ 1048576 _ (HV.out.below hB).vars (by omega) (by omega) HF.out.vars HF.out.names).mono ?_
 rintro e w0 ⟨L1, rfl, hr, hb⟩
 have hAc := blk hA hb
 have hBc := hB.trans (hb.mono hB.size)
 clear hA hB hb
 have a1 := cell_of_row _ _ 1 _ _ _ hAc
 simp at a1
 have HA : Hid _ := hAc
 have HB : Hid _ := hBc
 clear hAc hBc
 rcases hr with rfl | ⟨k1, m1, z1⟩
 ·go_wp2_with fail
  go_ret
  exact ⟨_, rfl, fun h => absurd h (by omega), HB.out⟩
 have HZ1 : Hid _ := z1
 clear z1
 go_wp2_with fail
 have hA := HA.out
 have hB := HB.out
 clear HA HB a1
 refine (szNodes_any lo _ _ _ _ (HV.out.below hB).nodes k1 (by omega) HF.out.nodes HF.out.node).mono ?_
 rintro e w1 ⟨L2, rfl, hr, hb⟩
 have hAc := blk hA hb
 have hBc := hB.trans (hb.mono hB.size)
 clear hA hB hb
 have a2 := cell_of_row _ _ 2 _ _ _ hAc
 simp at a2
 have HA : Hid _ := hAc
 have HB : Hid _ := hBc
 clear hAc hBc
 rcases hr with rfl | ⟨k2, m2, z2⟩
 ·go_wp2_with fail
  go_ret
  exact ⟨_, rfl, fun h => absurd h (by omega), HB.out⟩
 have HZ2 : Hid _ := z2
 clear z2
 go_wp2_with fail
 have hA := HA.out
 have hB := HB.out
 clear HA HB a2
 refine (szInts_any _ _ _ _ k2 (by omega) HF.out.body _).mono ?_
 rintro e w2 ⟨L3, rfl, hr, hb⟩
 have hAc := blk hA hb
 have hBc := hB.trans (hb.mono hB.size)
 clear hA hB hb
 have HA : Hid _ := hAc
 have HB : Hid _ := hBc
 clear hAc hBc
 rcases hr with rfl | ⟨k3, m3, z3⟩
 ·go_wp2_with fail
  go_ret
  exact ⟨_, rfl, fun h => absurd h (by omega), HB.out⟩
 have HZ3 : Hid _ := z3
 clear z3
 go_wp2_with fail
 go_ret
 exact ⟨_, rfl, fun _ => ⟨⟨HZ1.out.1, HZ2.out.1, HZ3.out, HZ1.out.2, HZ2.out.2⟩, by omega⟩, HB.out⟩
end Go.Proofs.YtcecfmdjicjngaaGreatDoor
namespace Go.Proofs.YtcecfmdjicjngaaGreatDoor
open Go.RowKit
set_option linter.unusedVariables false
attribute [local go_sem] bs_size bs_get bs_extract bs_append bs_eq bs_toList
set_option maxHeartbeats 1600000 in
theorem szState_any (a : Option Addr) (n c : Nat) (left : Int) (h0 : 0 ≤ left) (h1 : left ≤ 1048576) (hl : n ≤ 9223372036854775807) (w : World) :
  Calls Tryz.prog 40 #[.agg #[.slice a n c], .int .i64 left] w fun e w' => ∃ r : Int, e = .returned (.int .i64 r) ∧ (0 ≤ r → n ≤ 1048576) ∧ Below w.heap.size w w' := by
 have HX : Hid (∀ W, Calls Tryz.prog 104 #[.slice a n c, .int .i64 left] W fun e w' => ∃ r : Int, e = .returned (.int .i64 r) ∧ Left left r (n ≤ 1048576) ∧ Below W.heap.size W w') := fun W => szInts_any a n c left h0 h1 hl W
 have hB : Below w.heap.size w (w.alloc (.cells #[.slice a n c] 74)) := (Below.refl _ _).alloc (Nat.le_refl _) _
 clear hl
 go_enter Tryz.func40, Tryz.ntmps40
 go_wp2_with fail
 generalize w.alloc (.cells #[.slice a n c] 74) = W at *
 refine (HX.out _).mono ?_
 rintro e w2 ⟨r, rfl, hr, hb⟩
 have HB : Hid (Below w.heap.size w w2) := hB.trans (hb.mono hB.size)
 clear hB hb HX
 rcases hr with rfl | ⟨k1, m1, z1⟩
 ·go_wp2_with fail
  go_ret
  exact ⟨_, rfl, fun h => absurd h (by omega), HB.out⟩
 ·have HZ1 : Hid _ := z1
  clear z1
  go_wp2_with fail
  go_ret
  exact ⟨_, rfl, fun _ => HZ1.out, HB.out⟩
theorem Nums.set {w : World} {a : Option Addr} {zs : List Int} {p : Addr} {v : Value} (h : Nums w a zs) (hp : ∀ b o, a = some ⟨b, o, none⟩ → p.block ≠ b) : Nums (w.setCell p v) a zs := by
 rcases h with h | ⟨b, o, rfl, hc⟩
 ·exact .inl h
 ·exact .inr ⟨b, o, rfl, fun i hi => (World.cell?_setCell_other _ _ _ _ (fun e => hp b o rfl (by have := congrArg Addr.block e; first | exact this | exact this.symm))).trans (hc i hi)⟩
set_option maxHeartbeats 1600000 in
theorem toState_any (a : Option Addr) (zs : List Int) (cap : Nat) (w : World) (hlen : zs.length ≤ 1048576) (hn : Nums w a zs) :
  Calls Tryz.prog 42 #[.agg #[.slice a zs.length cap]] w fun e w' => ∃ a2 c2, e = .returned (.agg #[.slice a2 zs.length c2]) ∧ Nums w' a2 zs ∧ Below w.heap.size w w' := by
 have HX : Hid (∀ W, Below w.heap.size w W → Calls Tryz.prog 62 #[.slice a zs.length cap] W fun e w' => e = .returned (.slice (some ⟨W.heap.size, 0, none⟩) zs.length zs.length) ∧ Nums w' (some ⟨W.heap.size, 0, none⟩) zs ∧ Below W.heap.size W w') := fun W hb =>
  (copy_any a zs cap W hlen (hn.below hb)).mono fun e w' h => ⟨h.1, (nums_of_own h.2.1).2, h.2.2⟩
 have a1 := heap_alloc_new w (.cells #[.slice a zs.length cap] 74)
 have b1 : Below w.heap.size w (w.alloc (.cells #[.slice a zs.length cap] 74)) := (Below.refl _ _).alloc (Nat.le_refl _) _
 have s1 : (w.alloc (.cells #[.slice a zs.length cap] 74)).heap.size = w.heap.size + 1 := by simp
 clear hn
 go_enter Tryz.func42, Tryz.ntmps42
 go_upto_region 2 with fail
 generalize w.alloc (.cells #[.slice a zs.length cap] 74) = W1 at *
 have a2 := heap_alloc_new W1 (.cells #[.slice none 0 0] 52)
 have b2 : Below W1.heap.size W1 (W1.alloc (.cells #[.slice none 0 0] 52)) := (Below.refl _ _).alloc (Nat.le_refl _) _
 have s2 : (W1.alloc (.cells #[.slice none 0 0] 52)).heap.size = w.heap.size + 2 := by simp; omega
 generalize W1.alloc (.cells #[.slice none 0 0] 52) = W2 at *
 have a3 := heap_alloc_new W2 (.cells #[.slice none 0 0] 52)
 have b3 : Below W2.heap.size W2 (W2.alloc (.cells #[.slice none 0 0] 52)) := (Below.refl _ _).alloc (Nat.le_refl _) _
 have s3 : (W2.alloc (.cells #[.slice none 0 0] 52)).heap.size = w.heap.size + 3 := by simp; omega
 generalize W2.alloc (.cells #[.slice none 0 0] 52) = W3 at *
 rw [s1] at a2
 rw [s2] at a3
 have A1 := blk (blk a1 b2) b3
 have A2 := blk a2 b3
 have B : Below w.heap.size w W3 := (b1.trans (b2.mono (by omega))).trans (b3.mono (by omega))
 have q0 := cell_of_row _ _ 0 _ _ _ A1
 simp at q0
 clear a1 a2 b1 b2 b3 s1 s2 A1
 go_wp2_with fail
 refine (HX.out _ B).mono ?_
 rintro e w4 ⟨rfl, hnn, hb⟩
 have d2 := blk A2 hb
 have d3 := blk a3 hb
 have HB : Hid (Below w.heap.size w w4) := B.trans (hb.mono B.size)
 have HN := hid hnn
 have HS3 : Hid (W3.heap.size = w.heap.size + 3) := s3
 have r0 := cell_of_row _ _ 0 _ _ _ d2
 have f0 := frozen_of_row _ _ 0 _ _ d2
 have r1 := cell_of_row _ _ 0 _ _ _ d3
 have f1 := frozen_of_row _ _ 0 _ _ d3
 simp at r0 r1 f0 f1
 clear a3 A2 B q0 hnn hb d2 d3 s3 HX
 generalize W3.heap.size = g at *
 go_wp2_with fail
 refine bodyPost_ret (v := .agg #[.slice (some ⟨g, 0, none⟩) zs.length zs.length]) (by simp [results, Tryz.results42, go_sem, r0]) rfl ⟨_, _, rfl, ?_, (HB.out.setCell (by simp <;> omega) _).setCell (by simp) _⟩
 exact (HN.out.set (fun b o e => by have := HS3.out; injection e with e; injection e with e; simp; omega)).set (fun b o e => by have := HS3.out; injection e with e; injection e with e; simp; omega)
set_option maxHeartbeats 1600000 in
theorem eqState_any (a b : Option Addr) (zs : List Int) (ca cb : Nat) (w : World) (hlen : zs.length ≤ 1048576) (ha : Nums w a zs) (hb : Nums w b zs) :
  Calls Tryz.prog 44 #[.agg #[.slice a zs.length ca], .agg #[.slice b zs.length cb]] w fun e w' => e = .returned (.bool true) ∧ Below w.heap.size w w' := by
 have HX : Hid (∀ W, Below w.heap.size w W → Calls Tryz.prog 63 #[.slice a zs.length ca, .slice b zs.length cb] W fun e w' => e = .returned (.bool true) ∧ Below W.heap.size W w') := fun W h => eqNums_any a b zs ca cb W (by omega) (ha.below h) (hb.below h)
 clear ha hb
 have b1 : Below w.heap.size w (w.alloc (.cells #[.slice a zs.length ca] 52)) := (Below.refl _ _).alloc (Nat.le_refl _) _
 have HB : Hid (Below w.heap.size w ((w.alloc (.cells #[.slice a zs.length ca] 52)).alloc (.cells #[.slice b zs.length cb] 52))) := b1.alloc b1.size _
 clear b1
 go_enter Tryz.func44, Tryz.ntmps44
 go_wp2_with fail
 refine (HX.out _ HB.out).mono ?_
 rintro e w2 ⟨rfl, hb⟩
 have HB2 : Hid (Below w.heap.size w w2) := HB.out.trans (hb.mono HB.out.size)
 clear hb HX HB
 go_wp2_with fail
 go_ret
 exact ⟨rfl, HB2.out⟩
set_option maxHeartbeats 1600000 in
theorem specStateFault (lo : Nat) (vv vn vb : Value) (T : LTree) (a : Option Addr) (zs : List Int) (cap : Nat) (w : World) (h : TreeV lo w vv vn vb T) (hS : Sized 1048576 T) (hn : Nums w a zs) (hlen : zs.length ≤ 1048576) :
  Calls Tryz.prog 41 #[treeV vv vn vb, .agg #[.slice a zs.length cap]] w fun e w' => e = .returned (.int .i64 (staF T zs)) ∧ Below w.heap.size w w' := by
 have HX : Hid (∀ W, Below w.heap.size w W → W.heap[w.heap.size]? = some (.cells #[vv, vn, vb] 28 (0, 0)) → W.heap[w.heap.size + 1]? = some (.cells #[.slice a zs.length cap] 52 (0, 0)) → Calls Tryz.prog 99 #[.pointer (some ⟨w.heap.size, 0, none⟩), .pointer (some ⟨w.heap.size + 1, 0, none⟩)] W fun e w' => e = .returned (.int .i64 (staF T zs)) ∧ Below W.heap.size W w') := fun W hb h1 h2 =>
  l6Fault_any lo w.heap.size (w.heap.size + 1) vv vn vb T a zs cap W ⟨cell_of_row _ _ 0 _ _ _ h1, cell_of_row _ _ 1 _ _ _ h1, cell_of_row _ _ 2 _ _ _ h1, h.below hb⟩ hS (cell_of_row _ _ 0 _ _ _ h2) (hn.below hb) hlen
 obtain ⟨av, cv, rfl, _⟩ := id h.vars
 obtain ⟨an, cn, rfl, _⟩ := id h.nodes
 obtain ⟨ab, cb, rfl, _⟩ := id h.body
 clear h hS hn
 have hA := heap_alloc_new w (.cells #[.slice av T.vars.length cv, .slice an T.nodes.length cn, .slice ab T.body.length cb] 28)
 have hB : Below w.heap.size w (w.alloc (.cells #[.slice av T.vars.length cv, .slice an T.nodes.length cn, .slice ab T.body.length cb] 28)) := (Below.refl _ _).alloc (Nat.le_refl _) _
 have hZ : (w.alloc (.cells #[.slice av T.vars.length cv, .slice an T.nodes.length cn, .slice ab T.body.length cb] 28)).heap.size = w.heap.size + 1 := by simp
 have hA2 := heap_alloc_new (w.alloc (.cells #[.slice av T.vars.length cv, .slice an T.nodes.length cn, .slice ab T.body.length cb] 28)) (.cells #[.slice a zs.length cap] 52)
 have hB2 : Below (w.alloc (.cells #[.slice av T.vars.length cv, .slice an T.nodes.length cn, .slice ab T.body.length cb] 28)).heap.size (w.alloc (.cells #[.slice av T.vars.length cv, .slice an T.nodes.length cn, .slice ab T.body.length cb] 28)) _ := (Below.refl _ _).alloc (Nat.le_refl _) (.cells #[.slice a zs.length cap] 52)
 have hA1 := blk hA hB2
 have hB3 := hB.trans (hB2.mono (by omega))
 rw [hZ] at hA2
 have HX2 : Hid (Calls Tryz.prog 99 #[.pointer (some ⟨w.heap.size, 0, none⟩), .pointer (some ⟨w.heap.size + 1, 0, none⟩)] ((w.alloc (.cells #[.slice av T.vars.length cv, .slice an T.nodes.length cn, .slice ab T.body.length cb] 28)).alloc (.cells #[.slice a zs.length cap] 52)) fun e w' => e = .returned (.int .i64 (staF T zs)) ∧ Below ((w.alloc (.cells #[.slice av T.vars.length cv, .slice an T.nodes.length cn, .slice ab T.body.length cb] 28)).alloc (.cells #[.slice a zs.length cap] 52)).heap.size ((w.alloc (.cells #[.slice av T.vars.length cv, .slice an T.nodes.length cn, .slice ab T.body.length cb] 28)).alloc (.cells #[.slice a zs.length cap] 52)) w') := HX.out _ hB3 hA1 hA2
 have HB3 : Hid _ := hB3
 clear hA hB hB2 hZ hA1 hA2 HX hB3
 go_enter Tryz.func41, Tryz.ntmps41
 go_wp2_with fail
 generalize ((w.alloc (.cells #[.slice av T.vars.length cv, .slice an T.nodes.length cn, .slice ab T.body.length cb] 28)).alloc (.cells #[.slice a zs.length cap] 52)) = W at *
 refine HX2.out.mono ?_
 rintro e w2 ⟨rfl, hb⟩
 have HB : Hid (Below w.heap.size w w2) := HB3.out.trans (hb.mono HB3.out.size)
 clear hb HB3 HX2
 go_wp2_with fail
 go_ret
 exact ⟨rfl, HB.out⟩
end Go.Proofs.YtcecfmdjicjngaaGreatDoor
namespace Go.Proofs.YtcecfmdjicjngaaGreatDoor
open Go.RowKit
def marks (k : Int) (n : Nat) : List Int := (List.range n).map (fun i : Nat => k + i)
theorem marks_length (k : Int) (n : Nat) : (marks k n).length = n := by unfold marks; simp
theorem marks_get (k : Int) (n i : Nat) (h : i < n) : (marks k n).getD i 0 = k + i := by
 unfold marks
 rw [List.getD_eq_getElem?_getD, List.getElem?_eq_getElem (by simpa using h)]
 simp
theorem marked {k : Int} {zs : List Int} {j : Nat} (h : j < zs.length) :
  ((marks k j ++ zs.drop j).map (Value.int .i64)).set j (.int .i64 (k + j)) = (marks k (j + 1) ++ zs.drop (j + 1)).map (Value.int .i64) := by
 have e : marks k (j + 1) = marks k j ++ [k + j] := by unfold marks; rw [List.range_succ, List.map_append]; rfl
 rw [e, List.drop_eq_getElem_cons h]
 simp only [List.map_append, List.map_cons, List.append_assoc, List.cons_append, List.nil_append]
 rw [List.set_append_right _ _ (by simp [marks_length])]
 simp [marks_length]
set_option maxHeartbeats 800000 in
theorem mark_any (a : Option Addr) (zs : List Int) (cap B : Nat) (k : Int) (w : World) (hlen : zs.length ≤ 1048576) (hk0 : 0 ≤ k) (hk1 : k ≤ 4194304) (ho : w.ownsRow B 2 1 (.slice a zs.length cap) zs.length (zs.map (Value.int .i64))) :
  Calls Tryz.prog 65 #[.slice a zs.length cap, .int .i64 k] w fun e w' =>
   e = .returned (.int .i64 (k + zs.length)) ∧ w'.ownsRow B 2 1 (.slice a zs.length cap) zs.length ((marks k zs.length).map (Value.int .i64)) ∧ Below B w w' ∧ w'.heap.size = w.heap.size ∧ (∀ g, a ≠ some ⟨g, 0, none⟩ → w'.heap[g]? = w.heap[g]?) := by
 go_enter Tryz.func65, Tryz.ntmps65
 go_wp2
 go_loopw [1, 5] (fun x i wr => ∃ j : Nat, j ≤ zs.length ∧ i = .int .i64 j ∧ x = .int .i64 (k + j) ∧ wr.ownsRow B 2 1 (.slice a zs.length cap) zs.length ((marks k j ++ zs.drop j).map (Value.int .i64)) ∧ Below B w wr ∧ wr.heap.size = w.heap.size ∧ (∀ g, a ≠ some ⟨g, 0, none⟩ → wr.heap[g]? = w.heap[g]?))
  (fun _ i _ => zs.length - (intOf i).toNat)
 case atStart => exact ⟨0, Nat.zero_le _, rfl, by simp, by simpa [marks] using ho, Below.refl _ _, rfl, fun _ _ => rfl⟩
 case round =>
  obtain ⟨j, hj, rfl, rfl, hown, hB, hsz, hoth⟩ := hrel
  by_cases hlt : j < zs.length
  ·obtain ⟨g, rfl⟩ : ∃ g, a = some ⟨g, 0, none⟩ := by
    rcases hown.2 with ⟨h, h0⟩ | ⟨g, c, cur, h, _⟩
    ·omega
    ·simp at h; exact ⟨g, h.1⟩
   have hgB : B ≤ g := (hown.lt g rfl).1
   have hdst := hown.cellAt j (by omega)
   have hfr := hown.frozenAt j
   obtain ⟨y, hy⟩ : ∃ y, wr.cell? ⟨g, j, none⟩ = some y := by
    rw [hdst]; exact ⟨_, List.getElem?_eq_getElem (by simp [marks_length]; omega)⟩
   have hst := (hown.stored j (.int .i64 (k + j))).1
   rw [marked hlt] at hst
   have HOTH : Hid (∀ g', some (⟨g, 0, none⟩ : Addr) ≠ some ⟨g', 0, none⟩ → (wr.setCell ⟨g, j, none⟩ (.int .i64 (k + j))).heap[g']? = w.heap[g']?) := fun g' hg' => by
    rw [heap_setCell_other _ _ _ _ (fun h => hg' (by simp at h; rw [h]))]
    exact hoth g' hg'
   clear hdst hown hoth ho
   go_wp2
   go_roundw
   case rel => exact ⟨j + 1, by omega, by go_num, by go_num, hst, hB.setCell hgB _, by rw [World.size_setCell]; exact hsz, HOTH.out⟩
   case measure => simp [intOf]; omega
  ·have hj2 : j = zs.length := by omega
   subst hj2
   have hown2 : Hid (wr.ownsRow B 2 1 (.slice a zs.length cap) zs.length ((marks k zs.length).map (Value.int .i64))) := by
    show World.ownsRow _ _ _ _ _ _ _
    simpa using hown
   have HOTH : Hid (∀ g, a ≠ some ⟨g, 0, none⟩ → wr.heap[g]? = w.heap[g]?) := hoth
   clear hown hoth ho
   go_wp2
   go_ret
   exact ⟨rfl, hown2.out, hB, hsz, HOTH.out⟩
set_option maxHeartbeats 800000 in
theorem held_any (a : Option Addr) (n cap : Nat) (k : Int) (w : World) (hlen : n ≤ 1048576) (hk0 : 0 ≤ k) (hk1 : k ≤ 4194304) (hn : Nums w a (marks k n)) :
  Calls Tryz.prog 112 #[.slice a n cap, .int .i64 k] w fun e w' => e = .returned (.int .i64 (k + n)) ∧ w' = w := by
 go_enter Tryz.func112, Tryz.ntmps112
 go_wp2
 go_loop [1, 5] (fun x i => ∃ j : Nat, j ≤ n ∧ i = .int .i64 j ∧ x = .int .i64 (k + j)) (fun _ i => n - (intOf i).toNat)
 case atStart => exact ⟨0, Nat.zero_le _, rfl, by simp⟩
 case round =>
  obtain ⟨j, hj, rfl, rfl⟩ := hrel
  by_cases hlt : j < n
  ·rcases hn with hn | ⟨b, off, rfl, hc⟩
   ·have := marks_length k n; rw [hn] at this; simp at this; omega
   have hcell := hc j (by rw [marks_length]; exact hlt)
   rw [marks_get k n j hlt] at hcell
   clear hc
   go_wp2
   go_round
   case rel => exact ⟨j + 1, by omega, by go_num, by go_num⟩
   case measure => simp [intOf]; omega
  ·have hj2 : j = n := by omega
   subst hj2
   clear hn
   go_wp2
   go_ret
   exact ⟨rfl, rfl⟩
theorem marks_nums {w : World} {B n cap : Nat} {k : Int} {a : Option Addr} (h : w.ownsRow B 2 1 (.slice a n cap) n ((marks k n).map (Value.int .i64))) : Nums w a (marks k n) :=
 (nums_of_own (B := B) (n := n) (cap := cap) (by unfold Own; rw [marks_length]; exact h)).2
end Go.Proofs.YtcecfmdjicjngaaGreatDoor
namespace Go.Proofs.YtcecfmdjicjngaaGreatDoor
open Go.RowKit
set_option linter.unusedVariables false
attribute [local go_sem] bs_size bs_get bs_extract bs_append bs_eq bs_toList
def staN (T : LTree) : Nat := if (chkT T).1.1 = 0 then (cellsL (allL 0 T)).toNat else 0
abbrev scanV (c s : Int) (v o : Value) : Value := .agg #[.int .i64 c, .int .i64 s, v, o]
theorem chk_cells {T : LTree} (h : (chkT T).1.1 = 0) : 0 ≤ cellsL (allL 0 T) ∧ cellsL (allL 0 T) ≤ 60 := ⟨(cellsL_le _ ((good_of (chk_good h).1).sizes 0)).1, (chk_good h).2⟩
theorem four_start (w : World) (vv vn vb a b c d : Value) (T1 T2 : TypeId) : let W := ((w.alloc (.cells #[vv, vn, vb] T1)).alloc (.cells #[a, b, c, d] T2))
  W.heap[w.heap.size]? = some (.cells #[vv, vn, vb] T1 (0, 0)) ∧ W.heap[w.heap.size + 1]? = some (.cells #[a, b, c, d] T2 (0, 0)) ∧ Below w.heap.size w W := by
 intro W
 have hA := heap_alloc_new w (.cells #[vv, vn, vb] T1)
 have hB : Below w.heap.size w (w.alloc (.cells #[vv, vn, vb] T1)) := (Below.refl _ _).alloc (Nat.le_refl _) _
 have hZ : (w.alloc (.cells #[vv, vn, vb] T1)).heap.size = w.heap.size + 1 := by simp
 have hA2 := heap_alloc_new (w.alloc (.cells #[vv, vn, vb] T1)) (.cells #[a, b, c, d] T2)
 have hB2 : Below (w.alloc (.cells #[vv, vn, vb] T1)).heap.size (w.alloc (.cells #[vv, vn, vb] T1)) W := (Below.refl _ _).alloc (Nat.le_refl _) _
 rw [hZ] at hA2
 exact ⟨blk hA hB2, hA2, hB.trans (hB2.mono (by omega))⟩
set_option maxHeartbeats 6400000 in
set_option maxRecDepth 100000 in
theorem specStartState (lo : Nat) (vv vn vb : Value) (T : LTree) (w : World) (h : TreeV lo w vv vn vb T) (hS : Sized 1048576 T) :
  Calls Tryz.prog 34 #[treeV vv vn vb] w fun e w' => ∃ v, e = .returned (scanV (chkT T).1.1 0 v (.slice none 0 0)) ∧ Own w' w.heap.size v (List.replicate (staN T) 0) ∧ Below w.heap.size w w' := by
 obtain ⟨i0, hi, hz0, hz1, hz2⟩ := info_parts infoInt
 have HX : Hid (∀ W, Below w.heap.size w W → W.heap[w.heap.size]? = some (.cells #[vv, vn, vb] 28 (0, 0)) → Calls Tryz.prog 77 #[.pointer (some ⟨w.heap.size, 0, none⟩)] W fun e w' => e = .returned (.agg #[.int .i64 (chkT T).1.1, .int .i64 (chkT T).1.2, .int .i64 (chkT T).2]) ∧ Below W.heap.size W w') := fun W hb hA =>
  l5Tree_any lo w.heap.size vv vn vb T W ⟨cell_of_row _ _ 0 _ _ _ hA, cell_of_row _ _ 1 _ _ _ hA, cell_of_row _ _ 2 _ _ _ hA, h.below hb⟩ hS
 have HAL : Hid ((chkT T).1.1 = 0 → ∀ (W : World), Below w.heap.size w W → W.heap[w.heap.size]? = some (.cells #[vv, vn, vb] 28 (0, 0)) → Calls Tryz.prog 94 #[.pointer (some ⟨w.heap.size, 0, none⟩)] W fun e w2 => ∃ v, e = .returned v ∧ w2.ownsRow W.heap.size 45 4 v (allL 3 T).length (varCells (allL 3 T)) ∧ Below W.heap.size W w2) := fun h0 W hb hA =>
  l5All_any lo w.heap.size vv vn vb T W ⟨cell_of_row _ _ 0 _ _ _ hA, cell_of_row _ _ 1 _ _ _ hA, cell_of_row _ _ 2 _ _ _ hA, h.below hb⟩ (good_of (chk_good h0).1)
 have HCE : Hid ((chkT T).1.1 = 0 → ∀ (ad : Option Addr) (c : Nat) (W : World), RowV W ad (allL 3 T) → Calls Tryz.prog 93 #[.slice ad (allL 3 T).length c] W fun e w' => e = .returned (.int .i64 (cellsL (allL 0 T))) ∧ Below W.heap.size W w') := fun h0 ad c W hr => by
  have g := good_of (chk_good h0).1
  have := l5Cells_any (allL 3 T) ad (allL 3 T).length c W (Nat.le_refl _) hr (g.sizes 3) (g.all_len 3)
  rwa [List.take_length, cells_kind] at this
 have HNN : Hid ((chkT T).1.1 = 0 → 0 ≤ cellsL (allL 0 T) ∧ cellsL (allL 0 T) ≤ 60) := chk_cells
 have HST : Hid (staN T = if (chkT T).1.1 = 0 then (cellsL (allL 0 T)).toNat else 0) := rfl
 obtain ⟨av, cv, rfl, _⟩ := id h.vars
 obtain ⟨an, cn, rfl, _⟩ := id h.nodes
 obtain ⟨ab, cb, rfl, _⟩ := id h.body
 clear h hS
 generalize staN T = N at *
 generalize (chkT T).1.1 = c1 at *
 generalize (chkT T).1.2 = c2 at *
 generalize (chkT T).2 = c3 at *
 generalize cellsL (allL 0 T) = z at *
 go_enter Tryz.func34, Tryz.ntmps34
 go_wp2_with fail
 obtain ⟨hA, hA2, hB⟩ := four_start w (.slice av T.vars.length cv) (.slice an T.nodes.length cn) (.slice ab T.body.length cb) (.int .i64 0) (.int .i64 0) (.slice none 0 0) (.slice none 0 0) 28 69
 generalize ((w.alloc (.cells #[.slice av T.vars.length cv, .slice an T.nodes.length cn, .slice ab T.body.length cb] 28)).alloc (.cells #[.int .i64 0, .int .i64 0, .slice none 0 0, .slice none 0 0] 69)) = W at *
 refine (HX.out _ hB hA).mono ?_
 rintro e w2 ⟨rfl, hb⟩
 have hA1 := blk hA hb
 have hA3 := blk hA2 hb
 have hB2 := hB.trans (hb.mono hB.size)
 have hbx : Below w2.heap.size w2 (w2.alloc (.cells #[.int .i64 c1, .int .i64 c2, .int .i64 c3] 31)) := (Below.refl _ _).alloc (Nat.le_refl _) _
 have HC : Hid ((w2.alloc (.cells #[.int .i64 c1, .int .i64 c2, .int .i64 c3] 31)).heap[w2.heap.size]? = some (.cells #[.int .i64 c1, .int .i64 c2, .int .i64 c3] 31 (0, 0))) := heap_alloc_new w2 _
 have HA : Hid ((w2.alloc (.cells #[.int .i64 c1, .int .i64 c2, .int .i64 c3] 31)).heap[w.heap.size]? = some (.cells #[.slice av T.vars.length cv, .slice an T.nodes.length cn, .slice ab T.body.length cb] 28 (0, 0))) := blk hA1 hbx
 have HR : Hid ((w2.alloc (.cells #[.int .i64 c1, .int .i64 c2, .int .i64 c3] 31)).heap[w.heap.size + 1]? = some (.cells #[.int .i64 0, .int .i64 0, .slice none 0 0, .slice none 0 0] 69 (0, 0))) := blk hA3 hbx
 have HB : Hid (Below w.heap.size w (w2.alloc (.cells #[.int .i64 c1, .int .i64 c2, .int .i64 c3] 31))) := hB2.trans (hbx.mono hB2.size)
 clear hA hA2 hB hb hA1 hA3 hB2 hbx HX
 go_upto_region 2 with fail
 generalize w2.alloc (.cells #[.int .i64 c1, .int .i64 c2, .int .i64 c3] 31) = W2 at *
 generalize w2.heap.size = g2 at *
 have k0 := cell_of_row _ _ 0 _ _ _ HC.out
 simp at k0
 by_cases hc : c1 = 0
 ·subst hc
  have HAL2 := HAL.out rfl
  have HCE2 := HCE.out rfl
  have HN0 : Hid (0 ≤ z ∧ z ≤ 60) := HNN.out rfl
  have HSN : Hid (N = z.toNat) := by unfold Hid; rw [HST.out, if_pos rfl]
  clear HAL HCE HNN HST
  have HAL : Hid _ := HAL2
  have HCE : Hid _ := HCE2
  clear HAL2 HCE2
  obtain ⟨n, hn⟩ : ∃ n : Nat, z = n := ⟨z.toNat, by have := HN0.out; omega⟩
  have HN1 : Hid (n ≤ 60 ∧ N = n) := ⟨by have := HN0.out.2; omega, by rw [HSN.out, hn]; rfl⟩
  subst hn
  clear HN0 HSN
  go_wp2_with fail
  refine (HAL.out _ HB.out HA.out).mono ?_
  rintro e w4 ⟨v, rfl, hown, hb⟩
  obtain ⟨ad, cp, rfl⟩ := rowE_shape hown
  have HRV : Hid (RowV w4 ad (allL 3 T)) := RowV.of_own hown rfl
  have HR4 : Hid (w4.heap[w.heap.size + 1]? = some (.cells #[.int .i64 0, .int .i64 0, .slice none 0 0, .slice none 0 0] 69 (0, 0))) := blk HR.out hb
  have HB4 : Hid (Below w.heap.size w w4) := HB.out.trans (hb.mono HB.out.size)
  clear hown hb HA HR HB HC k0 HAL
  go_wp2_with fail
  refine (HCE.out _ _ _ HRV.out).mono ?_
  rintro e w5 ⟨rfl, hb⟩
  have HR5 : Hid (w5.heap[w.heap.size + 1]? = some (.cells #[.int .i64 0, .int .i64 0, .slice none 0 0, .slice none 0 0] 69 (0, 0))) := blk HR4.out hb
  have HB5 : Hid (Below w.heap.size w w5) := HB4.out.trans (hb.mono HB4.out.size)
  have hmax : n ≤ maxLen := by have := HN1.out.1; unfold maxLen; omega
  clear hb HR4 HB4 HCE HRV
  go_wp2_with (at_make; refine wpList_make_full _ rfl (.tmp 12) (.tmp 12) 26 rfl w5.heap.size 2 i0 (.int .i64 0) 1 Tryz.underlying26 hi hz0 hz1 .i64 .i64 n n n rfl rfl rfl rfl ?_ hmax (Nat.le_refl _) ?_)
  ·rw [hz2]; have := HN1.out.1; omega
  ·intro w6 hown hgrow
   have hb : Below w5.heap.size w5 w6 := (Below.refl _ _).grown hgrow (Nat.le_refl _) (fun k hk => by cases hk)
   have hR6 := blk HR5.out hb
   have HB6 : Hid (Below w.heap.size w w6) := HB5.out.trans (hb.mono HB5.out.size)
   obtain ⟨r0, r1, r2, r3⟩ := cl4 hR6
   obtain ⟨f0, f1, f2, f3⟩ := fl4 hR6
   have HO6 : Hid (w6.ownsRow w5.heap.size 2 1 (.slice (some ⟨w5.heap.size, 0, none⟩) n n) n ((List.replicate n (0 : Int)).map (Value.int .i64))) := by
    rw [toList_madeCells_one] at hown
    unfold Hid
    rw [List.map_replicate]
    exact hown
   have hg1 : w.heap.size + 1 < w5.heap.size := blk_lt HR5.out
   have HG1 := hid hg1
   clear hown hgrow hb hR6 HR5 HB5 hg1 hi hz0 hz1 hz2
   generalize w5.heap.size = g5 at *
   go_wp2_with fail
   refine bodyPost_ret (v := scanV 0 0 (.slice (some ⟨g5, 0, none⟩) n n) (.slice none 0 0)) (by simp [results, Tryz.results34, go_sem, r0, r1, r2, r3]) rfl ⟨_, rfl, ?_, (((HB6.out.setCell (by simp) _).setCell (by simp) _).setCell (by simp) _).setCell (by simp) _⟩
   rw [HN1.out.2]
   unfold Own
   rw [List.length_replicate]
   have hg := HG1.out
   exact own_mono (ownsRow_setCell_below (ownsRow_setCell_below (ownsRow_setCell_below (ownsRow_setCell_below HO6.out (a := ⟨w.heap.size + 1, 0, none⟩) hg _) (a := ⟨w.heap.size + 1, 1, none⟩) hg _) (a := ⟨w.heap.size + 1, 2, none⟩) hg _) (a := ⟨w.heap.size + 1, 3, none⟩) hg _) (by omega)
 ·have hz1' : (c1 == 0) = false := by simpa using hc
  have hz2' : decide (c1 = 0) = false := decide_eq_false hc
  have HSN : Hid (N = 0) := by unfold Hid; rw [HST.out, if_neg hc]
  obtain ⟨r0, r1, r2, r3⟩ := cl4 HR.out
  obtain ⟨f0, f1, f2, f3⟩ := fl4 HR.out
  clear HAL HCE HNN HST hi hz0 hz1 hz2
  go_wp2_with fail
  refine bodyPost_ret (v := scanV c1 0 (.slice none 0 0) (.slice none 0 0)) (by simp [results, Tryz.results34, go_sem, r0, r1, r2, r3]) rfl ⟨_, rfl, ?_, (((HB.out.setCell (by simp) _).setCell (by simp) _).setCell (by simp) _).setCell (by simp) _⟩
  rw [HSN.out]
  exact World.ownsRow_nil _ _ _ _
end Go.Proofs.YtcecfmdjicjngaaGreatDoor
namespace Go.Proofs.YtcecfmdjicjngaaGreatDoor
open Go.RowKit
set_option linter.unusedVariables false
abbrev scanL (c s : Int) (v o : Value) : Array Value := #[.int .i64 c, .int .i64 s, v, o]
theorem bel_on {a b c : World} (h : Below a.heap.size a b) (hb : Below b.heap.size b c) : Below a.heap.size a c := h.trans (hb.mono h.size)
set_option maxHeartbeats 1600000 in
theorem eqScan_any (c s : Int) (zs ys : List Int) (a b a2 b2 : Option Addr) (ca cb ca2 cb2 : Nat) (w : World) (hl : zs.length ≤ 1048576) (hl2 : ys.length ≤ 1048576) (h1 : Nums w a zs) (h2 : Nums w b zs) (h3 : Nums w a2 ys) (h4 : Nums w b2 ys) :
  Calls Tryz.prog 36 #[scanV c s (.slice a zs.length ca) (.slice a2 ys.length ca2), scanV c s (.slice b zs.length cb) (.slice b2 ys.length cb2)] w fun e w' => e = .returned (.bool true) ∧ Below w.heap.size w w' := by
 have HX : Hid (∀ W, Below w.heap.size w W → Calls Tryz.prog 44 #[.agg #[.slice a zs.length ca], .agg #[.slice b zs.length cb]] W fun e w' => e = .returned (.bool true) ∧ Below W.heap.size W w') := fun W h => eqState_any a b zs ca cb W hl (h1.below h) (h2.below h)
 have HY : Hid (∀ W, Below w.heap.size w W → Calls Tryz.prog 63 #[.slice a2 ys.length ca2, .slice b2 ys.length cb2] W fun e w' => e = .returned (.bool true) ∧ Below W.heap.size W w') := fun W h => eqNums_any a2 b2 ys ca2 cb2 W (by omega) (h3.below h) (h4.below h)
 clear h1 h2 h3 h4 hl hl2
 generalize zs.length = n1 at *
 generalize ys.length = n2 at *
 have x1 := heap_alloc_new w (.cells (scanL c s (.slice a n1 ca) (.slice a2 n2 ca2)) 69)
 have y1 := (Below.refl w.heap.size w).alloc (Nat.le_refl _) (.cells (scanL c s (.slice a n1 ca) (.slice a2 n2 ca2)) 69)
 have s1 : (w.alloc (.cells (scanL c s (.slice a n1 ca) (.slice a2 n2 ca2)) 69)).heap.size = w.heap.size + 1 := by simp
 go_enter Tryz.func36, Tryz.ntmps36
 go_upto_region 1 with fail
 generalize w.alloc (.cells (scanL c s (.slice a n1 ca) (.slice a2 n2 ca2)) 69) = W1 at *
 have x2 := heap_alloc_new W1 (.cells (scanL c s (.slice b n1 cb) (.slice b2 n2 cb2)) 69)
 have y2 := (Below.refl W1.heap.size W1).alloc (Nat.le_refl _) (.cells (scanL c s (.slice b n1 cb) (.slice b2 n2 cb2)) 69)
 generalize W1.alloc (.cells (scanL c s (.slice b n1 cb) (.slice b2 n2 cb2)) 69) = W2 at *
 rw [s1] at x2
 have HA := hid (blk x1 y2)
 have HC := hid x2
 have HB := hid (y1.trans (y2.mono (by omega)))
 clear x1 x2 y1 y2 s1
 obtain ⟨p0, p1, p2, p3⟩ := cl4 HA.out
 obtain ⟨q0, q1, q2, q3⟩ := cl4 HC.out
 go_wp2_with fail
 refine (HX.out _ HB.out).mono ?_
 rintro e w3 ⟨rfl, hb⟩
 have HB3 := hid (bel_on HB.out hb)
 have hA3 := blk HA.out hb
 have hC3 := blk HC.out hb
 clear p0 p1 p2 p3 q0 q1 q2 q3 hb HB HA HC HX
 obtain ⟨-, -, -, p3⟩ := cl4 hA3
 obtain ⟨-, -, -, q3⟩ := cl4 hC3
 clear hA3 hC3
 go_wp2_with fail
 refine (HY.out _ HB3.out).mono ?_
 rintro e w4 ⟨rfl, hb⟩
 have HB4 := hid (bel_on HB3.out hb)
 clear p3 q3 hb HB3 HY
 go_wp2_with fail
 go_ret
 exact ⟨rfl, HB4.out⟩
def MarkR (B : Nat) (w w' : World) (k : Int) (a1 a2 : Option Addr) (n1 n2 : Nat) : Prop :=
 Nums w' a1 (marks k n1) ∧ Nums w' a2 (marks (k + n1) n2) ∧ Below B w w' ∧ w.heap.size ≤ w'.heap.size ∧ (∀ g, g < w.heap.size → a1 ≠ some ⟨g, 0, none⟩ → a2 ≠ some ⟨g, 0, none⟩ → w'.heap[g]? = w.heap[g]?)
set_option maxHeartbeats 1600000 in
theorem markState_any (zs : List Int) (a : Option Addr) (c B : Nat) (k : Int) (w : World) (h : Own w B (.slice a zs.length c) zs) (hB : B ≤ w.heap.size) (hl : zs.length ≤ 1048576) (hk0 : 0 ≤ k) (hk1 : k ≤ 2097152) :
  Calls Tryz.prog 64 #[.agg #[.slice a zs.length c], .int .i64 k] w fun e w' => e = .returned (.int .i64 (k + zs.length)) ∧ w'.ownsRow B 2 1 (.slice a zs.length c) zs.length ((marks k zs.length).map (Value.int .i64)) ∧ Below B w w' ∧ w.heap.size ≤ w'.heap.size ∧ (∀ g, g < w.heap.size → a ≠ some ⟨g, 0, none⟩ → w'.heap[g]? = w.heap[g]?) := by
 have hx := heap_alloc_new w (.cells #[.slice a zs.length c] 52)
 have hy := (Below.refl w.heap.size w).alloc (Nat.le_refl _) (.cells #[.slice a zs.length c] 52)
 have hsz : (w.alloc (.cells #[.slice a zs.length c] 52)).heap.size = w.heap.size + 1 := by simp
 have HM := hid (mark_any a zs c B k _ (by omega) hk0 (by omega) (own_kept h hy))
 have HB0 := hid (hy.mono hB)
 have HY := hid hy
 have HS := hid hsz
 clear h hy hsz
 go_enter Tryz.func64, Tryz.ntmps64
 go_upto_region 1 with fail
 generalize w.alloc (.cells #[.slice a zs.length c] 52) = W at *
 have p0 := cl1 hx
 go_wp2_with fail
 refine HM.out.mono ?_
 rintro e w2 ⟨rfl, ho, hb, hz, hoth⟩
 have HF := hid (And.intro ho (And.intro (HB0.out.trans hb) (And.intro (show w.heap.size ≤ w2.heap.size by have := HS.out; omega) (show ∀ g, g < w.heap.size → a ≠ some ⟨g, 0, none⟩ → w2.heap[g]? = w.heap[g]? from fun g hg e => (hoth g e).trans (HY.out.block g hg)))))
 clear ho hb hz hoth HM HB0 HY HS hx p0
 go_wp2_with fail
 go_ret
 exact ⟨rfl, HF.out⟩
set_option maxHeartbeats 1600000 in
theorem markScan_any (c s : Int) (zs ys : List Int) (a1 a2 : Option Addr) (c1 c2 B : Nat) (k : Int) (w : World) (hs : Own w B (.slice a1 zs.length c1) zs) (hc : Own w B (.slice a2 ys.length c2) ys) (hd : ∀ g, a1 = some ⟨g, 0, none⟩ → a2 ≠ some ⟨g, 0, none⟩) (hB : B ≤ w.heap.size) (hl1 : zs.length ≤ 1048576) (hl2 : ys.length ≤ 1048576) (hk0 : 0 ≤ k) (hk1 : k ≤ 1048576) :
  Calls Tryz.prog 38 #[scanV c s (.slice a1 zs.length c1) (.slice a2 ys.length c2), .int .i64 k] w fun e w' => e = .returned (.int .i64 (k + zs.length + ys.length)) ∧ MarkR B w w' k a1 a2 zs.length ys.length := by
 have hx := heap_alloc_new w (.cells (scanL c s (.slice a1 zs.length c1) (.slice a2 ys.length c2)) 69)
 have hy := (Below.refl w.heap.size w).alloc (Nat.le_refl _) (.cells (scanL c s (.slice a1 zs.length c1) (.slice a2 ys.length c2)) 69)
 have hsz : (w.alloc (.cells (scanL c s (.slice a1 zs.length c1) (.slice a2 ys.length c2)) 69)).heap.size = w.heap.size + 1 := by simp
 have HM := hid (markState_any zs a1 c1 B k _ (own_kept hs hy) (by omega) hl1 hk0 (by omega))
 have hc1 := own_kept hc hy
 have HB0 := hid (hy.mono hB)
 have HY := hid hy
 have HS := hid hsz
 have HD := hid hd
 have HG1 : Hid (a1 ≠ some ⟨w.heap.size, 0, none⟩) := fun e => by have := (own_lt hs e).2; omega
 have HC := hid hc1
 clear hs hc hy hsz hd hc1
 go_enter Tryz.func38, Tryz.ntmps38
 go_upto_region 1 with fail
 generalize w.alloc (.cells (scanL c s (.slice a1 zs.length c1) (.slice a2 ys.length c2)) 69) = W at *
 obtain ⟨p0, p1, p2, p3⟩ := cl4 hx
 go_wp2_with fail
 refine HM.out.mono ?_
 rintro e w2 ⟨rfl, ho, hb, hz, hoth⟩
 have hx2 := (hoth w.heap.size (by have := HS.out; omega) HG1.out).trans hx
 have hc2 := own_other HC.out (w' := w2) (fun g hg => hoth g (HC.out.lt g hg).2 (fun e => HD.out g e (own_at HC.out hg)))
 have HO := hid ho
 have HOT := hid hoth
 have HB2 := hid (HB0.out.trans hb)
 have HSZ : Hid (w.heap.size ≤ w2.heap.size ∧ W.heap.size ≤ w2.heap.size) := ⟨by have := HS.out; omega, hz⟩
 have HM2 := hid (mark_any a2 ys c2 B (k + zs.length) w2 (by omega) (by omega) (by omega) hc2)
 clear ho hb hz hoth hc2 HM HB0 HC p0 p1 p2 p3 hx
 obtain ⟨-, -, -, p3⟩ := cl4 hx2
 go_wp2_with fail
 refine HM2.out.mono ?_
 rintro e w3 ⟨rfl, ho, hbm, hz3, hoth⟩
 have HF : Hid (MarkR B w w3 k a1 a2 zs.length ys.length) :=
  ⟨marks_nums (own_other HO.out (fun g hg => hoth g (fun e => HD.out g (own_at HO.out hg) e))), marks_nums ho, HB2.out.trans hbm, by have := HSZ.out; omega, fun g hg h1 h2 => ((hoth g h2).trans (HOT.out g (by have := HS.out; omega) h1)).trans (HY.out.block g hg)⟩
 clear ho hoth hbm HO HOT HB2 HY HD HG1 HM2 p3 hx2 hz3 HS HSZ
 go_wp2_with fail
 go_ret
 exact ⟨rfl, HF.out⟩
set_option maxHeartbeats 1600000 in
theorem heldState_any (n : Nat) (a : Option Addr) (c : Nat) (k : Int) (w : World) (h : Nums w a (marks k n)) (hl : n ≤ 1048576) (hk0 : 0 ≤ k) (hk1 : k ≤ 2097152) :
  Calls Tryz.prog 111 #[.agg #[.slice a n c], .int .i64 k] w fun e w' => e = .returned (.int .i64 (k + n)) ∧ Below w.heap.size w w' := by
 have hx := heap_alloc_new w (.cells #[.slice a n c] 52)
 have hy := (Below.refl w.heap.size w).alloc (Nat.le_refl _) (.cells #[.slice a n c] 52)
 have HM := hid (held_any a n c k _ hl hk0 (by omega) (h.below hy))
 have HY := hid hy
 have hkd : decide (k + (n : Int) < 0) = false := decide_eq_false (by omega)
 clear h hy
 go_enter Tryz.func111, Tryz.ntmps111
 go_upto_region 1 with fail
 generalize w.alloc (.cells #[.slice a n c] 52) = W at *
 have p0 := cl1 hx
 clear hx
 go_wp2_with fail
 refine HM.out.mono ?_
 rintro e w2 ⟨rfl, rfl⟩
 clear HM
 go_wp2_with fail
 go_ret
 exact ⟨rfl, HY.out⟩
set_option maxHeartbeats 1600000 in
theorem heldScan_any (c s : Int) (n1 n2 : Nat) (a1 a2 : Option Addr) (c1 c2 : Nat) (k : Int) (w : World) (h1 : Nums w a1 (marks k n1)) (h2 : Nums w a2 (marks (k + n1) n2)) (hl1 : n1 ≤ 1048576) (hl2 : n2 ≤ 1048576) (hk0 : 0 ≤ k) (hk1 : k ≤ 1048576) :
  Calls Tryz.prog 39 #[scanV c s (.slice a1 n1 c1) (.slice a2 n2 c2), .int .i64 k] w fun e w' => e = .returned (.int .i64 (k + n1 + n2)) ∧ Below w.heap.size w w' := by
 have hx := heap_alloc_new w (.cells (scanL c s (.slice a1 n1 c1) (.slice a2 n2 c2)) 69)
 have hy := (Below.refl w.heap.size w).alloc (Nat.le_refl _) (.cells (scanL c s (.slice a1 n1 c1) (.slice a2 n2 c2)) 69)
 have HM := hid (heldState_any n1 a1 c1 k _ (h1.below hy) hl1 hk0 (by omega))
 have HN := hid (h2.below hy)
 have HY := hid hy
 have hkd : decide (k + (n1 : Int) < 0) = false := decide_eq_false (by omega)
 have hke : decide (k + (n1 : Int) + (n2 : Int) < 0) = false := decide_eq_false (by omega)
 clear h1 h2 hy
 go_enter Tryz.func39, Tryz.ntmps39
 go_upto_region 1 with fail
 generalize w.alloc (.cells (scanL c s (.slice a1 n1 c1) (.slice a2 n2 c2)) 69) = W at *
 obtain ⟨p0, p1, p2, p3⟩ := cl4 hx
 go_wp2_with fail
 refine HM.out.mono ?_
 rintro e w2 ⟨rfl, hb⟩
 have HM2 := hid (held_any a2 n2 c2 (k + n1) w2 hl2 (by omega) (by omega) (HN.out.below hb))
 have HB2 := hid (bel_on HY.out hb)
 have hx2 := blk hx hb
 clear hb HM HN HY p0 p1 p2 p3 hx
 obtain ⟨-, -, -, p3⟩ := cl4 hx2
 clear hx2
 go_wp2_with fail
 refine HM2.out.mono ?_
 rintro e w3 ⟨rfl, rfl⟩
 clear HM2 p3
 go_wp2_with fail
 go_ret
 exact ⟨rfl, HB2.out⟩
end Go.Proofs.YtcecfmdjicjngaaGreatDoor
namespace Go.Proofs.YtcecfmdjicjngaaGreatDoor
open Go.RowKit
set_option linter.unusedVariables false
theorem two_start (w : World) (vv vn vb : Value) (T1 T2 : TypeId) : let W := ((w.alloc (.cells #[vv, vn, vb] T1)).alloc (.cells #[.int .i64 0, .int .i64 0] T2))
  W.heap[w.heap.size]? = some (.cells #[vv, vn, vb] T1 (0, 0)) ∧ W.heap[w.heap.size + 1]? = some (.cells #[.int .i64 0, .int .i64 0] T2 (0, 0)) ∧ Below w.heap.size w W := by
 intro W
 have hA := heap_alloc_new w (.cells #[vv, vn, vb] T1)
 have hB : Below w.heap.size w (w.alloc (.cells #[vv, vn, vb] T1)) := (Below.refl _ _).alloc (Nat.le_refl _) _
 have hZ : (w.alloc (.cells #[vv, vn, vb] T1)).heap.size = w.heap.size + 1 := by simp
 have hA2 := heap_alloc_new (w.alloc (.cells #[vv, vn, vb] T1)) (.cells #[.int .i64 0, .int .i64 0] T2)
 have hB2 : Below (w.alloc (.cells #[vv, vn, vb] T1)).heap.size (w.alloc (.cells #[vv, vn, vb] T1)) W := (Below.refl _ _).alloc (Nat.le_refl _) _
 rw [hZ] at hA2
 exact ⟨blk hA hB2, hA2, hB.trans (hB2.mono (by omega))⟩
end Go.Proofs.YtcecfmdjicjngaaGreatDoor
namespace Go.Proofs.YtcecfmdjicjngaaGreatDoor
open Go.RowKit
set_option linter.unusedVariables false
attribute [local go_sem] bs_size bs_get bs_extract bs_append bs_eq bs_toList
def TreeNumI (f : FuncId) (C V : LTree → Int) : Prop := ∀ (lo : Nat) (vv vn vb : Value) (T : LTree) (w : World), TreeV lo w vv vn vb T → Sized 1048576 T →
 Calls Tryz.prog f #[treeV vv vn vb] w fun e w' => e = .returned (.agg #[.int .i64 (C T), .int .i64 (V T)]) ∧ Below w.heap.size w w'
def celC (T : LTree) : Int := faultL T
def celV (T : LTree) : Int := if faultL T ≠ 0 then 0 else cellsL (allL 0 T)
set_option maxHeartbeats 6400000 in
set_option maxRecDepth 100000 in
theorem implCellsOf : TreeNumI 22 celC celV := by
 intro lo vv vn vb T w h hS
 obtain ⟨av, cv, rfl, _⟩ := id h.vars
 obtain ⟨an, cn, rfl, _⟩ := id h.nodes
 obtain ⟨ab, cb, rfl, _⟩ := id h.body
 have HF : Hid (∀ (w' : World), Below w.heap.size w w' → Calls Tryz.prog 21 #[treeV (.slice av T.vars.length cv) (.slice an T.nodes.length cn) (.slice ab T.body.length cb)] w' fun e w2 => e = .returned (.int .i64 (faultL T)) ∧ Below w'.heap.size w' w2) := fun w' hb =>
  implTreeFault lo _ _ _ T w' (h.below hb) hS
 have HD : Hid (∀ (w' : World), Below w.heap.size w w' → faultL T = 0 → Calls Tryz.prog 91 #[.agg #[.slice av T.vars.length cv, .slice an T.nodes.length cn, .slice ab T.body.length cb]] w' fun e w2 => ∃ v, e = .returned v ∧ w2.ownsRow w'.heap.size 136 6 v (allL 0 T).length (entC (allL 0 T) T.vars.length (allL 0 T).length) ∧ Below w'.heap.size w' w2) := fun w' hb h0 =>
  variablesOf_any lo _ _ _ T w' (h.below hb) (good_of h0)
 have HSZ : Hid (faultL T = 0 → SizesLe (allL 0 T) ∧ (allL 0 T).length ≤ 624) := fun h => ⟨(good_of h).sizes 0, (good_of h).all_len 0⟩
 have HCC : Hid (∀ (ad : Option Addr) (c : Nat) (w : World), RowE w ad (allL 0 T) T.vars.length → SizesLe (allL 0 T) → (allL 0 T).length ≤ 624 → Calls Tryz.prog 90 #[.slice ad (allL 0 T).length c] w fun e w' => e = .returned (.int .i64 (cellsL (allL 0 T))) ∧ Below w.heap.size w w') := fun ad c w h1 h2 h3 =>
  cellCount_any (allL 0 T) T.vars.length ad (allL 0 T).length c w rfl h1 h2 h3
 have HV : Hid (celV T = if faultL T ≠ 0 then 0 else cellsL (allL 0 T)) := rfl
 have HC : Hid (celC T = faultL T) := rfl
 clear h hS
 go_enter Tryz.func22, Tryz.ntmps22
 go_wp2_with fail
 obtain ⟨hA, hA2, hB⟩ := two_start w (.slice av T.vars.length cv) (.slice an T.nodes.length cn) (.slice ab T.body.length cb) 28 34
 generalize ((w.alloc (.cells #[.slice av T.vars.length cv, .slice an T.nodes.length cn, .slice ab T.body.length cb] 28)).alloc (.cells #[.int .i64 0, .int .i64 0] 34)) = W at *
 refine (HF.out _ hB).mono ?_
 rintro e w2 ⟨rfl, hb⟩
 have HA : Hid (w2.heap[w.heap.size]? = some (.cells #[.slice av T.vars.length cv, .slice an T.nodes.length cn, .slice ab T.body.length cb] 28 (0, 0))) := blk hA hb
 have HA2 : Hid (w2.heap[w.heap.size + 1]? = some (.cells #[.int .i64 0, .int .i64 0] 34 (0, 0))) := blk hA2 hb
 have HB : Hid (Below w.heap.size w w2) := hB.trans (hb.mono hB.size)
 clear hA hA2 hB hb HF
 obtain ⟨F, hF⟩ : ∃ F, faultL T = F := ⟨_, rfl⟩
 rw [hF]
 by_cases hz : F = 0
 ·subst hz
  have HCV : Hid (celC T = 0 ∧ celV T = cellsL (allL 0 T)) := ⟨by rw [HC.out, hF], by rw [HV.out, hF, if_neg (by simp)]⟩
  have HDC : Hid (Calls Tryz.prog 91 #[.agg #[.slice av T.vars.length cv, .slice an T.nodes.length cn, .slice ab T.body.length cb]] w2 fun e w3 => ∃ v, e = .returned v ∧ w3.ownsRow w2.heap.size 136 6 v (allL 0 T).length (entC (allL 0 T) T.vars.length (allL 0 T).length) ∧ Below w2.heap.size w2 w3) := HD.out _ HB.out hF
  have HS2 : Hid (SizesLe (allL 0 T) ∧ (allL 0 T).length ≤ 624) := HSZ.out hF
  obtain ⟨p0, p1, p2⟩ := cl3 HA.out
  clear hF HC HV HD HSZ
  go_wp2_with fail
  refine HDC.out.mono ?_
  rintro e w4 ⟨v, rfl, hown, hb⟩
  obtain ⟨ad, cp, rfl⟩ := rowE_shape hown
  have hRV := RowE.of_own hown rfl
  have HCX : Hid (Calls Tryz.prog 90 #[.slice ad (allL 0 T).length cp] w4 fun e w' => e = .returned (.int .i64 (cellsL (allL 0 T))) ∧ Below w4.heap.size w4 w') := HCC.out ad cp w4 hRV HS2.out.1 HS2.out.2
  have hA2 := blk HA2.out hb
  have HB2 : Hid (Below w.heap.size w w4) := HB.out.trans (hb.mono HB.out.size)
  clear hown hRV hb HCC HS2 HDC p0 p1 p2
  go_wp2_with fail
  refine HCX.out.mono ?_
  rintro e w5 ⟨rfl, hb⟩
  have hA5 := blk hA2 hb
  have HB5 : Hid (Below w.heap.size w w5) := HB2.out.trans (hb.mono HB2.out.size)
  clear hA2 hb
  obtain ⟨r0, r1⟩ := cl2 hA5
  obtain ⟨f0, f1⟩ := fl2 hA5
  clear hA5
  generalize cellsL (allL 0 T) = z at *
  go_wp2_with fail
  refine bodyPost_ret (v := .agg #[.int .i64 0, .int .i64 z]) (by simp [results, Tryz.results22, go_sem, r0, r1]) rfl ⟨by rw [HCV.out.1, HCV.out.2], (HB5.out.setCell (by simp) _).setCell (by simp) _⟩
 ·have HCV : Hid (celC T = F ∧ celV T = 0) := ⟨by rw [HC.out, hF], by rw [HV.out, hF, if_pos hz]⟩
  have hz1 : (F == 0) = false := by simpa using hz
  have hz2 : decide (F = 0) = false := decide_eq_false hz
  obtain ⟨r0, r1⟩ := cl2 HA2.out
  obtain ⟨f0, f1⟩ := fl2 HA2.out
  clear HC HV hF
  go_wp2_with fail
  refine bodyPost_ret (v := .agg #[.int .i64 F, .int .i64 0]) (by simp [results, Tryz.results22, go_sem, r0, r1]) rfl ⟨by rw [HCV.out.1, HCV.out.2], (HB.out.setCell (by simp) _).setCell (by simp) _⟩
end Go.Proofs.YtcecfmdjicjngaaGreatDoor
namespace Go.Proofs.YtcecfmdjicjngaaGreatDoor
open Go.RowKit
set_option linter.unusedVariables false
attribute [local go_sem] bs_size bs_get bs_extract bs_append bs_eq bs_toList
def TreeStG (f : FuncId) (R : LTree → List Int → Int) : Prop := ∀ (lo : Nat) (vv vn vb : Value) (T : LTree) (a : Option Addr) (zs : List Int) (cap : Nat) (w : World), TreeV lo w vv vn vb T → Sized 1048576 T → Nums w a zs → zs.length ≤ 1048576 → ErrT w →
 Calls Tryz.prog f #[treeV vv vn vb, .agg #[.slice a zs.length cap]] w fun e w' => e = .returned (.int .i64 (R T zs)) ∧ Below w.heap.size w w'
theorem fldC (a b c : Int) (w : World) : (Instr.field 31 (.agg #[.int .i64 a, .int .i64 b, .int .i64 c]) 0).run Tryz.prog w = .ok (.int .i64 a) w := by kernel_rfl
theorem fldI (a b : Int) (w : World) : (Instr.field 34 (.agg #[.int .i64 a, .int .i64 b]) 1).run Tryz.prog w = .ok (.int .i64 b) w := by kernel_rfl
set_option maxHeartbeats 6400000 in
set_option maxRecDepth 100000 in
theorem implStateFault : TreeStG 43 staF := by
 intro lo vv vn vb T a zs cap w h hS hn hlen hE
 have HX : Hid (∀ W, Below w.heap.size w W → Calls Tryz.prog 17 #[treeV vv vn vb] W fun e w' => e = .returned (.agg #[.int .i64 (chkT T).1.1, .int .i64 (chkT T).1.2, .int .i64 (chkT T).2]) ∧ Below W.heap.size W w') := fun W hb => implCheckTree lo vv vn vb T W (h.below hb) hS (hE.kept hb)
 have HCE : Hid ((chkT T).1.1 = 0 → ∀ W, Below w.heap.size w W → Calls Tryz.prog 22 #[treeV vv vn vb] W fun e w' => e = .returned (.agg #[.int .i64 0, .int .i64 (cellsL (allL 0 T))]) ∧ Below W.heap.size W w') := fun h0 W hb => by
  have h1 := implCellsOf lo vv vn vb T W (h.below hb) hS
  have e1 : celC T = 0 := (chk_good h0).1
  have e2 : celV T = cellsL (allL 0 T) := by unfold celV; rw [if_neg (by rw [(chk_good h0).1]; simp)]
  rw [e1, e2] at h1
  exact h1
 have HL6 : Hid (∀ W, Below w.heap.size w W → Calls Tryz.prog 113 #[.slice a zs.length cap] W fun e w' => e = .returned (.int .i64 (fault zs)) ∧ Below W.heap.size W w') := fun W hb => implFault_any a zs cap W (by omega) (hn.below hb)
 have HFA : Hid (zs.length ≤ 400 → fault zs = if allW zs = true then 0 else 3) := fault_allW
 have HG : Hid ((chkT T).1.1 = 0 → cellsL (allL 0 T) ≤ 60) := fun h => (chk_good h).2
 have HST : Hid (staF T zs = if (chkT T).1.1 ≠ 0 then (chkT T).1.1 else if (zs.length : Int) ≠ cellsL (allL 0 T) then 1 else if allW zs = true then 0 else 3) := rfl
 obtain ⟨av, cv, rfl, _⟩ := id h.vars
 obtain ⟨an, cn, rfl, _⟩ := id h.nodes
 obtain ⟨ab, cb, rfl, _⟩ := id h.body
 clear h hS hn hE
 generalize staF T zs = R at *
 generalize (chkT T).1.1 = c1 at *
 generalize (chkT T).1.2 = c2 at *
 generalize (chkT T).2 = c3 at *
 generalize cellsL (allL 0 T) = z at *
 generalize allW zs = aw at *
 generalize fault zs = fz at *
 have hA := heap_alloc_new w (.cells #[.slice av T.vars.length cv, .slice an T.nodes.length cn, .slice ab T.body.length cb] 28)
 have hB : Below w.heap.size w (w.alloc (.cells #[.slice av T.vars.length cv, .slice an T.nodes.length cn, .slice ab T.body.length cb] 28)) := (Below.refl _ _).alloc (Nat.le_refl _) _
 have hZ : (w.alloc (.cells #[.slice av T.vars.length cv, .slice an T.nodes.length cn, .slice ab T.body.length cb] 28)).heap.size = w.heap.size + 1 := by simp
 have hA2 := heap_alloc_new (w.alloc (.cells #[.slice av T.vars.length cv, .slice an T.nodes.length cn, .slice ab T.body.length cb] 28)) (.cells #[.slice a zs.length cap] 52)
 have hB2 : Below (w.alloc (.cells #[.slice av T.vars.length cv, .slice an T.nodes.length cn, .slice ab T.body.length cb] 28)).heap.size (w.alloc (.cells #[.slice av T.vars.length cv, .slice an T.nodes.length cn, .slice ab T.body.length cb] 28)) _ := (Below.refl _ _).alloc (Nat.le_refl _) (.cells #[.slice a zs.length cap] 52)
 have hA1 := blk hA hB2
 have hB3 := hB.trans (hB2.mono (by omega))
 rw [hZ] at hA2
 clear hA hB hB2 hZ
 have hfl := fldC
 have hfi := fldI
 go_enter Tryz.func43, Tryz.ntmps43
 go_wp2_with fail
 generalize ((w.alloc (.cells #[.slice av T.vars.length cv, .slice an T.nodes.length cn, .slice ab T.body.length cb] 28)).alloc (.cells #[.slice a zs.length cap] 52)) = W at *
 refine (HX.out _ hB3).mono ?_
 rintro e w2 ⟨rfl, hb⟩
 have HA : Hid (w2.heap[w.heap.size]? = some (.cells #[.slice av T.vars.length cv, .slice an T.nodes.length cn, .slice ab T.body.length cb] 28 (0, 0))) := blk hA1 hb
 have HA2 : Hid (w2.heap[w.heap.size + 1]? = some (.cells #[.slice a zs.length cap] 52 (0, 0))) := blk hA2 hb
 have HB : Hid (Below w.heap.size w w2) := hB3.trans (hb.mono hB3.size)
 clear hA1 hA2 hB3 hb HX
 by_cases hc : c1 = 0
 ·subst hc
  have HR : Hid (R = if (zs.length : Int) ≠ z then 1 else if aw = true then 0 else 3) := by unfold Hid; rw [HST.out, if_neg (by simp)]
  have HCX : Hid (Calls Tryz.prog 22 #[treeV (.slice av T.vars.length cv) (.slice an T.nodes.length cn) (.slice ab T.body.length cb)] w2.drew fun e w' => e = .returned (.agg #[.int .i64 0, .int .i64 z]) ∧ Below w2.drew.heap.size w2.drew w') := HCE.out rfl _ HB.out.drew
  have HZ : Hid (z ≤ 60) := HG.out rfl
  clear HST HCE HG
  have q0 := cell_of_row _ _ 0 _ _ _ HA2.out
  obtain ⟨p0, p1, p2⟩ := cl3 HA.out
  simp at q0 p0 p1 p2
  by_cases hz : (zs.length : Int) = z
  ·subst hz
   have HR2 : Hid (R = if aw = true then 0 else 3) := by unfold Hid; rw [HR.out, if_neg (by simp)]
   have HFB : Hid (R = fz) := by unfold Hid; rw [HR2.out]; exact (HFA.out (by have := HZ.out; omega)).symm
   clear HR HR2 HFA HZ
   go_upto_region 4 with fail
   go_region_held3 (fun W => W.cell? ⟨w.heap.size + 1, 0, none⟩ = some (.slice a zs.length cap) ∧ W.cell? ⟨w.heap.size, 0, none⟩ = some (.slice av T.vars.length cv) ∧ W.cell? ⟨w.heap.size, 1, none⟩ = some (.slice an T.nodes.length cn) ∧ W.cell? ⟨w.heap.size, 2, none⟩ = some (.slice ab T.body.length cb)) (go_keep) (first | (go_at_call 22; refine HCX.out.mono ?_; rintro e w7 ⟨rfl, hb⟩; have HE : Hid (Below w.heap.size w w7) := HB.out.drew.trans (hb.mono HB.out.drew.size); have hx1 := blk HA.out (Below.mono (Below.trans ((Below.refl _ w2).drew) hb) (Nat.le_refl _)); have hx2 := blk HA2.out (Below.mono (Below.trans ((Below.refl _ w2).drew) hb) (Nat.le_refl _)); have q0 := cell_of_row _ _ 0 _ _ _ hx2; have p0 := cell_of_row _ _ 0 _ _ _ hx1; have p1 := cell_of_row _ _ 1 _ _ _ hx1; have p2 := cell_of_row _ _ 2 _ _ _ hx1; simp at q0 p0 p1 p2; clear hb hx1 hx2))
   go_wp2_with fail
   refine (HL6.out _ HE.out).mono ?_
   rintro e w9 ⟨rfl, hb9⟩
   have HE9 := hid (HE.out.trans (hb9.mono HE.out.size))
   clear hb9
   go_wp2_with fail
   go_ret
   exact ⟨by rw [HFB.out]; rfl, HE9.out⟩
  ·have hz1 : ((zs.length : Int) == z) = false := by simpa using hz
   have hz2 : decide ((zs.length : Int) = z) = false := decide_eq_false hz
   have HR2 : Hid (R = 1) := by unfold Hid; rw [HR.out, if_pos hz]
   clear HR HFA HZ
   go_upto_region 4 with fail
   go_region_held3 (fun W => W.cell? ⟨w.heap.size + 1, 0, none⟩ = some (.slice a zs.length cap) ∧ W.cell? ⟨w.heap.size, 0, none⟩ = some (.slice av T.vars.length cv) ∧ W.cell? ⟨w.heap.size, 1, none⟩ = some (.slice an T.nodes.length cn) ∧ W.cell? ⟨w.heap.size, 2, none⟩ = some (.slice ab T.body.length cb)) (go_keep) (first | (go_at_call 22; refine HCX.out.mono ?_; rintro e w7 ⟨rfl, hb⟩; have HE : Hid (Below w.heap.size w w7) := HB.out.drew.trans (hb.mono HB.out.drew.size); have hx1 := blk HA.out (Below.mono (Below.trans ((Below.refl _ w2).drew) hb) (Nat.le_refl _)); have hx2 := blk HA2.out (Below.mono (Below.trans ((Below.refl _ w2).drew) hb) (Nat.le_refl _)); have q0 := cell_of_row _ _ 0 _ _ _ hx2; have p0 := cell_of_row _ _ 0 _ _ _ hx1; have p1 := cell_of_row _ _ 1 _ _ _ hx1; have p2 := cell_of_row _ _ 2 _ _ _ hx1; simp at q0 p0 p1 p2; clear hb hx1 hx2))
   go_wp2_with fail
   go_ret
   exact ⟨by rw [HR2.out]; rfl, HE.out⟩
 ·have hz1 : (c1 == 0) = false := by simpa using hc
  have hz2 : decide (c1 = 0) = false := decide_eq_false hc
  have HR : Hid (R = c1) := by unfold Hid; rw [HST.out, if_pos hc]
  clear HST HCE HL6 HFA HG
  go_wp2_with fail
  go_ret
  exact ⟨by rw [HR.out]; rfl, HB.out⟩
end Go.Proofs.YtcecfmdjicjngaaGreatDoor
namespace Go.Proofs.YtcecfmdjicjngaaGreatDoor
open Go.RowKit
set_option linter.unusedVariables false
attribute [local go_sem] bs_size bs_get bs_extract bs_append bs_eq bs_toList
set_option maxHeartbeats 6400000 in
set_option maxRecDepth 100000 in
theorem implStartState (lo : Nat) (vv vn vb : Value) (T : LTree) (w : World) (h : TreeV lo w vv vn vb T) (hS : Sized 1048576 T) (hE : ErrT w) :
  Calls Tryz.prog 35 #[treeV vv vn vb] w fun e w' => ∃ v, e = .returned (scanV (chkT T).1.1 0 v (.slice none 0 0)) ∧ Own w' w.heap.size v (List.replicate (staN T) 0) ∧ Below w.heap.size w w' := by
 obtain ⟨i0, hi, hz0, hz1, hz2⟩ := info_parts infoInt
 have HX : Hid (∀ W, Below w.heap.size w W → Calls Tryz.prog 17 #[treeV vv vn vb] W fun e w' => e = .returned (.agg #[.int .i64 (chkT T).1.1, .int .i64 (chkT T).1.2, .int .i64 (chkT T).2]) ∧ Below W.heap.size W w') := fun W hb => implCheckTree lo vv vn vb T W (h.below hb) hS (hE.kept hb)
 have HCE : Hid ((chkT T).1.1 = 0 → ∀ W, Below w.heap.size w W → Calls Tryz.prog 22 #[treeV vv vn vb] W fun e w' => e = .returned (.agg #[.int .i64 0, .int .i64 (cellsL (allL 0 T))]) ∧ Below W.heap.size W w') := fun h0 W hb => by
  have h1 := implCellsOf lo vv vn vb T W (h.below hb) hS
  have e1 : celC T = 0 := (chk_good h0).1
  have e2 : celV T = cellsL (allL 0 T) := by unfold celV; rw [if_neg (by rw [(chk_good h0).1]; simp)]
  rw [e1, e2] at h1
  exact h1
 have HNN : Hid ((chkT T).1.1 = 0 → 0 ≤ cellsL (allL 0 T) ∧ cellsL (allL 0 T) ≤ 60) := chk_cells
 have HST : Hid (staN T = if (chkT T).1.1 = 0 then (cellsL (allL 0 T)).toNat else 0) := rfl
 obtain ⟨av, cv, rfl, _⟩ := id h.vars
 obtain ⟨an, cn, rfl, _⟩ := id h.nodes
 obtain ⟨ab, cb, rfl, _⟩ := id h.body
 clear h hS hE
 generalize staN T = N at *
 generalize (chkT T).1.1 = c1 at *
 generalize (chkT T).1.2 = c2 at *
 generalize (chkT T).2 = c3 at *
 generalize cellsL (allL 0 T) = z at *
 have hfl := fldC
 have hfi := fldI
 go_enter Tryz.func35, Tryz.ntmps35
 go_upto_region 1 with fail
 obtain ⟨hA, hA2, hB⟩ := four_start w (.slice av T.vars.length cv) (.slice an T.nodes.length cn) (.slice ab T.body.length cb) (.int .i64 0) (.int .i64 0) (.slice none 0 0) (.slice none 0 0) 28 69
 generalize ((w.alloc (.cells #[.slice av T.vars.length cv, .slice an T.nodes.length cn, .slice ab T.body.length cb] 28)).alloc (.cells #[.int .i64 0, .int .i64 0, .slice none 0 0, .slice none 0 0] 69)) = W at *
 obtain ⟨p0, p1, p2⟩ := cl3 hA
 go_wp2_with fail
 refine (HX.out _ hB).mono ?_
 rintro e w2 ⟨rfl, hb⟩
 have HA : Hid (w2.heap[w.heap.size]? = some (.cells #[.slice av T.vars.length cv, .slice an T.nodes.length cn, .slice ab T.body.length cb] 28 (0, 0))) := blk hA hb
 have HR : Hid (w2.heap[w.heap.size + 1]? = some (.cells #[.int .i64 0, .int .i64 0, .slice none 0 0, .slice none 0 0] 69 (0, 0))) := blk hA2 hb
 have HB : Hid (Below w.heap.size w w2) := hB.trans (hb.mono hB.size)
 clear hA hA2 hB hb HX p0 p1 p2
 by_cases hc : c1 = 0
 ·subst hc
  have HCE2 := HCE.out rfl
  have HN0 : Hid (0 ≤ z ∧ z ≤ 60) := HNN.out rfl
  have HSN : Hid (N = z.toNat) := by unfold Hid; rw [HST.out, if_pos rfl]
  clear HCE HNN HST
  have HCE : Hid _ := HCE2
  clear HCE2
  obtain ⟨n, hn⟩ : ∃ n : Nat, z = n := ⟨z.toNat, by have := HN0.out; omega⟩
  have HN1 : Hid (n ≤ 60 ∧ N = n) := ⟨by have := HN0.out.2; omega, by rw [HSN.out, hn]; rfl⟩
  subst hn
  clear HN0 HSN
  obtain ⟨p0, p1, p2⟩ := cl3 HA.out
  go_wp2_with fail
  refine (HCE.out _ HB.out).mono ?_
  rintro e w5 ⟨rfl, hb⟩
  have HR5 : Hid (w5.heap[w.heap.size + 1]? = some (.cells #[.int .i64 0, .int .i64 0, .slice none 0 0, .slice none 0 0] 69 (0, 0))) := blk HR.out hb
  have HB5 : Hid (Below w.heap.size w w5) := HB.out.trans (hb.mono HB.out.size)
  have hmax : n ≤ maxLen := by have := HN1.out.1; unfold maxLen; omega
  clear hb HR HB HA HCE p0 p1 p2
  go_wp2_with (at_make; refine wpList_make_full _ rfl (.tmp 13) (.tmp 13) 26 rfl w5.heap.size 2 i0 (.int .i64 0) 1 Tryz.underlying26 hi hz0 hz1 .i64 .i64 n n n rfl rfl rfl rfl ?_ hmax (Nat.le_refl _) ?_)
  ·rw [hz2]; have := HN1.out.1; omega
  ·intro w6 hown hgrow
   have hb : Below w5.heap.size w5 w6 := (Below.refl _ _).grown hgrow (Nat.le_refl _) (fun k hk => by cases hk)
   have hR6 := blk HR5.out hb
   have HB6 : Hid (Below w.heap.size w w6) := HB5.out.trans (hb.mono HB5.out.size)
   obtain ⟨r0, r1, r2, r3⟩ := cl4 hR6
   obtain ⟨f0, f1, f2, f3⟩ := fl4 hR6
   have HO6 : Hid (w6.ownsRow w5.heap.size 2 1 (.slice (some ⟨w5.heap.size, 0, none⟩) n n) n ((List.replicate n (0 : Int)).map (Value.int .i64))) := by
    rw [toList_madeCells_one] at hown
    unfold Hid
    rw [List.map_replicate]
    exact hown
   have hg1 : w.heap.size + 1 < w5.heap.size := blk_lt HR5.out
   have HG1 := hid hg1
   clear hown hgrow hb hR6 HR5 HB5 hg1 hi hz0 hz1 hz2
   generalize w5.heap.size = g5 at *
   go_wp2_with fail
   refine bodyPost_ret (v := scanV 0 0 (.slice (some ⟨g5, 0, none⟩) n n) (.slice none 0 0)) (by simp [results, Tryz.results35, go_sem, r0, r1, r2, r3]) rfl ⟨_, rfl, ?_, (((HB6.out.setCell (by simp) _).setCell (by simp) _).setCell (by simp) _).setCell (by simp) _⟩
   rw [HN1.out.2]
   unfold Own
   rw [List.length_replicate]
   have hg := HG1.out
   exact own_mono (ownsRow_setCell_below (ownsRow_setCell_below (ownsRow_setCell_below (ownsRow_setCell_below HO6.out (a := ⟨w.heap.size + 1, 0, none⟩) hg _) (a := ⟨w.heap.size + 1, 1, none⟩) hg _) (a := ⟨w.heap.size + 1, 2, none⟩) hg _) (a := ⟨w.heap.size + 1, 3, none⟩) hg _) (by omega)
 ·have hz1' : (c1 == 0) = false := by simpa using hc
  have hz2' : decide (c1 = 0) = false := decide_eq_false hc
  have HSN : Hid (N = 0) := by unfold Hid; rw [HST.out, if_neg hc]
  obtain ⟨r0, r1, r2, r3⟩ := cl4 HR.out
  obtain ⟨f0, f1, f2, f3⟩ := fl4 HR.out
  clear HCE HNN HST hi hz0 hz1 hz2
  go_wp2_with fail
  refine bodyPost_ret (v := scanV c1 0 (.slice none 0 0) (.slice none 0 0)) (by simp [results, Tryz.results35, go_sem, r0, r1, r2, r3]) rfl ⟨_, rfl, ?_, (((HB.out.setCell (by simp) _).setCell (by simp) _).setCell (by simp) _).setCell (by simp) _⟩
  rw [HSN.out]
  exact World.ownsRow_nil _ _ _ _
end Go.Proofs.YtcecfmdjicjngaaGreatDoor
namespace Go.Proofs.YtcecfmdjicjngaaGreatDoor
open Go.RowKit
set_option linter.unusedVariables false
def IntsF (lo : Nat) (w : World) (v : Value) (xs : List Int) : Prop :=
 ∃ a c, v = .slice a xs.length c ∧ xs.length ≤ c ∧ (xs ≠ [] → ∃ b o, a = some ⟨b, o, none⟩ ∧ lo ≤ b ∧ (∃ cs, w.heap[b]? = some (.cells cs 2 (0, 0)) ∧ o + xs.length ≤ cs.size) ∧ ∀ (i : Nat) (x : Int), xs[i]? = some x → w.cell? ⟨b, o + i, none⟩ = some (.int .i64 x))
theorem IntsF.toV {lo : Nat} {w : World} {v : Value} {xs : List Int} (h : IntsF lo w v xs) : IntsV lo w v xs := by
 obtain ⟨a, c, h1, h2, h3⟩ := h
 exact ⟨a, c, h1, h2, fun hn => by obtain ⟨b, o, e, hl, _, hc⟩ := h3 hn; exact ⟨b, o, e, hl, hc⟩⟩
theorem row_keep {lo b n : Nat} {w w' : World} {T : TypeId} (hk : Keeps lo w w') (hl : lo ≤ b) (h : ∃ cs : Array Value, w.heap[b]? = some (.cells cs T (0, 0)) ∧ n ≤ cs.size) : ∃ cs : Array Value, w'.heap[b]? = some (.cells cs T (0, 0)) ∧ n ≤ cs.size := by
 obtain ⟨cs, h1, h2⟩ := h
 exact ⟨cs, (hk b hl (Array.getElem?_eq_some_iff.1 h1).1).trans h1, h2⟩
theorem IntsF.keep {lo : Nat} {w w' : World} {v : Value} {xs : List Int} (h : IntsF lo w v xs) (hk : Keeps lo w w') : IntsF lo w' v xs := by
 obtain ⟨a, c, h1, h2, h3⟩ := h
 exact ⟨a, c, h1, h2, fun hn => by obtain ⟨b, o, e, hl, hr, hc⟩ := h3 hn; exact ⟨b, o, e, hl, row_keep hk hl hr, fun i x hx => hk.cell (p := ⟨b, o + i, none⟩) hl (hc i x hx)⟩⟩
theorem IntsF.mono {lo lo' : Nat} {w : World} {v : Value} {xs : List Int} (h : IntsF lo w v xs) (hl : lo' ≤ lo) : IntsF lo' w v xs := by
 obtain ⟨a, c, h1, h2, h3⟩ := h
 exact ⟨a, c, h1, h2, fun hn => by obtain ⟨b, o, e, hb, hc⟩ := h3 hn; exact ⟨b, o, e, Nat.le_trans hl hb, hc⟩⟩
theorem IntsF.below {lo : Nat} {w w' : World} {v : Value} {xs : List Int} (h : IntsF lo w v xs) (hb : Below w.heap.size w w') : IntsF lo w' v xs := h.keep (.of_below hb)
def VarsF (lo : Nat) (w : World) (v : Value) (xs : List LVar) : Prop :=
 ∃ a c, v = .slice a xs.length c ∧ xs.length ≤ c ∧ (xs ≠ [] → ∃ b o, a = some ⟨b, o, none⟩ ∧ lo ≤ b ∧ (∃ cs, w.heap[b]? = some (.cells cs 45 (0, 0)) ∧ o + xs.length * 4 ≤ cs.size) ∧ ∀ (i : Nat) (x : LVar), xs[i]? = some x → VarAt w b (o + i * 4) x)
theorem VarsF.toV {lo : Nat} {w : World} {v : Value} {xs : List LVar} (h : VarsF lo w v xs) : VarsV lo w v xs := by
 obtain ⟨a, c, h1, h2, h3⟩ := h
 exact ⟨a, c, h1, h2, fun hn => by obtain ⟨b, o, e, hl, _, hc⟩ := h3 hn; exact ⟨b, o, e, hl, hc⟩⟩
theorem VarsF.keep {lo : Nat} {w w' : World} {v : Value} {xs : List LVar} (h : VarsF lo w v xs) (hk : Keeps lo w w') : VarsF lo w' v xs := by
 obtain ⟨a, c, h1, h2, h3⟩ := h
 exact ⟨a, c, h1, h2, fun hn => by obtain ⟨b, o, e, hl, hr, hc⟩ := h3 hn; exact ⟨b, o, e, hl, row_keep hk hl hr, fun i x hx => (hc i x hx).keep hk hl⟩⟩
theorem VarsF.mono {lo lo' : Nat} {w : World} {v : Value} {xs : List LVar} (h : VarsF lo w v xs) (hl : lo' ≤ lo) : VarsF lo' w v xs := by
 obtain ⟨a, c, h1, h2, h3⟩ := h
 exact ⟨a, c, h1, h2, fun hn => by obtain ⟨b, o, e, hb, hc⟩ := h3 hn; exact ⟨b, o, e, Nat.le_trans hl hb, hc⟩⟩
theorem VarsF.below {lo : Nat} {w w' : World} {v : Value} {xs : List LVar} (h : VarsF lo w v xs) (hb : Below w.heap.size w w') : VarsF lo w' v xs := h.keep (.of_below hb)
structure NodeValsF (lo : Nat) (w : World) (n : LNode) (vk vt ve : Value) : Prop where
 kids : IntsF lo w vk n.kids
 thn : IntsF lo w vt n.thn
 els : IntsF lo w ve n.els
theorem NodeValsF.toV {lo : Nat} {w : World} {n : LNode} {vk vt ve : Value} (h : NodeValsF lo w n vk vt ve) : NodeVals lo w n vk vt ve := ⟨h.kids.toV, h.thn.toV, h.els.toV⟩
theorem NodeValsF.keep {lo : Nat} {w w' : World} {n : LNode} {vk vt ve : Value} (h : NodeValsF lo w n vk vt ve) (hk : Keeps lo w w') : NodeValsF lo w' n vk vt ve := ⟨h.kids.keep hk, h.thn.keep hk, h.els.keep hk⟩
theorem NodeValsF.mono {lo lo' : Nat} {w : World} {n : LNode} {vk vt ve : Value} (h : NodeValsF lo w n vk vt ve) (hl : lo' ≤ lo) : NodeValsF lo' w n vk vt ve := ⟨h.kids.mono hl, h.thn.mono hl, h.els.mono hl⟩
theorem NodeValsF.below {lo : Nat} {w w' : World} {n : LNode} {vk vt ve : Value} (h : NodeValsF lo w n vk vt ve) (hb : Below w.heap.size w w') : NodeValsF lo w' n vk vt ve := h.keep (.of_below hb)
theorem NodeValsF.set {lo : Nat} {w : World} {n : LNode} {vk vt ve : Value} (h : NodeValsF lo w n vk vt ve) {g i : Nat} {u : Value} (hl : g < lo) : NodeValsF lo (w.setCell ⟨g, i, none⟩ u) n vk vt ve := h.keep (keeps_set _ _ _ _ _ hl)
def NodeAtF (lo : Nat) (w : World) (b o : Nat) (n : LNode) : Prop := ∃ vk vt ve, NodeCells w b o n vk vt ve ∧ NodeValsF lo w n vk vt ve
theorem NodeAtF.keep {lo : Nat} {w w' : World} {b o : Nat} {n : LNode} (h : NodeAtF lo w b o n) (hk : Keeps lo w w') (hl : lo ≤ b) : NodeAtF lo w' b o n := by
 obtain ⟨vk, vt, ve, h1, h2⟩ := h
 exact ⟨vk, vt, ve, h1.keep hk hl, h2.keep hk⟩
theorem NodeAtF.mono {lo lo' : Nat} {w : World} {b o : Nat} {n : LNode} (h : NodeAtF lo w b o n) (hl : lo' ≤ lo) : NodeAtF lo' w b o n := by
 obtain ⟨vk, vt, ve, h1, h2⟩ := h
 exact ⟨vk, vt, ve, h1, h2.mono hl⟩
theorem NodeAtF.toV {lo : Nat} {w : World} {b o : Nat} {n : LNode} (h : NodeAtF lo w b o n) : NodeAt lo w b o n := by
 obtain ⟨vk, vt, ve, h1, h2⟩ := h
 exact ⟨vk, vt, ve, h1, h2.toV⟩
def NodesF (lo : Nat) (w : World) (v : Value) (xs : List LNode) : Prop :=
 ∃ a c, v = .slice a xs.length c ∧ xs.length ≤ c ∧ (xs ≠ [] → ∃ b o, a = some ⟨b, o, none⟩ ∧ lo ≤ b ∧ (∃ cs, w.heap[b]? = some (.cells cs 40 (0, 0)) ∧ o + xs.length * 8 ≤ cs.size) ∧ ∀ (i : Nat) (x : LNode), xs[i]? = some x → NodeAtF lo w b (o + i * 8) x)
theorem NodesF.toV {lo : Nat} {w : World} {v : Value} {xs : List LNode} (h : NodesF lo w v xs) : NodesV lo w v xs := by
 obtain ⟨a, c, h1, h2, h3⟩ := h
 exact ⟨a, c, h1, h2, fun hn => by obtain ⟨b, o, e, hl, _, hc⟩ := h3 hn; exact ⟨b, o, e, hl, fun i x hx => (hc i x hx).toV⟩⟩
theorem NodesF.keep {lo : Nat} {w w' : World} {v : Value} {xs : List LNode} (h : NodesF lo w v xs) (hk : Keeps lo w w') : NodesF lo w' v xs := by
 obtain ⟨a, c, h1, h2, h3⟩ := h
 exact ⟨a, c, h1, h2, fun hn => by obtain ⟨b, o, e, hl, hr, hc⟩ := h3 hn; exact ⟨b, o, e, hl, row_keep hk hl hr, fun i x hx => (hc i x hx).keep hk hl⟩⟩
theorem NodesF.mono {lo lo' : Nat} {w : World} {v : Value} {xs : List LNode} (h : NodesF lo w v xs) (hl : lo' ≤ lo) : NodesF lo' w v xs := by
 obtain ⟨a, c, h1, h2, h3⟩ := h
 exact ⟨a, c, h1, h2, fun hn => by obtain ⟨b, o, e, hb, hr, hc⟩ := h3 hn; exact ⟨b, o, e, Nat.le_trans hl hb, hr, fun i x hx => (hc i x hx).mono hl⟩⟩
theorem NodesF.below {lo : Nat} {w w' : World} {v : Value} {xs : List LNode} (h : NodesF lo w v xs) (hb : Below w.heap.size w w') : NodesF lo w' v xs := h.keep (.of_below hb)
structure TreeF (lo : Nat) (w : World) (vv vn vb : Value) (T : LTree) : Prop where
 vars : VarsF lo w vv T.vars
 nodes : NodesF lo w vn T.nodes
 body : IntsF lo w vb T.body
theorem TreeF.toV {lo : Nat} {w : World} {vv vn vb : Value} {T : LTree} (h : TreeF lo w vv vn vb T) : TreeV lo w vv vn vb T := ⟨h.vars.toV, h.nodes.toV, h.body.toV⟩
theorem TreeF.keep {lo : Nat} {w w' : World} {vv vn vb : Value} {T : LTree} (h : TreeF lo w vv vn vb T) (hk : Keeps lo w w') : TreeF lo w' vv vn vb T := ⟨h.vars.keep hk, h.nodes.keep hk, h.body.keep hk⟩
theorem TreeF.mono {lo lo' : Nat} {w : World} {vv vn vb : Value} {T : LTree} (h : TreeF lo w vv vn vb T) (hl : lo' ≤ lo) : TreeF lo' w vv vn vb T := ⟨h.vars.mono hl, h.nodes.mono hl, h.body.mono hl⟩
theorem TreeF.below {lo : Nat} {w w' : World} {vv vn vb : Value} {T : LTree} (h : TreeF lo w vv vn vb T) (hb : Below w.heap.size w w') : TreeF lo w' vv vn vb T := h.keep (.of_below hb)
theorem ints_of_laidF {w : World} {g n : Nat} {xs : List Int} (h : Laid w g n 1 2 (xs.map (Value.int .i64)) n) (hn : xs.length = n) : IntsF g w (.slice (some ⟨g, 0, none⟩) n n) xs := by
 obtain ⟨cur, h1, h2, _⟩ := id h
 exact ⟨some ⟨g, 0, none⟩, n, by rw [hn], by omega, fun _ => ⟨g, 0, rfl, Nat.le_refl _, ⟨cur, h1, by omega⟩, fun i x hx => by
  rw [Nat.zero_add]
  exact h.read (by have := (List.getElem?_eq_some_iff.1 hx).1; omega) (map_at _ _ _ _ hx)⟩⟩
theorem vars_of_laidF {w : World} {g n : Nat} {xs : List LVar} (h : Laid w g n 4 45 (varCells xs) (n * 4)) (hn : xs.length = n) : VarsF g w (.slice (some ⟨g, 0, none⟩) n n) xs := by
 obtain ⟨cur, h1, h2, _⟩ := id h
 exact ⟨some ⟨g, 0, none⟩, n, by rw [hn], by omega, fun _ => ⟨g, 0, rfl, Nat.le_refl _, ⟨cur, h1, by omega⟩, fun i x hx => by
  have hi : i < n := by have := (List.getElem?_eq_some_iff.1 hx).1; omega
  obtain ⟨u0, u1, u2, u3⟩ := varCells_at xs i x hx
  rw [Nat.zero_add]
  exact ⟨h.read (by omega) u0, h.read (by omega) u1, h.read (by omega) u2, h.read (by omega) u3⟩⟩⟩
end Go.Proofs.YtcecfmdjicjngaaGreatDoor
namespace Go.Proofs.YtcecfmdjicjngaaGreatDoor
open Go.RowKit
set_option linter.unusedVariables false
attribute [local go_sem] bs_size bs_get bs_extract bs_append bs_eq bs_toList
set_option maxHeartbeats 1600000 in
theorem toIntsF_any (lo : Nat) (v : Value) (xs : List Int) (w : World) (h : IntsV lo w v xs) (hl : xs.length ≤ 1048576) :
  Calls Tryz.prog 62 #[v] w fun e w' => ∃ v', e = .returned v' ∧ IntsF w.heap.size w' v' xs ∧ Below w.heap.size w w' := by
 obtain ⟨a, c, rfl, hc, hhd⟩ := h
 obtain ⟨i0, hi, hz0, hz1, hz2⟩ := info_parts infoI
 have hmax2 : xs.length ≤ maxLen := by unfold maxLen; omega
 have HHD : Hid (xs ≠ [] → ∃ b o, a = some ⟨b, o, none⟩ ∧ lo ≤ b ∧ ∀ (i : Nat) (x : Int), xs[i]? = some x → w.cell? ⟨b, o + i, none⟩ = some (.int .i64 x)) := hhd
 clear hhd hc
 go_enter Tryz.func62, Tryz.ntmps62
 go_wp2_with (at_make; refine wpList_make_full _ rfl (.tmp 6) (.tmp 6) 26 rfl w.heap.size 2 i0 (.int .i64 0) 1 Tryz.underlying26 hi hz0 hz1 .i64 .i64 xs.length xs.length xs.length rfl rfl rfl rfl ?_ hmax2 (Nat.le_refl _) ?_)
 ·rw [hz2]; omega
 ·intro w1 hown hgrow
  have hB : Below w.heap.size w w1 := (Below.refl _ _).grown hgrow (Nat.le_refl _) (fun k hk => by cases hk)
  have hP : Laid w1 w.heap.size xs.length 1 2 (xs.map (Value.int .i64)) 0 := .of_own hown
  clear hgrow hown
  go_wp2
  go_loopw [4] (fun i wr => ∃ k : Nat, k ≤ xs.length ∧ i = .int .i64 k ∧ Laid wr w.heap.size xs.length 1 2 (xs.map (Value.int .i64)) k ∧ Below w.heap.size w wr) (fun i _ => xs.length - (intOf i).toNat)
  case atStart => exact ⟨0, Nat.zero_le _, rfl, hP, hB⟩
  case round =>
   clear hP hB
   obtain ⟨k, hk, rfl, hP, hB⟩ := hrel
   have hgl : w.heap.size < wr.heap.size := hP.lt
   by_cases hlt : k < xs.length
   ·obtain ⟨x, hx⟩ : ∃ x, xs[k]? = some x := ⟨xs[k], List.getElem?_eq_getElem hlt⟩
    obtain ⟨b, o, ha, _, hcl⟩ := HHD.out (by intro e; rw [e] at hlt; simp at hlt)
    subst ha
    have hc0 := hcl k x hx
    have hbl := World.block_lt_of_cell? _ _ hc0
    have hc1 := (hB.cell (p := ⟨b, o + k, none⟩) hbl).trans hc0
    obtain ⟨⟨y0, d0⟩, f0⟩ := hP.cell (i := k) (by omega)
    have e0 := hP.store (by omega) (map_at (Value.int .i64) xs k x hx)
    have E0 : Hid (Laid (wr.setCell ⟨w.heap.size, k, none⟩ (.int .i64 x)) w.heap.size xs.length 1 2 (xs.map (Value.int .i64)) (k + 1)) := e0
    have B0 : Hid (Below w.heap.size w (wr.setCell ⟨w.heap.size, k, none⟩ (.int .i64 x))) := hB.setCell (Nat.le_refl _) _
    clear hP hB hcl hc0 e0 hx
    go_wp2_with fail
    go_roundw
    case rel => exact ⟨k + 1, by omega, by go_num, E0.out, B0.out⟩
    case measure => simp [intOf]; omega
   ·have hke : k = xs.length := by omega
    subst hke
    have HP : Hid (IntsF w.heap.size wr (.slice (some ⟨w.heap.size, 0, none⟩) xs.length xs.length) xs) := ints_of_laidF hP rfl
    clear hP
    go_wp2
    go_ret
    exact ⟨_, rfl, HP.out, hB⟩
set_option maxHeartbeats 3200000 in
theorem toVarsF_any (lo : Nat) (v : Value) (xs : List LVar) (w : World) (h : VarsV lo w v xs) (hl : xs.length ≤ 1048576) :
  Calls Tryz.prog 105 #[v] w fun e w' => ∃ v', e = .returned v' ∧ VarsF w.heap.size w' v' xs ∧ Below w.heap.size w w' := by
 obtain ⟨a, c, rfl, hc, hhd⟩ := h
 obtain ⟨i0, hi, hz0, hz1, hz2⟩ := info_parts infoV
 have hmax2 : xs.length ≤ maxLen := by unfold maxLen; omega
 have HHD : Hid (xs ≠ [] → ∃ b o, a = some ⟨b, o, none⟩ ∧ lo ≤ b ∧ ∀ (i : Nat) (x : LVar), xs[i]? = some x → VarAt w b (o + i * 4) x) := hhd
 clear hhd hc
 go_enter Tryz.func105, Tryz.ntmps105
 go_wp2_with (at_make; refine wpList_make_full _ rfl (.tmp 6) (.tmp 6) 24 rfl w.heap.size 45 i0 (.agg #[.string ⟨#[]⟩, .int .i64 0, .int .i64 0, .int .i64 0]) 4 Tryz.underlying24 hi hz0 hz1 .i64 .i64 xs.length xs.length xs.length rfl rfl rfl rfl ?_ hmax2 (Nat.le_refl _) ?_)
 ·rw [hz2]; omega
 ·intro w1 hown hgrow
  have hB : Below w.heap.size w w1 := (Below.refl _ _).grown hgrow (Nat.le_refl _) (fun k hk => by cases hk)
  have hP : Laid w1 w.heap.size xs.length 4 45 (varCells xs) (0 * 4) := .of_own hown
  clear hgrow hown
  go_wp2
  go_loopw [4] (fun i wr => ∃ k : Nat, k ≤ xs.length ∧ i = .int .i64 k ∧ Laid wr w.heap.size xs.length 4 45 (varCells xs) (k * 4) ∧ Below w.heap.size w wr) (fun i _ => xs.length - (intOf i).toNat)
  case atStart => exact ⟨0, Nat.zero_le _, rfl, hP, hB⟩
  case round =>
   clear hP hB
   obtain ⟨k, hk, rfl, hP, hB⟩ := hrel
   have hgl : w.heap.size < wr.heap.size := hP.lt
   by_cases hlt : k < xs.length
   ·obtain ⟨x, hx⟩ : ∃ x, xs[k]? = some x := ⟨xs[k], List.getElem?_eq_getElem hlt⟩
    obtain ⟨b, o, ha, _, hcl⟩ := HHD.out (by intro e; rw [e] at hlt; simp at hlt)
    subst ha
    have hbl : b < w.heap.size := World.block_lt_of_cell? _ _ (hcl k x hx).1
    obtain ⟨c0, c1, c2, c3⟩ := (hcl k x hx).keep (lo := 0) (fun g _ hg => hB.block g hg) (Nat.zero_le _)
    obtain ⟨u0, u1, u2, u3⟩ := varCells_at xs k x hx
    have HU0 : Hid _ := u0
    have HU1 : Hid _ := u1
    have HU2 : Hid _ := u2
    have HU3 : Hid _ := u3
    have hto : Hid (∀ w, Calls Tryz.prog 180 #[varV x] w fun e w' => e = .returned (varV x) ∧ Below w.heap.size w w') := fun w => toVar_any x w
    have HP : Hid (Laid wr w.heap.size xs.length 4 45 (varCells xs) (k * 4)) := hP
    clear hcl hx u0 u1 u2 u3 hP
    go_wp2_with fail
    refine (hto.out _).mono ?_
    rintro e w2 ⟨rfl, hb⟩
    have hP2 := HP.out.below hb
    have hB2 := hB.trans (hb.mono hB.size)
    have hgl2 : w.heap.size < w2.heap.size := Nat.lt_of_lt_of_le hgl hb.size
    obtain ⟨⟨y0, d0⟩, f0⟩ := hP2.cell (i := k * 4) (by omega)
    obtain ⟨⟨y1, d1⟩, f1⟩ := hP2.cell (i := k * 4 + 1) (by omega)
    obtain ⟨⟨y2, d2⟩, f2⟩ := hP2.cell (i := k * 4 + 2) (by omega)
    obtain ⟨⟨y3, d3⟩, f3⟩ := hP2.cell (i := k * 4 + 3) (by omega)
    have e3 := (((hP2.store (by omega) HU0.out).store (by omega) HU1.out).store (by omega) HU2.out).store (by omega) HU3.out
    have E3 : Hid (Laid ((((w2.setCell ⟨w.heap.size, k * 4, none⟩ (.string (bs x.name))).setCell ⟨w.heap.size, k * 4 + 1, none⟩ (.int .i64 x.kind)).setCell ⟨w.heap.size, k * 4 + 2, none⟩ (.int .i64 x.type)).setCell ⟨w.heap.size, k * 4 + 3, none⟩ (.int .i64 x.size)) w.heap.size xs.length 4 45 (varCells xs) (k * 4 + 1 + 1 + 1 + 1)) := e3
    have B3 : Hid (Below w.heap.size w ((((w2.setCell ⟨w.heap.size, k * 4, none⟩ (.string (bs x.name))).setCell ⟨w.heap.size, k * 4 + 1, none⟩ (.int .i64 x.kind)).setCell ⟨w.heap.size, k * 4 + 2, none⟩ (.int .i64 x.type)).setCell ⟨w.heap.size, k * 4 + 3, none⟩ (.int .i64 x.size))) :=
     (((hB2.setCell (Nat.le_refl _) _).setCell (Nat.le_refl _) _).setCell (Nat.le_refl _) _).setCell (Nat.le_refl _) _
    clear hP2 e3 hb hB hB2 HP c0 c1 c2 c3 hto
    go_wp2_with fail
    go_roundw
    case rel => exact ⟨k + 1, by omega, by go_num, by have h := E3.out; rwa [show k * 4 + 1 + 1 + 1 + 1 = (k + 1) * 4 from by omega] at h, B3.out⟩
    case measure => simp [intOf]; omega
   ·have hke : k = xs.length := by omega
    subst hke
    have HP : Hid (VarsF w.heap.size wr (.slice (some ⟨w.heap.size, 0, none⟩) xs.length xs.length) xs) := vars_of_laidF hP rfl
    clear hP
    go_wp2
    go_ret
    exact ⟨_, rfl, HP.out, hB⟩
end Go.Proofs.YtcecfmdjicjngaaGreatDoor
namespace Go.Proofs.YtcecfmdjicjngaaGreatDoor
open Go.RowKit
set_option linter.unusedVariables false
attribute [local go_sem] bs_size bs_get bs_extract bs_append bs_eq bs_toList
set_option maxHeartbeats 6400000 in
set_option maxRecDepth 100000 in
theorem toNodeF_any (lo : Nat) (n : LNode) (vk vt ve : Value) (w : World) (h : NodeVals lo w n vk vt ve) (h1 : n.kids.length ≤ 1048576) (h2 : n.thn.length ≤ 1048576) (h3 : n.els.length ≤ 1048576) :
  Calls Tryz.prog 181 #[nodeV n vk vt ve] w fun e w' => ∃ vk' vt' ve', e = .returned (nodeV n vk' vt' ve') ∧ NodeValsF w.heap.size w' n vk' vt' ve' ∧ Below w.heap.size w w' := by
 obtain ⟨ak, ck, rfl, _⟩ := id h.kids
 obtain ⟨at_, ct, rfl, _⟩ := id h.thn
 obtain ⟨ae, ce, rfl, _⟩ := id h.els
 have HV : Hid (NodeVals lo w n (.slice ak n.kids.length ck) (.slice at_ n.thn.length ct) (.slice ae n.els.length ce)) := h
 have HK : Hid (∀ w', NodeVals lo w' n (.slice ak n.kids.length ck) (.slice at_ n.thn.length ct) (.slice ae n.els.length ce) → Calls Tryz.prog 62 #[.slice ak n.kids.length ck] w' fun e w'' => ∃ v', e = .returned v' ∧ IntsF w'.heap.size w'' v' n.kids ∧ Below w'.heap.size w' w'') := fun w' h => toIntsF_any lo _ _ w' h.kids h1
 have HT : Hid (∀ w', NodeVals lo w' n (.slice ak n.kids.length ck) (.slice at_ n.thn.length ct) (.slice ae n.els.length ce) → Calls Tryz.prog 62 #[.slice at_ n.thn.length ct] w' fun e w'' => ∃ v', e = .returned v' ∧ IntsF w'.heap.size w'' v' n.thn ∧ Below w'.heap.size w' w'') := fun w' h => toIntsF_any lo _ _ w' h.thn h2
 have HX : Hid (∀ w', NodeVals lo w' n (.slice ak n.kids.length ck) (.slice at_ n.thn.length ct) (.slice ae n.els.length ce) → Calls Tryz.prog 62 #[.slice ae n.els.length ce] w' fun e w'' => ∃ v', e = .returned v' ∧ IntsF w'.heap.size w'' v' n.els ∧ Below w'.heap.size w' w'') := fun w' h => toIntsF_any lo _ _ w' h.els h3
 clear h h1 h2 h3
 go_enter Tryz.func181, Tryz.ntmps181
 go_wp2_with fail
 obtain ⟨W, hW⟩ : ∃ W, W = (((w.alloc (.cells #[.int .i64 n.kind, .int .i64 n.op, .string (bs n.name), .int .i64 n.num, .int .i64 n.far, .slice ak n.kids.length ck, .slice at_ n.thn.length ct, .slice ae n.els.length ce] 221)).alloc (.cells #[.int .i64 0, .int .i64 0, .string ⟨#[]⟩, .int .i64 0, .int .i64 0, .slice none 0 0, .slice none 0 0, .slice none 0 0] 40)).alloc (.cells #[.int .i64 n.kind, .int .i64 n.op, .string (bs n.name), .int .i64 n.num, .int .i64 n.far, .slice none 0 0, .slice none 0 0, .slice none 0 0] 40)) := ⟨_, rfl⟩
 have hbW : Below w.heap.size w W := by rw [hW]; exact (((Below.refl _ _).alloc (Nat.le_refl _) _).alloc (by simp) _).alloc (by simp; omega) _
 have hA : W.heap[w.heap.size]? = some (.cells #[.int .i64 n.kind, .int .i64 n.op, .string (bs n.name), .int .i64 n.num, .int .i64 n.far, .slice ak n.kids.length ck, .slice at_ n.thn.length ct, .slice ae n.els.length ce] 221 (0, 0)) := by
  rw [hW, Below.heap_alloc _ _ _ (by simp; omega), Below.heap_alloc _ _ _ (by simp)]; exact heap_alloc_new w _
 have hR : W.heap[w.heap.size + 1]? = some (.cells #[.int .i64 0, .int .i64 0, .string ⟨#[]⟩, .int .i64 0, .int .i64 0, .slice none 0 0, .slice none 0 0, .slice none 0 0] 40 (0, 0)) := by
  rw [hW, Below.heap_alloc _ _ _ (by simp)]
  have h := heap_alloc_new (w.alloc (.cells #[.int .i64 n.kind, .int .i64 n.op, .string (bs n.name), .int .i64 n.num, .int .i64 n.far, .slice ak n.kids.length ck, .slice at_ n.thn.length ct, .slice ae n.els.length ce] 221)) (.cells #[.int .i64 0, .int .i64 0, .string ⟨#[]⟩, .int .i64 0, .int .i64 0, .slice none 0 0, .slice none 0 0, .slice none 0 0] 40)
  rwa [show (w.alloc (.cells #[.int .i64 n.kind, .int .i64 n.op, .string (bs n.name), .int .i64 n.num, .int .i64 n.far, .slice ak n.kids.length ck, .slice at_ n.thn.length ct, .slice ae n.els.length ce] 221)).heap.size = w.heap.size + 1 from by simp] at h
 have hO : W.heap[w.heap.size + 1 + 1]? = some (.cells #[.int .i64 n.kind, .int .i64 n.op, .string (bs n.name), .int .i64 n.num, .int .i64 n.far, .slice none 0 0, .slice none 0 0, .slice none 0 0] 40 (0, 0)) := by
  rw [hW]
  have h := heap_alloc_new ((w.alloc (.cells #[.int .i64 n.kind, .int .i64 n.op, .string (bs n.name), .int .i64 n.num, .int .i64 n.far, .slice ak n.kids.length ck, .slice at_ n.thn.length ct, .slice ae n.els.length ce] 221)).alloc (.cells #[.int .i64 0, .int .i64 0, .string ⟨#[]⟩, .int .i64 0, .int .i64 0, .slice none 0 0, .slice none 0 0, .slice none 0 0] 40)) (.cells #[.int .i64 n.kind, .int .i64 n.op, .string (bs n.name), .int .i64 n.num, .int .i64 n.far, .slice none 0 0, .slice none 0 0, .slice none 0 0] 40)
  rwa [show ((w.alloc (.cells #[.int .i64 n.kind, .int .i64 n.op, .string (bs n.name), .int .i64 n.num, .int .i64 n.far, .slice ak n.kids.length ck, .slice at_ n.thn.length ct, .slice ae n.els.length ce] 221)).alloc (.cells #[.int .i64 0, .int .i64 0, .string ⟨#[]⟩, .int .i64 0, .int .i64 0, .slice none 0 0, .slice none 0 0, .slice none 0 0] 40)).heap.size = w.heap.size + 1 + 1 from by simp] at h
 rw [← hW]
 clear hW
 refine (HK.out _ (HV.out.below hbW)).mono ?_
 rintro e wk ⟨_, rfl, hk, hb⟩
 obtain ⟨ak', ck', rfl, _⟩ := id hk
 have hbC := hbW.trans (hb.mono hbW.size)
 have hAc := blk hA hb
 have hRc := blk hR hb
 have hOc := blk hO hb
 have hk1 : IntsF (w.heap.size + 3) wk (.slice ak' n.kids.length ck') n.kids := hk.mono (blk_lt hO)
 have HA : Hid ((wk.setCell ⟨w.heap.size + 1 + 1, 5, none⟩ (.slice ak' n.kids.length ck')).heap[w.heap.size]? = some (.cells #[.int .i64 n.kind, .int .i64 n.op, .string (bs n.name), .int .i64 n.num, .int .i64 n.far, .slice ak n.kids.length ck, .slice at_ n.thn.length ct, .slice ae n.els.length ce] 221 (0, 0))) := blk_set _ hAc (by omega)
 have HR : Hid ((wk.setCell ⟨w.heap.size + 1 + 1, 5, none⟩ (.slice ak' n.kids.length ck')).heap[w.heap.size + 1]? = some (.cells #[.int .i64 0, .int .i64 0, .string ⟨#[]⟩, .int .i64 0, .int .i64 0, .slice none 0 0, .slice none 0 0, .slice none 0 0] 40 (0, 0))) := blk_set _ hRc (by omega)
 have HO : Hid ((wk.setCell ⟨w.heap.size + 1 + 1, 5, none⟩ (.slice ak' n.kids.length ck')).heap[w.heap.size + 1 + 1]? = some (.cells #[.int .i64 n.kind, .int .i64 n.op, .string (bs n.name), .int .i64 n.num, .int .i64 n.far, .slice ak' n.kids.length ck', .slice none 0 0, .slice none 0 0] 40 (0, 0))) := by have h := heap_setCell_same wk (w.heap.size + 1 + 1) 5 _ _ (.slice ak' n.kids.length ck') hOc; exact h
 have HB : Hid (Below w.heap.size w (wk.setCell ⟨w.heap.size + 1 + 1, 5, none⟩ (.slice ak' n.kids.length ck'))) := hbC.trans (below_set _ _ _ _ (by omega))
 have o5 := cell_of_row _ _ 5 _ _ _ hOc
 have g5 := frozen_of_row _ _ 5 _ _ hOc
 simp at o5
 have b6 := cell_of_row _ _ 6 _ _ _ HA.out
 simp at b6
 have y5 := 0
 have Hk : Hid (IntsF (w.heap.size + 3) (wk.setCell ⟨w.heap.size + 1 + 1, 5, none⟩ (.slice ak' n.kids.length ck')) (.slice ak' n.kids.length ck') n.kids) := hk1.keep (keeps_set _ _ _ _ _ (by omega))
 clear hA hR hO hbW hb hbC hAc hRc hOc hk hk1
 go_wp2_with fail
 have hA := HA.out
 have hR := HR.out
 have hO := HO.out
 have hbW := HB.out
 have hkS := Hk.out
 clear HA HR HO HB Hk b6 o5 g5 y5
 generalize wk.setCell ⟨w.heap.size + 1 + 1, 5, none⟩ (.slice ak' n.kids.length ck') = W at *
 refine (HT.out _ (HV.out.below hbW)).mono ?_
 rintro e wt ⟨_, rfl, ht, hb⟩
 obtain ⟨at', ct', rfl, _⟩ := id ht
 have hbC := hbW.trans (hb.mono hbW.size)
 have hAc := blk hA hb
 have hRc := blk hR hb
 have hOc := blk hO hb
 have ht1 : IntsF (w.heap.size + 3) wt (.slice at' n.thn.length ct') n.thn := ht.mono (blk_lt hO)
 have hkC := hkS.below hb
 have HA : Hid ((wt.setCell ⟨w.heap.size + 1 + 1, 6, none⟩ (.slice at' n.thn.length ct')).heap[w.heap.size]? = some (.cells #[.int .i64 n.kind, .int .i64 n.op, .string (bs n.name), .int .i64 n.num, .int .i64 n.far, .slice ak n.kids.length ck, .slice at_ n.thn.length ct, .slice ae n.els.length ce] 221 (0, 0))) := blk_set _ hAc (by omega)
 have HR : Hid ((wt.setCell ⟨w.heap.size + 1 + 1, 6, none⟩ (.slice at' n.thn.length ct')).heap[w.heap.size + 1]? = some (.cells #[.int .i64 0, .int .i64 0, .string ⟨#[]⟩, .int .i64 0, .int .i64 0, .slice none 0 0, .slice none 0 0, .slice none 0 0] 40 (0, 0))) := blk_set _ hRc (by omega)
 have HO : Hid ((wt.setCell ⟨w.heap.size + 1 + 1, 6, none⟩ (.slice at' n.thn.length ct')).heap[w.heap.size + 1 + 1]? = some (.cells #[.int .i64 n.kind, .int .i64 n.op, .string (bs n.name), .int .i64 n.num, .int .i64 n.far, .slice ak' n.kids.length ck', .slice at' n.thn.length ct', .slice none 0 0] 40 (0, 0))) := by have h := heap_setCell_same wt (w.heap.size + 1 + 1) 6 _ _ (.slice at' n.thn.length ct') hOc; exact h
 have HB : Hid (Below w.heap.size w (wt.setCell ⟨w.heap.size + 1 + 1, 6, none⟩ (.slice at' n.thn.length ct'))) := hbC.trans (below_set _ _ _ _ (by omega))
 have o6 := cell_of_row _ _ 6 _ _ _ hOc
 have g6 := frozen_of_row _ _ 6 _ _ hOc
 simp at o6
 have b7 := cell_of_row _ _ 7 _ _ _ HA.out
 simp at b7
 have y6 := 0
 have Hk : Hid (IntsF (w.heap.size + 3) (wt.setCell ⟨w.heap.size + 1 + 1, 6, none⟩ (.slice at' n.thn.length ct')) (.slice ak' n.kids.length ck') n.kids) := hkC.keep (keeps_set _ _ _ _ _ (by omega))
 have Ht : Hid (IntsF (w.heap.size + 3) (wt.setCell ⟨w.heap.size + 1 + 1, 6, none⟩ (.slice at' n.thn.length ct')) (.slice at' n.thn.length ct') n.thn) := ht1.keep (keeps_set _ _ _ _ _ (by omega))
 clear hA hR hO hbW hb hbC hAc hRc hOc ht ht1 hkS hkC
 go_wp2_with fail
 have hA := HA.out
 have hR := HR.out
 have hO := HO.out
 have hbW := HB.out
 have hkS := Hk.out
 have htS := Ht.out
 clear HA HR HO HB Hk Ht b7 o6 g6 y6
 generalize wt.setCell ⟨w.heap.size + 1 + 1, 6, none⟩ (.slice at' n.thn.length ct') = W at *
 refine (HX.out _ (HV.out.below hbW)).mono ?_
 rintro e wx ⟨_, rfl, hx, hb⟩
 obtain ⟨ax', cx', rfl, _⟩ := id hx
 have hbC := hbW.trans (hb.mono hbW.size)
 have hAc := blk hA hb
 have hRc := blk hR hb
 have hOc := blk hO hb
 have hx1 : IntsF (w.heap.size + 3) wx (.slice ax' n.els.length cx') n.els := hx.mono (blk_lt hO)
 have hkC := hkS.below hb
 have htC := htS.below hb
 have HA : Hid ((wx.setCell ⟨w.heap.size + 1 + 1, 7, none⟩ (.slice ax' n.els.length cx')).heap[w.heap.size]? = some (.cells #[.int .i64 n.kind, .int .i64 n.op, .string (bs n.name), .int .i64 n.num, .int .i64 n.far, .slice ak n.kids.length ck, .slice at_ n.thn.length ct, .slice ae n.els.length ce] 221 (0, 0))) := blk_set _ hAc (by omega)
 have HR : Hid ((wx.setCell ⟨w.heap.size + 1 + 1, 7, none⟩ (.slice ax' n.els.length cx')).heap[w.heap.size + 1]? = some (.cells #[.int .i64 0, .int .i64 0, .string ⟨#[]⟩, .int .i64 0, .int .i64 0, .slice none 0 0, .slice none 0 0, .slice none 0 0] 40 (0, 0))) := blk_set _ hRc (by omega)
 have HO : Hid ((wx.setCell ⟨w.heap.size + 1 + 1, 7, none⟩ (.slice ax' n.els.length cx')).heap[w.heap.size + 1 + 1]? = some (.cells #[.int .i64 n.kind, .int .i64 n.op, .string (bs n.name), .int .i64 n.num, .int .i64 n.far, .slice ak' n.kids.length ck', .slice at' n.thn.length ct', .slice ax' n.els.length cx'] 40 (0, 0))) := by have h := heap_setCell_same wx (w.heap.size + 1 + 1) 7 _ _ (.slice ax' n.els.length cx') hOc; exact h
 have HB : Hid (Below w.heap.size w (wx.setCell ⟨w.heap.size + 1 + 1, 7, none⟩ (.slice ax' n.els.length cx'))) := hbC.trans (below_set _ _ _ _ (by omega))
 have o7 := cell_of_row _ _ 7 _ _ _ hOc
 have g7 := frozen_of_row _ _ 7 _ _ hOc
 simp at o7
 have b8 := 0
 have y7 := 0
 have Hk : Hid (IntsF (w.heap.size + 3) (wx.setCell ⟨w.heap.size + 1 + 1, 7, none⟩ (.slice ax' n.els.length cx')) (.slice ak' n.kids.length ck') n.kids) := hkC.keep (keeps_set _ _ _ _ _ (by omega))
 have Ht : Hid (IntsF (w.heap.size + 3) (wx.setCell ⟨w.heap.size + 1 + 1, 7, none⟩ (.slice ax' n.els.length cx')) (.slice at' n.thn.length ct') n.thn) := htC.keep (keeps_set _ _ _ _ _ (by omega))
 have Hx : Hid (IntsF (w.heap.size + 3) (wx.setCell ⟨w.heap.size + 1 + 1, 7, none⟩ (.slice ax' n.els.length cx')) (.slice ax' n.els.length cx') n.els) := hx1.keep (keeps_set _ _ _ _ _ (by omega))
 clear hA hR hO hbW hb hbC hAc hRc hOc hx hx1 hkS hkC htS htC
 have O0 := cell_of_row _ _ 0 _ _ _ HO.out
 have O1 := cell_of_row _ _ 1 _ _ _ HO.out
 have O2 := cell_of_row _ _ 2 _ _ _ HO.out
 have O3 := cell_of_row _ _ 3 _ _ _ HO.out
 have O4 := cell_of_row _ _ 4 _ _ _ HO.out
 have O5 := cell_of_row _ _ 5 _ _ _ HO.out
 have O6 := cell_of_row _ _ 6 _ _ _ HO.out
 have O7 := cell_of_row _ _ 7 _ _ _ HO.out
 simp at O0 O1 O2 O3 O4 O5 O6 O7
 have R0 := cell_of_row _ _ 0 _ _ _ HR.out
 have R1 := cell_of_row _ _ 1 _ _ _ HR.out
 have R2 := cell_of_row _ _ 2 _ _ _ HR.out
 have R3 := cell_of_row _ _ 3 _ _ _ HR.out
 have R4 := cell_of_row _ _ 4 _ _ _ HR.out
 have R5 := cell_of_row _ _ 5 _ _ _ HR.out
 have R6 := cell_of_row _ _ 6 _ _ _ HR.out
 have R7 := cell_of_row _ _ 7 _ _ _ HR.out
 simp at R0 R1 R2 R3 R4 R5 R6 R7
 have G0 := frozen_of_row _ _ 0 _ _ HR.out
 have G1 := frozen_of_row _ _ 1 _ _ HR.out
 have G2 := frozen_of_row _ _ 2 _ _ HR.out
 have G3 := frozen_of_row _ _ 3 _ _ HR.out
 have G4 := frozen_of_row _ _ 4 _ _ HR.out
 have G5 := frozen_of_row _ _ 5 _ _ HR.out
 have G6 := frozen_of_row _ _ 6 _ _ HR.out
 have G7 := frozen_of_row _ _ 7 _ _ HR.out
 go_wp2
 refine bodyPost_ret (v := nodeV n (.slice ak' n.kids.length ck') (.slice at' n.thn.length ct') (.slice ax' n.els.length cx')) (by simp [results, Tryz.results181, go_sem, R0, R1, R2, R3, R4, R5, R6, R7]) rfl ⟨_, _, _, rfl, ?_, ?_⟩
 ·refine NodeValsF.mono ?_ (by omega : w.heap.size ≤ w.heap.size + 3)
  refine NodeValsF.set ?_ (by omega)
  refine NodeValsF.set ?_ (by omega)
  refine NodeValsF.set ?_ (by omega)
  refine NodeValsF.set ?_ (by omega)
  refine NodeValsF.set ?_ (by omega)
  refine NodeValsF.set ?_ (by omega)
  refine NodeValsF.set ?_ (by omega)
  refine NodeValsF.set ?_ (by omega)
  exact ⟨Hk.out, Ht.out, Hx.out⟩
 ·refine Below.trans ?_ (below_set _ _ _ _ (by omega))
  refine Below.trans ?_ (below_set _ _ _ _ (by omega))
  refine Below.trans ?_ (below_set _ _ _ _ (by omega))
  refine Below.trans ?_ (below_set _ _ _ _ (by omega))
  refine Below.trans ?_ (below_set _ _ _ _ (by omega))
  refine Below.trans ?_ (below_set _ _ _ _ (by omega))
  refine Below.trans ?_ (below_set _ _ _ _ (by omega))
  refine Below.trans ?_ (below_set _ _ _ _ (by omega))
  exact HB.out
end Go.Proofs.YtcecfmdjicjngaaGreatDoor
namespace Go.Proofs.YtcecfmdjicjngaaGreatDoor
open Go.RowKit
set_option linter.unusedVariables false
attribute [local go_sem] bs_size bs_get bs_extract bs_append bs_eq bs_toList
structure NodesLaidF (w : World) (g n k : Nat) (T : TypeId) (xs : List LNode) : Prop where
 row : ∃ cur : Array Value, w.heap[g]? = some (.cells cur T (0, 0)) ∧ cur.size = n * 8
 at_ : ∀ j x, j < k → xs[j]? = some x → NodeAtF (g + 1) w g (j * 8) x
theorem NodesLaidF.lt {w : World} {g n k : Nat} {T : TypeId} {xs : List LNode} (h : NodesLaidF w g n k T xs) : g < w.heap.size := by obtain ⟨cur, h1, _⟩ := h.row; exact blk_lt h1
theorem NodesLaidF.below {w w' : World} {g n k : Nat} {T : TypeId} {xs : List LNode} (h : NodesLaidF w g n k T xs) (hb : Below w.heap.size w w') : NodesLaidF w' g n k T xs := by
 obtain ⟨cur, h1, h2⟩ := h.row
 refine ⟨⟨cur, blk h1 hb, h2⟩, fun j x hj hx => ?_⟩
 obtain ⟨vk, vt, ve, hc, hv⟩ := h.at_ j x hj hx
 exact ⟨vk, vt, ve, hc.keep (lo := g) (.of_below hb) (Nat.le_refl _), hv.below hb⟩
theorem NodesLaidF.cell {w : World} {g n k i : Nat} {T : TypeId} {xs : List LNode} (h : NodesLaidF w g n k T xs) (hi : i < n * 8) : (∃ y, w.cell? ⟨g, i, none⟩ = some y) ∧ w.frozen? ⟨g, i, none⟩ = false := by
 obtain ⟨cur, h1, h2⟩ := h.row
 refine ⟨⟨cur[i]'(by omega), ?_⟩, frozen_of_row _ _ _ _ _ h1⟩
 rw [cell_of_row _ _ _ _ _ _ h1]
 exact Array.getElem?_eq_getElem (by omega)
theorem NodesLaidF.of_own {w : World} {g n B : Nat} {T : TypeId} {xs : List LNode} {ys : List Value} (h : w.ownsRow B T 8 (.slice (some ⟨g, 0, none⟩) n n) n ys) : NodesLaidF w g n 0 T xs := by
 refine ⟨?_, fun j x hj => absurd hj (by omega)⟩
 rcases h.2 with ⟨h, _⟩ | ⟨g', c, cur, h, _, hh, _, _, hs, _⟩
 ·simp at h
 ·simp at h
  obtain ⟨rfl, rfl⟩ := h
  exact ⟨cur, hh, hs⟩
theorem NodesLaidF.set {w : World} {g n k i : Nat} {T : TypeId} {xs : List LNode} (h : NodesLaidF w g n k T xs) (hi : k * 8 ≤ i) (u : Value) : NodesLaidF (w.setCell ⟨g, i, none⟩ u) g n k T xs := by
 obtain ⟨cur, h1, h2⟩ := h.row
 refine ⟨⟨cur.setIfInBounds i u, heap_setCell_same w g i _ _ _ h1, by simpa using h2⟩, fun j x hj hx => ?_⟩
 obtain ⟨vk, vt, ve, hc, hv⟩ := h.at_ j x hj hx
 have o : ∀ t, t < 8 → (w.setCell ⟨g, i, none⟩ u).cell? ⟨g, j * 8 + t, none⟩ = w.cell? ⟨g, j * 8 + t, none⟩ := fun t ht => World.cell?_setCell_other _ _ _ _ (fun e => by have := congrArg Addr.off e; simp only at this; omega)
 have o0 := o 0 (by omega)
 rw [Nat.add_zero] at o0
 exact ⟨vk, vt, ve, ⟨o0.trans hc.c0, (o 1 (by omega)).trans hc.c1, (o 2 (by omega)).trans hc.c2, (o 3 (by omega)).trans hc.c3, (o 4 (by omega)).trans hc.c4, (o 5 (by omega)).trans hc.c5, (o 6 (by omega)).trans hc.c6, (o 7 (by omega)).trans hc.c7⟩, hv.set (by omega)⟩
theorem NodesLaidF.store8 {w : World} {g n k : Nat} {T : TypeId} {xs : List LNode} {x : LNode} {vk vt ve : Value} (h : NodesLaidF w g n k T xs) (hk : k < n) (hx : xs[k]? = some x) (hv : NodeValsF (g + 1) w x vk vt ve) :
  NodesLaidF (stored8 w g (k * 8) (.int .i64 x.kind) (.int .i64 x.op) (.string (bs x.name)) (.int .i64 x.num) (.int .i64 x.far) vk vt ve) g n (k + 1) T xs := by
 have c : ∀ t, t < 8 → ∃ y, w.cell? ⟨g, k * 8 + t, none⟩ = some y := fun t ht => (h.cell (by omega)).1
 obtain ⟨y0, c0⟩ := c 0 (by omega)
 obtain ⟨y1, c1⟩ := c 1 (by omega)
 obtain ⟨y2, c2⟩ := c 2 (by omega)
 obtain ⟨y3, c3⟩ := c 3 (by omega)
 obtain ⟨y4, c4⟩ := c 4 (by omega)
 obtain ⟨y5, c5⟩ := c 5 (by omega)
 obtain ⟨y6, c6⟩ := c 6 (by omega)
 obtain ⟨y7, c7⟩ := c 7 (by omega)
 rw [Nat.add_zero] at c0
 have hs := (((((((h.set (i := k * 8) (by omega) (.int .i64 x.kind)).set (i := k * 8 + 1) (by omega) (.int .i64 x.op)).set (i := k * 8 + 2) (by omega) (.string (bs x.name))).set (i := k * 8 + 3) (by omega) (.int .i64 x.num)).set (i := k * 8 + 4) (by omega) (.int .i64 x.far)).set (i := k * 8 + 5) (by omega) vk).set (i := k * 8 + 6) (by omega) vt).set (i := k * 8 + 7) (by omega) ve
 refine ⟨hs.row, fun j z hj hz => ?_⟩
 by_cases e : j = k
 ·subst e
  obtain rfl : z = x := by rw [hx] at hz; exact (Option.some.inj hz).symm
  unfold stored8
  refine ⟨vk, vt, ve, ⟨?_, ?_, ?_, ?_, ?_, ?_, ?_, ?_⟩, ?_⟩
  ·refine set_old ?_ (by omega); refine set_old ?_ (by omega); refine set_old ?_ (by omega); refine set_old ?_ (by omega); refine set_old ?_ (by omega); refine set_old ?_ (by omega); refine set_old ?_ (by omega); refine set_get (y := y0) ?_; exact c0
  ·refine set_old ?_ (by omega); refine set_old ?_ (by omega); refine set_old ?_ (by omega); refine set_old ?_ (by omega); refine set_old ?_ (by omega); refine set_old ?_ (by omega); refine set_get (y := y1) ?_; refine set_old ?_ (by omega); exact c1
  ·refine set_old ?_ (by omega); refine set_old ?_ (by omega); refine set_old ?_ (by omega); refine set_old ?_ (by omega); refine set_old ?_ (by omega); refine set_get (y := y2) ?_; refine set_old ?_ (by omega); refine set_old ?_ (by omega); exact c2
  ·refine set_old ?_ (by omega); refine set_old ?_ (by omega); refine set_old ?_ (by omega); refine set_old ?_ (by omega); refine set_get (y := y3) ?_; refine set_old ?_ (by omega); refine set_old ?_ (by omega); refine set_old ?_ (by omega); exact c3
  ·refine set_old ?_ (by omega); refine set_old ?_ (by omega); refine set_old ?_ (by omega); refine set_get (y := y4) ?_; refine set_old ?_ (by omega); refine set_old ?_ (by omega); refine set_old ?_ (by omega); refine set_old ?_ (by omega); exact c4
  ·refine set_old ?_ (by omega); refine set_old ?_ (by omega); refine set_get (y := y5) ?_; refine set_old ?_ (by omega); refine set_old ?_ (by omega); refine set_old ?_ (by omega); refine set_old ?_ (by omega); refine set_old ?_ (by omega); exact c5
  ·refine set_old ?_ (by omega); refine set_get (y := y6) ?_; refine set_old ?_ (by omega); refine set_old ?_ (by omega); refine set_old ?_ (by omega); refine set_old ?_ (by omega); refine set_old ?_ (by omega); refine set_old ?_ (by omega); exact c6
  ·refine set_get (y := y7) ?_; refine set_old ?_ (by omega); refine set_old ?_ (by omega); refine set_old ?_ (by omega); refine set_old ?_ (by omega); refine set_old ?_ (by omega); refine set_old ?_ (by omega); refine set_old ?_ (by omega); exact c7
  ·iterate 8 refine NodeValsF.set ?_ (by omega)
   exact hv
 ·exact hs.at_ j z (by omega) hz
theorem nodes_of_laidF {w : World} {g n : Nat} {xs : List LNode} (h : NodesLaidF w g n n 40 xs) (hn : xs.length = n) : NodesF g w (.slice (some ⟨g, 0, none⟩) n n) xs := by
 obtain ⟨cur, h1, h2⟩ := h.row
 exact ⟨some ⟨g, 0, none⟩, n, by rw [hn], by omega, fun _ => ⟨g, 0, rfl, Nat.le_refl _, ⟨cur, h1, by omega⟩, fun i x hx => by
  have hi : i < n := by have := (List.getElem?_eq_some_iff.1 hx).1; omega
  rw [Nat.zero_add]
  exact (h.at_ i x hi hx).mono (by omega)⟩⟩
set_option maxHeartbeats 6400000 in
set_option maxRecDepth 100000 in
theorem toNodesF_any (lo : Nat) (v : Value) (xs : List LNode) (w : World) (h : NodesV lo w v xs) (hl : xs.length ≤ 1048576) (hz : ∀ n ∈ xs, n.kids.length ≤ 1048576 ∧ n.thn.length ≤ 1048576 ∧ n.els.length ≤ 1048576) :
  Calls Tryz.prog 106 #[v] w fun e w' => ∃ v', e = .returned v' ∧ NodesF w.heap.size w' v' xs ∧ Below w.heap.size w w' := by
 obtain ⟨a, c, rfl, hc, hhd⟩ := h
 obtain ⟨i0, hi, hz0, hz1, hz2⟩ := info_parts infoNode
 have hmax2 : xs.length ≤ maxLen := by unfold maxLen; omega
 have HHD : Hid (xs ≠ [] → ∃ b o, a = some ⟨b, o, none⟩ ∧ lo ≤ b ∧ ∀ (i : Nat) (x : LNode), xs[i]? = some x → NodeAt lo w b (o + i * 8) x) := hhd
 have HZ : Hid (∀ n ∈ xs, n.kids.length ≤ 1048576 ∧ n.thn.length ≤ 1048576 ∧ n.els.length ≤ 1048576) := hz
 clear hhd hc hz
 go_enter Tryz.func106, Tryz.ntmps106
 go_wp2_with (at_make; refine wpList_make_full _ rfl (.tmp 6) (.tmp 6) 25 rfl w.heap.size 40 i0 nodeZ 8 Tryz.underlying25 hi hz0 hz1 .i64 .i64 xs.length xs.length xs.length rfl rfl rfl rfl ?_ hmax2 (Nat.le_refl _) ?_)
 ·rw [hz2]; omega
 ·intro w1 hown hgrow
  have hB : Below w.heap.size w w1 := (Below.refl _ _).grown hgrow (Nat.le_refl _) (fun k hk => by cases hk)
  have hP : NodesLaidF w1 w.heap.size xs.length 0 40 xs := .of_own hown
  clear hgrow hown
  go_wp2
  go_loopw [4] (fun i wr => ∃ k : Nat, k ≤ xs.length ∧ i = .int .i64 k ∧ NodesLaidF wr w.heap.size xs.length k 40 xs ∧ Below w.heap.size w wr) (fun i _ => xs.length - (intOf i).toNat)
  case atStart => exact ⟨0, Nat.zero_le _, rfl, hP, hB⟩
  case round =>
   clear hP hB
   obtain ⟨k, hk, rfl, hP, hB⟩ := hrel
   have hgl : w.heap.size < wr.heap.size := hP.lt
   by_cases hlt : k < xs.length
   ·obtain ⟨x, hx⟩ : ∃ x, xs[k]? = some x := ⟨xs[k], List.getElem?_eq_getElem hlt⟩
    obtain ⟨b, o, ha, _, hcl⟩ := HHD.out (by intro e; rw [e] at hlt; simp at hlt)
    subst ha
    obtain ⟨vk, vt, ve, hcs, hvs⟩ := hcl k x hx
    have hbl : b < w.heap.size := World.block_lt_of_cell? _ _ hcs.c0
    obtain ⟨c0, c1, c2, c3, c4, c5, c6, c7⟩ := hcs.keep (lo := 0) (fun g _ hg => hB.block g hg) (Nat.zero_le _)
    have hvs1 := hvs.keep (w' := wr) (fun g _ hg => hB.block g hg)
    obtain ⟨z1, z2, z3⟩ := HZ.out x (List.mem_of_getElem? hx)
    have hto : Hid (Calls Tryz.prog 181 #[nodeV x vk vt ve] wr fun e w' => ∃ vk' vt' ve', e = .returned (nodeV x vk' vt' ve') ∧ NodeValsF wr.heap.size w' x vk' vt' ve' ∧ Below wr.heap.size wr w') := toNodeF_any lo x vk vt ve wr hvs1 z1 z2 z3
    have HP : Hid (NodesLaidF wr w.heap.size xs.length k 40 xs) := hP
    have HX : Hid (xs[k]? = some x) := hx
    obtain ⟨ak, ck, rfl, _⟩ := id hvs1.kids
    obtain ⟨at_, ct, rfl, _⟩ := id hvs1.thn
    obtain ⟨ae, ce, rfl, _⟩ := id hvs1.els
    clear hcl hx hP hcs hvs hvs1 z1 z2 z3
    go_wp2_with fail
    refine hto.out.mono ?_
    rintro e w2 ⟨_, _, _, rfl, hv, hb⟩
    obtain ⟨ak', ck', rfl, _⟩ := id hv.kids
    obtain ⟨at', ct', rfl, _⟩ := id hv.thn
    obtain ⟨ae', ce', rfl, _⟩ := id hv.els
    have hP2 := HP.out.below hb
    have hB2 := hB.trans (hb.mono hB.size)
    have hgl2 : w.heap.size < w2.heap.size := Nat.lt_of_lt_of_le hgl hb.size
    obtain ⟨⟨y0, d0⟩, f0⟩ := hP2.cell (i := k * 8) (by omega)
    obtain ⟨⟨y1, d1⟩, f1⟩ := hP2.cell (i := k * 8 + 1) (by omega)
    obtain ⟨⟨y2, d2⟩, f2⟩ := hP2.cell (i := k * 8 + 2) (by omega)
    obtain ⟨⟨y3, d3⟩, f3⟩ := hP2.cell (i := k * 8 + 3) (by omega)
    obtain ⟨⟨y4, d4⟩, f4⟩ := hP2.cell (i := k * 8 + 4) (by omega)
    obtain ⟨⟨y5, d5⟩, f5⟩ := hP2.cell (i := k * 8 + 5) (by omega)
    obtain ⟨⟨y6, d6⟩, f6⟩ := hP2.cell (i := k * 8 + 6) (by omega)
    obtain ⟨⟨y7, d7⟩, f7⟩ := hP2.cell (i := k * 8 + 7) (by omega)
    have E3 : Hid (NodesLaidF (stored8 w2 w.heap.size (k * 8) (.int .i64 x.kind) (.int .i64 x.op) (.string (bs x.name)) (.int .i64 x.num) (.int .i64 x.far) (.slice ak' x.kids.length ck') (.slice at' x.thn.length ct') (.slice ae' x.els.length ce')) w.heap.size xs.length (k + 1) 40 xs) := hP2.store8 hlt HX.out (hv.mono hgl)
    have B3 : Hid (Below w.heap.size w (stored8 w2 w.heap.size (k * 8) (.int .i64 x.kind) (.int .i64 x.op) (.string (bs x.name)) (.int .i64 x.num) (.int .i64 x.far) (.slice ak' x.kids.length ck') (.slice at' x.thn.length ct') (.slice ae' x.els.length ce'))) := below_stored8 hB2 (Nat.le_refl _)
    clear hP2 hb hB hB2 HP c0 c1 c2 c3 c4 c5 c6 c7 hto hv
    go_wp2_with fail
    go_roundw
    case rel => exact ⟨k + 1, by omega, by go_num, E3.out, B3.out⟩
    case measure => simp [intOf]; omega
   ·have hke : k = xs.length := by omega
    subst hke
    have HP : Hid (NodesF w.heap.size wr (.slice (some ⟨w.heap.size, 0, none⟩) xs.length xs.length) xs) := nodes_of_laidF hP rfl
    clear hP
    go_wp2
    go_ret
    exact ⟨_, rfl, HP.out, hB⟩
end Go.Proofs.YtcecfmdjicjngaaGreatDoor
namespace Go.Proofs.YtcecfmdjicjngaaGreatDoor
open Go.RowKit
set_option linter.unusedVariables false
attribute [local go_sem] bs_size bs_get bs_extract bs_append bs_eq bs_toList
set_option maxHeartbeats 6400000 in
set_option maxRecDepth 100000 in
theorem toTreeF_any (lo : Nat) (T : LTree) (vv vn vb : Value) (w : World) (h : TreeV lo w vv vn vb T) (hz : Sized 1048576 T) :
  Calls Tryz.prog 31 #[treeV vv vn vb] w fun e w' => ∃ vv' vn' vb', e = .returned (treeV vv' vn' vb') ∧ TreeF w.heap.size w' vv' vn' vb' T ∧ Below w.heap.size w w' := by
 obtain ⟨av, cv, rfl, _⟩ := id h.vars
 obtain ⟨an, cn, rfl, _⟩ := id h.nodes
 obtain ⟨ab, cb, rfl, _⟩ := id h.body
 have HV : Hid (TreeV lo w (.slice av T.vars.length cv) (.slice an T.nodes.length cn) (.slice ab T.body.length cb) T) := h
 have HZ : Hid (Sized 1048576 T) := hz
 clear h hz
 go_enter Tryz.func31, Tryz.ntmps31
 go_wp2_with fail
 obtain ⟨W, hW⟩ : ∃ W, W = (((w.alloc (.cells #[.slice av T.vars.length cv, .slice an T.nodes.length cn, .slice ab T.body.length cb] 62)).alloc (.cells #[.slice none 0 0, .slice none 0 0, .slice none 0 0] 28)).alloc (.cells #[.slice none 0 0, .slice none 0 0, .slice none 0 0] 28)) := ⟨_, rfl⟩
 have hbW : Below w.heap.size w W := by rw [hW]; exact (((Below.refl _ _).alloc (Nat.le_refl _) _).alloc (by simp) _).alloc (by simp; omega) _
 have hA : W.heap[w.heap.size]? = some (.cells #[.slice av T.vars.length cv, .slice an T.nodes.length cn, .slice ab T.body.length cb] 62 (0, 0)) := by
  rw [hW, Below.heap_alloc _ _ _ (by simp; omega), Below.heap_alloc _ _ _ (by simp)]; exact heap_alloc_new w _
 have hR : W.heap[w.heap.size + 1]? = some (.cells #[.slice none 0 0, .slice none 0 0, .slice none 0 0] 28 (0, 0)) := by
  rw [hW, Below.heap_alloc _ _ _ (by simp)]
  have h := heap_alloc_new (w.alloc (.cells #[.slice av T.vars.length cv, .slice an T.nodes.length cn, .slice ab T.body.length cb] 62)) (.cells #[.slice none 0 0, .slice none 0 0, .slice none 0 0] 28)
  rwa [show (w.alloc (.cells #[.slice av T.vars.length cv, .slice an T.nodes.length cn, .slice ab T.body.length cb] 62)).heap.size = w.heap.size + 1 from by simp] at h
 have hO : W.heap[w.heap.size + 1 + 1]? = some (.cells #[.slice none 0 0, .slice none 0 0, .slice none 0 0] 28 (0, 0)) := by
  rw [hW]
  have h := heap_alloc_new ((w.alloc (.cells #[.slice av T.vars.length cv, .slice an T.nodes.length cn, .slice ab T.body.length cb] 62)).alloc (.cells #[.slice none 0 0, .slice none 0 0, .slice none 0 0] 28)) (.cells #[.slice none 0 0, .slice none 0 0, .slice none 0 0] 28)
  rwa [show ((w.alloc (.cells #[.slice av T.vars.length cv, .slice an T.nodes.length cn, .slice ab T.body.length cb] 62)).alloc (.cells #[.slice none 0 0, .slice none 0 0, .slice none 0 0] 28)).heap.size = w.heap.size + 1 + 1 from by simp] at h
 rw [← hW]
 clear hW
 refine (toVarsF_any lo _ _ _ (HV.out.below hbW).vars HZ.out.vars).mono ?_
 rintro e wv ⟨_, rfl, hv, hb⟩
 obtain ⟨av', cv', rfl, _⟩ := id hv
 have hbC := hbW.trans (hb.mono hbW.size)
 have hAc := blk hA hb
 have hRc := blk hR hb
 have hOc := blk hO hb
 have hv1 : VarsF (w.heap.size + 3) wv (.slice av' T.vars.length cv') T.vars := hv.mono (blk_lt hO)
 have HA : Hid ((wv.setCell ⟨w.heap.size + 1 + 1, 0, none⟩ (.slice av' T.vars.length cv')).heap[w.heap.size]? = some (.cells #[.slice av T.vars.length cv, .slice an T.nodes.length cn, .slice ab T.body.length cb] 62 (0, 0))) := blk_set _ hAc (by omega)
 have HR : Hid ((wv.setCell ⟨w.heap.size + 1 + 1, 0, none⟩ (.slice av' T.vars.length cv')).heap[w.heap.size + 1]? = some (.cells #[.slice none 0 0, .slice none 0 0, .slice none 0 0] 28 (0, 0))) := blk_set _ hRc (by omega)
 have HO : Hid ((wv.setCell ⟨w.heap.size + 1 + 1, 0, none⟩ (.slice av' T.vars.length cv')).heap[w.heap.size + 1 + 1]? = some (.cells #[.slice av' T.vars.length cv', .slice none 0 0, .slice none 0 0] 28 (0, 0))) := by have h := heap_setCell_same wv (w.heap.size + 1 + 1) 0 _ _ (.slice av' T.vars.length cv') hOc; exact h
 have HB : Hid (Below w.heap.size w (wv.setCell ⟨w.heap.size + 1 + 1, 0, none⟩ (.slice av' T.vars.length cv'))) := hbC.trans (below_set _ _ _ _ (by omega))
 have o0 := cell_of_row _ _ 0 _ _ _ hOc
 have g0 := frozen_of_row _ _ 0 _ _ hOc
 simp at o0
 have b1 := cell_of_row _ _ 1 _ _ _ HA.out
 simp at b1
 have Hv : Hid (VarsF (w.heap.size + 3) (wv.setCell ⟨w.heap.size + 1 + 1, 0, none⟩ (.slice av' T.vars.length cv')) (.slice av' T.vars.length cv') T.vars) := hv1.keep (keeps_set _ _ _ _ _ (by omega))
 clear hA hR hO hbW hb hbC hAc hRc hOc hv hv1
 go_wp2_with fail
 have hA := HA.out
 have hR := HR.out
 have hO := HO.out
 have hbW := HB.out
 have hvS := Hv.out
 clear HA HR HO HB Hv b1 o0 g0
 generalize wv.setCell ⟨w.heap.size + 1 + 1, 0, none⟩ (.slice av' T.vars.length cv') = W at *
 refine (toNodesF_any lo _ _ _ (HV.out.below hbW).nodes HZ.out.nodes (fun n hn => (HZ.out.node n hn).2)).mono ?_
 rintro e wn ⟨_, rfl, hn, hb⟩
 obtain ⟨an', cn', rfl, _⟩ := id hn
 have hbC := hbW.trans (hb.mono hbW.size)
 have hAc := blk hA hb
 have hRc := blk hR hb
 have hOc := blk hO hb
 have hn1 : NodesF (w.heap.size + 3) wn (.slice an' T.nodes.length cn') T.nodes := hn.mono (blk_lt hO)
 have hvC := hvS.below hb
 have HA : Hid ((wn.setCell ⟨w.heap.size + 1 + 1, 1, none⟩ (.slice an' T.nodes.length cn')).heap[w.heap.size]? = some (.cells #[.slice av T.vars.length cv, .slice an T.nodes.length cn, .slice ab T.body.length cb] 62 (0, 0))) := blk_set _ hAc (by omega)
 have HR : Hid ((wn.setCell ⟨w.heap.size + 1 + 1, 1, none⟩ (.slice an' T.nodes.length cn')).heap[w.heap.size + 1]? = some (.cells #[.slice none 0 0, .slice none 0 0, .slice none 0 0] 28 (0, 0))) := blk_set _ hRc (by omega)
 have HO : Hid ((wn.setCell ⟨w.heap.size + 1 + 1, 1, none⟩ (.slice an' T.nodes.length cn')).heap[w.heap.size + 1 + 1]? = some (.cells #[.slice av' T.vars.length cv', .slice an' T.nodes.length cn', .slice none 0 0] 28 (0, 0))) := by have h := heap_setCell_same wn (w.heap.size + 1 + 1) 1 _ _ (.slice an' T.nodes.length cn') hOc; exact h
 have HB : Hid (Below w.heap.size w (wn.setCell ⟨w.heap.size + 1 + 1, 1, none⟩ (.slice an' T.nodes.length cn'))) := hbC.trans (below_set _ _ _ _ (by omega))
 have o1 := cell_of_row _ _ 1 _ _ _ hOc
 have g1 := frozen_of_row _ _ 1 _ _ hOc
 simp at o1
 have b2 := cell_of_row _ _ 2 _ _ _ HA.out
 simp at b2
 have Hv : Hid (VarsF (w.heap.size + 3) (wn.setCell ⟨w.heap.size + 1 + 1, 1, none⟩ (.slice an' T.nodes.length cn')) (.slice av' T.vars.length cv') T.vars) := hvC.keep (keeps_set _ _ _ _ _ (by omega))
 have Hn : Hid (NodesF (w.heap.size + 3) (wn.setCell ⟨w.heap.size + 1 + 1, 1, none⟩ (.slice an' T.nodes.length cn')) (.slice an' T.nodes.length cn') T.nodes) := hn1.keep (keeps_set _ _ _ _ _ (by omega))
 clear hA hR hO hbW hb hbC hAc hRc hOc hn hn1 hvS hvC
 go_wp2_with fail
 have hA := HA.out
 have hR := HR.out
 have hO := HO.out
 have hbW := HB.out
 have hvS := Hv.out
 have hnS := Hn.out
 clear HA HR HO HB Hv Hn b2 o1 g1
 generalize wn.setCell ⟨w.heap.size + 1 + 1, 1, none⟩ (.slice an' T.nodes.length cn') = W at *
 refine (toIntsF_any lo _ _ _ (HV.out.below hbW).body HZ.out.body).mono ?_
 rintro e wd ⟨_, rfl, hd, hb⟩
 obtain ⟨ad', cd', rfl, _⟩ := id hd
 have hbC := hbW.trans (hb.mono hbW.size)
 have hAc := blk hA hb
 have hRc := blk hR hb
 have hOc := blk hO hb
 have hd1 : IntsF (w.heap.size + 3) wd (.slice ad' T.body.length cd') T.body := hd.mono (blk_lt hO)
 have hvC := hvS.below hb
 have hnC := hnS.below hb
 have HA : Hid ((wd.setCell ⟨w.heap.size + 1 + 1, 2, none⟩ (.slice ad' T.body.length cd')).heap[w.heap.size]? = some (.cells #[.slice av T.vars.length cv, .slice an T.nodes.length cn, .slice ab T.body.length cb] 62 (0, 0))) := blk_set _ hAc (by omega)
 have HR : Hid ((wd.setCell ⟨w.heap.size + 1 + 1, 2, none⟩ (.slice ad' T.body.length cd')).heap[w.heap.size + 1]? = some (.cells #[.slice none 0 0, .slice none 0 0, .slice none 0 0] 28 (0, 0))) := blk_set _ hRc (by omega)
 have HO : Hid ((wd.setCell ⟨w.heap.size + 1 + 1, 2, none⟩ (.slice ad' T.body.length cd')).heap[w.heap.size + 1 + 1]? = some (.cells #[.slice av' T.vars.length cv', .slice an' T.nodes.length cn', .slice ad' T.body.length cd'] 28 (0, 0))) := by have h := heap_setCell_same wd (w.heap.size + 1 + 1) 2 _ _ (.slice ad' T.body.length cd') hOc; exact h
 have HB : Hid (Below w.heap.size w (wd.setCell ⟨w.heap.size + 1 + 1, 2, none⟩ (.slice ad' T.body.length cd'))) := hbC.trans (below_set _ _ _ _ (by omega))
 have o2 := cell_of_row _ _ 2 _ _ _ hOc
 have g2 := frozen_of_row _ _ 2 _ _ hOc
 simp at o2
 have Hv : Hid (VarsF (w.heap.size + 3) (wd.setCell ⟨w.heap.size + 1 + 1, 2, none⟩ (.slice ad' T.body.length cd')) (.slice av' T.vars.length cv') T.vars) := hvC.keep (keeps_set _ _ _ _ _ (by omega))
 have Hn : Hid (NodesF (w.heap.size + 3) (wd.setCell ⟨w.heap.size + 1 + 1, 2, none⟩ (.slice ad' T.body.length cd')) (.slice an' T.nodes.length cn') T.nodes) := hnC.keep (keeps_set _ _ _ _ _ (by omega))
 have Hd : Hid (IntsF (w.heap.size + 3) (wd.setCell ⟨w.heap.size + 1 + 1, 2, none⟩ (.slice ad' T.body.length cd')) (.slice ad' T.body.length cd') T.body) := hd1.keep (keeps_set _ _ _ _ _ (by omega))
 clear hA hR hO hbW hb hbC hAc hRc hOc hd hd1 hvS hvC hnS hnC
 have O0 := cell_of_row _ _ 0 _ _ _ HO.out
 have O1 := cell_of_row _ _ 1 _ _ _ HO.out
 have O2 := cell_of_row _ _ 2 _ _ _ HO.out
 have R0 := cell_of_row _ _ 0 _ _ _ HR.out
 have R1 := cell_of_row _ _ 1 _ _ _ HR.out
 have R2 := cell_of_row _ _ 2 _ _ _ HR.out
 have G0 := frozen_of_row _ _ 0 _ _ HR.out
 have G1 := frozen_of_row _ _ 1 _ _ HR.out
 have G2 := frozen_of_row _ _ 2 _ _ HR.out
 simp at O0 O1 O2 R0 R1 R2
 go_wp2
 refine bodyPost_ret (v := treeV (.slice av' T.vars.length cv') (.slice an' T.nodes.length cn') (.slice ad' T.body.length cd')) (by simp [results, Tryz.results31, go_sem, R0, R1, R2]) rfl ⟨_, _, _, rfl, ?_, ?_⟩
 ·refine TreeF.mono ?_ (by omega : w.heap.size ≤ w.heap.size + 3)
  refine TreeF.keep ⟨Hv.out, Hn.out, Hd.out⟩ (fun b hb hl => ?_)
  rw [Below.heap_setCell _ _ _ _ (by simp; omega), Below.heap_setCell _ _ _ _ (by simp; omega), Below.heap_setCell _ _ _ _ (by simp; omega)]
 ·refine Below.trans ?_ (below_set _ _ _ _ (by omega))
  refine Below.trans ?_ (below_set _ _ _ _ (by omega))
  refine Below.trans ?_ (below_set _ _ _ _ (by omega))
  exact HB.out
end Go.Proofs.YtcecfmdjicjngaaGreatDoor
namespace Go.Proofs.YtcecfmdjicjngaaGreatDoor
open Go.RowKit
set_option linter.unusedVariables false
attribute [local go_sem] bs_size bs_get bs_extract bs_append bs_eq bs_toList
def dg (m : Nat) : UInt8 := UInt8.ofNat (48 + m % 10)
theorem dg_val (m : Nat) : (dg m).toNat = 48 + m % 10 := by unfold dg; simp; omega
def mtF : Nat → Nat → List UInt8 → List UInt8
 | 0, _, out => out
 | f + 1, k, out => if k = 0 then out else mtF f (k / 10) (dg k :: out)
theorem mtF_fuel : ∀ (f f' k : Nat) (out : List UInt8), k ≤ f → k ≤ f' → mtF f k out = mtF f' k out := by
 intro f
 induction f with
 | zero => intro f' k out h h'; have : k = 0 := by omega
      subst this; cases f' <;> simp [mtF]
 | succ f ih =>
  intro f' k out h h'
  by_cases hk : k = 0
  ·subst hk; cases f' <;> simp [mtF]
  ·cases f' with
   | zero => omega
   | succ f' =>
    simp only [mtF, if_neg hk]
    exact ih f' _ _ (by omega) (by omega)
def mt (k : Nat) : List UInt8 := if k = 0 then [109, 48] else 109 :: mtF k k []
theorem mtF_step (k : Nat) (out : List UInt8) (h : k ≠ 0) : mtF k k out = mtF (k / 10) (k / 10) (dg k :: out) := by
 cases k with
 | zero => exact absurd rfl h
 | succ k =>
  have e : mtF (k + 1) (k + 1) out = mtF k ((k + 1) / 10) (dg (k + 1) :: out) := by simp [mtF]
  rw [e]
  exact mtF_fuel _ _ _ _ (by omega) (Nat.le_refl _)
theorem conv1 (w : World) (m g : Nat) (hc : w.cell? ⟨g, 0, none⟩ = some (.int .u8 (48 + (m : Int) % 10))) :
  (convert 22 9 (.slice (some ⟨g, 0, none⟩) 1 1)).run Tryz.prog w = .ok (.string (bs [dg m])) w := by
 have h := run_convert_bytes_back (P := Tryz.prog) w 22 9 5 ⟨g, 0, none⟩ 1 [dg m] Tryz.underlying22 Tryz.underlying5 Tryz.underlying9 (by
  intro j hj
  match j, hj with
  | 0, _ =>
   show w.cell? (Addr.add ⟨g, 0, none⟩ 0) = some (.int .u8 (((dg m).toNat : Nat) : Int))
   rw [dg_val]
   simp [Addr.add, hc])
 exact h
theorem retSB {a b : ByteArray} (h : a = b) : Ending.returned (.string a) = Ending.returned (.string b) := by rw [h]
set_option maxHeartbeats 1600000 in
set_option maxRecDepth 20000 in
theorem markText_any (k : Nat) (w : World) (hk : k ≤ 1000000000000000) : Calls Tryz.prog 184 #[.int .i64 k] w fun e w' => e = .returned (.string (bs (mt k))) ∧ Below w.heap.size w w' := by
 by_cases h0 : k = 0
 ·subst h0
  go_enter Tryz.func184, Tryz.ntmps184
  go_wp2
  go_ret
  exact ⟨rfl, Below.refl _ _⟩
 ·have hm : mt k = 109 :: mtF k k [] := if_neg h0
  rw [hm]
  have hk0 : (0 : Int) < (k : Int) := by omega
  clear hm h0
  go_enter Tryz.func184, Tryz.ntmps184
  go_wp2
  go_loopw [0, 3] (fun v o wr => ∃ (m : Nat) (out : List UInt8), v = .int .i64 m ∧ o = .string (bs out) ∧ out.length + m ≤ k ∧ mtF m m out = mtF k k [] ∧ Below w.heap.size w wr) (fun v _ _ => (intOf v).toNat)
  case atStart => exact ⟨k, [], rfl, rfl, by simp, rfl, Below.refl _ _⟩
  case round =>
   obtain ⟨m, out, rfl, rfl, hmo, hmt, hB⟩ := hrel
   have HMT : Hid (mtF m m out = mtF k k []) := hmt
   have hB' := hB.alloc hB.size (.cells #[.int .u8 (48 + (m : Int) % 10)] 5)
   clear hmt
   by_cases hm : m = 0
   ·subst hm
    clear hB'
    go_wp2
    go_ret
    refine ⟨?_, hB⟩
    rw [← HMT.out]
    refine retSB ?_
    rw [show (ByteArray.mk #[109]) = bs [109] from rfl, bs_append]
    rfl
   ·have hm0 : (0 : Int) < (m : Int) := by omega
    have HNE : Hid (m ≠ 0) := hm
    clear hm
    have hcv := conv1 (wr.alloc (.cells #[.int .u8 (48 + (m : Int) % 10)] 5)) m wr.heap.size (by simp)
    go_wp2
    go_roundw
    case rel => exact ⟨m / 10, dg m :: out, by go_num, by first | rfl | (rw [bs_append]; rfl), by simp; omega, by rw [← HMT.out, mtF_step m out HNE.out], hB'⟩
    case measure => simp [intOf]; omega
end Go.Proofs.YtcecfmdjicjngaaGreatDoor
namespace Go.Proofs.YtcecfmdjicjngaaGreatDoor
open Go.RowKit
set_option linter.unusedVariables false
attribute [local go_sem] bs_size bs_get bs_extract bs_append bs_eq bs_toList
structure Mk (lo hi : Nat) (w w' : World) : Prop where
 bel : Below lo w w'
 out : ∀ b, hi ≤ b → b < w.heap.size → w'.heap[b]? = w.heap[b]?
 typ : ∀ (b : Nat) (cs : Array Value) (T : TypeId), w.heap[b]? = some (.cells cs T (0, 0)) → ∃ cs' : Array Value, w'.heap[b]? = some (.cells cs' T (0, 0)) ∧ cs'.size = cs.size
theorem Mk.refl (lo hi : Nat) (w : World) : Mk lo hi w w := ⟨Below.refl _ _, fun _ _ _ => rfl, fun b cs T h => ⟨cs, h, rfl⟩⟩
theorem Mk.trans {lo hi : Nat} {a b c : World} (h : Mk lo hi a b) (k : Mk lo hi b c) : Mk lo hi a c :=
 ⟨h.bel.trans k.bel, fun x hx hl => (k.out x hx (Nat.lt_of_lt_of_le hl h.bel.size)).trans (h.out x hx hl), fun x cs T hc => by
  obtain ⟨c1, h1, e1⟩ := h.typ x cs T hc
  obtain ⟨c2, h2, e2⟩ := k.typ x c1 T h1
  exact ⟨c2, h2, e2.trans e1⟩⟩
theorem Mk.of_below {lo hi : Nat} {w w' : World} (h : Below w.heap.size w w') (hl : lo ≤ w.heap.size) : Mk lo hi w w' :=
 ⟨h.mono hl, fun b _ hb => h.block b hb, fun b cs T hc => ⟨cs, blk hc h, rfl⟩⟩
theorem Mk.set {lo hi g : Nat} {w : World} (hl : lo ≤ g) (hh : g < hi) (i : Nat) (u : Value) (hc : ∃ (cs : Array Value) (T : TypeId), w.heap[g]? = some (.cells cs T (0, 0))) : Mk lo hi w (w.setCell ⟨g, i, none⟩ u) := by
 refine ⟨below_set w g i u hl, fun b hb _ => Below.heap_setCell _ _ _ _ (by simp; omega), fun b cs T h => ?_⟩
 by_cases e : b = g
 ·subst e
  exact ⟨_, heap_setCell_same w b i _ _ u h, by simp⟩
 ·exact ⟨cs, (Below.heap_setCell _ _ _ _ (by simpa using e)).trans h, rfl⟩
def SameT (T : TypeId) (w w' : World) : Prop := ∀ (b : Nat) (cs : Array Value), w.heap[b]? = some (.cells cs T (0, 0)) → w'.heap[b]? = some (.cells cs T (0, 0))
theorem SameT.refl (T : TypeId) (w : World) : SameT T w w := fun _ _ h => h
theorem SameT.trans {T : TypeId} {a b c : World} (h : SameT T a b) (k : SameT T b c) : SameT T a c := fun x cs hc => k x cs (h x cs hc)
theorem SameT.of_below {T : TypeId} {w w' : World} (h : Below w.heap.size w w') : SameT T w w' := fun b cs hc => blk hc h
theorem SameT.set {T U : TypeId} {g : Nat} {w : World} {cs : Array Value} (hc : w.heap[g]? = some (.cells cs U (0, 0))) (hne : U ≠ T) (i : Nat) (u : Value) : SameT T w (w.setCell ⟨g, i, none⟩ u) := fun b ds hb => by
 have e : b ≠ g := fun e => by subst e; rw [hc] at hb; simp at hb; exact hne hb.2
 exact (Below.heap_setCell _ _ _ _ (by simpa using e)).trans hb
def RoomI (lo hi : Nat) (w : World) (v : Value) (n : Nat) : Prop :=
 ∃ a c, v = .slice a n c ∧ (n ≠ 0 → ∃ b o, a = some ⟨b, o, none⟩ ∧ lo ≤ b ∧ b < hi ∧ ∃ cs, w.heap[b]? = some (.cells cs 2 (0, 0)) ∧ o + n ≤ cs.size)
theorem RoomI.keep {lo hi n : Nat} {w w' : World} {v : Value} (h : RoomI lo hi w v n) (hm : Mk lo hi w w') : RoomI lo hi w' v n := by
 obtain ⟨a, c, e, h3⟩ := h
 refine ⟨a, c, e, fun hn => ?_⟩
 obtain ⟨b, o, e, h1, h2, cs, h4, h5⟩ := h3 hn
 obtain ⟨cs', h6, h7⟩ := hm.typ b cs _ h4
 exact ⟨b, o, e, h1, h2, cs', h6, by omega⟩
theorem RoomI.of_ints {lo hi : Nat} {w : World} {v : Value} {xs : List Int} (h : IntsF lo w v xs) (hh : w.heap.size ≤ hi) : RoomI lo hi w v xs.length := by
 obtain ⟨a, c, e, _, h3⟩ := h
 refine ⟨a, c, e, fun hn => ?_⟩
 obtain ⟨b, o, e, h1, ⟨cs, h4, h5⟩, _⟩ := h3 (by intro e; rw [e] at hn; exact hn rfl)
 exact ⟨b, o, e, h1, Nat.lt_of_lt_of_le (blk_lt h4) hh, cs, h4, h5⟩
theorem room_cell {w : World} {b i : Nat} {cs : Array Value} {T : TypeId} (h : w.heap[b]? = some (.cells cs T (0, 0))) (hi : i < cs.size) : (∃ y, w.cell? ⟨b, i, none⟩ = some y) ∧ w.frozen? ⟨b, i, none⟩ = false := by
 refine ⟨⟨cs[i], ?_⟩, frozen_of_row _ _ _ _ _ h⟩
 rw [cell_of_row _ _ _ _ _ _ h]
 exact Array.getElem?_eq_getElem hi
set_option maxHeartbeats 3200000 in
set_option maxRecDepth 100000 in
theorem markInts_room (lo hi n : Nat) (v : Value) (k : Nat) (w : World) (h : RoomI lo hi w v n) (hn : n ≤ 1048576) (hk : k ≤ 100000000000000) :
  Calls Tryz.prog 65 #[v, .int .i64 k] w fun e w' => e = .returned (.int .i64 ((k + n : Nat) : Int)) ∧ Mk lo hi w w' ∧ SameT 40 w w' ∧ SameT 45 w w' ∧ w'.heap.size = w.heap.size := by
 obtain ⟨a, c, rfl, hh⟩ := h
 have HH : Hid (n ≠ 0 → ∃ b o, a = some ⟨b, o, none⟩ ∧ lo ≤ b ∧ b < hi ∧ ∃ cs, w.heap[b]? = some (.cells cs 2 (0, 0)) ∧ o + n ≤ cs.size) := hh
 clear hh
 go_enter Tryz.func65, Tryz.ntmps65
 go_wp2
 go_loopw [1, 5] (fun x i wr => ∃ j : Nat, j ≤ n ∧ i = .int .i64 j ∧ x = .int .i64 ((k + j : Nat) : Int) ∧ Mk lo hi w wr ∧ SameT 40 w wr ∧ SameT 45 w wr ∧ wr.heap.size = w.heap.size) (fun _ i _ => n - (intOf i).toNat)
 case atStart => exact ⟨0, Nat.zero_le _, rfl, rfl, Mk.refl _ _ _, SameT.refl _ _, SameT.refl _ _, rfl⟩
 case round =>
  obtain ⟨j, hj, rfl, rfl, hm, hs1, hs2, hz⟩ := hrel
  have HM : Hid (Mk lo hi w wr ∧ SameT 40 w wr ∧ SameT 45 w wr ∧ wr.heap.size = w.heap.size) := ⟨hm, hs1, hs2, hz⟩
  by_cases hlt : j < n
  ·obtain ⟨b, o, rfl, hb1, hb2, cs, hc, hsz⟩ := HH.out (by omega)
   obtain ⟨cs', hc', hsz'⟩ := hm.typ b cs _ hc
   obtain ⟨⟨y, hy⟩, hf⟩ := room_cell (i := o + j) hc' (by omega)
   have hbl := blk_lt hc'
   have HS : Hid (Mk lo hi w (wr.setCell ⟨b, o + j, none⟩ (.int .i64 ((k + j : Nat) : Int))) ∧ SameT 40 w (wr.setCell ⟨b, o + j, none⟩ (.int .i64 ((k + j : Nat) : Int))) ∧ SameT 45 w (wr.setCell ⟨b, o + j, none⟩ (.int .i64 ((k + j : Nat) : Int))) ∧ (wr.setCell ⟨b, o + j, none⟩ (.int .i64 ((k + j : Nat) : Int))).heap.size = w.heap.size) :=
    ⟨hm.trans (Mk.set hb1 hb2 _ _ ⟨_, _, hc'⟩), hs1.trans (SameT.set hc' (by decide) _ _), hs2.trans (SameT.set hc' (by decide) _ _), by rw [World.size_setCell]; exact hz⟩
   have hj0 : (0 : Int) ≤ (j : Int) := by omega
   have hj1 : (j : Int) < (n : Int) := by omega
   clear hm hs1 hs2 hz hc hc' hsz hsz'
   go_wp2
   go_roundw
   case rel => exact ⟨j + 1, by omega, by go_num, by go_num, HS.out⟩
   case measure => simp [intOf]; omega
  ·have hj2 : j = n := by omega
   subst hj2
   clear hm hs1 hs2 hz
   go_wp2
   go_ret
   exact ⟨rfl, HM.out⟩
end Go.Proofs.YtcecfmdjicjngaaGreatDoor
namespace Go.Proofs.YtcecfmdjicjngaaGreatDoor
open Go.RowKit
set_option linter.unusedVariables false
attribute [local go_sem] bs_size bs_get bs_extract bs_append bs_eq bs_toList
def RoomV (lo hi : Nat) (w : World) (v : Value) (n : Nat) : Prop :=
 ∃ a c, v = .slice a n c ∧ (n ≠ 0 → ∃ b o, a = some ⟨b, o, none⟩ ∧ lo ≤ b ∧ b < hi ∧ ∃ cs, w.heap[b]? = some (.cells cs 45 (0, 0)) ∧ o + n * 4 ≤ cs.size)
theorem RoomV.keep {lo hi n : Nat} {w w' : World} {v : Value} (h : RoomV lo hi w v n) (hm : Mk lo hi w w') : RoomV lo hi w' v n := by
 obtain ⟨a, c, e, h3⟩ := h
 refine ⟨a, c, e, fun hn => ?_⟩
 obtain ⟨b, o, e, h1, h2, cs, h4, h5⟩ := h3 hn
 obtain ⟨cs', h6, h7⟩ := hm.typ b cs _ h4
 exact ⟨b, o, e, h1, h2, cs', h6, by omega⟩
theorem RoomV.of_vars {lo hi : Nat} {w : World} {v : Value} {xs : List LVar} (h : VarsF lo w v xs) (hh : w.heap.size ≤ hi) : RoomV lo hi w v xs.length := by
 obtain ⟨a, c, e, _, h3⟩ := h
 refine ⟨a, c, e, fun hn => ?_⟩
 obtain ⟨b, o, e, h1, ⟨cs, h4, h5⟩, _⟩ := h3 (by intro e; rw [e] at hn; exact hn rfl)
 exact ⟨b, o, e, h1, Nat.lt_of_lt_of_le (blk_lt h4) hh, cs, h4, h5⟩
theorem set4_mk {lo hi b : Nat} {w w1 : World} {cs : Array Value} {U : TypeId} (hm : Mk lo hi w w1) (hs : SameT 40 w w1) (hz : w.heap.size ≤ w1.heap.size) (hc : w1.heap[b]? = some (.cells cs U (0, 0))) (hU : U ≠ 40) (h1 : lo ≤ b) (h2 : b < hi) (i0 i1 i2 i3 : Nat) (u0 u1 u2 u3 : Value) :
  Mk lo hi w ((((w1.setCell ⟨b, i0, none⟩ u0).setCell ⟨b, i1, none⟩ u1).setCell ⟨b, i2, none⟩ u2).setCell ⟨b, i3, none⟩ u3) ∧ SameT 40 w ((((w1.setCell ⟨b, i0, none⟩ u0).setCell ⟨b, i1, none⟩ u1).setCell ⟨b, i2, none⟩ u2).setCell ⟨b, i3, none⟩ u3) ∧ w.heap.size ≤ ((((w1.setCell ⟨b, i0, none⟩ u0).setCell ⟨b, i1, none⟩ u1).setCell ⟨b, i2, none⟩ u2).setCell ⟨b, i3, none⟩ u3).heap.size := by
 have c0 := heap_setCell_same w1 b i0 _ _ u0 hc
 have c1 := heap_setCell_same _ b i1 _ _ u1 c0
 have c2 := heap_setCell_same _ b i2 _ _ u2 c1
 exact ⟨(((hm.trans (Mk.set h1 h2 _ _ ⟨_, _, hc⟩)).trans (Mk.set h1 h2 _ _ ⟨_, _, c0⟩)).trans (Mk.set h1 h2 _ _ ⟨_, _, c1⟩)).trans (Mk.set h1 h2 _ _ ⟨_, _, c2⟩),
  (((hs.trans (SameT.set hc hU _ _)).trans (SameT.set c0 hU _ _)).trans (SameT.set c1 hU _ _)).trans (SameT.set c2 hU _ _), by simpa using hz⟩
set_option maxHeartbeats 3200000 in
set_option maxRecDepth 100000 in
theorem markVars_room (lo hi n : Nat) (v : Value) (k : Nat) (w : World) (h : RoomV lo hi w v n) (hn : n ≤ 1048576) (hk : k ≤ 100000000) (hhi : hi ≤ w.heap.size) (hlo : lo ≤ hi) :
  Calls Tryz.prog 109 #[v, .int .i64 k] w fun e w' => e = .returned (.int .i64 ((k + n * 4 : Nat) : Int)) ∧ Mk lo hi w w' ∧ SameT 40 w w' ∧ w.heap.size ≤ w'.heap.size := by
 obtain ⟨a, c, rfl, hh⟩ := h
 have HH : Hid (n ≠ 0 → ∃ b o, a = some ⟨b, o, none⟩ ∧ lo ≤ b ∧ b < hi ∧ ∃ cs, w.heap[b]? = some (.cells cs 45 (0, 0)) ∧ o + n * 4 ≤ cs.size) := hh
 have HMT : Hid (∀ (k : Nat) (w : World), k ≤ 1000000000000000 → Calls Tryz.prog 184 #[.int .i64 k] w fun e w' => e = .returned (.string (bs (mt k))) ∧ Below w.heap.size w w') := fun k w h => markText_any k w h
 have HHI : Hid (hi ≤ w.heap.size ∧ lo ≤ hi) := ⟨hhi, hlo⟩
 clear hh hhi hlo
 go_enter Tryz.func109, Tryz.ntmps109
 go_wp2
 go_loopw [1, 5] (fun x i wr => ∃ j : Nat, j ≤ n ∧ i = .int .i64 j ∧ x = .int .i64 ((k + j * 4 : Nat) : Int) ∧ Mk lo hi w wr ∧ SameT 40 w wr ∧ w.heap.size ≤ wr.heap.size) (fun _ i _ => n - (intOf i).toNat)
 case atStart => exact ⟨0, Nat.zero_le _, rfl, by simp, Mk.refl _ _ _, SameT.refl _ _, Nat.le_refl _⟩
 case round =>
  obtain ⟨j, hj, rfl, rfl, hm, hs1, hz⟩ := hrel
  have HM : Hid (Mk lo hi w wr ∧ SameT 40 w wr ∧ w.heap.size ≤ wr.heap.size) := ⟨hm, hs1, hz⟩
  obtain ⟨m, hme⟩ : ∃ m, m = k + j * 4 := ⟨_, rfl⟩
  have HME : Hid (m = k + j * 4) := hme
  have hmle : m ≤ 110000000 := by omega
  rw [← hme]
  clear hme
  by_cases hlt : j < n
  ·obtain ⟨b, o, rfl, hb1, hb2, cs, hc, hsz⟩ := HH.out (by omega)
   have HC : Hid (∃ cs' : Array Value, wr.heap[b]? = some (.cells cs' 45 (0, 0)) ∧ cs'.size = cs.size) := hm.typ b cs _ hc
   have hj0 : (0 : Int) ≤ (j : Int) := by omega
   have hj1 : (j : Int) < (n : Int) := by omega
   clear hm hs1 hc
   go_wp2_with fail
   refine (HMT.out m _ (by omega)).mono ?_
   rintro e w1 ⟨rfl, hb⟩
   obtain ⟨cs', hc', hsz'⟩ := HC.out
   have hc1 := blk hc' hb
   obtain ⟨⟨y0, d0⟩, f0⟩ := room_cell (i := o + j * 4) hc1 (by omega)
   obtain ⟨⟨y1, d1⟩, f1⟩ := room_cell (i := o + j * 4 + 1) hc1 (by omega)
   obtain ⟨⟨y2, d2⟩, f2⟩ := room_cell (i := o + j * 4 + 2) hc1 (by omega)
   obtain ⟨⟨y3, d3⟩, f3⟩ := room_cell (i := o + j * 4 + 3) hc1 (by omega)
   have hbl := blk_lt hc1
   have HS := set4_mk (hm := HM.out.1.trans (Mk.of_below hb (by have := HM.out.2.2; have := HHI.out; omega))) (hs := HM.out.2.1.trans (SameT.of_below hb)) (hz := Nat.le_trans HM.out.2.2 hb.size) hc1 (by decide) hb1 hb2
   have HS2 : Hid (∀ (i0 i1 i2 i3 : Nat) (u0 u1 u2 u3 : Value), Mk lo hi w ((((w1.setCell ⟨b, i0, none⟩ u0).setCell ⟨b, i1, none⟩ u1).setCell ⟨b, i2, none⟩ u2).setCell ⟨b, i3, none⟩ u3) ∧ SameT 40 w ((((w1.setCell ⟨b, i0, none⟩ u0).setCell ⟨b, i1, none⟩ u1).setCell ⟨b, i2, none⟩ u2).setCell ⟨b, i3, none⟩ u3) ∧ w.heap.size ≤ ((((w1.setCell ⟨b, i0, none⟩ u0).setCell ⟨b, i1, none⟩ u1).setCell ⟨b, i2, none⟩ u2).setCell ⟨b, i3, none⟩ u3).heap.size) := HS
   clear HS hb hc' hc1 hsz' HC hz hsz
   go_wp2_with fail
   go_roundw
   case rel => exact ⟨j + 1, by omega, by go_num, by rw [show k + (j + 1) * 4 = m + 4 from by have := HME.out; omega]; go_num, HS2.out _ _ _ _ _ _ _ _⟩
   case measure => simp [intOf]; omega
  ·have hj2 : j = n := by omega
   subst hj2
   clear hm hs1 hz
   go_wp2
   go_ret
   exact ⟨by rw [HME.out]; rfl, HM.out⟩
end Go.Proofs.YtcecfmdjicjngaaGreatDoor
namespace Go.Proofs.YtcecfmdjicjngaaGreatDoor
open Go.RowKit
set_option linter.unusedVariables false
attribute [local go_sem] bs_size bs_get bs_extract bs_append bs_eq bs_toList
def NodesIn (lo hi : Nat) (w : World) (b o n : Nat) : Prop := lo ≤ b ∧ b < hi ∧ ∃ cs, w.heap[b]? = some (.cells cs 40 (0, 0)) ∧ o + n * 8 ≤ cs.size ∧
 ∀ i, i < n → ∃ v5 v6 v7 l5 l6 l7, cs[o + i * 8 + 5]? = some v5 ∧ cs[o + i * 8 + 6]? = some v6 ∧ cs[o + i * 8 + 7]? = some v7 ∧ (RoomI lo hi w v5 l5 ∧ l5 ≤ 1048576) ∧ (RoomI lo hi w v6 l6 ∧ l6 ≤ 1048576) ∧ (RoomI lo hi w v7 l7 ∧ l7 ≤ 1048576)
theorem NodesIn.keep {lo hi b o n : Nat} {w w' : World} (h : NodesIn lo hi w b o n) (hm : Mk lo hi w w') (hs : SameT 40 w w') : NodesIn lo hi w' b o n := by
 obtain ⟨h1, h2, cs, h3, h4, h5⟩ := h
 refine ⟨h1, h2, cs, hs b cs h3, h4, fun i hi => ?_⟩
 obtain ⟨v5, v6, v7, l5, l6, l7, c5, c6, c7, r5, r6, r7⟩ := h5 i hi
 exact ⟨v5, v6, v7, l5, l6, l7, c5, c6, c7, ⟨r5.1.keep hm, r5.2⟩, ⟨r6.1.keep hm, r6.2⟩, ⟨r7.1.keep hm, r7.2⟩⟩
theorem NodesIn.set {lo hi b o n j t : Nat} {w : World} (h : NodesIn lo hi w b o n) (ht : t < 5) (u : Value) : NodesIn lo hi (w.setCell ⟨b, o + j * 8 + t, none⟩ u) b o n := by
 obtain ⟨h1, h2, cs, h3, h4, h5⟩ := h
 have hm : Mk lo hi w (w.setCell ⟨b, o + j * 8 + t, none⟩ u) := Mk.set h1 h2 _ _ ⟨_, _, h3⟩
 refine ⟨h1, h2, _, heap_setCell_same w b (o + j * 8 + t) _ _ u h3, by simpa using h4, fun i hi => ?_⟩
 obtain ⟨v5, v6, v7, l5, l6, l7, c5, c6, c7, r5, r6, r7⟩ := h5 i hi
 refine ⟨v5, v6, v7, l5, l6, l7, ?_, ?_, ?_, ⟨r5.1.keep hm, r5.2⟩, ⟨r6.1.keep hm, r6.2⟩, ⟨r7.1.keep hm, r7.2⟩⟩
 ·rw [Array.getElem?_setIfInBounds_ne (by omega)]; exact c5
 ·rw [Array.getElem?_setIfInBounds_ne (by omega)]; exact c6
 ·rw [Array.getElem?_setIfInBounds_ne (by omega)]; exact c7
theorem NodesIn.mk {lo hi b o n i : Nat} {w : World} (h : NodesIn lo hi w b o n) (u : Value) : Mk lo hi w (w.setCell ⟨b, i, none⟩ u) := by
 obtain ⟨h1, h2, cs, h3, _⟩ := h
 exact Mk.set h1 h2 _ _ ⟨_, _, h3⟩
theorem NodesIn.cell {lo hi b o n j t : Nat} {w : World} (h : NodesIn lo hi w b o n) (hj : j < n) (ht : t < 8) : (∃ y, w.cell? ⟨b, o + j * 8 + t, none⟩ = some y) ∧ w.frozen? ⟨b, o + j * 8 + t, none⟩ = false := by
 obtain ⟨_, _, cs, h3, h4, _⟩ := h
 exact room_cell h3 (by omega)
theorem NodesIn.lists {lo hi b o n j : Nat} {w : World} (h : NodesIn lo hi w b o n) (hj : j < n) : ∃ v5 v6 v7 l5 l6 l7, w.cell? ⟨b, o + j * 8 + 5, none⟩ = some v5 ∧ w.cell? ⟨b, o + j * 8 + 6, none⟩ = some v6 ∧ w.cell? ⟨b, o + j * 8 + 7, none⟩ = some v7 ∧ (RoomI lo hi w v5 l5 ∧ l5 ≤ 1048576) ∧ (RoomI lo hi w v6 l6 ∧ l6 ≤ 1048576) ∧ (RoomI lo hi w v7 l7 ∧ l7 ≤ 1048576) := by
 obtain ⟨_, _, cs, h3, h4, h5⟩ := h
 obtain ⟨v5, v6, v7, l5, l6, l7, c5, c6, c7, r5, r6, r7⟩ := h5 j hj
 exact ⟨v5, v6, v7, l5, l6, l7, (cell_of_row _ _ _ _ _ _ h3).trans c5, (cell_of_row _ _ _ _ _ _ h3).trans c6, (cell_of_row _ _ _ _ _ _ h3).trans c7, r5, r6, r7⟩
def RoomN (lo hi : Nat) (w : World) (v : Value) (n : Nat) : Prop := ∃ a c, v = .slice a n c ∧ (n ≠ 0 → ∃ b o, a = some ⟨b, o, none⟩ ∧ NodesIn lo hi w b o n)
theorem RoomN.keep {lo hi n : Nat} {w w' : World} {v : Value} (h : RoomN lo hi w v n) (hm : Mk lo hi w w') (hs : SameT 40 w w') : RoomN lo hi w' v n := by
 obtain ⟨a, c, e, h3⟩ := h
 refine ⟨a, c, e, fun hn => ?_⟩
 obtain ⟨b, o, e, h⟩ := h3 hn
 exact ⟨b, o, e, h.keep hm hs⟩
theorem RoomN.of_nodes {lo hi : Nat} {w : World} {v : Value} {xs : List LNode} (h : NodesF lo w v xs) (hh : w.heap.size ≤ hi) (hz : ∀ n ∈ xs, n.kids.length ≤ 1048576 ∧ n.thn.length ≤ 1048576 ∧ n.els.length ≤ 1048576) : RoomN lo hi w v xs.length := by
 obtain ⟨a, c, e, _, h3⟩ := h
 refine ⟨a, c, e, fun hn => ?_⟩
 obtain ⟨b, o, e, h1, ⟨cs, h4, h5⟩, h6⟩ := h3 (by intro e; rw [e] at hn; exact hn rfl)
 refine ⟨b, o, e, h1, Nat.lt_of_lt_of_le (blk_lt h4) hh, cs, h4, h5, fun i hi => ?_⟩
 obtain ⟨x, hx⟩ : ∃ x, xs[i]? = some x := ⟨xs[i], List.getElem?_eq_getElem hi⟩
 obtain ⟨vk, vt, ve, hc, hv⟩ := h6 i x hx
 have hz' := hz x (List.mem_of_getElem? hx)
 exact ⟨vk, vt, ve, _, _, _, (cell_of_row _ _ _ _ _ _ h4).symm.trans hc.c5, (cell_of_row _ _ _ _ _ _ h4).symm.trans hc.c6, (cell_of_row _ _ _ _ _ _ h4).symm.trans hc.c7, ⟨.of_ints hv.kids hh, hz'.1⟩, ⟨.of_ints hv.thn hh, hz'.2.1⟩, ⟨.of_ints hv.els hh, hz'.2.2⟩⟩
set_option maxHeartbeats 6400000 in
set_option maxRecDepth 100000 in
theorem markNodes_room (lo hi n : Nat) (v : Value) (k : Nat) (w : World) (h : RoomN lo hi w v n) (hn : n ≤ 1048576) (hk : k ≤ 100000000) (hhi : hi ≤ w.heap.size) (hlo : lo ≤ hi) :
  Calls Tryz.prog 110 #[v, .int .i64 k] w fun e w' => ∃ m : Nat, e = .returned (.int .i64 (m : Int)) ∧ m ≤ 10000000000000 ∧ Mk lo hi w w' ∧ w.heap.size ≤ w'.heap.size := by
 obtain ⟨a, c, rfl, hh⟩ := h
 have HH : Hid (n ≠ 0 → ∃ b o, a = some ⟨b, o, none⟩ ∧ NodesIn lo hi w b o n) := hh
 have HMT : Hid (∀ (k : Nat) (w : World), k ≤ 1000000000000000 → Calls Tryz.prog 184 #[.int .i64 k] w fun e w' => e = .returned (.string (bs (mt k))) ∧ Below w.heap.size w w') := fun k w h => markText_any k w h
 have HMI : Hid (∀ (l : Nat) (v : Value) (k : Nat) (w : World), RoomI lo hi w v l → l ≤ 1048576 → k ≤ 100000000000000 → Calls Tryz.prog 65 #[v, .int .i64 k] w fun e w' => e = .returned (.int .i64 ((k + l : Nat) : Int)) ∧ Mk lo hi w w' ∧ SameT 40 w w' ∧ SameT 45 w w' ∧ w'.heap.size = w.heap.size) := fun l v k w h1 h2 h3 => markInts_room lo hi l v k w h1 h2 h3
 have HHI : Hid (hi ≤ w.heap.size ∧ lo ≤ hi) := ⟨hhi, hlo⟩
 clear hh hhi hlo
 go_enter Tryz.func110, Tryz.ntmps110
 go_wp2
 go_loopw [1, 5] (fun x i wr => ∃ j m : Nat, j ≤ n ∧ i = .int .i64 j ∧ x = .int .i64 (m : Int) ∧ m ≤ 100000000 + j * 3145733 ∧ Mk lo hi w wr ∧ (∀ b o, a = some ⟨b, o, none⟩ → n ≠ 0 → NodesIn lo hi wr b o n) ∧ w.heap.size ≤ wr.heap.size) (fun _ i _ => n - (intOf i).toNat)
 case atStart => exact ⟨0, k, Nat.zero_le _, rfl, rfl, by omega, Mk.refl _ _ _, fun b o e hne => by
  obtain ⟨b', o', e', h⟩ := HH.out hne
  rw [e] at e'; simp at e'; obtain ⟨rfl, rfl⟩ := e'; exact h, Nat.le_refl _⟩
 case round =>
  obtain ⟨j, m, hj, rfl, rfl, hm, hmk, hni, hz⟩ := hrel
  have HM : Hid (Mk lo hi w wr ∧ w.heap.size ≤ wr.heap.size) := ⟨hmk, hz⟩
  by_cases hlt : j < n
  ·obtain ⟨b, o, rfl, _⟩ := HH.out (by omega)
   have hin := hni b o rfl (by omega)
   have HIN : Hid (NodesIn lo hi wr b o n) := hin
   have hbl : b < wr.heap.size := by obtain ⟨_, _, cs, h3, _⟩ := hin; exact blk_lt h3
   obtain ⟨⟨y0, d0⟩, f0⟩ := hin.cell (t := 0) hlt (by omega)
   obtain ⟨⟨y1, d1⟩, f1⟩ := hin.cell (t := 1) hlt (by omega)
   rw [Nat.add_zero] at d0 f0
   have hj0 : (0 : Int) ≤ (j : Int) := by omega
   have hj1 : (j : Int) < (n : Int) := by omega
   have hmb : m ≤ 4000000000000 := by omega
   clear hni hmk hin hz
   have HT2 : Hid (∀ w, Calls Tryz.prog 184 #[.int .i64 ((m : Int) + 1 + 1)] w fun e w' => e = .returned (.string (bs (mt (m + 2)))) ∧ Below w.heap.size w w') := fun w => by
    have := HMT.out (m + 2) w (by omega)
    rwa [show ((m + 2 : Nat) : Int) = (m : Int) + 1 + 1 from by omega] at this
   have HI5 : Hid (∀ (l : Nat) (v : Value) (w : World), RoomI lo hi w v l → l ≤ 1048576 → Calls Tryz.prog 65 #[v, .int .i64 ((m : Int) + 1 + 1 + 1 + 1 + 1)] w fun e w' => e = .returned (.int .i64 ((m + 5 + l : Nat) : Int)) ∧ Mk lo hi w w' ∧ SameT 40 w w' ∧ SameT 45 w w' ∧ w'.heap.size = w.heap.size) := fun l v w h1 h2 => by
    have := HMI.out l v (m + 5) w h1 h2 (by omega)
    rwa [show ((m + 5 : Nat) : Int) = (m : Int) + 1 + 1 + 1 + 1 + 1 from by omega] at this
   have HIN0 : Hid (∀ u0 u1, NodesIn lo hi ((wr.setCell ⟨b, o + j * 8, none⟩ u0).setCell ⟨b, o + j * 8 + 1, none⟩ u1) b o n ∧ Mk lo hi wr ((wr.setCell ⟨b, o + j * 8, none⟩ u0).setCell ⟨b, o + j * 8 + 1, none⟩ u1) ∧ ((wr.setCell ⟨b, o + j * 8, none⟩ u0).setCell ⟨b, o + j * 8 + 1, none⟩ u1).heap.size = wr.heap.size) := fun u0 u1 =>
    ⟨(HIN.out.set (j := j) (t := 0) (by omega) u0).set (j := j) (t := 1) (by omega) u1, (HIN.out.mk (i := o + j * 8) u0).trans ((HIN.out.set (j := j) (t := 0) (by omega) u0).mk u1), by simp⟩
   go_wp2_with fail
   refine (HT2.out _).mono ?_
   rintro e w1 ⟨rfl, hb⟩
   have hwz := (HIN0.out (.int .i64 (m : Int)) (.int .i64 ((m : Int) + 1))).2.2
   have hm0 := (HIN0.out (.int .i64 (m : Int)) (.int .i64 ((m : Int) + 1))).2.1
   have hi0 := (HIN0.out (.int .i64 (m : Int)) (.int .i64 ((m : Int) + 1))).1
   have hlz := HHI.out
   have hwz2 := HM.out.2
   have hmb1 := Mk.of_below (lo := lo) (hi := hi) hb (by omega)
   have hin1 := hi0.keep hmb1 (SameT.of_below hb)
   have HM1 : Hid (Mk lo hi w w1 ∧ w.heap.size ≤ w1.heap.size) := ⟨(HM.out.1.trans hm0).trans hmb1, by have := hb.size; omega⟩
   have HIN1 : Hid (NodesIn lo hi w1 b o n) := hin1
   have hbl1 : b < w1.heap.size := by obtain ⟨_, _, cs, h3, _⟩ := hin1; exact blk_lt h3
   obtain ⟨⟨y2, d2⟩, f2⟩ := hin1.cell (t := 2) hlt (by omega)
   obtain ⟨⟨y3, d3⟩, f3⟩ := hin1.cell (t := 3) hlt (by omega)
   obtain ⟨⟨y4, d4⟩, f4⟩ := hin1.cell (t := 4) hlt (by omega)
   obtain ⟨v5, _, _, l5, _, _, d5, _, _, hr5, _, _⟩ := hin1.lists hlt
   have HR5 : Hid (RoomI lo hi w1 v5 l5 ∧ l5 ≤ 1048576) := hr5
   have HIN2 : Hid (∀ u2 u3 u4, NodesIn lo hi (((w1.setCell ⟨b, o + j * 8 + 2, none⟩ u2).setCell ⟨b, o + j * 8 + 3, none⟩ u3).setCell ⟨b, o + j * 8 + 4, none⟩ u4) b o n ∧ Mk lo hi w1 (((w1.setCell ⟨b, o + j * 8 + 2, none⟩ u2).setCell ⟨b, o + j * 8 + 3, none⟩ u3).setCell ⟨b, o + j * 8 + 4, none⟩ u4) ∧ (((w1.setCell ⟨b, o + j * 8 + 2, none⟩ u2).setCell ⟨b, o + j * 8 + 3, none⟩ u3).setCell ⟨b, o + j * 8 + 4, none⟩ u4).heap.size = w1.heap.size) := fun u2 u3 u4 =>
    ⟨((HIN1.out.set (j := j) (t := 2) (by omega) u2).set (j := j) (t := 3) (by omega) u3).set (j := j) (t := 4) (by omega) u4, ((HIN1.out.mk (i := o + j * 8 + 2) u2).trans ((HIN1.out.set (j := j) (t := 2) (by omega) u2).mk (i := o + j * 8 + 3) u3)).trans (((HIN1.out.set (j := j) (t := 2) (by omega) u2).set (j := j) (t := 3) (by omega) u3).mk (i := o + j * 8 + 4) u4), by simp⟩
   clear hb hm0 hi0 hmb1 hin1 hr5 hwz hwz2 hlz d0 d1 f0 f1 HIN0 HT2 HIN
   go_wp2_with fail
   refine (HI5.out l5 v5 _ (HR5.out.1.keep (HIN2.out _ _ _).2.1) HR5.out.2).mono ?_
   rintro e w3 ⟨rfl, hmk3, hs3, _, hz3⟩
   have hin3 := (HIN2.out _ _ _).1.keep hmk3 hs3
   have HM3 : Hid (Mk lo hi w w3 ∧ w.heap.size ≤ w3.heap.size) := ⟨(HM1.out.1.trans (HIN2.out _ _ _).2.1).trans hmk3, by have := HM1.out.2; have := (HIN2.out (.string (bs (mt (m + 2)))) (.int .i64 ((m : Int) + 1 + 1 + 1)) (.int .i64 ((m : Int) + 1 + 1 + 1 + 1))).2.2; omega⟩
   have HIN3 : Hid (NodesIn lo hi w3 b o n) := hin3
   obtain ⟨_, v6, _, _, l6, _, _, d6, _, _, hr6, _⟩ := hin3.lists hlt
   have HR6 : Hid (RoomI lo hi w3 v6 l6 ∧ l6 ≤ 1048576) := hr6
   have hl5 := HR5.out.2
   obtain ⟨m3, hm3⟩ : ∃ m3, m3 = m + 5 + l5 := ⟨_, rfl⟩
   have hm3b : m3 ≤ m + 5 + 1048576 := by omega
   rw [← hm3]
   clear hmk3 hs3 hz3 hin3 hr6 hm3 d2 d3 d4 d5 f2 f3 f4 HIN2 HR5 HI5 HM1 HIN1
   go_wp2_with fail
   refine (HMI.out l6 v6 m3 _ HR6.out.1 HR6.out.2 (by omega)).mono ?_
   rintro e w4 ⟨rfl, hmk4, hs4, _, hz4⟩
   have hin4 := HIN3.out.keep hmk4 hs4
   have HM4 : Hid (Mk lo hi w w4 ∧ w.heap.size ≤ w4.heap.size) := ⟨HM3.out.1.trans hmk4, by have := HM3.out.2; omega⟩
   have HIN4 : Hid (NodesIn lo hi w4 b o n) := hin4
   obtain ⟨_, _, v7, _, _, l7, _, _, d7, _, _, hr7⟩ := hin4.lists hlt
   have HR7 : Hid (RoomI lo hi w4 v7 l7 ∧ l7 ≤ 1048576) := hr7
   have hl6 := HR6.out.2
   obtain ⟨m4, hm4⟩ : ∃ m4, m4 = m3 + l6 := ⟨_, rfl⟩
   have hm4b : m4 ≤ m3 + 1048576 := by omega
   rw [← hm4]
   clear hmk4 hs4 hz4 hin4 hr7 hm4 d6 HIN3 HR6 HM3
   go_wp2_with fail
   refine (HMI.out l7 v7 m4 _ HR7.out.1 HR7.out.2 (by omega)).mono ?_
   rintro e w5 ⟨rfl, hmk5, hs5, _, hz5⟩
   have HM5 : Hid (Mk lo hi w w5 ∧ w.heap.size ≤ w5.heap.size) := ⟨HM4.out.1.trans hmk5, by have := HM4.out.2; omega⟩
   have HIN5 : Hid (NodesIn lo hi w5 b o n) := HIN4.out.keep hmk5 hs5
   have hl7 := HR7.out.2
   obtain ⟨m5, hm5⟩ : ∃ m5, m5 = m4 + l7 := ⟨_, rfl⟩
   have hm5b : m5 ≤ m4 + 1048576 := by omega
   rw [← hm5]
   clear hmk5 hs5 hz5 hm5 d7 HIN4 HR7 HM4
   go_wp2_with fail
   go_roundw
   case rel => exact ⟨j + 1, m5, by omega, by go_num, rfl, by omega, HM5.out.1, fun b' o' e _ => by simp at e; obtain ⟨rfl, rfl⟩ := e; exact HIN5.out, HM5.out.2⟩
   case measure => simp [intOf]; omega
  ·have hj2 : j = n := by omega
   subst hj2
   clear hni hmk hz
   go_wp2
   go_ret
   exact ⟨m, rfl, by omega, HM.out⟩
set_option maxHeartbeats 3200000 in
set_option maxRecDepth 100000 in
theorem markTree_room (lo hi : Nat) (vv vn vb : Value) (T : LTree) (w W : World) (h : TreeF lo W vv vn vb T) (hS : Sized 1048576 T) (hW : W.heap.size = hi) (hb : Below W.heap.size W w) (hlo : lo ≤ hi) :
  Calls Tryz.prog 37 #[treeV vv vn vb, .int .i64 1] w fun e w' => ∃ m : Nat, e = .returned (.int .i64 (m : Int)) ∧ m ≤ 100000000000000 ∧ Mk lo hi w w' := by
 have hwz : hi ≤ w.heap.size := by have := hb.size; omega
 have hV : RoomV lo hi w vv T.vars.length := (RoomV.of_vars h.vars (by omega)).keep (Mk.of_below hb (by omega))
 have hN : RoomN lo hi w vn T.nodes.length := (RoomN.of_nodes h.nodes (by omega) (fun n hn => (hS.node n hn).2)).keep (Mk.of_below hb (by omega)) (SameT.of_below hb)
 have hI : RoomI lo hi w vb T.body.length := (RoomI.of_ints h.body (by omega)).keep (Mk.of_below hb (by omega))
 obtain ⟨av, cv, rfl, _⟩ := id h.vars
 obtain ⟨an, cn, rfl, _⟩ := id h.nodes
 obtain ⟨ab, cb, rfl, _⟩ := id h.body
 have hs1 := hS.vars
 have hs2 := hS.nodes
 have hs3 := hS.body
 have HA : Hid (∀ w', Mk lo hi w w' → hi ≤ w'.heap.size → Calls Tryz.prog 109 #[.slice av T.vars.length cv, .int .i64 1] w' fun e w2 => e = .returned (.int .i64 ((1 + T.vars.length * 4 : Nat) : Int)) ∧ Mk lo hi w' w2 ∧ SameT 40 w' w2 ∧ w'.heap.size ≤ w2.heap.size) := fun w' hm hh => markVars_room lo hi T.vars.length _ 1 w' (hV.keep hm) hs1 (by omega) hh hlo
 have HN : Hid (∀ (k : Nat) (w' : World), k ≤ 100000000 → Mk lo hi w w' → SameT 40 w w' → hi ≤ w'.heap.size → Calls Tryz.prog 110 #[.slice an T.nodes.length cn, .int .i64 k] w' fun e w2 => ∃ m : Nat, e = .returned (.int .i64 (m : Int)) ∧ m ≤ 10000000000000 ∧ Mk lo hi w' w2 ∧ w'.heap.size ≤ w2.heap.size) := fun k w' hk hm hs hh => markNodes_room lo hi T.nodes.length _ k w' (hN.keep hm hs) hs2 hk hh hlo
 have HB : Hid (∀ (k : Nat) (w' : World), k ≤ 100000000000000 → Mk lo hi w w' → Calls Tryz.prog 65 #[.slice ab T.body.length cb, .int .i64 k] w' fun e w2 => e = .returned (.int .i64 ((k + T.body.length : Nat) : Int)) ∧ Mk lo hi w' w2 ∧ SameT 40 w' w2 ∧ SameT 45 w' w2 ∧ w2.heap.size = w'.heap.size) := fun k w' hk hm => markInts_room lo hi T.body.length _ k w' (hI.keep hm) hs3 hk
 clear hV hN hI h hS hs2
 go_enter Tryz.func37, Tryz.ntmps37
 go_wp2_with fail
 have hA := heap_alloc_new w (.cells #[.slice av T.vars.length cv, .slice an T.nodes.length cn, .slice ab T.body.length cb] 28)
 have hB0 : Below w.heap.size w (w.alloc (.cells #[.slice av T.vars.length cv, .slice an T.nodes.length cn, .slice ab T.body.length cb] 28)) := (Below.refl _ _).alloc (Nat.le_refl _) _
 have hm0 : Mk lo hi w (w.alloc (.cells #[.slice av T.vars.length cv, .slice an T.nodes.length cn, .slice ab T.body.length cb] 28)) := Mk.of_below hB0 (by omega)
 have hs0 : SameT 40 w (w.alloc (.cells #[.slice av T.vars.length cv, .slice an T.nodes.length cn, .slice ab T.body.length cb] 28)) := SameT.of_below hB0
 have hz0 := hB0.size
 generalize w.alloc (.cells #[.slice av T.vars.length cv, .slice an T.nodes.length cn, .slice ab T.body.length cb] 28) = w0 at *
 have HAA : Hid (w0.heap[w.heap.size]? = some (.cells #[.slice av T.vars.length cv, .slice an T.nodes.length cn, .slice ab T.body.length cb] 28 (0, 0))) := hA
 refine (HA.out w0 hm0 (by omega)).mono ?_
 rintro e w1 ⟨rfl, hm1, hs1', hz1⟩
 have hA1 : w1.heap[w.heap.size]? = some (.cells #[.slice av T.vars.length cv, .slice an T.nodes.length cn, .slice ab T.body.length cb] 28 (0, 0)) := (hm1.out _ hwz (blk_lt hA)).trans hA
 have HM1 : Hid (Mk lo hi w w1) := hm0.trans hm1
 have HS1 : Hid (SameT 40 w w1) := hs0.trans hs1'
 have HA1 : Hid (w1.heap[w.heap.size]? = some (.cells #[.slice av T.vars.length cv, .slice an T.nodes.length cn, .slice ab T.body.length cb] 28 (0, 0))) := hA1
 have p1 := cell_of_row _ _ 1 _ _ _ hA1
 simp at p1
 have hz1' : hi ≤ w1.heap.size := by omega
 obtain ⟨k1, hk1⟩ : ∃ k1, k1 = 1 + T.vars.length * 4 := ⟨_, rfl⟩
 have hk1b : k1 ≤ 100000000 := by omega
 rw [← hk1]
 clear hm1 hs1' hm0 hs0 hA hA1 hk1 HAA HA hB0
 go_wp2_with fail
 refine (HN.out k1 w1 hk1b HM1.out HS1.out hz1').mono ?_
 rintro e w2 ⟨m2, rfl, hm2b, hm2, hz2⟩
 have HM2 : Hid (Mk lo hi w w2) := HM1.out.trans hm2
 have hA2 : w2.heap[w.heap.size]? = some (.cells #[.slice av T.vars.length cv, .slice an T.nodes.length cn, .slice ab T.body.length cb] 28 (0, 0)) := (hm2.out _ hwz (blk_lt HA1.out)).trans HA1.out
 have p2 := cell_of_row _ _ 2 _ _ _ hA2
 simp at p2
 clear hm2 hA2 HA1 HM1 HS1 HN p1
 go_wp2_with fail
 refine (HB.out m2 w2 (by omega) HM2.out).mono ?_
 rintro e w3 ⟨rfl, hm3, _, _, _⟩
 have HM3 : Hid (Mk lo hi w w3) := HM2.out.trans hm3
 clear hm3 HM2 HB p2
 obtain ⟨m3, hm3⟩ : ∃ m3, m3 = m2 + T.body.length := ⟨_, rfl⟩
 have hm3b : m3 ≤ 100000000000000 := by omega
 rw [← hm3]
 clear hm3
 go_wp2_with fail
 go_ret
 exact ⟨m3, rfl, hm3b, HM3.out⟩
end Go.Proofs.YtcecfmdjicjngaaGreatDoor
namespace Go.Proofs.YtcecfmdjicjngaaGreatDoor
open Go.RowKit
set_option linter.unusedVariables false
attribute [local go_sem] bs_size bs_get bs_extract bs_append bs_eq bs_toList
structure ScA (W : World) (B p : Nat) (c : Int) (zs : List Int) (a : Option Addr) (k : Nat) : Prop where
 row : W.heap[p]? = some (.cells (scanL c 0 (.slice a zs.length k) (.slice none 0 0)) 69 (0, 0))
 o : Own W B (.slice a zs.length k) zs
 b1 : ∀ g, a = some ⟨g, 0, none⟩ → B ≤ g ∧ g < p
theorem ScA.new {w W : World} {c : Int} {zs : List Int} {a : Option Addr} {k : Nat} (h : Own W w.heap.size (.slice a zs.length k) zs) : ScA (W.alloc (.cells (scanL c 0 (.slice a zs.length k) (.slice none 0 0)) 69)) w.heap.size W.heap.size c zs a k :=
 ⟨heap_alloc_new _ _, own_kept h ((Below.refl _ _).alloc (Nat.le_refl _) _), fun g hg => own_lt h hg⟩
theorem ScA.lt {W : World} {B p : Nat} {c : Int} {zs : List Int} {a : Option Addr} {k : Nat} (h : ScA W B p c zs a k) : p < W.heap.size := blk_lt h.row
theorem ScA.below {W W' : World} {B p : Nat} {c : Int} {zs : List Int} {a : Option Addr} {k : Nat} (h : ScA W B p c zs a k) (hb : Below W.heap.size W W') : ScA W' B p c zs a k := ⟨blk h.row hb, own_kept h.o hb, h.b1⟩
theorem ScA.keep {W W' : World} {B p : Nat} {c : Int} {zs : List Int} {a : Option Addr} {k : Nat} (h : ScA W B p c zs a k) (h1 : ∀ g, B ≤ g → g ≤ p → W'.heap[g]? = W.heap[g]?) (hB : B ≤ p) : ScA W' B p c zs a k :=
 ⟨(h1 p hB (Nat.le_refl _)).trans h.row, own_other h.o (fun g hg => have k := h.b1 g (own_at h.o hg); h1 g k.1 (Nat.le_of_lt k.2)), h.b1⟩
theorem ScA.nums {W : World} {B p : Nat} {c : Int} {zs : List Int} {a : Option Addr} {k : Nat} (h : ScA W B p c zs a k) : Nums W a zs := (nums_of_own h.o).2
structure ScL (w W : World) (L LX : Array Value) (c : Int) (zs : List Int) (B p x D q : Nat) (a1 a2 : Option Addr) (k1 k2 : Nat) : Prop where
 box : W.heap[w.heap.size]? = some (.cells L 62 (0, 0))
 v : ScA W B p c zs a1 k1
 xb : W.heap[x]? = some (.cells LX 28 (0, 0))
 u : ScA W D q c zs a2 k2
 b : Below w.heap.size w W
 l : w.heap.size < p ∧ B ≤ p ∧ p < x ∧ x < D ∧ D ≤ q ∧ q < W.heap.size
theorem ScL.below {w W W' : World} {L LX : Array Value} {c : Int} {zs : List Int} {B p x D q : Nat} {a1 a2 : Option Addr} {k1 k2 : Nat} (h : ScL w W L LX c zs B p x D q a1 a2 k1 k2) (hb : Below W.heap.size W W') : ScL w W' L LX c zs B p x D q a1 a2 k1 k2 :=
 ⟨blk h.box hb, h.v.below hb, blk h.xb hb, h.u.below hb, bel_on h.b hb, by have := h.l; have := hb.size; omega⟩
theorem ScL.marked {w W W' : World} {L LX : Array Value} {c : Int} {zs : List Int} {B p x D q lo : Nat} {a1 a2 : Option Addr} {k1 k2 : Nat} (h : ScL w W L LX c zs B p x D q a1 a2 k1 k2) (hm : Mk lo x W W') (hlo : p < lo) : ScL w W' L LX c zs B p x D q a1 a2 k1 k2 := by
 have hl := h.l
 have hz := hm.bel.size
 exact ⟨(hm.bel.block _ (by omega)).trans h.box, h.v.keep (fun g h1 h2 => hm.bel.block g (by omega)) hl.2.1, (hm.out _ (Nat.le_refl _) (by omega)).trans h.xb, h.u.keep (fun g h1 h2 => hm.out g (by omega) (by omega)) hl.2.2.2.2.1, h.b.trans (hm.bel.mono (by omega)), by omega⟩
structure ScN (w W : World) (L : Array Value) (c : Int) (zs : List Int) (B p q : Nat) (a1 a2 : Option Addr) (k1 k2 : Nat) : Prop where
 box : W.heap[w.heap.size]? = some (.cells L 62 (0, 0))
 v : ScA W B p c zs a1 k1
 u : W.heap[q]? = some (.cells (scanL c 0 (.slice a2 zs.length k2) (.slice none 0 0)) 69 (0, 0))
 n : Nums W a2 (marks 1 zs.length)
 b : Below w.heap.size w W
theorem ScN.below {w W W' : World} {L : Array Value} {c : Int} {zs : List Int} {B p q : Nat} {a1 a2 : Option Addr} {k1 k2 : Nat} (h : ScN w W L c zs B p q a1 a2 k1 k2) (hb : Below W.heap.size W W') : ScN w W' L c zs B p q a1 a2 k1 k2 :=
 ⟨blk h.box hb, h.v.below hb, blk h.u hb, h.n.below hb, bel_on h.b hb⟩
theorem ScL.own {w W W' : World} {L LX : Array Value} {c : Int} {zs : List Int} {B p x D q : Nat} {a1 a2 : Option Addr} {k1 k2 : Nat} (h : ScL w W L LX c zs B p x D q a1 a2 k1 k2) (hm : MarkR D W W' 1 a2 none zs.length 0) : ScN w W' L c zs B p q a1 a2 k1 k2 := by
 obtain ⟨n1, _, hb, hz, hoth⟩ := hm
 have hl := h.l
 have HO : ∀ g, g < W.heap.size → (g < D ∨ q ≤ g) → W'.heap[g]? = W.heap[g]? := fun g hg k => hoth g hg (fun e => by have := h.u.b1 g e; omega) (fun e => by cases e)
 exact ⟨(HO _ (by omega) (by omega)).trans h.box, h.v.keep (fun g h1 h2 => HO g (by omega) (by omega)) hl.2.1, (HO _ (by omega) (by omega)).trans h.u.row, n1, h.b.trans (hb.mono (by omega))⟩
set_option maxHeartbeats 6400000 in
set_option maxRecDepth 100000 in
theorem startState_law (vv vn vb : Value) (T : LTree) (w : World) (h : IsTree w vv vn vb T) (hE : ErrT w) :
  Calls Tryz.prog 7 #[treeV vv vn vb] w fun e w' => e = .returned (.bool true) ∧ Below w.heap.size w w' := by
 obtain ⟨ht, hf⟩ := h
 obtain ⟨av, cv, rfl, _⟩ := id ht.vars
 obtain ⟨an, cn, rfl, _⟩ := id ht.nodes
 obtain ⟨ab, cb, rfl, _⟩ := id ht.body
 have HT := hid ht
 have HF := hid hf
 have HET : Hid (∀ W, Below w.heap.size w W → ErrT W) := fun W hb => hE.kept hb
 have hA := heap_alloc_new w (.cells #[.slice av T.vars.length cv, .slice an T.nodes.length cn, .slice ab T.body.length cb] 62)
 have hB := (Below.refl w.heap.size w).alloc (Nat.le_refl _) (.cells #[.slice av T.vars.length cv, .slice an T.nodes.length cn, .slice ab T.body.length cb] 62)
 clear ht hf hE
 go_enter Tryz.func7, Tryz.ntmps7
 go_wp2_with fail
 generalize w.alloc (.cells #[.slice av T.vars.length cv, .slice an T.nodes.length cn, .slice ab T.body.length cb] 62) = W at *
 refine (szTree_any 0 T _ _ _ _ (HT.out.below hB) HF.out).mono ?_
 rintro e w1 ⟨r, rfl, hr, hb1⟩
 have HA := hid (blk hA hb1)
 have HB := hid (bel_on hB hb1)
 clear hb1 hA hB
 by_cases h0 : 0 ≤ r
 ·have hz := hr h0
  have HTO : Hid (∀ W, Below w.heap.size w W → Calls Tryz.prog 31 #[.agg #[.slice av T.vars.length cv, .slice an T.nodes.length cn, .slice ab T.body.length cb]] W fun e w' => ∃ a c a2 c2 a3 c3, e = .returned (treeV (.slice a T.vars.length c) (.slice a2 T.nodes.length c2) (.slice a3 T.body.length c3)) ∧ TreeV W.heap.size w' (.slice a T.vars.length c) (.slice a2 T.nodes.length c2) (.slice a3 T.body.length c3) T ∧ Below W.heap.size W w') := fun W hW =>
   (toTree_any 0 T _ _ _ W (HT.out.below hW) hz).mono fun e w' h => by
    obtain ⟨_, _, _, rfl, h1, h2⟩ := h
    obtain ⟨_, _, rfl, _⟩ := id h1.vars
    obtain ⟨_, _, rfl, _⟩ := id h1.nodes
    obtain ⟨_, _, rfl, _⟩ := id h1.body
    exact ⟨_, _, _, _, _, _, rfl, h1, h2⟩
  have HTF : Hid (∀ W, Below w.heap.size w W → Calls Tryz.prog 31 #[.agg #[.slice av T.vars.length cv, .slice an T.nodes.length cn, .slice ab T.body.length cb]] W fun e w' => ∃ a c a2 c2 a3 c3, e = .returned (treeV (.slice a T.vars.length c) (.slice a2 T.nodes.length c2) (.slice a3 T.body.length c3)) ∧ TreeF W.heap.size w' (.slice a T.vars.length c) (.slice a2 T.nodes.length c2) (.slice a3 T.body.length c3) T ∧ Below W.heap.size W w') := fun W hW =>
   (toTreeF_any 0 T _ _ _ W (HT.out.below hW) hz).mono fun e w' h => by
    obtain ⟨_, _, _, rfl, h1, h2⟩ := h
    obtain ⟨_, _, rfl, _⟩ := id h1.vars
    obtain ⟨_, _, rfl, _⟩ := id h1.nodes
    obtain ⟨_, _, rfl, _⟩ := id h1.body
    exact ⟨_, _, _, _, _, _, rfl, h1, h2⟩
  have HSP : Hid (∀ (lo : Nat) (vv vn vb : Value) (W : World), TreeV lo W vv vn vb T → Calls Tryz.prog 34 #[treeV vv vn vb] W fun e w' => ∃ a k, e = .returned (scanV (chkT T).1.1 0 (.slice a (List.replicate (staN T) (0 : Int)).length k) (.slice none 0 0)) ∧ Own w' W.heap.size (.slice a (List.replicate (staN T) (0 : Int)).length k) (List.replicate (staN T) 0) ∧ Below W.heap.size W w') := fun lo vv vn vb W h => (specStartState lo vv vn vb T W h hz).mono fun e w' h => by
   obtain ⟨v, rfl, h1, h2⟩ := h
   obtain ⟨a, k, rfl⟩ := own_shape h1
   exact ⟨a, k, rfl, h1, h2⟩
  have HIM : Hid (∀ (lo : Nat) (vv vn vb : Value) (W : World), Below w.heap.size w W → TreeV lo W vv vn vb T → Calls Tryz.prog 35 #[treeV vv vn vb] W fun e w' => ∃ a k, e = .returned (scanV (chkT T).1.1 0 (.slice a (List.replicate (staN T) (0 : Int)).length k) (.slice none 0 0)) ∧ Own w' W.heap.size (.slice a (List.replicate (staN T) (0 : Int)).length k) (List.replicate (staN T) 0) ∧ Below W.heap.size W w') := fun lo vv vn vb W hb h => (implStartState lo vv vn vb T W h hz (HET.out W hb)).mono fun e w' h => by
   obtain ⟨v, rfl, h1, h2⟩ := h
   obtain ⟨a, k, rfl⟩ := own_shape h1
   exact ⟨a, k, rfl, h1, h2⟩
  have HEQ : Hid (∀ (l1 l2 : Nat) (u1 u2 u3 v1 v2 v3 : Value) (W : World), TreeV l1 W u1 u2 u3 T → TreeV l2 W v1 v2 v3 T → Calls Tryz.prog 33 #[treeV u1 u2 u3, treeV v1 v2 v3] W fun e w' => e = .returned (.bool true) ∧ Below W.heap.size W w') := fun l1 l2 u1 u2 u3 v1 v2 v3 W h1 h2 => eqTree_any _ _ T _ _ _ _ _ _ W h1 h2 hz
  have HMT : Hid (∀ (lo hi : Nat) (v1 v2 v3 : Value) (U W : World), TreeF lo U v1 v2 v3 T → U.heap.size = hi → Below U.heap.size U W → lo ≤ hi → Calls Tryz.prog 37 #[treeV v1 v2 v3, .int .i64 1] W fun e w' => ∃ m : Nat, e = .returned (.int .i64 (m : Int)) ∧ m ≤ 100000000000000 ∧ Mk lo hi W w') := fun lo hi v1 v2 v3 U W h1 h2 h3 h4 => markTree_room lo hi v1 v2 v3 T W U h1 hz h2 h3 h4
  have hzl : (List.replicate (staN T) (0 : Int)).length ≤ 1048576 := by
   rw [List.length_replicate]
   unfold staN
   split
   ·rename_i h; have := chk_cells h; omega
   ·omega
  generalize List.replicate (staN T) (0 : Int) = zs at *
  generalize (chkT T).1.1 = c at *
  have HES : Hid (∀ (a b : Option Addr) (ca cb : Nat) (W : World), Nums W a zs → Nums W b zs → Calls Tryz.prog 36 #[scanV c 0 (.slice a zs.length ca) (.slice none 0 0), scanV c 0 (.slice b zs.length cb) (.slice none 0 0)] W fun e w' => e = .returned (.bool true) ∧ Below W.heap.size W w') := fun a b ca cb W h1 h2 => eqScan_any c 0 zs [] a b none none ca cb 0 0 W hzl (by simp) h1 h2 (.inl rfl) (.inl rfl)
  have HMS : Hid (∀ (a : Option Addr) (k B p : Nat) (W : World), B ≤ W.heap.size → ScA W B p c zs a k → Calls Tryz.prog 38 #[scanV c 0 (.slice a zs.length k) (.slice none 0 0), .int .i64 1] W fun e w' => e = .returned (.int .i64 (1 + zs.length)) ∧ MarkR B W w' 1 a none zs.length 0) := fun a k B p W hB h => (markScan_any c 0 zs [] a none k 0 B 1 W h.o (World.ownsRow_nil _ _ _ _) (fun g _ => by simp) hB hzl (by simp) (by omega) (by omega)).mono fun e w' h => ⟨by rw [h.1]; simp, h.2⟩
  have HHD : Hid (∀ (a : Option Addr) (k : Nat) (W : World), Nums W a (marks 1 zs.length) → Calls Tryz.prog 39 #[scanV c 0 (.slice a zs.length k) (.slice none 0 0), .int .i64 1] W fun e w' => e = .returned (.int .i64 (1 + zs.length)) ∧ Below W.heap.size W w') := fun a k W h => (heldScan_any c 0 zs.length 0 a none k 0 1 W h (.inl rfl) hzl (by omega) (by omega) (by omega)).mono fun e w' h => ⟨by rw [h.1]; simp, h.2⟩
  have HNM : Hid (0 ≤ (1 : Int) + zs.length) := by unfold Hid; omega
  clear hz hr hzl HT HF HET
  obtain ⟨a0, a1, a2⟩ := cl3 HA.out
  go_wp2_with fail
  refine (HTO.out _ HB.out).mono ?_
  rintro e w2 ⟨p1, p2, p3, p4, p5, p6, rfl, ht2, hb⟩
  have HA2 := hid (blk HA.out hb)
  have HB2 := hid (bel_on HB.out hb)
  have HT2 := hid ht2
  clear ht2 hb HA HB a0 a1 a2
  go_wp2_with fail
  refine (HSP.out _ _ _ _ _ HT2.out).mono ?_
  rintro e w3 ⟨a1, k1, rfl, ho, hb⟩
  have hb3 := hb.trans ((Below.refl _ _).alloc hb.size (.cells (scanL c 0 (.slice a1 zs.length k1) (.slice none 0 0)) 69))
  have HA3 := hid (blk HA2.out hb3)
  have HB3 := hid (bel_on HB2.out hb3)
  have HV3 := hid (ScA.new (c := c) ho)
  have HP : Hid (w.heap.size < w3.heap.size ∧ w2.heap.size ≤ w3.heap.size ∧ w3.heap.size < (w3.alloc (.cells (scanL c 0 (.slice a1 zs.length k1) (.slice none 0 0)) 69)).heap.size) := ⟨blk_lt (blk HA2.out hb), hb.size, by simp⟩
  clear ho hb hb3 HA2 HB2 HT2 HSP
  go_upto_region 6 with fail
  generalize w3.alloc (.cells (scanL c 0 (.slice a1 zs.length k1) (.slice none 0 0)) 69) = W3 at *
  generalize w3.heap.size = p at *
  generalize w2.heap.size = B at *
  obtain ⟨x0, x1, x2⟩ := cl3 HA3.out
  go_wp2_with fail
  refine (HTF.out _ HB3.out).mono ?_
  rintro e w4 ⟨p1, p2, p3, p4, p5, p6, rfl, ht4, hb⟩
  have hb4 := hb.trans ((Below.refl _ _).alloc hb.size (.cells #[.slice p1 T.vars.length p2, .slice p3 T.nodes.length p4, .slice p5 T.body.length p6] 28))
  have HX4 := hid (heap_alloc_new w4 (.cells #[.slice p1 T.vars.length p2, .slice p3 T.nodes.length p4, .slice p5 T.body.length p6] 28))
  have HA4 := hid (blk HA3.out hb4)
  have HV4 := hid (HV3.out.below hb4)
  have HB4 := hid (bel_on HB3.out hb4)
  have HF4 := hid ht4
  have HK4 : Hid (Below w4.heap.size w4 (w4.alloc (.cells #[.slice p1 T.vars.length p2, .slice p3 T.nodes.length p4, .slice p5 T.body.length p6] 28))) := (Below.refl _ _).alloc (Nat.le_refl _) _
  have HQ : Hid (w.heap.size < p ∧ B ≤ p ∧ p < W3.heap.size ∧ W3.heap.size ≤ w4.heap.size ∧ w4.heap.size < (w4.alloc (.cells #[.slice p1 T.vars.length p2, .slice p3 T.nodes.length p4, .slice p5 T.body.length p6] 28)).heap.size) := ⟨HP.out.1, HP.out.2.1, HP.out.2.2, hb.size, by simp⟩
  clear ht4 hb hb4 HA3 HV3 HB3 HP HTF x0 x1 x2
  go_upto_region 7 with fail
  generalize w4.alloc (.cells #[.slice p1 T.vars.length p2, .slice p3 T.nodes.length p4, .slice p5 T.body.length p6] 28) = W4 at *
  obtain ⟨x0, x1, x2⟩ := cl3 HX4.out
  go_wp2_with fail
  refine (HIM.out _ _ _ _ _ HB4.out (HF4.out.toV.below HK4.out)).mono ?_
  rintro e w5 ⟨a2, k2, rfl, ho, hb⟩
  have hb5 := hb.trans ((Below.refl _ _).alloc hb.size (.cells (scanL c 0 (.slice a2 zs.length k2) (.slice none 0 0)) 69))
  have HL5 : Hid (ScL w (w5.alloc (.cells (scanL c 0 (.slice a2 zs.length k2) (.slice none 0 0)) 69)) #[.slice av T.vars.length cv, .slice an T.nodes.length cn, .slice ab T.body.length cb] #[.slice p1 T.vars.length p2, .slice p3 T.nodes.length p4, .slice p5 T.body.length p6] c zs B p w4.heap.size W4.heap.size w5.heap.size a1 a2 k1 k2) :=
   ⟨blk HA4.out hb5, HV4.out.below hb5, blk HX4.out hb5, ScA.new ho, bel_on HB4.out hb5, HQ.out.1, HQ.out.2.1, by have := HQ.out; omega, HQ.out.2.2.2.2, hb.size, by simp⟩
  have HK5 := hid (HK4.out.trans (hb5.mono HK4.out.size))
  clear ho hb hb5 HA4 HV4 HX4 HB4 HK4 x0 x1 x2
  go_upto_region 8 with fail
  generalize w5.alloc (.cells (scanL c 0 (.slice a2 zs.length k2) (.slice none 0 0)) 69) = W5 at *
  generalize w5.heap.size = q at *
  generalize W4.heap.size = D at *
  obtain ⟨v0, v1, v2, v3⟩ := cl4 HL5.out.v.row
  obtain ⟨u0, u1, u2, u3⟩ := cl4 HL5.out.u.row
  go_wp2_with fail
  refine (HES.out _ _ _ _ _ HL5.out.u.nums HL5.out.v.nums).mono ?_
  rintro e w6 ⟨rfl, hb⟩
  have HL6 := hid (HL5.out.below hb)
  have HK6 := hid (bel_on HK5.out hb)
  clear hb HL5 HK5 v0 v1 v2 v3 u0 u1 u2 u3
  have hS0 : Below w6.heap.size w6 w6 := Below.refl _ _
  have HC6 : Hid (∀ W, Below w6.heap.size w6 W → (W.cell? ⟨w.heap.size, 0, none⟩ = some (.slice av T.vars.length cv) ∧ W.cell? ⟨w.heap.size, 1, none⟩ = some (.slice an T.nodes.length cn) ∧ W.cell? ⟨w.heap.size, 2, none⟩ = some (.slice ab T.body.length cb)) ∧ (W.cell? ⟨w4.heap.size, 0, none⟩ = some (.slice p1 T.vars.length p2) ∧ W.cell? ⟨w4.heap.size, 1, none⟩ = some (.slice p3 T.nodes.length p4) ∧ W.cell? ⟨w4.heap.size, 2, none⟩ = some (.slice p5 T.body.length p6))) := fun W hb => ⟨cl3 (blk HL6.out.box hb), cl3 (blk HL6.out.xb hb)⟩
  obtain ⟨⟨x0, x1, x2⟩, y0, y1, y2⟩ := HC6.out _ hS0
  go_upto_region 10 with fail
  go_region_held3 (fun W => Below w6.heap.size w6 W ∧ (W.cell? ⟨w.heap.size, 0, none⟩ = some (.slice av T.vars.length cv) ∧ W.cell? ⟨w.heap.size, 1, none⟩ = some (.slice an T.nodes.length cn) ∧ W.cell? ⟨w.heap.size, 2, none⟩ = some (.slice ab T.body.length cb)) ∧ (W.cell? ⟨w4.heap.size, 0, none⟩ = some (.slice p1 T.vars.length p2) ∧ W.cell? ⟨w4.heap.size, 1, none⟩ = some (.slice p3 T.nodes.length p4) ∧ W.cell? ⟨w4.heap.size, 2, none⟩ = some (.slice p5 T.body.length p6))) (first | (with_reducible exact ⟨by assumption, HC6.out _ (by assumption)⟩) | (with_reducible exact ⟨hS0.drew, HC6.out _ hS0.drew⟩) | fail) (first | (go_at_call 31; refine (HTO.out _ (HL6.out.b.trans (Below.mono (And.left (by with_reducible assumption)) HL6.out.b.size))).mono ?_; rintro e wa ⟨q1, q2, q3, q4, q5, q6, rfl, ht7, hb⟩; have hD3 : Below w6.heap.size w6 wa := bel_on (And.left (by with_reducible assumption)) hb; have HT7 := hid ht7; clear hb ht7) | (go_at_call 33; refine (HEQ.out _ _ _ _ _ _ _ _ _ ((HF4.out.toV.below HK6.out).below hD3) HT7.out).mono ?_; rintro e wb ⟨rfl, hb⟩; have hD4 : Below w6.heap.size w6 wb := bel_on hD3 hb; clear hb) | fail)
  have HL7 := hid (HL6.out.below hD4)
  have HK7 := hid (bel_on HK6.out hD4)
  clear hD3 hD4 hS0 HC6 HL6 HK6 HT7 HEQ x0 x1 x2 y0 y1 y2
  obtain ⟨y0, y1, y2⟩ := cl3 HL7.out.xb
  go_wp2_with fail
  refine (HMT.out _ _ _ _ _ _ _ HF4.out rfl HK7.out HQ.out.2.2.2.1).mono ?_
  rintro e w8 ⟨m, rfl, hm0, hmk⟩
  have HL8 := hid (HL7.out.marked hmk HQ.out.2.2.1)
  have hmm : (0 : Int) ≤ (m : Int) := by omega
  have hmd : decide ((m : Int) < 0) = false := decide_eq_false (by omega)
  clear hm0 hmk HL7 HK7 HF4 HMT y0 y1 y2
  obtain ⟨v0, v1, v2, v3⟩ := cl4 HL8.out.v.row
  obtain ⟨u0, u1, u2, u3⟩ := cl4 HL8.out.u.row
  go_wp2_with fail
  refine (HES.out _ _ _ _ _ HL8.out.u.nums HL8.out.v.nums).mono ?_
  rintro e w9 ⟨rfl, hb⟩
  have HL9 := hid (HL8.out.below hb)
  clear hb HL8 hmm hmd v0 v1 v2 v3 u0 u1 u2 u3
  obtain ⟨u0, u1, u2, u3⟩ := cl4 HL9.out.u.row
  go_wp2_with fail
  refine (HMS.out _ _ _ _ _ (by have := HL9.out.l; omega) HL9.out.u).mono ?_
  rintro e w10 ⟨rfl, hm⟩
  have HN10 := hid (HL9.out.own hm)
  clear hm HL9 HMS u0 u1 u2 u3
  obtain ⟨u0, u1, u2, u3⟩ := cl4 HN10.out.u
  go_wp2_with fail
  refine (HHD.out _ _ _ HN10.out.n).mono ?_
  rintro e w11 ⟨rfl, hb⟩
  have HN11 := hid (HN10.out.below hb)
  clear hb HN10 u0 u1 u2 u3
  have hkd : decide ((1 : Int) + zs.length < 0) = false := decide_eq_false (by have := HNM.out; omega)
  obtain ⟨x0, x1, x2⟩ := cl3 HN11.out.box
  go_upto_region 24 with fail
  clear hkd
  go_wp2_with fail
  refine (HTO.out _ HN11.out.b).mono ?_
  rintro e w12 ⟨r1, r2, r3, r4, r5, r6, rfl, ht12, hb⟩
  have HN12 := hid (HN11.out.below hb)
  have HT12 := hid ht12
  clear hb ht12 HN11 x0 x1 x2
  go_wp2_with fail
  refine (HIM.out _ _ _ _ _ HN12.out.b HT12.out).mono ?_
  rintro e w13 ⟨a3, k3, rfl, ho, hb⟩
  have hb13 := hb.trans ((Below.refl _ _).alloc hb.size (.cells (scanL c 0 (.slice a3 zs.length k3) (.slice none 0 0)) 69))
  have HN13 := hid (HN12.out.below hb13)
  have HH13 := hid (ScA.new (c := c) ho)
  clear ho hb hb13 HN12 HT12
  go_upto_region 25 with fail
  generalize w13.alloc (.cells (scanL c 0 (.slice a3 zs.length k3) (.slice none 0 0)) 69) = W13 at *
  generalize w13.heap.size = q2 at *
  obtain ⟨v0, v1, v2, v3⟩ := cl4 HN13.out.v.row
  obtain ⟨u0, u1, u2, u3⟩ := cl4 HH13.out.row
  go_wp2_with fail
  refine (HES.out _ _ _ _ _ HH13.out.nums HN13.out.v.nums).mono ?_
  rintro e w14 ⟨rfl, hb⟩
  have HN14 := hid (HN13.out.below hb)
  clear hb HN13 HH13 v0 v1 v2 v3 u0 u1 u2 u3
  obtain ⟨u0, u1, u2, u3⟩ := cl4 HN14.out.u
  go_wp2_with fail
  refine (HHD.out _ _ _ HN14.out.n).mono ?_
  rintro e w15 ⟨rfl, hb⟩
  have HB15 := hid (HN14.out.below hb).b
  clear hb HN14 u0 u1 u2 u3
  go_wp2_with fail
  go_ret
  exact ⟨rfl, HB15.out⟩
 ·go_wp2_with fail
  go_ret
  exact ⟨rfl, HB.out⟩
end Go.Proofs.YtcecfmdjicjngaaGreatDoor
namespace Go.Proofs.YtcecfmdjicjngaaGreatDoor
open Go.RowKit
set_option linter.unusedVariables false
theorem fnExactStartState_walk (vv0 vn0 vb0 : Value) (T0 : LTree) (w : World) (w0 : IsTree w vv0 vn0 vb0 T0) (hE : ErrT w) :
  Calls Tryz.prog 7 #[treeV vv0 vn0 vb0] w fun e w' => e = .returned (.bool true) ∧ Below w.heap.size w w' :=
 startState_law vv0 vn0 vb0 T0 w w0 hE
end Go.Proofs.YtcecfmdjicjngaaGreatDoor
