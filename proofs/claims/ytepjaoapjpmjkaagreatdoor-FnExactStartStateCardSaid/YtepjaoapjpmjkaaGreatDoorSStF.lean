/-
  spec.StateFault.
-/
import Derived.Test.YtepjaoapjpmjkaaGreatDoorTreeMath
import Derived.Test.YtepjaoapjpmjkaaGreatDoorAsHit
import Derived.Test.YtepjaoapjpmjkaaGreatDoorIShape
import Derived.Test.YtepjaoapjpmjkaaGreatDoorIFault
import Derived.Test.YtepjaoapjpmjkaaGreatDoorSTree
import Derived.Test.YtepjaoapjpmjkaaGreatDoorSCall
import Derived.Test.YtepjaoapjpmjkaaGreatDoorSName
import Derived.Deep.RegionHeld3
namespace Go.Proofs.YtepjaoapjpmjkaaGreatDoor
open Go.RowKit
set_option linter.unusedVariables false
def b01 (b : Bool) : Int := if b then 1 else 0
def wordsB (zs : List Int) : Bool := zs.all (fun z => inB z 0 65535)
theorem wordsB_mem {zs : List Int} (h : wordsB zs = true) {z : Int} (hz : z ∈ zs) : 0 ≤ z ∧ z ≤ 65535 := by
 unfold wordsB at h
 rw [List.all_eq_true] at h
 exact inB_iff.1 (h z hz)
theorem wordsB_ok {zs : List Int} (h : ∀ j, j < zs.length → 0 ≤ zs.getD j 0 ∧ zs.getD j 0 ≤ 65535) : wordsB zs = true := by
 unfold wordsB
 rw [List.all_eq_true]
 intro z hz
 obtain ⟨i, hi, rfl⟩ := List.getElem_of_mem hz
 have := h i hi
 rw [List.getD_eq_getElem?_getD, List.getElem?_eq_getElem hi] at this
 exact inB_iff.2 this
theorem wordsB_bad {zs : List Int} (i : Nat) (hi : i < zs.length) (h : zs.getD i 0 < 0 ∨ 65535 < zs.getD i 0) : wordsB zs = false := by
 cases hw : wordsB zs with
 | false => rfl
 | true =>
  have hm : zs.getD i 0 ∈ zs := by rw [List.getD_eq_getElem?_getD, List.getElem?_eq_getElem hi]; simp
  have := wordsB_mem hw hm
  omega
theorem wordsB_get {zs : List Int} (h : wordsB zs = true) {i : Nat} (hi : i < zs.length) : 0 ≤ zs.getD i 0 ∧ zs.getD i 0 ≤ 65535 :=
 wordsB_mem h (by rw [List.getD_eq_getElem?_getD, List.getElem?_eq_getElem hi]; simp)
theorem wordsB_take {zs : List Int} (h : wordsB zs = true) (n : Nat) : wordsB (zs.take n) = true := by
 unfold wordsB at *
 rw [List.all_eq_true] at *
 exact fun z hz => h z (List.mem_of_mem_take hz)
theorem wordsB_snoc {zs : List Int} (h : wordsB zs = true) {z : Int} (h0 : 0 ≤ z) (h1 : z ≤ 65535) : wordsB (zs ++ [z]) = true := by
 unfold wordsB at *
 rw [List.all_append, h]
 simp [inB, h0, h1]
theorem wordsB_set {zs : List Int} (h : wordsB zs = true) {z : Int} (i : Nat) (h0 : 0 ≤ z) (h1 : z ≤ 65535) : wordsB (zs.set i z) = true := by
 unfold wordsB at *
 rw [List.all_eq_true] at *
 intro x hx
 rcases List.mem_or_eq_of_mem_set hx with hx | rfl
 ·exact h x hx
 ·exact inB_iff.2 ⟨h0, h1⟩
def allB (Z : Nat → List Int) (n : Nat) : Bool := (List.range n).all (fun i => wordsB (Z i))
theorem allB_ok {Z : Nat → List Int} {n : Nat} (h : ∀ i, i < n → wordsB (Z i) = true) : allB Z n = true := by
 unfold allB
 rw [List.all_eq_true]
 exact fun i hi => h i (List.mem_range.1 hi)
theorem allB_bad {Z : Nat → List Int} {n : Nat} (i : Nat) (hi : i < n) (h : wordsB (Z i) = false) : allB Z n = false := by
 cases hw : allB Z n with
 | false => rfl
 | true =>
  unfold allB at hw
  rw [List.all_eq_true] at hw
  rw [hw i (List.mem_range.2 hi)] at h
  cases h
theorem allB_one (Z : Nat → List Int) : allB Z 1 = wordsB (Z 0) := by
 unfold allB; simp [List.range_succ]
theorem allB_three (Z : Nat → List Int) : allB Z 3 = (wordsB (Z 0) && wordsB (Z 1) && wordsB (Z 2)) := by
 unfold allB; simp [List.range_succ, Bool.and_assoc]
end Go.Proofs.YtepjaoapjpmjkaaGreatDoor
namespace Go.Proofs.YtepjaoapjpmjkaaGreatDoor
open Go.RowKit
def isWord (z : Int) : Prop := 0 ≤ z ∧ z ≤ 65535
theorem fitsWord_yes (z : Int) (w : World) (h1 : 0 ≤ z) (h2 : z ≤ 65535) :
  Calls Tryz.prog 113 #[.int .i64 z] w fun e w' => e = .returned (.bool true) ∧ w' = w := by
 go_enter Tryz.func113, Tryz.ntmps113
 go_wp2
 go_ret
 exact ⟨rfl, rfl⟩
theorem fitsWord_no (z : Int) (w : World) (h : z < 0 ∨ 65535 < z) :
  Calls Tryz.prog 113 #[.int .i64 z] w fun e w' => e = .returned (.bool false) ∧ w' = w := by
 rcases h with h | h
 ·have hd : decide (0 ≤ z) = false := decide_eq_false (by omega)
  go_enter Tryz.func113, Tryz.ntmps113
  go_wp2
  go_ret
  exact ⟨rfl, rfl⟩
 ·have h0 : 0 ≤ z := by omega
  have hd : decide (z ≤ 65535) = false := decide_eq_false (by omega)
  go_enter Tryz.func113, Tryz.ntmps113
  go_wp2
  go_ret
  exact ⟨rfl, rfl⟩
theorem l1In_yes (z a b : Int) (w : World) (h1 : a ≤ z) (h2 : z ≤ b) :
  Calls Tryz.prog 31 #[.int .i64 z, .int .i64 a, .int .i64 b] w fun e w' => e = .returned (.bool true) ∧ w' = w := by
 go_enter Tryz.func31, Tryz.ntmps31
 go_wp2
 go_ret
 exact ⟨rfl, rfl⟩
theorem l1In_no (z a b : Int) (w : World) (h : z < a ∨ b < z) :
  Calls Tryz.prog 31 #[.int .i64 z, .int .i64 a, .int .i64 b] w fun e w' => e = .returned (.bool false) ∧ w' = w := by
 by_cases h1 : a ≤ z
 ·have hd : decide (z ≤ b) = false := decide_eq_false (by omega)
  clear h
  go_enter Tryz.func31, Tryz.ntmps31
  go_wp2
  go_ret
  exact ⟨rfl, rfl⟩
 ·have hd : decide (a ≤ z) = false := decide_eq_false (by omega)
  clear h
  go_enter Tryz.func31, Tryz.ntmps31
  go_wp2
  go_ret
  exact ⟨rfl, rfl⟩
theorem l1Word_yes (z : Int) (w : World) (h1 : 0 ≤ z) (h2 : z ≤ 65535) :
  Calls Tryz.prog 104 #[.int .i64 z] w fun e w' => e = .returned (.bool true) ∧ w' = w := by
 go_enter Tryz.func104, Tryz.ntmps104
 go_wp2_with (go_at_call 31; refine (l1In_yes _ _ _ _ h1 h2).mono ?_; rintro e w' ⟨rfl, rfl⟩)
 go_ret
 exact ⟨rfl, rfl⟩
theorem l1Word_no (z : Int) (w : World) (h : z < 0 ∨ 65535 < z) :
  Calls Tryz.prog 104 #[.int .i64 z] w fun e w' => e = .returned (.bool false) ∧ w' = w := by
 go_enter Tryz.func104, Tryz.ntmps104
 go_wp2_with (go_at_call 31; refine (l1In_no _ _ _ _ h).mono ?_; rintro e w' ⟨rfl, rfl⟩)
 go_ret
 exact ⟨rfl, rfl⟩
def fault (zs : List Int) : Int := if 400 < zs.length then 2 else if ∀ z ∈ zs, 0 ≤ z ∧ z ≤ 65535 then 0 else 3
theorem fault_many {zs : List Int} (h : 400 < zs.length) : fault zs = 2 := by rw [fault, if_pos h]
theorem fault_ok {zs : List Int} (h : zs.length ≤ 400) (hz : ∀ i, i < zs.length → 0 ≤ zs.getD i 0 ∧ zs.getD i 0 ≤ 65535) : fault zs = 0 := by
 rw [fault, if_neg (by omega), if_pos]
 intro z hm
 obtain ⟨i, hi, rfl⟩ := List.getElem_of_mem hm
 have := hz i hi
 rw [List.getD_eq_getElem?_getD, List.getElem?_eq_getElem hi] at this
 simpa using this
theorem fault_bad {zs : List Int} (h : zs.length ≤ 400) (i : Nat) (hi : i < zs.length) (hz : zs.getD i 0 < 0 ∨ 65535 < zs.getD i 0) : fault zs = 3 := by
 rw [fault, if_neg (by omega), if_neg]
 intro ha
 have hm : zs.getD i 0 ∈ zs := by
  rw [List.getD_eq_getElem?_getD, List.getElem?_eq_getElem hi]; simp
 have := ha _ hm
 omega
theorem fault_all {zs : List Int} (h : zs.length ≤ 400) : fault zs = if wordsB zs then 0 else 3 := by
 rw [fault, if_neg (by omega)]
 by_cases hw : wordsB zs = true
 ·rw [if_pos (fun z hz => wordsB_mem hw hz), if_pos hw]
 ·rw [if_neg (fun h => hw (by unfold wordsB; rw [List.all_eq_true]; exact fun z hz => inB_iff.2 (h z hz))), if_neg hw]
set_option maxHeartbeats 800000 in
theorem allWords_any (g cap n : Nat) (A : Nat → Option Addr) (Z : Nat → List Int) (C : Nat → Nat) (w : World) (hn8 : n ≤ 8)
  (hg : ∀ i, i < n → w.cell? ⟨g, i, none⟩ = some (.slice (A i) (Z i).length (C i)))
  (hlen : ∀ i, i < n → (Z i).length ≤ 9223372036854775807) (hn : ∀ i, i < n → Nums w (A i) (Z i)) :
  Calls Tryz.prog 100 #[.slice (some ⟨g, 0, none⟩) n cap] w fun e w' => e = .returned (.bool (allB Z n)) ∧ w' = w := by
 go_enter Tryz.func100, Tryz.ntmps100
 go_wp2
 go_loop [4, 9] (fun _ i => ∃ k : Nat, k ≤ n ∧ i = .int .i64 k ∧ ∀ j, j < k → wordsB (Z j) = true) (fun _ i => n - (intOf i).toNat)
 case atStart => exact ⟨0, Nat.zero_le _, rfl, fun j hj => by omega⟩
 case round =>
  obtain ⟨k, hk, rfl, ho⟩ := hrel
  have HO : Hid _ := ho
  clear ho
  by_cases hlt : k < n
  ·have hcell := hg k hlt
   have hl := hlen k hlt
   have hnn := hn k hlt
   have HB : Hid (∀ m, m < (Z k).length → ((Z k).getD m 0 < 0 ∨ 65535 < (Z k).getD m 0) → allB Z n = false) := fun m hm hz => allB_bad k hlt (wordsB_bad m hm hz)
   have HG : Hid (wordsB (Z k) = true → ∀ j, j < k + 1 → wordsB (Z j) = true) := fun hw j hj => by
    by_cases e : j = k
    ·subst e; exact hw
    ·exact HO.out j (by omega)
   generalize hzs : Z k = zs at *
   generalize A k = a at *
   generalize C k = c at *
   clear hg hlen hn hzs HO
   go_wp2
   go_loop [6, 15] (fun _ i => ∃ m : Nat, m ≤ zs.length ∧ i = .int .i64 m ∧ ∀ j, j < m → 0 ≤ zs.getD j 0 ∧ zs.getD j 0 ≤ 65535) (fun _ i => zs.length - (intOf i).toNat)
   case atStart => exact ⟨0, Nat.zero_le _, rfl, fun j hj => by omega⟩
   case round =>
    obtain ⟨m, hm, rfl, ho⟩ := hrel
    have HO : Hid _ := ho
    clear ho
    by_cases hlm : m < zs.length
    ·rcases hnn with hnn | ⟨b, off, rfl, hc⟩
     ·subst hnn; simp at hlm
     have hcell2 := hc m hlm
     clear hc
     obtain ⟨z, hz⟩ : ∃ z, z = zs.getD m 0 := ⟨_, rfl⟩
     rw [← hz] at hcell2
     have HZ : Hid _ := hz
     clear hz
     by_cases h5 : 0 ≤ z ∧ z ≤ 65535
     ·obtain ⟨h5, h6⟩ := h5
      go_wp2_with (go_at_call 113; refine (fitsWord_yes _ _ h5 h6).mono ?_; rintro e w' ⟨rfl, rfl⟩)
      go_round
      case rel =>
       refine ⟨m + 1, by omega, by go_num, fun j hj => ?_⟩
       by_cases hjk : j = m
       ·subst hjk; rw [← HZ.out]; exact ⟨h5, h6⟩
       ·exact HO.out j (by omega)
      case measure => simp [intOf]; omega
     ·have h6 : z < 0 ∨ 65535 < z := by omega
      have H6 : Hid _ := h6
      clear h6 h5
      go_wp2_with (go_at_call 113; refine (fitsWord_no _ _ H6.out).mono ?_; rintro e w' ⟨rfl, rfl⟩)
      go_ret
      exact ⟨by rw [HB.out m hlm (by rw [← HZ.out]; exact H6.out)]; rfl, rfl⟩
    ·have hk2 : m = zs.length := by omega
     subst hk2
     go_wp2
     go_round
     case rel => exact ⟨k + 1, by omega, by go_num, HG.out (wordsB_ok HO.out)⟩
     case measure => simp [intOf]; omega
  ·have hk2 : k = n := by omega
   subst hk2
   go_wp2
   go_ret
   exact ⟨by rw [allB_ok HO.out]; rfl, rfl⟩
set_option maxHeartbeats 400000 in
theorem implFault_any (a : Option Addr) (zs : List Int) (cap : Nat) (w : World) (hlen : zs.length ≤ 9223372036854775807) (hn : Nums w a zs) :
  Calls Tryz.prog 58 #[.slice a zs.length cap] w fun e w' => e = .returned (.int .i64 (fault zs)) ∧ Below w.heap.size w w' := by
 by_cases h4 : 400 < zs.length
 ·rw [fault_many h4]
  go_enter Tryz.func58, Tryz.ntmps58
  go_wp2
  go_ret
  exact ⟨rfl, Below.refl _ _⟩
 ·have HA : Hid (∀ W, Below w.heap.size w W → W.cell? ⟨w.heap.size, 0, none⟩ = some (.slice a zs.length cap) → Calls Tryz.prog 100 #[.slice (some ⟨w.heap.size, 0, none⟩) 1 1] W fun e w' => e = .returned (.bool (wordsB zs)) ∧ w' = W) := fun W hb hc => by
   have := allWords_any w.heap.size 1 1 (fun _ => a) (fun _ => zs) (fun _ => cap) W (by omega) (fun i hi => by rw [show i = 0 from by omega]; exact hc) (fun i hi => hlen) (fun i hi => hn.below hb)
   rw [allB_one] at this
   exact this
  have HF : Hid (fault zs = if wordsB zs then 0 else 3) := fault_all (by omega)
  have hB : Below w.heap.size w (w.alloc (.cells #[.slice a zs.length cap] 24 (0, 0))) := (Below.refl _ _).alloc (Nat.le_refl _) _
  have hC : (w.alloc (.cells #[.slice a zs.length cap] 24 (0, 0))).cell? ⟨w.heap.size, 0, none⟩ = some (.slice a zs.length cap) := by simp [go_sem]
  have HX : Hid (Calls Tryz.prog 100 #[.slice (some ⟨w.heap.size, 0, none⟩) 1 1] (w.alloc (.cells #[.slice a zs.length cap] 24 (0, 0))) fun e w' => e = .returned (.bool (wordsB zs)) ∧ w' = (w.alloc (.cells #[.slice a zs.length cap] 24 (0, 0)))) := HA.out _ hB hC
  have HB : Hid _ := hB
  clear HA hB hC hn
  obtain ⟨q, hq⟩ : ∃ q, q = wordsB zs := ⟨_, rfl⟩
  rw [← hq] at HX HF
  clear hq
  go_enter Tryz.func58, Tryz.ntmps58
  go_wp2_with fail
  refine HX.out.mono ?_
  rintro e w' ⟨rfl, rfl⟩
  clear HX
  cases q
  ·go_wp2_with fail
   go_ret
   exact ⟨by rw [HF.out]; rfl, HB.out⟩
  ·go_wp2_with fail
   go_ret
   exact ⟨by rw [HF.out]; rfl, HB.out⟩
end Go.Proofs.YtepjaoapjpmjkaaGreatDoor
namespace Go.Proofs.YtepjaoapjpmjkaaGreatDoor
open Go.RowKit
set_option linter.unusedVariables false
attribute [local go_sem] bs_size bs_get bs_extract bs_append bs_eq bs_toList
theorem any_name (V W : List LVar) : V.map LVar.name = W.map LVar.name → V.any (fun v => !isNameL v.name) = W.any (fun v => !isNameL v.name) := by
 intro h
 have e : ∀ U : List LVar, U.any (fun v => !isNameL v.name) = (U.map LVar.name).any (fun l => !isNameL l) := fun U => by rw [List.any_map]; rfl
 rw [e, e, h]
theorem names_kind (T : LTree) : namesF (allL 3 T) T.vars.length = namesF (allL 0 T) T.vars.length := by
 unfold namesF
 rw [dup_kind T]
 have : (List.drop T.vars.length (allL 3 T)).any (fun v => !isNameL v.name) = (List.drop T.vars.length (allL 0 T)).any (fun v => !isNameL v.name) := by
  apply any_name
  rw [List.map_drop, List.map_drop, nts_names (allL_nts T)]
 rw [this]
theorem must_kind (T : LTree) : mustT (allL 3 T) T.vars.length T.nodes = mustT (allL 0 T) T.vars.length T.nodes := by
 funext y t st
 unfold mustT
 rw [typeF_kind]
theorem body_kind (T : LTree) : bodyF (allL 3 T) T = bodyF (allL 0 T) T := by unfold bodyF; rw [must_kind]
theorem cells_kind (T : LTree) : cellsL (allL 3 T) = cellsL (allL 0 T) := by
 have h := cellsL_kind T (allL 3 T).length
 rw [List.take_length, allL_len T, List.take_length] at h; exact h
theorem chk_may {T : LTree} (h0 : faultL T = 0) : chkT T = if (mayF T).1 ≠ 0 then (mayF T, 0) else ((0, 0), budT T) := by
 unfold chkT mayF
 rw [if_neg (by simp [h0]), names_kind, body_kind, cells_kind]
 by_cases h1 : namesF (allL 0 T) T.vars.length ≠ 0
 ·rw [if_pos h1, if_pos h1, if_pos h1]
 rw [if_neg h1, if_neg h1]
 by_cases h2 : (bodyF (allL 0 T) T).1 ≠ 0
 ·rw [if_pos h2, if_pos h2, if_pos h2]
 rw [if_neg h2, if_neg h2]
 by_cases h3 : 2000 < budT T ∨ 60 < cellsL (allL 0 T)
 ·rw [if_pos h3, if_pos h3, if_pos (by simp)]
 ·rw [if_neg h3, if_neg h3, if_neg (by simp)]
def Tree3 (f : FuncId) (R : LTree → Met × Int) : Prop := ∀ (lo : Nat) (vv vn vb : Value) (T : LTree) (w : World), TreeV lo w vv vn vb T → Sized 1048576 T →
 Calls Tryz.prog f #[treeV vv vn vb] w fun e w' => e = .returned (.agg #[.int .i64 (R T).1.1, .int .i64 (R T).1.2, .int .i64 (R T).2]) ∧ Below w.heap.size w w'
def Tree3G (f : FuncId) (R : LTree → Met × Int) : Prop := ∀ (lo : Nat) (vv vn vb : Value) (T : LTree) (w : World), TreeV lo w vv vn vb T → Sized 1048576 T → ErrT w →
 Calls Tryz.prog f #[treeV vv vn vb] w fun e w' => e = .returned (.agg #[.int .i64 (R T).1.1, .int .i64 (R T).1.2, .int .i64 (R T).2]) ∧ Below w.heap.size w w'
set_option maxHeartbeats 6400000 in
set_option maxRecDepth 100000 in
theorem implCheckTree : Tree3G 14 chkT := by
 intro lo vv vn vb T w h hS hE
 have HF : Hid (∀ (w' : World), Below w.heap.size w w' → Calls Tryz.prog 38 #[treeV vv vn vb] w' fun e w2 => e = .returned (.int .i64 (faultL T)) ∧ Below w'.heap.size w' w2) := fun w' hb => implTreeFault lo _ _ _ T w' (h.below hb) hS
 have HM : Hid (faultL T = 0 → ∀ (w' : World), Below w.heap.size w w' → Calls Tryz.prog 47 #[treeV vv vn vb] w' fun e w2 => e = .returned (errV (mayF T)) ∧ Below w'.heap.size w' w2) := fun h0 w' hb => mayRun_any lo vv vn vb T w' (h.below hb) hS h0
 have HBU : Hid (faultL T = 0 → ∀ (w' : World), Below w.heap.size w w' → Calls Tryz.prog 48 #[treeV vv vn vb] w' fun e w2 => e = .returned (.int .i64 (budT T)) ∧ Below w'.heap.size w' w2) := fun h0 w' hb => budgetOf_any lo vv vn vb T w' (h.below hb) hS (good_of h0)
 have HER : Hid (∀ w', Below w.heap.size w w' → ErrT w') := fun w' hb => hE.kept hb
 obtain ⟨av, cv, rfl, _⟩ := id h.vars
 obtain ⟨an, cn, rfl, _⟩ := id h.nodes
 obtain ⟨ab, cb, rfl, _⟩ := id h.body
 have HCM : Hid (faultL T = 0 → chkT T = if (mayF T).1 ≠ 0 then (mayF T, 0) else ((0, 0), budT T)) := chk_may
 have HC0 : Hid (faultL T ≠ 0 → chkT T = ((faultL T, -1), 0)) := fun h0 => by unfold chkT; rw [if_pos h0]
 clear h hS hE
 obtain ⟨⟨⟨c1, c2⟩, c3⟩, hR⟩ : ∃ R, R = chkT T := ⟨_, rfl⟩
 rw [← hR] at HCM HC0 ⊢
 clear hR
 go_enter Tryz.func14, Tryz.ntmps14
 go_wp2_with fail
 obtain ⟨hA, hA2, hB⟩ := three_start w (.slice av T.vars.length cv) (.slice an T.nodes.length cn) (.slice ab T.body.length cb) 34 40
 generalize ((w.alloc (.cells #[.slice av T.vars.length cv, .slice an T.nodes.length cn, .slice ab T.body.length cb] 34)).alloc (.cells #[.int .i64 0, .int .i64 0, .int .i64 0] 40)) = W at *
 refine (HF.out _ hB).mono ?_
 rintro e w2 ⟨rfl, hb⟩
 have HA : Hid (w2.heap[w.heap.size]? = some (.cells #[.slice av T.vars.length cv, .slice an T.nodes.length cn, .slice ab T.body.length cb] 34 (0, 0))) := blk hA hb
 have HA2 : Hid (w2.heap[w.heap.size + 1]? = some (.cells #[.int .i64 0, .int .i64 0, .int .i64 0] 40 (0, 0))) := blk hA2 hb
 have HB : Hid (Below w.heap.size w w2) := hB.trans (hb.mono hB.size)
 clear hA hA2 hB hb HF
 obtain ⟨F, hF⟩ : ∃ F, faultL T = F := ⟨_, rfl⟩
 rw [hF] at HM HBU HCM HC0 ⊢
 clear hF
 by_cases hz : F = 0
 ·subst hz
  have HCV : Hid (((c1, c2), c3) = if (mayF T).1 ≠ 0 then (mayF T, 0) else ((0, 0), budT T)) := HCM.out rfl
  obtain ⟨p0, p1, p2⟩ := cl3 HA.out
  have HM2 : Hid (∀ (w' : World), Below w.heap.size w w' → Calls Tryz.prog 47 #[treeV (.slice av T.vars.length cv) (.slice an T.nodes.length cn) (.slice ab T.body.length cb)] w' fun e w2 => e = .returned (errV (mayF T)) ∧ Below w'.heap.size w' w2) := HM.out rfl
  have HBU2 : Hid (∀ (w' : World), Below w.heap.size w w' → Calls Tryz.prog 48 #[treeV (.slice av T.vars.length cv) (.slice an T.nodes.length cn) (.slice ab T.body.length cb)] w' fun e w2 => e = .returned (.int .i64 (budT T)) ∧ Below w'.heap.size w' w2) := HBU.out rfl
  clear HCM HC0 HM HBU
  generalize mayF T = m at *
  generalize budT T = bu at *
  obtain ⟨m1, m2⟩ := m
  go_wp2_with fail
  refine (HM2.out _ HB.out).mono ?_
  rintro e w3 ⟨rfl, hb⟩
  have HA3 : Hid (w3.heap[w.heap.size]? = some (.cells #[.slice av T.vars.length cv, .slice an T.nodes.length cn, .slice ab T.body.length cb] 34 (0, 0))) := blk HA.out hb
  have HA4 : Hid (w3.heap[w.heap.size + 1]? = some (.cells #[.int .i64 0, .int .i64 0, .int .i64 0] 40 (0, 0))) := blk HA2.out hb
  have HB3 : Hid (Below w.heap.size w w3) := HB.out.trans (hb.mono HB.out.size)
  clear hb HA HA2 HB p0 p1 p2 HM2
  by_cases hm : m1 = 0
  ·subst hm
   have HCW : Hid (((c1, c2), c3) = ((0, 0), bu)) := by unfold Hid; rw [HCV.out, if_neg (by simp)]
   rw [errV_zero rfl]
   clear HCV
   go_wp2_with fail
   refine (misfit_nil _).mono ?_
   rintro e w4 ⟨rfl, hb⟩
   have hA5 := blk HA3.out hb
   have hA6 := blk HA4.out hb
   have hB4 : Below w.heap.size w w4 := HB3.out.trans (hb.mono HB3.out.size)
   have hbx : Below w4.heap.size w4 (w4.alloc (.cells #[.int .i64 0, .int .i64 0] 85)) := (Below.refl _ _).alloc (Nat.le_refl _) _
   have HA5 : Hid _ := blk hA5 hbx
   have HA6 : Hid _ := blk hA6 hbx
   have HB5 : Hid _ := hB4.trans (hbx.mono hB4.size)
   have hl1 : w.heap.size < w4.heap.size := blk_lt hA5
   have hl2 : w.heap.size + 1 < w4.heap.size := blk_lt hA6
   clear hb hA5 hA6 hB4 hbx HA3 HA4 HB3
   go_upto_region 7 with fail
   generalize w4.alloc (.cells #[.int .i64 0, .int .i64 0] 85) = W5 at *
   obtain ⟨p0, p1, p2⟩ := cl3 HA5.out
   go_wp2_with fail
   refine (HBU2.out _ HB5.out).mono ?_
   rintro e w6 ⟨rfl, hb⟩
   have hA7 := blk HA6.out hb
   have HB6 : Hid (Below w.heap.size w w6) := HB5.out.trans (hb.mono HB5.out.size)
   obtain ⟨r0, r1, r2⟩ := cl3 hA7
   obtain ⟨f0, f1, f2⟩ := fl3 hA7
   clear hA7 hb HA5 HA6 HB5 p0 p1 p2 HBU2
   go_wp2_with fail
   refine bodyPost_ret (v := .agg #[.int .i64 0, .int .i64 0, .int .i64 bu]) (by simp [results, Tryz.results14, go_sem, r0, r1, r2]) rfl ⟨?_, ((HB6.out.setCell (by simp) _).setCell (by simp) _).setCell (by simp) _⟩
   have e := HCW.out
   injection e with e1 e3
   injection e1 with e1 e2
   rw [e1, e2, e3]
  ·have HCW : Hid (((c1, c2), c3) = ((m1, m2), 0)) := by unfold Hid; rw [HCV.out, if_pos hm]
   rw [errV_met hm]
   clear HCV HBU2
   go_wp2_with fail
   refine (misfit_hit m1 m2 _ (HER.out _ HB3.out)).mono ?_
   rintro e w4 ⟨rfl, hb⟩
   have hA6 := blk HA4.out hb
   have hB4 : Below w.heap.size w w4 := HB3.out.trans (hb.mono HB3.out.size)
   have hbx : Below w4.heap.size w4 (w4.alloc (.cells #[.int .i64 m1, .int .i64 m2] 85)) := (Below.refl _ _).alloc (Nat.le_refl _) _
   have HA6 : Hid _ := blk hA6 hbx
   have HB5 : Hid _ := hB4.trans (hbx.mono hB4.size)
   have HV5 : Hid _ := heap_alloc_new w4 (.cells #[.int .i64 m1, .int .i64 m2] 85)
   have hl2 : w.heap.size + 1 < w4.heap.size := blk_lt hA6
   clear hb hA6 hB4 hbx HA3 HA4 HB3 hm
   go_upto_region 6 with fail
   generalize w4.alloc (.cells #[.int .i64 m1, .int .i64 m2] 85) = W5 at *
   generalize w4.heap.size = g4 at *
   obtain ⟨v0, v1⟩ := cl2 HV5.out
   obtain ⟨r0, r1, r2⟩ := cl3 HA6.out
   obtain ⟨f0, f1, f2⟩ := fl3 HA6.out
   go_wp2_with fail
   refine bodyPost_ret (v := .agg #[.int .i64 m1, .int .i64 m2, .int .i64 0]) (by simp [results, Tryz.results14, go_sem, r0, r1, r2]) rfl ⟨?_, ((HB5.out.setCell (by simp) _).setCell (by simp) _).setCell (by simp) _⟩
   have e := HCW.out
   injection e with e1 e3
   injection e1 with e1 e2
   rw [e1, e2, e3]
 ·have hzb : (F == 0) = false := by simpa using hz
  have hzd : decide (F = 0) = false := decide_eq_false hz
  have HCW : Hid (((c1, c2), c3) = ((F, -1), 0)) := HC0.out hz
  obtain ⟨r0, r1, r2⟩ := cl3 HA2.out
  obtain ⟨f0, f1, f2⟩ := fl3 HA2.out
  clear HCM HC0 HM HBU
  go_wp2_with fail
  refine bodyPost_ret (v := .agg #[.int .i64 F, .int .i64 (-1), .int .i64 0]) (by simp [results, Tryz.results14, go_sem, r0, r1, r2]) rfl ⟨?_, ((HB.out.setCell (by simp) _).setCell (by simp) _).setCell (by simp) _⟩
  have e := HCW.out
  injection e with e1 e3
  injection e1 with e1 e2
  rw [e1, e2, e3]
end Go.Proofs.YtepjaoapjpmjkaaGreatDoor
namespace Go.Proofs.YtepjaoapjpmjkaaGreatDoor
open Go.RowKit
set_option linter.unusedVariables false
def allW (zs : List Int) : Bool := zs.all fun z => decide (0 ≤ z ∧ z ≤ 65535)
theorem allW_iff {zs : List Int} : allW zs = true ↔ ∀ z ∈ zs, 0 ≤ z ∧ z ≤ 65535 := by unfold allW; rw [List.all_eq_true]; simp
theorem allW_ok {zs : List Int} (h : ∀ j, j < zs.length → 0 ≤ zs.getD j 0 ∧ zs.getD j 0 ≤ 65535) : allW zs = true := by
 rw [allW_iff]
 intro z hm
 obtain ⟨i, hi, rfl⟩ := List.getElem_of_mem hm
 have := h i hi
 rw [List.getD_eq_getElem?_getD, List.getElem?_eq_getElem hi] at this
 simpa using this
theorem allW_bad {zs : List Int} (i : Nat) (hi : i < zs.length) (h : zs.getD i 0 < 0 ∨ 65535 < zs.getD i 0) : allW zs = false := by
 cases hw : allW zs with
 | false => rfl
 | true =>
  have hm : zs.getD i 0 ∈ zs := by rw [List.getD_eq_getElem?_getD, List.getElem?_eq_getElem hi]; simp
  have := (allW_iff.1 hw) _ hm
  omega
theorem fault_allW {zs : List Int} (h : zs.length ≤ 400) : fault zs = if allW zs = true then 0 else 3 := by
 unfold fault
 rw [if_neg (by omega)]
 by_cases hw : ∀ z ∈ zs, 0 ≤ z ∧ z ≤ 65535
 ·rw [if_pos hw, if_pos (allW_iff.2 hw)]
 ·rw [if_neg hw, if_neg (fun h => hw (allW_iff.1 h))]
def staF (T : LTree) (zs : List Int) : Int := if (chkT T).1.1 ≠ 0 then (chkT T).1.1 else if (zs.length : Int) ≠ cellsL (allL 0 T) then 1 else if allW zs = true then 0 else 3
theorem chk_good {T : LTree} (h : (chkT T).1.1 = 0) : faultL T = 0 ∧ cellsL (allL 0 T) ≤ 60 := by
 unfold chkT at h
 by_cases h0 : faultL T = 0
 ·rw [if_neg (by simpa using h0)] at h
  refine ⟨h0, ?_⟩
  by_cases h1 : namesF (allL 3 T) T.vars.length = 0
  ·rw [if_neg (by simpa using h1)] at h
   by_cases h2 : (bodyF (allL 3 T) T).1 = 0
   ·rw [if_neg (by simpa using h2)] at h
    by_cases h3 : 2000 < budT T ∨ 60 < cellsL (allL 3 T)
    ·rw [if_pos h3] at h; simp at h
    ·rw [cells_kind] at h3; omega
   ·rw [if_pos h2] at h; exact absurd h h2
  ·rw [if_pos h1] at h; exact absurd h h1
 ·rw [if_pos h0] at h; exact absurd h h0
end Go.Proofs.YtepjaoapjpmjkaaGreatDoor
namespace Go.Proofs.YtepjaoapjpmjkaaGreatDoor
open Go.RowKit
set_option linter.unusedVariables false
attribute [local go_sem] bs_size bs_get bs_extract bs_append bs_eq bs_toList
set_option maxHeartbeats 800000 in
theorem l6AllW_any (a : Option Addr) (zs : List Int) (cap : Nat) (w : World) (hlen : zs.length ≤ 1048576) (hn : Nums w a zs) :
  Calls Tryz.prog 99 #[.slice a zs.length cap] w fun e w' => e = .returned (.bool (allW zs)) ∧ w' = w := by
 go_enter Tryz.func99, Tryz.ntmps99
 go_wp2
 go_loop [3] (fun i => ∃ k : Nat, k ≤ zs.length ∧ i = .int .i64 k ∧ ∀ j, j < k → 0 ≤ zs.getD j 0 ∧ zs.getD j 0 ≤ 65535) (fun i => zs.length - (intOf i).toNat)
 case atStart => exact ⟨0, Nat.zero_le _, rfl, fun j hj => by omega⟩
 case round =>
  obtain ⟨k, hk, rfl, ho⟩ := hrel
  have HO : Hid _ := ho
  clear ho
  by_cases hlt : k < zs.length
  ·rcases hn with hn | ⟨b, off, rfl, hc⟩
   ·subst hn; simp at hlt
   have hcell := hc k hlt
   clear hc
   obtain ⟨z, hz⟩ : ∃ z, z = zs.getD k 0 := ⟨_, rfl⟩
   rw [← hz] at hcell
   have HZ : Hid _ := hz
   clear hz
   by_cases h5 : 0 ≤ z ∧ z ≤ 65535
   ·obtain ⟨h5, h6⟩ := h5
    go_wp2_with (go_at_call 104; refine (l1Word_yes _ _ h5 h6).mono ?_; rintro e w' ⟨rfl, rfl⟩)
    go_round
    case rel =>
     refine ⟨k + 1, by omega, by go_num, fun j hj => ?_⟩
     by_cases hjk : j = k
     ·subst hjk; rw [← HZ.out]; exact ⟨h5, h6⟩
     ·exact HO.out j (by omega)
    case measure => simp [intOf]; omega
   ·have h6 : z < 0 ∨ 65535 < z := by omega
    have H6 : Hid _ := h6
    clear h6 h5
    go_wp2_with (go_at_call 104; refine (l1Word_no _ _ H6.out).mono ?_; rintro e w' ⟨rfl, rfl⟩)
    go_ret
    have hf := allW_bad k hlt (by rw [← HZ.out]; exact H6.out)
    exact ⟨by rw [hf]; rfl, rfl⟩
  ·have hk2 : k = zs.length := by omega
   subst hk2
   go_wp2
   go_ret
   have hf := allW_ok HO.out
   exact ⟨by rw [hf]; rfl, rfl⟩
set_option maxHeartbeats 6400000 in
set_option maxRecDepth 100000 in
theorem l6Fault_any (lo p q : Nat) (vv vn vb : Value) (T : LTree) (a : Option Addr) (zs : List Int) (cap : Nat) (w : World) (h : TreeP lo w p vv vn vb T) (hS : Sized 1048576 T) (hq : w.cell? ⟨q, 0, none⟩ = some (.slice a zs.length cap)) (hn : Nums w a zs) (hlen : zs.length ≤ 1048576) :
  Calls Tryz.prog 57 #[.pointer (some ⟨p, 0, none⟩), .pointer (some ⟨q, 0, none⟩)] w fun e w' => e = .returned (.int .i64 (staF T zs)) ∧ Below w.heap.size w w' := by
 have HX : Hid (Calls Tryz.prog 46 #[.pointer (some ⟨p, 0, none⟩)] w fun e w' => e = .returned (.agg #[.int .i64 (chkT T).1.1, .int .i64 (chkT T).1.2, .int .i64 (chkT T).2]) ∧ Below w.heap.size w w') := l5Tree_any lo p vv vn vb T w h hS
 have HAL : Hid ((chkT T).1.1 = 0 → ∀ (w' : World), Below w.heap.size w w' → Calls Tryz.prog 33 #[.pointer (some ⟨p, 0, none⟩)] w' fun e w2 => ∃ v, e = .returned v ∧ w2.ownsRow w'.heap.size 108 4 v (allL 3 T).length (varCells (allL 3 T)) ∧ Below w'.heap.size w' w2) := fun h0 w' hb => l5All_any lo p vv vn vb T w' (h.below hb) (good_of (chk_good h0).1)
 have HCE : Hid ((chkT T).1.1 = 0 → ∀ (ad : Option Addr) (c : Nat) (W : World), RowV W ad (allL 3 T) → Calls Tryz.prog 49 #[.slice ad (allL 3 T).length c] W fun e w' => e = .returned (.int .i64 (cellsL (allL 0 T))) ∧ Below W.heap.size W w') := fun h0 ad c W hr => by
  have g := good_of (chk_good h0).1
  have := l5Cells_any (allL 3 T) ad (allL 3 T).length c W (Nat.le_refl _) hr (g.sizes 3) (g.all_len 3)
  rwa [List.take_length, cells_kind] at this
 have HL6 : Hid (∀ W, Below w.heap.size w W → Calls Tryz.prog 99 #[.slice a zs.length cap] W fun e w' => e = .returned (.bool (allW zs)) ∧ w' = W) := fun W hb => l6AllW_any a zs cap W hlen (hn.below hb)
 have HQ : Hid (∀ W, Below w.heap.size w W → W.cell? ⟨q, 0, none⟩ = some (.slice a zs.length cap)) := fun W hb => (hb.cell (p := ⟨q, 0, none⟩) (World.block_lt_of_cell? _ _ hq)).trans hq
 have HST : Hid (staF T zs = if (chkT T).1.1 ≠ 0 then (chkT T).1.1 else if (zs.length : Int) ≠ cellsL (allL 0 T) then 1 else if allW zs = true then 0 else 3) := rfl
 clear h hS hq hn
 generalize staF T zs = R at *
 generalize (chkT T).1.1 = c1 at *
 generalize (chkT T).1.2 = c2 at *
 generalize (chkT T).2 = c3 at *
 generalize cellsL (allL 0 T) = z at *
 generalize allW zs = aw at *
 go_enter Tryz.func57, Tryz.ntmps57
 go_wp2_with fail
 refine HX.out.mono ?_
 rintro e w2 ⟨rfl, hb⟩
 have HB := hid hb
 clear hb HX
 by_cases hc : c1 = 0
 ·subst hc
  have HST2 : Hid (R = if (zs.length : Int) ≠ z then 1 else if aw = true then 0 else 3) := by unfold Hid; rw [HST.out, if_neg (by simp)]
  have HAL2 := HAL.out rfl
  have HCE2 := HCE.out rfl
  clear HST HAL HCE
  have HAL : Hid _ := HAL2
  have HCE : Hid _ := HCE2
  clear HAL2 HCE2
  go_upto_region 4 with fail
  have HB3 : Hid (Below w.heap.size w (w2.alloc (.cells #[.int .i64 0, .int .i64 c2, .int .i64 c3] 40))) := HB.out.alloc HB.out.size _
  generalize w2.alloc (.cells #[.int .i64 0, .int .i64 c2, .int .i64 c3] 40) = W3 at *
  have q0 : W3.cell? ⟨q, 0, none⟩ = some (.slice a zs.length cap) := HQ.out _ HB3.out
  clear HB
  by_cases hz : (zs.length : Int) = z
  ·subst hz
   have HR : Hid (R = if aw = true then 0 else 3) := by unfold Hid; rw [HST2.out, if_neg (by simp)]
   clear HST2
   go_region_held3 (fun W => W.cell? ⟨q, 0, none⟩ = some (.slice a zs.length cap)) (go_keep) (first | (go_at_call 33; refine (HAL.out _ HB3.out.drew).mono ?_; rintro e w7 ⟨v, rfl, hown, hb⟩; obtain ⟨ad, cp, rfl⟩ := rowE_shape hown; have HRV : Hid (RowV w7 ad (allL 3 T)) := RowV.of_own hown rfl; have HD : Hid (Below w.heap.size w w7) := HB3.out.drew.trans (hb.mono HB3.out.drew.size); have q0 := HQ.out _ HD.out; clear hb hown) | (go_at_call 49; refine (HCE.out _ _ _ HRV.out).mono ?_; rintro e w8 ⟨rfl, hb⟩; have HE : Hid (Below w.heap.size w w8) := HD.out.trans (hb.mono HD.out.size); have q0 := HQ.out _ HE.out; clear hb))
   go_wp2_with fail
   refine (HL6.out _ HE.out).mono ?_
   rintro e w9 ⟨rfl, rfl⟩
   cases aw with
   | true =>
    go_wp2_with fail
    go_ret
    exact ⟨by rw [HR.out]; rfl, HE.out⟩
   | false =>
    go_wp2_with fail
    go_ret
    exact ⟨by rw [HR.out]; rfl, HE.out⟩
  ·have hz1 : ((zs.length : Int) == z) = false := by simpa using hz
   have hz2 : decide ((zs.length : Int) = z) = false := decide_eq_false hz
   have HR : Hid (R = 1) := by unfold Hid; rw [HST2.out, if_pos hz]
   clear HST2
   go_region_held3 (fun W => W.cell? ⟨q, 0, none⟩ = some (.slice a zs.length cap)) (go_keep) (first | (go_at_call 33; refine (HAL.out _ HB3.out.drew).mono ?_; rintro e w7 ⟨v, rfl, hown, hb⟩; obtain ⟨ad, cp, rfl⟩ := rowE_shape hown; have HRV : Hid (RowV w7 ad (allL 3 T)) := RowV.of_own hown rfl; have HD : Hid (Below w.heap.size w w7) := HB3.out.drew.trans (hb.mono HB3.out.drew.size); have q0 := HQ.out _ HD.out; clear hb hown) | (go_at_call 49; refine (HCE.out _ _ _ HRV.out).mono ?_; rintro e w8 ⟨rfl, hb⟩; have HE : Hid (Below w.heap.size w w8) := HD.out.trans (hb.mono HD.out.size); have q0 := HQ.out _ HE.out; clear hb))
   go_wp2_with fail
   go_ret
   exact ⟨by rw [HR.out]; rfl, HE.out⟩
 ·have hz1 : (c1 == 0) = false := by simpa using hc
  have hz2 : decide (c1 = 0) = false := decide_eq_false hc
  have HR : Hid (R = c1) := by unfold Hid; rw [HST.out, if_pos hc]
  clear HST HAL HCE HL6 HQ
  go_wp2_with fail
  go_ret
  exact ⟨by rw [HR.out]; rfl, HB.out.alloc HB.out.size _⟩
end Go.Proofs.YtepjaoapjpmjkaaGreatDoor
