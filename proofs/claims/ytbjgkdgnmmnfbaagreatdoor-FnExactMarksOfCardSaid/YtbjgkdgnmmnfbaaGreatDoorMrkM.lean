/-
  The places of a tree's statements, plainly.
-/
import Derived.Test.YtbjgkdgnmmnfbaaGreatDoorTreeMath
import Derived.Test.YtbjgkdgnmmnfbaaGreatDoorAsHit
import Derived.Test.YtbjgkdgnmmnfbaaGreatDoorIShape
import Derived.Test.YtbjgkdgnmmnfbaaGreatDoorIFault
import Derived.Test.YtbjgkdgnmmnfbaaGreatDoorSTree
import Derived.Test.YtbjgkdgnmmnfbaaGreatDoorSCall
namespace Go.Proofs.YtbjgkdgnmmnfbaaGreatDoor
open Go.RowKit
set_option linter.unusedVariables false
def b01 (b : Bool) : Int := if b then 1 else 0
def wordsB (zs : List Int) : Bool := zs.all (fun z => inB z 0 65535)
theorem wordsB_mem {zs : List Int} (h : wordsB zs = true) {z : Int} (hz : z ∈ zs) : 0 ≤ z ∧ z ≤ 65535 := by
 unfold wordsB at h
 rw [List.all_eq_true] at h
 exact inB_iff.1 (h z hz)
theorem wordsB_ok {zs : List Int} (h : ∀ j, j < zs.length → 0 ≤ zs.getD j 0 ∧ zs.getD j 0 ≤ 65535) : wordsB zs = true := by
 unfold wordsB
 rw [List.all_eq_true]
 intro z hz
 obtain ⟨i, hi, rfl⟩ := List.getElem_of_mem hz
 have := h i hi
 rw [List.getD_eq_getElem?_getD, List.getElem?_eq_getElem hi] at this
 exact inB_iff.2 this
theorem wordsB_bad {zs : List Int} (i : Nat) (hi : i < zs.length) (h : zs.getD i 0 < 0 ∨ 65535 < zs.getD i 0) : wordsB zs = false := by
 cases hw : wordsB zs with
 | false => rfl
 | true =>
  have hm : zs.getD i 0 ∈ zs := by rw [List.getD_eq_getElem?_getD, List.getElem?_eq_getElem hi]; simp
  have := wordsB_mem hw hm
  omega
theorem wordsB_get {zs : List Int} (h : wordsB zs = true) {i : Nat} (hi : i < zs.length) : 0 ≤ zs.getD i 0 ∧ zs.getD i 0 ≤ 65535 :=
 wordsB_mem h (by rw [List.getD_eq_getElem?_getD, List.getElem?_eq_getElem hi]; simp)
theorem wordsB_take {zs : List Int} (h : wordsB zs = true) (n : Nat) : wordsB (zs.take n) = true := by
 unfold wordsB at *
 rw [List.all_eq_true] at *
 exact fun z hz => h z (List.mem_of_mem_take hz)
theorem wordsB_snoc {zs : List Int} (h : wordsB zs = true) {z : Int} (h0 : 0 ≤ z) (h1 : z ≤ 65535) : wordsB (zs ++ [z]) = true := by
 unfold wordsB at *
 rw [List.all_append, h]
 simp [inB, h0, h1]
theorem wordsB_set {zs : List Int} (h : wordsB zs = true) {z : Int} (i : Nat) (h0 : 0 ≤ z) (h1 : z ≤ 65535) : wordsB (zs.set i z) = true := by
 unfold wordsB at *
 rw [List.all_eq_true] at *
 intro x hx
 rcases List.mem_or_eq_of_mem_set hx with hx | rfl
 ·exact h x hx
 ·exact inB_iff.2 ⟨h0, h1⟩
def allB (Z : Nat → List Int) (n : Nat) : Bool := (List.range n).all (fun i => wordsB (Z i))
theorem allB_ok {Z : Nat → List Int} {n : Nat} (h : ∀ i, i < n → wordsB (Z i) = true) : allB Z n = true := by
 unfold allB
 rw [List.all_eq_true]
 exact fun i hi => h i (List.mem_range.1 hi)
theorem allB_bad {Z : Nat → List Int} {n : Nat} (i : Nat) (hi : i < n) (h : wordsB (Z i) = false) : allB Z n = false := by
 cases hw : allB Z n with
 | false => rfl
 | true =>
  unfold allB at hw
  rw [List.all_eq_true] at hw
  rw [hw i (List.mem_range.2 hi)] at h
  cases h
theorem allB_one (Z : Nat → List Int) : allB Z 1 = wordsB (Z 0) := by
 unfold allB; simp [List.range_succ]
theorem allB_three (Z : Nat → List Int) : allB Z 3 = (wordsB (Z 0) && wordsB (Z 1) && wordsB (Z 2)) := by
 unfold allB; simp [List.range_succ, Bool.and_assoc]
end Go.Proofs.YtbjgkdgnmmnfbaaGreatDoor
namespace Go.Proofs.YtbjgkdgnmmnfbaaGreatDoor
open Go.RowKit
def isWord (z : Int) : Prop := 0 ≤ z ∧ z ≤ 65535
theorem fitsWord_yes (z : Int) (w : World) (h1 : 0 ≤ z) (h2 : z ≤ 65535) :
  Calls Tryz.prog 122 #[.int .i64 z] w fun e w' => e = .returned (.bool true) ∧ w' = w := by
 go_enter Tryz.func122, Tryz.ntmps122
 go_wp2
 go_ret
 exact ⟨rfl, rfl⟩
theorem fitsWord_no (z : Int) (w : World) (h : z < 0 ∨ 65535 < z) :
  Calls Tryz.prog 122 #[.int .i64 z] w fun e w' => e = .returned (.bool false) ∧ w' = w := by
 rcases h with h | h
 ·have hd : decide (0 ≤ z) = false := decide_eq_false (by omega)
  go_enter Tryz.func122, Tryz.ntmps122
  go_wp2
  go_ret
  exact ⟨rfl, rfl⟩
 ·have h0 : 0 ≤ z := by omega
  have hd : decide (z ≤ 65535) = false := decide_eq_false (by omega)
  go_enter Tryz.func122, Tryz.ntmps122
  go_wp2
  go_ret
  exact ⟨rfl, rfl⟩
theorem l1In_yes (z a b : Int) (w : World) (h1 : a ≤ z) (h2 : z ≤ b) :
  Calls Tryz.prog 56 #[.int .i64 z, .int .i64 a, .int .i64 b] w fun e w' => e = .returned (.bool true) ∧ w' = w := by
 go_enter Tryz.func56, Tryz.ntmps56
 go_wp2
 go_ret
 exact ⟨rfl, rfl⟩
theorem l1In_no (z a b : Int) (w : World) (h : z < a ∨ b < z) :
  Calls Tryz.prog 56 #[.int .i64 z, .int .i64 a, .int .i64 b] w fun e w' => e = .returned (.bool false) ∧ w' = w := by
 by_cases h1 : a ≤ z
 ·have hd : decide (z ≤ b) = false := decide_eq_false (by omega)
  clear h
  go_enter Tryz.func56, Tryz.ntmps56
  go_wp2
  go_ret
  exact ⟨rfl, rfl⟩
 ·have hd : decide (a ≤ z) = false := decide_eq_false (by omega)
  clear h
  go_enter Tryz.func56, Tryz.ntmps56
  go_wp2
  go_ret
  exact ⟨rfl, rfl⟩
theorem l1Word_yes (z : Int) (w : World) (h1 : 0 ≤ z) (h2 : z ≤ 65535) :
  Calls Tryz.prog 106 #[.int .i64 z] w fun e w' => e = .returned (.bool true) ∧ w' = w := by
 go_enter Tryz.func106, Tryz.ntmps106
 go_wp2_with (go_at_call 56; refine (l1In_yes _ _ _ _ h1 h2).mono ?_; rintro e w' ⟨rfl, rfl⟩)
 go_ret
 exact ⟨rfl, rfl⟩
theorem l1Word_no (z : Int) (w : World) (h : z < 0 ∨ 65535 < z) :
  Calls Tryz.prog 106 #[.int .i64 z] w fun e w' => e = .returned (.bool false) ∧ w' = w := by
 go_enter Tryz.func106, Tryz.ntmps106
 go_wp2_with (go_at_call 56; refine (l1In_no _ _ _ _ h).mono ?_; rintro e w' ⟨rfl, rfl⟩)
 go_ret
 exact ⟨rfl, rfl⟩
def fault (zs : List Int) : Int := if 400 < zs.length then 2 else if ∀ z ∈ zs, 0 ≤ z ∧ z ≤ 65535 then 0 else 3
theorem fault_many {zs : List Int} (h : 400 < zs.length) : fault zs = 2 := by rw [fault, if_pos h]
theorem fault_ok {zs : List Int} (h : zs.length ≤ 400) (hz : ∀ i, i < zs.length → 0 ≤ zs.getD i 0 ∧ zs.getD i 0 ≤ 65535) : fault zs = 0 := by
 rw [fault, if_neg (by omega), if_pos]
 intro z hm
 obtain ⟨i, hi, rfl⟩ := List.getElem_of_mem hm
 have := hz i hi
 rw [List.getD_eq_getElem?_getD, List.getElem?_eq_getElem hi] at this
 simpa using this
theorem fault_bad {zs : List Int} (h : zs.length ≤ 400) (i : Nat) (hi : i < zs.length) (hz : zs.getD i 0 < 0 ∨ 65535 < zs.getD i 0) : fault zs = 3 := by
 rw [fault, if_neg (by omega), if_neg]
 intro ha
 have hm : zs.getD i 0 ∈ zs := by
  rw [List.getD_eq_getElem?_getD, List.getElem?_eq_getElem hi]; simp
 have := ha _ hm
 omega
theorem fault_all {zs : List Int} (h : zs.length ≤ 400) : fault zs = if wordsB zs then 0 else 3 := by
 rw [fault, if_neg (by omega)]
 by_cases hw : wordsB zs = true
 ·rw [if_pos (fun z hz => wordsB_mem hw hz), if_pos hw]
 ·rw [if_neg (fun h => hw (by unfold wordsB; rw [List.all_eq_true]; exact fun z hz => inB_iff.2 (h z hz))), if_neg hw]
set_option maxHeartbeats 800000 in
theorem allWords_any (g cap n : Nat) (A : Nat → Option Addr) (Z : Nat → List Int) (C : Nat → Nat) (w : World) (hn8 : n ≤ 8)
  (hg : ∀ i, i < n → w.cell? ⟨g, i, none⟩ = some (.slice (A i) (Z i).length (C i)))
  (hlen : ∀ i, i < n → (Z i).length ≤ 9223372036854775807) (hn : ∀ i, i < n → Nums w (A i) (Z i)) :
  Calls Tryz.prog 109 #[.slice (some ⟨g, 0, none⟩) n cap] w fun e w' => e = .returned (.bool (allB Z n)) ∧ w' = w := by
 go_enter Tryz.func109, Tryz.ntmps109
 go_wp2
 go_loop [4, 9] (fun _ i => ∃ k : Nat, k ≤ n ∧ i = .int .i64 k ∧ ∀ j, j < k → wordsB (Z j) = true) (fun _ i => n - (intOf i).toNat)
 case atStart => exact ⟨0, Nat.zero_le _, rfl, fun j hj => by omega⟩
 case round =>
  obtain ⟨k, hk, rfl, ho⟩ := hrel
  have HO : Hid _ := ho
  clear ho
  by_cases hlt : k < n
  ·have hcell := hg k hlt
   have hl := hlen k hlt
   have hnn := hn k hlt
   have HB : Hid (∀ m, m < (Z k).length → ((Z k).getD m 0 < 0 ∨ 65535 < (Z k).getD m 0) → allB Z n = false) := fun m hm hz => allB_bad k hlt (wordsB_bad m hm hz)
   have HG : Hid (wordsB (Z k) = true → ∀ j, j < k + 1 → wordsB (Z j) = true) := fun hw j hj => by
    by_cases e : j = k
    ·subst e; exact hw
    ·exact HO.out j (by omega)
   generalize hzs : Z k = zs at *
   generalize A k = a at *
   generalize C k = c at *
   clear hg hlen hn hzs HO
   go_wp2
   go_loop [6, 15] (fun _ i => ∃ m : Nat, m ≤ zs.length ∧ i = .int .i64 m ∧ ∀ j, j < m → 0 ≤ zs.getD j 0 ∧ zs.getD j 0 ≤ 65535) (fun _ i => zs.length - (intOf i).toNat)
   case atStart => exact ⟨0, Nat.zero_le _, rfl, fun j hj => by omega⟩
   case round =>
    obtain ⟨m, hm, rfl, ho⟩ := hrel
    have HO : Hid _ := ho
    clear ho
    by_cases hlm : m < zs.length
    ·rcases hnn with hnn | ⟨b, off, rfl, hc⟩
     ·subst hnn; simp at hlm
     have hcell2 := hc m hlm
     clear hc
     obtain ⟨z, hz⟩ : ∃ z, z = zs.getD m 0 := ⟨_, rfl⟩
     rw [← hz] at hcell2
     have HZ : Hid _ := hz
     clear hz
     by_cases h5 : 0 ≤ z ∧ z ≤ 65535
     ·obtain ⟨h5, h6⟩ := h5
      go_wp2_with (go_at_call 122; refine (fitsWord_yes _ _ h5 h6).mono ?_; rintro e w' ⟨rfl, rfl⟩)
      go_round
      case rel =>
       refine ⟨m + 1, by omega, by go_num, fun j hj => ?_⟩
       by_cases hjk : j = m
       ·subst hjk; rw [← HZ.out]; exact ⟨h5, h6⟩
       ·exact HO.out j (by omega)
      case measure => simp [intOf]; omega
     ·have h6 : z < 0 ∨ 65535 < z := by omega
      have H6 : Hid _ := h6
      clear h6 h5
      go_wp2_with (go_at_call 122; refine (fitsWord_no _ _ H6.out).mono ?_; rintro e w' ⟨rfl, rfl⟩)
      go_ret
      exact ⟨by rw [HB.out m hlm (by rw [← HZ.out]; exact H6.out)]; rfl, rfl⟩
    ·have hk2 : m = zs.length := by omega
     subst hk2
     go_wp2
     go_round
     case rel => exact ⟨k + 1, by omega, by go_num, HG.out (wordsB_ok HO.out)⟩
     case measure => simp [intOf]; omega
  ·have hk2 : k = n := by omega
   subst hk2
   go_wp2
   go_ret
   exact ⟨by rw [allB_ok HO.out]; rfl, rfl⟩
set_option maxHeartbeats 400000 in
theorem implFault_any (a : Option Addr) (zs : List Int) (cap : Nat) (w : World) (hlen : zs.length ≤ 9223372036854775807) (hn : Nums w a zs) :
  Calls Tryz.prog 76 #[.slice a zs.length cap] w fun e w' => e = .returned (.int .i64 (fault zs)) ∧ Below w.heap.size w w' := by
 by_cases h4 : 400 < zs.length
 ·rw [fault_many h4]
  go_enter Tryz.func76, Tryz.ntmps76
  go_wp2
  go_ret
  exact ⟨rfl, Below.refl _ _⟩
 ·have HA : Hid (∀ W, Below w.heap.size w W → W.cell? ⟨w.heap.size, 0, none⟩ = some (.slice a zs.length cap) → Calls Tryz.prog 109 #[.slice (some ⟨w.heap.size, 0, none⟩) 1 1] W fun e w' => e = .returned (.bool (wordsB zs)) ∧ w' = W) := fun W hb hc => by
   have := allWords_any w.heap.size 1 1 (fun _ => a) (fun _ => zs) (fun _ => cap) W (by omega) (fun i hi => by rw [show i = 0 from by omega]; exact hc) (fun i hi => hlen) (fun i hi => hn.below hb)
   rw [allB_one] at this
   exact this
  have HF : Hid (fault zs = if wordsB zs then 0 else 3) := fault_all (by omega)
  have hB : Below w.heap.size w (w.alloc (.cells #[.slice a zs.length cap] 24 (0, 0))) := (Below.refl _ _).alloc (Nat.le_refl _) _
  have hC : (w.alloc (.cells #[.slice a zs.length cap] 24 (0, 0))).cell? ⟨w.heap.size, 0, none⟩ = some (.slice a zs.length cap) := by simp [go_sem]
  have HX : Hid (Calls Tryz.prog 109 #[.slice (some ⟨w.heap.size, 0, none⟩) 1 1] (w.alloc (.cells #[.slice a zs.length cap] 24 (0, 0))) fun e w' => e = .returned (.bool (wordsB zs)) ∧ w' = (w.alloc (.cells #[.slice a zs.length cap] 24 (0, 0)))) := HA.out _ hB hC
  have HB : Hid _ := hB
  clear HA hB hC hn
  obtain ⟨q, hq⟩ : ∃ q, q = wordsB zs := ⟨_, rfl⟩
  rw [← hq] at HX HF
  clear hq
  go_enter Tryz.func76, Tryz.ntmps76
  go_wp2_with fail
  refine HX.out.mono ?_
  rintro e w' ⟨rfl, rfl⟩
  clear HX
  cases q
  ·go_wp2_with fail
   go_ret
   exact ⟨by rw [HF.out]; rfl, HB.out⟩
  ·go_wp2_with fail
   go_ret
   exact ⟨by rw [HF.out]; rfl, HB.out⟩
end Go.Proofs.YtbjgkdgnmmnfbaaGreatDoor
namespace Go.Proofs.YtbjgkdgnmmnfbaaGreatDoor
open Go.RowKit
set_option linter.unusedVariables false
attribute [local go_sem] bs_size bs_get bs_extract bs_append bs_eq bs_toList
theorem any_name (V W : List LVar) : V.map LVar.name = W.map LVar.name → V.any (fun v => !isNameL v.name) = W.any (fun v => !isNameL v.name) := by
 intro h
 have e : ∀ U : List LVar, U.any (fun v => !isNameL v.name) = (U.map LVar.name).any (fun l => !isNameL l) := fun U => by rw [List.any_map]; rfl
 rw [e, e, h]
theorem names_kind (T : LTree) : namesF (allL 3 T) T.vars.length = namesF (allL 0 T) T.vars.length := by
 unfold namesF
 rw [dup_kind T]
 have : (List.drop T.vars.length (allL 3 T)).any (fun v => !isNameL v.name) = (List.drop T.vars.length (allL 0 T)).any (fun v => !isNameL v.name) := by
  apply any_name
  rw [List.map_drop, List.map_drop, nts_names (allL_nts T)]
 rw [this]
theorem must_kind (T : LTree) : mustT (allL 3 T) T.vars.length T.nodes = mustT (allL 0 T) T.vars.length T.nodes := by
 funext y t st
 unfold mustT
 rw [typeF_kind]
theorem body_kind (T : LTree) : bodyF (allL 3 T) T = bodyF (allL 0 T) T := by unfold bodyF; rw [must_kind]
theorem cells_kind (T : LTree) : cellsL (allL 3 T) = cellsL (allL 0 T) := by
 have h := cellsL_kind T (allL 3 T).length
 rw [List.take_length, allL_len T, List.take_length] at h; exact h
theorem chk_may {T : LTree} (h0 : faultL T = 0) : chkT T = if (mayF T).1 ≠ 0 then (mayF T, 0) else ((0, 0), budT T) := by
 unfold chkT mayF
 rw [if_neg (by simp [h0]), names_kind, body_kind, cells_kind]
 by_cases h1 : namesF (allL 0 T) T.vars.length ≠ 0
 ·rw [if_pos h1, if_pos h1, if_pos h1]
 rw [if_neg h1, if_neg h1]
 by_cases h2 : (bodyF (allL 0 T) T).1 ≠ 0
 ·rw [if_pos h2, if_pos h2, if_pos h2]
 rw [if_neg h2, if_neg h2]
 by_cases h3 : 2000 < budT T ∨ 60 < cellsL (allL 0 T)
 ·rw [if_pos h3, if_pos h3, if_pos (by simp)]
 ·rw [if_neg h3, if_neg h3, if_neg (by simp)]
def Tree3 (f : FuncId) (R : LTree → Met × Int) : Prop := ∀ (lo : Nat) (vv vn vb : Value) (T : LTree) (w : World), TreeV lo w vv vn vb T → Sized 1048576 T →
 Calls Tryz.prog f #[treeV vv vn vb] w fun e w' => e = .returned (.agg #[.int .i64 (R T).1.1, .int .i64 (R T).1.2, .int .i64 (R T).2]) ∧ Below w.heap.size w w'
def Tree3G (f : FuncId) (R : LTree → Met × Int) : Prop := ∀ (lo : Nat) (vv vn vb : Value) (T : LTree) (w : World), TreeV lo w vv vn vb T → Sized 1048576 T → ErrT w →
 Calls Tryz.prog f #[treeV vv vn vb] w fun e w' => e = .returned (.agg #[.int .i64 (R T).1.1, .int .i64 (R T).1.2, .int .i64 (R T).2]) ∧ Below w.heap.size w w'
set_option maxHeartbeats 6400000 in
set_option maxRecDepth 100000 in
theorem implCheckTree : Tree3G 33 chkT := by
 intro lo vv vn vb T w h hS hE
 have HF : Hid (∀ (w' : World), Below w.heap.size w w' → Calls Tryz.prog 59 #[treeV vv vn vb] w' fun e w2 => e = .returned (.int .i64 (faultL T)) ∧ Below w'.heap.size w' w2) := fun w' hb => implTreeFault lo _ _ _ T w' (h.below hb) hS
 have HM : Hid (faultL T = 0 → ∀ (w' : World), Below w.heap.size w w' → Calls Tryz.prog 61 #[treeV vv vn vb] w' fun e w2 => e = .returned (errV (mayF T)) ∧ Below w'.heap.size w' w2) := fun h0 w' hb => mayRun_any lo vv vn vb T w' (h.below hb) hS h0
 have HBU : Hid (faultL T = 0 → ∀ (w' : World), Below w.heap.size w w' → Calls Tryz.prog 62 #[treeV vv vn vb] w' fun e w2 => e = .returned (.int .i64 (budT T)) ∧ Below w'.heap.size w' w2) := fun h0 w' hb => budgetOf_any lo vv vn vb T w' (h.below hb) hS (good_of h0)
 have HER : Hid (∀ w', Below w.heap.size w w' → ErrT w') := fun w' hb => hE.kept hb
 obtain ⟨av, cv, rfl, _⟩ := id h.vars
 obtain ⟨an, cn, rfl, _⟩ := id h.nodes
 obtain ⟨ab, cb, rfl, _⟩ := id h.body
 have HCM : Hid (faultL T = 0 → chkT T = if (mayF T).1 ≠ 0 then (mayF T, 0) else ((0, 0), budT T)) := chk_may
 have HC0 : Hid (faultL T ≠ 0 → chkT T = ((faultL T, -1), 0)) := fun h0 => by unfold chkT; rw [if_pos h0]
 clear h hS hE
 obtain ⟨⟨⟨c1, c2⟩, c3⟩, hR⟩ : ∃ R, R = chkT T := ⟨_, rfl⟩
 rw [← hR] at HCM HC0 ⊢
 clear hR
 go_enter Tryz.func33, Tryz.ntmps33
 go_wp2_with fail
 obtain ⟨hA, hA2, hB⟩ := three_start w (.slice av T.vars.length cv) (.slice an T.nodes.length cn) (.slice ab T.body.length cb) 34 58
 generalize ((w.alloc (.cells #[.slice av T.vars.length cv, .slice an T.nodes.length cn, .slice ab T.body.length cb] 34)).alloc (.cells #[.int .i64 0, .int .i64 0, .int .i64 0] 58)) = W at *
 refine (HF.out _ hB).mono ?_
 rintro e w2 ⟨rfl, hb⟩
 have HA : Hid (w2.heap[w.heap.size]? = some (.cells #[.slice av T.vars.length cv, .slice an T.nodes.length cn, .slice ab T.body.length cb] 34 (0, 0))) := blk hA hb
 have HA2 : Hid (w2.heap[w.heap.size + 1]? = some (.cells #[.int .i64 0, .int .i64 0, .int .i64 0] 58 (0, 0))) := blk hA2 hb
 have HB : Hid (Below w.heap.size w w2) := hB.trans (hb.mono hB.size)
 clear hA hA2 hB hb HF
 obtain ⟨F, hF⟩ : ∃ F, faultL T = F := ⟨_, rfl⟩
 rw [hF] at HM HBU HCM HC0 ⊢
 clear hF
 by_cases hz : F = 0
 ·subst hz
  have HCV : Hid (((c1, c2), c3) = if (mayF T).1 ≠ 0 then (mayF T, 0) else ((0, 0), budT T)) := HCM.out rfl
  obtain ⟨p0, p1, p2⟩ := cl3 HA.out
  have HM2 : Hid (∀ (w' : World), Below w.heap.size w w' → Calls Tryz.prog 61 #[treeV (.slice av T.vars.length cv) (.slice an T.nodes.length cn) (.slice ab T.body.length cb)] w' fun e w2 => e = .returned (errV (mayF T)) ∧ Below w'.heap.size w' w2) := HM.out rfl
  have HBU2 : Hid (∀ (w' : World), Below w.heap.size w w' → Calls Tryz.prog 62 #[treeV (.slice av T.vars.length cv) (.slice an T.nodes.length cn) (.slice ab T.body.length cb)] w' fun e w2 => e = .returned (.int .i64 (budT T)) ∧ Below w'.heap.size w' w2) := HBU.out rfl
  clear HCM HC0 HM HBU
  generalize mayF T = m at *
  generalize budT T = bu at *
  obtain ⟨m1, m2⟩ := m
  go_wp2_with fail
  refine (HM2.out _ HB.out).mono ?_
  rintro e w3 ⟨rfl, hb⟩
  have HA3 : Hid (w3.heap[w.heap.size]? = some (.cells #[.slice av T.vars.length cv, .slice an T.nodes.length cn, .slice ab T.body.length cb] 34 (0, 0))) := blk HA.out hb
  have HA4 : Hid (w3.heap[w.heap.size + 1]? = some (.cells #[.int .i64 0, .int .i64 0, .int .i64 0] 58 (0, 0))) := blk HA2.out hb
  have HB3 : Hid (Below w.heap.size w w3) := HB.out.trans (hb.mono HB.out.size)
  clear hb HA HA2 HB p0 p1 p2 HM2
  by_cases hm : m1 = 0
  ·subst hm
   have HCW : Hid (((c1, c2), c3) = ((0, 0), bu)) := by unfold Hid; rw [HCV.out, if_neg (by simp)]
   rw [errV_zero rfl]
   clear HCV
   go_wp2_with fail
   refine (misfit_nil _).mono ?_
   rintro e w4 ⟨rfl, hb⟩
   have hA5 := blk HA3.out hb
   have hA6 := blk HA4.out hb
   have hB4 : Below w.heap.size w w4 := HB3.out.trans (hb.mono HB3.out.size)
   have hbx : Below w4.heap.size w4 (w4.alloc (.cells #[.int .i64 0, .int .i64 0] 101)) := (Below.refl _ _).alloc (Nat.le_refl _) _
   have HA5 : Hid _ := blk hA5 hbx
   have HA6 : Hid _ := blk hA6 hbx
   have HB5 : Hid _ := hB4.trans (hbx.mono hB4.size)
   have hl1 : w.heap.size < w4.heap.size := blk_lt hA5
   have hl2 : w.heap.size + 1 < w4.heap.size := blk_lt hA6
   clear hb hA5 hA6 hB4 hbx HA3 HA4 HB3
   go_upto_region 7 with fail
   generalize w4.alloc (.cells #[.int .i64 0, .int .i64 0] 101) = W5 at *
   obtain ⟨p0, p1, p2⟩ := cl3 HA5.out
   go_wp2_with fail
   refine (HBU2.out _ HB5.out).mono ?_
   rintro e w6 ⟨rfl, hb⟩
   have hA7 := blk HA6.out hb
   have HB6 : Hid (Below w.heap.size w w6) := HB5.out.trans (hb.mono HB5.out.size)
   obtain ⟨r0, r1, r2⟩ := cl3 hA7
   obtain ⟨f0, f1, f2⟩ := fl3 hA7
   clear hA7 hb HA5 HA6 HB5 p0 p1 p2 HBU2
   go_wp2_with fail
   refine bodyPost_ret (v := .agg #[.int .i64 0, .int .i64 0, .int .i64 bu]) (by simp [results, Tryz.results33, go_sem, r0, r1, r2]) rfl ⟨?_, ((HB6.out.setCell (by simp) _).setCell (by simp) _).setCell (by simp) _⟩
   have e := HCW.out
   injection e with e1 e3
   injection e1 with e1 e2
   rw [e1, e2, e3]
  ·have HCW : Hid (((c1, c2), c3) = ((m1, m2), 0)) := by unfold Hid; rw [HCV.out, if_pos hm]
   rw [errV_met hm]
   clear HCV HBU2
   go_wp2_with fail
   refine (misfit_hit m1 m2 _ (HER.out _ HB3.out)).mono ?_
   rintro e w4 ⟨rfl, hb⟩
   have hA6 := blk HA4.out hb
   have hB4 : Below w.heap.size w w4 := HB3.out.trans (hb.mono HB3.out.size)
   have hbx : Below w4.heap.size w4 (w4.alloc (.cells #[.int .i64 m1, .int .i64 m2] 101)) := (Below.refl _ _).alloc (Nat.le_refl _) _
   have HA6 : Hid _ := blk hA6 hbx
   have HB5 : Hid _ := hB4.trans (hbx.mono hB4.size)
   have HV5 : Hid _ := heap_alloc_new w4 (.cells #[.int .i64 m1, .int .i64 m2] 101)
   have hl2 : w.heap.size + 1 < w4.heap.size := blk_lt hA6
   clear hb hA6 hB4 hbx HA3 HA4 HB3 hm
   go_upto_region 6 with fail
   generalize w4.alloc (.cells #[.int .i64 m1, .int .i64 m2] 101) = W5 at *
   generalize w4.heap.size = g4 at *
   obtain ⟨v0, v1⟩ := cl2 HV5.out
   obtain ⟨r0, r1, r2⟩ := cl3 HA6.out
   obtain ⟨f0, f1, f2⟩ := fl3 HA6.out
   go_wp2_with fail
   refine bodyPost_ret (v := .agg #[.int .i64 m1, .int .i64 m2, .int .i64 0]) (by simp [results, Tryz.results33, go_sem, r0, r1, r2]) rfl ⟨?_, ((HB5.out.setCell (by simp) _).setCell (by simp) _).setCell (by simp) _⟩
   have e := HCW.out
   injection e with e1 e3
   injection e1 with e1 e2
   rw [e1, e2, e3]
 ·have hzb : (F == 0) = false := by simpa using hz
  have hzd : decide (F = 0) = false := decide_eq_false hz
  have HCW : Hid (((c1, c2), c3) = ((F, -1), 0)) := HC0.out hz
  obtain ⟨r0, r1, r2⟩ := cl3 HA2.out
  obtain ⟨f0, f1, f2⟩ := fl3 HA2.out
  clear HCM HC0 HM HBU
  go_wp2_with fail
  refine bodyPost_ret (v := .agg #[.int .i64 F, .int .i64 (-1), .int .i64 0]) (by simp [results, Tryz.results33, go_sem, r0, r1, r2]) rfl ⟨?_, ((HB.out.setCell (by simp) _).setCell (by simp) _).setCell (by simp) _⟩
  have e := HCW.out
  injection e with e1 e3
  injection e1 with e1 e2
  rw [e1, e2, e3]
end Go.Proofs.YtbjgkdgnmmnfbaaGreatDoor
namespace Go.Proofs.YtbjgkdgnmmnfbaaGreatDoor
open Go.RowKit
set_option linter.unusedVariables false
def allW (zs : List Int) : Bool := zs.all fun z => decide (0 ≤ z ∧ z ≤ 65535)
theorem allW_iff {zs : List Int} : allW zs = true ↔ ∀ z ∈ zs, 0 ≤ z ∧ z ≤ 65535 := by unfold allW; rw [List.all_eq_true]; simp
theorem allW_ok {zs : List Int} (h : ∀ j, j < zs.length → 0 ≤ zs.getD j 0 ∧ zs.getD j 0 ≤ 65535) : allW zs = true := by
 rw [allW_iff]
 intro z hm
 obtain ⟨i, hi, rfl⟩ := List.getElem_of_mem hm
 have := h i hi
 rw [List.getD_eq_getElem?_getD, List.getElem?_eq_getElem hi] at this
 simpa using this
theorem allW_bad {zs : List Int} (i : Nat) (hi : i < zs.length) (h : zs.getD i 0 < 0 ∨ 65535 < zs.getD i 0) : allW zs = false := by
 cases hw : allW zs with
 | false => rfl
 | true =>
  have hm : zs.getD i 0 ∈ zs := by rw [List.getD_eq_getElem?_getD, List.getElem?_eq_getElem hi]; simp
  have := (allW_iff.1 hw) _ hm
  omega
theorem fault_allW {zs : List Int} (h : zs.length ≤ 400) : fault zs = if allW zs = true then 0 else 3 := by
 unfold fault
 rw [if_neg (by omega)]
 by_cases hw : ∀ z ∈ zs, 0 ≤ z ∧ z ≤ 65535
 ·rw [if_pos hw, if_pos (allW_iff.2 hw)]
 ·rw [if_neg hw, if_neg (fun h => hw (allW_iff.1 h))]
def staF (T : LTree) (zs : List Int) : Int := if (chkT T).1.1 ≠ 0 then (chkT T).1.1 else if (zs.length : Int) ≠ cellsL (allL 0 T) then 1 else if allW zs = true then 0 else 3
theorem chk_good {T : LTree} (h : (chkT T).1.1 = 0) : faultL T = 0 ∧ cellsL (allL 0 T) ≤ 60 := by
 unfold chkT at h
 by_cases h0 : faultL T = 0
 ·rw [if_neg (by simpa using h0)] at h
  refine ⟨h0, ?_⟩
  by_cases h1 : namesF (allL 3 T) T.vars.length = 0
  ·rw [if_neg (by simpa using h1)] at h
   by_cases h2 : (bodyF (allL 3 T) T).1 = 0
   ·rw [if_neg (by simpa using h2)] at h
    by_cases h3 : 2000 < budT T ∨ 60 < cellsL (allL 3 T)
    ·rw [if_pos h3] at h; simp at h
    ·rw [cells_kind] at h3; omega
   ·rw [if_pos h2] at h; exact absurd h h2
  ·rw [if_pos h1] at h; exact absurd h h1
 ·rw [if_pos h0] at h; exact absurd h h0
end Go.Proofs.YtbjgkdgnmmnfbaaGreatDoor
namespace Go.Proofs.YtbjgkdgnmmnfbaaGreatDoor
open Go.RowKit
set_option linter.unusedVariables false
def mksL (N : List LNode) : Nat → List Int
 | 0 => []
 | k + 1 => mksL N k ++ (if inB (N.getD k default).kind 7 11 = true then [(k : Int)] else [])
def mrkL (T : LTree) : List Int := if (chkT T).1.1 = 0 then mksL T.nodes T.nodes.length else []
theorem mksL_len (N : List LNode) : ∀ k, (mksL N k).length ≤ k
 | 0 => Nat.le_refl _
 | k + 1 => by
  have := mksL_len N k
  show (mksL N k ++ _).length ≤ k + 1
  rw [List.length_append]
  split <;> simp <;> omega
theorem mrkL_len (T : LTree) : (mrkL T).length ≤ 200 := by
 unfold mrkL
 split
 ·rename_i h; have := mksL_len T.nodes T.nodes.length; have := (good_of (chk_good h).1).nodes; omega
 ·simp
theorem mksL_at {N : List LNode} {k : Nat} {y : LNode} (h : N[k]? = some y) : mksL N (k + 1) = mksL N k ++ (if inB y.kind 7 11 = true then [(k : Int)] else []) := by
 show mksL N k ++ (if inB (N.getD k default).kind 7 11 = true then [(k : Int)] else []) = _
 rw [List.getD_eq_getElem?_getD, h]; rfl
theorem mksL_yes {N : List LNode} {k : Nat} {y : LNode} (h : N[k]? = some y) (hb : inB y.kind 7 11 = true) : mksL N (k + 1) = mksL N k ++ [(k : Int)] := by rw [mksL_at h, if_pos hb]
theorem mksL_no {N : List LNode} {k : Nat} {y : LNode} (h : N[k]? = some y) (hb : inB y.kind 7 11 = false) : mksL N (k + 1) = mksL N k := by rw [mksL_at h, if_neg (by rw [hb]; simp), List.append_nil]
theorem two_start (w : World) (vv vn vb a b : Value) (T1 T2 : TypeId) : let W := ((w.alloc (.cells #[vv, vn, vb] T1)).alloc (.cells #[a, b] T2))
  W.heap[w.heap.size]? = some (.cells #[vv, vn, vb] T1 (0, 0)) ∧ W.heap[w.heap.size + 1]? = some (.cells #[a, b] T2 (0, 0)) ∧ Below w.heap.size w W := by
 intro W
 have hA := heap_alloc_new w (.cells #[vv, vn, vb] T1)
 have hB : Below w.heap.size w (w.alloc (.cells #[vv, vn, vb] T1)) := (Below.refl _ _).alloc (Nat.le_refl _) _
 have hZ : (w.alloc (.cells #[vv, vn, vb] T1)).heap.size = w.heap.size + 1 := by simp
 have hA2 := heap_alloc_new (w.alloc (.cells #[vv, vn, vb] T1)) (.cells #[a, b] T2)
 have hB2 : Below (w.alloc (.cells #[vv, vn, vb] T1)).heap.size (w.alloc (.cells #[vv, vn, vb] T1)) W := (Below.refl _ _).alloc (Nat.le_refl _) _
 rw [hZ] at hA2
 exact ⟨blk hA hB2, hA2, hB.trans (hB2.mono (by omega))⟩
end Go.Proofs.YtbjgkdgnmmnfbaaGreatDoor
