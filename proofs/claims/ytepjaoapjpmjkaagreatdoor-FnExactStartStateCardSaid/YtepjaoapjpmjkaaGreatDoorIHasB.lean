/-
  impl.hasShape, kinds 4, 6, 8 and those of their shapes.
-/
import Derived.Test.YtepjaoapjpmjkaaGreatDoorIShape
import Derived.Test.YtepjaoapjpmjkaaGreatDoorITruth
import Derived.Test.YtepjaoapjpmjkaaGreatDoorSOwn
import Derived.Test.YtepjaoapjpmjkaaGreatDoorINmF
namespace Go.Proofs.YtepjaoapjpmjkaaGreatDoor
open Go.RowKit
set_option linter.unusedVariables false
attribute [local go_sem] bs_size bs_get bs_extract bs_append bs_eq bs_toList
set_option maxHeartbeats 6400000 in
set_option maxRecDepth 100000 in
theorem has4 (K : Int) (R : Bool) (op : Int) (name : List UInt8) (num far : Int) (kids thn els : List Int) (a a2 a3 : Option Addr) (c c2 c3 : Nat) (w : World) (hl : name.length ≤ 1048576) (hk1 : kids.length ≤ 1048576) (hk2 : thn.length ≤ 1048576) (hk3 : els.length ≤ 1048576)
  (hO : R = (decide (op = 0) && name.isEmpty && decide (num = 0) && decide (far = 0) && decide (1 ≤ kids.length ∧ kids.length ≤ 1) && thn.isEmpty && els.isEmpty)) (hS : Shape K (shapeV 0 false false false 1 1 false false)) (hK : inB K 1 11 = true) :
  Calls Tryz.prog 74 #[.agg #[.int .i64 K, .int .i64 op, .string (bs name), .int .i64 num, .int .i64 far, .slice a kids.length c, .slice a2 thn.length c2, .slice a3 els.length c3]] w fun e w' => e = .returned (.bool R) ∧ Below w.heap.size w w' := by
 have HN : Hid (∀ w, Calls Tryz.prog 72 #[.string (bs name)] w fun e w' => e = .returned (.bool (isNameL name)) ∧ w' = w) := fun w => iIsName_any name w (by omega)
 have HW0 : Hid (∀ w, Calls Tryz.prog 73 #[.int .i64 K, .int .i64 1, .int .i64 11] w fun e w' => e = .returned (.bool true) ∧ w' = w) := fun w => by have h := within_any K 1 11 w; rwa [hK] at h
 have HS := hid hS
 have HO := hid hO
 clear hl hO hS hK
 go_enter Tryz.func74, Tryz.ntmps74
 go_wp2_with fail
 have hA := heap_alloc_new w (.cells #[.int .i64 K, .int .i64 op, .string (bs name), .int .i64 num, .int .i64 far, .slice a kids.length c, .slice a2 thn.length c2, .slice a3 els.length c3] 66)
 have hB : Below w.heap.size w (w.alloc (.cells #[.int .i64 K, .int .i64 op, .string (bs name), .int .i64 num, .int .i64 far, .slice a kids.length c, .slice a2 thn.length c2, .slice a3 els.length c3] 66)) := (Below.refl _ _).alloc (Nat.le_refl _) _
 generalize w.alloc (.cells #[.int .i64 K, .int .i64 op, .string (bs name), .int .i64 num, .int .i64 far, .slice a kids.length c, .slice a2 thn.length c2, .slice a3 els.length c3] 66) = W at *
 have k0 : W.cell? ⟨w.heap.size, 0, none⟩ = some (.int .i64 K) := cell_of_row _ _ 0 _ _ _ hA
 refine (HW0.out _).mono ?_
 rintro e w1 ⟨rfl, rfl⟩
 go_wp2_with fail
 refine (HS.out _).mono ?_
 rintro e w2 ⟨rfl, hb⟩
 have hA2 := blk hA hb
 have HB : Hid (Below w.heap.size w w2) := hB.trans (hb.mono hB.size)
 obtain ⟨d0, d1, d2, d3, d4, d5, d6, d7⟩ := cl8 hA2
 have hwl : w.heap.size < w2.heap.size := World.block_lt_of_cell? _ _ d0
 clear hA hB k0 hb hA2 HW0 HS
 go_wp2_with fail
 have hA3 := heap_alloc_new w2 (.cells #[.int .i64 0, .bool false, .bool false, .bool false, .int .i64 1, .int .i64 1, .bool false, .bool false] 153)
 have hB3 : Below w2.heap.size w2 (w2.alloc (.cells #[.int .i64 0, .bool false, .bool false, .bool false, .int .i64 1, .int .i64 1, .bool false, .bool false] 153)) := (Below.refl _ _).alloc (Nat.le_refl _) _
 generalize w2.alloc (.cells #[.int .i64 0, .bool false, .bool false, .bool false, .int .i64 1, .int .i64 1, .bool false, .bool false] 153) = W3 at *
 replace d0 : W3.cell? ⟨w.heap.size, 0, none⟩ = some (.int .i64 K) := (hB3.cell (p := ⟨w.heap.size, 0, none⟩) hwl).trans d0
 replace d1 : W3.cell? ⟨w.heap.size, 1, none⟩ = some (.int .i64 op) := (hB3.cell (p := ⟨w.heap.size, 1, none⟩) hwl).trans d1
 replace d2 : W3.cell? ⟨w.heap.size, 2, none⟩ = some (.string (bs name)) := (hB3.cell (p := ⟨w.heap.size, 2, none⟩) hwl).trans d2
 replace d3 : W3.cell? ⟨w.heap.size, 3, none⟩ = some (.int .i64 num) := (hB3.cell (p := ⟨w.heap.size, 3, none⟩) hwl).trans d3
 replace d4 : W3.cell? ⟨w.heap.size, 4, none⟩ = some (.int .i64 far) := (hB3.cell (p := ⟨w.heap.size, 4, none⟩) hwl).trans d4
 replace d5 : W3.cell? ⟨w.heap.size, 5, none⟩ = some (.slice a kids.length c) := (hB3.cell (p := ⟨w.heap.size, 5, none⟩) hwl).trans d5
 replace d6 : W3.cell? ⟨w.heap.size, 6, none⟩ = some (.slice a2 thn.length c2) := (hB3.cell (p := ⟨w.heap.size, 6, none⟩) hwl).trans d6
 replace d7 : W3.cell? ⟨w.heap.size, 7, none⟩ = some (.slice a3 els.length c3) := (hB3.cell (p := ⟨w.heap.size, 7, none⟩) hwl).trans d7
 obtain ⟨s0, s1, s2, s3, s4, s5, s6, s7⟩ := cl8 hA3
 replace HB : Hid (Below w.heap.size w W3) := HB.out.trans (hB3.mono HB.out.size)
 clear hA3 hB3 hwl
 generalize w2.heap.size = g2 at *
 by_cases qop : op = 0
 ·subst qop
  have hC : Hid (∀ w, Calls Tryz.prog 73 #[.int .i64 0, .int .i64 0, .int .i64 0] w fun e w' => e = .returned (.bool true) ∧ w' = w) := fun w => by have h := within_any 0 0 0 w; rwa [show inB 0 0 0 = true from by decide] at h
  skip
  refine (hC.out _).mono ?_
  rintro e w' ⟨rfl, rfl⟩
  clear hC
  simp only []; rename_i kk hkk; simp only [List.append_eq, List.cons_append, List.nil_append] at hkk
  by_cases qname : name = []
  ·subst qname
   by_cases qnum : num = 0
   ·subst qnum
    by_cases qfar : far = 0
    ·subst qfar
     by_cases qk : 1 ≤ kids.length ∧ kids.length ≤ 1
     ·have qk1 := qk.1
      have qk2 := qk.2
      have hz5 : decide ((1 : Int) ≤ ((kids.length : Nat) : Int)) = true := decide_eq_true (by omega)
      have hz6 : decide (((kids.length : Nat) : Int) ≤ 1) = true := decide_eq_true (by omega)
      have QK : Hid (1 ≤ kids.length ∧ kids.length ≤ 1) := qk
      clear qk qk1 qk2
      by_cases qthn : thn = []
      ·subst qthn
       by_cases qels : els = []
       ·subst qels
        have HE : Hid (R = true) := by unfold Hid; rw [HO.out]; simp [QK.out]
        clear HO
        go_wp2_with fail
        go_ret
        exact ⟨by rw [HE.out]; rfl, HB.out⟩
       ·have hz : 0 < els.length := List.length_pos_iff.2 qels
        have hz3 : (((els.length : Nat) : Int) == 0) = false := by rw [beq_eq_false_iff_ne]; omega
        have hz4 : decide (((els.length : Nat) : Int) = 0) = false := decide_eq_false (by omega)
        have HE : Hid (R = false) := by unfold Hid; rw [HO.out]; simp [qels]
        clear HO
        go_wp2_with fail
        go_ret
        exact ⟨by rw [HE.out]; rfl, HB.out⟩
      ·have hz : 0 < thn.length := List.length_pos_iff.2 qthn
       have hz3 : (((thn.length : Nat) : Int) == 0) = false := by rw [beq_eq_false_iff_ne]; omega
       have hz4 : decide (((thn.length : Nat) : Int) = 0) = false := decide_eq_false (by omega)
       have HE : Hid (R = false) := by unfold Hid; rw [HO.out]; simp [qthn]
       clear HO
       go_wp2_with fail
       go_ret
       exact ⟨by rw [HE.out]; rfl, HB.out⟩
     ·by_cases qk1 : kids.length < 1
      ·have hz5 : decide ((1 : Int) ≤ ((kids.length : Nat) : Int)) = false := decide_eq_false (by omega)
       have HE : Hid (R = false) := by unfold Hid; rw [HO.out]; simp [qk]
       clear HO
       go_wp2_with fail
       go_ret
       exact ⟨by rw [HE.out]; rfl, HB.out⟩
      ·have qk2 : 1 < kids.length := by omega
       have hz5 : decide ((1 : Int) ≤ ((kids.length : Nat) : Int)) = true := decide_eq_true (by omega)
       have hz6 : decide (((kids.length : Nat) : Int) ≤ 1) = false := decide_eq_false (by omega)
       have HE : Hid (R = false) := by unfold Hid; rw [HO.out]; simp [qk]
       clear HO
       go_wp2_with fail
       go_ret
       exact ⟨by rw [HE.out]; rfl, HB.out⟩
    ·have hz1 : (far == 0) = false := by simpa using qfar
     have hz2 : decide (far = 0) = false := decide_eq_false qfar
     have HE : Hid (R = false) := by unfold Hid; rw [HO.out]; simp [qfar]
     clear HO
     go_wp2_with fail
     go_ret
     exact ⟨by rw [HE.out]; rfl, HB.out⟩
   ·have hz1 : (num == 0) = false := by simpa using qnum
    have hz2 : decide (num = 0) = false := decide_eq_false qnum
    have HE : Hid (R = false) := by unfold Hid; rw [HO.out]; simp [qnum]
    clear HO
    go_wp2_with fail
    go_ret
    exact ⟨by rw [HE.out]; rfl, HB.out⟩
  ·have hz1 : (name == []) = false := by simpa using qname
   have hz2 : decide (name = []) = false := decide_eq_false qname
   have HE : Hid (R = false) := by unfold Hid; rw [HO.out]; simp [qname]
   clear HO
   go_wp2_with fail
   go_ret
   exact ⟨by rw [HE.out]; rfl, HB.out⟩
 ·have hC : Hid (∀ w, Calls Tryz.prog 73 #[.int .i64 op, .int .i64 0, .int .i64 0] w fun e w' => e = .returned (.bool false) ∧ w' = w) := fun w => by have h := within_any op 0 0 w; rwa [show inB op 0 0 = false from inB_no.2 (by omega)] at h
  skip
  refine (hC.out _).mono ?_
  rintro e w' ⟨rfl, rfl⟩
  clear hC
  simp only []; rename_i kk hkk; simp only [List.append_eq, List.cons_append, List.nil_append] at hkk
  have HE : Hid (R = false) := by unfold Hid; rw [HO.out]; simp [qop]
  clear HO
  go_wp2_with fail
  go_ret
  exact ⟨by rw [HE.out]; rfl, HB.out⟩
set_option maxHeartbeats 6400000 in
set_option maxRecDepth 100000 in
theorem has6 (K : Int) (R : Bool) (op : Int) (name : List UInt8) (num far : Int) (kids thn els : List Int) (a a2 a3 : Option Addr) (c c2 c3 : Nat) (w : World) (hl : name.length ≤ 1048576) (hk1 : kids.length ≤ 1048576) (hk2 : thn.length ≤ 1048576) (hk3 : els.length ≤ 1048576)
  (hO : R = (inB op 1 10 && name.isEmpty && decide (num = 0) && decide (far = 0) && decide (2 ≤ kids.length ∧ kids.length ≤ 2) && thn.isEmpty && els.isEmpty)) (hS : Shape K (shapeV 10 false false false 2 2 false false)) (hK : inB K 1 11 = true) :
  Calls Tryz.prog 74 #[.agg #[.int .i64 K, .int .i64 op, .string (bs name), .int .i64 num, .int .i64 far, .slice a kids.length c, .slice a2 thn.length c2, .slice a3 els.length c3]] w fun e w' => e = .returned (.bool R) ∧ Below w.heap.size w w' := by
 have HN : Hid (∀ w, Calls Tryz.prog 72 #[.string (bs name)] w fun e w' => e = .returned (.bool (isNameL name)) ∧ w' = w) := fun w => iIsName_any name w (by omega)
 have HW0 : Hid (∀ w, Calls Tryz.prog 73 #[.int .i64 K, .int .i64 1, .int .i64 11] w fun e w' => e = .returned (.bool true) ∧ w' = w) := fun w => by have h := within_any K 1 11 w; rwa [hK] at h
 have HS := hid hS
 have HO := hid hO
 clear hl hO hS hK
 go_enter Tryz.func74, Tryz.ntmps74
 go_wp2_with fail
 have hA := heap_alloc_new w (.cells #[.int .i64 K, .int .i64 op, .string (bs name), .int .i64 num, .int .i64 far, .slice a kids.length c, .slice a2 thn.length c2, .slice a3 els.length c3] 66)
 have hB : Below w.heap.size w (w.alloc (.cells #[.int .i64 K, .int .i64 op, .string (bs name), .int .i64 num, .int .i64 far, .slice a kids.length c, .slice a2 thn.length c2, .slice a3 els.length c3] 66)) := (Below.refl _ _).alloc (Nat.le_refl _) _
 generalize w.alloc (.cells #[.int .i64 K, .int .i64 op, .string (bs name), .int .i64 num, .int .i64 far, .slice a kids.length c, .slice a2 thn.length c2, .slice a3 els.length c3] 66) = W at *
 have k0 : W.cell? ⟨w.heap.size, 0, none⟩ = some (.int .i64 K) := cell_of_row _ _ 0 _ _ _ hA
 refine (HW0.out _).mono ?_
 rintro e w1 ⟨rfl, rfl⟩
 go_wp2_with fail
 refine (HS.out _).mono ?_
 rintro e w2 ⟨rfl, hb⟩
 have hA2 := blk hA hb
 have HB : Hid (Below w.heap.size w w2) := hB.trans (hb.mono hB.size)
 obtain ⟨d0, d1, d2, d3, d4, d5, d6, d7⟩ := cl8 hA2
 have hwl : w.heap.size < w2.heap.size := World.block_lt_of_cell? _ _ d0
 clear hA hB k0 hb hA2 HW0 HS
 go_wp2_with fail
 have hA3 := heap_alloc_new w2 (.cells #[.int .i64 10, .bool false, .bool false, .bool false, .int .i64 2, .int .i64 2, .bool false, .bool false] 153)
 have hB3 : Below w2.heap.size w2 (w2.alloc (.cells #[.int .i64 10, .bool false, .bool false, .bool false, .int .i64 2, .int .i64 2, .bool false, .bool false] 153)) := (Below.refl _ _).alloc (Nat.le_refl _) _
 generalize w2.alloc (.cells #[.int .i64 10, .bool false, .bool false, .bool false, .int .i64 2, .int .i64 2, .bool false, .bool false] 153) = W3 at *
 replace d0 : W3.cell? ⟨w.heap.size, 0, none⟩ = some (.int .i64 K) := (hB3.cell (p := ⟨w.heap.size, 0, none⟩) hwl).trans d0
 replace d1 : W3.cell? ⟨w.heap.size, 1, none⟩ = some (.int .i64 op) := (hB3.cell (p := ⟨w.heap.size, 1, none⟩) hwl).trans d1
 replace d2 : W3.cell? ⟨w.heap.size, 2, none⟩ = some (.string (bs name)) := (hB3.cell (p := ⟨w.heap.size, 2, none⟩) hwl).trans d2
 replace d3 : W3.cell? ⟨w.heap.size, 3, none⟩ = some (.int .i64 num) := (hB3.cell (p := ⟨w.heap.size, 3, none⟩) hwl).trans d3
 replace d4 : W3.cell? ⟨w.heap.size, 4, none⟩ = some (.int .i64 far) := (hB3.cell (p := ⟨w.heap.size, 4, none⟩) hwl).trans d4
 replace d5 : W3.cell? ⟨w.heap.size, 5, none⟩ = some (.slice a kids.length c) := (hB3.cell (p := ⟨w.heap.size, 5, none⟩) hwl).trans d5
 replace d6 : W3.cell? ⟨w.heap.size, 6, none⟩ = some (.slice a2 thn.length c2) := (hB3.cell (p := ⟨w.heap.size, 6, none⟩) hwl).trans d6
 replace d7 : W3.cell? ⟨w.heap.size, 7, none⟩ = some (.slice a3 els.length c3) := (hB3.cell (p := ⟨w.heap.size, 7, none⟩) hwl).trans d7
 obtain ⟨s0, s1, s2, s3, s4, s5, s6, s7⟩ := cl8 hA3
 replace HB : Hid (Below w.heap.size w W3) := HB.out.trans (hB3.mono HB.out.size)
 clear hA3 hB3 hwl
 generalize w2.heap.size = g2 at *
 obtain ⟨q, qop⟩ : ∃ q, inB op 1 10 = q := ⟨_, rfl⟩
 have hC : Hid (∀ w, Calls Tryz.prog 73 #[.int .i64 op, .int .i64 1, .int .i64 10] w fun e w' => e = .returned (.bool q) ∧ w' = w) := fun w => by have h := within_any op 1 10 w; rwa [qop] at h
 cases q with
 | true =>
  skip
  refine (hC.out _).mono ?_
  rintro e w' ⟨rfl, rfl⟩
  clear hC
  simp only []; rename_i kk hkk; simp only [List.append_eq, List.cons_append, List.nil_append] at hkk
  by_cases qname : name = []
  ·subst qname
   by_cases qnum : num = 0
   ·subst qnum
    by_cases qfar : far = 0
    ·subst qfar
     by_cases qk : 2 ≤ kids.length ∧ kids.length ≤ 2
     ·have qk1 := qk.1
      have qk2 := qk.2
      have hz5 : decide ((2 : Int) ≤ ((kids.length : Nat) : Int)) = true := decide_eq_true (by omega)
      have hz6 : decide (((kids.length : Nat) : Int) ≤ 2) = true := decide_eq_true (by omega)
      have QK : Hid (2 ≤ kids.length ∧ kids.length ≤ 2) := qk
      clear qk qk1 qk2
      by_cases qthn : thn = []
      ·subst qthn
       by_cases qels : els = []
       ·subst qels
        have HE : Hid (R = true) := by unfold Hid; rw [HO.out]; simp [qop, QK.out]
        clear HO
        go_wp2_with fail
        go_ret
        exact ⟨by rw [HE.out]; rfl, HB.out⟩
       ·have hz : 0 < els.length := List.length_pos_iff.2 qels
        have hz3 : (((els.length : Nat) : Int) == 0) = false := by rw [beq_eq_false_iff_ne]; omega
        have hz4 : decide (((els.length : Nat) : Int) = 0) = false := decide_eq_false (by omega)
        have HE : Hid (R = false) := by unfold Hid; rw [HO.out]; simp [qels]
        clear HO
        go_wp2_with fail
        go_ret
        exact ⟨by rw [HE.out]; rfl, HB.out⟩
      ·have hz : 0 < thn.length := List.length_pos_iff.2 qthn
       have hz3 : (((thn.length : Nat) : Int) == 0) = false := by rw [beq_eq_false_iff_ne]; omega
       have hz4 : decide (((thn.length : Nat) : Int) = 0) = false := decide_eq_false (by omega)
       have HE : Hid (R = false) := by unfold Hid; rw [HO.out]; simp [qthn]
       clear HO
       go_wp2_with fail
       go_ret
       exact ⟨by rw [HE.out]; rfl, HB.out⟩
     ·by_cases qk1 : kids.length < 2
      ·have hz5 : decide ((2 : Int) ≤ ((kids.length : Nat) : Int)) = false := decide_eq_false (by omega)
       have HE : Hid (R = false) := by unfold Hid; rw [HO.out]; simp [qk]
       clear HO
       go_wp2_with fail
       go_ret
       exact ⟨by rw [HE.out]; rfl, HB.out⟩
      ·have qk2 : 2 < kids.length := by omega
       have hz5 : decide ((2 : Int) ≤ ((kids.length : Nat) : Int)) = true := decide_eq_true (by omega)
       have hz6 : decide (((kids.length : Nat) : Int) ≤ 2) = false := decide_eq_false (by omega)
       have HE : Hid (R = false) := by unfold Hid; rw [HO.out]; simp [qk]
       clear HO
       go_wp2_with fail
       go_ret
       exact ⟨by rw [HE.out]; rfl, HB.out⟩
    ·have hz1 : (far == 0) = false := by simpa using qfar
     have hz2 : decide (far = 0) = false := decide_eq_false qfar
     have HE : Hid (R = false) := by unfold Hid; rw [HO.out]; simp [qfar]
     clear HO
     go_wp2_with fail
     go_ret
     exact ⟨by rw [HE.out]; rfl, HB.out⟩
   ·have hz1 : (num == 0) = false := by simpa using qnum
    have hz2 : decide (num = 0) = false := decide_eq_false qnum
    have HE : Hid (R = false) := by unfold Hid; rw [HO.out]; simp [qnum]
    clear HO
    go_wp2_with fail
    go_ret
    exact ⟨by rw [HE.out]; rfl, HB.out⟩
  ·have hz1 : (name == []) = false := by simpa using qname
   have hz2 : decide (name = []) = false := decide_eq_false qname
   have HE : Hid (R = false) := by unfold Hid; rw [HO.out]; simp [qname]
   clear HO
   go_wp2_with fail
   go_ret
   exact ⟨by rw [HE.out]; rfl, HB.out⟩
 | false =>
  skip
  refine (hC.out _).mono ?_
  rintro e w' ⟨rfl, rfl⟩
  clear hC
  simp only []; rename_i kk hkk; simp only [List.append_eq, List.cons_append, List.nil_append] at hkk
  have HE : Hid (R = false) := by unfold Hid; rw [HO.out]; simp [qop]
  clear HO
  go_wp2_with fail
  go_ret
  exact ⟨by rw [HE.out]; rfl, HB.out⟩
set_option maxHeartbeats 6400000 in
set_option maxRecDepth 100000 in
theorem has8 (K : Int) (R : Bool) (op : Int) (name : List UInt8) (num far : Int) (kids thn els : List Int) (a a2 a3 : Option Addr) (c c2 c3 : Nat) (w : World) (hl : name.length ≤ 1048576) (hk1 : kids.length ≤ 1048576) (hk2 : thn.length ≤ 1048576) (hk3 : els.length ≤ 1048576)
  (hO : R = (decide (op = 0) && isNameL name && decide (num = 0) && decide (far = 0) && decide (2 ≤ kids.length ∧ kids.length ≤ 2) && thn.isEmpty && els.isEmpty)) (hS : Shape K (shapeV 0 true false false 2 2 false false)) (hK : inB K 1 11 = true) :
  Calls Tryz.prog 74 #[.agg #[.int .i64 K, .int .i64 op, .string (bs name), .int .i64 num, .int .i64 far, .slice a kids.length c, .slice a2 thn.length c2, .slice a3 els.length c3]] w fun e w' => e = .returned (.bool R) ∧ Below w.heap.size w w' := by
 have HN : Hid (∀ w, Calls Tryz.prog 72 #[.string (bs name)] w fun e w' => e = .returned (.bool (isNameL name)) ∧ w' = w) := fun w => iIsName_any name w (by omega)
 have HW0 : Hid (∀ w, Calls Tryz.prog 73 #[.int .i64 K, .int .i64 1, .int .i64 11] w fun e w' => e = .returned (.bool true) ∧ w' = w) := fun w => by have h := within_any K 1 11 w; rwa [hK] at h
 have HS := hid hS
 have HO := hid hO
 clear hl hO hS hK
 go_enter Tryz.func74, Tryz.ntmps74
 go_wp2_with fail
 have hA := heap_alloc_new w (.cells #[.int .i64 K, .int .i64 op, .string (bs name), .int .i64 num, .int .i64 far, .slice a kids.length c, .slice a2 thn.length c2, .slice a3 els.length c3] 66)
 have hB : Below w.heap.size w (w.alloc (.cells #[.int .i64 K, .int .i64 op, .string (bs name), .int .i64 num, .int .i64 far, .slice a kids.length c, .slice a2 thn.length c2, .slice a3 els.length c3] 66)) := (Below.refl _ _).alloc (Nat.le_refl _) _
 generalize w.alloc (.cells #[.int .i64 K, .int .i64 op, .string (bs name), .int .i64 num, .int .i64 far, .slice a kids.length c, .slice a2 thn.length c2, .slice a3 els.length c3] 66) = W at *
 have k0 : W.cell? ⟨w.heap.size, 0, none⟩ = some (.int .i64 K) := cell_of_row _ _ 0 _ _ _ hA
 refine (HW0.out _).mono ?_
 rintro e w1 ⟨rfl, rfl⟩
 go_wp2_with fail
 refine (HS.out _).mono ?_
 rintro e w2 ⟨rfl, hb⟩
 have hA2 := blk hA hb
 have HB : Hid (Below w.heap.size w w2) := hB.trans (hb.mono hB.size)
 obtain ⟨d0, d1, d2, d3, d4, d5, d6, d7⟩ := cl8 hA2
 have hwl : w.heap.size < w2.heap.size := World.block_lt_of_cell? _ _ d0
 clear hA hB k0 hb hA2 HW0 HS
 go_wp2_with fail
 have hA3 := heap_alloc_new w2 (.cells #[.int .i64 0, .bool true, .bool false, .bool false, .int .i64 2, .int .i64 2, .bool false, .bool false] 153)
 have hB3 : Below w2.heap.size w2 (w2.alloc (.cells #[.int .i64 0, .bool true, .bool false, .bool false, .int .i64 2, .int .i64 2, .bool false, .bool false] 153)) := (Below.refl _ _).alloc (Nat.le_refl _) _
 generalize w2.alloc (.cells #[.int .i64 0, .bool true, .bool false, .bool false, .int .i64 2, .int .i64 2, .bool false, .bool false] 153) = W3 at *
 replace d0 : W3.cell? ⟨w.heap.size, 0, none⟩ = some (.int .i64 K) := (hB3.cell (p := ⟨w.heap.size, 0, none⟩) hwl).trans d0
 replace d1 : W3.cell? ⟨w.heap.size, 1, none⟩ = some (.int .i64 op) := (hB3.cell (p := ⟨w.heap.size, 1, none⟩) hwl).trans d1
 replace d2 : W3.cell? ⟨w.heap.size, 2, none⟩ = some (.string (bs name)) := (hB3.cell (p := ⟨w.heap.size, 2, none⟩) hwl).trans d2
 replace d3 : W3.cell? ⟨w.heap.size, 3, none⟩ = some (.int .i64 num) := (hB3.cell (p := ⟨w.heap.size, 3, none⟩) hwl).trans d3
 replace d4 : W3.cell? ⟨w.heap.size, 4, none⟩ = some (.int .i64 far) := (hB3.cell (p := ⟨w.heap.size, 4, none⟩) hwl).trans d4
 replace d5 : W3.cell? ⟨w.heap.size, 5, none⟩ = some (.slice a kids.length c) := (hB3.cell (p := ⟨w.heap.size, 5, none⟩) hwl).trans d5
 replace d6 : W3.cell? ⟨w.heap.size, 6, none⟩ = some (.slice a2 thn.length c2) := (hB3.cell (p := ⟨w.heap.size, 6, none⟩) hwl).trans d6
 replace d7 : W3.cell? ⟨w.heap.size, 7, none⟩ = some (.slice a3 els.length c3) := (hB3.cell (p := ⟨w.heap.size, 7, none⟩) hwl).trans d7
 obtain ⟨s0, s1, s2, s3, s4, s5, s6, s7⟩ := cl8 hA3
 replace HB : Hid (Below w.heap.size w W3) := HB.out.trans (hB3.mono HB.out.size)
 clear hA3 hB3 hwl
 generalize w2.heap.size = g2 at *
 by_cases qop : op = 0
 ·subst qop
  have hC : Hid (∀ w, Calls Tryz.prog 73 #[.int .i64 0, .int .i64 0, .int .i64 0] w fun e w' => e = .returned (.bool true) ∧ w' = w) := fun w => by have h := within_any 0 0 0 w; rwa [show inB 0 0 0 = true from by decide] at h
  skip
  refine (hC.out _).mono ?_
  rintro e w' ⟨rfl, rfl⟩
  clear hC
  simp only []; rename_i kk hkk; simp only [List.append_eq, List.cons_append, List.nil_append] at hkk
  obtain ⟨q, qname⟩ : ∃ q, isNameL name = q := ⟨_, rfl⟩
  have hC : Hid (∀ w, Calls Tryz.prog 72 #[.string (bs name)] w fun e w' => e = .returned (.bool q) ∧ w' = w) := fun w => by have h := HN.out w; rwa [qname] at h
  cases q with
  | true =>
   go_wp2_with fail
   refine (hC.out _).mono ?_
   rintro e w' ⟨rfl, rfl⟩
   clear hC
   skip
   by_cases qnum : num = 0
   ·subst qnum
    by_cases qfar : far = 0
    ·subst qfar
     by_cases qk : 2 ≤ kids.length ∧ kids.length ≤ 2
     ·have qk1 := qk.1
      have qk2 := qk.2
      have hz5 : decide ((2 : Int) ≤ ((kids.length : Nat) : Int)) = true := decide_eq_true (by omega)
      have hz6 : decide (((kids.length : Nat) : Int) ≤ 2) = true := decide_eq_true (by omega)
      have QK : Hid (2 ≤ kids.length ∧ kids.length ≤ 2) := qk
      clear qk qk1 qk2
      by_cases qthn : thn = []
      ·subst qthn
       by_cases qels : els = []
       ·subst qels
        have HE : Hid (R = true) := by unfold Hid; rw [HO.out]; simp [qname, QK.out]
        clear HO
        go_wp2_with fail
        go_ret
        exact ⟨by rw [HE.out]; rfl, HB.out⟩
       ·have hz : 0 < els.length := List.length_pos_iff.2 qels
        have hz3 : (((els.length : Nat) : Int) == 0) = false := by rw [beq_eq_false_iff_ne]; omega
        have hz4 : decide (((els.length : Nat) : Int) = 0) = false := decide_eq_false (by omega)
        have HE : Hid (R = false) := by unfold Hid; rw [HO.out]; simp [qels]
        clear HO
        go_wp2_with fail
        go_ret
        exact ⟨by rw [HE.out]; rfl, HB.out⟩
      ·have hz : 0 < thn.length := List.length_pos_iff.2 qthn
       have hz3 : (((thn.length : Nat) : Int) == 0) = false := by rw [beq_eq_false_iff_ne]; omega
       have hz4 : decide (((thn.length : Nat) : Int) = 0) = false := decide_eq_false (by omega)
       have HE : Hid (R = false) := by unfold Hid; rw [HO.out]; simp [qthn]
       clear HO
       go_wp2_with fail
       go_ret
       exact ⟨by rw [HE.out]; rfl, HB.out⟩
     ·by_cases qk1 : kids.length < 2
      ·have hz5 : decide ((2 : Int) ≤ ((kids.length : Nat) : Int)) = false := decide_eq_false (by omega)
       have HE : Hid (R = false) := by unfold Hid; rw [HO.out]; simp [qk]
       clear HO
       go_wp2_with fail
       go_ret
       exact ⟨by rw [HE.out]; rfl, HB.out⟩
      ·have qk2 : 2 < kids.length := by omega
       have hz5 : decide ((2 : Int) ≤ ((kids.length : Nat) : Int)) = true := decide_eq_true (by omega)
       have hz6 : decide (((kids.length : Nat) : Int) ≤ 2) = false := decide_eq_false (by omega)
       have HE : Hid (R = false) := by unfold Hid; rw [HO.out]; simp [qk]
       clear HO
       go_wp2_with fail
       go_ret
       exact ⟨by rw [HE.out]; rfl, HB.out⟩
    ·have hz1 : (far == 0) = false := by simpa using qfar
     have hz2 : decide (far = 0) = false := decide_eq_false qfar
     have HE : Hid (R = false) := by unfold Hid; rw [HO.out]; simp [qfar]
     clear HO
     go_wp2_with fail
     go_ret
     exact ⟨by rw [HE.out]; rfl, HB.out⟩
   ·have hz1 : (num == 0) = false := by simpa using qnum
    have hz2 : decide (num = 0) = false := decide_eq_false qnum
    have HE : Hid (R = false) := by unfold Hid; rw [HO.out]; simp [qnum]
    clear HO
    go_wp2_with fail
    go_ret
    exact ⟨by rw [HE.out]; rfl, HB.out⟩
  | false =>
   go_wp2_with fail
   refine (hC.out _).mono ?_
   rintro e w' ⟨rfl, rfl⟩
   clear hC
   skip
   have HE : Hid (R = false) := by unfold Hid; rw [HO.out]; simp [qname]
   clear HO
   go_wp2_with fail
   go_ret
   exact ⟨by rw [HE.out]; rfl, HB.out⟩
 ·have hC : Hid (∀ w, Calls Tryz.prog 73 #[.int .i64 op, .int .i64 0, .int .i64 0] w fun e w' => e = .returned (.bool false) ∧ w' = w) := fun w => by have h := within_any op 0 0 w; rwa [show inB op 0 0 = false from inB_no.2 (by omega)] at h
  skip
  refine (hC.out _).mono ?_
  rintro e w' ⟨rfl, rfl⟩
  clear hC
  simp only []; rename_i kk hkk; simp only [List.append_eq, List.cons_append, List.nil_append] at hkk
  have HE : Hid (R = false) := by unfold Hid; rw [HO.out]; simp [qop]
  clear HO
  go_wp2_with fail
  go_ret
  exact ⟨by rw [HE.out]; rfl, HB.out⟩
end Go.Proofs.YtepjaoapjpmjkaaGreatDoor
