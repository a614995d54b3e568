/-
  impl.hasParts.
-/
import Derived.Test.YteeklmgkhacbcaaGreatDoorIShape
import Derived.Test.YteeklmgkhacbcaaGreatDoorITruth
import Derived.Test.YteeklmgkhacbcaaGreatDoorSOwn
import Derived.Test.YteeklmgkhacbcaaGreatDoorAsHit
import Derived.Test.YteeklmgkhacbcaaGreatDoorIHasA
import Derived.Test.YteeklmgkhacbcaaGreatDoorIHasB
namespace Go.Proofs.YteeklmgkhacbcaaGreatDoor
open Go.RowKit
set_option linter.unusedVariables false
attribute [local go_sem] bs_size bs_get bs_extract bs_append bs_eq bs_toList
set_option maxHeartbeats 6400000 in
set_option maxRecDepth 100000 in
theorem has9 (K : Int) (R : Bool) (op : Int) (name : List UInt8) (num far : Int) (kids thn els : List Int) (a a2 a3 : Option Addr) (c c2 c3 : Nat) (w : World) (hl : name.length ≤ 1048576) (hk1 : kids.length ≤ 1048576) (hk2 : thn.length ≤ 1048576) (hk3 : els.length ≤ 1048576)
  (hO : R = (decide (op = 0) && name.isEmpty && decide (num = 0) && decide (far = 0) && decide (1 ≤ kids.length ∧ kids.length ≤ 1))) (hS : Shape K (shapeV 0 false false false 1 1 true true)) (hK : inB K 1 11 = true) :
  Calls Tryz.prog 97 #[.agg #[.int .i64 K, .int .i64 op, .string (bs name), .int .i64 num, .int .i64 far, .slice a kids.length c, .slice a2 thn.length c2, .slice a3 els.length c3]] w fun e w' => e = .returned (.bool R) ∧ Below w.heap.size w w' := by
 have HN : Hid (∀ w, Calls Tryz.prog 95 #[.string (bs name)] w fun e w' => e = .returned (.bool (isNameL name)) ∧ w' = w) := fun w => iIsName_any name w (by omega)
 have HW0 : Hid (∀ w, Calls Tryz.prog 96 #[.int .i64 K, .int .i64 1, .int .i64 11] w fun e w' => e = .returned (.bool true) ∧ w' = w) := fun w => by have h := within_any K 1 11 w; rwa [hK] at h
 have HS := hid hS
 have HO := hid hO
 clear hl hO hS hK
 go_enter Tryz.func97, Tryz.ntmps97
 go_wp2_with fail
 have hA := heap_alloc_new w (.cells #[.int .i64 K, .int .i64 op, .string (bs name), .int .i64 num, .int .i64 far, .slice a kids.length c, .slice a2 thn.length c2, .slice a3 els.length c3] 88)
 have hB : Below w.heap.size w (w.alloc (.cells #[.int .i64 K, .int .i64 op, .string (bs name), .int .i64 num, .int .i64 far, .slice a kids.length c, .slice a2 thn.length c2, .slice a3 els.length c3] 88)) := (Below.refl _ _).alloc (Nat.le_refl _) _
 generalize w.alloc (.cells #[.int .i64 K, .int .i64 op, .string (bs name), .int .i64 num, .int .i64 far, .slice a kids.length c, .slice a2 thn.length c2, .slice a3 els.length c3] 88) = W at *
 have k0 : W.cell? ⟨w.heap.size, 0, none⟩ = some (.int .i64 K) := cell_of_row _ _ 0 _ _ _ hA
 refine (HW0.out _).mono ?_
 rintro e w1 ⟨rfl, rfl⟩
 go_wp2_with fail
 refine (HS.out _).mono ?_
 rintro e w2 ⟨rfl, hb⟩
 have hA2 := blk hA hb
 have HB : Hid (Below w.heap.size w w2) := hB.trans (hb.mono hB.size)
 obtain ⟨d0, d1, d2, d3, d4, d5, d6, d7⟩ := cl8 hA2
 have hwl : w.heap.size < w2.heap.size := World.block_lt_of_cell? _ _ d0
 clear hA hB k0 hb hA2 HW0 HS
 go_wp2_with fail
 have hA3 := heap_alloc_new w2 (.cells #[.int .i64 0, .bool false, .bool false, .bool false, .int .i64 1, .int .i64 1, .bool true, .bool true] 162)
 have hB3 : Below w2.heap.size w2 (w2.alloc (.cells #[.int .i64 0, .bool false, .bool false, .bool false, .int .i64 1, .int .i64 1, .bool true, .bool true] 162)) := (Below.refl _ _).alloc (Nat.le_refl _) _
 generalize w2.alloc (.cells #[.int .i64 0, .bool false, .bool false, .bool false, .int .i64 1, .int .i64 1, .bool true, .bool true] 162) = W3 at *
 replace d0 : W3.cell? ⟨w.heap.size, 0, none⟩ = some (.int .i64 K) := (hB3.cell (p := ⟨w.heap.size, 0, none⟩) hwl).trans d0
 replace d1 : W3.cell? ⟨w.heap.size, 1, none⟩ = some (.int .i64 op) := (hB3.cell (p := ⟨w.heap.size, 1, none⟩) hwl).trans d1
 replace d2 : W3.cell? ⟨w.heap.size, 2, none⟩ = some (.string (bs name)) := (hB3.cell (p := ⟨w.heap.size, 2, none⟩) hwl).trans d2
 replace d3 : W3.cell? ⟨w.heap.size, 3, none⟩ = some (.int .i64 num) := (hB3.cell (p := ⟨w.heap.size, 3, none⟩) hwl).trans d3
 replace d4 : W3.cell? ⟨w.heap.size, 4, none⟩ = some (.int .i64 far) := (hB3.cell (p := ⟨w.heap.size, 4, none⟩) hwl).trans d4
 replace d5 : W3.cell? ⟨w.heap.size, 5, none⟩ = some (.slice a kids.length c) := (hB3.cell (p := ⟨w.heap.size, 5, none⟩) hwl).trans d5
 replace d6 : W3.cell? ⟨w.heap.size, 6, none⟩ = some (.slice a2 thn.length c2) := (hB3.cell (p := ⟨w.heap.size, 6, none⟩) hwl).trans d6
 replace d7 : W3.cell? ⟨w.heap.size, 7, none⟩ = some (.slice a3 els.length c3) := (hB3.cell (p := ⟨w.heap.size, 7, none⟩) hwl).trans d7
 obtain ⟨s0, s1, s2, s3, s4, s5, s6, s7⟩ := cl8 hA3
 replace HB : Hid (Below w.heap.size w W3) := HB.out.trans (hB3.mono HB.out.size)
 clear hA3 hB3 hwl
 generalize w2.heap.size = g2 at *
 by_cases qop : op = 0
 ·subst qop
  have hC : Hid (∀ w, Calls Tryz.prog 96 #[.int .i64 0, .int .i64 0, .int .i64 0] w fun e w' => e = .returned (.bool true) ∧ w' = w) := fun w => by have h := within_any 0 0 0 w; rwa [show inB 0 0 0 = true from by decide] at h
  skip
  refine (hC.out _).mono ?_
  rintro e w' ⟨rfl, rfl⟩
  clear hC
  simp only []; rename_i kk hkk; simp only [List.append_eq, List.cons_append, List.nil_append] at hkk
  by_cases qname : name = []
  ·subst qname
   by_cases qnum : num = 0
   ·subst qnum
    by_cases qfar : far = 0
    ·subst qfar
     by_cases qk : 1 ≤ kids.length ∧ kids.length ≤ 1
     ·have qk1 := qk.1
      have qk2 := qk.2
      have hz5 : decide ((1 : Int) ≤ ((kids.length : Nat) : Int)) = true := decide_eq_true (by omega)
      have hz6 : decide (((kids.length : Nat) : Int) ≤ 1) = true := decide_eq_true (by omega)
      have QK : Hid (1 ≤ kids.length ∧ kids.length ≤ 1) := qk
      clear qk qk1 qk2
      have HE : Hid (R = true) := by unfold Hid; rw [HO.out]; simp [QK.out]
      clear HO
      go_wp2_with fail
      go_ret
      exact ⟨by rw [HE.out]; rfl, HB.out⟩
     ·by_cases qk1 : kids.length < 1
      ·have hz5 : decide ((1 : Int) ≤ ((kids.length : Nat) : Int)) = false := decide_eq_false (by omega)
       have HE : Hid (R = false) := by unfold Hid; rw [HO.out]; simp [qk]
       clear HO
       go_wp2_with fail
       go_ret
       exact ⟨by rw [HE.out]; rfl, HB.out⟩
      ·have qk2 : 1 < kids.length := by omega
       have hz5 : decide ((1 : Int) ≤ ((kids.length : Nat) : Int)) = true := decide_eq_true (by omega)
       have hz6 : decide (((kids.length : Nat) : Int) ≤ 1) = false := decide_eq_false (by omega)
       have HE : Hid (R = false) := by unfold Hid; rw [HO.out]; simp [qk]
       clear HO
       go_wp2_with fail
       go_ret
       exact ⟨by rw [HE.out]; rfl, HB.out⟩
    ·have hz1 : (far == 0) = false := by simpa using qfar
     have hz2 : decide (far = 0) = false := decide_eq_false qfar
     have HE : Hid (R = false) := by unfold Hid; rw [HO.out]; simp [qfar]
     clear HO
     go_wp2_with fail
     go_ret
     exact ⟨by rw [HE.out]; rfl, HB.out⟩
   ·have hz1 : (num == 0) = false := by simpa using qnum
    have hz2 : decide (num = 0) = false := decide_eq_false qnum
    have HE : Hid (R = false) := by unfold Hid; rw [HO.out]; simp [qnum]
    clear HO
    go_wp2_with fail
    go_ret
    exact ⟨by rw [HE.out]; rfl, HB.out⟩
  ·have hz1 : (name == []) = false := by simpa using qname
   have hz2 : decide (name = []) = false := decide_eq_false qname
   have HE : Hid (R = false) := by unfold Hid; rw [HO.out]; simp [qname]
   clear HO
   go_wp2_with fail
   go_ret
   exact ⟨by rw [HE.out]; rfl, HB.out⟩
 ·have hC : Hid (∀ w, Calls Tryz.prog 96 #[.int .i64 op, .int .i64 0, .int .i64 0] w fun e w' => e = .returned (.bool false) ∧ w' = w) := fun w => by have h := within_any op 0 0 w; rwa [show inB op 0 0 = false from inB_no.2 (by omega)] at h
  skip
  refine (hC.out _).mono ?_
  rintro e w' ⟨rfl, rfl⟩
  clear hC
  simp only []; rename_i kk hkk; simp only [List.append_eq, List.cons_append, List.nil_append] at hkk
  have HE : Hid (R = false) := by unfold Hid; rw [HO.out]; simp [qop]
  clear HO
  go_wp2_with fail
  go_ret
  exact ⟨by rw [HE.out]; rfl, HB.out⟩
set_option maxHeartbeats 6400000 in
set_option maxRecDepth 100000 in
theorem has10 (K : Int) (R : Bool) (op : Int) (name : List UInt8) (num far : Int) (kids thn els : List Int) (a a2 a3 : Option Addr) (c c2 c3 : Nat) (w : World) (hl : name.length ≤ 1048576) (hk1 : kids.length ≤ 1048576) (hk2 : thn.length ≤ 1048576) (hk3 : els.length ≤ 1048576)
  (hO : R = (decide (op = 0) && isNameL name && inB num 0 65535 && inB far 0 65535 && kids.isEmpty && els.isEmpty)) (hS : Shape K (shapeV 0 true true true 0 0 true false)) (hK : inB K 1 11 = true) :
  Calls Tryz.prog 97 #[.agg #[.int .i64 K, .int .i64 op, .string (bs name), .int .i64 num, .int .i64 far, .slice a kids.length c, .slice a2 thn.length c2, .slice a3 els.length c3]] w fun e w' => e = .returned (.bool R) ∧ Below w.heap.size w w' := by
 have HN : Hid (∀ w, Calls Tryz.prog 95 #[.string (bs name)] w fun e w' => e = .returned (.bool (isNameL name)) ∧ w' = w) := fun w => iIsName_any name w (by omega)
 have HW0 : Hid (∀ w, Calls Tryz.prog 96 #[.int .i64 K, .int .i64 1, .int .i64 11] w fun e w' => e = .returned (.bool true) ∧ w' = w) := fun w => by have h := within_any K 1 11 w; rwa [hK] at h
 have HS := hid hS
 have HO := hid hO
 clear hl hO hS hK
 go_enter Tryz.func97, Tryz.ntmps97
 go_wp2_with fail
 have hA := heap_alloc_new w (.cells #[.int .i64 K, .int .i64 op, .string (bs name), .int .i64 num, .int .i64 far, .slice a kids.length c, .slice a2 thn.length c2, .slice a3 els.length c3] 88)
 have hB : Below w.heap.size w (w.alloc (.cells #[.int .i64 K, .int .i64 op, .string (bs name), .int .i64 num, .int .i64 far, .slice a kids.length c, .slice a2 thn.length c2, .slice a3 els.length c3] 88)) := (Below.refl _ _).alloc (Nat.le_refl _) _
 generalize w.alloc (.cells #[.int .i64 K, .int .i64 op, .string (bs name), .int .i64 num, .int .i64 far, .slice a kids.length c, .slice a2 thn.length c2, .slice a3 els.length c3] 88) = W at *
 have k0 : W.cell? ⟨w.heap.size, 0, none⟩ = some (.int .i64 K) := cell_of_row _ _ 0 _ _ _ hA
 refine (HW0.out _).mono ?_
 rintro e w1 ⟨rfl, rfl⟩
 go_wp2_with fail
 refine (HS.out _).mono ?_
 rintro e w2 ⟨rfl, hb⟩
 have hA2 := blk hA hb
 have HB : Hid (Below w.heap.size w w2) := hB.trans (hb.mono hB.size)
 obtain ⟨d0, d1, d2, d3, d4, d5, d6, d7⟩ := cl8 hA2
 have hwl : w.heap.size < w2.heap.size := World.block_lt_of_cell? _ _ d0
 clear hA hB k0 hb hA2 HW0 HS
 go_wp2_with fail
 have hA3 := heap_alloc_new w2 (.cells #[.int .i64 0, .bool true, .bool true, .bool true, .int .i64 0, .int .i64 0, .bool true, .bool false] 162)
 have hB3 : Below w2.heap.size w2 (w2.alloc (.cells #[.int .i64 0, .bool true, .bool true, .bool true, .int .i64 0, .int .i64 0, .bool true, .bool false] 162)) := (Below.refl _ _).alloc (Nat.le_refl _) _
 generalize w2.alloc (.cells #[.int .i64 0, .bool true, .bool true, .bool true, .int .i64 0, .int .i64 0, .bool true, .bool false] 162) = W3 at *
 replace d0 : W3.cell? ⟨w.heap.size, 0, none⟩ = some (.int .i64 K) := (hB3.cell (p := ⟨w.heap.size, 0, none⟩) hwl).trans d0
 replace d1 : W3.cell? ⟨w.heap.size, 1, none⟩ = some (.int .i64 op) := (hB3.cell (p := ⟨w.heap.size, 1, none⟩) hwl).trans d1
 replace d2 : W3.cell? ⟨w.heap.size, 2, none⟩ = some (.string (bs name)) := (hB3.cell (p := ⟨w.heap.size, 2, none⟩) hwl).trans d2
 replace d3 : W3.cell? ⟨w.heap.size, 3, none⟩ = some (.int .i64 num) := (hB3.cell (p := ⟨w.heap.size, 3, none⟩) hwl).trans d3
 replace d4 : W3.cell? ⟨w.heap.size, 4, none⟩ = some (.int .i64 far) := (hB3.cell (p := ⟨w.heap.size, 4, none⟩) hwl).trans d4
 replace d5 : W3.cell? ⟨w.heap.size, 5, none⟩ = some (.slice a kids.length c) := (hB3.cell (p := ⟨w.heap.size, 5, none⟩) hwl).trans d5
 replace d6 : W3.cell? ⟨w.heap.size, 6, none⟩ = some (.slice a2 thn.length c2) := (hB3.cell (p := ⟨w.heap.size, 6, none⟩) hwl).trans d6
 replace d7 : W3.cell? ⟨w.heap.size, 7, none⟩ = some (.slice a3 els.length c3) := (hB3.cell (p := ⟨w.heap.size, 7, none⟩) hwl).trans d7
 obtain ⟨s0, s1, s2, s3, s4, s5, s6, s7⟩ := cl8 hA3
 replace HB : Hid (Below w.heap.size w W3) := HB.out.trans (hB3.mono HB.out.size)
 clear hA3 hB3 hwl
 generalize w2.heap.size = g2 at *
 by_cases qop : op = 0
 ·subst qop
  have hC : Hid (∀ w, Calls Tryz.prog 96 #[.int .i64 0, .int .i64 0, .int .i64 0] w fun e w' => e = .returned (.bool true) ∧ w' = w) := fun w => by have h := within_any 0 0 0 w; rwa [show inB 0 0 0 = true from by decide] at h
  skip
  refine (hC.out _).mono ?_
  rintro e w' ⟨rfl, rfl⟩
  clear hC
  simp only []; rename_i kk hkk; simp only [List.append_eq, List.cons_append, List.nil_append] at hkk
  obtain ⟨q, qname⟩ : ∃ q, isNameL name = q := ⟨_, rfl⟩
  have hC : Hid (∀ w, Calls Tryz.prog 95 #[.string (bs name)] w fun e w' => e = .returned (.bool q) ∧ w' = w) := fun w => by have h := HN.out w; rwa [qname] at h
  cases q with
  | true =>
   go_wp2_with fail
   refine (hC.out _).mono ?_
   rintro e w' ⟨rfl, rfl⟩
   clear hC
   skip
   obtain ⟨q, qnum⟩ : ∃ q, inB num 0 65535 = q := ⟨_, rfl⟩
   have hC : Hid (∀ w, Calls Tryz.prog 108 #[.int .i64 num] w fun e w' => e = .returned (.bool q) ∧ w' = w) := fun w => by have h := fitsWord_any num w; rwa [qnum] at h
   cases q with
   | true =>
    go_wp2_with fail
    refine (hC.out _).mono ?_
    rintro e w' ⟨rfl, rfl⟩
    clear hC
    skip
    obtain ⟨q, qfar⟩ : ∃ q, inB far 0 65535 = q := ⟨_, rfl⟩
    have hC : Hid (∀ w, Calls Tryz.prog 108 #[.int .i64 far] w fun e w' => e = .returned (.bool q) ∧ w' = w) := fun w => by have h := fitsWord_any far w; rwa [qfar] at h
    cases q with
    | true =>
     go_wp2_with fail
     refine (hC.out _).mono ?_
     rintro e w' ⟨rfl, rfl⟩
     clear hC
     skip
     by_cases qkids : kids = []
     ·subst qkids
      by_cases qels : els = []
      ·subst qels
       have HE : Hid (R = true) := by unfold Hid; rw [HO.out]; simp [qname, qnum, qfar]
       clear HO
       go_wp2_with fail
       go_ret
       exact ⟨by rw [HE.out]; rfl, HB.out⟩
      ·have hz : 0 < els.length := List.length_pos_iff.2 qels
       have hz3 : (((els.length : Nat) : Int) == 0) = false := by rw [beq_eq_false_iff_ne]; omega
       have hz4 : decide (((els.length : Nat) : Int) = 0) = false := decide_eq_false (by omega)
       have HE : Hid (R = false) := by unfold Hid; rw [HO.out]; simp [qels]
       clear HO
       go_wp2_with fail
       go_ret
       exact ⟨by rw [HE.out]; rfl, HB.out⟩
     ·have hz : 0 < kids.length := List.length_pos_iff.2 qkids
      have hz3 : (((kids.length : Nat) : Int) == 0) = false := by rw [beq_eq_false_iff_ne]; omega
      have hz4 : decide (((kids.length : Nat) : Int) = 0) = false := decide_eq_false (by omega)
      have hz5 : decide (((kids.length : Nat) : Int) ≤ 0) = false := decide_eq_false (by omega)
      have HE : Hid (R = false) := by unfold Hid; rw [HO.out]; simp [qkids]
      clear HO
      go_wp2_with fail
      go_ret
      exact ⟨by rw [HE.out]; rfl, HB.out⟩
    | false =>
     have hz : far ≠ 0 := by rintro rfl; simp [inB] at qfar
     have hz1 : (far == 0) = false := by simpa using hz
     have hz2 : decide (far = 0) = false := decide_eq_false hz
     go_wp2_with fail
     refine (hC.out _).mono ?_
     rintro e w' ⟨rfl, rfl⟩
     clear hC
     skip
     have HE : Hid (R = false) := by unfold Hid; rw [HO.out]; simp [qfar]
     clear HO
     go_wp2_with fail
     go_ret
     exact ⟨by rw [HE.out]; rfl, HB.out⟩
   | false =>
    have hz : num ≠ 0 := by rintro rfl; simp [inB] at qnum
    have hz1 : (num == 0) = false := by simpa using hz
    have hz2 : decide (num = 0) = false := decide_eq_false hz
    go_wp2_with fail
    refine (hC.out _).mono ?_
    rintro e w' ⟨rfl, rfl⟩
    clear hC
    skip
    have HE : Hid (R = false) := by unfold Hid; rw [HO.out]; simp [qnum]
    clear HO
    go_wp2_with fail
    go_ret
    exact ⟨by rw [HE.out]; rfl, HB.out⟩
  | false =>
   go_wp2_with fail
   refine (hC.out _).mono ?_
   rintro e w' ⟨rfl, rfl⟩
   clear hC
   skip
   have HE : Hid (R = false) := by unfold Hid; rw [HO.out]; simp [qname]
   clear HO
   go_wp2_with fail
   go_ret
   exact ⟨by rw [HE.out]; rfl, HB.out⟩
 ·have hC : Hid (∀ w, Calls Tryz.prog 96 #[.int .i64 op, .int .i64 0, .int .i64 0] w fun e w' => e = .returned (.bool false) ∧ w' = w) := fun w => by have h := within_any op 0 0 w; rwa [show inB op 0 0 = false from inB_no.2 (by omega)] at h
  skip
  refine (hC.out _).mono ?_
  rintro e w' ⟨rfl, rfl⟩
  clear hC
  simp only []; rename_i kk hkk; simp only [List.append_eq, List.cons_append, List.nil_append] at hkk
  have HE : Hid (R = false) := by unfold Hid; rw [HO.out]; simp [qop]
  clear HO
  go_wp2_with fail
  go_ret
  exact ⟨by rw [HE.out]; rfl, HB.out⟩
set_option maxHeartbeats 6400000 in
set_option maxRecDepth 100000 in
theorem has11 (K : Int) (R : Bool) (op : Int) (name : List UInt8) (num far : Int) (kids thn els : List Int) (a a2 a3 : Option Addr) (c c2 c3 : Nat) (w : World) (hl : name.length ≤ 1048576) (hk1 : kids.length ≤ 1048576) (hk2 : thn.length ≤ 1048576) (hk3 : els.length ≤ 1048576)
  (hO : R = (inB op 1 4 && isNameL name && decide (num = 0) && decide (far = 0) && decide (1 ≤ kids.length ∧ kids.length ≤ 3) && thn.isEmpty && els.isEmpty)) (hS : Shape K (shapeV 4 true false false 1 3 false false)) (hK : inB K 1 11 = true) :
  Calls Tryz.prog 97 #[.agg #[.int .i64 K, .int .i64 op, .string (bs name), .int .i64 num, .int .i64 far, .slice a kids.length c, .slice a2 thn.length c2, .slice a3 els.length c3]] w fun e w' => e = .returned (.bool R) ∧ Below w.heap.size w w' := by
 have HN : Hid (∀ w, Calls Tryz.prog 95 #[.string (bs name)] w fun e w' => e = .returned (.bool (isNameL name)) ∧ w' = w) := fun w => iIsName_any name w (by omega)
 have HW0 : Hid (∀ w, Calls Tryz.prog 96 #[.int .i64 K, .int .i64 1, .int .i64 11] w fun e w' => e = .returned (.bool true) ∧ w' = w) := fun w => by have h := within_any K 1 11 w; rwa [hK] at h
 have HS := hid hS
 have HO := hid hO
 clear hl hO hS hK
 go_enter Tryz.func97, Tryz.ntmps97
 go_wp2_with fail
 have hA := heap_alloc_new w (.cells #[.int .i64 K, .int .i64 op, .string (bs name), .int .i64 num, .int .i64 far, .slice a kids.length c, .slice a2 thn.length c2, .slice a3 els.length c3] 88)
 have hB : Below w.heap.size w (w.alloc (.cells #[.int .i64 K, .int .i64 op, .string (bs name), .int .i64 num, .int .i64 far, .slice a kids.length c, .slice a2 thn.length c2, .slice a3 els.length c3] 88)) := (Below.refl _ _).alloc (Nat.le_refl _) _
 generalize w.alloc (.cells #[.int .i64 K, .int .i64 op, .string (bs name), .int .i64 num, .int .i64 far, .slice a kids.length c, .slice a2 thn.length c2, .slice a3 els.length c3] 88) = W at *
 have k0 : W.cell? ⟨w.heap.size, 0, none⟩ = some (.int .i64 K) := cell_of_row _ _ 0 _ _ _ hA
 refine (HW0.out _).mono ?_
 rintro e w1 ⟨rfl, rfl⟩
 go_wp2_with fail
 refine (HS.out _).mono ?_
 rintro e w2 ⟨rfl, hb⟩
 have hA2 := blk hA hb
 have HB : Hid (Below w.heap.size w w2) := hB.trans (hb.mono hB.size)
 obtain ⟨d0, d1, d2, d3, d4, d5, d6, d7⟩ := cl8 hA2
 have hwl : w.heap.size < w2.heap.size := World.block_lt_of_cell? _ _ d0
 clear hA hB k0 hb hA2 HW0 HS
 go_wp2_with fail
 have hA3 := heap_alloc_new w2 (.cells #[.int .i64 4, .bool true, .bool false, .bool false, .int .i64 1, .int .i64 3, .bool false, .bool false] 162)
 have hB3 : Below w2.heap.size w2 (w2.alloc (.cells #[.int .i64 4, .bool true, .bool false, .bool false, .int .i64 1, .int .i64 3, .bool false, .bool false] 162)) := (Below.refl _ _).alloc (Nat.le_refl _) _
 generalize w2.alloc (.cells #[.int .i64 4, .bool true, .bool false, .bool false, .int .i64 1, .int .i64 3, .bool false, .bool false] 162) = W3 at *
 replace d0 : W3.cell? ⟨w.heap.size, 0, none⟩ = some (.int .i64 K) := (hB3.cell (p := ⟨w.heap.size, 0, none⟩) hwl).trans d0
 replace d1 : W3.cell? ⟨w.heap.size, 1, none⟩ = some (.int .i64 op) := (hB3.cell (p := ⟨w.heap.size, 1, none⟩) hwl).trans d1
 replace d2 : W3.cell? ⟨w.heap.size, 2, none⟩ = some (.string (bs name)) := (hB3.cell (p := ⟨w.heap.size, 2, none⟩) hwl).trans d2
 replace d3 : W3.cell? ⟨w.heap.size, 3, none⟩ = some (.int .i64 num) := (hB3.cell (p := ⟨w.heap.size, 3, none⟩) hwl).trans d3
 replace d4 : W3.cell? ⟨w.heap.size, 4, none⟩ = some (.int .i64 far) := (hB3.cell (p := ⟨w.heap.size, 4, none⟩) hwl).trans d4
 replace d5 : W3.cell? ⟨w.heap.size, 5, none⟩ = some (.slice a kids.length c) := (hB3.cell (p := ⟨w.heap.size, 5, none⟩) hwl).trans d5
 replace d6 : W3.cell? ⟨w.heap.size, 6, none⟩ = some (.slice a2 thn.length c2) := (hB3.cell (p := ⟨w.heap.size, 6, none⟩) hwl).trans d6
 replace d7 : W3.cell? ⟨w.heap.size, 7, none⟩ = some (.slice a3 els.length c3) := (hB3.cell (p := ⟨w.heap.size, 7, none⟩) hwl).trans d7
 obtain ⟨s0, s1, s2, s3, s4, s5, s6, s7⟩ := cl8 hA3
 replace HB : Hid (Below w.heap.size w W3) := HB.out.trans (hB3.mono HB.out.size)
 clear hA3 hB3 hwl
 generalize w2.heap.size = g2 at *
 obtain ⟨q, qop⟩ : ∃ q, inB op 1 4 = q := ⟨_, rfl⟩
 have hC : Hid (∀ w, Calls Tryz.prog 96 #[.int .i64 op, .int .i64 1, .int .i64 4] w fun e w' => e = .returned (.bool q) ∧ w' = w) := fun w => by have h := within_any op 1 4 w; rwa [qop] at h
 cases q with
 | true =>
  skip
  refine (hC.out _).mono ?_
  rintro e w' ⟨rfl, rfl⟩
  clear hC
  simp only []; rename_i kk hkk; simp only [List.append_eq, List.cons_append, List.nil_append] at hkk
  obtain ⟨q, qname⟩ : ∃ q, isNameL name = q := ⟨_, rfl⟩
  have hC : Hid (∀ w, Calls Tryz.prog 95 #[.string (bs name)] w fun e w' => e = .returned (.bool q) ∧ w' = w) := fun w => by have h := HN.out w; rwa [qname] at h
  cases q with
  | true =>
   go_wp2_with fail
   refine (hC.out _).mono ?_
   rintro e w' ⟨rfl, rfl⟩
   clear hC
   skip
   by_cases qnum : num = 0
   ·subst qnum
    by_cases qfar : far = 0
    ·subst qfar
     by_cases qk : 1 ≤ kids.length ∧ kids.length ≤ 3
     ·have qk1 := qk.1
      have qk2 := qk.2
      have hz5 : decide ((1 : Int) ≤ ((kids.length : Nat) : Int)) = true := decide_eq_true (by omega)
      have hz6 : decide (((kids.length : Nat) : Int) ≤ 3) = true := decide_eq_true (by omega)
      have QK : Hid (1 ≤ kids.length ∧ kids.length ≤ 3) := qk
      clear qk qk1 qk2
      by_cases qthn : thn = []
      ·subst qthn
       by_cases qels : els = []
       ·subst qels
        have HE : Hid (R = true) := by unfold Hid; rw [HO.out]; simp [qop, qname, QK.out]
        clear HO
        go_wp2_with fail
        go_ret
        exact ⟨by rw [HE.out]; rfl, HB.out⟩
       ·have hz : 0 < els.length := List.length_pos_iff.2 qels
        have hz3 : (((els.length : Nat) : Int) == 0) = false := by rw [beq_eq_false_iff_ne]; omega
        have hz4 : decide (((els.length : Nat) : Int) = 0) = false := decide_eq_false (by omega)
        have HE : Hid (R = false) := by unfold Hid; rw [HO.out]; simp [qels]
        clear HO
        go_wp2_with fail
        go_ret
        exact ⟨by rw [HE.out]; rfl, HB.out⟩
      ·have hz : 0 < thn.length := List.length_pos_iff.2 qthn
       have hz3 : (((thn.length : Nat) : Int) == 0) = false := by rw [beq_eq_false_iff_ne]; omega
       have hz4 : decide (((thn.length : Nat) : Int) = 0) = false := decide_eq_false (by omega)
       have HE : Hid (R = false) := by unfold Hid; rw [HO.out]; simp [qthn]
       clear HO
       go_wp2_with fail
       go_ret
       exact ⟨by rw [HE.out]; rfl, HB.out⟩
     ·by_cases qk1 : kids.length < 1
      ·have hz5 : decide ((1 : Int) ≤ ((kids.length : Nat) : Int)) = false := decide_eq_false (by omega)
       have HE : Hid (R = false) := by unfold Hid; rw [HO.out]; simp [qk]
       clear HO
       go_wp2_with fail
       go_ret
       exact ⟨by rw [HE.out]; rfl, HB.out⟩
      ·have qk2 : 3 < kids.length := by omega
       have hz5 : decide ((1 : Int) ≤ ((kids.length : Nat) : Int)) = true := decide_eq_true (by omega)
       have hz6 : decide (((kids.length : Nat) : Int) ≤ 3) = false := decide_eq_false (by omega)
       have HE : Hid (R = false) := by unfold Hid; rw [HO.out]; simp [qk]
       clear HO
       go_wp2_with fail
       go_ret
       exact ⟨by rw [HE.out]; rfl, HB.out⟩
    ·have hz1 : (far == 0) = false := by simpa using qfar
     have hz2 : decide (far = 0) = false := decide_eq_false qfar
     have HE : Hid (R = false) := by unfold Hid; rw [HO.out]; simp [qfar]
     clear HO
     go_wp2_with fail
     go_ret
     exact ⟨by rw [HE.out]; rfl, HB.out⟩
   ·have hz1 : (num == 0) = false := by simpa using qnum
    have hz2 : decide (num = 0) = false := decide_eq_false qnum
    have HE : Hid (R = false) := by unfold Hid; rw [HO.out]; simp [qnum]
    clear HO
    go_wp2_with fail
    go_ret
    exact ⟨by rw [HE.out]; rfl, HB.out⟩
  | false =>
   go_wp2_with fail
   refine (hC.out _).mono ?_
   rintro e w' ⟨rfl, rfl⟩
   clear hC
   skip
   have HE : Hid (R = false) := by unfold Hid; rw [HO.out]; simp [qname]
   clear HO
   go_wp2_with fail
   go_ret
   exact ⟨by rw [HE.out]; rfl, HB.out⟩
 | false =>
  skip
  refine (hC.out _).mono ?_
  rintro e w' ⟨rfl, rfl⟩
  clear hC
  simp only []; rename_i kk hkk; simp only [List.append_eq, List.cons_append, List.nil_append] at hkk
  have HE : Hid (R = false) := by unfold Hid; rw [HO.out]; simp [qop]
  clear HO
  go_wp2_with fail
  go_ret
  exact ⟨by rw [HE.out]; rfl, HB.out⟩
set_option maxHeartbeats 1600000 in
theorem hasShape_any (n : LNode) (a a2 a3 : Option Addr) (c c2 c3 : Nat) (w : World) (hl : n.name.length ≤ 1048576) (hk1 : n.kids.length ≤ 1048576) (hk2 : n.thn.length ≤ 1048576) (hk3 : n.els.length ≤ 1048576) :
  Calls Tryz.prog 97 #[nodeV n (.slice a n.kids.length c) (.slice a2 n.thn.length c2) (.slice a3 n.els.length c3)] w fun e w' => e = .returned (.bool (ownB n)) ∧ Below w.heap.size w w' := by
 obtain ⟨K, op, name, num, far, kids, thn, els⟩ := n
 by_cases hK : inB K 1 11 = true
 ·have h := inB_iff.1 hK
  have : K = 1 ∨ K = 2 ∨ K = 3 ∨ K = 4 ∨ K = 5 ∨ K = 6 ∨ K = 7 ∨ K = 8 ∨ K = 9 ∨ K = 10 ∨ K = 11 := by omega
  rcases this with rfl | rfl | rfl | rfl | rfl | rfl | rfl | rfl | rfl | rfl | rfl
  ·exact has1 1 _ op name num far kids thn els a a2 a3 c c2 c3 w hl hk1 hk2 hk3 (ownK1 op name num far kids thn els) sh1 hK
  ·exact has2 2 _ op name num far kids thn els a a2 a3 c c2 c3 w hl hk1 hk2 hk3 (ownK2 op name num far kids thn els) sh2 hK
  ·exact has3 3 _ op name num far kids thn els a a2 a3 c c2 c3 w hl hk1 hk2 hk3 (ownK3 op name num far kids thn els) sh3 hK
  ·exact has4 4 _ op name num far kids thn els a a2 a3 c c2 c3 w hl hk1 hk2 hk3 (ownK4 op name num far kids thn els) sh4 hK
  ·exact has4 5 _ op name num far kids thn els a a2 a3 c c2 c3 w hl hk1 hk2 hk3 (ownK5 op name num far kids thn els) sh5 hK
  ·exact has6 6 _ op name num far kids thn els a a2 a3 c c2 c3 w hl hk1 hk2 hk3 (ownK6 op name num far kids thn els) sh6 hK
  ·exact has3 7 _ op name num far kids thn els a a2 a3 c c2 c3 w hl hk1 hk2 hk3 (ownK7 op name num far kids thn els) sh7 hK
  ·exact has8 8 _ op name num far kids thn els a a2 a3 c c2 c3 w hl hk1 hk2 hk3 (ownK8 op name num far kids thn els) sh8 hK
  ·exact has9 9 _ op name num far kids thn els a a2 a3 c c2 c3 w hl hk1 hk2 hk3 (ownK9 op name num far kids thn els) sh9 hK
  ·exact has10 10 _ op name num far kids thn els a a2 a3 c c2 c3 w hl hk1 hk2 hk3 (ownK10 op name num far kids thn els) sh10 hK
  ·exact has11 11 _ op name num far kids thn els a a2 a3 c c2 c3 w hl hk1 hk2 hk3 (ownK11 op name num far kids thn els) sh11 hK
 ·have hK : inB K 1 11 = false := by simpa using hK
  have HE : Hid (ownB ⟨K, op, name, num, far, kids, thn, els⟩ = false) := by unfold Hid ownB; simp only [hK, Bool.false_and]
  have HW0 : Hid (∀ w, Calls Tryz.prog 96 #[.int .i64 K, .int .i64 1, .int .i64 11] w fun e w' => e = .returned (.bool false) ∧ w' = w) := fun w => by have h := within_any K 1 11 w; rwa [hK] at h
  generalize ownB ⟨K, op, name, num, far, kids, thn, els⟩ = R at *
  clear hK
  go_enter Tryz.func97, Tryz.ntmps97
  go_wp2_with fail
  have hA := heap_alloc_new w (.cells #[.int .i64 K, .int .i64 op, .string (bs name), .int .i64 num, .int .i64 far, .slice a kids.length c, .slice a2 thn.length c2, .slice a3 els.length c3] 88)
  have hB : Below w.heap.size w (w.alloc (.cells #[.int .i64 K, .int .i64 op, .string (bs name), .int .i64 num, .int .i64 far, .slice a kids.length c, .slice a2 thn.length c2, .slice a3 els.length c3] 88)) := (Below.refl _ _).alloc (Nat.le_refl _) _
  generalize w.alloc (.cells #[.int .i64 K, .int .i64 op, .string (bs name), .int .i64 num, .int .i64 far, .slice a kids.length c, .slice a2 thn.length c2, .slice a3 els.length c3] 88) = W at *
  refine (HW0.out _).mono ?_
  rintro e w1 ⟨rfl, rfl⟩
  go_wp2_with fail
  go_ret
  exact ⟨by rw [HE.out]; rfl, hB⟩
end Go.Proofs.YteeklmgkhacbcaaGreatDoor
namespace Go.Proofs.YteeklmgkhacbcaaGreatDoor
open Go.RowKit
set_option linter.unusedVariables false
set_option maxHeartbeats 1600000 in
theorem iep_no (a : Option Addr) (n c : Nat) (z : Int) (w : World) (hn : n ≤ 1048577) (hq : inB z 0 ((n : Int) - 1) = false) : Calls Tryz.prog 122 #[.slice a n c, .int .i64 z] w fun e w' => e = .returned (.bool false) ∧ w' = w := by
 have hI : Hid (∀ w, Calls Tryz.prog 123 #[.slice a n c, .int .i64 z] w fun e w' => e = .returned (.bool false) ∧ w' = w) := fun w => by have h := isPlace_any a n c z w hn; rwa [hq] at h
 clear hq
 go_enter Tryz.func122, Tryz.ntmps122
 go_wp2_with fail
 refine (hI.out _).mono ?_
 rintro e w1 ⟨rfl, rfl⟩
 go_wp2_with fail
 go_ret
 exact ⟨rfl, rfl⟩
set_option maxHeartbeats 1600000 in
theorem iep_yes (g o n c j : Nat) (kd : Int) (w : World) (hn : n ≤ 1048577) (hj : j < n) (d0 : w.cell? ⟨g, o + j * 8, none⟩ = some (.int .i64 kd)) : Calls Tryz.prog 122 #[.slice (some ⟨g, o, none⟩) n c, .int .i64 (j : Int)] w fun e w' => e = .returned (.bool (inB kd 1 6)) ∧ w' = w := by
 have hq : inB (j : Int) 0 ((n : Int) - 1) = true := inB_iff.2 ⟨by omega, by omega⟩
 have hI : Hid (∀ w, Calls Tryz.prog 123 #[.slice (some ⟨g, o, none⟩) n c, .int .i64 (j : Int)] w fun e w' => e = .returned (.bool true) ∧ w' = w) := fun w => by have h := isPlace_any (some ⟨g, o, none⟩) n c (j : Int) w hn; rwa [hq] at h
 have HX : Hid (∀ w, Calls Tryz.prog 137 #[.int .i64 kd] w fun e w' => e = .returned (.bool (inB kd 1 6)) ∧ w' = w) := fun w => isExpression_any kd w
 generalize inB kd 1 6 = r at *
 have hj0 : (0 : Int) ≤ (j : Int) := by omega
 have hj1 : (j : Int) < (n : Int) := by omega
 clear hq hj
 go_enter Tryz.func122, Tryz.ntmps122
 go_wp2_with fail
 refine (hI.out _).mono ?_
 rintro e w1 ⟨rfl, rfl⟩
 go_wp2_with fail
 refine (HX.out _).mono ?_
 rintro e w1 ⟨rfl, rfl⟩
 go_wp2_with fail
 go_ret
 exact ⟨rfl, rfl⟩
attribute [local go_sem] bs_size bs_get bs_extract bs_append bs_eq bs_toList
def partsB (N : List LNode) (m : Nat) (n : LNode) : Bool := kidsB N m n.kids && statB N m n.thn && statB N m n.els
set_option maxHeartbeats 6400000 in
set_option maxRecDepth 100000 in
theorem hasParts_any (N : List LNode) (m : Nat) (a2 : Option Addr) (c2 : Nat) (n : LNode) (vk vt ve : Value) (w : World) (hm : m ≤ N.length) (hm1 : m ≤ 1048576) (hK : Kinds w a2 N m)
  (hv1 : IntsB w.heap.size w vk n.kids) (hv2 : IntsB w.heap.size w vt n.thn) (hv3 : IntsB w.heap.size w ve n.els) (hl1 : n.kids.length ≤ 1048576) (hl2 : n.thn.length ≤ 1048576) (hl3 : n.els.length ≤ 1048576) :
  Calls Tryz.prog 98 #[.slice a2 m c2, nodeV n vk vt ve] w fun e w' => e = .returned (.bool (partsB N m n)) ∧ Below w.heap.size w w' := by
 have HV2 := hid hv2
 have HV3 := hid hv3
 have HKI : Hid (Kinds w a2 N m) := hK
 obtain ⟨a, cp, rfl, hh⟩ := hv1
 obtain ⟨at2, ct, rfl, _⟩ := id hv2
 obtain ⟨ae, ce, rfl, _⟩ := id hv3
 have HH := hid hh
 have HK := hid hK
 have HP : Hid (∀ (z : Int) (w : World), inB z 0 ((m : Int) - 1) = false → Calls Tryz.prog 122 #[.slice a2 m c2, .int .i64 z] w fun e w' => e = .returned (.bool false) ∧ w' = w) := fun z w h => iep_no a2 m c2 z w (by omega) h
 have HM : Hid (m ≤ N.length) := hm
 clear hh hK hm hv2 hv3
 go_enter Tryz.func98, Tryz.ntmps98
 go_wp2
 have hA := heap_alloc_new w (.cells #[.int .i64 n.kind, .int .i64 n.op, .string (bs n.name), .int .i64 n.num, .int .i64 n.far, .slice a n.kids.length cp, .slice at2 n.thn.length ct, .slice ae n.els.length ce] 88)
 have hB : Below w.heap.size w (w.alloc (.cells #[.int .i64 n.kind, .int .i64 n.op, .string (bs n.name), .int .i64 n.num, .int .i64 n.far, .slice a n.kids.length cp, .slice at2 n.thn.length ct, .slice ae n.els.length ce] 88)) := (Below.refl _ _).alloc (Nat.le_refl _) _
 generalize w.alloc (.cells #[.int .i64 n.kind, .int .i64 n.op, .string (bs n.name), .int .i64 n.num, .int .i64 n.far, .slice a n.kids.length cp, .slice at2 n.thn.length ct, .slice ae n.els.length ce] 88) = W at *
 obtain ⟨-, -, -, -, -, -, e6, e7⟩ := cl8 hA
 have HE6 : Hid (W.cell? ⟨w.heap.size, 6, none⟩ = some (.slice at2 n.thn.length ct)) := e6
 have HE7 : Hid (W.cell? ⟨w.heap.size, 7, none⟩ = some (.slice ae n.els.length ce)) := e7
 have HB := hid hB
 have HS : ∀ (v : Value) (l : List Int), IntsB w.heap.size w v l → l.length ≤ 1048576 → ∀ W1, SameW W1 W → Calls Tryz.prog 99 #[.slice a2 m c2, v] W1 fun e w' => e = .returned (.bool (statB N m l)) ∧ w' = W1 := fun v l hv hl W1 hW => by
  have hW : W1 = W := hW
  subst hW
  refine areStatements_any N m a2 c2 v l w.heap.size W1 HM.out hm1 ?_ (hv.keep (fun q hq => hB.block q hq) (Nat.le_refl _)) hl
  intro h0
  obtain ⟨b, o, e, hc⟩ := HKI.out h0
  exact ⟨b, o, e, fun i x hi hx => by have := hc i x hi hx; exact (hB.cell (p := ⟨b, o + i * 8, none⟩) (World.block_lt_of_cell? _ _ this)).trans this⟩
 have HS1 : Hid (∀ W1, SameW W1 W → Calls Tryz.prog 99 #[.slice a2 m c2, .slice at2 n.thn.length ct] W1 fun e w' => e = .returned (.bool (statB N m n.thn)) ∧ w' = W1) := HS _ _ HV2.out hl2
 have HS2 : Hid (∀ W1, SameW W1 W → Calls Tryz.prog 99 #[.slice a2 m c2, .slice ae n.els.length ce] W1 fun e w' => e = .returned (.bool (statB N m n.els)) ∧ w' = W1) := HS _ _ HV3.out hl3
 clear hA hB HS e6 e7
 go_loopw [10] (fun i wr => ∃ k : Nat, k ≤ n.kids.length ∧ i = .int .i64 k ∧ (∀ j x, j < k → n.kids[j]? = some x → (inB x 0 ((m : Int) - 1) && inB (kindAt N x) 1 6) = true) ∧ SameW wr W) (fun i _ => n.kids.length - (intOf i).toNat)
 case atStart => exact ⟨0, by omega, rfl, by omega, rfl⟩
 case round =>
  obtain ⟨k, hk, rfl, hall, hw⟩ := hrel
  have HALL := hid hall
  have HW : Hid (SameW wr W) := hw
  have HBW : Hid (Below w.heap.size w wr) := by unfold Hid; have : wr = W := hw; rw [this]; exact HB.out
  clear hall
  by_cases hlt : k < n.kids.length
  ·obtain ⟨x, hx⟩ : ∃ x, n.kids[k]? = some x := ⟨n.kids[k], List.getElem?_eq_getElem hlt⟩
   obtain ⟨b, o, rfl, _, hc1⟩ := HH.out (by intro e; rw [e] at hlt; simp at hlt)
   have c0 := (HBW.out.cell (p := ⟨b, o + k, none⟩) (World.block_lt_of_cell? _ _ (hc1 k x hx))).trans (hc1 k x hx)
   have hk0 : (0 : Int) ≤ (k : Int) := by omega
   have hk1 : (k : Int) < (n.kids.length : Int) := by omega
   have HL : Hid (n.kids[k]? = some x) := hx
   clear hx hc1
   obtain ⟨q, hq⟩ : ∃ q, inB x 0 ((m : Int) - 1) = q := ⟨_, rfl⟩
   cases q with
   | false =>
    have hI : Hid (∀ w, Calls Tryz.prog 122 #[.slice a2 m c2, .int .i64 x] w fun e w' => e = .returned (.bool false) ∧ w' = w) := fun w => HP.out x w hq
    have e : kidsB N m n.kids = false := List.all_eq_false.2 ⟨x, List.mem_of_getElem? HL.out, by simp [hq]⟩
    have He : Hid (partsB N m n = false) := by unfold Hid partsB; rw [e]; rfl
    clear e hq hw
    go_wp2_with fail
    refine (hI.out _).mono ?_
    rintro e w1 ⟨rfl, rfl⟩
    go_wp2_with fail
    go_ret
    exact ⟨by rw [He.out]; rfl, HBW.out⟩
   | true =>
    have hq2 := inB_iff.1 hq
    obtain ⟨j, rfl⟩ : ∃ j : Nat, x = j := ⟨x.toNat, by omega⟩
    have hjm : j < m := by omega
    obtain ⟨y, hy⟩ : ∃ y, N[j]? = some y := ⟨N[j]'(by have := HM.out; omega), List.getElem?_eq_getElem _⟩
    obtain ⟨g2, o2, rfl, hc2⟩ := HK.out (by omega)
    have d0 := (HBW.out.cell (p := ⟨g2, o2 + j * 8, none⟩) (World.block_lt_of_cell? _ _ (hc2 j y hjm hy))).trans (hc2 j y hjm hy)
    have hkd : kindAt N (j : Int) = y.kind := by
     have : N.getD ((j : Int)).toNat default = y := by simp [hy]
     unfold kindAt; rw [this]
    have HR : Hid ((inB (j : Int) 0 ((m : Int) - 1) && inB (kindAt N (j : Int)) 1 6) = inB y.kind 1 6) := by unfold Hid; rw [hq, hkd]; rfl
    have hj0 : (0 : Int) ≤ (j : Int) := by omega
    have hj1 : (j : Int) < (m : Int) := by omega
    have hI : Hid (Calls Tryz.prog 122 #[.slice (some ⟨g2, o2, none⟩) m c2, .int .i64 (j : Int)] wr fun e w' => e = .returned (.bool (inB y.kind 1 6)) ∧ w' = wr) := iep_yes g2 o2 m c2 j y.kind wr (by omega) hjm d0
    clear hq hq2 hy hc2 hkd hw d0 hj0 hj1
    obtain ⟨qe, hqe⟩ : ∃ q, inB y.kind 1 6 = q := ⟨_, rfl⟩
    rw [hqe] at hI
    cases qe
    ·have e : kidsB N m n.kids = false := List.all_eq_false.2 ⟨(j : Int), List.mem_of_getElem? HL.out, by rw [HR.out, hqe]; decide⟩
     have He : Hid (partsB N m n = false) := by unfold Hid partsB; rw [e]; rfl
     clear e
     go_wp2_with fail
     refine hI.out.mono ?_
     rintro e w1 ⟨rfl, rfl⟩
     go_wp2_with fail
     go_ret
     exact ⟨by rw [He.out]; rfl, HBW.out⟩
    ·go_wp2_with fail
     refine hI.out.mono ?_
     rintro e w1 ⟨rfl, rfl⟩
     go_wp2_with fail
     go_roundw
     case rel => exact ⟨k + 1, by omega, by go_num, fun i x hi hx => by
       rcases Nat.lt_succ_iff_lt_or_eq.1 hi with h | rfl
       ·exact HALL.out i x h hx
       ·have := hx.symm.trans HL.out
        cases this
        rw [HR.out, hqe], HW.out⟩
     case measure => simp [intOf]; omega
  ·have hke : k = n.kids.length := by omega
   have e : kidsB N m n.kids = true := List.all_eq_true.2 (fun x hx => by
    obtain ⟨j, hj, rfl⟩ := List.getElem_of_mem hx
    exact HALL.out j _ (by omega) (List.getElem?_eq_getElem hj))
   have He : Hid (partsB N m n = (statB N m n.thn && statB N m n.els)) := by unfold Hid partsB; rw [e]; rfl
   have e6 : wr.cell? ⟨w.heap.size, 6, none⟩ = some (.slice at2 n.thn.length ct) := by have : wr = W := hw; rw [this]; exact HE6.out
   have e7 : wr.cell? ⟨w.heap.size, 7, none⟩ = some (.slice ae n.els.length ce) := by have : wr = W := hw; rw [this]; exact HE7.out
   clear e hke hw
   generalize statB N m n.thn = q1 at *
   generalize statB N m n.els = q2 at *
   cases q1
   ·go_wp2_with fail
    refine (HS1.out _ (by exact HW.out)).mono ?_
    rintro e w1 ⟨rfl, rfl⟩
    go_wp2_with fail
    go_ret
    exact ⟨by rw [He.out]; rfl, HBW.out⟩
   ·go_wp2_with fail
    refine (HS1.out _ (by exact HW.out)).mono ?_
    rintro e w1 ⟨rfl, rfl⟩
    go_wp2_with fail
    refine (HS2.out _ (by exact HW.out)).mono ?_
    rintro e w1 ⟨rfl, rfl⟩
    go_wp2_with fail
    go_ret
    exact ⟨by rw [He.out]; cases q2 <;> rfl, HBW.out⟩
end Go.Proofs.YteeklmgkhacbcaaGreatDoor
