/-
  spec.l4Right, kinds 9, 10, 11.
-/
import Derived.Test.YtepjaoapjpmjkaaGreatDoorCheckS
import Derived.Test.YtepjaoapjpmjkaaGreatDoorRowE
import Derived.Test.YtepjaoapjpmjkaaGreatDoorTreeMath
namespace Go.Proofs.YtepjaoapjpmjkaaGreatDoor
open Go.RowKit
set_option linter.unusedVariables false
attribute [local go_sem] bs_size bs_get bs_extract bs_append bs_eq bs_toList
set_option maxHeartbeats 6400000 in
set_option maxRecDepth 100000 in
theorem rgt9 (R : Bool) (p at_ : Nat) (b o cn : Nat) (nn : Nat) (vv vb : Value) (op : Int) (name : List UInt8) (num far : Int) (kids thn els : List Int) (a a2 a3 : Option Addr) (c c2 c3 : Nat) (w : World) (hl : name.length ≤ 1048576) (hk1 : kids.length ≤ 1048576) (hk2 : thn.length ≤ 1048576) (hk3 : els.length ≤ 1048576)
  (r1 r2 r3 : Bool) (hO : R = ((decide (op = 0) && name.isEmpty && decide (num = 0) && decide (far = 0) && decide (1 ≤ kids.length ∧ kids.length ≤ 1)) && r1 && r2 && r3)) (hat : at_ < nn) (hp1 : w.cell? ⟨p, 1, none⟩ = some (.slice (some ⟨b, o, none⟩) nn cn))
  (hc0 : w.cell? ⟨b, o + at_ * 8, none⟩ = some (.int .i64 9))
  (hc1 : w.cell? ⟨b, o + at_ * 8 + 1, none⟩ = some (.int .i64 op))
  (hc2 : w.cell? ⟨b, o + at_ * 8 + 2, none⟩ = some (.string (bs name)))
  (hc3 : w.cell? ⟨b, o + at_ * 8 + 3, none⟩ = some (.int .i64 num))
  (hc4 : w.cell? ⟨b, o + at_ * 8 + 4, none⟩ = some (.int .i64 far))
  (hc5 : w.cell? ⟨b, o + at_ * 8 + 5, none⟩ = some (.slice a kids.length c))
  (hc6 : w.cell? ⟨b, o + at_ * 8 + 6, none⟩ = some (.slice a2 thn.length c2))
  (hc7 : w.cell? ⟨b, o + at_ * 8 + 7, none⟩ = some (.slice a3 els.length c3))
  (hR1 : ∀ W, Below w.heap.size w W → Calls Tryz.prog 63 #[.pointer (some ⟨p, 0, none⟩), .int .i64 at_, .slice a kids.length c, .bool true] W fun e w' => e = .returned (.bool r1) ∧ Below W.heap.size W w')
  (hR2 : ∀ W, Below w.heap.size w W → Calls Tryz.prog 63 #[.pointer (some ⟨p, 0, none⟩), .int .i64 at_, .slice a2 thn.length c2, .bool false] W fun e w' => e = .returned (.bool r2) ∧ Below W.heap.size W w')
  (hR3 : ∀ W, Below w.heap.size w W → Calls Tryz.prog 63 #[.pointer (some ⟨p, 0, none⟩), .int .i64 at_, .slice a3 els.length c3, .bool false] W fun e w' => e = .returned (.bool r3) ∧ Below W.heap.size W w') :
  Calls Tryz.prog 62 #[.pointer (some ⟨p, 0, none⟩), .int .i64 at_] w fun e w' => e = .returned (.bool R) ∧ Below w.heap.size w w' := by
 have HO := hid hO
 have HR1 := hid hR1
 have HR2 := hid hR2
 have HR3 := hid hR3
 have hI0 : (0 : Int) ≤ (at_ : Int) := by omega
 have hI1 : (at_ : Int) < (nn : Int) := by omega
 clear hO hR1 hR2 hR3
 go_enter Tryz.func62, Tryz.ntmps62
 go_wp2_with fail
 have hA := heap_alloc_new w (.cells #[.int .i64 9, .int .i64 op, .string (bs name), .int .i64 num, .int .i64 far, .slice a kids.length c, .slice a2 thn.length c2, .slice a3 els.length c3] 66)
 have hB : Below w.heap.size w (w.alloc (.cells #[.int .i64 9, .int .i64 op, .string (bs name), .int .i64 num, .int .i64 far, .slice a kids.length c, .slice a2 thn.length c2, .slice a3 els.length c3] 66)) := (Below.refl _ _).alloc (Nat.le_refl _) _
 generalize w.alloc (.cells #[.int .i64 9, .int .i64 op, .string (bs name), .int .i64 num, .int .i64 far, .slice a kids.length c, .slice a2 thn.length c2, .slice a3 els.length c3] 66) = W at *
 obtain ⟨d0, d1, d2, d3, d4, d5, d6, d7⟩ := cl8 hA
 have HB := hid hB
 have HA := hid hA
 clear hA hB hp1 hc0 hc1 hc2 hc3 hc4 hc5 hc6 hc7
 refine (l1In_any 9 1 11 _).mono ?_
 rintro e w1 ⟨rfl, rfl⟩
 have e1 : inB 9 1 11 = true := by decide
 rw [e1]
 clear e1
 go_wp2_with fail
 refine (l4Wants_any (⟨9, op, name, num, far, kids, thn, els⟩ : LNode) _ _ _ _ ⟨_, _, _, rfl⟩ ⟨_, _, _, rfl⟩ ⟨_, _, _, rfl⟩).mono ?_
 rintro e w2 ⟨rfl, hb⟩
 have e1 : wantsN 9 = (false, 1, false) := by decide
 simp only [wantsV, e1]
 clear e1
 have hA := blk HA.out hb
 have hB := HB.out.trans (hb.mono HB.out.size)
 clear HA HB hb d0 d1 d2 d3 d4 d5 d6 d7
 have HA := hid hA
 have HB := hid hB
 obtain ⟨d0, d1, d2, d3, d4, d5, d6, d7⟩ := cl8 hA
 clear hA hB
 go_wp2_with fail
 (try (rename_i kk hkk; simp only [List.append_eq, List.cons_append, List.nil_append] at hkk))
 refine (isName_any name _ (by omega)).mono ?_
 rintro e w3 ⟨rfl, hb⟩
 have hA := blk HA.out hb
 have hB := HB.out.trans (hb.mono HB.out.size)
 clear HA HB hb d0 d1 d2 d3 d4 d5 d6 d7
 have HA := hid hA
 have HB := hid hB
 obtain ⟨d0, d1, d2, d3, d4, d5, d6, d7⟩ := cl8 hA
 clear hA hB
 obtain ⟨qn, hqn⟩ : ∃ q, isNameL name = q := ⟨_, rfl⟩
 rw [hqn]
 by_cases qname : name = []
 ·have e1 : qn = false := by rw [← hqn, qname]; exact isNameL_nil
  subst e1
  (try simp only [])
  by_cases qk : kids.length = 1
  ·have hz1 : (((kids.length : Nat) : Int) == 1) = true := by rw [beq_iff_eq]; omega
   have hz2 : decide (((kids.length : Nat) : Int) = 1) = true := decide_eq_true (by omega)
   have hz6 : (((kids.length : Nat) : Int) != 1) = false := by rw [bne_eq_false_iff_eq]; omega
   have QK : Hid (kids.length = 1) := qk
   clear qk
   by_cases qnum : num = 0
   ·skip
    by_cases qfar : far = 0
    ·skip
     by_cases qop : op = 0
     ·skip
      go_wp2_with fail
      (try (rename_i kk hkk; simp only [List.append_eq, List.cons_append, List.nil_append] at hkk))
      refine (HR1.out _ HB.out).mono ?_
      rintro e w4 ⟨rfl, hb⟩
      have hA := blk HA.out hb
      have hB := HB.out.trans (hb.mono HB.out.size)
      clear HA HB hb d0 d1 d2 d3 d4 d5 d6 d7
      have HA := hid hA
      have HB := hid hB
      obtain ⟨d0, d1, d2, d3, d4, d5, d6, d7⟩ := cl8 hA
      clear hA hB
      cases r1 with
      | false =>
       (try simp only [])
       have HE : Hid (R = false) := by unfold Hid; rw [HO.out]; simp []
       clear HO
       go_wp2_with fail
       go_ret
       exact ⟨by rw [HE.out]; rfl, HB.out⟩
      | true =>
       (try simp only [])
       go_wp2_with fail
       refine (HR2.out _ HB.out).mono ?_
       rintro e w5 ⟨rfl, hb⟩
       have hA := blk HA.out hb
       have hB := HB.out.trans (hb.mono HB.out.size)
       clear HA HB hb d0 d1 d2 d3 d4 d5 d6 d7
       have HA := hid hA
       have HB := hid hB
       obtain ⟨d0, d1, d2, d3, d4, d5, d6, d7⟩ := cl8 hA
       clear hA hB
       cases r2 with
       | false =>
        (try simp only [])
        have HE : Hid (R = false) := by unfold Hid; rw [HO.out]; simp []
        clear HO
        go_wp2_with fail
        go_ret
        exact ⟨by rw [HE.out]; rfl, HB.out⟩
       | true =>
        (try simp only [])
        go_wp2_with fail
        refine (HR3.out _ HB.out).mono ?_
        rintro e w6 ⟨rfl, hb⟩
        have hA := blk HA.out hb
        have hB := HB.out.trans (hb.mono HB.out.size)
        clear HA HB hb d0 d1 d2 d3 d4 d5 d6 d7
        have HA := hid hA
        have HB := hid hB
        obtain ⟨d0, d1, d2, d3, d4, d5, d6, d7⟩ := cl8 hA
        clear hA hB
        have HE : Hid (R = r3) := by unfold Hid; rw [HO.out]; simp [qname, QK.out, qnum, qfar, qop]
        clear HO
        go_wp2_with fail
        go_ret
        exact ⟨by rw [HE.out]; rfl, HB.out⟩
     ·have hz1 : (op == 0) = false := by simpa using qop
      have hz2 : decide (op = 0) = false := decide_eq_false qop
      have HE : Hid (R = false) := by unfold Hid; rw [HO.out]; simp [qop]
      clear HO
      go_wp2_with fail
      go_ret
      exact ⟨by rw [HE.out]; rfl, HB.out⟩
    ·have hz1 : (far == 0) = false := by simpa using qfar
     have hz2 : decide (far = 0) = false := decide_eq_false qfar
     have HE : Hid (R = false) := by unfold Hid; rw [HO.out]; simp [qfar]
     clear HO
     go_wp2_with fail
     go_ret
     exact ⟨by rw [HE.out]; rfl, HB.out⟩
   ·have hz1 : (num == 0) = false := by simpa using qnum
    have hz2 : decide (num = 0) = false := decide_eq_false qnum
    have HE : Hid (R = false) := by unfold Hid; rw [HO.out]; simp [qnum]
    clear HO
    go_wp2_with fail
    go_ret
    exact ⟨by rw [HE.out]; rfl, HB.out⟩
  ·have hz1 : (((kids.length : Nat) : Int) == 1) = false := by rw [beq_eq_false_iff_ne]; omega
   have hz2 : decide (((kids.length : Nat) : Int) = 1) = false := decide_eq_false (by omega)
   have hz6 : (((kids.length : Nat) : Int) != 1) = true := by rw [bne_iff_ne]; omega
   have QK : Hid (¬ (1 ≤ kids.length ∧ kids.length ≤ 1)) := by unfold Hid; omega
   clear qk
   have HE : Hid (R = false) := by unfold Hid; rw [HO.out]; simp [QK.out]
   clear HO
   go_wp2_with fail
   go_ret
   exact ⟨by rw [HE.out]; rfl, HB.out⟩
 ·have hz1 : (name == []) = false := by simpa using qname
  have hz2 : decide (name = []) = false := decide_eq_false qname
  cases qn with
  | false =>
   (try simp only [])
   have HE : Hid (R = false) := by unfold Hid; rw [HO.out]; simp [qname]
   clear HO
   go_wp2_with fail
   go_ret
   exact ⟨by rw [HE.out]; rfl, HB.out⟩
  | true =>
   (try simp only [])
   have HE : Hid (R = false) := by unfold Hid; rw [HO.out]; simp [qname]
   clear HO
   go_wp2_with fail
   go_ret
   exact ⟨by rw [HE.out]; rfl, HB.out⟩
set_option maxHeartbeats 6400000 in
set_option maxRecDepth 100000 in
theorem rgt10 (R : Bool) (p at_ : Nat) (b o cn : Nat) (nn : Nat) (vv vb : Value) (op : Int) (name : List UInt8) (num far : Int) (kids thn els : List Int) (a a2 a3 : Option Addr) (c c2 c3 : Nat) (w : World) (hl : name.length ≤ 1048576) (hk1 : kids.length ≤ 1048576) (hk2 : thn.length ≤ 1048576) (hk3 : els.length ≤ 1048576)
  (r1 r2 r3 : Bool) (hO : R = ((decide (op = 0) && isNameL name && inB num 0 65535 && inB far 0 65535 && kids.isEmpty && els.isEmpty) && r1 && r2 && r3)) (hat : at_ < nn) (hp1 : w.cell? ⟨p, 1, none⟩ = some (.slice (some ⟨b, o, none⟩) nn cn))
  (hc0 : w.cell? ⟨b, o + at_ * 8, none⟩ = some (.int .i64 10))
  (hc1 : w.cell? ⟨b, o + at_ * 8 + 1, none⟩ = some (.int .i64 op))
  (hc2 : w.cell? ⟨b, o + at_ * 8 + 2, none⟩ = some (.string (bs name)))
  (hc3 : w.cell? ⟨b, o + at_ * 8 + 3, none⟩ = some (.int .i64 num))
  (hc4 : w.cell? ⟨b, o + at_ * 8 + 4, none⟩ = some (.int .i64 far))
  (hc5 : w.cell? ⟨b, o + at_ * 8 + 5, none⟩ = some (.slice a kids.length c))
  (hc6 : w.cell? ⟨b, o + at_ * 8 + 6, none⟩ = some (.slice a2 thn.length c2))
  (hc7 : w.cell? ⟨b, o + at_ * 8 + 7, none⟩ = some (.slice a3 els.length c3))
  (hR1 : ∀ W, Below w.heap.size w W → Calls Tryz.prog 63 #[.pointer (some ⟨p, 0, none⟩), .int .i64 at_, .slice a kids.length c, .bool true] W fun e w' => e = .returned (.bool r1) ∧ Below W.heap.size W w')
  (hR2 : ∀ W, Below w.heap.size w W → Calls Tryz.prog 63 #[.pointer (some ⟨p, 0, none⟩), .int .i64 at_, .slice a2 thn.length c2, .bool false] W fun e w' => e = .returned (.bool r2) ∧ Below W.heap.size W w')
  (hR3 : ∀ W, Below w.heap.size w W → Calls Tryz.prog 63 #[.pointer (some ⟨p, 0, none⟩), .int .i64 at_, .slice a3 els.length c3, .bool false] W fun e w' => e = .returned (.bool r3) ∧ Below W.heap.size W w') :
  Calls Tryz.prog 62 #[.pointer (some ⟨p, 0, none⟩), .int .i64 at_] w fun e w' => e = .returned (.bool R) ∧ Below w.heap.size w w' := by
 have HO := hid hO
 have HR1 := hid hR1
 have HR2 := hid hR2
 have HR3 := hid hR3
 have hI0 : (0 : Int) ≤ (at_ : Int) := by omega
 have hI1 : (at_ : Int) < (nn : Int) := by omega
 clear hO hR1 hR2 hR3
 go_enter Tryz.func62, Tryz.ntmps62
 go_wp2_with fail
 have hA := heap_alloc_new w (.cells #[.int .i64 10, .int .i64 op, .string (bs name), .int .i64 num, .int .i64 far, .slice a kids.length c, .slice a2 thn.length c2, .slice a3 els.length c3] 66)
 have hB : Below w.heap.size w (w.alloc (.cells #[.int .i64 10, .int .i64 op, .string (bs name), .int .i64 num, .int .i64 far, .slice a kids.length c, .slice a2 thn.length c2, .slice a3 els.length c3] 66)) := (Below.refl _ _).alloc (Nat.le_refl _) _
 generalize w.alloc (.cells #[.int .i64 10, .int .i64 op, .string (bs name), .int .i64 num, .int .i64 far, .slice a kids.length c, .slice a2 thn.length c2, .slice a3 els.length c3] 66) = W at *
 obtain ⟨d0, d1, d2, d3, d4, d5, d6, d7⟩ := cl8 hA
 have HB := hid hB
 have HA := hid hA
 clear hA hB hp1 hc0 hc1 hc2 hc3 hc4 hc5 hc6 hc7
 refine (l1In_any 10 1 11 _).mono ?_
 rintro e w1 ⟨rfl, rfl⟩
 have e1 : inB 10 1 11 = true := by decide
 rw [e1]
 clear e1
 go_wp2_with fail
 refine (l4Wants_any (⟨10, op, name, num, far, kids, thn, els⟩ : LNode) _ _ _ _ ⟨_, _, _, rfl⟩ ⟨_, _, _, rfl⟩ ⟨_, _, _, rfl⟩).mono ?_
 rintro e w2 ⟨rfl, hb⟩
 have e1 : wantsN 10 = (true, 0, true) := by decide
 simp only [wantsV, e1]
 clear e1
 have hA := blk HA.out hb
 have hB := HB.out.trans (hb.mono HB.out.size)
 clear HA HB hb d0 d1 d2 d3 d4 d5 d6 d7
 have HA := hid hA
 have HB := hid hB
 obtain ⟨d0, d1, d2, d3, d4, d5, d6, d7⟩ := cl8 hA
 clear hA hB
 go_wp2_with fail
 (try (rename_i kk hkk; simp only [List.append_eq, List.cons_append, List.nil_append] at hkk))
 refine (isName_any name _ (by omega)).mono ?_
 rintro e w3 ⟨rfl, hb⟩
 have hA := blk HA.out hb
 have hB := HB.out.trans (hb.mono HB.out.size)
 clear HA HB hb d0 d1 d2 d3 d4 d5 d6 d7
 have HA := hid hA
 have HB := hid hB
 obtain ⟨d0, d1, d2, d3, d4, d5, d6, d7⟩ := cl8 hA
 clear hA hB
 obtain ⟨qn, hqn⟩ : ∃ q, isNameL name = q := ⟨_, rfl⟩
 rw [hqn]
 cases qn with
 | false =>
  (try simp only [])
  have HE : Hid (R = false) := by unfold Hid; rw [HO.out]; simp [hqn]
  clear HO
  go_wp2_with fail
  go_ret
  exact ⟨by rw [HE.out]; rfl, HB.out⟩
 | true =>
  (try simp only [])
  by_cases qk : kids.length = 0
  ·have hz1 : (((kids.length : Nat) : Int) == 0) = true := by rw [beq_iff_eq]; omega
   have hz2 : decide (((kids.length : Nat) : Int) = 0) = true := decide_eq_true (by omega)
   have hz6 : (((kids.length : Nat) : Int) != 0) = false := by rw [bne_eq_false_iff_eq]; omega
   have QK : Hid (kids = []) := List.length_eq_zero_iff.1 qk
   clear qk
   go_wp2_with fail
   (try (rename_i kk hkk; simp only [List.append_eq, List.cons_append, List.nil_append] at hkk))
   refine (l1Word_any num _).mono ?_
   rintro e w' ⟨rfl, rfl⟩
   obtain ⟨q, qnum⟩ : ∃ q, inB num 0 65535 = q := ⟨_, rfl⟩
   rw [qnum]
   cases q with
   | false =>
    (try simp only [])
    have HE : Hid (R = false) := by unfold Hid; rw [HO.out]; simp [qnum]
    clear HO
    go_wp2_with fail
    go_ret
    exact ⟨by rw [HE.out]; rfl, HB.out⟩
   | true =>
    (try simp only [])
    go_wp2_with fail
    (try (rename_i kk hkk; simp only [List.append_eq, List.cons_append, List.nil_append] at hkk))
    refine (l1Word_any far _).mono ?_
    rintro e w' ⟨rfl, rfl⟩
    obtain ⟨q, qfar⟩ : ∃ q, inB far 0 65535 = q := ⟨_, rfl⟩
    rw [qfar]
    cases q with
    | false =>
     (try simp only [])
     have HE : Hid (R = false) := by unfold Hid; rw [HO.out]; simp [qfar]
     clear HO
     go_wp2_with fail
     go_ret
     exact ⟨by rw [HE.out]; rfl, HB.out⟩
    | true =>
     (try simp only [])
     by_cases qop : op = 0
     ·skip
      by_cases qels : els = []
      ·rw [qels] at HR3
       simp only [List.length_nil] at HR3
       go_wp2_with fail
       (try (rename_i kk hkk; simp only [List.append_eq, List.cons_append, List.nil_append] at hkk))
       refine (HR1.out _ HB.out).mono ?_
       rintro e w4 ⟨rfl, hb⟩
       have hA := blk HA.out hb
       have hB := HB.out.trans (hb.mono HB.out.size)
       clear HA HB hb d0 d1 d2 d3 d4 d5 d6 d7
       have HA := hid hA
       have HB := hid hB
       obtain ⟨d0, d1, d2, d3, d4, d5, d6, d7⟩ := cl8 hA
       clear hA hB
       cases r1 with
       | false =>
        (try simp only [])
        have HE : Hid (R = false) := by unfold Hid; rw [HO.out]; simp []
        clear HO
        go_wp2_with fail
        go_ret
        exact ⟨by rw [HE.out]; rfl, HB.out⟩
       | true =>
        (try simp only [])
        go_wp2_with fail
        refine (HR2.out _ HB.out).mono ?_
        rintro e w5 ⟨rfl, hb⟩
        have hA := blk HA.out hb
        have hB := HB.out.trans (hb.mono HB.out.size)
        clear HA HB hb d0 d1 d2 d3 d4 d5 d6 d7
        have HA := hid hA
        have HB := hid hB
        obtain ⟨d0, d1, d2, d3, d4, d5, d6, d7⟩ := cl8 hA
        clear hA hB
        cases r2 with
        | false =>
         (try simp only [])
         have HE : Hid (R = false) := by unfold Hid; rw [HO.out]; simp []
         clear HO
         go_wp2_with fail
         go_ret
         exact ⟨by rw [HE.out]; rfl, HB.out⟩
        | true =>
         (try simp only [])
         go_wp2_with fail
         refine (HR3.out _ HB.out).mono ?_
         rintro e w6 ⟨rfl, hb⟩
         have hA := blk HA.out hb
         have hB := HB.out.trans (hb.mono HB.out.size)
         clear HA HB hb d0 d1 d2 d3 d4 d5 d6 d7
         have HA := hid hA
         have HB := hid hB
         obtain ⟨d0, d1, d2, d3, d4, d5, d6, d7⟩ := cl8 hA
         clear hA hB
         have HE : Hid (R = r3) := by unfold Hid; rw [HO.out]; simp [hqn, QK.out, qnum, qfar, qop, qels]
         clear HO
         go_wp2_with fail
         go_ret
         exact ⟨by rw [HE.out]; rfl, HB.out⟩
      ·have hz : 0 < els.length := List.length_pos_iff.2 qels
       have hz3 : decide ((0 : Int) < ((els.length : Nat) : Int)) = true := decide_eq_true (by omega)
       have HE : Hid (R = false) := by unfold Hid; rw [HO.out]; simp [qels]
       clear HO
       go_wp2_with fail
       go_ret
       exact ⟨by rw [HE.out]; rfl, HB.out⟩
     ·have hz1 : (op == 0) = false := by simpa using qop
      have hz2 : decide (op = 0) = false := decide_eq_false qop
      have HE : Hid (R = false) := by unfold Hid; rw [HO.out]; simp [qop]
      clear HO
      go_wp2_with fail
      go_ret
      exact ⟨by rw [HE.out]; rfl, HB.out⟩
  ·have hz1 : (((kids.length : Nat) : Int) == 0) = false := by rw [beq_eq_false_iff_ne]; omega
   have hz2 : decide (((kids.length : Nat) : Int) = 0) = false := decide_eq_false (by omega)
   have hz6 : (((kids.length : Nat) : Int) != 0) = true := by rw [bne_iff_ne]; omega
   have QK : Hid (¬ (kids = [])) := by unfold Hid; rintro rfl; exact qk rfl
   clear qk
   have HE : Hid (R = false) := by unfold Hid; rw [HO.out]; simp [QK.out]
   clear HO
   go_wp2_with fail
   go_ret
   exact ⟨by rw [HE.out]; rfl, HB.out⟩
set_option maxHeartbeats 6400000 in
set_option maxRecDepth 100000 in
theorem rgt11 (R : Bool) (p at_ : Nat) (b o cn : Nat) (nn : Nat) (vv vb : Value) (op : Int) (name : List UInt8) (num far : Int) (kids thn els : List Int) (a a2 a3 : Option Addr) (c c2 c3 : Nat) (w : World) (hl : name.length ≤ 1048576) (hk1 : kids.length ≤ 1048576) (hk2 : thn.length ≤ 1048576) (hk3 : els.length ≤ 1048576)
  (r1 r2 r3 : Bool) (hO : R = ((inB op 1 4 && isNameL name && decide (num = 0) && decide (far = 0) && decide (1 ≤ kids.length ∧ kids.length ≤ 3) && thn.isEmpty && els.isEmpty) && r1 && r2 && r3)) (hat : at_ < nn) (hp1 : w.cell? ⟨p, 1, none⟩ = some (.slice (some ⟨b, o, none⟩) nn cn))
  (hc0 : w.cell? ⟨b, o + at_ * 8, none⟩ = some (.int .i64 11))
  (hc1 : w.cell? ⟨b, o + at_ * 8 + 1, none⟩ = some (.int .i64 op))
  (hc2 : w.cell? ⟨b, o + at_ * 8 + 2, none⟩ = some (.string (bs name)))
  (hc3 : w.cell? ⟨b, o + at_ * 8 + 3, none⟩ = some (.int .i64 num))
  (hc4 : w.cell? ⟨b, o + at_ * 8 + 4, none⟩ = some (.int .i64 far))
  (hc5 : w.cell? ⟨b, o + at_ * 8 + 5, none⟩ = some (.slice a kids.length c))
  (hc6 : w.cell? ⟨b, o + at_ * 8 + 6, none⟩ = some (.slice a2 thn.length c2))
  (hc7 : w.cell? ⟨b, o + at_ * 8 + 7, none⟩ = some (.slice a3 els.length c3))
  (hR1 : ∀ W, Below w.heap.size w W → Calls Tryz.prog 63 #[.pointer (some ⟨p, 0, none⟩), .int .i64 at_, .slice a kids.length c, .bool true] W fun e w' => e = .returned (.bool r1) ∧ Below W.heap.size W w')
  (hR2 : ∀ W, Below w.heap.size w W → Calls Tryz.prog 63 #[.pointer (some ⟨p, 0, none⟩), .int .i64 at_, .slice a2 thn.length c2, .bool false] W fun e w' => e = .returned (.bool r2) ∧ Below W.heap.size W w')
  (hR3 : ∀ W, Below w.heap.size w W → Calls Tryz.prog 63 #[.pointer (some ⟨p, 0, none⟩), .int .i64 at_, .slice a3 els.length c3, .bool false] W fun e w' => e = .returned (.bool r3) ∧ Below W.heap.size W w') :
  Calls Tryz.prog 62 #[.pointer (some ⟨p, 0, none⟩), .int .i64 at_] w fun e w' => e = .returned (.bool R) ∧ Below w.heap.size w w' := by
 have HO := hid hO
 have HR1 := hid hR1
 have HR2 := hid hR2
 have HR3 := hid hR3
 have hI0 : (0 : Int) ≤ (at_ : Int) := by omega
 have hI1 : (at_ : Int) < (nn : Int) := by omega
 clear hO hR1 hR2 hR3
 go_enter Tryz.func62, Tryz.ntmps62
 go_wp2_with fail
 have hA := heap_alloc_new w (.cells #[.int .i64 11, .int .i64 op, .string (bs name), .int .i64 num, .int .i64 far, .slice a kids.length c, .slice a2 thn.length c2, .slice a3 els.length c3] 66)
 have hB : Below w.heap.size w (w.alloc (.cells #[.int .i64 11, .int .i64 op, .string (bs name), .int .i64 num, .int .i64 far, .slice a kids.length c, .slice a2 thn.length c2, .slice a3 els.length c3] 66)) := (Below.refl _ _).alloc (Nat.le_refl _) _
 generalize w.alloc (.cells #[.int .i64 11, .int .i64 op, .string (bs name), .int .i64 num, .int .i64 far, .slice a kids.length c, .slice a2 thn.length c2, .slice a3 els.length c3] 66) = W at *
 obtain ⟨d0, d1, d2, d3, d4, d5, d6, d7⟩ := cl8 hA
 have HB := hid hB
 have HA := hid hA
 clear hA hB hp1 hc0 hc1 hc2 hc3 hc4 hc5 hc6 hc7
 refine (l1In_any 11 1 11 _).mono ?_
 rintro e w1 ⟨rfl, rfl⟩
 have e1 : inB 11 1 11 = true := by decide
 rw [e1]
 clear e1
 go_wp2_with fail
 refine (l4Wants_any (⟨11, op, name, num, far, kids, thn, els⟩ : LNode) _ _ _ _ ⟨_, _, _, rfl⟩ ⟨_, _, _, rfl⟩ ⟨_, _, _, rfl⟩).mono ?_
 rintro e w2 ⟨rfl, hb⟩
 have e1 : wantsN 11 = (true, -1, false) := by decide
 simp only [wantsV, e1]
 clear e1
 have hA := blk HA.out hb
 have hB := HB.out.trans (hb.mono HB.out.size)
 clear HA HB hb d0 d1 d2 d3 d4 d5 d6 d7
 have HA := hid hA
 have HB := hid hB
 obtain ⟨d0, d1, d2, d3, d4, d5, d6, d7⟩ := cl8 hA
 clear hA hB
 go_wp2_with fail
 (try (rename_i kk hkk; simp only [List.append_eq, List.cons_append, List.nil_append] at hkk))
 refine (isName_any name _ (by omega)).mono ?_
 rintro e w3 ⟨rfl, hb⟩
 have hA := blk HA.out hb
 have hB := HB.out.trans (hb.mono HB.out.size)
 clear HA HB hb d0 d1 d2 d3 d4 d5 d6 d7
 have HA := hid hA
 have HB := hid hB
 obtain ⟨d0, d1, d2, d3, d4, d5, d6, d7⟩ := cl8 hA
 clear hA hB
 obtain ⟨qn, hqn⟩ : ∃ q, isNameL name = q := ⟨_, rfl⟩
 rw [hqn]
 cases qn with
 | false =>
  (try simp only [])
  have HE : Hid (R = false) := by unfold Hid; rw [HO.out]; simp [hqn]
  clear HO
  go_wp2_with fail
  go_ret
  exact ⟨by rw [HE.out]; rfl, HB.out⟩
 | true =>
  (try simp only [])
  go_wp2_with fail
  (try (rename_i kk hkk; simp only [List.append_eq, List.cons_append, List.nil_append] at hkk))
  refine (l1In_any (kids.length : Int) 1 3 _).mono ?_
  rintro e w' ⟨rfl, rfl⟩
  obtain ⟨q, qk⟩ : ∃ q, inB (kids.length : Int) 1 3 = q := ⟨_, rfl⟩
  rw [qk]
  cases q with
  | false =>
   (try simp only [])
   have QK : Hid (¬ (1 ≤ kids.length ∧ kids.length ≤ 3)) := by unfold Hid; have := inB_no.1 qk; omega
   have HE : Hid (R = false) := by unfold Hid; rw [HO.out]; simp [QK.out]
   clear HO
   go_wp2_with fail
   go_ret
   exact ⟨by rw [HE.out]; rfl, HB.out⟩
  | true =>
   (try simp only [])
   have QK : Hid (1 ≤ kids.length ∧ kids.length ≤ 3) := by unfold Hid; have := inB_iff.1 qk; omega
   by_cases qnum : num = 0
   ·skip
    by_cases qfar : far = 0
    ·skip
     go_wp2_with fail
     (try (rename_i kk hkk; simp only [List.append_eq, List.cons_append, List.nil_append] at hkk))
     refine (l1In_any op 1 4 _).mono ?_
     rintro e w' ⟨rfl, rfl⟩
     obtain ⟨q, qop⟩ : ∃ q, inB op 1 4 = q := ⟨_, rfl⟩
     rw [qop]
     cases q with
     | false =>
      (try simp only [])
      have HE : Hid (R = false) := by unfold Hid; rw [HO.out]; simp [qop]
      clear HO
      go_wp2_with fail
      go_ret
      exact ⟨by rw [HE.out]; rfl, HB.out⟩
     | true =>
      (try simp only [])
      by_cases qels : els = []
      ·rw [qels] at HR3
       simp only [List.length_nil] at HR3
       by_cases qthn : thn = []
       ·rw [qthn] at HR2
        simp only [List.length_nil] at HR2
        go_wp2_with fail
        (try (rename_i kk hkk; simp only [List.append_eq, List.cons_append, List.nil_append] at hkk))
        refine (HR1.out _ HB.out).mono ?_
        rintro e w4 ⟨rfl, hb⟩
        have hA := blk HA.out hb
        have hB := HB.out.trans (hb.mono HB.out.size)
        clear HA HB hb d0 d1 d2 d3 d4 d5 d6 d7
        have HA := hid hA
        have HB := hid hB
        obtain ⟨d0, d1, d2, d3, d4, d5, d6, d7⟩ := cl8 hA
        clear hA hB
        cases r1 with
        | false =>
         (try simp only [])
         have HE : Hid (R = false) := by unfold Hid; rw [HO.out]; simp []
         clear HO
         go_wp2_with fail
         go_ret
         exact ⟨by rw [HE.out]; rfl, HB.out⟩
        | true =>
         (try simp only [])
         go_wp2_with fail
         refine (HR2.out _ HB.out).mono ?_
         rintro e w5 ⟨rfl, hb⟩
         have hA := blk HA.out hb
         have hB := HB.out.trans (hb.mono HB.out.size)
         clear HA HB hb d0 d1 d2 d3 d4 d5 d6 d7
         have HA := hid hA
         have HB := hid hB
         obtain ⟨d0, d1, d2, d3, d4, d5, d6, d7⟩ := cl8 hA
         clear hA hB
         cases r2 with
         | false =>
          (try simp only [])
          have HE : Hid (R = false) := by unfold Hid; rw [HO.out]; simp []
          clear HO
          go_wp2_with fail
          go_ret
          exact ⟨by rw [HE.out]; rfl, HB.out⟩
         | true =>
          (try simp only [])
          go_wp2_with fail
          refine (HR3.out _ HB.out).mono ?_
          rintro e w6 ⟨rfl, hb⟩
          have hA := blk HA.out hb
          have hB := HB.out.trans (hb.mono HB.out.size)
          clear HA HB hb d0 d1 d2 d3 d4 d5 d6 d7
          have HA := hid hA
          have HB := hid hB
          obtain ⟨d0, d1, d2, d3, d4, d5, d6, d7⟩ := cl8 hA
          clear hA hB
          have HE : Hid (R = r3) := by unfold Hid; rw [HO.out]; simp [hqn, QK.out, qnum, qfar, qop, qels, qthn]
          clear HO
          go_wp2_with fail
          go_ret
          exact ⟨by rw [HE.out]; rfl, HB.out⟩
       ·have hz : 0 < thn.length := List.length_pos_iff.2 qthn
        have hz3 : decide ((0 : Int) < ((thn.length : Nat) : Int)) = true := decide_eq_true (by omega)
        have HE : Hid (R = false) := by unfold Hid; rw [HO.out]; simp [qthn]
        clear HO
        go_wp2_with fail
        go_ret
        exact ⟨by rw [HE.out]; rfl, HB.out⟩
      ·have hz : 0 < els.length := List.length_pos_iff.2 qels
       have hz3 : decide ((0 : Int) < ((els.length : Nat) : Int)) = true := decide_eq_true (by omega)
       have HE : Hid (R = false) := by unfold Hid; rw [HO.out]; simp [qels]
       clear HO
       go_wp2_with fail
       go_ret
       exact ⟨by rw [HE.out]; rfl, HB.out⟩
    ·have hz1 : (far == 0) = false := by simpa using qfar
     have hz2 : decide (far = 0) = false := decide_eq_false qfar
     have HE : Hid (R = false) := by unfold Hid; rw [HO.out]; simp [qfar]
     clear HO
     go_wp2_with fail
     go_ret
     exact ⟨by rw [HE.out]; rfl, HB.out⟩
   ·have hz1 : (num == 0) = false := by simpa using qnum
    have hz2 : decide (num = 0) = false := decide_eq_false qnum
    have HE : Hid (R = false) := by unfold Hid; rw [HO.out]; simp [qnum]
    clear HO
    go_wp2_with fail
    go_ret
    exact ⟨by rw [HE.out]; rfl, HB.out⟩
end Go.Proofs.YtepjaoapjpmjkaaGreatDoor
