/-
  impl.CheckTree.
-/
import Derived.Test.YtcecfmdjicjngaaGreatDoorOwn
import Derived.Test.YtcecfmdjicjngaaGreatDoorOwnI
import Derived.Test.YtcecfmdjicjngaaGreatDoorSWord
import Derived.Test.YtcecfmdjicjngaaGreatDoorSFault
import Derived.Test.YtcecfmdjicjngaaGreatDoorTreeC
import Derived.Test.YtcecfmdjicjngaaGreatDoorSList
import Derived.Test.YtcecfmdjicjngaaGreatDoorSNmsF
import Derived.Test.YtcecfmdjicjngaaGreatDoorSCost
import Derived.Test.YtcecfmdjicjngaaGreatDoorICost
import Derived.Deep.RegionHeld3
import Derived.Test.YtcecfmdjicjngaaGreatDoorCheckN
import Derived.Test.YtcecfmdjicjngaaGreatDoorNamesMap
import Derived.Test.YtcecfmdjicjngaaGreatDoorIByName
import Derived.Test.YtcecfmdjicjngaaGreatDoorICells
import Derived.Test.YtcecfmdjicjngaaGreatDoorILex
import Derived.Test.YtcecfmdjicjngaaGreatDoorIStms
import Derived.Test.YtcecfmdjicjngaaGreatDoorINew2
import Derived.Test.YtcecfmdjicjngaaGreatDoorBase
import Derived.LaidEql
import Derived.Stop.Asserts
import Derived.RowKitTokens
import Derived.Test.YtcecfmdjicjngaaGreatDoorOwnI
import Derived.Test.YtcecfmdjicjngaaGreatDoorIFault
import Derived.Test.YtcecfmdjicjngaaGreatDoorTyBr
namespace Go.Proofs.YtcecfmdjicjngaaGreatDoor
open Go.RowKit
set_option linter.unusedVariables false
attribute [local go_sem] bs_size bs_get bs_extract bs_append bs_eq bs_toList
set_option maxHeartbeats 6400000 in
set_option maxRecDepth 100000 in
theorem rgt1 (R : Bool) (p at_ : Nat) (b o cn : Nat) (nn : Nat) (vv vb : Value) (op : Int) (name : List UInt8) (num far : Int) (kids thn els : List Int) (a a2 a3 : Option Addr) (c c2 c3 : Nat) (w : World) (hl : name.length ≤ 1048576) (hk1 : kids.length ≤ 1048576) (hk2 : thn.length ≤ 1048576) (hk3 : els.length ≤ 1048576)
  (r1 r2 r3 : Bool) (hO : R = ((decide (op = 0) && name.isEmpty && inB num 0 65535 && decide (far = 0) && kids.isEmpty && thn.isEmpty && els.isEmpty) && r1 && r2 && r3)) (hat : at_ < nn) (hp1 : w.cell? ⟨p, 1, none⟩ = some (.slice (some ⟨b, o, none⟩) nn cn))
  (hc0 : w.cell? ⟨b, o + at_ * 8, none⟩ = some (.int .i64 1))
  (hc1 : w.cell? ⟨b, o + at_ * 8 + 1, none⟩ = some (.int .i64 op))
  (hc2 : w.cell? ⟨b, o + at_ * 8 + 2, none⟩ = some (.string (bs name)))
  (hc3 : w.cell? ⟨b, o + at_ * 8 + 3, none⟩ = some (.int .i64 num))
  (hc4 : w.cell? ⟨b, o + at_ * 8 + 4, none⟩ = some (.int .i64 far))
  (hc5 : w.cell? ⟨b, o + at_ * 8 + 5, none⟩ = some (.slice a kids.length c))
  (hc6 : w.cell? ⟨b, o + at_ * 8 + 6, none⟩ = some (.slice a2 thn.length c2))
  (hc7 : w.cell? ⟨b, o + at_ * 8 + 7, none⟩ = some (.slice a3 els.length c3))
  (hR1 : ∀ W, Below w.heap.size w W → Calls Tryz.prog 163 #[.pointer (some ⟨p, 0, none⟩), .int .i64 at_, .slice a kids.length c, .bool true] W fun e w' => e = .returned (.bool r1) ∧ Below W.heap.size W w')
  (hR2 : ∀ W, Below w.heap.size w W → Calls Tryz.prog 163 #[.pointer (some ⟨p, 0, none⟩), .int .i64 at_, .slice a2 thn.length c2, .bool false] W fun e w' => e = .returned (.bool r2) ∧ Below W.heap.size W w')
  (hR3 : ∀ W, Below w.heap.size w W → Calls Tryz.prog 163 #[.pointer (some ⟨p, 0, none⟩), .int .i64 at_, .slice a3 els.length c3, .bool false] W fun e w' => e = .returned (.bool r3) ∧ Below W.heap.size W w') :
  Calls Tryz.prog 162 #[.pointer (some ⟨p, 0, none⟩), .int .i64 at_] w fun e w' => e = .returned (.bool R) ∧ Below w.heap.size w w' := by
 have HO := hid hO
 have HR1 := hid hR1
 have HR2 := hid hR2
 have HR3 := hid hR3
 have hI0 : (0 : Int) ≤ (at_ : Int) := by omega
 have hI1 : (at_ : Int) < (nn : Int) := by omega
 clear hO hR1 hR2 hR3
 go_enter Tryz.func162, Tryz.ntmps162
 go_wp2_with fail
 have hA := heap_alloc_new w (.cells #[.int .i64 1, .int .i64 op, .string (bs name), .int .i64 num, .int .i64 far, .slice a kids.length c, .slice a2 thn.length c2, .slice a3 els.length c3] 40)
 have hB : Below w.heap.size w (w.alloc (.cells #[.int .i64 1, .int .i64 op, .string (bs name), .int .i64 num, .int .i64 far, .slice a kids.length c, .slice a2 thn.length c2, .slice a3 els.length c3] 40)) := (Below.refl _ _).alloc (Nat.le_refl _) _
 generalize w.alloc (.cells #[.int .i64 1, .int .i64 op, .string (bs name), .int .i64 num, .int .i64 far, .slice a kids.length c, .slice a2 thn.length c2, .slice a3 els.length c3] 40) = W at *
 obtain ⟨d0, d1, d2, d3, d4, d5, d6, d7⟩ := cl8 hA
 have HB := hid hB
 have HA := hid hA
 clear hA hB hp1 hc0 hc1 hc2 hc3 hc4 hc5 hc6 hc7
 refine (l1In_any 1 1 11 _).mono ?_
 rintro e w1 ⟨rfl, rfl⟩
 have e1 : inB 1 1 11 = true := by decide
 rw [e1]
 clear e1
 go_wp2_with fail
 refine (l4Wants_any (⟨1, op, name, num, far, kids, thn, els⟩ : LNode) _ _ _ _ ⟨_, _, _, rfl⟩ ⟨_, _, _, rfl⟩ ⟨_, _, _, rfl⟩).mono ?_
 rintro e w2 ⟨rfl, hb⟩
 have e1 : wantsN 1 = (false, 0, true) := by decide
 simp only [wantsV, e1]
 clear e1
 have hA := blk HA.out hb
 have hB := HB.out.trans (hb.mono HB.out.size)
 clear HA HB hb d0 d1 d2 d3 d4 d5 d6 d7
 have HA := hid hA
 have HB := hid hB
 obtain ⟨d0, d1, d2, d3, d4, d5, d6, d7⟩ := cl8 hA
 clear hA hB
 go_wp2_with fail
 (try (rename_i kk hkk; simp only [List.append_eq, List.cons_append, List.nil_append] at hkk))
 refine (isName_any name _ (by omega)).mono ?_
 rintro e w3 ⟨rfl, hb⟩
 have hA := blk HA.out hb
 have hB := HB.out.trans (hb.mono HB.out.size)
 clear HA HB hb d0 d1 d2 d3 d4 d5 d6 d7
 have HA := hid hA
 have HB := hid hB
 obtain ⟨d0, d1, d2, d3, d4, d5, d6, d7⟩ := cl8 hA
 clear hA hB
 obtain ⟨qn, hqn⟩ : ∃ q, isNameL name = q := ⟨_, rfl⟩
 rw [hqn]
 by_cases qname : name = []
 ·have e1 : qn = false := by rw [← hqn, qname]; exact isNameL_nil
  subst e1
  (try simp only [])
  by_cases qk : kids.length = 0
  ·have hz1 : (((kids.length : Nat) : Int) == 0) = true := by rw [beq_iff_eq]; omega
   have hz2 : decide (((kids.length : Nat) : Int) = 0) = true := decide_eq_true (by omega)
   have hz6 : (((kids.length : Nat) : Int) != 0) = false := by rw [bne_eq_false_iff_eq]; omega
   have QK : Hid (kids = []) := List.length_eq_zero_iff.1 qk
   clear qk
   go_wp2_with fail
   (try (rename_i kk hkk; simp only [List.append_eq, List.cons_append, List.nil_append] at hkk))
   refine (l1Word_any num _).mono ?_
   rintro e w' ⟨rfl, rfl⟩
   obtain ⟨q, qnum⟩ : ∃ q, inB num 0 65535 = q := ⟨_, rfl⟩
   rw [qnum]
   cases q with
   | false =>
    (try simp only [])
    have HE : Hid (R = false) := by unfold Hid; rw [HO.out]; simp [qnum]
    clear HO
    go_wp2_with fail
    go_ret
    exact ⟨by rw [HE.out]; rfl, HB.out⟩
   | true =>
    (try simp only [])
    by_cases qfar : far = 0
    ·skip
     by_cases qop : op = 0
     ·skip
      by_cases qels : els = []
      ·rw [qels] at HR3
       simp only [List.length_nil] at HR3
       by_cases qthn : thn = []
       ·rw [qthn] at HR2
        simp only [List.length_nil] at HR2
        go_wp2_with fail
        (try (rename_i kk hkk; simp only [List.append_eq, List.cons_append, List.nil_append] at hkk))
        refine (HR1.out _ HB.out).mono ?_
        rintro e w4 ⟨rfl, hb⟩
        have hA := blk HA.out hb
        have hB := HB.out.trans (hb.mono HB.out.size)
        clear HA HB hb d0 d1 d2 d3 d4 d5 d6 d7
        have HA := hid hA
        have HB := hid hB
        obtain ⟨d0, d1, d2, d3, d4, d5, d6, d7⟩ := cl8 hA
        clear hA hB
        cases r1 with
        | false =>
         (try simp only [])
         have HE : Hid (R = false) := by unfold Hid; rw [HO.out]; simp []
         clear HO
         go_wp2_with fail
         go_ret
         exact ⟨by rw [HE.out]; rfl, HB.out⟩
        | true =>
         (try simp only [])
         go_wp2_with fail
         refine (HR2.out _ HB.out).mono ?_
         rintro e w5 ⟨rfl, hb⟩
         have hA := blk HA.out hb
         have hB := HB.out.trans (hb.mono HB.out.size)
         clear HA HB hb d0 d1 d2 d3 d4 d5 d6 d7
         have HA := hid hA
         have HB := hid hB
         obtain ⟨d0, d1, d2, d3, d4, d5, d6, d7⟩ := cl8 hA
         clear hA hB
         cases r2 with
         | false =>
          (try simp only [])
          have HE : Hid (R = false) := by unfold Hid; rw [HO.out]; simp []
          clear HO
          go_wp2_with fail
          go_ret
          exact ⟨by rw [HE.out]; rfl, HB.out⟩
         | true =>
          (try simp only [])
          go_wp2_with fail
          refine (HR3.out _ HB.out).mono ?_
          rintro e w6 ⟨rfl, hb⟩
          have hA := blk HA.out hb
          have hB := HB.out.trans (hb.mono HB.out.size)
          clear HA HB hb d0 d1 d2 d3 d4 d5 d6 d7
          have HA := hid hA
          have HB := hid hB
          obtain ⟨d0, d1, d2, d3, d4, d5, d6, d7⟩ := cl8 hA
          clear hA hB
          have HE : Hid (R = r3) := by unfold Hid; rw [HO.out]; simp [qname, QK.out, qnum, qfar, qop, qels, qthn]
          clear HO
          go_wp2_with fail
          go_ret
          exact ⟨by rw [HE.out]; rfl, HB.out⟩
       ·have hz : 0 < thn.length := List.length_pos_iff.2 qthn
        have hz3 : decide ((0 : Int) < ((thn.length : Nat) : Int)) = true := decide_eq_true (by omega)
        have HE : Hid (R = false) := by unfold Hid; rw [HO.out]; simp [qthn]
        clear HO
        go_wp2_with fail
        go_ret
        exact ⟨by rw [HE.out]; rfl, HB.out⟩
      ·have hz : 0 < els.length := List.length_pos_iff.2 qels
       have hz3 : decide ((0 : Int) < ((els.length : Nat) : Int)) = true := decide_eq_true (by omega)
       have HE : Hid (R = false) := by unfold Hid; rw [HO.out]; simp [qels]
       clear HO
       go_wp2_with fail
       go_ret
       exact ⟨by rw [HE.out]; rfl, HB.out⟩
     ·have hz1 : (op == 0) = false := by simpa using qop
      have hz2 : decide (op = 0) = false := decide_eq_false qop
      have HE : Hid (R = false) := by unfold Hid; rw [HO.out]; simp [qop]
      clear HO
      go_wp2_with fail
      go_ret
      exact ⟨by rw [HE.out]; rfl, HB.out⟩
    ·have hz1 : (far == 0) = false := by simpa using qfar
     have hz2 : decide (far = 0) = false := decide_eq_false qfar
     have HE : Hid (R = false) := by unfold Hid; rw [HO.out]; simp [qfar]
     clear HO
     go_wp2_with fail
     go_ret
     exact ⟨by rw [HE.out]; rfl, HB.out⟩
  ·have hz1 : (((kids.length : Nat) : Int) == 0) = false := by rw [beq_eq_false_iff_ne]; omega
   have hz2 : decide (((kids.length : Nat) : Int) = 0) = false := decide_eq_false (by omega)
   have hz6 : (((kids.length : Nat) : Int) != 0) = true := by rw [bne_iff_ne]; omega
   have QK : Hid (¬ (kids = [])) := by unfold Hid; rintro rfl; exact qk rfl
   clear qk
   have HE : Hid (R = false) := by unfold Hid; rw [HO.out]; simp [QK.out]
   clear HO
   go_wp2_with fail
   go_ret
   exact ⟨by rw [HE.out]; rfl, HB.out⟩
 ·have hz1 : (name == []) = false := by simpa using qname
  have hz2 : decide (name = []) = false := decide_eq_false qname
  cases qn with
  | false =>
   (try simp only [])
   have HE : Hid (R = false) := by unfold Hid; rw [HO.out]; simp [qname]
   clear HO
   go_wp2_with fail
   go_ret
   exact ⟨by rw [HE.out]; rfl, HB.out⟩
  | true =>
   (try simp only [])
   have HE : Hid (R = false) := by unfold Hid; rw [HO.out]; simp [qname]
   clear HO
   go_wp2_with fail
   go_ret
   exact ⟨by rw [HE.out]; rfl, HB.out⟩
set_option maxHeartbeats 6400000 in
set_option maxRecDepth 100000 in
theorem rgt2 (R : Bool) (p at_ : Nat) (b o cn : Nat) (nn : Nat) (vv vb : Value) (op : Int) (name : List UInt8) (num far : Int) (kids thn els : List Int) (a a2 a3 : Option Addr) (c c2 c3 : Nat) (w : World) (hl : name.length ≤ 1048576) (hk1 : kids.length ≤ 1048576) (hk2 : thn.length ≤ 1048576) (hk3 : els.length ≤ 1048576)
  (r1 r2 r3 : Bool) (hO : R = ((decide (op = 0) && isNameL name && decide (num = 0) && decide (far = 0) && kids.isEmpty && thn.isEmpty && els.isEmpty) && r1 && r2 && r3)) (hat : at_ < nn) (hp1 : w.cell? ⟨p, 1, none⟩ = some (.slice (some ⟨b, o, none⟩) nn cn))
  (hc0 : w.cell? ⟨b, o + at_ * 8, none⟩ = some (.int .i64 2))
  (hc1 : w.cell? ⟨b, o + at_ * 8 + 1, none⟩ = some (.int .i64 op))
  (hc2 : w.cell? ⟨b, o + at_ * 8 + 2, none⟩ = some (.string (bs name)))
  (hc3 : w.cell? ⟨b, o + at_ * 8 + 3, none⟩ = some (.int .i64 num))
  (hc4 : w.cell? ⟨b, o + at_ * 8 + 4, none⟩ = some (.int .i64 far))
  (hc5 : w.cell? ⟨b, o + at_ * 8 + 5, none⟩ = some (.slice a kids.length c))
  (hc6 : w.cell? ⟨b, o + at_ * 8 + 6, none⟩ = some (.slice a2 thn.length c2))
  (hc7 : w.cell? ⟨b, o + at_ * 8 + 7, none⟩ = some (.slice a3 els.length c3))
  (hR1 : ∀ W, Below w.heap.size w W → Calls Tryz.prog 163 #[.pointer (some ⟨p, 0, none⟩), .int .i64 at_, .slice a kids.length c, .bool true] W fun e w' => e = .returned (.bool r1) ∧ Below W.heap.size W w')
  (hR2 : ∀ W, Below w.heap.size w W → Calls Tryz.prog 163 #[.pointer (some ⟨p, 0, none⟩), .int .i64 at_, .slice a2 thn.length c2, .bool false] W fun e w' => e = .returned (.bool r2) ∧ Below W.heap.size W w')
  (hR3 : ∀ W, Below w.heap.size w W → Calls Tryz.prog 163 #[.pointer (some ⟨p, 0, none⟩), .int .i64 at_, .slice a3 els.length c3, .bool false] W fun e w' => e = .returned (.bool r3) ∧ Below W.heap.size W w') :
  Calls Tryz.prog 162 #[.pointer (some ⟨p, 0, none⟩), .int .i64 at_] w fun e w' => e = .returned (.bool R) ∧ Below w.heap.size w w' := by
 have HO := hid hO
 have HR1 := hid hR1
 have HR2 := hid hR2
 have HR3 := hid hR3
 have hI0 : (0 : Int) ≤ (at_ : Int) := by omega
 have hI1 : (at_ : Int) < (nn : Int) := by omega
 clear hO hR1 hR2 hR3
 go_enter Tryz.func162, Tryz.ntmps162
 go_wp2_with fail
 have hA := heap_alloc_new w (.cells #[.int .i64 2, .int .i64 op, .string (bs name), .int .i64 num, .int .i64 far, .slice a kids.length c, .slice a2 thn.length c2, .slice a3 els.length c3] 40)
 have hB : Below w.heap.size w (w.alloc (.cells #[.int .i64 2, .int .i64 op, .string (bs name), .int .i64 num, .int .i64 far, .slice a kids.length c, .slice a2 thn.length c2, .slice a3 els.length c3] 40)) := (Below.refl _ _).alloc (Nat.le_refl _) _
 generalize w.alloc (.cells #[.int .i64 2, .int .i64 op, .string (bs name), .int .i64 num, .int .i64 far, .slice a kids.length c, .slice a2 thn.length c2, .slice a3 els.length c3] 40) = W at *
 obtain ⟨d0, d1, d2, d3, d4, d5, d6, d7⟩ := cl8 hA
 have HB := hid hB
 have HA := hid hA
 clear hA hB hp1 hc0 hc1 hc2 hc3 hc4 hc5 hc6 hc7
 refine (l1In_any 2 1 11 _).mono ?_
 rintro e w1 ⟨rfl, rfl⟩
 have e1 : inB 2 1 11 = true := by decide
 rw [e1]
 clear e1
 go_wp2_with fail
 refine (l4Wants_any (⟨2, op, name, num, far, kids, thn, els⟩ : LNode) _ _ _ _ ⟨_, _, _, rfl⟩ ⟨_, _, _, rfl⟩ ⟨_, _, _, rfl⟩).mono ?_
 rintro e w2 ⟨rfl, hb⟩
 have e1 : wantsN 2 = (true, 0, false) := by decide
 simp only [wantsV, e1]
 clear e1
 have hA := blk HA.out hb
 have hB := HB.out.trans (hb.mono HB.out.size)
 clear HA HB hb d0 d1 d2 d3 d4 d5 d6 d7
 have HA := hid hA
 have HB := hid hB
 obtain ⟨d0, d1, d2, d3, d4, d5, d6, d7⟩ := cl8 hA
 clear hA hB
 go_wp2_with fail
 (try (rename_i kk hkk; simp only [List.append_eq, List.cons_append, List.nil_append] at hkk))
 refine (isName_any name _ (by omega)).mono ?_
 rintro e w3 ⟨rfl, hb⟩
 have hA := blk HA.out hb
 have hB := HB.out.trans (hb.mono HB.out.size)
 clear HA HB hb d0 d1 d2 d3 d4 d5 d6 d7
 have HA := hid hA
 have HB := hid hB
 obtain ⟨d0, d1, d2, d3, d4, d5, d6, d7⟩ := cl8 hA
 clear hA hB
 obtain ⟨qn, hqn⟩ : ∃ q, isNameL name = q := ⟨_, rfl⟩
 rw [hqn]
 cases qn with
 | false =>
  (try simp only [])
  have HE : Hid (R = false) := by unfold Hid; rw [HO.out]; simp [hqn]
  clear HO
  go_wp2_with fail
  go_ret
  exact ⟨by rw [HE.out]; rfl, HB.out⟩
 | true =>
  (try simp only [])
  by_cases qk : kids.length = 0
  ·have hz1 : (((kids.length : Nat) : Int) == 0) = true := by rw [beq_iff_eq]; omega
   have hz2 : decide (((kids.length : Nat) : Int) = 0) = true := decide_eq_true (by omega)
   have hz6 : (((kids.length : Nat) : Int) != 0) = false := by rw [bne_eq_false_iff_eq]; omega
   have QK : Hid (kids = []) := List.length_eq_zero_iff.1 qk
   clear qk
   by_cases qnum : num = 0
   ·skip
    by_cases qfar : far = 0
    ·skip
     by_cases qop : op = 0
     ·skip
      by_cases qels : els = []
      ·rw [qels] at HR3
       simp only [List.length_nil] at HR3
       by_cases qthn : thn = []
       ·rw [qthn] at HR2
        simp only [List.length_nil] at HR2
        go_wp2_with fail
        (try (rename_i kk hkk; simp only [List.append_eq, List.cons_append, List.nil_append] at hkk))
        refine (HR1.out _ HB.out).mono ?_
        rintro e w4 ⟨rfl, hb⟩
        have hA := blk HA.out hb
        have hB := HB.out.trans (hb.mono HB.out.size)
        clear HA HB hb d0 d1 d2 d3 d4 d5 d6 d7
        have HA := hid hA
        have HB := hid hB
        obtain ⟨d0, d1, d2, d3, d4, d5, d6, d7⟩ := cl8 hA
        clear hA hB
        cases r1 with
        | false =>
         (try simp only [])
         have HE : Hid (R = false) := by unfold Hid; rw [HO.out]; simp []
         clear HO
         go_wp2_with fail
         go_ret
         exact ⟨by rw [HE.out]; rfl, HB.out⟩
        | true =>
         (try simp only [])
         go_wp2_with fail
         refine (HR2.out _ HB.out).mono ?_
         rintro e w5 ⟨rfl, hb⟩
         have hA := blk HA.out hb
         have hB := HB.out.trans (hb.mono HB.out.size)
         clear HA HB hb d0 d1 d2 d3 d4 d5 d6 d7
         have HA := hid hA
         have HB := hid hB
         obtain ⟨d0, d1, d2, d3, d4, d5, d6, d7⟩ := cl8 hA
         clear hA hB
         cases r2 with
         | false =>
          (try simp only [])
          have HE : Hid (R = false) := by unfold Hid; rw [HO.out]; simp []
          clear HO
          go_wp2_with fail
          go_ret
          exact ⟨by rw [HE.out]; rfl, HB.out⟩
         | true =>
          (try simp only [])
          go_wp2_with fail
          refine (HR3.out _ HB.out).mono ?_
          rintro e w6 ⟨rfl, hb⟩
          have hA := blk HA.out hb
          have hB := HB.out.trans (hb.mono HB.out.size)
          clear HA HB hb d0 d1 d2 d3 d4 d5 d6 d7
          have HA := hid hA
          have HB := hid hB
          obtain ⟨d0, d1, d2, d3, d4, d5, d6, d7⟩ := cl8 hA
          clear hA hB
          have HE : Hid (R = r3) := by unfold Hid; rw [HO.out]; simp [hqn, QK.out, qnum, qfar, qop, qels, qthn]
          clear HO
          go_wp2_with fail
          go_ret
          exact ⟨by rw [HE.out]; rfl, HB.out⟩
       ·have hz : 0 < thn.length := List.length_pos_iff.2 qthn
        have hz3 : decide ((0 : Int) < ((thn.length : Nat) : Int)) = true := decide_eq_true (by omega)
        have HE : Hid (R = false) := by unfold Hid; rw [HO.out]; simp [qthn]
        clear HO
        go_wp2_with fail
        go_ret
        exact ⟨by rw [HE.out]; rfl, HB.out⟩
      ·have hz : 0 < els.length := List.length_pos_iff.2 qels
       have hz3 : decide ((0 : Int) < ((els.length : Nat) : Int)) = true := decide_eq_true (by omega)
       have HE : Hid (R = false) := by unfold Hid; rw [HO.out]; simp [qels]
       clear HO
       go_wp2_with fail
       go_ret
       exact ⟨by rw [HE.out]; rfl, HB.out⟩
     ·have hz1 : (op == 0) = false := by simpa using qop
      have hz2 : decide (op = 0) = false := decide_eq_false qop
      have HE : Hid (R = false) := by unfold Hid; rw [HO.out]; simp [qop]
      clear HO
      go_wp2_with fail
      go_ret
      exact ⟨by rw [HE.out]; rfl, HB.out⟩
    ·have hz1 : (far == 0) = false := by simpa using qfar
     have hz2 : decide (far = 0) = false := decide_eq_false qfar
     have HE : Hid (R = false) := by unfold Hid; rw [HO.out]; simp [qfar]
     clear HO
     go_wp2_with fail
     go_ret
     exact ⟨by rw [HE.out]; rfl, HB.out⟩
   ·have hz1 : (num == 0) = false := by simpa using qnum
    have hz2 : decide (num = 0) = false := decide_eq_false qnum
    have HE : Hid (R = false) := by unfold Hid; rw [HO.out]; simp [qnum]
    clear HO
    go_wp2_with fail
    go_ret
    exact ⟨by rw [HE.out]; rfl, HB.out⟩
  ·have hz1 : (((kids.length : Nat) : Int) == 0) = false := by rw [beq_eq_false_iff_ne]; omega
   have hz2 : decide (((kids.length : Nat) : Int) = 0) = false := decide_eq_false (by omega)
   have hz6 : (((kids.length : Nat) : Int) != 0) = true := by rw [bne_iff_ne]; omega
   have QK : Hid (¬ (kids = [])) := by unfold Hid; rintro rfl; exact qk rfl
   clear qk
   have HE : Hid (R = false) := by unfold Hid; rw [HO.out]; simp [QK.out]
   clear HO
   go_wp2_with fail
   go_ret
   exact ⟨by rw [HE.out]; rfl, HB.out⟩
set_option maxHeartbeats 6400000 in
set_option maxRecDepth 100000 in
theorem rgt3 (R : Bool) (p at_ : Nat) (b o cn : Nat) (nn : Nat) (vv vb : Value) (op : Int) (name : List UInt8) (num far : Int) (kids thn els : List Int) (a a2 a3 : Option Addr) (c c2 c3 : Nat) (w : World) (hl : name.length ≤ 1048576) (hk1 : kids.length ≤ 1048576) (hk2 : thn.length ≤ 1048576) (hk3 : els.length ≤ 1048576)
  (r1 r2 r3 : Bool) (hO : R = ((decide (op = 0) && isNameL name && decide (num = 0) && decide (far = 0) && decide (1 ≤ kids.length ∧ kids.length ≤ 1) && thn.isEmpty && els.isEmpty) && r1 && r2 && r3)) (hat : at_ < nn) (hp1 : w.cell? ⟨p, 1, none⟩ = some (.slice (some ⟨b, o, none⟩) nn cn))
  (hc0 : w.cell? ⟨b, o + at_ * 8, none⟩ = some (.int .i64 3))
  (hc1 : w.cell? ⟨b, o + at_ * 8 + 1, none⟩ = some (.int .i64 op))
  (hc2 : w.cell? ⟨b, o + at_ * 8 + 2, none⟩ = some (.string (bs name)))
  (hc3 : w.cell? ⟨b, o + at_ * 8 + 3, none⟩ = some (.int .i64 num))
  (hc4 : w.cell? ⟨b, o + at_ * 8 + 4, none⟩ = some (.int .i64 far))
  (hc5 : w.cell? ⟨b, o + at_ * 8 + 5, none⟩ = some (.slice a kids.length c))
  (hc6 : w.cell? ⟨b, o + at_ * 8 + 6, none⟩ = some (.slice a2 thn.length c2))
  (hc7 : w.cell? ⟨b, o + at_ * 8 + 7, none⟩ = some (.slice a3 els.length c3))
  (hR1 : ∀ W, Below w.heap.size w W → Calls Tryz.prog 163 #[.pointer (some ⟨p, 0, none⟩), .int .i64 at_, .slice a kids.length c, .bool true] W fun e w' => e = .returned (.bool r1) ∧ Below W.heap.size W w')
  (hR2 : ∀ W, Below w.heap.size w W → Calls Tryz.prog 163 #[.pointer (some ⟨p, 0, none⟩), .int .i64 at_, .slice a2 thn.length c2, .bool false] W fun e w' => e = .returned (.bool r2) ∧ Below W.heap.size W w')
  (hR3 : ∀ W, Below w.heap.size w W → Calls Tryz.prog 163 #[.pointer (some ⟨p, 0, none⟩), .int .i64 at_, .slice a3 els.length c3, .bool false] W fun e w' => e = .returned (.bool r3) ∧ Below W.heap.size W w') :
  Calls Tryz.prog 162 #[.pointer (some ⟨p, 0, none⟩), .int .i64 at_] w fun e w' => e = .returned (.bool R) ∧ Below w.heap.size w w' := by
 have HO := hid hO
 have HR1 := hid hR1
 have HR2 := hid hR2
 have HR3 := hid hR3
 have hI0 : (0 : Int) ≤ (at_ : Int) := by omega
 have hI1 : (at_ : Int) < (nn : Int) := by omega
 clear hO hR1 hR2 hR3
 go_enter Tryz.func162, Tryz.ntmps162
 go_wp2_with fail
 have hA := heap_alloc_new w (.cells #[.int .i64 3, .int .i64 op, .string (bs name), .int .i64 num, .int .i64 far, .slice a kids.length c, .slice a2 thn.length c2, .slice a3 els.length c3] 40)
 have hB : Below w.heap.size w (w.alloc (.cells #[.int .i64 3, .int .i64 op, .string (bs name), .int .i64 num, .int .i64 far, .slice a kids.length c, .slice a2 thn.length c2, .slice a3 els.length c3] 40)) := (Below.refl _ _).alloc (Nat.le_refl _) _
 generalize w.alloc (.cells #[.int .i64 3, .int .i64 op, .string (bs name), .int .i64 num, .int .i64 far, .slice a kids.length c, .slice a2 thn.length c2, .slice a3 els.length c3] 40) = W at *
 obtain ⟨d0, d1, d2, d3, d4, d5, d6, d7⟩ := cl8 hA
 have HB := hid hB
 have HA := hid hA
 clear hA hB hp1 hc0 hc1 hc2 hc3 hc4 hc5 hc6 hc7
 refine (l1In_any 3 1 11 _).mono ?_
 rintro e w1 ⟨rfl, rfl⟩
 have e1 : inB 3 1 11 = true := by decide
 rw [e1]
 clear e1
 go_wp2_with fail
 refine (l4Wants_any (⟨3, op, name, num, far, kids, thn, els⟩ : LNode) _ _ _ _ ⟨_, _, _, rfl⟩ ⟨_, _, _, rfl⟩ ⟨_, _, _, rfl⟩).mono ?_
 rintro e w2 ⟨rfl, hb⟩
 have e1 : wantsN 3 = (true, 1, false) := by decide
 simp only [wantsV, e1]
 clear e1
 have hA := blk HA.out hb
 have hB := HB.out.trans (hb.mono HB.out.size)
 clear HA HB hb d0 d1 d2 d3 d4 d5 d6 d7
 have HA := hid hA
 have HB := hid hB
 obtain ⟨d0, d1, d2, d3, d4, d5, d6, d7⟩ := cl8 hA
 clear hA hB
 go_wp2_with fail
 (try (rename_i kk hkk; simp only [List.append_eq, List.cons_append, List.nil_append] at hkk))
 refine (isName_any name _ (by omega)).mono ?_
 rintro e w3 ⟨rfl, hb⟩
 have hA := blk HA.out hb
 have hB := HB.out.trans (hb.mono HB.out.size)
 clear HA HB hb d0 d1 d2 d3 d4 d5 d6 d7
 have HA := hid hA
 have HB := hid hB
 obtain ⟨d0, d1, d2, d3, d4, d5, d6, d7⟩ := cl8 hA
 clear hA hB
 obtain ⟨qn, hqn⟩ : ∃ q, isNameL name = q := ⟨_, rfl⟩
 rw [hqn]
 cases qn with
 | false =>
  (try simp only [])
  have HE : Hid (R = false) := by unfold Hid; rw [HO.out]; simp [hqn]
  clear HO
  go_wp2_with fail
  go_ret
  exact ⟨by rw [HE.out]; rfl, HB.out⟩
 | true =>
  (try simp only [])
  by_cases qk : kids.length = 1
  ·have hz1 : (((kids.length : Nat) : Int) == 1) = true := by rw [beq_iff_eq]; omega
   have hz2 : decide (((kids.length : Nat) : Int) = 1) = true := decide_eq_true (by omega)
   have hz6 : (((kids.length : Nat) : Int) != 1) = false := by rw [bne_eq_false_iff_eq]; omega
   have QK : Hid (kids.length = 1) := qk
   clear qk
   by_cases qnum : num = 0
   ·skip
    by_cases qfar : far = 0
    ·skip
     by_cases qop : op = 0
     ·skip
      by_cases qels : els = []
      ·rw [qels] at HR3
       simp only [List.length_nil] at HR3
       by_cases qthn : thn = []
       ·rw [qthn] at HR2
        simp only [List.length_nil] at HR2
        go_wp2_with fail
        (try (rename_i kk hkk; simp only [List.append_eq, List.cons_append, List.nil_append] at hkk))
        refine (HR1.out _ HB.out).mono ?_
        rintro e w4 ⟨rfl, hb⟩
        have hA := blk HA.out hb
        have hB := HB.out.trans (hb.mono HB.out.size)
        clear HA HB hb d0 d1 d2 d3 d4 d5 d6 d7
        have HA := hid hA
        have HB := hid hB
        obtain ⟨d0, d1, d2, d3, d4, d5, d6, d7⟩ := cl8 hA
        clear hA hB
        cases r1 with
        | false =>
         (try simp only [])
         have HE : Hid (R = false) := by unfold Hid; rw [HO.out]; simp []
         clear HO
         go_wp2_with fail
         go_ret
         exact ⟨by rw [HE.out]; rfl, HB.out⟩
        | true =>
         (try simp only [])
         go_wp2_with fail
         refine (HR2.out _ HB.out).mono ?_
         rintro e w5 ⟨rfl, hb⟩
         have hA := blk HA.out hb
         have hB := HB.out.trans (hb.mono HB.out.size)
         clear HA HB hb d0 d1 d2 d3 d4 d5 d6 d7
         have HA := hid hA
         have HB := hid hB
         obtain ⟨d0, d1, d2, d3, d4, d5, d6, d7⟩ := cl8 hA
         clear hA hB
         cases r2 with
         | false =>
          (try simp only [])
          have HE : Hid (R = false) := by unfold Hid; rw [HO.out]; simp []
          clear HO
          go_wp2_with fail
          go_ret
          exact ⟨by rw [HE.out]; rfl, HB.out⟩
         | true =>
          (try simp only [])
          go_wp2_with fail
          refine (HR3.out _ HB.out).mono ?_
          rintro e w6 ⟨rfl, hb⟩
          have hA := blk HA.out hb
          have hB := HB.out.trans (hb.mono HB.out.size)
          clear HA HB hb d0 d1 d2 d3 d4 d5 d6 d7
          have HA := hid hA
          have HB := hid hB
          obtain ⟨d0, d1, d2, d3, d4, d5, d6, d7⟩ := cl8 hA
          clear hA hB
          have HE : Hid (R = r3) := by unfold Hid; rw [HO.out]; simp [hqn, QK.out, qnum, qfar, qop, qels, qthn]
          clear HO
          go_wp2_with fail
          go_ret
          exact ⟨by rw [HE.out]; rfl, HB.out⟩
       ·have hz : 0 < thn.length := List.length_pos_iff.2 qthn
        have hz3 : decide ((0 : Int) < ((thn.length : Nat) : Int)) = true := decide_eq_true (by omega)
        have HE : Hid (R = false) := by unfold Hid; rw [HO.out]; simp [qthn]
        clear HO
        go_wp2_with fail
        go_ret
        exact ⟨by rw [HE.out]; rfl, HB.out⟩
      ·have hz : 0 < els.length := List.length_pos_iff.2 qels
       have hz3 : decide ((0 : Int) < ((els.length : Nat) : Int)) = true := decide_eq_true (by omega)
       have HE : Hid (R = false) := by unfold Hid; rw [HO.out]; simp [qels]
       clear HO
       go_wp2_with fail
       go_ret
       exact ⟨by rw [HE.out]; rfl, HB.out⟩
     ·have hz1 : (op == 0) = false := by simpa using qop
      have hz2 : decide (op = 0) = false := decide_eq_false qop
      have HE : Hid (R = false) := by unfold Hid; rw [HO.out]; simp [qop]
      clear HO
      go_wp2_with fail
      go_ret
      exact ⟨by rw [HE.out]; rfl, HB.out⟩
    ·have hz1 : (far == 0) = false := by simpa using qfar
     have hz2 : decide (far = 0) = false := decide_eq_false qfar
     have HE : Hid (R = false) := by unfold Hid; rw [HO.out]; simp [qfar]
     clear HO
     go_wp2_with fail
     go_ret
     exact ⟨by rw [HE.out]; rfl, HB.out⟩
   ·have hz1 : (num == 0) = false := by simpa using qnum
    have hz2 : decide (num = 0) = false := decide_eq_false qnum
    have HE : Hid (R = false) := by unfold Hid; rw [HO.out]; simp [qnum]
    clear HO
    go_wp2_with fail
    go_ret
    exact ⟨by rw [HE.out]; rfl, HB.out⟩
  ·have hz1 : (((kids.length : Nat) : Int) == 1) = false := by rw [beq_eq_false_iff_ne]; omega
   have hz2 : decide (((kids.length : Nat) : Int) = 1) = false := decide_eq_false (by omega)
   have hz6 : (((kids.length : Nat) : Int) != 1) = true := by rw [bne_iff_ne]; omega
   have QK : Hid (¬ (1 ≤ kids.length ∧ kids.length ≤ 1)) := by unfold Hid; omega
   clear qk
   have HE : Hid (R = false) := by unfold Hid; rw [HO.out]; simp [QK.out]
   clear HO
   go_wp2_with fail
   go_ret
   exact ⟨by rw [HE.out]; rfl, HB.out⟩
set_option maxHeartbeats 6400000 in
set_option maxRecDepth 100000 in
theorem rgt4 (R : Bool) (p at_ : Nat) (b o cn : Nat) (nn : Nat) (vv vb : Value) (op : Int) (name : List UInt8) (num far : Int) (kids thn els : List Int) (a a2 a3 : Option Addr) (c c2 c3 : Nat) (w : World) (hl : name.length ≤ 1048576) (hk1 : kids.length ≤ 1048576) (hk2 : thn.length ≤ 1048576) (hk3 : els.length ≤ 1048576)
  (r1 r2 r3 : Bool) (hO : R = ((decide (op = 0) && name.isEmpty && decide (num = 0) && decide (far = 0) && decide (1 ≤ kids.length ∧ kids.length ≤ 1) && thn.isEmpty && els.isEmpty) && r1 && r2 && r3)) (hat : at_ < nn) (hp1 : w.cell? ⟨p, 1, none⟩ = some (.slice (some ⟨b, o, none⟩) nn cn))
  (hc0 : w.cell? ⟨b, o + at_ * 8, none⟩ = some (.int .i64 4))
  (hc1 : w.cell? ⟨b, o + at_ * 8 + 1, none⟩ = some (.int .i64 op))
  (hc2 : w.cell? ⟨b, o + at_ * 8 + 2, none⟩ = some (.string (bs name)))
  (hc3 : w.cell? ⟨b, o + at_ * 8 + 3, none⟩ = some (.int .i64 num))
  (hc4 : w.cell? ⟨b, o + at_ * 8 + 4, none⟩ = some (.int .i64 far))
  (hc5 : w.cell? ⟨b, o + at_ * 8 + 5, none⟩ = some (.slice a kids.length c))
  (hc6 : w.cell? ⟨b, o + at_ * 8 + 6, none⟩ = some (.slice a2 thn.length c2))
  (hc7 : w.cell? ⟨b, o + at_ * 8 + 7, none⟩ = some (.slice a3 els.length c3))
  (hR1 : ∀ W, Below w.heap.size w W → Calls Tryz.prog 163 #[.pointer (some ⟨p, 0, none⟩), .int .i64 at_, .slice a kids.length c, .bool true] W fun e w' => e = .returned (.bool r1) ∧ Below W.heap.size W w')
  (hR2 : ∀ W, Below w.heap.size w W → Calls Tryz.prog 163 #[.pointer (some ⟨p, 0, none⟩), .int .i64 at_, .slice a2 thn.length c2, .bool false] W fun e w' => e = .returned (.bool r2) ∧ Below W.heap.size W w')
  (hR3 : ∀ W, Below w.heap.size w W → Calls Tryz.prog 163 #[.pointer (some ⟨p, 0, none⟩), .int .i64 at_, .slice a3 els.length c3, .bool false] W fun e w' => e = .returned (.bool r3) ∧ Below W.heap.size W w') :
  Calls Tryz.prog 162 #[.pointer (some ⟨p, 0, none⟩), .int .i64 at_] w fun e w' => e = .returned (.bool R) ∧ Below w.heap.size w w' := by
 have HO := hid hO
 have HR1 := hid hR1
 have HR2 := hid hR2
 have HR3 := hid hR3
 have hI0 : (0 : Int) ≤ (at_ : Int) := by omega
 have hI1 : (at_ : Int) < (nn : Int) := by omega
 clear hO hR1 hR2 hR3
 go_enter Tryz.func162, Tryz.ntmps162
 go_wp2_with fail
 have hA := heap_alloc_new w (.cells #[.int .i64 4, .int .i64 op, .string (bs name), .int .i64 num, .int .i64 far, .slice a kids.length c, .slice a2 thn.length c2, .slice a3 els.length c3] 40)
 have hB : Below w.heap.size w (w.alloc (.cells #[.int .i64 4, .int .i64 op, .string (bs name), .int .i64 num, .int .i64 far, .slice a kids.length c, .slice a2 thn.length c2, .slice a3 els.length c3] 40)) := (Below.refl _ _).alloc (Nat.le_refl _) _
 generalize w.alloc (.cells #[.int .i64 4, .int .i64 op, .string (bs name), .int .i64 num, .int .i64 far, .slice a kids.length c, .slice a2 thn.length c2, .slice a3 els.length c3] 40) = W at *
 obtain ⟨d0, d1, d2, d3, d4, d5, d6, d7⟩ := cl8 hA
 have HB := hid hB
 have HA := hid hA
 clear hA hB hp1 hc0 hc1 hc2 hc3 hc4 hc5 hc6 hc7
 refine (l1In_any 4 1 11 _).mono ?_
 rintro e w1 ⟨rfl, rfl⟩
 have e1 : inB 4 1 11 = true := by decide
 rw [e1]
 clear e1
 go_wp2_with fail
 refine (l4Wants_any (⟨4, op, name, num, far, kids, thn, els⟩ : LNode) _ _ _ _ ⟨_, _, _, rfl⟩ ⟨_, _, _, rfl⟩ ⟨_, _, _, rfl⟩).mono ?_
 rintro e w2 ⟨rfl, hb⟩
 have e1 : wantsN 4 = (false, 1, false) := by decide
 simp only [wantsV, e1]
 clear e1
 have hA := blk HA.out hb
 have hB := HB.out.trans (hb.mono HB.out.size)
 clear HA HB hb d0 d1 d2 d3 d4 d5 d6 d7
 have HA := hid hA
 have HB := hid hB
 obtain ⟨d0, d1, d2, d3, d4, d5, d6, d7⟩ := cl8 hA
 clear hA hB
 go_wp2_with fail
 (try (rename_i kk hkk; simp only [List.append_eq, List.cons_append, List.nil_append] at hkk))
 refine (isName_any name _ (by omega)).mono ?_
 rintro e w3 ⟨rfl, hb⟩
 have hA := blk HA.out hb
 have hB := HB.out.trans (hb.mono HB.out.size)
 clear HA HB hb d0 d1 d2 d3 d4 d5 d6 d7
 have HA := hid hA
 have HB := hid hB
 obtain ⟨d0, d1, d2, d3, d4, d5, d6, d7⟩ := cl8 hA
 clear hA hB
 obtain ⟨qn, hqn⟩ : ∃ q, isNameL name = q := ⟨_, rfl⟩
 rw [hqn]
 by_cases qname : name = []
 ·have e1 : qn = false := by rw [← hqn, qname]; exact isNameL_nil
  subst e1
  (try simp only [])
  by_cases qk : kids.length = 1
  ·have hz1 : (((kids.length : Nat) : Int) == 1) = true := by rw [beq_iff_eq]; omega
   have hz2 : decide (((kids.length : Nat) : Int) = 1) = true := decide_eq_true (by omega)
   have hz6 : (((kids.length : Nat) : Int) != 1) = false := by rw [bne_eq_false_iff_eq]; omega
   have QK : Hid (kids.length = 1) := qk
   clear qk
   by_cases qnum : num = 0
   ·skip
    by_cases qfar : far = 0
    ·skip
     by_cases qop : op = 0
     ·skip
      by_cases qels : els = []
      ·rw [qels] at HR3
       simp only [List.length_nil] at HR3
       by_cases qthn : thn = []
       ·rw [qthn] at HR2
        simp only [List.length_nil] at HR2
        go_wp2_with fail
        (try (rename_i kk hkk; simp only [List.append_eq, List.cons_append, List.nil_append] at hkk))
        refine (HR1.out _ HB.out).mono ?_
        rintro e w4 ⟨rfl, hb⟩
        have hA := blk HA.out hb
        have hB := HB.out.trans (hb.mono HB.out.size)
        clear HA HB hb d0 d1 d2 d3 d4 d5 d6 d7
        have HA := hid hA
        have HB := hid hB
        obtain ⟨d0, d1, d2, d3, d4, d5, d6, d7⟩ := cl8 hA
        clear hA hB
        cases r1 with
        | false =>
         (try simp only [])
         have HE : Hid (R = false) := by unfold Hid; rw [HO.out]; simp []
         clear HO
         go_wp2_with fail
         go_ret
         exact ⟨by rw [HE.out]; rfl, HB.out⟩
        | true =>
         (try simp only [])
         go_wp2_with fail
         refine (HR2.out _ HB.out).mono ?_
         rintro e w5 ⟨rfl, hb⟩
         have hA := blk HA.out hb
         have hB := HB.out.trans (hb.mono HB.out.size)
         clear HA HB hb d0 d1 d2 d3 d4 d5 d6 d7
         have HA := hid hA
         have HB := hid hB
         obtain ⟨d0, d1, d2, d3, d4, d5, d6, d7⟩ := cl8 hA
         clear hA hB
         cases r2 with
         | false =>
          (try simp only [])
          have HE : Hid (R = false) := by unfold Hid; rw [HO.out]; simp []
          clear HO
          go_wp2_with fail
          go_ret
          exact ⟨by rw [HE.out]; rfl, HB.out⟩
         | true =>
          (try simp only [])
          go_wp2_with fail
          refine (HR3.out _ HB.out).mono ?_
          rintro e w6 ⟨rfl, hb⟩
          have hA := blk HA.out hb
          have hB := HB.out.trans (hb.mono HB.out.size)
          clear HA HB hb d0 d1 d2 d3 d4 d5 d6 d7
          have HA := hid hA
          have HB := hid hB
          obtain ⟨d0, d1, d2, d3, d4, d5, d6, d7⟩ := cl8 hA
          clear hA hB
          have HE : Hid (R = r3) := by unfold Hid; rw [HO.out]; simp [qname, QK.out, qnum, qfar, qop, qels, qthn]
          clear HO
          go_wp2_with fail
          go_ret
          exact ⟨by rw [HE.out]; rfl, HB.out⟩
       ·have hz : 0 < thn.length := List.length_pos_iff.2 qthn
        have hz3 : decide ((0 : Int) < ((thn.length : Nat) : Int)) = true := decide_eq_true (by omega)
        have HE : Hid (R = false) := by unfold Hid; rw [HO.out]; simp [qthn]
        clear HO
        go_wp2_with fail
        go_ret
        exact ⟨by rw [HE.out]; rfl, HB.out⟩
      ·have hz : 0 < els.length := List.length_pos_iff.2 qels
       have hz3 : decide ((0 : Int) < ((els.length : Nat) : Int)) = true := decide_eq_true (by omega)
       have HE : Hid (R = false) := by unfold Hid; rw [HO.out]; simp [qels]
       clear HO
       go_wp2_with fail
       go_ret
       exact ⟨by rw [HE.out]; rfl, HB.out⟩
     ·have hz1 : (op == 0) = false := by simpa using qop
      have hz2 : decide (op = 0) = false := decide_eq_false qop
      have HE : Hid (R = false) := by unfold Hid; rw [HO.out]; simp [qop]
      clear HO
      go_wp2_with fail
      go_ret
      exact ⟨by rw [HE.out]; rfl, HB.out⟩
    ·have hz1 : (far == 0) = false := by simpa using qfar
     have hz2 : decide (far = 0) = false := decide_eq_false qfar
     have HE : Hid (R = false) := by unfold Hid; rw [HO.out]; simp [qfar]
     clear HO
     go_wp2_with fail
     go_ret
     exact ⟨by rw [HE.out]; rfl, HB.out⟩
   ·have hz1 : (num == 0) = false := by simpa using qnum
    have hz2 : decide (num = 0) = false := decide_eq_false qnum
    have HE : Hid (R = false) := by unfold Hid; rw [HO.out]; simp [qnum]
    clear HO
    go_wp2_with fail
    go_ret
    exact ⟨by rw [HE.out]; rfl, HB.out⟩
  ·have hz1 : (((kids.length : Nat) : Int) == 1) = false := by rw [beq_eq_false_iff_ne]; omega
   have hz2 : decide (((kids.length : Nat) : Int) = 1) = false := decide_eq_false (by omega)
   have hz6 : (((kids.length : Nat) : Int) != 1) = true := by rw [bne_iff_ne]; omega
   have QK : Hid (¬ (1 ≤ kids.length ∧ kids.length ≤ 1)) := by unfold Hid; omega
   clear qk
   have HE : Hid (R = false) := by unfold Hid; rw [HO.out]; simp [QK.out]
   clear HO
   go_wp2_with fail
   go_ret
   exact ⟨by rw [HE.out]; rfl, HB.out⟩
 ·have hz1 : (name == []) = false := by simpa using qname
  have hz2 : decide (name = []) = false := decide_eq_false qname
  cases qn with
  | false =>
   (try simp only [])
   have HE : Hid (R = false) := by unfold Hid; rw [HO.out]; simp [qname]
   clear HO
   go_wp2_with fail
   go_ret
   exact ⟨by rw [HE.out]; rfl, HB.out⟩
  | true =>
   (try simp only [])
   have HE : Hid (R = false) := by unfold Hid; rw [HO.out]; simp [qname]
   clear HO
   go_wp2_with fail
   go_ret
   exact ⟨by rw [HE.out]; rfl, HB.out⟩
end Go.Proofs.YtcecfmdjicjngaaGreatDoor
namespace Go.Proofs.YtcecfmdjicjngaaGreatDoor
open Go.RowKit
set_option linter.unusedVariables false
attribute [local go_sem] bs_size bs_get bs_extract bs_append bs_eq bs_toList
set_option maxHeartbeats 6400000 in
set_option maxRecDepth 100000 in
theorem rgt5 (R : Bool) (p at_ : Nat) (b o cn : Nat) (nn : Nat) (vv vb : Value) (op : Int) (name : List UInt8) (num far : Int) (kids thn els : List Int) (a a2 a3 : Option Addr) (c c2 c3 : Nat) (w : World) (hl : name.length ≤ 1048576) (hk1 : kids.length ≤ 1048576) (hk2 : thn.length ≤ 1048576) (hk3 : els.length ≤ 1048576)
  (r1 r2 r3 : Bool) (hO : R = ((decide (op = 0) && name.isEmpty && decide (num = 0) && decide (far = 0) && decide (1 ≤ kids.length ∧ kids.length ≤ 1) && thn.isEmpty && els.isEmpty) && r1 && r2 && r3)) (hat : at_ < nn) (hp1 : w.cell? ⟨p, 1, none⟩ = some (.slice (some ⟨b, o, none⟩) nn cn))
  (hc0 : w.cell? ⟨b, o + at_ * 8, none⟩ = some (.int .i64 5))
  (hc1 : w.cell? ⟨b, o + at_ * 8 + 1, none⟩ = some (.int .i64 op))
  (hc2 : w.cell? ⟨b, o + at_ * 8 + 2, none⟩ = some (.string (bs name)))
  (hc3 : w.cell? ⟨b, o + at_ * 8 + 3, none⟩ = some (.int .i64 num))
  (hc4 : w.cell? ⟨b, o + at_ * 8 + 4, none⟩ = some (.int .i64 far))
  (hc5 : w.cell? ⟨b, o + at_ * 8 + 5, none⟩ = some (.slice a kids.length c))
  (hc6 : w.cell? ⟨b, o + at_ * 8 + 6, none⟩ = some (.slice a2 thn.length c2))
  (hc7 : w.cell? ⟨b, o + at_ * 8 + 7, none⟩ = some (.slice a3 els.length c3))
  (hR1 : ∀ W, Below w.heap.size w W → Calls Tryz.prog 163 #[.pointer (some ⟨p, 0, none⟩), .int .i64 at_, .slice a kids.length c, .bool true] W fun e w' => e = .returned (.bool r1) ∧ Below W.heap.size W w')
  (hR2 : ∀ W, Below w.heap.size w W → Calls Tryz.prog 163 #[.pointer (some ⟨p, 0, none⟩), .int .i64 at_, .slice a2 thn.length c2, .bool false] W fun e w' => e = .returned (.bool r2) ∧ Below W.heap.size W w')
  (hR3 : ∀ W, Below w.heap.size w W → Calls Tryz.prog 163 #[.pointer (some ⟨p, 0, none⟩), .int .i64 at_, .slice a3 els.length c3, .bool false] W fun e w' => e = .returned (.bool r3) ∧ Below W.heap.size W w') :
  Calls Tryz.prog 162 #[.pointer (some ⟨p, 0, none⟩), .int .i64 at_] w fun e w' => e = .returned (.bool R) ∧ Below w.heap.size w w' := by
 have HO := hid hO
 have HR1 := hid hR1
 have HR2 := hid hR2
 have HR3 := hid hR3
 have hI0 : (0 : Int) ≤ (at_ : Int) := by omega
 have hI1 : (at_ : Int) < (nn : Int) := by omega
 clear hO hR1 hR2 hR3
 go_enter Tryz.func162, Tryz.ntmps162
 go_wp2_with fail
 have hA := heap_alloc_new w (.cells #[.int .i64 5, .int .i64 op, .string (bs name), .int .i64 num, .int .i64 far, .slice a kids.length c, .slice a2 thn.length c2, .slice a3 els.length c3] 40)
 have hB : Below w.heap.size w (w.alloc (.cells #[.int .i64 5, .int .i64 op, .string (bs name), .int .i64 num, .int .i64 far, .slice a kids.length c, .slice a2 thn.length c2, .slice a3 els.length c3] 40)) := (Below.refl _ _).alloc (Nat.le_refl _) _
 generalize w.alloc (.cells #[.int .i64 5, .int .i64 op, .string (bs name), .int .i64 num, .int .i64 far, .slice a kids.length c, .slice a2 thn.length c2, .slice a3 els.length c3] 40) = W at *
 obtain ⟨d0, d1, d2, d3, d4, d5, d6, d7⟩ := cl8 hA
 have HB := hid hB
 have HA := hid hA
 clear hA hB hp1 hc0 hc1 hc2 hc3 hc4 hc5 hc6 hc7
 refine (l1In_any 5 1 11 _).mono ?_
 rintro e w1 ⟨rfl, rfl⟩
 have e1 : inB 5 1 11 = true := by decide
 rw [e1]
 clear e1
 go_wp2_with fail
 refine (l4Wants_any (⟨5, op, name, num, far, kids, thn, els⟩ : LNode) _ _ _ _ ⟨_, _, _, rfl⟩ ⟨_, _, _, rfl⟩ ⟨_, _, _, rfl⟩).mono ?_
 rintro e w2 ⟨rfl, hb⟩
 have e1 : wantsN 5 = (false, 1, false) := by decide
 simp only [wantsV, e1]
 clear e1
 have hA := blk HA.out hb
 have hB := HB.out.trans (hb.mono HB.out.size)
 clear HA HB hb d0 d1 d2 d3 d4 d5 d6 d7
 have HA := hid hA
 have HB := hid hB
 obtain ⟨d0, d1, d2, d3, d4, d5, d6, d7⟩ := cl8 hA
 clear hA hB
 go_wp2_with fail
 (try (rename_i kk hkk; simp only [List.append_eq, List.cons_append, List.nil_append] at hkk))
 refine (isName_any name _ (by omega)).mono ?_
 rintro e w3 ⟨rfl, hb⟩
 have hA := blk HA.out hb
 have hB := HB.out.trans (hb.mono HB.out.size)
 clear HA HB hb d0 d1 d2 d3 d4 d5 d6 d7
 have HA := hid hA
 have HB := hid hB
 obtain ⟨d0, d1, d2, d3, d4, d5, d6, d7⟩ := cl8 hA
 clear hA hB
 obtain ⟨qn, hqn⟩ : ∃ q, isNameL name = q := ⟨_, rfl⟩
 rw [hqn]
 by_cases qname : name = []
 ·have e1 : qn = false := by rw [← hqn, qname]; exact isNameL_nil
  subst e1
  (try simp only [])
  by_cases qk : kids.length = 1
  ·have hz1 : (((kids.length : Nat) : Int) == 1) = true := by rw [beq_iff_eq]; omega
   have hz2 : decide (((kids.length : Nat) : Int) = 1) = true := decide_eq_true (by omega)
   have hz6 : (((kids.length : Nat) : Int) != 1) = false := by rw [bne_eq_false_iff_eq]; omega
   have QK : Hid (kids.length = 1) := qk
   clear qk
   by_cases qnum : num = 0
   ·skip
    by_cases qfar : far = 0
    ·skip
     by_cases qop : op = 0
     ·skip
      by_cases qels : els = []
      ·rw [qels] at HR3
       simp only [List.length_nil] at HR3
       by_cases qthn : thn = []
       ·rw [qthn] at HR2
        simp only [List.length_nil] at HR2
        go_wp2_with fail
        (try (rename_i kk hkk; simp only [List.append_eq, List.cons_append, List.nil_append] at hkk))
        refine (HR1.out _ HB.out).mono ?_
        rintro e w4 ⟨rfl, hb⟩
        have hA := blk HA.out hb
        have hB := HB.out.trans (hb.mono HB.out.size)
        clear HA HB hb d0 d1 d2 d3 d4 d5 d6 d7
        have HA := hid hA
        have HB := hid hB
        obtain ⟨d0, d1, d2, d3, d4, d5, d6, d7⟩ := cl8 hA
        clear hA hB
        cases r1 with
        | false =>
         (try simp only [])
         have HE : Hid (R = false) := by unfold Hid; rw [HO.out]; simp []
         clear HO
         go_wp2_with fail
         go_ret
         exact ⟨by rw [HE.out]; rfl, HB.out⟩
        | true =>
         (try simp only [])
         go_wp2_with fail
         refine (HR2.out _ HB.out).mono ?_
         rintro e w5 ⟨rfl, hb⟩
         have hA := blk HA.out hb
         have hB := HB.out.trans (hb.mono HB.out.size)
         clear HA HB hb d0 d1 d2 d3 d4 d5 d6 d7
         have HA := hid hA
         have HB := hid hB
         obtain ⟨d0, d1, d2, d3, d4, d5, d6, d7⟩ := cl8 hA
         clear hA hB
         cases r2 with
         | false =>
          (try simp only [])
          have HE : Hid (R = false) := by unfold Hid; rw [HO.out]; simp []
          clear HO
          go_wp2_with fail
          go_ret
          exact ⟨by rw [HE.out]; rfl, HB.out⟩
         | true =>
          (try simp only [])
          go_wp2_with fail
          refine (HR3.out _ HB.out).mono ?_
          rintro e w6 ⟨rfl, hb⟩
          have hA := blk HA.out hb
          have hB := HB.out.trans (hb.mono HB.out.size)
          clear HA HB hb d0 d1 d2 d3 d4 d5 d6 d7
          have HA := hid hA
          have HB := hid hB
          obtain ⟨d0, d1, d2, d3, d4, d5, d6, d7⟩ := cl8 hA
          clear hA hB
          have HE : Hid (R = r3) := by unfold Hid; rw [HO.out]; simp [qname, QK.out, qnum, qfar, qop, qels, qthn]
          clear HO
          go_wp2_with fail
          go_ret
          exact ⟨by rw [HE.out]; rfl, HB.out⟩
       ·have hz : 0 < thn.length := List.length_pos_iff.2 qthn
        have hz3 : decide ((0 : Int) < ((thn.length : Nat) : Int)) = true := decide_eq_true (by omega)
        have HE : Hid (R = false) := by unfold Hid; rw [HO.out]; simp [qthn]
        clear HO
        go_wp2_with fail
        go_ret
        exact ⟨by rw [HE.out]; rfl, HB.out⟩
      ·have hz : 0 < els.length := List.length_pos_iff.2 qels
       have hz3 : decide ((0 : Int) < ((els.length : Nat) : Int)) = true := decide_eq_true (by omega)
       have HE : Hid (R = false) := by unfold Hid; rw [HO.out]; simp [qels]
       clear HO
       go_wp2_with fail
       go_ret
       exact ⟨by rw [HE.out]; rfl, HB.out⟩
     ·have hz1 : (op == 0) = false := by simpa using qop
      have hz2 : decide (op = 0) = false := decide_eq_false qop
      have HE : Hid (R = false) := by unfold Hid; rw [HO.out]; simp [qop]
      clear HO
      go_wp2_with fail
      go_ret
      exact ⟨by rw [HE.out]; rfl, HB.out⟩
    ·have hz1 : (far == 0) = false := by simpa using qfar
     have hz2 : decide (far = 0) = false := decide_eq_false qfar
     have HE : Hid (R = false) := by unfold Hid; rw [HO.out]; simp [qfar]
     clear HO
     go_wp2_with fail
     go_ret
     exact ⟨by rw [HE.out]; rfl, HB.out⟩
   ·have hz1 : (num == 0) = false := by simpa using qnum
    have hz2 : decide (num = 0) = false := decide_eq_false qnum
    have HE : Hid (R = false) := by unfold Hid; rw [HO.out]; simp [qnum]
    clear HO
    go_wp2_with fail
    go_ret
    exact ⟨by rw [HE.out]; rfl, HB.out⟩
  ·have hz1 : (((kids.length : Nat) : Int) == 1) = false := by rw [beq_eq_false_iff_ne]; omega
   have hz2 : decide (((kids.length : Nat) : Int) = 1) = false := decide_eq_false (by omega)
   have hz6 : (((kids.length : Nat) : Int) != 1) = true := by rw [bne_iff_ne]; omega
   have QK : Hid (¬ (1 ≤ kids.length ∧ kids.length ≤ 1)) := by unfold Hid; omega
   clear qk
   have HE : Hid (R = false) := by unfold Hid; rw [HO.out]; simp [QK.out]
   clear HO
   go_wp2_with fail
   go_ret
   exact ⟨by rw [HE.out]; rfl, HB.out⟩
 ·have hz1 : (name == []) = false := by simpa using qname
  have hz2 : decide (name = []) = false := decide_eq_false qname
  cases qn with
  | false =>
   (try simp only [])
   have HE : Hid (R = false) := by unfold Hid; rw [HO.out]; simp [qname]
   clear HO
   go_wp2_with fail
   go_ret
   exact ⟨by rw [HE.out]; rfl, HB.out⟩
  | true =>
   (try simp only [])
   have HE : Hid (R = false) := by unfold Hid; rw [HO.out]; simp [qname]
   clear HO
   go_wp2_with fail
   go_ret
   exact ⟨by rw [HE.out]; rfl, HB.out⟩
set_option maxHeartbeats 6400000 in
set_option maxRecDepth 100000 in
theorem rgt6 (R : Bool) (p at_ : Nat) (b o cn : Nat) (nn : Nat) (vv vb : Value) (op : Int) (name : List UInt8) (num far : Int) (kids thn els : List Int) (a a2 a3 : Option Addr) (c c2 c3 : Nat) (w : World) (hl : name.length ≤ 1048576) (hk1 : kids.length ≤ 1048576) (hk2 : thn.length ≤ 1048576) (hk3 : els.length ≤ 1048576)
  (r1 r2 r3 : Bool) (hO : R = ((inB op 1 10 && name.isEmpty && decide (num = 0) && decide (far = 0) && decide (2 ≤ kids.length ∧ kids.length ≤ 2) && thn.isEmpty && els.isEmpty) && r1 && r2 && r3)) (hat : at_ < nn) (hp1 : w.cell? ⟨p, 1, none⟩ = some (.slice (some ⟨b, o, none⟩) nn cn))
  (hc0 : w.cell? ⟨b, o + at_ * 8, none⟩ = some (.int .i64 6))
  (hc1 : w.cell? ⟨b, o + at_ * 8 + 1, none⟩ = some (.int .i64 op))
  (hc2 : w.cell? ⟨b, o + at_ * 8 + 2, none⟩ = some (.string (bs name)))
  (hc3 : w.cell? ⟨b, o + at_ * 8 + 3, none⟩ = some (.int .i64 num))
  (hc4 : w.cell? ⟨b, o + at_ * 8 + 4, none⟩ = some (.int .i64 far))
  (hc5 : w.cell? ⟨b, o + at_ * 8 + 5, none⟩ = some (.slice a kids.length c))
  (hc6 : w.cell? ⟨b, o + at_ * 8 + 6, none⟩ = some (.slice a2 thn.length c2))
  (hc7 : w.cell? ⟨b, o + at_ * 8 + 7, none⟩ = some (.slice a3 els.length c3))
  (hR1 : ∀ W, Below w.heap.size w W → Calls Tryz.prog 163 #[.pointer (some ⟨p, 0, none⟩), .int .i64 at_, .slice a kids.length c, .bool true] W fun e w' => e = .returned (.bool r1) ∧ Below W.heap.size W w')
  (hR2 : ∀ W, Below w.heap.size w W → Calls Tryz.prog 163 #[.pointer (some ⟨p, 0, none⟩), .int .i64 at_, .slice a2 thn.length c2, .bool false] W fun e w' => e = .returned (.bool r2) ∧ Below W.heap.size W w')
  (hR3 : ∀ W, Below w.heap.size w W → Calls Tryz.prog 163 #[.pointer (some ⟨p, 0, none⟩), .int .i64 at_, .slice a3 els.length c3, .bool false] W fun e w' => e = .returned (.bool r3) ∧ Below W.heap.size W w') :
  Calls Tryz.prog 162 #[.pointer (some ⟨p, 0, none⟩), .int .i64 at_] w fun e w' => e = .returned (.bool R) ∧ Below w.heap.size w w' := by
 have HO := hid hO
 have HR1 := hid hR1
 have HR2 := hid hR2
 have HR3 := hid hR3
 have hI0 : (0 : Int) ≤ (at_ : Int) := by omega
 have hI1 : (at_ : Int) < (nn : Int) := by omega
 clear hO hR1 hR2 hR3
 go_enter Tryz.func162, Tryz.ntmps162
 go_wp2_with fail
 have hA := heap_alloc_new w (.cells #[.int .i64 6, .int .i64 op, .string (bs name), .int .i64 num, .int .i64 far, .slice a kids.length c, .slice a2 thn.length c2, .slice a3 els.length c3] 40)
 have hB : Below w.heap.size w (w.alloc (.cells #[.int .i64 6, .int .i64 op, .string (bs name), .int .i64 num, .int .i64 far, .slice a kids.length c, .slice a2 thn.length c2, .slice a3 els.length c3] 40)) := (Below.refl _ _).alloc (Nat.le_refl _) _
 generalize w.alloc (.cells #[.int .i64 6, .int .i64 op, .string (bs name), .int .i64 num, .int .i64 far, .slice a kids.length c, .slice a2 thn.length c2, .slice a3 els.length c3] 40) = W at *
 obtain ⟨d0, d1, d2, d3, d4, d5, d6, d7⟩ := cl8 hA
 have HB := hid hB
 have HA := hid hA
 clear hA hB hp1 hc0 hc1 hc2 hc3 hc4 hc5 hc6 hc7
 refine (l1In_any 6 1 11 _).mono ?_
 rintro e w1 ⟨rfl, rfl⟩
 have e1 : inB 6 1 11 = true := by decide
 rw [e1]
 clear e1
 go_wp2_with fail
 refine (l4Wants_any (⟨6, op, name, num, far, kids, thn, els⟩ : LNode) _ _ _ _ ⟨_, _, _, rfl⟩ ⟨_, _, _, rfl⟩ ⟨_, _, _, rfl⟩).mono ?_
 rintro e w2 ⟨rfl, hb⟩
 have e1 : wantsN 6 = (false, 2, false) := by decide
 simp only [wantsV, e1]
 clear e1
 have hA := blk HA.out hb
 have hB := HB.out.trans (hb.mono HB.out.size)
 clear HA HB hb d0 d1 d2 d3 d4 d5 d6 d7
 have HA := hid hA
 have HB := hid hB
 obtain ⟨d0, d1, d2, d3, d4, d5, d6, d7⟩ := cl8 hA
 clear hA hB
 go_wp2_with fail
 (try (rename_i kk hkk; simp only [List.append_eq, List.cons_append, List.nil_append] at hkk))
 refine (isName_any name _ (by omega)).mono ?_
 rintro e w3 ⟨rfl, hb⟩
 have hA := blk HA.out hb
 have hB := HB.out.trans (hb.mono HB.out.size)
 clear HA HB hb d0 d1 d2 d3 d4 d5 d6 d7
 have HA := hid hA
 have HB := hid hB
 obtain ⟨d0, d1, d2, d3, d4, d5, d6, d7⟩ := cl8 hA
 clear hA hB
 obtain ⟨qn, hqn⟩ : ∃ q, isNameL name = q := ⟨_, rfl⟩
 rw [hqn]
 by_cases qname : name = []
 ·have e1 : qn = false := by rw [← hqn, qname]; exact isNameL_nil
  subst e1
  (try simp only [])
  by_cases qk : kids.length = 2
  ·have hz1 : (((kids.length : Nat) : Int) == 2) = true := by rw [beq_iff_eq]; omega
   have hz2 : decide (((kids.length : Nat) : Int) = 2) = true := decide_eq_true (by omega)
   have hz6 : (((kids.length : Nat) : Int) != 2) = false := by rw [bne_eq_false_iff_eq]; omega
   have QK : Hid (kids.length = 2) := qk
   clear qk
   by_cases qnum : num = 0
   ·skip
    by_cases qfar : far = 0
    ·skip
     go_wp2_with fail
     (try (rename_i kk hkk; simp only [List.append_eq, List.cons_append, List.nil_append] at hkk))
     refine (l1In_any op 1 10 _).mono ?_
     rintro e w' ⟨rfl, rfl⟩
     obtain ⟨q, qop⟩ : ∃ q, inB op 1 10 = q := ⟨_, rfl⟩
     rw [qop]
     cases q with
     | false =>
      (try simp only [])
      have HE : Hid (R = false) := by unfold Hid; rw [HO.out]; simp [qop]
      clear HO
      go_wp2_with fail
      go_ret
      exact ⟨by rw [HE.out]; rfl, HB.out⟩
     | true =>
      (try simp only [])
      by_cases qels : els = []
      ·rw [qels] at HR3
       simp only [List.length_nil] at HR3
       by_cases qthn : thn = []
       ·rw [qthn] at HR2
        simp only [List.length_nil] at HR2
        go_wp2_with fail
        (try (rename_i kk hkk; simp only [List.append_eq, List.cons_append, List.nil_append] at hkk))
        refine (HR1.out _ HB.out).mono ?_
        rintro e w4 ⟨rfl, hb⟩
        have hA := blk HA.out hb
        have hB := HB.out.trans (hb.mono HB.out.size)
        clear HA HB hb d0 d1 d2 d3 d4 d5 d6 d7
        have HA := hid hA
        have HB := hid hB
        obtain ⟨d0, d1, d2, d3, d4, d5, d6, d7⟩ := cl8 hA
        clear hA hB
        cases r1 with
        | false =>
         (try simp only [])
         have HE : Hid (R = false) := by unfold Hid; rw [HO.out]; simp []
         clear HO
         go_wp2_with fail
         go_ret
         exact ⟨by rw [HE.out]; rfl, HB.out⟩
        | true =>
         (try simp only [])
         go_wp2_with fail
         refine (HR2.out _ HB.out).mono ?_
         rintro e w5 ⟨rfl, hb⟩
         have hA := blk HA.out hb
         have hB := HB.out.trans (hb.mono HB.out.size)
         clear HA HB hb d0 d1 d2 d3 d4 d5 d6 d7
         have HA := hid hA
         have HB := hid hB
         obtain ⟨d0, d1, d2, d3, d4, d5, d6, d7⟩ := cl8 hA
         clear hA hB
         cases r2 with
         | false =>
          (try simp only [])
          have HE : Hid (R = false) := by unfold Hid; rw [HO.out]; simp []
          clear HO
          go_wp2_with fail
          go_ret
          exact ⟨by rw [HE.out]; rfl, HB.out⟩
         | true =>
          (try simp only [])
          go_wp2_with fail
          refine (HR3.out _ HB.out).mono ?_
          rintro e w6 ⟨rfl, hb⟩
          have hA := blk HA.out hb
          have hB := HB.out.trans (hb.mono HB.out.size)
          clear HA HB hb d0 d1 d2 d3 d4 d5 d6 d7
          have HA := hid hA
          have HB := hid hB
          obtain ⟨d0, d1, d2, d3, d4, d5, d6, d7⟩ := cl8 hA
          clear hA hB
          have HE : Hid (R = r3) := by unfold Hid; rw [HO.out]; simp [qname, QK.out, qnum, qfar, qop, qels, qthn]
          clear HO
          go_wp2_with fail
          go_ret
          exact ⟨by rw [HE.out]; rfl, HB.out⟩
       ·have hz : 0 < thn.length := List.length_pos_iff.2 qthn
        have hz3 : decide ((0 : Int) < ((thn.length : Nat) : Int)) = true := decide_eq_true (by omega)
        have HE : Hid (R = false) := by unfold Hid; rw [HO.out]; simp [qthn]
        clear HO
        go_wp2_with fail
        go_ret
        exact ⟨by rw [HE.out]; rfl, HB.out⟩
      ·have hz : 0 < els.length := List.length_pos_iff.2 qels
       have hz3 : decide ((0 : Int) < ((els.length : Nat) : Int)) = true := decide_eq_true (by omega)
       have HE : Hid (R = false) := by unfold Hid; rw [HO.out]; simp [qels]
       clear HO
       go_wp2_with fail
       go_ret
       exact ⟨by rw [HE.out]; rfl, HB.out⟩
    ·have hz1 : (far == 0) = false := by simpa using qfar
     have hz2 : decide (far = 0) = false := decide_eq_false qfar
     have HE : Hid (R = false) := by unfold Hid; rw [HO.out]; simp [qfar]
     clear HO
     go_wp2_with fail
     go_ret
     exact ⟨by rw [HE.out]; rfl, HB.out⟩
   ·have hz1 : (num == 0) = false := by simpa using qnum
    have hz2 : decide (num = 0) = false := decide_eq_false qnum
    have HE : Hid (R = false) := by unfold Hid; rw [HO.out]; simp [qnum]
    clear HO
    go_wp2_with fail
    go_ret
    exact ⟨by rw [HE.out]; rfl, HB.out⟩
  ·have hz1 : (((kids.length : Nat) : Int) == 2) = false := by rw [beq_eq_false_iff_ne]; omega
   have hz2 : decide (((kids.length : Nat) : Int) = 2) = false := decide_eq_false (by omega)
   have hz6 : (((kids.length : Nat) : Int) != 2) = true := by rw [bne_iff_ne]; omega
   have QK : Hid (¬ (2 ≤ kids.length ∧ kids.length ≤ 2)) := by unfold Hid; omega
   clear qk
   have HE : Hid (R = false) := by unfold Hid; rw [HO.out]; simp [QK.out]
   clear HO
   go_wp2_with fail
   go_ret
   exact ⟨by rw [HE.out]; rfl, HB.out⟩
 ·have hz1 : (name == []) = false := by simpa using qname
  have hz2 : decide (name = []) = false := decide_eq_false qname
  cases qn with
  | false =>
   (try simp only [])
   have HE : Hid (R = false) := by unfold Hid; rw [HO.out]; simp [qname]
   clear HO
   go_wp2_with fail
   go_ret
   exact ⟨by rw [HE.out]; rfl, HB.out⟩
  | true =>
   (try simp only [])
   have HE : Hid (R = false) := by unfold Hid; rw [HO.out]; simp [qname]
   clear HO
   go_wp2_with fail
   go_ret
   exact ⟨by rw [HE.out]; rfl, HB.out⟩
set_option maxHeartbeats 6400000 in
set_option maxRecDepth 100000 in
theorem rgt7 (R : Bool) (p at_ : Nat) (b o cn : Nat) (nn : Nat) (vv vb : Value) (op : Int) (name : List UInt8) (num far : Int) (kids thn els : List Int) (a a2 a3 : Option Addr) (c c2 c3 : Nat) (w : World) (hl : name.length ≤ 1048576) (hk1 : kids.length ≤ 1048576) (hk2 : thn.length ≤ 1048576) (hk3 : els.length ≤ 1048576)
  (r1 r2 r3 : Bool) (hO : R = ((decide (op = 0) && isNameL name && decide (num = 0) && decide (far = 0) && decide (1 ≤ kids.length ∧ kids.length ≤ 1) && thn.isEmpty && els.isEmpty) && r1 && r2 && r3)) (hat : at_ < nn) (hp1 : w.cell? ⟨p, 1, none⟩ = some (.slice (some ⟨b, o, none⟩) nn cn))
  (hc0 : w.cell? ⟨b, o + at_ * 8, none⟩ = some (.int .i64 7))
  (hc1 : w.cell? ⟨b, o + at_ * 8 + 1, none⟩ = some (.int .i64 op))
  (hc2 : w.cell? ⟨b, o + at_ * 8 + 2, none⟩ = some (.string (bs name)))
  (hc3 : w.cell? ⟨b, o + at_ * 8 + 3, none⟩ = some (.int .i64 num))
  (hc4 : w.cell? ⟨b, o + at_ * 8 + 4, none⟩ = some (.int .i64 far))
  (hc5 : w.cell? ⟨b, o + at_ * 8 + 5, none⟩ = some (.slice a kids.length c))
  (hc6 : w.cell? ⟨b, o + at_ * 8 + 6, none⟩ = some (.slice a2 thn.length c2))
  (hc7 : w.cell? ⟨b, o + at_ * 8 + 7, none⟩ = some (.slice a3 els.length c3))
  (hR1 : ∀ W, Below w.heap.size w W → Calls Tryz.prog 163 #[.pointer (some ⟨p, 0, none⟩), .int .i64 at_, .slice a kids.length c, .bool true] W fun e w' => e = .returned (.bool r1) ∧ Below W.heap.size W w')
  (hR2 : ∀ W, Below w.heap.size w W → Calls Tryz.prog 163 #[.pointer (some ⟨p, 0, none⟩), .int .i64 at_, .slice a2 thn.length c2, .bool false] W fun e w' => e = .returned (.bool r2) ∧ Below W.heap.size W w')
  (hR3 : ∀ W, Below w.heap.size w W → Calls Tryz.prog 163 #[.pointer (some ⟨p, 0, none⟩), .int .i64 at_, .slice a3 els.length c3, .bool false] W fun e w' => e = .returned (.bool r3) ∧ Below W.heap.size W w') :
  Calls Tryz.prog 162 #[.pointer (some ⟨p, 0, none⟩), .int .i64 at_] w fun e w' => e = .returned (.bool R) ∧ Below w.heap.size w w' := by
 have HO := hid hO
 have HR1 := hid hR1
 have HR2 := hid hR2
 have HR3 := hid hR3
 have hI0 : (0 : Int) ≤ (at_ : Int) := by omega
 have hI1 : (at_ : Int) < (nn : Int) := by omega
 clear hO hR1 hR2 hR3
 go_enter Tryz.func162, Tryz.ntmps162
 go_wp2_with fail
 have hA := heap_alloc_new w (.cells #[.int .i64 7, .int .i64 op, .string (bs name), .int .i64 num, .int .i64 far, .slice a kids.length c, .slice a2 thn.length c2, .slice a3 els.length c3] 40)
 have hB : Below w.heap.size w (w.alloc (.cells #[.int .i64 7, .int .i64 op, .string (bs name), .int .i64 num, .int .i64 far, .slice a kids.length c, .slice a2 thn.length c2, .slice a3 els.length c3] 40)) := (Below.refl _ _).alloc (Nat.le_refl _) _
 generalize w.alloc (.cells #[.int .i64 7, .int .i64 op, .string (bs name), .int .i64 num, .int .i64 far, .slice a kids.length c, .slice a2 thn.length c2, .slice a3 els.length c3] 40) = W at *
 obtain ⟨d0, d1, d2, d3, d4, d5, d6, d7⟩ := cl8 hA
 have HB := hid hB
 have HA := hid hA
 clear hA hB hp1 hc0 hc1 hc2 hc3 hc4 hc5 hc6 hc7
 refine (l1In_any 7 1 11 _).mono ?_
 rintro e w1 ⟨rfl, rfl⟩
 have e1 : inB 7 1 11 = true := by decide
 rw [e1]
 clear e1
 go_wp2_with fail
 refine (l4Wants_any (⟨7, op, name, num, far, kids, thn, els⟩ : LNode) _ _ _ _ ⟨_, _, _, rfl⟩ ⟨_, _, _, rfl⟩ ⟨_, _, _, rfl⟩).mono ?_
 rintro e w2 ⟨rfl, hb⟩
 have e1 : wantsN 7 = (true, 1, false) := by decide
 simp only [wantsV, e1]
 clear e1
 have hA := blk HA.out hb
 have hB := HB.out.trans (hb.mono HB.out.size)
 clear HA HB hb d0 d1 d2 d3 d4 d5 d6 d7
 have HA := hid hA
 have HB := hid hB
 obtain ⟨d0, d1, d2, d3, d4, d5, d6, d7⟩ := cl8 hA
 clear hA hB
 go_wp2_with fail
 (try (rename_i kk hkk; simp only [List.append_eq, List.cons_append, List.nil_append] at hkk))
 refine (isName_any name _ (by omega)).mono ?_
 rintro e w3 ⟨rfl, hb⟩
 have hA := blk HA.out hb
 have hB := HB.out.trans (hb.mono HB.out.size)
 clear HA HB hb d0 d1 d2 d3 d4 d5 d6 d7
 have HA := hid hA
 have HB := hid hB
 obtain ⟨d0, d1, d2, d3, d4, d5, d6, d7⟩ := cl8 hA
 clear hA hB
 obtain ⟨qn, hqn⟩ : ∃ q, isNameL name = q := ⟨_, rfl⟩
 rw [hqn]
 cases qn with
 | false =>
  (try simp only [])
  have HE : Hid (R = false) := by unfold Hid; rw [HO.out]; simp [hqn]
  clear HO
  go_wp2_with fail
  go_ret
  exact ⟨by rw [HE.out]; rfl, HB.out⟩
 | true =>
  (try simp only [])
  by_cases qk : kids.length = 1
  ·have hz1 : (((kids.length : Nat) : Int) == 1) = true := by rw [beq_iff_eq]; omega
   have hz2 : decide (((kids.length : Nat) : Int) = 1) = true := decide_eq_true (by omega)
   have hz6 : (((kids.length : Nat) : Int) != 1) = false := by rw [bne_eq_false_iff_eq]; omega
   have QK : Hid (kids.length = 1) := qk
   clear qk
   by_cases qnum : num = 0
   ·skip
    by_cases qfar : far = 0
    ·skip
     by_cases qop : op = 0
     ·skip
      by_cases qels : els = []
      ·rw [qels] at HR3
       simp only [List.length_nil] at HR3
       by_cases qthn : thn = []
       ·rw [qthn] at HR2
        simp only [List.length_nil] at HR2
        go_wp2_with fail
        (try (rename_i kk hkk; simp only [List.append_eq, List.cons_append, List.nil_append] at hkk))
        refine (HR1.out _ HB.out).mono ?_
        rintro e w4 ⟨rfl, hb⟩
        have hA := blk HA.out hb
        have hB := HB.out.trans (hb.mono HB.out.size)
        clear HA HB hb d0 d1 d2 d3 d4 d5 d6 d7
        have HA := hid hA
        have HB := hid hB
        obtain ⟨d0, d1, d2, d3, d4, d5, d6, d7⟩ := cl8 hA
        clear hA hB
        cases r1 with
        | false =>
         (try simp only [])
         have HE : Hid (R = false) := by unfold Hid; rw [HO.out]; simp []
         clear HO
         go_wp2_with fail
         go_ret
         exact ⟨by rw [HE.out]; rfl, HB.out⟩
        | true =>
         (try simp only [])
         go_wp2_with fail
         refine (HR2.out _ HB.out).mono ?_
         rintro e w5 ⟨rfl, hb⟩
         have hA := blk HA.out hb
         have hB := HB.out.trans (hb.mono HB.out.size)
         clear HA HB hb d0 d1 d2 d3 d4 d5 d6 d7
         have HA := hid hA
         have HB := hid hB
         obtain ⟨d0, d1, d2, d3, d4, d5, d6, d7⟩ := cl8 hA
         clear hA hB
         cases r2 with
         | false =>
          (try simp only [])
          have HE : Hid (R = false) := by unfold Hid; rw [HO.out]; simp []
          clear HO
          go_wp2_with fail
          go_ret
          exact ⟨by rw [HE.out]; rfl, HB.out⟩
         | true =>
          (try simp only [])
          go_wp2_with fail
          refine (HR3.out _ HB.out).mono ?_
          rintro e w6 ⟨rfl, hb⟩
          have hA := blk HA.out hb
          have hB := HB.out.trans (hb.mono HB.out.size)
          clear HA HB hb d0 d1 d2 d3 d4 d5 d6 d7
          have HA := hid hA
          have HB := hid hB
          obtain ⟨d0, d1, d2, d3, d4, d5, d6, d7⟩ := cl8 hA
          clear hA hB
          have HE : Hid (R = r3) := by unfold Hid; rw [HO.out]; simp [hqn, QK.out, qnum, qfar, qop, qels, qthn]
          clear HO
          go_wp2_with fail
          go_ret
          exact ⟨by rw [HE.out]; rfl, HB.out⟩
       ·have hz : 0 < thn.length := List.length_pos_iff.2 qthn
        have hz3 : decide ((0 : Int) < ((thn.length : Nat) : Int)) = true := decide_eq_true (by omega)
        have HE : Hid (R = false) := by unfold Hid; rw [HO.out]; simp [qthn]
        clear HO
        go_wp2_with fail
        go_ret
        exact ⟨by rw [HE.out]; rfl, HB.out⟩
      ·have hz : 0 < els.length := List.length_pos_iff.2 qels
       have hz3 : decide ((0 : Int) < ((els.length : Nat) : Int)) = true := decide_eq_true (by omega)
       have HE : Hid (R = false) := by unfold Hid; rw [HO.out]; simp [qels]
       clear HO
       go_wp2_with fail
       go_ret
       exact ⟨by rw [HE.out]; rfl, HB.out⟩
     ·have hz1 : (op == 0) = false := by simpa using qop
      have hz2 : decide (op = 0) = false := decide_eq_false qop
      have HE : Hid (R = false) := by unfold Hid; rw [HO.out]; simp [qop]
      clear HO
      go_wp2_with fail
      go_ret
      exact ⟨by rw [HE.out]; rfl, HB.out⟩
    ·have hz1 : (far == 0) = false := by simpa using qfar
     have hz2 : decide (far = 0) = false := decide_eq_false qfar
     have HE : Hid (R = false) := by unfold Hid; rw [HO.out]; simp [qfar]
     clear HO
     go_wp2_with fail
     go_ret
     exact ⟨by rw [HE.out]; rfl, HB.out⟩
   ·have hz1 : (num == 0) = false := by simpa using qnum
    have hz2 : decide (num = 0) = false := decide_eq_false qnum
    have HE : Hid (R = false) := by unfold Hid; rw [HO.out]; simp [qnum]
    clear HO
    go_wp2_with fail
    go_ret
    exact ⟨by rw [HE.out]; rfl, HB.out⟩
  ·have hz1 : (((kids.length : Nat) : Int) == 1) = false := by rw [beq_eq_false_iff_ne]; omega
   have hz2 : decide (((kids.length : Nat) : Int) = 1) = false := decide_eq_false (by omega)
   have hz6 : (((kids.length : Nat) : Int) != 1) = true := by rw [bne_iff_ne]; omega
   have QK : Hid (¬ (1 ≤ kids.length ∧ kids.length ≤ 1)) := by unfold Hid; omega
   clear qk
   have HE : Hid (R = false) := by unfold Hid; rw [HO.out]; simp [QK.out]
   clear HO
   go_wp2_with fail
   go_ret
   exact ⟨by rw [HE.out]; rfl, HB.out⟩
set_option maxHeartbeats 6400000 in
set_option maxRecDepth 100000 in
theorem rgt8 (R : Bool) (p at_ : Nat) (b o cn : Nat) (nn : Nat) (vv vb : Value) (op : Int) (name : List UInt8) (num far : Int) (kids thn els : List Int) (a a2 a3 : Option Addr) (c c2 c3 : Nat) (w : World) (hl : name.length ≤ 1048576) (hk1 : kids.length ≤ 1048576) (hk2 : thn.length ≤ 1048576) (hk3 : els.length ≤ 1048576)
  (r1 r2 r3 : Bool) (hO : R = ((decide (op = 0) && isNameL name && decide (num = 0) && decide (far = 0) && decide (2 ≤ kids.length ∧ kids.length ≤ 2) && thn.isEmpty && els.isEmpty) && r1 && r2 && r3)) (hat : at_ < nn) (hp1 : w.cell? ⟨p, 1, none⟩ = some (.slice (some ⟨b, o, none⟩) nn cn))
  (hc0 : w.cell? ⟨b, o + at_ * 8, none⟩ = some (.int .i64 8))
  (hc1 : w.cell? ⟨b, o + at_ * 8 + 1, none⟩ = some (.int .i64 op))
  (hc2 : w.cell? ⟨b, o + at_ * 8 + 2, none⟩ = some (.string (bs name)))
  (hc3 : w.cell? ⟨b, o + at_ * 8 + 3, none⟩ = some (.int .i64 num))
  (hc4 : w.cell? ⟨b, o + at_ * 8 + 4, none⟩ = some (.int .i64 far))
  (hc5 : w.cell? ⟨b, o + at_ * 8 + 5, none⟩ = some (.slice a kids.length c))
  (hc6 : w.cell? ⟨b, o + at_ * 8 + 6, none⟩ = some (.slice a2 thn.length c2))
  (hc7 : w.cell? ⟨b, o + at_ * 8 + 7, none⟩ = some (.slice a3 els.length c3))
  (hR1 : ∀ W, Below w.heap.size w W → Calls Tryz.prog 163 #[.pointer (some ⟨p, 0, none⟩), .int .i64 at_, .slice a kids.length c, .bool true] W fun e w' => e = .returned (.bool r1) ∧ Below W.heap.size W w')
  (hR2 : ∀ W, Below w.heap.size w W → Calls Tryz.prog 163 #[.pointer (some ⟨p, 0, none⟩), .int .i64 at_, .slice a2 thn.length c2, .bool false] W fun e w' => e = .returned (.bool r2) ∧ Below W.heap.size W w')
  (hR3 : ∀ W, Below w.heap.size w W → Calls Tryz.prog 163 #[.pointer (some ⟨p, 0, none⟩), .int .i64 at_, .slice a3 els.length c3, .bool false] W fun e w' => e = .returned (.bool r3) ∧ Below W.heap.size W w') :
  Calls Tryz.prog 162 #[.pointer (some ⟨p, 0, none⟩), .int .i64 at_] w fun e w' => e = .returned (.bool R) ∧ Below w.heap.size w w' := by
 have HO := hid hO
 have HR1 := hid hR1
 have HR2 := hid hR2
 have HR3 := hid hR3
 have hI0 : (0 : Int) ≤ (at_ : Int) := by omega
 have hI1 : (at_ : Int) < (nn : Int) := by omega
 clear hO hR1 hR2 hR3
 go_enter Tryz.func162, Tryz.ntmps162
 go_wp2_with fail
 have hA := heap_alloc_new w (.cells #[.int .i64 8, .int .i64 op, .string (bs name), .int .i64 num, .int .i64 far, .slice a kids.length c, .slice a2 thn.length c2, .slice a3 els.length c3] 40)
 have hB : Below w.heap.size w (w.alloc (.cells #[.int .i64 8, .int .i64 op, .string (bs name), .int .i64 num, .int .i64 far, .slice a kids.length c, .slice a2 thn.length c2, .slice a3 els.length c3] 40)) := (Below.refl _ _).alloc (Nat.le_refl _) _
 generalize w.alloc (.cells #[.int .i64 8, .int .i64 op, .string (bs name), .int .i64 num, .int .i64 far, .slice a kids.length c, .slice a2 thn.length c2, .slice a3 els.length c3] 40) = W at *
 obtain ⟨d0, d1, d2, d3, d4, d5, d6, d7⟩ := cl8 hA
 have HB := hid hB
 have HA := hid hA
 clear hA hB hp1 hc0 hc1 hc2 hc3 hc4 hc5 hc6 hc7
 refine (l1In_any 8 1 11 _).mono ?_
 rintro e w1 ⟨rfl, rfl⟩
 have e1 : inB 8 1 11 = true := by decide
 rw [e1]
 clear e1
 go_wp2_with fail
 refine (l4Wants_any (⟨8, op, name, num, far, kids, thn, els⟩ : LNode) _ _ _ _ ⟨_, _, _, rfl⟩ ⟨_, _, _, rfl⟩ ⟨_, _, _, rfl⟩).mono ?_
 rintro e w2 ⟨rfl, hb⟩
 have e1 : wantsN 8 = (true, 2, false) := by decide
 simp only [wantsV, e1]
 clear e1
 have hA := blk HA.out hb
 have hB := HB.out.trans (hb.mono HB.out.size)
 clear HA HB hb d0 d1 d2 d3 d4 d5 d6 d7
 have HA := hid hA
 have HB := hid hB
 obtain ⟨d0, d1, d2, d3, d4, d5, d6, d7⟩ := cl8 hA
 clear hA hB
 go_wp2_with fail
 (try (rename_i kk hkk; simp only [List.append_eq, List.cons_append, List.nil_append] at hkk))
 refine (isName_any name _ (by omega)).mono ?_
 rintro e w3 ⟨rfl, hb⟩
 have hA := blk HA.out hb
 have hB := HB.out.trans (hb.mono HB.out.size)
 clear HA HB hb d0 d1 d2 d3 d4 d5 d6 d7
 have HA := hid hA
 have HB := hid hB
 obtain ⟨d0, d1, d2, d3, d4, d5, d6, d7⟩ := cl8 hA
 clear hA hB
 obtain ⟨qn, hqn⟩ : ∃ q, isNameL name = q := ⟨_, rfl⟩
 rw [hqn]
 cases qn with
 | false =>
  (try simp only [])
  have HE : Hid (R = false) := by unfold Hid; rw [HO.out]; simp [hqn]
  clear HO
  go_wp2_with fail
  go_ret
  exact ⟨by rw [HE.out]; rfl, HB.out⟩
 | true =>
  (try simp only [])
  by_cases qk : kids.length = 2
  ·have hz1 : (((kids.length : Nat) : Int) == 2) = true := by rw [beq_iff_eq]; omega
   have hz2 : decide (((kids.length : Nat) : Int) = 2) = true := decide_eq_true (by omega)
   have hz6 : (((kids.length : Nat) : Int) != 2) = false := by rw [bne_eq_false_iff_eq]; omega
   have QK : Hid (kids.length = 2) := qk
   clear qk
   by_cases qnum : num = 0
   ·skip
    by_cases qfar : far = 0
    ·skip
     by_cases qop : op = 0
     ·skip
      by_cases qels : els = []
      ·rw [qels] at HR3
       simp only [List.length_nil] at HR3
       by_cases qthn : thn = []
       ·rw [qthn] at HR2
        simp only [List.length_nil] at HR2
        go_wp2_with fail
        (try (rename_i kk hkk; simp only [List.append_eq, List.cons_append, List.nil_append] at hkk))
        refine (HR1.out _ HB.out).mono ?_
        rintro e w4 ⟨rfl, hb⟩
        have hA := blk HA.out hb
        have hB := HB.out.trans (hb.mono HB.out.size)
        clear HA HB hb d0 d1 d2 d3 d4 d5 d6 d7
        have HA := hid hA
        have HB := hid hB
        obtain ⟨d0, d1, d2, d3, d4, d5, d6, d7⟩ := cl8 hA
        clear hA hB
        cases r1 with
        | false =>
         (try simp only [])
         have HE : Hid (R = false) := by unfold Hid; rw [HO.out]; simp []
         clear HO
         go_wp2_with fail
         go_ret
         exact ⟨by rw [HE.out]; rfl, HB.out⟩
        | true =>
         (try simp only [])
         go_wp2_with fail
         refine (HR2.out _ HB.out).mono ?_
         rintro e w5 ⟨rfl, hb⟩
         have hA := blk HA.out hb
         have hB := HB.out.trans (hb.mono HB.out.size)
         clear HA HB hb d0 d1 d2 d3 d4 d5 d6 d7
         have HA := hid hA
         have HB := hid hB
         obtain ⟨d0, d1, d2, d3, d4, d5, d6, d7⟩ := cl8 hA
         clear hA hB
         cases r2 with
         | false =>
          (try simp only [])
          have HE : Hid (R = false) := by unfold Hid; rw [HO.out]; simp []
          clear HO
          go_wp2_with fail
          go_ret
          exact ⟨by rw [HE.out]; rfl, HB.out⟩
         | true =>
          (try simp only [])
          go_wp2_with fail
          refine (HR3.out _ HB.out).mono ?_
          rintro e w6 ⟨rfl, hb⟩
          have hA := blk HA.out hb
          have hB := HB.out.trans (hb.mono HB.out.size)
          clear HA HB hb d0 d1 d2 d3 d4 d5 d6 d7
          have HA := hid hA
          have HB := hid hB
          obtain ⟨d0, d1, d2, d3, d4, d5, d6, d7⟩ := cl8 hA
          clear hA hB
          have HE : Hid (R = r3) := by unfold Hid; rw [HO.out]; simp [hqn, QK.out, qnum, qfar, qop, qels, qthn]
          clear HO
          go_wp2_with fail
          go_ret
          exact ⟨by rw [HE.out]; rfl, HB.out⟩
       ·have hz : 0 < thn.length := List.length_pos_iff.2 qthn
        have hz3 : decide ((0 : Int) < ((thn.length : Nat) : Int)) = true := decide_eq_true (by omega)
        have HE : Hid (R = false) := by unfold Hid; rw [HO.out]; simp [qthn]
        clear HO
        go_wp2_with fail
        go_ret
        exact ⟨by rw [HE.out]; rfl, HB.out⟩
      ·have hz : 0 < els.length := List.length_pos_iff.2 qels
       have hz3 : decide ((0 : Int) < ((els.length : Nat) : Int)) = true := decide_eq_true (by omega)
       have HE : Hid (R = false) := by unfold Hid; rw [HO.out]; simp [qels]
       clear HO
       go_wp2_with fail
       go_ret
       exact ⟨by rw [HE.out]; rfl, HB.out⟩
     ·have hz1 : (op == 0) = false := by simpa using qop
      have hz2 : decide (op = 0) = false := decide_eq_false qop
      have HE : Hid (R = false) := by unfold Hid; rw [HO.out]; simp [qop]
      clear HO
      go_wp2_with fail
      go_ret
      exact ⟨by rw [HE.out]; rfl, HB.out⟩
    ·have hz1 : (far == 0) = false := by simpa using qfar
     have hz2 : decide (far = 0) = false := decide_eq_false qfar
     have HE : Hid (R = false) := by unfold Hid; rw [HO.out]; simp [qfar]
     clear HO
     go_wp2_with fail
     go_ret
     exact ⟨by rw [HE.out]; rfl, HB.out⟩
   ·have hz1 : (num == 0) = false := by simpa using qnum
    have hz2 : decide (num = 0) = false := decide_eq_false qnum
    have HE : Hid (R = false) := by unfold Hid; rw [HO.out]; simp [qnum]
    clear HO
    go_wp2_with fail
    go_ret
    exact ⟨by rw [HE.out]; rfl, HB.out⟩
  ·have hz1 : (((kids.length : Nat) : Int) == 2) = false := by rw [beq_eq_false_iff_ne]; omega
   have hz2 : decide (((kids.length : Nat) : Int) = 2) = false := decide_eq_false (by omega)
   have hz6 : (((kids.length : Nat) : Int) != 2) = true := by rw [bne_iff_ne]; omega
   have QK : Hid (¬ (2 ≤ kids.length ∧ kids.length ≤ 2)) := by unfold Hid; omega
   clear qk
   have HE : Hid (R = false) := by unfold Hid; rw [HO.out]; simp [QK.out]
   clear HO
   go_wp2_with fail
   go_ret
   exact ⟨by rw [HE.out]; rfl, HB.out⟩
end Go.Proofs.YtcecfmdjicjngaaGreatDoor
namespace Go.Proofs.YtcecfmdjicjngaaGreatDoor
open Go.RowKit
set_option linter.unusedVariables false
attribute [local go_sem] bs_size bs_get bs_extract bs_append bs_eq bs_toList
set_option maxHeartbeats 6400000 in
set_option maxRecDepth 100000 in
theorem rgt9 (R : Bool) (p at_ : Nat) (b o cn : Nat) (nn : Nat) (vv vb : Value) (op : Int) (name : List UInt8) (num far : Int) (kids thn els : List Int) (a a2 a3 : Option Addr) (c c2 c3 : Nat) (w : World) (hl : name.length ≤ 1048576) (hk1 : kids.length ≤ 1048576) (hk2 : thn.length ≤ 1048576) (hk3 : els.length ≤ 1048576)
  (r1 r2 r3 : Bool) (hO : R = ((decide (op = 0) && name.isEmpty && decide (num = 0) && decide (far = 0) && decide (1 ≤ kids.length ∧ kids.length ≤ 1)) && r1 && r2 && r3)) (hat : at_ < nn) (hp1 : w.cell? ⟨p, 1, none⟩ = some (.slice (some ⟨b, o, none⟩) nn cn))
  (hc0 : w.cell? ⟨b, o + at_ * 8, none⟩ = some (.int .i64 9))
  (hc1 : w.cell? ⟨b, o + at_ * 8 + 1, none⟩ = some (.int .i64 op))
  (hc2 : w.cell? ⟨b, o + at_ * 8 + 2, none⟩ = some (.string (bs name)))
  (hc3 : w.cell? ⟨b, o + at_ * 8 + 3, none⟩ = some (.int .i64 num))
  (hc4 : w.cell? ⟨b, o + at_ * 8 + 4, none⟩ = some (.int .i64 far))
  (hc5 : w.cell? ⟨b, o + at_ * 8 + 5, none⟩ = some (.slice a kids.length c))
  (hc6 : w.cell? ⟨b, o + at_ * 8 + 6, none⟩ = some (.slice a2 thn.length c2))
  (hc7 : w.cell? ⟨b, o + at_ * 8 + 7, none⟩ = some (.slice a3 els.length c3))
  (hR1 : ∀ W, Below w.heap.size w W → Calls Tryz.prog 163 #[.pointer (some ⟨p, 0, none⟩), .int .i64 at_, .slice a kids.length c, .bool true] W fun e w' => e = .returned (.bool r1) ∧ Below W.heap.size W w')
  (hR2 : ∀ W, Below w.heap.size w W → Calls Tryz.prog 163 #[.pointer (some ⟨p, 0, none⟩), .int .i64 at_, .slice a2 thn.length c2, .bool false] W fun e w' => e = .returned (.bool r2) ∧ Below W.heap.size W w')
  (hR3 : ∀ W, Below w.heap.size w W → Calls Tryz.prog 163 #[.pointer (some ⟨p, 0, none⟩), .int .i64 at_, .slice a3 els.length c3, .bool false] W fun e w' => e = .returned (.bool r3) ∧ Below W.heap.size W w') :
  Calls Tryz.prog 162 #[.pointer (some ⟨p, 0, none⟩), .int .i64 at_] w fun e w' => e = .returned (.bool R) ∧ Below w.heap.size w w' := by
 have HO := hid hO
 have HR1 := hid hR1
 have HR2 := hid hR2
 have HR3 := hid hR3
 have hI0 : (0 : Int) ≤ (at_ : Int) := by omega
 have hI1 : (at_ : Int) < (nn : Int) := by omega
 clear hO hR1 hR2 hR3
 go_enter Tryz.func162, Tryz.ntmps162
 go_wp2_with fail
 have hA := heap_alloc_new w (.cells #[.int .i64 9, .int .i64 op, .string (bs name), .int .i64 num, .int .i64 far, .slice a kids.length c, .slice a2 thn.length c2, .slice a3 els.length c3] 40)
 have hB : Below w.heap.size w (w.alloc (.cells #[.int .i64 9, .int .i64 op, .string (bs name), .int .i64 num, .int .i64 far, .slice a kids.length c, .slice a2 thn.length c2, .slice a3 els.length c3] 40)) := (Below.refl _ _).alloc (Nat.le_refl _) _
 generalize w.alloc (.cells #[.int .i64 9, .int .i64 op, .string (bs name), .int .i64 num, .int .i64 far, .slice a kids.length c, .slice a2 thn.length c2, .slice a3 els.length c3] 40) = W at *
 obtain ⟨d0, d1, d2, d3, d4, d5, d6, d7⟩ := cl8 hA
 have HB := hid hB
 have HA := hid hA
 clear hA hB hp1 hc0 hc1 hc2 hc3 hc4 hc5 hc6 hc7
 refine (l1In_any 9 1 11 _).mono ?_
 rintro e w1 ⟨rfl, rfl⟩
 have e1 : inB 9 1 11 = true := by decide
 rw [e1]
 clear e1
 go_wp2_with fail
 refine (l4Wants_any (⟨9, op, name, num, far, kids, thn, els⟩ : LNode) _ _ _ _ ⟨_, _, _, rfl⟩ ⟨_, _, _, rfl⟩ ⟨_, _, _, rfl⟩).mono ?_
 rintro e w2 ⟨rfl, hb⟩
 have e1 : wantsN 9 = (false, 1, false) := by decide
 simp only [wantsV, e1]
 clear e1
 have hA := blk HA.out hb
 have hB := HB.out.trans (hb.mono HB.out.size)
 clear HA HB hb d0 d1 d2 d3 d4 d5 d6 d7
 have HA := hid hA
 have HB := hid hB
 obtain ⟨d0, d1, d2, d3, d4, d5, d6, d7⟩ := cl8 hA
 clear hA hB
 go_wp2_with fail
 (try (rename_i kk hkk; simp only [List.append_eq, List.cons_append, List.nil_append] at hkk))
 refine (isName_any name _ (by omega)).mono ?_
 rintro e w3 ⟨rfl, hb⟩
 have hA := blk HA.out hb
 have hB := HB.out.trans (hb.mono HB.out.size)
 clear HA HB hb d0 d1 d2 d3 d4 d5 d6 d7
 have HA := hid hA
 have HB := hid hB
 obtain ⟨d0, d1, d2, d3, d4, d5, d6, d7⟩ := cl8 hA
 clear hA hB
 obtain ⟨qn, hqn⟩ : ∃ q, isNameL name = q := ⟨_, rfl⟩
 rw [hqn]
 by_cases qname : name = []
 ·have e1 : qn = false := by rw [← hqn, qname]; exact isNameL_nil
  subst e1
  (try simp only [])
  by_cases qk : kids.length = 1
  ·have hz1 : (((kids.length : Nat) : Int) == 1) = true := by rw [beq_iff_eq]; omega
   have hz2 : decide (((kids.length : Nat) : Int) = 1) = true := decide_eq_true (by omega)
   have hz6 : (((kids.length : Nat) : Int) != 1) = false := by rw [bne_eq_false_iff_eq]; omega
   have QK : Hid (kids.length = 1) := qk
   clear qk
   by_cases qnum : num = 0
   ·skip
    by_cases qfar : far = 0
    ·skip
     by_cases qop : op = 0
     ·skip
      go_wp2_with fail
      (try (rename_i kk hkk; simp only [List.append_eq, List.cons_append, List.nil_append] at hkk))
      refine (HR1.out _ HB.out).mono ?_
      rintro e w4 ⟨rfl, hb⟩
      have hA := blk HA.out hb
      have hB := HB.out.trans (hb.mono HB.out.size)
      clear HA HB hb d0 d1 d2 d3 d4 d5 d6 d7
      have HA := hid hA
      have HB := hid hB
      obtain ⟨d0, d1, d2, d3, d4, d5, d6, d7⟩ := cl8 hA
      clear hA hB
      cases r1 with
      | false =>
       (try simp only [])
       have HE : Hid (R = false) := by unfold Hid; rw [HO.out]; simp []
       clear HO
       go_wp2_with fail
       go_ret
       exact ⟨by rw [HE.out]; rfl, HB.out⟩
      | true =>
       (try simp only [])
       go_wp2_with fail
       refine (HR2.out _ HB.out).mono ?_
       rintro e w5 ⟨rfl, hb⟩
       have hA := blk HA.out hb
       have hB := HB.out.trans (hb.mono HB.out.size)
       clear HA HB hb d0 d1 d2 d3 d4 d5 d6 d7
       have HA := hid hA
       have HB := hid hB
       obtain ⟨d0, d1, d2, d3, d4, d5, d6, d7⟩ := cl8 hA
       clear hA hB
       cases r2 with
       | false =>
        (try simp only [])
        have HE : Hid (R = false) := by unfold Hid; rw [HO.out]; simp []
        clear HO
        go_wp2_with fail
        go_ret
        exact ⟨by rw [HE.out]; rfl, HB.out⟩
       | true =>
        (try simp only [])
        go_wp2_with fail
        refine (HR3.out _ HB.out).mono ?_
        rintro e w6 ⟨rfl, hb⟩
        have hA := blk HA.out hb
        have hB := HB.out.trans (hb.mono HB.out.size)
        clear HA HB hb d0 d1 d2 d3 d4 d5 d6 d7
        have HA := hid hA
        have HB := hid hB
        obtain ⟨d0, d1, d2, d3, d4, d5, d6, d7⟩ := cl8 hA
        clear hA hB
        have HE : Hid (R = r3) := by unfold Hid; rw [HO.out]; simp [qname, QK.out, qnum, qfar, qop]
        clear HO
        go_wp2_with fail
        go_ret
        exact ⟨by rw [HE.out]; rfl, HB.out⟩
     ·have hz1 : (op == 0) = false := by simpa using qop
      have hz2 : decide (op = 0) = false := decide_eq_false qop
      have HE : Hid (R = false) := by unfold Hid; rw [HO.out]; simp [qop]
      clear HO
      go_wp2_with fail
      go_ret
      exact ⟨by rw [HE.out]; rfl, HB.out⟩
    ·have hz1 : (far == 0) = false := by simpa using qfar
     have hz2 : decide (far = 0) = false := decide_eq_false qfar
     have HE : Hid (R = false) := by unfold Hid; rw [HO.out]; simp [qfar]
     clear HO
     go_wp2_with fail
     go_ret
     exact ⟨by rw [HE.out]; rfl, HB.out⟩
   ·have hz1 : (num == 0) = false := by simpa using qnum
    have hz2 : decide (num = 0) = false := decide_eq_false qnum
    have HE : Hid (R = false) := by unfold Hid; rw [HO.out]; simp [qnum]
    clear HO
    go_wp2_with fail
    go_ret
    exact ⟨by rw [HE.out]; rfl, HB.out⟩
  ·have hz1 : (((kids.length : Nat) : Int) == 1) = false := by rw [beq_eq_false_iff_ne]; omega
   have hz2 : decide (((kids.length : Nat) : Int) = 1) = false := decide_eq_false (by omega)
   have hz6 : (((kids.length : Nat) : Int) != 1) = true := by rw [bne_iff_ne]; omega
   have QK : Hid (¬ (1 ≤ kids.length ∧ kids.length ≤ 1)) := by unfold Hid; omega
   clear qk
   have HE : Hid (R = false) := by unfold Hid; rw [HO.out]; simp [QK.out]
   clear HO
   go_wp2_with fail
   go_ret
   exact ⟨by rw [HE.out]; rfl, HB.out⟩
 ·have hz1 : (name == []) = false := by simpa using qname
  have hz2 : decide (name = []) = false := decide_eq_false qname
  cases qn with
  | false =>
   (try simp only [])
   have HE : Hid (R = false) := by unfold Hid; rw [HO.out]; simp [qname]
   clear HO
   go_wp2_with fail
   go_ret
   exact ⟨by rw [HE.out]; rfl, HB.out⟩
  | true =>
   (try simp only [])
   have HE : Hid (R = false) := by unfold Hid; rw [HO.out]; simp [qname]
   clear HO
   go_wp2_with fail
   go_ret
   exact ⟨by rw [HE.out]; rfl, HB.out⟩
set_option maxHeartbeats 6400000 in
set_option maxRecDepth 100000 in
theorem rgt10 (R : Bool) (p at_ : Nat) (b o cn : Nat) (nn : Nat) (vv vb : Value) (op : Int) (name : List UInt8) (num far : Int) (kids thn els : List Int) (a a2 a3 : Option Addr) (c c2 c3 : Nat) (w : World) (hl : name.length ≤ 1048576) (hk1 : kids.length ≤ 1048576) (hk2 : thn.length ≤ 1048576) (hk3 : els.length ≤ 1048576)
  (r1 r2 r3 : Bool) (hO : R = ((decide (op = 0) && isNameL name && inB num 0 65535 && inB far 0 65535 && kids.isEmpty && els.isEmpty) && r1 && r2 && r3)) (hat : at_ < nn) (hp1 : w.cell? ⟨p, 1, none⟩ = some (.slice (some ⟨b, o, none⟩) nn cn))
  (hc0 : w.cell? ⟨b, o + at_ * 8, none⟩ = some (.int .i64 10))
  (hc1 : w.cell? ⟨b, o + at_ * 8 + 1, none⟩ = some (.int .i64 op))
  (hc2 : w.cell? ⟨b, o + at_ * 8 + 2, none⟩ = some (.string (bs name)))
  (hc3 : w.cell? ⟨b, o + at_ * 8 + 3, none⟩ = some (.int .i64 num))
  (hc4 : w.cell? ⟨b, o + at_ * 8 + 4, none⟩ = some (.int .i64 far))
  (hc5 : w.cell? ⟨b, o + at_ * 8 + 5, none⟩ = some (.slice a kids.length c))
  (hc6 : w.cell? ⟨b, o + at_ * 8 + 6, none⟩ = some (.slice a2 thn.length c2))
  (hc7 : w.cell? ⟨b, o + at_ * 8 + 7, none⟩ = some (.slice a3 els.length c3))
  (hR1 : ∀ W, Below w.heap.size w W → Calls Tryz.prog 163 #[.pointer (some ⟨p, 0, none⟩), .int .i64 at_, .slice a kids.length c, .bool true] W fun e w' => e = .returned (.bool r1) ∧ Below W.heap.size W w')
  (hR2 : ∀ W, Below w.heap.size w W → Calls Tryz.prog 163 #[.pointer (some ⟨p, 0, none⟩), .int .i64 at_, .slice a2 thn.length c2, .bool false] W fun e w' => e = .returned (.bool r2) ∧ Below W.heap.size W w')
  (hR3 : ∀ W, Below w.heap.size w W → Calls Tryz.prog 163 #[.pointer (some ⟨p, 0, none⟩), .int .i64 at_, .slice a3 els.length c3, .bool false] W fun e w' => e = .returned (.bool r3) ∧ Below W.heap.size W w') :
  Calls Tryz.prog 162 #[.pointer (some ⟨p, 0, none⟩), .int .i64 at_] w fun e w' => e = .returned (.bool R) ∧ Below w.heap.size w w' := by
 have HO := hid hO
 have HR1 := hid hR1
 have HR2 := hid hR2
 have HR3 := hid hR3
 have hI0 : (0 : Int) ≤ (at_ : Int) := by omega
 have hI1 : (at_ : Int) < (nn : Int) := by omega
 clear hO hR1 hR2 hR3
 go_enter Tryz.func162, Tryz.ntmps162
 go_wp2_with fail
 have hA := heap_alloc_new w (.cells #[.int .i64 10, .int .i64 op, .string (bs name), .int .i64 num, .int .i64 far, .slice a kids.length c, .slice a2 thn.length c2, .slice a3 els.length c3] 40)
 have hB : Below w.heap.size w (w.alloc (.cells #[.int .i64 10, .int .i64 op, .string (bs name), .int .i64 num, .int .i64 far, .slice a kids.length c, .slice a2 thn.length c2, .slice a3 els.length c3] 40)) := (Below.refl _ _).alloc (Nat.le_refl _) _
 generalize w.alloc (.cells #[.int .i64 10, .int .i64 op, .string (bs name), .int .i64 num, .int .i64 far, .slice a kids.length c, .slice a2 thn.length c2, .slice a3 els.length c3] 40) = W at *
 obtain ⟨d0, d1, d2, d3, d4, d5, d6, d7⟩ := cl8 hA
 have HB := hid hB
 have HA := hid hA
 clear hA hB hp1 hc0 hc1 hc2 hc3 hc4 hc5 hc6 hc7
 refine (l1In_any 10 1 11 _).mono ?_
 rintro e w1 ⟨rfl, rfl⟩
 have e1 : inB 10 1 11 = true := by decide
 rw [e1]
 clear e1
 go_wp2_with fail
 refine (l4Wants_any (⟨10, op, name, num, far, kids, thn, els⟩ : LNode) _ _ _ _ ⟨_, _, _, rfl⟩ ⟨_, _, _, rfl⟩ ⟨_, _, _, rfl⟩).mono ?_
 rintro e w2 ⟨rfl, hb⟩
 have e1 : wantsN 10 = (true, 0, true) := by decide
 simp only [wantsV, e1]
 clear e1
 have hA := blk HA.out hb
 have hB := HB.out.trans (hb.mono HB.out.size)
 clear HA HB hb d0 d1 d2 d3 d4 d5 d6 d7
 have HA := hid hA
 have HB := hid hB
 obtain ⟨d0, d1, d2, d3, d4, d5, d6, d7⟩ := cl8 hA
 clear hA hB
 go_wp2_with fail
 (try (rename_i kk hkk; simp only [List.append_eq, List.cons_append, List.nil_append] at hkk))
 refine (isName_any name _ (by omega)).mono ?_
 rintro e w3 ⟨rfl, hb⟩
 have hA := blk HA.out hb
 have hB := HB.out.trans (hb.mono HB.out.size)
 clear HA HB hb d0 d1 d2 d3 d4 d5 d6 d7
 have HA := hid hA
 have HB := hid hB
 obtain ⟨d0, d1, d2, d3, d4, d5, d6, d7⟩ := cl8 hA
 clear hA hB
 obtain ⟨qn, hqn⟩ : ∃ q, isNameL name = q := ⟨_, rfl⟩
 rw [hqn]
 cases qn with
 | false =>
  (try simp only [])
  have HE : Hid (R = false) := by unfold Hid; rw [HO.out]; simp [hqn]
  clear HO
  go_wp2_with fail
  go_ret
  exact ⟨by rw [HE.out]; rfl, HB.out⟩
 | true =>
  (try simp only [])
  by_cases qk : kids.length = 0
  ·have hz1 : (((kids.length : Nat) : Int) == 0) = true := by rw [beq_iff_eq]; omega
   have hz2 : decide (((kids.length : Nat) : Int) = 0) = true := decide_eq_true (by omega)
   have hz6 : (((kids.length : Nat) : Int) != 0) = false := by rw [bne_eq_false_iff_eq]; omega
   have QK : Hid (kids = []) := List.length_eq_zero_iff.1 qk
   clear qk
   go_wp2_with fail
   (try (rename_i kk hkk; simp only [List.append_eq, List.cons_append, List.nil_append] at hkk))
   refine (l1Word_any num _).mono ?_
   rintro e w' ⟨rfl, rfl⟩
   obtain ⟨q, qnum⟩ : ∃ q, inB num 0 65535 = q := ⟨_, rfl⟩
   rw [qnum]
   cases q with
   | false =>
    (try simp only [])
    have HE : Hid (R = false) := by unfold Hid; rw [HO.out]; simp [qnum]
    clear HO
    go_wp2_with fail
    go_ret
    exact ⟨by rw [HE.out]; rfl, HB.out⟩
   | true =>
    (try simp only [])
    go_wp2_with fail
    (try (rename_i kk hkk; simp only [List.append_eq, List.cons_append, List.nil_append] at hkk))
    refine (l1Word_any far _).mono ?_
    rintro e w' ⟨rfl, rfl⟩
    obtain ⟨q, qfar⟩ : ∃ q, inB far 0 65535 = q := ⟨_, rfl⟩
    rw [qfar]
    cases q with
    | false =>
     (try simp only [])
     have HE : Hid (R = false) := by unfold Hid; rw [HO.out]; simp [qfar]
     clear HO
     go_wp2_with fail
     go_ret
     exact ⟨by rw [HE.out]; rfl, HB.out⟩
    | true =>
     (try simp only [])
     by_cases qop : op = 0
     ·skip
      by_cases qels : els = []
      ·rw [qels] at HR3
       simp only [List.length_nil] at HR3
       go_wp2_with fail
       (try (rename_i kk hkk; simp only [List.append_eq, List.cons_append, List.nil_append] at hkk))
       refine (HR1.out _ HB.out).mono ?_
       rintro e w4 ⟨rfl, hb⟩
       have hA := blk HA.out hb
       have hB := HB.out.trans (hb.mono HB.out.size)
       clear HA HB hb d0 d1 d2 d3 d4 d5 d6 d7
       have HA := hid hA
       have HB := hid hB
       obtain ⟨d0, d1, d2, d3, d4, d5, d6, d7⟩ := cl8 hA
       clear hA hB
       cases r1 with
       | false =>
        (try simp only [])
        have HE : Hid (R = false) := by unfold Hid; rw [HO.out]; simp []
        clear HO
        go_wp2_with fail
        go_ret
        exact ⟨by rw [HE.out]; rfl, HB.out⟩
       | true =>
        (try simp only [])
        go_wp2_with fail
        refine (HR2.out _ HB.out).mono ?_
        rintro e w5 ⟨rfl, hb⟩
        have hA := blk HA.out hb
        have hB := HB.out.trans (hb.mono HB.out.size)
        clear HA HB hb d0 d1 d2 d3 d4 d5 d6 d7
        have HA := hid hA
        have HB := hid hB
        obtain ⟨d0, d1, d2, d3, d4, d5, d6, d7⟩ := cl8 hA
        clear hA hB
        cases r2 with
        | false =>
         (try simp only [])
         have HE : Hid (R = false) := by unfold Hid; rw [HO.out]; simp []
         clear HO
         go_wp2_with fail
         go_ret
         exact ⟨by rw [HE.out]; rfl, HB.out⟩
        | true =>
         (try simp only [])
         go_wp2_with fail
         refine (HR3.out _ HB.out).mono ?_
         rintro e w6 ⟨rfl, hb⟩
         have hA := blk HA.out hb
         have hB := HB.out.trans (hb.mono HB.out.size)
         clear HA HB hb d0 d1 d2 d3 d4 d5 d6 d7
         have HA := hid hA
         have HB := hid hB
         obtain ⟨d0, d1, d2, d3, d4, d5, d6, d7⟩ := cl8 hA
         clear hA hB
         have HE : Hid (R = r3) := by unfold Hid; rw [HO.out]; simp [hqn, QK.out, qnum, qfar, qop, qels]
         clear HO
         go_wp2_with fail
         go_ret
         exact ⟨by rw [HE.out]; rfl, HB.out⟩
      ·have hz : 0 < els.length := List.length_pos_iff.2 qels
       have hz3 : decide ((0 : Int) < ((els.length : Nat) : Int)) = true := decide_eq_true (by omega)
       have HE : Hid (R = false) := by unfold Hid; rw [HO.out]; simp [qels]
       clear HO
       go_wp2_with fail
       go_ret
       exact ⟨by rw [HE.out]; rfl, HB.out⟩
     ·have hz1 : (op == 0) = false := by simpa using qop
      have hz2 : decide (op = 0) = false := decide_eq_false qop
      have HE : Hid (R = false) := by unfold Hid; rw [HO.out]; simp [qop]
      clear HO
      go_wp2_with fail
      go_ret
      exact ⟨by rw [HE.out]; rfl, HB.out⟩
  ·have hz1 : (((kids.length : Nat) : Int) == 0) = false := by rw [beq_eq_false_iff_ne]; omega
   have hz2 : decide (((kids.length : Nat) : Int) = 0) = false := decide_eq_false (by omega)
   have hz6 : (((kids.length : Nat) : Int) != 0) = true := by rw [bne_iff_ne]; omega
   have QK : Hid (¬ (kids = [])) := by unfold Hid; rintro rfl; exact qk rfl
   clear qk
   have HE : Hid (R = false) := by unfold Hid; rw [HO.out]; simp [QK.out]
   clear HO
   go_wp2_with fail
   go_ret
   exact ⟨by rw [HE.out]; rfl, HB.out⟩
set_option maxHeartbeats 6400000 in
set_option maxRecDepth 100000 in
theorem rgt11 (R : Bool) (p at_ : Nat) (b o cn : Nat) (nn : Nat) (vv vb : Value) (op : Int) (name : List UInt8) (num far : Int) (kids thn els : List Int) (a a2 a3 : Option Addr) (c c2 c3 : Nat) (w : World) (hl : name.length ≤ 1048576) (hk1 : kids.length ≤ 1048576) (hk2 : thn.length ≤ 1048576) (hk3 : els.length ≤ 1048576)
  (r1 r2 r3 : Bool) (hO : R = ((inB op 1 4 && isNameL name && decide (num = 0) && decide (far = 0) && decide (1 ≤ kids.length ∧ kids.length ≤ 3) && thn.isEmpty && els.isEmpty) && r1 && r2 && r3)) (hat : at_ < nn) (hp1 : w.cell? ⟨p, 1, none⟩ = some (.slice (some ⟨b, o, none⟩) nn cn))
  (hc0 : w.cell? ⟨b, o + at_ * 8, none⟩ = some (.int .i64 11))
  (hc1 : w.cell? ⟨b, o + at_ * 8 + 1, none⟩ = some (.int .i64 op))
  (hc2 : w.cell? ⟨b, o + at_ * 8 + 2, none⟩ = some (.string (bs name)))
  (hc3 : w.cell? ⟨b, o + at_ * 8 + 3, none⟩ = some (.int .i64 num))
  (hc4 : w.cell? ⟨b, o + at_ * 8 + 4, none⟩ = some (.int .i64 far))
  (hc5 : w.cell? ⟨b, o + at_ * 8 + 5, none⟩ = some (.slice a kids.length c))
  (hc6 : w.cell? ⟨b, o + at_ * 8 + 6, none⟩ = some (.slice a2 thn.length c2))
  (hc7 : w.cell? ⟨b, o + at_ * 8 + 7, none⟩ = some (.slice a3 els.length c3))
  (hR1 : ∀ W, Below w.heap.size w W → Calls Tryz.prog 163 #[.pointer (some ⟨p, 0, none⟩), .int .i64 at_, .slice a kids.length c, .bool true] W fun e w' => e = .returned (.bool r1) ∧ Below W.heap.size W w')
  (hR2 : ∀ W, Below w.heap.size w W → Calls Tryz.prog 163 #[.pointer (some ⟨p, 0, none⟩), .int .i64 at_, .slice a2 thn.length c2, .bool false] W fun e w' => e = .returned (.bool r2) ∧ Below W.heap.size W w')
  (hR3 : ∀ W, Below w.heap.size w W → Calls Tryz.prog 163 #[.pointer (some ⟨p, 0, none⟩), .int .i64 at_, .slice a3 els.length c3, .bool false] W fun e w' => e = .returned (.bool r3) ∧ Below W.heap.size W w') :
  Calls Tryz.prog 162 #[.pointer (some ⟨p, 0, none⟩), .int .i64 at_] w fun e w' => e = .returned (.bool R) ∧ Below w.heap.size w w' := by
 have HO := hid hO
 have HR1 := hid hR1
 have HR2 := hid hR2
 have HR3 := hid hR3
 have hI0 : (0 : Int) ≤ (at_ : Int) := by omega
 have hI1 : (at_ : Int) < (nn : Int) := by omega
 clear hO hR1 hR2 hR3
 go_enter Tryz.func162, Tryz.ntmps162
 go_wp2_with fail
 have hA := heap_alloc_new w (.cells #[.int .i64 11, .int .i64 op, .string (bs name), .int .i64 num, .int .i64 far, .slice a kids.length c, .slice a2 thn.length c2, .slice a3 els.length c3] 40)
 have hB : Below w.heap.size w (w.alloc (.cells #[.int .i64 11, .int .i64 op, .string (bs name), .int .i64 num, .int .i64 far, .slice a kids.length c, .slice a2 thn.length c2, .slice a3 els.length c3] 40)) := (Below.refl _ _).alloc (Nat.le_refl _) _
 generalize w.alloc (.cells #[.int .i64 11, .int .i64 op, .string (bs name), .int .i64 num, .int .i64 far, .slice a kids.length c, .slice a2 thn.length c2, .slice a3 els.length c3] 40) = W at *
 obtain ⟨d0, d1, d2, d3, d4, d5, d6, d7⟩ := cl8 hA
 have HB := hid hB
 have HA := hid hA
 clear hA hB hp1 hc0 hc1 hc2 hc3 hc4 hc5 hc6 hc7
 refine (l1In_any 11 1 11 _).mono ?_
 rintro e w1 ⟨rfl, rfl⟩
 have e1 : inB 11 1 11 = true := by decide
 rw [e1]
 clear e1
 go_wp2_with fail
 refine (l4Wants_any (⟨11, op, name, num, far, kids, thn, els⟩ : LNode) _ _ _ _ ⟨_, _, _, rfl⟩ ⟨_, _, _, rfl⟩ ⟨_, _, _, rfl⟩).mono ?_
 rintro e w2 ⟨rfl, hb⟩
 have e1 : wantsN 11 = (true, -1, false) := by decide
 simp only [wantsV, e1]
 clear e1
 have hA := blk HA.out hb
 have hB := HB.out.trans (hb.mono HB.out.size)
 clear HA HB hb d0 d1 d2 d3 d4 d5 d6 d7
 have HA := hid hA
 have HB := hid hB
 obtain ⟨d0, d1, d2, d3, d4, d5, d6, d7⟩ := cl8 hA
 clear hA hB
 go_wp2_with fail
 (try (rename_i kk hkk; simp only [List.append_eq, List.cons_append, List.nil_append] at hkk))
 refine (isName_any name _ (by omega)).mono ?_
 rintro e w3 ⟨rfl, hb⟩
 have hA := blk HA.out hb
 have hB := HB.out.trans (hb.mono HB.out.size)
 clear HA HB hb d0 d1 d2 d3 d4 d5 d6 d7
 have HA := hid hA
 have HB := hid hB
 obtain ⟨d0, d1, d2, d3, d4, d5, d6, d7⟩ := cl8 hA
 clear hA hB
 obtain ⟨qn, hqn⟩ : ∃ q, isNameL name = q := ⟨_, rfl⟩
 rw [hqn]
 cases qn with
 | false =>
  (try simp only [])
  have HE : Hid (R = false) := by unfold Hid; rw [HO.out]; simp [hqn]
  clear HO
  go_wp2_with fail
  go_ret
  exact ⟨by rw [HE.out]; rfl, HB.out⟩
 | true =>
  (try simp only [])
  go_wp2_with fail
  (try (rename_i kk hkk; simp only [List.append_eq, List.cons_append, List.nil_append] at hkk))
  refine (l1In_any (kids.length : Int) 1 3 _).mono ?_
  rintro e w' ⟨rfl, rfl⟩
  obtain ⟨q, qk⟩ : ∃ q, inB (kids.length : Int) 1 3 = q := ⟨_, rfl⟩
  rw [qk]
  cases q with
  | false =>
   (try simp only [])
   have QK : Hid (¬ (1 ≤ kids.length ∧ kids.length ≤ 3)) := by unfold Hid; have := inB_no.1 qk; omega
   have HE : Hid (R = false) := by unfold Hid; rw [HO.out]; simp [QK.out]
   clear HO
   go_wp2_with fail
   go_ret
   exact ⟨by rw [HE.out]; rfl, HB.out⟩
  | true =>
   (try simp only [])
   have QK : Hid (1 ≤ kids.length ∧ kids.length ≤ 3) := by unfold Hid; have := inB_iff.1 qk; omega
   by_cases qnum : num = 0
   ·skip
    by_cases qfar : far = 0
    ·skip
     go_wp2_with fail
     (try (rename_i kk hkk; simp only [List.append_eq, List.cons_append, List.nil_append] at hkk))
     refine (l1In_any op 1 4 _).mono ?_
     rintro e w' ⟨rfl, rfl⟩
     obtain ⟨q, qop⟩ : ∃ q, inB op 1 4 = q := ⟨_, rfl⟩
     rw [qop]
     cases q with
     | false =>
      (try simp only [])
      have HE : Hid (R = false) := by unfold Hid; rw [HO.out]; simp [qop]
      clear HO
      go_wp2_with fail
      go_ret
      exact ⟨by rw [HE.out]; rfl, HB.out⟩
     | true =>
      (try simp only [])
      by_cases qels : els = []
      ·rw [qels] at HR3
       simp only [List.length_nil] at HR3
       by_cases qthn : thn = []
       ·rw [qthn] at HR2
        simp only [List.length_nil] at HR2
        go_wp2_with fail
        (try (rename_i kk hkk; simp only [List.append_eq, List.cons_append, List.nil_append] at hkk))
        refine (HR1.out _ HB.out).mono ?_
        rintro e w4 ⟨rfl, hb⟩
        have hA := blk HA.out hb
        have hB := HB.out.trans (hb.mono HB.out.size)
        clear HA HB hb d0 d1 d2 d3 d4 d5 d6 d7
        have HA := hid hA
        have HB := hid hB
        obtain ⟨d0, d1, d2, d3, d4, d5, d6, d7⟩ := cl8 hA
        clear hA hB
        cases r1 with
        | false =>
         (try simp only [])
         have HE : Hid (R = false) := by unfold Hid; rw [HO.out]; simp []
         clear HO
         go_wp2_with fail
         go_ret
         exact ⟨by rw [HE.out]; rfl, HB.out⟩
        | true =>
         (try simp only [])
         go_wp2_with fail
         refine (HR2.out _ HB.out).mono ?_
         rintro e w5 ⟨rfl, hb⟩
         have hA := blk HA.out hb
         have hB := HB.out.trans (hb.mono HB.out.size)
         clear HA HB hb d0 d1 d2 d3 d4 d5 d6 d7
         have HA := hid hA
         have HB := hid hB
         obtain ⟨d0, d1, d2, d3, d4, d5, d6, d7⟩ := cl8 hA
         clear hA hB
         cases r2 with
         | false =>
          (try simp only [])
          have HE : Hid (R = false) := by unfold Hid; rw [HO.out]; simp []
          clear HO
          go_wp2_with fail
          go_ret
          exact ⟨by rw [HE.out]; rfl, HB.out⟩
         | true =>
          (try simp only [])
          go_wp2_with fail
          refine (HR3.out _ HB.out).mono ?_
          rintro e w6 ⟨rfl, hb⟩
          have hA := blk HA.out hb
          have hB := HB.out.trans (hb.mono HB.out.size)
          clear HA HB hb d0 d1 d2 d3 d4 d5 d6 d7
          have HA := hid hA
          have HB := hid hB
          obtain ⟨d0, d1, d2, d3, d4, d5, d6, d7⟩ := cl8 hA
          clear hA hB
          have HE : Hid (R = r3) := by unfold Hid; rw [HO.out]; simp [hqn, QK.out, qnum, qfar, qop, qels, qthn]
          clear HO
          go_wp2_with fail
          go_ret
          exact ⟨by rw [HE.out]; rfl, HB.out⟩
       ·have hz : 0 < thn.length := List.length_pos_iff.2 qthn
        have hz3 : decide ((0 : Int) < ((thn.length : Nat) : Int)) = true := decide_eq_true (by omega)
        have HE : Hid (R = false) := by unfold Hid; rw [HO.out]; simp [qthn]
        clear HO
        go_wp2_with fail
        go_ret
        exact ⟨by rw [HE.out]; rfl, HB.out⟩
      ·have hz : 0 < els.length := List.length_pos_iff.2 qels
       have hz3 : decide ((0 : Int) < ((els.length : Nat) : Int)) = true := decide_eq_true (by omega)
       have HE : Hid (R = false) := by unfold Hid; rw [HO.out]; simp [qels]
       clear HO
       go_wp2_with fail
       go_ret
       exact ⟨by rw [HE.out]; rfl, HB.out⟩
    ·have hz1 : (far == 0) = false := by simpa using qfar
     have hz2 : decide (far = 0) = false := decide_eq_false qfar
     have HE : Hid (R = false) := by unfold Hid; rw [HO.out]; simp [qfar]
     clear HO
     go_wp2_with fail
     go_ret
     exact ⟨by rw [HE.out]; rfl, HB.out⟩
   ·have hz1 : (num == 0) = false := by simpa using qnum
    have hz2 : decide (num = 0) = false := decide_eq_false qnum
    have HE : Hid (R = false) := by unfold Hid; rw [HO.out]; simp [qnum]
    clear HO
    go_wp2_with fail
    go_ret
    exact ⟨by rw [HE.out]; rfl, HB.out⟩
end Go.Proofs.YtcecfmdjicjngaaGreatDoor
namespace Go.Proofs.YtcecfmdjicjngaaGreatDoor
open Go.RowKit
set_option linter.unusedVariables false
attribute [local go_sem] bs_size bs_get bs_extract bs_append bs_eq bs_toList
set_option maxHeartbeats 3200000 in
set_option maxRecDepth 100000 in
theorem rgt0 (R : Bool) (p at_ : Nat) (b o cn : Nat) (nn : Nat) (K op : Int) (name : List UInt8) (num far : Int) (kids thn els : List Int) (a a2 a3 : Option Addr) (c c2 c3 : Nat) (w : World) (hK : inB K 1 11 = false) (hR : R = false)
  (hat : at_ < nn) (hp1 : w.cell? ⟨p, 1, none⟩ = some (.slice (some ⟨b, o, none⟩) nn cn))
  (hc : NodeCells w b (o + at_ * 8) ⟨K, op, name, num, far, kids, thn, els⟩ (.slice a kids.length c) (.slice a2 thn.length c2) (.slice a3 els.length c3)) :
  Calls Tryz.prog 162 #[.pointer (some ⟨p, 0, none⟩), .int .i64 at_] w fun e w' => e = .returned (.bool R) ∧ Below w.heap.size w w' := by
 obtain ⟨d0, d1, d2, d3, d4, d5, d6, d7⟩ := hc
 have HW0 : Hid (∀ w, Calls Tryz.prog 161 #[.int .i64 K, .int .i64 1, .int .i64 11] w fun e w' => e = .returned (.bool false) ∧ w' = w) := fun w => by have h := l1In_any K 1 11 w; rwa [hK] at h
 have HR : Hid (R = false) := hR
 have hI0 : (0 : Int) ≤ (at_ : Int) := by omega
 have hI1 : (at_ : Int) < (nn : Int) := by omega
 clear hK hR
 simp only at d0 d1 d2 d3 d4 d5 d6 d7
 go_enter Tryz.func162, Tryz.ntmps162
 go_wp2_with fail
 have hB : Below w.heap.size w (w.alloc (.cells #[.int .i64 K, .int .i64 op, .string (bs name), .int .i64 num, .int .i64 far, .slice a kids.length c, .slice a2 thn.length c2, .slice a3 els.length c3] 40)) := (Below.refl _ _).alloc (Nat.le_refl _) _
 generalize w.alloc (.cells #[.int .i64 K, .int .i64 op, .string (bs name), .int .i64 num, .int .i64 far, .slice a kids.length c, .slice a2 thn.length c2, .slice a3 els.length c3] 40) = W at *
 refine (HW0.out _).mono ?_
 rintro e w1 ⟨rfl, rfl⟩
 go_wp2_with fail
 go_ret
 exact ⟨by rw [HR.out]; rfl, hB⟩
set_option maxHeartbeats 3200000 in
theorem l4Right_any (lo p : Nat) (vv vn vb : Value) (T : LTree) (k : Nat) (w : World) (h : TreeP lo w p vv vn vb T) (hS : Sized 1048576 T) (hn : T.nodes.length ≤ 200) (hk : k < T.nodes.length) :
  Calls Tryz.prog 162 #[.pointer (some ⟨p, 0, none⟩), .int .i64 k] w fun e w' => e = .returned (.bool (rightB T.nodes k)) ∧ Below w.heap.size w w' := by
 obtain ⟨an, cn, rfl, _, hhn⟩ := id h.tree.nodes
 obtain ⟨b, o, rfl, _, hc2⟩ := hhn (by intro e; rw [e] at hk; simp at hk)
 obtain ⟨y, hy⟩ : ∃ y, T.nodes[k]? = some y := ⟨T.nodes[k], List.getElem?_eq_getElem hk⟩
 obtain ⟨vk, vt, ve, hcs, hvs⟩ := hc2 k y hy
 have hsz := hS.node y (List.mem_of_getElem? hy)
 have hgd : T.nodes.getD k default = y := by rw [List.getD_eq_getElem?_getD, hy]; rfl
 have hR : ∀ (v : Value) (l : List Int) (e : Bool), IntsV lo w v l → l.length ≤ 1048576 → ∀ W, Below w.heap.size w W → Calls Tryz.prog 163 #[.pointer (some ⟨p, 0, none⟩), .int .i64 k, v, .bool e] W fun e' w' => e' = .returned (.bool (refsB T.nodes k l e)) ∧ Below W.heap.size W w' :=
  fun v l e hv hl W hb => l4Refs_any lo p _ _ _ v T k l e lo W (h.below hb) (by omega) hn (hv.below hb) hl
 have h1 := hR vk y.kids true hvs.kids hsz.2.1
 have h2 := hR vt y.thn false hvs.thn hsz.2.2.1
 have h3 := hR ve y.els false hvs.els hsz.2.2.2
 have hO : rightB T.nodes k = (ownB y && refsB T.nodes k y.kids true && refsB T.nodes k y.thn false && refsB T.nodes k y.els false) := by rw [rightB_eq, hgd]
 obtain ⟨ak, ck, rfl, _⟩ := id hvs.kids
 obtain ⟨at2, ct, rfl, _⟩ := id hvs.thn
 obtain ⟨ae, ce, rfl, _⟩ := id hvs.els
 obtain ⟨K, op, name, num, far, kids, thn, els⟩ := y
 have hcs2 := hcs
 obtain ⟨d0, d1, d2, d3, d4, d5, d6, d7⟩ := hcs
 by_cases hK : inB K 1 11 = true
 ·have hh := inB_iff.1 hK
  have : K = 1 ∨ K = 2 ∨ K = 3 ∨ K = 4 ∨ K = 5 ∨ K = 6 ∨ K = 7 ∨ K = 8 ∨ K = 9 ∨ K = 10 ∨ K = 11 := by omega
  rcases this with rfl | rfl | rfl | rfl | rfl | rfl | rfl | rfl | rfl | rfl | rfl
  ·exact rgt1 _ p k b o cn T.nodes.length vv vb op name num far kids thn els ak at2 ae ck ct ce w hsz.1 hsz.2.1 hsz.2.2.1 hsz.2.2.2 _ _ _ (by rw [hO, ownK1]) hk h.c1 d0 d1 d2 d3 d4 d5 d6 d7 h1 h2 h3
  ·exact rgt2 _ p k b o cn T.nodes.length vv vb op name num far kids thn els ak at2 ae ck ct ce w hsz.1 hsz.2.1 hsz.2.2.1 hsz.2.2.2 _ _ _ (by rw [hO, ownK2]) hk h.c1 d0 d1 d2 d3 d4 d5 d6 d7 h1 h2 h3
  ·exact rgt3 _ p k b o cn T.nodes.length vv vb op name num far kids thn els ak at2 ae ck ct ce w hsz.1 hsz.2.1 hsz.2.2.1 hsz.2.2.2 _ _ _ (by rw [hO, ownK3]) hk h.c1 d0 d1 d2 d3 d4 d5 d6 d7 h1 h2 h3
  ·exact rgt4 _ p k b o cn T.nodes.length vv vb op name num far kids thn els ak at2 ae ck ct ce w hsz.1 hsz.2.1 hsz.2.2.1 hsz.2.2.2 _ _ _ (by rw [hO, ownK4]) hk h.c1 d0 d1 d2 d3 d4 d5 d6 d7 h1 h2 h3
  ·exact rgt5 _ p k b o cn T.nodes.length vv vb op name num far kids thn els ak at2 ae ck ct ce w hsz.1 hsz.2.1 hsz.2.2.1 hsz.2.2.2 _ _ _ (by rw [hO, ownK5]) hk h.c1 d0 d1 d2 d3 d4 d5 d6 d7 h1 h2 h3
  ·exact rgt6 _ p k b o cn T.nodes.length vv vb op name num far kids thn els ak at2 ae ck ct ce w hsz.1 hsz.2.1 hsz.2.2.1 hsz.2.2.2 _ _ _ (by rw [hO, ownK6]) hk h.c1 d0 d1 d2 d3 d4 d5 d6 d7 h1 h2 h3
  ·exact rgt7 _ p k b o cn T.nodes.length vv vb op name num far kids thn els ak at2 ae ck ct ce w hsz.1 hsz.2.1 hsz.2.2.1 hsz.2.2.2 _ _ _ (by rw [hO, ownK7]) hk h.c1 d0 d1 d2 d3 d4 d5 d6 d7 h1 h2 h3
  ·exact rgt8 _ p k b o cn T.nodes.length vv vb op name num far kids thn els ak at2 ae ck ct ce w hsz.1 hsz.2.1 hsz.2.2.1 hsz.2.2.2 _ _ _ (by rw [hO, ownK8]) hk h.c1 d0 d1 d2 d3 d4 d5 d6 d7 h1 h2 h3
  ·exact rgt9 _ p k b o cn T.nodes.length vv vb op name num far kids thn els ak at2 ae ck ct ce w hsz.1 hsz.2.1 hsz.2.2.1 hsz.2.2.2 _ _ _ (by rw [hO, ownK9]) hk h.c1 d0 d1 d2 d3 d4 d5 d6 d7 h1 h2 h3
  ·exact rgt10 _ p k b o cn T.nodes.length vv vb op name num far kids thn els ak at2 ae ck ct ce w hsz.1 hsz.2.1 hsz.2.2.1 hsz.2.2.2 _ _ _ (by rw [hO, ownK10]) hk h.c1 d0 d1 d2 d3 d4 d5 d6 d7 h1 h2 h3
  ·exact rgt11 _ p k b o cn T.nodes.length vv vb op name num far kids thn els ak at2 ae ck ct ce w hsz.1 hsz.2.1 hsz.2.2.1 hsz.2.2.2 _ _ _ (by rw [hO, ownK11]) hk h.c1 d0 d1 d2 d3 d4 d5 d6 d7 h1 h2 h3
 ·have hK : inB K 1 11 = false := by simpa using hK
  exact rgt0 _ p k b o cn T.nodes.length K op name num far kids thn els ak at2 ae ck ct ce w hK (by rw [hO]; unfold ownB; simp only [hK, Bool.false_and]) hk h.c1 hcs2
end Go.Proofs.YtcecfmdjicjngaaGreatDoor
namespace Go.Proofs.YtcecfmdjicjngaaGreatDoor
open Go.RowKit
set_option linter.unusedVariables false
theorem three_start (w : World) (vv vn vb : Value) (T1 T2 : TypeId) : let W := ((w.alloc (.cells #[vv, vn, vb] T1)).alloc (.cells #[.int .i64 0, .int .i64 0, .int .i64 0] T2))
  W.heap[w.heap.size]? = some (.cells #[vv, vn, vb] T1 (0, 0)) ∧ W.heap[w.heap.size + 1]? = some (.cells #[.int .i64 0, .int .i64 0, .int .i64 0] T2 (0, 0)) ∧ Below w.heap.size w W := by
 intro W
 have hA := heap_alloc_new w (.cells #[vv, vn, vb] T1)
 have hB : Below w.heap.size w (w.alloc (.cells #[vv, vn, vb] T1)) := (Below.refl _ _).alloc (Nat.le_refl _) _
 have hZ : (w.alloc (.cells #[vv, vn, vb] T1)).heap.size = w.heap.size + 1 := by simp
 have hA2 := heap_alloc_new (w.alloc (.cells #[vv, vn, vb] T1)) (.cells #[.int .i64 0, .int .i64 0, .int .i64 0] T2)
 have hB2 : Below (w.alloc (.cells #[vv, vn, vb] T1)).heap.size (w.alloc (.cells #[vv, vn, vb] T1)) W := (Below.refl _ _).alloc (Nat.le_refl _) _
 rw [hZ] at hA2
 exact ⟨blk hA hB2, hA2, hB.trans (hB2.mono (by omega))⟩
end Go.Proofs.YtcecfmdjicjngaaGreatDoor
namespace Go.Proofs.YtcecfmdjicjngaaGreatDoor
open Go.RowKit
set_option linter.unusedVariables false
attribute [local go_sem] bs_size bs_get bs_extract bs_append bs_eq bs_toList
def budT (T : LTree) : Int := 1 + sumAtL (costsF T.nodes T.nodes.length) T.body
def chkT (T : LTree) : Met × Int :=
 if faultL T ≠ 0 then ((faultL T, -1), 0) else if namesF (allL 3 T) T.vars.length ≠ 0 then ((namesF (allL 3 T) T.vars.length, -1), 0)
 else if (bodyF (allL 3 T) T).1 ≠ 0 then (bodyF (allL 3 T) T, 0) else if 2000 < budT T ∨ 60 < cellsL (allL 3 T) then ((2, -1), 0) else ((0, 0), budT T)
theorem Duo.belowN {kp : Nat} {vl vl' : Value} {W W' : World} {B : Nat} (h : Duo kp vl vl' W W') (hB : B ≤ kp) (hs : B ≤ W.heap.size) (hv : vl.ownBlock = none) : Below B W W' :=
 ⟨h.bel.os, h.bel.tape, h.bel.output, h.bel.size, fun k hk => h.rest k (by omega) (by omega) (by rw [hv]; intro e; cases e)⟩
theorem three_set {w : World} {b : Nat} {T : TypeId} {a0 a1 a2 : Value} (x y z : Value) (h : w.heap[b]? = some (.cells #[a0, a1, a2] T (0, 0))) : (((w.setCell ⟨b, 0, none⟩ x).setCell ⟨b, 1, none⟩ y).setCell ⟨b, 2, none⟩ z).heap[b]? = some (.cells #[x, y, z] T (0, 0)) := by
 rw [heap_setCell_same _ _ _ _ _ _ (heap_setCell_same _ _ _ _ _ _ (heap_setCell_same _ _ _ _ _ _ h))]
 rfl
set_option maxHeartbeats 12800000 in
set_option maxRecDepth 100000 in
theorem l5Tree_any (lo p : Nat) (vv vn vb : Value) (T : LTree) (w : World) (h : TreeP lo w p vv vn vb T) (hS : Sized 1048576 T) :
  Calls Tryz.prog 77 #[.pointer (some ⟨p, 0, none⟩)] w fun e w' => e = .returned (.agg #[.int .i64 (chkT T).1.1, .int .i64 (chkT T).1.2, .int .i64 (chkT T).2]) ∧ Below w.heap.size w w' := by
 have HF : Hid (∀ (w' : World), Below w.heap.size w w' → Calls Tryz.prog 92 #[.pointer (some ⟨p, 0, none⟩)] w' fun e w2 => e = .returned (.int .i64 (faultL T)) ∧ Below w'.heap.size w' w2) := fun w' hb =>
  l4Fault_any lo p vv vn vb T w' (h.below hb) hS (fun hn k W hb2 hk => l4Right_any lo p vv vn vb T k W ((h.below hb).below hb2) hS hn hk)
 have HNM : Hid (faultL T = 0 → ∀ (w' : World), Below w.heap.size w w' → Calls Tryz.prog 145 #[.pointer (some ⟨p, 0, none⟩)] w' fun e w2 => e = .returned (.int .i64 (namesF (allL 3 T) T.vars.length)) ∧ Below w'.heap.size w' w2) := fun h0 w' hb => l5Names_any lo p vv vn vb T w' (h.below hb) (good_of h0)
 have HAL : Hid (faultL T = 0 → ∀ (w' : World), Below w.heap.size w w' → Calls Tryz.prog 94 #[.pointer (some ⟨p, 0, none⟩)] w' fun e w2 => ∃ v, e = .returned v ∧ w2.ownsRow w'.heap.size 45 4 v (allL 3 T).length (varCells (allL 3 T)) ∧ Below w'.heap.size w' w2) := fun h0 w' hb => l5All_any lo p vv vn vb T w' (h.below hb) (good_of h0)
 have HCO : Hid (faultL T = 0 → ∀ (w' : World), Below w.heap.size w w' → Calls Tryz.prog 148 #[.pointer (some ⟨p, 0, none⟩)] w' fun e w2 => ∃ v, e = .returned v ∧ Own w2 w'.heap.size v (costsF T.nodes T.nodes.length) ∧ Below w'.heap.size w' w2) := fun h0 w' hb => l5Costs_any lo p vv vn vb T w' (h.below hb) (good_of h0) hS
 have HLI : Hid (faultL T = 0 → ∀ (W0 : World) (kp cA : Nat) (aA : Option Addr), Below w.heap.size w W0 → RowV W0 aA (allL 3 T) → W0.heap.size ≤ kp → ListC lo W0 kp p cA (kp + 1) aA T (allL 3 T) T.nodes.length [] T.body) := fun h0 W0 kp cA aA hb hr hk =>
  l5List_all lo W0 kp p cA (kp + 1) vv vn vb aA T (allL 3 T) ⟨h.below hb, hr, (good_of h0).all_len 3, hk, good_of h0⟩ (kin_of h0) (stk_of h0) hS rfl T.nodes.length (Nat.le_refl _) [] T.body (by have := (good_of h0).nodes; simp; omega) hS.body (fun x hx => ⟨(good_of h0).body x hx, body_stat h0 x hx⟩)
 have HCE : Hid (faultL T = 0 → ∀ (ad : Option Addr) (c : Nat) (W : World), RowV W ad (allL 3 T) → Calls Tryz.prog 93 #[.slice ad (allL 3 T).length c] W fun e w' => e = .returned (.int .i64 (cellsL (allL 3 T))) ∧ Below W.heap.size W w') := fun h0 ad c W hr => by
  have := l5Cells_any (allL 3 T) ad (allL 3 T).length c W (Nat.le_refl _) hr ((good_of h0).sizes 3) ((good_of h0).all_len 3)
  rwa [List.take_length] at this
 have HBD : Hid (∀ W, Below w.heap.size w W → IntsV lo W vb T.body) := fun W hb => (h.tree.below hb).body
 have HC2 : Hid (∀ W, Below w.heap.size w W → W.cell? ⟨p, 2, none⟩ = some vb) := fun W hb => (h.below hb).c2
 have HSU : Hid (faultL T = 0 → ∀ (a : Option Addr) (c : Nat) (W : World), Below w.heap.size w W → Nums W a (costsF T.nodes T.nodes.length) → Calls Tryz.prog 147 #[.slice a T.nodes.length c, vb] W fun e w' => e = .returned (.int .i64 (sumAtL (costsF T.nodes T.nodes.length) T.body)) ∧ w' = W) := fun h0 a c W hb hn =>
  l5Sum_any (costsF T.nodes T.nodes.length) T.body a T.nodes.length c W.heap.size vb W (costsF_len _ _) (by have := (good_of h0).nodes; omega) hn (HBD.out W hb).toB (good_of h0).body (costsF_le T.nodes ((good_of h0).tame hS) _ (Nat.le_refl _)) hS.body
 have HSB : Hid (faultL T = 0 → 0 ≤ sumAtL (costsF T.nodes T.nodes.length) T.body ∧ sumAtL (costsF T.nodes T.nodes.length) T.body ≤ 104857600000) := fun h0 => sum_big (costsF_le T.nodes ((good_of h0).tame hS) _ (Nat.le_refl _)) hS.body
 have hpw : p < w.heap.size := World.block_lt_of_cell? _ _ h.c0
 obtain ⟨ab, cb, evb, _⟩ := id h.tree.body
 subst evb
 clear h hS
 obtain ⟨⟨⟨c1, c2⟩, c3⟩, hR⟩ : ∃ R, R = chkT T := ⟨_, rfl⟩
 rw [← hR]
 have HC : Hid (((c1, c2), c3) = if faultL T ≠ 0 then ((faultL T, -1), 0) else if namesF (allL 3 T) T.vars.length ≠ 0 then ((namesF (allL 3 T) T.vars.length, -1), 0)
   else if (bodyF (allL 3 T) T).1 ≠ 0 then (bodyF (allL 3 T) T, 0) else if 2000 < budT T ∨ 60 < cellsL (allL 3 T) then ((2, -1), 0) else ((0, 0), budT T)) := hR
 clear hR
 go_enter Tryz.func77, Tryz.ntmps77
 go_wp2_with fail
 have hA := heap_alloc_new w (.cells #[.int .i64 0, .int .i64 0, .int .i64 0] 31)
 have hB : Below w.heap.size w (w.alloc (.cells #[.int .i64 0, .int .i64 0, .int .i64 0] 31)) := (Below.refl _ _).alloc (Nat.le_refl _) _
 generalize w.alloc (.cells #[.int .i64 0, .int .i64 0, .int .i64 0] 31) = W1 at *
 refine (HF.out _ hB).mono ?_
 rintro e w2 ⟨rfl, hb⟩
 have HA : Hid (w2.heap[w.heap.size]? = some (.cells #[.int .i64 0, .int .i64 0, .int .i64 0] 31 (0, 0))) := blk hA hb
 have HB : Hid (Below w.heap.size w w2) := hB.trans (hb.mono hB.size)
 clear hA hB hb HF
 obtain ⟨F, hF⟩ : ∃ F, faultL T = F := ⟨_, rfl⟩
 have HFF : Hid (faultL T = F) := hF
 rw [hF]
 by_cases hz : F = 0
 ·subst hz
  have HCN : Hid (((c1, c2), c3) = if namesF (allL 3 T) T.vars.length ≠ 0 then ((namesF (allL 3 T) T.vars.length, -1), 0)
   else if (bodyF (allL 3 T) T).1 ≠ 0 then (bodyF (allL 3 T) T, 0) else if 2000 < budT T ∨ 60 < cellsL (allL 3 T) then ((2, -1), 0) else ((0, 0), budT T)) := by unfold Hid; rw [HC.out, hF, if_neg (by simp)]
  clear HC hF
  go_wp2_with fail
  refine (HNM.out HFF.out _ HB.out).mono ?_
  rintro e w3 ⟨rfl, hb⟩
  have HA3 : Hid (w3.heap[w.heap.size]? = some (.cells #[.int .i64 0, .int .i64 0, .int .i64 0] 31 (0, 0))) := blk HA.out hb
  have HB3 : Hid (Below w.heap.size w w3) := HB.out.trans (hb.mono HB.out.size)
  clear HA HB hb HNM
  obtain ⟨N, hN⟩ : ∃ N, namesF (allL 3 T) T.vars.length = N := ⟨_, rfl⟩
  rw [hN] at HCN ⊢
  clear hN
  by_cases hn : N = 0
  ·subst hn
   have HCB : Hid (((c1, c2), c3) = if (bodyF (allL 3 T) T).1 ≠ 0 then (bodyF (allL 3 T) T, 0) else if 2000 < budT T ∨ 60 < cellsL (allL 3 T) then ((2, -1), 0) else ((0, 0), budT T)) := by unfold Hid; rw [HCN.out, if_neg (by simp)]
   clear HCN
   go_wp2_with fail
   refine (HAL.out HFF.out _ HB3.out).mono ?_
   rintro e w4 ⟨v, rfl, hown, hb⟩
   obtain ⟨ad, cp, rfl⟩ := rowE_shape hown
   have HRV : Hid (RowV w4 ad (allL 3 T)) := RowV.of_own hown rfl
   have HA4 : Hid (w4.heap[w.heap.size]? = some (.cells #[.int .i64 0, .int .i64 0, .int .i64 0] 31 (0, 0))) := blk HA3.out hb
   have HB4 : Hid (Below w.heap.size w w4) := HB3.out.trans (hb.mono HB3.out.size)
   clear hown hb HA3 HB3 HAL
   have HLC := HLI.out HFF.out w4 w4.heap.size cp ad HB4.out HRV.out (Nat.le_refl _)
   have HL : Hid (ListC lo w4 w4.heap.size p cp (w4.heap.size + 1) ad T (allL 3 T) T.nodes.length [] T.body) := HLC
   clear HLC HLI
   have k5 := heap_alloc_new w4 (.cells #[.pointer (some ⟨p, 0, none⟩), .slice ad (allL 3 T).length cp, .slice none 0 0, .int .i64 0, .int .i64 0] 190)
   have hb5 : Below w4.heap.size w4 (w4.alloc (.cells #[.pointer (some ⟨p, 0, none⟩), .slice ad (allL 3 T).length cp, .slice none 0 0, .int .i64 0, .int .i64 0] 190)) := (Below.refl _ _).alloc (Nat.le_refl _) _
   have HCK : Hid (Chk w4 (w4.alloc (.cells #[.pointer (some ⟨p, 0, none⟩), .slice ad (allL 3 T).length cp, .slice none 0 0, .int .i64 0, .int .i64 0] 190)) w4.heap.size p ad (allL 3 T).length cp (.slice none 0 0) (0, 0)) := ⟨hb5, k5⟩
   have pc2 : (w4.alloc (.cells #[.pointer (some ⟨p, 0, none⟩), .slice ad (allL 3 T).length cp, .slice none 0 0, .int .i64 0, .int .i64 0] 190)).cell? ⟨p, 2, none⟩ = some (.slice ab T.body.length cb) := HC2.out _ (HB4.out.trans (hb5.mono HB4.out.size))
   have HB5 : Hid (Below w4.heap.size w4 (w4.alloc (.cells #[.pointer (some ⟨p, 0, none⟩), .slice ad (allL 3 T).length cp, .slice none 0 0, .int .i64 0, .int .i64 0] 190))) := hb5
   have hpw4 : p < w4.heap.size := Nat.lt_of_lt_of_le hpw HB4.out.size
   clear k5 hb5
   go_wp2_with fail
   generalize hW5 : w4.alloc (.cells #[.pointer (some ⟨p, 0, none⟩), .slice ad (allL 3 T).length cp, .slice none 0 0, .int .i64 0, .int .i64 0] 190) = W5 at *
   clear hW5
   refine (HL.out _ _ _ _ HCK.out (LoopO.nil _ _) (HBD.out _ HB4.out)).mono ?_
   rintro e w6 ⟨rfl, vl, hc6, hl6, hd6⟩
   have hb56 : Below w4.heap.size w4 w6 := hc6.bel
   have HA6 : Hid (w6.heap[w.heap.size]? = some (.cells #[.int .i64 0, .int .i64 0, .int .i64 0] 31 (0, 0))) := blk HA4.out hb56
   have HB6 : Hid (Below w.heap.size w w6) := HB4.out.trans (hb56.mono HB4.out.size)
   have HC6 : Hid (Chk w4 w6 w4.heap.size p ad (allL 3 T).length cp vl (bodyF (allL 3 T) T)) := hc6
   have HRV6 : Hid (RowV w6 ad (allL 3 T)) := HRV.out.below hb56
   clear hc6 hl6 hd6 hb56 HCK HB5 HL HA4 HB4 HRV pc2
   generalize w4.heap.size = kp at *
   obtain ⟨⟨s1, s2⟩, hs⟩ : ∃ s, s = bodyF (allL 3 T) T := ⟨_, rfl⟩
   rw [← hs] at HC6 HCB
   clear hs
   obtain ⟨-, k1, -, k3, k4⟩ := cl5 HC6.out.row
   obtain ⟨r0, r1, r2⟩ := cl3 HA6.out
   obtain ⟨f0, f1, f2⟩ := fl3 HA6.out
   by_cases hs1 : s1 = 0
   ·subst hs1
    have HCW : Hid (((c1, c2), c3) = if 2000 < budT T ∨ 60 < cellsL (allL 3 T) then ((2, -1), 0) else ((0, 0), budT T)) := by unfold Hid; rw [HCB.out, if_neg (by simp)]
    have pc2 := HC2.out _ HB6.out
    have hkl : kp < w6.heap.size := blk_lt HC6.out.row
    have hrl : w.heap.size < w6.heap.size := blk_lt HA6.out
    have hpl : p < w6.heap.size := Nat.lt_of_lt_of_le hpw HB6.out.size
    have HCX : Hid (Calls Tryz.prog 148 #[.pointer (some ⟨p, 0, none⟩)] w6.drew fun e w2 => ∃ v, e = .returned v ∧ Own w2 w6.drew.heap.size v (costsF T.nodes T.nodes.length) ∧ Below w6.drew.heap.size w6.drew w2) := HCO.out HFF.out w6.drew HB6.out.drew
    have HB7 : Hid (Below w.heap.size w w6.drew) := HB6.out.drew
    have HS7 : Hid (∀ (a : Option Addr) (c : Nat) (W : World), Below w.heap.size w W → Nums W a (costsF T.nodes T.nodes.length) → Calls Tryz.prog 147 #[.slice a T.nodes.length c, .slice ab T.body.length cb] W fun e w' => e = .returned (.int .i64 (sumAtL (costsF T.nodes T.nodes.length) T.body)) ∧ w' = W) := HSU.out HFF.out
    have hsb := HSB.out HFF.out
    have HCL : Hid (∀ (W : World), RowV W ad (allL 3 T) → Calls Tryz.prog 93 #[.slice ad (allL 3 T).length cp] W fun e w' => e = .returned (.int .i64 (cellsL (allL 3 T))) ∧ Below W.heap.size W w') := fun W hr => HCE.out HFF.out ad cp W hr
    have HBU : Hid (budT T = 1 + sumAtL (costsF T.nodes T.nodes.length) T.body) := rfl
    have HK1 : Hid (w6.cell? ⟨kp, 1, none⟩ = some (.slice ad (allL 3 T).length cp)) := k1
    clear HCB HCO HSU HSB HCE HC6 HFF k4 k1 r0 r1 r2 f0 f1 f2
    have HDL : Hid ((costsF T.nodes T.nodes.length).length = T.nodes.length) := costsF_len _ _
    obtain ⟨ds, hds⟩ : ∃ ds, ds = costsF T.nodes T.nodes.length := ⟨_, rfl⟩
    rw [← hds] at HCX HS7 hsb HBU HDL
    clear hds
    obtain ⟨sm, hsm⟩ : ∃ sm, sm = sumAtL ds T.body := ⟨_, rfl⟩
    rw [← hsm] at HS7 hsb HBU
    clear hsm
    go_wp2_with fail
    go_region_held3 (fun Z => Z.cell? ⟨p, 2, none⟩ = some (.slice ab T.body.length cb)) (go_keep) (first | (go_at_call 148; refine HCX.out.mono ?_; rintro e w7 ⟨v7, rfl, hown7, hb7⟩; obtain ⟨a7, c7, rfl⟩ := own_shape hown7; have q2 := (hb7.cell (p := ⟨p, 2, none⟩) hpl).trans pc2; have HNU : Hid (Nums w7 a7 ds) := (nums_of_own hown7).2; have HB8 : Hid (Below w6.drew.heap.size w6.drew w7) := hb7; have HB9 : Hid (Below w.heap.size w w7) := HB7.out.trans (hb7.mono HB7.out.size); rw [HDL.out]; clear hown7 hb7) | (go_at_call 147; refine (HS7.out _ _ _ HB9.out HNU.out).mono ?_; rintro e w8 ⟨rfl, rfl⟩))
    clear pc2 HCX HS7 k3
    have HB10 : Hid (Below w.heap.size w w8) := HB9
    have HA9 : Hid (w8.heap[w.heap.size]? = some (.cells #[.int .i64 0, .int .i64 0, .int .i64 0] 31 (0, 0))) := (HB8.out.block w.heap.size hrl).trans HA6.out
    have k1 : w8.cell? ⟨kp, 1, none⟩ = some (.slice ad (allL 3 T).length cp) := (HB8.out.cell (p := ⟨kp, 1, none⟩) hkl).trans HK1.out
    have HRV8 : Hid (RowV w8 ad (allL 3 T)) := by
     refine RowV.below (w := w6.drew) ?_ HB8.out
     exact rowV_drew HRV6.out
    try clear q2
    try clear HNU
    clear HB8 HA6 HK1 HRV6 HB6 HB7 HB9
    by_cases hbu : 2000 < 1 + sm
    ·have hb1 : decide ((2000 : Int) < 1 + sm) = true := decide_eq_true hbu
     have HCV : Hid (((c1, c2), c3) = ((2, -1), 0)) := by unfold Hid; rw [HCW.out, if_pos (Or.inl (by rw [HBU.out]; exact hbu))]
     obtain ⟨r0, r1, r2⟩ := cl3 HA9.out
     obtain ⟨f0, f1, f2⟩ := fl3 HA9.out
     clear HCW hbu HCL
     go_wp2_with fail
     refine bodyPost_ret (v := .agg #[.int .i64 2, .int .i64 (-1), .int .i64 (0)]) (by simp [results, Tryz.results77, go_sem, r0, r1, r2]) rfl ⟨?_, ((HB10.out.setCell (by simp) _).setCell (by simp) _).setCell (by simp) _⟩
     have e := HCV.out
     injection e with e1 e3
     injection e1 with e1 e2
     rw [e1, e2, e3]
    ·have hb1 : decide ((2000 : Int) < 1 + sm) = false := decide_eq_false hbu
     by_cases hce : 60 < cellsL (allL 3 T)
     ·have HCV : Hid (((c1, c2), c3) = ((2, -1), 0)) := by unfold Hid; rw [HCW.out, if_pos (Or.inr hce)]
      clear HCW hbu
      go_wp2_with fail
      refine (HCL.out _ HRV8.out).mono ?_
      rintro e w10 ⟨rfl, hb⟩
      have HB11 : Hid (Below w.heap.size w w10) := HB10.out.trans (hb.mono HB10.out.size)
      have HA10 := blk HA9.out hb
      clear HA9 hb
      have HA9 : Hid _ := HA10
      obtain ⟨r0, r1, r2⟩ := cl3 HA9.out
      obtain ⟨f0, f1, f2⟩ := fl3 HA9.out
      clear HA10 k1 HCL
      go_wp2_with fail
      refine bodyPost_ret (v := .agg #[.int .i64 2, .int .i64 (-1), .int .i64 (0)]) (by simp [results, Tryz.results77, go_sem, r0, r1, r2]) rfl ⟨?_, ((HB11.out.setCell (by simp) _).setCell (by simp) _).setCell (by simp) _⟩
      have e := HCV.out
      injection e with e1 e3
      injection e1 with e1 e2
      rw [e1, e2, e3]
     ·have HCV : Hid (((c1, c2), c3) = ((0, 0), 1 + sm)) := by unfold Hid; rw [HCW.out, if_neg (by rw [HBU.out]; exact fun h => h.elim hbu hce), HBU.out]
      clear HCW hbu
      go_wp2_with fail
      refine (HCL.out _ HRV8.out).mono ?_
      rintro e w10 ⟨rfl, hb⟩
      have HB11 : Hid (Below w.heap.size w w10) := HB10.out.trans (hb.mono HB10.out.size)
      have HA10 := blk HA9.out hb
      clear HA9 hb
      have HA9 : Hid _ := HA10
      obtain ⟨r0, r1, r2⟩ := cl3 HA9.out
      obtain ⟨f0, f1, f2⟩ := fl3 HA9.out
      clear HA10 k1 HCL
      go_wp2_with fail
      refine bodyPost_ret (v := .agg #[.int .i64 0, .int .i64 (0), .int .i64 (1 + sm)]) (by simp [results, Tryz.results77, go_sem, r0, r1, r2]) rfl ⟨?_, ((HB11.out.setCell (by simp) _).setCell (by simp) _).setCell (by simp) _⟩
      have e := HCV.out
      injection e with e1 e3
      injection e1 with e1 e2
      rw [e1, e2, e3]
   ·have hsb : (s1 == 0) = false := by simpa using hs1
    have hsd : decide (s1 = 0) = false := decide_eq_false hs1
    have HCW : Hid (((c1, c2), c3) = ((s1, s2), 0)) := by unfold Hid; rw [HCB.out, if_pos hs1]
    clear HCB
    go_wp2_with fail
    refine bodyPost_ret (v := .agg #[.int .i64 s1, .int .i64 s2, .int .i64 0]) (by simp [results, Tryz.results77, go_sem, r0, r1, r2]) rfl ⟨?_, ((HB6.out.setCell (by simp) _).setCell (by simp) _).setCell (by simp) _⟩
    have e := HCW.out
    injection e with e1 e3
    injection e1 with e1 e2
    rw [e1, e2, e3]
  ·have hnb : (N == 0) = false := by simpa using hn
   have hnd : decide (N = 0) = false := decide_eq_false hn
   have HCW : Hid (((c1, c2), c3) = ((N, -1), 0)) := by unfold Hid; rw [HCN.out, if_pos hn]
   obtain ⟨r0, r1, r2⟩ := cl3 HA3.out
   obtain ⟨f0, f1, f2⟩ := fl3 HA3.out
   clear HCN
   go_wp2_with fail
   refine bodyPost_ret (v := .agg #[.int .i64 N, .int .i64 (-1), .int .i64 0]) (by simp [results, Tryz.results77, go_sem, r0, r1, r2]) rfl ⟨?_, ((HB3.out.setCell (by simp) _).setCell (by simp) _).setCell (by simp) _⟩
   have e := HCW.out
   injection e with e1 e3
   injection e1 with e1 e2
   rw [e1, e2, e3]
 ·have hzb : (F == 0) = false := by simpa using hz
  have hzd : decide (F = 0) = false := decide_eq_false hz
  have HCW : Hid (((c1, c2), c3) = ((F, -1), 0)) := by unfold Hid; rw [HC.out, hF, if_pos hz]
  obtain ⟨r0, r1, r2⟩ := cl3 HA.out
  obtain ⟨f0, f1, f2⟩ := fl3 HA.out
  clear HC hF
  go_wp2_with fail
  refine bodyPost_ret (v := .agg #[.int .i64 F, .int .i64 (-1), .int .i64 0]) (by simp [results, Tryz.results77, go_sem, r0, r1, r2]) rfl ⟨?_, ((HB.out.setCell (by simp) _).setCell (by simp) _).setCell (by simp) _⟩
  have e := HCW.out
  injection e with e1 e3
  injection e1 with e1 e2
  rw [e1, e2, e3]
theorem specCheckTree_of (lo : Nat) (vv vn vb : Value) (T : LTree) (w : World) (h : TreeV lo w vv vn vb T) (hS : Sized 1048576 T) :
  Calls Tryz.prog 18 #[treeV vv vn vb] w fun e w' => e = .returned (.agg #[.int .i64 (chkT T).1.1, .int .i64 (chkT T).1.2, .int .i64 (chkT T).2]) ∧ Below w.heap.size w w' := by
 have HX : Hid (∀ (W : World), Below w.heap.size w W → W.heap[w.heap.size]? = some (.cells #[vv, vn, vb] 28 (0, 0)) → Calls Tryz.prog 77 #[.pointer (some ⟨w.heap.size, 0, none⟩)] W fun e w' => e = .returned (.agg #[.int .i64 (chkT T).1.1, .int .i64 (chkT T).1.2, .int .i64 (chkT T).2]) ∧ Below W.heap.size W w') := fun W hb hA =>
  l5Tree_any lo w.heap.size vv vn vb T W ⟨cell_of_row _ _ 0 _ _ _ hA, cell_of_row _ _ 1 _ _ _ hA, cell_of_row _ _ 2 _ _ _ hA, h.below hb⟩ hS
 obtain ⟨av, cv, rfl, _⟩ := id h.vars
 obtain ⟨an, cn, rfl, _⟩ := id h.nodes
 obtain ⟨ab, cb, rfl, _⟩ := id h.body
 clear h hS
 generalize (chkT T).1.1 = c1 at *
 generalize (chkT T).1.2 = c2 at *
 generalize (chkT T).2 = c3 at *
 go_enter Tryz.func18, Tryz.ntmps18
 go_wp2_with fail
 obtain ⟨hA, hA2, hB⟩ := three_start w (.slice av T.vars.length cv) (.slice an T.nodes.length cn) (.slice ab T.body.length cb) 28 31
 generalize ((w.alloc (.cells #[.slice av T.vars.length cv, .slice an T.nodes.length cn, .slice ab T.body.length cb] 28)).alloc (.cells #[.int .i64 0, .int .i64 0, .int .i64 0] 31)) = W at *
 refine (HX.out _ hB hA).mono ?_
 rintro e w2 ⟨rfl, hb⟩
 have hA3 := blk hA2 hb
 have HB : Hid (Below w.heap.size w w2) := hB.trans (hb.mono hB.size)
 obtain ⟨r0, r1, r2⟩ := cl3 hA3
 obtain ⟨f0, f1, f2⟩ := fl3 hA3
 clear hA hA2 hB hb hA3 HX
 go_wp2_with fail
 refine bodyPost_ret (v := .agg #[.int .i64 c1, .int .i64 c2, .int .i64 c3]) (by simp [results, Tryz.results18, go_sem, r0, r1, r2]) rfl ⟨rfl, ((HB.out.setCell (by simp) _).setCell (by simp) _).setCell (by simp) _⟩
end Go.Proofs.YtcecfmdjicjngaaGreatDoor
namespace Go.Proofs.YtcecfmdjicjngaaGreatDoor
open Go.RowKit
set_option linter.unusedVariables false
attribute [local go_sem] bs_size bs_get bs_extract bs_append bs_eq bs_toList
set_option maxHeartbeats 6400000 in
set_option maxRecDepth 100000 in
theorem budgetOf_any (lo : Nat) (vv vn vb : Value) (T : LTree) (w : World) (h : TreeV lo w vv vn vb T) (hS : Sized 1048576 T) (hG : Good T) :
  Calls Tryz.prog 76 #[treeV vv vn vb] w fun e w' => e = .returned (.int .i64 (budT T)) ∧ Below w.heap.size w w' := by
 obtain ⟨av, cv, rfl, _⟩ := id h.vars
 obtain ⟨an, cn, rfl, _⟩ := id h.nodes
 obtain ⟨ab, cb, rfl, _⟩ := id h.body
 have HCO : Hid (∀ (w' : World), Below w.heap.size w w' → Calls Tryz.prog 79 #[.slice an T.nodes.length cn] w' fun e w2 => e = .returned (.slice (some ⟨w'.heap.size, 0, none⟩) T.nodes.length T.nodes.length) ∧ Cnt w2 w'.heap.size 2 (costsF T.nodes T.nodes.length) ∧ Below w'.heap.size w' w2) := fun w' hb =>
  costs_any lo an cn T.nodes w' (h.nodes.below hb) hG.nodes (hG.tame hS) (fun k n hk => (hG.node k n hk).2)
 have HSU : Hid (∀ (a : Option Addr) (c : Nat) (W : World), Below w.heap.size w W → Nums W a (costsF T.nodes T.nodes.length) → Calls Tryz.prog 144 #[.slice a T.nodes.length c, .slice ab T.body.length cb] W fun e w' => e = .returned (.int .i64 (sumAtL (costsF T.nodes T.nodes.length) T.body)) ∧ w' = W) := fun a c W hb hn =>
  sumAt_any (costsF T.nodes T.nodes.length) T.body a T.nodes.length c W.heap.size _ W (costsF_len _ _) (by have := hG.nodes; omega) hn ((h.below hb).body).toB hG.body (costsF_le T.nodes (hG.tame hS) _ (Nat.le_refl _)) hS.body
 have hsb := sum_big (costsF_le T.nodes (hG.tame hS) _ (Nat.le_refl _)) hS.body
 have HDL : Hid ((costsF T.nodes T.nodes.length).length = T.nodes.length) := costsF_len _ _
 have HBU : Hid (budT T = 1 + sumAtL (costsF T.nodes T.nodes.length) T.body) := rfl
 clear h hS hG
 obtain ⟨ds, hds⟩ : ∃ ds, ds = costsF T.nodes T.nodes.length := ⟨_, rfl⟩
 rw [← hds] at HCO HSU hsb HDL HBU
 clear hds
 obtain ⟨sm, hsm⟩ : ∃ sm, sm = sumAtL ds T.body := ⟨_, rfl⟩
 rw [← hsm] at HSU hsb HBU
 clear hsm
 go_enter Tryz.func76, Tryz.ntmps76
 go_wp2_with fail
 have hb1 : Below w.heap.size w (w.alloc (.cells #[.slice av T.vars.length cv, .slice an T.nodes.length cn, .slice ab T.body.length cb] 28)) := (Below.refl _ _).alloc (Nat.le_refl _) _
 have hA := heap_alloc_new w (.cells #[.slice av T.vars.length cv, .slice an T.nodes.length cn, .slice ab T.body.length cb] 28)
 generalize w.alloc (.cells #[.slice av T.vars.length cv, .slice an T.nodes.length cn, .slice ab T.body.length cb] 28) = W1 at *
 obtain ⟨-, p1, p2⟩ := cl3 hA
 have hlt := blk_lt hA
 have HB1 : Hid (Below w.heap.size w W1.drew) := hb1.drew
 clear hA hb1
 go_region_held3 (fun Z => Z.cell? ⟨w.heap.size, 1, none⟩ = some (.slice an T.nodes.length cn) ∧ Z.cell? ⟨w.heap.size, 2, none⟩ = some (.slice ab T.body.length cb)) (go_keep) (first | (go_at_call 79; refine (HCO.out _ HB1.out).mono ?_; rintro e w7 ⟨rfl, hcnt, hb7⟩; have q1 := (hb7.cell (p := ⟨w.heap.size, 1, none⟩) hlt).trans p1; have q2 := (hb7.cell (p := ⟨w.heap.size, 2, none⟩) hlt).trans p2; have HNU : Hid (Nums w7 (some ⟨W1.drew.heap.size, 0, none⟩) ds) := .inr ⟨_, 0, rfl, fun i hi => by rw [Nat.zero_add]; exact (hcnt.cell i hi).1⟩; have HB9 : Hid (Below w.heap.size w w7) := HB1.out.trans (hb7.mono HB1.out.size); clear hcnt hb7) | (go_at_call 144; refine (HSU.out _ _ _ HB9.out HNU.out).mono ?_; rintro e w8 ⟨rfl, rfl⟩))
 clear p1 p2 q1 q2 HCO HSU
 go_wp2_with fail
 go_ret
 have e : Ending.returned (Value.int .i64 (IntKind.i64.wrap (1 + sm))) = Ending.returned (Value.int .i64 (budT T)) := by rw [HBU.out, IntWalk.i64_in _ (by omega)]
 exact ⟨e, HB9.out⟩
end Go.Proofs.YtcecfmdjicjngaaGreatDoor
namespace Go.Proofs.YtcecfmdjicjngaaGreatDoor
open Go.RowKit
open Go.Maps
set_option linter.unusedVariables false
theorem first_some (V : List LVar) (nm : List UInt8) : ∀ k, k ≤ V.length → ((firstI V nm k).isSome = true ↔ ∃ v ∈ V.take k, v.name = nm) := by
 intro k
 induction k with
 | zero => intro _; simp [firstI]
 | succ k ih =>
  intro hk
  have hk2 : k < V.length := by omega
  rw [List.take_succ_eq_append_getElem hk2]
  have e : V.getD k default = V[k] := by rw [List.getD_eq_getElem?_getD, List.getElem?_eq_getElem hk2]; rfl
  cases hf : firstI V nm k with
  | some i =>
   rw [firstI_some hf]
   have h1 := (ih (by omega)).1 (by rw [hf]; rfl)
   obtain ⟨v, hv, e2⟩ := h1
   exact ⟨fun _ => ⟨v, List.mem_append.2 (.inl hv), e2⟩, fun _ => rfl⟩
  | none =>
   have h1 : ¬ ∃ v ∈ V.take k, v.name = nm := fun h => by
    have := (ih (by omega)).2 h
    rw [hf] at this; cases this
   by_cases he : (V.getD k default).name = nm
   ·rw [firstI_hit hf he]
    rw [e] at he
    exact ⟨fun _ => ⟨V[k], List.mem_append.2 (.inr (List.mem_singleton.2 rfl)), he⟩, fun _ => rfl⟩
   ·rw [firstI_miss hf he]
    rw [e] at he
    refine ⟨fun h => (by cases h), fun ⟨v, hv, e2⟩ => ?_⟩
    rcases List.mem_append.1 hv with hv | hv
    ·exact absurd ⟨v, hv, e2⟩ h1
    ·rw [List.mem_singleton] at hv; subst hv; exact absurd e2 he
theorem nameD_tidy (V : List LVar) (nv : Nat) : ∀ k, Tidy (nameD V nv k) := by
 intro k
 induction k with
 | zero => exact tidy_empty
 | succ k ih =>
  unfold nameD
  split
  ·exact ih
  ·exact ih.put (key_lit _) _
theorem nameD_size (V : List LVar) (nv : Nat) : ∀ k, k ≤ V.length → Maps.size (nameD V nv k) ≤ k ∧ (Maps.size (nameD V nv k) = k ↔ ∀ j, j < k → varFrom (V.getD j default).name (V.take j) 0 < 0) := by
 intro k
 induction k with
 | zero => intro _; exact ⟨Nat.le_refl _, ⟨fun _ j hj => by omega, fun _ => rfl⟩⟩
 | succ k ih =>
  intro hk
  obtain ⟨h1, h2⟩ := ih (by omega)
  have hfs := first_some V (V.getD k default).name k (by omega)
  have hvm := varFrom_mem (V.getD k default).name (V.take k) 0
  unfold nameD
  by_cases hs : (firstI V (V.getD k default).name k).isSome = true
  ·rw [if_pos hs]
   refine ⟨by omega, ⟨fun e => by omega, fun h => ?_⟩⟩
   have h3 := h k (by omega)
   have h4 := hvm.2 (hfs.1 hs)
   omega
  ·rw [if_neg hs, size_put (nameD_tidy V nv k)]
   rw [(nameD_at V nv (.held noVal) k (V.getD k default).name).1, if_neg hs]
   have h5 : varFrom (V.getD k default).name (V.take k) 0 < 0 := Classical.byContradiction fun h => hs (hfs.2 (hvm.1 (by omega)))
   refine ⟨by omega, ⟨fun e j hj => ?_, fun h => ?_⟩⟩
   ·by_cases ej : j = k
    ·rw [ej]; exact h5
    ·exact h2.1 (by omega) j (by omega)
   ·have := h2.2 (fun j hj => h j (by omega)); omega
theorem size_dup (V : List LVar) (nv : Nat) : Maps.size (nameD V nv V.length) ≤ V.length ∧ (Maps.size (nameD V nv V.length) < V.length ↔ dupB V = true) := by
 obtain ⟨h1, h2⟩ := nameD_size V nv V.length (Nat.le_refl _)
 refine ⟨h1, ⟨fun h => ?_, fun h => ?_⟩⟩
 ·cases hd : dupB V with
  | true => rfl
  | false =>
   exfalso
   have : Maps.size (nameD V nv V.length) = V.length := h2.2 fun j hj => by
    refine Classical.byContradiction fun hh => ?_
    rw [dup_hit hj (by omega)] at hd; cases hd
   omega
 ·refine Nat.lt_of_le_of_ne h1 fun e => ?_
  have := dup_none (h2.1 e)
  rw [this] at h; cases h
end Go.Proofs.YtcecfmdjicjngaaGreatDoor
namespace Go.Proofs.YtcecfmdjicjngaaGreatDoor
open Go.RowKit
set_option linter.unusedVariables false
attribute [local go_sem] bs_size bs_get bs_extract bs_append bs_eq bs_toList
set_option maxHeartbeats 6400000 in
set_option maxRecDepth 100000 in
theorem namesFault_any (V : List LVar) (nv : Nat) (ad : Option Addr) (k c : Nat) (w : World) (hk : k = V.length) (hV : RowE w ad V nv) (hl : V.length ≤ 624) (hn : ∀ x ∈ V, x.name.length ≤ 1048576) (hnv : nv ≤ V.length) :
  Calls Tryz.prog 142 #[.slice ad k c] w fun e w' => e = .returned (.int .i64 (namesF V nv)) ∧ Below w.heap.size w w' := by
 subst hk
 have HV : Hid (RowE w ad V nv) := hV
 have HBN : Hid (Calls Tryz.prog 95 #[.slice ad V.length c] w fun e w' => e = .returned (.map (some w.heap.size)) ∧ w'.ownsMap Tryz.prog 9 heldR w.heap.size V.length (nameD V nv V.length) ∧ Below w.heap.size w w') := byName_any V nv ad V.length c w rfl hV hl hn
 have HNM : Hid (∀ x ∈ V, x.name.length ≤ 1048576) := hn
 obtain ⟨hsd1, hsd2⟩ := size_dup V nv
 obtain ⟨sz, hsz⟩ : ∃ sz, sz = Maps.size (nameD V nv V.length) := ⟨_, rfl⟩
 have HLEN : Hid (∀ (W : World), W.ownsMap Tryz.prog 9 heldR w.heap.size V.length (nameD V nv V.length) → (Builtin.len_ #[138] 3 #[.map (some w.heap.size)]).run Tryz.prog W = .ok (.int .i64 (sz : Int)) W) := fun W h => by rw [hsz]; exact h.len Tryz.underlying138 _
 rw [← hsz] at hsd1 hsd2
 obtain ⟨R, hR⟩ : ∃ R, R = namesF V nv := ⟨_, rfl⟩
 rw [← hR]
 have HR : Hid (R = if dupB V then 7 else if (V.drop nv).any (fun v => !isNameL v.name) then 5 else 0) := hR
 clear hV hn hR hsz
 go_enter Tryz.func142, Tryz.ntmps142
 go_wp2_with fail
 refine HBN.out.mono ?_
 rintro e w1 ⟨rfl, hm, hb⟩
 have hlen := HLEN.out w1 hm
 have HB : Hid (Below w.heap.size w w1) := hb
 clear hm hb HBN HLEN
 by_cases hd : sz < V.length
 ·have HR2 : Hid (R = 7) := by unfold Hid; rw [HR.out, hsd2.1 hd, if_pos rfl]
  clear HR hsd2
  go_wp2_with fail
  go_ret
  exact ⟨by rw [HR2.out]; rfl, HB.out⟩
 ·have hdf : dupB V = false := by cases h : dupB V with
   | false => rfl
   | true => exact absurd (hsd2.2 h) hd
  have HR2 : Hid (R = if (V.drop (max nv 0)).any (fun v => !isNameL v.name) then 5 else 0) := by unfold Hid; rw [HR.out, hdf, Nat.max_zero]; rfl
  clear HR hsd2 hdf
  go_wp2_with fail
  go_loopw [13] (fun i wr => ∃ j : Nat, j ≤ V.length ∧ i = .int .i64 j ∧ Hid (R = if (V.drop (max nv j)).any (fun v => !isNameL v.name) then 5 else 0) ∧ Hid (Below w.heap.size w wr)) (fun i _ => V.length - (intOf i).toNat)
  case atStart => exact ⟨0, by omega, rfl, HR2, HB⟩
  case round =>
   clear HR2 HB hlen
   obtain ⟨j, hj, rfl, HR, HB⟩ := hrel
   by_cases hlt : j < V.length
   ·obtain ⟨x, hx⟩ : ∃ x, V[j]? = some x := ⟨V[j]'(by omega), List.getElem?_eq_getElem _⟩
    obtain ⟨g, rfl, hc⟩ := (HV.out.below HB.out) (by intro e; rw [e] at hx; simp at hx)
    obtain ⟨⟨c0, c1, c2, c3⟩, c4, c5⟩ := hc j x hx
    have hj0 : (0 : Int) ≤ (j : Int) := by omega
    have hj1 : (j : Int) < (V.length : Int) := by omega
    have hxn := HNM.out x (List.mem_of_getElem? hx)
    have hwz := HB.out.size
    have HBX : Hid (∀ o, Below w.heap.size w (wr.alloc o)) := fun o => HB.out.alloc hwz o
    by_cases hov : nv ≤ j
    ·have HST : Hid (R = if (!isNameL x.name || (V.drop (j + 1)).any (fun v => !isNameL v.name)) then 5 else 0) := by unfold Hid; rw [HR.out, show max nv j = j by omega, any_drop_step hx]
     have hod : decide (nv ≤ j) = true := decide_eq_true hov
     rw [hod] at c4
     obtain ⟨q, hq⟩ : ∃ q, isNameL x.name = q := ⟨_, rfl⟩
     have HIN : Hid (∀ w, Calls Tryz.prog 83 #[.string (bs x.name)] w fun e w' => e = .returned (.bool q) ∧ w' = w) := fun w => by rw [← hq]; exact iIsName_any x.name w (by omega)
     rw [hq] at HST
     clear hx hc HR hq hod HB
     generalize cellsL (V.take j) = s at *
     cases q with
     | true =>
      have HR3 : Hid (R = if (V.drop (max nv (j + 1))).any (fun v => !isNameL v.name) then 5 else 0) := by unfold Hid; rw [show max nv (j + 1) = j + 1 by omega]; exact HST.out
      clear HST hov
      go_wp2_with fail
      refine (HIN.out _).mono ?_
      rintro e w8 ⟨rfl, rfl⟩
      have HB8 : Hid (Below w.heap.size w _) := HBX.out (.cells #[.string (bs x.name), .int .i64 x.kind, .int .i64 x.type, .int .i64 x.size, .bool true, .int .i64 s] 136)
      clear HIN c0 c1 c2 c3 c4 c5
      go_wp2_with fail
      go_roundw
      case rel => exact ⟨j + 1, by omega, by go_num, HR3, HB8⟩
      case measure => simp [intOf]; omega
     | false =>
      have HR3 : Hid (R = 5) := by unfold Hid; rw [HST.out]; rfl
      clear HST hov
      go_wp2_with fail
      refine (HIN.out _).mono ?_
      rintro e w8 ⟨rfl, rfl⟩
      have HB8 : Hid (Below w.heap.size w _) := HBX.out (.cells #[.string (bs x.name), .int .i64 x.kind, .int .i64 x.type, .int .i64 x.size, .bool true, .int .i64 s] 136)
      clear HIN c0 c1 c2 c3 c4 c5
      go_wp2_with fail
      go_ret
      exact ⟨by rw [HR3.out]; rfl, HB8.out⟩
    ·have HR3 : Hid (R = if (V.drop (max nv (j + 1))).any (fun v => !isNameL v.name) then 5 else 0) := by unfold Hid; rw [HR.out, show max nv (j + 1) = max nv j by omega]
     have hod : decide (nv ≤ j) = false := decide_eq_false hov
     rw [hod] at c4
     clear hx hc HR hod HB hov
     generalize cellsL (V.take j) = s at *
     have HB8 : Hid (Below w.heap.size w _) := HBX.out (.cells #[.string (bs x.name), .int .i64 x.kind, .int .i64 x.type, .int .i64 x.size, .bool false, .int .i64 s] 136)
     go_wp2_with fail
     go_roundw
     case rel => exact ⟨j + 1, by omega, by go_num, HR3, HB8⟩
     case measure => simp [intOf]; omega
   ·have hje : j = V.length := by omega
    have HR3 : Hid (R = 0) := by unfold Hid; rw [HR.out, show max nv j = V.length by omega, List.drop_length]; rfl
    clear HR hje
    go_wp2_with fail
    go_ret
    exact ⟨by rw [HR3.out]; rfl, HB.out⟩
end Go.Proofs.YtcecfmdjicjngaaGreatDoor
namespace Go.Proofs.YtcecfmdjicjngaaGreatDoor
open Go.RowKit
set_option linter.unusedVariables false
attribute [local go_sem] bs_size bs_get bs_extract bs_append bs_eq bs_toList
def mayF (T : LTree) : Met :=
 if namesF (allL 0 T) T.vars.length ≠ 0 then (namesF (allL 0 T) T.vars.length, -1)
 else if (bodyF (allL 0 T) T).1 ≠ 0 then bodyF (allL 0 T) T else if 2000 < budT T ∨ 60 < cellsL (allL 0 T) then (2, -1) else (0, 0)
set_option maxHeartbeats 12800000 in
set_option maxRecDepth 100000 in
theorem mayRun_any (lo : Nat) (vv vn vb : Value) (T : LTree) (w : World) (h : TreeV lo w vv vn vb T) (hS : Sized 1048576 T) (h0 : faultL T = 0) :
  Calls Tryz.prog 75 #[treeV vv vn vb] w fun e w' => e = .returned (errV (mayF T)) ∧ Below w.heap.size w w' := by
 have hG := good_of h0
 have HVA : Hid (∀ (w' : World), Below w.heap.size w w' → Calls Tryz.prog 91 #[treeV vv vn vb] w' fun e w2 => ∃ v, e = .returned v ∧ w2.ownsRow w'.heap.size 136 6 v (allL 0 T).length (entC (allL 0 T) T.vars.length (allL 0 T).length) ∧ Below w'.heap.size w' w2) := fun w' hb => variablesOf_any lo vv vn vb T w' (h.below hb) hG
 have HNF : Hid (∀ (ad : Option Addr) (c : Nat) (W : World), RowE W ad (allL 0 T) T.vars.length → Calls Tryz.prog 142 #[.slice ad (allL 0 T).length c] W fun e w' => e = .returned (.int .i64 (namesF (allL 0 T) T.vars.length)) ∧ Below W.heap.size W w') := fun ad c W hr =>
  namesFault_any (allL 0 T) T.vars.length ad _ c W rfl hr (hG.all_len 0) (fun x hx => by have := all_names hG 0 x hx; omega) (by unfold allL; rw [List.length_append]; omega)
 have HCC : Hid (∀ (ad : Option Addr) (c : Nat) (W : World), RowE W ad (allL 0 T) T.vars.length → Calls Tryz.prog 90 #[.slice ad (allL 0 T).length c] W fun e w' => e = .returned (.int .i64 (cellsL (allL 0 T))) ∧ Below W.heap.size W w') := fun ad c W hr => cellCount_any (allL 0 T) T.vars.length ad _ c W rfl hr (hG.sizes 0) (hG.all_len 0)
 have HBU : Hid (∀ (w' : World), Below w.heap.size w w' → Calls Tryz.prog 76 #[treeV vv vn vb] w' fun e w2 => e = .returned (.int .i64 (budT T)) ∧ Below w'.heap.size w' w2) := fun w' hb => budgetOf_any lo vv vn vb T w' (h.below hb) hS hG
 have HNC : Hid (∀ (w' : World), Below w.heap.size w w' → Calls Tryz.prog 81 #[treeV vv vn vb] w' fun e w2 => (∃ cp mp W0, e = .returned (.pointer (some ⟨cp, 0, none⟩)) ∧ CkB lo W0 cp mp vn T (allL 0 T) ∧ ICk W0 w2 cp mp vn (.slice none 0 0) ∧ Below w'.heap.size w' W0) ∧ Below w'.heap.size w' w2) := fun w' hb => newChecker_ctx lo vv vn vb T w' (h.below hb) hG
 have HST : Hid (∀ (W0 W : World) (cp mp : Nat), Below w.heap.size w W0 → CkB lo W0 cp mp vn T (allL 0 T) → ICk W0 W cp mp vn (.slice none 0 0) → Calls Tryz.prog 143 #[.pointer (some ⟨cp, 0, none⟩), vb] W fun e w' => e = .returned (errV (bodyF (allL 0 T) T)) ∧ Below W0.heap.size W w') := fun W0 W cp mp hb hck hic => by
  have hct : CkT lo W0 cp mp vn T (allL 0 T) := ⟨hck, fun vl f x hx hk hf => typeOf_all lo cp mp vn vl T (allL 0 T) (types_ok hG 0) (fits_of h0) (names_small hS) x hx hk f (by omega), fits_of h0, kin_of h0, stk_of h0, hS⟩
  refine (statements_all lo W0 cp mp (cp + 1) 0 vn T hct rfl T.nodes.length (Nat.le_refl _) [] T.body (by have := hG.nodes; simp; omega) hS.body (fun x hx => ⟨hG.body x hx, body_stat h0 x hx⟩) W vb _ hic (LoopO.nil _ _) (h.below hb).body).mono ?_
  rintro e w' ⟨he, vl, _, _, hd⟩
  exact ⟨he, hd.belowN hck.low hic.bel.size rfl⟩
 have hbb : 0 ≤ budT T ∧ budT T ≤ 104857600001 := by
  have := sum_big (costsF_le T.nodes (hG.tame hS) _ (Nat.le_refl _)) hS.body
  unfold budT; omega
 obtain ⟨av, cv, rfl, _⟩ := id h.vars
 obtain ⟨an, cn, rfl, _⟩ := id h.nodes
 obtain ⟨ab, cb, rfl, _⟩ := id h.body
 clear h hS h0 hG
 obtain ⟨R, hR⟩ : ∃ R, R = mayF T := ⟨_, rfl⟩
 rw [← hR]
 have HR : Hid (R = if namesF (allL 0 T) T.vars.length ≠ 0 then (namesF (allL 0 T) T.vars.length, -1)
  else if (bodyF (allL 0 T) T).1 ≠ 0 then bodyF (allL 0 T) T else if 2000 < budT T ∨ 60 < cellsL (allL 0 T) then (2, -1) else (0, 0)) := hR
 clear hR
 generalize namesF (allL 0 T) T.vars.length = F at *
 generalize bodyF (allL 0 T) T = Bd at *
 generalize budT T = bu at *
 obtain ⟨b1, b2⟩ := Bd
 go_enter Tryz.func75, Tryz.ntmps75
 go_wp2_with fail
 have hA := heap_alloc_new w (.cells #[.slice av T.vars.length cv, .slice an T.nodes.length cn, .slice ab T.body.length cb] 28)
 have hb1 : Below w.heap.size w (w.alloc (.cells #[.slice av T.vars.length cv, .slice an T.nodes.length cn, .slice ab T.body.length cb] 28)) := (Below.refl _ _).alloc (Nat.le_refl _) _
 generalize w.alloc (.cells #[.slice av T.vars.length cv, .slice an T.nodes.length cn, .slice ab T.body.length cb] 28) = W1 at *
 refine (HVA.out _ hb1).mono ?_
 rintro e w2 ⟨v, rfl, hown, hb⟩
 obtain ⟨ad, cp0, rfl⟩ := rowE_shape hown
 have HRE : Hid (RowE w2 ad (allL 0 T) T.vars.length) := RowE.of_own hown rfl
 have HA : Hid (w2.heap[w.heap.size]? = some (.cells #[.slice av T.vars.length cv, .slice an T.nodes.length cn, .slice ab T.body.length cb] 28 (0, 0))) := blk hA hb
 have HB : Hid (Below w.heap.size w w2) := hb1.trans (hb.mono hb1.size)
 clear hA hb1 hb hown HVA
 go_wp2_with fail
 refine (HNF.out _ _ _ HRE.out).mono ?_
 rintro e w3 ⟨rfl, hb⟩
 have HRE3 : Hid (RowE w3 ad (allL 0 T) T.vars.length) := HRE.out.below hb
 have hA3 := blk HA.out hb
 have HA3 := hid hA3
 have HB3 : Hid (Below w.heap.size w w3) := HB.out.trans (hb.mono HB.out.size)
 clear hb hA3 HRE HA HB HNF
 by_cases hF : F = 0
 ·subst hF
  have HR2 : Hid (R = if b1 ≠ 0 then (b1, b2) else if 2000 < bu ∨ 60 < cellsL (allL 0 T) then (2, -1) else (0, 0)) := by unfold Hid; rw [HR.out, if_neg (by simp)]
  clear HR
  obtain ⟨p0, p1, p2⟩ := cl3 HA3.out
  have hlt : w.heap.size < w3.heap.size := blk_lt HA3.out
  have HBD : Hid (Below w.heap.size w w3.drew) := HB3.out.drew
  have HX : Hid (w3.drew.heap[w.heap.size]? = some (.cells #[.slice av T.vars.length cv, .slice an T.nodes.length cn, .slice ab T.body.length cb] 28 (0, 0)) ∧ RowE w3.drew ad (allL 0 T) T.vars.length) := ⟨HA3.out, fun hne => HRE3.out hne⟩
  go_wp2_with fail
  go_region_held3 (fun Z => Z.cell? ⟨w.heap.size, 0, none⟩ = some (.slice av T.vars.length cv) ∧ Z.cell? ⟨w.heap.size, 1, none⟩ = some (.slice an T.nodes.length cn) ∧ Z.cell? ⟨w.heap.size, 2, none⟩ = some (.slice ab T.body.length cb)) (go_keep) (first | (go_at_call 81; refine (HNC.out _ HBD.out).mono ?_; rintro e w5 ⟨⟨cp, mp, W0, rfl, hck, hic, hw0⟩, hb5⟩; have s0 := (hb5.cell (p := ⟨w.heap.size, 0, none⟩) hlt).trans p0; have s1 := (hb5.cell (p := ⟨w.heap.size, 1, none⟩) hlt).trans p1; have s2 := (hb5.cell (p := ⟨w.heap.size, 2, none⟩) hlt).trans p2; have HS5 : Hid (Calls Tryz.prog 143 #[.pointer (some ⟨cp, 0, none⟩), .slice ab T.body.length cb] w5 fun e w' => e = .returned (errV (b1, b2)) ∧ Below W0.heap.size w5 w') := HST.out W0 w5 cp mp (HBD.out.trans (hw0.mono HBD.out.size)) hck hic; have HB5 : Hid (Below w3.drew.heap.size w3.drew w5) := hb5; have HW0 : Hid (w3.drew.heap.size ≤ W0.heap.size) := hw0.size; clear hck hic hw0 hb5) | (go_at_call 143; refine HS5.out.mono ?_; rintro e w6 ⟨rfl, hb6⟩; have HB6 : Hid (Below w3.drew.heap.size w3.drew w6) := HB5.out.trans (hb6.mono HW0.out); have u0 := (HB6.out.cell (p := ⟨w.heap.size, 0, none⟩) hlt).trans p0; have u1 := (HB6.out.cell (p := ⟨w.heap.size, 1, none⟩) hlt).trans p1; have u2 := (HB6.out.cell (p := ⟨w.heap.size, 2, none⟩) hlt).trans p2; clear hb6))
  have HB7 : Hid (Below w.heap.size w w6) := HBD.out.trans (HB6.out.mono HBD.out.size)
  have HRE7 : Hid (RowE w6 ad (allL 0 T) T.vars.length) := HX.out.2.below HB6.out
  clear p0 p1 p2 s0 s1 s2 HS5 HB5 HW0 HB6 HX HBD HRE3 HA3 HB3 HNC HST
  by_cases hb : b1 = 0
  ·subst hb
   have HR3 : Hid (R = if 2000 < bu ∨ 60 < cellsL (allL 0 T) then (2, -1) else (0, 0)) := by unfold Hid; rw [HR2.out, if_neg (by simp)]
   rw [errV_zero rfl]
   clear HR2
   go_wp2_with fail
   refine (HBU.out _ HB7.out).mono ?_
   rintro e w8 ⟨rfl, hb8⟩
   have HB8 : Hid (Below w.heap.size w w8) := HB7.out.trans (hb8.mono HB7.out.size)
   have HRE8 : Hid (RowE w8 ad (allL 0 T) T.vars.length) := HRE7.out.below hb8
   clear hb8 HB7 HRE7 u0 u1 u2 HBU
   by_cases hbu : 2000 < bu
   ·have hbd : decide ((2000 : Int) < bu) = true := decide_eq_true hbu
    have HRR : Hid (errV R = .iface 107 (.agg #[.int .i64 2, .int .i64 (-1)])) := by unfold Hid; rw [HR3.out, if_pos (Or.inl hbu), errV_met (show (((2 : Int), (-1 : Int)) : Met).1 ≠ 0 from by simp)]
    clear HR3 hbu HCC
    go_wp2_with fail
    go_ret
    exact ⟨by rw [HRR.out]; rfl, HB8.out⟩
   ·have hbd : decide ((2000 : Int) < bu) = false := decide_eq_false hbu
    by_cases hce : 60 < cellsL (allL 0 T)
    ·have HRR : Hid (errV R = .iface 107 (.agg #[.int .i64 2, .int .i64 (-1)])) := by unfold Hid; rw [HR3.out, if_pos (Or.inr hce), errV_met (show (((2 : Int), (-1 : Int)) : Met).1 ≠ 0 from by simp)]
     clear HR3 hbu
     go_wp2_with fail
     refine (HCC.out _ _ _ HRE8.out).mono ?_
     rintro e w9 ⟨rfl, hb9⟩
     have HB9 : Hid (Below w.heap.size w w9) := HB8.out.trans (hb9.mono HB8.out.size)
     clear hb9 HB8 HCC HRE8
     go_wp2_with fail
     go_ret
     exact ⟨by rw [HRR.out]; rfl, HB9.out⟩
    ·have HRR : Hid (errV R = .nilIface) := by unfold Hid; rw [HR3.out, if_neg (fun h => h.elim hbu hce), errV_zero rfl]
     clear HR3 hbu
     go_wp2_with fail
     refine (HCC.out _ _ _ HRE8.out).mono ?_
     rintro e w9 ⟨rfl, hb9⟩
     have HB9 : Hid (Below w.heap.size w w9) := HB8.out.trans (hb9.mono HB8.out.size)
     clear hb9 HB8 HCC HRE8
     go_wp2_with fail
     go_ret
     exact ⟨by rw [HRR.out]; rfl, HB9.out⟩
  ·have HRR : Hid (errV R = .iface 107 (.agg #[.int .i64 b1, .int .i64 b2])) := by unfold Hid; rw [HR2.out, if_pos hb, errV_met (show ((b1, b2) : Met).1 ≠ 0 from hb)]
   rw [errV_met (show ((b1, b2) : Met).1 ≠ 0 from hb)]
   clear HR2 hb HBU HCC
   go_wp2_with fail
   go_ret
   exact ⟨by rw [HRR.out]; rfl, HB7.out⟩
 ·have hFb : (F == 0) = false := by simpa using hF
  have hFd : decide (F = 0) = false := decide_eq_false hF
  have HRR : Hid (errV R = .iface 107 (.agg #[.int .i64 F, .int .i64 (-1)])) := by unfold Hid; rw [HR.out, if_pos hF, errV_met (show ((F, (-1 : Int)) : Met).1 ≠ 0 from hF)]
  clear HR hF HNC HST HBU HCC
  go_wp2_with fail
  go_ret
  exact ⟨by rw [HRR.out]; rfl, HB3.out⟩
end Go.Proofs.YtcecfmdjicjngaaGreatDoor
namespace Go.Proofs.YtcecfmdjicjngaaGreatDoor
open Go.RowKit Go.Extern.Stop Go.Stop Go.Extern
set_option linter.unusedVariables false
theorem as_nil (t : Value) (w : World) :
  Calls Tryz.prog 141 #[.nilIface, t] w fun e w' => e = .returned (.bool false) ∧ w' = w := by
 go_enter Tryz.func141, Tryz.ntmps141
 go_wp2
 go_ret
 exact ⟨rfl, rfl⟩
theorem valueOfP (t : Addr) (w : World) : (ReflectliteValue.unpack (.iface 186 (.pointer (some t)))).run Tryz.prog w
  = .ok (.agg #[.pointer (some ⟨1, 186, none⟩), .pointer (some ⟨w.heap.size, 0, none⟩), .int .u64 150]) (w.alloc (.cells #[.pointer (some t)] 186)) := by kernel_rfl
theorem typeP (a : Addr) (w : World) : (ReflectliteValue.methodAny (ReflectliteValue.valueError "reflectlite.Value.Type" 0) (fun t _ _ _ => ReflectliteType.toType t) #[.agg #[.pointer (some ⟨1, 186, none⟩), .pointer (some a), .int .u64 150]]).run Tryz.prog w
  = .ok (.iface 293 (.agg #[.pointer (some ⟨1, 186, none⟩)])) w := by kernel_rfl
theorem kindP (w : World) : ((ReflectliteType.abiMethod fun t => (fun a : Nat => Value.int IntKind.u8 (a : Int)) <$> Rtype.kind t) #[.pointer (some ⟨1, 186, none⟩)]).run Tryz.prog w = .ok (.int .u8 22) w := by kernel_rfl
theorem kindM (w : World) : ((ReflectliteType.abiMethod fun t => (fun a : Nat => Value.int IntKind.u8 (a : Int)) <$> Rtype.kind t) #[.pointer (some ⟨1, 107, none⟩)]).run Tryz.prog w = .ok (.int .u8 25) w := by kernel_rfl
theorem rlm (z : Sem Value) (f : TypeId → Addr → Nat → Nat → Sem Value) (v : Value) :
  ReflectliteValue.method z f #[v] = (do match ← ReflectliteValue.parts v with | none => z | some (t, a, fl) => f t a fl (fl % 32)) := rfl
theorem partsP (a : Addr) (w : World) : (ReflectliteValue.parts (.agg #[.pointer (some ⟨1, 186, none⟩), .pointer (some a), .int .u64 150])).run Tryz.prog w = .ok (some (186, a, 150)) w := by kernel_rfl
theorem isNilP (a p : Addr) (W : World) (ha : W.cell? a = some (.pointer (some p))) :
  (ReflectliteValue.method (ReflectliteValue.valueError "reflectlite.Value.IsNil" 0) ReflectliteValue.isNil #[.agg #[.pointer (some ⟨1, 186, none⟩), .pointer (some a), .int .u64 150]]).run Tryz.prog W = .ok (.bool false) W := by
 rw [rlm]
 simp only [Sem.run_bind, partsP, Result.andThen]
 simp [ReflectliteValue.isNil, loadVar, isAgg, underlying, Tryz.underlying186, ha, Result.andThen]
theorem elemP (w : World) : (ReflectliteType.method ReflectliteType.elem #[.agg #[.pointer (some ⟨1, 186, none⟩)]]).run Tryz.prog w = .ok (.iface 293 (.agg #[.pointer (some ⟨1, 107, none⟩)])) w := by kernel_rfl
theorem implementsM (w : World) : (ReflectliteType.relation "Implements" ReflectliteType.implements_ #[.agg #[.pointer (some ⟨1, 107, none⟩)], .iface 293 (.agg #[.pointer (some ⟨1, 111, none⟩)])]).run Tryz.prog w = .ok (.bool true) w := by kernel_rfl
theorem typeOfM (v : Value) (w : World) : (ReflectliteType.typeOf #[.iface 107 v]).run Tryz.prog w = .ok (.iface 293 (.agg #[.pointer (some ⟨1, 107, none⟩)])) w := by kernel_rfl
theorem assignableM (w : World) : (ReflectliteType.relation "AssignableTo" ReflectliteType.assignableTo #[.agg #[.pointer (some ⟨1, 107, none⟩)], .iface 293 (.agg #[.pointer (some ⟨1, 107, none⟩)])]).run Tryz.prog w = .ok (.bool true) w := by kernel_rfl
theorem valueOfM (c n : Int) (w : World) : (ReflectliteValue.unpack (.iface 107 (.agg #[.int .i64 c, .int .i64 n]))).run Tryz.prog w
  = .ok (.agg #[.pointer (some ⟨1, 107, none⟩), .pointer (some ⟨w.heap.size, 0, none⟩), .int .u64 153]) (w.alloc (.cells #[.int .i64 c, .int .i64 n] 107)) := by kernel_rfl
theorem elemOfP (w : World) : (Rtype.elem? 186).run Tryz.prog w = .ok (some 107) w := by kernel_rfl
theorem mkM (p : Addr) (w : World) : (ReflectliteValue.mk 107 p ReflectliteValue.flagAddr).run Tryz.prog w = .ok (.agg #[.pointer (some ⟨1, 107, none⟩), .pointer (some p), .int .u64 409]) w := by kernel_rfl
theorem elemVP (a p : Addr) (W : World) (ha : W.cell? a = some (.pointer (some p))) :
  (ReflectliteValue.method (ReflectliteValue.valueError "reflectlite.Value.Elem" 0) ReflectliteValue.elem #[.agg #[.pointer (some ⟨1, 186, none⟩), .pointer (some a), .int .u64 150]]).run Tryz.prog W
   = .ok (.agg #[.pointer (some ⟨1, 107, none⟩), .pointer (some p), .int .u64 409]) W := by
 rw [rlm]
 simp only [Sem.run_bind, partsP, Result.andThen]
 simp [ReflectliteValue.elem, loadVar, isAgg, underlying, Tryz.underlying186, ha, Result.andThen, elemOfP, mkM]
theorem partsMa (a : Addr) (w : World) : (ReflectliteValue.parts (.agg #[.pointer (some ⟨1, 107, none⟩), .pointer (some a), .int .u64 409])).run Tryz.prog w = .ok (some (107, a, 409)) w := by kernel_rfl
theorem partsM (a : Addr) (w : World) : (ReflectliteValue.parts (.agg #[.pointer (some ⟨1, 107, none⟩), .pointer (some a), .int .u64 153])).run Tryz.prog w = .ok (some (107, a, 153)) w := by kernel_rfl
theorem directM (w : World) : (Rtype.directlyAssignable 107 107).run Tryz.prog w = .ok true w := by kernel_rfl
theorem sizeM (w : World) : (sizeOf 107).run Tryz.prog w = .ok 2 w := by kernel_rfl
end Go.Proofs.YtcecfmdjicjngaaGreatDoor
namespace Go.Proofs.YtcecfmdjicjngaaGreatDoor
open Go.RowKit Go.Extern.Stop Go.Stop Go.Extern
set_option linter.unusedVariables false
theorem methodKind (h : Value) (w : World) : (Go.method 369 293 (.agg #[h]) "Kind").run Tryz.prog w = .ok (328, h) w := by kernel_rfl
theorem methodElem (h : Value) (w : World) : (Go.method 369 293 (.agg #[h]) "Elem").run Tryz.prog w = .ok (338, .agg #[h]) w := by kernel_rfl
theorem methodImplements (h : Value) (w : World) : (Go.method 369 293 (.agg #[h]) "Implements").run Tryz.prog w = .ok (339, .agg #[h]) w := by kernel_rfl
theorem methodAssignableTo (h : Value) (w : World) : (Go.method 369 293 (.agg #[h]) "AssignableTo").run Tryz.prog w = .ok (336, .agg #[h]) w := by kernel_rfl
theorem rls (v x : Value) : ReflectliteValue.set #[v, x] = (do
  let (some (dst, a, fl), some (src, b, _)) := (← ReflectliteValue.parts v, ← ReflectliteValue.parts x)
   | unsupported (.noEntry "extern/(internal/reflectlite.Value).Set.zeroValue")
  if fl / ReflectliteValue.flagAddr % 2 == 0 then unsupported (.noEntry "extern/(internal/reflectlite.Value).Set.unaddressable")
  let val ← loadVar src b
  if ← Rtype.directlyAssignable dst src then storeVar dst a val
  else if ← Rtype.implements dst src then
   if (← Rtype.kind src) == 20 then
    match val with
    | .nilIface => unsupported (.noEntry "extern/reflectlite: a nil value of one interface type handed on as a value of another")
    | _ => storeVar dst a val
   else storeVar dst a (.iface src val)
  else panicString ("reflectlite.Set: value of type " ++ (← Rtype.spelt src) ++ " is not assignable to type " ++ (← Rtype.spelt dst))
  pure (.tuple #[])) := rfl
theorem loadM (g : Nat) (c n : Int) (W : World) (h : W.heap[g]? = some (.cells #[.int .i64 c, .int .i64 n] 107 (0, 0))) : (loadVar 107 ⟨g, 0, none⟩).run Tryz.prog W = .ok (.agg #[.int .i64 c, .int .i64 n]) W := by
 obtain ⟨c0, c1⟩ := cl2 h
 simp [loadVar, go_sem, c0, c1]
theorem storeM (g : Nat) (c n x y : Int) (W : World) (h : W.heap[g]? = some (.cells #[.int .i64 x, .int .i64 y] 107 (0, 0))) : (storeVar 107 ⟨g, 0, none⟩ (.agg #[.int .i64 c, .int .i64 n])).run Tryz.prog W = .ok () ((W.setCell ⟨g, 0, none⟩ (.int .i64 c)).setCell ⟨g, 1, none⟩ (.int .i64 n)) := by
 obtain ⟨c0, c1⟩ := cl2 h
 obtain ⟨f0, f1⟩ := fl2 h
 simp [storeVar, go_sem, c0, c1, f0, f1]
theorem heap_last2 (w : World) (o : Obj) (g : Nat) (h : w.heap.size = g) : (w.alloc o).heap[g]? = some o := by subst h; exact heap_alloc_new w o
theorem setM (tg bg : Nat) (c n x y : Int) (W : World) (hb : W.heap[bg]? = some (.cells #[.int .i64 c, .int .i64 n] 107 (0, 0))) (ht : W.heap[tg]? = some (.cells #[.int .i64 x, .int .i64 y] 107 (0, 0))) :
  (ReflectliteValue.set #[.agg #[.pointer (some ⟨1, 107, none⟩), .pointer (some ⟨tg, 0, none⟩), .int .u64 409], .agg #[.pointer (some ⟨1, 107, none⟩), .pointer (some ⟨bg, 0, none⟩), .int .u64 153]]).run Tryz.prog W
   = .ok (.tuple #[]) ((W.setCell ⟨tg, 0, none⟩ (.int .i64 c)).setCell ⟨tg, 1, none⟩ (.int .i64 n)) := by
 rw [rls]
 simp only [Sem.run_bind, partsMa, partsM, Result.andThen]
 simp [ReflectliteValue.flagAddr, loadM bg c n W hb, Result.andThen, directM, storeM tg c n x y W ht]
set_option maxHeartbeats 8000000 in
theorem as_world (c n x y : Int) (g : Nat) (w : World) (hg : w.cell? ⟨0, 0, none⟩ = some (.iface 293 (.agg #[.pointer (some ⟨1, 111, none⟩)]))) (ht : w.heap[g]? = some (.cells #[.int .i64 x, .int .i64 y] 107 (0, 0))) :
  Calls Tryz.prog 141 #[.iface 107 (.agg #[.int .i64 c, .int .i64 n]), .iface 186 (.pointer (some ⟨g, 0, none⟩))] w fun ev w' => ev = .returned (.bool true) ∧ w' = (((((w.alloc (.cells #[.pointer (some ⟨g, 0, none⟩)] 186)).alloc (.cells #[.pointer (some ⟨1, 186, none⟩), .pointer (some ⟨w.heap.size, 0, none⟩), .int .u64 150] 251)).alloc (.cells #[.pointer (some ⟨1, 186, none⟩), .pointer (some ⟨w.heap.size, 0, none⟩), .int .u64 150] 251)).alloc (.cells #[.int .i64 c, .int .i64 n] 107)).setCell ⟨g, 0, none⟩ (.int .i64 c)).setCell ⟨g, 1, none⟩ (.int .i64 n) := by
 have h6 := @run_callFunc_extern Tryz.prog 206 _ (fun args => ReflectliteValue.unpack (args.getD 0 (.tuple #[]))) Tryz.func206 (by kernel_rfl) (by kernel_rfl) (by kernel_rfl) (by kernel_rfl)
 have h7 := @run_callFunc_extern Tryz.prog 207 _ (ReflectliteValue.methodAny (ReflectliteValue.valueError "reflectlite.Value.Type" 0) (fun t _ _ _ => ReflectliteType.toType t)) Tryz.func207 (by kernel_rfl) (by kernel_rfl) (by kernel_rfl) (by kernel_rfl)
 have h8 := @run_callFunc_extern Tryz.prog 208 _ (ReflectliteValue.method (ReflectliteValue.valueError "reflectlite.Value.IsNil" 0) ReflectliteValue.isNil) Tryz.func208 (by kernel_rfl) (by kernel_rfl) (by kernel_rfl) (by kernel_rfl)
 have h27 := @run_callFunc_extern Tryz.prog 328 _ (ReflectliteType.abiMethod fun t => do pure (.int .u8 (← Rtype.kind t))) Tryz.func328 (by kernel_rfl) (by kernel_rfl) (by kernel_rfl) (by kernel_rfl)
 have h37 := @run_callFunc_extern Tryz.prog 338 _ (ReflectliteType.method ReflectliteType.elem) Tryz.func338 (by kernel_rfl) (by kernel_rfl) (by kernel_rfl) (by kernel_rfl)
 have h38 := @run_callFunc_extern Tryz.prog 339 _ (ReflectliteType.relation "Implements" ReflectliteType.implements_) Tryz.func339 (by kernel_rfl) (by kernel_rfl) (by kernel_rfl) (by kernel_rfl)
 have h10 := @run_callFunc_extern Tryz.prog 251 _ ReflectliteType.typeOf Tryz.func251 (by kernel_rfl) (by kernel_rfl) (by kernel_rfl) (by kernel_rfl)
 have h35 := @run_callFunc_extern Tryz.prog 336 _ (ReflectliteType.relation "AssignableTo" ReflectliteType.assignableTo) Tryz.func336 (by kernel_rfl) (by kernel_rfl) (by kernel_rfl) (by kernel_rfl)
 have h11 := @run_callFunc_extern Tryz.prog 252 _ (ReflectliteValue.method (ReflectliteValue.valueError "reflectlite.Value.Elem" 0) ReflectliteValue.elem) Tryz.func252 (by kernel_rfl) (by kernel_rfl) (by kernel_rfl) (by kernel_rfl)
 have h12 := @run_callFunc_extern Tryz.prog 253 _ ReflectliteValue.set Tryz.func253 (by kernel_rfl) (by kernel_rfl) (by kernel_rfl) (by kernel_rfl)
 have tO := typeOfM
 have mA := methodAssignableTo
 have a25 := assignableM
 have v25 := valueOfM
 have f6 := valueOfP
 have f7 := typeP
 have mK := methodKind
 have mE := methodElem
 have mI := methodImplements
 have k27 := kindP
 have k25 := kindM
 have e27 := elemP
 have i25 := implementsM
 have htl : g < w.heap.size := (Array.getElem?_eq_some_iff.1 ht).1
 have hlt : 0 < w.heap.size := World.block_lt_of_cell? _ _ hg
 have b1 : Below w.heap.size w (w.alloc (.cells #[.pointer (some ⟨g, 0, none⟩)] 186)) := (Below.refl _ _).alloc (Nat.le_refl _) _
 have b2 : Below w.heap.size w ((w.alloc (.cells #[.pointer (some ⟨g, 0, none⟩)] 186)).alloc (.cells #[.pointer (some ⟨1, 186, none⟩), .pointer (some ⟨w.heap.size, 0, none⟩), .int .u64 150] 251)) := b1.alloc b1.size _
 have b3 : Below w.heap.size w (((w.alloc (.cells #[.pointer (some ⟨g, 0, none⟩)] 186)).alloc (.cells #[.pointer (some ⟨1, 186, none⟩), .pointer (some ⟨w.heap.size, 0, none⟩), .int .u64 150] 251)).alloc (.cells #[.pointer (some ⟨1, 186, none⟩), .pointer (some ⟨w.heap.size, 0, none⟩), .int .u64 150] 251)) := b2.alloc b2.size _
 have b4 : Below w.heap.size w ((((w.alloc (.cells #[.pointer (some ⟨g, 0, none⟩)] 186)).alloc (.cells #[.pointer (some ⟨1, 186, none⟩), .pointer (some ⟨w.heap.size, 0, none⟩), .int .u64 150] 251)).alloc (.cells #[.pointer (some ⟨1, 186, none⟩), .pointer (some ⟨w.heap.size, 0, none⟩), .int .u64 150] 251)).alloc (.cells #[.int .i64 c, .int .i64 n] 107)) := b3.alloc b3.size _
 have n8 := isNilP ⟨w.heap.size, 0, none⟩ ⟨g, 0, none⟩ ((w.alloc (.cells #[.pointer (some ⟨g, 0, none⟩)] 186)).alloc (.cells #[.pointer (some ⟨1, 186, none⟩), .pointer (some ⟨w.heap.size, 0, none⟩), .int .u64 150] 251)) (by simp)
 have hg2 : ((w.alloc (.cells #[.pointer (some ⟨g, 0, none⟩)] 186)).alloc (.cells #[.pointer (some ⟨1, 186, none⟩), .pointer (some ⟨w.heap.size, 0, none⟩), .int .u64 150] 251)).cell? ⟨0, 0, none⟩ = some (.iface 293 (.agg #[.pointer (some ⟨1, 111, none⟩)])) := (b2.cell (p := ⟨0, 0, none⟩) hlt).trans hg
 have el := elemVP ⟨w.heap.size, 0, none⟩ ⟨g, 0, none⟩ (((w.alloc (.cells #[.pointer (some ⟨g, 0, none⟩)] 186)).alloc (.cells #[.pointer (some ⟨1, 186, none⟩), .pointer (some ⟨w.heap.size, 0, none⟩), .int .u64 150] 251)).alloc (.cells #[.pointer (some ⟨1, 186, none⟩), .pointer (some ⟨w.heap.size, 0, none⟩), .int .u64 150] 251)) (by rw [World.cell?_alloc_lt _ _ ⟨w.heap.size, 0, none⟩ (by simp; omega)]; simp)
 have st := setM g (w.heap.size + 1 + 1 + 1) c n x y ((((w.alloc (.cells #[.pointer (some ⟨g, 0, none⟩)] 186)).alloc (.cells #[.pointer (some ⟨1, 186, none⟩), .pointer (some ⟨w.heap.size, 0, none⟩), .int .u64 150] 251)).alloc (.cells #[.pointer (some ⟨1, 186, none⟩), .pointer (some ⟨w.heap.size, 0, none⟩), .int .u64 150] 251)).alloc (.cells #[.int .i64 c, .int .i64 n] 107))
  (heap_last2 _ _ _ (by simp)) ((b4.block g htl).trans ht)
 clear b1 b2 b3 b4 ht htl hlt
 go_enter Tryz.func141, Tryz.ntmps141
 go_wp2
 refine wp_loop_rounds 1 ?_
 rw [rounds_succ]
 go_wp2
 go_ret
 exact ⟨rfl, rfl⟩
end Go.Proofs.YtcecfmdjicjngaaGreatDoor
namespace Go.Proofs.YtcecfmdjicjngaaGreatDoor
open Go.RowKit
set_option linter.unusedVariables false
def ErrT (w : World) : Prop := w.cell? ⟨0, 0, none⟩ = some (.iface 293 (.agg #[.pointer (some ⟨1, 111, none⟩)]))
theorem ErrT.below {w w' : World} {B : Nat} (h : ErrT w) (hb : Below B w w') (hB : 0 < B) : ErrT w' := (hb.cell (p := ⟨0, 0, none⟩) hB).trans h
theorem ErrT.lt {w : World} (h : ErrT w) : 0 < w.heap.size := World.block_lt_of_cell? _ _ h
theorem ErrT.kept {w w' : World} (h : ErrT w) (hb : Below w.heap.size w w') : ErrT w' := h.below hb h.lt
set_option maxHeartbeats 1600000 in
theorem misfit_nil (w : World) : Calls Tryz.prog 74 #[.nilIface] w fun e w' => e = .returned (.tuple #[.agg #[.int .i64 0, .int .i64 0], .bool false]) ∧ Below w.heap.size w w' := by
 go_enter Tryz.func74, Tryz.ntmps74
 go_wp2_with fail
 refine (as_nil _ _).mono ?_
 rintro e w2 ⟨rfl, rfl⟩
 go_wp2_with fail
 refine bodyPost_ret (v := .tuple #[.agg #[.int .i64 0, .int .i64 0], .bool false]) (by simp [results, Tryz.results74, go_sem]) rfl ⟨rfl, by go_grown⟩
set_option maxHeartbeats 1600000 in
theorem misfit_hit (c n : Int) (w : World) (hE : ErrT w) : Calls Tryz.prog 74 #[.iface 107 (.agg #[.int .i64 c, .int .i64 n])] w fun e w' => e = .returned (.tuple #[.agg #[.int .i64 c, .int .i64 n], .bool true]) ∧ Below w.heap.size w w' := by
 have hb : Below w.heap.size w (w.alloc (.cells #[.int .i64 0, .int .i64 0] 107)) := (Below.refl _ _).alloc (Nat.le_refl _) _
 have HG : Hid (ErrT (w.alloc (.cells #[.int .i64 0, .int .i64 0] 107))) := hE.kept hb
 have HT : Hid ((w.alloc (.cells #[.int .i64 0, .int .i64 0] 107)).heap[w.heap.size]? = some (.cells #[.int .i64 0, .int .i64 0] 107 (0, 0))) := heap_alloc_new _ _
 have HB := hid hb
 have HC : Hid (Calls Tryz.prog 141 #[.iface 107 (.agg #[.int .i64 c, .int .i64 n]), .iface 186 (.pointer (some ⟨w.heap.size, 0, none⟩))] (w.alloc (.cells #[.int .i64 0, .int .i64 0] 107)) fun ev w' => ev = .returned (.bool true) ∧ w'.heap[w.heap.size]? = some (.cells #[.int .i64 c, .int .i64 n] 107 (0, 0)) ∧ Below w.heap.size w w') :=
  (as_world c n 0 0 w.heap.size _ HG.out HT.out).mono (fun e w' h => by
   obtain ⟨rfl, rfl⟩ := h
   refine ⟨rfl, ?_, ?_⟩
   ·have e4 : ∀ (A B C D : Obj), ((((((w.alloc (.cells #[.int .i64 0, .int .i64 0] 107)).alloc A).alloc B).alloc C).alloc D)).heap[w.heap.size]? = some (.cells #[.int .i64 0, .int .i64 0] 107 (0, 0)) := fun A B C D => by
     have g1 := (Below.refl (w.heap.size + 1) (w.alloc (.cells #[.int .i64 0, .int .i64 0] 107))).alloc (by simp) A
     have g2 := g1.alloc (by simp) B
     have g3 := g2.alloc (by simp) C
     have g4 := g3.alloc (by simp) D
     exact (g4.block w.heap.size (by omega)).trans HT.out
    rw [heap_setCell_same _ _ _ _ _ _ (heap_setCell_same _ _ _ _ _ _ (e4 _ _ _ _))]
    rfl
   ·have := HB.out.size
    go_grown)
 clear hb HG HT HB hE
 go_enter Tryz.func74, Tryz.ntmps74
 go_wp2_with fail
 refine HC.out.mono ?_
 rintro e w2 ⟨rfl, hh, hb2⟩
 obtain ⟨c0, c1⟩ := cl2 hh
 obtain ⟨f0, f1⟩ := fl2 hh
 clear hh HC
 go_wp2_with fail
 refine bodyPost_ret (v := .tuple #[.agg #[.int .i64 c, .int .i64 n], .bool true]) (by simp [results, Tryz.results74, go_sem, c0, c1]) rfl ⟨rfl, ?_⟩
 go_grown
end Go.Proofs.YtcecfmdjicjngaaGreatDoor
namespace Go.Proofs.YtcecfmdjicjngaaGreatDoor
open Go.RowKit
set_option linter.unusedVariables false
attribute [local go_sem] bs_size bs_get bs_extract bs_append bs_eq bs_toList
theorem any_name (V W : List LVar) : V.map LVar.name = W.map LVar.name → V.any (fun v => !isNameL v.name) = W.any (fun v => !isNameL v.name) := by
 intro h
 have e : ∀ U : List LVar, U.any (fun v => !isNameL v.name) = (U.map LVar.name).any (fun l => !isNameL l) := fun U => by rw [List.any_map]; rfl
 rw [e, e, h]
theorem names_kind (T : LTree) : namesF (allL 3 T) T.vars.length = namesF (allL 0 T) T.vars.length := by
 unfold namesF
 rw [dup_kind T]
 have : (List.drop T.vars.length (allL 3 T)).any (fun v => !isNameL v.name) = (List.drop T.vars.length (allL 0 T)).any (fun v => !isNameL v.name) := by
  apply any_name
  rw [List.map_drop, List.map_drop, nts_names (allL_nts T)]
 rw [this]
theorem must_kind (T : LTree) : mustT (allL 3 T) T.vars.length T.nodes = mustT (allL 0 T) T.vars.length T.nodes := by
 funext y t st
 unfold mustT
 rw [typeF_kind]
theorem body_kind (T : LTree) : bodyF (allL 3 T) T = bodyF (allL 0 T) T := by unfold bodyF; rw [must_kind]
theorem cells_kind (T : LTree) : cellsL (allL 3 T) = cellsL (allL 0 T) := by
 have h := cellsL_kind T (allL 3 T).length
 rw [List.take_length, allL_len T, List.take_length] at h; exact h
theorem chk_may {T : LTree} (h0 : faultL T = 0) : chkT T = if (mayF T).1 ≠ 0 then (mayF T, 0) else ((0, 0), budT T) := by
 unfold chkT mayF
 rw [if_neg (by simp [h0]), names_kind, body_kind, cells_kind]
 by_cases h1 : namesF (allL 0 T) T.vars.length ≠ 0
 ·rw [if_pos h1, if_pos h1, if_pos h1]
 rw [if_neg h1, if_neg h1]
 by_cases h2 : (bodyF (allL 0 T) T).1 ≠ 0
 ·rw [if_pos h2, if_pos h2, if_pos h2]
 rw [if_neg h2, if_neg h2]
 by_cases h3 : 2000 < budT T ∨ 60 < cellsL (allL 0 T)
 ·rw [if_pos h3, if_pos h3, if_pos (by simp)]
 ·rw [if_neg h3, if_neg h3, if_neg (by simp)]
def Tree3 (f : FuncId) (R : LTree → Met × Int) : Prop := ∀ (lo : Nat) (vv vn vb : Value) (T : LTree) (w : World), TreeV lo w vv vn vb T → Sized 1048576 T →
 Calls Tryz.prog f #[treeV vv vn vb] w fun e w' => e = .returned (.agg #[.int .i64 (R T).1.1, .int .i64 (R T).1.2, .int .i64 (R T).2]) ∧ Below w.heap.size w w'
def Tree3G (f : FuncId) (R : LTree → Met × Int) : Prop := ∀ (lo : Nat) (vv vn vb : Value) (T : LTree) (w : World), TreeV lo w vv vn vb T → Sized 1048576 T → ErrT w →
 Calls Tryz.prog f #[treeV vv vn vb] w fun e w' => e = .returned (.agg #[.int .i64 (R T).1.1, .int .i64 (R T).1.2, .int .i64 (R T).2]) ∧ Below w.heap.size w w'
theorem specCheckTree : Tree3 18 chkT := fun lo vv vn vb T w h hS => specCheckTree_of lo vv vn vb T w h hS
set_option maxHeartbeats 6400000 in
set_option maxRecDepth 100000 in
theorem implCheckTree : Tree3G 17 chkT := by
 intro lo vv vn vb T w h hS hE
 have HF : Hid (∀ (w' : World), Below w.heap.size w w' → Calls Tryz.prog 21 #[treeV vv vn vb] w' fun e w2 => e = .returned (.int .i64 (faultL T)) ∧ Below w'.heap.size w' w2) := fun w' hb => implTreeFault lo _ _ _ T w' (h.below hb) hS
 have HM : Hid (faultL T = 0 → ∀ (w' : World), Below w.heap.size w w' → Calls Tryz.prog 75 #[treeV vv vn vb] w' fun e w2 => e = .returned (errV (mayF T)) ∧ Below w'.heap.size w' w2) := fun h0 w' hb => mayRun_any lo vv vn vb T w' (h.below hb) hS h0
 have HBU : Hid (faultL T = 0 → ∀ (w' : World), Below w.heap.size w w' → Calls Tryz.prog 76 #[treeV vv vn vb] w' fun e w2 => e = .returned (.int .i64 (budT T)) ∧ Below w'.heap.size w' w2) := fun h0 w' hb => budgetOf_any lo vv vn vb T w' (h.below hb) hS (good_of h0)
 have HER : Hid (∀ w', Below w.heap.size w w' → ErrT w') := fun w' hb => hE.kept hb
 obtain ⟨av, cv, rfl, _⟩ := id h.vars
 obtain ⟨an, cn, rfl, _⟩ := id h.nodes
 obtain ⟨ab, cb, rfl, _⟩ := id h.body
 have HCM : Hid (faultL T = 0 → chkT T = if (mayF T).1 ≠ 0 then (mayF T, 0) else ((0, 0), budT T)) := chk_may
 have HC0 : Hid (faultL T ≠ 0 → chkT T = ((faultL T, -1), 0)) := fun h0 => by unfold chkT; rw [if_pos h0]
 clear h hS hE
 obtain ⟨⟨⟨c1, c2⟩, c3⟩, hR⟩ : ∃ R, R = chkT T := ⟨_, rfl⟩
 rw [← hR] at HCM HC0 ⊢
 clear hR
 go_enter Tryz.func17, Tryz.ntmps17
 go_wp2_with fail
 obtain ⟨hA, hA2, hB⟩ := three_start w (.slice av T.vars.length cv) (.slice an T.nodes.length cn) (.slice ab T.body.length cb) 28 31
 generalize ((w.alloc (.cells #[.slice av T.vars.length cv, .slice an T.nodes.length cn, .slice ab T.body.length cb] 28)).alloc (.cells #[.int .i64 0, .int .i64 0, .int .i64 0] 31)) = W at *
 refine (HF.out _ hB).mono ?_
 rintro e w2 ⟨rfl, hb⟩
 have HA : Hid (w2.heap[w.heap.size]? = some (.cells #[.slice av T.vars.length cv, .slice an T.nodes.length cn, .slice ab T.body.length cb] 28 (0, 0))) := blk hA hb
 have HA2 : Hid (w2.heap[w.heap.size + 1]? = some (.cells #[.int .i64 0, .int .i64 0, .int .i64 0] 31 (0, 0))) := blk hA2 hb
 have HB : Hid (Below w.heap.size w w2) := hB.trans (hb.mono hB.size)
 clear hA hA2 hB hb HF
 obtain ⟨F, hF⟩ : ∃ F, faultL T = F := ⟨_, rfl⟩
 rw [hF] at HM HBU HCM HC0 ⊢
 clear hF
 by_cases hz : F = 0
 ·subst hz
  have HCV : Hid (((c1, c2), c3) = if (mayF T).1 ≠ 0 then (mayF T, 0) else ((0, 0), budT T)) := HCM.out rfl
  obtain ⟨p0, p1, p2⟩ := cl3 HA.out
  have HM2 : Hid (∀ (w' : World), Below w.heap.size w w' → Calls Tryz.prog 75 #[treeV (.slice av T.vars.length cv) (.slice an T.nodes.length cn) (.slice ab T.body.length cb)] w' fun e w2 => e = .returned (errV (mayF T)) ∧ Below w'.heap.size w' w2) := HM.out rfl
  have HBU2 : Hid (∀ (w' : World), Below w.heap.size w w' → Calls Tryz.prog 76 #[treeV (.slice av T.vars.length cv) (.slice an T.nodes.length cn) (.slice ab T.body.length cb)] w' fun e w2 => e = .returned (.int .i64 (budT T)) ∧ Below w'.heap.size w' w2) := HBU.out rfl
  clear HCM HC0 HM HBU
  generalize mayF T = m at *
  generalize budT T = bu at *
  obtain ⟨m1, m2⟩ := m
  go_wp2_with fail
  refine (HM2.out _ HB.out).mono ?_
  rintro e w3 ⟨rfl, hb⟩
  have HA3 : Hid (w3.heap[w.heap.size]? = some (.cells #[.slice av T.vars.length cv, .slice an T.nodes.length cn, .slice ab T.body.length cb] 28 (0, 0))) := blk HA.out hb
  have HA4 : Hid (w3.heap[w.heap.size + 1]? = some (.cells #[.int .i64 0, .int .i64 0, .int .i64 0] 31 (0, 0))) := blk HA2.out hb
  have HB3 : Hid (Below w.heap.size w w3) := HB.out.trans (hb.mono HB.out.size)
  clear hb HA HA2 HB p0 p1 p2 HM2
  by_cases hm : m1 = 0
  ·subst hm
   have HCW : Hid (((c1, c2), c3) = ((0, 0), bu)) := by unfold Hid; rw [HCV.out, if_neg (by simp)]
   rw [errV_zero rfl]
   clear HCV
   go_wp2_with fail
   refine (misfit_nil _).mono ?_
   rintro e w4 ⟨rfl, hb⟩
   have hA5 := blk HA3.out hb
   have hA6 := blk HA4.out hb
   have hB4 : Below w.heap.size w w4 := HB3.out.trans (hb.mono HB3.out.size)
   have hbx : Below w4.heap.size w4 (w4.alloc (.cells #[.int .i64 0, .int .i64 0] 107)) := (Below.refl _ _).alloc (Nat.le_refl _) _
   have HA5 : Hid _ := blk hA5 hbx
   have HA6 : Hid _ := blk hA6 hbx
   have HB5 : Hid _ := hB4.trans (hbx.mono hB4.size)
   have hl1 : w.heap.size < w4.heap.size := blk_lt hA5
   have hl2 : w.heap.size + 1 < w4.heap.size := blk_lt hA6
   clear hb hA5 hA6 hB4 hbx HA3 HA4 HB3
   go_upto_region 7 with fail
   generalize w4.alloc (.cells #[.int .i64 0, .int .i64 0] 107) = W5 at *
   obtain ⟨p0, p1, p2⟩ := cl3 HA5.out
   go_wp2_with fail
   refine (HBU2.out _ HB5.out).mono ?_
   rintro e w6 ⟨rfl, hb⟩
   have hA7 := blk HA6.out hb
   have HB6 : Hid (Below w.heap.size w w6) := HB5.out.trans (hb.mono HB5.out.size)
   obtain ⟨r0, r1, r2⟩ := cl3 hA7
   obtain ⟨f0, f1, f2⟩ := fl3 hA7
   clear hA7 hb HA5 HA6 HB5 p0 p1 p2 HBU2
   go_wp2_with fail
   refine bodyPost_ret (v := .agg #[.int .i64 0, .int .i64 0, .int .i64 bu]) (by simp [results, Tryz.results17, go_sem, r0, r1, r2]) rfl ⟨?_, ((HB6.out.setCell (by simp) _).setCell (by simp) _).setCell (by simp) _⟩
   have e := HCW.out
   injection e with e1 e3
   injection e1 with e1 e2
   rw [e1, e2, e3]
  ·have HCW : Hid (((c1, c2), c3) = ((m1, m2), 0)) := by unfold Hid; rw [HCV.out, if_pos hm]
   rw [errV_met hm]
   clear HCV HBU2
   go_wp2_with fail
   refine (misfit_hit m1 m2 _ (HER.out _ HB3.out)).mono ?_
   rintro e w4 ⟨rfl, hb⟩
   have hA6 := blk HA4.out hb
   have hB4 : Below w.heap.size w w4 := HB3.out.trans (hb.mono HB3.out.size)
   have hbx : Below w4.heap.size w4 (w4.alloc (.cells #[.int .i64 m1, .int .i64 m2] 107)) := (Below.refl _ _).alloc (Nat.le_refl _) _
   have HA6 : Hid _ := blk hA6 hbx
   have HB5 : Hid _ := hB4.trans (hbx.mono hB4.size)
   have HV5 : Hid _ := heap_alloc_new w4 (.cells #[.int .i64 m1, .int .i64 m2] 107)
   have hl2 : w.heap.size + 1 < w4.heap.size := blk_lt hA6
   clear hb hA6 hB4 hbx HA3 HA4 HB3 hm
   go_upto_region 6 with fail
   generalize w4.alloc (.cells #[.int .i64 m1, .int .i64 m2] 107) = W5 at *
   generalize w4.heap.size = g4 at *
   obtain ⟨v0, v1⟩ := cl2 HV5.out
   obtain ⟨r0, r1, r2⟩ := cl3 HA6.out
   obtain ⟨f0, f1, f2⟩ := fl3 HA6.out
   go_wp2_with fail
   refine bodyPost_ret (v := .agg #[.int .i64 m1, .int .i64 m2, .int .i64 0]) (by simp [results, Tryz.results17, go_sem, r0, r1, r2]) rfl ⟨?_, ((HB5.out.setCell (by simp) _).setCell (by simp) _).setCell (by simp) _⟩
   have e := HCW.out
   injection e with e1 e3
   injection e1 with e1 e2
   rw [e1, e2, e3]
 ·have hzb : (F == 0) = false := by simpa using hz
  have hzd : decide (F = 0) = false := decide_eq_false hz
  have HCW : Hid (((c1, c2), c3) = ((F, -1), 0)) := HC0.out hz
  obtain ⟨r0, r1, r2⟩ := cl3 HA2.out
  obtain ⟨f0, f1, f2⟩ := fl3 HA2.out
  clear HCM HC0 HM HBU
  go_wp2_with fail
  refine bodyPost_ret (v := .agg #[.int .i64 F, .int .i64 (-1), .int .i64 0]) (by simp [results, Tryz.results17, go_sem, r0, r1, r2]) rfl ⟨?_, ((HB.out.setCell (by simp) _).setCell (by simp) _).setCell (by simp) _⟩
  have e := HCW.out
  injection e with e1 e3
  injection e1 with e1 e2
  rw [e1, e2, e3]
end Go.Proofs.YtcecfmdjicjngaaGreatDoor
