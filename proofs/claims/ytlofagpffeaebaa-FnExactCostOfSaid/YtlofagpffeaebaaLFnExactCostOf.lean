/-
  The Go function laws.FnExactCostOf answers true at every input and writes nothing that was there. No condition.
-/
import Derived.Test.YtlofagpffeaebaaOwn
import Derived.Test.YtlofagpffeaebaaTreeWants
import Derived.Test.YtlofagpffeaebaaSWord
import Derived.Test.YtlofagpffeaebaaSRgtA
import Derived.Test.YtlofagpffeaebaaSRgtB
import Derived.Test.YtlofagpffeaebaaSFault
import Derived.Test.YtlofagpffeaebaaTreeC
import Derived.Test.YtlofagpffeaebaaSCost
import Derived.Test.YtlofagpffeaebaaICost
import Derived.Test.YtlofagpffeaebaaIFault
namespace Go.Proofs.Ytlofagpffeaebaa
open Go.RowKit
set_option linter.unusedVariables false
attribute [local go_sem] bs_size bs_get bs_extract bs_append bs_eq bs_toList

set_option maxHeartbeats 6400000 in
set_option maxRecDepth 100000 in
theorem rgt9 (R : Bool) (p at_ : Nat) (b o cn : Nat) (nn : Nat) (vv vb : Value) (op : Int) (name : List UInt8) (num far : Int) (kids thn els : List Int) (a a2 a3 : Option Addr) (c c2 c3 : Nat) (w : World) (hl : name.length ≤ 1048576) (hk1 : kids.length ≤ 1048576) (hk2 : thn.length ≤ 1048576) (hk3 : els.length ≤ 1048576)
    (r1 r2 r3 : Bool) (hO : R = ((decide (op = 0) && name.isEmpty && decide (num = 0) && decide (far = 0) && decide (1 ≤ kids.length ∧ kids.length ≤ 1)) && r1 && r2 && r3)) (hat : at_ < nn) (hp1 : w.cell? ⟨p, 1, none⟩ = some (.slice (some ⟨b, o, none⟩) nn cn))
    (hc0 : w.cell? ⟨b, o + at_ * 8, none⟩ = some (.int .i64 9))
    (hc1 : w.cell? ⟨b, o + at_ * 8 + 1, none⟩ = some (.int .i64 op))
    (hc2 : w.cell? ⟨b, o + at_ * 8 + 2, none⟩ = some (.string (bs name)))
    (hc3 : w.cell? ⟨b, o + at_ * 8 + 3, none⟩ = some (.int .i64 num))
    (hc4 : w.cell? ⟨b, o + at_ * 8 + 4, none⟩ = some (.int .i64 far))
    (hc5 : w.cell? ⟨b, o + at_ * 8 + 5, none⟩ = some (.slice a kids.length c))
    (hc6 : w.cell? ⟨b, o + at_ * 8 + 6, none⟩ = some (.slice a2 thn.length c2))
    (hc7 : w.cell? ⟨b, o + at_ * 8 + 7, none⟩ = some (.slice a3 els.length c3))
    (hR1 : ∀ W, Below w.heap.size w W → Calls Try.prog 54 #[.pointer (some ⟨p, 0, none⟩), .int .i64 at_, .slice a kids.length c, .bool true] W fun e w' => e = .returned (.bool r1) ∧ Below W.heap.size W w')
    (hR2 : ∀ W, Below w.heap.size w W → Calls Try.prog 54 #[.pointer (some ⟨p, 0, none⟩), .int .i64 at_, .slice a2 thn.length c2, .bool false] W fun e w' => e = .returned (.bool r2) ∧ Below W.heap.size W w')
    (hR3 : ∀ W, Below w.heap.size w W → Calls Try.prog 54 #[.pointer (some ⟨p, 0, none⟩), .int .i64 at_, .slice a3 els.length c3, .bool false] W fun e w' => e = .returned (.bool r3) ∧ Below W.heap.size W w') :
    Calls Try.prog 53 #[.pointer (some ⟨p, 0, none⟩), .int .i64 at_] w fun e w' => e = .returned (.bool R) ∧ Below w.heap.size w w' := by
  have HO := hid hO
  have HR1 := hid hR1
  have HR2 := hid hR2
  have HR3 := hid hR3
  have hI0 : (0 : Int) ≤ (at_ : Int) := by omega
  have hI1 : (at_ : Int) < (nn : Int) := by omega
  clear hO hR1 hR2 hR3
  go_enter Try.func53, Try.ntmps53
  go_wp2_with fail
  have hA := heap_alloc_new w (.cells #[.int .i64 9, .int .i64 op, .string (bs name), .int .i64 num, .int .i64 far, .slice a kids.length c, .slice a2 thn.length c2, .slice a3 els.length c3] 99)
  have hB : Below w.heap.size w (w.alloc (.cells #[.int .i64 9, .int .i64 op, .string (bs name), .int .i64 num, .int .i64 far, .slice a kids.length c, .slice a2 thn.length c2, .slice a3 els.length c3] 99)) := (Below.refl _ _).alloc (Nat.le_refl _) _
  generalize w.alloc (.cells #[.int .i64 9, .int .i64 op, .string (bs name), .int .i64 num, .int .i64 far, .slice a kids.length c, .slice a2 thn.length c2, .slice a3 els.length c3] 99) = W at *
  obtain ⟨d0, d1, d2, d3, d4, d5, d6, d7⟩ := cl8 hA
  have HB := hid hB
  have HA := hid hA
  clear hA hB hp1 hc0 hc1 hc2 hc3 hc4 hc5 hc6 hc7
  refine (l1In_any 9 1 11 _).mono ?_
  rintro e w1 ⟨rfl, rfl⟩
  have e1 : inB 9 1 11 = true := by decide
  rw [e1]
  clear e1
  go_wp2_with fail
  refine (l4Wants_any (⟨9, op, name, num, far, kids, thn, els⟩ : LNode) _ _ _ _ ⟨_, _, _, rfl⟩ ⟨_, _, _, rfl⟩ ⟨_, _, _, rfl⟩).mono ?_
  rintro e w2 ⟨rfl, hb⟩
  have e1 : wantsN 9 = (false, 1, false) := by decide
  simp only [wantsV, e1]
  clear e1
  have hA := blk HA.out hb
  have hB := HB.out.trans (hb.mono HB.out.size)
  clear HA HB hb d0 d1 d2 d3 d4 d5 d6 d7
  have HA := hid hA
  have HB := hid hB
  obtain ⟨d0, d1, d2, d3, d4, d5, d6, d7⟩ := cl8 hA
  clear hA hB
  go_wp2_with fail
  (try (rename_i kk hkk; simp only [List.append_eq, List.cons_append, List.nil_append] at hkk))
  refine (isName_any name _ (by omega)).mono ?_
  rintro e w3 ⟨rfl, hb⟩
  have hA := blk HA.out hb
  have hB := HB.out.trans (hb.mono HB.out.size)
  clear HA HB hb d0 d1 d2 d3 d4 d5 d6 d7
  have HA := hid hA
  have HB := hid hB
  obtain ⟨d0, d1, d2, d3, d4, d5, d6, d7⟩ := cl8 hA
  clear hA hB
  obtain ⟨qn, hqn⟩ : ∃ q, isNameL name = q := ⟨_, rfl⟩
  rw [hqn]
  by_cases qname : name = []
  · have e1 : qn = false := by rw [← hqn, qname]; exact isNameL_nil
    subst e1
    (try simp only [])
    by_cases qk : kids.length = 1
    · have hz1 : (((kids.length : Nat) : Int) == 1) = true := by rw [beq_iff_eq]; omega
      have hz2 : decide (((kids.length : Nat) : Int) = 1) = true := decide_eq_true (by omega)
      have hz6 : (((kids.length : Nat) : Int) != 1) = false := by rw [bne_eq_false_iff_eq]; omega
      have QK : Hid (kids.length = 1) := qk
      clear qk
      by_cases qnum : num = 0
      · skip
        by_cases qfar : far = 0
        · skip
          by_cases qop : op = 0
          · skip
            go_wp2_with fail
            (try (rename_i kk hkk; simp only [List.append_eq, List.cons_append, List.nil_append] at hkk))
            refine (HR1.out _ HB.out).mono ?_
            rintro e w4 ⟨rfl, hb⟩
            have hA := blk HA.out hb
            have hB := HB.out.trans (hb.mono HB.out.size)
            clear HA HB hb d0 d1 d2 d3 d4 d5 d6 d7
            have HA := hid hA
            have HB := hid hB
            obtain ⟨d0, d1, d2, d3, d4, d5, d6, d7⟩ := cl8 hA
            clear hA hB
            cases r1 with
            | false =>
              (try simp only [])
              have HE : Hid (R = false) := by unfold Hid; rw [HO.out]; simp []
              clear HO
              go_wp2_with fail
              go_ret
              exact ⟨by rw [HE.out]; rfl, HB.out⟩
            | true =>
              (try simp only [])
              go_wp2_with fail
              refine (HR2.out _ HB.out).mono ?_
              rintro e w5 ⟨rfl, hb⟩
              have hA := blk HA.out hb
              have hB := HB.out.trans (hb.mono HB.out.size)
              clear HA HB hb d0 d1 d2 d3 d4 d5 d6 d7
              have HA := hid hA
              have HB := hid hB
              obtain ⟨d0, d1, d2, d3, d4, d5, d6, d7⟩ := cl8 hA
              clear hA hB
              cases r2 with
              | false =>
                (try simp only [])
                have HE : Hid (R = false) := by unfold Hid; rw [HO.out]; simp []
                clear HO
                go_wp2_with fail
                go_ret
                exact ⟨by rw [HE.out]; rfl, HB.out⟩
              | true =>
                (try simp only [])
                go_wp2_with fail
                refine (HR3.out _ HB.out).mono ?_
                rintro e w6 ⟨rfl, hb⟩
                have hA := blk HA.out hb
                have hB := HB.out.trans (hb.mono HB.out.size)
                clear HA HB hb d0 d1 d2 d3 d4 d5 d6 d7
                have HA := hid hA
                have HB := hid hB
                obtain ⟨d0, d1, d2, d3, d4, d5, d6, d7⟩ := cl8 hA
                clear hA hB
                have HE : Hid (R = r3) := by unfold Hid; rw [HO.out]; simp [qname, QK.out, qnum, qfar, qop]
                clear HO
                go_wp2_with fail
                go_ret
                exact ⟨by rw [HE.out]; rfl, HB.out⟩
          · have hz1 : (op == 0) = false := by simpa using qop
            have hz2 : decide (op = 0) = false := decide_eq_false qop
            have HE : Hid (R = false) := by unfold Hid; rw [HO.out]; simp [qop]
            clear HO
            go_wp2_with fail
            go_ret
            exact ⟨by rw [HE.out]; rfl, HB.out⟩
        · have hz1 : (far == 0) = false := by simpa using qfar
          have hz2 : decide (far = 0) = false := decide_eq_false qfar
          have HE : Hid (R = false) := by unfold Hid; rw [HO.out]; simp [qfar]
          clear HO
          go_wp2_with fail
          go_ret
          exact ⟨by rw [HE.out]; rfl, HB.out⟩
      · have hz1 : (num == 0) = false := by simpa using qnum
        have hz2 : decide (num = 0) = false := decide_eq_false qnum
        have HE : Hid (R = false) := by unfold Hid; rw [HO.out]; simp [qnum]
        clear HO
        go_wp2_with fail
        go_ret
        exact ⟨by rw [HE.out]; rfl, HB.out⟩
    · have hz1 : (((kids.length : Nat) : Int) == 1) = false := by rw [beq_eq_false_iff_ne]; omega
      have hz2 : decide (((kids.length : Nat) : Int) = 1) = false := decide_eq_false (by omega)
      have hz6 : (((kids.length : Nat) : Int) != 1) = true := by rw [bne_iff_ne]; omega
      have QK : Hid (¬ (1 ≤ kids.length ∧ kids.length ≤ 1)) := by unfold Hid; omega
      clear qk
      have HE : Hid (R = false) := by unfold Hid; rw [HO.out]; simp [QK.out]
      clear HO
      go_wp2_with fail
      go_ret
      exact ⟨by rw [HE.out]; rfl, HB.out⟩
  · have hz1 : (name == []) = false := by simpa using qname
    have hz2 : decide (name = []) = false := decide_eq_false qname
    cases qn with
    | false =>
      (try simp only [])
      have HE : Hid (R = false) := by unfold Hid; rw [HO.out]; simp [qname]
      clear HO
      go_wp2_with fail
      go_ret
      exact ⟨by rw [HE.out]; rfl, HB.out⟩
    | true =>
      (try simp only [])
      have HE : Hid (R = false) := by unfold Hid; rw [HO.out]; simp [qname]
      clear HO
      go_wp2_with fail
      go_ret
      exact ⟨by rw [HE.out]; rfl, HB.out⟩
set_option maxHeartbeats 6400000 in
set_option maxRecDepth 100000 in
theorem rgt10 (R : Bool) (p at_ : Nat) (b o cn : Nat) (nn : Nat) (vv vb : Value) (op : Int) (name : List UInt8) (num far : Int) (kids thn els : List Int) (a a2 a3 : Option Addr) (c c2 c3 : Nat) (w : World) (hl : name.length ≤ 1048576) (hk1 : kids.length ≤ 1048576) (hk2 : thn.length ≤ 1048576) (hk3 : els.length ≤ 1048576)
    (r1 r2 r3 : Bool) (hO : R = ((decide (op = 0) && isNameL name && inB num 0 65535 && inB far 0 65535 && kids.isEmpty && els.isEmpty) && r1 && r2 && r3)) (hat : at_ < nn) (hp1 : w.cell? ⟨p, 1, none⟩ = some (.slice (some ⟨b, o, none⟩) nn cn))
    (hc0 : w.cell? ⟨b, o + at_ * 8, none⟩ = some (.int .i64 10))
    (hc1 : w.cell? ⟨b, o + at_ * 8 + 1, none⟩ = some (.int .i64 op))
    (hc2 : w.cell? ⟨b, o + at_ * 8 + 2, none⟩ = some (.string (bs name)))
    (hc3 : w.cell? ⟨b, o + at_ * 8 + 3, none⟩ = some (.int .i64 num))
    (hc4 : w.cell? ⟨b, o + at_ * 8 + 4, none⟩ = some (.int .i64 far))
    (hc5 : w.cell? ⟨b, o + at_ * 8 + 5, none⟩ = some (.slice a kids.length c))
    (hc6 : w.cell? ⟨b, o + at_ * 8 + 6, none⟩ = some (.slice a2 thn.length c2))
    (hc7 : w.cell? ⟨b, o + at_ * 8 + 7, none⟩ = some (.slice a3 els.length c3))
    (hR1 : ∀ W, Below w.heap.size w W → Calls Try.prog 54 #[.pointer (some ⟨p, 0, none⟩), .int .i64 at_, .slice a kids.length c, .bool true] W fun e w' => e = .returned (.bool r1) ∧ Below W.heap.size W w')
    (hR2 : ∀ W, Below w.heap.size w W → Calls Try.prog 54 #[.pointer (some ⟨p, 0, none⟩), .int .i64 at_, .slice a2 thn.length c2, .bool false] W fun e w' => e = .returned (.bool r2) ∧ Below W.heap.size W w')
    (hR3 : ∀ W, Below w.heap.size w W → Calls Try.prog 54 #[.pointer (some ⟨p, 0, none⟩), .int .i64 at_, .slice a3 els.length c3, .bool false] W fun e w' => e = .returned (.bool r3) ∧ Below W.heap.size W w') :
    Calls Try.prog 53 #[.pointer (some ⟨p, 0, none⟩), .int .i64 at_] w fun e w' => e = .returned (.bool R) ∧ Below w.heap.size w w' := by
  have HO := hid hO
  have HR1 := hid hR1
  have HR2 := hid hR2
  have HR3 := hid hR3
  have hI0 : (0 : Int) ≤ (at_ : Int) := by omega
  have hI1 : (at_ : Int) < (nn : Int) := by omega
  clear hO hR1 hR2 hR3
  go_enter Try.func53, Try.ntmps53
  go_wp2_with fail
  have hA := heap_alloc_new w (.cells #[.int .i64 10, .int .i64 op, .string (bs name), .int .i64 num, .int .i64 far, .slice a kids.length c, .slice a2 thn.length c2, .slice a3 els.length c3] 99)
  have hB : Below w.heap.size w (w.alloc (.cells #[.int .i64 10, .int .i64 op, .string (bs name), .int .i64 num, .int .i64 far, .slice a kids.length c, .slice a2 thn.length c2, .slice a3 els.length c3] 99)) := (Below.refl _ _).alloc (Nat.le_refl _) _
  generalize w.alloc (.cells #[.int .i64 10, .int .i64 op, .string (bs name), .int .i64 num, .int .i64 far, .slice a kids.length c, .slice a2 thn.length c2, .slice a3 els.length c3] 99) = W at *
  obtain ⟨d0, d1, d2, d3, d4, d5, d6, d7⟩ := cl8 hA
  have HB := hid hB
  have HA := hid hA
  clear hA hB hp1 hc0 hc1 hc2 hc3 hc4 hc5 hc6 hc7
  refine (l1In_any 10 1 11 _).mono ?_
  rintro e w1 ⟨rfl, rfl⟩
  have e1 : inB 10 1 11 = true := by decide
  rw [e1]
  clear e1
  go_wp2_with fail
  refine (l4Wants_any (⟨10, op, name, num, far, kids, thn, els⟩ : LNode) _ _ _ _ ⟨_, _, _, rfl⟩ ⟨_, _, _, rfl⟩ ⟨_, _, _, rfl⟩).mono ?_
  rintro e w2 ⟨rfl, hb⟩
  have e1 : wantsN 10 = (true, 0, true) := by decide
  simp only [wantsV, e1]
  clear e1
  have hA := blk HA.out hb
  have hB := HB.out.trans (hb.mono HB.out.size)
  clear HA HB hb d0 d1 d2 d3 d4 d5 d6 d7
  have HA := hid hA
  have HB := hid hB
  obtain ⟨d0, d1, d2, d3, d4, d5, d6, d7⟩ := cl8 hA
  clear hA hB
  go_wp2_with fail
  (try (rename_i kk hkk; simp only [List.append_eq, List.cons_append, List.nil_append] at hkk))
  refine (isName_any name _ (by omega)).mono ?_
  rintro e w3 ⟨rfl, hb⟩
  have hA := blk HA.out hb
  have hB := HB.out.trans (hb.mono HB.out.size)
  clear HA HB hb d0 d1 d2 d3 d4 d5 d6 d7
  have HA := hid hA
  have HB := hid hB
  obtain ⟨d0, d1, d2, d3, d4, d5, d6, d7⟩ := cl8 hA
  clear hA hB
  obtain ⟨qn, hqn⟩ : ∃ q, isNameL name = q := ⟨_, rfl⟩
  rw [hqn]
  cases qn with
  | false =>
    (try simp only [])
    have HE : Hid (R = false) := by unfold Hid; rw [HO.out]; simp [hqn]
    clear HO
    go_wp2_with fail
    go_ret
    exact ⟨by rw [HE.out]; rfl, HB.out⟩
  | true =>
    (try simp only [])
    by_cases qk : kids.length = 0
    · have hz1 : (((kids.length : Nat) : Int) == 0) = true := by rw [beq_iff_eq]; omega
      have hz2 : decide (((kids.length : Nat) : Int) = 0) = true := decide_eq_true (by omega)
      have hz6 : (((kids.length : Nat) : Int) != 0) = false := by rw [bne_eq_false_iff_eq]; omega
      have QK : Hid (kids = []) := List.length_eq_zero_iff.1 qk
      clear qk
      go_wp2_with fail
      (try (rename_i kk hkk; simp only [List.append_eq, List.cons_append, List.nil_append] at hkk))
      refine (l1Word_any num _).mono ?_
      rintro e w' ⟨rfl, rfl⟩
      obtain ⟨q, qnum⟩ : ∃ q, inB num 0 65535 = q := ⟨_, rfl⟩
      rw [qnum]
      cases q with
      | false =>
        (try simp only [])
        have HE : Hid (R = false) := by unfold Hid; rw [HO.out]; simp [qnum]
        clear HO
        go_wp2_with fail
        go_ret
        exact ⟨by rw [HE.out]; rfl, HB.out⟩
      | true =>
        (try simp only [])
        go_wp2_with fail
        (try (rename_i kk hkk; simp only [List.append_eq, List.cons_append, List.nil_append] at hkk))
        refine (l1Word_any far _).mono ?_
        rintro e w' ⟨rfl, rfl⟩
        obtain ⟨q, qfar⟩ : ∃ q, inB far 0 65535 = q := ⟨_, rfl⟩
        rw [qfar]
        cases q with
        | false =>
          (try simp only [])
          have HE : Hid (R = false) := by unfold Hid; rw [HO.out]; simp [qfar]
          clear HO
          go_wp2_with fail
          go_ret
          exact ⟨by rw [HE.out]; rfl, HB.out⟩
        | true =>
          (try simp only [])
          by_cases qop : op = 0
          · skip
            by_cases qels : els = []
            · rw [qels] at HR3
              simp only [List.length_nil] at HR3
              go_wp2_with fail
              (try (rename_i kk hkk; simp only [List.append_eq, List.cons_append, List.nil_append] at hkk))
              refine (HR1.out _ HB.out).mono ?_
              rintro e w4 ⟨rfl, hb⟩
              have hA := blk HA.out hb
              have hB := HB.out.trans (hb.mono HB.out.size)
              clear HA HB hb d0 d1 d2 d3 d4 d5 d6 d7
              have HA := hid hA
              have HB := hid hB
              obtain ⟨d0, d1, d2, d3, d4, d5, d6, d7⟩ := cl8 hA
              clear hA hB
              cases r1 with
              | false =>
                (try simp only [])
                have HE : Hid (R = false) := by unfold Hid; rw [HO.out]; simp []
                clear HO
                go_wp2_with fail
                go_ret
                exact ⟨by rw [HE.out]; rfl, HB.out⟩
              | true =>
                (try simp only [])
                go_wp2_with fail
                refine (HR2.out _ HB.out).mono ?_
                rintro e w5 ⟨rfl, hb⟩
                have hA := blk HA.out hb
                have hB := HB.out.trans (hb.mono HB.out.size)
                clear HA HB hb d0 d1 d2 d3 d4 d5 d6 d7
                have HA := hid hA
                have HB := hid hB
                obtain ⟨d0, d1, d2, d3, d4, d5, d6, d7⟩ := cl8 hA
                clear hA hB
                cases r2 with
                | false =>
                  (try simp only [])
                  have HE : Hid (R = false) := by unfold Hid; rw [HO.out]; simp []
                  clear HO
                  go_wp2_with fail
                  go_ret
                  exact ⟨by rw [HE.out]; rfl, HB.out⟩
                | true =>
                  (try simp only [])
                  go_wp2_with fail
                  refine (HR3.out _ HB.out).mono ?_
                  rintro e w6 ⟨rfl, hb⟩
                  have hA := blk HA.out hb
                  have hB := HB.out.trans (hb.mono HB.out.size)
                  clear HA HB hb d0 d1 d2 d3 d4 d5 d6 d7
                  have HA := hid hA
                  have HB := hid hB
                  obtain ⟨d0, d1, d2, d3, d4, d5, d6, d7⟩ := cl8 hA
                  clear hA hB
                  have HE : Hid (R = r3) := by unfold Hid; rw [HO.out]; simp [hqn, QK.out, qnum, qfar, qop, qels]
                  clear HO
                  go_wp2_with fail
                  go_ret
                  exact ⟨by rw [HE.out]; rfl, HB.out⟩
            · have hz : 0 < els.length := List.length_pos_iff.2 qels
              have hz3 : decide ((0 : Int) < ((els.length : Nat) : Int)) = true := decide_eq_true (by omega)
              have HE : Hid (R = false) := by unfold Hid; rw [HO.out]; simp [qels]
              clear HO
              go_wp2_with fail
              go_ret
              exact ⟨by rw [HE.out]; rfl, HB.out⟩
          · have hz1 : (op == 0) = false := by simpa using qop
            have hz2 : decide (op = 0) = false := decide_eq_false qop
            have HE : Hid (R = false) := by unfold Hid; rw [HO.out]; simp [qop]
            clear HO
            go_wp2_with fail
            go_ret
            exact ⟨by rw [HE.out]; rfl, HB.out⟩
    · have hz1 : (((kids.length : Nat) : Int) == 0) = false := by rw [beq_eq_false_iff_ne]; omega
      have hz2 : decide (((kids.length : Nat) : Int) = 0) = false := decide_eq_false (by omega)
      have hz6 : (((kids.length : Nat) : Int) != 0) = true := by rw [bne_iff_ne]; omega
      have QK : Hid (¬ (kids = [])) := by unfold Hid; rintro rfl; exact qk rfl
      clear qk
      have HE : Hid (R = false) := by unfold Hid; rw [HO.out]; simp [QK.out]
      clear HO
      go_wp2_with fail
      go_ret
      exact ⟨by rw [HE.out]; rfl, HB.out⟩
set_option maxHeartbeats 6400000 in
set_option maxRecDepth 100000 in
theorem rgt11 (R : Bool) (p at_ : Nat) (b o cn : Nat) (nn : Nat) (vv vb : Value) (op : Int) (name : List UInt8) (num far : Int) (kids thn els : List Int) (a a2 a3 : Option Addr) (c c2 c3 : Nat) (w : World) (hl : name.length ≤ 1048576) (hk1 : kids.length ≤ 1048576) (hk2 : thn.length ≤ 1048576) (hk3 : els.length ≤ 1048576)
    (r1 r2 r3 : Bool) (hO : R = ((inB op 1 4 && isNameL name && decide (num = 0) && decide (far = 0) && decide (1 ≤ kids.length ∧ kids.length ≤ 3) && thn.isEmpty && els.isEmpty) && r1 && r2 && r3)) (hat : at_ < nn) (hp1 : w.cell? ⟨p, 1, none⟩ = some (.slice (some ⟨b, o, none⟩) nn cn))
    (hc0 : w.cell? ⟨b, o + at_ * 8, none⟩ = some (.int .i64 11))
    (hc1 : w.cell? ⟨b, o + at_ * 8 + 1, none⟩ = some (.int .i64 op))
    (hc2 : w.cell? ⟨b, o + at_ * 8 + 2, none⟩ = some (.string (bs name)))
    (hc3 : w.cell? ⟨b, o + at_ * 8 + 3, none⟩ = some (.int .i64 num))
    (hc4 : w.cell? ⟨b, o + at_ * 8 + 4, none⟩ = some (.int .i64 far))
    (hc5 : w.cell? ⟨b, o + at_ * 8 + 5, none⟩ = some (.slice a kids.length c))
    (hc6 : w.cell? ⟨b, o + at_ * 8 + 6, none⟩ = some (.slice a2 thn.length c2))
    (hc7 : w.cell? ⟨b, o + at_ * 8 + 7, none⟩ = some (.slice a3 els.length c3))
    (hR1 : ∀ W, Below w.heap.size w W → Calls Try.prog 54 #[.pointer (some ⟨p, 0, none⟩), .int .i64 at_, .slice a kids.length c, .bool true] W fun e w' => e = .returned (.bool r1) ∧ Below W.heap.size W w')
    (hR2 : ∀ W, Below w.heap.size w W → Calls Try.prog 54 #[.pointer (some ⟨p, 0, none⟩), .int .i64 at_, .slice a2 thn.length c2, .bool false] W fun e w' => e = .returned (.bool r2) ∧ Below W.heap.size W w')
    (hR3 : ∀ W, Below w.heap.size w W → Calls Try.prog 54 #[.pointer (some ⟨p, 0, none⟩), .int .i64 at_, .slice a3 els.length c3, .bool false] W fun e w' => e = .returned (.bool r3) ∧ Below W.heap.size W w') :
    Calls Try.prog 53 #[.pointer (some ⟨p, 0, none⟩), .int .i64 at_] w fun e w' => e = .returned (.bool R) ∧ Below w.heap.size w w' := by
  have HO := hid hO
  have HR1 := hid hR1
  have HR2 := hid hR2
  have HR3 := hid hR3
  have hI0 : (0 : Int) ≤ (at_ : Int) := by omega
  have hI1 : (at_ : Int) < (nn : Int) := by omega
  clear hO hR1 hR2 hR3
  go_enter Try.func53, Try.ntmps53
  go_wp2_with fail
  have hA := heap_alloc_new w (.cells #[.int .i64 11, .int .i64 op, .string (bs name), .int .i64 num, .int .i64 far, .slice a kids.length c, .slice a2 thn.length c2, .slice a3 els.length c3] 99)
  have hB : Below w.heap.size w (w.alloc (.cells #[.int .i64 11, .int .i64 op, .string (bs name), .int .i64 num, .int .i64 far, .slice a kids.length c, .slice a2 thn.length c2, .slice a3 els.length c3] 99)) := (Below.refl _ _).alloc (Nat.le_refl _) _
  generalize w.alloc (.cells #[.int .i64 11, .int .i64 op, .string (bs name), .int .i64 num, .int .i64 far, .slice a kids.length c, .slice a2 thn.length c2, .slice a3 els.length c3] 99) = W at *
  obtain ⟨d0, d1, d2, d3, d4, d5, d6, d7⟩ := cl8 hA
  have HB := hid hB
  have HA := hid hA
  clear hA hB hp1 hc0 hc1 hc2 hc3 hc4 hc5 hc6 hc7
  refine (l1In_any 11 1 11 _).mono ?_
  rintro e w1 ⟨rfl, rfl⟩
  have e1 : inB 11 1 11 = true := by decide
  rw [e1]
  clear e1
  go_wp2_with fail
  refine (l4Wants_any (⟨11, op, name, num, far, kids, thn, els⟩ : LNode) _ _ _ _ ⟨_, _, _, rfl⟩ ⟨_, _, _, rfl⟩ ⟨_, _, _, rfl⟩).mono ?_
  rintro e w2 ⟨rfl, hb⟩
  have e1 : wantsN 11 = (true, -1, false) := by decide
  simp only [wantsV, e1]
  clear e1
  have hA := blk HA.out hb
  have hB := HB.out.trans (hb.mono HB.out.size)
  clear HA HB hb d0 d1 d2 d3 d4 d5 d6 d7
  have HA := hid hA
  have HB := hid hB
  obtain ⟨d0, d1, d2, d3, d4, d5, d6, d7⟩ := cl8 hA
  clear hA hB
  go_wp2_with fail
  (try (rename_i kk hkk; simp only [List.append_eq, List.cons_append, List.nil_append] at hkk))
  refine (isName_any name _ (by omega)).mono ?_
  rintro e w3 ⟨rfl, hb⟩
  have hA := blk HA.out hb
  have hB := HB.out.trans (hb.mono HB.out.size)
  clear HA HB hb d0 d1 d2 d3 d4 d5 d6 d7
  have HA := hid hA
  have HB := hid hB
  obtain ⟨d0, d1, d2, d3, d4, d5, d6, d7⟩ := cl8 hA
  clear hA hB
  obtain ⟨qn, hqn⟩ : ∃ q, isNameL name = q := ⟨_, rfl⟩
  rw [hqn]
  cases qn with
  | false =>
    (try simp only [])
    have HE : Hid (R = false) := by unfold Hid; rw [HO.out]; simp [hqn]
    clear HO
    go_wp2_with fail
    go_ret
    exact ⟨by rw [HE.out]; rfl, HB.out⟩
  | true =>
    (try simp only [])
    go_wp2_with fail
    (try (rename_i kk hkk; simp only [List.append_eq, List.cons_append, List.nil_append] at hkk))
    refine (l1In_any (kids.length : Int) 1 3 _).mono ?_
    rintro e w' ⟨rfl, rfl⟩
    obtain ⟨q, qk⟩ : ∃ q, inB (kids.length : Int) 1 3 = q := ⟨_, rfl⟩
    rw [qk]
    cases q with
    | false =>
      (try simp only [])
      have QK : Hid (¬ (1 ≤ kids.length ∧ kids.length ≤ 3)) := by unfold Hid; have := inB_no.1 qk; omega
      have HE : Hid (R = false) := by unfold Hid; rw [HO.out]; simp [QK.out]
      clear HO
      go_wp2_with fail
      go_ret
      exact ⟨by rw [HE.out]; rfl, HB.out⟩
    | true =>
      (try simp only [])
      have QK : Hid (1 ≤ kids.length ∧ kids.length ≤ 3) := by unfold Hid; have := inB_iff.1 qk; omega
      by_cases qnum : num = 0
      · skip
        by_cases qfar : far = 0
        · skip
          go_wp2_with fail
          (try (rename_i kk hkk; simp only [List.append_eq, List.cons_append, List.nil_append] at hkk))
          refine (l1In_any op 1 4 _).mono ?_
          rintro e w' ⟨rfl, rfl⟩
          obtain ⟨q, qop⟩ : ∃ q, inB op 1 4 = q := ⟨_, rfl⟩
          rw [qop]
          cases q with
          | false =>
            (try simp only [])
            have HE : Hid (R = false) := by unfold Hid; rw [HO.out]; simp [qop]
            clear HO
            go_wp2_with fail
            go_ret
            exact ⟨by rw [HE.out]; rfl, HB.out⟩
          | true =>
            (try simp only [])
            by_cases qels : els = []
            · rw [qels] at HR3
              simp only [List.length_nil] at HR3
              by_cases qthn : thn = []
              · rw [qthn] at HR2
                simp only [List.length_nil] at HR2
                go_wp2_with fail
                (try (rename_i kk hkk; simp only [List.append_eq, List.cons_append, List.nil_append] at hkk))
                refine (HR1.out _ HB.out).mono ?_
                rintro e w4 ⟨rfl, hb⟩
                have hA := blk HA.out hb
                have hB := HB.out.trans (hb.mono HB.out.size)
                clear HA HB hb d0 d1 d2 d3 d4 d5 d6 d7
                have HA := hid hA
                have HB := hid hB
                obtain ⟨d0, d1, d2, d3, d4, d5, d6, d7⟩ := cl8 hA
                clear hA hB
                cases r1 with
                | false =>
                  (try simp only [])
                  have HE : Hid (R = false) := by unfold Hid; rw [HO.out]; simp []
                  clear HO
                  go_wp2_with fail
                  go_ret
                  exact ⟨by rw [HE.out]; rfl, HB.out⟩
                | true =>
                  (try simp only [])
                  go_wp2_with fail
                  refine (HR2.out _ HB.out).mono ?_
                  rintro e w5 ⟨rfl, hb⟩
                  have hA := blk HA.out hb
                  have hB := HB.out.trans (hb.mono HB.out.size)
                  clear HA HB hb d0 d1 d2 d3 d4 d5 d6 d7
                  have HA := hid hA
                  have HB := hid hB
                  obtain ⟨d0, d1, d2, d3, d4, d5, d6, d7⟩ := cl8 hA
                  clear hA hB
                  cases r2 with
                  | false =>
                    (try simp only [])
                    have HE : Hid (R = false) := by unfold Hid; rw [HO.out]; simp []
                    clear HO
                    go_wp2_with fail
                    go_ret
                    exact ⟨by rw [HE.out]; rfl, HB.out⟩
                  | true =>
                    (try simp only [])
                    go_wp2_with fail
                    refine (HR3.out _ HB.out).mono ?_
                    rintro e w6 ⟨rfl, hb⟩
                    have hA := blk HA.out hb
                    have hB := HB.out.trans (hb.mono HB.out.size)
                    clear HA HB hb d0 d1 d2 d3 d4 d5 d6 d7
                    have HA := hid hA
                    have HB := hid hB
                    obtain ⟨d0, d1, d2, d3, d4, d5, d6, d7⟩ := cl8 hA
                    clear hA hB
                    have HE : Hid (R = r3) := by unfold Hid; rw [HO.out]; simp [hqn, QK.out, qnum, qfar, qop, qels, qthn]
                    clear HO
                    go_wp2_with fail
                    go_ret
                    exact ⟨by rw [HE.out]; rfl, HB.out⟩
              · have hz : 0 < thn.length := List.length_pos_iff.2 qthn
                have hz3 : decide ((0 : Int) < ((thn.length : Nat) : Int)) = true := decide_eq_true (by omega)
                have HE : Hid (R = false) := by unfold Hid; rw [HO.out]; simp [qthn]
                clear HO
                go_wp2_with fail
                go_ret
                exact ⟨by rw [HE.out]; rfl, HB.out⟩
            · have hz : 0 < els.length := List.length_pos_iff.2 qels
              have hz3 : decide ((0 : Int) < ((els.length : Nat) : Int)) = true := decide_eq_true (by omega)
              have HE : Hid (R = false) := by unfold Hid; rw [HO.out]; simp [qels]
              clear HO
              go_wp2_with fail
              go_ret
              exact ⟨by rw [HE.out]; rfl, HB.out⟩
        · have hz1 : (far == 0) = false := by simpa using qfar
          have hz2 : decide (far = 0) = false := decide_eq_false qfar
          have HE : Hid (R = false) := by unfold Hid; rw [HO.out]; simp [qfar]
          clear HO
          go_wp2_with fail
          go_ret
          exact ⟨by rw [HE.out]; rfl, HB.out⟩
      · have hz1 : (num == 0) = false := by simpa using qnum
        have hz2 : decide (num = 0) = false := decide_eq_false qnum
        have HE : Hid (R = false) := by unfold Hid; rw [HO.out]; simp [qnum]
        clear HO
        go_wp2_with fail
        go_ret
        exact ⟨by rw [HE.out]; rfl, HB.out⟩
end Go.Proofs.Ytlofagpffeaebaa
namespace Go.Proofs.Ytlofagpffeaebaa
open Go.RowKit
set_option linter.unusedVariables false
attribute [local go_sem] bs_size bs_get bs_extract bs_append bs_eq bs_toList

set_option maxHeartbeats 3200000 in
set_option maxRecDepth 100000 in
theorem rgt0 (R : Bool) (p at_ : Nat) (b o cn : Nat) (nn : Nat) (K op : Int) (name : List UInt8) (num far : Int) (kids thn els : List Int) (a a2 a3 : Option Addr) (c c2 c3 : Nat) (w : World) (hK : inB K 1 11 = false) (hR : R = false)
    (hat : at_ < nn) (hp1 : w.cell? ⟨p, 1, none⟩ = some (.slice (some ⟨b, o, none⟩) nn cn))
    (hc : NodeCells w b (o + at_ * 8) ⟨K, op, name, num, far, kids, thn, els⟩ (.slice a kids.length c) (.slice a2 thn.length c2) (.slice a3 els.length c3)) :
    Calls Try.prog 53 #[.pointer (some ⟨p, 0, none⟩), .int .i64 at_] w fun e w' => e = .returned (.bool R) ∧ Below w.heap.size w w' := by
  obtain ⟨d0, d1, d2, d3, d4, d5, d6, d7⟩ := hc
  have HW0 : Hid (∀ w, Calls Try.prog 21 #[.int .i64 K, .int .i64 1, .int .i64 11] w fun e w' => e = .returned (.bool false) ∧ w' = w) := fun w => by have h := l1In_any K 1 11 w; rwa [hK] at h
  have HR : Hid (R = false) := hR
  have hI0 : (0 : Int) ≤ (at_ : Int) := by omega
  have hI1 : (at_ : Int) < (nn : Int) := by omega
  clear hK hR
  simp only at d0 d1 d2 d3 d4 d5 d6 d7
  go_enter Try.func53, Try.ntmps53
  go_wp2_with fail
  have hB : Below w.heap.size w (w.alloc (.cells #[.int .i64 K, .int .i64 op, .string (bs name), .int .i64 num, .int .i64 far, .slice a kids.length c, .slice a2 thn.length c2, .slice a3 els.length c3] 99)) := (Below.refl _ _).alloc (Nat.le_refl _) _
  generalize w.alloc (.cells #[.int .i64 K, .int .i64 op, .string (bs name), .int .i64 num, .int .i64 far, .slice a kids.length c, .slice a2 thn.length c2, .slice a3 els.length c3] 99) = W at *
  refine (HW0.out _).mono ?_
  rintro e w1 ⟨rfl, rfl⟩
  go_wp2_with fail
  go_ret
  exact ⟨by rw [HR.out]; rfl, hB⟩

set_option maxHeartbeats 3200000 in
theorem l4Right_any (lo p : Nat) (vv vn vb : Value) (T : LTree) (k : Nat) (w : World) (h : TreeP lo w p vv vn vb T) (hS : Sized 1048576 T) (hn : T.nodes.length ≤ 200) (hk : k < T.nodes.length) :
    Calls Try.prog 53 #[.pointer (some ⟨p, 0, none⟩), .int .i64 k] w fun e w' => e = .returned (.bool (rightB T.nodes k)) ∧ Below w.heap.size w w' := by
  obtain ⟨an, cn, rfl, _, hhn⟩ := id h.tree.nodes
  obtain ⟨b, o, rfl, _, hc2⟩ := hhn (by intro e; rw [e] at hk; simp at hk)
  obtain ⟨y, hy⟩ : ∃ y, T.nodes[k]? = some y := ⟨T.nodes[k], List.getElem?_eq_getElem hk⟩
  obtain ⟨vk, vt, ve, hcs, hvs⟩ := hc2 k y hy
  have hsz := hS.node y (List.mem_of_getElem? hy)
  have hgd : T.nodes.getD k default = y := by rw [List.getD_eq_getElem?_getD, hy]; rfl
  have hR : ∀ (v : Value) (l : List Int) (e : Bool), IntsV lo w v l → l.length ≤ 1048576 → ∀ W, Below w.heap.size w W → Calls Try.prog 54 #[.pointer (some ⟨p, 0, none⟩), .int .i64 k, v, .bool e] W fun e' w' => e' = .returned (.bool (refsB T.nodes k l e)) ∧ Below W.heap.size W w' :=
    fun v l e hv hl W hb => l4Refs_any lo p _ _ _ v T k l e lo W (h.below hb) (by omega) hn (hv.below hb) hl
  have h1 := hR vk y.kids true hvs.kids hsz.2.1
  have h2 := hR vt y.thn false hvs.thn hsz.2.2.1
  have h3 := hR ve y.els false hvs.els hsz.2.2.2
  have hO : rightB T.nodes k = (ownB y && refsB T.nodes k y.kids true && refsB T.nodes k y.thn false && refsB T.nodes k y.els false) := by rw [rightB_eq, hgd]
  obtain ⟨ak, ck, rfl, _⟩ := id hvs.kids
  obtain ⟨at2, ct, rfl, _⟩ := id hvs.thn
  obtain ⟨ae, ce, rfl, _⟩ := id hvs.els
  obtain ⟨K, op, name, num, far, kids, thn, els⟩ := y
  have hcs2 := hcs
  obtain ⟨d0, d1, d2, d3, d4, d5, d6, d7⟩ := hcs
  by_cases hK : inB K 1 11 = true
  · have hh := inB_iff.1 hK
    have : K = 1 ∨ K = 2 ∨ K = 3 ∨ K = 4 ∨ K = 5 ∨ K = 6 ∨ K = 7 ∨ K = 8 ∨ K = 9 ∨ K = 10 ∨ K = 11 := by omega
    rcases this with rfl | rfl | rfl | rfl | rfl | rfl | rfl | rfl | rfl | rfl | rfl
    · exact rgt1 _ p k b o cn T.nodes.length vv vb op name num far kids thn els ak at2 ae ck ct ce w hsz.1 hsz.2.1 hsz.2.2.1 hsz.2.2.2 _ _ _ (by rw [hO, ownK1]) hk h.c1 d0 d1 d2 d3 d4 d5 d6 d7 h1 h2 h3
    · exact rgt2 _ p k b o cn T.nodes.length vv vb op name num far kids thn els ak at2 ae ck ct ce w hsz.1 hsz.2.1 hsz.2.2.1 hsz.2.2.2 _ _ _ (by rw [hO, ownK2]) hk h.c1 d0 d1 d2 d3 d4 d5 d6 d7 h1 h2 h3
    · exact rgt3 _ p k b o cn T.nodes.length vv vb op name num far kids thn els ak at2 ae ck ct ce w hsz.1 hsz.2.1 hsz.2.2.1 hsz.2.2.2 _ _ _ (by rw [hO, ownK3]) hk h.c1 d0 d1 d2 d3 d4 d5 d6 d7 h1 h2 h3
    · exact rgt4 _ p k b o cn T.nodes.length vv vb op name num far kids thn els ak at2 ae ck ct ce w hsz.1 hsz.2.1 hsz.2.2.1 hsz.2.2.2 _ _ _ (by rw [hO, ownK4]) hk h.c1 d0 d1 d2 d3 d4 d5 d6 d7 h1 h2 h3
    · exact rgt5 _ p k b o cn T.nodes.length vv vb op name num far kids thn els ak at2 ae ck ct ce w hsz.1 hsz.2.1 hsz.2.2.1 hsz.2.2.2 _ _ _ (by rw [hO, ownK5]) hk h.c1 d0 d1 d2 d3 d4 d5 d6 d7 h1 h2 h3
    · exact rgt6 _ p k b o cn T.nodes.length vv vb op name num far kids thn els ak at2 ae ck ct ce w hsz.1 hsz.2.1 hsz.2.2.1 hsz.2.2.2 _ _ _ (by rw [hO, ownK6]) hk h.c1 d0 d1 d2 d3 d4 d5 d6 d7 h1 h2 h3
    · exact rgt7 _ p k b o cn T.nodes.length vv vb op name num far kids thn els ak at2 ae ck ct ce w hsz.1 hsz.2.1 hsz.2.2.1 hsz.2.2.2 _ _ _ (by rw [hO, ownK7]) hk h.c1 d0 d1 d2 d3 d4 d5 d6 d7 h1 h2 h3
    · exact rgt8 _ p k b o cn T.nodes.length vv vb op name num far kids thn els ak at2 ae ck ct ce w hsz.1 hsz.2.1 hsz.2.2.1 hsz.2.2.2 _ _ _ (by rw [hO, ownK8]) hk h.c1 d0 d1 d2 d3 d4 d5 d6 d7 h1 h2 h3
    · exact rgt9 _ p k b o cn T.nodes.length vv vb op name num far kids thn els ak at2 ae ck ct ce w hsz.1 hsz.2.1 hsz.2.2.1 hsz.2.2.2 _ _ _ (by rw [hO, ownK9]) hk h.c1 d0 d1 d2 d3 d4 d5 d6 d7 h1 h2 h3
    · exact rgt10 _ p k b o cn T.nodes.length vv vb op name num far kids thn els ak at2 ae ck ct ce w hsz.1 hsz.2.1 hsz.2.2.1 hsz.2.2.2 _ _ _ (by rw [hO, ownK10]) hk h.c1 d0 d1 d2 d3 d4 d5 d6 d7 h1 h2 h3
    · exact rgt11 _ p k b o cn T.nodes.length vv vb op name num far kids thn els ak at2 ae ck ct ce w hsz.1 hsz.2.1 hsz.2.2.1 hsz.2.2.2 _ _ _ (by rw [hO, ownK11]) hk h.c1 d0 d1 d2 d3 d4 d5 d6 d7 h1 h2 h3
  · have hK : inB K 1 11 = false := by simpa using hK
    exact rgt0 _ p k b o cn T.nodes.length K op name num far kids thn els ak at2 ae ck ct ce w hK (by rw [hO]; unfold ownB; simp only [hK, Bool.false_and]) hk h.c1 hcs2

end Go.Proofs.Ytlofagpffeaebaa
namespace Go.Proofs.Ytlofagpffeaebaa
open Go.RowKit
set_option linter.unusedVariables false
attribute [local go_sem] bs_size bs_get bs_extract bs_append bs_eq bs_toList

set_option maxHeartbeats 800000 in
theorem eqIntRes_any (a b : Int) (w : World) : Calls Try.prog 9 #[.agg #[.int .i64 a, .int .i64 b], .agg #[.int .i64 a, .int .i64 b]] w fun e w' => e = .returned (.bool true) ∧ Below w.heap.size w w' := by
  go_enter Try.func9, Try.ntmps9
  go_wp2
  go_ret
  exact ⟨rfl, by go_grown⟩
/-- a function of a tree and a number that answers a code and a value -/
def TreeAt (f : FuncId) (C V : LTree → Int → Int) : Prop := ∀ (lo : Nat) (vv vn vb : Value) (T : LTree) (k : Int) (w : World), TreeV lo w vv vn vb T → Sized 1048576 T →
  Calls Try.prog f #[treeV vv vn vb, .int .i64 k] w fun e w' => e = .returned (.agg #[.int .i64 (C T k), .int .i64 (V T k)]) ∧ Below w.heap.size w w'
/-- a function of a tree and a text that answers a code and a value -/
def TreeNamed (f : FuncId) (C V : LTree → List UInt8 → Int) : Prop := ∀ (lo : Nat) (vv vn vb : Value) (T : LTree) (nm : List UInt8) (w : World), TreeV lo w vv vn vb T → Sized 1048576 T → nm.length ≤ 1048576 →
  Calls Try.prog f #[treeV vv vn vb, .string (bs nm)] w fun e w' => e = .returned (.agg #[.int .i64 (C T nm), .int .i64 (V T nm)]) ∧ Below w.heap.size w w'

end Go.Proofs.Ytlofagpffeaebaa
namespace Go.Proofs.Ytlofagpffeaebaa
open Go.RowKit
set_option linter.unusedVariables false

theorem two_start (w : World) (vv vn vb : Value) (T1 T2 : TypeId) : let W := ((w.alloc (.cells #[vv, vn, vb] T1)).alloc (.cells #[.int .i64 0, .int .i64 0] T2))
    W.heap[w.heap.size]? = some (.cells #[vv, vn, vb] T1 (0, 0)) ∧ W.heap[w.heap.size + 1]? = some (.cells #[.int .i64 0, .int .i64 0] T2 (0, 0)) ∧ Below w.heap.size w W := by
  intro W
  have hA := heap_alloc_new w (.cells #[vv, vn, vb] T1)
  have hB : Below w.heap.size w (w.alloc (.cells #[vv, vn, vb] T1)) := (Below.refl _ _).alloc (Nat.le_refl _) _
  have hZ : (w.alloc (.cells #[vv, vn, vb] T1)).heap.size = w.heap.size + 1 := by simp
  have hA2 := heap_alloc_new (w.alloc (.cells #[vv, vn, vb] T1)) (.cells #[.int .i64 0, .int .i64 0] T2)
  have hB2 : Below (w.alloc (.cells #[vv, vn, vb] T1)).heap.size (w.alloc (.cells #[vv, vn, vb] T1)) W := (Below.refl _ _).alloc (Nat.le_refl _) _
  rw [hZ] at hA2
  exact ⟨blk hA hB2, hA2, hB.trans (hB2.mono (by omega))⟩
end Go.Proofs.Ytlofagpffeaebaa
namespace Go.Proofs.Ytlofagpffeaebaa
open Go.RowKit
set_option linter.unusedVariables false
attribute [local go_sem] bs_size bs_get bs_extract bs_append bs_eq bs_toList

def cosC (T : LTree) (k : Int) : Int := if faultL T ≠ 0 then faultL T else if inB k 0 ((T.nodes.length : Int) - 1) then 0 else 3
def cosV (T : LTree) (k : Int) : Int := if faultL T ≠ 0 then 0 else if inB k 0 ((T.nodes.length : Int) - 1) then (costsF T.nodes T.nodes.length).getD k.toNat 0 else 0

set_option maxHeartbeats 6400000 in
set_option maxRecDepth 100000 in
theorem specCostOf : TreeAt 6 cosC cosV := by
  intro lo vv vn vb T k w h hS
  have HF : Hid (∀ (p : Nat) (w' : World), TreeP lo w' p vv vn vb T → Calls Try.prog 20 #[.pointer (some ⟨p, 0, none⟩)] w' fun e w2 => e = .returned (.int .i64 (faultL T)) ∧ Below w'.heap.size w' w2) := fun p w' hp =>
    l4Fault_any lo p vv vn vb T w' hp hS (fun hn k W hb hk => l4Right_any lo p vv vn vb T k W (hp.below hb) hS hn hk)
  have HD : Hid (∀ (p : Nat) (w' : World), TreeP lo w' p vv vn vb T → faultL T = 0 → Calls Try.prog 22 #[.pointer (some ⟨p, 0, none⟩)] w' fun e w2 => ∃ v, e = .returned v ∧ Own w2 w'.heap.size v (costsF T.nodes T.nodes.length) ∧ Below w'.heap.size w' w2) := fun p w' hp h0 => l5Costs_any lo p vv vn vb T w' hp (good_of h0) hS
  have hlen := hS.nodes
  obtain ⟨av, cv, rfl, _⟩ := id h.vars
  obtain ⟨an, cn, rfl, _⟩ := id h.nodes
  obtain ⟨ab, cb, rfl, _⟩ := id h.body
  have HT : Hid (TreeV lo w (.slice av T.vars.length cv) (.slice an T.nodes.length cn) (.slice ab T.body.length cb) T) := h
  have HC : Hid (cosC T k = if faultL T ≠ 0 then faultL T else if inB k 0 ((T.nodes.length : Int) - 1) then 0 else 3) := rfl
  have HV : Hid (cosV T k = if faultL T ≠ 0 then 0 else if inB k 0 ((T.nodes.length : Int) - 1) then (costsF T.nodes T.nodes.length).getD k.toNat 0 else 0) := rfl
  clear h hS
  obtain ⟨q, hq⟩ : ∃ q, inB k 0 ((T.nodes.length : Int) - 1) = q := ⟨_, rfl⟩
  have hI : Hid (∀ w, Calls Try.prog 21 #[.int .i64 k, .int .i64 0, .int .i64 ((T.nodes.length : Int) - 1)] w fun e w' => e = .returned (.bool q) ∧ w' = w) := fun w => by have h := l1In_any k 0 ((T.nodes.length : Int) - 1) w; rwa [hq] at h
  go_enter Try.func6, Try.ntmps6
  go_wp2_with fail
  obtain ⟨hA, hA2, hB⟩ := two_start w (.slice av T.vars.length cv) (.slice an T.nodes.length cn) (.slice ab T.body.length cb) 34 29
  generalize ((w.alloc (.cells #[.slice av T.vars.length cv, .slice an T.nodes.length cn, .slice ab T.body.length cb] 34)).alloc (.cells #[.int .i64 0, .int .i64 0] 29)) = W at *
  refine (HF.out _ _ ⟨cell_of_row _ _ 0 _ _ _ hA, cell_of_row _ _ 1 _ _ _ hA, cell_of_row _ _ 2 _ _ _ hA, HT.out.below hB⟩).mono ?_
  rintro e w2 ⟨rfl, hb⟩
  have HA : Hid (w2.heap[w.heap.size]? = some (.cells #[.slice av T.vars.length cv, .slice an T.nodes.length cn, .slice ab T.body.length cb] 34 (0, 0))) := blk hA hb
  have HA2 : Hid (w2.heap[w.heap.size + 1]? = some (.cells #[.int .i64 0, .int .i64 0] 29 (0, 0))) := blk hA2 hb
  have HB : Hid (Below w.heap.size w w2) := hB.trans (hb.mono hB.size)
  clear hA hA2 hB hb HF
  have p1 : w2.cell? ⟨w.heap.size, 1, none⟩ = some (.slice an T.nodes.length cn) := cell_of_row _ _ 1 _ _ _ HA.out
  have r0 := cell_of_row _ _ 0 _ _ _ HA2.out
  have r1 := cell_of_row _ _ 1 _ _ _ HA2.out
  have f0 := frozen_of_row _ _ 0 _ _ HA2.out
  have f1 := frozen_of_row _ _ 1 _ _ HA2.out
  simp at r0 r1 f0 f1
  obtain ⟨F, hF⟩ : ∃ F, faultL T = F := ⟨_, rfl⟩
  rw [hF]
  by_cases hz : F = 0
  · subst hz
    have hfs : (0 : Int) = 0 := rfl
    cases q with
    | false =>
      have HCV : Hid (cosC T k = 3 ∧ cosV T k = 0) := ⟨by rw [HC.out, hF, hq]; rfl, by rw [HV.out, hF, hq]; rfl⟩
      clear hF hq HC HV hfs
      go_wp2_with fail
      refine (hI.out _).mono ?_
      rintro e w3 ⟨rfl, rfl⟩
      go_wp2_with fail
      refine bodyPost_ret (v := .agg #[.int .i64 3, .int .i64 0]) (by simp [results, Try.results6, go_sem, r0, r1]) rfl ⟨by rw [HCV.out.1, HCV.out.2], (HB.out.setCell (by simp) _).setCell (by simp) _⟩
    | true =>
      have hq2 := inB_iff.1 hq
      obtain ⟨j, rfl⟩ : ∃ j : Nat, k = j := ⟨k.toNat, by omega⟩
      have hj : j < T.nodes.length := by omega
      have HCV : Hid (cosC T (j : Int) = 0 ∧ cosV T (j : Int) = (costsF T.nodes T.nodes.length).getD j 0) := ⟨by rw [HC.out, hF, hq]; rfl, by rw [HV.out, hF, hq]; rfl⟩
      have HTP : Hid (TreeP lo w2 w.heap.size (.slice av T.vars.length cv) (.slice an T.nodes.length cn) (.slice ab T.body.length cb) T) := ⟨cell_of_row _ _ 0 _ _ _ HA.out, cell_of_row _ _ 1 _ _ _ HA.out, cell_of_row _ _ 2 _ _ _ HA.out, HT.out.below HB.out⟩
      have HDC : Hid (Calls Try.prog 22 #[.pointer (some ⟨w.heap.size, 0, none⟩)] w2 fun e w3 => ∃ v, e = .returned v ∧ Own w3 w2.heap.size v (costsF T.nodes T.nodes.length) ∧ Below w2.heap.size w2 w3) := HD.out _ _ HTP.out hF
      clear hF hq hq2 HC HV HD hfs
      go_wp2_with fail
      refine (hI.out _).mono ?_
      rintro e w3 ⟨rfl, rfl⟩
      go_wp2_with fail
      refine HDC.out.mono ?_
      rintro e w4 ⟨v, rfl, hown, hb⟩
      obtain ⟨ad, cp, rfl⟩ := own_shape hown
      have hn := nums_of_own hown
      have hA2 := blk HA2.out hb
      have HB2 : Hid (Below w.heap.size w w4) := HB.out.trans (hb.mono HB.out.size)
      have hdl : (costsF T.nodes T.nodes.length).length = T.nodes.length := costsF_len _ _
      rcases hn.2 with hz | ⟨g3, o3, rfl, hc3⟩
      · rw [hz] at hdl; simp at hdl; omega
      have c3 := hc3 j (by omega)
      clear r0 r1 f0 f1 p1
      have r0 := cell_of_row _ _ 0 _ _ _ hA2
      have r1 := cell_of_row _ _ 1 _ _ _ hA2
      have f0 := frozen_of_row _ _ 0 _ _ hA2
      have f1 := frozen_of_row _ _ 1 _ _ hA2
      simp at r0 r1 f0 f1
      have hj0 : (0 : Int) ≤ (j : Int) := by omega
      have hj1 : (j : Int) < ((costsF T.nodes T.nodes.length).length : Int) := by omega
      obtain ⟨ds, hds⟩ : ∃ ds, ds = costsF T.nodes T.nodes.length := ⟨_, rfl⟩
      rw [← hds] at HCV c3 hj1 hdl ⊢
      clear hn hc3 hown hA2 hb hds
      generalize ds.getD j 0 = z at *
      go_wp2_with fail
      refine bodyPost_ret (v := .agg #[.int .i64 0, .int .i64 z]) (by simp [results, Try.results6, go_sem, r0, r1]) rfl ⟨by rw [HCV.out.1, HCV.out.2], (HB2.out.setCell (by simp) _).setCell (by simp) _⟩
  · have HCV : Hid (cosC T k = F ∧ cosV T k = 0) := ⟨by rw [HC.out, hF, if_pos hz], by rw [HV.out, hF, if_pos hz]⟩
    have hz1 : (F == 0) = false := by simpa using hz
    have hz2 : decide (F = 0) = false := decide_eq_false hz
    clear HC HV hF hq hI
    go_wp2_with fail
    refine bodyPost_ret (v := .agg #[.int .i64 F, .int .i64 0]) (by simp [results, Try.results6, go_sem, r0, r1]) rfl ⟨by rw [HCV.out.1, HCV.out.2], (HB.out.setCell (by simp) _).setCell (by simp) _⟩

set_option maxHeartbeats 6400000 in
set_option maxRecDepth 100000 in
theorem implCostOf : TreeAt 8 cosC cosV := by
  intro lo vv vn vb T k w h hS
  have hlen := hS.nodes
  obtain ⟨av, cv, rfl, _⟩ := id h.vars
  obtain ⟨an, cn, rfl, _⟩ := id h.nodes
  obtain ⟨ab, cb, rfl, _⟩ := id h.body
  have HF : Hid (∀ (w' : World), Below w.heap.size w w' → Calls Try.prog 26 #[treeV (.slice av T.vars.length cv) (.slice an T.nodes.length cn) (.slice ab T.body.length cb)] w' fun e w2 => e = .returned (.int .i64 (faultL T)) ∧ Below w'.heap.size w' w2) := fun w' hb =>
    implTreeFault lo _ _ _ T w' (h.below hb) hS
  have HD : Hid (∀ (w' : World), Below w.heap.size w w' → faultL T = 0 → Calls Try.prog 28 #[.slice an T.nodes.length cn] w' fun e w2 => e = .returned (.slice (some ⟨w'.heap.size, 0, none⟩) T.nodes.length T.nodes.length) ∧ Cnt w2 w'.heap.size 2 (costsF T.nodes T.nodes.length) ∧ Below w'.heap.size w' w2) := fun w' hb h0 =>
    costs_any lo an cn T.nodes w' (h.nodes.below hb) (good_of h0).nodes ((good_of h0).tame hS) (fun k n hk => ((good_of h0).node k n hk).2)
  have HC : Hid (cosC T k = if faultL T ≠ 0 then faultL T else if inB k 0 ((T.nodes.length : Int) - 1) then 0 else 3) := rfl
  have HV : Hid (cosV T k = if faultL T ≠ 0 then 0 else if inB k 0 ((T.nodes.length : Int) - 1) then (costsF T.nodes T.nodes.length).getD k.toNat 0 else 0) := rfl
  clear h hS
  obtain ⟨q, hq⟩ : ∃ q, inB k 0 ((T.nodes.length : Int) - 1) = q := ⟨_, rfl⟩
  have hI : Hid (∀ w, Calls Try.prog 27 #[.slice an T.nodes.length cn, .int .i64 k] w fun e w' => e = .returned (.bool q) ∧ w' = w) := fun w => by have h := isPlace_any an T.nodes.length cn k w (by omega); rwa [hq] at h
  go_enter Try.func8, Try.ntmps8
  go_wp2_with fail
  obtain ⟨hA, hA2, hB⟩ := two_start w (.slice av T.vars.length cv) (.slice an T.nodes.length cn) (.slice ab T.body.length cb) 34 29
  generalize ((w.alloc (.cells #[.slice av T.vars.length cv, .slice an T.nodes.length cn, .slice ab T.body.length cb] 34)).alloc (.cells #[.int .i64 0, .int .i64 0] 29)) = W at *
  refine (HF.out _ hB).mono ?_
  rintro e w2 ⟨rfl, hb⟩
  have HA : Hid (w2.heap[w.heap.size]? = some (.cells #[.slice av T.vars.length cv, .slice an T.nodes.length cn, .slice ab T.body.length cb] 34 (0, 0))) := blk hA hb
  have HA2 : Hid (w2.heap[w.heap.size + 1]? = some (.cells #[.int .i64 0, .int .i64 0] 29 (0, 0))) := blk hA2 hb
  have HB : Hid (Below w.heap.size w w2) := hB.trans (hb.mono hB.size)
  clear hA hA2 hB hb HF
  have p1 : w2.cell? ⟨w.heap.size, 1, none⟩ = some (.slice an T.nodes.length cn) := cell_of_row _ _ 1 _ _ _ HA.out
  have r0 := cell_of_row _ _ 0 _ _ _ HA2.out
  have r1 := cell_of_row _ _ 1 _ _ _ HA2.out
  have f0 := frozen_of_row _ _ 0 _ _ HA2.out
  have f1 := frozen_of_row _ _ 1 _ _ HA2.out
  simp at r0 r1 f0 f1
  obtain ⟨F, hF⟩ : ∃ F, faultL T = F := ⟨_, rfl⟩
  rw [hF]
  by_cases hz : F = 0
  · subst hz
    cases q with
    | false =>
      have HCV : Hid (cosC T k = 3 ∧ cosV T k = 0) := ⟨by rw [HC.out, hF, hq]; rfl, by rw [HV.out, hF, hq]; rfl⟩
      clear hF hq HC HV
      go_wp2_with fail
      refine (hI.out _).mono ?_
      rintro e w3 ⟨rfl, rfl⟩
      go_wp2_with fail
      refine bodyPost_ret (v := .agg #[.int .i64 3, .int .i64 0]) (by simp [results, Try.results8, go_sem, r0, r1]) rfl ⟨by rw [HCV.out.1, HCV.out.2], (HB.out.setCell (by simp) _).setCell (by simp) _⟩
    | true =>
      have hq2 := inB_iff.1 hq
      obtain ⟨j, rfl⟩ : ∃ j : Nat, k = j := ⟨k.toNat, by omega⟩
      have hj : j < T.nodes.length := by omega
      have HCV : Hid (cosC T (j : Int) = 0 ∧ cosV T (j : Int) = (costsF T.nodes T.nodes.length).getD j 0) := ⟨by rw [HC.out, hF, hq]; rfl, by rw [HV.out, hF, hq]; rfl⟩
      have HDC : Hid (Calls Try.prog 28 #[.slice an T.nodes.length cn] w2 fun e w3 => e = .returned (.slice (some ⟨w2.heap.size, 0, none⟩) T.nodes.length T.nodes.length) ∧ Cnt w3 w2.heap.size 2 (costsF T.nodes T.nodes.length) ∧ Below w2.heap.size w2 w3) := HD.out _ HB.out hF
      clear hF hq hq2 HC HV HD
      go_wp2_with fail
      refine (hI.out _).mono ?_
      rintro e w3 ⟨rfl, rfl⟩
      go_wp2_with fail
      refine HDC.out.mono ?_
      rintro e w4 ⟨rfl, hcnt, hb⟩
      have hA2 := blk HA2.out hb
      have HB2 : Hid (Below w.heap.size w w4) := HB.out.trans (hb.mono HB.out.size)
      have hdl : (costsF T.nodes T.nodes.length).length = T.nodes.length := costsF_len _ _
      have c3 := (hcnt.cell j (by omega)).1
      clear r0 r1 f0 f1 p1
      have r0 := cell_of_row _ _ 0 _ _ _ hA2
      have r1 := cell_of_row _ _ 1 _ _ _ hA2
      have f0 := frozen_of_row _ _ 0 _ _ hA2
      have f1 := frozen_of_row _ _ 1 _ _ hA2
      simp at r0 r1 f0 f1
      have hj0 : (0 : Int) ≤ (j : Int) := by omega
      have hj1 : (j : Int) < (T.nodes.length : Int) := by omega
      obtain ⟨ds, hds⟩ : ∃ ds, ds = costsF T.nodes T.nodes.length := ⟨_, rfl⟩
      rw [← hds] at HCV c3 hdl
      clear hcnt hA2 hb hds
      generalize ds.getD j 0 = z at *
      go_wp2_with fail
      refine bodyPost_ret (v := .agg #[.int .i64 0, .int .i64 z]) (by simp [results, Try.results8, go_sem, r0, r1]) rfl ⟨by rw [HCV.out.1, HCV.out.2], (HB2.out.setCell (by simp) _).setCell (by simp) _⟩
  · have HCV : Hid (cosC T k = F ∧ cosV T k = 0) := ⟨by rw [HC.out, hF, if_pos hz], by rw [HV.out, hF, if_pos hz]⟩
    have hz1 : (F == 0) = false := by simpa using hz
    have hz2 : decide (F = 0) = false := decide_eq_false hz
    clear HC HV hF hq hI
    go_wp2_with fail
    refine bodyPost_ret (v := .agg #[.int .i64 F, .int .i64 0]) (by simp [results, Try.results8, go_sem, r0, r1]) rfl ⟨by rw [HCV.out.1, HCV.out.2], (HB.out.setCell (by simp) _).setCell (by simp) _⟩
end Go.Proofs.Ytlofagpffeaebaa
namespace Go.Proofs.Ytlofagpffeaebaa
open Go.RowKit
set_option linter.unusedVariables false
attribute [local go_sem] bs_size bs_get bs_extract bs_append bs_eq bs_toList

set_option maxHeartbeats 6400000 in
set_option maxRecDepth 100000 in
theorem costOf_law (C V : LTree → Int → Int) (hS : TreeAt 6 C V) (hI : TreeAt 8 C V) (vv vn vb : Value) (T : LTree) (k : Int) (w : World) (h : IsTree w vv vn vb T) :
    Calls Try.prog 3 #[treeV vv vn vb, .int .i64 k] w fun e w' => e = .returned (.bool true) ∧ Below w.heap.size w w' := by
  obtain ⟨ht, hf⟩ := h
  obtain ⟨av, cv, rfl, _⟩ := id ht.vars
  obtain ⟨an, cn, rfl, _⟩ := id ht.nodes
  obtain ⟨ab, cb, rfl, _⟩ := id ht.body
  have HT : Hid (TreeV 0 w (.slice av T.vars.length cv) (.slice an T.nodes.length cn) (.slice ab T.body.length cb) T) := ht
  have HF : Hid (Fits T) := hf
  have HS : Hid (TreeAt 6 C V) := hS
  have HI : Hid (TreeAt 8 C V) := hI
  have HQ : Hid (∀ (a b : Int) (w : World), Calls Try.prog 9 #[.agg #[.int .i64 a, .int .i64 b], .agg #[.int .i64 a, .int .i64 b]] w fun e w' => e = .returned (.bool true) ∧ Below w.heap.size w w') := eqIntRes_any
  clear ht hf hS hI
  go_enter Try.func3, Try.ntmps3
  go_wp2_with fail
  have hA := heap_alloc_new w (.cells #[.slice av T.vars.length cv, .slice an T.nodes.length cn, .slice ab T.body.length cb] 26)
  have hB : Below w.heap.size w (w.alloc (.cells #[.slice av T.vars.length cv, .slice an T.nodes.length cn, .slice ab T.body.length cb] 26)) := (Below.refl _ _).alloc (Nat.le_refl _) _
  generalize w.alloc (.cells #[.slice av T.vars.length cv, .slice an T.nodes.length cn, .slice ab T.body.length cb] 26) = W at *
  refine (szTree_any 0 T _ _ _ _ (HT.out.below hB) HF.out).mono ?_
  rintro e w1 ⟨r, rfl, hr, hb1⟩
  have HA : Hid (w1.heap[w.heap.size]? = some (.cells #[.slice av T.vars.length cv, .slice an T.nodes.length cn, .slice ab T.body.length cb] 26 (0, 0))) := blk hA hb1
  have HB : Hid (Below w.heap.size w w1) := hB.trans (hb1.mono hB.size)
  clear hb1 hA hB
  by_cases h0 : 0 ≤ r
  · have HZ : Hid (Sized 1048576 T) := hr h0
    clear hr
    have a0 := cell_of_row _ _ 0 _ _ _ HA.out
    have a1 := cell_of_row _ _ 1 _ _ _ HA.out
    have a2 := cell_of_row _ _ 2 _ _ _ HA.out
    simp at a0 a1 a2
    go_wp2_with fail
    refine (toTree_any 0 T _ _ _ _ (HT.out.below HB.out) HZ.out).mono ?_
    rintro e w2 ⟨_, _, _, rfl, ht2, hb⟩
    obtain ⟨av2, cv2, rfl, _⟩ := id ht2.vars
    obtain ⟨an2, cn2, rfl, _⟩ := id ht2.nodes
    obtain ⟨ab2, cb2, rfl, _⟩ := id ht2.body
    have hA := blk HA.out hb
    have hB := HB.out.trans (hb.mono HB.out.size)
    clear HA HB hb a0 a1 a2
    have HA : Hid _ := hA
    have HB : Hid (Below w.heap.size w w2) := hB
    have HT2 : Hid (TreeV w1.heap.size w2 (.slice av2 T.vars.length cv2) (.slice an2 T.nodes.length cn2) (.slice ab2 T.body.length cb2) T) := ht2
    clear hA hB ht2
    go_wp2_with fail
    refine (HS.out _ _ _ _ T _ _ HT2.out HZ.out).mono ?_
    rintro e w3 ⟨rfl, hb⟩
    have hA := blk HA.out hb
    have hB := HB.out.trans (hb.mono HB.out.size)
    clear HA HB hb HT2
    have HA : Hid _ := hA
    have HB : Hid (Below w.heap.size w w3) := hB
    clear hA hB
    have hbx : Below w3.heap.size w3 (w3.alloc (.cells #[.int .i64 (C T k), .int .i64 (V T k)] 29)) := (Below.refl _ _).alloc (Nat.le_refl _) _
    have HG : Hid _ := heap_alloc_new w3 (.cells #[.int .i64 (C T k), .int .i64 (V T k)] 29)
    have hA := blk HA.out hbx
    have a0 := cell_of_row _ _ 0 _ _ _ hA
    have a1 := cell_of_row _ _ 1 _ _ _ hA
    have a2 := cell_of_row _ _ 2 _ _ _ hA
    simp at a0 a1 a2
    have hB := HB.out.trans (hbx.mono HB.out.size)
    clear HA HB hbx
    have HA : Hid _ := hA
    have HB : Hid _ := hB
    clear hA hB
    go_wp2_with fail
    have hA := HA.out
    have hB := HB.out
    have hG := HG.out
    clear HA HB HG a0 a1 a2
    generalize w3.alloc (.cells #[.int .i64 (C T k), .int .i64 (V T k)] 29) = W3 at *
    generalize w3.heap.size = g3 at *
    refine (toTree_any 0 T _ _ _ _ (HT.out.below hB) HZ.out).mono ?_
    rintro e w4 ⟨_, _, _, rfl, ht4, hb⟩
    obtain ⟨av4, cv4, rfl, _⟩ := id ht4.vars
    obtain ⟨an4, cn4, rfl, _⟩ := id ht4.nodes
    obtain ⟨ab4, cb4, rfl, _⟩ := id ht4.body
    have HA : Hid _ := blk hA hb
    have HG : Hid _ := blk hG hb
    have HB : Hid (Below w.heap.size w w4) := hB.trans (hb.mono hB.size)
    have HT4 : Hid (TreeV W3.heap.size w4 (.slice av4 T.vars.length cv4) (.slice an4 T.nodes.length cn4) (.slice ab4 T.body.length cb4) T) := ht4
    clear hA hB ht4 hG hb
    go_wp2_with fail
    have hbx : Below w4.heap.size w4 (w4.alloc (.cells #[.slice av4 T.vars.length cv4, .slice an4 T.nodes.length cn4, .slice ab4 T.body.length cb4] 34)) := (Below.refl _ _).alloc (Nat.le_refl _) _
    have hX := heap_alloc_new w4 (.cells #[.slice av4 T.vars.length cv4, .slice an4 T.nodes.length cn4, .slice ab4 T.body.length cb4] 34)
    have hA := blk HA.out hbx
    have hG := blk HG.out hbx
    have hB := HB.out.trans (hbx.mono HB.out.size)
    have hT4 := HT4.out.below hbx
    clear HA HB HG HT4 hbx
    generalize w4.alloc (.cells #[.slice av4 T.vars.length cv4, .slice an4 T.nodes.length cn4, .slice ab4 T.body.length cb4] 34) = W5 at *
    generalize w4.heap.size = g4 at *
    refine (HI.out _ _ _ _ T _ _ hT4 HZ.out).mono ?_
    rintro e w5 ⟨rfl, hb⟩
    have hA5 := blk hA hb
    have hG5 := blk hG hb
    have hX5 := blk hX hb
    have hB5 := hB.trans (hb.mono hB.size)
    have hT5 := hT4.below hb
    clear hb hB hT4 hA hX hG
    have hbx : Below w5.heap.size w5 (w5.alloc (.cells #[.int .i64 (C T k), .int .i64 (V T k)] 29)) := (Below.refl _ _).alloc (Nat.le_refl _) _
    have hH := heap_alloc_new w5 (.cells #[.int .i64 (C T k), .int .i64 (V T k)] 29)
    have HA : Hid _ := blk hA5 hbx
    have HG : Hid _ := blk hG5 hbx
    have HX : Hid _ := blk hX5 hbx
    have HH : Hid _ := hH
    have HB : Hid _ := hB5.trans (hbx.mono hB5.size)
    have HT5 : Hid _ := hT5.below hbx
    have b0 := cell_of_row _ _ 0 _ _ _ HG.out
    have b1 := cell_of_row _ _ 1 _ _ _ HG.out
    have d0 := cell_of_row _ _ 0 _ _ _ HH.out
    have d1 := cell_of_row _ _ 1 _ _ _ HH.out
    simp at b0 b1 d0 d1
    clear hA5 hG5 hX5 hH hB5 hT5 hbx
    go_wp2_with fail
    generalize w5.alloc (.cells #[.int .i64 (C T k), .int .i64 (V T k)] 29) = W6 at *
    refine (HQ.out _ _ _).mono ?_
    rintro e w6 ⟨rfl, hb⟩
    have hA6 := blk HA.out hb
    have hX6 := blk HX.out hb
    have hB6 := HB.out.trans (hb.mono HB.out.size)
    have hT6 := HT5.out.below hb
    clear HA HG HX HH HB HT5 b0 b1 d0 d1 hb
    have HB : Hid (Below w.heap.size w w6) := hB6
    have HT6 : Hid (TreeV W3.heap.size w6 (.slice av4 T.vars.length cv4) (.slice an4 T.nodes.length cn4) (.slice ab4 T.body.length cb4) T) := hT6
    clear hB6 hT6
    have hgA : w.heap.size < w6.heap.size := blk_lt hA6
    have hgX : g4 < w6.heap.size := blk_lt hX6
    have a0 := cell_of_row _ _ 0 _ _ _ hA6
    have a1 := cell_of_row _ _ 1 _ _ _ hA6
    have a2 := cell_of_row _ _ 2 _ _ _ hA6
    simp at a0 a1 a2
    have x0 := cell_of_row _ _ 0 _ _ _ hX6
    have x1 := cell_of_row _ _ 1 _ _ _ hX6
    have x2 := cell_of_row _ _ 2 _ _ _ hX6
    simp at x0 x1 x2
    clear hA6 hX6
    have A0 : Hid _ := a0
    have X0 : Hid _ := x0
    have A1 : Hid _ := a1
    have X1 : Hid _ := x1
    have A2 : Hid _ := a2
    have X2 : Hid _ := x2
    have HC : Hid (∀ W, Below w6.heap.size w6 W → Calls Try.prog 7 #[.agg #[.slice av T.vars.length cv, .slice an T.nodes.length cn, .slice ab T.body.length cb]] W fun e w' => ∃ a c a2 c2 a3 c3, e = .returned (treeV (.slice a T.vars.length c) (.slice a2 T.nodes.length c2) (.slice a3 T.body.length c3)) ∧ TreeV W.heap.size w' (.slice a T.vars.length c) (.slice a2 T.nodes.length c2) (.slice a3 T.body.length c3) T ∧ Below W.heap.size W w') := fun W hW =>
      (toTree_any 0 T _ _ _ W (HT.out.below (HB.out.trans (hW.mono HB.out.size))) HZ.out).mono fun e w' h => by
        obtain ⟨_, _, _, rfl, h1, h2⟩ := h
        obtain ⟨_, _, rfl, _⟩ := id h1.vars
        obtain ⟨_, _, rfl, _⟩ := id h1.nodes
        obtain ⟨_, _, rfl, _⟩ := id h1.body
        exact ⟨_, _, _, _, _, _, rfl, h1, h2⟩
    have HE : Hid (∀ W lo v1 v2 v3, Below w6.heap.size w6 W → TreeV lo W v1 v2 v3 T → Calls Try.prog 10 #[.agg #[.slice av4 T.vars.length cv4, .slice an4 T.nodes.length cn4, .slice ab4 T.body.length cb4], treeV v1 v2 v3] W fun e w' => e = .returned (.bool true) ∧ Below W.heap.size W w') := fun W lo v1 v2 v3 hW h =>
      eqTree_any _ _ T _ _ _ _ _ _ W (HT6.out.below hW) h HZ.out
    go_wp2_with fail
    go_region_held3 (fun W => (W.cell? ⟨w.heap.size, 0, none⟩ = some (.slice av T.vars.length cv) ∧ W.cell? ⟨w.heap.size, 1, none⟩ = some (.slice an T.nodes.length cn) ∧ W.cell? ⟨w.heap.size, 2, none⟩ = some (.slice ab T.body.length cb)) ∧ (W.cell? ⟨g4, 0, none⟩ = some (.slice av4 T.vars.length cv4) ∧ W.cell? ⟨g4, 1, none⟩ = some (.slice an4 T.nodes.length cn4) ∧ W.cell? ⟨g4, 2, none⟩ = some (.slice ab4 T.body.length cb4))) (go_keep) (first | (go_at_call 7; refine (HC.out _ (Below.refl w6.heap.size w6).drew).mono ?_; rintro e w7 ⟨a7, c7, b7, d7, e7, f7, rfl, ht7, hb⟩; have hD : Below w6.heap.size w6 w7 := ((Below.refl w6.heap.size w6).drew).trans (Below.mono hb (Nat.le_refl _)); have a0 := (hD.cell (p := ⟨w.heap.size, 0, none⟩) hgA).trans A0.out; have a1 := (hD.cell (p := ⟨w.heap.size, 1, none⟩) hgA).trans A1.out; have a2 := (hD.cell (p := ⟨w.heap.size, 2, none⟩) hgA).trans A2.out; have x0 := (hD.cell (p := ⟨g4, 0, none⟩) hgX).trans X0.out; have x1 := (hD.cell (p := ⟨g4, 1, none⟩) hgX).trans X1.out; have x2 := (hD.cell (p := ⟨g4, 2, none⟩) hgX).trans X2.out; have HD : Hid (Below w6.heap.size w6 w7) := hD; have HT7 : Hid (TreeV _ w7 _ _ _ T) := ht7; clear hb hD ht7) | (go_at_call 10; refine (HE.out _ _ _ _ _ HD.out HT7.out).mono ?_; rintro e w8 ⟨rfl, hb⟩; have hD : Below w6.heap.size w6 w8 := HD.out.trans (Below.mono hb HD.out.size); have a0 := (hD.cell (p := ⟨w.heap.size, 0, none⟩) hgA).trans A0.out; have a1 := (hD.cell (p := ⟨w.heap.size, 1, none⟩) hgA).trans A1.out; have a2 := (hD.cell (p := ⟨w.heap.size, 2, none⟩) hgA).trans A2.out; have x0 := (hD.cell (p := ⟨g4, 0, none⟩) hgX).trans X0.out; have x1 := (hD.cell (p := ⟨g4, 1, none⟩) hgX).trans X1.out; have x2 := (hD.cell (p := ⟨g4, 2, none⟩) hgX).trans X2.out; have hBB := HB.out.trans (hD.mono HB.out.size); clear hb))
    go_wp2
    go_ret
    exact ⟨rfl, hBB⟩
  · go_wp2_with fail
    go_ret
    exact ⟨rfl, HB.out⟩

end Go.Proofs.Ytlofagpffeaebaa
namespace Go.Proofs.Ytlofagpffeaebaa
open Go.RowKit
set_option linter.unusedVariables false
theorem fnExactCostOf_walk (vv0 vn0 vb0 : Value) (T0 : LTree) (a1 : Int) (w : World) (w0 : IsTree w vv0 vn0 vb0 T0) (w1 : (Lit.int .i64 a1).wf = true) :
    Calls Try.prog 3 #[treeV vv0 vn0 vb0, .int .i64 a1] w fun e w' => e = .returned (.bool true) ∧ Below w.heap.size w w' :=
  costOf_law cosC cosV specCostOf implCostOf vv0 vn0 vb0 T0 a1 w w0
end Go.Proofs.Ytlofagpffeaebaa
