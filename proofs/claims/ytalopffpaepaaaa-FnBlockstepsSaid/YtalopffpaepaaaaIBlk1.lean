/-
  impl's four steps, areWords, truthOf.
-/
import Derived.Test.YtalopffpaepaaaaSBlk1
namespace Go.Proofs.Ytalopffpaepaaaa
open Go.RowKit
set_option linter.unusedVariables false

set_option maxHeartbeats 800000 in
theorem truthOf_any (b : Bool) (w : World) : Calls Try.prog 70 #[.bool b] w fun e w' => e = .returned (.int .i64 (b01 b)) ∧ w' = w := by
  have HO : Hid (∀ (w : World), Calls Try.prog 85 #[.bool b] w fun e w' => e = .returned (.int .u16 (b01 b)) ∧ w' = w) := fun w => oneIf_any b w
  have h0 : 0 ≤ b01 b ∧ b01 b ≤ 1 := by unfold b01; cases b <;> decide
  obtain ⟨v, hv⟩ : ∃ v, v = b01 b := ⟨_, rfl⟩
  rw [← hv] at HO h0 ⊢
  obtain ⟨h1, h2⟩ := h0
  clear hv
  go_enter Try.func70, Try.ntmps70
  go_wp2_with fail
  refine (HO.out _).mono ?_
  rintro e w2 ⟨rfl, rfl⟩
  go_wp2_with fail
  go_ret
  exact ⟨rfl, rfl⟩

set_option maxHeartbeats 800000 in
theorem areWords_any (a : Option Addr) (zs : List Int) (cap : Nat) (k : Nat) (w : World) (hlen : zs.length ≤ 1048576) (hk : k ≤ 3) (hn : Nums w a zs) :
    Calls Try.prog 40 #[.slice a zs.length cap, .int .i64 k] w fun e w' => e = .returned (.bool (decide (zs.length = k) && wordsB zs)) ∧ Below w.heap.size w w' := by
  by_cases h : zs.length = k
  · have HF : Hid (Calls Try.prog 52 #[.slice a zs.length cap] w fun e w' => e = .returned (.int .i64 (fault zs)) ∧ Below w.heap.size w w') := implFault_any a zs cap w (by omega) hn
    have HQ : Hid ((fault zs = 0) = (wordsB zs = true)) := fault_few (by omega)
    have hd : decide (zs.length = k) = true := decide_eq_true h
    have hb : ((zs.length : Int) == (k : Int)) = true := by rw [beq_iff_eq]; omega
    rw [hd, Bool.true_and]
    obtain ⟨f, hf⟩ : ∃ f, f = fault zs := ⟨_, rfl⟩
    rw [← hf] at HF HQ
    obtain ⟨q, hq⟩ : ∃ q, q = wordsB zs := ⟨_, rfl⟩
    rw [← hq] at HQ ⊢
    clear hf hq hn h
    generalize hL : zs.length = L at *
    clear hL
    by_cases hz : f = 0
    · have e : q = true := HQ.out.mp hz
      subst hz e
      go_enter Try.func40, Try.ntmps40
      go_wp2_with fail
      refine HF.out.mono ?_
      rintro e w2 ⟨rfl, hb⟩
      have HB := hid hb
      clear hb
      go_wp2_with fail
      go_ret
      exact ⟨rfl, HB.out⟩
    · have e : q = false := by cases q with
        | false => rfl
        | true => exact absurd (HQ.out.mpr rfl) hz
      subst e
      have hz2 : (f == 0) = false := by simpa using hz
      go_enter Try.func40, Try.ntmps40
      go_wp2_with fail
      refine HF.out.mono ?_
      rintro e w2 ⟨rfl, hb⟩
      have HB := hid hb
      clear hb
      go_wp2_with fail
      go_ret
      exact ⟨rfl, HB.out⟩
  · have hd : decide (zs.length = k) = false := decide_eq_false h
    have hb : ((zs.length : Int) == (k : Int)) = false := by rw [beq_eq_false_iff_ne]; omega
    rw [hd, Bool.false_and]
    generalize hL : zs.length = L at *
    clear hL hn h
    go_enter Try.func40, Try.ntmps40
    go_wp2_with fail
    go_ret
    exact ⟨rfl, Below.refl _ _⟩

set_option maxHeartbeats 3200000 in
set_option maxRecDepth 100000 in
theorem stepCtu_any (k0 k1 k2 a0 a1 a2 : Int) (bk ok ba oa ck ca : Nat) (w : World) (hk0 : 0 ≤ k0) (hk1 : k0 ≤ 65535) (ek0 : w.cell? ⟨bk, ok + 0, none⟩ = some (.int .i64 k0)) (ek1 : w.cell? ⟨bk, ok + 1, none⟩ = some (.int .i64 k1)) (ek2 : w.cell? ⟨bk, ok + 2, none⟩ = some (.int .i64 k2)) (ea0 : w.cell? ⟨ba, oa + 0, none⟩ = some (.int .i64 a0)) (ea1 : w.cell? ⟨ba, oa + 1, none⟩ = some (.int .i64 a1)) (ea2 : w.cell? ⟨ba, oa + 2, none⟩ = some (.int .i64 a2)) :
    Calls Try.prog 41 #[.slice (some ⟨bk, ok, none⟩) 3 ck, .slice (some ⟨ba, oa, none⟩) 3 ca] w fun e w' => StepR w w' e [ctuC k0 k1 a0 a1, b01 (decide (a0 ≠ 0)), b01 (decide (sg a2 ≤ sg (ctuC k0 k1 a0 a1)))] := by
  have HS : Hid (∀ (x : Int) (w : World), Calls Try.prog 69 #[.int .i64 x] w fun e w' => e = .returned (.int .i64 (sg x)) ∧ w' = w) := implSignedOf
  have HT : Hid (∀ (b : Bool) (w : World), Calls Try.prog 70 #[.bool b] w fun e w' => e = .returned (.int .i64 (b01 b)) ∧ w' = w) := truthOf_any
  have HW : Hid (∀ (x : Int) (w : World), Calls Try.prog 48 #[.int .i64 x] w fun e w' => e = .returned (.int .i64 (wd x)) ∧ w' = w) := implWordOf
  simp only [Nat.add_zero] at ek0 ea0
  obtain ⟨C, hC⟩ : ∃ C, C = ctuC k0 k1 a0 a1 := ⟨_, rfl⟩
  rw [← hC]
  have HC : Hid (C = ctuC k0 k1 a0 a1) := hC
  clear hC
  obtain ⟨q0, hq0⟩ : ∃ q, (a0 != 0) = q := ⟨_, rfl⟩
  have HQ : Hid (decide (a0 ≠ 0) = q0) := by unfold Hid; rw [← hq0]; by_cases h : a0 = 0 <;> simp [h]
  by_cases h1 : a1 = 0
  case neg =>
    have e1 : (a1 != 0) = true := by simpa using h1
    have e0 : Hid (C = 0) := by unfold Hid; rw [HC.out]; unfold ctuC; rw [if_pos h1]
    clear h1
    go_enter Try.func41, Try.ntmps41
    go_wp2_with fail
    go_region
    go_wp2_with fail
    go_region
    go_wp2_with fail
    go_region_held3 (fun Z => Z.cell? ⟨ba, oa + 2, none⟩ = some (.int .i64 a2)) (go_keep) (first | (go_at_call 69; refine (HS.out _ _).mono ?_; rintro e w2 ⟨rfl, rfl⟩) | (go_at_call 70; refine (HT.out _ _).mono ?_; rintro e w2 ⟨rfl, rfl⟩))
    all_goals (go_wp2_with fail; go_ret; refine ⟨rfl, (heap_alloc_new _ _).trans (cells_eq ?_), by go_grown⟩; rw [e0.out, HQ.out]; simp)
  subst h1
  cases q0 with
  | false =>
    have h0 : a0 = 0 := by simpa using hq0
    have e0 : Hid (C = k0) := by unfold Hid; rw [HC.out]; unfold ctuC; rw [if_neg (by simp), if_neg (fun h => h.1 h0)]
    clear h0
    go_enter Try.func41, Try.ntmps41
    go_wp2_with fail
    go_region
    go_wp2_with fail
    go_region
    go_wp2_with fail
    go_region_held3 (fun Z => Z.cell? ⟨ba, oa + 2, none⟩ = some (.int .i64 a2)) (go_keep) (first | (go_at_call 69; refine (HS.out _ _).mono ?_; rintro e w2 ⟨rfl, rfl⟩) | (go_at_call 70; refine (HT.out _ _).mono ?_; rintro e w2 ⟨rfl, rfl⟩))
    all_goals (go_wp2_with fail; go_ret; refine ⟨rfl, (heap_alloc_new _ _).trans (cells_eq ?_), by go_grown⟩; rw [e0.out, HQ.out]; simp)
  | true =>
  have h0 : a0 ≠ 0 := by simpa using hq0
  by_cases hk : k1 = 0
  case neg =>
    have e3 : (k1 != 0) = true := by simpa using hk
    have e0 : Hid (C = k0) := by unfold Hid; rw [HC.out]; unfold ctuC; rw [if_neg (by simp), if_neg (fun h => hk h.2.1)]
    clear hk h0
    go_enter Try.func41, Try.ntmps41
    go_wp2_with fail
    go_region
    go_wp2_with fail
    go_region
    go_wp2_with fail
    go_region_held3 (fun Z => Z.cell? ⟨ba, oa + 2, none⟩ = some (.int .i64 a2)) (go_keep) (first | (go_at_call 69; refine (HS.out _ _).mono ?_; rintro e w2 ⟨rfl, rfl⟩) | (go_at_call 70; refine (HT.out _ _).mono ?_; rintro e w2 ⟨rfl, rfl⟩))
    all_goals (go_wp2_with fail; go_ret; refine ⟨rfl, (heap_alloc_new _ _).trans (cells_eq ?_), by go_grown⟩; rw [e0.out, HQ.out]; simp)
  subst hk
  by_cases hs : sg k0 < 32767
  case neg =>
    have e3 : decide (sg k0 < 32767) = false := decide_eq_false hs
    have e0 : Hid (C = k0) := by unfold Hid; rw [HC.out]; unfold ctuC; rw [if_neg (by simp), if_neg (fun h => hs h.2.2)]
    clear hs h0
    go_enter Try.func41, Try.ntmps41
    go_wp2_with fail
    go_region
    go_wp2_with fail
    go_region
    go_wp2_with fail
    refine (HS.out _ _).mono ?_
    rintro e w2 ⟨rfl, rfl⟩
    go_wp2_with fail
    go_region_held3 (fun Z => Z.cell? ⟨ba, oa + 2, none⟩ = some (.int .i64 a2)) (go_keep) (first | (go_at_call 69; refine (HS.out _ _).mono ?_; rintro e w2 ⟨rfl, rfl⟩) | (go_at_call 70; refine (HT.out _ _).mono ?_; rintro e w2 ⟨rfl, rfl⟩))
    all_goals (go_wp2_with fail; go_ret; refine ⟨rfl, (heap_alloc_new _ _).trans (cells_eq ?_), by go_grown⟩; rw [e0.out, HQ.out]; simp)
  have e3 : decide (sg k0 < 32767) = true := decide_eq_true hs
  have e0 : Hid (C = wd (k0 + 1)) := by unfold Hid; rw [HC.out]; unfold ctuC; rw [if_neg (by simp), if_pos ⟨h0, rfl, hs⟩]
  clear hs h0
  go_enter Try.func41, Try.ntmps41
  go_wp2_with fail
  go_region
  go_wp2_with fail
  go_region
  go_wp2_with fail
  refine (HS.out _ _).mono ?_
  rintro e w2 ⟨rfl, rfl⟩
  go_wp2_with fail
  refine (HW.out _ _).mono ?_
  rintro e w3 ⟨rfl, rfl⟩
  go_wp2_with fail
  go_region_held3 (fun Z => Z.cell? ⟨ba, oa + 2, none⟩ = some (.int .i64 a2)) (go_keep) (first | (go_at_call 69; refine (HS.out _ _).mono ?_; rintro e w2 ⟨rfl, rfl⟩) | (go_at_call 70; refine (HT.out _ _).mono ?_; rintro e w2 ⟨rfl, rfl⟩))
  all_goals (go_wp2_with fail; go_ret; refine ⟨rfl, (heap_alloc_new _ _).trans (cells_eq ?_), by go_grown⟩; rw [e0.out, HQ.out]; simp)

set_option maxHeartbeats 3200000 in
set_option maxRecDepth 100000 in
theorem stepTon_any (k0 k1 a0 a1 : Int) (bk ok ba oa ck ca : Nat) (w : World) (hk0 : 0 ≤ k0) (hk1 : k0 ≤ 65535) (ek0 : w.cell? ⟨bk, ok + 0, none⟩ = some (.int .i64 k0)) (ek1 : w.cell? ⟨bk, ok + 1, none⟩ = some (.int .i64 k1)) (ea0 : w.cell? ⟨ba, oa + 0, none⟩ = some (.int .i64 a0)) (ea1 : w.cell? ⟨ba, oa + 1, none⟩ = some (.int .i64 a1)) :
    Calls Try.prog 42 #[.slice (some ⟨bk, ok, none⟩) 2 ck, .slice (some ⟨ba, oa, none⟩) 2 ca] w fun e w' => StepR w w' e [tonC k0 a0 a1, b01 (decide (a0 ≠ 0 ∧ sg a1 ≤ sg (tonC k0 a0 a1)))] := by
  have HS : Hid (∀ (x : Int) (w : World), Calls Try.prog 69 #[.int .i64 x] w fun e w' => e = .returned (.int .i64 (sg x)) ∧ w' = w) := implSignedOf
  have HT : Hid (∀ (b : Bool) (w : World), Calls Try.prog 70 #[.bool b] w fun e w' => e = .returned (.int .i64 (b01 b)) ∧ w' = w) := truthOf_any
  have HW : Hid (∀ (x : Int) (w : World), Calls Try.prog 48 #[.int .i64 x] w fun e w' => e = .returned (.int .i64 (wd x)) ∧ w' = w) := implWordOf
  simp only [Nat.add_zero] at ek0 ea0
  obtain ⟨C, hC⟩ : ∃ C, C = tonC k0 a0 a1 := ⟨_, rfl⟩
  rw [← hC]
  have HC : Hid (C = tonC k0 a0 a1) := hC
  clear hC
  by_cases h0 : a0 = 0
  · subst h0
    have e0 : Hid (C = 0) := by unfold Hid; rw [HC.out]; unfold tonC; rw [if_pos rfl]
    go_enter Try.func42, Try.ntmps42
    go_wp2_with fail
    go_region_held3 (fun Z => Z.cell? ⟨bk, ok, none⟩ = some (.int .i64 k0) ∧ Z.cell? ⟨ba, oa + 1, none⟩ = some (.int .i64 a1)) (go_keep) (first | (go_at_call 69; refine (HS.out _ _).mono ?_; rintro e w2 ⟨rfl, rfl⟩) | (go_at_call 70; refine (HT.out _ _).mono ?_; rintro e w2 ⟨rfl, rfl⟩))
    go_wp2_with fail
    refine (HT.out _ _).mono ?_
    rintro e w4 ⟨rfl, rfl⟩
    go_wp2_with fail
    go_ret
    refine ⟨rfl, (heap_alloc_new _ _).trans (cells_eq ?_), by go_grown⟩
    rw [e0.out]; simp
  have e1 : (a0 != 0) = true := by simpa using h0
  have e5 : (decide (a0 = 0)) = false := decide_eq_false h0
  by_cases hs : sg k0 < sg a1
  · have e3 : decide (sg k0 < sg a1) = true := decide_eq_true hs
    have e0 : Hid (C = wd (k0 + 1)) := by unfold Hid; rw [HC.out]; unfold tonC; rw [if_neg h0, if_pos hs]
    clear hs h0
    go_enter Try.func42, Try.ntmps42
    go_wp2_with fail
    go_region_held3 (fun Z => Z.cell? ⟨bk, ok, none⟩ = some (.int .i64 k0) ∧ Z.cell? ⟨ba, oa + 1, none⟩ = some (.int .i64 a1)) (go_keep) (first | (go_at_call 69; refine (HS.out _ _).mono ?_; rintro e w2 ⟨rfl, rfl⟩) | (go_at_call 70; refine (HT.out _ _).mono ?_; rintro e w2 ⟨rfl, rfl⟩))
    go_wp2_with fail
    refine (HS.out _ _).mono ?_
    rintro e w2 ⟨rfl, rfl⟩
    go_wp2_with fail
    refine (HW.out _ _).mono ?_
    rintro e w3 ⟨rfl, rfl⟩
    go_wp2_with fail
    refine (HS.out _ _).mono ?_
    rintro e w2 ⟨rfl, rfl⟩
    go_wp2_with fail
    refine (HT.out _ _).mono ?_
    rintro e w4 ⟨rfl, rfl⟩
    go_wp2_with fail
    go_ret
    refine ⟨rfl, (heap_alloc_new _ _).trans (cells_eq ?_), by go_grown⟩
    rw [e0.out]; simp [e5]
  have e3 : decide (sg k0 < sg a1) = false := decide_eq_false hs
  have e0 : Hid (C = k0) := by unfold Hid; rw [HC.out]; unfold tonC; rw [if_neg h0, if_neg hs]
  clear hs h0
  go_enter Try.func42, Try.ntmps42
  go_wp2_with fail
  go_region_held3 (fun Z => Z.cell? ⟨bk, ok, none⟩ = some (.int .i64 k0) ∧ Z.cell? ⟨ba, oa + 1, none⟩ = some (.int .i64 a1)) (go_keep) (first | (go_at_call 69; refine (HS.out _ _).mono ?_; rintro e w2 ⟨rfl, rfl⟩) | (go_at_call 70; refine (HT.out _ _).mono ?_; rintro e w2 ⟨rfl, rfl⟩))
  go_wp2_with fail
  refine (HS.out _ _).mono ?_
  rintro e w2 ⟨rfl, rfl⟩
  go_wp2_with fail
  refine (HS.out _ _).mono ?_
  rintro e w2 ⟨rfl, rfl⟩
  go_wp2_with fail
  refine (HT.out _ _).mono ?_
  rintro e w4 ⟨rfl, rfl⟩
  go_wp2_with fail
  go_ret
  refine ⟨rfl, (heap_alloc_new _ _).trans (cells_eq ?_), by go_grown⟩
  rw [e0.out]; simp [e5]

set_option maxHeartbeats 3200000 in
set_option maxRecDepth 100000 in
theorem stepRtrig_any (k0 k1 a0 : Int) (bk ok ba oa ck ca : Nat) (w : World) (ek0 : w.cell? ⟨bk, ok + 0, none⟩ = some (.int .i64 k0)) (ek1 : w.cell? ⟨bk, ok + 1, none⟩ = some (.int .i64 k1)) (ea0 : w.cell? ⟨ba, oa + 0, none⟩ = some (.int .i64 a0)) :
    Calls Try.prog 43 #[.slice (some ⟨bk, ok, none⟩) 2 ck, .slice (some ⟨ba, oa, none⟩) 1 ca] w fun e w' => StepR w w' e [b01 (decide (a0 ≠ 0)), b01 (decide (a0 ≠ 0 ∧ k0 = 0))] := by
  have HS : Hid (∀ (x : Int) (w : World), Calls Try.prog 69 #[.int .i64 x] w fun e w' => e = .returned (.int .i64 (sg x)) ∧ w' = w) := implSignedOf
  have HT : Hid (∀ (b : Bool) (w : World), Calls Try.prog 70 #[.bool b] w fun e w' => e = .returned (.int .i64 (b01 b)) ∧ w' = w) := truthOf_any
  have HW : Hid (∀ (x : Int) (w : World), Calls Try.prog 48 #[.int .i64 x] w fun e w' => e = .returned (.int .i64 (wd x)) ∧ w' = w) := implWordOf
  simp only [Nat.add_zero] at ek0 ea0
  by_cases h0 : a0 = 0
  · subst h0
    go_enter Try.func43, Try.ntmps43
    go_wp2_with fail
    go_region
    go_wp2_with fail
    refine (HT.out _ _).mono ?_
    rintro e w4 ⟨rfl, rfl⟩
    go_wp2_with fail
    refine (HT.out _ _).mono ?_
    rintro e w4 ⟨rfl, rfl⟩
    go_wp2_with fail
    go_ret
    refine ⟨rfl, (heap_alloc_new _ _).trans (cells_eq ?_), by go_grown⟩
    simp
  have e1 : (a0 != 0) = true := by simpa using h0
  have e5 : (decide (a0 = 0)) = false := decide_eq_false h0
  clear h0
  by_cases h1 : k0 = 0
  · subst h1
    go_enter Try.func43, Try.ntmps43
    go_wp2_with fail
    go_region
    go_wp2_with fail
    refine (HT.out _ _).mono ?_
    rintro e w4 ⟨rfl, rfl⟩
    go_wp2_with fail
    refine (HT.out _ _).mono ?_
    rintro e w4 ⟨rfl, rfl⟩
    go_wp2_with fail
    go_ret
    refine ⟨rfl, (heap_alloc_new _ _).trans (cells_eq ?_), by go_grown⟩
    simp [e5]
  have e2 : (k0 != 0) = true := by simpa using h1
  have e6 : (decide (k0 = 0)) = false := decide_eq_false h1
  clear h1
  go_enter Try.func43, Try.ntmps43
  go_wp2_with fail
  go_region
  go_wp2_with fail
  refine (HT.out _ _).mono ?_
  rintro e w4 ⟨rfl, rfl⟩
  go_wp2_with fail
  refine (HT.out _ _).mono ?_
  rintro e w4 ⟨rfl, rfl⟩
  go_wp2_with fail
  go_ret
  refine ⟨rfl, (heap_alloc_new _ _).trans (cells_eq ?_), by go_grown⟩
  simp [e5, e6]

set_option maxHeartbeats 3200000 in
set_option maxRecDepth 100000 in
theorem stepSr_any (k0 a0 a1 : Int) (bk ok ba oa ck ca : Nat) (w : World) (ek0 : w.cell? ⟨bk, ok + 0, none⟩ = some (.int .i64 k0)) (ea0 : w.cell? ⟨ba, oa + 0, none⟩ = some (.int .i64 a0)) (ea1 : w.cell? ⟨ba, oa + 1, none⟩ = some (.int .i64 a1)) :
    Calls Try.prog 44 #[.slice (some ⟨bk, ok, none⟩) 1 ck, .slice (some ⟨ba, oa, none⟩) 2 ca] w fun e w' => StepR w w' e [b01 (decide (a0 ≠ 0 ∨ (k0 ≠ 0 ∧ a1 = 0)))] := by
  have HS : Hid (∀ (x : Int) (w : World), Calls Try.prog 69 #[.int .i64 x] w fun e w' => e = .returned (.int .i64 (sg x)) ∧ w' = w) := implSignedOf
  have HT : Hid (∀ (b : Bool) (w : World), Calls Try.prog 70 #[.bool b] w fun e w' => e = .returned (.int .i64 (b01 b)) ∧ w' = w) := truthOf_any
  have HW : Hid (∀ (x : Int) (w : World), Calls Try.prog 48 #[.int .i64 x] w fun e w' => e = .returned (.int .i64 (wd x)) ∧ w' = w) := implWordOf
  simp only [Nat.add_zero] at ek0 ea0
  by_cases h0 : a0 = 0
  · subst h0
    by_cases h1 : k0 = 0
    · subst h1
      go_enter Try.func44, Try.ntmps44
      go_wp2_with fail
      go_region
      go_wp2_with fail
      refine (HT.out _ _).mono ?_
      rintro e w4 ⟨rfl, rfl⟩
      go_wp2_with fail
      go_ret
      refine ⟨rfl, (heap_alloc_new _ _).trans (cells_eq ?_), by go_grown⟩
      simp
    have e2 : (k0 != 0) = true := by simpa using h1
    have e6 : (decide (k0 = 0)) = false := decide_eq_false h1
    clear h1
    by_cases h2 : a1 = 0
    · subst h2
      go_enter Try.func44, Try.ntmps44
      go_wp2_with fail
      go_region
      go_wp2_with fail
      refine (HT.out _ _).mono ?_
      rintro e w4 ⟨rfl, rfl⟩
      go_wp2_with fail
      go_ret
      refine ⟨rfl, (heap_alloc_new _ _).trans (cells_eq ?_), by go_grown⟩
      simp [e6]
    have e3 : (a1 != 0) = true := by simpa using h2
    have e7 : (decide (a1 = 0)) = false := decide_eq_false h2
    clear h2
    go_enter Try.func44, Try.ntmps44
    go_wp2_with fail
    go_region
    go_wp2_with fail
    refine (HT.out _ _).mono ?_
    rintro e w4 ⟨rfl, rfl⟩
    go_wp2_with fail
    go_ret
    refine ⟨rfl, (heap_alloc_new _ _).trans (cells_eq ?_), by go_grown⟩
    simp [e6, e7]
  have e1 : (a0 != 0) = true := by simpa using h0
  have e5 : (decide (a0 = 0)) = false := decide_eq_false h0
  clear h0
  go_enter Try.func44, Try.ntmps44
  go_wp2_with fail
  go_region
  go_wp2_with fail
  refine (HT.out _ _).mono ?_
  rintro e w4 ⟨rfl, rfl⟩
  go_wp2_with fail
  go_ret
  refine ⟨rfl, (heap_alloc_new _ _).trans (cells_eq ?_), by go_grown⟩
  simp [e5]
end Go.Proofs.Ytalopffpaepaaaa
