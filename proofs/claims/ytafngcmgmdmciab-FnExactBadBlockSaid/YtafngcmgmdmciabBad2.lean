/-
  spec.BadBlock answers the plain thing that impl.BadBlock answers.
-/
import Derived.Test.YtafngcmgmdmciabBad
namespace Go.Proofs.Ytafngcmgmdmciab
open Go.RowKit

set_option maxHeartbeats 1600000 in
theorem specBad_any (a b : Option Addr) (zs ss : List Int) (ca cb : Nat) (w : World) (hcap : zs.length ≤ ca) (hz : zs.length ≤ 1048576) (hs : ss.length ≤ 1048576) (ha : Nums w a zs) (hb : Nums w b ss) :
    Calls Try.prog 23 #[.slice a zs.length ca, .slice b ss.length cb] w fun e w' => e = .returned (res (bad zs ss).1 (bad zs ss).2) ∧ Below w.heap.size w w' := by
  have hB : Below w.heap.size w (w.alloc (.cells #[.int .i64 0, .int .i64 0] 27)) := (Below.refl _ _).alloc (Nat.le_refl _) _
  have ha1 := ha.below hB
  have hb1 := hb.below hB
  clear ha hb hB
  by_cases h1 : fault zs = 0
  case neg =>
    have hft : (fault zs != 0) = true := by simpa using h1
    have hv : Hid (bad zs ss = (fault zs, 0)) := by show _ = _; rw [bad, if_pos h1]
    clear h1
    go_enter Try.func23, Try.ntmps23
    go_wp2_with fail
    refine (sFault_any a zs ca _ (by omega) ha1).mono ?_
    rintro e w1 ⟨rfl, rfl⟩
    go_wp2
    go_returns
    exact ⟨by rw [hv.out], by go_grown⟩
  have hf1 : (fault zs != 0) = false := by rw [h1]; rfl
  by_cases h2 : fault ss = 0
  case neg =>
    have hft : (fault ss != 0) = true := by simpa using h2
    have hv : Hid (bad zs ss = (fault ss, 0)) := by show _ = _; rw [bad, if_neg (by simpa using h1), if_pos h2]
    clear h1 h2
    go_enter Try.func23, Try.ntmps23
    go_wp2_with fail
    refine (sFault_any a zs ca _ (by omega) ha1).mono ?_
    rintro e w1 ⟨rfl, rfl⟩
    go_wp2_with fail
    refine (sFault_any b ss cb _ (by omega) hb1).mono ?_
    rintro e w1 ⟨rfl, rfl⟩
    go_wp2
    go_returns
    exact ⟨by rw [hv.out], by go_grown⟩
  have hf2 : (fault ss != 0) = false := by rw [h2]; rfl
  obtain ⟨h4, hw⟩ := fault_words h1
  have HW : Hid (∀ z ∈ zs, 0 ≤ z ∧ z ≤ 65535) := hw
  have hcnt : Hid (cnt zs = (zs.length + 7) / 8) := rfl
  have hlW : Hid ((sumsTo zs (cnt zs)).length = cnt zs) := sumsTo_length _ _
  obtain ⟨W, hW⟩ : ∃ W, W = sumsTo zs (cnt zs) := ⟨_, rfl⟩
  rw [← hW] at hlW
  have hWl : W.length ≤ 51 := by have := hlW.out; have := hcnt.out; omega
  have hbl : Hid (∀ (w : World), Nums w a zs → Calls Try.prog 42 #[.slice a zs.length ca] w fun e w' => ∃ ad cp, e = .returned (.slice ad W.length cp) ∧ Nums w' ad W ∧ Below w.heap.size w w') := by
    intro w hn
    refine (l1Blocks_any a zs ca w hcap h4 HW hn).mono ?_
    rintro e w' ⟨v, rfl, ho, hb⟩
    rw [← hW] at ho
    obtain ⟨ad, cp, rfl⟩ := own_shape ho
    exact ⟨ad, cp, rfl, (nums_of_own ho).2, hb⟩
  have hbad : bad zs ss = if ss.length ≠ cnt zs then (1, 0) else look W ss 0 (cnt zs) := by rw [hW, bad, if_neg (by simpa using h1), if_neg (by simpa using h2)]
  clear hW
  by_cases h3 : W.length = ss.length
  case neg =>
    have hne : ((W.length : Int) != (ss.length : Int)) = true := by rw [bne_iff_ne]; omega
    have hv : Hid (bad zs ss = (1, 0)) := by show _ = _; rw [hbad, if_pos (by have := hlW.out; omega)]
    clear h1 h2 h3 hw hbad
    go_enter Try.func23, Try.ntmps23
    go_wp2_with fail
    refine (sFault_any a zs ca _ (by omega) ha1).mono ?_
    rintro e w1 ⟨rfl, rfl⟩
    go_wp2_with fail
    refine (sFault_any b ss cb _ (by omega) hb1).mono ?_
    rintro e w1 ⟨rfl, rfl⟩
    go_wp2_with fail
    refine (hbl.out _ ha1).mono ?_
    rintro e w2 ⟨ad, cp, rfl, hn2, hb2⟩
    obtain ⟨hc0, hc1, hf0, hf1, hz⟩ := own2 hb2
    have hb3 := back hb2
    clear hb2
    go_wp2
    refine bodyPost_ret (v := res 1 0) (by simp [results, Try.results23, go_sem, hc0, hc1]) rfl ⟨by rw [hv.out], ?_⟩
    go_grown
  have hne : ((W.length : Int) != (ss.length : Int)) = false := by rw [bne_eq_false_iff_eq]; omega
  have hv : Hid (look W ss 0 W.length = bad zs ss) := by show _ = _; rw [hbad, if_neg (by have := hlW.out; omega), hlW.out]
  have HE : Hid (W.length = ss.length) := h3
  clear h1 h2 h3 hw hbad
  go_enter Try.func23, Try.ntmps23
  go_wp2_with fail
  refine (sFault_any a zs ca _ (by omega) ha1).mono ?_
  rintro e w1 ⟨rfl, rfl⟩
  go_wp2_with fail
  refine (sFault_any b ss cb _ (by omega) hb1).mono ?_
  rintro e w1 ⟨rfl, rfl⟩
  go_wp2_with fail
  refine (hbl.out _ ha1).mono ?_
  rintro e w2 ⟨ad, cp, rfl, hn2, hb2⟩
  obtain ⟨hc0, hc1, hf0, hf1, hz⟩ := own2 hb2
  have hb3 := back hb2
  have hs2 := hb1.below hb2
  clear hb2 hb1 ha1
  go_wp2_with fail
  go_loopw [8] (fun i wr => ∃ k : Nat, k ≤ W.length ∧ i = .int .i64 k ∧ Hid (look W ss k (W.length - k) = bad zs ss) ∧ Below w2.heap.size w2 wr) (fun i _ => W.length - (intOf i).toNat)
  case atStart => exact ⟨0, Nat.zero_le _, rfl, hv, Below.refl _ _⟩
  case round =>
    obtain ⟨k, hk, rfl, HL, hB⟩ := hrel
    have hd0 := (hB.cell (p := ⟨w.heap.size, 0, none⟩) hz).trans hc0
    have hd1 := (hB.cell (p := ⟨w.heap.size, 1, none⟩) hz).trans hc1
    have he0 := (hB.frozen (p := ⟨w.heap.size, 0, none⟩) hz).trans hf0
    have he1 := (hB.frozen (p := ⟨w.heap.size, 1, none⟩) hz).trans hf1
    have hz2 : w.heap.size < wr.heap.size := Nat.lt_of_lt_of_le hz hB.size
    have hB2 : Below w.heap.size w wr := hb3.trans (hB.mono (by omega))
    by_cases hlt : k < W.length
    · have hks : k < ss.length := by have := HE.out; omega
      rcases hn2.below hB with hn3 | ⟨b1, o1, rfl, hq1⟩
      · subst hn3; simp at hlt
      rcases hs2.below hB with hs3 | ⟨b2, o2, rfl, hq2⟩
      · subst hs3; simp at hks
      have hcell1 := hq1 k hlt
      have hcell2 := hq2 k hks
      have hstep : Hid (look W ss k (W.length - k) = if W.getD k 0 = ss.getD k 0 then look W ss (k + 1) (W.length - (k + 1)) else (0, (k : Int))) := by
        show _ = _
        rw [show W.length - k = (W.length - (k + 1)) + 1 from by omega, look]
      obtain ⟨y, hy⟩ : ∃ y, y = W.getD k 0 := ⟨_, rfl⟩
      obtain ⟨z, hz⟩ : ∃ z, z = ss.getD k 0 := ⟨_, rfl⟩
      rw [← hz, ← hy] at hstep
      rw [← hz] at hcell2
      rw [← hy] at hcell1
      clear hz hy hq1 hq2 hn2 hs2 hc0 hc1 hf0 hf1
      by_cases hq : y = z
      · have hqb : (y != z) = false := by rw [bne_eq_false_iff_eq]; exact hq
        rw [if_pos hq] at hstep
        clear hq
        go_wp2
        go_region
        all_goals
          go_wp2
          go_roundw
          case rel => exact ⟨k + 1, by omega, by go_num, by show _ = _; rw [← hstep.out]; exact HL.out, hB.drew⟩
          case measure => simp [intOf]; omega
      · have hqb : (y != z) = true := by rw [bne_iff_ne]; exact hq
        rw [if_neg hq] at hstep
        have hv2 : Hid (bad zs ss = (0, (k : Int))) := by show _ = _; rw [← HL.out]; exact hstep.out
        clear hq
        go_wp2
        go_region
        all_goals
          go_wp2
          refine bodyPost_ret (v := res 0 (k : Int)) (by simp [results, Try.results23, go_sem, hd0, hd1]) rfl ⟨by rw [hv2.out], ?_⟩
          go_grown
    · have hk2 : k = W.length := by omega
      have hv2 : Hid (bad zs ss = (4, 0)) := by
        show _ = _
        rw [← HL.out, hk2, Nat.sub_self]; rfl
      clear hk2 hc0 hc1 hf0 hf1
      go_wp2
      refine bodyPost_ret (v := res 4 0) (by simp [results, Try.results23, go_sem, hd0, hd1]) rfl ⟨by rw [hv2.out], ?_⟩
      go_grown
end Go.Proofs.Ytafngcmgmdmciab
