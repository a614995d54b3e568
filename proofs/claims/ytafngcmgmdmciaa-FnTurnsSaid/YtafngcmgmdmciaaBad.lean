/-
  impl.BadBlock and spec.BadBlock answer one plain thing: the faults, the wrong number of sums, the first block whose sum is another one, or that there is none.
-/
import Derived.Test.YtafngcmgmdmciaaBlocks
namespace Go.Proofs.Ytafngcmgmdmciaa
open Go.RowKit

/-- from place k on, n places: the first at which the two part -/
def look (a b : List Int) (k : Nat) : Nat → Int × Int
  | 0 => (4, 0)
  | n + 1 => if a.getD k 0 = b.getD k 0 then look a b (k + 1) n else (0, k)
def bad (zs ss : List Int) : Int × Int :=
  if fault zs ≠ 0 then (fault zs, 0) else if fault ss ≠ 0 then (fault ss, 0) else if ss.length ≠ cnt zs then (1, 0) else look (sumsTo zs (cnt zs)) ss 0 (cnt zs)

theorem sumsTo_get (zs : List Int) (n k : Nat) (h : k < n) : (sumsTo zs n).getD k 0 = blk zs k := by
  unfold sumsTo
  rw [List.getD_eq_getElem?_getD, List.getElem?_eq_getElem (by simpa using h)]
  simp

set_option maxHeartbeats 1600000 in
theorem implBad_any (a b : Option Addr) (zs ss : List Int) (ca cb : Nat) (w : World) (hcap : zs.length ≤ ca) (hz : zs.length ≤ 1048576) (hs : ss.length ≤ 1048576) (ha : Nums w a zs) (hb : Nums w b ss) :
    Calls Try.prog 48 #[.slice a zs.length ca, .slice b ss.length cb] w fun e w' => e = .returned (res (bad zs ss).1 (bad zs ss).2) ∧ Below w.heap.size w w' := by
  have hB : Below w.heap.size w (w.alloc (.cells #[.int .i64 0, .int .i64 0] 46)) := (Below.refl _ _).alloc (Nat.le_refl _) _
  have ha1 := ha.below hB
  have hb1 := hb.below hB
  clear ha hb hB
  by_cases h1 : fault zs = 0
  case neg =>
    have hft : (fault zs != 0) = true := by simpa using h1
    have hv : Hid (bad zs ss = (fault zs, 0)) := by show _ = _; rw [bad, if_pos h1]
    clear h1
    go_enter Try.func48, Try.ntmps48
    go_wp2_with fail
    refine (implFault_any a zs ca _ (by omega) ha1).mono ?_
    rintro e w1 ⟨rfl, hbF⟩
    obtain ⟨hc0, hc1, hf0, hf1, hzF⟩ := own2 hbF
    have hBF := back hbF
    have ha2 := ha1.below hbF
    have hb2 := hb1.below hbF
    clear hbF ha1 hb1
    go_wp2
    refine bodyPost_ret (v := res (fault zs) 0) (by simp [results, Try.results48, go_sem, hc0, hc1]) rfl ⟨by rw [hv.out], ?_⟩
    go_grown
  have hf1 : (fault zs != 0) = false := by rw [h1]; rfl
  by_cases h2 : fault ss = 0
  case neg =>
    have hft : (fault ss != 0) = true := by simpa using h2
    have hv : Hid (bad zs ss = (fault ss, 0)) := by show _ = _; rw [bad, if_neg (by simpa using h1), if_pos h2]
    clear h1 h2
    go_enter Try.func48, Try.ntmps48
    go_wp2_with fail
    refine (implFault_any a zs ca _ (by omega) ha1).mono ?_
    rintro e w1 ⟨rfl, hbF⟩
    obtain ⟨hc0, hc1, hf0, hf1, hzF⟩ := own2 hbF
    have hBF := back hbF
    have ha2 := ha1.below hbF
    have hb2 := hb1.below hbF
    clear hbF ha1 hb1
    go_wp2_with fail
    refine (implFault_any b ss cb _ (by omega) hb2).mono ?_
    rintro e w2 ⟨rfl, hbG⟩
    replace hc0 := (hbG.cell (p := ⟨w.heap.size, 0, none⟩) hzF).trans hc0
    replace hc1 := (hbG.cell (p := ⟨w.heap.size, 1, none⟩) hzF).trans hc1
    replace hf0 := (hbG.frozen (p := ⟨w.heap.size, 0, none⟩) hzF).trans hf0
    replace hf1 := (hbG.frozen (p := ⟨w.heap.size, 1, none⟩) hzF).trans hf1
    replace hzF : w.heap.size < w2.heap.size := Nat.lt_of_lt_of_le hzF hbG.size
    replace hBF : Below w.heap.size w w2 := hBF.trans (hbG.mono hBF.size)
    have ha1 := ha2.below hbG
    have hb1 := hb2.below hbG
    clear hbG ha2 hb2
    go_wp2
    refine bodyPost_ret (v := res (fault ss) 0) (by simp [results, Try.results48, go_sem, hc0, hc1]) rfl ⟨by rw [hv.out], ?_⟩
    go_grown
  have hf2 : (fault ss != 0) = false := by rw [h2]; rfl
  obtain ⟨h4, hw⟩ := fault_words h1
  have HW : Hid (∀ z ∈ zs, 0 ≤ z ∧ z ≤ 65535) := hw
  have hcnt : Hid (cnt zs = (zs.length + 7) / 8) := rfl
  by_cases h3 : ss.length = cnt zs
  case neg =>
    have hne : ((ss.length : Int) != ((zs.length : Int) + 7) / 8) = true := by
      have := hcnt.out
      rw [bne_iff_ne]; omega
    have hv : Hid (bad zs ss = (1, 0)) := by show _ = _; rw [bad, if_neg (by simpa using h1), if_neg (by simpa using h2), if_pos h3]
    clear h1 h2 h3 hw
    go_enter Try.func48, Try.ntmps48
    go_wp2_with fail
    refine (implFault_any a zs ca _ (by omega) ha1).mono ?_
    rintro e w1 ⟨rfl, hbF⟩
    obtain ⟨hc0, hc1, hf0, hf1, hzF⟩ := own2 hbF
    have hBF := back hbF
    have ha2 := ha1.below hbF
    have hb2 := hb1.below hbF
    clear hbF ha1 hb1
    go_wp2_with fail
    refine (implFault_any b ss cb _ (by omega) hb2).mono ?_
    rintro e w2 ⟨rfl, hbG⟩
    replace hc0 := (hbG.cell (p := ⟨w.heap.size, 0, none⟩) hzF).trans hc0
    replace hc1 := (hbG.cell (p := ⟨w.heap.size, 1, none⟩) hzF).trans hc1
    replace hf0 := (hbG.frozen (p := ⟨w.heap.size, 0, none⟩) hzF).trans hf0
    replace hf1 := (hbG.frozen (p := ⟨w.heap.size, 1, none⟩) hzF).trans hf1
    replace hzF : w.heap.size < w2.heap.size := Nat.lt_of_lt_of_le hzF hbG.size
    replace hBF : Below w.heap.size w w2 := hBF.trans (hbG.mono hBF.size)
    have ha1 := ha2.below hbG
    have hb1 := hb2.below hbG
    clear hbG ha2 hb2
    go_wp2_with fail
    refine (count_any _ _ _ _ hz).mono ?_
    rintro e w1 ⟨rfl, rfl⟩
    go_wp2
    refine bodyPost_ret (v := res 1 0) (by simp [results, Try.results48, go_sem, hc0, hc1]) rfl ⟨by rw [hv.out], ?_⟩
    go_grown
  have hne : ((ss.length : Int) != ((zs.length : Int) + 7) / 8) = false := by
    have := hcnt.out
    rw [bne_eq_false_iff_eq]; omega
  have hv : Hid (bad zs ss = look (sumsTo zs (cnt zs)) ss 0 (cnt zs)) := by show _ = _; rw [bad, if_neg (by simpa using h1), if_neg (by simpa using h2), if_neg (by simpa using h3)]
  have HE : Hid (ss.length = cnt zs) := h3
  have hss : ss.length ≤ 51 := by have := hcnt.out; omega
  clear h1 h2 h3 hw
  go_enter Try.func48, Try.ntmps48
  go_wp2_with fail
  refine (implFault_any a zs ca _ (by omega) ha1).mono ?_
  rintro e w1 ⟨rfl, hbF⟩
  obtain ⟨hc0, hc1, hf0, hf1, hzF⟩ := own2 hbF
  have hBF := back hbF
  have ha2 := ha1.below hbF
  have hb2 := hb1.below hbF
  clear hbF ha1 hb1
  go_wp2_with fail
  refine (implFault_any b ss cb _ (by omega) hb2).mono ?_
  rintro e w2 ⟨rfl, hbG⟩
  replace hc0 := (hbG.cell (p := ⟨w.heap.size, 0, none⟩) hzF).trans hc0
  replace hc1 := (hbG.cell (p := ⟨w.heap.size, 1, none⟩) hzF).trans hc1
  replace hf0 := (hbG.frozen (p := ⟨w.heap.size, 0, none⟩) hzF).trans hf0
  replace hf1 := (hbG.frozen (p := ⟨w.heap.size, 1, none⟩) hzF).trans hf1
  replace hzF : w.heap.size < w2.heap.size := Nat.lt_of_lt_of_le hzF hbG.size
  replace hBF : Below w.heap.size w w2 := hBF.trans (hbG.mono hBF.size)
  have ha1 := ha2.below hbG
  have hb1 := hb2.below hbG
  clear hbG ha2 hb2
  go_wp2_with fail
  refine (count_any _ _ _ _ hz).mono ?_
  rintro e w1 ⟨rfl, rfl⟩
  go_wp2_with fail
  go_loop [7, 8, 29] (fun _ _ i => ∃ k : Nat, k ≤ ss.length ∧ i = .int .i64 k ∧ Hid (look (sumsTo zs (cnt zs)) ss k (ss.length - k) = bad zs ss)) (fun _ _ i => ss.length - (intOf i).toNat)
  case atStart => exact ⟨0, Nat.zero_le _, rfl, by show _ = _; rw [hv.out, HE.out]; rfl⟩
  case round =>
    obtain ⟨k, hk, rfl, HL⟩ := hrel
    by_cases hlt : k < ss.length
    · have hk8 : k * 8 < zs.length := by have := hcnt.out; have := HE.out; omega
      rcases hb1 with hb1 | ⟨b2, o2, rfl, hcB⟩
      · subst hb1; simp at hlt
      rcases ha1 with ha1 | ⟨b1, o1, rfl, hcA⟩
      · subst ha1; simp at hk8
      have hcell := hcB k hlt
      have HC : Hid (∀ i, i < zs.length → w1.cell? ⟨b1, o1 + i, none⟩ = some (.int .i64 (zs.getD i 0))) := hcA
      have hstep : Hid (look (sumsTo zs (cnt zs)) ss k (ss.length - k) = if blk zs k = ss.getD k 0 then look (sumsTo zs (cnt zs)) ss (k + 1) (ss.length - (k + 1)) else (0, (k : Int))) := by
        show _ = _
        rw [show ss.length - k = (ss.length - (k + 1)) + 1 from by omega, look, sumsTo_get _ _ _ (by rw [← HE.out]; exact hlt)]
      obtain ⟨z, hz⟩ : ∃ z, z = ss.getD k 0 := ⟨_, rfl⟩
      rw [← hz] at hcell hstep
      clear hz hcA hcB
      by_cases hq : blk zs k = z
      · have hqb : (blk zs k != z) = false := by rw [bne_eq_false_iff_eq]; exact hq
        rw [if_pos hq] at hstep
        clear hq
        go_wp2_with fail
        refine (blockSum_any b1 o1 zs ca k _ hcap (by omega) hk8 HC HW).mono ?_
        rintro e w1 ⟨rfl, rfl⟩
        go_wp2
        go_round
        case rel => exact ⟨k + 1, by omega, by go_num, by show _ = _; rw [← hstep.out]; exact HL.out⟩
        case measure => simp [intOf]; omega
      · have hqb : (blk zs k != z) = true := by rw [bne_iff_ne]; exact hq
        rw [if_neg hq] at hstep
        have hv2 : Hid (bad zs ss = (0, (k : Int))) := by show _ = _; rw [← HL.out]; exact hstep.out
        clear hq
        go_wp2_with fail
        refine (blockSum_any b1 o1 zs ca k _ hcap (by omega) hk8 HC HW).mono ?_
        rintro e w1 ⟨rfl, rfl⟩
        go_wp2
        refine bodyPost_ret (v := res 0 (k : Int)) (by simp [results, Try.results48, go_sem, hc0, hc1]) rfl ⟨by rw [hv2.out], ?_⟩
        go_grown
    · have hk2 : k = ss.length := by omega
      have hv2 : Hid (bad zs ss = (4, 0)) := by
        show _ = _
        rw [← HL.out, hk2, Nat.sub_self]; rfl
      clear ha1 hb1 hk2
      go_wp2
      refine bodyPost_ret (v := res 4 0) (by simp [results, Try.results48, go_sem, hc0, hc1]) rfl ⟨by rw [hv2.out], ?_⟩
      go_grown
end Go.Proofs.Ytafngcmgmdmciaa
