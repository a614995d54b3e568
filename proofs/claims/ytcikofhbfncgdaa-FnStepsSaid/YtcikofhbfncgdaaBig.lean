/-
  laws.lwBig: more than 1048576 bytes.
-/
import Derived.Test.YtcikofhbfncgdaaStpM
import Derived.Test.YtcikofhbfncgdaaRgMem
import Derived.Deep.Cut
import Derived.Deep.DrawnRows
import Derived.Test.YtcikofhbfncgdaaRgI8m
import Derived.Test.YtcikofhbfncgdaaRgS8a
import Derived.Deep.RegionHeld3
import Derived.Test.YtcikofhbfncgdaaCopy
import Derived.Test.YtcikofhbfncgdaaBase
namespace Go.Proofs.Ytcikofhbfncgdaa
open Go.RowKit
set_option linter.unusedVariables false
attribute [local go_sem ↓] Go.wp_at_zero Go.wp_at_succ

set_option maxHeartbeats 6400000 in
set_option maxRecDepth 100000 in
theorem l10Fault_any (p : Nat) (m : SM) (sv cv : Value) (w : World) (hp : w.heap[p]? = some (.cells (lineS m sv cv) 28 (0, 0))) (hs : RowV w sv m.stk) (hc : RowV w cv m.cells) (hl1 : m.stk.length ≤ 1048576) (hl2 : m.cells.length ≤ 1048576) :
    Calls Try.prog 85 #[.pointer (some ⟨p, 0, none⟩)] w fun e w' => e = .returned (.int .i64 (rmF m)) ∧ w' = w := by
  obtain ⟨a1, k1, rfl, hn1, _⟩ := hs
  obtain ⟨a2, k2, rfl, hn2, _⟩ := hc
  obtain ⟨c0, c1, c2, c3, c4, c5, _⟩ := RunT.cells hp
  have HP : Hid (Calls Try.prog 82 #[.int .i64 m.pc] w fun e w' => e = .returned (.bool (inB m.pc 0 65535)) ∧ w' = w) := l1Word_any m.pc w
  have HG : Hid (Calls Try.prog 82 #[.int .i64 m.sig] w fun e w' => e = .returned (.bool (inB m.sig 0 65535)) ∧ w' = w) := l1Word_any m.sig w
  have H1 : Hid (Calls Try.prog 115 #[.slice a1 m.stk.length k1] w fun e w' => e = .returned (.bool (wordsB m.stk)) ∧ w' = w) := sAll_any a1 m.stk k1 w hl1 hn1
  have H2 : Hid (Calls Try.prog 115 #[.slice a2 m.cells.length k2] w fun e w' => e = .returned (.bool (wordsB m.cells)) ∧ w' = w) := sAll_any a2 m.cells k2 w hl2 hn2
  have HU : Hid (Calls Try.prog 71 #[.int .i64 m.used, .int .i64 0, .int .i64 1000000] w fun e w' => e = .returned (.bool (inB m.used 0 1000000)) ∧ w' = w) := l1In_any m.used 0 1000000 w
  have HT : Hid (Calls Try.prog 71 #[.int .i64 m.trap, .int .i64 0, .int .i64 10] w fun e w' => e = .returned (.bool (inB m.trap 0 10)) ∧ w' = w) := l1In_any m.trap 0 10 w
  have hF : Hid (rmFit m = (inB m.pc 0 65535 && inB m.sig 0 65535 && wordsB m.stk && wordsB m.cells && inB m.used 0 1000000 && inB m.trap 0 10)) := rfl
  have HS : Hid (rmF m = if rmFit m then (if m.stk.length ≠ 24 then 1 else if 80 < m.cells.length then 2 else 0) else 3) := rfl
  clear hn1 hn2 hp
  generalize inB m.pc 0 65535 = q1 at *
  generalize inB m.sig 0 65535 = q2 at *
  generalize wordsB m.stk = q3 at *
  generalize wordsB m.cells = q4 at *
  generalize inB m.used 0 1000000 = q5 at *
  generalize inB m.trap 0 10 = q6 at *
  go_enter Try.func85, Try.ntmps85
  go_upto_region 1 with fail
  go_cut [48] from 3 (fun x W1 => x = .bool (!(q1 && q2 && q3 && q4 && q5 && q6)) ∧ W1 = w)
  case first =>
    clear HS hF
    have hq : (q1 = false) ∨ (q1 = true ∧ q2 = false) ∨ (q1 = true ∧ q2 = true ∧ q3 = false) ∨ (q1 = true ∧ q2 = true ∧ q3 = true ∧ q4 = false) ∨ (q1 = true ∧ q2 = true ∧ q3 = true ∧ q4 = true ∧ q5 = false) ∨ (q1 = true ∧ q2 = true ∧ q3 = true ∧ q4 = true ∧ q5 = true ∧ q6 = false) ∨ (q1 = true ∧ q2 = true ∧ q3 = true ∧ q4 = true ∧ q5 = true ∧ q6 = true) := by
      cases q1 <;> cases q2 <;> cases q3 <;> cases q4 <;> cases q5 <;> cases q6 <;> simp
    rcases hq with rfl | ⟨rfl, rfl⟩ | ⟨rfl, rfl, rfl⟩ | ⟨rfl, rfl, rfl, rfl⟩ | ⟨rfl, rfl, rfl, rfl, rfl⟩ | ⟨rfl, rfl, rfl, rfl, rfl, rfl⟩ | ⟨rfl, rfl, rfl, rfl, rfl, rfl⟩
    all_goals
      go_wp2_with (first | (with_reducible show Calls _ _ #[.int .i64 m.pc] _ _; refine HP.out.mono ?_; rintro e w4 ⟨rfl, rfl⟩) | (with_reducible show Calls _ _ #[.int .i64 m.sig] _ _; refine HG.out.mono ?_; rintro e w4 ⟨rfl, rfl⟩) | (with_reducible show Calls _ _ #[.slice a1 _ k1] _ _; refine H1.out.mono ?_; rintro e w4 ⟨rfl, rfl⟩) | (with_reducible show Calls _ _ #[.slice a2 _ k2] _ _; refine H2.out.mono ?_; rintro e w4 ⟨rfl, rfl⟩) | (with_reducible show Calls _ _ #[_, _, .int .i64 1000000] _ _; refine HU.out.mono ?_; rintro e w4 ⟨rfl, rfl⟩) | (with_reducible show Calls _ _ #[_, _, .int .i64 10] _ _; refine HT.out.mono ?_; rintro e w4 ⟨rfl, rfl⟩))
      go_meet
      case rel => exact ⟨by simp, rfl⟩
  case rest =>
    obtain ⟨rfl, rfl⟩ := hcut
    clear HP HG H1 H2 HU HT
    cases hb : (q1 && q2 && q3 && q4 && q5 && q6)
    · have E : Hid (rmF m = 3) := by unfold Hid; rw [HS.out, hF.out, hb]; rfl
      clear HS hF hb
      go_wp2_with fail
      go_ret
      exact ⟨by rw [E.out]; rfl, rfl⟩
    · have E : Hid (rmF m = if m.stk.length ≠ 24 then 1 else if 80 < m.cells.length then 2 else 0) := by unfold Hid; rw [HS.out, hF.out, hb]; rfl
      clear HS hF hb
      generalize m.stk.length = l1 at *
      generalize m.cells.length = l2 at *
      by_cases h1 : l1 = 24
      · have E1 : Hid (rmF m = if 80 < l2 then 2 else 0) := by unfold Hid; rw [E.out, if_neg (by omega)]
        have e1 : ((l1 : Int) != 24) = false := by rw [h1]; rfl
        clear E h1
        by_cases h2 : 80 < l2
        · go_wp2_with fail
          go_ret
          exact ⟨by rw [E1.out, if_pos h2]; rfl, rfl⟩
        · go_wp2_with fail
          go_ret
          exact ⟨by rw [E1.out, if_neg h2]; rfl, rfl⟩
      · have E1 : Hid (rmF m = 1) := by unfold Hid; rw [E.out, if_pos h1]
        have e1 : ((l1 : Int) != 24) = true := by rw [bne_iff_ne]; omega
        clear E h1
        go_wp2_with fail
        go_ret
        exact ⟨by rw [E1.out]; rfl, rfl⟩
end Go.Proofs.Ytcikofhbfncgdaa
namespace Go.Proofs.Ytcikofhbfncgdaa
open Go.RowKit
set_option linter.unusedVariables false
attribute [local go_sem ↓] Go.wp_at_zero Go.wp_at_succ

set_option maxHeartbeats 6400000 in
set_option maxRecDepth 100000 in
theorem sStartR_any (a : Option Addr) (zs : List Int) (c : Nat) (w : World) (hn : Nums w a zs) (hc : a = none → c = 0) (hl : zs.length ≤ 1048576) :
    Calls Try.prog 28 #[.slice a zs.length c] w fun e w' => ResR w w' e (startRC zs) (startRR zs) := by
  have hW := (Below.refl w.heap.size w).alloc (Nat.le_refl _) (.cells zero8 30)
  have HW : Hid (Below w.heap.size w (w.alloc (.cells zero8 30)) ∧ (w.alloc (.cells zero8 30)).heap[w.heap.size]? = some (.cells zero8 30 (0, 0))) := ⟨hW, heap_alloc_new _ _⟩
  have HST : Hid (∀ W, Below w.heap.size w W → Calls Try.prog 84 #[.slice a zs.length c] W fun e w' => ∃ a1 c1 a2 c2, e = .returned (.agg #[.int .i64 0, .slice a1 (startRM zs).stk.length c1, .slice a2 (startRM zs).cells.length c2, .int .i64 0, .int .i64 0, .int .i64 0, .bool false]) ∧ Own w' W.heap.size (.slice a1 (startRM zs).stk.length c1) (startRM zs).stk ∧ Own w' W.heap.size (.slice a2 (startRM zs).cells.length c2) (startRM zs).cells ∧ (∀ g, (Value.slice a1 (startRM zs).stk.length c1).ownBlock = some g → (Value.slice a2 (startRM zs).cells.length c2).ownBlock ≠ some g) ∧ Below W.heap.size W w') := fun W h => (l10Start_any a zs c W (hn.below h) hc hl).mono fun e w' ⟨s, v, h1, h2, h3, h4, h5⟩ => by
    obtain ⟨a1, c1, rfl⟩ := own_shape h2
    obtain ⟨a2, c2, rfl⟩ := own_shape h3
    exact ⟨a1, c1, a2, c2, h1, h2, h3, h4, h5⟩
  have HCF : Hid (∀ W q s v, W.heap[q]? = some (.cells #[.int .i64 0, s, v, .int .i64 0, .int .i64 0, .int .i64 0, .bool false] 28 (0, 0)) → RowV W s (startRM zs).stk → RowV W v (startRM zs).cells → Calls Try.prog 85 #[.pointer (some ⟨q, 0, none⟩)] W fun e w' => e = .returned (.int .i64 (startRC zs)) ∧ w' = W) := fun W q s v hq hs hv => l10Fault_any q (startRM zs) _ _ W hq hs hv (by show (List.replicate 24 _).length ≤ _; simp) hl
  have HR : Hid ((startRC zs = 0 → startRR zs = startRM zs) ∧ (startRC zs ≠ 0 → startRR zs = zeroM)) := ⟨fun h => if_pos h, fun h => if_neg h⟩
  have HV : Hid (∀ s v, resV 0 (startRM zs) s v = .agg #[.int .i64 0, .int .i64 0, s, v, .int .i64 0, .int .i64 0, .int .i64 0, .bool false]) := fun _ _ => rfl
  have HMA : Hid (∀ (W : World) (r B : Nat) (sv cv : Value), w.heap.size ≤ r → r < B → Own W B sv (startRM zs).stk → Own W B cv (startRM zs).cells → (∀ g, sv.ownBlock = some g → cv.ownBlock ≠ some g) → Below w.heap.size w W → ResR w ((((((((W.setCell ⟨r, 0, none⟩ (.int .i64 0)).setCell ⟨r, 1, none⟩ (.int .i64 0)).setCell ⟨r, 2, none⟩ sv).setCell ⟨r, 3, none⟩ cv).setCell ⟨r, 4, none⟩ (.int .i64 0)).setCell ⟨r, 5, none⟩ (.int .i64 0)).setCell ⟨r, 6, none⟩ (.int .i64 0)).setCell ⟨r, 7, none⟩ (.bool false)) (.returned (resV 0 (startRM zs) sv cv)) 0 (startRM zs)) := fun W r B sv cv h1 h2 h3 h4 h5 h6 => res_mach w W r B (startRM zs) sv cv h1 h2 h3 h4 h5 h6
  clear hW hn hc hl
  generalize startRC zs = F at *
  generalize startRR zs = R at *
  generalize startRM zs = M at *
  generalize hL : zs.length = L at *
  generalize hM1 : M.stk.length = l1 at *
  generalize hM2 : M.cells.length = l2 at *
  go_enter Try.func28, Try.ntmps28
  go_upto_region 1 with fail
  generalize w.alloc (.cells zero8 30) = W at *
  obtain ⟨x1, x2⟩ := HW.out
  have HB := hid x1
  have HA0 := hid x2
  have HWS : Hid (w.heap.size < W.heap.size) := (Array.getElem?_eq_some_iff.1 x2).1
  clear x1 x2 HW
  go_upto_region 2 with (go_at_call 84; refine (HST.out W HB.out).mono ?_; rintro e w2 ⟨a1, c1, a2, c2, rfl, o1, o2, o3, b2⟩)
  have y3 := heap_alloc_new w2 (.cells #[.int .i64 0, .slice a1 l1 c1, .slice a2 l2 c2, .int .i64 0, .int .i64 0, .int .i64 0, .bool false] 28)
  have b3 := (Below.refl w2.heap.size w2).alloc (Nat.le_refl _) (.cells #[.int .i64 0, .slice a1 l1 c1, .slice a2 l2 c2, .int .i64 0, .int .i64 0, .int .i64 0, .bool false] 28)
  have HO1 := hid (o1.alloc (.cells #[.int .i64 0, .slice a1 l1 c1, .slice a2 l2 c2, .int .i64 0, .int .i64 0, .int .i64 0, .bool false] 28))
  have HO2 := hid (o2.alloc (.cells #[.int .i64 0, .slice a1 l1 c1, .slice a2 l2 c2, .int .i64 0, .int .i64 0, .int .i64 0, .bool false] 28))
  have HD := hid o3
  have HB3 := hid (b2.trans (b3.mono b2.size))
  have HY := hid y3
  clear o1 o2 o3 b2 b3 y3
  generalize w2.alloc (.cells #[.int .i64 0, .slice a1 l1 c1, .slice a2 l2 c2, .int .i64 0, .int .i64 0, .int .i64 0, .bool false] 28) = W3 at *
  generalize w2.heap.size = q at *
  have HA3 := hid (blk8 HA0.out HB3.out)
  have HBW : Hid (Below w.heap.size w W3) := HB.out.trans (HB3.out.mono HB.out.size)
  have HC := hid (HCF.out W3 q _ _ HY.out (by have := own_row HO1.out; exact this) (by have := own_row HO2.out; exact this))
  obtain ⟨d0, d1, d2, d3, d4, d5, d6⟩ := cl7 HY.out
  obtain ⟨g0, g1, g2, g3, g4, g5, g6, g7⟩ := cl8 HA3.out
  obtain ⟨f0, f1, f2, f3, f4, f5, f6, f7⟩ := fl8 HA3.out
  clear HCF HA0 HB HB3 HST
  by_cases hF : F = 0
  · have hR := HR.out.1 hF
    have HF := hid (HMA.out W3 w.heap.size W.heap.size _ _ (Nat.le_refl _) HWS.out HO1.out HO2.out HD.out HBW.out)
    rw [HV.out] at HF
    subst hF hR
    clear HO1 HO2 HD HBW HA3 HY HR HWS HMA HV
    go_wp2_with (go_at_call 85; refine HC.out.mono ?_; rintro e w5 ⟨rfl, hw5⟩; have hw6 := hw5.symm; clear hw5; subst hw6)
    refine bodyPost_ret (v := .agg #[.int .i64 0, .int .i64 0, .slice a1 l1 c1, .slice a2 l2 c2, .int .i64 0, .int .i64 0, .int .i64 0, .bool false]) (by simp [results, Try.results28, go_sem, g0, g1, g2, g3, g4, g5, g6, g7]; try rfl) rfl ?_
    exact HF.out
  · have hR := HR.out.2 hF
    subst hR
    have eF : (F != 0) = true := by simpa using hF
    have HF : Hid _ := res_code w W3 w.heap.size F (Nat.le_refl _) HBW.out
    clear HO1 HO2 HD HBW HA3 HY HR HWS hF HMA HV
    go_wp2_with (go_at_call 85; refine HC.out.mono ?_; rintro e w5 ⟨rfl, hw5⟩; have hw6 := hw5.symm; clear hw5; subst hw6)
    refine bodyPost_ret (v := codeV F) (by simp [results, Try.results28, go_sem, g0, g1, g2, g3, g4, g5, g6, g7]; try rfl) rfl ?_
    exact HF.out
end Go.Proofs.Ytcikofhbfncgdaa
namespace Go.Proofs.Ytcikofhbfncgdaa
open Go.RowKit
set_option linter.unusedVariables false

set_option maxHeartbeats 800000 in
theorem lwNums_any (a b : Option Addr) (zs : List Int) (ca cb : Nat) (w : World) (hlen : zs.length ≤ 9223372036854775807) (ha : Nums w a zs) (hb : Nums w b zs) :
    Calls Try.prog 22 #[.slice a zs.length ca, .slice b zs.length cb] w fun e w' => e = .returned (.bool true) ∧ Below w.heap.size w w' := by
  have hne : (((zs.length : Int) != (zs.length : Int)) = false) := by simp
  go_enter Try.func22, Try.ntmps22
  go_wp2
  go_loopw [5] (fun i wr => ∃ k : Nat, k ≤ zs.length ∧ i = .int .i64 k ∧ Below w.heap.size w wr) (fun i _ => zs.length - (intOf i).toNat)
  case atStart => exact ⟨0, Nat.zero_le _, rfl, Below.refl _ _⟩
  case round =>
    obtain ⟨k, hk, rfl, hB⟩ := hrel
    by_cases hlt : k < zs.length
    · rcases ha with ha | ⟨b1, o1, rfl, hc1⟩
      · subst ha; simp at hlt
      rcases hb with hb | ⟨b2, o2, rfl, hc2⟩
      · subst hb; simp at hlt
      have h1 := hc1 k hlt
      have h2 := hc2 k hlt
      have l1 := World.block_lt_of_cell? _ _ h1
      have l2 := World.block_lt_of_cell? _ _ h2
      rw [← hB.cell (p := ⟨b1, o1 + k, none⟩) l1] at h1
      rw [← hB.cell (p := ⟨b2, o2 + k, none⟩) l2] at h2
      obtain ⟨z, hz⟩ : ∃ z, z = zs.getD k 0 := ⟨_, rfl⟩
      rw [← hz] at h1 h2
      clear hz hc1 hc2 l1 l2
      go_wp2
      go_region
      all_goals
        go_wp2
        go_roundw
        case rel => exact ⟨k + 1, by omega, by go_num, hB.drew⟩
        case measure => simp [intOf]; omega
    · go_wp2
      go_ret
      exact ⟨rfl, hB⟩

end Go.Proofs.Ytcikofhbfncgdaa
namespace Go.Proofs.Ytcikofhbfncgdaa
open Go.RowKit
set_option maxHeartbeats 400000 in
theorem big_any (a : Option Addr) (K cap : Nat) (w : World) (hK : K ≤ 1048576) :
    Calls Try.prog 15 #[.slice a K cap] w fun e w' => e = .returned (.bool false) ∧ w' = w := by
  have hd : decide ((1048576 : Int) < (K : Int)) = false := decide_eq_false (by omega)
  go_enter Try.func15, Try.ntmps15
  go_wp2
  go_ret
  exact ⟨rfl, rfl⟩
set_option maxHeartbeats 400000 in
theorem big_yes (a : Option Addr) (K cap : Nat) (w : World) (hK : 1048576 < K) :
    Calls Try.prog 15 #[.slice a K cap] w fun e w' => e = .returned (.bool true) ∧ w' = w := by
  have hd : decide ((1048576 : Int) < (K : Int)) = true := decide_eq_true (by omega)
  go_enter Try.func15, Try.ntmps15
  go_wp2
  go_ret
  exact ⟨rfl, rfl⟩
end Go.Proofs.Ytcikofhbfncgdaa
