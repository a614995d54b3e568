/-
  slices.Repeat of a row of one number, 24 times.
-/
import Derived.Test.YtcikofhbfncgdaaIPrg
import Derived.Test.YtcikofhbfncgdaaRgM
import Derived.Test.YtcikofhbfncgdaaStpM
import Derived.Test.YtcikofhbfncgdaaIStk8
import Derived.Test.YtcikofhbfncgdaaIStk12
import Derived.Test.YtcikofhbfncgdaaCopy
import Derived.Laws.CopyOwn
import Derived.Laws.Rows
import Derived.Deep.RegionLaw
namespace Go.Proofs.Ytcikofhbfncgdaa
open Go.RowKit
set_option linter.unusedVariables false

set_option maxHeartbeats 1600000 in
theorem rprog_any (m : SM) (a1 a2 : Option Addr) (n1 n2 k1 k2 : Nat) (w : World) :
    Calls Try.prog 76 #[machW m (.slice a1 n1 k1) (.slice a2 n2 k2)] w fun e w' => e = .returned (progV m) ∧ Below w.heap.size w w' := by
  go_enter Try.func76, Try.ntmps76
  go_wp2_with fail
  refine bodyPost_ret (v := progV m) (by simp [results, Try.results76, go_sem]) rfl ⟨rfl, ?_⟩
  go_grown
end Go.Proofs.Ytcikofhbfncgdaa
namespace Go.Proofs.Ytcikofhbfncgdaa
open Go.RowKit
set_option linter.unusedVariables false

set_option maxHeartbeats 3200000 in
set_option maxRecDepth 100000 in
theorem irgFault_any (m : SM) (sv cv : Value) (w : World) (hs : RowV w sv m.stk) (hc : RowV w cv m.cells) (hl1 : m.stk.length ≤ 1048576) (hl2 : m.cells.length ≤ 1048576) :
    Calls Try.prog 21 #[machV m sv cv] w fun e w' => e = .returned (.int .i64 (rmF m)) ∧ Below w.heap.size w w' := by
  obtain ⟨a1, k1, rfl, hn1, _⟩ := hs
  obtain ⟨a2, k2, rfl, hn2, _⟩ := hc
  have hA := heap_alloc_new w (.cells (lineS m (.slice a1 m.stk.length k1) (.slice a2 m.cells.length k2)) 28)
  have hB := (Below.refl w.heap.size w).alloc (Nat.le_refl _) (.cells (lineS m (.slice a1 m.stk.length k1) (.slice a2 m.cells.length k2)) 28)
  have hAL : Hid (∀ W3, Below w.heap.size w W3 → Calls Try.prog 78 #[.slice (some ⟨W3.heap.size, 0, none⟩) 2 2] (W3.alloc (.cells #[.slice a1 m.stk.length k1, .slice a2 m.cells.length k2] 24)) fun e w' => e = .returned (.bool (wordsB m.stk && wordsB m.cells)) ∧ w' = W3.alloc (.cells #[.slice a1 m.stk.length k1, .slice a2 m.cells.length k2] 24)) := fun W3 hb => words_two a1 a2 _ _ k1 k2 w W3 hn1 hn2 hl1 hl2 hb
  have HSP : Hid (∀ W, Calls Try.prog 76 #[machV m (.slice a1 m.stk.length k1) (.slice a2 m.cells.length k2)] W fun e w' => e = .returned (progV m) ∧ Below W.heap.size W w') := fun W => rprog_any m a1 a2 _ _ k1 k2 W
  have HIB : Hid (∀ W, Calls Try.prog 77 #[progV m] W fun e w' => e = .returned (.bool (progFit m)) ∧ Below W.heap.size W w') := fun W => pbounds_any m W
  have hF : Hid (rmFit m = (progFit m && (wordsB m.stk && wordsB m.cells))) := fit_two m
  have HS : Hid (rmF m = if rmFit m then (if m.stk.length ≠ 24 then 1 else if 80 < m.cells.length then 2 else 0) else 3) := rfl
  clear hn1 hn2
  generalize (wordsB m.stk && wordsB m.cells) = q at *
  generalize progFit m = qu at *
  generalize m.stk.length = l1 at *
  generalize m.cells.length = l2 at *
  go_enter Try.func21, Try.ntmps21
  go_upto_region 1 with fail
  generalize w.alloc (.cells (lineS m (.slice a1 l1 k1) (.slice a2 l2 k2)) 28) = W at *
  obtain ⟨c0, c1, c2, c3, c4, c5, c6⟩ := cl7 hA
  have HA := hid hA
  have HB := hid hB
  clear hA hB
  go_cut [15] from 3 (fun x W1 => x = .bool (!(qu && q)) ∧ Hid (Below w.heap.size w W1 ∧ W1.heap[w.heap.size]? = some (.cells (lineS m (.slice a1 l1 k1) (.slice a2 l2 k2)) 28 (0, 0))))
  case first =>
    clear HS hF
    cases qu
    · go_wp2_with (first | (go_at_call 76; refine (HSP.out _).mono ?_; rintro e w4 ⟨rfl, hb4⟩; have HB4 := hid (HB.out.trans (hb4.mono HB.out.size)); have HA4 := hid (blk8 HA.out hb4); clear hb4) | (go_at_call 77; refine (HIB.out _).mono ?_; rintro e w5 ⟨rfl, hb5⟩; have HB5 := hid (HB4.out.trans (hb5.mono HB4.out.size)); have HA5 := hid (blk8 HA4.out hb5); clear hb5))
      go_meet
      case rel => exact ⟨rfl, HB5.out, HA5.out⟩
    · go_wp2_with (first | (go_at_call 76; refine (HSP.out _).mono ?_; rintro e w4 ⟨rfl, hb4⟩; have HB4 := hid (HB.out.trans (hb4.mono HB.out.size)); have HA4 := hid (blk8 HA.out hb4); clear hb4) | (go_at_call 77; refine (HIB.out _).mono ?_; rintro e w5 ⟨rfl, hb5⟩; have HB5 := hid (HB4.out.trans (hb5.mono HB4.out.size)); have hA5 := blk8 HA4.out hb5; clear hb5; obtain ⟨-, d1, d2, -, -, -, -⟩ := cl7 hA5; have HA5 := hid hA5; clear hA5) | (go_at_call 78; refine (hAL.out _ HB5.out).mono ?_; rintro e w6 ⟨rfl, hw6⟩; have HB6 := hid (HB5.out.alloc HB5.out.size (.cells #[.slice a1 l1 k1, .slice a2 l2 k2] 24)); have HA6 := hid (blk8 HA5.out ((Below.refl _ _).alloc (Nat.le_refl _) (.cells #[.slice a1 l1 k1, .slice a2 l2 k2] 24))); subst hw6))
      go_meet
      case rel => exact ⟨by cases q <;> rfl, HB6.out, HA6.out⟩
  case rest =>
    obtain ⟨rfl, hw⟩ := hcut
    obtain ⟨c0, c1, c2, c3, c4, c5, c6⟩ := cl7 hw.out.2
    have HB2 : Hid (Below w.heap.size w wc) := hw.out.1
    clear hw hAL HSP HIB HA HB
    cases hb : (qu && q)
    · have E : Hid (rmF m = 3) := by unfold Hid; rw [HS.out, hF.out, hb]; rfl
      clear HS hF hb
      go_wp2_with fail
      go_ret
      exact ⟨by rw [E.out]; rfl, HB2.out⟩
    · have E : Hid (rmF m = if l1 ≠ 24 then 1 else if 80 < l2 then 2 else 0) := by unfold Hid; rw [HS.out, hF.out, hb]; rfl
      clear HS hF hb
      by_cases h1 : l1 = 24
      · have E1 : Hid (rmF m = if 80 < l2 then 2 else 0) := by unfold Hid; rw [E.out, if_neg (by omega)]
        have e1 : ((l1 : Int) != 24) = false := by rw [h1]; rfl
        clear E h1
        by_cases h2 : 80 < l2
        · go_wp2_with fail
          go_ret
          exact ⟨by rw [E1.out, if_pos h2]; rfl, HB2.out⟩
        · go_wp2_with fail
          go_ret
          exact ⟨by rw [E1.out, if_neg h2]; rfl, HB2.out⟩
      · have E1 : Hid (rmF m = 1) := by unfold Hid; rw [E.out, if_pos h1]
        have e1 : ((l1 : Int) != 24) = true := by rw [bne_iff_ne]; omega
        clear E h1
        go_wp2_with fail
        go_ret
        exact ⟨by rw [E1.out]; rfl, HB2.out⟩
end Go.Proofs.Ytcikofhbfncgdaa
namespace Go.Proofs.Ytcikofhbfncgdaa
open Go.RowKit
set_option linter.unusedVariables false

set_option maxHeartbeats 800000 in
theorem mul64_24 (w : World) : Calls Try.prog 140 #[.int .u64 1, .int .u64 24] w fun e w' => e = .returned (.tuple #[.int .u64 0, .int .u64 24]) ∧ w' = w := by
  go_enter Try.func140, Try.ntmps140
  go_wp2
  go_returns
  exact ⟨rfl, rfl⟩
set_option maxHeartbeats 800000 in
theorem mul_24 (w : World) : Calls Try.prog 114 #[.int .u64 1, .int .u64 24] w fun e w' => e = .returned (.tuple #[.int .u64 0, .int .u64 24]) ∧ w' = w := by
  go_enter Try.func114, Try.ntmps114
  go_wp2_with fail
  refine (mul64_24 _).mono ?_
  rintro e w1 ⟨rfl, rfl⟩
  go_wp2
  go_returns
  exact ⟨rfl, rfl⟩

/-- how a row of 24 looks with its first n filled -/
def part24 (x : Int) (n : Nat) : List Value := List.replicate n (.int .i64 x) ++ List.replicate (24 - n) (.int .i64 0)
theorem part24_len (x : Int) {n : Nat} (h : n ≤ 24) : (part24 x n).length = 24 := by unfold part24; simp; omega
theorem part24_splice (x : Int) {n m : Nat} (h : n + m ≤ 24) : splice (part24 x n) n (List.replicate m (.int .i64 x)) = part24 x (n + m) := by
  unfold splice part24
  rw [List.take_append_of_le_length (by simp), List.take_of_length_le (by simp), List.length_replicate, List.drop_append]
  simp
  rw [← List.append_assoc, List.replicate_append_replicate, Nat.sub_sub]
theorem part24_full (x : Int) : part24 x 24 = (List.replicate 24 x).map (Value.int .i64) := by unfold part24; simp
theorem part24_get (x : Int) {n j : Nat} (h : j < n) : (part24 x n)[j]? = some (.int .i64 x) := by
  unfold part24
  rw [List.getElem?_append_left (by simpa using h), List.getElem?_replicate, if_pos h]

theorem infoSz : (Try.prog.info? 2).map (·.size) = some 1 := by
  obtain ⟨i0, hi, hz0, hz1, hz2⟩ := info_parts infoInt
  rw [hi]; simp [hz1]
/-- a copy of what is filled behind itself -/
theorem copy_run (x : Int) (g n m : Nat) (hm : m = min n (24 - n)) (hn : n ≤ 24) (Z : World) (hZ : Z.heap[g]? = some (.cells (part24 x n).toArray 2 (0, 0))) :
    (Builtin.copy_ #[24, 24] 3 #[.slice (some ⟨g, n, none⟩) (24 - n) (24 - n), .slice (some ⟨g, 0, none⟩) n 24]).run Try.prog Z = .ok (.int .i64 m) (Z.setRow g (part24 x (n + m)).toArray) := by
  have h := run_copy_row (P := Try.prog) Z 24 24 3 2 g n (24 - n) (24 - n) ⟨g, 0, none⟩ n 24 (part24 x n).toArray 2 (List.replicate m (.int .i64 x)) Try.underlying24 infoSz hZ (by rw [List.length_replicate, hm]) (fun j v hj => by
    have hjm : j < m := by
      have := (List.getElem?_eq_some_iff.1 hj).1
      simpa using this
    rw [List.getElem?_replicate, if_pos hjm] at hj
    have e := Option.some.inj hj
    subst e
    rw [Addr.add_lit, Nat.zero_add, cell_of_row _ _ j _ _ _ hZ, List.getElem?_toArray]
    exact part24_get x (by omega)) (by have := part24_len x hn; simp; omega) (by simp [Value.oneCell'])
  rw [h]
  have e := part24_splice x (n := n) (m := m) (by omega)
  unfold splice at e
  rw [List.length_replicate] at e
  rw [← e, List.length_replicate, List.append_assoc]
  rfl
/-- a copy of the first -/
theorem copy_first (x : Int) (g b off : Nat) (Z : World) (hZ : Z.heap[g]? = some (.cells (part24 x 0).toArray 2 (0, 0))) (hc : Z.cell? ⟨b, off, none⟩ = some (.int .i64 x)) :
    (Builtin.copy_ #[24, 24] 3 #[.slice (some ⟨g, 0, none⟩) 24 24, .slice (some ⟨b, off, none⟩) 1 1]).run Try.prog Z = .ok (.int .i64 1) (Z.setRow g (part24 x 1).toArray) := by
  have h := run_copy_row (P := Try.prog) Z 24 24 3 2 g 0 24 24 ⟨b, off, none⟩ 1 1 (part24 x 0).toArray 2 (List.replicate 1 (.int .i64 x)) Try.underlying24 infoSz hZ (by rfl) (fun j v hj => by
    match j, hj with
    | 0, hj => simp at hj; subst hj; simpa [Addr.add] using hc) (by have := part24_len x (n := 0) (by omega); simp; omega) (by simp [Value.oneCell'])
  rw [h]
  have e := part24_splice x (n := 0) (m := 1) (by omega)
  unfold splice at e
  rw [Nat.zero_add 1] at e
  rw [← e, List.append_assoc]
  rfl

set_option maxHeartbeats 1600000 in
set_option maxRecDepth 100000 in
theorem rep_any (b off : Nat) (x : Int) (w : World) (hc : w.cell? ⟨b, off, none⟩ = some (.int .i64 x)) :
    Calls Try.prog 81 #[.slice (some ⟨b, off, none⟩) 1 1, .int .i64 24] w fun e w' => ∃ g, e = .returned (.slice (some ⟨g, 0, none⟩) 24 24) ∧ Own w' w.heap.size (.slice (some ⟨g, 0, none⟩) 24 24) (List.replicate 24 x) ∧ Below w.heap.size w w' := by
  obtain ⟨i0, hi, hz0, hz1, hz2⟩ := info_parts infoInt
  go_enter Try.func81, Try.ntmps81
  go_wp2_with fail
  refine (mul_24 _).mono ?_
  rintro e w1 ⟨rfl, hw1⟩
  have hw2 := hw1.symm
  clear hw1
  subst hw2
  go_wp2_with (at_make; refine wpList_make_full _ rfl (.tmp 29) (.tmp 29) 24 rfl w.heap.size 2 i0 (.int .i64 0) 1 Try.underlying24 hi hz0 hz1 .i64 .i64 24 24 24 rfl rfl rfl rfl ?_ (by unfold maxLen; omega) (Nat.le_refl _) ?_)
  · rw [hz2]; omega
  intro w1 hown hgrow
  have hB : Below w.heap.size w w1 := (Below.refl _ _).grown hgrow (Nat.le_refl _) (fun k hk => by cases hk)
  have hrow : w1.heap[w.heap.size]? = some (.cells (part24 x 0).toArray 2 (0, 0)) := by
    rw [toList_madeCells_one] at hown
    rcases hown.2 with ⟨h, _⟩ | ⟨g, c, cur, h, _, hg, q1, q2, q3, q4⟩
    · simp at h
    · simp at h
      obtain ⟨rfl, rfl⟩ := h
      rw [hg]
      have e : cur = (part24 x 0).toArray := by
        apply Array.toList_inj.1
        have h5 : cur.toList.take 24 = List.replicate 24 (.int .i64 0) := by simpa using q4
        rw [List.take_of_length_le (by simp; omega)] at h5
        rw [h5]
        unfold part24
        simp
      rw [e]
  have hrun := copy_first x w.heap.size b off w1 hrow ((hB.cell (p := ⟨b, off, none⟩) (World.block_lt_of_cell? _ _ hc)).trans hc)
  have HR2 := hid (setRow_heap w1 w.heap.size _ (part24 x 1).toArray _ _ hrow)
  have HB2 := hid (below_setRow hB (Nat.le_refl _) (part24 x 1).toArray)
  have HCP : Hid (∀ n m, m = min n (24 - n) → n ≤ 24 → ∀ Z : World, Z.heap[w.heap.size]? = some (.cells (part24 x n).toArray 2 (0, 0)) → (Builtin.copy_ #[24, 24] 3 #[.slice (some ⟨w.heap.size, n, none⟩) (24 - n) (24 - n), .slice (some ⟨w.heap.size, 0, none⟩) n 24]).run Try.prog Z = .ok (.int .i64 m) (Z.setRow w.heap.size (part24 x (n + m)).toArray)) := fun n m hm hn Z hZ => copy_run x _ n m hm hn Z hZ
  have HP := hid (part24_len x (n := 24) (Nat.le_refl _))
  have HFL := hid (part24_full x)
  clear hB hrow hown hgrow hc
  generalize part24 x = P at *
  generalize w1.setRow w.heap.size (P 1).toArray = w2 at *
  go_wp2
  clear hrun
  go_loopw [8] (fun i wr => ∃ n : Nat, (n = 1 ∨ n = 2 ∨ n = 4 ∨ n = 8 ∨ n = 16 ∨ n = 24) ∧ i = .int .i64 n ∧ wr.heap[w.heap.size]? = some (.cells (P n).toArray 2 (0, 0)) ∧ Below w.heap.size w wr) (fun i _ => 24 - (intOf i).toNat)
  case atStart => exact ⟨1, .inl rfl, rfl, HR2.out, HB2.out⟩
  case round =>
    clear HR2 HB2
    obtain ⟨n, hn, rfl, hrow, hbl⟩ := hrel
    have HRW := hid hrow
    have HBL := hid hbl
    clear hrow hbl
    rcases hn with rfl | rfl | rfl | rfl | rfl | rfl
    · have hr : (Builtin.copy_ #[24, 24] 3 #[.slice (some ⟨w.heap.size, 1, none⟩) 23 23, .slice (some ⟨w.heap.size, 0, none⟩) 1 24]).run Try.prog wr.drew = .ok (.int .i64 1) (wr.drew.setRow w.heap.size (P 2).toArray) := HCP.out 1 1 (by decide) (by omega) wr.drew HRW.out
      have HR3 := hid (setRow_heap wr.drew w.heap.size _ (P 2).toArray _ _ HRW.out)
      have HB3 := hid (below_setRow HBL.out.drew (Nat.le_refl _) (P 2).toArray)
      generalize wr.drew.setRow w.heap.size (P 2).toArray = w3 at *
      go_wp2_with fail
      go_region
      all_goals
        go_roundw
        case rel => exact ⟨_, _, _, _, _, _, _, _, _, _, _, _, _, _, ⟨2, by omega, rfl, HR3.out, HB3.out⟩, rfl⟩
        case measure => simp [intOf]
    · have hr : (Builtin.copy_ #[24, 24] 3 #[.slice (some ⟨w.heap.size, 2, none⟩) 22 22, .slice (some ⟨w.heap.size, 0, none⟩) 2 24]).run Try.prog wr.drew = .ok (.int .i64 2) (wr.drew.setRow w.heap.size (P 4).toArray) := HCP.out 2 2 (by decide) (by omega) wr.drew HRW.out
      have HR3 := hid (setRow_heap wr.drew w.heap.size _ (P 4).toArray _ _ HRW.out)
      have HB3 := hid (below_setRow HBL.out.drew (Nat.le_refl _) (P 4).toArray)
      generalize wr.drew.setRow w.heap.size (P 4).toArray = w3 at *
      go_wp2_with fail
      go_region
      all_goals
        go_roundw
        case rel => exact ⟨_, _, _, _, _, _, _, _, _, _, _, _, _, _, ⟨4, by omega, rfl, HR3.out, HB3.out⟩, rfl⟩
        case measure => simp [intOf]
    · have hr : (Builtin.copy_ #[24, 24] 3 #[.slice (some ⟨w.heap.size, 4, none⟩) 20 20, .slice (some ⟨w.heap.size, 0, none⟩) 4 24]).run Try.prog wr.drew = .ok (.int .i64 4) (wr.drew.setRow w.heap.size (P 8).toArray) := HCP.out 4 4 (by decide) (by omega) wr.drew HRW.out
      have HR3 := hid (setRow_heap wr.drew w.heap.size _ (P 8).toArray _ _ HRW.out)
      have HB3 := hid (below_setRow HBL.out.drew (Nat.le_refl _) (P 8).toArray)
      generalize wr.drew.setRow w.heap.size (P 8).toArray = w3 at *
      go_wp2_with fail
      go_region
      all_goals
        go_roundw
        case rel => exact ⟨_, _, _, _, _, _, _, _, _, _, _, _, _, _, ⟨8, by omega, rfl, HR3.out, HB3.out⟩, rfl⟩
        case measure => simp [intOf]
    · have hr : (Builtin.copy_ #[24, 24] 3 #[.slice (some ⟨w.heap.size, 8, none⟩) 16 16, .slice (some ⟨w.heap.size, 0, none⟩) 8 24]).run Try.prog wr.drew = .ok (.int .i64 8) (wr.drew.setRow w.heap.size (P 16).toArray) := HCP.out 8 8 (by decide) (by omega) wr.drew HRW.out
      have HR3 := hid (setRow_heap wr.drew w.heap.size _ (P 16).toArray _ _ HRW.out)
      have HB3 := hid (below_setRow HBL.out.drew (Nat.le_refl _) (P 16).toArray)
      generalize wr.drew.setRow w.heap.size (P 16).toArray = w3 at *
      go_wp2_with fail
      go_region
      all_goals
        go_roundw
        case rel => exact ⟨_, _, _, _, _, _, _, _, _, _, _, _, _, _, ⟨16, by omega, rfl, HR3.out, HB3.out⟩, rfl⟩
        case measure => simp [intOf]
    · have hr : (Builtin.copy_ #[24, 24] 3 #[.slice (some ⟨w.heap.size, 16, none⟩) 8 8, .slice (some ⟨w.heap.size, 0, none⟩) 16 24]).run Try.prog wr.drew = .ok (.int .i64 8) (wr.drew.setRow w.heap.size (P 24).toArray) := HCP.out 16 8 (by decide) (by omega) wr.drew HRW.out
      have HR3 := hid (setRow_heap wr.drew w.heap.size _ (P 24).toArray _ _ HRW.out)
      have HB3 := hid (below_setRow HBL.out.drew (Nat.le_refl _) (P 24).toArray)
      generalize wr.drew.setRow w.heap.size (P 24).toArray = w3 at *
      go_wp2_with fail
      go_region
      all_goals
        go_roundw
        case rel => exact ⟨_, _, _, _, _, _, _, _, _, _, _, _, _, _, ⟨24, by omega, rfl, HR3.out, HB3.out⟩, rfl⟩
        case measure => simp [intOf]
    · have hfin : Own wr w.heap.size (.slice (some ⟨w.heap.size, 0, none⟩) 24 24) (List.replicate 24 x) := by
        refine ⟨by simp, .inr ⟨w.heap.size, 24, (P 24).toArray, by simp, Nat.le_refl _, HRW.out, by simp, by unfold maxLen; omega, by simp [HP.out], ?_⟩⟩
        rw [← HFL.out]
        simp [List.take_of_length_le, HP.out]
      have HFI := hid hfin
      clear hfin
      go_wp2
      go_ret
      exact ⟨_, rfl, HFI.out, HBL.out⟩
end Go.Proofs.Ytcikofhbfncgdaa
