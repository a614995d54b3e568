/-
  laws.lwBig: more than 1048576 bytes.
-/
import Derived.Test.YtcikofhbfncgdaaDraws
import Derived.Test.YtcikofhbfncgdaaRgHas
import Derived.Test.YtcikofhbfncgdaaWords0
import Derived.Test.YtcikofhbfncgdaaRgS9
import Derived.Test.YtcikofhbfncgdaaBase
namespace Go.Proofs.Ytcikofhbfncgdaa
open Go.RowKit
set_option linter.unusedVariables false

/-- what InvertAll tells -/
def invL (zs : List Int) : List Int := if fault zs = 0 then zs.map cm else []
theorem inv_get {zs : List Int} {k : Nat} (h : k < zs.length) : (zs.map cm).getD k 0 = cm (zs.getD k 0) := by
  simp [List.getD_eq_getElem?_getD, List.getElem?_eq_getElem h]
theorem inv_take {zs : List Int} {k : Nat} (h : k < zs.length) : (zs.map cm).take (k + 1) = (zs.map cm).take k ++ [cm (zs.getD k 0)] := by
  rw [List.take_add_one, ← inv_get h]
  simp [List.getD_eq_getElem?_getD, List.getElem?_eq_getElem h]
theorem fault_len {zs : List Int} (h : fault zs = 0) : zs.length ≤ 400 := by
  by_cases h4 : 400 < zs.length
  · rw [fault_many h4] at h; omega
  · omega
theorem inv_len (zs : List Int) : (invL zs).length ≤ 400 := by
  unfold invL
  split
  · rename_i h
    have := fault_len h
    simpa using this
  · simp

set_option maxHeartbeats 1600000 in
theorem l10Invert_any (a : Option Addr) (zs : List Int) (cap : Nat) (w : World) (h4 : zs.length ≤ 400) (hn : Nums w a zs) :
    Calls Try.prog 95 #[.slice a zs.length cap] w fun e w' => ∃ v, e = .returned v ∧ Own w' w.heap.size v (zs.map cm) ∧ Below w.heap.size w w' := by
  obtain ⟨i0, hi, hz0, hz1, hz2⟩ := info_parts infoInt
  have HTK : Hid (∀ {k : Nat}, k < zs.length → (zs.map cm).take (k + 1) = (zs.map cm).take k ++ [cm (zs.getD k 0)]) := fun {k} h => inv_take h
  have HCL : Hid ((zs.map cm).length = zs.length) := List.length_map ..
  generalize zs.map cm = cs at *
  go_enter Try.func95, Try.ntmps95
  go_wp2
  go_loopw [3, 4] (fun v i wr => ∃ k : Nat, k ≤ zs.length ∧ i = .int .i64 k ∧ wr.ownsRow w.heap.size 2 1 v k ((cs.take k).map (Value.int .i64)) ∧ Below w.heap.size w wr)
    (fun _ i _ => zs.length - (intOf i).toNat)
  case atStart =>
    refine ⟨0, Nat.zero_le _, rfl, ?_, by go_grown⟩
    exact ⟨by simp, .inr ⟨w.heap.size, 0, #[], rfl, Nat.le_refl _, heap_alloc_new _ _, Nat.le_refl _, by unfold maxLen; omega, rfl, by simp⟩⟩
  case round =>
    obtain ⟨k, hk, rfl, hown, hB⟩ := hrel
    by_cases hlt : k < zs.length
    · rcases hn.below hB with hn2 | ⟨b, off, rfl, hc⟩
      · subst hn2; simp at hlt
      have hcell := hc k hlt
      clear hc
      have HT := hid (HTK.out hlt)
      have HCM : Hid (∀ W, Calls Try.prog 124 #[.int .i64 (zs.getD k 0)] W fun e w' => e = .returned (.int .i64 (cm (zs.getD k 0))) ∧ w' = W) := specComplement (zs.getD k 0)
      generalize zs.getD k 0 = z at *
      have hsz := hB.size
      go_wp2_with fail
      refine (HCM.out _).mono ?_
      rintro e wq ⟨rfl, hwq⟩
      have hwr := hwq.symm
      clear hwq
      subst hwr
      go_wp2_with (at_builtin; refine wpList_append_own _ rfl _ _ 24 rfl w.heap.size 2 i0 (.int .i64 0) 1 8 Try.underlying24 hi hz0 hz1 hz2 rfl (by decide) _ _ _ rfl (hown.alloc _) ⟨wr.heap.size, 0, none⟩ 1 1 [.int .i64 (cm z)] rfl rfl ?c1 ?c2 ?c3 ?c4 ?c5 ?_)
      case c1 =>
        intro j u hj
        match j, hj with
        | 0, hj => simp at hj; subst hj; simp [Addr.add]
      case c2 => intro u hu; simp at hu; subst hu; rfl
      case c3 => unfold maxLen; omega
      case c4 => omega
      case c5 => simp; omega
      intro v' w2 hown' hgrow _
      have hB2 : Below w.heap.size wr w2 := ((Below.refl w.heap.size wr).alloc (by omega) _).grown hgrow (by simp; omega) (fun j hj => (hown.lt j hj).1)
      have hB3 : Below w.heap.size w w2 := hB.trans hB2
      clear hgrow hown hB hB2
      go_wp2
      go_roundw
      case rel =>
        refine ⟨k + 1, by omega, by (go_num), ?_, hB3⟩
        rw [HT.out, List.map_append, List.map_take]
        exact hown'
      case measure => simp [intOf]; omega
    · have hk2 : k = zs.length := by omega
      have hfin : Own wr w.heap.size u3 cs := by
        rw [hk2, List.take_of_length_le (by rw [HCL.out]; exact Nat.le_refl _)] at hown
        unfold Own
        rw [HCL.out]
        exact hown
      clear hown hk hlt
      subst hk2
      go_wp2
      go_ret
      exact ⟨_, rfl, hfin, hB⟩

set_option maxHeartbeats 800000 in
theorem specInvert_any (a : Option Addr) (zs : List Int) (cap : Nat) (w : World) (hcap : zs.length ≤ cap) (hlen : zs.length ≤ 1048576) (hn : Nums w a zs) :
    Calls Try.prog 46 #[.slice a zs.length cap] w fun e w' =>
      ∃ v, e = .returned (.agg #[.int .i64 (fault zs), v]) ∧ Own w' w.heap.size v (invL zs) ∧ Below w.heap.size w w' := by
  have hb1 : Below w.heap.size w (w.alloc (.cells #[.int .i64 0, .slice none 0 0] 34)) := (Below.refl _ _).alloc (Nat.le_refl _) _
  have hn1 : Nums (w.alloc (.cells #[.int .i64 0, .slice none 0 0] 34)) a zs := hn.below hb1
  by_cases hf : fault zs = 0
  · have h4 := fault_len hf
    have hft : (fault zs != 0) = false := by rw [hf]; rfl
    have HF : Hid (fault zs = 0) := hf
    have hv : Hid (invL zs = zs.map cm) := by show _ = _; rw [invL, if_pos hf]
    clear hf
    go_enter Try.func46, Try.ntmps46
    go_wp2_with fail
    refine (sFault_any _ zs cap _ (by omega) hn1).mono ?_
    rintro e w1 ⟨rfl, rfl⟩
    go_wp2_with fail
    refine (l10Invert_any _ zs cap _ h4 hn1).mono ?_
    rintro e w2 ⟨v, rfl, ho, hb⟩
    obtain ⟨ad, cp, rfl⟩ := own_shape ho
    obtain ⟨hc0, hc1, hf0, hf1, hz⟩ := own2 hb
    have hb2 := back hb
    have hfin : Own ((w2.setCell ⟨w.heap.size, 0, none⟩ (.int .i64 0)).setCell ⟨w.heap.size, 1, none⟩ (.slice ad (zs.map cm).length cp)) w.heap.size (.slice ad (zs.map cm).length cp) (zs.map cm) :=
      own_mono (ownsRow_setCell_below (ownsRow_setCell_below ho (a := ⟨w.heap.size, 0, none⟩) (by simp) (.int .i64 0)) (a := ⟨w.heap.size, 1, none⟩) (by simp) _) (by simp)
    generalize zs.map cm = cs at *
    clear ho hb
    go_wp2
    refine bodyPost_ret (v := .agg #[.int .i64 0, .slice ad cs.length cp]) (by simp [results, Try.results46, go_sem, hc0, hc1]) rfl ⟨_, by rw [HF.out], by rw [hv.out]; exact hfin, ?_⟩
    go_grown
  · have hft : (fault zs != 0) = true := by simpa using hf
    have hv : Hid (invL zs = []) := by show _ = _; rw [invL, if_neg hf]
    clear hf hb1
    go_enter Try.func46, Try.ntmps46
    go_wp2_with fail
    refine (sFault_any _ zs cap _ (by omega) hn1).mono ?_
    rintro e w1 ⟨rfl, rfl⟩
    go_wp2
    go_returns
    refine ⟨_, rfl, ?_, by go_grown⟩
    rw [hv.out]
    exact World.ownsRow_nil _ _ _ _

set_option maxRecDepth 100000 in
set_option maxHeartbeats 1600000 in
theorem implInvert_ok (a : Option Addr) (zs : List Int) (cap : Nat) (w : World) (hcap : zs.length ≤ cap) (hf : fault zs = 0) (hn : Nums w a zs) :
    Calls Try.prog 20 #[.slice a zs.length cap] w fun e w' =>
      ∃ v, e = .returned (.agg #[.int .i64 0, v]) ∧ Own w' w.heap.size v (zs.map cm) ∧ Below w.heap.size w w' := by
  obtain ⟨i0, hi, hz0, hz1, hz2⟩ := info_parts infoInt
  have h4 := fault_len hf
  have hmax : zs.length ≤ maxLen := by unfold maxLen; omega
  have hft : (fault zs != 0) = false := by rw [hf]; rfl
  have hb1 : Below w.heap.size w (w.alloc (.cells #[.int .i64 0, .slice none 0 0] 34)) := (Below.refl _ _).alloc (Nat.le_refl _) _
  have hn1 : Nums (w.alloc (.cells #[.int .i64 0, .slice none 0 0] 34)) a zs := hn.below hb1
  have HL : Hid ((zs.map cm).length = zs.length) := List.length_map ..
  have HCO : Hid (∀ {k : Nat}, k < zs.length → ((((zs.map cm).take k ++ List.replicate (zs.length - k) 0).map (Value.int .i64)).set k (.int .i64 (cm (zs.getD k 0))) = ((zs.map cm).take (k + 1) ++ List.replicate (zs.length - (k + 1)) 0).map (Value.int .i64))) := fun {k} h => by
    have := copied (zs := zs.map cm) (k := k) (by rw [List.length_map]; exact h)
    rw [inv_get h, List.length_map] at this
    exact this
  clear hf
  generalize zs.map cm = cs at *
  go_enter Try.func20, Try.ntmps20
  go_wp2_with fail
  refine (implFault_any _ zs cap _ (by omega) hn1).mono ?_
  rintro e w1 ⟨rfl, hbF⟩
  have HOW := hid (own2 hbF)
  have hBF := back hbF
  have HBF := hid hBF
  have hn2 := hn.below hBF
  clear hbF hn1 hb1 hn
  go_wp2_with (at_make; refine wpList_make_full _ rfl (.tmp 14) (.tmp 14) 24 rfl w1.heap.size 2 i0 (.int .i64 0) 1 Try.underlying24 hi hz0 hz1 .i64 .i64 zs.length zs.length zs.length rfl rfl rfl rfl ?_ hmax (Nat.le_refl _) ?_)
  · rw [hz2]; omega
  intro w2 hown hgrow
  have hB : Below w1.heap.size w1 w2 := (Below.refl _ _).grown hgrow (Nat.le_refl _) (fun k hk => by cases hk)
  clear hgrow hBF
  go_wp2
  go_loopw [18] (fun i wr => ∃ k : Nat, k ≤ zs.length ∧ i = .int .i64 k ∧ wr.ownsRow w1.heap.size 2 1 (.slice (some ⟨w1.heap.size, 0, none⟩) zs.length zs.length) zs.length ((cs.take k ++ List.replicate (zs.length - k) 0).map (Value.int .i64)) ∧ w1.heap.size < wr.heap.size ∧ Below w1.heap.size w1 wr) (fun i _ => zs.length - (intOf i).toNat)
  case atStart =>
    refine ⟨0, Nat.zero_le _, rfl, ?_, ?_, hB⟩
    · rw [toList_madeCells_one] at hown
      simpa using hown
    · rcases hown.2 with ⟨h, _⟩ | ⟨g, c, cur, h, _, hg, _⟩
      · simp at h
      · simp at h
        obtain ⟨rfl, _⟩ := h
        rcases Nat.lt_or_ge w1.heap.size w2.heap.size with h | h
        · exact h
        · rw [Array.getElem?_eq_none h] at hg; cases hg
  case round =>
    obtain ⟨k, hk, rfl, hown2, hsz, hB2⟩ := hrel
    by_cases hlt : k < zs.length
    · rcases hn2 with hn | ⟨b, off, rfl, hc⟩
      · subst hn; simp at hlt
      have hcell := hc k hlt
      have hbl := World.block_lt_of_cell? _ _ hcell
      rw [← hB2.cell (p := ⟨b, off + k, none⟩) hbl] at hcell
      have hdst := hown2.cellAt k (by omega)
      have hfr := hown2.frozenAt k
      have HS := hid (HCO.out hlt)
      have HCM : Hid (∀ W, Calls Try.prog 75 #[.int .i64 (zs.getD k 0)] W fun e w' => e = .returned (.int .i64 (cm (zs.getD k 0))) ∧ w' = W) := implComplement (zs.getD k 0)
      generalize zs.getD k 0 = z at *
      obtain ⟨y, hy⟩ : ∃ y, wr.cell? ⟨w1.heap.size, k, none⟩ = some y := by
        rw [hdst]; exact ⟨_, List.getElem?_eq_getElem (by have := HL.out; simp; omega)⟩
      have HOWN : Hid _ := hown2
      have HB2 := hid hB2
      clear hdst hown2 hown hc hB HCO hB2
      go_wp2_with (go_at_call 75; refine (HCM.out _).mono ?_; rintro e wq ⟨rfl, hwq⟩; have hwr := hwq.symm; clear hwq; subst hwr)
      go_roundw
      case rel =>
        refine ⟨k + 1, by omega, by (go_num), ?_, ?_, ?_⟩
        · have h2 := World.ownsRow.stored HOWN.out k (.int .i64 (cm z))
          rw [HS.out] at h2
          exact h2.1
        · simpa using hsz
        · exact HB2.out.setCell (Nat.le_refl _) _
      case measure => simp [intOf]; omega
    · have hk2 : k = zs.length := by omega
      rw [hk2, List.take_of_length_le (by rw [HL.out]; exact Nat.le_refl _), Nat.sub_self, List.replicate_zero, List.append_nil] at hown2
      obtain ⟨hc0, hc1, hf0, hf1, hzF⟩ := HOW.out
      have d0 := (hB2.cell (p := ⟨w.heap.size, 0, none⟩) hzF).trans hc0
      have d1 := (hB2.cell (p := ⟨w.heap.size, 1, none⟩) hzF).trans hc1
      have e0 := (hB2.frozen (p := ⟨w.heap.size, 0, none⟩) hzF).trans hf0
      have e1 := (hB2.frozen (p := ⟨w.heap.size, 1, none⟩) hzF).trans hf1
      have hfin : Own ((wr.setCell ⟨w.heap.size, 0, none⟩ (.int .i64 0)).setCell ⟨w.heap.size, 1, none⟩ (.slice (some ⟨w1.heap.size, 0, none⟩) zs.length zs.length)) w.heap.size (.slice (some ⟨w1.heap.size, 0, none⟩) zs.length zs.length) cs := by
        have h1 := ownsRow_setCell_below (ownsRow_setCell_below hown2 (a := ⟨w.heap.size, 0, none⟩) hzF (.int .i64 0)) (a := ⟨w.heap.size, 1, none⟩) hzF (.slice (some ⟨w1.heap.size, 0, none⟩) zs.length zs.length)
        have h2 := own_mono h1 (C := w.heap.size) (Nat.le_of_lt hzF)
        unfold Own
        rw [HL.out]
        exact h2
      have HFI := hid hfin
      have HB3 := hid (HBF.out.trans (hB2.mono (Nat.le_of_lt hzF)))
      clear hown2 hk hlt HCO hown hfin hc0 hc1 hf0 hf1 hB2 hB
      subst hk2
      go_wp2
      refine bodyPost_ret (v := .agg #[.int .i64 0, .slice (some ⟨w1.heap.size, 0, none⟩) zs.length zs.length]) (by simp [results, Try.results20, go_sem, d0, d1]) rfl ⟨_, rfl, HFI.out, ?_⟩
      exact (HB3.out.setCell (Nat.le_refl _) _).setCell (Nat.le_refl _) _

set_option maxRecDepth 100000 in
set_option maxHeartbeats 800000 in
theorem implInvert_any (a : Option Addr) (zs : List Int) (cap : Nat) (w : World) (hcap : zs.length ≤ cap) (hlen : zs.length ≤ 1048576) (hn : Nums w a zs) :
    Calls Try.prog 20 #[.slice a zs.length cap] w fun e w' =>
      ∃ v, e = .returned (.agg #[.int .i64 (fault zs), v]) ∧ Own w' w.heap.size v (invL zs) ∧ Below w.heap.size w w' := by
  by_cases hf : fault zs = 0
  · refine (implInvert_ok a zs cap w hcap hf hn).mono ?_
    rintro e w' ⟨v, rfl, ho, hb⟩
    refine ⟨v, by rw [hf], ?_, hb⟩
    rw [invL, if_pos hf]; exact ho
  · have hft : (fault zs != 0) = true := by simpa using hf
    have hv : Hid (invL zs = []) := by show _ = _; rw [invL, if_neg hf]
    have hb1 : Below w.heap.size w (w.alloc (.cells #[.int .i64 0, .slice none 0 0] 34)) := (Below.refl _ _).alloc (Nat.le_refl _) _
    have hn1 : Nums (w.alloc (.cells #[.int .i64 0, .slice none 0 0] 34)) a zs := hn.below hb1
    clear hf hb1
    go_enter Try.func20, Try.ntmps20
    go_wp2_with fail
    refine (implFault_any _ zs cap _ (by omega) hn1).mono ?_
    rintro e w1 ⟨rfl, hbF⟩
    obtain ⟨hc0, hc1, hf0, hf1, hzF⟩ := own2 hbF
    have hBF := back hbF
    clear hbF hn1
    go_wp2
    refine bodyPost_ret (v := .agg #[.int .i64 (fault zs), .slice none 0 0]) (by simp [results, Try.results20, go_sem, hc0, hc1]) rfl ⟨_, rfl, ?_, by go_grown⟩
    rw [hv.out]
    exact World.ownsRow_nil _ _ _ _
end Go.Proofs.Ytcikofhbfncgdaa
namespace Go.Proofs.Ytcikofhbfncgdaa
open Go.RowKit
set_option linter.unusedVariables false

set_option maxHeartbeats 800000 in
theorem lwNums_any (a b : Option Addr) (zs : List Int) (ca cb : Nat) (w : World) (hlen : zs.length ≤ 9223372036854775807) (ha : Nums w a zs) (hb : Nums w b zs) :
    Calls Try.prog 22 #[.slice a zs.length ca, .slice b zs.length cb] w fun e w' => e = .returned (.bool true) ∧ Below w.heap.size w w' := by
  have hne : (((zs.length : Int) != (zs.length : Int)) = false) := by simp
  go_enter Try.func22, Try.ntmps22
  go_wp2
  go_loopw [5] (fun i wr => ∃ k : Nat, k ≤ zs.length ∧ i = .int .i64 k ∧ Below w.heap.size w wr) (fun i _ => zs.length - (intOf i).toNat)
  case atStart => exact ⟨0, Nat.zero_le _, rfl, Below.refl _ _⟩
  case round =>
    obtain ⟨k, hk, rfl, hB⟩ := hrel
    by_cases hlt : k < zs.length
    · rcases ha with ha | ⟨b1, o1, rfl, hc1⟩
      · subst ha; simp at hlt
      rcases hb with hb | ⟨b2, o2, rfl, hc2⟩
      · subst hb; simp at hlt
      have h1 := hc1 k hlt
      have h2 := hc2 k hlt
      have l1 := World.block_lt_of_cell? _ _ h1
      have l2 := World.block_lt_of_cell? _ _ h2
      rw [← hB.cell (p := ⟨b1, o1 + k, none⟩) l1] at h1
      rw [← hB.cell (p := ⟨b2, o2 + k, none⟩) l2] at h2
      obtain ⟨z, hz⟩ : ∃ z, z = zs.getD k 0 := ⟨_, rfl⟩
      rw [← hz] at h1 h2
      clear hz hc1 hc2 l1 l2
      go_wp2
      go_region
      all_goals
        go_wp2
        go_roundw
        case rel => exact ⟨k + 1, by omega, by go_num, hB.drew⟩
        case measure => simp [intOf]; omega
    · go_wp2
      go_ret
      exact ⟨rfl, hB⟩

end Go.Proofs.Ytcikofhbfncgdaa
namespace Go.Proofs.Ytcikofhbfncgdaa
open Go.RowKit
set_option maxHeartbeats 400000 in
theorem big_any (a : Option Addr) (K cap : Nat) (w : World) (hK : K ≤ 1048576) :
    Calls Try.prog 15 #[.slice a K cap] w fun e w' => e = .returned (.bool false) ∧ w' = w := by
  have hd : decide ((1048576 : Int) < (K : Int)) = false := decide_eq_false (by omega)
  go_enter Try.func15, Try.ntmps15
  go_wp2
  go_ret
  exact ⟨rfl, rfl⟩
set_option maxHeartbeats 400000 in
theorem big_yes (a : Option Addr) (K cap : Nat) (w : World) (hK : 1048576 < K) :
    Calls Try.prog 15 #[.slice a K cap] w fun e w' => e = .returned (.bool true) ∧ w' = w := by
  have hd : decide ((1048576 : Int) < (K : Int)) = true := decide_eq_true (by omega)
  go_enter Try.func15, Try.ntmps15
  go_wp2
  go_ret
  exact ⟨rfl, rfl⟩
end Go.Proofs.Ytcikofhbfncgdaa
