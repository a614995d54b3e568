/-
  impl.readWord, numberOf: as the plain numbers say; where the variables strconv.ErrSyntax, ErrRange hold a value (Errs).
-/
import Derived.Test.YtbgfabkneifccaaDoorINum
namespace Go.Proofs.YtbgfabkneifccaaDoor
open Go.RowKit
set_option linter.unusedVariables false
attribute [local go_sem] bs_size bs_get bs_extract bs_append bs_eq bs_toList

/-- the two variables of strconv hold values -/
def Errs (w : World) : Prop := (∃ t p, w.cell? ⟨1, 0, none⟩ = some (.iface t p)) ∧ (∃ t p, w.cell? ⟨2, 0, none⟩ = some (.iface t p))
theorem Errs.below {w w' : World} (h : Errs w) (hb : Below w.heap.size w w') : Errs w' := by
  obtain ⟨⟨t, p, h1⟩, ⟨t', p', h2⟩⟩ := h
  exact ⟨⟨t, p, (hb.cell (p := ⟨1, 0, none⟩) (World.block_lt_of_cell? _ _ h1)).trans h1⟩, ⟨t', p', (hb.cell (p := ⟨2, 0, none⟩) (World.block_lt_of_cell? _ _ h2)).trans h2⟩⟩

/-- a number, or an error -/
def Read (ok : Bool) (v : Int) (e : Ending) : Prop :=
  (ok = true ∧ e = .returned (.tuple #[.int .u64 v, .nilIface])) ∨ (ok = false ∧ ∃ (x : Int) (t : TypeId) (p : Value), e = .returned (.tuple #[.int .u64 x, .iface t p]))

set_option maxHeartbeats 1600000 in
set_option maxRecDepth 100000 in
theorem parseNone (b : Int) (w : World) : Calls Tryd.prog 70 #[.string (bs []), .int .i64 b, .int .i64 16] w fun e w' => Parsed false 0 e ∧ Below w.heap.size w w' := by
  go_enter Tryd.func70, Tryd.ntmps70
  go_wp2
  go_ret2
  exact ⟨Parsed.no rfl (.inr rfl), Below.refl _ _⟩

set_option maxHeartbeats 1600000 in
theorem pub_any (l : List UInt8) (b : Int) (ok : Bool) (v : Int) (hl : l.length ≤ 1000000) (hin : ∀ w, Calls Tryd.prog 70 #[.string (bs l), .int .i64 b, .int .i64 16] w fun e w' => Parsed ok v e ∧ Below w.heap.size w w') (w : World) (hE : Errs w) :
    Calls Tryd.prog 66 #[.string (bs l), .int .i64 b, .int .i64 16] w fun e w' => Read ok v e ∧ Below w.heap.size w w' := by
  have hsz : (bs l).size ≤ 281474976710656 := by rw [bs_size]; omega
  have HE : Hid (Errs w) := hE
  clear hE
  go_enter Tryd.func66, Tryd.ntmps66
  go_wp2_with fail
  refine (hin _).mono ?_
  rintro e w1 ⟨hp, hb⟩
  have HB : Hid (Below w.heap.size w w1) := hb
  obtain ⟨⟨t1, p1, c1⟩, ⟨t2, p2, c2⟩⟩ := HE.out.below hb
  clear hb hin
  rcases hp with ⟨rfl, rfl⟩ | ⟨rfl, x, t, rfl | rfl, rfl⟩
  · clear c1 c2
    go_wp2
    go_ret2
    exact ⟨.inl ⟨rfl, rfl⟩, HB.out⟩
  · go_wp2_with (go_at_call 71; refine (Tryd.strconv_toError_range _ _ _ _ _ _ hsz c2 (.inr ⟨t2, p2, rfl⟩)).mono ?_; rintro e w2 ⟨N, rfl, _, _, hb⟩; have HB2 : Hid (Below w.heap.size w w2) := HB.out.trans (hb.mono HB.out.size); clear hb c1 c2)
    go_ret2
    exact ⟨.inr ⟨rfl, _, _, _, rfl⟩, HB2.out⟩
  · go_wp2_with (go_at_call 71; refine (Tryd.strconv_toError_syntax _ _ _ _ _ _ hsz c1 (.inr ⟨t1, p1, rfl⟩)).mono ?_; rintro e w2 ⟨N, rfl, _, _, hb⟩; have HB2 : Hid (Below w.heap.size w w2) := HB.out.trans (hb.mono HB.out.size); clear hb c1 c2)
    go_ret2
    exact ⟨.inr ⟨rfl, _, _, _, rfl⟩, HB2.out⟩

theorem tupN {a b : Int} {c : Bool} (h1 : a = b) : Ending.returned (.tuple #[.int .i64 a, .bool c]) = Ending.returned (.tuple #[.int .i64 b, .bool c]) := by rw [h1]

set_option maxHeartbeats 1600000 in
theorem readW_any (l : List UInt8) (b : Int) (most : Nat) (ok : Bool) (v : Int) (hm : most ≤ 1000000) (hv : ok = true → 0 ≤ v ∧ v ≤ 65535) (hl : l.length ≤ 9223372036854775807) (hbig : most < l.length → ok = false)
    (hin : l.length ≤ most → ∀ w, Calls Tryd.prog 70 #[.string (bs l), .int .i64 b, .int .i64 16] w fun e w' => Parsed ok v e ∧ Below w.heap.size w w') (w : World) (hE : Errs w) :
    Calls Tryd.prog 60 #[.string (bs l), .int .i64 b, .int .i64 (most : Int)] w fun e w' => e = .returned (.tuple #[.int .i64 (if ok then v else 0), .bool ok]) ∧ Below w.heap.size w w' := by
  by_cases hlm : most < l.length
  · have hf := hbig hlm
    subst hf
    clear hbig hin hv hE
    go_enter Tryd.func60, Tryd.ntmps60
    go_wp2
    go_ret2
    exact ⟨rfl, Below.refl _ _⟩
  · have hlm2 : l.length ≤ most := by omega
    have hp : Hid (∀ w, Errs w → Calls Tryd.prog 66 #[.string (bs l), .int .i64 b, .int .i64 16] w fun e w' => Read ok v e ∧ Below w.heap.size w w') := fun w h => pub_any l b ok v (by omega) (hin hlm2) w h
    have HV : Hid (ok = true → 0 ≤ v ∧ v ≤ 65535) := hv
    have HE : Hid (Errs w) := hE
    clear hin hbig hv hE hlm
    go_enter Tryd.func60, Tryd.ntmps60
    go_wp2_with fail
    refine (hp.out _ HE.out).mono ?_
    rintro e w1 ⟨hr, hb⟩
    rcases hr with ⟨rfl, rfl⟩ | ⟨rfl, x, t, p, rfl⟩
    · obtain ⟨hv0, hv1⟩ := HV.out rfl
      go_wp2
      go_ret2
      exact ⟨rfl, hb⟩
    · go_wp2
      go_ret2
      exact ⟨rfl, hb⟩

/-- the number of a piece; none: 0 -/
def numR (l : List UInt8) : Int := if numOk l then numV l else 0
theorem hex4 (l : List UInt8) (h : l.length ≤ 4) (ha : l.all (fun c => isDig c || isHex c) = true) : 0 ≤ hexV l ∧ hexV l ≤ 65535 := by
  have h1 := hexV_bd l l.length (Nat.le_refl _) (fun j hj => List.all_eq_true.1 ha (ch l j) (by rw [ch_get l j hj]; exact List.getElem_mem hj))
  rw [List.take_length] at h1
  have h2 : (16 : Int) ^ l.length ≤ 65536 := by
    have : l.length = 0 ∨ l.length = 1 ∨ l.length = 2 ∨ l.length = 3 ∨ l.length = 4 := by omega
    rcases this with h | h | h | h | h <;> rw [h] <;> decide
  omega
theorem dec_nonneg (l : List UInt8) (ha : l.all isDig = true) : 0 ≤ decV l := by
  have h1 := decV_bd l l.length (Nat.le_refl _) (fun j hj => List.all_eq_true.1 ha (ch l j) (by rw [ch_get l j hj]; exact List.getElem_mem hj))
  rw [List.take_length] at h1
  exact h1.1

set_option maxHeartbeats 1600000 in
theorem readHex (l : List UInt8) (hn : l.length ≤ 4 → l.all isNum = true) (hl : l.length ≤ 9223372036854775807) (w : World) (hE : Errs w) :
    Calls Tryd.prog 60 #[.string (bs l), .int .i64 16, .int .i64 4] w fun e w' => e = .returned (.tuple #[.int .i64 (if hexOk l then hexV l else 0), .bool (hexOk l)]) ∧ Below w.heap.size w w' := by
  refine readW_any l 16 4 (hexOk l) (hexV l) (by omega) ?_ hl ?_ ?_ w hE
  · intro h
    unfold hexOk at h
    rw [Bool.and_eq_true] at h
    exact hex4 l (of_decide_eq_true h.1).2 h.2
  · intro h; unfold hexOk; rw [decide_eq_false (by omega)]; rfl
  · intro h4 w
    by_cases h0 : 1 ≤ l.length
    · have hok : hexOk l = (l.all (fun c => isDig c || isHex c) && decide (hexV l ≤ 65535)) := by
        unfold hexOk
        rw [decide_eq_true (show 1 ≤ l.length ∧ l.length ≤ 4 from ⟨h0, h4⟩)]
        cases ha : l.all (fun c => isDig c || isHex c)
        · rfl
        · rw [decide_eq_true (hex4 l h4 ha).2]
      rw [hok]
      exact parse16 l h0 (by omega) (hn h4) w
    · have he : l = [] := List.length_eq_zero_iff.1 (by omega)
      subst he
      exact parseNone 16 w
set_option maxHeartbeats 1600000 in
theorem readDec (l : List UInt8) (hl : l.length ≤ 9223372036854775807) (w : World) (hE : Errs w) :
    Calls Tryd.prog 60 #[.string (bs l), .int .i64 10, .int .i64 5] w fun e w' => e = .returned (.tuple #[.int .i64 (if (decide (1 ≤ l.length ∧ l.length ≤ 5) && l.all isDig && decide (decV l ≤ 65535)) then decV l else 0), .bool (decide (1 ≤ l.length ∧ l.length ≤ 5) && l.all isDig && decide (decV l ≤ 65535))]) ∧ Below w.heap.size w w' := by
  refine readW_any l 10 5 _ (decV l) (by omega) ?_ hl ?_ ?_ w hE
  · intro h
    rw [Bool.and_eq_true, Bool.and_eq_true] at h
    exact ⟨dec_nonneg l h.1.2, of_decide_eq_true h.2⟩
  · intro h; rw [decide_eq_false (by omega)]; rfl
  · intro h5 w
    by_cases h0 : 1 ≤ l.length
    · rw [decide_eq_true (show 1 ≤ l.length ∧ l.length ≤ 5 from ⟨h0, h5⟩), Bool.true_and]
      exact parse10 l h0 (by omega) w
    · have he : l = [] := List.length_eq_zero_iff.1 (by omega)
      subst he
      exact parseNone 10 w

theorem prefix16 (l : List UInt8) : ([49, 54, 35] : List UInt8).isPrefixOf l = decide (3 ≤ l.length ∧ l.take 3 = [49, 54, 35]) := by
  rw [Bool.eq_iff_iff, List.isPrefixOf_iff_prefix, decide_eq_true_iff]
  constructor
  · rintro ⟨r, rfl⟩; exact ⟨by simp, by simp⟩
  · rintro ⟨_, h⟩; exact ⟨l.drop 3, by rw [← h]; exact List.take_append_drop 3 l⟩

set_option maxHeartbeats 1600000 in
theorem number_impl (l : List UInt8) (hn : based l = true → (l.drop 3).length ≤ 4 → (l.drop 3).all isNum = true) (hl : l.length ≤ 9223372036854775807) (w : World) (hE : Errs w) :
    Calls Tryd.prog 46 #[.string (bs l)] w fun e w' => e = .returned (.tuple #[.int .i64 (numR l), .bool (numOk l)]) ∧ Below w.heap.size w w' := by
  have hcp := fun w => Tryd.strings_CutPrefix (bs l) ⟨#[49, 54, 35]⟩ w
  have HCP : Hid (∀ w, Calls Tryd.prog 59 #[.string (bs l), .string ⟨#[49, 54, 35]⟩] w fun e w' => e = .returned (.tuple #[.string (bs (if Lib.hasPrefix l [49, 54, 35] then l.drop 3 else l)), .bool (Lib.hasPrefix l [49, 54, 35])]) ∧ w' = w) := hcp
  clear hcp
  have HE : Hid (Errs w) := hE
  clear hE
  cases hp : Lib.hasPrefix l [49, 54, 35]
  · rw [hp] at HCP
    have hp' : ¬ (3 ≤ l.length ∧ l.take 3 = [49, 54, 35]) := by
      have h : ([49, 54, 35] : List UInt8).isPrefixOf l = false := hp
      rw [prefix16] at h
      exact of_decide_eq_false h
    have hb : based l = false := by
      unfold based
      cases h : (decide (3 < l.length) && (l.take 3 == [49, 54, 35]))
      · rfl
      · rw [Bool.and_eq_true] at h
        exact absurd ⟨Nat.le_of_lt (of_decide_eq_true h.1), by simpa using h.2⟩ hp'
    have hnum : numOk l = decOk l := by unfold numOk; rw [hb]; rfl
    have hval : numR l = if decOk l then decV l else 0 := by unfold numR numV; rw [hnum, hb]; rfl
    rw [hnum, hval]
    clear hn hp hp' hb hnum hval
    by_cases h48 : (1 < l.length ∧ ((ch l 0).toNat : Int) = 48)
    · have hf : decOk l = false := by unfold decOk; rw [decide_eq_true h48.1, decide_eq_true (show ((l.getD 0 0).toNat : Int) = 48 from h48.2)]; simp
      rw [hf]
      obtain ⟨h4, h5⟩ := h48
      clear hf HE
      go_enter Tryd.func46, Tryd.ntmps46
      go_wp2_with (go_at_call 59; refine (HCP.out _).mono ?_; rintro e w' ⟨rfl, rfl⟩)
      go_ret2
      exact ⟨rfl, Below.refl _ _⟩
    · have hd : decOk l = (decide (1 ≤ l.length ∧ l.length ≤ 5) && l.all isDig && decide (decV l ≤ 65535)) := by
        unfold decOk
        have : (decide (1 < l.length) && decide (((l.getD 0 0).toNat : Int) = 48)) = false := by
          rw [Bool.and_eq_false_iff]
          by_cases h : 1 < l.length
          · exact .inr (decide_eq_false (fun e => h48 ⟨h, e⟩))
          · exact .inl (decide_eq_false h)
        rw [this]
        cases decide (1 ≤ l.length ∧ l.length ≤ 5) <;> rfl
      have hr := fun w h => readDec l hl w h
      rw [← hd] at hr
      have HR : Hid (∀ w, Errs w → Calls Tryd.prog 60 #[.string (bs l), .int .i64 10, .int .i64 5] w fun e w' => e = .returned (.tuple #[.int .i64 (if decOk l then decV l else 0), .bool (decOk l)]) ∧ Below w.heap.size w w') := hr
      have h45 : (1 < l.length ∧ ¬ ((ch l 0).toNat : Int) = 48) ∨ ¬ 1 < l.length := by
        by_cases h : 1 < l.length
        · exact .inl ⟨h, fun e => h48 ⟨h, e⟩⟩
        · exact .inr h
      clear h48 hd hr
      generalize (if decOk l then decV l else 0) = V at *
      generalize decOk l = D at *
      rcases h45 with ⟨h4, h5⟩ | h4
      all_goals try have h5b : (((ch l 0).toNat : Int) == 48) = false := by simpa using h5
      all_goals
        go_enter Tryd.func46, Tryd.ntmps46
        go_wp2_with (first | (go_at_call 59; refine (HCP.out _).mono ?_; rintro e w' ⟨rfl, rfl⟩) | (go_at_call 60; refine (HR.out _ HE.out).mono ?_; rintro e w1 ⟨rfl, hb⟩))
        go_ret2
        exact ⟨rfl, hb⟩
  · rw [hp] at HCP
    have hp' : 3 ≤ l.length ∧ l.take 3 = [49, 54, 35] := by
      have h : ([49, 54, 35] : List UInt8).isPrefixOf l = true := hp
      rw [prefix16] at h
      exact of_decide_eq_true h
    have key : numOk l = hexOk (l.drop 3) ∧ numR l = if hexOk (l.drop 3) then hexV (l.drop 3) else 0 := by
      by_cases h3 : 3 < l.length
      · have hb : based l = true := by unfold based; rw [decide_eq_true h3, hp'.2]; rfl
        have hnum : numOk l = hexOk (l.drop 3) := by unfold numOk; rw [hb]; rfl
        exact ⟨hnum, by unfold numR numV; rw [hnum, hb]; rfl⟩
      · have hb : based l = false := by unfold based; rw [decide_eq_false h3]; rfl
        have he : l = [49, 54, 35] := by have h := hp'.2; rwa [List.take_of_length_le (by omega)] at h
        subst he
        exact ⟨by decide, by decide⟩
    have hr : Hid (∀ w, Errs w → Calls Tryd.prog 60 #[.string (bs (l.drop 3)), .int .i64 16, .int .i64 4] w fun e w' => e = .returned (.tuple #[.int .i64 (if hexOk (l.drop 3) then hexV (l.drop 3) else 0), .bool (hexOk (l.drop 3))]) ∧ Below w.heap.size w w') := fun w h => readHex (l.drop 3) (fun h4 => by
      by_cases h3 : 3 < l.length
      · exact hn (by unfold based; rw [decide_eq_true h3, hp'.2]; rfl) h4
      · rw [List.drop_eq_nil_of_le (by omega)]; rfl) (by simp; omega) w h
    rw [key.1, key.2]
    clear hn hp hp' key
    rw [if_pos rfl] at HCP
    generalize (if hexOk (l.drop 3) then hexV (l.drop 3) else 0) = V at *
    generalize hexOk (l.drop 3) = D at *
    generalize l.drop 3 = m at *
    go_enter Tryd.func46, Tryd.ntmps46
    go_wp2_with (first | (go_at_call 59; refine (HCP.out _).mono ?_; rintro e w' ⟨rfl, rfl⟩) | (go_at_call 60; refine (hr.out _ HE.out).mono ?_; rintro e w1 ⟨rfl, hb⟩))
    go_ret2
    exact ⟨rfl, hb⟩
end Go.Proofs.YtbgfabkneifccaaDoor
