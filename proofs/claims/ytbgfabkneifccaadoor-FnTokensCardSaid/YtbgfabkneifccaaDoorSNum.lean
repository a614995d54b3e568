/-
  spec.l3Based, l3Number: a number of base 16, of base 10.
-/
import Derived.Test.YtbgfabkneifccaaDoorSLex
namespace Go.Proofs.YtbgfabkneifccaaDoor
open Go.RowKit
set_option linter.unusedVariables false
attribute [local go_sem] bs_size bs_get bs_extract bs_append bs_eq bs_toList

theorem hexV_take (l : List UInt8) (k : Nat) (h : k < l.length) : hexV (l.take (k + 1)) = hexStep (hexV (l.take k)) (ch l k) := by
  unfold hexV; rw [take_at l k h, List.foldl_append]; rfl
theorem decV_take (l : List UInt8) (k : Nat) (h : k < l.length) : decV (l.take (k + 1)) = decStep (decV (l.take k)) (ch l k) := by
  unfold decV; rw [take_at l k h, List.foldl_append]; rfl

theorem hexStep_bd (n : Int) (c : UInt8) (hc : (isDig c || isHex c) = true) (h0 : 0 ≤ n) (b : Int) (hb : n < b) : 0 ≤ hexStep n c ∧ hexStep n c < b * 16 := by
  unfold hexStep
  unfold isDig isHex isDigI isHexI at *
  by_cases hd : 48 ≤ (c.toNat : Int) ∧ (c.toNat : Int) ≤ 57
  · simp only [hd, and_self, decide_true, if_true]; omega
  · simp only [hd, decide_false, Bool.false_or, decide_eq_true_eq] at hc
    simp only [hd, decide_false]
    rw [if_neg (by simp)]; omega
theorem decStep_bd (n : Int) (c : UInt8) (hc : isDig c = true) (h0 : 0 ≤ n) (b : Int) (hb : n < b) : 0 ≤ decStep n c ∧ decStep n c < b * 10 := by
  unfold decStep
  unfold isDig isDigI at *
  simp only [decide_eq_true_eq] at hc
  omega
theorem fold_bd (f : Int → UInt8 → Int) (ok : UInt8 → Bool) (B : Nat) (hf : ∀ n c, ok c = true → 0 ≤ n → ∀ b : Int, n < b → 0 ≤ f n c ∧ f n c < b * B) (l : List UInt8) (k : Nat) (hk : k ≤ l.length) (h : ∀ j, j < k → ok (ch l j) = true) :
    0 ≤ (l.take k).foldl f 0 ∧ (l.take k).foldl f 0 < (B : Int) ^ k := by
  induction k with
  | zero => simp
  | succ k ih =>
    obtain ⟨h1, h2⟩ := ih (by omega) (fun j hj => h j (by omega))
    rw [take_at l k (by omega), List.foldl_append]
    have := hf _ _ (h k (by omega)) h1 _ h2
    simpa [Int.pow_succ] using this
theorem hexV_bd (l : List UInt8) (k : Nat) (hk : k ≤ l.length) (h : ∀ j, j < k → (isDig (ch l j) || isHex (ch l j)) = true) : 0 ≤ hexV (l.take k) ∧ hexV (l.take k) < 16 ^ k :=
  fold_bd hexStep _ 16 (fun n c hc h0 b hb => hexStep_bd n c hc h0 b hb) l k hk h
theorem decV_bd (l : List UInt8) (k : Nat) (hk : k ≤ l.length) (h : ∀ j, j < k → isDig (ch l j) = true) : 0 ≤ decV (l.take k) ∧ decV (l.take k) < 10 ^ k :=
  fold_bd decStep _ 10 (fun n c hc h0 b hb => decStep_bd n c hc h0 b hb) l k hk h
theorem pow16 (k : Nat) (h : k ≤ 3) : (16 : Int) ^ k ≤ 4096 := by
  rcases (show k = 0 ∨ k = 1 ∨ k = 2 ∨ k = 3 by omega) with rfl | rfl | rfl | rfl <;> decide
theorem pow10 (k : Nat) (h : k ≤ 4) : (10 : Int) ^ k ≤ 10000 := by
  rcases (show k = 0 ∨ k = 1 ∨ k = 2 ∨ k = 3 ∨ k = 4 by omega) with rfl | rfl | rfl | rfl | rfl <;> decide
/-- a number and whether it is one -/
def Numb (ok : Bool) (v : Int) (e : Ending) : Prop := ∃ n, e = .returned (.tuple #[.int .i64 n, .bool ok]) ∧ (ok = true → n = v)
theorem Numb.no {v n : Int} {ok ok' : Bool} (h : ok' = ok) (hf : ok = false) : Numb ok v (.returned (.tuple #[.int .i64 n, .bool ok'])) := ⟨n, by rw [h], fun e => by rw [hf] at e; cases e⟩
theorem Numb.yes {v n : Int} {ok ok' : Bool} (h : ok' = ok) (hn : ok = true → n = v) : Numb ok v (.returned (.tuple #[.int .i64 n, .bool ok'])) := ⟨n, by rw [h], hn⟩
theorem tup2 {a b : Int} {c d : Bool} (h1 : a = b) (h2 : c = d) : Ending.returned (.tuple #[.int .i64 a, .bool c]) = Ending.returned (.tuple #[.int .i64 b, .bool d]) := by rw [h1, h2]

set_option maxHeartbeats 1600000 in
theorem based_any (l : List UInt8) (w : World) (hl0 : l.length ≤ 9223372036854775807) : Calls Tryd.prog 62 #[.string (bs l)] w fun e w' => Numb (hexOk l) (hexV l) e ∧ w' = w := by
  by_cases h1 : 1 ≤ l.length ∧ l.length ≤ 4
  · have hn0 : hexOk l = l.all (fun c => isDig c || isHex c) := by unfold hexOk; rw [decide_eq_true h1]; rfl
    obtain ⟨h1, h2⟩ := h1
    have HN0 : Hid (hexOk l = l.all (fun c => isDig c || isHex c)) := hn0
    clear hn0
    go_enter Tryd.func62, Tryd.ntmps62
    go_wp2
    go_loop [4, 5] (fun n i => ∃ k : Nat, k ≤ l.length ∧ i = .int .i64 k ∧ n = .int .i64 (hexV (l.take k)) ∧ ∀ j, j < k → (isDig (ch l j) || isHex (ch l j)) = true) (fun _ i => l.length - (intOf i).toNat)
    case atStart => exact ⟨0, by omega, rfl, rfl, by omega⟩
    case round =>
      obtain ⟨k, hk, rfl, rfl, hno⟩ := hrel
      have HNO : Hid (∀ j, j < k → (isDig (ch l j) || isHex (ch l j)) = true) := hno
      by_cases hlt : k < l.length
      · obtain ⟨hb1, hb2⟩ := hexV_bd l k hk hno
        have hb3 : hexV (l.take k) ≤ 4095 := by have := pow16 k (by omega); omega
        have HS : Hid (hexV (l.take (k + 1)) = hexStep (hexV (l.take k)) (ch l k)) := hexV_take l k hlt
        clear hno hb2
        generalize hexV (l.take k) = N at HS hb1 hb3 ⊢
        have hc0 := ch_lo l k
        have hc1 := ch_hi l k
        cases hd : isDigI ((ch l k).toNat : Int)
        · cases hx : isHexI ((ch l k).toNat : Int)
          · go_wp2_with (first | (go_at_call 51; refine (digit_any _ _).mono ?_; rintro e w' ⟨rfl, rfl⟩) | (go_at_call 61; refine (hex_any _ _).mono ?_; rintro e w' ⟨rfl, rfl⟩))
            go_ret2
            have hf : hexOk l = false := by rw [HN0.out]; exact all_no hlt (by unfold isDig isHex; rw [hd, hx]; rfl)
            exact ⟨.no hf.symm hf, rfl⟩
          · have hx' : 65 ≤ ((ch l k).toNat : Int) ∧ ((ch l k).toNat : Int) ≤ 70 := by simpa [isHexI] using hx
            obtain ⟨hx1, hx2⟩ := hx'
            go_wp2_with (first | (go_at_call 51; refine (digit_any _ _).mono ?_; rintro e w' ⟨rfl, rfl⟩) | (go_at_call 61; refine (hex_any _ _).mono ?_; rintro e w' ⟨rfl, rfl⟩))
            go_round
            case rel =>
              refine ⟨k + 1, by omega, by go_num, ?_, fun j hj => by rcases Nat.lt_succ_iff_lt_or_eq.1 hj with h | rfl; exact HNO.out j h; unfold isDig isHex; rw [hx]; simp⟩
              rw [HS.out, hexStep, if_neg (by unfold isDig; rw [hd]; simp)]
            case measure => simp [intOf]; omega
        · have hd' : 48 ≤ ((ch l k).toNat : Int) ∧ ((ch l k).toNat : Int) ≤ 57 := by simpa [isDigI] using hd
          obtain ⟨hd1, hd2⟩ := hd'
          go_wp2_with (first | (go_at_call 51; refine (digit_any _ _).mono ?_; rintro e w' ⟨rfl, rfl⟩) | (go_at_call 61; refine (hex_any _ _).mono ?_; rintro e w' ⟨rfl, rfl⟩))
          go_round
          case rel =>
            refine ⟨k + 1, by omega, by go_num, ?_, fun j hj => by rcases Nat.lt_succ_iff_lt_or_eq.1 hj with h | rfl; exact HNO.out j h; unfold isDig isHex; rw [hd]; simp⟩
            rw [HS.out, hexStep, if_pos (by unfold isDig; rw [hd])]
          case measure => simp [intOf]; omega
      · have hk3 : k = l.length := by omega
        subst hk3
        clear hno
        generalize hV : hexV (l.take l.length) = N
        go_wp2
        go_ret2
        have hf : hexOk l = true := by rw [HN0.out]; exact all_yes HNO.out
        exact ⟨.yes hf.symm (fun _ => by rw [← hV, List.take_length]), rfl⟩
  · have hn0 : hexOk l = false := by unfold hexOk; rw [decide_eq_false h1]; rfl
    rw [hn0]
    clear hn0
    by_cases h2 : 1 ≤ l.length
    · have h3 : 4 < l.length := by omega
      clear h1
      go_enter Tryd.func62, Tryd.ntmps62
      go_wp2
      go_ret2
      exact ⟨.no rfl rfl, rfl⟩
    · have h3 : l.length = 0 := by omega
      clear h1
      go_enter Tryd.func62, Tryd.ntmps62
      go_wp2
      go_ret2
      exact ⟨.no rfl rfl, rfl⟩

set_option maxHeartbeats 1600000 in
theorem number_any (l : List UInt8) (w : World) (hl0 : l.length ≤ 9223372036854775807) : Calls Tryd.prog 52 #[.string (bs l)] w fun e w' => Numb (numOk l) (numV l) e ∧ w' = w := by
  cases hb : based l
  · have hn0 : numOk l = decOk l := by unfold numOk; rw [hb]; rfl
    have hv0 : numV l = decV l := by unfold numV; rw [hb]; rfl
    rw [hn0, hv0]
    have hb3 : ¬ (3 < l.length) ∨ ((3 < l.length) ∧ (l.take 3 == [49, 54, 35]) = false) := by
      by_cases h : 3 < l.length
      · refine .inr ⟨h, ?_⟩
        unfold based at hb; rw [decide_eq_true h] at hb; simpa using hb
      · exact .inl h
    clear hn0 hv0 hb
    by_cases h1 : 1 ≤ l.length ∧ l.length ≤ 5
    · by_cases h48 : (1 < l.length ∧ ((ch l 0).toNat : Int) = 48)
      · have hf : decOk l = false := by unfold decOk; rw [decide_eq_true h48.1, decide_eq_true (show ((l.getD 0 0).toNat : Int) = 48 from h48.2)]; simp
        rw [hf]
        obtain ⟨h4, h5⟩ := h48
        obtain ⟨h1, h2⟩ := h1
        rcases hb3 with h3 | ⟨h3, htk⟩
        all_goals
          go_enter Tryd.func52, Tryd.ntmps52
          go_wp2
          go_ret2
          exact ⟨.no rfl rfl, rfl⟩
      · have hn0 : decOk l = (l.all isDig && decide (decV l ≤ 65535)) := by
          unfold decOk
          rw [decide_eq_true h1]
          have : (decide (1 < l.length) && decide (((l.getD 0 0).toNat : Int) = 48)) = false := by
            rw [Bool.and_eq_false_iff]
            by_cases h : 1 < l.length
            · exact .inr (decide_eq_false (fun e => h48 ⟨h, e⟩))
            · exact .inl (decide_eq_false h)
          rw [this]; rfl
        have HN0 : Hid (decOk l = (l.all isDig && decide (decV l ≤ 65535))) := hn0
        clear hn0
        have h45 : (1 < l.length ∧ ¬ ((ch l 0).toNat : Int) = 48) ∨ ¬ 1 < l.length := by
          by_cases h : 1 < l.length
          · exact .inl ⟨h, fun e => h48 ⟨h, e⟩⟩
          · exact .inr h
        clear h48
        obtain ⟨h1, h2⟩ := h1
        rcases hb3 with h3 | ⟨h3, htk⟩ <;> rcases h45 with ⟨h4, h5⟩ | h4
        all_goals try (exfalso; omega)
        all_goals try have h5b : (((ch l 0).toNat : Int) == 48) = false := by simpa using h5
        all_goals
          go_enter Tryd.func52, Tryd.ntmps52
          go_wp2
          go_loop [4, 5] (fun n i => ∃ k : Nat, k ≤ l.length ∧ i = .int .i64 k ∧ n = .int .i64 (decV (l.take k)) ∧ ∀ j, j < k → isDig (ch l j) = true) (fun _ i => l.length - (intOf i).toNat)
          case atStart => exact ⟨0, by omega, rfl, rfl, by omega⟩
          case round =>
            obtain ⟨k, hk, rfl, rfl, hno⟩ := hrel
            have HNO : Hid (∀ j, j < k → isDig (ch l j) = true) := hno
            by_cases hlt : k < l.length
            · obtain ⟨hb1, hb2⟩ := decV_bd l k hk hno
              have hb3 : decV (l.take k) ≤ 9999 := by have := pow10 k (by omega); omega
              have HS : Hid (decV (l.take (k + 1)) = decStep (decV (l.take k)) (ch l k)) := decV_take l k hlt
              clear hno hb2
              generalize decV (l.take k) = N at HS hb1 hb3 ⊢
              have hc0 := ch_lo l k
              have hc1 := ch_hi l k
              cases hd : isDigI ((ch l k).toNat : Int)
              · go_wp2_with (first | (go_at_call 51; refine (digit_any _ _).mono ?_; rintro e w' ⟨rfl, rfl⟩))
                go_ret2
                have hf : decOk l = false := by rw [HN0.out, all_no hlt (by unfold isDig; exact hd)]; rfl
                exact ⟨.no hf.symm hf, rfl⟩
              · have hd' : 48 ≤ ((ch l k).toNat : Int) ∧ ((ch l k).toNat : Int) ≤ 57 := by simpa [isDigI] using hd
                obtain ⟨hd1, hd2⟩ := hd'
                go_wp2_with (first | (go_at_call 51; refine (digit_any _ _).mono ?_; rintro e w' ⟨rfl, rfl⟩))
                go_round
                case rel =>
                  refine ⟨k + 1, by omega, by go_num, ?_, fun j hj => by rcases Nat.lt_succ_iff_lt_or_eq.1 hj with h | rfl; exact HNO.out j h; unfold isDig; exact hd⟩
                  rw [HS.out, decStep]
                case measure => simp [intOf]; omega
            · have hk3 : k = l.length := by omega
              subst hk3
              clear hno
              have hV : decV (l.take l.length) = decV l := by rw [List.take_length]
              rw [hV]
              clear hV
              have hf : Hid (decOk l = decide (decV l ≤ 65535)) := by show decOk l = _; rw [HN0.out, all_yes HNO.out]; simp
              generalize hW : decV l = N at hf ⊢
              have HW : Hid (decV l = N) := hW
              clear hW
              go_wp2
              go_ret2
              exact ⟨.yes hf.out.symm (fun _ => HW.out.symm), rfl⟩
    · have hf : decOk l = false := by unfold decOk; rw [decide_eq_false h1]; rfl
      rw [hf]
      clear hf
      by_cases h2 : 1 ≤ l.length
      · have h5 : 5 < l.length := by omega
        have h6 : 1 < l.length := by omega
        rcases hb3 with h3 | ⟨h3, htk⟩
        · exfalso; omega
        · clear h1
          go_enter Tryd.func52, Tryd.ntmps52
          go_wp2
          go_ret2
          exact ⟨.no rfl rfl, rfl⟩
      · have h3 : l.length = 0 := by omega
        clear h1 hb3
        go_enter Tryd.func52, Tryd.ntmps52
        go_wp2
        go_ret2
        exact ⟨.no rfl rfl, rfl⟩
  · have hb' := hb
    unfold based at hb'
    simp only [Bool.and_eq_true, decide_eq_true_eq] at hb'
    obtain ⟨h3, htk⟩ := hb'
    have hn0 : numOk l = hexOk (l.drop 3) := by unfold numOk; rw [hb]; rfl
    have hv0 : numV l = hexV (l.drop 3) := by unfold numV; rw [hb]; rfl
    rw [hn0, hv0]
    have hl3 : (l.drop 3).length = l.length - 3 := by simp
    have hbb : Hid (∀ w, Calls Tryd.prog 62 #[.string (bs (l.drop 3))] w fun e w' => Numb (hexOk (l.drop 3)) (hexV (l.drop 3)) e ∧ w' = w) := fun w => based_any (l.drop 3) w (by omega)
    have htl : (l.drop 3).take (l.length - 3) = l.drop 3 := List.take_of_length_le (by omega)
    clear hn0 hv0 hb hl3
    go_enter Tryd.func52, Tryd.ntmps52
    go_wp2_with fail
    refine (hbb.out _).mono ?_
    rintro e w1 ⟨⟨n, rfl, hn⟩, rfl⟩
    have HN : Hid (hexOk (l.drop 3) = true → n = hexV (l.drop 3)) := hn
    clear hn
    go_wp2
    go_ret2
    exact ⟨.yes rfl HN.out, rfl⟩
end Go.Proofs.YtbgfabkneifccaaDoor
