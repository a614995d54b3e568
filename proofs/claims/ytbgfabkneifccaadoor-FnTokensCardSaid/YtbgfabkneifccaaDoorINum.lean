/-
  Go's own ParseUint, of base 10 and of base 16, at 16 bits: as the plain numbers say.
-/
import Derived.Test.YtbgfabkneifccaaDoorSNum
import Derived.Test.YtbgfabkneifccaaDoorShelf
import Derived.Lib.Strings
import Derived.Lib.Walk
import Derived.Lib.ConvBytes
import Derived.Lib.Hide
import Derived.Laws.Strings3
import Derived.Laws.Closers25
import Derived.Laws.Closers25b
import Derived.BigCall
import Derived.BigGuard
namespace Go.Proofs.YtbgfabkneifccaaDoor
open Go.RowKit
set_option linter.unusedVariables false
attribute [local go_sem] bs_size bs_get bs_extract bs_append bs_eq bs_toList

theorem fold_ge (f : Int → UInt8 → Int) (ok : UInt8 → Bool) (hf : ∀ n c, ok c = true → 0 ≤ n → n ≤ f n c) : ∀ (l : List UInt8) (x : Int), 0 ≤ x → l.all ok = true → x ≤ l.foldl f x := by
  intro l
  induction l with
  | nil => intro x _ _; exact Int.le_refl _
  | cons c l ih =>
    intro x hx h
    rw [List.all_cons, Bool.and_eq_true] at h
    have h1 := hf x c h.1 hx
    exact Int.le_trans h1 (ih (f x c) (Int.le_trans hx h1) h.2)
theorem fold_cut (f : Int → UInt8 → Int) (l : List UInt8) (k : Nat) : l.foldl f 0 = (l.drop k).foldl f ((l.take k).foldl f 0) := by
  rw [← List.foldl_append, List.take_append_drop]
theorem all_drop {ok : UInt8 → Bool} {l : List UInt8} (h : l.all ok = true) (k : Nat) : (l.drop k).all ok = true :=
  List.all_eq_true.2 fun c hc => List.all_eq_true.1 h c (List.mem_of_mem_drop hc)
/-- a prefix whose number is too great: the whole is, or is none -/
theorem fold_over (f : Int → UInt8 → Int) (ok : UInt8 → Bool) (hf : ∀ n c, ok c = true → 0 ≤ n → n ≤ f n c) (l : List UInt8) (k : Nat) (B : Int) (h0 : 0 ≤ (l.take k).foldl f 0) (h : B < (l.take k).foldl f 0) : (l.all ok && decide (l.foldl f 0 ≤ B)) = false := by
  cases ha : l.all ok
  · rfl
  · have := fold_ge f ok hf (l.drop k) _ h0 (all_drop ha k)
    rw [← fold_cut] at this
    rw [decide_eq_false (by omega)]; rfl
theorem all_bad {ok : UInt8 → Bool} {l : List UInt8} {k : Nat} {b : Bool} (hk : k < l.length) (h : ok (ch l k) = false) : (l.all ok && b) = false := by
  rw [all_no hk h]; rfl
theorem dec_le (n : Int) (c : UInt8) (h : isDig c = true) (h0 : 0 ≤ n) : n ≤ decStep n c := by
  have h' : 48 ≤ (c.toNat : Int) ∧ (c.toNat : Int) ≤ 57 := of_decide_eq_true h
  unfold decStep; omega
theorem hex_le (n : Int) (c : UInt8) (h : (isDig c || isHex c) = true) (h0 : 0 ≤ n) : n ≤ hexStep n c := by
  unfold hexStep
  split
  · rename_i hd
    have h' : 48 ≤ (c.toNat : Int) ∧ (c.toNat : Int) ≤ 57 := of_decide_eq_true hd
    omega
  · rename_i hd
    have hx : isHex c = true := by cases hh : isHex c with | true => rfl | false => rw [hh] at h; simp at h; exact absurd h hd
    have h' : 65 ≤ (c.toNat : Int) ∧ (c.toNat : Int) ≤ 70 := of_decide_eq_true hx
    omega

/-- a number, or an error: which -/
def Parsed (ok : Bool) (v : Int) (e : Ending) : Prop :=
  (ok = true ∧ e = .returned (.tuple #[.int .u64 v, .nilIface])) ∨ (ok = false ∧ ∃ (x t : Int), (t = 1 ∨ t = 2) ∧ e = .returned (.tuple #[.int .u64 x, .iface 94 (.int .i64 t)]))
theorem Parsed.yes {ok : Bool} {v n : Int} (h : ok = true) (hn : n = v) : Parsed ok v (.returned (.tuple #[.int .u64 n, .nilIface])) := .inl ⟨h, by rw [hn]⟩
theorem Parsed.no {ok : Bool} {v x t : Int} (h : ok = false) (ht : t = 1 ∨ t = 2) : Parsed ok v (.returned (.tuple #[.int .u64 x, .iface 94 (.int .i64 t)])) := .inr ⟨h, x, t, ht, rfl⟩
theorem low_hex (n : Int) (h : isHexI n = true) : bits .or .u8 n 32 = n + 32 := by
  have h' : 65 ≤ n ∧ n ≤ 70 := of_decide_eq_true h
  have : n = 65 ∨ n = 66 ∨ n = 67 ∨ n = 68 ∨ n = 69 ∨ n = 70 := by omega
  rcases this with rfl | rfl | rfl | rfl | rfl | rfl <;> rfl
theorem bytes_below (w : World) (e : TypeId) (s : ByteArray) : Below w.heap.size w (Lib.bytesWorld w e s) := by
  refine ⟨?_, ?_, ?_, ?_, fun j hj => Lib.bytesWorld_at_old w e s j hj⟩
  · rfl
  · first | rfl | exact ((Below.refl w.heap.size w).drew).tape
  · rfl
  · rw [Lib.bytesWorld_size]; omega

set_option maxHeartbeats 8000000 in
set_option maxRecDepth 100000 in
theorem parse10 (l : List UInt8) (hl0 : 1 ≤ l.length) (hl : l.length ≤ 1000000) (w : World) :
    Calls Tryd.prog 70 #[.string (bs l), .int .i64 10, .int .i64 16] w fun e w' => Parsed (l.all isDig && decide (decV l ≤ 65535)) (decV l) e ∧ Below w.heap.size w w' := by
  have hemp : (l == []) = false := by cases l with | nil => simp at hl0 | cons _ _ => rfl
  have hcv := Lib.run_convert_string_bytes (P := Tryd.prog) w 9 22 5 (bs l) (u := .string) Tryd.underlying9 Tryd.underlying22 Tryd.underlying5
  have hB : ∀ j, j < l.length → (Lib.bytesWorld w 5 (bs l)).cell? ⟨w.heap.size, j, none⟩ = some (.int .u8 (ch l j).toNat) := fun j hj => Lib.bytesWorld_cell w 5 (bs l) j hj
  have hbel := bytes_below w 5 (bs l)
  obtain ⟨W1, hW1⟩ : ∃ W1, W1 = Lib.bytesWorld w 5 (bs l) := ⟨_, rfl⟩
  rw [← hW1] at hcv hB hbel
  clear hW1
  rw [bs_size] at hcv
  have HBEL : Hid (Below w.heap.size w W1) := hbel
  clear hbel
  have hmv : IntKind.u64.wrap (IntKind.u64.wrap 65536 - 1) = 65535 := by
    rw [IntKind.wrap_u64, IntKind.wrap_u64]
    decide
  go_enter Tryd.func70, Tryd.ntmps70
  go_wp2
  go_loop [12, 13, 101] (fun vu vn vi => ∃ (k : Nat) (n : Int), vu = .bool false ∧ vn = .int .u64 n ∧ vi = .int .i64 k ∧ k ≤ l.length ∧ Hid (n = decV (l.take k)) ∧ 0 ≤ n ∧ n ≤ 65535 ∧ Hid (∀ j, j < k → isDig (ch l j) = true)) (fun _ _ vi => l.length - (intOf vi).toNat)
  case atStart => exact ⟨0, 0, rfl, rfl, rfl, by omega, rfl, by omega, by omega, fun j hj => absurd hj (by omega)⟩
  case round =>
    obtain ⟨k, n, rfl, rfl, rfl, hk, hN, hn0, hn1, hall⟩ := hrel
    by_cases hlt : k < l.length
    · have hc := hB k hlt
      clear hB
      cases hd : isDigI ((ch l k).toNat : Int)
      · have hbad : isDig (ch l k) = false := hd
        have HBAD : Hid (isDig (ch l k) = false) := hbad
        have hd' : ¬ (48 ≤ ((ch l k).toNat : Int) ∧ ((ch l k).toNat : Int) ≤ 57) := of_decide_eq_false hd
        clear hbad hd
        have hc0 := ch_lo l k
        have hc1 := ch_hi l k
        have hv0 := bits_lo_u8 .or ((ch l k).toNat : Int) 32
        have hv1 := bits_hi_u8 .or ((ch l k).toNat : Int) 32
        have hu0 := bits_lo_u8 .or 95 32
        have hu1 := bits_hi_u8 .or 95 32
        go_wp2_with (go_at_call 72; refine (Tryd.internal_strconv_lower _ _).mono ?_; rintro e w' ⟨rfl, rfl⟩)
        all_goals go_ret2
        all_goals exact ⟨Parsed.no (all_bad hlt HBAD.out) (.inr rfl), HBEL.out⟩
      · have hd' : 48 ≤ ((ch l k).toNat : Int) ∧ ((ch l k).toNat : Int) ≤ 57 := of_decide_eq_true hd
        obtain ⟨hd0, hd1⟩ := hd'
        have hst : decV (l.take (k + 1)) = n * 10 + (((ch l k).toNat : Int) - 48) := by
          rw [decV_take l k hlt, ← hN.out]; rfl
        have hok : isDig (ch l k) = true := by exact hd
        have HST : Hid (decV (l.take (k + 1)) = n * 10 + (((ch l k).toNat : Int) - 48)) := hst
        have HOK : Hid (isDig (ch l k) = true) := hok
        clear hst hok hd
        by_cases hov : 65535 < n * 10 + (((ch l k).toNat : Int) - 48)
        · have HOV : Hid (65535 < n * 10 + (((ch l k).toNat : Int) - 48)) := hov
          go_wp2
          go_ret2
          exact ⟨Parsed.no (fold_over decStep isDig dec_le l (k + 1) 65535 (by show 0 ≤ decV (l.take (k + 1)); rw [HST.out]; omega) (by show 65535 < decV (l.take (k + 1)); rw [HST.out]; exact HOV.out)) (.inl rfl), HBEL.out⟩
        · have hov2 : n * 10 + (((ch l k).toNat : Int) - 48) ≤ 65535 := by omega
          clear hov
          go_wp2
          refine ⟨⟨k + 1, n * 10 + (((ch l k).toNat : Int) - 48), rfl, (by first | rfl | (congr 1; omega)), (by first | rfl | (congr 1; omega)), by omega, HST.out.symm, by omega, by omega, fun j hj => by rcases Nat.lt_succ_iff_lt_or_eq.1 hj with h | rfl; exact hall.out j h; exact HOK.out⟩, by simp [intOf]; omega⟩

    · have hke : k = l.length := by omega
      subst hke
      have hfin : (l.all isDig && decide (decV l ≤ 65535)) = true := by
        have h1 : n = decV l := by have h2 := hN.out; rwa [List.take_length] at h2
        have h3 : l.all isDig = true := all_yes hall.out
        rw [h3, decide_eq_true (by omega)]; rfl
      have hnv : n = decV l := by have h2 := hN.out; rwa [List.take_length] at h2
      have HF : Hid ((l.all isDig && decide (decV l ≤ 65535)) = true) := hfin
      have HV : Hid (n = decV l) := hnv
      clear hfin hnv hB
      go_wp2
      go_ret2
      exact ⟨Parsed.yes HF.out HV.out, HBEL.out⟩

set_option maxHeartbeats 8000000 in
set_option maxRecDepth 100000 in
theorem parse16 (l : List UInt8) (hl0 : 1 ≤ l.length) (hl : l.length ≤ 1000000) (hn : l.all isNum = true) (w : World) :
    Calls Tryd.prog 70 #[.string (bs l), .int .i64 16, .int .i64 16] w fun e w' => Parsed (l.all (fun c => isDig c || isHex c) && decide (hexV l ≤ 65535)) (hexV l) e ∧ Below w.heap.size w w' := by
  have hemp : (l == []) = false := by cases l with | nil => simp at hl0 | cons _ _ => rfl
  have hcv := Lib.run_convert_string_bytes (P := Tryd.prog) w 9 22 5 (bs l) (u := .string) Tryd.underlying9 Tryd.underlying22 Tryd.underlying5
  have hB : ∀ j, j < l.length → (Lib.bytesWorld w 5 (bs l)).cell? ⟨w.heap.size, j, none⟩ = some (.int .u8 (ch l j).toNat) := fun j hj => Lib.bytesWorld_cell w 5 (bs l) j hj
  have hbel := bytes_below w 5 (bs l)
  obtain ⟨W1, hW1⟩ : ∃ W1, W1 = Lib.bytesWorld w 5 (bs l) := ⟨_, rfl⟩
  rw [← hW1] at hcv hB hbel
  clear hW1
  rw [bs_size] at hcv
  have HBEL : Hid (Below w.heap.size w W1) := hbel
  clear hbel
  have hmv : IntKind.u64.wrap (IntKind.u64.wrap 65536 - 1) = 65535 := by
    rw [IntKind.wrap_u64, IntKind.wrap_u64]
    decide
  have HNUM : Hid (l.all isNum = true) := hn
  clear hn
  go_enter Tryd.func70, Tryd.ntmps70
  go_wp2
  go_loop [12, 13, 101] (fun vu vn vi => ∃ (k : Nat) (n : Int), vu = .bool false ∧ vn = .int .u64 n ∧ vi = .int .i64 k ∧ k ≤ l.length ∧ Hid (n = hexV (l.take k)) ∧ 0 ≤ n ∧ n ≤ 65535 ∧ Hid (∀ j, j < k → (isDig (ch l j) || isHex (ch l j)) = true)) (fun _ _ vi => l.length - (intOf vi).toNat)
  case atStart => exact ⟨0, 0, rfl, rfl, rfl, by omega, rfl, by omega, by omega, fun j hj => absurd hj (by omega)⟩
  case round =>
    obtain ⟨k, n, rfl, rfl, rfl, hk, hN, hn0, hn1, hall⟩ := hrel
    by_cases hlt : k < l.length
    · have hc := hB k hlt
      clear hB
      cases hd : isDigI ((ch l k).toNat : Int)
      · cases hx : isHexI ((ch l k).toNat : Int)
        · have h35 : ((ch l k).toNat : Int) = 35 := by
            have h := HNUM.out
            have h1 := List.all_eq_true.1 h (ch l k) (by rw [ch_get l k hlt]; exact List.getElem_mem hlt)
            unfold isNum isDig isHex at h1
            rw [hd, hx] at h1
            simpa using h1
          have HBAD : Hid ((isDig (ch l k) || isHex (ch l k)) = false) := by show (isDigI _ || isHexI _) = false; rw [hd, hx]; rfl
          rw [h35] at hc
          clear hd hx h35
          go_wp2_with (go_at_call 72; refine (Tryd.internal_strconv_lower _ _).mono ?_; rintro e w' ⟨rfl, rfl⟩)
          all_goals go_ret2
          all_goals exact ⟨Parsed.no (all_bad hlt HBAD.out) (.inr rfl), HBEL.out⟩
        · have hx' : 65 ≤ ((ch l k).toNat : Int) ∧ ((ch l k).toNat : Int) ≤ 70 := of_decide_eq_true hx
          obtain ⟨hx0, hx1⟩ := hx'
          have hlow := low_hex _ hx
          have hst : hexV (l.take (k + 1)) = n * 16 + (((ch l k).toNat : Int) - 65) + 10 := by
            rw [hexV_take l k hlt, ← hN.out]; unfold hexStep isDig; rw [hd]; rfl
          have hok : (isDig (ch l k) || isHex (ch l k)) = true := by show (isDigI _ || isHexI _) = true; rw [hx]; simp
          have HST : Hid (hexV (l.take (k + 1)) = n * 16 + (((ch l k).toNat : Int) - 65) + 10) := hst
          have HOK : Hid ((isDig (ch l k) || isHex (ch l k)) = true) := hok
          clear hst hok hd hx
          by_cases hov : 65535 < n * 16 + (((ch l k).toNat : Int) - 55)
          · have HOV : Hid (65535 < n * 16 + (((ch l k).toNat : Int) - 55)) := hov
            go_wp2_with (go_at_call 72; refine (Tryd.internal_strconv_lower _ _).mono ?_; rintro e w' ⟨rfl, rfl⟩)
            go_ret2
            exact ⟨Parsed.no (fold_over hexStep (fun c => isDig c || isHex c) hex_le l (k + 1) 65535 (by show 0 ≤ hexV (l.take (k + 1)); rw [HST.out]; omega) (by show 65535 < hexV (l.take (k + 1)); rw [HST.out]; have := HOV.out; omega)) (.inl rfl), HBEL.out⟩
          · have hov2 : n * 16 + (((ch l k).toNat : Int) - 55) ≤ 65535 := by omega
            clear hov
            go_wp2_with (go_at_call 72; refine (Tryd.internal_strconv_lower _ _).mono ?_; rintro e w' ⟨rfl, rfl⟩)
            refine ⟨⟨k + 1, n * 16 + (((ch l k).toNat : Int) - 55), rfl, (by first | rfl | (congr 1; omega)), (by first | rfl | (congr 1; omega)), by omega, (by show _ = _; rw [HST.out]; omega), by omega, by omega, fun j hj => by rcases Nat.lt_succ_iff_lt_or_eq.1 hj with h | rfl; exact hall.out j h; exact HOK.out⟩, by simp [intOf]; omega⟩
      · have hd' : 48 ≤ ((ch l k).toNat : Int) ∧ ((ch l k).toNat : Int) ≤ 57 := of_decide_eq_true hd
        obtain ⟨hd0, hd1⟩ := hd'
        have hst : hexV (l.take (k + 1)) = n * 16 + (((ch l k).toNat : Int) - 48) := by
          rw [hexV_take l k hlt, ← hN.out]; unfold hexStep isDig; rw [hd]; rfl
        have hok : (isDig (ch l k) || isHex (ch l k)) = true := by unfold isDig; rw [hd]; rfl
        have HST : Hid (hexV (l.take (k + 1)) = n * 16 + (((ch l k).toNat : Int) - 48)) := hst
        have HOK : Hid ((isDig (ch l k) || isHex (ch l k)) = true) := hok
        clear hst hok hd
        by_cases hov : 65535 < n * 16 + (((ch l k).toNat : Int) - 48)
        · have HOV : Hid (65535 < n * 16 + (((ch l k).toNat : Int) - 48)) := hov
          go_wp2
          go_ret2
          exact ⟨Parsed.no (fold_over hexStep (fun c => isDig c || isHex c) hex_le l (k + 1) 65535 (by show 0 ≤ hexV (l.take (k + 1)); rw [HST.out]; omega) (by show 65535 < hexV (l.take (k + 1)); rw [HST.out]; exact HOV.out)) (.inl rfl), HBEL.out⟩
        · have hov2 : n * 16 + (((ch l k).toNat : Int) - 48) ≤ 65535 := by omega
          clear hov
          go_wp2
          refine ⟨⟨k + 1, n * 16 + (((ch l k).toNat : Int) - 48), rfl, (by first | rfl | (congr 1; omega)), (by first | rfl | (congr 1; omega)), by omega, HST.out.symm, by omega, by omega, fun j hj => by rcases Nat.lt_succ_iff_lt_or_eq.1 hj with h | rfl; exact hall.out j h; exact HOK.out⟩, by simp [intOf]; omega⟩

    · have hke : k = l.length := by omega
      subst hke
      have hfin : (l.all (fun c => isDig c || isHex c) && decide (hexV l ≤ 65535)) = true := by
        have h1 : n = hexV l := by have h2 := hN.out; rwa [List.take_length] at h2
        have h3 : l.all (fun c => isDig c || isHex c) = true := all_yes hall.out
        rw [h3, decide_eq_true (by omega)]; rfl
      have hnv : n = hexV l := by have h2 := hN.out; rwa [List.take_length] at h2
      have HF : Hid ((l.all (fun c => isDig c || isHex c) && decide (hexV l ≤ 65535)) = true) := hfin
      have HV : Hid (n = hexV l) := hnv
      clear hfin hnv hB
      go_wp2
      go_ret2
      exact ⟨Parsed.yes HF.out HV.out, HBEL.out⟩
end Go.Proofs.YtbgfabkneifccaaDoor
