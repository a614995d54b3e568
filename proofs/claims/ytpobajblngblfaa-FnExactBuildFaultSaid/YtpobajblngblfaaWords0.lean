/-
  impl.WordsFault answers its plain fault at every list of numbers that lies in memory; the small tests (fitsWord, l1In, l1Word) answer as they should.
-/
import Derived.Test.YtpobajblngblfaaWdB
namespace Go.Proofs.Ytpobajblngblfaa
open Go.RowKit

/-- the numbers that are words -/
def isWord (z : Int) : Prop := 0 ≤ z ∧ z ≤ 65535

theorem fitsWord_yes (z : Int) (w : World) (h1 : 0 ≤ z) (h2 : z ≤ 65535) :
    Calls Try.prog 68 #[.int .i64 z] w fun e w' => e = .returned (.bool true) ∧ w' = w := by
  go_enter Try.func68, Try.ntmps68
  go_wp2
  go_ret
  exact ⟨rfl, rfl⟩

theorem fitsWord_no (z : Int) (w : World) (h : z < 0 ∨ 65535 < z) :
    Calls Try.prog 68 #[.int .i64 z] w fun e w' => e = .returned (.bool false) ∧ w' = w := by
  rcases h with h | h
  · have hd : decide (0 ≤ z) = false := decide_eq_false (by omega)
    go_enter Try.func68, Try.ntmps68
    go_wp2
    go_ret
    exact ⟨rfl, rfl⟩
  · have h0 : 0 ≤ z := by omega
    have hd : decide (z ≤ 65535) = false := decide_eq_false (by omega)
    go_enter Try.func68, Try.ntmps68
    go_wp2
    go_ret
    exact ⟨rfl, rfl⟩

theorem l1In_yes (z a b : Int) (w : World) (h1 : a ≤ z) (h2 : z ≤ b) :
    Calls Try.prog 49 #[.int .i64 z, .int .i64 a, .int .i64 b] w fun e w' => e = .returned (.bool true) ∧ w' = w := by
  go_enter Try.func49, Try.ntmps49
  go_wp2
  go_ret
  exact ⟨rfl, rfl⟩

theorem l1In_no (z a b : Int) (w : World) (h : z < a ∨ b < z) :
    Calls Try.prog 49 #[.int .i64 z, .int .i64 a, .int .i64 b] w fun e w' => e = .returned (.bool false) ∧ w' = w := by
  by_cases h1 : a ≤ z
  · have hd : decide (z ≤ b) = false := decide_eq_false (by omega)
    clear h
    go_enter Try.func49, Try.ntmps49
    go_wp2
    go_ret
    exact ⟨rfl, rfl⟩
  · have hd : decide (a ≤ z) = false := decide_eq_false (by omega)
    clear h
    go_enter Try.func49, Try.ntmps49
    go_wp2
    go_ret
    exact ⟨rfl, rfl⟩

theorem l1Word_yes (z : Int) (w : World) (h1 : 0 ≤ z) (h2 : z ≤ 65535) :
    Calls Try.prog 61 #[.int .i64 z] w fun e w' => e = .returned (.bool true) ∧ w' = w := by
  go_enter Try.func61, Try.ntmps61
  go_wp2_with (go_at_call 49; refine (l1In_yes _ _ _ _ h1 h2).mono ?_; rintro e w' ⟨rfl, rfl⟩)
  go_ret
  exact ⟨rfl, rfl⟩

theorem l1Word_no (z : Int) (w : World) (h : z < 0 ∨ 65535 < z) :
    Calls Try.prog 61 #[.int .i64 z] w fun e w' => e = .returned (.bool false) ∧ w' = w := by
  go_enter Try.func61, Try.ntmps61
  go_wp2_with (go_at_call 49; refine (l1In_no _ _ _ _ h).mono ?_; rintro e w' ⟨rfl, rfl⟩)
  go_ret
  exact ⟨rfl, rfl⟩

/-- what WordsFault answers -/
def fault (zs : List Int) : Int := if 400 < zs.length then 2 else if ∀ z ∈ zs, 0 ≤ z ∧ z ≤ 65535 then 0 else 3

theorem fault_many {zs : List Int} (h : 400 < zs.length) : fault zs = 2 := by rw [fault, if_pos h]
theorem fault_ok {zs : List Int} (h : zs.length ≤ 400) (hz : ∀ i, i < zs.length → 0 ≤ zs.getD i 0 ∧ zs.getD i 0 ≤ 65535) : fault zs = 0 := by
  rw [fault, if_neg (by omega), if_pos]
  intro z hm
  obtain ⟨i, hi, rfl⟩ := List.getElem_of_mem hm
  have := hz i hi
  rw [List.getD_eq_getElem?_getD, List.getElem?_eq_getElem hi] at this
  simpa using this
theorem fault_bad {zs : List Int} (h : zs.length ≤ 400) (i : Nat) (hi : i < zs.length) (hz : zs.getD i 0 < 0 ∨ 65535 < zs.getD i 0) : fault zs = 3 := by
  rw [fault, if_neg (by omega), if_neg]
  intro ha
  have hm : zs.getD i 0 ∈ zs := by
    rw [List.getD_eq_getElem?_getD, List.getElem?_eq_getElem hi]; simp
  have := ha _ hm
  omega

theorem fault_all {zs : List Int} (h : zs.length ≤ 400) : fault zs = if wordsB zs then 0 else 3 := by
  rw [fault, if_neg (by omega)]
  by_cases hw : wordsB zs = true
  · rw [if_pos (fun z hz => wordsB_mem hw hz), if_pos hw]
  · rw [if_neg (fun h => hw (by unfold wordsB; rw [List.all_eq_true]; exact fun z hz => inB_iff.2 (h z hz))), if_neg hw]

set_option maxHeartbeats 800000 in
theorem allWords_any (g cap n : Nat) (A : Nat → Option Addr) (Z : Nat → List Int) (C : Nat → Nat) (w : World) (hn8 : n ≤ 8)
    (hg : ∀ i, i < n → w.cell? ⟨g, i, none⟩ = some (.slice (A i) (Z i).length (C i)))
    (hlen : ∀ i, i < n → (Z i).length ≤ 9223372036854775807) (hn : ∀ i, i < n → Nums w (A i) (Z i)) :
    Calls Try.prog 54 #[.slice (some ⟨g, 0, none⟩) n cap] w fun e w' => e = .returned (.bool (allB Z n)) ∧ w' = w := by
  go_enter Try.func54, Try.ntmps54
  go_wp2
  go_loop [4, 9] (fun _ i => ∃ k : Nat, k ≤ n ∧ i = .int .i64 k ∧ ∀ j, j < k → wordsB (Z j) = true) (fun _ i => n - (intOf i).toNat)
  case atStart => exact ⟨0, Nat.zero_le _, rfl, fun j hj => by omega⟩
  case round =>
    obtain ⟨k, hk, rfl, ho⟩ := hrel
    have HO : Hid _ := ho
    clear ho
    by_cases hlt : k < n
    · have hcell := hg k hlt
      have hl := hlen k hlt
      have hnn := hn k hlt
      have HB : Hid (∀ m, m < (Z k).length → ((Z k).getD m 0 < 0 ∨ 65535 < (Z k).getD m 0) → allB Z n = false) := fun m hm hz => allB_bad k hlt (wordsB_bad m hm hz)
      have HG : Hid (wordsB (Z k) = true → ∀ j, j < k + 1 → wordsB (Z j) = true) := fun hw j hj => by
        by_cases e : j = k
        · subst e; exact hw
        · exact HO.out j (by omega)
      generalize hzs : Z k = zs at *
      generalize A k = a at *
      generalize C k = c at *
      clear hg hlen hn hzs HO
      go_wp2
      go_loop [6, 15] (fun _ i => ∃ m : Nat, m ≤ zs.length ∧ i = .int .i64 m ∧ ∀ j, j < m → 0 ≤ zs.getD j 0 ∧ zs.getD j 0 ≤ 65535) (fun _ i => zs.length - (intOf i).toNat)
      case atStart => exact ⟨0, Nat.zero_le _, rfl, fun j hj => by omega⟩
      case round =>
        obtain ⟨m, hm, rfl, ho⟩ := hrel
        have HO : Hid _ := ho
        clear ho
        by_cases hlm : m < zs.length
        · rcases hnn with hnn | ⟨b, off, rfl, hc⟩
          · subst hnn; simp at hlm
          have hcell2 := hc m hlm
          clear hc
          obtain ⟨z, hz⟩ : ∃ z, z = zs.getD m 0 := ⟨_, rfl⟩
          rw [← hz] at hcell2
          have HZ : Hid _ := hz
          clear hz
          by_cases h5 : 0 ≤ z ∧ z ≤ 65535
          · obtain ⟨h5, h6⟩ := h5
            go_wp2_with (go_at_call 68; refine (fitsWord_yes _ _ h5 h6).mono ?_; rintro e w' ⟨rfl, rfl⟩)
            go_round
            case rel =>
              refine ⟨m + 1, by omega, by go_num, fun j hj => ?_⟩
              by_cases hjk : j = m
              · subst hjk; rw [← HZ.out]; exact ⟨h5, h6⟩
              · exact HO.out j (by omega)
            case measure => simp [intOf]; omega
          · have h6 : z < 0 ∨ 65535 < z := by omega
            have H6 : Hid _ := h6
            clear h6 h5
            go_wp2_with (go_at_call 68; refine (fitsWord_no _ _ H6.out).mono ?_; rintro e w' ⟨rfl, rfl⟩)
            go_ret
            exact ⟨by rw [HB.out m hlm (by rw [← HZ.out]; exact H6.out)]; rfl, rfl⟩
        · have hk2 : m = zs.length := by omega
          subst hk2
          go_wp2
          go_round
          case rel => exact ⟨k + 1, by omega, by go_num, HG.out (wordsB_ok HO.out)⟩
          case measure => simp [intOf]; omega
    · have hk2 : k = n := by omega
      subst hk2
      go_wp2
      go_ret
      exact ⟨by rw [allB_ok HO.out]; rfl, rfl⟩

set_option maxHeartbeats 400000 in
theorem implFault_any (a : Option Addr) (zs : List Int) (cap : Nat) (w : World) (hlen : zs.length ≤ 9223372036854775807) (hn : Nums w a zs) :
    Calls Try.prog 33 #[.slice a zs.length cap] w fun e w' => e = .returned (.int .i64 (fault zs)) ∧ Below w.heap.size w w' := by
  by_cases h4 : 400 < zs.length
  · rw [fault_many h4]
    go_enter Try.func33, Try.ntmps33
    go_wp2
    go_ret
    exact ⟨rfl, Below.refl _ _⟩
  · have HA : Hid (∀ W, Below w.heap.size w W → W.cell? ⟨w.heap.size, 0, none⟩ = some (.slice a zs.length cap) → Calls Try.prog 54 #[.slice (some ⟨w.heap.size, 0, none⟩) 1 1] W fun e w' => e = .returned (.bool (wordsB zs)) ∧ w' = W) := fun W hb hc => by
      have := allWords_any w.heap.size 1 1 (fun _ => a) (fun _ => zs) (fun _ => cap) W (by omega) (fun i hi => by rw [show i = 0 from by omega]; exact hc) (fun i hi => hlen) (fun i hi => hn.below hb)
      rw [allB_one] at this
      exact this
    have HF : Hid (fault zs = if wordsB zs then 0 else 3) := fault_all (by omega)
    have hB : Below w.heap.size w (w.alloc (.cells #[.slice a zs.length cap] 23 (0, 0))) := (Below.refl _ _).alloc (Nat.le_refl _) _
    have hC : (w.alloc (.cells #[.slice a zs.length cap] 23 (0, 0))).cell? ⟨w.heap.size, 0, none⟩ = some (.slice a zs.length cap) := by simp [go_sem]
    have HX : Hid (Calls Try.prog 54 #[.slice (some ⟨w.heap.size, 0, none⟩) 1 1] (w.alloc (.cells #[.slice a zs.length cap] 23 (0, 0))) fun e w' => e = .returned (.bool (wordsB zs)) ∧ w' = (w.alloc (.cells #[.slice a zs.length cap] 23 (0, 0)))) := HA.out _ hB hC
    have HB : Hid _ := hB
    clear HA hB hC hn
    obtain ⟨q, hq⟩ : ∃ q, q = wordsB zs := ⟨_, rfl⟩
    rw [← hq] at HX HF
    clear hq
    go_enter Try.func33, Try.ntmps33
    go_wp2_with fail
    refine HX.out.mono ?_
    rintro e w' ⟨rfl, rfl⟩
    clear HX
    cases q
    · go_wp2_with fail
      go_ret
      exact ⟨by rw [HF.out]; rfl, HB.out⟩
    · go_wp2_with fail
      go_ret
      exact ⟨by rw [HF.out]; rfl, HB.out⟩
end Go.Proofs.Ytpobajblngblfaa
