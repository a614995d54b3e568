/-
  impl.areStatements, hasParts.
-/
import Derived.Test.YtbgnmocbpigpmaaTreeMath
import Derived.Test.YtbgnmocbpigpmaaIOnce
namespace Go.Proofs.Ytbgnmocbpigpmaa
open Go.RowKit
set_option linter.unusedVariables false

set_option maxHeartbeats 800000 in
theorem within_any (z a b : Int) (w : World) :
    Calls Try.prog 62 #[.int .i64 z, .int .i64 a, .int .i64 b] w fun e w' => e = .returned (.bool (inB z a b)) ∧ w' = w := by
  by_cases h1 : a ≤ z
  · by_cases h2 : z ≤ b
    · have e : inB z a b = true := inB_iff.2 ⟨h1, h2⟩
      rw [e]
      go_enter Try.func62, Try.ntmps62
      go_wp2
      go_ret
      exact ⟨rfl, rfl⟩
    · have e : inB z a b = false := inB_no.2 (fun h => h2 h.2)
      rw [e]
      go_enter Try.func62, Try.ntmps62
      go_wp2
      go_ret
      exact ⟨rfl, rfl⟩
  · have e : inB z a b = false := inB_no.2 (fun h => h1 h.1)
    rw [e]
    go_enter Try.func62, Try.ntmps62
    go_wp2
    go_ret
    exact ⟨rfl, rfl⟩

theorem within_as (z a b b' : Int) (h : b' = b) (w : World) :
    Calls Try.prog 62 #[.int .i64 z, .int .i64 a, .int .i64 b'] w fun e w' => e = .returned (.bool (inB z a b)) ∧ w' = w := by
  subst h; exact within_any z a b' w

set_option maxHeartbeats 800000 in
theorem isExpression_any (z : Int) (w : World) : Calls Try.prog 149 #[.int .i64 z] w fun e w' => e = .returned (.bool (inB z 1 6)) ∧ w' = w := by
  have H : Hid (∀ w, Calls Try.prog 62 #[.int .i64 z, .int .i64 1, .int .i64 6] w fun e w' => e = .returned (.bool (inB z 1 6)) ∧ w' = w) := fun w => within_any z 1 6 w
  go_enter Try.func149, Try.ntmps149
  go_wp2_with fail
  refine (H.out _).mono ?_
  rintro e w' ⟨rfl, rfl⟩
  go_wp2_with fail
  go_ret
  exact ⟨rfl, rfl⟩
set_option maxHeartbeats 800000 in
theorem isStatement_any (z : Int) (w : World) : Calls Try.prog 125 #[.int .i64 z] w fun e w' => e = .returned (.bool (inB z 7 11)) ∧ w' = w := by
  have H : Hid (∀ w, Calls Try.prog 62 #[.int .i64 z, .int .i64 7, .int .i64 11] w fun e w' => e = .returned (.bool (inB z 7 11)) ∧ w' = w) := fun w => within_any z 7 11 w
  go_enter Try.func125, Try.ntmps125
  go_wp2_with fail
  refine (H.out _).mono ?_
  rintro e w' ⟨rfl, rfl⟩
  go_wp2_with fail
  go_ret
  exact ⟨rfl, rfl⟩
set_option maxHeartbeats 800000 in
theorem isPlace_any (a : Option Addr) (n c : Nat) (z : Int) (w : World) (hn : n ≤ 1048577) : Calls Try.prog 51 #[.slice a n c, .int .i64 z] w fun e w' => e = .returned (.bool (inB z 0 ((n : Int) - 1))) ∧ w' = w := by
  have H2 : Hid (∀ w, Calls Try.prog 62 #[.int .i64 z, .int .i64 0, .int .i64 ((n : Int) - 1)] w fun e w' => e = .returned (.bool (inB z 0 ((n : Int) - 1))) ∧ w' = w) := fun w => within_any z 0 ((n : Int) - 1) w
  go_enter Try.func51, Try.ntmps51
  go_wp2_with fail
  refine (H2.out _).mono ?_
  rintro e w' ⟨rfl, rfl⟩
  go_wp2_with fail
  go_ret
  exact ⟨rfl, rfl⟩
set_option maxHeartbeats 800000 in
theorem fitsWord_any (z : Int) (w : World) :
    Calls Try.prog 123 #[.int .i64 z] w fun e w' => e = .returned (.bool (inB z 0 65535)) ∧ w' = w := by
  by_cases h1 : 0 ≤ z
  · by_cases h2 : z ≤ 65535
    · have e : inB z 0 65535 = true := inB_iff.2 ⟨h1, h2⟩
      rw [e]
      go_enter Try.func123, Try.ntmps123
      go_wp2
      go_ret
      exact ⟨rfl, rfl⟩
    · have e : inB z 0 65535 = false := inB_no.2 (fun h => h2 h.2)
      rw [e]
      go_enter Try.func123, Try.ntmps123
      go_wp2
      go_ret
      exact ⟨rfl, rfl⟩
  · have e : inB z 0 65535 = false := inB_no.2 (fun h => h1 h.1)
    rw [e]
    go_enter Try.func123, Try.ntmps123
    go_wp2
    go_ret
    exact ⟨rfl, rfl⟩

end Go.Proofs.Ytbgnmocbpigpmaa
namespace Go.Proofs.Ytbgnmocbpigpmaa
open Go.RowKit
set_option linter.unusedVariables false
attribute [local go_sem] bs_size bs_get bs_extract bs_append bs_eq bs_toList

def kindAt (N : List LNode) (x : Int) : Int := (N.getD x.toNat default).kind
def statB (N : List LNode) (m : Nat) (l : List Int) : Bool := l.all (fun x => inB x 0 ((m : Int) - 1) && inB (kindAt N x) 7 11)
def kidsB (N : List LNode) (m : Nat) (l : List Int) : Bool := l.all (fun x => inB x 0 ((m : Int) - 1) && inB (kindAt N x) 1 6)
/-- the kinds of nodes at b, o -/
def Kinds (w : World) (a : Option Addr) (N : List LNode) (m : Nat) : Prop := 0 < m → ∃ b o, a = some ⟨b, o, none⟩ ∧ ∀ (i : Nat) (x : LNode), i < m → N[i]? = some x → w.cell? ⟨b, o + i * 8, none⟩ = some (.int .i64 x.kind)

set_option maxHeartbeats 3200000 in
set_option maxRecDepth 100000 in
theorem areStatements_any (N : List LNode) (m : Nat) (a2 : Option Addr) (c2 : Nat) (v : Value) (l : List Int) (hi : Nat) (w : World) (hm : m ≤ N.length) (hm1 : m ≤ 1048576) (hK : Kinds w a2 N m) (hv : IntsB hi w v l) (hl : l.length ≤ 1048576) :
    Calls Try.prog 73 #[.slice a2 m c2, v] w fun e w' => e = .returned (.bool (statB N m l)) ∧ w' = w := by
  obtain ⟨a, cp, rfl, hh⟩ := hv
  have HH := hid hh
  have HK := hid hK
  have HP : Hid (∀ (z : Int) (w : World), Calls Try.prog 51 #[.slice a2 m c2, .int .i64 z] w fun e w' => e = .returned (.bool (inB z 0 ((m : Int) - 1))) ∧ w' = w) := fun z w => isPlace_any a2 m c2 z w (by omega)
  have HX : Hid (∀ (z : Int) (w : World), Calls Try.prog 125 #[.int .i64 z] w fun e w' => e = .returned (.bool (inB z 7 11)) ∧ w' = w) := isStatement_any
  have HM : Hid (m ≤ N.length) := hm
  clear hh hK hm
  go_enter Try.func73, Try.ntmps73
  go_wp2
  go_loopw [9] (fun i wr => ∃ k : Nat, k ≤ l.length ∧ i = .int .i64 k ∧ (∀ j x, j < k → l[j]? = some x → (inB x 0 ((m : Int) - 1) && inB (kindAt N x) 7 11) = true) ∧ SameW wr w) (fun i _ => l.length - (intOf i).toNat)
  case atStart => exact ⟨0, by omega, rfl, by omega, rfl⟩
  case round =>
    obtain ⟨k, hk, rfl, hall, hw⟩ := hrel
    have HALL := hid hall
    have HW : Hid (SameW wr w) := hw
    clear hall
    by_cases hlt : k < l.length
    · obtain ⟨x, hx⟩ : ∃ x, l[k]? = some x := ⟨l[k], List.getElem?_eq_getElem hlt⟩
      obtain ⟨b, o, rfl, _, hc1⟩ := HH.out (by intro e; rw [e] at hlt; simp at hlt)
      have c0 : wr.cell? ⟨b, o + k, none⟩ = _ := (congrArg (fun W => World.cell? W ⟨b, o + k, none⟩) hw).trans (hc1 k x hx)
      have hk0 : (0 : Int) ≤ (k : Int) := by omega
      have hk1 : (k : Int) < (l.length : Int) := by omega
      have HL : Hid (l[k]? = some x) := hx
      clear hx hc1
      obtain ⟨q, hq⟩ : ∃ q, inB x 0 ((m : Int) - 1) = q := ⟨_, rfl⟩
      cases q with
      | false =>
        have hI : Hid (∀ w, Calls Try.prog 51 #[.slice a2 m c2, .int .i64 x] w fun e w' => e = .returned (.bool false) ∧ w' = w) := fun w => by have h := HP.out x w; rwa [hq] at h
        have e : statB N m l = false := List.all_eq_false.2 ⟨x, List.mem_of_getElem? HL.out, by simp [hq]⟩
        have He : Hid _ := e
        clear e hq hw
        go_wp2_with fail
        refine (hI.out _).mono ?_
        rintro e w1 ⟨rfl, rfl⟩
        go_wp2_with fail
        go_ret
        exact ⟨by rw [He.out]; rfl, HW.out⟩
      | true =>
        have hq2 := inB_iff.1 hq
        obtain ⟨j, rfl⟩ : ∃ j : Nat, x = j := ⟨x.toNat, by omega⟩
        have hjm : j < m := by omega
        obtain ⟨y, hy⟩ : ∃ y, N[j]? = some y := ⟨N[j]'(by have := HM.out; omega), List.getElem?_eq_getElem _⟩
        obtain ⟨g2, o2, rfl, hc2⟩ := HK.out (by omega)
        have d0 : wr.cell? ⟨g2, o2 + j * 8, none⟩ = _ := (congrArg (fun W => World.cell? W ⟨g2, o2 + j * 8, none⟩) hw).trans (hc2 j y hjm hy)
        have hkd : kindAt N (j : Int) = y.kind := by
          have : N.getD ((j : Int)).toNat default = y := by simp [hy]
          unfold kindAt; rw [this]
        have HR : Hid ((inB (j : Int) 0 ((m : Int) - 1) && inB (kindAt N (j : Int)) 7 11) = inB y.kind 7 11) := by unfold Hid; rw [hq, hkd]; rfl
        have hj0 : (0 : Int) ≤ (j : Int) := by omega
        have hj1 : (j : Int) < (m : Int) := by omega
        have hI : Hid (∀ w, Calls Try.prog 51 #[.slice (some ⟨g2, o2, none⟩) m c2, .int .i64 (j : Int)] w fun e w' => e = .returned (.bool true) ∧ w' = w) := fun w => by have h := HP.out (j : Int) w; rwa [hq] at h
        clear hq hq2 hy hc2 hkd hw
        obtain ⟨qe, hqe⟩ : ∃ q, inB y.kind 7 11 = q := ⟨_, rfl⟩
        have hE : Hid (∀ w, Calls Try.prog 125 #[.int .i64 y.kind] w fun e w' => e = .returned (.bool qe) ∧ w' = w) := fun w => by have h := HX.out y.kind w; rwa [hqe] at h
        cases qe
        · have e : statB N m l = false := List.all_eq_false.2 ⟨(j : Int), List.mem_of_getElem? HL.out, by rw [HR.out, hqe]; decide⟩
          have He : Hid _ := e
          clear e
          go_wp2_with fail
          refine (hI.out _).mono ?_
          rintro e w1 ⟨rfl, rfl⟩
          go_wp2_with fail
          refine (hE.out _).mono ?_
          rintro e w1 ⟨rfl, rfl⟩
          go_wp2_with fail
          go_ret
          exact ⟨by rw [He.out]; rfl, HW.out⟩
        · go_wp2_with fail
          refine (hI.out _).mono ?_
          rintro e w1 ⟨rfl, rfl⟩
          go_wp2_with fail
          refine (hE.out _).mono ?_
          rintro e w1 ⟨rfl, rfl⟩
          go_wp2_with fail
          go_roundw
          case rel => exact ⟨k + 1, by omega, by go_num, fun i x hi hx => by
              rcases Nat.lt_succ_iff_lt_or_eq.1 hi with h | rfl
              · exact HALL.out i x h hx
              · have := hx.symm.trans HL.out
                cases this
                rw [HR.out, hqe], HW.out⟩
          case measure => simp [intOf]; omega
    · have hke : k = l.length := by omega
      have e : statB N m l = true := List.all_eq_true.2 (fun x hx => by
        obtain ⟨j, hj, rfl⟩ := List.getElem_of_mem hx
        exact HALL.out j _ (by omega) (List.getElem?_eq_getElem hj))
      have He : Hid _ := e
      clear e hke hw
      go_wp2
      go_ret
      exact ⟨by rw [He.out]; rfl, HW.out⟩
end Go.Proofs.Ytbgnmocbpigpmaa
