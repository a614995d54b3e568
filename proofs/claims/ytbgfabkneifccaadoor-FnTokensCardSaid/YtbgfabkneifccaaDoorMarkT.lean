/-
  laws.markText: a number's text.
-/
import Derived.Test.YtbgfabkneifccaaDoorEqTok
import Derived.Laws.IdiomStrings
namespace Go.Proofs.YtbgfabkneifccaaDoor
open Go.RowKit
set_option linter.unusedVariables false
attribute [local go_sem] bs_size bs_get bs_extract bs_append bs_eq bs_toList

/-- a digit's byte -/
def dg (m : Nat) : UInt8 := UInt8.ofNat (48 + m % 10)
theorem dg_val (m : Nat) : (dg m).toNat = 48 + m % 10 := by unfold dg; simp; omega
def mtF : Nat → Nat → List UInt8 → List UInt8
  | 0, _, out => out
  | f + 1, k, out => if k = 0 then out else mtF f (k / 10) (dg k :: out)
theorem mtF_fuel : ∀ (f f' k : Nat) (out : List UInt8), k ≤ f → k ≤ f' → mtF f k out = mtF f' k out := by
  intro f
  induction f with
  | zero => intro f' k out h h'; have : k = 0 := by omega
            subst this; cases f' <;> simp [mtF]
  | succ f ih =>
    intro f' k out h h'
    by_cases hk : k = 0
    · subst hk; cases f' <;> simp [mtF]
    · cases f' with
      | zero => omega
      | succ f' =>
        simp only [mtF, if_neg hk]
        exact ih f' _ _ (by omega) (by omega)
def mt (k : Nat) : List UInt8 := if k = 0 then [109, 48] else 109 :: mtF k k []
theorem mtF_step (k : Nat) (out : List UInt8) (h : k ≠ 0) : mtF k k out = mtF (k / 10) (k / 10) (dg k :: out) := by
  cases k with
  | zero => exact absurd rfl h
  | succ k =>
    have e : mtF (k + 1) (k + 1) out = mtF k ((k + 1) / 10) (dg (k + 1) :: out) := by simp [mtF]
    rw [e]
    exact mtF_fuel _ _ _ _ (by omega) (Nat.le_refl _)

theorem conv1 (w : World) (m g : Nat) (hc : w.cell? ⟨g, 0, none⟩ = some (.int .u8 (48 + (m : Int) % 10))) :
    (convert 22 9 (.slice (some ⟨g, 0, none⟩) 1 1)).run Tryd.prog w = .ok (.string (bs [dg m])) w := by
  have h := run_convert_bytes_back (P := Tryd.prog) w 22 9 5 ⟨g, 0, none⟩ 1 [dg m] Tryd.underlying22 Tryd.underlying5 Tryd.underlying9 (by
    intro j hj
    match j, hj with
    | 0, _ =>
      show w.cell? (Addr.add ⟨g, 0, none⟩ 0) = some (.int .u8 (((dg m).toNat : Nat) : Int))
      rw [dg_val]
      simp [Addr.add, hc])
  exact h

theorem retSB {a b : ByteArray} (h : a = b) : Ending.returned (.string a) = Ending.returned (.string b) := by rw [h]
set_option maxHeartbeats 1600000 in
set_option maxRecDepth 20000 in
theorem markText_any (k : Nat) (w : World) (hk : k ≤ 100000000) : Calls Tryd.prog 57 #[.int .i64 k] w fun e w' => e = .returned (.string (bs (mt k))) ∧ Below w.heap.size w w' := by
  by_cases h0 : k = 0
  · subst h0
    go_enter Tryd.func57, Tryd.ntmps57
    go_wp2
    go_ret
    exact ⟨rfl, Below.refl _ _⟩
  · have hm : mt k = 109 :: mtF k k [] := if_neg h0
    rw [hm]
    have hk0 : (0 : Int) < (k : Int) := by omega
    clear hm h0
    go_enter Tryd.func57, Tryd.ntmps57
    go_wp2
    go_loopw [0, 3] (fun v o wr => ∃ (m : Nat) (out : List UInt8), v = .int .i64 m ∧ o = .string (bs out) ∧ out.length + m ≤ k ∧ mtF m m out = mtF k k [] ∧ Below w.heap.size w wr) (fun v _ _ => (intOf v).toNat)
    case atStart => exact ⟨k, [], rfl, rfl, by simp, rfl, Below.refl _ _⟩
    case round =>
      obtain ⟨m, out, rfl, rfl, hmo, hmt, hB⟩ := hrel
      have HMT : Hid (mtF m m out = mtF k k []) := hmt
      have hB' := hB.alloc hB.size (.cells #[.int .u8 (48 + (m : Int) % 10)] 5)
      clear hmt
      by_cases hm : m = 0
      · subst hm
        clear hB'
        go_wp2
        go_ret
        refine ⟨?_, hB⟩
        rw [← HMT.out]
        refine retSB ?_
        rw [show (ByteArray.mk #[109]) = bs [109] from rfl, bs_append]
        rfl
      · have hm0 : (0 : Int) < (m : Int) := by omega
        have HNE : Hid (m ≠ 0) := hm
        clear hm
        have hcv := conv1 (wr.alloc (.cells #[.int .u8 (48 + (m : Int) % 10)] 5)) m wr.heap.size (by simp)
        go_wp2
        go_roundw
        case rel => exact ⟨m / 10, dg m :: out, by go_num, by first | rfl | (rw [bs_append]; rfl), by simp; omega, by rw [← HMT.out, mtF_step m out HNE.out], hB'⟩
        case measure => simp [intOf]; omega
end Go.Proofs.YtbgfabkneifccaaDoor
