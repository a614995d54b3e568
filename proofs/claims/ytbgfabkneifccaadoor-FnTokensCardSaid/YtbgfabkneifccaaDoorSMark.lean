/-
  spec.l3Mark: the mark at a place.
-/
import Derived.Test.YtbgfabkneifccaaDoorSLex
import Derived.RegionTactic
import Derived.Deep.RegionHeld3
import Derived.Deep.QuietTactic
import Derived.BigQuiet
namespace Go.Proofs.YtbgfabkneifccaaDoor
open Go.RowKit
set_option linter.unusedVariables false
attribute [local go_sem] bs_size bs_get bs_extract bs_append bs_eq bs_toList

theorem pre_yes {m l : List UInt8} (h : m.isPrefixOf l = true) : m.length ≤ l.length ∧ l.take m.length = m := by
  obtain ⟨r, rfl⟩ := List.isPrefixOf_iff_prefix.1 h
  exact ⟨by simp, by simp⟩
theorem pre_no {m l : List UInt8} (h : m.isPrefixOf l = false) : ¬ (l.take m.length = m) := by
  intro e
  have : m.isPrefixOf l = true := List.isPrefixOf_iff_prefix.2 ⟨l.drop m.length, by have h2 := List.take_append_drop m.length l; rw [e] at h2; exact h2⟩
  rw [h] at this; exact absurd this (by simp)
theorem find_at : ∀ (L : List (List UInt8)) (p : List UInt8 → Bool) (k : Nat), k < L.length → (∀ j, j < k → p (L.getD j []) = false) → p (L.getD k []) = true → L.find? p = some (L.getD k [])
  | [], _, _, h, _, _ => absurd h (by simp)
  | x :: L, p, 0, _, _, h => by rw [List.find?_cons]; have h' : p x = true := h; rw [h']; rfl
  | x :: L, p, k + 1, hk, hn, h => by
    have h0 : p x = false := hn 0 (by omega)
    rw [List.find?_cons, h0]
    exact find_at L p k (by simpa using hk) (fun j hj => hn (j + 1) (by omega)) h
theorem find_none (L : List (List UInt8)) (p : List UInt8 → Bool) (h : ∀ j, j < L.length → p (L.getD j []) = false) : L.find? p = none := by
  refine List.find?_eq_none.2 fun x hx he => ?_
  obtain ⟨j, hj, hx⟩ := List.getElem_of_mem hx
  have := h j hj
  rw [List.getD_eq_getElem?_getD, List.getElem?_eq_getElem hj] at this
  simp only [Option.getD_some, hx, he] at this
  cases this
theorem marks_len' : ∀ m ∈ marksL, m.length ≤ 2 := by decide +kernel
theorem retS {a b : List UInt8} (h : a = b) : Ending.returned (.string (bs a)) = Ending.returned (.string (bs b)) := by rw [h]

theorem slice_at (l : List UInt8) (p n : Nat) (h : p + n ≤ l.length) (W : World) : (Instr.slice 9 (.string (bs l)) (some (.int .i64 (p : Int))) (some (.int .i64 ((p : Int) + (n : Int)))) none).run Tryd.prog W = .ok (.string (bs ((l.drop p).take n))) W := by
  rw [run_slice_string W _ _ _ _ _ _ Tryd.underlying9 (by omega) (by omega) (by rw [bs_size]; omega), bs_extract]
  have e : ((p : Int) + (n : Int)).toNat - (p : Int).toNat = n := by omega
  rw [e]; simp
set_option maxHeartbeats 1600000 in
theorem mark_any (l : List UInt8) (p : Nat) (hp : p < l.length) (w : World) (hl : l.length ≤ 2000000) : Calls Tryd.prog 53 #[.string (bs l), .int .i64 p] w fun e w' => e = .returned (.string (bs (markL (l.drop p)))) ∧ Below w.heap.size w w' := by
  have hB : Below w.heap.size w (w.alloc (.cells (marksL.map (fun l => Value.string (bs l))).toArray 9)) := (Below.refl _ _).alloc (Nat.le_refl _) _
  have hT := texts_new w marksL 9
  generalize hW : w.alloc (.cells (marksL.map (fun l => Value.string (bs l))).toArray 9) = W at hB hT
  have HB : Hid (Below w.heap.size w W) := hB
  have HT : Hid (Texts W w.heap.size marksL) := hT
  clear hB hT
  have hd : (l.drop p).length = l.length - p := by simp
  have HD : Hid ((l.drop p).length = l.length - p) := hd
  clear hd
  go_enter Tryd.func53, Tryd.ntmps53
  go_wp2_with fail
  refine (marks_any _).mono ?_
  rintro e w1 ⟨rfl, rfl⟩
  rw [hW]
  clear hW
  go_wp2
  go_loopw [6] (fun i wr => ∃ k : Nat, k ≤ 18 ∧ i = .int .i64 k ∧ (∀ j, j < k → (marksL.getD j []).isPrefixOf (l.drop p) = false) ∧ Texts wr w.heap.size marksL ∧ Below w.heap.size w wr) (fun i _ => 18 - (intOf i).toNat)
  case atStart => exact ⟨0, by omega, rfl, by omega, HT.out, HB.out⟩
  case round =>
    clear HT HB
    obtain ⟨k, hk, rfl, hno, hT, hB⟩ := hrel
    have HT : Hid (Texts wr w.heap.size marksL) := hT
    have HB : Hid (Below w.heap.size w wr) := hB
    have HNO : Hid (∀ j, j < k → (marksL.getD j []).isPrefixOf (l.drop p) = false) := hno
    clear hno hT hB
    by_cases hlt : k < 18
    · have hcell := HT.out k (by simpa [marksL] using hlt)
      obtain ⟨x, hx⟩ : ∃ x, x = marksL.getD k [] := ⟨_, rfl⟩
      have hx2 : x.length ≤ 2 := by
        rw [hx]
        refine marks_len' _ ?_
        rw [List.getD_eq_getElem?_getD, List.getElem?_eq_getElem (show k < marksL.length from hlt)]; simp
      rw [← hx] at hcell
      have HX : Hid (x = marksL.getD k []) := hx
      clear hx
      have hk0 : (0 : Int) ≤ (k : Int) := by omega
      have hk18 : (k : Int) < 18 := by omega
      have hwr : IntKind.i64.wrap ((p : Int) + (x.length : Int)) = (p : Int) + (x.length : Int) := IntWalk.i64_in _ (by omega)
      cases he : x.isPrefixOf (l.drop p)
      · have HE : Hid (x.isPrefixOf (l.drop p) = false) := he
        have hne : ((l.drop p).take x.length == x) = false := by simpa using pre_no he
        clear he
        by_cases hlen : p + x.length ≤ l.length
        · have hlb : decide ((p : Int) + (x.length : Int) ≤ (l.length : Int)) = true := decide_eq_true (by omega)
          have hsl : ∀ W, (Instr.slice 9 (.string (bs l)) (some (.int .i64 (p : Int))) (some (.int .i64 ((p : Int) + (x.length : Int)))) none).run Tryd.prog W = .ok (.string (bs ((l.drop p).take x.length))) W := slice_at l p x.length hlen
          go_wp2
          go_region_held3 (fun W => W.cell? ⟨w.heap.size, k, none⟩ = some (.string (bs x))) (go_keep) (fail)
          go_wp2
          refine ⟨⟨k + 1, by omega, by go_num, fun j hj => by rcases Nat.lt_succ_iff_lt_or_eq.1 hj with h | rfl; exact HNO.out j h; rw [← HX.out]; exact HE.out, HT.out, HB.out.drew⟩, ?_⟩
          simp [intOf]; omega
        · have hlb : decide ((p : Int) + (x.length : Int) ≤ (l.length : Int)) = false := decide_eq_false (by omega)
          go_wp2
          go_quiet (fail)
          go_wp2
          refine ⟨⟨k + 1, by omega, by go_num, fun j hj => by rcases Nat.lt_succ_iff_lt_or_eq.1 hj with h | rfl; exact HNO.out j h; rw [← HX.out]; exact HE.out, HT.out, ⟨HB.out.os, HB.out.tape, HB.out.output, HB.out.size, HB.out.block⟩⟩, ?_⟩
          simp [intOf]; omega
      · have HE : Hid (x.isPrefixOf (l.drop p) = true) := he
        obtain ⟨h5, h6⟩ := pre_yes he
        have hlen : p + x.length ≤ l.length := by have := HD.out; omega
        have heq : ((l.drop p).take x.length == x) = true := by simpa using h6
        clear he h5 h6
        have hlb : decide ((p : Int) + (x.length : Int) ≤ (l.length : Int)) = true := decide_eq_true (by omega)
        have hsl : ∀ W, (Instr.slice 9 (.string (bs l)) (some (.int .i64 (p : Int))) (some (.int .i64 ((p : Int) + (x.length : Int)))) none).run Tryd.prog W = .ok (.string (bs ((l.drop p).take x.length))) W := slice_at l p x.length hlen
        go_wp2
        go_region_held3 (fun W => W.cell? ⟨w.heap.size, k, none⟩ = some (.string (bs x))) (go_keep) (fail)
        go_wp2
        go_ret
        refine ⟨retS ?_, HB.out.drew⟩
        unfold markL
        rw [find_at marksL _ k hlt HNO.out (by rw [← HX.out]; exact HE.out), ← HX.out]
        rfl
    · have hk3 : k = 18 := by omega
      subst hk3
      go_wp2
      go_ret
      refine ⟨retS (a := []) ?_, HB.out⟩
      unfold markL
      rw [find_none marksL _ (fun j hj => HNO.out j (by simpa [marksL] using hj))]
      rfl
end Go.Proofs.YtbgfabkneifccaaDoor
