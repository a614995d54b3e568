/-
  laws.markVarS, where there is room.
-/
import Derived.Test.YtbgnmocbpigpmaaMk
namespace Go.Proofs.Ytbgnmocbpigpmaa
open Go.RowKit
set_option linter.unusedVariables false
attribute [local go_sem] bs_size bs_get bs_extract bs_append bs_eq bs_toList

def RoomV (lo hi : Nat) (w : World) (v : Value) (n : Nat) : Prop :=
  ∃ a c, v = .slice a n c ∧ (n ≠ 0 → ∃ b o, a = some ⟨b, o, none⟩ ∧ lo ≤ b ∧ b < hi ∧ ∃ cs, w.heap[b]? = some (.cells cs 85 (0, 0)) ∧ o + n * 4 ≤ cs.size)
theorem RoomV.keep {lo hi n : Nat} {w w' : World} {v : Value} (h : RoomV lo hi w v n) (hm : Mk lo hi w w') : RoomV lo hi w' v n := by
  obtain ⟨a, c, e, h3⟩ := h
  refine ⟨a, c, e, fun hn => ?_⟩
  obtain ⟨b, o, e, h1, h2, cs, h4, h5⟩ := h3 hn
  obtain ⟨cs', h6, h7⟩ := hm.typ b cs _ h4
  exact ⟨b, o, e, h1, h2, cs', h6, by omega⟩
theorem RoomV.of_vars {lo hi : Nat} {w : World} {v : Value} {xs : List LVar} (h : VarsF lo w v xs) (hh : w.heap.size ≤ hi) : RoomV lo hi w v xs.length := by
  obtain ⟨a, c, e, _, h3⟩ := h
  refine ⟨a, c, e, fun hn => ?_⟩
  obtain ⟨b, o, e, h1, ⟨cs, h4, h5⟩, _⟩ := h3 (by intro e; rw [e] at hn; exact hn rfl)
  exact ⟨b, o, e, h1, Nat.lt_of_lt_of_le (blk_lt h4) hh, cs, h4, h5⟩
/-- four stores in one block -/
theorem set4_mk {lo hi b : Nat} {w w1 : World} {cs : Array Value} {U : TypeId} (hm : Mk lo hi w w1) (hs : SameT 99 w w1) (hz : w.heap.size ≤ w1.heap.size) (hc : w1.heap[b]? = some (.cells cs U (0, 0))) (hU : U ≠ 99) (h1 : lo ≤ b) (h2 : b < hi) (i0 i1 i2 i3 : Nat) (u0 u1 u2 u3 : Value) :
    Mk lo hi w ((((w1.setCell ⟨b, i0, none⟩ u0).setCell ⟨b, i1, none⟩ u1).setCell ⟨b, i2, none⟩ u2).setCell ⟨b, i3, none⟩ u3) ∧ SameT 99 w ((((w1.setCell ⟨b, i0, none⟩ u0).setCell ⟨b, i1, none⟩ u1).setCell ⟨b, i2, none⟩ u2).setCell ⟨b, i3, none⟩ u3) ∧ w.heap.size ≤ ((((w1.setCell ⟨b, i0, none⟩ u0).setCell ⟨b, i1, none⟩ u1).setCell ⟨b, i2, none⟩ u2).setCell ⟨b, i3, none⟩ u3).heap.size := by
  have c0 := heap_setCell_same w1 b i0 _ _ u0 hc
  have c1 := heap_setCell_same _ b i1 _ _ u1 c0
  have c2 := heap_setCell_same _ b i2 _ _ u2 c1
  exact ⟨(((hm.trans (Mk.set h1 h2 _ _ ⟨_, _, hc⟩)).trans (Mk.set h1 h2 _ _ ⟨_, _, c0⟩)).trans (Mk.set h1 h2 _ _ ⟨_, _, c1⟩)).trans (Mk.set h1 h2 _ _ ⟨_, _, c2⟩),
    (((hs.trans (SameT.set hc hU _ _)).trans (SameT.set c0 hU _ _)).trans (SameT.set c1 hU _ _)).trans (SameT.set c2 hU _ _), by simpa using hz⟩

set_option maxHeartbeats 3200000 in
set_option maxRecDepth 100000 in
theorem markVars_room (lo hi n : Nat) (v : Value) (k : Nat) (w : World) (h : RoomV lo hi w v n) (hn : n ≤ 1048576) (hk : k ≤ 100000000) (hhi : hi ≤ w.heap.size) (hlo : lo ≤ hi) :
    Calls Try.prog 65 #[v, .int .i64 k] w fun e w' => e = .returned (.int .i64 ((k + n * 4 : Nat) : Int)) ∧ Mk lo hi w w' ∧ SameT 99 w w' ∧ w.heap.size ≤ w'.heap.size := by
  obtain ⟨a, c, rfl, hh⟩ := h
  have HH : Hid (n ≠ 0 → ∃ b o, a = some ⟨b, o, none⟩ ∧ lo ≤ b ∧ b < hi ∧ ∃ cs, w.heap[b]? = some (.cells cs 85 (0, 0)) ∧ o + n * 4 ≤ cs.size) := hh
  have HMT : Hid (∀ (k : Nat) (w : World), k ≤ 1000000000000000 → Calls Try.prog 119 #[.int .i64 k] w fun e w' => e = .returned (.string (bs (mt k))) ∧ Below w.heap.size w w') := fun k w h => markText_any k w h
  have HHI : Hid (hi ≤ w.heap.size ∧ lo ≤ hi) := ⟨hhi, hlo⟩
  clear hh hhi hlo
  go_enter Try.func65, Try.ntmps65
  go_wp2
  go_loopw [1, 5] (fun x i wr => ∃ j : Nat, j ≤ n ∧ i = .int .i64 j ∧ x = .int .i64 ((k + j * 4 : Nat) : Int) ∧ Mk lo hi w wr ∧ SameT 99 w wr ∧ w.heap.size ≤ wr.heap.size) (fun _ i _ => n - (intOf i).toNat)
  case atStart => exact ⟨0, Nat.zero_le _, rfl, by simp, Mk.refl _ _ _, SameT.refl _ _, Nat.le_refl _⟩
  case round =>
    obtain ⟨j, hj, rfl, rfl, hm, hs1, hz⟩ := hrel
    have HM : Hid (Mk lo hi w wr ∧ SameT 99 w wr ∧ w.heap.size ≤ wr.heap.size) := ⟨hm, hs1, hz⟩
    obtain ⟨m, hme⟩ : ∃ m, m = k + j * 4 := ⟨_, rfl⟩
    have HME : Hid (m = k + j * 4) := hme
    have hmle : m ≤ 110000000 := by omega
    rw [← hme]
    clear hme
    by_cases hlt : j < n
    · obtain ⟨b, o, rfl, hb1, hb2, cs, hc, hsz⟩ := HH.out (by omega)
      have HC : Hid (∃ cs' : Array Value, wr.heap[b]? = some (.cells cs' 85 (0, 0)) ∧ cs'.size = cs.size) := hm.typ b cs _ hc
      have hj0 : (0 : Int) ≤ (j : Int) := by omega
      have hj1 : (j : Int) < (n : Int) := by omega
      clear hm hs1 hc
      go_wp2_with fail
      refine (HMT.out m _ (by omega)).mono ?_
      rintro e w1 ⟨rfl, hb⟩
      obtain ⟨cs', hc', hsz'⟩ := HC.out
      have hc1 := blk hc' hb
      obtain ⟨⟨y0, d0⟩, f0⟩ := room_cell (i := o + j * 4) hc1 (by omega)
      obtain ⟨⟨y1, d1⟩, f1⟩ := room_cell (i := o + j * 4 + 1) hc1 (by omega)
      obtain ⟨⟨y2, d2⟩, f2⟩ := room_cell (i := o + j * 4 + 2) hc1 (by omega)
      obtain ⟨⟨y3, d3⟩, f3⟩ := room_cell (i := o + j * 4 + 3) hc1 (by omega)
      have hbl := blk_lt hc1
      have HS := set4_mk (hm := HM.out.1.trans (Mk.of_below hb (by have := HM.out.2.2; have := HHI.out; omega))) (hs := HM.out.2.1.trans (SameT.of_below hb)) (hz := Nat.le_trans HM.out.2.2 hb.size) hc1 (by decide) hb1 hb2
      have HS2 : Hid (∀ (i0 i1 i2 i3 : Nat) (u0 u1 u2 u3 : Value), Mk lo hi w ((((w1.setCell ⟨b, i0, none⟩ u0).setCell ⟨b, i1, none⟩ u1).setCell ⟨b, i2, none⟩ u2).setCell ⟨b, i3, none⟩ u3) ∧ SameT 99 w ((((w1.setCell ⟨b, i0, none⟩ u0).setCell ⟨b, i1, none⟩ u1).setCell ⟨b, i2, none⟩ u2).setCell ⟨b, i3, none⟩ u3) ∧ w.heap.size ≤ ((((w1.setCell ⟨b, i0, none⟩ u0).setCell ⟨b, i1, none⟩ u1).setCell ⟨b, i2, none⟩ u2).setCell ⟨b, i3, none⟩ u3).heap.size) := HS
      clear HS hb hc' hc1 hsz' HC hz hsz
      go_wp2_with fail
      go_roundw
      case rel => exact ⟨j + 1, by omega, by go_num, by rw [show k + (j + 1) * 4 = m + 4 from by have := HME.out; omega]; go_num, HS2.out _ _ _ _ _ _ _ _⟩
      case measure => simp [intOf]; omega
    · have hj2 : j = n := by omega
      subst hj2
      clear hm hs1 hz
      go_wp2
      go_ret
      exact ⟨by rw [HME.out]; rfl, HM.out⟩
end Go.Proofs.Ytbgnmocbpigpmaa
