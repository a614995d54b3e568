/-
  laws.eqStringS, markStringS, heldStringS, and what goes by them of a NamesResult.
-/
import Derived.Test.YtbgnmocbpigpmaaNamesM
import Derived.Test.YtbgnmocbpigpmaaMk
import Derived.Deep.RegionHeld3
import Derived.Deep.QuietTactic
import Derived.BigQuiet
namespace Go.Proofs.Ytbgnmocbpigpmaa
open Go.RowKit
set_option linter.unusedVariables false
attribute [local go_sem] bs_size bs_get bs_extract bs_append bs_eq bs_toList

/-- texts in a row -/
def RowS (w : World) (a : Option Addr) (L : List (List UInt8)) : Prop := L ≠ [] → ∃ g, a = some ⟨g, 0, none⟩ ∧ ∀ (i : Nat) (x : List UInt8), L[i]? = some x → w.cell? ⟨g, i, none⟩ = some (.string (bs x))
theorem RowS.of_own {w : World} {B n c : Nat} {a : Option Addr} {L : List (List UInt8)} (h : w.ownsRow B 9 1 (.slice a n c) n (namC L)) (hn : n = L.length) : RowS w a L := by
  intro hne
  subst hn
  have hp : 0 < L.length := List.length_pos_iff.2 hne
  obtain ⟨g, c', e, _, _, hc⟩ := rowE_cells h hp (by rw [namC_len, Nat.mul_one])
  simp at e
  refine ⟨g, e.1, fun i x hx => ?_⟩
  have hi := (List.getElem?_eq_some_iff.1 hx).1
  rw [hc i (by omega)]
  unfold namC; rw [List.getElem?_map, hx]; rfl
theorem RowS.same {w w' : World} {a : Option Addr} {L : List (List UInt8)} (h : RowS w a L) (hs : ∀ g, a = some ⟨g, 0, none⟩ → L ≠ [] → w'.heap[g]? = w.heap[g]?) : RowS w' a L := fun hne => by
  obtain ⟨g, e, hc⟩ := h hne
  exact ⟨g, e, fun i x hx => by rw [World.cell?_of_block (a := ⟨g, i, none⟩) (hs g e hne)]; exact hc i x hx⟩
theorem RowS.below {w w' : World} {a : Option Addr} {L : List (List UInt8)} (h : RowS w a L) (hb : Below w.heap.size w w') : RowS w' a L := fun hne => by
  obtain ⟨g, e, hc⟩ := h hne
  exact ⟨g, e, fun i x hx => (Keeps.of_below (lo := 0) hb).cell (p := ⟨g, i, none⟩) (Nat.zero_le _) (hc i x hx)⟩

set_option maxHeartbeats 3200000 in
theorem eqStrs_any (a b : Option Addr) (L : List (List UInt8)) (ca cb : Nat) (w : World) (hl : L.length ≤ 1048576) (ha : RowS w a L) (hb : RowS w b L) :
    Calls Try.prog 64 #[.slice a L.length ca, .slice b L.length cb] w fun e w' => e = .returned (.bool true) ∧ Below w.heap.size w w' := by
  have HA : Hid (RowS w a L) := ha
  have HB : Hid (RowS w b L) := hb
  clear ha hb
  go_enter Try.func64, Try.ntmps64
  go_wp2
  go_loopw [5] (fun i wr => ∃ j : Nat, j ≤ L.length ∧ i = .int .i64 j ∧ Below w.heap.size w wr) (fun i _ => L.length - (intOf i).toNat)
  case atStart => exact ⟨0, Nat.zero_le _, rfl, Below.refl _ _⟩
  case round =>
    obtain ⟨j, hj, rfl, hB⟩ := hrel
    by_cases hlt : j < L.length
    · obtain ⟨x, hx⟩ : ∃ x, L[j]? = some x := ⟨L[j], List.getElem?_eq_getElem hlt⟩
      have hne : L ≠ [] := by intro e; rw [e] at hlt; simp at hlt
      obtain ⟨g, rfl, hc⟩ := HA.out hne
      obtain ⟨g2, rfl, hc2⟩ := HB.out hne
      have c0 := (Keeps.of_below (lo := 0) hB).cell (p := ⟨g, j, none⟩) (Nat.zero_le _) (hc j x hx)
      have c1 := (Keeps.of_below (lo := 0) hB).cell (p := ⟨g2, j, none⟩) (Nat.zero_le _) (hc2 j x hx)
      have hj0 : (0 : Int) ≤ (j : Int) := by omega
      have hj1 : (j : Int) < (L.length : Int) := by omega
      clear hc hc2 hx hne
      go_wp2_with fail
      go_quiet (fail)
      go_wp2_with fail
      go_roundw
      case rel => exact ⟨j + 1, by omega, by go_num, ⟨hB.os, hB.tape, hB.output, hB.size, hB.block⟩⟩
      case measure => simp [intOf]; omega
    · have hje : j = L.length := by omega
      subst hje
      go_wp2
      go_ret
      exact ⟨rfl, hB⟩

abbrev namR (c : Int) (v : Value) : Value := .agg #[.int .i64 c, v]
set_option maxHeartbeats 3200000 in
theorem eqNames_any (c : Int) (a b : Option Addr) (L : List (List UInt8)) (ca cb : Nat) (w : World) (hl : L.length ≤ 1048576) (ha : RowS w a L) (hb : RowS w b L) :
    Calls Try.prog 24 #[namR c (.slice a L.length ca), namR c (.slice b L.length cb)] w fun e w' => e = .returned (.bool true) ∧ Below w.heap.size w w' := by
  have HC : Hid (∀ w', Below w.heap.size w w' → Calls Try.prog 64 #[.slice a L.length ca, .slice b L.length cb] w' fun e w2 => e = .returned (.bool true) ∧ Below w'.heap.size w' w2) := fun w' h => eqStrs_any a b L ca cb w' hl (ha.below h) (hb.below h)
  clear ha hb
  go_enter Try.func24, Try.ntmps24
  go_wp2_with fail
  have hB : Below w.heap.size w ((w.alloc (.cells #[.int .i64 c, .slice a L.length ca] 45)).alloc (.cells #[.int .i64 c, .slice b L.length cb] 45)) := by go_grown
  generalize (w.alloc (.cells #[.int .i64 c, .slice a L.length ca] 45)).alloc (.cells #[.int .i64 c, .slice b L.length cb] 45) = W at *
  refine (HC.out _ hB).mono ?_
  rintro e w2 ⟨rfl, hb2⟩
  have HB : Hid (Below w.heap.size w w2) := hB.trans (hb2.mono hB.size)
  clear hB hb2
  go_wp2_with fail
  go_ret
  exact ⟨rfl, HB.out⟩

/-- the marks from k on -/
def mtL (k n : Nat) : List (List UInt8) := (List.range n).map fun i => mt (k + i)
theorem mtL_len (k n : Nat) : (mtL k n).length = n := by unfold mtL; simp
theorem mtL_get (k n i : Nat) (h : i < n) : (mtL k n)[i]? = some (mt (k + i)) := by unfold mtL; rw [List.getElem?_map, List.getElem?_range h]; rfl
/-- a row of which the first c cells are marked -/
structure MarkedS (w : World) (g n k c : Nat) : Prop where
  row : ∃ cur : Array Value, w.heap[g]? = some (.cells cur 9 (0, 0)) ∧ n ≤ cur.size ∧ ∀ i, i < c → cur[i]? = some (.string (bs (mt (k + i))))
theorem MarkedS.below {w w' : World} {g n k c : Nat} (h : MarkedS w g n k c) (hb : Below w.heap.size w w') : MarkedS w' g n k c := by
  obtain ⟨cur, h1, h2, h3⟩ := h.row
  exact ⟨cur, blk h1 hb, h2, h3⟩
theorem MarkedS.same {w w' : World} {g n k c : Nat} (h : MarkedS w g n k c) (hb : w'.heap[g]? = w.heap[g]?) : MarkedS w' g n k c := by
  obtain ⟨cur, h1, h2, h3⟩ := h.row
  exact ⟨cur, hb.trans h1, h2, h3⟩
theorem MarkedS.of_own {w : World} {B n c : Nat} {a : Option Addr} {xs : List Value} (h : w.ownsRow B 9 1 (.slice a n c) n xs) (k : Nat) : ∃ g, B ≤ g ∧ (n ≠ 0 → a = some ⟨g, 0, none⟩ ∧ g < w.heap.size ∧ MarkedS w g n k 0) := by
  rcases h.2 with ⟨_, h2⟩ | ⟨g, c', cur, e, hg, hh, hr, _, hs, _⟩
  · exact ⟨B, Nat.le_refl _, fun hn => absurd h2 hn⟩
  · simp at e
    exact ⟨g, hg, fun _ => ⟨e.1, blk_lt hh, ⟨cur, hh, by omega, fun i hi => absurd hi (by omega)⟩⟩⟩
theorem MarkedS.store {w : World} {g n k c : Nat} (h : MarkedS w g n k c) (hc : c < n) : MarkedS (w.setCell ⟨g, c, none⟩ (.string (bs (mt (k + c))))) g n k (c + 1) := by
  obtain ⟨cur, h1, h2, h3⟩ := h.row
  refine ⟨_, heap_setCell_same w g c _ _ _ h1, by simpa using h2, fun i hi => ?_⟩
  by_cases e : c = i
  · subst e; exact Array.getElem?_setIfInBounds_self_of_lt (by omega)
  · rw [Array.getElem?_setIfInBounds_ne e]; exact h3 i (by omega)

set_option maxHeartbeats 3200000 in
set_option maxRecDepth 100000 in
theorem markStrs_any (g n cap k B : Nat) (w : World) (hn : n ≤ 1048576) (hk : k ≤ 1000000) (hB : B ≤ g) (hg : n ≠ 0 → MarkedS w g n k 0) (a : Option Addr) (ha : n ≠ 0 → a = some ⟨g, 0, none⟩) (hBw : B ≤ w.heap.size) :
    Calls Try.prog 68 #[.slice a n cap, .int .i64 k] w fun e w' => e = .returned (.int .i64 ((k + n : Nat) : Int)) ∧ (n ≠ 0 → MarkedS w' g n k n) ∧ Below B w w' ∧ (∀ b, b < w.heap.size → b ≠ g → w'.heap[b]? = w.heap[b]?) := by
  have HA : Hid (n ≠ 0 → a = some ⟨g, 0, none⟩) := ha
  have HG : Hid (n ≠ 0 → MarkedS w g n k 0) := hg
  have HMT : Hid (∀ (k : Nat) (w : World), k ≤ 1000000000000000 → Calls Try.prog 119 #[.int .i64 k] w fun e w' => e = .returned (.string (bs (mt k))) ∧ Below w.heap.size w w') := fun k w h => markText_any k w h
  clear ha hg
  go_enter Try.func68, Try.ntmps68
  go_wp2
  go_loopw [1, 5] (fun x i wr => ∃ j : Nat, j ≤ n ∧ i = .int .i64 j ∧ x = .int .i64 ((k + j : Nat) : Int) ∧ (n ≠ 0 → MarkedS wr g n k j) ∧ Below B w wr ∧ w.heap.size ≤ wr.heap.size ∧ (∀ b, b < w.heap.size → b ≠ g → wr.heap[b]? = w.heap[b]?)) (fun _ i _ => n - (intOf i).toNat)
  case atStart => exact ⟨0, Nat.zero_le _, rfl, rfl, HG.out, Below.refl _ _, Nat.le_refl _, fun _ _ _ => rfl⟩
  case round =>
    obtain ⟨j, hj, rfl, rfl, hmk, hB2, hz, hrs⟩ := hrel
    have HMK : Hid (n ≠ 0 → MarkedS wr g n k j) := hmk
    have HB2 : Hid (Below B w wr ∧ w.heap.size ≤ wr.heap.size ∧ (∀ b, b < w.heap.size → b ≠ g → wr.heap[b]? = w.heap[b]?)) := ⟨hB2, hz, hrs⟩
    clear hrs
    obtain ⟨m, hme⟩ : ∃ m, m = k + j := ⟨_, rfl⟩
    have HME : Hid (m = k + j) := hme
    have hmle : m ≤ 3000000 := by omega
    rw [← hme]
    clear hme hmk
    by_cases hlt : j < n
    · have hae := HA.out (by omega)
      subst hae
      have hj0 : (0 : Int) ≤ (j : Int) := by omega
      have hj1 : (j : Int) < (n : Int) := by omega
      clear hB2
      go_wp2_with fail
      refine (HMT.out m _ (by omega)).mono ?_
      rintro e w1 ⟨rfl, hb⟩
      have hm1 := (HMK.out (by omega)).below hb
      obtain ⟨cur, hc, hsz, _⟩ := hm1.row
      obtain ⟨⟨y0, d0⟩, f0⟩ := room_cell (i := j) hc (by omega)
      have hbl := blk_lt hc
      have HM2 : Hid (n ≠ 0 → MarkedS (w1.setCell ⟨g, j, none⟩ (.string (bs (mt m)))) g n k (j + 1)) := fun _ => by rw [HME.out]; exact hm1.store hlt
      have HB3 : Hid (Below B w (w1.setCell ⟨g, j, none⟩ (.string (bs (mt m)))) ∧ w.heap.size ≤ (w1.setCell ⟨g, j, none⟩ (.string (bs (mt m)))).heap.size ∧ (∀ b, b < w.heap.size → b ≠ g → (w1.setCell ⟨g, j, none⟩ (.string (bs (mt m)))).heap[b]? = w.heap[b]?)) := ⟨(HB2.out.1.trans (hb.mono (Nat.le_trans hBw HB2.out.2.1))).setCell hB _, by have := hb.size; have := HB2.out.2.1; simp; omega, fun b hbl hne => by
        rw [Below.heap_setCell _ _ _ _ (by simpa using hne), hb.block b (Nat.lt_of_lt_of_le hbl HB2.out.2.1)]; exact HB2.out.2.2 b hbl hne⟩
      clear hb hm1 hc hsz hz
      go_wp2_with fail
      go_roundw
      case rel => exact ⟨j + 1, by omega, by go_num, by rw [show k + (j + 1) = m + 1 from by have := HME.out; omega]; go_num, HM2.out, HB3.out⟩
      case measure => simp [intOf]; omega
    · have hje : j = n := by omega
      subst hje
      clear hB2
      go_wp2
      go_ret
      exact ⟨by rw [HME.out]; rfl, HMK.out, HB2.out.1, HB2.out.2.2⟩

set_option maxHeartbeats 3200000 in
set_option maxRecDepth 100000 in
theorem heldStrs_any (g n cap k : Nat) (w : World) (hn : n ≤ 1048576) (hk : k ≤ 1000000) (hg : n ≠ 0 → MarkedS w g n k n) (a : Option Addr) (ha : n ≠ 0 → a = some ⟨g, 0, none⟩) :
    Calls Try.prog 69 #[.slice a n cap, .int .i64 k] w fun e w' => e = .returned (.int .i64 ((k + n : Nat) : Int)) ∧ Below w.heap.size w w' := by
  have HA : Hid (n ≠ 0 → a = some ⟨g, 0, none⟩) := ha
  have HG : Hid (n ≠ 0 → MarkedS w g n k n) := hg
  have HMT : Hid (∀ (k : Nat) (w : World), k ≤ 1000000000000000 → Calls Try.prog 119 #[.int .i64 k] w fun e w' => e = .returned (.string (bs (mt k))) ∧ Below w.heap.size w w') := fun k w h => markText_any k w h
  clear ha hg
  go_enter Try.func69, Try.ntmps69
  go_wp2
  go_loopw [1, 5] (fun x i wr => ∃ j : Nat, j ≤ n ∧ i = .int .i64 j ∧ x = .int .i64 ((k + j : Nat) : Int) ∧ Below w.heap.size w wr) (fun _ i _ => n - (intOf i).toNat)
  case atStart => exact ⟨0, Nat.zero_le _, rfl, rfl, Below.refl _ _⟩
  case round =>
    obtain ⟨j, hj, rfl, rfl, hB⟩ := hrel
    have HB : Hid (Below w.heap.size w wr) := hB
    obtain ⟨m, hme⟩ : ∃ m, m = k + j := ⟨_, rfl⟩
    have HME : Hid (m = k + j) := hme
    have hmle : m ≤ 3000000 := by omega
    rw [← hme]
    by_cases hlt : j < n
    · have hae := HA.out (by omega)
      subst hae
      obtain ⟨cur, hc, hsz, hcs⟩ := ((HG.out (by omega)).below hB).row
      have c0 : wr.cell? ⟨g, j, none⟩ = some (.string (bs (mt m))) := by rw [cell_of_row _ _ _ _ _ _ hc, hme]; exact hcs j hlt
      have hgr := blk_lt hc
      have hj0 : (0 : Int) ≤ (j : Int) := by omega
      have hj1 : (j : Int) < (n : Int) := by omega
      have HC0 : Hid (wr.cell? ⟨g, j, none⟩ = some (.string (bs (mt m)))) := c0
      have HM1 : Hid (∀ w, Calls Try.prog 119 #[.int .i64 (m : Int)] w fun e w' => e = .returned (.string (bs (mt m))) ∧ Below w.heap.size w w') := fun w => HMT.out m w (by omega)
      clear hc hsz hcs hme hB
      go_wp2_with fail
      go_region_held3 (fun W => W.cell? ⟨g, j, none⟩ = some (.string (bs (mt m)))) (go_keep) (first | (go_at_call 119; refine (HM1.out _).mono ?_; rintro e w2 ⟨rfl, hb⟩; have hD : Below wr.heap.size wr w2 := ((Below.refl wr.heap.size wr).drew).trans (Below.mono hb (Nat.le_refl _)); have e0 := (hD.cell (p := ⟨g, j, none⟩) hgr).trans HC0.out; have HB2 : Hid (Below w.heap.size w w2) := HB.out.trans (hD.mono HB.out.size); clear hb hD))
      go_wp2_with fail
      go_roundw
      case rel => exact ⟨j + 1, by omega, by go_num, by rw [show k + (j + 1) = m + 1 from by have := HME.out; omega]; go_num, HB2.out⟩
      case measure => simp [intOf]; omega
    · have hje : j = n := by omega
      subst hje
      clear hme
      go_wp2
      go_ret
      exact ⟨by rw [HME.out]; rfl, hB⟩

set_option maxHeartbeats 3200000 in
theorem markNames_any (c : Int) (g n cap B : Nat) (w : World) (hn : n ≤ 1048576) (hB : B ≤ g) (hg : n ≠ 0 → MarkedS w g n 1 0) (a : Option Addr) (ha : n ≠ 0 → a = some ⟨g, 0, none⟩) (hBw : B ≤ w.heap.size) :
    Calls Try.prog 26 #[namR c (.slice a n cap), .int .i64 1] w fun e w' => e = .returned (.int .i64 ((1 + n : Nat) : Int)) ∧ (n ≠ 0 → MarkedS w' g n 1 n) ∧ Below B w w' ∧ (∀ b, b < w.heap.size → b ≠ g → w'.heap[b]? = w.heap[b]?) := by
  have HC : Hid (∀ w', Below w.heap.size w w' → Calls Try.prog 68 #[.slice a n cap, .int .i64 1] w' fun e w2 => e = .returned (.int .i64 ((1 + n : Nat) : Int)) ∧ (n ≠ 0 → MarkedS w2 g n 1 n) ∧ Below B w' w2 ∧ (∀ b, b < w'.heap.size → b ≠ g → w2.heap[b]? = w'.heap[b]?)) := fun w' h => markStrs_any g n cap 1 B w' hn (by omega) hB (fun hne => (hg hne).below h) a ha (Nat.le_trans hBw h.size)
  clear hg ha
  go_enter Try.func26, Try.ntmps26
  go_wp2_with fail
  have hB2 : Below w.heap.size w (w.alloc (.cells #[.int .i64 c, .slice a n cap] 45)) := (Below.refl _ _).alloc (Nat.le_refl _) _
  generalize w.alloc (.cells #[.int .i64 c, .slice a n cap] 45) = W at *
  refine (HC.out _ hB2).mono ?_
  rintro e w2 ⟨rfl, hm, hb2, hrs⟩
  have HRS : Hid (∀ b, b < w.heap.size → b ≠ g → w2.heap[b]? = w.heap[b]?) := fun b hbl hne => by rw [hrs b (Nat.lt_of_lt_of_le hbl hB2.size) hne]; exact hB2.block b hbl
  clear hrs
  have HM : Hid (n ≠ 0 → MarkedS w2 g n 1 n) := hm
  have HB : Hid (Below B w w2) := (hB2.mono hBw).trans hb2
  obtain ⟨q, hq⟩ : ∃ q, q = 1 + n := ⟨_, rfl⟩
  rw [← hq]
  have HQ : Hid (q = 1 + n) := hq
  clear hB2 hb2 hm hq
  go_wp2_with fail
  go_ret
  exact ⟨by rw [← HQ.out]; rfl, HM.out, HB.out, HRS.out⟩

set_option maxHeartbeats 3200000 in
theorem heldNames_any (c : Int) (g n cap : Nat) (w : World) (hn : n ≤ 1048576) (hg : n ≠ 0 → MarkedS w g n 1 n) (a : Option Addr) (ha : n ≠ 0 → a = some ⟨g, 0, none⟩) :
    Calls Try.prog 27 #[namR c (.slice a n cap), .int .i64 1] w fun e w' => e = .returned (.int .i64 ((1 + n : Nat) : Int)) ∧ Below w.heap.size w w' := by
  have HC : Hid (∀ w', Below w.heap.size w w' → Calls Try.prog 69 #[.slice a n cap, .int .i64 1] w' fun e w2 => e = .returned (.int .i64 ((1 + n : Nat) : Int)) ∧ Below w'.heap.size w' w2) := fun w' h => heldStrs_any g n cap 1 w' hn (by omega) (fun hne => (hg hne).below h) a ha
  clear hg ha
  go_enter Try.func27, Try.ntmps27
  go_wp2_with fail
  have hB2 : Below w.heap.size w (w.alloc (.cells #[.int .i64 c, .slice a n cap] 45)) := (Below.refl _ _).alloc (Nat.le_refl _) _
  generalize w.alloc (.cells #[.int .i64 c, .slice a n cap] 45) = W at *
  refine (HC.out _ hB2).mono ?_
  rintro e w2 ⟨rfl, hb2⟩
  have HB : Hid (Below w.heap.size w w2) := hB2.trans (hb2.mono hB2.size)
  obtain ⟨q, hq⟩ : ∃ q, q = 1 + n := ⟨_, rfl⟩
  rw [← hq]
  have HQ : Hid (q = 1 + n) := hq
  have hq0 : (0 : Int) ≤ (q : Int) := by omega
  clear hB2 hb2 hq
  go_wp2_with fail
  go_ret
  exact ⟨by rw [← HQ.out]; rfl, HB.out⟩
end Go.Proofs.Ytbgnmocbpigpmaa
