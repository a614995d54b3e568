/-
  Marks: what a mark turns; laws.markInt64S, where there is room.
-/
import Derived.Test.YtbgnmocbpigpmaaTreeTo
import Derived.Laws.IdiomStrings
import Derived.Test.YtbgnmocbpigpmaaTF4
namespace Go.Proofs.Ytbgnmocbpigpmaa
open Go.RowKit
set_option linter.unusedVariables false
attribute [local go_sem] bs_size bs_get bs_extract bs_append bs_eq bs_toList

/-- a digit's byte -/
def dg (m : Nat) : UInt8 := UInt8.ofNat (48 + m % 10)
theorem dg_val (m : Nat) : (dg m).toNat = 48 + m % 10 := by unfold dg; simp; omega
def mtF : Nat → Nat → List UInt8 → List UInt8
  | 0, _, out => out
  | f + 1, k, out => if k = 0 then out else mtF f (k / 10) (dg k :: out)
theorem mtF_fuel : ∀ (f f' k : Nat) (out : List UInt8), k ≤ f → k ≤ f' → mtF f k out = mtF f' k out := by
  intro f
  induction f with
  | zero =>
    intro f' k out h h'
    have : k = 0 := by omega
    subst this; cases f' <;> simp [mtF]
  | succ f ih =>
    intro f' k out h h'
    by_cases hk : k = 0
    · subst hk; cases f' <;> simp [mtF]
    · cases f' with
      | zero => omega
      | succ f' =>
        simp only [mtF, if_neg hk]
        exact ih f' _ _ (by omega) (by omega)
def mt (k : Nat) : List UInt8 := if k = 0 then [109, 48] else 109 :: mtF k k []
theorem mtF_step (k : Nat) (out : List UInt8) (h : k ≠ 0) : mtF k k out = mtF (k / 10) (k / 10) (dg k :: out) := by
  cases k with
  | zero => exact absurd rfl h
  | succ k =>
    have e : mtF (k + 1) (k + 1) out = mtF k ((k + 1) / 10) (dg (k + 1) :: out) := by simp [mtF]
    rw [e]
    exact mtF_fuel _ _ _ _ (by omega) (Nat.le_refl _)

theorem conv1 (w : World) (m g : Nat) (hc : w.cell? ⟨g, 0, none⟩ = some (.int .u8 (48 + (m : Int) % 10))) :
    (convert 52 9 (.slice (some ⟨g, 0, none⟩) 1 1)).run Try.prog w = .ok (.string (bs [dg m])) w := by
  have h := run_convert_bytes_back (P := Try.prog) w 52 9 5 ⟨g, 0, none⟩ 1 [dg m] Try.underlying52 Try.underlying5 Try.underlying9 (by
    intro j hj
    match j, hj with
    | 0, _ =>
      show w.cell? (Addr.add ⟨g, 0, none⟩ 0) = some (.int .u8 (((dg m).toNat : Nat) : Int))
      rw [dg_val]
      simp [Addr.add, hc])
  exact h

theorem retSB {a b : ByteArray} (h : a = b) : Ending.returned (.string a) = Ending.returned (.string b) := by rw [h]
set_option maxHeartbeats 1600000 in
set_option maxRecDepth 20000 in
theorem markText_any (k : Nat) (w : World) (hk : k ≤ 1000000000000000) : Calls Try.prog 119 #[.int .i64 k] w fun e w' => e = .returned (.string (bs (mt k))) ∧ Below w.heap.size w w' := by
  by_cases h0 : k = 0
  · subst h0
    go_enter Try.func119, Try.ntmps119
    go_wp2
    go_ret
    exact ⟨rfl, Below.refl _ _⟩
  · have hm : mt k = 109 :: mtF k k [] := if_neg h0
    rw [hm]
    have hk0 : (0 : Int) < (k : Int) := by omega
    clear hm h0
    go_enter Try.func119, Try.ntmps119
    go_wp2
    go_loopw [0, 3] (fun v o wr => ∃ (m : Nat) (out : List UInt8), v = .int .i64 m ∧ o = .string (bs out) ∧ out.length + m ≤ k ∧ mtF m m out = mtF k k [] ∧ Below w.heap.size w wr) (fun v _ _ => (intOf v).toNat)
    case atStart => exact ⟨k, [], rfl, rfl, by simp, rfl, Below.refl _ _⟩
    case round =>
      obtain ⟨m, out, rfl, rfl, hmo, hmt, hB⟩ := hrel
      have HMT : Hid (mtF m m out = mtF k k []) := hmt
      have hB' := hB.alloc hB.size (.cells #[.int .u8 (48 + (m : Int) % 10)] 5)
      clear hmt
      by_cases hm : m = 0
      · subst hm
        clear hB'
        go_wp2
        go_ret
        refine ⟨?_, hB⟩
        rw [← HMT.out]
        refine retSB ?_
        rw [show (ByteArray.mk #[109]) = bs [109] from rfl, bs_append]
        rfl
      · have hm0 : (0 : Int) < (m : Int) := by omega
        have HNE : Hid (m ≠ 0) := hm
        clear hm
        have hcv := conv1 (wr.alloc (.cells #[.int .u8 (48 + (m : Int) % 10)] 5)) m wr.heap.size (by simp)
        go_wp2
        go_roundw
        case rel => exact ⟨m / 10, dg m :: out, by go_num, by first | rfl | (rw [bs_append]; rfl), by simp; omega, by rw [← HMT.out, mtF_step m out HNE.out], hB'⟩
        case measure => simp [intOf]; omega
end Go.Proofs.Ytbgnmocbpigpmaa
namespace Go.Proofs.Ytbgnmocbpigpmaa
open Go.RowKit
set_option linter.unusedVariables false
attribute [local go_sem] bs_size bs_get bs_extract bs_append bs_eq bs_toList

/-- only blocks from lo on and below hi are turned (and new ones laid), and none in its type or size -/
structure Mk (lo hi : Nat) (w w' : World) : Prop where
  bel : Below lo w w'
  out : ∀ b, hi ≤ b → b < w.heap.size → w'.heap[b]? = w.heap[b]?
  typ : ∀ (b : Nat) (cs : Array Value) (T : TypeId), w.heap[b]? = some (.cells cs T (0, 0)) → ∃ cs' : Array Value, w'.heap[b]? = some (.cells cs' T (0, 0)) ∧ cs'.size = cs.size
theorem Mk.refl (lo hi : Nat) (w : World) : Mk lo hi w w := ⟨Below.refl _ _, fun _ _ _ => rfl, fun b cs T h => ⟨cs, h, rfl⟩⟩
theorem Mk.trans {lo hi : Nat} {a b c : World} (h : Mk lo hi a b) (k : Mk lo hi b c) : Mk lo hi a c :=
  ⟨h.bel.trans k.bel, fun x hx hl => (k.out x hx (Nat.lt_of_lt_of_le hl h.bel.size)).trans (h.out x hx hl), fun x cs T hc => by
    obtain ⟨c1, h1, e1⟩ := h.typ x cs T hc
    obtain ⟨c2, h2, e2⟩ := k.typ x c1 T h1
    exact ⟨c2, h2, e2.trans e1⟩⟩
theorem Mk.of_below {lo hi : Nat} {w w' : World} (h : Below w.heap.size w w') (hl : lo ≤ w.heap.size) : Mk lo hi w w' :=
  ⟨h.mono hl, fun b _ hb => h.block b hb, fun b cs T hc => ⟨cs, blk hc h, rfl⟩⟩
theorem Mk.set {lo hi g : Nat} {w : World} (hl : lo ≤ g) (hh : g < hi) (i : Nat) (u : Value) (hc : ∃ (cs : Array Value) (T : TypeId), w.heap[g]? = some (.cells cs T (0, 0))) : Mk lo hi w (w.setCell ⟨g, i, none⟩ u) := by
  refine ⟨below_set w g i u hl, fun b hb _ => Below.heap_setCell _ _ _ _ (by simp; omega), fun b cs T h => ?_⟩
  by_cases e : b = g
  · subst e
    exact ⟨_, heap_setCell_same w b i _ _ u h, by simp⟩
  · exact ⟨cs, (Below.heap_setCell _ _ _ _ (by simpa using e)).trans h, rfl⟩
/-- blocks of a type are as they were -/
def SameT (T : TypeId) (w w' : World) : Prop := ∀ (b : Nat) (cs : Array Value), w.heap[b]? = some (.cells cs T (0, 0)) → w'.heap[b]? = some (.cells cs T (0, 0))
theorem SameT.refl (T : TypeId) (w : World) : SameT T w w := fun _ _ h => h
theorem SameT.trans {T : TypeId} {a b c : World} (h : SameT T a b) (k : SameT T b c) : SameT T a c := fun x cs hc => k x cs (h x cs hc)
theorem SameT.of_below {T : TypeId} {w w' : World} (h : Below w.heap.size w w') : SameT T w w' := fun b cs hc => blk hc h
theorem SameT.set {T U : TypeId} {g : Nat} {w : World} {cs : Array Value} (hc : w.heap[g]? = some (.cells cs U (0, 0))) (hne : U ≠ T) (i : Nat) (u : Value) : SameT T w (w.setCell ⟨g, i, none⟩ u) := fun b ds hb => by
  have e : b ≠ g := fun e => by subst e; rw [hc] at hb; simp at hb; exact hne hb.2
  exact (Below.heap_setCell _ _ _ _ (by simpa using e)).trans hb

/-- n cells of numbers at a value's place, in a block from lo on and below hi -/
def RoomI (lo hi : Nat) (w : World) (v : Value) (n : Nat) : Prop :=
  ∃ a c, v = .slice a n c ∧ (n ≠ 0 → ∃ b o, a = some ⟨b, o, none⟩ ∧ lo ≤ b ∧ b < hi ∧ ∃ cs, w.heap[b]? = some (.cells cs 2 (0, 0)) ∧ o + n ≤ cs.size)
theorem RoomI.keep {lo hi n : Nat} {w w' : World} {v : Value} (h : RoomI lo hi w v n) (hm : Mk lo hi w w') : RoomI lo hi w' v n := by
  obtain ⟨a, c, e, h3⟩ := h
  refine ⟨a, c, e, fun hn => ?_⟩
  obtain ⟨b, o, e, h1, h2, cs, h4, h5⟩ := h3 hn
  obtain ⟨cs', h6, h7⟩ := hm.typ b cs _ h4
  exact ⟨b, o, e, h1, h2, cs', h6, by omega⟩
theorem RoomI.of_ints {lo hi : Nat} {w : World} {v : Value} {xs : List Int} (h : IntsF lo w v xs) (hh : w.heap.size ≤ hi) : RoomI lo hi w v xs.length := by
  obtain ⟨a, c, e, _, h3⟩ := h
  refine ⟨a, c, e, fun hn => ?_⟩
  obtain ⟨b, o, e, h1, ⟨cs, h4, h5⟩, _⟩ := h3 (by intro e; rw [e] at hn; exact hn rfl)
  exact ⟨b, o, e, h1, Nat.lt_of_lt_of_le (blk_lt h4) hh, cs, h4, h5⟩
theorem room_cell {w : World} {b i : Nat} {cs : Array Value} {T : TypeId} (h : w.heap[b]? = some (.cells cs T (0, 0))) (hi : i < cs.size) : (∃ y, w.cell? ⟨b, i, none⟩ = some y) ∧ w.frozen? ⟨b, i, none⟩ = false := by
  refine ⟨⟨cs[i], ?_⟩, frozen_of_row _ _ _ _ _ h⟩
  rw [cell_of_row _ _ _ _ _ _ h]
  exact Array.getElem?_eq_getElem hi

set_option maxHeartbeats 3200000 in
set_option maxRecDepth 100000 in
theorem markInts_room (lo hi n : Nat) (v : Value) (k : Nat) (w : World) (h : RoomI lo hi w v n) (hn : n ≤ 1048576) (hk : k ≤ 100000000000000) :
    Calls Try.prog 67 #[v, .int .i64 k] w fun e w' => e = .returned (.int .i64 ((k + n : Nat) : Int)) ∧ Mk lo hi w w' ∧ SameT 99 w w' ∧ SameT 85 w w' ∧ w'.heap.size = w.heap.size := by
  obtain ⟨a, c, rfl, hh⟩ := h
  have HH : Hid (n ≠ 0 → ∃ b o, a = some ⟨b, o, none⟩ ∧ lo ≤ b ∧ b < hi ∧ ∃ cs, w.heap[b]? = some (.cells cs 2 (0, 0)) ∧ o + n ≤ cs.size) := hh
  clear hh
  go_enter Try.func67, Try.ntmps67
  go_wp2
  go_loopw [1, 5] (fun x i wr => ∃ j : Nat, j ≤ n ∧ i = .int .i64 j ∧ x = .int .i64 ((k + j : Nat) : Int) ∧ Mk lo hi w wr ∧ SameT 99 w wr ∧ SameT 85 w wr ∧ wr.heap.size = w.heap.size) (fun _ i _ => n - (intOf i).toNat)
  case atStart => exact ⟨0, Nat.zero_le _, rfl, rfl, Mk.refl _ _ _, SameT.refl _ _, SameT.refl _ _, rfl⟩
  case round =>
    obtain ⟨j, hj, rfl, rfl, hm, hs1, hs2, hz⟩ := hrel
    have HM : Hid (Mk lo hi w wr ∧ SameT 99 w wr ∧ SameT 85 w wr ∧ wr.heap.size = w.heap.size) := ⟨hm, hs1, hs2, hz⟩
    by_cases hlt : j < n
    · obtain ⟨b, o, rfl, hb1, hb2, cs, hc, hsz⟩ := HH.out (by omega)
      obtain ⟨cs', hc', hsz'⟩ := hm.typ b cs _ hc
      obtain ⟨⟨y, hy⟩, hf⟩ := room_cell (i := o + j) hc' (by omega)
      have hbl := blk_lt hc'
      have HS : Hid (Mk lo hi w (wr.setCell ⟨b, o + j, none⟩ (.int .i64 ((k + j : Nat) : Int))) ∧ SameT 99 w (wr.setCell ⟨b, o + j, none⟩ (.int .i64 ((k + j : Nat) : Int))) ∧ SameT 85 w (wr.setCell ⟨b, o + j, none⟩ (.int .i64 ((k + j : Nat) : Int))) ∧ (wr.setCell ⟨b, o + j, none⟩ (.int .i64 ((k + j : Nat) : Int))).heap.size = w.heap.size) :=
        ⟨hm.trans (Mk.set hb1 hb2 _ _ ⟨_, _, hc'⟩), hs1.trans (SameT.set hc' (by decide) _ _), hs2.trans (SameT.set hc' (by decide) _ _), by rw [World.size_setCell]; exact hz⟩
      have hj0 : (0 : Int) ≤ (j : Int) := by omega
      have hj1 : (j : Int) < (n : Int) := by omega
      clear hm hs1 hs2 hz hc hc' hsz hsz'
      go_wp2
      go_roundw
      case rel => exact ⟨j + 1, by omega, by go_num, by go_num, HS.out⟩
      case measure => simp [intOf]; omega
    · have hj2 : j = n := by omega
      subst hj2
      clear hm hs1 hs2 hz
      go_wp2
      go_ret
      exact ⟨rfl, HM.out⟩
end Go.Proofs.Ytbgnmocbpigpmaa
