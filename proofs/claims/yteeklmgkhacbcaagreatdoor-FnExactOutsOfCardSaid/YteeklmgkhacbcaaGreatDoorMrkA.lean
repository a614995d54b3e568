/-
  A list's result in its block (MkA), what a marking leaves (MarkR1): shared by the laws of MarksOf and OutsOf.
-/
import Derived.Test.YteeklmgkhacbcaaGreatDoorTreeTo2
import Derived.Laws.IdiomStrings
import Derived.Test.YteeklmgkhacbcaaGreatDoorTF4
import Derived.Test.YteeklmgkhacbcaaGreatDoorStr
import Derived.Test.YteeklmgkhacbcaaGreatDoorOutsI
import Derived.Deep.Cut
namespace Go.Proofs.YteeklmgkhacbcaaGreatDoor
open Go.RowKit
set_option linter.unusedVariables false
attribute [local go_sem] bs_size bs_get bs_extract bs_append bs_eq bs_toList
def dg (m : Nat) : UInt8 := UInt8.ofNat (48 + m % 10)
theorem dg_val (m : Nat) : (dg m).toNat = 48 + m % 10 := by unfold dg; simp; omega
def mtF : Nat → Nat → List UInt8 → List UInt8
 | 0, _, out => out
 | f + 1, k, out => if k = 0 then out else mtF f (k / 10) (dg k :: out)
theorem mtF_fuel : ∀ (f f' k : Nat) (out : List UInt8), k ≤ f → k ≤ f' → mtF f k out = mtF f' k out := by
 intro f
 induction f with
 | zero =>
  intro f' k out h h'
  have : k = 0 := by omega
  subst this; cases f' <;> simp [mtF]
 | succ f ih =>
  intro f' k out h h'
  by_cases hk : k = 0
  ·subst hk; cases f' <;> simp [mtF]
  ·cases f' with
   | zero => omega
   | succ f' =>
    simp only [mtF, if_neg hk]
    exact ih f' _ _ (by omega) (by omega)
def mt (k : Nat) : List UInt8 := if k = 0 then [109, 48] else 109 :: mtF k k []
theorem mtF_step (k : Nat) (out : List UInt8) (h : k ≠ 0) : mtF k k out = mtF (k / 10) (k / 10) (dg k :: out) := by
 cases k with
 | zero => exact absurd rfl h
 | succ k =>
  have e : mtF (k + 1) (k + 1) out = mtF k ((k + 1) / 10) (dg (k + 1) :: out) := by simp [mtF]
  rw [e]
  exact mtF_fuel _ _ _ _ (by omega) (Nat.le_refl _)
theorem conv1 (w : World) (m g : Nat) (hc : w.cell? ⟨g, 0, none⟩ = some (.int .u8 (48 + (m : Int) % 10))) :
  (convert 118 9 (.slice (some ⟨g, 0, none⟩) 1 1)).run Tryz.prog w = .ok (.string (bs [dg m])) w := by
 have h := run_convert_bytes_back (P := Tryz.prog) w 118 9 5 ⟨g, 0, none⟩ 1 [dg m] Tryz.underlying118 Tryz.underlying5 Tryz.underlying9 (by
  intro j hj
  match j, hj with
  | 0, _ =>
   show w.cell? (Addr.add ⟨g, 0, none⟩ 0) = some (.int .u8 (((dg m).toNat : Nat) : Int))
   rw [dg_val]
   simp [Addr.add, hc])
 exact h
theorem retSB {a b : ByteArray} (h : a = b) : Ending.returned (.string a) = Ending.returned (.string b) := by rw [h]
set_option maxHeartbeats 1600000 in
set_option maxRecDepth 20000 in
theorem markText_any (k : Nat) (w : World) (hk : k ≤ 1000000000000000) : Calls Tryz.prog 56 #[.int .i64 k] w fun e w' => e = .returned (.string (bs (mt k))) ∧ Below w.heap.size w w' := by
 by_cases h0 : k = 0
 ·subst h0
  go_enter Tryz.func56, Tryz.ntmps56
  go_wp2
  go_ret
  exact ⟨rfl, Below.refl _ _⟩
 ·have hm : mt k = 109 :: mtF k k [] := if_neg h0
  rw [hm]
  have hk0 : (0 : Int) < (k : Int) := by omega
  clear hm h0
  go_enter Tryz.func56, Tryz.ntmps56
  go_wp2
  go_loopw [0, 3] (fun v o wr => ∃ (m : Nat) (out : List UInt8), v = .int .i64 m ∧ o = .string (bs out) ∧ out.length + m ≤ k ∧ mtF m m out = mtF k k [] ∧ Below w.heap.size w wr) (fun v _ _ => (intOf v).toNat)
  case atStart => exact ⟨k, [], rfl, rfl, by simp, rfl, Below.refl _ _⟩
  case round =>
   obtain ⟨m, out, rfl, rfl, hmo, hmt, hB⟩ := hrel
   have HMT : Hid (mtF m m out = mtF k k []) := hmt
   have hB' := hB.alloc hB.size (.cells #[.int .u8 (48 + (m : Int) % 10)] 5)
   clear hmt
   by_cases hm : m = 0
   ·subst hm
    clear hB'
    go_wp2
    go_ret
    refine ⟨?_, hB⟩
    rw [← HMT.out]
    refine retSB ?_
    rw [show (ByteArray.mk #[109]) = bs [109] from rfl, bs_append]
    rfl
   ·have hm0 : (0 : Int) < (m : Int) := by omega
    have HNE : Hid (m ≠ 0) := hm
    clear hm
    have hcv := conv1 (wr.alloc (.cells #[.int .u8 (48 + (m : Int) % 10)] 5)) m wr.heap.size (by simp)
    go_wp2
    go_roundw
    case rel => exact ⟨m / 10, dg m :: out, by go_num, by first | rfl | (rw [bs_append]; rfl), by simp; omega, by rw [← HMT.out, mtF_step m out HNE.out], hB'⟩
    case measure => simp [intOf]; omega
structure Mk (lo hi : Nat) (w w' : World) : Prop where
 bel : Below lo w w'
 out : ∀ b, hi ≤ b → b < w.heap.size → w'.heap[b]? = w.heap[b]?
 typ : ∀ (b : Nat) (cs : Array Value) (T : TypeId), w.heap[b]? = some (.cells cs T (0, 0)) → ∃ cs' : Array Value, w'.heap[b]? = some (.cells cs' T (0, 0)) ∧ cs'.size = cs.size
theorem Mk.refl (lo hi : Nat) (w : World) : Mk lo hi w w := ⟨Below.refl _ _, fun _ _ _ => rfl, fun b cs T h => ⟨cs, h, rfl⟩⟩
theorem Mk.trans {lo hi : Nat} {a b c : World} (h : Mk lo hi a b) (k : Mk lo hi b c) : Mk lo hi a c :=
 ⟨h.bel.trans k.bel, fun x hx hl => (k.out x hx (Nat.lt_of_lt_of_le hl h.bel.size)).trans (h.out x hx hl), fun x cs T hc => by
  obtain ⟨c1, h1, e1⟩ := h.typ x cs T hc
  obtain ⟨c2, h2, e2⟩ := k.typ x c1 T h1
  exact ⟨c2, h2, e2.trans e1⟩⟩
theorem Mk.of_below {lo hi : Nat} {w w' : World} (h : Below w.heap.size w w') (hl : lo ≤ w.heap.size) : Mk lo hi w w' :=
 ⟨h.mono hl, fun b _ hb => h.block b hb, fun b cs T hc => ⟨cs, blk hc h, rfl⟩⟩
theorem Mk.set {lo hi g : Nat} {w : World} (hl : lo ≤ g) (hh : g < hi) (i : Nat) (u : Value) (hc : ∃ (cs : Array Value) (T : TypeId), w.heap[g]? = some (.cells cs T (0, 0))) : Mk lo hi w (w.setCell ⟨g, i, none⟩ u) := by
 refine ⟨below_set w g i u hl, fun b hb _ => Below.heap_setCell _ _ _ _ (by simp; omega), fun b cs T h => ?_⟩
 by_cases e : b = g
 ·subst e
  exact ⟨_, heap_setCell_same w b i _ _ u h, by simp⟩
 ·exact ⟨cs, (Below.heap_setCell _ _ _ _ (by simpa using e)).trans h, rfl⟩
def SameT (T : TypeId) (w w' : World) : Prop := ∀ (b : Nat) (cs : Array Value), w.heap[b]? = some (.cells cs T (0, 0)) → w'.heap[b]? = some (.cells cs T (0, 0))
theorem SameT.refl (T : TypeId) (w : World) : SameT T w w := fun _ _ h => h
theorem SameT.trans {T : TypeId} {a b c : World} (h : SameT T a b) (k : SameT T b c) : SameT T a c := fun x cs hc => k x cs (h x cs hc)
theorem SameT.of_below {T : TypeId} {w w' : World} (h : Below w.heap.size w w') : SameT T w w' := fun b cs hc => blk hc h
theorem SameT.set {T U : TypeId} {g : Nat} {w : World} {cs : Array Value} (hc : w.heap[g]? = some (.cells cs U (0, 0))) (hne : U ≠ T) (i : Nat) (u : Value) : SameT T w (w.setCell ⟨g, i, none⟩ u) := fun b ds hb => by
 have e : b ≠ g := fun e => by subst e; rw [hc] at hb; simp at hb; exact hne hb.2
 exact (Below.heap_setCell _ _ _ _ (by simpa using e)).trans hb
def RoomI (lo hi : Nat) (w : World) (v : Value) (n : Nat) : Prop :=
 ∃ a c, v = .slice a n c ∧ (n ≠ 0 → ∃ b o, a = some ⟨b, o, none⟩ ∧ lo ≤ b ∧ b < hi ∧ ∃ cs, w.heap[b]? = some (.cells cs 2 (0, 0)) ∧ o + n ≤ cs.size)
theorem RoomI.keep {lo hi n : Nat} {w w' : World} {v : Value} (h : RoomI lo hi w v n) (hm : Mk lo hi w w') : RoomI lo hi w' v n := by
 obtain ⟨a, c, e, h3⟩ := h
 refine ⟨a, c, e, fun hn => ?_⟩
 obtain ⟨b, o, e, h1, h2, cs, h4, h5⟩ := h3 hn
 obtain ⟨cs', h6, h7⟩ := hm.typ b cs _ h4
 exact ⟨b, o, e, h1, h2, cs', h6, by omega⟩
theorem RoomI.of_ints {lo hi : Nat} {w : World} {v : Value} {xs : List Int} (h : IntsF lo w v xs) (hh : w.heap.size ≤ hi) : RoomI lo hi w v xs.length := by
 obtain ⟨a, c, e, _, h3⟩ := h
 refine ⟨a, c, e, fun hn => ?_⟩
 obtain ⟨b, o, e, h1, ⟨cs, h4, h5⟩, _⟩ := h3 (by intro e; rw [e] at hn; exact hn rfl)
 exact ⟨b, o, e, h1, Nat.lt_of_lt_of_le (blk_lt h4) hh, cs, h4, h5⟩
theorem room_cell {w : World} {b i : Nat} {cs : Array Value} {T : TypeId} (h : w.heap[b]? = some (.cells cs T (0, 0))) (hi : i < cs.size) : (∃ y, w.cell? ⟨b, i, none⟩ = some y) ∧ w.frozen? ⟨b, i, none⟩ = false := by
 refine ⟨⟨cs[i], ?_⟩, frozen_of_row _ _ _ _ _ h⟩
 rw [cell_of_row _ _ _ _ _ _ h]
 exact Array.getElem?_eq_getElem hi
set_option maxHeartbeats 3200000 in
set_option maxRecDepth 100000 in
theorem markInts_room (lo hi n : Nat) (v : Value) (k : Nat) (w : World) (h : RoomI lo hi w v n) (hn : n ≤ 1048576) (hk : k ≤ 100000000000000) :
  Calls Tryz.prog 18 #[v, .int .i64 k] w fun e w' => e = .returned (.int .i64 ((k + n : Nat) : Int)) ∧ Mk lo hi w w' ∧ SameT 88 w w' ∧ SameT 86 w w' ∧ w'.heap.size = w.heap.size := by
 obtain ⟨a, c, rfl, hh⟩ := h
 have HH : Hid (n ≠ 0 → ∃ b o, a = some ⟨b, o, none⟩ ∧ lo ≤ b ∧ b < hi ∧ ∃ cs, w.heap[b]? = some (.cells cs 2 (0, 0)) ∧ o + n ≤ cs.size) := hh
 clear hh
 go_enter Tryz.func18, Tryz.ntmps18
 go_wp2
 go_loopw [1, 5] (fun x i wr => ∃ j : Nat, j ≤ n ∧ i = .int .i64 j ∧ x = .int .i64 ((k + j : Nat) : Int) ∧ Mk lo hi w wr ∧ SameT 88 w wr ∧ SameT 86 w wr ∧ wr.heap.size = w.heap.size) (fun _ i _ => n - (intOf i).toNat)
 case atStart => exact ⟨0, Nat.zero_le _, rfl, rfl, Mk.refl _ _ _, SameT.refl _ _, SameT.refl _ _, rfl⟩
 case round =>
  obtain ⟨j, hj, rfl, rfl, hm, hs1, hs2, hz⟩ := hrel
  have HM : Hid (Mk lo hi w wr ∧ SameT 88 w wr ∧ SameT 86 w wr ∧ wr.heap.size = w.heap.size) := ⟨hm, hs1, hs2, hz⟩
  by_cases hlt : j < n
  ·obtain ⟨b, o, rfl, hb1, hb2, cs, hc, hsz⟩ := HH.out (by omega)
   obtain ⟨cs', hc', hsz'⟩ := hm.typ b cs _ hc
   obtain ⟨⟨y, hy⟩, hf⟩ := room_cell (i := o + j) hc' (by omega)
   have hbl := blk_lt hc'
   have HS : Hid (Mk lo hi w (wr.setCell ⟨b, o + j, none⟩ (.int .i64 ((k + j : Nat) : Int))) ∧ SameT 88 w (wr.setCell ⟨b, o + j, none⟩ (.int .i64 ((k + j : Nat) : Int))) ∧ SameT 86 w (wr.setCell ⟨b, o + j, none⟩ (.int .i64 ((k + j : Nat) : Int))) ∧ (wr.setCell ⟨b, o + j, none⟩ (.int .i64 ((k + j : Nat) : Int))).heap.size = w.heap.size) :=
    ⟨hm.trans (Mk.set hb1 hb2 _ _ ⟨_, _, hc'⟩), hs1.trans (SameT.set hc' (by decide) _ _), hs2.trans (SameT.set hc' (by decide) _ _), by rw [World.size_setCell]; exact hz⟩
   have hj0 : (0 : Int) ≤ (j : Int) := by omega
   have hj1 : (j : Int) < (n : Int) := by omega
   clear hm hs1 hs2 hz hc hc' hsz hsz'
   go_wp2
   go_roundw
   case rel => exact ⟨j + 1, by omega, by go_num, by go_num, HS.out⟩
   case measure => simp [intOf]; omega
  ·have hj2 : j = n := by omega
   subst hj2
   clear hm hs1 hs2 hz
   go_wp2
   go_ret
   exact ⟨rfl, HM.out⟩
def RoomV (lo hi : Nat) (w : World) (v : Value) (n : Nat) : Prop :=
 ∃ a c, v = .slice a n c ∧ (n ≠ 0 → ∃ b o, a = some ⟨b, o, none⟩ ∧ lo ≤ b ∧ b < hi ∧ ∃ cs, w.heap[b]? = some (.cells cs 86 (0, 0)) ∧ o + n * 4 ≤ cs.size)
theorem RoomV.keep {lo hi n : Nat} {w w' : World} {v : Value} (h : RoomV lo hi w v n) (hm : Mk lo hi w w') : RoomV lo hi w' v n := by
 obtain ⟨a, c, e, h3⟩ := h
 refine ⟨a, c, e, fun hn => ?_⟩
 obtain ⟨b, o, e, h1, h2, cs, h4, h5⟩ := h3 hn
 obtain ⟨cs', h6, h7⟩ := hm.typ b cs _ h4
 exact ⟨b, o, e, h1, h2, cs', h6, by omega⟩
theorem RoomV.of_vars {lo hi : Nat} {w : World} {v : Value} {xs : List LVar} (h : VarsF lo w v xs) (hh : w.heap.size ≤ hi) : RoomV lo hi w v xs.length := by
 obtain ⟨a, c, e, _, h3⟩ := h
 refine ⟨a, c, e, fun hn => ?_⟩
 obtain ⟨b, o, e, h1, ⟨cs, h4, h5⟩, _⟩ := h3 (by intro e; rw [e] at hn; exact hn rfl)
 exact ⟨b, o, e, h1, Nat.lt_of_lt_of_le (blk_lt h4) hh, cs, h4, h5⟩
theorem set4_mk {lo hi b : Nat} {w w1 : World} {cs : Array Value} {U : TypeId} (hm : Mk lo hi w w1) (hs : SameT 88 w w1) (hz : w.heap.size ≤ w1.heap.size) (hc : w1.heap[b]? = some (.cells cs U (0, 0))) (hU : U ≠ 88) (h1 : lo ≤ b) (h2 : b < hi) (i0 i1 i2 i3 : Nat) (u0 u1 u2 u3 : Value) :
  Mk lo hi w ((((w1.setCell ⟨b, i0, none⟩ u0).setCell ⟨b, i1, none⟩ u1).setCell ⟨b, i2, none⟩ u2).setCell ⟨b, i3, none⟩ u3) ∧ SameT 88 w ((((w1.setCell ⟨b, i0, none⟩ u0).setCell ⟨b, i1, none⟩ u1).setCell ⟨b, i2, none⟩ u2).setCell ⟨b, i3, none⟩ u3) ∧ w.heap.size ≤ ((((w1.setCell ⟨b, i0, none⟩ u0).setCell ⟨b, i1, none⟩ u1).setCell ⟨b, i2, none⟩ u2).setCell ⟨b, i3, none⟩ u3).heap.size := by
 have c0 := heap_setCell_same w1 b i0 _ _ u0 hc
 have c1 := heap_setCell_same _ b i1 _ _ u1 c0
 have c2 := heap_setCell_same _ b i2 _ _ u2 c1
 exact ⟨(((hm.trans (Mk.set h1 h2 _ _ ⟨_, _, hc⟩)).trans (Mk.set h1 h2 _ _ ⟨_, _, c0⟩)).trans (Mk.set h1 h2 _ _ ⟨_, _, c1⟩)).trans (Mk.set h1 h2 _ _ ⟨_, _, c2⟩),
  (((hs.trans (SameT.set hc hU _ _)).trans (SameT.set c0 hU _ _)).trans (SameT.set c1 hU _ _)).trans (SameT.set c2 hU _ _), by simpa using hz⟩
set_option maxHeartbeats 3200000 in
set_option maxRecDepth 100000 in
theorem markVars_room (lo hi n : Nat) (v : Value) (k : Nat) (w : World) (h : RoomV lo hi w v n) (hn : n ≤ 1048576) (hk : k ≤ 100000000) (hhi : hi ≤ w.heap.size) (hlo : lo ≤ hi) :
  Calls Tryz.prog 33 #[v, .int .i64 k] w fun e w' => e = .returned (.int .i64 ((k + n * 4 : Nat) : Int)) ∧ Mk lo hi w w' ∧ SameT 88 w w' ∧ w.heap.size ≤ w'.heap.size := by
 obtain ⟨a, c, rfl, hh⟩ := h
 have HH : Hid (n ≠ 0 → ∃ b o, a = some ⟨b, o, none⟩ ∧ lo ≤ b ∧ b < hi ∧ ∃ cs, w.heap[b]? = some (.cells cs 86 (0, 0)) ∧ o + n * 4 ≤ cs.size) := hh
 have HMT : Hid (∀ (k : Nat) (w : World), k ≤ 1000000000000000 → Calls Tryz.prog 56 #[.int .i64 k] w fun e w' => e = .returned (.string (bs (mt k))) ∧ Below w.heap.size w w') := fun k w h => markText_any k w h
 have HHI : Hid (hi ≤ w.heap.size ∧ lo ≤ hi) := ⟨hhi, hlo⟩
 clear hh hhi hlo
 go_enter Tryz.func33, Tryz.ntmps33
 go_wp2
 go_loopw [1, 5] (fun x i wr => ∃ j : Nat, j ≤ n ∧ i = .int .i64 j ∧ x = .int .i64 ((k + j * 4 : Nat) : Int) ∧ Mk lo hi w wr ∧ SameT 88 w wr ∧ w.heap.size ≤ wr.heap.size) (fun _ i _ => n - (intOf i).toNat)
 case atStart => exact ⟨0, Nat.zero_le _, rfl, by simp, Mk.refl _ _ _, SameT.refl _ _, Nat.le_refl _⟩
 case round =>
  obtain ⟨j, hj, rfl, rfl, hm, hs1, hz⟩ := hrel
  have HM : Hid (Mk lo hi w wr ∧ SameT 88 w wr ∧ w.heap.size ≤ wr.heap.size) := ⟨hm, hs1, hz⟩
  obtain ⟨m, hme⟩ : ∃ m, m = k + j * 4 := ⟨_, rfl⟩
  have HME : Hid (m = k + j * 4) := hme
  have hmle : m ≤ 110000000 := by omega
  rw [← hme]
  clear hme
  by_cases hlt : j < n
  ·obtain ⟨b, o, rfl, hb1, hb2, cs, hc, hsz⟩ := HH.out (by omega)
   have HC : Hid (∃ cs' : Array Value, wr.heap[b]? = some (.cells cs' 86 (0, 0)) ∧ cs'.size = cs.size) := hm.typ b cs _ hc
   have hj0 : (0 : Int) ≤ (j : Int) := by omega
   have hj1 : (j : Int) < (n : Int) := by omega
   clear hm hs1 hc
   go_wp2_with fail
   refine (HMT.out m _ (by omega)).mono ?_
   rintro e w1 ⟨rfl, hb⟩
   obtain ⟨cs', hc', hsz'⟩ := HC.out
   have hc1 := blk hc' hb
   obtain ⟨⟨y0, d0⟩, f0⟩ := room_cell (i := o + j * 4) hc1 (by omega)
   obtain ⟨⟨y1, d1⟩, f1⟩ := room_cell (i := o + j * 4 + 1) hc1 (by omega)
   obtain ⟨⟨y2, d2⟩, f2⟩ := room_cell (i := o + j * 4 + 2) hc1 (by omega)
   obtain ⟨⟨y3, d3⟩, f3⟩ := room_cell (i := o + j * 4 + 3) hc1 (by omega)
   have hbl := blk_lt hc1
   have HS := set4_mk (hm := HM.out.1.trans (Mk.of_below hb (by have := HM.out.2.2; have := HHI.out; omega))) (hs := HM.out.2.1.trans (SameT.of_below hb)) (hz := Nat.le_trans HM.out.2.2 hb.size) hc1 (by decide) hb1 hb2
   have HS2 : Hid (∀ (i0 i1 i2 i3 : Nat) (u0 u1 u2 u3 : Value), Mk lo hi w ((((w1.setCell ⟨b, i0, none⟩ u0).setCell ⟨b, i1, none⟩ u1).setCell ⟨b, i2, none⟩ u2).setCell ⟨b, i3, none⟩ u3) ∧ SameT 88 w ((((w1.setCell ⟨b, i0, none⟩ u0).setCell ⟨b, i1, none⟩ u1).setCell ⟨b, i2, none⟩ u2).setCell ⟨b, i3, none⟩ u3) ∧ w.heap.size ≤ ((((w1.setCell ⟨b, i0, none⟩ u0).setCell ⟨b, i1, none⟩ u1).setCell ⟨b, i2, none⟩ u2).setCell ⟨b, i3, none⟩ u3).heap.size) := HS
   clear HS hb hc' hc1 hsz' HC hz hsz
   go_wp2_with fail
   go_roundw
   case rel => exact ⟨j + 1, by omega, by go_num, by rw [show k + (j + 1) * 4 = m + 4 from by have := HME.out; omega]; go_num, HS2.out _ _ _ _ _ _ _ _⟩
   case measure => simp [intOf]; omega
  ·have hj2 : j = n := by omega
   subst hj2
   clear hm hs1 hz
   go_wp2
   go_ret
   exact ⟨by rw [HME.out]; rfl, HM.out⟩
def NodesIn (lo hi : Nat) (w : World) (b o n : Nat) : Prop := lo ≤ b ∧ b < hi ∧ ∃ cs, w.heap[b]? = some (.cells cs 88 (0, 0)) ∧ o + n * 8 ≤ cs.size ∧
 ∀ i, i < n → ∃ v5 v6 v7 l5 l6 l7, cs[o + i * 8 + 5]? = some v5 ∧ cs[o + i * 8 + 6]? = some v6 ∧ cs[o + i * 8 + 7]? = some v7 ∧ (RoomI lo hi w v5 l5 ∧ l5 ≤ 1048576) ∧ (RoomI lo hi w v6 l6 ∧ l6 ≤ 1048576) ∧ (RoomI lo hi w v7 l7 ∧ l7 ≤ 1048576)
theorem NodesIn.keep {lo hi b o n : Nat} {w w' : World} (h : NodesIn lo hi w b o n) (hm : Mk lo hi w w') (hs : SameT 88 w w') : NodesIn lo hi w' b o n := by
 obtain ⟨h1, h2, cs, h3, h4, h5⟩ := h
 refine ⟨h1, h2, cs, hs b cs h3, h4, fun i hi => ?_⟩
 obtain ⟨v5, v6, v7, l5, l6, l7, c5, c6, c7, r5, r6, r7⟩ := h5 i hi
 exact ⟨v5, v6, v7, l5, l6, l7, c5, c6, c7, ⟨r5.1.keep hm, r5.2⟩, ⟨r6.1.keep hm, r6.2⟩, ⟨r7.1.keep hm, r7.2⟩⟩
theorem NodesIn.set {lo hi b o n j t : Nat} {w : World} (h : NodesIn lo hi w b o n) (ht : t < 5) (u : Value) : NodesIn lo hi (w.setCell ⟨b, o + j * 8 + t, none⟩ u) b o n := by
 obtain ⟨h1, h2, cs, h3, h4, h5⟩ := h
 have hm : Mk lo hi w (w.setCell ⟨b, o + j * 8 + t, none⟩ u) := Mk.set h1 h2 _ _ ⟨_, _, h3⟩
 refine ⟨h1, h2, _, heap_setCell_same w b (o + j * 8 + t) _ _ u h3, by simpa using h4, fun i hi => ?_⟩
 obtain ⟨v5, v6, v7, l5, l6, l7, c5, c6, c7, r5, r6, r7⟩ := h5 i hi
 refine ⟨v5, v6, v7, l5, l6, l7, ?_, ?_, ?_, ⟨r5.1.keep hm, r5.2⟩, ⟨r6.1.keep hm, r6.2⟩, ⟨r7.1.keep hm, r7.2⟩⟩
 ·rw [Array.getElem?_setIfInBounds_ne (by omega)]; exact c5
 ·rw [Array.getElem?_setIfInBounds_ne (by omega)]; exact c6
 ·rw [Array.getElem?_setIfInBounds_ne (by omega)]; exact c7
theorem NodesIn.mk {lo hi b o n i : Nat} {w : World} (h : NodesIn lo hi w b o n) (u : Value) : Mk lo hi w (w.setCell ⟨b, i, none⟩ u) := by
 obtain ⟨h1, h2, cs, h3, _⟩ := h
 exact Mk.set h1 h2 _ _ ⟨_, _, h3⟩
theorem NodesIn.cell {lo hi b o n j t : Nat} {w : World} (h : NodesIn lo hi w b o n) (hj : j < n) (ht : t < 8) : (∃ y, w.cell? ⟨b, o + j * 8 + t, none⟩ = some y) ∧ w.frozen? ⟨b, o + j * 8 + t, none⟩ = false := by
 obtain ⟨_, _, cs, h3, h4, _⟩ := h
 exact room_cell h3 (by omega)
theorem NodesIn.lists {lo hi b o n j : Nat} {w : World} (h : NodesIn lo hi w b o n) (hj : j < n) : ∃ v5 v6 v7 l5 l6 l7, w.cell? ⟨b, o + j * 8 + 5, none⟩ = some v5 ∧ w.cell? ⟨b, o + j * 8 + 6, none⟩ = some v6 ∧ w.cell? ⟨b, o + j * 8 + 7, none⟩ = some v7 ∧ (RoomI lo hi w v5 l5 ∧ l5 ≤ 1048576) ∧ (RoomI lo hi w v6 l6 ∧ l6 ≤ 1048576) ∧ (RoomI lo hi w v7 l7 ∧ l7 ≤ 1048576) := by
 obtain ⟨_, _, cs, h3, h4, h5⟩ := h
 obtain ⟨v5, v6, v7, l5, l6, l7, c5, c6, c7, r5, r6, r7⟩ := h5 j hj
 exact ⟨v5, v6, v7, l5, l6, l7, (cell_of_row _ _ _ _ _ _ h3).trans c5, (cell_of_row _ _ _ _ _ _ h3).trans c6, (cell_of_row _ _ _ _ _ _ h3).trans c7, r5, r6, r7⟩
def RoomN (lo hi : Nat) (w : World) (v : Value) (n : Nat) : Prop := ∃ a c, v = .slice a n c ∧ (n ≠ 0 → ∃ b o, a = some ⟨b, o, none⟩ ∧ NodesIn lo hi w b o n)
theorem RoomN.keep {lo hi n : Nat} {w w' : World} {v : Value} (h : RoomN lo hi w v n) (hm : Mk lo hi w w') (hs : SameT 88 w w') : RoomN lo hi w' v n := by
 obtain ⟨a, c, e, h3⟩ := h
 refine ⟨a, c, e, fun hn => ?_⟩
 obtain ⟨b, o, e, h⟩ := h3 hn
 exact ⟨b, o, e, h.keep hm hs⟩
theorem RoomN.of_nodes {lo hi : Nat} {w : World} {v : Value} {xs : List LNode} (h : NodesF lo w v xs) (hh : w.heap.size ≤ hi) (hz : ∀ n ∈ xs, n.kids.length ≤ 1048576 ∧ n.thn.length ≤ 1048576 ∧ n.els.length ≤ 1048576) : RoomN lo hi w v xs.length := by
 obtain ⟨a, c, e, _, h3⟩ := h
 refine ⟨a, c, e, fun hn => ?_⟩
 obtain ⟨b, o, e, h1, ⟨cs, h4, h5⟩, h6⟩ := h3 (by intro e; rw [e] at hn; exact hn rfl)
 refine ⟨b, o, e, h1, Nat.lt_of_lt_of_le (blk_lt h4) hh, cs, h4, h5, fun i hi => ?_⟩
 obtain ⟨x, hx⟩ : ∃ x, xs[i]? = some x := ⟨xs[i], List.getElem?_eq_getElem hi⟩
 obtain ⟨vk, vt, ve, hc, hv⟩ := h6 i x hx
 have hz' := hz x (List.mem_of_getElem? hx)
 exact ⟨vk, vt, ve, _, _, _, (cell_of_row _ _ _ _ _ _ h4).symm.trans hc.c5, (cell_of_row _ _ _ _ _ _ h4).symm.trans hc.c6, (cell_of_row _ _ _ _ _ _ h4).symm.trans hc.c7, ⟨.of_ints hv.kids hh, hz'.1⟩, ⟨.of_ints hv.thn hh, hz'.2.1⟩, ⟨.of_ints hv.els hh, hz'.2.2⟩⟩
set_option maxHeartbeats 6400000 in
set_option maxRecDepth 100000 in
theorem markNodes_room (lo hi n : Nat) (v : Value) (k : Nat) (w : World) (h : RoomN lo hi w v n) (hn : n ≤ 1048576) (hk : k ≤ 100000000) (hhi : hi ≤ w.heap.size) (hlo : lo ≤ hi) :
  Calls Tryz.prog 34 #[v, .int .i64 k] w fun e w' => ∃ m : Nat, e = .returned (.int .i64 (m : Int)) ∧ m ≤ 10000000000000 ∧ Mk lo hi w w' ∧ w.heap.size ≤ w'.heap.size := by
 obtain ⟨a, c, rfl, hh⟩ := h
 have HH : Hid (n ≠ 0 → ∃ b o, a = some ⟨b, o, none⟩ ∧ NodesIn lo hi w b o n) := hh
 have HMT : Hid (∀ (k : Nat) (w : World), k ≤ 1000000000000000 → Calls Tryz.prog 56 #[.int .i64 k] w fun e w' => e = .returned (.string (bs (mt k))) ∧ Below w.heap.size w w') := fun k w h => markText_any k w h
 have HMI : Hid (∀ (l : Nat) (v : Value) (k : Nat) (w : World), RoomI lo hi w v l → l ≤ 1048576 → k ≤ 100000000000000 → Calls Tryz.prog 18 #[v, .int .i64 k] w fun e w' => e = .returned (.int .i64 ((k + l : Nat) : Int)) ∧ Mk lo hi w w' ∧ SameT 88 w w' ∧ SameT 86 w w' ∧ w'.heap.size = w.heap.size) := fun l v k w h1 h2 h3 => markInts_room lo hi l v k w h1 h2 h3
 have HHI : Hid (hi ≤ w.heap.size ∧ lo ≤ hi) := ⟨hhi, hlo⟩
 clear hh hhi hlo
 go_enter Tryz.func34, Tryz.ntmps34
 go_wp2
 go_loopw [1, 5] (fun x i wr => ∃ j m : Nat, j ≤ n ∧ i = .int .i64 j ∧ x = .int .i64 (m : Int) ∧ m ≤ 100000000 + j * 3145733 ∧ Mk lo hi w wr ∧ (∀ b o, a = some ⟨b, o, none⟩ → n ≠ 0 → NodesIn lo hi wr b o n) ∧ w.heap.size ≤ wr.heap.size) (fun _ i _ => n - (intOf i).toNat)
 case atStart => exact ⟨0, k, Nat.zero_le _, rfl, rfl, by omega, Mk.refl _ _ _, fun b o e hne => by
  obtain ⟨b', o', e', h⟩ := HH.out hne
  rw [e] at e'; simp at e'; obtain ⟨rfl, rfl⟩ := e'; exact h, Nat.le_refl _⟩
 case round =>
  obtain ⟨j, m, hj, rfl, rfl, hm, hmk, hni, hz⟩ := hrel
  have HM : Hid (Mk lo hi w wr ∧ w.heap.size ≤ wr.heap.size) := ⟨hmk, hz⟩
  by_cases hlt : j < n
  ·obtain ⟨b, o, rfl, _⟩ := HH.out (by omega)
   have hin := hni b o rfl (by omega)
   have HIN : Hid (NodesIn lo hi wr b o n) := hin
   have hbl : b < wr.heap.size := by obtain ⟨_, _, cs, h3, _⟩ := hin; exact blk_lt h3
   obtain ⟨⟨y0, d0⟩, f0⟩ := hin.cell (t := 0) hlt (by omega)
   obtain ⟨⟨y1, d1⟩, f1⟩ := hin.cell (t := 1) hlt (by omega)
   rw [Nat.add_zero] at d0 f0
   have hj0 : (0 : Int) ≤ (j : Int) := by omega
   have hj1 : (j : Int) < (n : Int) := by omega
   have hmb : m ≤ 4000000000000 := by omega
   clear hni hmk hin hz
   have HT2 : Hid (∀ w, Calls Tryz.prog 56 #[.int .i64 ((m : Int) + 1 + 1)] w fun e w' => e = .returned (.string (bs (mt (m + 2)))) ∧ Below w.heap.size w w') := fun w => by
    have := HMT.out (m + 2) w (by omega)
    rwa [show ((m + 2 : Nat) : Int) = (m : Int) + 1 + 1 from by omega] at this
   have HI5 : Hid (∀ (l : Nat) (v : Value) (w : World), RoomI lo hi w v l → l ≤ 1048576 → Calls Tryz.prog 18 #[v, .int .i64 ((m : Int) + 1 + 1 + 1 + 1 + 1)] w fun e w' => e = .returned (.int .i64 ((m + 5 + l : Nat) : Int)) ∧ Mk lo hi w w' ∧ SameT 88 w w' ∧ SameT 86 w w' ∧ w'.heap.size = w.heap.size) := fun l v w h1 h2 => by
    have := HMI.out l v (m + 5) w h1 h2 (by omega)
    rwa [show ((m + 5 : Nat) : Int) = (m : Int) + 1 + 1 + 1 + 1 + 1 from by omega] at this
   have HIN0 : Hid (∀ u0 u1, NodesIn lo hi ((wr.setCell ⟨b, o + j * 8, none⟩ u0).setCell ⟨b, o + j * 8 + 1, none⟩ u1) b o n ∧ Mk lo hi wr ((wr.setCell ⟨b, o + j * 8, none⟩ u0).setCell ⟨b, o + j * 8 + 1, none⟩ u1) ∧ ((wr.setCell ⟨b, o + j * 8, none⟩ u0).setCell ⟨b, o + j * 8 + 1, none⟩ u1).heap.size = wr.heap.size) := fun u0 u1 =>
    ⟨(HIN.out.set (j := j) (t := 0) (by omega) u0).set (j := j) (t := 1) (by omega) u1, (HIN.out.mk (i := o + j * 8) u0).trans ((HIN.out.set (j := j) (t := 0) (by omega) u0).mk u1), by simp⟩
   go_wp2_with fail
   refine (HT2.out _).mono ?_
   rintro e w1 ⟨rfl, hb⟩
   have hwz := (HIN0.out (.int .i64 (m : Int)) (.int .i64 ((m : Int) + 1))).2.2
   have hm0 := (HIN0.out (.int .i64 (m : Int)) (.int .i64 ((m : Int) + 1))).2.1
   have hi0 := (HIN0.out (.int .i64 (m : Int)) (.int .i64 ((m : Int) + 1))).1
   have hlz := HHI.out
   have hwz2 := HM.out.2
   have hmb1 := Mk.of_below (lo := lo) (hi := hi) hb (by omega)
   have hin1 := hi0.keep hmb1 (SameT.of_below hb)
   have HM1 : Hid (Mk lo hi w w1 ∧ w.heap.size ≤ w1.heap.size) := ⟨(HM.out.1.trans hm0).trans hmb1, by have := hb.size; omega⟩
   have HIN1 : Hid (NodesIn lo hi w1 b o n) := hin1
   have hbl1 : b < w1.heap.size := by obtain ⟨_, _, cs, h3, _⟩ := hin1; exact blk_lt h3
   obtain ⟨⟨y2, d2⟩, f2⟩ := hin1.cell (t := 2) hlt (by omega)
   obtain ⟨⟨y3, d3⟩, f3⟩ := hin1.cell (t := 3) hlt (by omega)
   obtain ⟨⟨y4, d4⟩, f4⟩ := hin1.cell (t := 4) hlt (by omega)
   obtain ⟨v5, _, _, l5, _, _, d5, _, _, hr5, _, _⟩ := hin1.lists hlt
   have HR5 : Hid (RoomI lo hi w1 v5 l5 ∧ l5 ≤ 1048576) := hr5
   have HIN2 : Hid (∀ u2 u3 u4, NodesIn lo hi (((w1.setCell ⟨b, o + j * 8 + 2, none⟩ u2).setCell ⟨b, o + j * 8 + 3, none⟩ u3).setCell ⟨b, o + j * 8 + 4, none⟩ u4) b o n ∧ Mk lo hi w1 (((w1.setCell ⟨b, o + j * 8 + 2, none⟩ u2).setCell ⟨b, o + j * 8 + 3, none⟩ u3).setCell ⟨b, o + j * 8 + 4, none⟩ u4) ∧ (((w1.setCell ⟨b, o + j * 8 + 2, none⟩ u2).setCell ⟨b, o + j * 8 + 3, none⟩ u3).setCell ⟨b, o + j * 8 + 4, none⟩ u4).heap.size = w1.heap.size) := fun u2 u3 u4 =>
    ⟨((HIN1.out.set (j := j) (t := 2) (by omega) u2).set (j := j) (t := 3) (by omega) u3).set (j := j) (t := 4) (by omega) u4, ((HIN1.out.mk (i := o + j * 8 + 2) u2).trans ((HIN1.out.set (j := j) (t := 2) (by omega) u2).mk (i := o + j * 8 + 3) u3)).trans (((HIN1.out.set (j := j) (t := 2) (by omega) u2).set (j := j) (t := 3) (by omega) u3).mk (i := o + j * 8 + 4) u4), by simp⟩
   clear hb hm0 hi0 hmb1 hin1 hr5 hwz hwz2 hlz d0 d1 f0 f1 HIN0 HT2 HIN
   go_wp2_with fail
   refine (HI5.out l5 v5 _ (HR5.out.1.keep (HIN2.out _ _ _).2.1) HR5.out.2).mono ?_
   rintro e w3 ⟨rfl, hmk3, hs3, _, hz3⟩
   have hin3 := (HIN2.out _ _ _).1.keep hmk3 hs3
   have HM3 : Hid (Mk lo hi w w3 ∧ w.heap.size ≤ w3.heap.size) := ⟨(HM1.out.1.trans (HIN2.out _ _ _).2.1).trans hmk3, by have := HM1.out.2; have := (HIN2.out (.string (bs (mt (m + 2)))) (.int .i64 ((m : Int) + 1 + 1 + 1)) (.int .i64 ((m : Int) + 1 + 1 + 1 + 1))).2.2; omega⟩
   have HIN3 : Hid (NodesIn lo hi w3 b o n) := hin3
   obtain ⟨_, v6, _, _, l6, _, _, d6, _, _, hr6, _⟩ := hin3.lists hlt
   have HR6 : Hid (RoomI lo hi w3 v6 l6 ∧ l6 ≤ 1048576) := hr6
   have hl5 := HR5.out.2
   obtain ⟨m3, hm3⟩ : ∃ m3, m3 = m + 5 + l5 := ⟨_, rfl⟩
   have hm3b : m3 ≤ m + 5 + 1048576 := by omega
   rw [← hm3]
   clear hmk3 hs3 hz3 hin3 hr6 hm3 d2 d3 d4 d5 f2 f3 f4 HIN2 HR5 HI5 HM1 HIN1
   go_wp2_with fail
   refine (HMI.out l6 v6 m3 _ HR6.out.1 HR6.out.2 (by omega)).mono ?_
   rintro e w4 ⟨rfl, hmk4, hs4, _, hz4⟩
   have hin4 := HIN3.out.keep hmk4 hs4
   have HM4 : Hid (Mk lo hi w w4 ∧ w.heap.size ≤ w4.heap.size) := ⟨HM3.out.1.trans hmk4, by have := HM3.out.2; omega⟩
   have HIN4 : Hid (NodesIn lo hi w4 b o n) := hin4
   obtain ⟨_, _, v7, _, _, l7, _, _, d7, _, _, hr7⟩ := hin4.lists hlt
   have HR7 : Hid (RoomI lo hi w4 v7 l7 ∧ l7 ≤ 1048576) := hr7
   have hl6 := HR6.out.2
   obtain ⟨m4, hm4⟩ : ∃ m4, m4 = m3 + l6 := ⟨_, rfl⟩
   have hm4b : m4 ≤ m3 + 1048576 := by omega
   rw [← hm4]
   clear hmk4 hs4 hz4 hin4 hr7 hm4 d6 HIN3 HR6 HM3
   go_wp2_with fail
   refine (HMI.out l7 v7 m4 _ HR7.out.1 HR7.out.2 (by omega)).mono ?_
   rintro e w5 ⟨rfl, hmk5, hs5, _, hz5⟩
   have HM5 : Hid (Mk lo hi w w5 ∧ w.heap.size ≤ w5.heap.size) := ⟨HM4.out.1.trans hmk5, by have := HM4.out.2; omega⟩
   have HIN5 : Hid (NodesIn lo hi w5 b o n) := HIN4.out.keep hmk5 hs5
   have hl7 := HR7.out.2
   obtain ⟨m5, hm5⟩ : ∃ m5, m5 = m4 + l7 := ⟨_, rfl⟩
   have hm5b : m5 ≤ m4 + 1048576 := by omega
   rw [← hm5]
   clear hmk5 hs5 hz5 hm5 d7 HIN4 HR7 HM4
   go_wp2_with fail
   go_roundw
   case rel => exact ⟨j + 1, m5, by omega, by go_num, rfl, by omega, HM5.out.1, fun b' o' e _ => by simp at e; obtain ⟨rfl, rfl⟩ := e; exact HIN5.out, HM5.out.2⟩
   case measure => simp [intOf]; omega
  ·have hj2 : j = n := by omega
   subst hj2
   clear hni hmk hz
   go_wp2
   go_ret
   exact ⟨m, rfl, by omega, HM.out⟩
set_option maxHeartbeats 3200000 in
set_option maxRecDepth 100000 in
theorem markTree_room (lo hi : Nat) (vv vn vb : Value) (T : LTree) (w W : World) (h : TreeF lo W vv vn vb T) (hS : Sized 1048576 T) (hW : W.heap.size = hi) (hb : Below W.heap.size W w) (hlo : lo ≤ hi) :
  Calls Tryz.prog 16 #[treeV vv vn vb, .int .i64 1] w fun e w' => ∃ m : Nat, e = .returned (.int .i64 (m : Int)) ∧ m ≤ 100000000000000 ∧ Mk lo hi w w' := by
 have hwz : hi ≤ w.heap.size := by have := hb.size; omega
 have hV : RoomV lo hi w vv T.vars.length := (RoomV.of_vars h.vars (by omega)).keep (Mk.of_below hb (by omega))
 have hN : RoomN lo hi w vn T.nodes.length := (RoomN.of_nodes h.nodes (by omega) (fun n hn => (hS.node n hn).2)).keep (Mk.of_below hb (by omega)) (SameT.of_below hb)
 have hI : RoomI lo hi w vb T.body.length := (RoomI.of_ints h.body (by omega)).keep (Mk.of_below hb (by omega))
 obtain ⟨av, cv, rfl, _⟩ := id h.vars
 obtain ⟨an, cn, rfl, _⟩ := id h.nodes
 obtain ⟨ab, cb, rfl, _⟩ := id h.body
 have hs1 := hS.vars
 have hs2 := hS.nodes
 have hs3 := hS.body
 have HA : Hid (∀ w', Mk lo hi w w' → hi ≤ w'.heap.size → Calls Tryz.prog 33 #[.slice av T.vars.length cv, .int .i64 1] w' fun e w2 => e = .returned (.int .i64 ((1 + T.vars.length * 4 : Nat) : Int)) ∧ Mk lo hi w' w2 ∧ SameT 88 w' w2 ∧ w'.heap.size ≤ w2.heap.size) := fun w' hm hh => markVars_room lo hi T.vars.length _ 1 w' (hV.keep hm) hs1 (by omega) hh hlo
 have HN : Hid (∀ (k : Nat) (w' : World), k ≤ 100000000 → Mk lo hi w w' → SameT 88 w w' → hi ≤ w'.heap.size → Calls Tryz.prog 34 #[.slice an T.nodes.length cn, .int .i64 k] w' fun e w2 => ∃ m : Nat, e = .returned (.int .i64 (m : Int)) ∧ m ≤ 10000000000000 ∧ Mk lo hi w' w2 ∧ w'.heap.size ≤ w2.heap.size) := fun k w' hk hm hs hh => markNodes_room lo hi T.nodes.length _ k w' (hN.keep hm hs) hs2 hk hh hlo
 have HB : Hid (∀ (k : Nat) (w' : World), k ≤ 100000000000000 → Mk lo hi w w' → Calls Tryz.prog 18 #[.slice ab T.body.length cb, .int .i64 k] w' fun e w2 => e = .returned (.int .i64 ((k + T.body.length : Nat) : Int)) ∧ Mk lo hi w' w2 ∧ SameT 88 w' w2 ∧ SameT 86 w' w2 ∧ w2.heap.size = w'.heap.size) := fun k w' hk hm => markInts_room lo hi T.body.length _ k w' (hI.keep hm) hs3 hk
 clear hV hN hI h hS hs2
 go_enter Tryz.func16, Tryz.ntmps16
 go_wp2_with fail
 have hA := heap_alloc_new w (.cells #[.slice av T.vars.length cv, .slice an T.nodes.length cn, .slice ab T.body.length cb] 37)
 have hB0 : Below w.heap.size w (w.alloc (.cells #[.slice av T.vars.length cv, .slice an T.nodes.length cn, .slice ab T.body.length cb] 37)) := (Below.refl _ _).alloc (Nat.le_refl _) _
 have hm0 : Mk lo hi w (w.alloc (.cells #[.slice av T.vars.length cv, .slice an T.nodes.length cn, .slice ab T.body.length cb] 37)) := Mk.of_below hB0 (by omega)
 have hs0 : SameT 88 w (w.alloc (.cells #[.slice av T.vars.length cv, .slice an T.nodes.length cn, .slice ab T.body.length cb] 37)) := SameT.of_below hB0
 have hz0 := hB0.size
 generalize w.alloc (.cells #[.slice av T.vars.length cv, .slice an T.nodes.length cn, .slice ab T.body.length cb] 37) = w0 at *
 have HAA : Hid (w0.heap[w.heap.size]? = some (.cells #[.slice av T.vars.length cv, .slice an T.nodes.length cn, .slice ab T.body.length cb] 37 (0, 0))) := hA
 refine (HA.out w0 hm0 (by omega)).mono ?_
 rintro e w1 ⟨rfl, hm1, hs1', hz1⟩
 have hA1 : w1.heap[w.heap.size]? = some (.cells #[.slice av T.vars.length cv, .slice an T.nodes.length cn, .slice ab T.body.length cb] 37 (0, 0)) := (hm1.out _ hwz (blk_lt hA)).trans hA
 have HM1 : Hid (Mk lo hi w w1) := hm0.trans hm1
 have HS1 : Hid (SameT 88 w w1) := hs0.trans hs1'
 have HA1 : Hid (w1.heap[w.heap.size]? = some (.cells #[.slice av T.vars.length cv, .slice an T.nodes.length cn, .slice ab T.body.length cb] 37 (0, 0))) := hA1
 have p1 := cell_of_row _ _ 1 _ _ _ hA1
 simp at p1
 have hz1' : hi ≤ w1.heap.size := by omega
 obtain ⟨k1, hk1⟩ : ∃ k1, k1 = 1 + T.vars.length * 4 := ⟨_, rfl⟩
 have hk1b : k1 ≤ 100000000 := by omega
 rw [← hk1]
 clear hm1 hs1' hm0 hs0 hA hA1 hk1 HAA HA hB0
 go_wp2_with fail
 refine (HN.out k1 w1 hk1b HM1.out HS1.out hz1').mono ?_
 rintro e w2 ⟨m2, rfl, hm2b, hm2, hz2⟩
 have HM2 : Hid (Mk lo hi w w2) := HM1.out.trans hm2
 have hA2 : w2.heap[w.heap.size]? = some (.cells #[.slice av T.vars.length cv, .slice an T.nodes.length cn, .slice ab T.body.length cb] 37 (0, 0)) := (hm2.out _ hwz (blk_lt HA1.out)).trans HA1.out
 have p2 := cell_of_row _ _ 2 _ _ _ hA2
 simp at p2
 clear hm2 hA2 HA1 HM1 HS1 HN p1
 go_wp2_with fail
 refine (HB.out m2 w2 (by omega) HM2.out).mono ?_
 rintro e w3 ⟨rfl, hm3, _, _, _⟩
 have HM3 : Hid (Mk lo hi w w3) := HM2.out.trans hm3
 clear hm3 HM2 HB p2
 obtain ⟨m3, hm3⟩ : ∃ m3, m3 = m2 + T.body.length := ⟨_, rfl⟩
 have hm3b : m3 ≤ 100000000000000 := by omega
 rw [← hm3]
 clear hm3
 go_wp2_with fail
 go_ret
 exact ⟨m3, rfl, hm3b, HM3.out⟩
theorem bel_onM {a b c : World} (h : Below a.heap.size a b) (hb : Below b.heap.size b c) : Below a.heap.size a c := h.trans (hb.mono h.size)
def MarkR1 (B : Nat) (w w' : World) (a : Option Addr) (n : Nat) : Prop :=
 Nums w' a (marks 1 n) ∧ Below B w w' ∧ w.heap.size ≤ w'.heap.size ∧ (∀ g, g < w.heap.size → a ≠ some ⟨g, 0, none⟩ → w'.heap[g]? = w.heap[g]?)
structure MkA (W : World) (B p : Nat) (c : Int) (zs : List Int) (a : Option Addr) (k : Nat) : Prop where
 row : W.heap[p]? = some (.cells #[.int .i64 c, (.slice a zs.length k)] 32 (0, 0))
 o : Own W B (.slice a zs.length k) zs
 b1 : ∀ g, a = some ⟨g, 0, none⟩ → B ≤ g ∧ g < p
theorem MkA.new {w W : World} {c : Int} {zs : List Int} {a : Option Addr} {k : Nat} (h : Own W w.heap.size (.slice a zs.length k) zs) : MkA (W.alloc (.cells #[.int .i64 c, (.slice a zs.length k)] 32)) w.heap.size W.heap.size c zs a k :=
 ⟨heap_alloc_new _ _, own_kept h ((Below.refl _ _).alloc (Nat.le_refl _) _), fun g hg => own_lt h hg⟩
theorem MkA.lt {W : World} {B p : Nat} {c : Int} {zs : List Int} {a : Option Addr} {k : Nat} (h : MkA W B p c zs a k) : p < W.heap.size := blk_lt h.row
theorem MkA.below {W W' : World} {B p : Nat} {c : Int} {zs : List Int} {a : Option Addr} {k : Nat} (h : MkA W B p c zs a k) (hb : Below W.heap.size W W') : MkA W' B p c zs a k := ⟨blk h.row hb, own_kept h.o hb, h.b1⟩
theorem MkA.keep {W W' : World} {B p : Nat} {c : Int} {zs : List Int} {a : Option Addr} {k : Nat} (h : MkA W B p c zs a k) (h1 : ∀ g, B ≤ g → g ≤ p → W'.heap[g]? = W.heap[g]?) (hB : B ≤ p) : MkA W' B p c zs a k :=
 ⟨(h1 p hB (Nat.le_refl _)).trans h.row, own_other h.o (fun g hg => have k := h.b1 g (own_at h.o hg); h1 g k.1 (Nat.le_of_lt k.2)), h.b1⟩
theorem MkA.nums {W : World} {B p : Nat} {c : Int} {zs : List Int} {a : Option Addr} {k : Nat} (h : MkA W B p c zs a k) : Nums W a zs := (nums_of_own h.o).2
end Go.Proofs.YteeklmgkhacbcaaGreatDoor
