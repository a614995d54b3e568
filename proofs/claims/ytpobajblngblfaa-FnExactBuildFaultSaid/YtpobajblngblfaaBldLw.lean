/-
  The laws' own on ports: sz, to, eq; and sz of a build.
-/
import Derived.Test.YtpobajblngblfaaBldM
import Derived.Test.YtpobajblngblfaaCopy
import Derived.Deep.DrawnRows
import Derived.Deep.Cut
import Derived.Deep.RegionHeld3
namespace Go.Proofs.Ytpobajblngblfaa
open Go.RowKit
set_option linter.unusedVariables false

/-- a row of n elements of z cells of its own, of which the first c cells are laid -/
def LaidP (w : World) (g n z : Nat) (T : TypeId) (L : List Value) (c : Nat) : Prop := ∃ cur : Array Value, w.heap[g]? = some (.cells cur T (0, 0)) ∧ cur.size = n * z ∧ ∀ i, i < c → cur[i]? = L[i]?
theorem LaidP.lt {w : World} {g n z c : Nat} {T : TypeId} {L : List Value} (h : LaidP w g n z T L c) : g < w.heap.size := by obtain ⟨cur, h1, _⟩ := h; exact (Array.getElem?_eq_some_iff.1 h1).1
theorem LaidP.below {w w' : World} {g n z c : Nat} {T : TypeId} {L : List Value} (h : LaidP w g n z T L c) (hb : Below w.heap.size w w') : LaidP w' g n z T L c := by
  obtain ⟨cur, h1, h2, h3⟩ := h
  exact ⟨cur, (hb.block g (Array.getElem?_eq_some_iff.1 h1).1).trans h1, h2, h3⟩
theorem LaidP.cell {w : World} {g n z c i : Nat} {T : TypeId} {L : List Value} (h : LaidP w g n z T L c) (hi : i < n * z) : (∃ y, w.cell? ⟨g, i, none⟩ = some y) ∧ w.frozen? ⟨g, i, none⟩ = false := by
  obtain ⟨cur, h1, h2, h3⟩ := h
  refine ⟨⟨cur[i]'(by omega), ?_⟩, frozen_of_row _ _ _ _ _ h1⟩
  rw [cell_of_row _ _ _ _ _ _ h1]
  exact Array.getElem?_eq_getElem (by omega)
theorem LaidP.read {w : World} {g n z c i : Nat} {T : TypeId} {L : List Value} (h : LaidP w g n z T L c) (hi : i < c) {u : Value} (hu : L[i]? = some u) : w.cell? ⟨g, i, none⟩ = some u := by
  obtain ⟨cur, h1, h2, h3⟩ := h
  rw [cell_of_row _ _ _ _ _ _ h1, h3 i hi, hu]
theorem LaidP.store {w : World} {g n z c : Nat} {T : TypeId} {L : List Value} {u : Value} (h : LaidP w g n z T L c) (hc : c < n * z) (hu : L[c]? = some u) : LaidP (w.setCell ⟨g, c, none⟩ u) g n z T L (c + 1) := by
  obtain ⟨cur, h1, h2, h3⟩ := h
  refine ⟨cur.setIfInBounds c u, heap_setCell_same w g c _ _ _ h1, by simpa using h2, fun i hi => ?_⟩
  by_cases e : c = i
  · subst e; rw [Array.getElem?_setIfInBounds_self_of_lt (by omega), hu]
  · rw [Array.getElem?_setIfInBounds_ne e]; exact h3 i (by omega)
theorem LaidP.of_own {w : World} {g n z B : Nat} {T : TypeId} {L xs : List Value} (h : w.ownsRow B T z (.slice (some ⟨g, 0, none⟩) n n) n xs) : LaidP w g n z T L 0 := by
  rcases h.2 with ⟨h, _⟩ | ⟨g', c, cur, h, _, hh, _, _, hs, _⟩
  · simp at h
  · simp at h
    obtain ⟨rfl, rfl⟩ := h
    exact ⟨cur, hh, hs, fun i hi => absurd hi (by omega)⟩

/-- the cells of ports -/
def portCells (xs : List LPort) : List Value := xs.flatMap fun x => [.int .i64 x.cell, .bool x.bool]
theorem portCells_len (xs : List LPort) : (portCells xs).length = xs.length * 2 := by
  induction xs with
  | nil => rfl
  | cons x T ih => simp [portCells] at *; omega
theorem portCells_at (T : List LPort) (k : Nat) (x : LPort) (hk : T[k]? = some x) : (portCells T)[k * 2]? = some (.int .i64 x.cell) ∧ (portCells T)[k * 2 + 1]? = some (.bool x.bool) := by
  induction T generalizing k with
  | nil => simp at hk
  | cons y T ih =>
    cases k with
    | zero =>
      have hy : y = x := by simpa using hk
      subst hy
      simp [portCells]
    | succ k =>
      have h := ih k (by simpa using hk)
      have e : ∀ j, (portCells (y :: T))[(k + 1) * 2 + j]? = (portCells T)[k * 2 + j]? := fun j => by
        unfold portCells
        rw [List.flatMap_cons, List.getElem?_append_right (by simp; omega)]
        congr 1
        simp; omega
      have e0 := e 0
      rw [Nat.add_zero, Nat.add_zero] at e0
      rw [e0, e 1]
      exact h
theorem infoP : (Try.prog.info? 68).map (fun i => (i.zero, i.size, i.bytes)) = some (some (.agg #[.int .i64 0, .bool false]), 2, 16) := by kernel_rfl

set_option maxHeartbeats 1600000 in
theorem toPort_any (x : LPort) (w : World) : Calls Try.prog 53 #[portL x] w fun e w' => e = .returned (portL x) ∧ Below w.heap.size w w' := by
  go_enter Try.func53, Try.ntmps53
  go_wp2
  refine bodyPost_ret (v := portL x) (by simp [results, Try.results53, go_sem]) rfl ⟨rfl, ?_⟩
  go_grown

/-- a copy of ports in block g: nothing else lies there -/
def PortO (w : World) (g : Nat) (xs : List LPort) : Prop := LaidP w g xs.length 2 68 (portCells xs) (xs.length * 2)
theorem PortO.v {w : World} {g : Nat} {xs : List LPort} (h : PortO w g xs) : PortV w (.slice (some ⟨g, 0, none⟩) xs.length xs.length) xs :=
  ⟨some ⟨g, 0, none⟩, xs.length, rfl, Nat.le_refl _, .inr ⟨g, 0, rfl, fun i x hx => by
    have hi : i < xs.length := by have := (List.getElem?_eq_some_iff.1 hx).1; omega
    obtain ⟨u0, u1⟩ := portCells_at xs i x hx
    rw [Nat.zero_add]
    exact ⟨LaidP.read h (by omega) u0, LaidP.read h (by omega) u1⟩⟩⟩

set_option maxHeartbeats 3200000 in
theorem toPorts_any (a : Option Addr) (xs : List LPort) (c : Nat) (w : World) (h : Ports w a xs) (hl : xs.length ≤ 1048576) :
    Calls Try.prog 28 #[.slice a xs.length c] w fun e w' => e = .returned (.slice (some ⟨w.heap.size, 0, none⟩) xs.length xs.length) ∧ PortO w' w.heap.size xs ∧ Below w.heap.size w w' := by
  obtain ⟨i0, hi, hz0, hz1, hz2⟩ := info_parts infoP
  have hmax2 : xs.length ≤ maxLen := by unfold maxLen; omega
  have HHD : Hid (∀ (k : Nat) (x : LPort), xs[k]? = some x → ∃ b o, a = some ⟨b, o, none⟩ ∧ PortAt w b (o + k * 2) x) := fun k x hx => h.at hx
  clear h
  go_enter Try.func28, Try.ntmps28
  go_wp2_with (at_make; refine wpList_make_full _ rfl (.tmp 6) (.tmp 6) 28 rfl w.heap.size 68 i0 (.agg #[.int .i64 0, .bool false]) 2 Try.underlying28 hi hz0 hz1 .i64 .i64 xs.length xs.length xs.length rfl rfl rfl rfl ?_ hmax2 (Nat.le_refl _) ?_)
  · rw [hz2]; omega
  · intro w1 hown hgrow
    have hB : Below w.heap.size w w1 := (Below.refl _ _).grown hgrow (Nat.le_refl _) (fun k hk => by cases hk)
    have hP : LaidP w1 w.heap.size xs.length 2 68 (portCells xs) (0 * 2) := .of_own hown
    clear hgrow hown
    go_wp2
    go_loopw [4] (fun i wr => ∃ k : Nat, k ≤ xs.length ∧ i = .int .i64 k ∧ LaidP wr w.heap.size xs.length 2 68 (portCells xs) (k * 2) ∧ Below w.heap.size w wr) (fun i _ => xs.length - (intOf i).toNat)
    case atStart => exact ⟨0, Nat.zero_le _, rfl, hP, hB⟩
    case round =>
      clear hP hB
      obtain ⟨k, hk, rfl, hP, hB⟩ := hrel
      have hgl : w.heap.size < wr.heap.size := hP.lt
      by_cases hlt : k < xs.length
      · obtain ⟨x, hx⟩ : ∃ x, xs[k]? = some x := ⟨xs[k], List.getElem?_eq_getElem hlt⟩
        obtain ⟨b, o, ha, hcl⟩ := HHD.out k x hx
        subst ha
        have hbl : b < w.heap.size := World.block_lt_of_cell? _ _ hcl.1
        obtain ⟨c0, c1⟩ := hcl.below hB
        obtain ⟨u0, u1⟩ := portCells_at xs k x hx
        have HU0 : Hid _ := u0
        have HU1 : Hid _ := u1
        have hto : Hid (∀ w, Calls Try.prog 53 #[portL x] w fun e w' => e = .returned (portL x) ∧ Below w.heap.size w w') := fun w => toPort_any x w
        have HP := hid hP
        clear hcl hx u0 u1 hP
        go_wp2_with fail
        refine (hto.out _).mono ?_
        rintro e w2 ⟨rfl, hb⟩
        have hP2 := HP.out.below hb
        have hB2 := hB.trans (hb.mono hB.size)
        have hgl2 : w.heap.size < w2.heap.size := Nat.lt_of_lt_of_le hgl hb.size
        obtain ⟨⟨y0, d0⟩, f0⟩ := hP2.cell (i := k * 2) (by omega)
        obtain ⟨⟨y1, d1⟩, f1⟩ := hP2.cell (i := k * 2 + 1) (by omega)
        have e3 := (hP2.store (by omega) HU0.out).store (by omega) HU1.out
        have E3 : Hid (LaidP ((w2.setCell ⟨w.heap.size, k * 2, none⟩ (.int .i64 x.cell)).setCell ⟨w.heap.size, k * 2 + 1, none⟩ (.bool x.bool)) w.heap.size xs.length 2 68 (portCells xs) (k * 2 + 1 + 1)) := e3
        have B3 : Hid (Below w.heap.size w ((w2.setCell ⟨w.heap.size, k * 2, none⟩ (.int .i64 x.cell)).setCell ⟨w.heap.size, k * 2 + 1, none⟩ (.bool x.bool))) :=
          (hB2.setCell (Nat.le_refl _) _).setCell (Nat.le_refl _) _
        clear hP2 e3 hb hB hB2 HP c0 c1 hto
        go_wp2_with fail
        go_roundw
        case rel => exact ⟨k + 1, by omega, by go_num, by have h := E3.out; rwa [show k * 2 + 1 + 1 = (k + 1) * 2 from by omega] at h, B3.out⟩
        case measure => simp [intOf]; omega
      · have hke : k = xs.length := by omega
        subst hke
        have HP : Hid (PortO wr w.heap.size xs) := hP
        clear hP
        go_wp2
        go_ret
        exact ⟨rfl, HP.out, hB⟩

set_option maxHeartbeats 1600000 in
theorem eqPort_any (x : LPort) (w : World) : Calls Try.prog 56 #[portL x, portL x] w fun e w' => e = .returned (.bool true) ∧ Below w.heap.size w w' := by
  go_enter Try.func56, Try.ntmps56
  go_wp2
  go_ret
  exact ⟨rfl, by go_grown⟩

set_option maxHeartbeats 3200000 in
theorem eqPorts_any (a a' : Option Addr) (xs : List LPort) (c c' : Nat) (w : World) (h : Ports w a xs) (h' : Ports w a' xs) (hl : xs.length ≤ 1048576) :
    Calls Try.prog 35 #[.slice a xs.length c, .slice a' xs.length c'] w fun e w' => e = .returned (.bool true) ∧ Below w.heap.size w w' := by
  have H1 : Hid (∀ (k : Nat) (x : LPort), xs[k]? = some x → ∃ b o, a = some ⟨b, o, none⟩ ∧ PortAt w b (o + k * 2) x) := fun k x hx => h.at hx
  have H2 : Hid (∀ (k : Nat) (x : LPort), xs[k]? = some x → ∃ b o, a' = some ⟨b, o, none⟩ ∧ PortAt w b (o + k * 2) x) := fun k x hx => h'.at hx
  clear h h'
  go_enter Try.func35, Try.ntmps35
  go_wp2
  go_loopw [5] (fun i wr => ∃ k : Nat, k ≤ xs.length ∧ i = .int .i64 k ∧ Below w.heap.size w wr) (fun i _ => xs.length - (intOf i).toNat)
  case atStart => exact ⟨0, by omega, rfl, Below.refl _ _⟩
  case round =>
    obtain ⟨k, hk, rfl, hB⟩ := hrel
    by_cases hlt : k < xs.length
    · obtain ⟨x, hx⟩ : ∃ x, xs[k]? = some x := ⟨xs[k], List.getElem?_eq_getElem hlt⟩
      obtain ⟨g, o, ha, hc1⟩ := H1.out k x hx
      obtain ⟨h, p, hb, hc2⟩ := H2.out k x hx
      subst ha
      subst hb
      have hgw : g < w.heap.size := World.block_lt_of_cell? _ _ hc1.1
      have hhw : h < w.heap.size := World.block_lt_of_cell? _ _ hc2.1
      obtain ⟨c0, c1⟩ := hc1.below hB
      obtain ⟨d0, d1⟩ := hc2.below hB
      have hk0 : (0 : Int) ≤ (k : Int) := by omega
      have hk1 : (k : Int) < (xs.length : Int) := by omega
      have hgr : g < wr.heap.size := Nat.lt_of_lt_of_le hgw hB.size
      have hhr : h < wr.heap.size := Nat.lt_of_lt_of_le hhw hB.size
      have HQ : Hid (∀ w, Calls Try.prog 56 #[portL x, portL x] w fun e w' => e = .returned (.bool true) ∧ Below w.heap.size w w') := fun w => eqPort_any x w
      clear hx hc1 hc2
      go_wp2_with fail
      go_region_held3 (fun W => (W.cell? ⟨g, o + k * 2, none⟩ = some (.int .i64 x.cell) ∧ W.cell? ⟨g, o + k * 2 + 1, none⟩ = some (.bool x.bool)) ∧ (W.cell? ⟨h, p + k * 2, none⟩ = some (.int .i64 x.cell) ∧ W.cell? ⟨h, p + k * 2 + 1, none⟩ = some (.bool x.bool))) (go_keep) (first | (go_at_call 56; refine (HQ.out _).mono ?_; rintro e w2 ⟨rfl, hb⟩; have hD : Below wr.heap.size wr w2 := ((Below.refl wr.heap.size wr).drew).trans (Below.mono hb (Nat.le_refl _)); have k0 := (hD.cell (p := ⟨g, o + k * 2, none⟩) hgr).trans c0; have k1 := (hD.cell (p := ⟨g, o + k * 2 + 1, none⟩) hgr).trans c1; have j0 := (hD.cell (p := ⟨h, p + k * 2, none⟩) hhr).trans d0; have j1 := (hD.cell (p := ⟨h, p + k * 2 + 1, none⟩) hhr).trans d1; have hB2 := hB.trans (hD.mono hB.size); clear hb hD))
      go_wp2
      go_roundw
      case rel => exact ⟨k + 1, by omega, by go_num, by assumption⟩
      case measure => simp [intOf]; omega
    · have hke : k = xs.length := by omega
      subst hke
      go_wp2
      go_ret
      exact ⟨rfl, hB⟩

/-- what a count answers: none left (-1), or what is left, and then P -/
def LeftB (left r : Int) (P : Prop) : Prop := r = -1 ∨ (0 ≤ r ∧ r ≤ left ∧ P)
set_option maxHeartbeats 1600000 in
theorem szIntsB_any (a : Option Addr) (n c : Nat) (left : Int) (h0 : 0 ≤ left) (h1 : left ≤ 1048576) (hl : n ≤ 9223372036854775807) (w : World) :
    Calls Try.prog 26 #[.slice a n c, .int .i64 left] w fun e w' => ∃ r : Int, e = .returned (.int .i64 r) ∧ LeftB left r (n ≤ 1048576) ∧ Below w.heap.size w w' := by
  by_cases hb : left < n
  · go_enter Try.func26, Try.ntmps26
    go_wp2
    go_ret
    exact ⟨_, rfl, Or.inl rfl, by go_grown⟩
  · go_enter Try.func26, Try.ntmps26
    go_wp2
    go_ret
    exact ⟨_, rfl, Or.inr ⟨by omega, by omega, by omega⟩, by go_grown⟩
set_option maxHeartbeats 1600000 in
theorem szPortsB_any (a : Option Addr) (n c : Nat) (left : Int) (h0 : 0 ≤ left) (h1 : left ≤ 1048576) (hl : n ≤ 9223372036854775807) (w : World) :
    Calls Try.prog 25 #[.slice a n c, .int .i64 left] w fun e w' => ∃ r : Int, e = .returned (.int .i64 r) ∧ LeftB left r (n ≤ 1048576) ∧ Below w.heap.size w w' := by
  by_cases hb : left < n
  · go_enter Try.func25, Try.ntmps25
    go_wp2
    go_ret
    exact ⟨_, rfl, Or.inl rfl, by go_grown⟩
  · go_enter Try.func25, Try.ntmps25
    go_wp2
    go_ret
    exact ⟨_, rfl, Or.inr ⟨by omega, by omega, by omega⟩, by go_grown⟩
end Go.Proofs.Ytpobajblngblfaa
