/-
  The laws' own on a machine of the stack: sz, to, eq.
-/
import Derived.Test.YtcikofhbfncgdaaSStk1
import Derived.Test.YtcikofhbfncgdaaWords0
import Derived.Deep.Cut
import Derived.Deep.DrawnRows
import Derived.Test.YtcikofhbfncgdaaSStk1
import Derived.Test.YtcikofhbfncgdaaStkMem
import Derived.Test.YtcikofhbfncgdaaDraws
namespace Go.Proofs.Ytcikofhbfncgdaa
open Go.RowKit
set_option linter.unusedVariables false
attribute [local go_sem ↓] Go.wp_at_zero Go.wp_at_succ

set_option maxHeartbeats 6400000 in
set_option maxRecDepth 100000 in
theorem l10Fault_any (p : Nat) (m : SM) (sv cv : Value) (w : World) (hp : w.heap[p]? = some (.cells (lineS m sv cv) 28 (0, 0))) (hs : RowV w sv m.stk) (hc : RowV w cv m.cells) (hl1 : m.stk.length ≤ 1048576) (hl2 : m.cells.length ≤ 1048576) :
    Calls Try.prog 85 #[.pointer (some ⟨p, 0, none⟩)] w fun e w' => e = .returned (.int .i64 (rmF m)) ∧ w' = w := by
  obtain ⟨a1, k1, rfl, hn1, _⟩ := hs
  obtain ⟨a2, k2, rfl, hn2, _⟩ := hc
  obtain ⟨c0, c1, c2, c3, c4, c5, _⟩ := RunT.cells hp
  have HP : Hid (Calls Try.prog 82 #[.int .i64 m.pc] w fun e w' => e = .returned (.bool (inB m.pc 0 65535)) ∧ w' = w) := l1Word_any m.pc w
  have HG : Hid (Calls Try.prog 82 #[.int .i64 m.sig] w fun e w' => e = .returned (.bool (inB m.sig 0 65535)) ∧ w' = w) := l1Word_any m.sig w
  have H1 : Hid (Calls Try.prog 115 #[.slice a1 m.stk.length k1] w fun e w' => e = .returned (.bool (wordsB m.stk)) ∧ w' = w) := sAll_any a1 m.stk k1 w hl1 hn1
  have H2 : Hid (Calls Try.prog 115 #[.slice a2 m.cells.length k2] w fun e w' => e = .returned (.bool (wordsB m.cells)) ∧ w' = w) := sAll_any a2 m.cells k2 w hl2 hn2
  have HU : Hid (Calls Try.prog 71 #[.int .i64 m.used, .int .i64 0, .int .i64 1000000] w fun e w' => e = .returned (.bool (inB m.used 0 1000000)) ∧ w' = w) := l1In_any m.used 0 1000000 w
  have HT : Hid (Calls Try.prog 71 #[.int .i64 m.trap, .int .i64 0, .int .i64 10] w fun e w' => e = .returned (.bool (inB m.trap 0 10)) ∧ w' = w) := l1In_any m.trap 0 10 w
  have hF : Hid (rmFit m = (inB m.pc 0 65535 && inB m.sig 0 65535 && wordsB m.stk && wordsB m.cells && inB m.used 0 1000000 && inB m.trap 0 10)) := rfl
  have HS : Hid (rmF m = if rmFit m then (if m.stk.length ≠ 24 then 1 else if 80 < m.cells.length then 2 else 0) else 3) := rfl
  clear hn1 hn2 hp
  generalize inB m.pc 0 65535 = q1 at *
  generalize inB m.sig 0 65535 = q2 at *
  generalize wordsB m.stk = q3 at *
  generalize wordsB m.cells = q4 at *
  generalize inB m.used 0 1000000 = q5 at *
  generalize inB m.trap 0 10 = q6 at *
  go_enter Try.func85, Try.ntmps85
  go_upto_region 1 with fail
  go_cut [48] from 3 (fun x W1 => x = .bool (!(q1 && q2 && q3 && q4 && q5 && q6)) ∧ W1 = w)
  case first =>
    clear HS hF
    have hq : (q1 = false) ∨ (q1 = true ∧ q2 = false) ∨ (q1 = true ∧ q2 = true ∧ q3 = false) ∨ (q1 = true ∧ q2 = true ∧ q3 = true ∧ q4 = false) ∨ (q1 = true ∧ q2 = true ∧ q3 = true ∧ q4 = true ∧ q5 = false) ∨ (q1 = true ∧ q2 = true ∧ q3 = true ∧ q4 = true ∧ q5 = true ∧ q6 = false) ∨ (q1 = true ∧ q2 = true ∧ q3 = true ∧ q4 = true ∧ q5 = true ∧ q6 = true) := by
      cases q1 <;> cases q2 <;> cases q3 <;> cases q4 <;> cases q5 <;> cases q6 <;> simp
    rcases hq with rfl | ⟨rfl, rfl⟩ | ⟨rfl, rfl, rfl⟩ | ⟨rfl, rfl, rfl, rfl⟩ | ⟨rfl, rfl, rfl, rfl, rfl⟩ | ⟨rfl, rfl, rfl, rfl, rfl, rfl⟩ | ⟨rfl, rfl, rfl, rfl, rfl, rfl⟩
    all_goals
      go_wp2_with (first | (with_reducible show Calls _ _ #[.int .i64 m.pc] _ _; refine HP.out.mono ?_; rintro e w4 ⟨rfl, rfl⟩) | (with_reducible show Calls _ _ #[.int .i64 m.sig] _ _; refine HG.out.mono ?_; rintro e w4 ⟨rfl, rfl⟩) | (with_reducible show Calls _ _ #[.slice a1 _ k1] _ _; refine H1.out.mono ?_; rintro e w4 ⟨rfl, rfl⟩) | (with_reducible show Calls _ _ #[.slice a2 _ k2] _ _; refine H2.out.mono ?_; rintro e w4 ⟨rfl, rfl⟩) | (with_reducible show Calls _ _ #[_, _, .int .i64 1000000] _ _; refine HU.out.mono ?_; rintro e w4 ⟨rfl, rfl⟩) | (with_reducible show Calls _ _ #[_, _, .int .i64 10] _ _; refine HT.out.mono ?_; rintro e w4 ⟨rfl, rfl⟩))
      go_meet
      case rel => exact ⟨by simp, rfl⟩
  case rest =>
    obtain ⟨rfl, rfl⟩ := hcut
    clear HP HG H1 H2 HU HT
    cases hb : (q1 && q2 && q3 && q4 && q5 && q6)
    · have E : Hid (rmF m = 3) := by unfold Hid; rw [HS.out, hF.out, hb]; rfl
      clear HS hF hb
      go_wp2_with fail
      go_ret
      exact ⟨by rw [E.out]; rfl, rfl⟩
    · have E : Hid (rmF m = if m.stk.length ≠ 24 then 1 else if 80 < m.cells.length then 2 else 0) := by unfold Hid; rw [HS.out, hF.out, hb]; rfl
      clear HS hF hb
      generalize m.stk.length = l1 at *
      generalize m.cells.length = l2 at *
      by_cases h1 : l1 = 24
      · have E1 : Hid (rmF m = if 80 < l2 then 2 else 0) := by unfold Hid; rw [E.out, if_neg (by omega)]
        have e1 : ((l1 : Int) != 24) = false := by rw [h1]; rfl
        clear E h1
        by_cases h2 : 80 < l2
        · go_wp2_with fail
          go_ret
          exact ⟨by rw [E1.out, if_pos h2]; rfl, rfl⟩
        · go_wp2_with fail
          go_ret
          exact ⟨by rw [E1.out, if_neg h2]; rfl, rfl⟩
      · have E1 : Hid (rmF m = 1) := by unfold Hid; rw [E.out, if_pos h1]
        have e1 : ((l1 : Int) != 24) = true := by rw [bne_iff_ne]; omega
        clear E h1
        go_wp2_with fail
        go_ret
        exact ⟨by rw [E1.out]; rfl, rfl⟩
end Go.Proofs.Ytcikofhbfncgdaa
namespace Go.Proofs.Ytcikofhbfncgdaa
open Go.RowKit
set_option linter.unusedVariables false
/-- a machine as its cells -/
abbrev lineL (m : SM) (sv cv : Value) : Array Value := #[.int .i64 m.pc, sv, cv, .int .i64 m.sig, .int .i64 m.used, .int .i64 m.trap, .bool m.done]
abbrev machL (m : SM) (sv cv : Value) : Value := .agg (lineL m sv cv)
theorem row7 {p : Nat} {w : World} {m : SM} {sv cv : Value} {T : TypeId} (h : w.heap[p]? = some (.cells (lineL m sv cv) T (0, 0))) :
    w.cell? ⟨p, 0, none⟩ = some (.int .i64 m.pc) ∧ w.cell? ⟨p, 1, none⟩ = some sv ∧ w.cell? ⟨p, 2, none⟩ = some cv ∧ w.cell? ⟨p, 3, none⟩ = some (.int .i64 m.sig) ∧ w.cell? ⟨p, 4, none⟩ = some (.int .i64 m.used) ∧ w.cell? ⟨p, 5, none⟩ = some (.int .i64 m.trap) ∧ w.cell? ⟨p, 6, none⟩ = some (.bool m.done) :=
  ⟨cell_of_row _ _ 0 _ _ _ h, cell_of_row _ _ 1 _ _ _ h, cell_of_row _ _ 2 _ _ _ h, cell_of_row _ _ 3 _ _ _ h, cell_of_row _ _ 4 _ _ _ h, cell_of_row _ _ 5 _ _ _ h, cell_of_row _ _ 6 _ _ _ h⟩

abbrev resV (C : Int) (M : SM) (sv cv : Value) : Value := .agg #[.int .i64 C, .int .i64 M.pc, sv, cv, .int .i64 M.sig, .int .i64 M.used, .int .i64 M.trap, .bool M.done]
abbrev zero8 : Array Value := #[.int .i64 0, .int .i64 0, .slice none 0 0, .slice none 0 0, .int .i64 0, .int .i64 0, .int .i64 0, .bool false]
abbrev line8 (C : Int) (M : SM) (sv cv : Value) : Array Value := #[.int .i64 C, .int .i64 M.pc, sv, cv, .int .i64 M.sig, .int .i64 M.used, .int .i64 M.trap, .bool M.done]
theorem row8 {p : Nat} {w : World} {C : Int} {m : SM} {sv cv : Value} {T : TypeId} (h : w.heap[p]? = some (.cells (line8 C m sv cv) T (0, 0))) :
    w.cell? ⟨p, 0, none⟩ = some (.int .i64 C) ∧ w.cell? ⟨p, 1, none⟩ = some (.int .i64 m.pc) ∧ w.cell? ⟨p, 2, none⟩ = some sv ∧ w.cell? ⟨p, 3, none⟩ = some cv ∧ w.cell? ⟨p, 4, none⟩ = some (.int .i64 m.sig) ∧ w.cell? ⟨p, 5, none⟩ = some (.int .i64 m.used) ∧ w.cell? ⟨p, 6, none⟩ = some (.int .i64 m.trap) ∧ w.cell? ⟨p, 7, none⟩ = some (.bool m.done) :=
  ⟨cell_of_row _ _ 0 _ _ _ h, cell_of_row _ _ 1 _ _ _ h, cell_of_row _ _ 2 _ _ _ h, cell_of_row _ _ 3 _ _ _ h, cell_of_row _ _ 4 _ _ _ h, cell_of_row _ _ 5 _ _ _ h, cell_of_row _ _ 6 _ _ _ h, cell_of_row _ _ 7 _ _ _ h⟩
/-- a code and nothing else -/
abbrev codeV (F : Int) : Value := .agg #[.int .i64 F, .int .i64 0, .slice none 0 0, .slice none 0 0, .int .i64 0, .int .i64 0, .int .i64 0, .bool false]
/-- a StackResult that a call made -/
def ResR (w w' : World) (e : Ending) (C : Int) (M : SM) : Prop := ∃ sv cv, e = .returned (resV C M sv cv) ∧ Own w' w.heap.size sv M.stk ∧ Own w' w.heap.size cv M.cells ∧ (∀ g, sv.ownBlock = some g → cv.ownBlock ≠ some g) ∧ Below w.heap.size w w'
theorem fill8 (r : Nat) (W : World) (v0 v1 v2 v3 v4 v5 v6 v7 : Value) : Sole1 r W ((((((((W.setCell ⟨r, 0, none⟩ v0).setCell ⟨r, 1, none⟩ v1).setCell ⟨r, 2, none⟩ v2).setCell ⟨r, 3, none⟩ v3).setCell ⟨r, 4, none⟩ v4).setCell ⟨r, 5, none⟩ v5).setCell ⟨r, 6, none⟩ v6).setCell ⟨r, 7, none⟩ v7) :=
  ((((((((Sole1.refl r W).set 0 v0).set 1 v1).set 2 v2).set 3 v3).set 4 v4).set 5 v5).set 6 v6).set 7 v7
/-- the answer with a code alone -/
theorem res_code (w W : World) (r : Nat) (F : Int) (hr : w.heap.size ≤ r) (hB : Below w.heap.size w W) : ResR w ((((((((W.setCell ⟨r, 0, none⟩ (.int .i64 F)).setCell ⟨r, 1, none⟩ (.int .i64 0)).setCell ⟨r, 2, none⟩ (.slice none 0 0)).setCell ⟨r, 3, none⟩ (.slice none 0 0)).setCell ⟨r, 4, none⟩ (.int .i64 0)).setCell ⟨r, 5, none⟩ (.int .i64 0)).setCell ⟨r, 6, none⟩ (.int .i64 0)).setCell ⟨r, 7, none⟩ (.bool false)) (.returned (resV F zeroM (.slice none 0 0) (.slice none 0 0))) F zeroM :=
  ⟨_, _, rfl, World.ownsRow_nil _ _ _ _, World.ownsRow_nil _ _ _ _, fun g h => by simp [Value.ownBlock] at h, hB.trans ((fill8 r W (.int .i64 F) (.int .i64 0) (.slice none 0 0) (.slice none 0 0) (.int .i64 0) (.int .i64 0) (.int .i64 0) (.bool false)).bel.mono hr)⟩
/-- the answer with a machine -/
theorem res_mach (w W : World) (r B : Nat) (M : SM) (sv cv : Value) (hr : w.heap.size ≤ r) (hrB : r < B) (hs : Own W B sv M.stk) (hc : Own W B cv M.cells) (hd : ∀ g, sv.ownBlock = some g → cv.ownBlock ≠ some g) (hB : Below w.heap.size w W) : ResR w ((((((((W.setCell ⟨r, 0, none⟩ (.int .i64 0)).setCell ⟨r, 1, none⟩ (.int .i64 M.pc)).setCell ⟨r, 2, none⟩ sv).setCell ⟨r, 3, none⟩ cv).setCell ⟨r, 4, none⟩ (.int .i64 M.sig)).setCell ⟨r, 5, none⟩ (.int .i64 M.used)).setCell ⟨r, 6, none⟩ (.int .i64 M.trap)).setCell ⟨r, 7, none⟩ (.bool M.done)) (.returned (resV 0 M sv cv)) 0 M :=
  have hE := fill8 r W (.int .i64 0) (.int .i64 M.pc) sv cv (.int .i64 M.sig) (.int .i64 M.used) (.int .i64 M.trap) (.bool M.done)
  ⟨_, _, rfl, own_mono (own_sole hs hE (fun e => by have := (hs.lt _ e).1; omega)) (by omega), own_mono (own_sole hc hE (fun e => by have := (hc.lt _ e).1; omega)) (by omega), hd, hB.trans (hE.bel.mono hr)⟩
end Go.Proofs.Ytcikofhbfncgdaa
namespace Go.Proofs.Ytcikofhbfncgdaa
open Go.RowKit
set_option linter.unusedVariables false

/-- what a count answers: none left (-1), or what is left, and then P -/
def LeftM (left r : Int) (P : Prop) : Prop := r = -1 ∨ (0 ≤ r ∧ r ≤ left ∧ P)
set_option maxHeartbeats 1600000 in
theorem szIntsM_any (a : Option Addr) (n c : Nat) (left : Int) (h0 : 0 ≤ left) (h1 : left ≤ 1048576) (hl : n ≤ 9223372036854775807) (w : World) :
    Calls Try.prog 89 #[.slice a n c, .int .i64 left] w fun e w' => ∃ r : Int, e = .returned (.int .i64 r) ∧ LeftM left r (n ≤ 1048576) ∧ Below w.heap.size w w' := by
  by_cases hb : left < n
  · go_enter Try.func89, Try.ntmps89
    go_wp2
    go_ret
    exact ⟨_, rfl, Or.inl rfl, by go_grown⟩
  · go_enter Try.func89, Try.ntmps89
    go_wp2
    go_ret
    exact ⟨_, rfl, Or.inr ⟨by omega, by omega, by omega⟩, by go_grown⟩


set_option maxHeartbeats 1600000 in
set_option maxRecDepth 100000 in
theorem szMach_any (m : SM) (a1 a2 : Option Addr) (k1 k2 : Nat) (left : Int) (h0 : 0 ≤ left) (h1 : left ≤ 1048576) (hl1 : m.stk.length ≤ 9223372036854775807) (hl2 : m.cells.length ≤ 9223372036854775807) (w : World) :
    Calls Try.prog 50 #[machL m (.slice a1 m.stk.length k1) (.slice a2 m.cells.length k2), .int .i64 left] w fun e w' => ∃ r : Int, e = .returned (.int .i64 r) ∧ (0 ≤ r → m.stk.length ≤ 1048576 ∧ m.cells.length ≤ 1048576 ∧ r ≤ 1048576) ∧ Below w.heap.size w w' := by
  have HX : Hid (∀ W, Calls Try.prog 89 #[.slice a1 m.stk.length k1, .int .i64 left] W fun e w' => ∃ r : Int, e = .returned (.int .i64 r) ∧ LeftM left r (m.stk.length ≤ 1048576) ∧ Below W.heap.size W w') := fun W => szIntsM_any a1 _ k1 left h0 h1 hl1 W
  have HY : Hid (∀ (r : Int) W, 0 ≤ r → r ≤ 1048576 → Calls Try.prog 89 #[.slice a2 m.cells.length k2, .int .i64 r] W fun e w' => ∃ q : Int, e = .returned (.int .i64 q) ∧ LeftM r q (m.cells.length ≤ 1048576) ∧ Below W.heap.size W w') := fun r W h0 h1 => szIntsM_any a2 _ k2 r h0 h1 hl2 W
  have hA := heap_alloc_new w (.cells (lineL m (.slice a1 m.stk.length k1) (.slice a2 m.cells.length k2)) 67)
  have hB : Below w.heap.size w (w.alloc (.cells (lineL m (.slice a1 m.stk.length k1) (.slice a2 m.cells.length k2)) 67)) := (Below.refl _ _).alloc (Nat.le_refl _) _
  generalize m.stk.length = l1 at *
  generalize m.cells.length = l2 at *
  clear hl1 hl2
  go_enter Try.func50, Try.ntmps50
  go_upto_region 1 with fail
  generalize w.alloc (.cells (lineL m (.slice a1 l1 k1) (.slice a2 l2 k2)) 67) = W at *
  obtain ⟨_, c1, _⟩ := row7 hA
  go_wp2_with fail
  refine (HX.out _).mono ?_
  rintro e w2 ⟨r, rfl, hr, hb⟩
  have HA : Hid _ := blk8 hA hb
  have HB : Hid (Below w.heap.size w w2) := hB.trans (hb.mono hB.size)
  clear hA hB hb HX c1
  rcases hr with rfl | ⟨k1, m1, z1⟩
  · go_wp2_with fail
    go_ret
    exact ⟨_, rfl, fun h => absurd h (by omega), HB.out⟩
  · have HZ1 : Hid _ := z1
    clear z1
    obtain ⟨_, _, c2, _⟩ := row7 HA.out
    go_wp2_with fail
    refine (HY.out _ _ k1 (by omega)).mono ?_
    rintro e w3 ⟨q, rfl, hq, hb⟩
    have HB2 : Hid (Below w.heap.size w w3) := HB.out.trans (hb.mono HB.out.size)
    clear HB hb HY HA c2
    rcases hq with rfl | ⟨k3, m3, z3⟩
    · go_wp2_with fail
      go_ret
      exact ⟨_, rfl, fun h => absurd h (by omega), HB2.out⟩
    · have HZ3 : Hid _ := z3
      clear z3
      go_wp2_with fail
      go_ret
      exact ⟨_, rfl, fun _ => ⟨HZ1.out, HZ3.out, by omega⟩, HB2.out⟩
end Go.Proofs.Ytcikofhbfncgdaa
namespace Go.Proofs.Ytcikofhbfncgdaa
open Go.RowKit
set_option linter.unusedVariables false

set_option maxHeartbeats 1600000 in
set_option maxRecDepth 100000 in
theorem szMach_anyG (m : SM) (a1 a2 : Option Addr) (k1 k2 : Nat) (left : Int) (h0 : 0 ≤ left) (h1 : left ≤ 1048576) (hl1 : m.stk.length ≤ 9223372036854775807) (hl2 : m.cells.length ≤ 9223372036854775807) (w : World) :
    Calls Try.prog 31 #[machL m (.slice a1 m.stk.length k1) (.slice a2 m.cells.length k2), .int .i64 left] w fun e w' => ∃ r : Int, e = .returned (.int .i64 r) ∧ (0 ≤ r → m.stk.length ≤ 1048576 ∧ m.cells.length ≤ 1048576 ∧ r ≤ 1048576) ∧ Below w.heap.size w w' := by
  have HX : Hid (∀ W, Calls Try.prog 89 #[.slice a1 m.stk.length k1, .int .i64 left] W fun e w' => ∃ r : Int, e = .returned (.int .i64 r) ∧ LeftM left r (m.stk.length ≤ 1048576) ∧ Below W.heap.size W w') := fun W => szIntsM_any a1 _ k1 left h0 h1 hl1 W
  have HY : Hid (∀ (r : Int) W, 0 ≤ r → r ≤ 1048576 → Calls Try.prog 89 #[.slice a2 m.cells.length k2, .int .i64 r] W fun e w' => ∃ q : Int, e = .returned (.int .i64 q) ∧ LeftM r q (m.cells.length ≤ 1048576) ∧ Below W.heap.size W w') := fun r W h0 h1 => szIntsM_any a2 _ k2 r h0 h1 hl2 W
  have hA := heap_alloc_new w (.cells (lineL m (.slice a1 m.stk.length k1) (.slice a2 m.cells.length k2)) 47)
  have hB : Below w.heap.size w (w.alloc (.cells (lineL m (.slice a1 m.stk.length k1) (.slice a2 m.cells.length k2)) 47)) := (Below.refl _ _).alloc (Nat.le_refl _) _
  generalize m.stk.length = l1 at *
  generalize m.cells.length = l2 at *
  clear hl1 hl2
  go_enter Try.func31, Try.ntmps31
  go_upto_region 1 with fail
  generalize w.alloc (.cells (lineL m (.slice a1 l1 k1) (.slice a2 l2 k2)) 47) = W at *
  obtain ⟨_, c1, _⟩ := row7 hA
  go_wp2_with fail
  refine (HX.out _).mono ?_
  rintro e w2 ⟨r, rfl, hr, hb⟩
  have HA : Hid _ := blk8 hA hb
  have HB : Hid (Below w.heap.size w w2) := hB.trans (hb.mono hB.size)
  clear hA hB hb HX c1
  rcases hr with rfl | ⟨k1, m1, z1⟩
  · go_wp2_with fail
    go_ret
    exact ⟨_, rfl, fun h => absurd h (by omega), HB.out⟩
  · have HZ1 : Hid _ := z1
    clear z1
    obtain ⟨_, _, c2, _⟩ := row7 HA.out
    go_wp2_with fail
    refine (HY.out _ _ k1 (by omega)).mono ?_
    rintro e w3 ⟨q, rfl, hq, hb⟩
    have HB2 : Hid (Below w.heap.size w w3) := HB.out.trans (hb.mono HB.out.size)
    clear HB hb HY HA c2
    rcases hq with rfl | ⟨k3, m3, z3⟩
    · go_wp2_with fail
      go_ret
      exact ⟨_, rfl, fun h => absurd h (by omega), HB2.out⟩
    · have HZ3 : Hid _ := z3
      clear z3
      go_wp2_with fail
      go_ret
      exact ⟨_, rfl, fun _ => ⟨HZ1.out, HZ3.out, by omega⟩, HB2.out⟩
end Go.Proofs.Ytcikofhbfncgdaa
