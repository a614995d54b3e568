/-
  laws.szBuild.
-/
import Derived.Test.YtpobajblngblfaaBldLw
namespace Go.Proofs.Ytpobajblngblfaa
open Go.RowKit
set_option linter.unusedVariables false

set_option maxHeartbeats 6400000 in
set_option maxRecDepth 100000 in
theorem szBuild_any (m : LBuild) (a1 a2 a3 a4 a5 a6 : Option Addr) (k1 k2 k3 k4 k5 k6 : Nat) (left : Int) (h0 : 0 ≤ left) (h1 : left ≤ 1048576) (hl : BldLe m 9223372036854775807) (w : World) :
    Calls Try.prog 6 #[buildL m (.slice a1 m.ports.length k1) (.slice a2 m.outs.length k2) (.slice a3 m.codeA.length k3) (.slice a4 m.codeB.length k4) (.slice a5 m.sumsA.length k5) (.slice a6 m.sumsB.length k6), .int .i64 left] w fun e w' => ∃ r : Int, e = .returned (.int .i64 r) ∧ (0 ≤ r → BldLe m 1048576 ∧ r ≤ 1048576) ∧ Below w.heap.size w w' := by
  have HX1 : Hid (∀ (r : Int) W, 0 ≤ r → r ≤ 1048576 → Calls Try.prog 25 #[.slice a1 m.ports.length k1, .int .i64 r] W fun e w' => ∃ q : Int, e = .returned (.int .i64 q) ∧ LeftB r q (m.ports.length ≤ 1048576) ∧ Below W.heap.size W w') := fun r W h0 h1 => szPortsB_any a1 _ k1 r h0 h1 hl.p W
  have HX2 : Hid (∀ (r : Int) W, 0 ≤ r → r ≤ 1048576 → Calls Try.prog 26 #[.slice a2 m.outs.length k2, .int .i64 r] W fun e w' => ∃ q : Int, e = .returned (.int .i64 q) ∧ LeftB r q (m.outs.length ≤ 1048576) ∧ Below W.heap.size W w') := fun r W h0 h1 => szIntsB_any a2 _ k2 r h0 h1 hl.o W
  have HX3 : Hid (∀ (r : Int) W, 0 ≤ r → r ≤ 1048576 → Calls Try.prog 26 #[.slice a3 m.codeA.length k3, .int .i64 r] W fun e w' => ∃ q : Int, e = .returned (.int .i64 q) ∧ LeftB r q (m.codeA.length ≤ 1048576) ∧ Below W.heap.size W w') := fun r W h0 h1 => szIntsB_any a3 _ k3 r h0 h1 hl.a W
  have HX4 : Hid (∀ (r : Int) W, 0 ≤ r → r ≤ 1048576 → Calls Try.prog 26 #[.slice a4 m.codeB.length k4, .int .i64 r] W fun e w' => ∃ q : Int, e = .returned (.int .i64 q) ∧ LeftB r q (m.codeB.length ≤ 1048576) ∧ Below W.heap.size W w') := fun r W h0 h1 => szIntsB_any a4 _ k4 r h0 h1 hl.b W
  have HX5 : Hid (∀ (r : Int) W, 0 ≤ r → r ≤ 1048576 → Calls Try.prog 26 #[.slice a5 m.sumsA.length k5, .int .i64 r] W fun e w' => ∃ q : Int, e = .returned (.int .i64 q) ∧ LeftB r q (m.sumsA.length ≤ 1048576) ∧ Below W.heap.size W w') := fun r W h0 h1 => szIntsB_any a5 _ k5 r h0 h1 hl.s W
  have HX6 : Hid (∀ (r : Int) W, 0 ≤ r → r ≤ 1048576 → Calls Try.prog 26 #[.slice a6 m.sumsB.length k6, .int .i64 r] W fun e w' => ∃ q : Int, e = .returned (.int .i64 q) ∧ LeftB r q (m.sumsB.length ≤ 1048576) ∧ Below W.heap.size W w') := fun r W h0 h1 => szIntsB_any a6 _ k6 r h0 h1 hl.t W
  have HEND : Hid (m.ports.length ≤ 1048576 → m.outs.length ≤ 1048576 → m.codeA.length ≤ 1048576 → m.codeB.length ≤ 1048576 → m.sumsA.length ≤ 1048576 → m.sumsB.length ≤ 1048576 → BldLe m 1048576) := fun h1 h2 h3 h4 h5 h6 => ⟨h1, h2, h3, h4, h5, h6⟩
  have hA := heap_alloc_new w (.cells (lineB m (.slice a1 m.ports.length k1) (.slice a2 m.outs.length k2) (.slice a3 m.codeA.length k3) (.slice a4 m.codeB.length k4) (.slice a5 m.sumsA.length k5) (.slice a6 m.sumsB.length k6)) 25)
  have hB : Below w.heap.size w (w.alloc (.cells (lineB m (.slice a1 m.ports.length k1) (.slice a2 m.outs.length k2) (.slice a3 m.codeA.length k3) (.slice a4 m.codeB.length k4) (.slice a5 m.sumsA.length k5) (.slice a6 m.sumsB.length k6)) 25)) := (Below.refl _ _).alloc (Nat.le_refl _) _
  generalize m.ports.length = l1 at *
  generalize m.outs.length = l2 at *
  generalize m.codeA.length = l3 at *
  generalize m.codeB.length = l4 at *
  generalize m.sumsA.length = l5 at *
  generalize m.sumsB.length = l6 at *
  clear hl
  go_enter Try.func6, Try.ntmps6
  go_upto_region 1 with fail
  generalize w.alloc (.cells (lineB m (.slice a1 l1 k1) (.slice a2 l2 k2) (.slice a3 l3 k3) (.slice a4 l4 k4) (.slice a5 l5 k5) (.slice a6 l6 k6)) 25) = W at *
  have HA0 := hid hA
  have HB0 := hid hB
  have q0 := h0
  have p0 := h1
  clear hA hB h0 h1
  have c1 := (cl9 HA0.out).2.1
  go_wp2_with fail
  refine (HX1.out _ _ q0 p0).mono ?_
  rintro e w1 ⟨r1, rfl, hr, hb⟩
  have HA1 := hid (blkB HA0.out hb)
  have HB1 : Hid (Below w.heap.size w w1) := HB0.out.trans (hb.mono HB0.out.size)
  clear hb HA0 HB0 HX1 c1
  rcases hr with rfl | ⟨q1, pp1, z1⟩
  · go_wp2_with fail
    go_ret
    exact ⟨_, rfl, fun h => absurd h (by omega), HB1.out⟩
  · have Z1 := hid z1
    have p1 : r1 ≤ 1048576 := by omega
    clear z1 pp1 q0 p0
    have c2 := (cl9 HA1.out).2.2.1
    go_wp2_with fail
    refine (HX2.out _ _ q1 p1).mono ?_
    rintro e w2 ⟨r2, rfl, hr, hb⟩
    have HA2 := hid (blkB HA1.out hb)
    have HB2 : Hid (Below w.heap.size w w2) := HB1.out.trans (hb.mono HB1.out.size)
    clear hb HA1 HB1 HX2 c2
    rcases hr with rfl | ⟨q2, pp2, z2⟩
    · go_wp2_with fail
      go_ret
      exact ⟨_, rfl, fun h => absurd h (by omega), HB2.out⟩
    · have Z2 := hid z2
      have p2 : r2 ≤ 1048576 := by omega
      clear z2 pp2 q1 p1
      have c3 := (cl9 HA2.out).2.2.2.1
      go_wp2_with fail
      refine (HX3.out _ _ q2 p2).mono ?_
      rintro e w3 ⟨r3, rfl, hr, hb⟩
      have HA3 := hid (blkB HA2.out hb)
      have HB3 : Hid (Below w.heap.size w w3) := HB2.out.trans (hb.mono HB2.out.size)
      clear hb HA2 HB2 HX3 c3
      rcases hr with rfl | ⟨q3, pp3, z3⟩
      · go_wp2_with fail
        go_ret
        exact ⟨_, rfl, fun h => absurd h (by omega), HB3.out⟩
      · have Z3 := hid z3
        have p3 : r3 ≤ 1048576 := by omega
        clear z3 pp3 q2 p2
        have c4 := (cl9 HA3.out).2.2.2.2.1
        go_wp2_with fail
        refine (HX4.out _ _ q3 p3).mono ?_
        rintro e w4 ⟨r4, rfl, hr, hb⟩
        have HA4 := hid (blkB HA3.out hb)
        have HB4 : Hid (Below w.heap.size w w4) := HB3.out.trans (hb.mono HB3.out.size)
        clear hb HA3 HB3 HX4 c4
        rcases hr with rfl | ⟨q4, pp4, z4⟩
        · go_wp2_with fail
          go_ret
          exact ⟨_, rfl, fun h => absurd h (by omega), HB4.out⟩
        · have Z4 := hid z4
          have p4 : r4 ≤ 1048576 := by omega
          clear z4 pp4 q3 p3
          have c5 := (cl9 HA4.out).2.2.2.2.2.1
          go_wp2_with fail
          refine (HX5.out _ _ q4 p4).mono ?_
          rintro e w5 ⟨r5, rfl, hr, hb⟩
          have HA5 := hid (blkB HA4.out hb)
          have HB5 : Hid (Below w.heap.size w w5) := HB4.out.trans (hb.mono HB4.out.size)
          clear hb HA4 HB4 HX5 c5
          rcases hr with rfl | ⟨q5, pp5, z5⟩
          · go_wp2_with fail
            go_ret
            exact ⟨_, rfl, fun h => absurd h (by omega), HB5.out⟩
          · have Z5 := hid z5
            have p5 : r5 ≤ 1048576 := by omega
            clear z5 pp5 q4 p4
            have c6 := (cl9 HA5.out).2.2.2.2.2.2.1
            go_wp2_with fail
            refine (HX6.out _ _ q5 p5).mono ?_
            rintro e w6 ⟨r6, rfl, hr, hb⟩
            have HA6 := hid (blkB HA5.out hb)
            have HB6 : Hid (Below w.heap.size w w6) := HB5.out.trans (hb.mono HB5.out.size)
            clear hb HA5 HB5 HX6 c6
            rcases hr with rfl | ⟨q6, pp6, z6⟩
            · go_wp2_with fail
              go_ret
              exact ⟨_, rfl, fun h => absurd h (by omega), HB6.out⟩
            · have Z6 := hid z6
              have p6 : r6 ≤ 1048576 := by omega
              clear z6 pp6 q5 p5
              go_wp2_with fail
              go_ret
              exact ⟨_, rfl, fun _ => ⟨HEND.out Z1.out Z2.out Z3.out Z4.out Z5.out Z6.out, by omega⟩, HB6.out⟩
end Go.Proofs.Ytpobajblngblfaa
