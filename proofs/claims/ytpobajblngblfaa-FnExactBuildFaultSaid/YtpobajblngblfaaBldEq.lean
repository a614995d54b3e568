/-
  laws.eqBuild: equal builds are found equal.
-/
import Derived.Test.YtpobajblngblfaaBldLw
namespace Go.Proofs.Ytpobajblngblfaa
open Go.RowKit
set_option linter.unusedVariables false

set_option maxHeartbeats 6400000 in
set_option maxRecDepth 100000 in
theorem eqBuild_any (m : LBuild) (vp vo va vb vs vt xp xo xa xb xs xt : Value) (w : World) (h : BldR w vp vo va vb vs vt m) (h' : BldR w xp xo xa xb xs xt m) (hl : BldLe m 1048576) :
    Calls Try.prog 10 #[buildL m vp vo va vb vs vt, buildL m xp xo xa xb xs xt] w fun e w' => e = .returned (.bool true) ∧ Below w.heap.size w w' := by
  obtain ⟨⟨a1, k1, rfl, _, n1⟩, ⟨a2, k2, rfl, _, n2, _⟩, ⟨a3, k3, rfl, _, n3, _⟩, ⟨a4, k4, rfl, _, n4, _⟩, ⟨a5, k5, rfl, _, n5, _⟩, a6, k6, rfl, _, n6, _⟩ := h
  obtain ⟨⟨b1, j1, rfl, _, g1⟩, ⟨b2, j2, rfl, _, g2, _⟩, ⟨b3, j3, rfl, _, g3, _⟩, ⟨b4, j4, rfl, _, g4, _⟩, ⟨b5, j5, rfl, _, g5, _⟩, b6, j6, rfl, _, g6, _⟩ := h'
  have HX1 : Hid (∀ W, Below w.heap.size w W → Calls Try.prog 35 #[.slice a1 m.ports.length k1, .slice b1 m.ports.length j1] W fun e w' => e = .returned (.bool true) ∧ Below W.heap.size W w') := fun W h => eqPorts_any a1 b1 m.ports k1 j1 W (n1.below h) (g1.below h) hl.p
  have HX2 : Hid (∀ W, Below w.heap.size w W → Calls Try.prog 21 #[.slice a2 m.outs.length k2, .slice b2 m.outs.length j2] W fun e w' => e = .returned (.bool true) ∧ Below W.heap.size W w') := fun W h => eqNums_any a2 b2 m.outs k2 j2 W (by have := hl.o; omega) (n2.below h) (g2.below h)
  have HX3 : Hid (∀ W, Below w.heap.size w W → Calls Try.prog 21 #[.slice a3 m.codeA.length k3, .slice b3 m.codeA.length j3] W fun e w' => e = .returned (.bool true) ∧ Below W.heap.size W w') := fun W h => eqNums_any a3 b3 m.codeA k3 j3 W (by have := hl.a; omega) (n3.below h) (g3.below h)
  have HX4 : Hid (∀ W, Below w.heap.size w W → Calls Try.prog 21 #[.slice a4 m.codeB.length k4, .slice b4 m.codeB.length j4] W fun e w' => e = .returned (.bool true) ∧ Below W.heap.size W w') := fun W h => eqNums_any a4 b4 m.codeB k4 j4 W (by have := hl.b; omega) (n4.below h) (g4.below h)
  have HX5 : Hid (∀ W, Below w.heap.size w W → Calls Try.prog 21 #[.slice a5 m.sumsA.length k5, .slice b5 m.sumsA.length j5] W fun e w' => e = .returned (.bool true) ∧ Below W.heap.size W w') := fun W h => eqNums_any a5 b5 m.sumsA k5 j5 W (by have := hl.s; omega) (n5.below h) (g5.below h)
  have HX6 : Hid (∀ W, Below w.heap.size w W → Calls Try.prog 21 #[.slice a6 m.sumsB.length k6, .slice b6 m.sumsB.length j6] W fun e w' => e = .returned (.bool true) ∧ Below W.heap.size W w') := fun W h => eqNums_any a6 b6 m.sumsB k6 j6 W (by have := hl.t; omega) (n6.below h) (g6.below h)
  clear n1 n2 n3 n4 n5 n6 g1 g2 g3 g4 g5 g6 hl
  generalize m.ports.length = l1 at *
  generalize m.outs.length = l2 at *
  generalize m.codeA.length = l3 at *
  generalize m.codeB.length = l4 at *
  generalize m.sumsA.length = l5 at *
  generalize m.sumsB.length = l6 at *
  have x1 := heap_alloc_new w (.cells (lineB m (.slice a1 l1 k1) (.slice a2 l2 k2) (.slice a3 l3 k3) (.slice a4 l4 k4) (.slice a5 l5 k5) (.slice a6 l6 k6)) 30)
  have y1 := (Below.refl w.heap.size w).alloc (Nat.le_refl _) (.cells (lineB m (.slice a1 l1 k1) (.slice a2 l2 k2) (.slice a3 l3 k3) (.slice a4 l4 k4) (.slice a5 l5 k5) (.slice a6 l6 k6)) 30)
  have s1 : (w.alloc (.cells (lineB m (.slice a1 l1 k1) (.slice a2 l2 k2) (.slice a3 l3 k3) (.slice a4 l4 k4) (.slice a5 l5 k5) (.slice a6 l6 k6)) 30)).heap.size = w.heap.size + 1 := by simp
  go_enter Try.func10, Try.ntmps10
  go_upto_region 1 with fail
  generalize w.alloc (.cells (lineB m (.slice a1 l1 k1) (.slice a2 l2 k2) (.slice a3 l3 k3) (.slice a4 l4 k4) (.slice a5 l5 k5) (.slice a6 l6 k6)) 30) = W1 at *
  have x2 := heap_alloc_new W1 (.cells (lineB m (.slice b1 l1 j1) (.slice b2 l2 j2) (.slice b3 l3 j3) (.slice b4 l4 j4) (.slice b5 l5 j5) (.slice b6 l6 j6)) 30)
  have y2 := (Below.refl W1.heap.size W1).alloc (Nat.le_refl _) (.cells (lineB m (.slice b1 l1 j1) (.slice b2 l2 j2) (.slice b3 l3 j3) (.slice b4 l4 j4) (.slice b5 l5 j5) (.slice b6 l6 j6)) 30)
  generalize W1.alloc (.cells (lineB m (.slice b1 l1 j1) (.slice b2 l2 j2) (.slice b3 l3 j3) (.slice b4 l4 j4) (.slice b5 l5 j5) (.slice b6 l6 j6)) 30) = W2 at *
  rw [s1] at x2
  have HA0 := hid (blkB x1 y2)
  have HC0 := hid x2
  have HB0 : Hid (Below w.heap.size w W2) := y1.trans (y2.mono (by omega))
  clear x1 x2 y1 y2 s1
  obtain ⟨p0, p1, p2, p3, p4, p5, p6, p7, p8⟩ := cl9 HA0.out
  obtain ⟨q0, q1, q2, q3, q4, q5, q6, q7, q8⟩ := cl9 HC0.out
  go_wp2_with fail
  refine (HX1.out _ HB0.out).mono ?_
  rintro e w1 ⟨rfl, hb⟩
  have HA1 := hid (blkB HA0.out hb)
  have HC1 := hid (blkB HC0.out hb)
  have HB1 : Hid (Below w.heap.size w w1) := HB0.out.trans (hb.mono HB0.out.size)
  clear p0 p1 p2 p3 p4 p5 p6 p7 p8 q0 q1 q2 q3 q4 q5 q6 q7 q8 hb HA0 HC0 HB0 HX1
  obtain ⟨p0, p1, p2, p3, p4, p5, p6, p7, p8⟩ := cl9 HA1.out
  obtain ⟨q0, q1, q2, q3, q4, q5, q6, q7, q8⟩ := cl9 HC1.out
  go_wp2_with fail
  refine (HX2.out _ HB1.out).mono ?_
  rintro e w2 ⟨rfl, hb⟩
  have HA2 := hid (blkB HA1.out hb)
  have HC2 := hid (blkB HC1.out hb)
  have HB2 : Hid (Below w.heap.size w w2) := HB1.out.trans (hb.mono HB1.out.size)
  clear p0 p1 p2 p3 p4 p5 p6 p7 p8 q0 q1 q2 q3 q4 q5 q6 q7 q8 hb HA1 HC1 HB1 HX2
  obtain ⟨p0, p1, p2, p3, p4, p5, p6, p7, p8⟩ := cl9 HA2.out
  obtain ⟨q0, q1, q2, q3, q4, q5, q6, q7, q8⟩ := cl9 HC2.out
  go_wp2_with fail
  refine (HX3.out _ HB2.out).mono ?_
  rintro e w3 ⟨rfl, hb⟩
  have HA3 := hid (blkB HA2.out hb)
  have HC3 := hid (blkB HC2.out hb)
  have HB3 : Hid (Below w.heap.size w w3) := HB2.out.trans (hb.mono HB2.out.size)
  clear p0 p1 p2 p3 p4 p5 p6 p7 p8 q0 q1 q2 q3 q4 q5 q6 q7 q8 hb HA2 HC2 HB2 HX3
  obtain ⟨p0, p1, p2, p3, p4, p5, p6, p7, p8⟩ := cl9 HA3.out
  obtain ⟨q0, q1, q2, q3, q4, q5, q6, q7, q8⟩ := cl9 HC3.out
  go_wp2_with fail
  refine (HX4.out _ HB3.out).mono ?_
  rintro e w4 ⟨rfl, hb⟩
  have HA4 := hid (blkB HA3.out hb)
  have HC4 := hid (blkB HC3.out hb)
  have HB4 : Hid (Below w.heap.size w w4) := HB3.out.trans (hb.mono HB3.out.size)
  clear p0 p1 p2 p3 p4 p5 p6 p7 p8 q0 q1 q2 q3 q4 q5 q6 q7 q8 hb HA3 HC3 HB3 HX4
  obtain ⟨p0, p1, p2, p3, p4, p5, p6, p7, p8⟩ := cl9 HA4.out
  obtain ⟨q0, q1, q2, q3, q4, q5, q6, q7, q8⟩ := cl9 HC4.out
  go_wp2_with fail
  refine (HX5.out _ HB4.out).mono ?_
  rintro e w5 ⟨rfl, hb⟩
  have HA5 := hid (blkB HA4.out hb)
  have HC5 := hid (blkB HC4.out hb)
  have HB5 : Hid (Below w.heap.size w w5) := HB4.out.trans (hb.mono HB4.out.size)
  clear p0 p1 p2 p3 p4 p5 p6 p7 p8 q0 q1 q2 q3 q4 q5 q6 q7 q8 hb HA4 HC4 HB4 HX5
  obtain ⟨p0, p1, p2, p3, p4, p5, p6, p7, p8⟩ := cl9 HA5.out
  obtain ⟨q0, q1, q2, q3, q4, q5, q6, q7, q8⟩ := cl9 HC5.out
  go_wp2_with fail
  refine (HX6.out _ HB5.out).mono ?_
  rintro e w6 ⟨rfl, hb⟩
  have HA6 := hid (blkB HA5.out hb)
  have HC6 := hid (blkB HC5.out hb)
  have HB6 : Hid (Below w.heap.size w w6) := HB5.out.trans (hb.mono HB5.out.size)
  clear p0 p1 p2 p3 p4 p5 p6 p7 p8 q0 q1 q2 q3 q4 q5 q6 q7 q8 hb HA5 HC5 HB5 HX6
  obtain ⟨p0, p1, p2, p3, p4, p5, p6, p7, p8⟩ := cl9 HA6.out
  obtain ⟨q0, q1, q2, q3, q4, q5, q6, q7, q8⟩ := cl9 HC6.out
  go_wp2_with fail
  go_ret
  exact ⟨rfl, HB6.out⟩
end Go.Proofs.Ytpobajblngblfaa
