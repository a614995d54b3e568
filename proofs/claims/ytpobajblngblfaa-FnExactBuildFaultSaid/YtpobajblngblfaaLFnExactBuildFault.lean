/-
  The Go function laws.FnExactBuildFault answers true at every build and writes nothing that was there. No condition.
-/
import Derived.Test.YtpobajblngblfaaBldI
import Derived.Test.YtpobajblngblfaaBldS2
import Derived.Test.YtpobajblngblfaaBldTo
import Derived.Test.YtpobajblngblfaaBldEq
import Derived.Test.YtpobajblngblfaaBldSz
import Derived.Test.YtpobajblngblfaaOpenBld
namespace Go.Proofs.Ytpobajblngblfaa
open Go.RowKit
set_option linter.unusedVariables false

set_option maxHeartbeats 6400000 in
set_option maxRecDepth 100000 in
theorem fnExactBuildFault_walk (vp0 vo0 va0 vb0 vs0 vt0 : Value) (m0 : LBuild) (w : World) (w0 : IsBld w vp0 vo0 va0 vb0 vs0 vt0 m0) :
    Calls Try.prog 3 #[.agg #[.int .i64 m0.cells, vp0, vo0, va0, vb0, vs0, vt0, .int .i64 m0.budA, .int .i64 m0.budB]] w fun e w' => e = .returned (.bool true) ∧ Below w.heap.size w w' := by
  obtain ⟨h, hl⟩ := w0
  have HRS : Hid (∀ W, Below w.heap.size w W → BldR W vp0 vo0 va0 vb0 vs0 vt0 m0) := fun W hb => h.below hb
  obtain ⟨⟨a1, k1, rfl, _, _⟩, ⟨a2, k2, rfl, _, _, _⟩, ⟨a3, k3, rfl, _, _, _⟩, ⟨a4, k4, rfl, _, _, _⟩, ⟨a5, k5, rfl, _, _, _⟩, a6, k6, rfl, _, _, _⟩ := h
  have HSZ : Hid (∀ W, Calls Try.prog 6 #[buildL m0 (.slice a1 m0.ports.length k1) (.slice a2 m0.outs.length k2) (.slice a3 m0.codeA.length k3) (.slice a4 m0.codeB.length k4) (.slice a5 m0.sumsA.length k5) (.slice a6 m0.sumsB.length k6), .int .i64 1048576] W fun e w' => ∃ r : Int, e = .returned (.int .i64 r) ∧ (0 ≤ r → BldLe m0 1048576 ∧ r ≤ 1048576) ∧ Below W.heap.size W w') := fun W => szBuild_any m0 a1 a2 a3 a4 a5 a6 k1 k2 k3 k4 k5 k6 1048576 (by omega) (by omega) hl W
  have hA := heap_alloc_new w (.cells (lineB m0 (.slice a1 m0.ports.length k1) (.slice a2 m0.outs.length k2) (.slice a3 m0.codeA.length k3) (.slice a4 m0.codeB.length k4) (.slice a5 m0.sumsA.length k5) (.slice a6 m0.sumsB.length k6)) 25)
  have hB : Below w.heap.size w (w.alloc (.cells (lineB m0 (.slice a1 m0.ports.length k1) (.slice a2 m0.outs.length k2) (.slice a3 m0.codeA.length k3) (.slice a4 m0.codeB.length k4) (.slice a5 m0.sumsA.length k5) (.slice a6 m0.sumsB.length k6)) 25)) := (Below.refl _ _).alloc (Nat.le_refl _) _
  clear hl
  go_enter Try.func3, Try.ntmps3
  go_upto_region 2 with fail
  generalize w.alloc (.cells (lineB m0 (.slice a1 m0.ports.length k1) (.slice a2 m0.outs.length k2) (.slice a3 m0.codeA.length k3) (.slice a4 m0.codeB.length k4) (.slice a5 m0.sumsA.length k5) (.slice a6 m0.sumsB.length k6)) 25) = W at *
  obtain ⟨c0, c1, c2, c3, c4, c5, c6, c7, c8⟩ := cl9 hA
  go_wp2_with fail
  refine (HSZ.out _).mono ?_
  rintro e w1 ⟨r, rfl, hr, hb⟩
  have HA := hid (blkB hA hb)
  have HB : Hid (Below w.heap.size w w1) := hB.trans (hb.mono hB.size)
  clear hb hA hB c0 c1 c2 c3 c4 c5 c6 c7 c8 HSZ
  by_cases h0 : 0 ≤ r
  · obtain ⟨hz, _⟩ := hr h0
    have HTO : Hid (∀ W, Below w.heap.size w W → Calls Try.prog 8 #[buildL m0 (.slice a1 m0.ports.length k1) (.slice a2 m0.outs.length k2) (.slice a3 m0.codeA.length k3) (.slice a4 m0.codeB.length k4) (.slice a5 m0.sumsA.length k5) (.slice a6 m0.sumsB.length k6)] W fun e w' => ∃ g1 g2 g3 g4 g5 g6, e = .returned (buildL m0 (.slice (some ⟨g1, 0, none⟩) m0.ports.length m0.ports.length) (.slice (some ⟨g2, 0, none⟩) m0.outs.length m0.outs.length) (.slice (some ⟨g3, 0, none⟩) m0.codeA.length m0.codeA.length) (.slice (some ⟨g4, 0, none⟩) m0.codeB.length m0.codeB.length) (.slice (some ⟨g5, 0, none⟩) m0.sumsA.length m0.sumsA.length) (.slice (some ⟨g6, 0, none⟩) m0.sumsB.length m0.sumsB.length)) ∧ BldR w' (.slice (some ⟨g1, 0, none⟩) m0.ports.length m0.ports.length) (.slice (some ⟨g2, 0, none⟩) m0.outs.length m0.outs.length) (.slice (some ⟨g3, 0, none⟩) m0.codeA.length m0.codeA.length) (.slice (some ⟨g4, 0, none⟩) m0.codeB.length m0.codeB.length) (.slice (some ⟨g5, 0, none⟩) m0.sumsA.length m0.sumsA.length) (.slice (some ⟨g6, 0, none⟩) m0.sumsB.length m0.sumsB.length) m0 ∧ Below W.heap.size W w') := fun W hW =>
      (toBuild_any m0 _ _ _ _ _ _ W (HRS.out W hW) hz).mono fun e w' h => by
        obtain ⟨g1, g2, g3, g4, g5, g6, rfl, h1, h2⟩ := h
        exact ⟨g1, g2, g3, g4, g5, g6, rfl, h1.r, h2⟩
    have HSP : Hid (∀ vp vo va vb vs vt W, BldR W vp vo va vb vs vt m0 → Calls Try.prog 7 #[buildL m0 vp vo va vb vs vt] W fun e w' => e = .returned (.int .i64 (bdF m0)) ∧ Below W.heap.size W w') := fun vp vo va vb vs vt W h => specBuildFault m0 vp vo va vb vs vt W h hz
    have HIM : Hid (∀ vp vo va vb vs vt W, BldR W vp vo va vb vs vt m0 → Calls Try.prog 9 #[buildL m0 vp vo va vb vs vt] W fun e w' => e = .returned (.int .i64 (bdF m0)) ∧ Below W.heap.size W w') := fun vp vo va vb vs vt W h => implBuildFault m0 vp vo va vb vs vt W h hz
    have HEQ : Hid (∀ vp vo va vb vs vt xp xo xa xb xs xt W, BldR W vp vo va vb vs vt m0 → BldR W xp xo xa xb xs xt m0 → Calls Try.prog 10 #[buildL m0 vp vo va vb vs vt, buildL m0 xp xo xa xb xs xt] W fun e w' => e = .returned (.bool true) ∧ Below W.heap.size W w') := fun vp vo va vb vs vt xp xo xa xb xs xt W h h' => eqBuild_any m0 vp vo va vb vs vt xp xo xa xb xs xt W h h' hz
    clear hr hz HRS
    generalize bdF m0 = F at *
    generalize m0.ports.length = l1 at *
    generalize m0.outs.length = l2 at *
    generalize m0.codeA.length = l3 at *
    generalize m0.codeB.length = l4 at *
    generalize m0.sumsA.length = l5 at *
    generalize m0.sumsB.length = l6 at *
    obtain ⟨c0, c1, c2, c3, c4, c5, c6, c7, c8⟩ := cl9 HA.out
    go_wp2_with fail
    refine (HTO.out _ HB.out).mono ?_
    rintro e w2 ⟨p1, p2, p3, p4, p5, p6, rfl, hrow, hb⟩
    have HA2 := hid (blkB HA.out hb)
    have HB2 : Hid (Below w.heap.size w w2) := HB.out.trans (hb.mono HB.out.size)
    have HR2 := hid hrow
    clear c0 c1 c2 c3 c4 c5 c6 c7 c8 hb HA HB hrow
    go_wp2_with fail
    refine (HSP.out _ _ _ _ _ _ _ HR2.out).mono ?_
    rintro e w3 ⟨rfl, hb⟩
    have HA3 := hid (blkB HA2.out hb)
    have HB3 : Hid (Below w.heap.size w w3) := HB2.out.trans (hb.mono HB2.out.size)
    clear hb HA2 HB2 HR2 HSP
    obtain ⟨c0, c1, c2, c3, c4, c5, c6, c7, c8⟩ := cl9 HA3.out
    go_wp2_with fail
    refine (HTO.out _ HB3.out).mono ?_
    rintro e w4 ⟨p1, p2, p3, p4, p5, p6, rfl, hrow, hb⟩
    have hA4 := blkB HA3.out hb
    have hB4 : Below w.heap.size w w4 := HB3.out.trans (hb.mono HB3.out.size)
    clear c0 c1 c2 c3 c4 c5 c6 c7 c8 hb HA3 HB3
    have x5 := heap_alloc_new w4 (.cells (lineB m0 (.slice (some ⟨p1, 0, none⟩) l1 l1) (.slice (some ⟨p2, 0, none⟩) l2 l2) (.slice (some ⟨p3, 0, none⟩) l3 l3) (.slice (some ⟨p4, 0, none⟩) l4 l4) (.slice (some ⟨p5, 0, none⟩) l5 l5) (.slice (some ⟨p6, 0, none⟩) l6 l6)) 30)
    have y5 := (Below.refl w4.heap.size w4).alloc (Nat.le_refl _) (.cells (lineB m0 (.slice (some ⟨p1, 0, none⟩) l1 l1) (.slice (some ⟨p2, 0, none⟩) l2 l2) (.slice (some ⟨p3, 0, none⟩) l3 l3) (.slice (some ⟨p4, 0, none⟩) l4 l4) (.slice (some ⟨p5, 0, none⟩) l5 l5) (.slice (some ⟨p6, 0, none⟩) l6 l6)) 30)
    have HA5 := hid (blkB hA4 y5)
    have HB5 : Hid (Below w.heap.size w _) := hB4.trans (y5.mono hB4.size)
    have HR5 := hid (hrow.below y5)
    have HX5 := hid x5
    clear hA4 hB4 hrow x5 y5
    go_upto_region 7 with fail
    generalize w4.alloc (.cells (lineB m0 (.slice (some ⟨p1, 0, none⟩) l1 l1) (.slice (some ⟨p2, 0, none⟩) l2 l2) (.slice (some ⟨p3, 0, none⟩) l3 l3) (.slice (some ⟨p4, 0, none⟩) l4 l4) (.slice (some ⟨p5, 0, none⟩) l5 l5) (.slice (some ⟨p6, 0, none⟩) l6 l6)) 30) = W5 at *
    generalize w4.heap.size = g at *
    obtain ⟨c0, c1, c2, c3, c4, c5, c6, c7, c8⟩ := cl9 HX5.out
    go_wp2_with fail
    refine (HIM.out _ _ _ _ _ _ _ HR5.out).mono ?_
    rintro e w6 ⟨rfl, hb⟩
    have HA6 := hid (blkB HA5.out hb)
    have HX6 := hid (blkB HX5.out hb)
    have HB6 : Hid (Below w.heap.size w w6) := HB5.out.trans (hb.mono HB5.out.size)
    have HR6 := hid (HR5.out.below hb)
    clear c0 c1 c2 c3 c4 c5 c6 c7 c8 hb HA5 HX5 HB5 HR5 HIM
    have HC1 : Hid (∀ W, Below w6.heap.size w6 W → (W.cell? ⟨w.heap.size, 0, none⟩ = some (.int .i64 m0.cells) ∧ W.cell? ⟨w.heap.size, 1, none⟩ = some (.slice a1 l1 k1) ∧ W.cell? ⟨w.heap.size, 2, none⟩ = some (.slice a2 l2 k2) ∧ W.cell? ⟨w.heap.size, 3, none⟩ = some (.slice a3 l3 k3) ∧ W.cell? ⟨w.heap.size, 4, none⟩ = some (.slice a4 l4 k4) ∧ W.cell? ⟨w.heap.size, 5, none⟩ = some (.slice a5 l5 k5) ∧ W.cell? ⟨w.heap.size, 6, none⟩ = some (.slice a6 l6 k6) ∧ W.cell? ⟨w.heap.size, 7, none⟩ = some (.int .i64 m0.budA) ∧ W.cell? ⟨w.heap.size, 8, none⟩ = some (.int .i64 m0.budB)) ∧ (W.cell? ⟨g, 0, none⟩ = some (.int .i64 m0.cells) ∧ W.cell? ⟨g, 1, none⟩ = some (.slice (some ⟨p1, 0, none⟩) l1 l1) ∧ W.cell? ⟨g, 2, none⟩ = some (.slice (some ⟨p2, 0, none⟩) l2 l2) ∧ W.cell? ⟨g, 3, none⟩ = some (.slice (some ⟨p3, 0, none⟩) l3 l3) ∧ W.cell? ⟨g, 4, none⟩ = some (.slice (some ⟨p4, 0, none⟩) l4 l4) ∧ W.cell? ⟨g, 5, none⟩ = some (.slice (some ⟨p5, 0, none⟩) l5 l5) ∧ W.cell? ⟨g, 6, none⟩ = some (.slice (some ⟨p6, 0, none⟩) l6 l6) ∧ W.cell? ⟨g, 7, none⟩ = some (.int .i64 m0.budA) ∧ W.cell? ⟨g, 8, none⟩ = some (.int .i64 m0.budB))) := fun W hb => ⟨cl9 (blkB HA6.out hb), cl9 (blkB HX6.out hb)⟩
    obtain ⟨⟨c0, c1, c2, c3, c4, c5, c6, c7, c8⟩, d0, d1, d2, d3, d4, d5, d6, d7, d8⟩ := HC1.out _ (Below.refl _ _)
    clear HA6 HX6
    go_upto_region 10 with fail
    have hS0 : Below w6.heap.size w6 w6 := Below.refl _ _
    go_region_held3 (fun W => Below w6.heap.size w6 W ∧ ((W.cell? ⟨w.heap.size, 0, none⟩ = some (.int .i64 m0.cells) ∧ W.cell? ⟨w.heap.size, 1, none⟩ = some (.slice a1 l1 k1) ∧ W.cell? ⟨w.heap.size, 2, none⟩ = some (.slice a2 l2 k2) ∧ W.cell? ⟨w.heap.size, 3, none⟩ = some (.slice a3 l3 k3) ∧ W.cell? ⟨w.heap.size, 4, none⟩ = some (.slice a4 l4 k4) ∧ W.cell? ⟨w.heap.size, 5, none⟩ = some (.slice a5 l5 k5) ∧ W.cell? ⟨w.heap.size, 6, none⟩ = some (.slice a6 l6 k6) ∧ W.cell? ⟨w.heap.size, 7, none⟩ = some (.int .i64 m0.budA) ∧ W.cell? ⟨w.heap.size, 8, none⟩ = some (.int .i64 m0.budB)) ∧ (W.cell? ⟨g, 0, none⟩ = some (.int .i64 m0.cells) ∧ W.cell? ⟨g, 1, none⟩ = some (.slice (some ⟨p1, 0, none⟩) l1 l1) ∧ W.cell? ⟨g, 2, none⟩ = some (.slice (some ⟨p2, 0, none⟩) l2 l2) ∧ W.cell? ⟨g, 3, none⟩ = some (.slice (some ⟨p3, 0, none⟩) l3 l3) ∧ W.cell? ⟨g, 4, none⟩ = some (.slice (some ⟨p4, 0, none⟩) l4 l4) ∧ W.cell? ⟨g, 5, none⟩ = some (.slice (some ⟨p5, 0, none⟩) l5 l5) ∧ W.cell? ⟨g, 6, none⟩ = some (.slice (some ⟨p6, 0, none⟩) l6 l6) ∧ W.cell? ⟨g, 7, none⟩ = some (.int .i64 m0.budA) ∧ W.cell? ⟨g, 8, none⟩ = some (.int .i64 m0.budB)))) (first | (with_reducible exact ⟨by assumption, HC1.out _ (by assumption)⟩) | (with_reducible exact ⟨hS0.drew, HC1.out _ hS0.drew⟩) | fail) (first | (go_at_call 8; refine (HTO.out _ HB6.out.drew).mono ?_; rintro e w7 ⟨q1, q2, q3, q4, q5, q6, rfl, hrow, hb⟩; have hD7 : Below w6.heap.size w6 w7 := step_belowB hS0.drew hb; have HR7 := hid hrow; clear hb hrow) | (go_at_call 10; refine (HEQ.out _ _ _ _ _ _ _ _ _ _ _ _ _ (HR6.out.below hD7) HR7.out).mono ?_; rintro e w8 ⟨rfl, hb⟩; have hD8 : Below w6.heap.size w6 w8 := step_belowB hD7 hb; clear hb) | fail)
    have HBB := hid (HB6.out.trans (hD8.mono HB6.out.size))
    clear hD7 hD8 HR7 HR6 HC1 hS0
    go_wp2_with fail
    go_ret
    exact ⟨rfl, HBB.out⟩
  · go_wp2_with fail
    go_ret
    exact ⟨rfl, HB.out⟩
end Go.Proofs.Ytpobajblngblfaa
