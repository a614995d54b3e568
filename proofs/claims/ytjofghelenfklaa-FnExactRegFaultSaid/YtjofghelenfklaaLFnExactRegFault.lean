/-
  The Go function laws.FnExactRegFault answers true at every input and leaves its arguments as they were. No condition.
-/
import Derived.Test.YtjofghelenfklaaRgLw2
import Derived.Test.YtjofghelenfklaaRgI11
import Derived.Deep.RegionHeld3
namespace Go.Proofs.Ytjofghelenfklaa
open Go.RowKit
set_option linter.unusedVariables false

set_option maxHeartbeats 1600000 in
set_option maxRecDepth 100000 in
theorem specRegFault (m : SM) (sv cv : Value) (w : World) (hs : RowV w sv m.stk) (hc : RowV w cv m.cells) (hl1 : m.stk.length ≤ 1048576) (hl2 : m.cells.length ≤ 1048576) :
    Calls Try.prog 32 #[machL m sv cv] w fun e w' => e = .returned (.int .i64 (rmF m)) ∧ Below w.heap.size w w' := by
  have hB : Below w.heap.size w (w.alloc (.cells (lineL m sv cv) 28)) := (Below.refl _ _).alloc (Nat.le_refl _) _
  have HX : Hid (Calls Try.prog 85 #[.pointer (some ⟨w.heap.size, 0, none⟩)] (w.alloc (.cells (lineL m sv cv) 28)) fun e w' => e = .returned (.int .i64 (rmF m)) ∧ w' = w.alloc (.cells (lineL m sv cv) 28)) :=
    l10Fault_any w.heap.size m sv cv _ (heap_alloc_new w _) (hs.below hB) (hc.below hB) hl1 hl2
  have HB : Hid _ := hB
  obtain ⟨a1, k1, rfl, _⟩ := hs
  obtain ⟨a2, k2, rfl, _⟩ := hc
  clear hB hl1 hl2
  generalize rmF m = F at *
  go_enter Try.func32, Try.ntmps32
  go_wp2_with fail
  refine HX.out.mono ?_
  rintro e w2 ⟨rfl, rfl⟩
  go_wp2_with fail
  go_ret
  exact ⟨rfl, HB.out⟩

set_option maxHeartbeats 6400000 in
set_option maxRecDepth 100000 in
theorem fnExactRegFault_walk (sv0 cv0 : Value) (m0 : SM) (w : World) (w0 : IsMach w sv0 cv0 m0) :
    Calls Try.prog 5 #[.agg #[.int .i64 m0.pc, sv0, cv0, .int .i64 m0.sig, .int .i64 m0.used, .int .i64 m0.trap, .bool m0.done]] w fun e w' => e = .returned (.bool true) ∧ Below w.heap.size w w' := by
  obtain ⟨hs, hc, hsl, hcl⟩ := w0
  have HRS : Hid (∀ W, Below w.heap.size w W → RowV W sv0 m0.stk ∧ RowV W cv0 m0.cells) := fun W hb => ⟨hs.below hb, hc.below hb⟩
  obtain ⟨a1, k1, rfl, _⟩ := hs
  obtain ⟨a2, k2, rfl, _⟩ := hc
  have HSZ : Hid (∀ W, Calls Try.prog 31 #[machL m0 (.slice a1 m0.stk.length k1) (.slice a2 m0.cells.length k2), .int .i64 1048576] W fun e w' => ∃ r : Int, e = .returned (.int .i64 r) ∧ (0 ≤ r → m0.stk.length ≤ 1048576 ∧ m0.cells.length ≤ 1048576 ∧ r ≤ 1048576) ∧ Below W.heap.size W w') := fun W => szMach_anyG m0 a1 a2 k1 k2 1048576 (by omega) (by omega) hsl hcl W
  have hA := heap_alloc_new w (.cells (lineL m0 (.slice a1 m0.stk.length k1) (.slice a2 m0.cells.length k2)) 47)
  have hB : Below w.heap.size w (w.alloc (.cells (lineL m0 (.slice a1 m0.stk.length k1) (.slice a2 m0.cells.length k2)) 47)) := (Below.refl _ _).alloc (Nat.le_refl _) _
  clear hsl hcl
  go_enter Try.func5, Try.ntmps5
  go_upto_region 2 with fail
  generalize w.alloc (.cells (lineL m0 (.slice a1 m0.stk.length k1) (.slice a2 m0.cells.length k2)) 47) = W at *
  obtain ⟨c0, c1, c2, c3, c4, c5, c6⟩ := row7 hA
  go_wp2_with fail
  refine (HSZ.out _).mono ?_
  rintro e w1 ⟨r, rfl, hr, hb⟩
  have HA : Hid (w1.heap[w.heap.size]? = some (.cells (lineL m0 (.slice a1 m0.stk.length k1) (.slice a2 m0.cells.length k2)) 47 (0, 0))) := blk8 hA hb
  have HB : Hid (Below w.heap.size w w1) := hB.trans (hb.mono hB.size)
  clear hb hA hB c0 c1 c2 c3 c4 c5 c6 HSZ
  by_cases h0 : 0 ≤ r
  · obtain ⟨hz1, hz2, _⟩ := hr h0
    have HTO : Hid (∀ W, Below w.heap.size w W → Calls Try.prog 33 #[machL m0 (.slice a1 m0.stk.length k1) (.slice a2 m0.cells.length k2)] W fun e w' => ∃ g1 g2, e = .returned (machL m0 (.slice (some ⟨g1, 0, none⟩) m0.stk.length m0.stk.length) (.slice (some ⟨g2, 0, none⟩) m0.cells.length m0.cells.length)) ∧ (RowV w' (.slice (some ⟨g1, 0, none⟩) m0.stk.length m0.stk.length) m0.stk ∧ RowV w' (.slice (some ⟨g2, 0, none⟩) m0.cells.length m0.cells.length) m0.cells) ∧ Below W.heap.size W w') := fun W hW =>
      (toMach_anyG m0 _ _ W (HRS.out W hW).1 (HRS.out W hW).2 hz1 hz2).mono fun e w' h => by
        obtain ⟨g1, g2, _, rfl, h1, h2, h3⟩ := h
        exact ⟨g1, g2, rfl, ⟨own_row h1, own_row h2⟩, h3⟩
    have HSP : Hid (∀ sv cv W, RowV W sv m0.stk ∧ RowV W cv m0.cells → Calls Try.prog 32 #[machL m0 sv cv] W fun e w' => e = .returned (.int .i64 (rmF m0)) ∧ Below W.heap.size W w') := fun sv cv W h => specRegFault m0 sv cv W h.1 h.2 hz1 hz2
    have HIM : Hid (∀ sv cv W, RowV W sv m0.stk ∧ RowV W cv m0.cells → Calls Try.prog 21 #[machL m0 sv cv] W fun e w' => e = .returned (.int .i64 (rmF m0)) ∧ Below W.heap.size W w') := fun sv cv W h => irgFault_any m0 sv cv W h.1 h.2 hz1 hz2
    have HEQ : Hid (∀ sv cv sv' cv' W, RowV W sv m0.stk ∧ RowV W cv m0.cells → RowV W sv' m0.stk ∧ RowV W cv' m0.cells → Calls Try.prog 34 #[machL m0 sv cv, machL m0 sv' cv'] W fun e w' => e = .returned (.bool true) ∧ Below W.heap.size W w') := fun sv cv sv' cv' W h h' => eqMach_anyG m0 sv cv sv' cv' W h.1 h.2 h'.1 h'.2 hz1 hz2
    clear hr hz1 hz2
    generalize rmF m0 = F at *
    have HRB : Hid (∀ (sv cv : Value) (W W' : World), RowV W sv m0.stk ∧ RowV W cv m0.cells → Below W.heap.size W W' → RowV W' sv m0.stk ∧ RowV W' cv m0.cells) := fun sv cv W W' h hb => ⟨h.1.below hb, h.2.below hb⟩
    generalize m0.stk.length = l1 at *
    generalize m0.cells.length = l2 at *
    obtain ⟨c0, c1, c2, c3, c4, c5, c6⟩ := row7 HA.out
    go_wp2_with fail
    refine (HTO.out _ HB.out).mono ?_
    rintro e w2 ⟨p1, p2, rfl, hrow, hb⟩
    have HA2 : Hid _ := blk8 HA.out hb
    have HB2 : Hid (Below w.heap.size w w2) := HB.out.trans (hb.mono HB.out.size)
    have HR2 : Hid _ := hrow
    clear c0 c1 c2 c3 c4 c5 c6 hb HA HB hrow
    go_wp2_with fail
    refine (HSP.out _ _ _ HR2.out).mono ?_
    rintro e w3 ⟨rfl, hb⟩
    have HA3 : Hid _ := blk8 HA2.out hb
    have HB3 : Hid (Below w.heap.size w w3) := HB2.out.trans (hb.mono HB2.out.size)
    clear hb HA2 HB2 HR2 HSP
    obtain ⟨c0, c1, c2, c3, c4, c5, c6⟩ := row7 HA3.out
    go_wp2_with fail
    refine (HTO.out _ HB3.out).mono ?_
    rintro e w4 ⟨p1, p2, rfl, hrow, hb⟩
    have hA4 := blk8 HA3.out hb
    have hB4 : Below w.heap.size w w4 := HB3.out.trans (hb.mono HB3.out.size)
    clear c0 c1 c2 c3 c4 c5 c6 hb HA3 HB3
    have x5 := heap_alloc_new w4 (.cells (lineL m0 (.slice (some ⟨p1, 0, none⟩) l1 l1) (.slice (some ⟨p2, 0, none⟩) l2 l2)) 28)
    have y5 := (Below.refl w4.heap.size w4).alloc (Nat.le_refl _) (.cells (lineL m0 (.slice (some ⟨p1, 0, none⟩) l1 l1) (.slice (some ⟨p2, 0, none⟩) l2 l2)) 28)
    have HA5 : Hid _ := blk8 hA4 y5
    have HB5 : Hid (Below w.heap.size w _) := hB4.trans (y5.mono hB4.size)
    have HR5 : Hid _ := HRB.out _ _ _ _ hrow y5
    have HX5 : Hid _ := x5
    clear hA4 hB4 hrow x5 y5
    go_upto_region 7 with fail
    generalize w4.alloc (.cells (lineL m0 (.slice (some ⟨p1, 0, none⟩) l1 l1) (.slice (some ⟨p2, 0, none⟩) l2 l2)) 28) = W5 at *
    generalize w4.heap.size = g at *
    obtain ⟨c0, c1, c2, c3, c4, c5, c6⟩ := row7 HX5.out
    go_wp2_with fail
    refine (HIM.out _ _ _ HR5.out).mono ?_
    rintro e w6 ⟨rfl, hb⟩
    have HA6 : Hid _ := blk8 HA5.out hb
    have HX6 : Hid _ := blk8 HX5.out hb
    have HB6 : Hid (Below w.heap.size w w6) := HB5.out.trans (hb.mono HB5.out.size)
    have HR6 : Hid _ := HRB.out _ _ _ _ HR5.out hb
    clear c0 c1 c2 c3 c4 c5 c6 hb HA5 HX5 HB5 HR5 HIM
    have HC1 : Hid (∀ W, Below w6.heap.size w6 W → (W.cell? ⟨w.heap.size, 0, none⟩ = some (.int .i64 m0.pc) ∧ W.cell? ⟨w.heap.size, 1, none⟩ = some (.slice a1 l1 k1) ∧ W.cell? ⟨w.heap.size, 2, none⟩ = some (.slice a2 l2 k2) ∧ W.cell? ⟨w.heap.size, 3, none⟩ = some (.int .i64 m0.sig) ∧ W.cell? ⟨w.heap.size, 4, none⟩ = some (.int .i64 m0.used) ∧ W.cell? ⟨w.heap.size, 5, none⟩ = some (.int .i64 m0.trap) ∧ W.cell? ⟨w.heap.size, 6, none⟩ = some (.bool m0.done)) ∧ (W.cell? ⟨g, 0, none⟩ = some (.int .i64 m0.pc) ∧ W.cell? ⟨g, 1, none⟩ = some (.slice (some ⟨p1, 0, none⟩) l1 l1) ∧ W.cell? ⟨g, 2, none⟩ = some (.slice (some ⟨p2, 0, none⟩) l2 l2) ∧ W.cell? ⟨g, 3, none⟩ = some (.int .i64 m0.sig) ∧ W.cell? ⟨g, 4, none⟩ = some (.int .i64 m0.used) ∧ W.cell? ⟨g, 5, none⟩ = some (.int .i64 m0.trap) ∧ W.cell? ⟨g, 6, none⟩ = some (.bool m0.done))) := fun W hb => ⟨row7 (blk8 HA6.out hb), row7 (blk8 HX6.out hb)⟩
    obtain ⟨⟨c0, c1, c2, c3, c4, c5, c6⟩, d0, d1, d2, d3, d4, d5, d6⟩ := HC1.out _ (Below.refl _ _)
    clear HA6 HX6
    go_upto_region 10 with fail
    go_region_held3 (fun W => (W.cell? ⟨w.heap.size, 0, none⟩ = some (.int .i64 m0.pc) ∧ W.cell? ⟨w.heap.size, 1, none⟩ = some (.slice a1 l1 k1) ∧ W.cell? ⟨w.heap.size, 2, none⟩ = some (.slice a2 l2 k2) ∧ W.cell? ⟨w.heap.size, 3, none⟩ = some (.int .i64 m0.sig) ∧ W.cell? ⟨w.heap.size, 4, none⟩ = some (.int .i64 m0.used) ∧ W.cell? ⟨w.heap.size, 5, none⟩ = some (.int .i64 m0.trap) ∧ W.cell? ⟨w.heap.size, 6, none⟩ = some (.bool m0.done)) ∧ (W.cell? ⟨g, 0, none⟩ = some (.int .i64 m0.pc) ∧ W.cell? ⟨g, 1, none⟩ = some (.slice (some ⟨p1, 0, none⟩) l1 l1) ∧ W.cell? ⟨g, 2, none⟩ = some (.slice (some ⟨p2, 0, none⟩) l2 l2) ∧ W.cell? ⟨g, 3, none⟩ = some (.int .i64 m0.sig) ∧ W.cell? ⟨g, 4, none⟩ = some (.int .i64 m0.used) ∧ W.cell? ⟨g, 5, none⟩ = some (.int .i64 m0.trap) ∧ W.cell? ⟨g, 6, none⟩ = some (.bool m0.done))) (go_keep) (first | (go_at_call 33; refine (HTO.out _ HB6.out.drew).mono ?_; rintro e w7 ⟨q1, q2, rfl, hrow, hb⟩; have HD : Hid (Below w6.heap.size w6 w7) := (Below.refl w6.heap.size w6).drew.trans (Below.mono hb (Nat.le_refl _)); obtain ⟨⟨c0, c1, c2, c3, c4, c5, c6⟩, d0, d1, d2, d3, d4, d5, d6⟩ := HC1.out _ HD.out; have HR7 : Hid (RowV w7 _ m0.stk ∧ RowV w7 _ m0.cells) := hrow; clear hb hrow) | (go_at_call 34; refine (HEQ.out _ _ _ _ _ (HRB.out _ _ _ _ HR6.out HD.out) HR7.out).mono ?_; rintro e w8 ⟨rfl, hb⟩; have HE : Hid (Below w6.heap.size w6 w8) := HD.out.trans (Below.mono hb HD.out.size); obtain ⟨⟨c0, c1, c2, c3, c4, c5, c6⟩, d0, d1, d2, d3, d4, d5, d6⟩ := HC1.out _ HE.out; clear hb))
    have HBB : Hid (Below w.heap.size w w8) := HB6.out.trans (HE.out.mono HB6.out.size)
    go_wp2
    go_ret
    exact ⟨rfl, HBB.out⟩
  · go_wp2_with fail
    go_ret
    exact ⟨rfl, HB.out⟩
end Go.Proofs.Ytjofghelenfklaa
