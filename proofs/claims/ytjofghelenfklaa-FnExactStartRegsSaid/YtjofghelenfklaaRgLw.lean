/-
  The laws' own on a machine of the stack: sz, to, eq.
-/
import Derived.Test.YtjofghelenfklaaOpenRg
import Derived.Test.YtjofghelenfklaaStkSole
import Derived.Test.YtjofghelenfklaaCopy
import Derived.Test.YtjofghelenfklaaRgS1
import Derived.Test.YtjofghelenfklaaStkLw
namespace Go.Proofs.Ytjofghelenfklaa
open Go.RowKit
set_option linter.unusedVariables false

set_option maxHeartbeats 1600000 in
set_option maxRecDepth 100000 in
theorem szMach_anyG (m : SM) (a1 a2 : Option Addr) (k1 k2 : Nat) (left : Int) (h0 : 0 ≤ left) (h1 : left ≤ 1048576) (hl1 : m.stk.length ≤ 9223372036854775807) (hl2 : m.cells.length ≤ 9223372036854775807) (w : World) :
    Calls Try.prog 31 #[machL m (.slice a1 m.stk.length k1) (.slice a2 m.cells.length k2), .int .i64 left] w fun e w' => ∃ r : Int, e = .returned (.int .i64 r) ∧ (0 ≤ r → m.stk.length ≤ 1048576 ∧ m.cells.length ≤ 1048576 ∧ r ≤ 1048576) ∧ Below w.heap.size w w' := by
  have HX : Hid (∀ W, Calls Try.prog 89 #[.slice a1 m.stk.length k1, .int .i64 left] W fun e w' => ∃ r : Int, e = .returned (.int .i64 r) ∧ LeftM left r (m.stk.length ≤ 1048576) ∧ Below W.heap.size W w') := fun W => szIntsM_any a1 _ k1 left h0 h1 hl1 W
  have HY : Hid (∀ (r : Int) W, 0 ≤ r → r ≤ 1048576 → Calls Try.prog 89 #[.slice a2 m.cells.length k2, .int .i64 r] W fun e w' => ∃ q : Int, e = .returned (.int .i64 q) ∧ LeftM r q (m.cells.length ≤ 1048576) ∧ Below W.heap.size W w') := fun r W h0 h1 => szIntsM_any a2 _ k2 r h0 h1 hl2 W
  have hA := heap_alloc_new w (.cells (lineL m (.slice a1 m.stk.length k1) (.slice a2 m.cells.length k2)) 47)
  have hB : Below w.heap.size w (w.alloc (.cells (lineL m (.slice a1 m.stk.length k1) (.slice a2 m.cells.length k2)) 47)) := (Below.refl _ _).alloc (Nat.le_refl _) _
  generalize m.stk.length = l1 at *
  generalize m.cells.length = l2 at *
  clear hl1 hl2
  go_enter Try.func31, Try.ntmps31
  go_upto_region 1 with fail
  generalize w.alloc (.cells (lineL m (.slice a1 l1 k1) (.slice a2 l2 k2)) 47) = W at *
  obtain ⟨_, c1, _⟩ := row7 hA
  go_wp2_with fail
  refine (HX.out _).mono ?_
  rintro e w2 ⟨r, rfl, hr, hb⟩
  have HA : Hid _ := blk8 hA hb
  have HB : Hid (Below w.heap.size w w2) := hB.trans (hb.mono hB.size)
  clear hA hB hb HX c1
  rcases hr with rfl | ⟨k1, m1, z1⟩
  · go_wp2_with fail
    go_ret
    exact ⟨_, rfl, fun h => absurd h (by omega), HB.out⟩
  · have HZ1 : Hid _ := z1
    clear z1
    obtain ⟨_, _, c2, _⟩ := row7 HA.out
    go_wp2_with fail
    refine (HY.out _ _ k1 (by omega)).mono ?_
    rintro e w3 ⟨q, rfl, hq, hb⟩
    have HB2 : Hid (Below w.heap.size w w3) := HB.out.trans (hb.mono HB.out.size)
    clear HB hb HY HA c2
    rcases hq with rfl | ⟨k3, m3, z3⟩
    · go_wp2_with fail
      go_ret
      exact ⟨_, rfl, fun h => absurd h (by omega), HB2.out⟩
    · have HZ3 : Hid _ := z3
      clear z3
      go_wp2_with fail
      go_ret
      exact ⟨_, rfl, fun _ => ⟨HZ1.out, HZ3.out, by omega⟩, HB2.out⟩
end Go.Proofs.Ytjofghelenfklaa
