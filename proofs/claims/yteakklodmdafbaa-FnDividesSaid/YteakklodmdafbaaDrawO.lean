/-
  spec.DrawBinaryOf, DrawBinaryInv: some op and two numbers; nothing that was there turns.
-/
import Derived.Test.YteakklodmdafbaaWide
namespace Go.Proofs.Yteakklodmdafbaa
open Go.RowKit
set_option linter.unusedVariables false

set_option maxHeartbeats 3200000 in
theorem drawBin_any (a : Option Addr) (K cap : Nat) (w : World) (hK : K ≤ 1048576) (hb : Bytes w a K) (ha : K ≠ 0 → ∀ b o s, a = some ⟨b, o, s⟩ → b < w.heap.size) :
    Calls Try.prog 13 #[.slice a K cap] w fun e w' => ∃ x y z : Int, e = .returned (.tuple #[.int .i64 x, .int .i64 y, .int .i64 z]) ∧ Below w.heap.size w w' := by
  have HR0 : Hid (Ready (w.alloc (.cells #[.slice a K cap, .int .i64 0] 47)) w.heap.size a K cap 0) := ready_new hb ha
  have HB0 : Hid (Below w.heap.size w (w.alloc (.cells #[.slice a K cap, .int .i64 0] 47))) := (Below.refl _ _).alloc (Nat.le_refl _) _
  clear ha hb
  go_enter Try.func13, Try.ntmps13
  go_wp2_with fail
  refine (source_any a K cap w).mono ?_
  rintro e w0 ⟨rfl, rfl⟩
  go_wp2_with fail
  refine (wide_any w.heap.size K cap 0 a _ hK (by omega) HR0.out).mono ?_
  rintro e w1 ⟨x1, rfl, hr, ho⟩
  have HR1 : Hid (Ready w1 w.heap.size a K cap 14) := hr
  have HB1 : Hid (Below w.heap.size w w1) := HB0.out.trans ho.1
  clear hr ho HR0 HB0
  go_wp2_with fail
  refine (draw_next w.heap.size K cap 14 a 10 _ hK (by omega) (by omega) (by omega) HR1.out).mono ?_
  rintro e w2 ⟨r1, rfl, h10, h11, hr, ho⟩
  have HR2 : Hid (Ready w2 w.heap.size a K cap 15) := hr
  have HB2 : Hid (Below w.heap.size w w2) := HB1.out.trans ho.1
  clear hr ho HR1 HB1
  go_wp2_with fail
  refine (draw_next w.heap.size K cap 15 a 10 _ hK (by omega) (by omega) (by omega) HR2.out).mono ?_
  rintro e w3 ⟨r2, rfl, h20, h21, hr, ho⟩
  have HR3 : Hid (Ready w3 w.heap.size a K cap 16) := hr
  have HB3 : Hid (Below w.heap.size w w3) := HB2.out.trans ho.1
  clear hr ho HR2 HB2
  go_wp2_with fail
  refine (draw_next w.heap.size K cap 16 a 10 _ hK (by omega) (by omega) (by omega) HR3.out).mono ?_
  rintro e w4 ⟨r3, rfl, h30, h31, hr, ho⟩
  have HR4 : Hid (Ready w4 w.heap.size a K cap 17) := hr
  have HB4 : Hid (Below w.heap.size w w4) := HB3.out.trans ho.1
  have hlt : w.heap.size < w4.heap.size := hr.src.lt
  have h12 : r1 < 10 := by omega
  have h22 : r2 < 10 := by omega
  have h32 : r3 < 10 := by omega
  clear hr ho HR3 HB3 h11 h21 h31
  have hb : Below w4.heap.size w4 (w4.alloc (.cells #[.int .i64 (1 + r1), .int .i64 (1 + r2), .int .i64 (1 + r3), .int .i64 0, .int .i64 11] 2)) := (Below.refl _ _).alloc (Nat.le_refl _) _
  have HP : Hid (Picks (w4.alloc (.cells #[.int .i64 (1 + r1), .int .i64 (1 + r2), .int .i64 (1 + r3), .int .i64 0, .int .i64 11] 2)) w4.heap.size [1 + r1, 1 + r2, 1 + r3, 0, 11]) := picks_new w4 [1 + r1, 1 + r2, 1 + r3, 0, 11] 2
  have HR5 : Hid (Ready (w4.alloc (.cells #[.int .i64 (1 + r1), .int .i64 (1 + r2), .int .i64 (1 + r3), .int .i64 0, .int .i64 11] 2)) w.heap.size a K cap 17) := HR4.out.below hb
  have HB5 : Hid (Below w.heap.size w (w4.alloc (.cells #[.int .i64 (1 + r1), .int .i64 (1 + r2), .int .i64 (1 + r3), .int .i64 0, .int .i64 11] 2))) := HB4.out.trans (hb.mono (Nat.le_of_lt hlt))
  clear hb HR4 HB4
  go_wp2_with fail
  refine (draw_pick w.heap.size K cap 17 a w4.heap.size [1 + r1, 1 + r2, 1 + r3, 0, 11] 5 5 _ hK (by omega) rfl (by omega) (by omega) HP.out (by omega) HR5.out).mono ?_
  rintro e w6 ⟨x, rfl, _, hr, ho⟩
  have HR6 : Hid (Ready w6 w.heap.size a K cap 18) := hr
  have HB6 : Hid (Below w.heap.size w w6) := HB5.out.trans ho.1
  clear hr ho HR5 HB5 HP hlt
  go_wp2_with fail
  refine (wide_any w.heap.size K cap 18 a _ hK (by omega) HR6.out).mono ?_
  rintro e w7 ⟨z, rfl, hr, ho⟩
  have HB7 : Hid (Below w.heap.size w w7) := HB6.out.trans ho.1
  clear hr ho HR6 HB6
  go_wp2
  go_returns
  exact ⟨x, x1, z, rfl, HB7.out⟩

set_option maxHeartbeats 400000 in
theorem drawInv_any (a : Option Addr) (K cap : Nat) (w : World) (hK : K ≤ 1048576) (hb : Bytes w a K) (ha : K ≠ 0 → ∀ b o s, a = some ⟨b, o, s⟩ → b < w.heap.size) :
    Calls Try.prog 24 #[.slice a K cap] w fun e w' => ∃ x y z : Int, e = .returned (.tuple #[.int .i64 x, .int .i64 y, .int .i64 z]) ∧ Below w.heap.size w w' := by
  have HA : Hid (K ≠ 0 → ∀ b o s, a = some ⟨b, o, s⟩ → b < w.heap.size) := ha
  clear ha
  go_enter Try.func24, Try.ntmps24
  go_wp2_with fail
  refine (drawBin_any a K cap w hK hb HA.out).mono ?_
  rintro e w1 ⟨x, y, z, rfl, hB⟩
  go_wp2
  go_returns
  exact ⟨x, y, z, rfl, hB⟩
end Go.Proofs.Yteakklodmdafbaa
