/-
  spec.DrawCrcByte draws some two numbers; nothing that was there turns.
-/
import Derived.Test.YtafngcmgmdmciabDraws
namespace Go.Proofs.Ytafngcmgmdmciab
open Go.RowKit

set_option maxHeartbeats 3200000 in
theorem drawByte_any (a : Option Addr) (K cap : Nat) (w : World) (hK : K ≤ 1048576) (hb : Bytes w a K) (ha : K ≠ 0 → ∀ b o s, a = some ⟨b, o, s⟩ → b < w.heap.size) :
    Calls Try.prog 11 #[.slice a K cap] w fun e w' => ∃ x y : Int, e = .returned (.tuple #[.int .i64 x, .int .i64 y]) ∧ Below w.heap.size w w' := by
  have HR0 : Hid (Ready (w.alloc (.cells #[.slice a K cap, .int .i64 0] 63)) w.heap.size a K cap 0) := ready_new hb ha
  have HB0 : Hid (Below w.heap.size w (w.alloc (.cells #[.slice a K cap, .int .i64 0] 63))) := (Below.refl _ _).alloc (Nat.le_refl _) _
  clear ha hb
  go_enter Try.func11, Try.ntmps11
  go_wp2_with fail
  refine (source_any a K cap w).mono ?_
  rintro e w0 ⟨rfl, rfl⟩
  go_wp2_with fail
  refine (word_any w.heap.size K cap 0 a _ hK (by omega) HR0.out).mono ?_
  rintro e w1 ⟨x1, rfl, hr, ho⟩
  have HR1 : Hid (Ready w1 w.heap.size a K cap 4) := hr
  have HB1 : Hid (Below w.heap.size w w1) := HB0.out.trans ho.1
  clear hr ho HR0 HB0
  go_wp2_with fail
  refine (word_any w.heap.size K cap 4 a _ hK (by omega) HR1.out).mono ?_
  rintro e w2 ⟨x2, rfl, hr, ho⟩
  have HR2 : Hid (Ready w2 w.heap.size a K cap 8) := hr
  have HB2 : Hid (Below w.heap.size w w2) := HB1.out.trans ho.1
  have hlt : w.heap.size < w2.heap.size := hr.src.lt
  clear hr ho HR1 HB1
  have hb : Below w2.heap.size w2 (w2.alloc (.cells #[.int .i64 x1, .int .i64 x2, .int .i64 65536, .int .i64 (-1)] 2)) := (Below.refl _ _).alloc (Nat.le_refl _) _
  have HP : Hid (Picks (w2.alloc (.cells #[.int .i64 x1, .int .i64 x2, .int .i64 65536, .int .i64 (-1)] 2)) w2.heap.size [x1, x2, 65536, -1]) := picks_new w2 [x1, x2, 65536, -1] 2
  have HR3 : Hid (Ready (w2.alloc (.cells #[.int .i64 x1, .int .i64 x2, .int .i64 65536, .int .i64 (-1)] 2)) w.heap.size a K cap 8) := HR2.out.below hb
  have HB3 : Hid (Below w.heap.size w (w2.alloc (.cells #[.int .i64 x1, .int .i64 x2, .int .i64 65536, .int .i64 (-1)] 2))) := HB2.out.trans (hb.mono (Nat.le_of_lt hlt))
  clear hb HR2 HB2
  go_wp2_with fail
  refine (draw_pick w.heap.size K cap 8 a w2.heap.size [x1, x2, 65536, -1] 4 4 _ hK (by omega) rfl (by omega) (by omega) HP.out (by omega) HR3.out).mono ?_
  rintro e w4 ⟨x, rfl, _, hr, ho⟩
  have HR4 : Hid (Ready w4 w.heap.size a K cap 9) := hr
  have HB4 : Hid (Below w.heap.size w w4) := HB3.out.trans ho.1
  clear hr ho HR3 HB3 HP hlt
  go_wp2_with fail
  refine (draw_next w.heap.size K cap 9 a 256 _ hK (by omega) (by omega) (by omega) HR4.out).mono ?_
  rintro e w5 ⟨r1, rfl, h10, h11, hr, ho⟩
  have HR5 : Hid (Ready w5 w.heap.size a K cap 10) := hr
  have HB5 : Hid (Below w.heap.size w w5) := HB4.out.trans ho.1
  clear hr ho HR4 HB4
  go_wp2_with fail
  refine (draw_next w.heap.size K cap 10 a 256 _ hK (by omega) (by omega) (by omega) HR5.out).mono ?_
  rintro e w6 ⟨r2, rfl, h20, h21, hr, ho⟩
  have HR6 : Hid (Ready w6 w.heap.size a K cap 11) := hr
  have HB6 : Hid (Below w.heap.size w w6) := HB5.out.trans ho.1
  have hlt : w.heap.size < w6.heap.size := hr.src.lt
  clear hr ho HR5 HB5
  have hb : Below w6.heap.size w6 (w6.alloc (.cells #[.int .i64 r1, .int .i64 r2, .int .i64 256, .int .i64 (-1)] 2)) := (Below.refl _ _).alloc (Nat.le_refl _) _
  have HP : Hid (Picks (w6.alloc (.cells #[.int .i64 r1, .int .i64 r2, .int .i64 256, .int .i64 (-1)] 2)) w6.heap.size [r1, r2, 256, -1]) := picks_new w6 [r1, r2, 256, -1] 2
  have HR7 : Hid (Ready (w6.alloc (.cells #[.int .i64 r1, .int .i64 r2, .int .i64 256, .int .i64 (-1)] 2)) w.heap.size a K cap 11) := HR6.out.below hb
  have HB7 : Hid (Below w.heap.size w (w6.alloc (.cells #[.int .i64 r1, .int .i64 r2, .int .i64 256, .int .i64 (-1)] 2))) := HB6.out.trans (hb.mono (Nat.le_of_lt hlt))
  clear hb HR6 HB6 h11 h21
  go_wp2_with fail
  refine (draw_pick w.heap.size K cap 11 a w6.heap.size [r1, r2, 256, -1] 4 4 _ hK (by omega) rfl (by omega) (by omega) HP.out (by omega) HR7.out).mono ?_
  rintro e w8 ⟨y, rfl, _, hr, ho⟩
  have HB8 : Hid (Below w.heap.size w w8) := HB7.out.trans ho.1
  clear hr ho HR7 HB7 HP hlt
  go_wp2
  go_ret2
  exact ⟨x, y, rfl, HB8.out⟩
end Go.Proofs.Ytafngcmgmdmciab
