/-
  spec.l1DrawWord: some number. Nothing that was there turns but the source.
-/
import Derived.Test.YtlofagpffeaebaaDrawC
namespace Go.Proofs.Ytlofagpffeaebaa
open Go.RowKit

set_option maxHeartbeats 1600000 in
theorem word_any (S K cap A : Nat) (c : Option Addr) (w : World) (hK : K ≤ 1048576) (hA : A ≤ 900000) (h : Ready w S c K cap A) :
    Calls Try.prog 75 #[.pointer (some ⟨S, 0, none⟩)] w fun e w' => ∃ x : Int, e = .returned (.int .i64 x) ∧ Ready w' S c K cap (A + 4) ∧ Only S w w' := by
  have HR0 : Hid (Ready w S c K cap A) := h
  clear h
  go_enter Try.func75, Try.ntmps75
  go_wp2_with fail
  refine (draw_next S K cap A c 90 w hK (by omega) (by omega) (by omega) HR0.out).mono ?_
  rintro e w1 ⟨r1, rfl, h10, h11, hr, ho⟩
  have HR1 : Hid (Ready w1 S c K cap (A + 1)) := hr
  have HO1 : Hid (Only S w w1) := ho
  clear hr ho
  go_wp2_with fail
  refine (draw_next S K cap (A + 1) c 256 w1 hK (by omega) (by omega) (by omega) HR1.out).mono ?_
  rintro e w2 ⟨r2, rfl, h20, h21, hr, ho⟩
  have HR2 : Hid (Ready w2 S c K cap (A + 2)) := hr
  have HO2 : Hid (Only S w w2) := HO1.out.trans ho
  clear hr ho
  go_wp2_with fail
  refine (draw_next S K cap (A + 2) c 9 w2 hK (by omega) (by omega) (by omega) HR2.out).mono ?_
  rintro e w3 ⟨r3, rfl, h30, h31, hr, ho⟩
  have HR3 : Hid (Ready w3 S c K cap (A + 3)) := hr
  have HO3 : Hid (Only S w w3) := HO2.out.trans ho
  have h12 : r1 < 90 := by omega
  have h22 : r2 < 256 := by omega
  have h32 : r3 < 9 := by omega
  have hlt : S ≠ w3.heap.size := by have := hr.src.lt; omega
  clear hr ho h11 h21 h31
  have hb : Below w3.heap.size w3 (w3.alloc (.cells #[.int .i64 r1, .int .i64 (r2 * 257), .int .i64 (65535 - r3), .int .i64 32768, .int .i64 32767, .int .i64 0] 2)) := (Below.refl _ _).alloc (Nat.le_refl _) _
  have HP : Hid (Picks (w3.alloc (.cells #[.int .i64 r1, .int .i64 (r2 * 257), .int .i64 (65535 - r3), .int .i64 32768, .int .i64 32767, .int .i64 0] 2)) w3.heap.size [r1, r2 * 257, 65535 - r3, 32768, 32767, 0]) := picks_new w3 [r1, r2 * 257, 65535 - r3, 32768, 32767, 0] 2
  have HR4 : Hid (Ready (w3.alloc (.cells #[.int .i64 r1, .int .i64 (r2 * 257), .int .i64 (65535 - r3), .int .i64 32768, .int .i64 32767, .int .i64 0] 2)) S c K cap (A + 3)) := HR3.out.below hb
  have HO4 : Hid (Only S w (w3.alloc (.cells #[.int .i64 r1, .int .i64 (r2 * 257), .int .i64 (65535 - r3), .int .i64 32768, .int .i64 32767, .int .i64 0] 2))) := HO3.out.trans (Only.of_below hb (Nat.le_of_lt HR3.out.src.lt))
  clear hb
  go_wp2_with fail
  refine (draw_pick S K cap (A + 3) c w3.heap.size [r1, r2 * 257, 65535 - r3, 32768, 32767, 0] 6 6 _ hK (by omega) rfl (by omega) (by omega) HP.out (fun h => hlt h.symm) HR4.out).mono ?_
  rintro e w5 ⟨x, rfl, hx, hr, ho⟩
  have HR5 : Hid (Ready w5 S c K cap (A + 4)) := hr
  have HO5 : Hid (Only S w w5) := HO4.out.trans ho
  clear hr ho hx
  go_wp2
  go_ret
  exact ⟨x, rfl, HR5.out, HO5.out⟩
end Go.Proofs.Ytlofagpffeaebaa
