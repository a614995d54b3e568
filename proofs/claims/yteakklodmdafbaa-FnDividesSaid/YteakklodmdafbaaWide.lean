/-
  laws.lwBig; an IntResult in a block of its own; its fields.
-/
import Derived.Test.YteakklodmdafbaaDrawC
import Derived.Test.YteakklodmdafbaaInv
import Derived.RegionTactic
import Derived.Deep.RegionHeld3
import Derived.Deep.QuietTactic
import Derived.BigQuiet
namespace Go.Proofs.Yteakklodmdafbaa
open Go.RowKit
set_option linter.unusedVariables false

/-- an IntResult that lies in block p -/
def VarI (W : World) (p : Nat) (c v : Int) : Prop := W.heap[p]? = some (.cells #[.int .i64 c, .int .i64 v] 27 (0, 0))
theorem VarI.lt {W : World} {p : Nat} {c v : Int} (h : VarI W p c v) : p < W.heap.size := (Array.getElem?_eq_some_iff.1 h).1
theorem VarI.below {W W' : World} {p : Nat} {c v : Int} (h : VarI W p c v) (hb : Below W.heap.size W W') : VarI W' p c v := by
  unfold VarI; rw [hb.block p h.lt]; exact h
theorem VarI.cells {W : World} {p : Nat} {c v : Int} (h : VarI W p c v) : W.cell? ⟨p, 0, none⟩ = some (.int .i64 c) ∧ W.cell? ⟨p, 1, none⟩ = some (.int .i64 v) :=
  ⟨cell_of_row W p 0 _ _ _ h, cell_of_row W p 1 _ _ _ h⟩
theorem VarI.new (W : World) (c v : Int) : VarI (W.alloc (.cells #[.int .i64 c, .int .i64 v] 27)) W.heap.size c v := heap_alloc_new _ _

set_option maxHeartbeats 400000 in
theorem big_any (a : Option Addr) (K cap : Nat) (w : World) (hK : K ≤ 1048576) :
    Calls Try.prog 12 #[.slice a K cap] w fun e w' => e = .returned (.bool false) ∧ w' = w := by
  have hd : decide ((1048576 : Int) < (K : Int)) = false := decide_eq_false (by omega)
  go_enter Try.func12, Try.ntmps12
  go_wp2
  go_ret
  exact ⟨rfl, rfl⟩
set_option maxHeartbeats 400000 in
theorem big_yes (a : Option Addr) (K cap : Nat) (w : World) (hK : 1048576 < K) :
    Calls Try.prog 12 #[.slice a K cap] w fun e w' => e = .returned (.bool true) ∧ w' = w := by
  have hd : decide ((1048576 : Int) < (K : Int)) = true := decide_eq_true (by omega)
  go_enter Try.func12, Try.ntmps12
  go_wp2
  go_ret
  exact ⟨rfl, rfl⟩

theorem field0 (a b : Int) (w : World) : (Instr.field 27 (res a b) 0).run Try.prog w = .ok (.int .i64 a) w := by kernel_rfl
theorem field1 (a b : Int) (w : World) : (Instr.field 27 (res a b) 1).run Try.prog w = .ok (.int .i64 b) w := by kernel_rfl


set_option maxHeartbeats 3200000 in
theorem wide_any (S K cap A : Nat) (c : Option Addr) (w : World) (hK : K ≤ 1048576) (hA : A ≤ 800000) (h : Ready w S c K cap A) :
    Calls Try.prog 31 #[.pointer (some ⟨S, 0, none⟩)] w fun e w' => ∃ x : Int, e = .returned (.int .i64 x) ∧ Ready w' S c K cap (A + 14) ∧ Only S w w' := by
  have HR0 : Hid (Ready w S c K cap A) := h
  clear h
  go_enter Try.func31, Try.ntmps31
  go_wp2_with fail
  refine (word_any S K cap A c w hK (by omega) HR0.out).mono ?_
  rintro e w1 ⟨x1, rfl, hr, ho⟩
  have HR1 : Hid (Ready w1 S c K cap (A + 4)) := hr
  have HO1 : Hid (Only S w w1) := ho
  clear hr ho
  go_wp2_with fail
  refine (word_any S K cap (A + 4) c w1 hK (by omega) HR1.out).mono ?_
  rintro e w2 ⟨x2, rfl, hr, ho⟩
  have HR2 : Hid (Ready w2 S c K cap (A + 8)) := hr
  have HO2 : Hid (Only S w w2) := HO1.out.trans ho
  clear hr ho
  go_wp2_with fail
  refine (word_any S K cap (A + 8) c w2 hK (by omega) HR2.out).mono ?_
  rintro e w3 ⟨x3, rfl, hr, ho⟩
  have HR3 : Hid (Ready w3 S c K cap (A + 12)) := hr
  have HO3 : Hid (Only S w w3) := HO2.out.trans ho
  clear hr ho
  go_wp2_with fail
  refine (draw_next S K cap (A + 12) c 9 w3 hK (by omega) (by omega) (by omega) HR3.out).mono ?_
  rintro e w4 ⟨x4, rfl, h40, h41, hr, ho⟩
  have HR4 : Hid (Ready w4 S c K cap (A + 13)) := hr
  have HO4 : Hid (Only S w w4) := HO3.out.trans ho
  have hlt : S ≠ w4.heap.size := by have := hr.src.lt; omega
  clear hr ho h40 h41
  have hb : Below w4.heap.size w4 (w4.alloc (.cells #[.int .i64 x1, .int .i64 x2, .int .i64 x3, .int .i64 x4, .int .i64 (-1), .int .i64 65536, .int .i64 (-9223372036854775808), .int .i64 9223372036854775807] 2)) := (Below.refl _ _).alloc (Nat.le_refl _) _
  have HP : Hid (Picks (w4.alloc (.cells #[.int .i64 x1, .int .i64 x2, .int .i64 x3, .int .i64 x4, .int .i64 (-1), .int .i64 65536, .int .i64 (-9223372036854775808), .int .i64 9223372036854775807] 2)) w4.heap.size [x1, x2, x3, x4, -1, 65536, -9223372036854775808, 9223372036854775807]) := picks_new w4 [x1, x2, x3, x4, -1, 65536, -9223372036854775808, 9223372036854775807] 2
  have HR5 : Hid (Ready (w4.alloc (.cells #[.int .i64 x1, .int .i64 x2, .int .i64 x3, .int .i64 x4, .int .i64 (-1), .int .i64 65536, .int .i64 (-9223372036854775808), .int .i64 9223372036854775807] 2)) S c K cap (A + 13)) := HR4.out.below hb
  have HO5 : Hid (Only S w (w4.alloc (.cells #[.int .i64 x1, .int .i64 x2, .int .i64 x3, .int .i64 x4, .int .i64 (-1), .int .i64 65536, .int .i64 (-9223372036854775808), .int .i64 9223372036854775807] 2))) := HO4.out.trans (Only.of_below hb (Nat.le_of_lt HR4.out.src.lt))
  clear hb
  go_wp2_with fail
  refine (draw_pick S K cap (A + 13) c w4.heap.size [x1, x2, x3, x4, -1, 65536, -9223372036854775808, 9223372036854775807] 8 8 _ hK (by omega) rfl (by omega) (by omega) HP.out (fun h => hlt h.symm) HR5.out).mono ?_
  rintro e w6 ⟨x, rfl, hx, hr, ho⟩
  have HR6 : Hid (Ready w6 S c K cap (A + 14)) := hr
  have HO6 : Hid (Only S w w6) := HO5.out.trans ho
  clear hr ho hx
  go_wp2
  go_ret
  exact ⟨x, rfl, HR6.out, HO6.out⟩
end Go.Proofs.Yteakklodmdafbaa
