/-
  An IntResult in its block; the laws' lwBig.
-/
import Derived.Test.YtafngcmgmdmciaaResE
import Derived.Deep.QuietTactic
namespace Go.Proofs.Ytafngcmgmdmciaa
open Go.RowKit
set_option linter.unusedVariables false

/-- an IntResult that lies in block p -/
def VarI (W : World) (p : Nat) (c v : Int) : Prop := W.heap[p]? = some (.cells #[.int .i64 c, .int .i64 v] 46 (0, 0))
theorem VarI.lt {W : World} {p : Nat} {c v : Int} (h : VarI W p c v) : p < W.heap.size := (Array.getElem?_eq_some_iff.1 h).1
theorem VarI.below {W W' : World} {p : Nat} {c v : Int} (h : VarI W p c v) (hb : Below W.heap.size W W') : VarI W' p c v := by
  unfold VarI; rw [hb.block p h.lt]; exact h
theorem VarI.cells {W : World} {p : Nat} {c v : Int} (h : VarI W p c v) : W.cell? ⟨p, 0, none⟩ = some (.int .i64 c) ∧ W.cell? ⟨p, 1, none⟩ = some (.int .i64 v) :=
  ⟨cell_of_row W p 0 _ _ _ h, cell_of_row W p 1 _ _ _ h⟩
theorem VarI.new (W : World) (c v : Int) : VarI (W.alloc (.cells #[.int .i64 c, .int .i64 v] 46)) W.heap.size c v := heap_alloc_new _ _

set_option maxHeartbeats 400000 in
theorem big_any (a : Option Addr) (K cap : Nat) (w : World) (hK : K ≤ 1048576) :
    Calls Try.prog 37 #[.slice a K cap] w fun e w' => e = .returned (.bool false) ∧ w' = w := by
  have hd : decide ((1048576 : Int) < (K : Int)) = false := decide_eq_false (by omega)
  go_enter Try.func37, Try.ntmps37
  go_wp2
  go_ret
  exact ⟨rfl, rfl⟩
set_option maxHeartbeats 400000 in
theorem big_yes (a : Option Addr) (K cap : Nat) (w : World) (hK : 1048576 < K) :
    Calls Try.prog 37 #[.slice a K cap] w fun e w' => e = .returned (.bool true) ∧ w' = w := by
  have hd : decide ((1048576 : Int) < (K : Int)) = true := decide_eq_true (by omega)
  go_enter Try.func37, Try.ntmps37
  go_wp2
  go_ret
  exact ⟨rfl, rfl⟩

theorem field0 (a b : Int) (w : World) : (Instr.field 46 (res a b) 0).run Try.prog w = .ok (.int .i64 a) w := by kernel_rfl
theorem field1 (a b : Int) (w : World) : (Instr.field 46 (res a b) 1).run Try.prog w = .ok (.int .i64 b) w := by kernel_rfl

end Go.Proofs.Ytafngcmgmdmciaa
