/-
  impl and spec: WordOf, SignedOf, oneIf, l2Bit answer the plain word at every number.
-/
import Derived.Test.YtlofagpffeaebaaBase
import Derived.Test.YtlofagpffeaebaaWord
namespace Go.Proofs.Ytlofagpffeaebaa
open Go.RowKit

theorem ret64 {a b : Int} (h : a = b) : Ending.returned (.int .i64 a) = Ending.returned (.int .i64 b) := by rw [h]
theorem ret16 {a b : Int} (h : a = b) : Ending.returned (.int .u16 a) = Ending.returned (.int .u16 b) := by rw [h]
theorem w64_wd (x : Int) : wrap64 (wd x) = wd x := by have := wd_lo x; have := wd_hi x; unfold wrap64; omega
theorem w64_sg (x : Int) : wrap64 (sg x) = sg x := by have := sg_lo x; have := sg_hi x; unfold wrap64; omega
set_option maxHeartbeats 400000 in
theorem implWordOf (x : Int) (w : World) : Calls Try.prog 120 #[.int .i64 x] w fun e w' => e = .returned (.int .i64 (wd x)) ∧ w' = w := by
  go_enter Try.func120, Try.ntmps120
  go_wp2
  go_ret
  refine ⟨ret64 ?_, rfl⟩
  rw [wrap_wd, w64_wd]
set_option maxHeartbeats 400000 in
theorem specWordOf (x : Int) (w : World) : Calls Try.prog 144 #[.int .i64 x] w fun e w' => e = .returned (.int .i64 (wd x)) ∧ w' = w := by
  go_enter Try.func144, Try.ntmps144
  go_wp2
  go_ret
  refine ⟨ret64 ?_, rfl⟩
  rw [wrap_wd, w64_wd]
set_option maxHeartbeats 400000 in
theorem implSignedOf (x : Int) (w : World) : Calls Try.prog 132 #[.int .i64 x] w fun e w' => e = .returned (.int .i64 (sg x)) ∧ w' = w := by
  go_enter Try.func132, Try.ntmps132
  go_wp2
  go_ret
  refine ⟨ret64 ?_, rfl⟩
  rw [wrap_sg, w64_sg]
set_option maxHeartbeats 400000 in
theorem specSignedOf (x : Int) (w : World) : Calls Try.prog 143 #[.int .i64 x] w fun e w' => e = .returned (.int .i64 (sg x)) ∧ w' = w := by
  go_enter Try.func143, Try.ntmps143
  go_wp2
  go_ret
  refine ⟨ret64 ?_, rfl⟩
  rw [wrap_sg, wrap_wd, sg_wd, w64_sg]
set_option maxHeartbeats 400000 in
theorem oneIf_any (b : Bool) (w : World) : Calls Try.prog 122 #[.bool b] w fun e w' => e = .returned (.int .u16 (if b then 1 else 0)) ∧ w' = w := by
  cases b <;> (go_enter Try.func122, Try.ntmps122; go_wp2; go_ret; exact ⟨rfl, rfl⟩)
set_option maxHeartbeats 400000 in
theorem l2Bit_any (b : Bool) (w : World) : Calls Try.prog 145 #[.bool b] w fun e w' => e = .returned (.int .i64 (if b then 1 else 0)) ∧ w' = w := by
  cases b <;> (go_enter Try.func145, Try.ntmps145; go_wp2; go_ret; exact ⟨rfl, rfl⟩)
end Go.Proofs.Ytlofagpffeaebaa
