/-
  impl.hasShape at every node.
-/
import Derived.Test.YtbgnmocbpigpmaaIHasA
import Derived.Test.YtbgnmocbpigpmaaIHasB
import Derived.Test.YtbgnmocbpigpmaaIHasC
namespace Go.Proofs.Ytbgnmocbpigpmaa
open Go.RowKit
set_option linter.unusedVariables false
attribute [local go_sem] bs_size bs_get bs_extract bs_append bs_eq bs_toList

set_option maxHeartbeats 1600000 in
theorem hasShape_any (n : LNode) (a a2 a3 : Option Addr) (c c2 c3 : Nat) (w : World) (hl : n.name.length ≤ 1048576) (hk1 : n.kids.length ≤ 1048576) (hk2 : n.thn.length ≤ 1048576) (hk3 : n.els.length ≤ 1048576) :
    Calls Try.prog 71 #[nodeV n (.slice a n.kids.length c) (.slice a2 n.thn.length c2) (.slice a3 n.els.length c3)] w fun e w' => e = .returned (.bool (ownB n)) ∧ Below w.heap.size w w' := by
  obtain ⟨K, op, name, num, far, kids, thn, els⟩ := n
  by_cases hK : inB K 1 11 = true
  · have h := inB_iff.1 hK
    have : K = 1 ∨ K = 2 ∨ K = 3 ∨ K = 4 ∨ K = 5 ∨ K = 6 ∨ K = 7 ∨ K = 8 ∨ K = 9 ∨ K = 10 ∨ K = 11 := by omega
    rcases this with rfl | rfl | rfl | rfl | rfl | rfl | rfl | rfl | rfl | rfl | rfl
    · exact has1 1 _ op name num far kids thn els a a2 a3 c c2 c3 w hl hk1 hk2 hk3 (ownK1 op name num far kids thn els) sh1 hK
    · exact has2 2 _ op name num far kids thn els a a2 a3 c c2 c3 w hl hk1 hk2 hk3 (ownK2 op name num far kids thn els) sh2 hK
    · exact has3 3 _ op name num far kids thn els a a2 a3 c c2 c3 w hl hk1 hk2 hk3 (ownK3 op name num far kids thn els) sh3 hK
    · exact has4 4 _ op name num far kids thn els a a2 a3 c c2 c3 w hl hk1 hk2 hk3 (ownK4 op name num far kids thn els) sh4 hK
    · exact has4 5 _ op name num far kids thn els a a2 a3 c c2 c3 w hl hk1 hk2 hk3 (ownK5 op name num far kids thn els) sh5 hK
    · exact has6 6 _ op name num far kids thn els a a2 a3 c c2 c3 w hl hk1 hk2 hk3 (ownK6 op name num far kids thn els) sh6 hK
    · exact has3 7 _ op name num far kids thn els a a2 a3 c c2 c3 w hl hk1 hk2 hk3 (ownK7 op name num far kids thn els) sh7 hK
    · exact has8 8 _ op name num far kids thn els a a2 a3 c c2 c3 w hl hk1 hk2 hk3 (ownK8 op name num far kids thn els) sh8 hK
    · exact has9 9 _ op name num far kids thn els a a2 a3 c c2 c3 w hl hk1 hk2 hk3 (ownK9 op name num far kids thn els) sh9 hK
    · exact has10 10 _ op name num far kids thn els a a2 a3 c c2 c3 w hl hk1 hk2 hk3 (ownK10 op name num far kids thn els) sh10 hK
    · exact has11 11 _ op name num far kids thn els a a2 a3 c c2 c3 w hl hk1 hk2 hk3 (ownK11 op name num far kids thn els) sh11 hK
  · have hK : inB K 1 11 = false := by simpa using hK
    have HE : Hid (ownB ⟨K, op, name, num, far, kids, thn, els⟩ = false) := by unfold Hid ownB; simp only [hK, Bool.false_and]
    have HW0 : Hid (∀ w, Calls Try.prog 62 #[.int .i64 K, .int .i64 1, .int .i64 11] w fun e w' => e = .returned (.bool false) ∧ w' = w) := fun w => by have h := within_any K 1 11 w; rwa [hK] at h
    generalize ownB ⟨K, op, name, num, far, kids, thn, els⟩ = R at *
    clear hK
    go_enter Try.func71, Try.ntmps71
    go_wp2_with fail
    have hA := heap_alloc_new w (.cells #[.int .i64 K, .int .i64 op, .string (bs name), .int .i64 num, .int .i64 far, .slice a kids.length c, .slice a2 thn.length c2, .slice a3 els.length c3] 99)
    have hB : Below w.heap.size w (w.alloc (.cells #[.int .i64 K, .int .i64 op, .string (bs name), .int .i64 num, .int .i64 far, .slice a kids.length c, .slice a2 thn.length c2, .slice a3 els.length c3] 99)) := (Below.refl _ _).alloc (Nat.le_refl _) _
    generalize w.alloc (.cells #[.int .i64 K, .int .i64 op, .string (bs name), .int .i64 num, .int .i64 far, .slice a kids.length c, .slice a2 thn.length c2, .slice a3 els.length c3] 99) = W at *
    refine (HW0.out _).mono ?_
    rintro e w1 ⟨rfl, rfl⟩
    go_wp2_with fail
    go_ret
    exact ⟨by rw [HE.out]; rfl, hB⟩
end Go.Proofs.Ytbgnmocbpigpmaa
