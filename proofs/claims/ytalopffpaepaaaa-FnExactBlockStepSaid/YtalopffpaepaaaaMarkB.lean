/-
  laws.markInt64S from a later number on.
-/
import Derived.Test.YtalopffpaepaaaaMarks
namespace Go.Proofs.Ytalopffpaepaaaa
open Go.RowKit

set_option maxHeartbeats 800000 in
theorem markB_any (a : Option Addr) (zs : List Int) (cap B : Nat) (k : Int) (w : World) (hlen : zs.length ≤ 1048576) (hk0 : 0 ≤ k) (hk1 : k ≤ 16777216) (ho : w.ownsRow B 2 1 (.slice a zs.length cap) zs.length (zs.map (Value.int .i64))) :
    Calls Try.prog 21 #[.slice a zs.length cap, .int .i64 k] w fun e w' =>
      e = .returned (.int .i64 (k + zs.length)) ∧ w'.ownsRow B 2 1 (.slice a zs.length cap) zs.length ((marks k zs.length).map (Value.int .i64)) ∧ Below B w w' ∧ w'.heap.size = w.heap.size ∧ (∀ g, a ≠ some ⟨g, 0, none⟩ → w'.heap[g]? = w.heap[g]?) := by
  go_enter Try.func21, Try.ntmps21
  go_wp2
  go_loopw [1, 5] (fun x i wr => ∃ j : Nat, j ≤ zs.length ∧ i = .int .i64 j ∧ x = .int .i64 (k + j) ∧ wr.ownsRow B 2 1 (.slice a zs.length cap) zs.length ((marks k j ++ zs.drop j).map (Value.int .i64)) ∧ Below B w wr ∧ wr.heap.size = w.heap.size ∧ (∀ g, a ≠ some ⟨g, 0, none⟩ → wr.heap[g]? = w.heap[g]?))
    (fun _ i _ => zs.length - (intOf i).toNat)
  case atStart => exact ⟨0, Nat.zero_le _, rfl, by simp, by simpa [marks] using ho, Below.refl _ _, rfl, fun _ _ => rfl⟩
  case round =>
    obtain ⟨j, hj, rfl, rfl, hown, hB, hsz, hoth⟩ := hrel
    by_cases hlt : j < zs.length
    · obtain ⟨g, rfl⟩ : ∃ g, a = some ⟨g, 0, none⟩ := by
        rcases hown.2 with ⟨h, h0⟩ | ⟨g, c, cur, h, _⟩
        · omega
        · simp at h; exact ⟨g, h.1⟩
      have hgB : B ≤ g := (hown.lt g rfl).1
      have hdst := hown.cellAt j (by omega)
      have hfr := hown.frozenAt j
      obtain ⟨y, hy⟩ : ∃ y, wr.cell? ⟨g, j, none⟩ = some y := by
        rw [hdst]; exact ⟨_, List.getElem?_eq_getElem (by simp [marks_length]; omega)⟩
      have hst := (hown.stored j (.int .i64 (k + j))).1
      rw [marked hlt] at hst
      have HOTH : Hid (∀ g', some (⟨g, 0, none⟩ : Addr) ≠ some ⟨g', 0, none⟩ → (wr.setCell ⟨g, j, none⟩ (.int .i64 (k + j))).heap[g']? = w.heap[g']?) := fun g' hg' => by
        rw [heap_setCell_other _ _ _ _ (fun h => hg' (by simp at h; rw [h]))]
        exact hoth g' hg'
      clear hdst hown hoth ho
      go_wp2
      go_roundw
      case rel => exact ⟨j + 1, by omega, by go_num, by go_num, hst, hB.setCell hgB _, by rw [World.size_setCell]; exact hsz, HOTH.out⟩
      case measure => simp [intOf]; omega
    · have hj2 : j = zs.length := by omega
      subst hj2
      have hown2 : Hid (wr.ownsRow B 2 1 (.slice a zs.length cap) zs.length ((marks k zs.length).map (Value.int .i64))) := by
        show World.ownsRow _ _ _ _ _ _ _
        simpa using hown
      have HOTH : Hid (∀ g, a ≠ some ⟨g, 0, none⟩ → wr.heap[g]? = w.heap[g]?) := hoth
      clear hown hoth ho
      go_wp2
      go_ret
      exact ⟨rfl, hown2.out, hB, hsz, HOTH.out⟩

end Go.Proofs.Ytalopffpaepaaaa
