/-
  impl.byteSums makes the table of all 256 sums; impl.CrcFast answers the plain sum of its words by it, or the fault of its numbers.
-/
import Derived.Test.YtafngcmgmdmciabSums
import Derived.Laws.Rows
import Derived.Laws.Tables
import Derived.Laws.CopyOwn
import Derived.Deep.WholeRow
namespace Go.Proofs.Ytafngcmgmdmciab
open Go.RowKit

/-- 256 noughts; and the table of the sums -/
def Z256 : Array Value := Array.replicate 256 (.int .u16 0)
def TAB : Array Value := Array.ofFn (n := 256) fun j => .int .u16 (Crc.byte 0 j.val : Nat)
theorem TAB_size : TAB.size = 256 := by unfold TAB; simp
theorem Z_size : Z256.size = 256 := by unfold Z256; simp
theorem TAB_get (j : Nat) (h : j < 256) : TAB[j]? = some (.int .u16 (Crc.byte 0 j : Nat)) := by
  unfold TAB
  rw [Array.getElem?_eq_getElem (by simpa using h), Array.getElem_ofFn]
theorem TAB_one : TAB.all (·.oneCell') = true := by kernel_rfl
theorem infoTab : (Try.prog.info? 50).map (fun i => (i.zero, i.size)) = some (some (.agg Z256), 256) := by kernel_rfl

theorem tab_of {cs : Array Value} (hs : cs.size = 256) (h : ∀ j, j < 256 → cs[j]? = some (.int .u16 (Crc.byte 0 j : Nat))) : cs = TAB := by
  apply Array.ext
  · rw [hs, TAB_size]
  · intro i h1 h2
    have a := h i (by omega)
    have b := TAB_get i (by omega)
    rw [Array.getElem?_eq_getElem h1] at a
    rw [Array.getElem?_eq_getElem h2] at b
    simp at a b
    rw [a, b]

set_option maxHeartbeats 800000 in
theorem byteSums_any (w : World) :
    Calls Try.prog 30 #[] w fun e w' => e = .returned (.agg TAB) ∧ Below w.heap.size w w' := by
  obtain ⟨hzero, hsize⟩ := zero_of_info infoTab
  have hZ : Hid _ := hsize
  clear hsize
  go_enter Try.func30, Try.ntmps30
  go_wp2
  go_loopw [2, 3] (fun _ i wr => ∃ (k : Nat) (cs : Array Value), k ≤ 256 ∧ i = .int .i64 k ∧ cs.size = 256 ∧ wr.heap[w.heap.size + 1]? = some (.cells cs 50 (0, 0)) ∧ wr.heap[w.heap.size]? = some (.cells Z256 50 (0, 0)) ∧ (Hid (∀ j, j < k → cs[j]? = some (.int .u16 (Crc.byte 0 j : Nat)))) ∧ Below w.heap.size w wr) (fun _ i _ => 256 - (intOf i).toNat)
  case atStart =>
    refine ⟨0, Z256, by omega, rfl, Z_size, heap_alloc2_new _ _ _, heap_alloc2_old _ _ _, fun j hj => by omega, by go_grown⟩
  case round =>
    obtain ⟨k, cs, hk, rfl, hs, h1, h0, HC, hB⟩ := hrel
    by_cases hlt : k < 256
    · have hcell := cell_of_row wr _ k cs _ _ h1
      rw [Array.getElem?_eq_getElem (by omega)] at hcell
      have hfr := frozen_of_row wr _ k cs _ h1
      have hnew := heap_setCell_same wr _ k cs _ (.int .u16 (Crc.byte 0 k : Nat)) h1
      have hold := heap_setCell_other wr ⟨w.heap.size + 1, k, none⟩ w.heap.size (.int .u16 (Crc.byte 0 k : Nat)) (by simp)
      have HN : Hid _ := hnew
      have HO : Hid _ := hold
      have H0 : Hid _ := h0
      clear hnew hold h0 h1 hzero
      generalize cs[k] = y at hcell
      have hd : decide ((k : Int) < 256) = true := decide_eq_true (by omega)
      have HS : Hid _ := hs
      clear hs hk
      go_wp2_with fail
      refine (sumByte_nat 0 k _ (by omega) (by omega)).mono ?_
      rintro e wr ⟨rfl, rfl⟩
      go_wp2
      go_roundw
      case rel =>
        refine ⟨k + 1, cs.setIfInBounds k (.int .u16 (Crc.byte 0 k : Nat)), by omega, by go_num, ?_, ?_, ?_, ?_, ?_⟩
        · simpa using HS.out
        · exact HN.out
        · exact HO.out.trans H0.out
        · intro j hj
          rw [Array.getElem?_setIfInBounds]
          by_cases hjk : k = j
          · subst hjk
            rw [if_pos rfl, if_pos (by rw [HS.out]; exact hlt)]
          · rw [if_neg hjk]; exact HC.out j (by omega)
        · exact hB.setCell (by simp) _
      case measure => simp [intOf]; omega
    · have hk2 : k = 256 := by omega
      have hd : decide ((k : Int) < 256) = false := decide_eq_false (by omega)
      have hcs := tab_of hs (by rw [← hk2]; exact HC.out)
      rw [hcs] at h1
      clear hcs HC hs hlt hk hk2
      clear hzero
      iterate 18 (first | go_values | go_skip | go_guarded | go_step)
      refine wpList_load_row rfl 50 (.tmp 1) rfl (w.heap.size + 1) rfl 50 TAB (0, 0) _ h1 Try.underlying50 rfl (by rw [hZ.out, TAB_size]) ?_
      refine wpList_store_row rfl 50 (.tmp 0) (.tmp 12) rfl w.heap.size TAB rfl rfl 50 Z256 h0 (by rw [hZ.out, TAB_size]) (by rw [Z_size, TAB_size]) TAB_one ?_
      have hrow := setRow_heap wr w.heap.size _ TAB _ _ h0
      have hB2 := below_setRow hB (Nat.le_refl _) TAB
      clear h0 h1 hB
      iterate 4 (first | go_values | go_skip | go_guarded | go_step)
      exact bodyPost_ret (results_cell_row rfl _ _ w.heap.size 50 TAB (0, 0) _ rfl hrow Try.underlying50 rfl (by rw [hZ.out, TAB_size])) rfl ⟨rfl, hB2⟩

/-- behind the table's making: its cells -/
theorem tab_cells {w : World} (j : Nat) (h : j < 256) : (w.alloc (.cells TAB 50)).cell? ⟨w.heap.size, j, none⟩ = some (.int .u16 (Crc.byte 0 j : Nat)) := by
  rw [cell_of_row _ _ j TAB _ _ (heap_alloc_new w _)]
  exact TAB_get j h


end Go.Proofs.Ytafngcmgmdmciab
