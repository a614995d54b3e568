/-
  impl.BinaryOf answers the plain code and word at every op and all numbers.
-/
import Derived.Test.YtcikofhbfncgdaaOps
namespace Go.Proofs.Ytcikofhbfncgdaa
open Go.RowKit

/-- an IntResult -/
abbrev res (c v : Int) : Value := .agg #[.int .i64 c, .int .i64 v]

set_option maxHeartbeats 400000 in
theorem implBin_out (op a b : Int) (w : World) (h : op < 1 ∨ 10 < op) : Calls Try.prog 142 #[.int .i64 op, .int .i64 a, .int .i64 b] w fun e w' => e = .returned (res 3 0) ∧ Below w.heap.size w w' := by
  rcases h with h | h
  all_goals (go_enter Try.func142, Try.ntmps142; go_wp2; go_returns; exact ⟨rfl, by go_grown⟩)

set_option maxHeartbeats 400000 in
theorem implBin_zero (op a b : Int) (w : World) (h : op = 4 ∨ op = 5) (hz : wd b = 0) : Calls Try.prog 142 #[.int .i64 op, .int .i64 a, .int .i64 b] w fun e w' => e = .returned (res 4 0) ∧ Below w.heap.size w w' := by
  have hb : (wd b == 0) = true := by rw [hz]; rfl
  clear hz
  rcases h with rfl | rfl
  all_goals
    go_enter Try.func142, Try.ntmps142
    go_wp2_with (first | (go_at_call 161; refine (divides_yes _ (by omega) _).mono ?_; rintro e w' ⟨rfl, rfl⟩) | (go_at_call 160; refine (implWordOf _ _).mono ?_; rintro e w' ⟨rfl, rfl⟩))
    go_returns
    exact ⟨rfl, by go_grown⟩

theorem idx1 (w : World) : (Instr.index 181 tbl (.int .i64 1)).run Try.prog w = .ok (fnv 167) w := by kernel_rfl
theorem idx2 (w : World) : (Instr.index 181 tbl (.int .i64 2)).run Try.prog w = .ok (fnv 168) w := by kernel_rfl
theorem idx3 (w : World) : (Instr.index 181 tbl (.int .i64 3)).run Try.prog w = .ok (fnv 169) w := by kernel_rfl
theorem idx4 (w : World) : (Instr.index 181 tbl (.int .i64 4)).run Try.prog w = .ok (fnv 170) w := by kernel_rfl
theorem idx5 (w : World) : (Instr.index 181 tbl (.int .i64 5)).run Try.prog w = .ok (fnv 171) w := by kernel_rfl
theorem idx6 (w : World) : (Instr.index 181 tbl (.int .i64 6)).run Try.prog w = .ok (fnv 172) w := by kernel_rfl
theorem idx7 (w : World) : (Instr.index 181 tbl (.int .i64 7)).run Try.prog w = .ok (fnv 173) w := by kernel_rfl
theorem idx8 (w : World) : (Instr.index 181 tbl (.int .i64 8)).run Try.prog w = .ok (fnv 174) w := by kernel_rfl
theorem idx9 (w : World) : (Instr.index 181 tbl (.int .i64 9)).run Try.prog w = .ok (fnv 175) w := by kernel_rfl
theorem idx10 (w : World) : (Instr.index 181 tbl (.int .i64 10)).run Try.prog w = .ok (fnv 176) w := by kernel_rfl
set_option maxHeartbeats 400000 in
theorem implBin_1 (a b : Int) (w : World) : Calls Try.prog 142 #[.int .i64 1, .int .i64 a, .int .i64 b] w fun e w' => e = .returned (res 0 (binW 1 a b)) ∧ Below w.heap.size w w' := by
  have hlo := binW_lo 1 a b
  have hhi := binW_hi 1 a b
  have hidx := idx1
  go_enter Try.func142, Try.ntmps142
  go_wp2_with (first | (go_at_call 161; refine (divides_no _ (by omega) _).mono ?_; rintro e w' ⟨rfl, rfl⟩) | (go_at_call 160; refine (implWordOf _ _).mono ?_; rintro e w' ⟨rfl, rfl⟩) | (go_at_call 162; refine (wordOps_any _).mono ?_; rintro e w' ⟨rfl, hb⟩; obtain ⟨hc0, hc1, hf0, hf1, hz⟩ := own2 hb; have hB := back hb; clear hb) | (go_at_call 167; refine (op1_any a b _ (by omega)).mono ?_; rintro e w' ⟨rfl, rfl⟩))
  refine bodyPost_ret (v := res 0 (binW 1 a b)) (by simp [results, Try.results142, go_sem, hc0, hc1]) rfl ⟨rfl, ?_⟩
  go_grown
set_option maxHeartbeats 400000 in
theorem implBin_2 (a b : Int) (w : World) : Calls Try.prog 142 #[.int .i64 2, .int .i64 a, .int .i64 b] w fun e w' => e = .returned (res 0 (binW 2 a b)) ∧ Below w.heap.size w w' := by
  have hlo := binW_lo 2 a b
  have hhi := binW_hi 2 a b
  have hidx := idx2
  go_enter Try.func142, Try.ntmps142
  go_wp2_with (first | (go_at_call 161; refine (divides_no _ (by omega) _).mono ?_; rintro e w' ⟨rfl, rfl⟩) | (go_at_call 160; refine (implWordOf _ _).mono ?_; rintro e w' ⟨rfl, rfl⟩) | (go_at_call 162; refine (wordOps_any _).mono ?_; rintro e w' ⟨rfl, hb⟩; obtain ⟨hc0, hc1, hf0, hf1, hz⟩ := own2 hb; have hB := back hb; clear hb) | (go_at_call 168; refine (op2_any a b _ (by omega)).mono ?_; rintro e w' ⟨rfl, rfl⟩))
  refine bodyPost_ret (v := res 0 (binW 2 a b)) (by simp [results, Try.results142, go_sem, hc0, hc1]) rfl ⟨rfl, ?_⟩
  go_grown
set_option maxHeartbeats 400000 in
theorem implBin_3 (a b : Int) (w : World) : Calls Try.prog 142 #[.int .i64 3, .int .i64 a, .int .i64 b] w fun e w' => e = .returned (res 0 (binW 3 a b)) ∧ Below w.heap.size w w' := by
  have hlo := binW_lo 3 a b
  have hhi := binW_hi 3 a b
  have hidx := idx3
  go_enter Try.func142, Try.ntmps142
  go_wp2_with (first | (go_at_call 161; refine (divides_no _ (by omega) _).mono ?_; rintro e w' ⟨rfl, rfl⟩) | (go_at_call 160; refine (implWordOf _ _).mono ?_; rintro e w' ⟨rfl, rfl⟩) | (go_at_call 162; refine (wordOps_any _).mono ?_; rintro e w' ⟨rfl, hb⟩; obtain ⟨hc0, hc1, hf0, hf1, hz⟩ := own2 hb; have hB := back hb; clear hb) | (go_at_call 169; refine (op3_any a b _ (by omega)).mono ?_; rintro e w' ⟨rfl, rfl⟩))
  refine bodyPost_ret (v := res 0 (binW 3 a b)) (by simp [results, Try.results142, go_sem, hc0, hc1]) rfl ⟨rfl, ?_⟩
  go_grown
set_option maxHeartbeats 400000 in
theorem implBin_4 (a b : Int) (w : World) (hz : wd b ≠ 0) : Calls Try.prog 142 #[.int .i64 4, .int .i64 a, .int .i64 b] w fun e w' => e = .returned (res 0 (binW 4 a b)) ∧ Below w.heap.size w w' := by
  have hb : (wd b == 0) = false := by simpa using hz
  have HZ : Hid (wd b ≠ 0) := hz
  clear hz
  have hlo := binW_lo 4 a b
  have hhi := binW_hi 4 a b
  have hidx := idx4
  go_enter Try.func142, Try.ntmps142
  go_wp2_with (first | (go_at_call 161; refine (divides_yes _ (by omega) _).mono ?_; rintro e w' ⟨rfl, rfl⟩) | (go_at_call 160; refine (implWordOf _ _).mono ?_; rintro e w' ⟨rfl, rfl⟩) | (go_at_call 162; refine (wordOps_any _).mono ?_; rintro e w' ⟨rfl, hb⟩; obtain ⟨hc0, hc1, hf0, hf1, hz⟩ := own2 hb; have hB := back hb; clear hb) | (go_at_call 170; refine (op4_any a b _ (fun _ => HZ.out)).mono ?_; rintro e w' ⟨rfl, rfl⟩))
  refine bodyPost_ret (v := res 0 (binW 4 a b)) (by simp [results, Try.results142, go_sem, hc0, hc1]) rfl ⟨rfl, ?_⟩
  go_grown
set_option maxHeartbeats 400000 in
theorem implBin_5 (a b : Int) (w : World) (hz : wd b ≠ 0) : Calls Try.prog 142 #[.int .i64 5, .int .i64 a, .int .i64 b] w fun e w' => e = .returned (res 0 (binW 5 a b)) ∧ Below w.heap.size w w' := by
  have hb : (wd b == 0) = false := by simpa using hz
  have HZ : Hid (wd b ≠ 0) := hz
  clear hz
  have hlo := binW_lo 5 a b
  have hhi := binW_hi 5 a b
  have hidx := idx5
  go_enter Try.func142, Try.ntmps142
  go_wp2_with (first | (go_at_call 161; refine (divides_yes _ (by omega) _).mono ?_; rintro e w' ⟨rfl, rfl⟩) | (go_at_call 160; refine (implWordOf _ _).mono ?_; rintro e w' ⟨rfl, rfl⟩) | (go_at_call 162; refine (wordOps_any _).mono ?_; rintro e w' ⟨rfl, hb⟩; obtain ⟨hc0, hc1, hf0, hf1, hz⟩ := own2 hb; have hB := back hb; clear hb) | (go_at_call 171; refine (op5_any a b _ (fun _ => HZ.out)).mono ?_; rintro e w' ⟨rfl, rfl⟩))
  refine bodyPost_ret (v := res 0 (binW 5 a b)) (by simp [results, Try.results142, go_sem, hc0, hc1]) rfl ⟨rfl, ?_⟩
  go_grown
set_option maxHeartbeats 400000 in
theorem implBin_6 (a b : Int) (w : World) : Calls Try.prog 142 #[.int .i64 6, .int .i64 a, .int .i64 b] w fun e w' => e = .returned (res 0 (binW 6 a b)) ∧ Below w.heap.size w w' := by
  have hlo := binW_lo 6 a b
  have hhi := binW_hi 6 a b
  have hidx := idx6
  go_enter Try.func142, Try.ntmps142
  go_wp2_with (first | (go_at_call 161; refine (divides_no _ (by omega) _).mono ?_; rintro e w' ⟨rfl, rfl⟩) | (go_at_call 160; refine (implWordOf _ _).mono ?_; rintro e w' ⟨rfl, rfl⟩) | (go_at_call 162; refine (wordOps_any _).mono ?_; rintro e w' ⟨rfl, hb⟩; obtain ⟨hc0, hc1, hf0, hf1, hz⟩ := own2 hb; have hB := back hb; clear hb) | (go_at_call 172; refine (op6_any a b _ (by omega)).mono ?_; rintro e w' ⟨rfl, rfl⟩))
  refine bodyPost_ret (v := res 0 (binW 6 a b)) (by simp [results, Try.results142, go_sem, hc0, hc1]) rfl ⟨rfl, ?_⟩
  go_grown
set_option maxHeartbeats 400000 in
theorem implBin_7 (a b : Int) (w : World) : Calls Try.prog 142 #[.int .i64 7, .int .i64 a, .int .i64 b] w fun e w' => e = .returned (res 0 (binW 7 a b)) ∧ Below w.heap.size w w' := by
  have hlo := binW_lo 7 a b
  have hhi := binW_hi 7 a b
  have hidx := idx7
  go_enter Try.func142, Try.ntmps142
  go_wp2_with (first | (go_at_call 161; refine (divides_no _ (by omega) _).mono ?_; rintro e w' ⟨rfl, rfl⟩) | (go_at_call 160; refine (implWordOf _ _).mono ?_; rintro e w' ⟨rfl, rfl⟩) | (go_at_call 162; refine (wordOps_any _).mono ?_; rintro e w' ⟨rfl, hb⟩; obtain ⟨hc0, hc1, hf0, hf1, hz⟩ := own2 hb; have hB := back hb; clear hb) | (go_at_call 173; refine (op7_any a b _ (by omega)).mono ?_; rintro e w' ⟨rfl, rfl⟩))
  refine bodyPost_ret (v := res 0 (binW 7 a b)) (by simp [results, Try.results142, go_sem, hc0, hc1]) rfl ⟨rfl, ?_⟩
  go_grown
set_option maxHeartbeats 400000 in
theorem implBin_8 (a b : Int) (w : World) : Calls Try.prog 142 #[.int .i64 8, .int .i64 a, .int .i64 b] w fun e w' => e = .returned (res 0 (binW 8 a b)) ∧ Below w.heap.size w w' := by
  have hlo := binW_lo 8 a b
  have hhi := binW_hi 8 a b
  have hidx := idx8
  go_enter Try.func142, Try.ntmps142
  go_wp2_with (first | (go_at_call 161; refine (divides_no _ (by omega) _).mono ?_; rintro e w' ⟨rfl, rfl⟩) | (go_at_call 160; refine (implWordOf _ _).mono ?_; rintro e w' ⟨rfl, rfl⟩) | (go_at_call 162; refine (wordOps_any _).mono ?_; rintro e w' ⟨rfl, hb⟩; obtain ⟨hc0, hc1, hf0, hf1, hz⟩ := own2 hb; have hB := back hb; clear hb) | (go_at_call 174; refine (op8_any a b _ (by omega)).mono ?_; rintro e w' ⟨rfl, rfl⟩))
  refine bodyPost_ret (v := res 0 (binW 8 a b)) (by simp [results, Try.results142, go_sem, hc0, hc1]) rfl ⟨rfl, ?_⟩
  go_grown
set_option maxHeartbeats 400000 in
theorem implBin_9 (a b : Int) (w : World) : Calls Try.prog 142 #[.int .i64 9, .int .i64 a, .int .i64 b] w fun e w' => e = .returned (res 0 (binW 9 a b)) ∧ Below w.heap.size w w' := by
  have hlo := binW_lo 9 a b
  have hhi := binW_hi 9 a b
  have hidx := idx9
  go_enter Try.func142, Try.ntmps142
  go_wp2_with (first | (go_at_call 161; refine (divides_no _ (by omega) _).mono ?_; rintro e w' ⟨rfl, rfl⟩) | (go_at_call 160; refine (implWordOf _ _).mono ?_; rintro e w' ⟨rfl, rfl⟩) | (go_at_call 162; refine (wordOps_any _).mono ?_; rintro e w' ⟨rfl, hb⟩; obtain ⟨hc0, hc1, hf0, hf1, hz⟩ := own2 hb; have hB := back hb; clear hb) | (go_at_call 175; refine (op9_any a b _ (by omega)).mono ?_; rintro e w' ⟨rfl, rfl⟩))
  refine bodyPost_ret (v := res 0 (binW 9 a b)) (by simp [results, Try.results142, go_sem, hc0, hc1]) rfl ⟨rfl, ?_⟩
  go_grown
set_option maxHeartbeats 400000 in
theorem implBin_10 (a b : Int) (w : World) : Calls Try.prog 142 #[.int .i64 10, .int .i64 a, .int .i64 b] w fun e w' => e = .returned (res 0 (binW 10 a b)) ∧ Below w.heap.size w w' := by
  have hlo := binW_lo 10 a b
  have hhi := binW_hi 10 a b
  have hidx := idx10
  go_enter Try.func142, Try.ntmps142
  go_wp2_with (first | (go_at_call 161; refine (divides_no _ (by omega) _).mono ?_; rintro e w' ⟨rfl, rfl⟩) | (go_at_call 160; refine (implWordOf _ _).mono ?_; rintro e w' ⟨rfl, rfl⟩) | (go_at_call 162; refine (wordOps_any _).mono ?_; rintro e w' ⟨rfl, hb⟩; obtain ⟨hc0, hc1, hf0, hf1, hz⟩ := own2 hb; have hB := back hb; clear hb) | (go_at_call 176; refine (op10_any a b _ (by omega)).mono ?_; rintro e w' ⟨rfl, rfl⟩))
  refine bodyPost_ret (v := res 0 (binW 10 a b)) (by simp [results, Try.results142, go_sem, hc0, hc1]) rfl ⟨rfl, ?_⟩
  go_grown

theorem implBin_any (op a b : Int) (w : World) : Calls Try.prog 142 #[.int .i64 op, .int .i64 a, .int .i64 b] w fun e w' => e = .returned (res (binC op b) (binV op a b)) ∧ Below w.heap.size w w' := by
  by_cases h : op < 1 ∨ 10 < op
  · have hc : binC op b = 3 := if_pos h
    rw [binV, hc]
    exact implBin_out op a b w h
  by_cases hz : (op = 4 ∨ op = 5) ∧ wd b = 0
  · have hc : binC op b = 4 := by unfold binC; rw [if_neg h, if_pos hz]
    rw [binV, hc]
    exact implBin_zero op a b w hz.1 hz.2
  have hc : binC op b = 0 := by unfold binC; rw [if_neg h, if_neg hz]
  rw [binV, hc, if_pos rfl]
  have hop : op = 1 ∨ op = 2 ∨ op = 3 ∨ op = 4 ∨ op = 5 ∨ op = 6 ∨ op = 7 ∨ op = 8 ∨ op = 9 ∨ op = 10 := by omega
  rcases hop with rfl | rfl | rfl | rfl | rfl | rfl | rfl | rfl | rfl | rfl
  · exact implBin_1 a b w
  · exact implBin_2 a b w
  · exact implBin_3 a b w
  · exact implBin_4 a b w (fun e => hz ⟨.inl rfl, e⟩)
  · exact implBin_5 a b w (fun e => hz ⟨.inr rfl, e⟩)
  · exact implBin_6 a b w
  · exact implBin_7 a b w
  · exact implBin_8 a b w
  · exact implBin_9 a b w
  · exact implBin_10 a b w
end Go.Proofs.Ytcikofhbfncgdaa
