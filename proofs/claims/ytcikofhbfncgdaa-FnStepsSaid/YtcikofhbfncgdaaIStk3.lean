/-
  impl's told: what an instruction may fail to get.
-/
import Derived.Test.YtcikofhbfncgdaaOps
import Derived.Deep.QuietTactic
import Derived.Deep.DrawnRows
namespace Go.Proofs.Ytcikofhbfncgdaa
open Go.RowKit

/-- an IntResult -/
abbrev res (c v : Int) : Value := .agg #[.int .i64 c, .int .i64 v]

set_option maxHeartbeats 400000 in
theorem implBin_out (op a b : Int) (w : World) (h : op < 1 ∨ 10 < op) : Calls Try.prog 142 #[.int .i64 op, .int .i64 a, .int .i64 b] w fun e w' => e = .returned (res 3 0) ∧ Below w.heap.size w w' := by
  rcases h with h | h
  all_goals (go_enter Try.func142, Try.ntmps142; go_wp2; go_returns; exact ⟨rfl, by go_grown⟩)

set_option maxHeartbeats 400000 in
theorem implBin_zero (op a b : Int) (w : World) (h : op = 4 ∨ op = 5) (hz : wd b = 0) : Calls Try.prog 142 #[.int .i64 op, .int .i64 a, .int .i64 b] w fun e w' => e = .returned (res 4 0) ∧ Below w.heap.size w w' := by
  have hb : (wd b == 0) = true := by rw [hz]; rfl
  clear hz
  rcases h with rfl | rfl
  all_goals
    go_enter Try.func142, Try.ntmps142
    go_wp2_with (first | (go_at_call 161; refine (divides_yes _ (by omega) _).mono ?_; rintro e w' ⟨rfl, rfl⟩) | (go_at_call 160; refine (implWordOf _ _).mono ?_; rintro e w' ⟨rfl, rfl⟩))
    go_returns
    exact ⟨rfl, by go_grown⟩

theorem idx1 (w : World) : (Instr.index 181 tbl (.int .i64 1)).run Try.prog w = .ok (fnv 167) w := by kernel_rfl
theorem idx2 (w : World) : (Instr.index 181 tbl (.int .i64 2)).run Try.prog w = .ok (fnv 168) w := by kernel_rfl
theorem idx3 (w : World) : (Instr.index 181 tbl (.int .i64 3)).run Try.prog w = .ok (fnv 169) w := by kernel_rfl
theorem idx4 (w : World) : (Instr.index 181 tbl (.int .i64 4)).run Try.prog w = .ok (fnv 170) w := by kernel_rfl
theorem idx5 (w : World) : (Instr.index 181 tbl (.int .i64 5)).run Try.prog w = .ok (fnv 171) w := by kernel_rfl
theorem idx6 (w : World) : (Instr.index 181 tbl (.int .i64 6)).run Try.prog w = .ok (fnv 172) w := by kernel_rfl
theorem idx7 (w : World) : (Instr.index 181 tbl (.int .i64 7)).run Try.prog w = .ok (fnv 173) w := by kernel_rfl
theorem idx8 (w : World) : (Instr.index 181 tbl (.int .i64 8)).run Try.prog w = .ok (fnv 174) w := by kernel_rfl
theorem idx9 (w : World) : (Instr.index 181 tbl (.int .i64 9)).run Try.prog w = .ok (fnv 175) w := by kernel_rfl
theorem idx10 (w : World) : (Instr.index 181 tbl (.int .i64 10)).run Try.prog w = .ok (fnv 176) w := by kernel_rfl
set_option maxHeartbeats 400000 in
theorem implBin_1 (a b : Int) (w : World) : Calls Try.prog 142 #[.int .i64 1, .int .i64 a, .int .i64 b] w fun e w' => e = .returned (res 0 (binW 1 a b)) ∧ Below w.heap.size w w' := by
  have hlo := binW_lo 1 a b
  have hhi := binW_hi 1 a b
  have hidx := idx1
  go_enter Try.func142, Try.ntmps142
  go_wp2_with (first | (go_at_call 161; refine (divides_no _ (by omega) _).mono ?_; rintro e w' ⟨rfl, rfl⟩) | (go_at_call 160; refine (implWordOf _ _).mono ?_; rintro e w' ⟨rfl, rfl⟩) | (go_at_call 162; refine (wordOps_any _).mono ?_; rintro e w' ⟨rfl, hb⟩; obtain ⟨hc0, hc1, hf0, hf1, hz⟩ := own2 hb; have hB := back hb; clear hb) | (go_at_call 167; refine (op1_any a b _ (by omega)).mono ?_; rintro e w' ⟨rfl, rfl⟩))
  refine bodyPost_ret (v := res 0 (binW 1 a b)) (by simp [results, Try.results142, go_sem, hc0, hc1]) rfl ⟨rfl, ?_⟩
  go_grown
set_option maxHeartbeats 400000 in
theorem implBin_2 (a b : Int) (w : World) : Calls Try.prog 142 #[.int .i64 2, .int .i64 a, .int .i64 b] w fun e w' => e = .returned (res 0 (binW 2 a b)) ∧ Below w.heap.size w w' := by
  have hlo := binW_lo 2 a b
  have hhi := binW_hi 2 a b
  have hidx := idx2
  go_enter Try.func142, Try.ntmps142
  go_wp2_with (first | (go_at_call 161; refine (divides_no _ (by omega) _).mono ?_; rintro e w' ⟨rfl, rfl⟩) | (go_at_call 160; refine (implWordOf _ _).mono ?_; rintro e w' ⟨rfl, rfl⟩) | (go_at_call 162; refine (wordOps_any _).mono ?_; rintro e w' ⟨rfl, hb⟩; obtain ⟨hc0, hc1, hf0, hf1, hz⟩ := own2 hb; have hB := back hb; clear hb) | (go_at_call 168; refine (op2_any a b _ (by omega)).mono ?_; rintro e w' ⟨rfl, rfl⟩))
  refine bodyPost_ret (v := res 0 (binW 2 a b)) (by simp [results, Try.results142, go_sem, hc0, hc1]) rfl ⟨rfl, ?_⟩
  go_grown
set_option maxHeartbeats 400000 in
theorem implBin_3 (a b : Int) (w : World) : Calls Try.prog 142 #[.int .i64 3, .int .i64 a, .int .i64 b] w fun e w' => e = .returned (res 0 (binW 3 a b)) ∧ Below w.heap.size w w' := by
  have hlo := binW_lo 3 a b
  have hhi := binW_hi 3 a b
  have hidx := idx3
  go_enter Try.func142, Try.ntmps142
  go_wp2_with (first | (go_at_call 161; refine (divides_no _ (by omega) _).mono ?_; rintro e w' ⟨rfl, rfl⟩) | (go_at_call 160; refine (implWordOf _ _).mono ?_; rintro e w' ⟨rfl, rfl⟩) | (go_at_call 162; refine (wordOps_any _).mono ?_; rintro e w' ⟨rfl, hb⟩; obtain ⟨hc0, hc1, hf0, hf1, hz⟩ := own2 hb; have hB := back hb; clear hb) | (go_at_call 169; refine (op3_any a b _ (by omega)).mono ?_; rintro e w' ⟨rfl, rfl⟩))
  refine bodyPost_ret (v := res 0 (binW 3 a b)) (by simp [results, Try.results142, go_sem, hc0, hc1]) rfl ⟨rfl, ?_⟩
  go_grown
set_option maxHeartbeats 400000 in
theorem implBin_4 (a b : Int) (w : World) (hz : wd b ≠ 0) : Calls Try.prog 142 #[.int .i64 4, .int .i64 a, .int .i64 b] w fun e w' => e = .returned (res 0 (binW 4 a b)) ∧ Below w.heap.size w w' := by
  have hb : (wd b == 0) = false := by simpa using hz
  have HZ : Hid (wd b ≠ 0) := hz
  clear hz
  have hlo := binW_lo 4 a b
  have hhi := binW_hi 4 a b
  have hidx := idx4
  go_enter Try.func142, Try.ntmps142
  go_wp2_with (first | (go_at_call 161; refine (divides_yes _ (by omega) _).mono ?_; rintro e w' ⟨rfl, rfl⟩) | (go_at_call 160; refine (implWordOf _ _).mono ?_; rintro e w' ⟨rfl, rfl⟩) | (go_at_call 162; refine (wordOps_any _).mono ?_; rintro e w' ⟨rfl, hb⟩; obtain ⟨hc0, hc1, hf0, hf1, hz⟩ := own2 hb; have hB := back hb; clear hb) | (go_at_call 170; refine (op4_any a b _ (fun _ => HZ.out)).mono ?_; rintro e w' ⟨rfl, rfl⟩))
  refine bodyPost_ret (v := res 0 (binW 4 a b)) (by simp [results, Try.results142, go_sem, hc0, hc1]) rfl ⟨rfl, ?_⟩
  go_grown
set_option maxHeartbeats 400000 in
theorem implBin_5 (a b : Int) (w : World) (hz : wd b ≠ 0) : Calls Try.prog 142 #[.int .i64 5, .int .i64 a, .int .i64 b] w fun e w' => e = .returned (res 0 (binW 5 a b)) ∧ Below w.heap.size w w' := by
  have hb : (wd b == 0) = false := by simpa using hz
  have HZ : Hid (wd b ≠ 0) := hz
  clear hz
  have hlo := binW_lo 5 a b
  have hhi := binW_hi 5 a b
  have hidx := idx5
  go_enter Try.func142, Try.ntmps142
  go_wp2_with (first | (go_at_call 161; refine (divides_yes _ (by omega) _).mono ?_; rintro e w' ⟨rfl, rfl⟩) | (go_at_call 160; refine (implWordOf _ _).mono ?_; rintro e w' ⟨rfl, rfl⟩) | (go_at_call 162; refine (wordOps_any _).mono ?_; rintro e w' ⟨rfl, hb⟩; obtain ⟨hc0, hc1, hf0, hf1, hz⟩ := own2 hb; have hB := back hb; clear hb) | (go_at_call 171; refine (op5_any a b _ (fun _ => HZ.out)).mono ?_; rintro e w' ⟨rfl, rfl⟩))
  refine bodyPost_ret (v := res 0 (binW 5 a b)) (by simp [results, Try.results142, go_sem, hc0, hc1]) rfl ⟨rfl, ?_⟩
  go_grown
set_option maxHeartbeats 400000 in
theorem implBin_6 (a b : Int) (w : World) : Calls Try.prog 142 #[.int .i64 6, .int .i64 a, .int .i64 b] w fun e w' => e = .returned (res 0 (binW 6 a b)) ∧ Below w.heap.size w w' := by
  have hlo := binW_lo 6 a b
  have hhi := binW_hi 6 a b
  have hidx := idx6
  go_enter Try.func142, Try.ntmps142
  go_wp2_with (first | (go_at_call 161; refine (divides_no _ (by omega) _).mono ?_; rintro e w' ⟨rfl, rfl⟩) | (go_at_call 160; refine (implWordOf _ _).mono ?_; rintro e w' ⟨rfl, rfl⟩) | (go_at_call 162; refine (wordOps_any _).mono ?_; rintro e w' ⟨rfl, hb⟩; obtain ⟨hc0, hc1, hf0, hf1, hz⟩ := own2 hb; have hB := back hb; clear hb) | (go_at_call 172; refine (op6_any a b _ (by omega)).mono ?_; rintro e w' ⟨rfl, rfl⟩))
  refine bodyPost_ret (v := res 0 (binW 6 a b)) (by simp [results, Try.results142, go_sem, hc0, hc1]) rfl ⟨rfl, ?_⟩
  go_grown
set_option maxHeartbeats 400000 in
theorem implBin_7 (a b : Int) (w : World) : Calls Try.prog 142 #[.int .i64 7, .int .i64 a, .int .i64 b] w fun e w' => e = .returned (res 0 (binW 7 a b)) ∧ Below w.heap.size w w' := by
  have hlo := binW_lo 7 a b
  have hhi := binW_hi 7 a b
  have hidx := idx7
  go_enter Try.func142, Try.ntmps142
  go_wp2_with (first | (go_at_call 161; refine (divides_no _ (by omega) _).mono ?_; rintro e w' ⟨rfl, rfl⟩) | (go_at_call 160; refine (implWordOf _ _).mono ?_; rintro e w' ⟨rfl, rfl⟩) | (go_at_call 162; refine (wordOps_any _).mono ?_; rintro e w' ⟨rfl, hb⟩; obtain ⟨hc0, hc1, hf0, hf1, hz⟩ := own2 hb; have hB := back hb; clear hb) | (go_at_call 173; refine (op7_any a b _ (by omega)).mono ?_; rintro e w' ⟨rfl, rfl⟩))
  refine bodyPost_ret (v := res 0 (binW 7 a b)) (by simp [results, Try.results142, go_sem, hc0, hc1]) rfl ⟨rfl, ?_⟩
  go_grown
set_option maxHeartbeats 400000 in
theorem implBin_8 (a b : Int) (w : World) : Calls Try.prog 142 #[.int .i64 8, .int .i64 a, .int .i64 b] w fun e w' => e = .returned (res 0 (binW 8 a b)) ∧ Below w.heap.size w w' := by
  have hlo := binW_lo 8 a b
  have hhi := binW_hi 8 a b
  have hidx := idx8
  go_enter Try.func142, Try.ntmps142
  go_wp2_with (first | (go_at_call 161; refine (divides_no _ (by omega) _).mono ?_; rintro e w' ⟨rfl, rfl⟩) | (go_at_call 160; refine (implWordOf _ _).mono ?_; rintro e w' ⟨rfl, rfl⟩) | (go_at_call 162; refine (wordOps_any _).mono ?_; rintro e w' ⟨rfl, hb⟩; obtain ⟨hc0, hc1, hf0, hf1, hz⟩ := own2 hb; have hB := back hb; clear hb) | (go_at_call 174; refine (op8_any a b _ (by omega)).mono ?_; rintro e w' ⟨rfl, rfl⟩))
  refine bodyPost_ret (v := res 0 (binW 8 a b)) (by simp [results, Try.results142, go_sem, hc0, hc1]) rfl ⟨rfl, ?_⟩
  go_grown
set_option maxHeartbeats 400000 in
theorem implBin_9 (a b : Int) (w : World) : Calls Try.prog 142 #[.int .i64 9, .int .i64 a, .int .i64 b] w fun e w' => e = .returned (res 0 (binW 9 a b)) ∧ Below w.heap.size w w' := by
  have hlo := binW_lo 9 a b
  have hhi := binW_hi 9 a b
  have hidx := idx9
  go_enter Try.func142, Try.ntmps142
  go_wp2_with (first | (go_at_call 161; refine (divides_no _ (by omega) _).mono ?_; rintro e w' ⟨rfl, rfl⟩) | (go_at_call 160; refine (implWordOf _ _).mono ?_; rintro e w' ⟨rfl, rfl⟩) | (go_at_call 162; refine (wordOps_any _).mono ?_; rintro e w' ⟨rfl, hb⟩; obtain ⟨hc0, hc1, hf0, hf1, hz⟩ := own2 hb; have hB := back hb; clear hb) | (go_at_call 175; refine (op9_any a b _ (by omega)).mono ?_; rintro e w' ⟨rfl, rfl⟩))
  refine bodyPost_ret (v := res 0 (binW 9 a b)) (by simp [results, Try.results142, go_sem, hc0, hc1]) rfl ⟨rfl, ?_⟩
  go_grown
set_option maxHeartbeats 400000 in
theorem implBin_10 (a b : Int) (w : World) : Calls Try.prog 142 #[.int .i64 10, .int .i64 a, .int .i64 b] w fun e w' => e = .returned (res 0 (binW 10 a b)) ∧ Below w.heap.size w w' := by
  have hlo := binW_lo 10 a b
  have hhi := binW_hi 10 a b
  have hidx := idx10
  go_enter Try.func142, Try.ntmps142
  go_wp2_with (first | (go_at_call 161; refine (divides_no _ (by omega) _).mono ?_; rintro e w' ⟨rfl, rfl⟩) | (go_at_call 160; refine (implWordOf _ _).mono ?_; rintro e w' ⟨rfl, rfl⟩) | (go_at_call 162; refine (wordOps_any _).mono ?_; rintro e w' ⟨rfl, hb⟩; obtain ⟨hc0, hc1, hf0, hf1, hz⟩ := own2 hb; have hB := back hb; clear hb) | (go_at_call 176; refine (op10_any a b _ (by omega)).mono ?_; rintro e w' ⟨rfl, rfl⟩))
  refine bodyPost_ret (v := res 0 (binW 10 a b)) (by simp [results, Try.results142, go_sem, hc0, hc1]) rfl ⟨rfl, ?_⟩
  go_grown

theorem implBin_any (op a b : Int) (w : World) : Calls Try.prog 142 #[.int .i64 op, .int .i64 a, .int .i64 b] w fun e w' => e = .returned (res (binC op b) (binV op a b)) ∧ Below w.heap.size w w' := by
  by_cases h : op < 1 ∨ 10 < op
  · have hc : binC op b = 3 := if_pos h
    rw [binV, hc]
    exact implBin_out op a b w h
  by_cases hz : (op = 4 ∨ op = 5) ∧ wd b = 0
  · have hc : binC op b = 4 := by unfold binC; rw [if_neg h, if_pos hz]
    rw [binV, hc]
    exact implBin_zero op a b w hz.1 hz.2
  have hc : binC op b = 0 := by unfold binC; rw [if_neg h, if_neg hz]
  rw [binV, hc, if_pos rfl]
  have hop : op = 1 ∨ op = 2 ∨ op = 3 ∨ op = 4 ∨ op = 5 ∨ op = 6 ∨ op = 7 ∨ op = 8 ∨ op = 9 ∨ op = 10 := by omega
  rcases hop with rfl | rfl | rfl | rfl | rfl | rfl | rfl | rfl | rfl | rfl
  · exact implBin_1 a b w
  · exact implBin_2 a b w
  · exact implBin_3 a b w
  · exact implBin_4 a b w (fun e => hz ⟨.inl rfl, e⟩)
  · exact implBin_5 a b w (fun e => hz ⟨.inr rfl, e⟩)
  · exact implBin_6 a b w
  · exact implBin_7 a b w
  · exact implBin_8 a b w
  · exact implBin_9 a b w
  · exact implBin_10 a b w
end Go.Proofs.Ytcikofhbfncgdaa
namespace Go.Proofs.Ytcikofhbfncgdaa
open Go.RowKit
set_option linter.unusedVariables false
attribute [local go_sem ↓] Go.wp_at_zero Go.wp_at_succ

/-- the words of an instruction, below block B -/
def WordsV (B : Nat) (w : World) (wv : Value) (op u v : Int) : Prop :=
  ∃ a c, wv = .slice a (argN op).toNat c ∧ (1 ≤ argN op → ∃ b off, a = some ⟨b, off, none⟩ ∧ b < B ∧ w.cell? ⟨b, off, none⟩ = some (.int .i64 u) ∧ (argN op = 2 → w.cell? ⟨b, off + 1, none⟩ = some (.int .i64 v)))
theorem WordsV.kept {B : Nat} {w w' : World} {wv : Value} {op u v : Int} (h : WordsV B w wv op u v) (hb : Below B w w') : WordsV B w' wv op u v := by
  obtain ⟨a, c, rfl, h1⟩ := h
  refine ⟨a, c, rfl, fun h => ?_⟩
  obtain ⟨b, off, e, hlt, h2, h3⟩ := h1 h
  exact ⟨b, off, e, hlt, (hb.cell (p := ⟨b, off, none⟩) hlt).trans h2, fun h => (hb.cell (p := ⟨b, off + 1, none⟩) hlt).trans (h3 h)⟩
abbrev oneV (op : Int) (wv : Value) (nx : Int) : Value := .agg #[.int .i64 op, wv, .int .i64 nx]

/-- the box of an instruction and the answer's block: what every later world holds -/
theorem told_pre (B p b off c n : Nat) (m : SM) (op u nx : Int) (w W : World) (h : RunI B w p m) (hlt : b < B) (h2 : w.cell? ⟨b, off, none⟩ = some (.int .i64 u))
    (e : W = (w.alloc (.cells #[.int .i64 op, .slice (some ⟨b, off, none⟩) n c, .int .i64 nx] 130)).alloc (.cells #[.int .i64 0, .int .i64 0] 61)) :
    Below w.heap.size w W ∧ W.heap.size = w.heap.size + 2 ∧ ∀ Z, Below W.heap.size W Z → Z.cell? ⟨w.heap.size, 1, none⟩ = some (.slice (some ⟨b, off, none⟩) n c) ∧ Z.cell? ⟨b, off, none⟩ = some (.int .i64 u) ∧ RunI B Z p m ∧ Z.cell? ⟨w.heap.size + 1, 0, none⟩ = some (.int .i64 0) ∧ Z.cell? ⟨w.heap.size + 1, 1, none⟩ = some (.int .i64 0) ∧ Z.frozen? ⟨w.heap.size + 1, 0, none⟩ = false ∧ Z.frozen? ⟨w.heap.size + 1, 1, none⟩ = false := by
  have hBp := h.lt
  subst e
  have a1 := heap_alloc_new w (.cells #[.int .i64 op, .slice (some ⟨b, off, none⟩) n c, .int .i64 nx] 130)
  have b1 := (Below.refl w.heap.size w).alloc (Nat.le_refl _) (.cells #[.int .i64 op, .slice (some ⟨b, off, none⟩) n c, .int .i64 nx] 130)
  have a2 := heap_alloc_new (w.alloc (.cells #[.int .i64 op, .slice (some ⟨b, off, none⟩) n c, .int .i64 nx] 130)) (.cells #[.int .i64 0, .int .i64 0] 61)
  have b2 := (Below.refl (w.alloc (.cells #[.int .i64 op, .slice (some ⟨b, off, none⟩) n c, .int .i64 nx] 130)).heap.size (w.alloc (.cells #[.int .i64 op, .slice (some ⟨b, off, none⟩) n c, .int .i64 nx] 130))).alloc (Nat.le_refl _) (.cells #[.int .i64 0, .int .i64 0] 61)
  have s1 : (w.alloc (.cells #[.int .i64 op, .slice (some ⟨b, off, none⟩) n c, .int .i64 nx] 130)).heap.size = w.heap.size + 1 := by simp
  rw [s1] at a2
  have b3 := b1.trans (b2.mono (by omega))
  refine ⟨b3, by simp, fun Z hz => ?_⟩
  have b4 := b3.trans (hz.mono (by simp; omega))
  have r1 := blk8 (blk8 a1 b2) hz
  have r2 := blk8 a2 hz
  exact ⟨cell_of_row _ _ 1 _ _ _ r1, (b4.cell (p := ⟨b, off, none⟩) (by show b < w.heap.size; omega)).trans h2, h.kept b4, cell_of_row _ _ 0 _ _ _ r2, cell_of_row _ _ 1 _ _ _ r2, frozen_of_row _ _ 0 _ _ r2, frozen_of_row _ _ 1 _ _ r2⟩

/-- below block N all is as it was; in block N lies an answer -/
def Keep (N : Nat) (W Z : World) : Prop := Below N W Z ∧ ∃ x y, Z.heap[N]? = some (.cells #[.int .i64 x, .int .i64 y] 61 (0, 0))
theorem Keep.drew {N : Nat} {W Z : World} (h : Keep N W Z) : Keep N W Z.drew := ⟨h.1.drew, h.2⟩
theorem Keep.lt {N : Nat} {W Z : World} (h : Keep N W Z) : N < Z.heap.size := by
  obtain ⟨x, y, hz⟩ := h.2
  exact (Array.getElem?_eq_some_iff.1 hz).1
theorem Keep.below {N : Nat} {W Z Z' : World} (h : Keep N W Z) (hb : Below Z.heap.size Z Z') : Keep N W Z' := by
  have hl := h.lt
  obtain ⟨x, y, hz⟩ := h.2
  exact ⟨h.1.trans (hb.mono (by omega)), x, y, blk8 hz hb⟩
theorem Keep.set0 {N : Nat} {W Z : World} (h : Keep N W Z) (c : Int) : Keep N W (Z.setCell ⟨N, 0, none⟩ (.int .i64 c)) := by
  obtain ⟨x, y, hz⟩ := h.2
  exact ⟨h.1.setCell (Nat.le_refl _) _, c, y, heap_setCell_same _ _ 0 _ _ _ hz⟩
theorem Keep.set1 {N : Nat} {W Z : World} (h : Keep N W Z) (c : Int) : Keep N W (Z.setCell ⟨N, 1, none⟩ (.int .i64 c)) := by
  obtain ⟨x, y, hz⟩ := h.2
  exact ⟨h.1.setCell (Nat.le_refl _) _, x, c, heap_setCell_same _ _ 1 _ _ _ hz⟩
theorem Keep.cells {N : Nat} {W Z : World} (h : Keep N W Z) : ∃ x y, Z.cell? ⟨N, 0, none⟩ = some (.int .i64 x) ∧ Z.cell? ⟨N, 1, none⟩ = some (.int .i64 y) ∧ Z.frozen? ⟨N, 0, none⟩ = false ∧ Z.frozen? ⟨N, 1, none⟩ = false := by
  obtain ⟨x, y, hz⟩ := h.2
  exact ⟨x, y, cell_of_row _ _ 0 _ _ _ hz, cell_of_row _ _ 1 _ _ _ hz, frozen_of_row _ _ 0 _ _ hz, frozen_of_row _ _ 1 _ _ hz⟩
theorem last4 {A B C D : Prop} (h : A ∧ B ∧ C ∧ D) : D := h.2.2.2
theorem told_keep (B p b off c n : Nat) (m : SM) (op u nx : Int) (w W : World) (h : RunI B w p m) (hlt : b < B) (h2 : w.cell? ⟨b, off, none⟩ = some (.int .i64 u))
    (e : W = (w.alloc (.cells #[.int .i64 op, .slice (some ⟨b, off, none⟩) n c, .int .i64 nx] 130)).alloc (.cells #[.int .i64 0, .int .i64 0] 61)) :
    Below w.heap.size w W ∧ Keep (w.heap.size + 1) W W ∧ ∀ Z, Keep (w.heap.size + 1) W Z → Z.cell? ⟨w.heap.size, 1, none⟩ = some (.slice (some ⟨b, off, none⟩) n c) ∧ Z.cell? ⟨b, off, none⟩ = some (.int .i64 u) ∧ RunI B Z p m := by
  have hBp := h.lt
  subst e
  have a1 := heap_alloc_new w (.cells #[.int .i64 op, .slice (some ⟨b, off, none⟩) n c, .int .i64 nx] 130)
  have b1 := (Below.refl w.heap.size w).alloc (Nat.le_refl _) (.cells #[.int .i64 op, .slice (some ⟨b, off, none⟩) n c, .int .i64 nx] 130)
  have a2 := heap_alloc_new (w.alloc (.cells #[.int .i64 op, .slice (some ⟨b, off, none⟩) n c, .int .i64 nx] 130)) (.cells #[.int .i64 0, .int .i64 0] 61)
  have b2 := (Below.refl (w.alloc (.cells #[.int .i64 op, .slice (some ⟨b, off, none⟩) n c, .int .i64 nx] 130)).heap.size (w.alloc (.cells #[.int .i64 op, .slice (some ⟨b, off, none⟩) n c, .int .i64 nx] 130))).alloc (Nat.le_refl _) (.cells #[.int .i64 0, .int .i64 0] 61)
  have s1 : (w.alloc (.cells #[.int .i64 op, .slice (some ⟨b, off, none⟩) n c, .int .i64 nx] 130)).heap.size = w.heap.size + 1 := by simp
  rw [s1] at a2
  have b3 := b1.trans (b2.mono (by omega))
  refine ⟨b3, ⟨Below.refl _ _, 0, 0, a2⟩, fun Z hz => ?_⟩
  have b4 := b3.trans (hz.1.mono (by omega))
  have r1 := blk8 a1 b2
  exact ⟨(hz.1.cell (p := ⟨w.heap.size, 1, none⟩) (by simp)).trans (cell_of_row _ _ 1 _ _ _ r1), (b4.cell (p := ⟨b, off, none⟩) (by show b < w.heap.size; omega)).trans h2, h.kept b4⟩

set_option maxHeartbeats 1600000 in
theorem told_23 (B p : Nat) (m : SM) (op u v nx : Int) (wv : Value) (w : World) (hop : op = 2 ∨ op = 3) (h : RunI B w p m) (hl : m.cells.length ≤ 80) (hw : WordsV B w wv op u v) (hu0 : 0 ≤ u) :
    Calls Try.prog 119 #[.pointer (some ⟨p, 0, none⟩), oneV op wv nx] w fun e w' => e = .returned (ir (toldC op u v m) (toldV op u v m)) ∧ Below w.heap.size w w' := by
  have eC : toldC op u v m = cellC m.cells.length u := if_pos hop
  have eV : toldV op u v m = cellV m.cells.length u := if_pos hop
  have ea : argN op = 1 := by rcases hop with rfl | rfl <;> rfl
  rw [eC, eV]
  obtain ⟨a, c, rfl, h1⟩ := hw
  obtain ⟨b, off, rfl, hlt, h2, _⟩ := h1 (by omega)
  rw [ea]
  clear h1 eC eV ea
  have hBp := h.lt
  have HCL : Hid (∀ W, RunI B W p m → Calls Try.prog 128 #[.pointer (some ⟨p, 1, none⟩), .int .i64 u] W fun e w' => e = .returned (ir (cellC m.cells.length u) (cellV m.cells.length u)) ∧ Below W.heap.size W w') := fun W hr => cell_any B p m u W hr hl hu0
  generalize cellC m.cells.length u = C at *
  generalize cellV m.cells.length u = V at *
  have hX : Hid (∀ W, W = (w.alloc (.cells #[.int .i64 op, .slice (some ⟨b, off, none⟩) 1 c, .int .i64 nx] 130)).alloc (.cells #[.int .i64 0, .int .i64 0] 61) → _) := fun W e => told_pre B p b off c 1 m op u nx w W h hlt h2 e
  clear h h2
  have hT : (op == 2) = true ∨ ((op == 2) = false ∧ (op == 3) = true) := by
    rcases hop with rfl | rfl
    · exact .inl rfl
    · exact .inr ⟨rfl, rfl⟩
  clear hop
  rcases hT with e2 | ⟨e2, e3⟩
  all_goals
    go_enter Try.func119, Try.ntmps119
    go_upto_region 4 with fail
    have hXX := hX.out _ rfl
    generalize (w.alloc (.cells #[.int .i64 op, .slice (some ⟨b, off, none⟩) 1 c, .int .i64 nx] 130)).alloc (.cells #[.int .i64 0, .int .i64 0] 61) = W at *
    obtain ⟨x3, x4, x5⟩ := hXX
    have HB : Hid (Below w.heap.size w W) := x3
    have HS : Hid (W.heap.size = w.heap.size + 2) := x4
    have HX : Hid _ := x5
    obtain ⟨y1, y2, _⟩ := x5 W.drew (Below.refl _ _).drew
    clear x3 x4 x5 hX
    go_region_with (go_at_call 128; refine (HCL.out _ (HX.out W.drew (Below.refl _ _).drew).2.2.1).mono ?_; rintro e w3 ⟨rfl, hb⟩; have hb2 : Below W.heap.size W w3 := (Below.refl _ _).drew.trans hb; clear hb; obtain ⟨_, _, _, r0, r1, f0, f1⟩ := HX.out w3 hb2)
    go_wp2_with fail
    refine bodyPost_ret (v := ir C V) (by simp [results, Try.results119, go_sem, r0, r1]) rfl ⟨rfl, ?_⟩
    exact ((HB.out.trans (hb2.mono (by have := HS.out; omega))).setCell (by simp) _).setCell (by simp) _
end Go.Proofs.Ytcikofhbfncgdaa
