/-
  spec.l8Fault, StackFault.
-/
import Derived.Test.YtlofagpffeaebaaStkRun
import Derived.Test.YtlofagpffeaebaaStkMem
import Derived.Deep.Cut
import Derived.Deep.DrawnRows
namespace Go.Proofs.Ytlofagpffeaebaa
open Go.RowKit
set_option linter.unusedVariables false
attribute [local go_sem ↓] Go.wp_at_zero Go.wp_at_succ

abbrev machVs (m : SM) (sv cv : Value) : Value := .agg #[.int .i64 m.pc, sv, cv, .int .i64 m.sig, .int .i64 m.used, .int .i64 m.trap, .bool m.done]
set_option maxHeartbeats 800000 in
theorem sAll_any (a : Option Addr) (zs : List Int) (cap : Nat) (w : World) (hlen : zs.length ≤ 1048576) (hn : Nums w a zs) :
    Calls Try.prog 112 #[.slice a zs.length cap] w fun e w' => e = .returned (.bool (wordsB zs)) ∧ w' = w := by
  go_enter Try.func112, Try.ntmps112
  go_wp2
  go_loop [3] (fun i => ∃ k : Nat, k ≤ zs.length ∧ i = .int .i64 k ∧ ∀ j, j < k → 0 ≤ zs.getD j 0 ∧ zs.getD j 0 ≤ 65535) (fun i => zs.length - (intOf i).toNat)
  case atStart => exact ⟨0, Nat.zero_le _, rfl, fun j hj => by omega⟩
  case round =>
    obtain ⟨k, hk, rfl, ho⟩ := hrel
    have HO : Hid _ := ho
    clear ho
    by_cases hlt : k < zs.length
    · rcases hn with hn | ⟨b, off, rfl, hc⟩
      · subst hn; simp at hlt
      have hcell := hc k hlt
      clear hc
      obtain ⟨z, hz⟩ : ∃ z, z = zs.getD k 0 := ⟨_, rfl⟩
      rw [← hz] at hcell
      have HZ : Hid _ := hz
      clear hz
      by_cases h5 : 0 ≤ z ∧ z ≤ 65535
      · obtain ⟨h5, h6⟩ := h5
        go_wp2_with (go_at_call 84; refine (l1Word_yes _ _ h5 h6).mono ?_; rintro e w' ⟨rfl, rfl⟩)
        go_round
        case rel =>
          refine ⟨k + 1, by omega, by go_num, fun j hj => ?_⟩
          by_cases hjk : j = k
          · subst hjk; rw [← HZ.out]; exact ⟨h5, h6⟩
          · exact HO.out j (by omega)
        case measure => simp [intOf]; omega
      · have h6 : z < 0 ∨ 65535 < z := by omega
        have H6 : Hid _ := h6
        clear h6 h5
        go_wp2_with (go_at_call 84; refine (l1Word_no _ _ H6.out).mono ?_; rintro e w' ⟨rfl, rfl⟩)
        go_ret
        have hf := wordsB_bad k hlt (by rw [← HZ.out]; exact H6.out)
        exact ⟨by rw [hf]; rfl, rfl⟩
    · have hk2 : k = zs.length := by omega
      subst hk2
      go_wp2
      go_ret
      have hf := wordsB_ok HO.out
      exact ⟨by rw [hf]; rfl, rfl⟩

theorem RunS.cells {p : Nat} {w : World} {m : SM} {sv cv : Value} (h : w.heap[p]? = some (.cells (lineS m sv cv) 44 (0, 0))) :
    w.cell? ⟨p, 0, none⟩ = some (.int .i64 m.pc) ∧ w.cell? ⟨p, 1, none⟩ = some sv ∧ w.cell? ⟨p, 2, none⟩ = some cv ∧ w.cell? ⟨p, 3, none⟩ = some (.int .i64 m.sig) ∧ w.cell? ⟨p, 4, none⟩ = some (.int .i64 m.used) ∧ w.cell? ⟨p, 5, none⟩ = some (.int .i64 m.trap) ∧ w.cell? ⟨p, 6, none⟩ = some (.bool m.done) :=
  ⟨cell_of_row _ _ 0 _ _ _ h, cell_of_row _ _ 1 _ _ _ h, cell_of_row _ _ 2 _ _ _ h, cell_of_row _ _ 3 _ _ _ h, cell_of_row _ _ 4 _ _ _ h, cell_of_row _ _ 5 _ _ _ h, cell_of_row _ _ 6 _ _ _ h⟩

set_option maxHeartbeats 6400000 in
set_option maxRecDepth 100000 in
theorem l8Fault_any (p : Nat) (m : SM) (sv cv : Value) (w : World) (hp : w.heap[p]? = some (.cells (lineS m sv cv) 44 (0, 0))) (hs : RowV w sv m.stk) (hc : RowV w cv m.cells) (hl1 : m.stk.length ≤ 1048576) (hl2 : m.cells.length ≤ 1048576) :
    Calls Try.prog 85 #[.pointer (some ⟨p, 0, none⟩)] w fun e w' => e = .returned (.int .i64 (smF m)) ∧ w' = w := by
  obtain ⟨a1, k1, rfl, hn1, _⟩ := hs
  obtain ⟨a2, k2, rfl, hn2, _⟩ := hc
  obtain ⟨c0, c1, c2, c3, c4, c5, _⟩ := RunS.cells hp
  have HP : Hid (Calls Try.prog 84 #[.int .i64 m.pc] w fun e w' => e = .returned (.bool (inB m.pc 0 65535)) ∧ w' = w) := l1Word_any m.pc w
  have HG : Hid (Calls Try.prog 84 #[.int .i64 m.sig] w fun e w' => e = .returned (.bool (inB m.sig 0 65535)) ∧ w' = w) := l1Word_any m.sig w
  have H1 : Hid (Calls Try.prog 112 #[.slice a1 m.stk.length k1] w fun e w' => e = .returned (.bool (wordsB m.stk)) ∧ w' = w) := sAll_any a1 m.stk k1 w hl1 hn1
  have H2 : Hid (Calls Try.prog 112 #[.slice a2 m.cells.length k2] w fun e w' => e = .returned (.bool (wordsB m.cells)) ∧ w' = w) := sAll_any a2 m.cells k2 w hl2 hn2
  have HU : Hid (Calls Try.prog 21 #[.int .i64 m.used, .int .i64 0, .int .i64 1000000] w fun e w' => e = .returned (.bool (inB m.used 0 1000000)) ∧ w' = w) := l1In_any m.used 0 1000000 w
  have HT : Hid (Calls Try.prog 21 #[.int .i64 m.trap, .int .i64 0, .int .i64 10] w fun e w' => e = .returned (.bool (inB m.trap 0 10)) ∧ w' = w) := l1In_any m.trap 0 10 w
  have hF : Hid (smFit m = (inB m.pc 0 65535 && inB m.sig 0 65535 && wordsB m.stk && wordsB m.cells && inB m.used 0 1000000 && inB m.trap 0 10)) := rfl
  have HS : Hid (smF m = if smFit m then (if 40 < m.stk.length ∨ 80 < m.cells.length then 2 else 0) else 3) := rfl
  clear hn1 hn2 hp
  generalize inB m.pc 0 65535 = q1 at *
  generalize inB m.sig 0 65535 = q2 at *
  generalize wordsB m.stk = q3 at *
  generalize wordsB m.cells = q4 at *
  generalize inB m.used 0 1000000 = q5 at *
  generalize inB m.trap 0 10 = q6 at *
  go_enter Try.func85, Try.ntmps85
  go_upto_region 1 with fail
  go_cut [48] from 3 (fun x W1 => x = .bool (!(q1 && q2 && q3 && q4 && q5 && q6)) ∧ W1 = w)
  case first =>
    clear HS hF
    have hq : (q1 = false) ∨ (q1 = true ∧ q2 = false) ∨ (q1 = true ∧ q2 = true ∧ q3 = false) ∨ (q1 = true ∧ q2 = true ∧ q3 = true ∧ q4 = false) ∨ (q1 = true ∧ q2 = true ∧ q3 = true ∧ q4 = true ∧ q5 = false) ∨ (q1 = true ∧ q2 = true ∧ q3 = true ∧ q4 = true ∧ q5 = true ∧ q6 = false) ∨ (q1 = true ∧ q2 = true ∧ q3 = true ∧ q4 = true ∧ q5 = true ∧ q6 = true) := by
      cases q1 <;> cases q2 <;> cases q3 <;> cases q4 <;> cases q5 <;> cases q6 <;> simp
    rcases hq with rfl | ⟨rfl, rfl⟩ | ⟨rfl, rfl, rfl⟩ | ⟨rfl, rfl, rfl, rfl⟩ | ⟨rfl, rfl, rfl, rfl, rfl⟩ | ⟨rfl, rfl, rfl, rfl, rfl, rfl⟩ | ⟨rfl, rfl, rfl, rfl, rfl, rfl⟩
    all_goals
      go_wp2_with (first | (with_reducible show Calls _ _ #[.int .i64 m.pc] _ _; refine HP.out.mono ?_; rintro e w4 ⟨rfl, rfl⟩) | (with_reducible show Calls _ _ #[.int .i64 m.sig] _ _; refine HG.out.mono ?_; rintro e w4 ⟨rfl, rfl⟩) | (with_reducible show Calls _ _ #[.slice a1 _ k1] _ _; refine H1.out.mono ?_; rintro e w4 ⟨rfl, rfl⟩) | (with_reducible show Calls _ _ #[.slice a2 _ k2] _ _; refine H2.out.mono ?_; rintro e w4 ⟨rfl, rfl⟩) | (with_reducible show Calls _ _ #[_, _, .int .i64 1000000] _ _; refine HU.out.mono ?_; rintro e w4 ⟨rfl, rfl⟩) | (with_reducible show Calls _ _ #[_, _, .int .i64 10] _ _; refine HT.out.mono ?_; rintro e w4 ⟨rfl, rfl⟩))
      go_meet
      case rel => exact ⟨by simp, rfl⟩
  case rest =>
    obtain ⟨rfl, rfl⟩ := hcut
    clear HP HG H1 H2 HU HT
    cases hb : (q1 && q2 && q3 && q4 && q5 && q6)
    · have E : Hid (smF m = 3) := by unfold Hid; rw [HS.out, hF.out, hb]; rfl
      clear HS hF hb
      go_wp2_with fail
      go_ret
      exact ⟨by rw [E.out]; rfl, rfl⟩
    · have E : Hid (smF m = if 40 < m.stk.length ∨ 80 < m.cells.length then 2 else 0) := by unfold Hid; rw [HS.out, hF.out, hb]; rfl
      clear HS hF hb
      generalize m.stk.length = l1 at *
      generalize m.cells.length = l2 at *
      by_cases h1 : 40 < l1
      · go_wp2_with fail
        go_ret
        exact ⟨by rw [E.out, if_pos (.inl h1)]; rfl, rfl⟩
      · by_cases h2 : 80 < l2
        · go_wp2_with fail
          go_ret
          exact ⟨by rw [E.out, if_pos (.inr h2)]; rfl, rfl⟩
        · go_wp2_with fail
          go_ret
          exact ⟨by rw [E.out, if_neg (by omega)]; rfl, rfl⟩
end Go.Proofs.Ytlofagpffeaebaa
