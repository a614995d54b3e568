/-
  impl's standsAs: does the run stand as it stood?
-/
import Derived.Test.YtcikofhbfncgdaaRgI8m
import Derived.Laws.StructEq
import Derived.ChangeKeysEq
import Derived.Deep.RegionHeld3
import Derived.Test.YtcikofhbfncgdaaRgCopy
import Derived.BigQuiet
namespace Go.Proofs.Ytcikofhbfncgdaa
open Go.RowKit
set_option linter.unusedVariables false

theorem plainI : Try.prog.plainKey 2 = true := by kernel_rfl
theorem cellsI : Try.prog.cellsOf 2 = 1 := by kernel_rfl
theorem eqItems_ints (d : Nat) (xs ys : List Int) (w : World) : ∀ (n k : Nat), k + n ≤ xs.length → k + n ≤ ys.length →
    (Op.eqItems (d + 1) 2 1 (xs.map (Value.int .i64)).toArray (ys.map (Value.int .i64)).toArray (List.range' k n)).run Try.prog w = .ok (decide ((xs.drop k).take n = (ys.drop k).take n)) w
  | 0, k, _, _ => by simp [Op.eqItems]
  | n + 1, k, h1, h2 => by
    have hx : k < xs.length := by omega
    have hy : k < ys.length := by omega
    have ih := eqItems_ints d xs ys w n (k + 1) (by omega) (by omega)
    have p1 : (part 2 (xs.map (Value.int .i64)).toArray k).run Try.prog w = .ok (.int .i64 xs[k]) w := run_part_plain w plainI (by simp [hx])
    have p2 : (part 2 (ys.map (Value.int .i64)).toArray k).run Try.prog w = .ok (.int .i64 ys[k]) w := run_part_plain w plainI (by simp [hy])
    have p3 := run_equalIn_int w d 2 .i64 .i64 xs[k] ys[k] Try.underlying2
    rw [List.range'_succ]
    simp only [Op.eqItems, Sem.run_bind, Nat.mul_one, p1, p2, p3, Result.andThen_ok, Sem.run_ite, Sem.run_pure, ih]
    rw [List.drop_eq_getElem_cons hx, List.drop_eq_getElem_cons hy, List.take_succ_cons, List.take_succ_cons]
    by_cases h : xs[k] = ys[k]
    · simp [h]
    · simp [h]
theorem infoI : ∃ i, Try.prog.info? 2 = some i := by
  cases h : Try.prog.info? 2 with
  | none =>
    have : (Try.prog.info? 2).isSome = true := by kernel_rfl
    rw [h] at this
    cases this
  | some i => exact ⟨i, rfl⟩
theorem regs_eq (xs ys : List Int) (hx : xs.length = 24) (hy : ys.length = 24) (w : World) : (binOp .eql 94 (.agg (xs.map (Value.int .i64)).toArray) (.agg (ys.map (Value.int .i64)).toArray)).run Try.prog w = .ok (.bool (decide (xs = ys))) w := by
  obtain ⟨i, hi⟩ := infoI
  have h := eqItems_ints 9998 xs ys w 24 0 (by omega) (by omega)
  rw [List.drop_zero, List.drop_zero, List.take_of_length_le (by omega), List.take_of_length_le (by omega)] at h
  rw [run_eql_struct, show (10000 : Nat) = 9999 + 1 from rfl, run_equalIn_array w 9999 _ _ Try.underlying94 hi, List.range_eq_range', cellsI, h]
  rfl
theorem prog_eq (a b c d a' b' c' d' : Int) (e e' : Bool) (w : World) : (binOp .eql 92 (.agg #[.int .i64 a, .int .i64 b, .int .i64 c, .int .i64 d, .bool e]) (.agg #[.int .i64 a', .int .i64 b', .int .i64 c', .int .i64 d', .bool e'])).run Try.prog w = .ok (.bool (a == a' && (b == b' && (c == c' && (d == d' && e == e'))))) w := by
  have hS : Try.prog.underlying 92 = some (.struct (Try.prog.fieldsOf 92)) := by kernel_rfl
  have hp : Try.prog.stoodInHeld 92 = false := by kernel_rfl
  have u2 := Try.underlying2
  have u4 := Try.underlying4
  have a2 := Try.isAgg2
  have a4 := Try.isAgg4
  rw [run_eql_struct, show (10000 : Nat) = 9999 + 1 from rfl, run_equalIn_agg w 9999 92 _ _ hS hp]
  simp only [Program.fieldsOf, Try.underlying92]
  go_simp
  clear hS hp u2 u4 a2 a4
  by_cases h1 : a = a' <;> by_cases h2 : b = b' <;> by_cases h3 : c = c' <;> by_cases h4 : d = d' <;> by_cases h5 : e = e' <;> simp [h1, h2, h3, h4, h5]
end Go.Proofs.Ytcikofhbfncgdaa
namespace Go.Proofs.Ytcikofhbfncgdaa
open Go.RowKit
set_option linter.unusedVariables false

set_option maxHeartbeats 1600000 in
theorem equal_any (v1 v2 : Value) (xs ys : List Int) (w : World) (h1 : RowV w v1 xs) (h2 : RowV w v2 ys) (l1 : xs.length ≤ 1048576) (l2 : ys.length ≤ 1048576) :
    Calls Try.prog 127 #[v1, v2] w fun e w' => e = .returned (.bool (decide (xs = ys))) ∧ ∃ q, w' = w.drewN q := by
  obtain ⟨a1, c1, rfl, hn1, _⟩ := h1
  obtain ⟨a2, c2, rfl, hn2, _⟩ := h2
  by_cases hl : xs.length = ys.length
  · have HX : Hid (∀ k : Nat, (∀ j, j < k → xs.getD j 0 = ys.getD j 0) → ¬ k < xs.length → decide (xs = ys) = true) := fun k h hk => by
      refine decide_eq_true (List.ext_getElem hl (fun i h1 h2 => ?_))
      have := h i (by omega)
      rw [List.getD_eq_getElem?_getD, List.getD_eq_getElem?_getD, List.getElem?_eq_getElem h1, List.getElem?_eq_getElem h2] at this
      exact this
    have HN : Hid (∀ k : Nat, k < xs.length → ¬ xs.getD k 0 = ys.getD k 0 → decide (xs = ys) = false) := fun k hk h => decide_eq_false (fun e => h (by rw [e]))
    have HC : Hid (∀ k : Nat, k < xs.length → ∃ b1 o1 b2 o2, a1 = some ⟨b1, o1, none⟩ ∧ a2 = some ⟨b2, o2, none⟩ ∧ w.cell? ⟨b1, o1 + k, none⟩ = some (.int .i64 (xs.getD k 0)) ∧ w.cell? ⟨b2, o2 + k, none⟩ = some (.int .i64 (ys.getD k 0))) := fun k hk => by
      rcases hn1 with h | ⟨b1, o1, e1, hc1⟩
      · rw [h] at hk; simp at hk
      rcases hn2 with h | ⟨b2, o2, e2, hc2⟩
      · rw [h] at hl; simp at hl; rw [hl] at hk; simp at hk
      exact ⟨b1, o1, b2, o2, e1, e2, hc1 k hk, hc2 k (by omega)⟩
    have ely : ys.length = xs.length := hl.symm
    have hnn : ((xs.length : Int) != (xs.length : Int)) = false := by simp
    obtain ⟨r, hr⟩ : ∃ r, r = decide (xs = ys) := ⟨_, rfl⟩
    rw [← hr] at HX HN ⊢
    rw [ely]
    clear hr hn1 hn2 hl ely l2
    generalize hL : xs.length = L at *
    clear hL
    go_enter Try.func127, Try.ntmps127
    go_wp2
    go_loopw [13] (fun i wr => ∃ k : Nat, k ≤ L ∧ i = .int .i64 k ∧ Hid (∀ j, j < k → xs.getD j 0 = ys.getD j 0) ∧ ∃ q, wr = w.drewN q) (fun i _ => L - (intOf i).toNat)
    case atStart => exact ⟨0, Nat.zero_le _, rfl, fun j hj => absurd hj (by omega), 0, rfl⟩
    case round =>
      obtain ⟨k, hk, rfl, HE, q, rfl⟩ := hrel
      by_cases hlt : k < L
      · obtain ⟨b1, o1, b2, o2, rfl, rfl, g1, g2⟩ := HC.out k hlt
        have HNk := hid (HN.out k hlt)
        have HEk : Hid (xs.getD k 0 = ys.getD k 0 → ∀ j, j < k + 1 → xs.getD j 0 = ys.getD j 0) := fun h j hj => by
          rcases Nat.lt_succ_iff_lt_or_eq.1 hj with h2 | rfl
          · exact HE.out j h2
          · exact h
        generalize xs.getD k 0 = x at *
        generalize ys.getD k 0 = y at *
        have q0 : (0 : Int) ≤ (k : Int) := by omega
        have q1 : (k : Int) < (L : Int) := by omega
        by_cases hxy : x = y
        · subst hxy
          go_wp2
          go_region
          all_goals
            go_wp2
            go_roundw
            case rel => exact ⟨k + 1, by omega, by go_num, HEk.out (by first | rfl | trivial), q + 1, rfl⟩
            case measure => simp [intOf]; omega
        · have hne : (x != y) = true := by simpa using hxy
          have HR := hid (HNk.out hxy)
          go_wp2
          go_region
          all_goals
            go_wp2
            go_ret
            exact ⟨by rw [HR.out]; rfl, q + 1, rfl⟩
      · have HR := hid (HX.out k HE.out hlt)
        go_wp2
        go_ret
        exact ⟨by rw [HR.out]; rfl, q, rfl⟩
  · have HR : Hid (decide (xs = ys) = false) := decide_eq_false (fun e => hl (by rw [e]))
    have hnn : ((xs.length : Int) != (ys.length : Int)) = true := by simpa using (fun e : (xs.length : Int) = ys.length => hl (by omega))
    clear hn1 hn2
    generalize xs.length = n1 at *
    generalize ys.length = n2 at *
    generalize decide (xs = ys) = r at *
    go_enter Try.func127, Try.ntmps127
    go_wp2
    go_ret
    exact ⟨by rw [HR.out]; rfl, 0, rfl⟩
end Go.Proofs.Ytcikofhbfncgdaa
namespace Go.Proofs.Ytcikofhbfncgdaa
open Go.RowKit
set_option linter.unusedVariables false
attribute [local go_sem ↓] Go.wp_at_zero Go.wp_at_succ

theorem eqg92 : Try.prog.eqGuardType Try.prog.depth 92 = false := by kernel_rfl
theorem eqg94 : Try.prog.eqGuardType Try.prog.depth 94 = false := by kernel_rfl
def standsB (m s : SM) : Bool := decide (m.pc = s.pc ∧ m.sig = s.sig ∧ m.trap = s.trap ∧ m.done = s.done ∧ m.stk = s.stk ∧ m.cells = s.cells)
theorem quiet_ld24 {C : World → Prop} {K : Act → Prop} {a : Act} {o : Oper} (x : Operand) (ho : o.op = .load 94 x) (p off : Nat) (hx : a.eval x = .pointer (some ⟨p, off, none⟩)) (cs : List Value) (hl : cs.length = 24) (hC : ∀ w, C w → w.rangeAt p off cs) (hk : K (a.put o.dst (.agg cs.toArray))) : o.quiet Try.prog a C K :=
  ⟨_, fun w hw => by
    have h := run_loadVar_mid (P := Try.prog) w p off 94 cs _ (hC w hw) Try.underlying94 rfl (by rw [hl]; exact info24)
    unfold Oper.quietAt execOp
    simp only [ho, hx, Instr.loadAt, Instr.sureAddr, Sem.run_bind, Sem.run_pure, Result.andThen_ok, h]
    exact ⟨rfl, rfl⟩, hk⟩
theorem range_of {W : World} {g : Nat} {m : SM} {cv : Value} {T : TypeId} (h : W.heap[g]? = some (.cells (lineRR m cv) T (0, 0))) : W.rangeAt g 6 (m.stk.map (Value.int .i64)) := fun j v hv => by
  rw [cell_of_row _ _ _ _ _ _ h]
  simp only [List.getElem?_toArray]
  rw [show 6 + j = j + 6 from by omega]
  exact hv
theorem row6 {W : World} {g : Nat} {m : SM} {cv : Value} {T : TypeId} (h : W.heap[g]? = some (.cells (lineRR m cv) T (0, 0))) :
    W.cell? ⟨g, 0, none⟩ = some cv ∧ W.cell? ⟨g, 1, none⟩ = some (.int .i64 m.pc) ∧ W.cell? ⟨g, 2, none⟩ = some (.int .i64 m.sig) ∧ W.cell? ⟨g, 3, none⟩ = some (.int .i64 m.used) ∧ W.cell? ⟨g, 4, none⟩ = some (.int .i64 m.trap) ∧ W.cell? ⟨g, 5, none⟩ = some (.bool m.done) :=
  ⟨cell_of_row _ _ 0 _ _ _ h, cell_of_row _ _ 1 _ _ _ h, cell_of_row _ _ 2 _ _ _ h, cell_of_row _ _ 3 _ _ _ h, cell_of_row _ _ 4 _ _ _ h, cell_of_row _ _ 5 _ _ _ h⟩

set_option maxHeartbeats 6400000 in
set_option maxRecDepth 100000 in
theorem stands_any (B p : Nat) (m s : SM) (cv cvs : Value) (w : World) (h : RunRI B w p m cv) (hs : RowV w cvs s.cells) (hsl : s.stk.length = 24) (hl : m.cells.length ≤ 80) (hl2 : s.cells.length ≤ 80) :
    Calls Try.prog 106 #[.pointer (some ⟨p, 0, none⟩), .agg (lineRR s cvs)] w fun e w' => e = .returned (.bool (standsB m s)) ∧ Below w.heap.size w w' := by
  obtain ⟨a2, k2, rfl, hn2, hk2⟩ := hs
  obtain ⟨a1, k1, rfl⟩ := own_shape h.cs
  have hp : p < w.heap.size := (Array.getElem?_eq_some_iff.1 h.row).1
  have hb1 := (Below.refl w.heap.size w).alloc (Nat.le_refl _) (.cells (lineRR s (.slice a2 s.cells.length k2)) 96)
  have hr1 := heap_alloc_new w (.cells (lineRR s (.slice a2 s.cells.length k2)) 96)
  have hq1 := blk8 h.row hb1
  have HEQ : Hid (∀ W, Below w.heap.size w W → Calls Try.prog 127 #[.slice a1 m.cells.length k1, .slice a2 s.cells.length k2] W fun e w' => e = .returned (.bool (decide (m.cells = s.cells))) ∧ ∃ q, w' = W.drewN q) := fun W hb => equal_any _ _ m.cells s.cells W (own_row (own_kept h.cs hb)) (RowV.below ⟨a2, k2, rfl, hn2, hk2⟩ hb) (by omega) (by omega)
  have hE2 : ∀ W, (binOp .eql 94 (.agg (m.stk.map (Value.int .i64)).toArray) (.agg (s.stk.map (Value.int .i64)).toArray)).run Try.prog W = .ok (.bool (decide (m.stk = s.stk))) W := fun W => regs_eq m.stk s.stk h.rl hsl W
  have hE1 : ∀ W, (binOp .eql 92 (.agg #[.int .i64 m.pc, .int .i64 m.sig, .int .i64 m.used, .int .i64 m.trap, .bool m.done]) (.agg #[.int .i64 s.pc, .int .i64 s.sig, .int .i64 m.used, .int .i64 s.trap, .bool s.done])).run Try.prog W = .ok (.bool (m.pc == s.pc && (m.sig == s.sig && (m.trap == s.trap && m.done == s.done)))) W := fun W => by
    have := prog_eq m.pc m.sig m.used m.trap s.pc s.sig m.used s.trap m.done s.done W
    rw [this]
    simp
  have HST : Hid (standsB m s = ((m.pc == s.pc && (m.sig == s.sig && (m.trap == s.trap && m.done == s.done))) && decide (m.stk = s.stk) && decide (m.cells = s.cells))) := by
    unfold Hid standsB
    rw [Bool.eq_iff_iff]
    simp only [decide_eq_true_eq, Bool.and_eq_true, beq_iff_eq]
    constructor
    · rintro ⟨a, b, c, d, e, f⟩; exact ⟨⟨⟨a, b, c, d⟩, e⟩, f⟩
    · rintro ⟨⟨⟨a, b, c, d⟩, e⟩, f⟩; exact ⟨a, b, c, d, e, f⟩
  have hg1 := eqg92
  have hg2 := eqg94
  have HB1 := hid hb1
  have HQ1 := hid hq1
  have HR1 := hid hr1
  have HX24 : Hid ((m.stk.map (Value.int .i64)).length = 24) := by unfold Hid; rw [List.length_map]; exact h.rl
  have HY24 : Hid ((s.stk.map (Value.int .i64)).length = 24) := by unfold Hid; rw [List.length_map]; exact hsl
  have HUS : Hid ((lineRR s (.slice a2 s.cells.length k2)).setIfInBounds 3 (.int .i64 m.used) = lineRR { s with used := m.used } (.slice a2 s.cells.length k2)) := lineRR_used s m.used _
  clear h hn2 hk2 hsl hl hl2 hb1 hq1 hr1
  generalize (m.pc == s.pc && (m.sig == s.sig && (m.trap == s.trap && m.done == s.done))) = q1 at *
  generalize decide (m.stk = s.stk) = q2 at *
  generalize decide (m.cells = s.cells) = q3 at *
  obtain ⟨r, hr⟩ : ∃ r, r = standsB m s := ⟨_, rfl⟩
  rw [← hr] at HST ⊢
  clear hr
  obtain ⟨A, hA⟩ : ∃ A, A = lineRR s (.slice a2 s.cells.length k2) := ⟨_, rfl⟩
  rw [← hA] at HB1 HQ1 HR1 HUS ⊢
  have HA3 : Hid (A[3]? = some (.int .i64 s.used)) := by unfold Hid; rw [hA]; simp [lineRR]
  clear hA
  go_enter Try.func106, Try.ntmps106
  go_upto_region 1 with fail
  generalize w.alloc (.cells A 96) = W at *
  have p3 := (row6 HQ1.out).2.2.2.1
  have g3 := (cell_of_row _ _ 3 _ _ _ HR1.out).trans HA3.out
  have f3 := frozen_of_row _ _ 3 _ _ HR1.out
  go_upto_region 2 with fail
  have hr2 := heap_setCell_same W w.heap.size 3 _ _ (.int .i64 m.used) HR1.out
  rw [HUS.out] at hr2
  have hq2 := (heap_setCell_other W ⟨w.heap.size, 3, none⟩ p (.int .i64 m.used) (by show p ≠ w.heap.size; omega)).trans HQ1.out
  have HB2 := hid (HB1.out.setCell (p := ⟨w.heap.size, 3, none⟩) (Nat.le_refl _) (.int .i64 m.used))
  have HRG := hid (range_of hr2)
  have HRP := hid (range_of hq2)
  obtain ⟨g0, g1, g2, g3', g4, g5⟩ := row6 hr2
  obtain ⟨p0, p1, p2, p3', p4, p5⟩ := row6 hq2
  clear hr2 hq2 HR1 HQ1 HB1 p3 g3 f3 HUS HA3
  generalize W.setCell ⟨w.heap.size, 3, none⟩ (.int .i64 m.used) = W2 at *
  have HLX : Hid (∀ w', (∃ n, w' = W2.drewN n) → w'.rangeAt p 6 (m.stk.map (Value.int .i64))) := by rintro _ ⟨n, rfl⟩; intro j v hv; exact HRP.out j v hv
  have HLY : Hid (∀ w', (∃ n, w' = W2.drewN n) → w'.rangeAt w.heap.size 6 (s.stk.map (Value.int .i64))) := by rintro _ ⟨n, rfl⟩; intro j v hv; exact HRG.out j v hv
  clear HRG HRP
  generalize m.stk.map (Value.int .i64) = Xs at *
  generalize s.stk.map (Value.int .i64) = Ys at *
  generalize m.cells.length = n1 at *
  generalize s.cells.length = n2 at *
  generalize hm1 : m.pc = m1 at *
  generalize hm2 : m.sig = m2 at *
  generalize hm3 : m.used = m3 at *
  generalize hm4 : m.trap = m4 at *
  generalize hm5 : m.done = m5 at *
  generalize hs1 : s.pc = s1 at *
  generalize hs2 : s.sig = s2 at *
  generalize hs4 : s.trap = s4 at *
  generalize hs5 : s.done = s5 at *
  clear hm1 hm2 hm3 hm4 hm5 hs1 hs2 hs4 hs5
  cases q1
  · have HR : Hid (r = false) := HST.out
    refine wp_region_quiet_lit (by kernel_rfl) (by kernel_rfl) ?_
    repeat (go_big_quiet_step (fail))
    refine wpQuiet_nil ?_
    rintro _ ⟨nq, rfl⟩
    go_wp2_with fail
    go_ret
    exact ⟨by rw [HR.out]; rfl, HB2.out.trans ⟨rfl, rfl, rfl, Nat.le_refl _, fun _ _ => rfl⟩⟩
  · cases q2
    · have HR : Hid (r = false) := HST.out
      refine wp_region_quiet_lit (by kernel_rfl) (by kernel_rfl) ?_
      repeat (first | (go_big_quiet_want; refine quiet_ld24 _ rfl p 6 (by rfl) Xs HX24.out HLX.out ?_; go_big_quiet_on; simp only [Act.put, List.setIfInBounds_toArray, List.set_cons_zero, List.set_cons_succ]) | (go_big_quiet_want; refine quiet_ld24 _ rfl w.heap.size 6 (by rfl) Ys HY24.out HLY.out ?_; go_big_quiet_on; simp only [Act.put, List.setIfInBounds_toArray, List.set_cons_zero, List.set_cons_succ]) | go_big_quiet_step (fail))
      refine wpQuiet_nil ?_
      rintro _ ⟨nq, rfl⟩
      go_wp2_with fail
      go_ret
      exact ⟨by rw [HR.out]; rfl, HB2.out.trans ⟨rfl, rfl, rfl, Nat.le_refl _, fun _ _ => rfl⟩⟩
    · have HR : Hid (r = q3) := by rw [HST.out]; cases q3 <;> rfl
      clear HST
      refine wp_region_quiet_lit (by kernel_rfl) (by kernel_rfl) ?_
      repeat (first | (go_big_quiet_want; refine quiet_ld24 _ rfl p 6 (by rfl) Xs HX24.out HLX.out ?_; go_big_quiet_on; simp only [Act.put, List.setIfInBounds_toArray, List.set_cons_zero, List.set_cons_succ]) | (go_big_quiet_want; refine quiet_ld24 _ rfl w.heap.size 6 (by rfl) Ys HY24.out HLY.out ?_; go_big_quiet_on; simp only [Act.put, List.setIfInBounds_toArray, List.set_cons_zero, List.set_cons_succ]) | go_big_quiet_step (first | (go_at_call 127; refine Calls.quiet_of (HEQ.out _ (HB2.out.trans ⟨rfl, rfl, rfl, Nat.le_refl _, fun _ _ => rfl⟩))) | fail))
      refine wpQuiet_nil ?_
      rintro _ ⟨nq, rfl⟩
      go_wp2_with fail
      go_ret
      exact ⟨by rw [HR.out]; rfl, HB2.out.trans ⟨rfl, rfl, rfl, Nat.le_refl _, fun _ _ => rfl⟩⟩
end Go.Proofs.Ytcikofhbfncgdaa
