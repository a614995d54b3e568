/-
  impl.BinaryOf answers the plain code and word at every op and all numbers.
-/
import Derived.Test.YtcikofhbfncgdaaIPrg
import Derived.Deep.Cut
import Derived.Test.YtcikofhbfncgdaaReck1
import Derived.Laws.EntriesVeiled
namespace Go.Proofs.Ytcikofhbfncgdaa
open Go.RowKit
set_option linter.unusedVariables false

abbrev ir (c v : Int) : Value := .agg #[.int .i64 c, .int .i64 v]

set_option maxHeartbeats 1600000 in
theorem cellAt_any (f s i : Int) (w : World) (hf0 : 0 ≤ f) (hf1 : f ≤ 65535) (hs0 : 0 ≤ s) (hs1 : s ≤ 65535) :
    Calls Try.prog 158 #[.int .i64 f, .int .i64 s, .int .i64 i] w fun e w' => e = .returned (ir (if inB (sg i) 0 (s - 1) then 0 else 3) (if inB (sg i) 0 (s - 1) then f + sg i else 0)) ∧ Below w.heap.size w w' := by
  have HS : Hid (∀ W, Calls Try.prog 166 #[.int .i64 i] W fun e w' => e = .returned (.int .i64 (sg i)) ∧ w' = W) := implSignedOf i
  have h1 := sg_lo i
  have h2 := sg_hi i
  generalize sg i = k at *
  have HI : Hid (∀ W, Calls Try.prog 67 #[.int .i64 k, .int .i64 0, .int .i64 (s - 1)] W fun e w' => e = .returned (.bool (inB k 0 (s - 1))) ∧ w' = W) := within_any k 0 (s - 1)
  cases hq : inB k 0 (s - 1)
  · rw [hq] at HI
    clear hq
    go_enter Try.func158, Try.ntmps158
    go_wp2_with fail
    refine (HS.out _).mono ?_
    rintro e w1 ⟨rfl, rfl⟩
    go_wp2_with fail
    refine (HI.out _).mono ?_
    rintro e w1 ⟨rfl, rfl⟩
    go_wp2_with fail
    refine bodyPost_ret (v := ir 3 0) (by simp [results, Try.results158, go_sem]) rfl ⟨rfl, ?_⟩
    go_grown
  · rw [hq] at HI
    clear hq
    go_enter Try.func158, Try.ntmps158
    go_wp2_with fail
    refine (HS.out _).mono ?_
    rintro e w1 ⟨rfl, rfl⟩
    go_wp2_with fail
    refine (HI.out _).mono ?_
    rintro e w1 ⟨rfl, rfl⟩
    go_wp2_with fail
    refine bodyPost_ret (v := ir 0 (f + k)) (by simp [results, Try.results158, go_sem]) rfl ⟨rfl, ?_⟩
    go_grown

set_option maxHeartbeats 1600000 in
theorem cell_any (B p : Nat) (m : SM) (u : Int) (w : World) (h : RunI B w p m) (hl : m.cells.length ≤ 80) (hu : 0 ≤ u) :
    Calls Try.prog 128 #[.pointer (some ⟨p, 1, none⟩), .int .i64 u] w fun e w' => e = .returned (ir (cellC m.cells.length u) (cellV m.cells.length u)) ∧ Below w.heap.size w w' := by
  obtain ⟨sv, cv, hb, hm⟩ := h
  obtain ⟨a, c, rfl⟩ := own_shape hm.cs
  have c1 := (RunI.cells (B := B) hb).2.1
  have hp := (Array.getElem?_eq_some_iff.1 hb).1
  have hne := World.new_ne w ⟨p, 1, none⟩ c1
  have HC : Hid (∀ n : Nat, cellC n u = (if u < n then 0 else 1) ∧ cellV n u = (if u < n then u else 0)) := fun n => ⟨rfl, rfl⟩
  clear hm hb
  generalize hn : m.cells.length = n at *
  clear hn
  have HI : Hid (∀ W, Calls Try.prog 67 #[.int .i64 u, .int .i64 0, .int .i64 (n - 1)] W fun e w' => e = .returned (.bool (inB u 0 (n - 1))) ∧ w' = W) := within_any u 0 (n - 1)
  by_cases hlt : u < n
  · have hq : inB u 0 ((n : Int) - 1) = true := inB_iff.2 ⟨hu, by omega⟩
    rw [hq] at HI
    rw [(HC.out n).1, (HC.out n).2, if_pos hlt, if_pos hlt]
    clear hq HC hlt
    go_enter Try.func128, Try.ntmps128
    go_wp2_with fail
    refine (HI.out _).mono ?_
    rintro e w1 ⟨rfl, rfl⟩
    go_wp2_with fail
    refine bodyPost_ret (v := ir 0 u) (by simp [results, Try.results128, go_sem]) rfl ⟨rfl, ?_⟩
    go_grown
  · have hq : inB u 0 ((n : Int) - 1) = false := inB_no.2 (by omega)
    rw [hq] at HI
    rw [(HC.out n).1, (HC.out n).2, if_neg hlt, if_neg hlt]
    clear hq HC hlt
    go_enter Try.func128, Try.ntmps128
    go_wp2_with fail
    refine (HI.out _).mono ?_
    rintro e w1 ⟨rfl, rfl⟩
    go_wp2_with fail
    refine bodyPost_ret (v := ir 1 0) (by simp [results, Try.results128, go_sem]) rfl ⟨rfl, ?_⟩
    go_grown

set_option maxHeartbeats 1600000 in
theorem item_any (B p : Nat) (m : SM) (f s i : Int) (w : World) (h : RunI B w p m) (hl : m.cells.length ≤ 80) (hf0 : 0 ≤ f) (hf1 : f ≤ 65535) (hs0 : 0 ≤ s) (hs1 : s ≤ 65535) :
    Calls Try.prog 129 #[.pointer (some ⟨p, 1, none⟩), .int .i64 f, .int .i64 s, .int .i64 i] w fun e w' => e = .returned (ir (itemC m.cells.length f s i) (itemV m.cells.length f s i)) ∧ Below w.heap.size w w' := by
  have HA : Hid (∀ W, Calls Try.prog 158 #[.int .i64 f, .int .i64 s, .int .i64 i] W fun e w' => e = .returned (ir (if inB (sg i) 0 (s - 1) then 0 else 3) (if inB (sg i) 0 (s - 1) then f + sg i else 0)) ∧ Below W.heap.size W w') := fun W => cellAt_any f s i W hf0 hf1 hs0 hs1
  have h1 := sg_lo i
  have h2 := sg_hi i
  have HE : Hid (∀ n : Nat, (itemC n f s i = if inB (sg i) 0 (s - 1) then (if f + sg i < n then 0 else 1) else 3) ∧ (itemV n f s i = if itemC n f s i = 0 then f + sg i else 0)) := fun n => ⟨rfl, rfl⟩
  have HR : Hid (RunI B w p m) := h
  have hB0 : Below w.heap.size w (w.alloc (.cells #[.int .i64 0, .int .i64 0] 61)) := (Below.refl _ _).alloc (Nat.le_refl _) _
  have hN0 := heap_alloc_new w (.cells #[.int .i64 0, .int .i64 0] 61)
  have HB0 : Hid (Below w.heap.size w (w.alloc (.cells #[.int .i64 0, .int .i64 0] 61))) := hB0
  have HN0 : Hid ((w.alloc (.cells #[.int .i64 0, .int .i64 0] 61)).heap[w.heap.size]? = some (.cells #[.int .i64 0, .int .i64 0] 61 (0, 0))) := hN0
  clear h hB0 hN0
  generalize sg i = k at *
  cases hq : inB k 0 (s - 1)
  · have e3 : Hid (∀ n : Nat, itemC n f s i = 3 ∧ itemV n f s i = 0) := fun n => by
      have e : itemC n f s i = 3 := by rw [(HE.out n).1, hq, if_neg (by simp)]
      exact ⟨e, by rw [(HE.out n).2, e, if_neg (by omega)]⟩
    rw [hq, if_neg (by simp), if_neg (by simp)] at HA
    rw [(e3.out _).1, (e3.out _).2]
    clear HE hq e3
    go_enter Try.func129, Try.ntmps129
    go_wp2_with fail
    generalize w.alloc (.cells #[.int .i64 0, .int .i64 0] 61) = W at *
    refine (HA.out _).mono ?_
    rintro e w1 ⟨rfl, hb⟩
    have hN1 := blk8 HN0.out hb
    have HB1 : Hid (Below w.heap.size w w1) := HB0.out.trans (hb.mono HB0.out.size)
    have hlt : w.heap.size < w1.heap.size := (Array.getElem?_eq_some_iff.1 hN1).1
    clear hb HB0 HN0 HA HR
    go_upto_region 3 with fail
    have a1 := heap_alloc_new w1 (.cells #[.int .i64 3, .int .i64 0] 61)
    have b1 : Below w1.heap.size w1 (w1.alloc (.cells #[.int .i64 3, .int .i64 0] 61)) := (Below.refl _ _).alloc (Nat.le_refl _) _
    have hN2 := blk8 hN1 b1
    have HB2 : Hid (Below w.heap.size w (w1.alloc (.cells #[.int .i64 3, .int .i64 0] 61))) := HB1.out.trans (b1.mono (by omega))
    clear hN1 HB1 b1
    generalize w1.alloc (.cells #[.int .i64 3, .int .i64 0] 61) = W2 at *
    have r0 := cell_of_row _ _ 0 _ _ _ hN2
    have f0 := frozen_of_row _ _ 0 _ _ hN2
    have r1 := cell_of_row _ _ 1 _ _ _ hN2
    have f1 := frozen_of_row _ _ 1 _ _ hN2
    have q0 := cell_of_row _ _ 0 _ _ _ a1
    have q1 := cell_of_row _ _ 1 _ _ _ a1
    simp at r0 r1 f0 f1 q0 q1
    go_wp2_with fail
    refine bodyPost_ret (v := ir 3 0) (by simp [results, Try.results129, go_sem, r0, r1]) rfl ⟨rfl, ?_⟩
    exact (HB2.out.setCell (Nat.le_refl _) _).setCell (Nat.le_refl _) _
  · have hk := inB_iff.1 hq
    rw [hq, if_pos rfl, if_pos rfl] at HA
    have HCE : Hid (∀ n : Nat, itemC n f s i = cellC n (f + k) ∧ itemV n f s i = cellV n (f + k)) := fun n => by
      have e : itemC n f s i = cellC n (f + k) := by rw [(HE.out n).1, hq, if_pos rfl]; rfl
      refine ⟨e, ?_⟩
      rw [(HE.out n).2, e]
      unfold cellC cellV
      by_cases h : f + k < n
      · rw [if_pos h, if_pos rfl, if_pos h]
      · rw [if_neg h, if_neg (by omega), if_neg h]
    rw [(HCE.out _).1, (HCE.out _).2]
    have HCL : Hid (∀ W, RunI B W p m → Calls Try.prog 128 #[.pointer (some ⟨p, 1, none⟩), .int .i64 (f + k)] W fun e w' => e = .returned (ir (cellC m.cells.length (f + k)) (cellV m.cells.length (f + k))) ∧ Below W.heap.size W w') := fun W hr => cell_any B p m (f + k) W hr hl (by omega)
    clear HE hq HCE
    generalize cellC m.cells.length (f + k) = C at *
    generalize cellV m.cells.length (f + k) = V at *
    go_enter Try.func129, Try.ntmps129
    go_wp2_with fail
    generalize w.alloc (.cells #[.int .i64 0, .int .i64 0] 61) = W at *
    refine (HA.out _).mono ?_
    rintro e w1 ⟨rfl, hb⟩
    have hN1 := blk8 HN0.out hb
    have HB1 : Hid (Below w.heap.size w w1) := HB0.out.trans (hb.mono HB0.out.size)
    have HR1 : Hid (RunI B w1 p m) := HR.out.kept HB1.out
    have hlt : w.heap.size < w1.heap.size := (Array.getElem?_eq_some_iff.1 hN1).1
    clear hb HB0 HN0 HA HR
    have a1 := heap_alloc_new w1 (.cells #[.int .i64 0, .int .i64 (f + k)] 61)
    have b1 : Below w1.heap.size w1 (w1.alloc (.cells #[.int .i64 0, .int .i64 (f + k)] 61)) := (Below.refl _ _).alloc (Nat.le_refl _) _
    have HR2 : Hid (RunI B (w1.alloc (.cells #[.int .i64 0, .int .i64 (f + k)] 61)) p m) := HR1.out.kept b1
    have hN2 := blk8 hN1 b1
    have HB2 : Hid (Below w.heap.size w (w1.alloc (.cells #[.int .i64 0, .int .i64 (f + k)] 61))) := HB1.out.trans (b1.mono (by omega))
    clear hN1 HB1 HR1 a1 b1
    go_wp2_with fail
    generalize w1.alloc (.cells #[.int .i64 0, .int .i64 (f + k)] 61) = W2 at *
    refine (HCL.out _ HR2.out).mono ?_
    rintro e w3 ⟨rfl, hb⟩
    have hN3 := blk8 hN2 hb
    have HB3 : Hid (Below w.heap.size w w3) := HB2.out.trans (hb.mono HB2.out.size)
    clear hb HB2 HR2 hN2 HCL
    have r0 := cell_of_row _ _ 0 _ _ _ hN3
    have f0 := frozen_of_row _ _ 0 _ _ hN3
    have r1 := cell_of_row _ _ 1 _ _ _ hN3
    have f1 := frozen_of_row _ _ 1 _ _ hN3
    simp at r0 r1 f0 f1
    go_wp2_with fail
    refine bodyPost_ret (v := ir C V) (by simp [results, Try.results129, go_sem, r0, r1]) rfl ⟨rfl, ?_⟩
    exact (HB3.out.setCell (Nat.le_refl _) _).setCell (Nat.le_refl _) _
end Go.Proofs.Ytcikofhbfncgdaa
namespace Go.Proofs.Ytcikofhbfncgdaa
open Go.RowKit

theorem b16_and (a b : Int) : bits .and .u16 (wd a) (wd b) = (((wd a).toNat &&& (wd b).toNat : Nat) : Int) := by
  have h1 := wd_lo a; have h2 := wd_hi a; have h3 := wd_lo b; have h4 := wd_hi b
  obtain ⟨m, hm⟩ := Int.eq_ofNat_of_zero_le h1
  obtain ⟨n, hn⟩ := Int.eq_ofNat_of_zero_le h3
  rw [hm, hn, u16_and_nat m n (by omega) (by omega)]; rfl
theorem b16_or (a b : Int) : bits .or .u16 (wd a) (wd b) = (((wd a).toNat ||| (wd b).toNat : Nat) : Int) := by
  have h1 := wd_lo a; have h2 := wd_hi a; have h3 := wd_lo b; have h4 := wd_hi b
  obtain ⟨m, hm⟩ := Int.eq_ofNat_of_zero_le h1
  obtain ⟨n, hn⟩ := Int.eq_ofNat_of_zero_le h3
  rw [hm, hn, u16_or_nat m n (by omega) (by omega)]; rfl
theorem b16_xor (a b : Int) : bits .xor .u16 (wd a) (wd b) = (((wd a).toNat ^^^ (wd b).toNat : Nat) : Int) := by
  have h1 := wd_lo a; have h2 := wd_hi a; have h3 := wd_lo b; have h4 := wd_hi b
  obtain ⟨m, hm⟩ := Int.eq_ofNat_of_zero_le h1
  obtain ⟨n, hn⟩ := Int.eq_ofNat_of_zero_le h3
  rw [hm, hn, u16_xor_nat m n (by omega) (by omega)]; rfl

set_option maxHeartbeats 400000 in
theorem divides_yes (op : Int) (h : op = 4 ∨ op = 5) (w : World) : Calls Try.prog 161 #[.int .i64 op] w fun e w' => e = .returned (.bool true) ∧ w' = w := by
  rcases h with rfl | rfl <;> (go_enter Try.func161, Try.ntmps161; go_wp2; go_ret; exact ⟨rfl, rfl⟩)
set_option maxHeartbeats 400000 in
theorem divides_no (op : Int) (h : ¬(op = 4 ∨ op = 5)) (w : World) : Calls Try.prog 161 #[.int .i64 op] w fun e w' => e = .returned (.bool false) ∧ w' = w := by
  have h4 : (op == 4) = false := by simp; omega
  have h5 : (op == 5) = false := by simp; omega
  clear h
  go_enter Try.func161, Try.ntmps161
  go_wp2
  go_ret
  exact ⟨rfl, rfl⟩

/-- what the k-th of the ten answers at two words -/
def Pays (f : Nat) (op : Int) : Prop := ∀ (a b : Int) (w : World), (op = 4 ∨ op = 5 → wd b ≠ 0) → Calls Try.prog f #[.int .u16 (IntKind.u16.wrap a), .int .u16 (IntKind.u16.wrap b)] w fun e w' => e = .returned (.int .u16 (binW op a b)) ∧ w' = w

set_option maxHeartbeats 400000 in
theorem op1_any : Pays 167 1 := by
  intro a b w _
  rw [wrap_wd, wrap_wd]
  go_enter Try.func167, Try.ntmps167
  go_wp2
  go_ret
  refine ⟨ret16 ?_, rfl⟩
  rw [wrap_wd, wd_add]; rfl
set_option maxHeartbeats 400000 in
theorem op2_any : Pays 168 2 := by
  intro a b w _
  rw [wrap_wd, wrap_wd]
  go_enter Try.func168, Try.ntmps168
  go_wp2
  go_ret
  refine ⟨ret16 ?_, rfl⟩
  rw [wrap_wd, wd_sub]; rfl
set_option maxHeartbeats 400000 in
theorem op3_any : Pays 169 3 := by
  intro a b w _
  rw [wrap_wd, wrap_wd]
  go_enter Try.func169, Try.ntmps169
  go_wp2
  go_ret
  refine ⟨ret16 ?_, rfl⟩
  rw [wrap_wd, wd_mul]; rfl
theorem sg_ne (b : Int) (h : wd b ≠ 0) : IntKind.i16.wrap (wd b) ≠ 0 := by rw [wrap_sg, sg_wd]; intro e; exact h ((sg_zero b).1 e)
set_option maxHeartbeats 400000 in
theorem op4_any : Pays 170 4 := by
  intro a b w hz
  rw [wrap_wd, wrap_wd]
  have hb := sg_ne b (hz (.inl rfl))
  clear hz
  go_enter Try.func170, Try.ntmps170
  go_wp2
  go_ret
  refine ⟨ret16 ?_, rfl⟩
  rw [wrap_wd, wrap_sg, wrap_sg, wrap_sg, wd_sg, sg_wd, sg_wd]; rfl
set_option maxHeartbeats 400000 in
theorem op5_any : Pays 171 5 := by
  intro a b w hz
  rw [wrap_wd, wrap_wd]
  have hb := sg_ne b (hz (.inr rfl))
  clear hz
  go_enter Try.func171, Try.ntmps171
  go_wp2
  go_ret
  refine ⟨ret16 ?_, rfl⟩
  rw [wrap_wd, wrap_sg, wrap_sg, sg_wd, sg_wd]; rfl
set_option maxHeartbeats 400000 in
theorem op6_any : Pays 172 6 := by
  intro a b w _
  rw [wrap_wd, wrap_wd]
  go_enter Try.func172, Try.ntmps172
  go_wp2
  go_ret
  refine ⟨ret16 ?_, rfl⟩
  rw [b16_and]; rfl
set_option maxHeartbeats 400000 in
theorem op7_any : Pays 173 7 := by
  intro a b w _
  rw [wrap_wd, wrap_wd]
  go_enter Try.func173, Try.ntmps173
  go_wp2
  go_ret
  refine ⟨ret16 ?_, rfl⟩
  rw [b16_or]; rfl
set_option maxHeartbeats 400000 in
theorem op8_any : Pays 174 8 := by
  intro a b w _
  rw [wrap_wd, wrap_wd]
  go_enter Try.func174, Try.ntmps174
  go_wp2
  go_ret
  refine ⟨ret16 ?_, rfl⟩
  rw [b16_xor]; rfl
set_option maxHeartbeats 400000 in
theorem op9_any : Pays 175 9 := by
  intro a b w _
  rw [wrap_wd, wrap_wd]
  go_enter Try.func175, Try.ntmps175
  go_wp2_with fail
  refine (oneIf_any _ _).mono ?_
  rintro e w1 ⟨rfl, rfl⟩
  go_wp2
  · go_ret
    refine ⟨ret16 ?_, rfl⟩
    rw [wrap_sg, wrap_sg, sg_wd, sg_wd] at h
    exact (if_pos h).symm
  · go_ret
    refine ⟨ret16 ?_, rfl⟩
    rw [wrap_sg, wrap_sg, sg_wd, sg_wd] at h
    exact (if_neg (Int.not_lt.2 h)).symm
set_option maxHeartbeats 400000 in
theorem op10_any : Pays 176 10 := by
  intro a b w _
  rw [wrap_wd, wrap_wd]
  go_enter Try.func176, Try.ntmps176
  go_wp2_with fail
  refine (oneIf_any _ _).mono ?_
  rintro e w1 ⟨rfl, rfl⟩
  go_wp2
  · go_ret
    refine ⟨ret16 ?_, rfl⟩
    exact (if_pos h).symm
  · go_ret
    refine ⟨ret16 ?_, rfl⟩
    exact (if_neg h).symm

/-- the table -/
abbrev fnv (k : Nat) : Value := .func (.func k) #[] #[]
abbrev tbl : Value := .agg #[.nilFunc, fnv 167, fnv 168, fnv 169, fnv 170, fnv 171, fnv 172, fnv 173, fnv 174, fnv 175, fnv 176]
set_option maxHeartbeats 800000 in
theorem wordOps_any (w : World) : Calls Try.prog 162 #[] w fun e w' => e = .returned tbl ∧ Below w.heap.size w w' := by
  go_enter Try.func162, Try.ntmps162
  go_wp2
  refine bodyPost_ret (v := tbl) (by simp [results, Try.results162, go_sem]) rfl ⟨rfl, ?_⟩
  go_grown
end Go.Proofs.Ytcikofhbfncgdaa
namespace Go.Proofs.Ytcikofhbfncgdaa
open Go.RowKit

/-- an IntResult -/
abbrev res (c v : Int) : Value := .agg #[.int .i64 c, .int .i64 v]

set_option maxHeartbeats 400000 in
theorem implBin_out (op a b : Int) (w : World) (h : op < 1 ∨ 10 < op) : Calls Try.prog 142 #[.int .i64 op, .int .i64 a, .int .i64 b] w fun e w' => e = .returned (res 3 0) ∧ Below w.heap.size w w' := by
  rcases h with h | h
  all_goals (go_enter Try.func142, Try.ntmps142; go_wp2; go_returns; exact ⟨rfl, by go_grown⟩)

set_option maxHeartbeats 400000 in
theorem implBin_zero (op a b : Int) (w : World) (h : op = 4 ∨ op = 5) (hz : wd b = 0) : Calls Try.prog 142 #[.int .i64 op, .int .i64 a, .int .i64 b] w fun e w' => e = .returned (res 4 0) ∧ Below w.heap.size w w' := by
  have hb : (wd b == 0) = true := by rw [hz]; rfl
  clear hz
  rcases h with rfl | rfl
  all_goals
    go_enter Try.func142, Try.ntmps142
    go_wp2_with (first | (go_at_call 161; refine (divides_yes _ (by omega) _).mono ?_; rintro e w' ⟨rfl, rfl⟩) | (go_at_call 160; refine (implWordOf _ _).mono ?_; rintro e w' ⟨rfl, rfl⟩))
    go_returns
    exact ⟨rfl, by go_grown⟩

theorem idx1 (w : World) : (Instr.index 181 tbl (.int .i64 1)).run Try.prog w = .ok (fnv 167) w := by kernel_rfl
theorem idx2 (w : World) : (Instr.index 181 tbl (.int .i64 2)).run Try.prog w = .ok (fnv 168) w := by kernel_rfl
theorem idx3 (w : World) : (Instr.index 181 tbl (.int .i64 3)).run Try.prog w = .ok (fnv 169) w := by kernel_rfl
theorem idx4 (w : World) : (Instr.index 181 tbl (.int .i64 4)).run Try.prog w = .ok (fnv 170) w := by kernel_rfl
theorem idx5 (w : World) : (Instr.index 181 tbl (.int .i64 5)).run Try.prog w = .ok (fnv 171) w := by kernel_rfl
theorem idx6 (w : World) : (Instr.index 181 tbl (.int .i64 6)).run Try.prog w = .ok (fnv 172) w := by kernel_rfl
theorem idx7 (w : World) : (Instr.index 181 tbl (.int .i64 7)).run Try.prog w = .ok (fnv 173) w := by kernel_rfl
theorem idx8 (w : World) : (Instr.index 181 tbl (.int .i64 8)).run Try.prog w = .ok (fnv 174) w := by kernel_rfl
theorem idx9 (w : World) : (Instr.index 181 tbl (.int .i64 9)).run Try.prog w = .ok (fnv 175) w := by kernel_rfl
theorem idx10 (w : World) : (Instr.index 181 tbl (.int .i64 10)).run Try.prog w = .ok (fnv 176) w := by kernel_rfl
set_option maxHeartbeats 400000 in
theorem implBin_1 (a b : Int) (w : World) : Calls Try.prog 142 #[.int .i64 1, .int .i64 a, .int .i64 b] w fun e w' => e = .returned (res 0 (binW 1 a b)) ∧ Below w.heap.size w w' := by
  have hlo := binW_lo 1 a b
  have hhi := binW_hi 1 a b
  have hidx := idx1
  go_enter Try.func142, Try.ntmps142
  go_wp2_with (first | (go_at_call 161; refine (divides_no _ (by omega) _).mono ?_; rintro e w' ⟨rfl, rfl⟩) | (go_at_call 160; refine (implWordOf _ _).mono ?_; rintro e w' ⟨rfl, rfl⟩) | (go_at_call 162; refine (wordOps_any _).mono ?_; rintro e w' ⟨rfl, hb⟩; obtain ⟨hc0, hc1, hf0, hf1, hz⟩ := own2 hb; have hB := back hb; clear hb) | (go_at_call 167; refine (op1_any a b _ (by omega)).mono ?_; rintro e w' ⟨rfl, rfl⟩))
  refine bodyPost_ret (v := res 0 (binW 1 a b)) (by simp [results, Try.results142, go_sem, hc0, hc1]) rfl ⟨rfl, ?_⟩
  go_grown
set_option maxHeartbeats 400000 in
theorem implBin_2 (a b : Int) (w : World) : Calls Try.prog 142 #[.int .i64 2, .int .i64 a, .int .i64 b] w fun e w' => e = .returned (res 0 (binW 2 a b)) ∧ Below w.heap.size w w' := by
  have hlo := binW_lo 2 a b
  have hhi := binW_hi 2 a b
  have hidx := idx2
  go_enter Try.func142, Try.ntmps142
  go_wp2_with (first | (go_at_call 161; refine (divides_no _ (by omega) _).mono ?_; rintro e w' ⟨rfl, rfl⟩) | (go_at_call 160; refine (implWordOf _ _).mono ?_; rintro e w' ⟨rfl, rfl⟩) | (go_at_call 162; refine (wordOps_any _).mono ?_; rintro e w' ⟨rfl, hb⟩; obtain ⟨hc0, hc1, hf0, hf1, hz⟩ := own2 hb; have hB := back hb; clear hb) | (go_at_call 168; refine (op2_any a b _ (by omega)).mono ?_; rintro e w' ⟨rfl, rfl⟩))
  refine bodyPost_ret (v := res 0 (binW 2 a b)) (by simp [results, Try.results142, go_sem, hc0, hc1]) rfl ⟨rfl, ?_⟩
  go_grown
set_option maxHeartbeats 400000 in
theorem implBin_3 (a b : Int) (w : World) : Calls Try.prog 142 #[.int .i64 3, .int .i64 a, .int .i64 b] w fun e w' => e = .returned (res 0 (binW 3 a b)) ∧ Below w.heap.size w w' := by
  have hlo := binW_lo 3 a b
  have hhi := binW_hi 3 a b
  have hidx := idx3
  go_enter Try.func142, Try.ntmps142
  go_wp2_with (first | (go_at_call 161; refine (divides_no _ (by omega) _).mono ?_; rintro e w' ⟨rfl, rfl⟩) | (go_at_call 160; refine (implWordOf _ _).mono ?_; rintro e w' ⟨rfl, rfl⟩) | (go_at_call 162; refine (wordOps_any _).mono ?_; rintro e w' ⟨rfl, hb⟩; obtain ⟨hc0, hc1, hf0, hf1, hz⟩ := own2 hb; have hB := back hb; clear hb) | (go_at_call 169; refine (op3_any a b _ (by omega)).mono ?_; rintro e w' ⟨rfl, rfl⟩))
  refine bodyPost_ret (v := res 0 (binW 3 a b)) (by simp [results, Try.results142, go_sem, hc0, hc1]) rfl ⟨rfl, ?_⟩
  go_grown
set_option maxHeartbeats 400000 in
theorem implBin_4 (a b : Int) (w : World) (hz : wd b ≠ 0) : Calls Try.prog 142 #[.int .i64 4, .int .i64 a, .int .i64 b] w fun e w' => e = .returned (res 0 (binW 4 a b)) ∧ Below w.heap.size w w' := by
  have hb : (wd b == 0) = false := by simpa using hz
  have HZ : Hid (wd b ≠ 0) := hz
  clear hz
  have hlo := binW_lo 4 a b
  have hhi := binW_hi 4 a b
  have hidx := idx4
  go_enter Try.func142, Try.ntmps142
  go_wp2_with (first | (go_at_call 161; refine (divides_yes _ (by omega) _).mono ?_; rintro e w' ⟨rfl, rfl⟩) | (go_at_call 160; refine (implWordOf _ _).mono ?_; rintro e w' ⟨rfl, rfl⟩) | (go_at_call 162; refine (wordOps_any _).mono ?_; rintro e w' ⟨rfl, hb⟩; obtain ⟨hc0, hc1, hf0, hf1, hz⟩ := own2 hb; have hB := back hb; clear hb) | (go_at_call 170; refine (op4_any a b _ (fun _ => HZ.out)).mono ?_; rintro e w' ⟨rfl, rfl⟩))
  refine bodyPost_ret (v := res 0 (binW 4 a b)) (by simp [results, Try.results142, go_sem, hc0, hc1]) rfl ⟨rfl, ?_⟩
  go_grown
set_option maxHeartbeats 400000 in
theorem implBin_5 (a b : Int) (w : World) (hz : wd b ≠ 0) : Calls Try.prog 142 #[.int .i64 5, .int .i64 a, .int .i64 b] w fun e w' => e = .returned (res 0 (binW 5 a b)) ∧ Below w.heap.size w w' := by
  have hb : (wd b == 0) = false := by simpa using hz
  have HZ : Hid (wd b ≠ 0) := hz
  clear hz
  have hlo := binW_lo 5 a b
  have hhi := binW_hi 5 a b
  have hidx := idx5
  go_enter Try.func142, Try.ntmps142
  go_wp2_with (first | (go_at_call 161; refine (divides_yes _ (by omega) _).mono ?_; rintro e w' ⟨rfl, rfl⟩) | (go_at_call 160; refine (implWordOf _ _).mono ?_; rintro e w' ⟨rfl, rfl⟩) | (go_at_call 162; refine (wordOps_any _).mono ?_; rintro e w' ⟨rfl, hb⟩; obtain ⟨hc0, hc1, hf0, hf1, hz⟩ := own2 hb; have hB := back hb; clear hb) | (go_at_call 171; refine (op5_any a b _ (fun _ => HZ.out)).mono ?_; rintro e w' ⟨rfl, rfl⟩))
  refine bodyPost_ret (v := res 0 (binW 5 a b)) (by simp [results, Try.results142, go_sem, hc0, hc1]) rfl ⟨rfl, ?_⟩
  go_grown
set_option maxHeartbeats 400000 in
theorem implBin_6 (a b : Int) (w : World) : Calls Try.prog 142 #[.int .i64 6, .int .i64 a, .int .i64 b] w fun e w' => e = .returned (res 0 (binW 6 a b)) ∧ Below w.heap.size w w' := by
  have hlo := binW_lo 6 a b
  have hhi := binW_hi 6 a b
  have hidx := idx6
  go_enter Try.func142, Try.ntmps142
  go_wp2_with (first | (go_at_call 161; refine (divides_no _ (by omega) _).mono ?_; rintro e w' ⟨rfl, rfl⟩) | (go_at_call 160; refine (implWordOf _ _).mono ?_; rintro e w' ⟨rfl, rfl⟩) | (go_at_call 162; refine (wordOps_any _).mono ?_; rintro e w' ⟨rfl, hb⟩; obtain ⟨hc0, hc1, hf0, hf1, hz⟩ := own2 hb; have hB := back hb; clear hb) | (go_at_call 172; refine (op6_any a b _ (by omega)).mono ?_; rintro e w' ⟨rfl, rfl⟩))
  refine bodyPost_ret (v := res 0 (binW 6 a b)) (by simp [results, Try.results142, go_sem, hc0, hc1]) rfl ⟨rfl, ?_⟩
  go_grown
set_option maxHeartbeats 400000 in
theorem implBin_7 (a b : Int) (w : World) : Calls Try.prog 142 #[.int .i64 7, .int .i64 a, .int .i64 b] w fun e w' => e = .returned (res 0 (binW 7 a b)) ∧ Below w.heap.size w w' := by
  have hlo := binW_lo 7 a b
  have hhi := binW_hi 7 a b
  have hidx := idx7
  go_enter Try.func142, Try.ntmps142
  go_wp2_with (first | (go_at_call 161; refine (divides_no _ (by omega) _).mono ?_; rintro e w' ⟨rfl, rfl⟩) | (go_at_call 160; refine (implWordOf _ _).mono ?_; rintro e w' ⟨rfl, rfl⟩) | (go_at_call 162; refine (wordOps_any _).mono ?_; rintro e w' ⟨rfl, hb⟩; obtain ⟨hc0, hc1, hf0, hf1, hz⟩ := own2 hb; have hB := back hb; clear hb) | (go_at_call 173; refine (op7_any a b _ (by omega)).mono ?_; rintro e w' ⟨rfl, rfl⟩))
  refine bodyPost_ret (v := res 0 (binW 7 a b)) (by simp [results, Try.results142, go_sem, hc0, hc1]) rfl ⟨rfl, ?_⟩
  go_grown
set_option maxHeartbeats 400000 in
theorem implBin_8 (a b : Int) (w : World) : Calls Try.prog 142 #[.int .i64 8, .int .i64 a, .int .i64 b] w fun e w' => e = .returned (res 0 (binW 8 a b)) ∧ Below w.heap.size w w' := by
  have hlo := binW_lo 8 a b
  have hhi := binW_hi 8 a b
  have hidx := idx8
  go_enter Try.func142, Try.ntmps142
  go_wp2_with (first | (go_at_call 161; refine (divides_no _ (by omega) _).mono ?_; rintro e w' ⟨rfl, rfl⟩) | (go_at_call 160; refine (implWordOf _ _).mono ?_; rintro e w' ⟨rfl, rfl⟩) | (go_at_call 162; refine (wordOps_any _).mono ?_; rintro e w' ⟨rfl, hb⟩; obtain ⟨hc0, hc1, hf0, hf1, hz⟩ := own2 hb; have hB := back hb; clear hb) | (go_at_call 174; refine (op8_any a b _ (by omega)).mono ?_; rintro e w' ⟨rfl, rfl⟩))
  refine bodyPost_ret (v := res 0 (binW 8 a b)) (by simp [results, Try.results142, go_sem, hc0, hc1]) rfl ⟨rfl, ?_⟩
  go_grown
set_option maxHeartbeats 400000 in
theorem implBin_9 (a b : Int) (w : World) : Calls Try.prog 142 #[.int .i64 9, .int .i64 a, .int .i64 b] w fun e w' => e = .returned (res 0 (binW 9 a b)) ∧ Below w.heap.size w w' := by
  have hlo := binW_lo 9 a b
  have hhi := binW_hi 9 a b
  have hidx := idx9
  go_enter Try.func142, Try.ntmps142
  go_wp2_with (first | (go_at_call 161; refine (divides_no _ (by omega) _).mono ?_; rintro e w' ⟨rfl, rfl⟩) | (go_at_call 160; refine (implWordOf _ _).mono ?_; rintro e w' ⟨rfl, rfl⟩) | (go_at_call 162; refine (wordOps_any _).mono ?_; rintro e w' ⟨rfl, hb⟩; obtain ⟨hc0, hc1, hf0, hf1, hz⟩ := own2 hb; have hB := back hb; clear hb) | (go_at_call 175; refine (op9_any a b _ (by omega)).mono ?_; rintro e w' ⟨rfl, rfl⟩))
  refine bodyPost_ret (v := res 0 (binW 9 a b)) (by simp [results, Try.results142, go_sem, hc0, hc1]) rfl ⟨rfl, ?_⟩
  go_grown
set_option maxHeartbeats 400000 in
theorem implBin_10 (a b : Int) (w : World) : Calls Try.prog 142 #[.int .i64 10, .int .i64 a, .int .i64 b] w fun e w' => e = .returned (res 0 (binW 10 a b)) ∧ Below w.heap.size w w' := by
  have hlo := binW_lo 10 a b
  have hhi := binW_hi 10 a b
  have hidx := idx10
  go_enter Try.func142, Try.ntmps142
  go_wp2_with (first | (go_at_call 161; refine (divides_no _ (by omega) _).mono ?_; rintro e w' ⟨rfl, rfl⟩) | (go_at_call 160; refine (implWordOf _ _).mono ?_; rintro e w' ⟨rfl, rfl⟩) | (go_at_call 162; refine (wordOps_any _).mono ?_; rintro e w' ⟨rfl, hb⟩; obtain ⟨hc0, hc1, hf0, hf1, hz⟩ := own2 hb; have hB := back hb; clear hb) | (go_at_call 176; refine (op10_any a b _ (by omega)).mono ?_; rintro e w' ⟨rfl, rfl⟩))
  refine bodyPost_ret (v := res 0 (binW 10 a b)) (by simp [results, Try.results142, go_sem, hc0, hc1]) rfl ⟨rfl, ?_⟩
  go_grown

theorem implBin_any (op a b : Int) (w : World) : Calls Try.prog 142 #[.int .i64 op, .int .i64 a, .int .i64 b] w fun e w' => e = .returned (res (binC op b) (binV op a b)) ∧ Below w.heap.size w w' := by
  by_cases h : op < 1 ∨ 10 < op
  · have hc : binC op b = 3 := if_pos h
    rw [binV, hc]
    exact implBin_out op a b w h
  by_cases hz : (op = 4 ∨ op = 5) ∧ wd b = 0
  · have hc : binC op b = 4 := by unfold binC; rw [if_neg h, if_pos hz]
    rw [binV, hc]
    exact implBin_zero op a b w hz.1 hz.2
  have hc : binC op b = 0 := by unfold binC; rw [if_neg h, if_neg hz]
  rw [binV, hc, if_pos rfl]
  have hop : op = 1 ∨ op = 2 ∨ op = 3 ∨ op = 4 ∨ op = 5 ∨ op = 6 ∨ op = 7 ∨ op = 8 ∨ op = 9 ∨ op = 10 := by omega
  rcases hop with rfl | rfl | rfl | rfl | rfl | rfl | rfl | rfl | rfl | rfl
  · exact implBin_1 a b w
  · exact implBin_2 a b w
  · exact implBin_3 a b w
  · exact implBin_4 a b w (fun e => hz ⟨.inl rfl, e⟩)
  · exact implBin_5 a b w (fun e => hz ⟨.inr rfl, e⟩)
  · exact implBin_6 a b w
  · exact implBin_7 a b w
  · exact implBin_8 a b w
  · exact implBin_9 a b w
  · exact implBin_10 a b w
end Go.Proofs.Ytcikofhbfncgdaa
