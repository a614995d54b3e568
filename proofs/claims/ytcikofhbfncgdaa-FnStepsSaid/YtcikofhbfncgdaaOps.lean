/-
  impl.BinaryOf's table of ten function values, and each of these.
-/
import Derived.Test.YtcikofhbfncgdaaIPrg
import Derived.Deep.Cut
import Derived.Test.YtcikofhbfncgdaaReck1
import Derived.Laws.EntriesVeiled
namespace Go.Proofs.Ytcikofhbfncgdaa
open Go.RowKit
set_option linter.unusedVariables false

abbrev ir (c v : Int) : Value := .agg #[.int .i64 c, .int .i64 v]

set_option maxHeartbeats 1600000 in
theorem cellAt_any (f s i : Int) (w : World) (hf0 : 0 ≤ f) (hf1 : f ≤ 65535) (hs0 : 0 ≤ s) (hs1 : s ≤ 65535) :
    Calls Try.prog 158 #[.int .i64 f, .int .i64 s, .int .i64 i] w fun e w' => e = .returned (ir (if inB (sg i) 0 (s - 1) then 0 else 3) (if inB (sg i) 0 (s - 1) then f + sg i else 0)) ∧ Below w.heap.size w w' := by
  have HS : Hid (∀ W, Calls Try.prog 166 #[.int .i64 i] W fun e w' => e = .returned (.int .i64 (sg i)) ∧ w' = W) := implSignedOf i
  have h1 := sg_lo i
  have h2 := sg_hi i
  generalize sg i = k at *
  have HI : Hid (∀ W, Calls Try.prog 67 #[.int .i64 k, .int .i64 0, .int .i64 (s - 1)] W fun e w' => e = .returned (.bool (inB k 0 (s - 1))) ∧ w' = W) := within_any k 0 (s - 1)
  cases hq : inB k 0 (s - 1)
  · rw [hq] at HI
    clear hq
    go_enter Try.func158, Try.ntmps158
    go_wp2_with fail
    refine (HS.out _).mono ?_
    rintro e w1 ⟨rfl, rfl⟩
    go_wp2_with fail
    refine (HI.out _).mono ?_
    rintro e w1 ⟨rfl, rfl⟩
    go_wp2_with fail
    refine bodyPost_ret (v := ir 3 0) (by simp [results, Try.results158, go_sem]) rfl ⟨rfl, ?_⟩
    go_grown
  · rw [hq] at HI
    clear hq
    go_enter Try.func158, Try.ntmps158
    go_wp2_with fail
    refine (HS.out _).mono ?_
    rintro e w1 ⟨rfl, rfl⟩
    go_wp2_with fail
    refine (HI.out _).mono ?_
    rintro e w1 ⟨rfl, rfl⟩
    go_wp2_with fail
    refine bodyPost_ret (v := ir 0 (f + k)) (by simp [results, Try.results158, go_sem]) rfl ⟨rfl, ?_⟩
    go_grown

set_option maxHeartbeats 1600000 in
theorem cell_any (B p : Nat) (m : SM) (u : Int) (w : World) (h : RunI B w p m) (hl : m.cells.length ≤ 80) (hu : 0 ≤ u) :
    Calls Try.prog 128 #[.pointer (some ⟨p, 1, none⟩), .int .i64 u] w fun e w' => e = .returned (ir (cellC m.cells.length u) (cellV m.cells.length u)) ∧ Below w.heap.size w w' := by
  obtain ⟨sv, cv, hb, hm⟩ := h
  obtain ⟨a, c, rfl⟩ := own_shape hm.cs
  have c1 := (RunI.cells (B := B) hb).2.1
  have hp := (Array.getElem?_eq_some_iff.1 hb).1
  have hne := World.new_ne w ⟨p, 1, none⟩ c1
  have HC : Hid (∀ n : Nat, cellC n u = (if u < n then 0 else 1) ∧ cellV n u = (if u < n then u else 0)) := fun n => ⟨rfl, rfl⟩
  clear hm hb
  generalize hn : m.cells.length = n at *
  clear hn
  have HI : Hid (∀ W, Calls Try.prog 67 #[.int .i64 u, .int .i64 0, .int .i64 (n - 1)] W fun e w' => e = .returned (.bool (inB u 0 (n - 1))) ∧ w' = W) := within_any u 0 (n - 1)
  by_cases hlt : u < n
  · have hq : inB u 0 ((n : Int) - 1) = true := inB_iff.2 ⟨hu, by omega⟩
    rw [hq] at HI
    rw [(HC.out n).1, (HC.out n).2, if_pos hlt, if_pos hlt]
    clear hq HC hlt
    go_enter Try.func128, Try.ntmps128
    go_wp2_with fail
    refine (HI.out _).mono ?_
    rintro e w1 ⟨rfl, rfl⟩
    go_wp2_with fail
    refine bodyPost_ret (v := ir 0 u) (by simp [results, Try.results128, go_sem]) rfl ⟨rfl, ?_⟩
    go_grown
  · have hq : inB u 0 ((n : Int) - 1) = false := inB_no.2 (by omega)
    rw [hq] at HI
    rw [(HC.out n).1, (HC.out n).2, if_neg hlt, if_neg hlt]
    clear hq HC hlt
    go_enter Try.func128, Try.ntmps128
    go_wp2_with fail
    refine (HI.out _).mono ?_
    rintro e w1 ⟨rfl, rfl⟩
    go_wp2_with fail
    refine bodyPost_ret (v := ir 1 0) (by simp [results, Try.results128, go_sem]) rfl ⟨rfl, ?_⟩
    go_grown

set_option maxHeartbeats 1600000 in
theorem item_any (B p : Nat) (m : SM) (f s i : Int) (w : World) (h : RunI B w p m) (hl : m.cells.length ≤ 80) (hf0 : 0 ≤ f) (hf1 : f ≤ 65535) (hs0 : 0 ≤ s) (hs1 : s ≤ 65535) :
    Calls Try.prog 129 #[.pointer (some ⟨p, 1, none⟩), .int .i64 f, .int .i64 s, .int .i64 i] w fun e w' => e = .returned (ir (itemC m.cells.length f s i) (itemV m.cells.length f s i)) ∧ Below w.heap.size w w' := by
  have HA : Hid (∀ W, Calls Try.prog 158 #[.int .i64 f, .int .i64 s, .int .i64 i] W fun e w' => e = .returned (ir (if inB (sg i) 0 (s - 1) then 0 else 3) (if inB (sg i) 0 (s - 1) then f + sg i else 0)) ∧ Below W.heap.size W w') := fun W => cellAt_any f s i W hf0 hf1 hs0 hs1
  have h1 := sg_lo i
  have h2 := sg_hi i
  have HE : Hid (∀ n : Nat, (itemC n f s i = if inB (sg i) 0 (s - 1) then (if f + sg i < n then 0 else 1) else 3) ∧ (itemV n f s i = if itemC n f s i = 0 then f + sg i else 0)) := fun n => ⟨rfl, rfl⟩
  have HR : Hid (RunI B w p m) := h
  have hB0 : Below w.heap.size w (w.alloc (.cells #[.int .i64 0, .int .i64 0] 61)) := (Below.refl _ _).alloc (Nat.le_refl _) _
  have hN0 := heap_alloc_new w (.cells #[.int .i64 0, .int .i64 0] 61)
  have HB0 : Hid (Below w.heap.size w (w.alloc (.cells #[.int .i64 0, .int .i64 0] 61))) := hB0
  have HN0 : Hid ((w.alloc (.cells #[.int .i64 0, .int .i64 0] 61)).heap[w.heap.size]? = some (.cells #[.int .i64 0, .int .i64 0] 61 (0, 0))) := hN0
  clear h hB0 hN0
  generalize sg i = k at *
  cases hq : inB k 0 (s - 1)
  · have e3 : Hid (∀ n : Nat, itemC n f s i = 3 ∧ itemV n f s i = 0) := fun n => by
      have e : itemC n f s i = 3 := by rw [(HE.out n).1, hq, if_neg (by simp)]
      exact ⟨e, by rw [(HE.out n).2, e, if_neg (by omega)]⟩
    rw [hq, if_neg (by simp), if_neg (by simp)] at HA
    rw [(e3.out _).1, (e3.out _).2]
    clear HE hq e3
    go_enter Try.func129, Try.ntmps129
    go_wp2_with fail
    generalize w.alloc (.cells #[.int .i64 0, .int .i64 0] 61) = W at *
    refine (HA.out _).mono ?_
    rintro e w1 ⟨rfl, hb⟩
    have hN1 := blk8 HN0.out hb
    have HB1 : Hid (Below w.heap.size w w1) := HB0.out.trans (hb.mono HB0.out.size)
    have hlt : w.heap.size < w1.heap.size := (Array.getElem?_eq_some_iff.1 hN1).1
    clear hb HB0 HN0 HA HR
    go_upto_region 3 with fail
    have a1 := heap_alloc_new w1 (.cells #[.int .i64 3, .int .i64 0] 61)
    have b1 : Below w1.heap.size w1 (w1.alloc (.cells #[.int .i64 3, .int .i64 0] 61)) := (Below.refl _ _).alloc (Nat.le_refl _) _
    have hN2 := blk8 hN1 b1
    have HB2 : Hid (Below w.heap.size w (w1.alloc (.cells #[.int .i64 3, .int .i64 0] 61))) := HB1.out.trans (b1.mono (by omega))
    clear hN1 HB1 b1
    generalize w1.alloc (.cells #[.int .i64 3, .int .i64 0] 61) = W2 at *
    have r0 := cell_of_row _ _ 0 _ _ _ hN2
    have f0 := frozen_of_row _ _ 0 _ _ hN2
    have r1 := cell_of_row _ _ 1 _ _ _ hN2
    have f1 := frozen_of_row _ _ 1 _ _ hN2
    have q0 := cell_of_row _ _ 0 _ _ _ a1
    have q1 := cell_of_row _ _ 1 _ _ _ a1
    simp at r0 r1 f0 f1 q0 q1
    go_wp2_with fail
    refine bodyPost_ret (v := ir 3 0) (by simp [results, Try.results129, go_sem, r0, r1]) rfl ⟨rfl, ?_⟩
    exact (HB2.out.setCell (Nat.le_refl _) _).setCell (Nat.le_refl _) _
  · have hk := inB_iff.1 hq
    rw [hq, if_pos rfl, if_pos rfl] at HA
    have HCE : Hid (∀ n : Nat, itemC n f s i = cellC n (f + k) ∧ itemV n f s i = cellV n (f + k)) := fun n => by
      have e : itemC n f s i = cellC n (f + k) := by rw [(HE.out n).1, hq, if_pos rfl]; rfl
      refine ⟨e, ?_⟩
      rw [(HE.out n).2, e]
      unfold cellC cellV
      by_cases h : f + k < n
      · rw [if_pos h, if_pos rfl, if_pos h]
      · rw [if_neg h, if_neg (by omega), if_neg h]
    rw [(HCE.out _).1, (HCE.out _).2]
    have HCL : Hid (∀ W, RunI B W p m → Calls Try.prog 128 #[.pointer (some ⟨p, 1, none⟩), .int .i64 (f + k)] W fun e w' => e = .returned (ir (cellC m.cells.length (f + k)) (cellV m.cells.length (f + k))) ∧ Below W.heap.size W w') := fun W hr => cell_any B p m (f + k) W hr hl (by omega)
    clear HE hq HCE
    generalize cellC m.cells.length (f + k) = C at *
    generalize cellV m.cells.length (f + k) = V at *
    go_enter Try.func129, Try.ntmps129
    go_wp2_with fail
    generalize w.alloc (.cells #[.int .i64 0, .int .i64 0] 61) = W at *
    refine (HA.out _).mono ?_
    rintro e w1 ⟨rfl, hb⟩
    have hN1 := blk8 HN0.out hb
    have HB1 : Hid (Below w.heap.size w w1) := HB0.out.trans (hb.mono HB0.out.size)
    have HR1 : Hid (RunI B w1 p m) := HR.out.kept HB1.out
    have hlt : w.heap.size < w1.heap.size := (Array.getElem?_eq_some_iff.1 hN1).1
    clear hb HB0 HN0 HA HR
    have a1 := heap_alloc_new w1 (.cells #[.int .i64 0, .int .i64 (f + k)] 61)
    have b1 : Below w1.heap.size w1 (w1.alloc (.cells #[.int .i64 0, .int .i64 (f + k)] 61)) := (Below.refl _ _).alloc (Nat.le_refl _) _
    have HR2 : Hid (RunI B (w1.alloc (.cells #[.int .i64 0, .int .i64 (f + k)] 61)) p m) := HR1.out.kept b1
    have hN2 := blk8 hN1 b1
    have HB2 : Hid (Below w.heap.size w (w1.alloc (.cells #[.int .i64 0, .int .i64 (f + k)] 61))) := HB1.out.trans (b1.mono (by omega))
    clear hN1 HB1 HR1 a1 b1
    go_wp2_with fail
    generalize w1.alloc (.cells #[.int .i64 0, .int .i64 (f + k)] 61) = W2 at *
    refine (HCL.out _ HR2.out).mono ?_
    rintro e w3 ⟨rfl, hb⟩
    have hN3 := blk8 hN2 hb
    have HB3 : Hid (Below w.heap.size w w3) := HB2.out.trans (hb.mono HB2.out.size)
    clear hb HB2 HR2 hN2 HCL
    have r0 := cell_of_row _ _ 0 _ _ _ hN3
    have f0 := frozen_of_row _ _ 0 _ _ hN3
    have r1 := cell_of_row _ _ 1 _ _ _ hN3
    have f1 := frozen_of_row _ _ 1 _ _ hN3
    simp at r0 r1 f0 f1
    go_wp2_with fail
    refine bodyPost_ret (v := ir C V) (by simp [results, Try.results129, go_sem, r0, r1]) rfl ⟨rfl, ?_⟩
    exact (HB3.out.setCell (Nat.le_refl _) _).setCell (Nat.le_refl _) _
end Go.Proofs.Ytcikofhbfncgdaa
namespace Go.Proofs.Ytcikofhbfncgdaa
open Go.RowKit

theorem b16_and (a b : Int) : bits .and .u16 (wd a) (wd b) = (((wd a).toNat &&& (wd b).toNat : Nat) : Int) := by
  have h1 := wd_lo a; have h2 := wd_hi a; have h3 := wd_lo b; have h4 := wd_hi b
  obtain ⟨m, hm⟩ := Int.eq_ofNat_of_zero_le h1
  obtain ⟨n, hn⟩ := Int.eq_ofNat_of_zero_le h3
  rw [hm, hn, u16_and_nat m n (by omega) (by omega)]; rfl
theorem b16_or (a b : Int) : bits .or .u16 (wd a) (wd b) = (((wd a).toNat ||| (wd b).toNat : Nat) : Int) := by
  have h1 := wd_lo a; have h2 := wd_hi a; have h3 := wd_lo b; have h4 := wd_hi b
  obtain ⟨m, hm⟩ := Int.eq_ofNat_of_zero_le h1
  obtain ⟨n, hn⟩ := Int.eq_ofNat_of_zero_le h3
  rw [hm, hn, u16_or_nat m n (by omega) (by omega)]; rfl
theorem b16_xor (a b : Int) : bits .xor .u16 (wd a) (wd b) = (((wd a).toNat ^^^ (wd b).toNat : Nat) : Int) := by
  have h1 := wd_lo a; have h2 := wd_hi a; have h3 := wd_lo b; have h4 := wd_hi b
  obtain ⟨m, hm⟩ := Int.eq_ofNat_of_zero_le h1
  obtain ⟨n, hn⟩ := Int.eq_ofNat_of_zero_le h3
  rw [hm, hn, u16_xor_nat m n (by omega) (by omega)]; rfl

set_option maxHeartbeats 400000 in
theorem divides_yes (op : Int) (h : op = 4 ∨ op = 5) (w : World) : Calls Try.prog 161 #[.int .i64 op] w fun e w' => e = .returned (.bool true) ∧ w' = w := by
  rcases h with rfl | rfl <;> (go_enter Try.func161, Try.ntmps161; go_wp2; go_ret; exact ⟨rfl, rfl⟩)
set_option maxHeartbeats 400000 in
theorem divides_no (op : Int) (h : ¬(op = 4 ∨ op = 5)) (w : World) : Calls Try.prog 161 #[.int .i64 op] w fun e w' => e = .returned (.bool false) ∧ w' = w := by
  have h4 : (op == 4) = false := by simp; omega
  have h5 : (op == 5) = false := by simp; omega
  clear h
  go_enter Try.func161, Try.ntmps161
  go_wp2
  go_ret
  exact ⟨rfl, rfl⟩

/-- what the k-th of the ten answers at two words -/
def Pays (f : Nat) (op : Int) : Prop := ∀ (a b : Int) (w : World), (op = 4 ∨ op = 5 → wd b ≠ 0) → Calls Try.prog f #[.int .u16 (IntKind.u16.wrap a), .int .u16 (IntKind.u16.wrap b)] w fun e w' => e = .returned (.int .u16 (binW op a b)) ∧ w' = w

set_option maxHeartbeats 400000 in
theorem op1_any : Pays 167 1 := by
  intro a b w _
  rw [wrap_wd, wrap_wd]
  go_enter Try.func167, Try.ntmps167
  go_wp2
  go_ret
  refine ⟨ret16 ?_, rfl⟩
  rw [wrap_wd, wd_add]; rfl
set_option maxHeartbeats 400000 in
theorem op2_any : Pays 168 2 := by
  intro a b w _
  rw [wrap_wd, wrap_wd]
  go_enter Try.func168, Try.ntmps168
  go_wp2
  go_ret
  refine ⟨ret16 ?_, rfl⟩
  rw [wrap_wd, wd_sub]; rfl
set_option maxHeartbeats 400000 in
theorem op3_any : Pays 169 3 := by
  intro a b w _
  rw [wrap_wd, wrap_wd]
  go_enter Try.func169, Try.ntmps169
  go_wp2
  go_ret
  refine ⟨ret16 ?_, rfl⟩
  rw [wrap_wd, wd_mul]; rfl
theorem sg_ne (b : Int) (h : wd b ≠ 0) : IntKind.i16.wrap (wd b) ≠ 0 := by rw [wrap_sg, sg_wd]; intro e; exact h ((sg_zero b).1 e)
set_option maxHeartbeats 400000 in
theorem op4_any : Pays 170 4 := by
  intro a b w hz
  rw [wrap_wd, wrap_wd]
  have hb := sg_ne b (hz (.inl rfl))
  clear hz
  go_enter Try.func170, Try.ntmps170
  go_wp2
  go_ret
  refine ⟨ret16 ?_, rfl⟩
  rw [wrap_wd, wrap_sg, wrap_sg, wrap_sg, wd_sg, sg_wd, sg_wd]; rfl
set_option maxHeartbeats 400000 in
theorem op5_any : Pays 171 5 := by
  intro a b w hz
  rw [wrap_wd, wrap_wd]
  have hb := sg_ne b (hz (.inr rfl))
  clear hz
  go_enter Try.func171, Try.ntmps171
  go_wp2
  go_ret
  refine ⟨ret16 ?_, rfl⟩
  rw [wrap_wd, wrap_sg, wrap_sg, sg_wd, sg_wd]; rfl
set_option maxHeartbeats 400000 in
theorem op6_any : Pays 172 6 := by
  intro a b w _
  rw [wrap_wd, wrap_wd]
  go_enter Try.func172, Try.ntmps172
  go_wp2
  go_ret
  refine ⟨ret16 ?_, rfl⟩
  rw [b16_and]; rfl
set_option maxHeartbeats 400000 in
theorem op7_any : Pays 173 7 := by
  intro a b w _
  rw [wrap_wd, wrap_wd]
  go_enter Try.func173, Try.ntmps173
  go_wp2
  go_ret
  refine ⟨ret16 ?_, rfl⟩
  rw [b16_or]; rfl
set_option maxHeartbeats 400000 in
theorem op8_any : Pays 174 8 := by
  intro a b w _
  rw [wrap_wd, wrap_wd]
  go_enter Try.func174, Try.ntmps174
  go_wp2
  go_ret
  refine ⟨ret16 ?_, rfl⟩
  rw [b16_xor]; rfl
set_option maxHeartbeats 400000 in
theorem op9_any : Pays 175 9 := by
  intro a b w _
  rw [wrap_wd, wrap_wd]
  go_enter Try.func175, Try.ntmps175
  go_wp2_with fail
  refine (oneIf_any _ _).mono ?_
  rintro e w1 ⟨rfl, rfl⟩
  go_wp2
  · go_ret
    refine ⟨ret16 ?_, rfl⟩
    rw [wrap_sg, wrap_sg, sg_wd, sg_wd] at h
    exact (if_pos h).symm
  · go_ret
    refine ⟨ret16 ?_, rfl⟩
    rw [wrap_sg, wrap_sg, sg_wd, sg_wd] at h
    exact (if_neg (Int.not_lt.2 h)).symm
set_option maxHeartbeats 400000 in
theorem op10_any : Pays 176 10 := by
  intro a b w _
  rw [wrap_wd, wrap_wd]
  go_enter Try.func176, Try.ntmps176
  go_wp2_with fail
  refine (oneIf_any _ _).mono ?_
  rintro e w1 ⟨rfl, rfl⟩
  go_wp2
  · go_ret
    refine ⟨ret16 ?_, rfl⟩
    exact (if_pos h).symm
  · go_ret
    refine ⟨ret16 ?_, rfl⟩
    exact (if_neg h).symm

/-- the table -/
abbrev fnv (k : Nat) : Value := .func (.func k) #[] #[]
abbrev tbl : Value := .agg #[.nilFunc, fnv 167, fnv 168, fnv 169, fnv 170, fnv 171, fnv 172, fnv 173, fnv 174, fnv 175, fnv 176]
set_option maxHeartbeats 800000 in
theorem wordOps_any (w : World) : Calls Try.prog 162 #[] w fun e w' => e = .returned tbl ∧ Below w.heap.size w w' := by
  go_enter Try.func162, Try.ntmps162
  go_wp2
  refine bodyPost_ret (v := tbl) (by simp [results, Try.results162, go_sem]) rfl ⟨rfl, ?_⟩
  go_grown
end Go.Proofs.Ytcikofhbfncgdaa
