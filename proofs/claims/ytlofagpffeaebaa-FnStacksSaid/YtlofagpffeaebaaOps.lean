/-
  impl.BinaryOf's table of ten function values, and each of these.
-/
import Derived.Test.YtlofagpffeaebaaReck0
import Derived.Laws.EntriesVeiled
namespace Go.Proofs.Ytlofagpffeaebaa
open Go.RowKit

theorem b16_and (a b : Int) : bits .and .u16 (wd a) (wd b) = (((wd a).toNat &&& (wd b).toNat : Nat) : Int) := by
  have h1 := wd_lo a; have h2 := wd_hi a; have h3 := wd_lo b; have h4 := wd_hi b
  obtain ⟨m, hm⟩ := Int.eq_ofNat_of_zero_le h1
  obtain ⟨n, hn⟩ := Int.eq_ofNat_of_zero_le h3
  rw [hm, hn, u16_and_nat m n (by omega) (by omega)]; rfl
theorem b16_or (a b : Int) : bits .or .u16 (wd a) (wd b) = (((wd a).toNat ||| (wd b).toNat : Nat) : Int) := by
  have h1 := wd_lo a; have h2 := wd_hi a; have h3 := wd_lo b; have h4 := wd_hi b
  obtain ⟨m, hm⟩ := Int.eq_ofNat_of_zero_le h1
  obtain ⟨n, hn⟩ := Int.eq_ofNat_of_zero_le h3
  rw [hm, hn, u16_or_nat m n (by omega) (by omega)]; rfl
theorem b16_xor (a b : Int) : bits .xor .u16 (wd a) (wd b) = (((wd a).toNat ^^^ (wd b).toNat : Nat) : Int) := by
  have h1 := wd_lo a; have h2 := wd_hi a; have h3 := wd_lo b; have h4 := wd_hi b
  obtain ⟨m, hm⟩ := Int.eq_ofNat_of_zero_le h1
  obtain ⟨n, hn⟩ := Int.eq_ofNat_of_zero_le h3
  rw [hm, hn, u16_xor_nat m n (by omega) (by omega)]; rfl

set_option maxHeartbeats 400000 in
theorem divides_yes (op : Int) (h : op = 4 ∨ op = 5) (w : World) : Calls Try.prog 119 #[.int .i64 op] w fun e w' => e = .returned (.bool true) ∧ w' = w := by
  rcases h with rfl | rfl <;> (go_enter Try.func119, Try.ntmps119; go_wp2; go_ret; exact ⟨rfl, rfl⟩)
set_option maxHeartbeats 400000 in
theorem divides_no (op : Int) (h : ¬(op = 4 ∨ op = 5)) (w : World) : Calls Try.prog 119 #[.int .i64 op] w fun e w' => e = .returned (.bool false) ∧ w' = w := by
  have h4 : (op == 4) = false := by simp; omega
  have h5 : (op == 5) = false := by simp; omega
  clear h
  go_enter Try.func119, Try.ntmps119
  go_wp2
  go_ret
  exact ⟨rfl, rfl⟩

/-- what the k-th of the ten answers at two words -/
def Pays (f : Nat) (op : Int) : Prop := ∀ (a b : Int) (w : World), (op = 4 ∨ op = 5 → wd b ≠ 0) → Calls Try.prog f #[.int .u16 (IntKind.u16.wrap a), .int .u16 (IntKind.u16.wrap b)] w fun e w' => e = .returned (.int .u16 (binW op a b)) ∧ w' = w

set_option maxHeartbeats 400000 in
theorem op1_any : Pays 133 1 := by
  intro a b w _
  rw [wrap_wd, wrap_wd]
  go_enter Try.func133, Try.ntmps133
  go_wp2
  go_ret
  refine ⟨ret16 ?_, rfl⟩
  rw [wrap_wd, wd_add]; rfl
set_option maxHeartbeats 400000 in
theorem op2_any : Pays 134 2 := by
  intro a b w _
  rw [wrap_wd, wrap_wd]
  go_enter Try.func134, Try.ntmps134
  go_wp2
  go_ret
  refine ⟨ret16 ?_, rfl⟩
  rw [wrap_wd, wd_sub]; rfl
set_option maxHeartbeats 400000 in
theorem op3_any : Pays 135 3 := by
  intro a b w _
  rw [wrap_wd, wrap_wd]
  go_enter Try.func135, Try.ntmps135
  go_wp2
  go_ret
  refine ⟨ret16 ?_, rfl⟩
  rw [wrap_wd, wd_mul]; rfl
theorem sg_ne (b : Int) (h : wd b ≠ 0) : IntKind.i16.wrap (wd b) ≠ 0 := by rw [wrap_sg, sg_wd]; intro e; exact h ((sg_zero b).1 e)
set_option maxHeartbeats 400000 in
theorem op4_any : Pays 136 4 := by
  intro a b w hz
  rw [wrap_wd, wrap_wd]
  have hb := sg_ne b (hz (.inl rfl))
  clear hz
  go_enter Try.func136, Try.ntmps136
  go_wp2
  go_ret
  refine ⟨ret16 ?_, rfl⟩
  rw [wrap_wd, wrap_sg, wrap_sg, wrap_sg, wd_sg, sg_wd, sg_wd]; rfl
set_option maxHeartbeats 400000 in
theorem op5_any : Pays 137 5 := by
  intro a b w hz
  rw [wrap_wd, wrap_wd]
  have hb := sg_ne b (hz (.inr rfl))
  clear hz
  go_enter Try.func137, Try.ntmps137
  go_wp2
  go_ret
  refine ⟨ret16 ?_, rfl⟩
  rw [wrap_wd, wrap_sg, wrap_sg, sg_wd, sg_wd]; rfl
set_option maxHeartbeats 400000 in
theorem op6_any : Pays 138 6 := by
  intro a b w _
  rw [wrap_wd, wrap_wd]
  go_enter Try.func138, Try.ntmps138
  go_wp2
  go_ret
  refine ⟨ret16 ?_, rfl⟩
  rw [b16_and]; rfl
set_option maxHeartbeats 400000 in
theorem op7_any : Pays 139 7 := by
  intro a b w _
  rw [wrap_wd, wrap_wd]
  go_enter Try.func139, Try.ntmps139
  go_wp2
  go_ret
  refine ⟨ret16 ?_, rfl⟩
  rw [b16_or]; rfl
set_option maxHeartbeats 400000 in
theorem op8_any : Pays 140 8 := by
  intro a b w _
  rw [wrap_wd, wrap_wd]
  go_enter Try.func140, Try.ntmps140
  go_wp2
  go_ret
  refine ⟨ret16 ?_, rfl⟩
  rw [b16_xor]; rfl
set_option maxHeartbeats 400000 in
theorem op9_any : Pays 141 9 := by
  intro a b w _
  rw [wrap_wd, wrap_wd]
  go_enter Try.func141, Try.ntmps141
  go_wp2_with fail
  refine (oneIf_any _ _).mono ?_
  rintro e w1 ⟨rfl, rfl⟩
  go_wp2
  · go_ret
    refine ⟨ret16 ?_, rfl⟩
    rw [wrap_sg, wrap_sg, sg_wd, sg_wd] at h
    exact (if_pos h).symm
  · go_ret
    refine ⟨ret16 ?_, rfl⟩
    rw [wrap_sg, wrap_sg, sg_wd, sg_wd] at h
    exact (if_neg (Int.not_lt.2 h)).symm
set_option maxHeartbeats 400000 in
theorem op10_any : Pays 142 10 := by
  intro a b w _
  rw [wrap_wd, wrap_wd]
  go_enter Try.func142, Try.ntmps142
  go_wp2_with fail
  refine (oneIf_any _ _).mono ?_
  rintro e w1 ⟨rfl, rfl⟩
  go_wp2
  · go_ret
    refine ⟨ret16 ?_, rfl⟩
    exact (if_pos h).symm
  · go_ret
    refine ⟨ret16 ?_, rfl⟩
    exact (if_neg h).symm

/-- the table -/
abbrev fnv (k : Nat) : Value := .func (.func k) #[] #[]
abbrev tbl : Value := .agg #[.nilFunc, fnv 133, fnv 134, fnv 135, fnv 136, fnv 137, fnv 138, fnv 139, fnv 140, fnv 141, fnv 142]
set_option maxHeartbeats 800000 in
theorem wordOps_any (w : World) : Calls Try.prog 121 #[] w fun e w' => e = .returned tbl ∧ Below w.heap.size w w' := by
  go_enter Try.func121, Try.ntmps121
  go_wp2
  refine bodyPost_ret (v := tbl) (by simp [results, Try.results121, go_sem]) rfl ⟨rfl, ?_⟩
  go_grown
end Go.Proofs.Ytlofagpffeaebaa
