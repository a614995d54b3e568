/-
  impl and spec: NegOf, NotOf.
-/
import Derived.WalkKit
import Derived.Laws.Strings2
import Derived.Laws.Strings3
import Derived.Laws.Concat
import Derived.Test.YtcikofhbfncgdaaBase
import Derived.Laws.BitsAllLaws
namespace Go.Proofs.Ytcikofhbfncgdaa

/-- a text of bytes; its byte at a place -/
def bs (l : List UInt8) : ByteArray := ⟨l.toArray⟩
def ch (l : List UInt8) (k : Nat) : UInt8 := l.getD k 0

theorem bs_toList (l : List UInt8) : (bs l).toList = l := ByteArray.toList_mk l
theorem bs_size (l : List UInt8) : (bs l).size = l.length := rfl
theorem bs_get (l : List UInt8) (k : Nat) (h : k < (bs l).size) : (bs l)[k]'h = ch l k := by
  have h' : k < l.length := by rw [bs_size] at h; exact h
  show l.toArray[k] = l.getD k 0
  rw [List.getD_eq_getElem?_getD, List.getElem?_eq_getElem h']
  simp
theorem bs_extract (l : List UInt8) (a b : Nat) : (bs l).extract a b = bs ((l.drop a).take (b - a)) := ByteArray.extract_mk l a b
theorem bs_append (a b : List UInt8) : bs a ++ bs b = bs (a ++ b) := ByteArray.mk_append_mk a b
theorem bs_eq (a b : List UInt8) : ((bs a).toList == (bs b).toList) = (a == b) := by rw [bs_toList, bs_toList]
theorem bs_of (s : ByteArray) : s = bs s.data.toList := by cases s; rfl
theorem bs_inj {a b : List UInt8} (h : bs a = bs b) : a = b := by have := congrArg ByteArray.toList h; rwa [bs_toList, bs_toList] at this
theorem ch_lo (l : List UInt8) (k : Nat) : (0 : Int) ≤ ((ch l k).toNat : Int) := by omega
theorem ch_hi (l : List UInt8) (k : Nat) : ((ch l k).toNat : Int) ≤ 255 := by have := (ch l k).toNat_lt; omega
theorem ch_cons (c : UInt8) (l : List UInt8) : ch (c :: l) 0 = c := rfl
theorem ch_drop (l : List UInt8) (p k : Nat) : ch (l.drop p) k = ch l (p + k) := by unfold ch; simp [List.getD_eq_getElem?_getD]
theorem ch_get (l : List UInt8) (k : Nat) (h : k < l.length) : ch l k = l[k] := by unfold ch; rw [List.getD_eq_getElem?_getD, List.getElem?_eq_getElem h]; rfl
theorem drop_at (l : List UInt8) (k : Nat) (h : k < l.length) : l.drop k = ch l k :: l.drop (k + 1) := by rw [List.drop_eq_getElem_cons h, ch_get l k h]
theorem take_at (l : List UInt8) (k : Nat) (h : k < l.length) : l.take (k + 1) = l.take k ++ [ch l k] := by rw [List.take_succ_eq_append_getElem h, ch_get l k h]
end Go.Proofs.Ytcikofhbfncgdaa
namespace Go.Proofs.Ytcikofhbfncgdaa
open Go.RowKit
set_option linter.unusedVariables false

def inB (z a b : Int) : Bool := decide (a ≤ z) && decide (z ≤ b)
theorem inB_iff {z a b : Int} : inB z a b = true ↔ a ≤ z ∧ z ≤ b := by simp [inB]
theorem inB_no {z a b : Int} : inB z a b = false ↔ ¬ (a ≤ z ∧ z ≤ b) := by rw [← inB_iff]; cases inB z a b <;> simp

set_option maxHeartbeats 800000 in
theorem l1In_any (z a b : Int) (w : World) :
    Calls Try.prog 71 #[.int .i64 z, .int .i64 a, .int .i64 b] w fun e w' => e = .returned (.bool (inB z a b)) ∧ w' = w := by
  by_cases h1 : a ≤ z
  · by_cases h2 : z ≤ b
    · have e : inB z a b = true := inB_iff.2 ⟨h1, h2⟩
      rw [e]
      go_enter Try.func71, Try.ntmps71
      go_wp2
      go_ret
      exact ⟨rfl, rfl⟩
    · have e : inB z a b = false := inB_no.2 (fun h => h2 h.2)
      rw [e]
      go_enter Try.func71, Try.ntmps71
      go_wp2
      go_ret
      exact ⟨rfl, rfl⟩
  · have e : inB z a b = false := inB_no.2 (fun h => h1 h.1)
    rw [e]
    go_enter Try.func71, Try.ntmps71
    go_wp2
    go_ret
    exact ⟨rfl, rfl⟩

set_option maxHeartbeats 800000 in
theorem l1Word_any (z : Int) (w : World) : Calls Try.prog 82 #[.int .i64 z] w fun e w' => e = .returned (.bool (inB z 0 65535)) ∧ w' = w := by
  have H : Hid (∀ w, Calls Try.prog 71 #[.int .i64 z, .int .i64 0, .int .i64 65535] w fun e w' => e = .returned (.bool (inB z 0 65535)) ∧ w' = w) := fun w => l1In_any z 0 65535 w
  go_enter Try.func82, Try.ntmps82
  go_wp2_with fail
  refine (H.out _).mono ?_
  rintro e w' ⟨rfl, rfl⟩
  go_wp2_with fail
  go_ret
  exact ⟨rfl, rfl⟩
end Go.Proofs.Ytcikofhbfncgdaa
namespace Go.Proofs.Ytcikofhbfncgdaa
open Go.RowKit
set_option linter.unusedVariables false

def b01 (b : Bool) : Int := if b then 1 else 0
def wordsB (zs : List Int) : Bool := zs.all (fun z => inB z 0 65535)
theorem wordsB_mem {zs : List Int} (h : wordsB zs = true) {z : Int} (hz : z ∈ zs) : 0 ≤ z ∧ z ≤ 65535 := by
  unfold wordsB at h
  rw [List.all_eq_true] at h
  exact inB_iff.1 (h z hz)
theorem wordsB_ok {zs : List Int} (h : ∀ j, j < zs.length → 0 ≤ zs.getD j 0 ∧ zs.getD j 0 ≤ 65535) : wordsB zs = true := by
  unfold wordsB
  rw [List.all_eq_true]
  intro z hz
  obtain ⟨i, hi, rfl⟩ := List.getElem_of_mem hz
  have := h i hi
  rw [List.getD_eq_getElem?_getD, List.getElem?_eq_getElem hi] at this
  exact inB_iff.2 this
theorem wordsB_bad {zs : List Int} (i : Nat) (hi : i < zs.length) (h : zs.getD i 0 < 0 ∨ 65535 < zs.getD i 0) : wordsB zs = false := by
  cases hw : wordsB zs with
  | false => rfl
  | true =>
    have hm : zs.getD i 0 ∈ zs := by rw [List.getD_eq_getElem?_getD, List.getElem?_eq_getElem hi]; simp
    have := wordsB_mem hw hm
    omega
theorem wordsB_get {zs : List Int} (h : wordsB zs = true) {i : Nat} (hi : i < zs.length) : 0 ≤ zs.getD i 0 ∧ zs.getD i 0 ≤ 65535 :=
  wordsB_mem h (by rw [List.getD_eq_getElem?_getD, List.getElem?_eq_getElem hi]; simp)
theorem wordsB_take {zs : List Int} (h : wordsB zs = true) (n : Nat) : wordsB (zs.take n) = true := by
  unfold wordsB at *
  rw [List.all_eq_true] at *
  exact fun z hz => h z (List.mem_of_mem_take hz)
theorem wordsB_snoc {zs : List Int} (h : wordsB zs = true) {z : Int} (h0 : 0 ≤ z) (h1 : z ≤ 65535) : wordsB (zs ++ [z]) = true := by
  unfold wordsB at *
  rw [List.all_append, h]
  simp [inB, h0, h1]
theorem wordsB_set {zs : List Int} (h : wordsB zs = true) {z : Int} (i : Nat) (h0 : 0 ≤ z) (h1 : z ≤ 65535) : wordsB (zs.set i z) = true := by
  unfold wordsB at *
  rw [List.all_eq_true] at *
  intro x hx
  rcases List.mem_or_eq_of_mem_set hx with hx | rfl
  · exact h x hx
  · exact inB_iff.2 ⟨h0, h1⟩
/-- all of the first n rows -/
def allB (Z : Nat → List Int) (n : Nat) : Bool := (List.range n).all (fun i => wordsB (Z i))
theorem allB_ok {Z : Nat → List Int} {n : Nat} (h : ∀ i, i < n → wordsB (Z i) = true) : allB Z n = true := by
  unfold allB
  rw [List.all_eq_true]
  exact fun i hi => h i (List.mem_range.1 hi)
theorem allB_bad {Z : Nat → List Int} {n : Nat} (i : Nat) (hi : i < n) (h : wordsB (Z i) = false) : allB Z n = false := by
  cases hw : allB Z n with
  | false => rfl
  | true =>
    unfold allB at hw
    rw [List.all_eq_true] at hw
    rw [hw i (List.mem_range.2 hi)] at h
    cases h
theorem allB_one (Z : Nat → List Int) : allB Z 1 = wordsB (Z 0) := by
  unfold allB; simp [List.range_succ]
theorem allB_three (Z : Nat → List Int) : allB Z 3 = (wordsB (Z 0) && wordsB (Z 1) && wordsB (Z 2)) := by
  unfold allB; simp [List.range_succ, Bool.and_assoc]
end Go.Proofs.Ytcikofhbfncgdaa
namespace Go.Proofs.Ytcikofhbfncgdaa

/-- the word, the signed word -/
def wd (x : Int) : Int := x % 65536
def sg (x : Int) : Int := if x % 65536 < 32768 then x % 65536 else x % 65536 - 65536
def cm (x : Int) : Int := 65535 - x % 65536

theorem wrap_wd (x : Int) : IntKind.u16.wrap x = wd x := by rw [IntKind.wrap_u16]; rfl
theorem wrap_sg (x : Int) : IntKind.i16.wrap x = sg x := by
  unfold sg
  simp only [IntKind.wrap, IntKind.bits, IntKind.signed]
  simp
  repeat' split
  all_goals omega
theorem wd_lo (x : Int) : 0 ≤ wd x := by unfold wd; omega
theorem wd_hi (x : Int) : wd x ≤ 65535 := by unfold wd; omega
theorem sg_lo (x : Int) : -32768 ≤ sg x := by unfold sg; split <;> omega
theorem sg_hi (x : Int) : sg x ≤ 32767 := by unfold sg; split <;> omega
theorem cm_lo (x : Int) : 0 ≤ cm x := by unfold cm; omega
theorem cm_hi (x : Int) : cm x ≤ 65535 := by unfold cm; omega
theorem wd_wd (x : Int) : wd (wd x) = wd x := by unfold wd; omega
theorem wd_sg (x : Int) : wd (sg x) = wd x := by unfold wd sg; split <;> omega
theorem sg_wd (x : Int) : sg (wd x) = sg x := by unfold sg wd; rw [Int.emod_emod_of_dvd _ (Int.dvd_refl _)]
theorem sg_sg (x : Int) : sg (sg x) = sg x := by have := wd_sg x; rw [← sg_wd (sg x), wd_sg, sg_wd]
theorem cm_wd (x : Int) : cm (wd x) = cm x := by unfold cm wd; omega
theorem wd_cm (x : Int) : wd (cm x) = cm x := by unfold cm wd; omega
theorem cm_cm (x : Int) : cm (cm x) = wd x := by unfold cm wd; omega
theorem wd_neg_sg (x : Int) : wd (-(sg x)) = wd (-x) := by unfold wd sg; split <;> omega
theorem wd_add (x y : Int) : wd (wd x + wd y) = wd (x + y) := by unfold wd; omega
theorem wd_sub (x y : Int) : wd (wd x - wd y) = wd (x - y) := by unfold wd; omega
theorem wd_mul (x y : Int) : wd (wd x * wd y) = wd (x * y) := by unfold wd; exact (Int.mul_emod x y 65536).symm
theorem sg_add (x y : Int) : wd (sg x + sg y) = wd (x + y) := by rw [← wd_add, wd_sg, wd_sg, wd_add]
theorem sg_sub (x y : Int) : wd (sg x - sg y) = wd (x - y) := by rw [← wd_sub, wd_sg, wd_sg, wd_sub]
theorem sg_mul (x y : Int) : wd (sg x * sg y) = wd (x * y) := by rw [← wd_mul, wd_sg, wd_sg, wd_mul]
theorem sg_zero (x : Int) : sg x = 0 ↔ wd x = 0 := by unfold sg wd; split <;> omega
theorem sg_same (x y : Int) : sg x = sg y ↔ wd x = wd y := by unfold sg wd; split <;> split <;> omega

/-- what BinaryOf answers: its code, its value -/
def binC (op b : Int) : Int := if op < 1 ∨ 10 < op then 3 else if (op = 4 ∨ op = 5) ∧ wd b = 0 then 4 else 0
def binW (op a b : Int) : Int :=
  if op = 1 then wd (a + b) else if op = 2 then wd (a - b) else if op = 3 then wd (a * b)
  else if op = 4 then wd ((sg a).tdiv (sg b)) else if op = 5 then wd ((sg a).tmod (sg b))
  else if op = 6 then (((wd a).toNat &&& (wd b).toNat : Nat) : Int) else if op = 7 then (((wd a).toNat ||| (wd b).toNat : Nat) : Int) else if op = 8 then (((wd a).toNat ^^^ (wd b).toNat : Nat) : Int)
  else if op = 9 then (if sg a < sg b then 1 else 0) else (if wd a = wd b then 1 else 0)
def binV (op a b : Int) : Int := if binC op b = 0 then binW op a b else 0

theorem binW_wd (op a b : Int) : binW op (wd a) (wd b) = binW op a b := by
  unfold binW
  rw [wd_add, wd_sub, wd_mul, sg_wd, sg_wd, wd_wd, wd_wd]
theorem binC_wd (op b : Int) : binC op (wd b) = binC op b := by unfold binC; rw [wd_wd]
theorem binV_wd (op a b : Int) : binV op (wd a) (wd b) = binV op a b := by unfold binV; rw [binC_wd, binW_wd]

theorem binW_lo (op a b : Int) : 0 ≤ binW op a b := by
  unfold binW
  repeat' split
  all_goals first | exact wd_lo _ | omega
theorem binW_hi (op a b : Int) : binW op a b ≤ 65535 := by
  have h1 : (wd a).toNat < 2 ^ 16 := by have := wd_hi a; omega
  have h2 : (wd b).toNat < 2 ^ 16 := by have := wd_hi b; omega
  have h3 : (wd a).toNat &&& (wd b).toNat < 2 ^ 16 := Nat.and_lt_two_pow _ h2
  have h4 : (wd a).toNat ||| (wd b).toNat < 2 ^ 16 := Nat.or_lt_two_pow h1 h2
  have h5 : (wd a).toNat ^^^ (wd b).toNat < 2 ^ 16 := Nat.xor_lt_two_pow h1 h2
  unfold binW
  repeat' split
  all_goals first | exact wd_hi _ | omega
theorem binV_lo (op a b : Int) : 0 ≤ binV op a b := by unfold binV; split <;> first | exact binW_lo _ _ _ | omega
theorem binV_hi (op a b : Int) : binV op a b ≤ 65535 := by unfold binV; split <;> first | exact binW_hi _ _ _ | omega

/-- a quotient and what it leaves make the word again -/
theorem quo_back (a b : Int) : wd (wd (wd ((sg a).tdiv (sg b)) * b) + wd ((sg a).tmod (sg b))) = wd a := by
  have h1 : wd (wd ((sg a).tdiv (sg b)) * b) = wd ((sg a).tdiv (sg b) * sg b) := by
    rw [← wd_mul, wd_wd, ← wd_sg b, wd_mul]
  rw [h1, wd_add, Int.mul_comm, Int.mul_tdiv_add_tmod, wd_sg]
theorem both_or (x y : Nat) : (x &&& y) + (x ^^^ y) = x ||| y := by
  have h : ∀ n, ∀ x y : Nat, x < 2 ^ n → y < 2 ^ n → (x &&& y) + (x ^^^ y) = x ||| y := by
    intro n
    induction n with
    | zero => intro x y hx hy; rw [show x = 0 from by omega, show y = 0 from by omega]; rfl
    | succ n ih =>
      intro x y hx hy
      have e := ih (x / 2) (y / 2) (by omega) (by omega)
      have a1 := Nat.and_div_two (a := x) (b := y)
      have a2 := Nat.xor_div_two (a := x) (b := y)
      have a3 := Nat.or_div_two (a := x) (b := y)
      have b1 : (x &&& y) % 2 = (x % 2) &&& (y % 2) := by simpa using Nat.and_mod_two_pow (a := x) (b := y) (n := 1)
      have b2 : (x ^^^ y) % 2 = (x % 2) ^^^ (y % 2) := by simpa using Nat.xor_mod_two_pow (a := x) (b := y) (n := 1)
      have b3 : (x ||| y) % 2 = (x % 2) ||| (y % 2) := by simpa using Nat.or_mod_two_pow (a := x) (b := y) (n := 1)
      rw [← a1, ← a2, ← a3] at e
      have c : ((x % 2) &&& (y % 2)) + ((x % 2) ^^^ (y % 2)) = (x % 2) ||| (y % 2) := by
        rcases Nat.mod_two_eq_zero_or_one x with h1 | h1 <;> rcases Nat.mod_two_eq_zero_or_one y with h2 | h2 <;> rw [h1, h2] <;> rfl
      omega
  obtain ⟨n, hn⟩ : ∃ n, x < 2 ^ n ∧ y < 2 ^ n := ⟨x + y, Nat.lt_of_le_of_lt (Nat.le_add_right _ _) Nat.lt_two_pow_self, Nat.lt_of_le_of_lt (Nat.le_add_left _ _) Nat.lt_two_pow_self⟩
  exact h n x y hn.1 hn.2
end Go.Proofs.Ytcikofhbfncgdaa
namespace Go.Proofs.Ytcikofhbfncgdaa
open Go.RowKit

theorem ret64 {a b : Int} (h : a = b) : Ending.returned (.int .i64 a) = Ending.returned (.int .i64 b) := by rw [h]
theorem ret16 {a b : Int} (h : a = b) : Ending.returned (.int .u16 a) = Ending.returned (.int .u16 b) := by rw [h]
theorem w64_wd (x : Int) : wrap64 (wd x) = wd x := by have := wd_lo x; have := wd_hi x; unfold wrap64; omega
theorem w64_sg (x : Int) : wrap64 (sg x) = sg x := by have := sg_lo x; have := sg_hi x; unfold wrap64; omega
set_option maxHeartbeats 400000 in
theorem implWordOf (x : Int) (w : World) : Calls Try.prog 160 #[.int .i64 x] w fun e w' => e = .returned (.int .i64 (wd x)) ∧ w' = w := by
  go_enter Try.func160, Try.ntmps160
  go_wp2
  go_ret
  refine ⟨ret64 ?_, rfl⟩
  rw [wrap_wd, w64_wd]
set_option maxHeartbeats 400000 in
theorem specWordOf (x : Int) (w : World) : Calls Try.prog 151 #[.int .i64 x] w fun e w' => e = .returned (.int .i64 (wd x)) ∧ w' = w := by
  go_enter Try.func151, Try.ntmps151
  go_wp2
  go_ret
  refine ⟨ret64 ?_, rfl⟩
  rw [wrap_wd, w64_wd]
set_option maxHeartbeats 400000 in
theorem implSignedOf (x : Int) (w : World) : Calls Try.prog 166 #[.int .i64 x] w fun e w' => e = .returned (.int .i64 (sg x)) ∧ w' = w := by
  go_enter Try.func166, Try.ntmps166
  go_wp2
  go_ret
  refine ⟨ret64 ?_, rfl⟩
  rw [wrap_sg, w64_sg]
set_option maxHeartbeats 400000 in
theorem specSignedOf (x : Int) (w : World) : Calls Try.prog 163 #[.int .i64 x] w fun e w' => e = .returned (.int .i64 (sg x)) ∧ w' = w := by
  go_enter Try.func163, Try.ntmps163
  go_wp2
  go_ret
  refine ⟨ret64 ?_, rfl⟩
  rw [wrap_sg, wrap_wd, sg_wd, w64_sg]
set_option maxHeartbeats 400000 in
theorem oneIf_any (b : Bool) (w : World) : Calls Try.prog 159 #[.bool b] w fun e w' => e = .returned (.int .u16 (if b then 1 else 0)) ∧ w' = w := by
  cases b <;> (go_enter Try.func159, Try.ntmps159; go_wp2; go_ret; exact ⟨rfl, rfl⟩)
set_option maxHeartbeats 400000 in
theorem l2Bit_any (b : Bool) (w : World) : Calls Try.prog 165 #[.bool b] w fun e w' => e = .returned (.int .i64 (if b then 1 else 0)) ∧ w' = w := by
  cases b <;> (go_enter Try.func165, Try.ntmps165; go_wp2; go_ret; exact ⟨rfl, rfl⟩)
end Go.Proofs.Ytcikofhbfncgdaa
namespace Go.Proofs.Ytcikofhbfncgdaa
open Go.RowKit
theorem neg_wd (x : Int) : wd (-(wd x)) = wd (-x) := by unfold wd; omega
def nt (x : Int) : Int := if wd x = 0 then 1 else 0

set_option maxHeartbeats 400000 in
theorem implNegOf (x : Int) (w : World) : Calls Try.prog 135 #[.int .i64 x] w fun e w' => e = .returned (.int .i64 (wd (-x))) ∧ w' = w := by
  go_enter Try.func135, Try.ntmps135
  go_wp2
  go_ret
  refine ⟨ret64 ?_, rfl⟩
  rw [wrap_wd, wrap_wd, neg_wd, w64_wd]
set_option maxHeartbeats 400000 in
theorem specNegOf (x : Int) (w : World) : Calls Try.prog 148 #[.int .i64 x] w fun e w' => e = .returned (.int .i64 (wd (-x))) ∧ w' = w := by
  have h1 := sg_lo x
  have h2 := sg_hi x
  go_enter Try.func148, Try.ntmps148
  go_wp2_with fail
  refine (specSignedOf _ _).mono ?_
  rintro e w1 ⟨rfl, rfl⟩
  go_wp2_with fail
  refine (specWordOf _ _).mono ?_
  rintro e w1 ⟨rfl, rfl⟩
  go_wp2
  go_ret
  refine ⟨ret64 ?_, rfl⟩
  exact wd_neg_sg x
set_option maxHeartbeats 400000 in
theorem implNotOf (x : Int) (w : World) : Calls Try.prog 136 #[.int .i64 x] w fun e w' => e = .returned (.int .i64 (nt x)) ∧ w' = w := by
  go_enter Try.func136, Try.ntmps136
  go_wp2_with fail
  refine (oneIf_any _ _).mono ?_
  rintro e w1 ⟨rfl, rfl⟩
  go_wp2
  · go_ret
    refine ⟨ret64 ?_, rfl⟩
    rw [wrap_wd] at h
    exact (if_pos h).symm
  · go_ret
    refine ⟨ret64 ?_, rfl⟩
    rw [wrap_wd] at h
    exact (if_neg h).symm
set_option maxHeartbeats 400000 in
theorem specNotOf (x : Int) (w : World) : Calls Try.prog 149 #[.int .i64 x] w fun e w' => e = .returned (.int .i64 (nt x)) ∧ w' = w := by
  by_cases h : wd x = 0
  · have hn : nt x = 1 := if_pos h
    rw [hn]
    have hb : (wd x == 0) = true := by rw [h]; rfl
    go_enter Try.func149, Try.ntmps149
    go_wp2_with fail
    refine (specWordOf _ _).mono ?_
    rintro e w1 ⟨rfl, rfl⟩
    go_wp2
    go_ret
    exact ⟨rfl, rfl⟩
  · have hn : nt x = 0 := if_neg h
    rw [hn]
    have hb : (wd x == 0) = false := by simpa using h
    go_enter Try.func149, Try.ntmps149
    go_wp2_with fail
    refine (specWordOf _ _).mono ?_
    rintro e w1 ⟨rfl, rfl⟩
    go_wp2
    go_ret
    exact ⟨rfl, rfl⟩
end Go.Proofs.Ytcikofhbfncgdaa
