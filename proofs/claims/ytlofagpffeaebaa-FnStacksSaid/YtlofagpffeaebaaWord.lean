/-
  The plain mathematics of words of 16 bits: what a word is, as a signed one too; the ten ways to reckon; upside down. No condition; nothing of Go.
-/
import Derived.WalkKit
import Derived.Laws.BitsAllLaws
namespace Go.Proofs.Ytlofagpffeaebaa

/-- the word, the signed word -/
def wd (x : Int) : Int := x % 65536
def sg (x : Int) : Int := if x % 65536 < 32768 then x % 65536 else x % 65536 - 65536
def cm (x : Int) : Int := 65535 - x % 65536

theorem wrap_wd (x : Int) : IntKind.u16.wrap x = wd x := by rw [IntKind.wrap_u16]; rfl
theorem wrap_sg (x : Int) : IntKind.i16.wrap x = sg x := by
  unfold sg
  simp only [IntKind.wrap, IntKind.bits, IntKind.signed]
  simp
  repeat' split
  all_goals omega
theorem wd_lo (x : Int) : 0 ≤ wd x := by unfold wd; omega
theorem wd_hi (x : Int) : wd x ≤ 65535 := by unfold wd; omega
theorem sg_lo (x : Int) : -32768 ≤ sg x := by unfold sg; split <;> omega
theorem sg_hi (x : Int) : sg x ≤ 32767 := by unfold sg; split <;> omega
theorem cm_lo (x : Int) : 0 ≤ cm x := by unfold cm; omega
theorem cm_hi (x : Int) : cm x ≤ 65535 := by unfold cm; omega
theorem wd_wd (x : Int) : wd (wd x) = wd x := by unfold wd; omega
theorem wd_sg (x : Int) : wd (sg x) = wd x := by unfold wd sg; split <;> omega
theorem sg_wd (x : Int) : sg (wd x) = sg x := by unfold sg wd; rw [Int.emod_emod_of_dvd _ (Int.dvd_refl _)]
theorem sg_sg (x : Int) : sg (sg x) = sg x := by have := wd_sg x; rw [← sg_wd (sg x), wd_sg, sg_wd]
theorem cm_wd (x : Int) : cm (wd x) = cm x := by unfold cm wd; omega
theorem wd_cm (x : Int) : wd (cm x) = cm x := by unfold cm wd; omega
theorem cm_cm (x : Int) : cm (cm x) = wd x := by unfold cm wd; omega
theorem wd_neg_sg (x : Int) : wd (-(sg x)) = wd (-x) := by unfold wd sg; split <;> omega
theorem wd_add (x y : Int) : wd (wd x + wd y) = wd (x + y) := by unfold wd; omega
theorem wd_sub (x y : Int) : wd (wd x - wd y) = wd (x - y) := by unfold wd; omega
theorem wd_mul (x y : Int) : wd (wd x * wd y) = wd (x * y) := by unfold wd; exact (Int.mul_emod x y 65536).symm
theorem sg_add (x y : Int) : wd (sg x + sg y) = wd (x + y) := by rw [← wd_add, wd_sg, wd_sg, wd_add]
theorem sg_sub (x y : Int) : wd (sg x - sg y) = wd (x - y) := by rw [← wd_sub, wd_sg, wd_sg, wd_sub]
theorem sg_mul (x y : Int) : wd (sg x * sg y) = wd (x * y) := by rw [← wd_mul, wd_sg, wd_sg, wd_mul]
theorem sg_zero (x : Int) : sg x = 0 ↔ wd x = 0 := by unfold sg wd; split <;> omega
theorem sg_same (x y : Int) : sg x = sg y ↔ wd x = wd y := by unfold sg wd; split <;> split <;> omega

/-- what BinaryOf answers: its code, its value -/
def binC (op b : Int) : Int := if op < 1 ∨ 10 < op then 3 else if (op = 4 ∨ op = 5) ∧ wd b = 0 then 4 else 0
def binW (op a b : Int) : Int :=
  if op = 1 then wd (a + b) else if op = 2 then wd (a - b) else if op = 3 then wd (a * b)
  else if op = 4 then wd ((sg a).tdiv (sg b)) else if op = 5 then wd ((sg a).tmod (sg b))
  else if op = 6 then (((wd a).toNat &&& (wd b).toNat : Nat) : Int) else if op = 7 then (((wd a).toNat ||| (wd b).toNat : Nat) : Int) else if op = 8 then (((wd a).toNat ^^^ (wd b).toNat : Nat) : Int)
  else if op = 9 then (if sg a < sg b then 1 else 0) else (if wd a = wd b then 1 else 0)
def binV (op a b : Int) : Int := if binC op b = 0 then binW op a b else 0

theorem binW_wd (op a b : Int) : binW op (wd a) (wd b) = binW op a b := by
  unfold binW
  rw [wd_add, wd_sub, wd_mul, sg_wd, sg_wd, wd_wd, wd_wd]
theorem binC_wd (op b : Int) : binC op (wd b) = binC op b := by unfold binC; rw [wd_wd]
theorem binV_wd (op a b : Int) : binV op (wd a) (wd b) = binV op a b := by unfold binV; rw [binC_wd, binW_wd]

theorem binW_lo (op a b : Int) : 0 ≤ binW op a b := by
  unfold binW
  repeat' split
  all_goals first | exact wd_lo _ | omega
theorem binW_hi (op a b : Int) : binW op a b ≤ 65535 := by
  have h1 : (wd a).toNat < 2 ^ 16 := by have := wd_hi a; omega
  have h2 : (wd b).toNat < 2 ^ 16 := by have := wd_hi b; omega
  have h3 : (wd a).toNat &&& (wd b).toNat < 2 ^ 16 := Nat.and_lt_two_pow _ h2
  have h4 : (wd a).toNat ||| (wd b).toNat < 2 ^ 16 := Nat.or_lt_two_pow h1 h2
  have h5 : (wd a).toNat ^^^ (wd b).toNat < 2 ^ 16 := Nat.xor_lt_two_pow h1 h2
  unfold binW
  repeat' split
  all_goals first | exact wd_hi _ | omega
theorem binV_lo (op a b : Int) : 0 ≤ binV op a b := by unfold binV; split <;> first | exact binW_lo _ _ _ | omega
theorem binV_hi (op a b : Int) : binV op a b ≤ 65535 := by unfold binV; split <;> first | exact binW_hi _ _ _ | omega

/-- a quotient and what it leaves make the word again -/
theorem quo_back (a b : Int) : wd (wd (wd ((sg a).tdiv (sg b)) * b) + wd ((sg a).tmod (sg b))) = wd a := by
  have h1 : wd (wd ((sg a).tdiv (sg b)) * b) = wd ((sg a).tdiv (sg b) * sg b) := by
    rw [← wd_mul, wd_wd, ← wd_sg b, wd_mul]
  rw [h1, wd_add, Int.mul_comm, Int.mul_tdiv_add_tmod, wd_sg]
theorem both_or (x y : Nat) : (x &&& y) + (x ^^^ y) = x ||| y := by
  have h : ∀ n, ∀ x y : Nat, x < 2 ^ n → y < 2 ^ n → (x &&& y) + (x ^^^ y) = x ||| y := by
    intro n
    induction n with
    | zero => intro x y hx hy; rw [show x = 0 from by omega, show y = 0 from by omega]; rfl
    | succ n ih =>
      intro x y hx hy
      have e := ih (x / 2) (y / 2) (by omega) (by omega)
      have a1 := Nat.and_div_two (a := x) (b := y)
      have a2 := Nat.xor_div_two (a := x) (b := y)
      have a3 := Nat.or_div_two (a := x) (b := y)
      have b1 : (x &&& y) % 2 = (x % 2) &&& (y % 2) := by simpa using Nat.and_mod_two_pow (a := x) (b := y) (n := 1)
      have b2 : (x ^^^ y) % 2 = (x % 2) ^^^ (y % 2) := by simpa using Nat.xor_mod_two_pow (a := x) (b := y) (n := 1)
      have b3 : (x ||| y) % 2 = (x % 2) ||| (y % 2) := by simpa using Nat.or_mod_two_pow (a := x) (b := y) (n := 1)
      rw [← a1, ← a2, ← a3] at e
      have c : ((x % 2) &&& (y % 2)) + ((x % 2) ^^^ (y % 2)) = (x % 2) ||| (y % 2) := by
        rcases Nat.mod_two_eq_zero_or_one x with h1 | h1 <;> rcases Nat.mod_two_eq_zero_or_one y with h2 | h2 <;> rw [h1, h2] <;> rfl
      omega
  obtain ⟨n, hn⟩ : ∃ n, x < 2 ^ n ∧ y < 2 ^ n := ⟨x + y, Nat.lt_of_le_of_lt (Nat.le_add_right _ _) Nat.lt_two_pow_self, Nat.lt_of_le_of_lt (Nat.le_add_left _ _) Nat.lt_two_pow_self⟩
  exact h n x y hn.1 hn.2
end Go.Proofs.Ytlofagpffeaebaa
