/-
  The plain mathematics of the sum of 16 bits: its step is linear and one to one; the way by a table is the way bit by bit. No condition; nothing of Go.
-/
import Derived.WalkKit
namespace Go.Proofs.Ytpobajblngblfaa.Crc

/-- one bit -/
def one (s : Nat) : Nat := if 32768 ≤ s then (s * 2 % 65536) ^^^ 4129 else s * 2 % 65536
def many : Nat → Nat → Nat
  | 0, s => s
  | k + 1, s => many k (one s)
def byte (s b : Nat) : Nat := many 8 (s ^^^ (b * 256))
def word (s w : Nat) : Nat := byte (byte s (w / 256)) (w % 256)
def words (ws : List Nat) : Nat := ws.foldl word 65535

def oneB (x : BitVec 16) : BitVec 16 := if x.msb then (x <<< 1) ^^^ 4129#16 else x <<< 1

theorem one_lt (s : Nat) : one s < 65536 := by
  unfold one
  split
  · exact Nat.xor_lt_two_pow (n := 16) (by omega) (by omega)
  · omega

theorem one_toNat (x : BitVec 16) : one x.toNat = (oneB x).toNat := by
  have hm : x.msb = decide (32768 ≤ x.toNat) := by
    rw [BitVec.msb_eq_decide]
  unfold one oneB
  by_cases h : 32768 ≤ x.toNat
  · rw [if_pos h, if_pos (by rw [hm]; simpa using h), BitVec.toNat_xor, BitVec.toNat_shiftLeft, Nat.shiftLeft_eq]; rfl
  · rw [if_neg h, if_neg (by rw [hm]; simpa using h), BitVec.toNat_shiftLeft, Nat.shiftLeft_eq]

theorem oneB_xor (x y : BitVec 16) : oneB (x ^^^ y) = oneB x ^^^ oneB y := by
  unfold oneB
  rw [BitVec.msb_xor, BitVec.shiftLeft_xor_distrib]
  cases hx : x.msb <;> cases hy : y.msb <;> simp
  · rw [BitVec.xor_assoc]
  · rw [BitVec.xor_assoc, BitVec.xor_assoc, BitVec.xor_comm (y <<< 1)]
  · rw [BitVec.xor_assoc (x <<< 1), BitVec.xor_comm 4129#16, BitVec.xor_assoc (y <<< 1)]; simp

theorem one_xor (a b : Nat) (ha : a < 65536) (hb : b < 65536) : one (a ^^^ b) = one a ^^^ one b := by
  have e := oneB_xor (BitVec.ofNat 16 a) (BitVec.ofNat 16 b)
  have e2 := congrArg BitVec.toNat e
  rw [BitVec.toNat_xor, ← one_toNat, ← one_toNat, ← one_toNat, BitVec.toNat_xor, BitVec.toNat_ofNat, BitVec.toNat_ofNat, Nat.mod_eq_of_lt ha, Nat.mod_eq_of_lt hb] at e2
  exact e2

theorem many_lt (k : Nat) (s : Nat) (h : s < 65536) : many k s < 65536 := by
  induction k generalizing s with
  | zero => exact h
  | succ k ih => exact ih _ (one_lt s)

theorem many_xor (k : Nat) (a b : Nat) (ha : a < 65536) (hb : b < 65536) : many k (a ^^^ b) = many k a ^^^ many k b := by
  induction k generalizing a b with
  | zero => rfl
  | succ k ih => show many k (one (a ^^^ b)) = _; rw [one_xor a b ha hb]; exact ih _ _ (one_lt a) (one_lt b)

theorem many_low (s : Nat) (h : s < 256) : many 8 s = s * 256 := by
  have e : ∀ t, t < 32768 → one t = t * 2 := fun t ht => by unfold one; rw [if_neg (by omega)]; omega
  simp only [many]
  rw [e s (by omega), e (s * 2) (by omega), e (s * 2 * 2) (by omega), e (s * 2 * 2 * 2) (by omega), e (s * 2 * 2 * 2 * 2) (by omega), e (s * 2 * 2 * 2 * 2 * 2) (by omega), e (s * 2 * 2 * 2 * 2 * 2 * 2) (by omega), e (s * 2 * 2 * 2 * 2 * 2 * 2 * 2) (by omega)]
  omega

theorem xor_lt (a b : Nat) (ha : a < 65536) (hb : b < 65536) : a ^^^ b < 65536 := Nat.xor_lt_two_pow (n := 16) ha hb

theorem byte_lt (s b : Nat) (hs : s < 65536) (hb : b < 256) : byte s b < 65536 := many_lt _ _ (xor_lt _ _ hs (by omega))
theorem word_lt (s w : Nat) (hs : s < 65536) (hw : w < 65536) : word s w < 65536 := byte_lt _ _ (byte_lt _ _ hs (by omega)) (by omega)

theorem split_xor (s : Nat) : s = (s / 256 * 256) ^^^ (s % 256) := by
  apply Nat.eq_of_testBit_eq
  intro i
  rw [Nat.testBit_xor, show s / 256 * 256 = 2 ^ 8 * (s / 2 ^ 8) from by omega, show s % 256 = s % 2 ^ 8 from rfl, Nat.testBit_mod_two_pow, Nat.testBit_two_pow_mul, Nat.testBit_div_two_pow]
  by_cases h : i < 8
  · simp [h, show ¬ 8 ≤ i from by omega]
  · have : 8 ≤ i := by omega
    simp [h, this]

theorem xor_mul (a b : Nat) : (a ^^^ b) * 256 = (a * 256) ^^^ (b * 256) := by
  rw [show (256 : Nat) = 2 ^ 8 from rfl, ← Nat.shiftLeft_eq, ← Nat.shiftLeft_eq, ← Nat.shiftLeft_eq, Nat.shiftLeft_xor_distrib]

/-- the table's way -/
theorem byte_table (s b : Nat) (hs : s < 65536) (hb : b < 256) : byte s b = (s * 256 % 65536) ^^^ byte 0 (s / 256 ^^^ b) := by
  unfold byte
  have h1 : s / 256 < 2 ^ 8 := by omega
  have hx : s / 256 ^^^ b < 2 ^ 8 := Nat.xor_lt_two_pow h1 (by omega)
  rw [Nat.zero_xor]
  have e : s ^^^ b * 256 = ((s / 256 ^^^ b) * 256) ^^^ (s % 256) := by
    rw [xor_mul, Nat.xor_assoc, Nat.xor_comm (b * 256), ← Nat.xor_assoc, ← split_xor]
  rw [e, many_xor _ _ _ (by omega) (by omega), many_low (s % 256) (by omega), Nat.xor_comm]
  congr 1
  omega

theorem oneB_zero (x : BitVec 16) (h : oneB x = 0#16) : x = 0#16 := by
  unfold oneB at h
  have hm : x.msb = decide (32768 ≤ x.toNat) := by
    rw [BitVec.msb_eq_decide]
  split at h
  · have h2 := congrArg (fun v : BitVec 16 => v.getLsbD 0) h
    simp at h2
  · have h2 := congrArg BitVec.toNat h
    rw [BitVec.toNat_shiftLeft, Nat.shiftLeft_eq] at h2
    have h3 : ¬ 32768 ≤ x.toNat := by
      rename_i hn
      rw [hm] at hn
      simpa using hn
    apply BitVec.eq_of_toNat_eq
    simp at h2 ⊢
    omega

theorem xor_zero_eq {a b : Nat} (h : a ^^^ b = 0) : a = b := by
  have : a ^^^ b ^^^ b = b := by rw [h, Nat.zero_xor]
  rwa [Nat.xor_assoc, Nat.xor_self, Nat.xor_zero] at this

theorem one_inj (a b : Nat) (ha : a < 65536) (hb : b < 65536) (h : one a = one b) : a = b := by
  have e := one_xor a b ha hb
  rw [h, Nat.xor_self] at e
  have hx := xor_lt a b ha hb
  have e2 := one_toNat (BitVec.ofNat 16 (a ^^^ b))
  rw [BitVec.toNat_ofNat, Nat.mod_eq_of_lt hx, e] at e2
  have e3 := oneB_zero (BitVec.ofNat 16 (a ^^^ b)) (BitVec.eq_of_toNat_eq (by simpa using e2.symm))
  have e4 := congrArg BitVec.toNat e3
  rw [BitVec.toNat_ofNat, Nat.mod_eq_of_lt hx] at e4
  exact xor_zero_eq (by simpa using e4)

theorem many_inj (k : Nat) (a b : Nat) (ha : a < 65536) (hb : b < 65536) (h : many k a = many k b) : a = b := by
  induction k generalizing a b with
  | zero => exact h
  | succ k ih => exact one_inj _ _ ha hb (ih _ _ (one_lt a) (one_lt b) h)

theorem xor_cancel {a b c : Nat} (h : a ^^^ c = b ^^^ c) : a = b := by
  have := congrArg (· ^^^ c) h
  simpa [Nat.xor_assoc] using this

theorem byte_inj (s t b : Nat) (hs : s < 65536) (ht : t < 65536) (hb : b < 256) (h : byte s b = byte t b) : s = t :=
  xor_cancel (many_inj 8 _ _ (xor_lt _ _ hs (by omega)) (xor_lt _ _ ht (by omega)) h)

theorem word_inj (s t w : Nat) (hs : s < 65536) (ht : t < 65536) (hw : w < 65536) (h : word s w = word t w) : s = t :=
  byte_inj _ _ _ hs ht (by omega) (byte_inj _ _ _ (byte_lt _ _ hs (by omega)) (byte_lt _ _ ht (by omega)) (by omega) h)

/-- a word as a whole: all its sixteen bits go in at once -/
theorem word_eq (s w : Nat) (hs : s < 65536) (hw : w < 65536) : word s w = many 8 (many 8 (s ^^^ w)) := by
  unfold word byte
  have e : s ^^^ w = (s ^^^ w / 256 * 256) ^^^ (w % 256) := by
    rw [Nat.xor_assoc, ← split_xor]
  rw [e, many_xor 8 (s ^^^ w / 256 * 256) (w % 256) (xor_lt _ _ hs (by omega)) (by omega), many_low (w % 256) (by omega)]

theorem word_inj_right (s v w : Nat) (hs : s < 65536) (hv : v < 65536) (hw : w < 65536) (h : word s v = word s w) : v = w := by
  rw [word_eq s v hs hv, word_eq s w hs hw] at h
  have := many_inj 8 _ _ (xor_lt _ _ hs hv) (xor_lt _ _ hs hw) (many_inj 8 _ _ (many_lt _ _ (xor_lt _ _ hs hv)) (many_lt _ _ (xor_lt _ _ hs hw)) h)
  rw [Nat.xor_comm s v, Nat.xor_comm s w] at this
  exact xor_cancel this

/-- the sum of the first k numbers -/
def part (zs : List Int) (k : Nat) : Nat := words ((zs.take k).map Int.toNat)
theorem part_zero (zs : List Int) : part zs 0 = 65535 := by simp [part, words]
theorem part_succ (zs : List Int) (k : Nat) (h : k < zs.length) : part zs (k + 1) = word (part zs k) (zs.getD k 0).toNat := by
  unfold part words
  rw [List.take_succ_eq_append_getElem h, List.map_append, List.foldl_append]
  simp [List.getD_eq_getElem?_getD, List.getElem?_eq_getElem h]
theorem words_lt (l : List Nat) (s : Nat) (hs : s < 65536) (h : ∀ z ∈ l, z < 65536) : l.foldl word s < 65536 := by
  induction l generalizing s with
  | nil => exact hs
  | cons a l ih =>
    rw [List.foldl_cons]
    have h1 := word_lt s a hs (h a (by simp))
    exact ih (word s a) h1 (fun z hz => h z (by simp [hz]))
theorem part_lt (zs : List Int) (k : Nat) (h : ∀ z ∈ zs, 0 ≤ z ∧ z ≤ 65535) : part zs k < 65536 := by
  unfold part words
  refine words_lt _ 65535 (by omega) fun z hz => ?_
  simp only [List.mem_map] at hz
  obtain ⟨y, hy, rfl⟩ := hz
  have := h y (List.mem_of_mem_take hy)
  omega
theorem getD_mem {zs : List Int} {k : Nat} (h : k < zs.length) : zs.getD k 0 ∈ zs := by
  rw [List.getD_eq_getElem?_getD, List.getElem?_eq_getElem h]; simp

end Go.Proofs.Ytpobajblngblfaa.Crc
