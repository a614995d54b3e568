/-
  Plain mathematics: words of which just one is turned have another sum, and the first block whose sum is not the old one is the turned word's.
-/
import Derived.Test.YtafngcmgmdmciaaBad
namespace Go.Proofs.Ytafngcmgmdmciaa
open Go.RowKit

theorem part_eq_of_take {a b : List Int} {k : Nat} (h : a.take k = b.take k) : Crc.part a k = Crc.part b k := by unfold Crc.part; rw [h]

theorem getD_set_self {zs : List Int} {i : Nat} {z : Int} (h : i < zs.length) : (zs.set i z).getD i 0 = z := by
  rw [List.getD_eq_getElem?_getD, List.getElem?_set_self h]; rfl
theorem getD_set_ne {zs : List Int} {i j : Nat} {z : Int} (h : i ≠ j) : (zs.set i z).getD j 0 = zs.getD j 0 := by
  rw [List.getD_eq_getElem?_getD, List.getD_eq_getElem?_getD, List.getElem?_set_ne h]

theorem set_words {zs : List Int} {i : Nat} {z : Int} (hw : ∀ y ∈ zs, 0 ≤ y ∧ y ≤ 65535) (hz : 0 ≤ z ∧ z ≤ 65535) : ∀ y ∈ zs.set i z, 0 ≤ y ∧ y ≤ 65535 := by
  intro y hy
  rcases List.mem_or_eq_of_mem_set hy with h | h
  · exact hw y h
  · rw [h]; exact hz

theorem part_ne {zs : List Int} {i : Nat} {z : Int} (hi : i < zs.length) (hw : ∀ y ∈ zs, 0 ≤ y ∧ y ≤ 65535) (hz : 0 ≤ z ∧ z ≤ 65535) (hne : z ≠ zs.getD i 0) (n : Nat) (hn : i + 1 + n ≤ zs.length) :
    Crc.part (zs.set i z) (i + 1 + n) ≠ Crc.part zs (i + 1 + n) := by
  have hw2 := set_words (i := i) hw hz
  have hzi := hw _ (Crc.getD_mem hi)
  induction n with
  | zero =>
    intro h
    rw [Nat.add_zero, Crc.part_succ _ _ (by simpa using hi), Crc.part_succ _ _ hi, getD_set_self hi, part_eq_of_take (a := zs.set i z) (b := zs) (by rw [List.take_set_of_le (Nat.le_refl i)])] at h
    have := Crc.word_inj_right _ _ _ (Crc.part_lt zs i hw) (by omega) (by omega) h
    omega
  | succ n ih =>
    intro h
    have hj : i + 1 + n < zs.length := by omega
    rw [← Nat.add_assoc, Crc.part_succ _ _ (by simpa using hj), Crc.part_succ _ _ hj, getD_set_ne (by omega)] at h
    have hwj := hw _ (Crc.getD_mem hj)
    exact ih (by omega) (Crc.word_inj _ _ _ (Crc.part_lt _ _ hw2) (Crc.part_lt _ _ hw) (by omega) h)

theorem sub_set_same {zs : List Int} {i k : Nat} {z : Int} (h : k ≠ i / 8) : sub (zs.set i z) k = sub zs k := by
  unfold sub
  rw [List.drop_set]
  split
  · rfl
  · rw [List.take_set, List.set_eq_of_length_le]
    rw [List.length_take]; omega
theorem sub_set_own {zs : List Int} {i : Nat} {z : Int} : sub (zs.set i z) (i / 8) = (sub zs (i / 8)).set (i - i / 8 * 8) z := by
  unfold sub
  rw [List.drop_set, if_neg (by omega), List.take_set]

theorem blk_set_same {zs : List Int} {i k : Nat} {z : Int} (h : k ≠ i / 8) : blk (zs.set i z) k = blk zs k := by
  unfold blk; rw [sub_set_same h]
theorem blk_set_own {zs : List Int} {i : Nat} {z : Int} (hi : i < zs.length) (hw : ∀ y ∈ zs, 0 ≤ y ∧ y ≤ 65535) (hz : 0 ≤ z ∧ z ≤ 65535) (hne : z ≠ zs.getD i 0) :
    blk (zs.set i z) (i / 8) ≠ blk zs (i / 8) := by
  have hl := sub_length zs (i / 8)
  have hlt : i - i / 8 * 8 < (sub zs (i / 8)).length := by omega
  have hg : (sub zs (i / 8)).getD (i - i / 8 * 8) 0 = zs.getD i 0 := by
    unfold sub
    rw [List.getD_eq_getElem?_getD, List.getElem?_take_of_lt (by omega), List.getElem?_drop, List.getD_eq_getElem?_getD, show i / 8 * 8 + (i - i / 8 * 8) = i from by omega]
  have h := part_ne (zs := sub zs (i / 8)) hlt (sub_words hw) hz (by rw [hg]; exact hne) ((sub zs (i / 8)).length - (i - i / 8 * 8 + 1)) (by omega)
  rw [show i - i / 8 * 8 + 1 + ((sub zs (i / 8)).length - (i - i / 8 * 8 + 1)) = (sub zs (i / 8)).length from by omega] at h
  unfold blk
  rw [sub_set_own, List.length_set]
  omega

theorem fault_zero {zs : List Int} (h : zs.length ≤ 400) (hw : ∀ y ∈ zs, 0 ≤ y ∧ y ≤ 65535) : fault zs = 0 := by
  rw [fault, if_neg (by omega), if_pos hw]
theorem sums_words {zs : List Int} (hw : ∀ y ∈ zs, 0 ≤ y ∧ y ≤ 65535) (n : Nat) : ∀ y ∈ sumsTo zs n, 0 ≤ y ∧ y ≤ 65535 := by
  intro y hy
  unfold sumsTo at hy
  simp only [List.mem_map] at hy
  obtain ⟨k, _, rfl⟩ := hy
  exact blk_word hw

theorem look_same (a : List Int) (k n : Nat) : look a a k n = (4, 0) := by
  induction n generalizing k with
  | zero => rfl
  | succ n ih => rw [look, if_pos rfl]; exact ih _
theorem look_at {a b : List Int} {m : Nat} (hne : a.getD m 0 ≠ b.getD m 0) (k n : Nat) (hk : k ≤ m) (hn : m < k + n) (heq : ∀ j, k ≤ j → j < m → a.getD j 0 = b.getD j 0) : look a b k n = (0, (m : Int)) := by
  induction n generalizing k with
  | zero => omega
  | succ n ih =>
    rw [look]
    by_cases h : k = m
    · subst h; rw [if_neg hne]
    · rw [if_pos (heq k (Nat.le_refl _) (by omega))]
      exact ih (k + 1) (by omega) (by omega) (fun j h1 h2 => heq j (by omega) h2)

theorem bad_same {zs : List Int} (h : zs.length ≤ 400) (hw : ∀ y ∈ zs, 0 ≤ y ∧ y ≤ 65535) : bad zs (sumsTo zs (cnt zs)) = (4, 0) := by
  have h2 : fault (sumsTo zs (cnt zs)) = 0 := fault_zero (by rw [sumsTo_length]; unfold cnt; omega) (sums_words hw _)
  rw [bad, if_neg (by rw [fault_zero h hw]; simp), if_neg (by rw [h2]; simp), if_neg (by rw [sumsTo_length]; simp), look_same]
theorem bad_turned {zs : List Int} {i : Nat} {z : Int} (h : zs.length ≤ 400) (hi : i < zs.length) (hw : ∀ y ∈ zs, 0 ≤ y ∧ y ≤ 65535) (hz : 0 ≤ z ∧ z ≤ 65535) (hne : z ≠ zs.getD i 0) :
    bad (zs.set i z) (sumsTo zs (cnt zs)) = (0, ((i / 8 : Nat) : Int)) := by
  have h2 : fault (sumsTo zs (cnt zs)) = 0 := fault_zero (by rw [sumsTo_length]; unfold cnt; omega) (sums_words hw _)
  have h3 : fault (zs.set i z) = 0 := fault_zero (by rw [List.length_set]; exact h) (set_words hw hz)
  have hc : cnt (zs.set i z) = cnt zs := by unfold cnt; rw [List.length_set]
  have hlt : i / 8 < cnt zs := by unfold cnt; omega
  rw [bad, if_neg (by rw [h3]; simp), if_neg (by rw [h2]; simp), if_neg (by rw [sumsTo_length, hc]; simp), hc]
  refine look_at ?_ 0 (cnt zs) (by omega) (by omega) (fun j _ hj => ?_)
  · rw [sumsTo_get _ _ _ hlt, sumsTo_get _ _ _ hlt]
    exact blk_set_own hi hw hz hne
  · rw [sumsTo_get _ _ _ (by omega), sumsTo_get _ _ _ (by omega)]
    exact blk_set_same (by omega)
theorem sum_turned {zs : List Int} {i : Nat} {z : Int} (h : zs.length ≤ 400) (hi : i < zs.length) (hw : ∀ y ∈ zs, 0 ≤ y ∧ y ≤ 65535) (hz : 0 ≤ z ∧ z ≤ 65535) (hne : z ≠ zs.getD i 0) :
    sumV (zs.set i z) ≠ sumV zs := by
  have h3 : fault (zs.set i z) = 0 := fault_zero (by rw [List.length_set]; exact h) (set_words hw hz)
  have hp := part_ne hi hw hz hne (zs.length - (i + 1)) (by omega)
  rw [show i + 1 + (zs.length - (i + 1)) = zs.length from by omega] at hp
  rw [sumV, sumV, if_pos h3, if_pos (fault_zero h hw), List.length_set]
  omega

/-- what the Go functions answer of the turned words -/
theorem turned_sum {zs : List Int} {i : Nat} {z : Int} (hf : fault zs = 0) (hi : i < zs.length) (hz : 0 ≤ z ∧ z ≤ 65535) (hne : z ≠ zs.getD i 0) (gx cx : Nat) :
    ∃ S : Int, (S != sumV zs) = true ∧ ∀ w, Nums w (some ⟨gx, 0, none⟩) (zs.set i z) → Calls Try.prog 42 #[.slice (some ⟨gx, 0, none⟩) zs.length cx] w fun e w' => e = .returned (res 0 S) ∧ Below w.heap.size w w' := by
  obtain ⟨h4, hw⟩ := fault_words hf
  refine ⟨sumV (zs.set i z), by rw [bne_iff_ne]; exact sum_turned h4 hi hw hz hne, fun w hn => ?_⟩
  have h := implWords_any (some ⟨gx, 0, none⟩) (zs.set i z) cx w (by rw [List.length_set]; omega) hn
  rw [fault_zero (by rw [List.length_set]; exact h4) (set_words hw hz), List.length_set] at h
  exact h
theorem turned_bad {zs : List Int} {i : Nat} {z : Int} (hf : fault zs = 0) (hi : i < zs.length) (hz : 0 ≤ z ∧ z ≤ 65535) (hne : z ≠ zs.getD i 0) (gx cx cs : Nat) (hc : zs.length ≤ cx) (b : Option Addr) :
    ∀ w, Nums w (some ⟨gx, 0, none⟩) (zs.set i z) → Nums w b (sumsTo zs (cnt zs)) → Calls Try.prog 48 #[.slice (some ⟨gx, 0, none⟩) zs.length cx, .slice b (sumsTo zs (cnt zs)).length cs] w fun e w' => e = .returned (res 0 ((i / 8 : Nat) : Int)) ∧ Below w.heap.size w w' := by
  intro w hn hm
  obtain ⟨h4, hw⟩ := fault_words hf
  have h := implBad_any (some ⟨gx, 0, none⟩) b (zs.set i z) (sumsTo zs (cnt zs)) cx cs w (by rw [List.length_set]; exact hc) (by rw [List.length_set]; omega) (by rw [sumsTo_length]; unfold cnt; omega) hn hm
  rw [bad_turned h4 hi hw hz hne, List.length_set] at h
  exact h
theorem same_bad {zs : List Int} (hf : fault zs = 0) (gz cz cs : Nat) (hc : zs.length ≤ cz) (b : Option Addr) :
    ∀ w, Nums w (some ⟨gz, 0, none⟩) zs → Nums w b (sumsTo zs (cnt zs)) → Calls Try.prog 48 #[.slice (some ⟨gz, 0, none⟩) zs.length cz, .slice b (sumsTo zs (cnt zs)).length cs] w fun e w' => e = .returned (res 4 0) ∧ Below w.heap.size w w' := by
  intro w hn hm
  obtain ⟨h4, hw⟩ := fault_words hf
  have h := implBad_any (some ⟨gz, 0, none⟩) b zs (sumsTo zs (cnt zs)) cz cs w hc (by omega) (by rw [sumsTo_length]; unfold cnt; omega) hn hm
  rw [bad_same h4 hw] at h
  exact h
theorem own_cap {w : World} {B n m cap : Nat} {a : Option Addr} {xs : List Value} (h : w.ownsRow B 2 1 (.slice a m cap) n xs) : n ≤ cap := by
  rcases h.2 with ⟨h1, h2⟩ | ⟨g, c, cur, h1, _, _, h3, _⟩
  · omega
  · simp at h1; omega
end Go.Proofs.Ytafngcmgmdmciaa
