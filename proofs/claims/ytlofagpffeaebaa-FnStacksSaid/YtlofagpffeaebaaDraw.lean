/-
  spec.l1Next, l1Pick, l1DrawWord, l1Words: what is drawn out of a source of bytes is some list of numbers in new memory; nothing else turns but the source itself.
-/
import Derived.Test.YtlofagpffeaebaaBase
import Derived.Laws.Rows
namespace Go.Proofs.Ytlofagpffeaebaa
open Go.RowKit

/-- the bytes of a code lie at c -/
def Bytes (w : World) (c : Option Addr) (K : Nat) : Prop :=
  K = 0 ∨ ∃ b off, c = some ⟨b, off, none⟩ ∧ ∀ i, i < K → ∃ y : Int, w.cell? ⟨b, off + i, none⟩ = some (.int .u8 y) ∧ 0 ≤ y ∧ y ≤ 255

theorem Bytes.below {w w' : World} {c : Option Addr} {K B : Nat} (h : Bytes w c K) (hb : Below B w w') (hB : K ≠ 0 → ∀ b o s, c = some ⟨b, o, s⟩ → b < B) : Bytes w' c K := by
  rcases h with h | ⟨b, off, rfl, hc⟩
  · exact .inl h
  · refine .inr ⟨b, off, rfl, fun i hi => ?_⟩
    obtain ⟨y, h1, h2⟩ := hc i hi
    exact ⟨y, by rw [hb.cell (p := ⟨b, off + i, none⟩) (hB (by omega) _ _ _ rfl)]; exact h1, h2⟩

/-- a source in block S, so many draws behind -/
def Src (w : World) (S : Nat) (c : Option Addr) (K cap A : Nat) : Prop := w.heap[S]? = some (.cells #[.slice c K cap, .int .i64 (A : Int)] 113 (0, 0))

/-- what a draw from the source in S leaves: all other blocks as they were -/
def Only (S : Nat) (w w' : World) : Prop := Below S w w' ∧ ∀ g, g < w.heap.size → g ≠ S → w'.heap[g]? = w.heap[g]?
theorem Only.refl (S : Nat) (w : World) : Only S w w := ⟨Below.refl _ _, fun _ _ _ => rfl⟩
theorem Only.drew {S : Nat} {w w' : World} (h : Only S w w') : Only S w w'.drew := ⟨h.1.drew, h.2⟩
theorem Src.drew {w : World} {S K cap A : Nat} {c : Option Addr} (h : Src w S c K cap A) : Src w.drew S c K cap A := h
theorem Only.trans {S : Nat} {a b c : World} (h : Only S a b) (k : Only S b c) : Only S a c :=
  ⟨h.1.trans k.1, fun g hg hne => (k.2 g (Nat.lt_of_lt_of_le hg h.1.size) hne).trans (h.2 g hg hne)⟩
theorem Only.of_below {S : Nat} {w w' : World} (h : Below w.heap.size w w') (hS : S ≤ w.heap.size) : Only S w w' := ⟨h.mono hS, fun g hg _ => h.block g hg⟩
theorem Src.below {w w' : World} {S K cap A : Nat} {c : Option Addr} (h : Src w S c K cap A) (hb : Below w.heap.size w w') : Src w' S c K cap A := by
  unfold Src; rw [hb.block S (Array.getElem?_eq_some_iff.1 h).1]; exact h
theorem Src.lt {w : World} {S K cap A : Nat} {c : Option Addr} (h : Src w S c K cap A) : S < w.heap.size := (Array.getElem?_eq_some_iff.1 h).1

set_option maxHeartbeats 1600000 in
theorem next_any (S K cap A : Nat) (c : Option Addr) (n : Int) (w : World) (hK : K ≤ 1048576) (hA : A ≤ 1000000) (hn0 : 0 ≤ n) (hn1 : n ≤ 100000) (hs : Src w S c K cap A) (hb : Bytes w c K) (hcS : K ≠ 0 → ∀ b o s, c = some ⟨b, o, s⟩ → b < S) :
    Calls Try.prog 36 #[.pointer (some ⟨S, 0, none⟩), .int .i64 n] w fun e w' =>
      ∃ r : Int, e = .returned (.int .i64 r) ∧ 0 ≤ r ∧ (r < n ∨ r = 0) ∧ Src w' S c K cap (A + 1) ∧ Only S w w' := by
  have hc0 := cell_of_row w S 0 _ _ _ hs
  have hc1 := cell_of_row w S 1 _ _ _ hs
  have hf1 := frozen_of_row w S 1 _ _ hs
  have hnew := heap_setCell_same w S 1 _ _ (.int .i64 ((A : Int) + 1)) hs
  have hsrc : Hid (Src (w.setCell ⟨S, 1, none⟩ (.int .i64 ((A : Int) + 1))) S c K cap (A + 1)) := hnew
  have honly : Hid (Only S w (w.setCell ⟨S, 1, none⟩ (.int .i64 ((A : Int) + 1)))) :=
    ⟨(Below.refl S w).setCell (Nat.le_refl _) _, fun g _ hne => heap_setCell_other w ⟨S, 1, none⟩ g _ hne⟩
  have hd0 : (w.setCell ⟨S, 1, none⟩ (.int .i64 ((A : Int) + 1))).cell? ⟨S, 0, none⟩ = some (.slice c K cap) := cell_of_row _ S 0 _ _ _ hnew
  have hd1 : (w.setCell ⟨S, 1, none⟩ (.int .i64 ((A : Int) + 1))).cell? ⟨S, 1, none⟩ = some (.int .i64 ((A : Int) + 1)) := cell_of_row _ S 1 _ _ _ hnew
  replace hc0 : w.cell? ⟨S, 0, none⟩ = some (.slice c K cap) := hc0
  replace hc1 : w.cell? ⟨S, 1, none⟩ = some (.int .i64 (A : Int)) := hc1
  by_cases h1 : n < 1
  · clear hnew hs hb hcS
    go_enter Try.func36, Try.ntmps36
    go_wp2
    go_ret
    exact ⟨0, rfl, by omega, .inr rfl, hsrc.out, honly.out⟩
  by_cases h2 : K = 0
  · subst h2
    clear hnew hs hb hcS
    go_enter Try.func36, Try.ntmps36
    go_wp2
    go_ret
    have hp : 0 < n := by omega
    exact ⟨_, rfl, Int.emod_nonneg _ (by omega), .inl (Int.emod_lt_of_pos _ hp), hsrc.out, honly.out⟩
  rcases hb with hb | ⟨b, off, rfl, hby⟩
  · exact absurd hb h2
  have hbS : b ≠ S := by have := hcS h2 b off none rfl; omega
  obtain ⟨y1, hy1, hy2, hy3⟩ := hby (A % K) (Nat.mod_lt _ (by omega))
  obtain ⟨y2, hy4, hy5, hy6⟩ := hby ((A + 1) % K) (Nat.mod_lt _ (by omega))
  rw [← honly.out.1.cell (p := ⟨b, off + A % K, none⟩) (hcS h2 b off none rfl)] at hy1
  rw [← honly.out.1.cell (p := ⟨b, off + (A + 1) % K, none⟩) (hcS h2 b off none rfl)] at hy4
  have hq : (A : Int) / (K : Int) ≤ 1000000 := by
    have h := Int.ediv_le_self (a := (A : Int)) (K : Int) (by omega)
    omega
  have hq0 : 0 ≤ (A : Int) / (K : Int) := Int.ediv_nonneg (by omega) (by omega)
  have hm1 : A % K < K := Nat.mod_lt _ (by omega)
  have hm2 : (A + 1) % K < K := Nat.mod_lt _ (by omega)
  have hi1 : ((A : Int) + 1) % (K : Int) < (K : Int) := Int.emod_lt_of_pos _ (by omega)
  have hi2 : 0 ≤ ((A : Int) + 1) % (K : Int) := Int.emod_nonneg _ (by omega)
  clear hnew hs hby hcS hc0
  by_cases h3 : 200 < n
  · go_enter Try.func36, Try.ntmps36
    go_wp2
    go_region
    go_wp2
    go_region
    go_wp2
    go_ret
    have hp : 0 < n := by omega
    exact ⟨_, rfl, Int.emod_nonneg _ (by omega), .inl (Int.emod_lt_of_pos _ hp), hsrc.out.drew.drew, honly.out.drew.drew⟩
  · go_enter Try.func36, Try.ntmps36
    go_wp2
    go_region
    go_wp2
    go_ret
    have hp : 0 < n := by omega
    exact ⟨_, rfl, Int.emod_nonneg _ (by omega), .inl (Int.emod_lt_of_pos _ hp), hsrc.out.drew, honly.out.drew⟩

/-- the slice of the values picked from lies in a block of its own -/
def Picks (w : World) (g : Nat) (xs : List Int) : Prop := ∀ i, i < xs.length → w.cell? ⟨g, i, none⟩ = some (.int .i64 (xs.getD i 0))

set_option maxHeartbeats 1600000 in
theorem pick_any (S K cap A : Nat) (c : Option Addr) (g : Nat) (xs : List Int) (m cp : Nat) (w : World) (hK : K ≤ 1048576) (hA : A ≤ 1000000) (hm : m = xs.length) (hm0 : 0 < m) (hm1 : m ≤ 100) (hx : Picks w g xs) (hgS : g ≠ S) (hs : Src w S c K cap A) (hb : Bytes w c K) (hcS : K ≠ 0 → ∀ b o s, c = some ⟨b, o, s⟩ → b < S) :
    Calls Try.prog 35 #[.pointer (some ⟨S, 0, none⟩), .slice (some ⟨g, 0, none⟩) m cp] w fun e w' =>
      ∃ x : Int, e = .returned (.int .i64 x) ∧ x ∈ xs ∧ Src w' S c K cap (A + 1) ∧ Only S w w' := by
  have hnx := next_any S K cap A c (m : Int) w hK hA (by omega) (by omega) hs hb hcS
  have hlt : g < w.heap.size := World.block_lt_of_cell? _ _ (hx 0 (by omega))
  have HX : Hid (Picks w g xs) := hx
  have HM : Hid (m = xs.length) := hm
  clear hx hs hb hcS hm
  go_enter Try.func35, Try.ntmps35
  go_wp2_with fail
  refine hnx.mono ?_
  rintro e w1 ⟨r, rfl, hr0, hr1, hs1, ho1⟩
  have hr2 : r < (m : Int) := by omega
  obtain ⟨R, rfl⟩ := Int.eq_ofNat_of_zero_le hr0
  have hcell : w1.cell? ⟨g, R, none⟩ = some (.int .i64 (xs.getD R 0)) := by
    rw [World.cell?_of_block (w := w) (ho1.2 g hlt hgS)]
    exact HX.out R (by have := HM.out; omega)
  have hmem : Hid (xs.getD R 0 ∈ xs) := Crc.getD_mem (by have := HM.out; omega)
  have HS1 : Hid (Src w1 S c K cap (A + 1)) := hs1
  have HO1 : Hid (Only S w w1) := ho1
  obtain ⟨z, hz⟩ : ∃ z, z = xs.getD R 0 := ⟨_, rfl⟩
  rw [← hz] at hcell hmem
  clear hz hs1 ho1 hr1 hr0 hnx
  go_wp2
  go_ret
  exact ⟨z, rfl, hmem.out, HS1.out, HO1.out⟩
end Go.Proofs.Ytlofagpffeaebaa
