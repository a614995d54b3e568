/-
  spec.l1DrawWord: some number. Nothing that was there turns but the source.
-/
import Derived.Test.YtcikofhbfncgdaaBase
import Derived.Laws.Rows
namespace Go.Proofs.Ytcikofhbfncgdaa
open Go.RowKit

/-- the bytes of a code lie at c -/
def Bytes (w : World) (c : Option Addr) (K : Nat) : Prop :=
  K = 0 ∨ ∃ b off, c = some ⟨b, off, none⟩ ∧ ∀ i, i < K → ∃ y : Int, w.cell? ⟨b, off + i, none⟩ = some (.int .u8 y) ∧ 0 ≤ y ∧ y ≤ 255

theorem Bytes.below {w w' : World} {c : Option Addr} {K B : Nat} (h : Bytes w c K) (hb : Below B w w') (hB : K ≠ 0 → ∀ b o s, c = some ⟨b, o, s⟩ → b < B) : Bytes w' c K := by
  rcases h with h | ⟨b, off, rfl, hc⟩
  · exact .inl h
  · refine .inr ⟨b, off, rfl, fun i hi => ?_⟩
    obtain ⟨y, h1, h2⟩ := hc i hi
    exact ⟨y, by rw [hb.cell (p := ⟨b, off + i, none⟩) (hB (by omega) _ _ _ rfl)]; exact h1, h2⟩

/-- a source in block S, so many draws behind -/
def Src (w : World) (S : Nat) (c : Option Addr) (K cap A : Nat) : Prop := w.heap[S]? = some (.cells #[.slice c K cap, .int .i64 (A : Int)] 124 (0, 0))

/-- what a draw from the source in S leaves: all other blocks as they were -/
def Only (S : Nat) (w w' : World) : Prop := Below S w w' ∧ ∀ g, g < w.heap.size → g ≠ S → w'.heap[g]? = w.heap[g]?
theorem Only.refl (S : Nat) (w : World) : Only S w w := ⟨Below.refl _ _, fun _ _ _ => rfl⟩
theorem Only.drew {S : Nat} {w w' : World} (h : Only S w w') : Only S w w'.drew := ⟨h.1.drew, h.2⟩
theorem Src.drew {w : World} {S K cap A : Nat} {c : Option Addr} (h : Src w S c K cap A) : Src w.drew S c K cap A := h
theorem Only.trans {S : Nat} {a b c : World} (h : Only S a b) (k : Only S b c) : Only S a c :=
  ⟨h.1.trans k.1, fun g hg hne => (k.2 g (Nat.lt_of_lt_of_le hg h.1.size) hne).trans (h.2 g hg hne)⟩
theorem Only.of_below {S : Nat} {w w' : World} (h : Below w.heap.size w w') (hS : S ≤ w.heap.size) : Only S w w' := ⟨h.mono hS, fun g hg _ => h.block g hg⟩
theorem Src.below {w w' : World} {S K cap A : Nat} {c : Option Addr} (h : Src w S c K cap A) (hb : Below w.heap.size w w') : Src w' S c K cap A := by
  unfold Src; rw [hb.block S (Array.getElem?_eq_some_iff.1 h).1]; exact h
theorem Src.lt {w : World} {S K cap A : Nat} {c : Option Addr} (h : Src w S c K cap A) : S < w.heap.size := (Array.getElem?_eq_some_iff.1 h).1

set_option maxHeartbeats 1600000 in
theorem next_any (S K cap A : Nat) (c : Option Addr) (n : Int) (w : World) (hK : K ≤ 1048576) (hA : A ≤ 1000000) (hn0 : 0 ≤ n) (hn1 : n ≤ 100000) (hs : Src w S c K cap A) (hb : Bytes w c K) (hcS : K ≠ 0 → ∀ b o s, c = some ⟨b, o, s⟩ → b < S) :
    Calls Try.prog 65 #[.pointer (some ⟨S, 0, none⟩), .int .i64 n] w fun e w' =>
      ∃ r : Int, e = .returned (.int .i64 r) ∧ 0 ≤ r ∧ (r < n ∨ r = 0) ∧ Src w' S c K cap (A + 1) ∧ Only S w w' := by
  have hc0 := cell_of_row w S 0 _ _ _ hs
  have hc1 := cell_of_row w S 1 _ _ _ hs
  have hf1 := frozen_of_row w S 1 _ _ hs
  have hnew := heap_setCell_same w S 1 _ _ (.int .i64 ((A : Int) + 1)) hs
  have hsrc : Hid (Src (w.setCell ⟨S, 1, none⟩ (.int .i64 ((A : Int) + 1))) S c K cap (A + 1)) := hnew
  have honly : Hid (Only S w (w.setCell ⟨S, 1, none⟩ (.int .i64 ((A : Int) + 1)))) :=
    ⟨(Below.refl S w).setCell (Nat.le_refl _) _, fun g _ hne => heap_setCell_other w ⟨S, 1, none⟩ g _ hne⟩
  have hd0 : (w.setCell ⟨S, 1, none⟩ (.int .i64 ((A : Int) + 1))).cell? ⟨S, 0, none⟩ = some (.slice c K cap) := cell_of_row _ S 0 _ _ _ hnew
  have hd1 : (w.setCell ⟨S, 1, none⟩ (.int .i64 ((A : Int) + 1))).cell? ⟨S, 1, none⟩ = some (.int .i64 ((A : Int) + 1)) := cell_of_row _ S 1 _ _ _ hnew
  replace hc0 : w.cell? ⟨S, 0, none⟩ = some (.slice c K cap) := hc0
  replace hc1 : w.cell? ⟨S, 1, none⟩ = some (.int .i64 (A : Int)) := hc1
  by_cases h1 : n < 1
  · clear hnew hs hb hcS
    go_enter Try.func65, Try.ntmps65
    go_wp2
    go_ret
    exact ⟨0, rfl, by omega, .inr rfl, hsrc.out, honly.out⟩
  by_cases h2 : K = 0
  · subst h2
    clear hnew hs hb hcS
    go_enter Try.func65, Try.ntmps65
    go_wp2
    go_ret
    have hp : 0 < n := by omega
    exact ⟨_, rfl, Int.emod_nonneg _ (by omega), .inl (Int.emod_lt_of_pos _ hp), hsrc.out, honly.out⟩
  rcases hb with hb | ⟨b, off, rfl, hby⟩
  · exact absurd hb h2
  have hbS : b ≠ S := by have := hcS h2 b off none rfl; omega
  obtain ⟨y1, hy1, hy2, hy3⟩ := hby (A % K) (Nat.mod_lt _ (by omega))
  obtain ⟨y2, hy4, hy5, hy6⟩ := hby ((A + 1) % K) (Nat.mod_lt _ (by omega))
  rw [← honly.out.1.cell (p := ⟨b, off + A % K, none⟩) (hcS h2 b off none rfl)] at hy1
  rw [← honly.out.1.cell (p := ⟨b, off + (A + 1) % K, none⟩) (hcS h2 b off none rfl)] at hy4
  have hq : (A : Int) / (K : Int) ≤ 1000000 := by
    have h := Int.ediv_le_self (a := (A : Int)) (K : Int) (by omega)
    omega
  have hq0 : 0 ≤ (A : Int) / (K : Int) := Int.ediv_nonneg (by omega) (by omega)
  have hm1 : A % K < K := Nat.mod_lt _ (by omega)
  have hm2 : (A + 1) % K < K := Nat.mod_lt _ (by omega)
  have hi1 : ((A : Int) + 1) % (K : Int) < (K : Int) := Int.emod_lt_of_pos _ (by omega)
  have hi2 : 0 ≤ ((A : Int) + 1) % (K : Int) := Int.emod_nonneg _ (by omega)
  clear hnew hs hby hcS hc0
  by_cases h3 : 200 < n
  · go_enter Try.func65, Try.ntmps65
    go_wp2
    go_region
    go_wp2
    go_region
    go_wp2
    go_ret
    have hp : 0 < n := by omega
    exact ⟨_, rfl, Int.emod_nonneg _ (by omega), .inl (Int.emod_lt_of_pos _ hp), hsrc.out.drew.drew, honly.out.drew.drew⟩
  · go_enter Try.func65, Try.ntmps65
    go_wp2
    go_region
    go_wp2
    go_ret
    have hp : 0 < n := by omega
    exact ⟨_, rfl, Int.emod_nonneg _ (by omega), .inl (Int.emod_lt_of_pos _ hp), hsrc.out.drew, honly.out.drew⟩

/-- the slice of the values picked from lies in a block of its own -/
def Picks (w : World) (g : Nat) (xs : List Int) : Prop := ∀ i, i < xs.length → w.cell? ⟨g, i, none⟩ = some (.int .i64 (xs.getD i 0))

set_option maxHeartbeats 1600000 in
theorem pick_any (S K cap A : Nat) (c : Option Addr) (g : Nat) (xs : List Int) (m cp : Nat) (w : World) (hK : K ≤ 1048576) (hA : A ≤ 1000000) (hm : m = xs.length) (hm0 : 0 < m) (hm1 : m ≤ 100) (hx : Picks w g xs) (hgS : g ≠ S) (hs : Src w S c K cap A) (hb : Bytes w c K) (hcS : K ≠ 0 → ∀ b o s, c = some ⟨b, o, s⟩ → b < S) :
    Calls Try.prog 64 #[.pointer (some ⟨S, 0, none⟩), .slice (some ⟨g, 0, none⟩) m cp] w fun e w' =>
      ∃ x : Int, e = .returned (.int .i64 x) ∧ x ∈ xs ∧ Src w' S c K cap (A + 1) ∧ Only S w w' := by
  have hnx := next_any S K cap A c (m : Int) w hK hA (by omega) (by omega) hs hb hcS
  have hlt : g < w.heap.size := World.block_lt_of_cell? _ _ (hx 0 (by omega))
  have HX : Hid (Picks w g xs) := hx
  have HM : Hid (m = xs.length) := hm
  clear hx hs hb hcS hm
  go_enter Try.func64, Try.ntmps64
  go_wp2_with fail
  refine hnx.mono ?_
  rintro e w1 ⟨r, rfl, hr0, hr1, hs1, ho1⟩
  have hr2 : r < (m : Int) := by omega
  obtain ⟨R, rfl⟩ := Int.eq_ofNat_of_zero_le hr0
  have hcell : w1.cell? ⟨g, R, none⟩ = some (.int .i64 (xs.getD R 0)) := by
    rw [World.cell?_of_block (w := w) (ho1.2 g hlt hgS)]
    exact HX.out R (by have := HM.out; omega)
  have hmem : Hid (xs.getD R 0 ∈ xs) := Crc.getD_mem (by have := HM.out; omega)
  have HS1 : Hid (Src w1 S c K cap (A + 1)) := hs1
  have HO1 : Hid (Only S w w1) := ho1
  obtain ⟨z, hz⟩ : ∃ z, z = xs.getD R 0 := ⟨_, rfl⟩
  rw [← hz] at hcell hmem
  clear hz hs1 ho1 hr1 hr0 hnx
  go_wp2
  go_ret
  exact ⟨z, rfl, hmem.out, HS1.out, HO1.out⟩
end Go.Proofs.Ytcikofhbfncgdaa
namespace Go.Proofs.Ytcikofhbfncgdaa
open Go.RowKit

/-- what all draws ask of the source -/
structure Ready (w : World) (S : Nat) (c : Option Addr) (K cap A : Nat) : Prop where
  src : Src w S c K cap A
  bytes : Bytes w c K
  ahead : K ≠ 0 → ∀ b o s, c = some ⟨b, o, s⟩ → b < S
theorem Ready.step {w w' : World} {S K cap A A' : Nat} {c : Option Addr} (h : Ready w S c K cap A) (hs : Src w' S c K cap A') (ho : Only S w w') : Ready w' S c K cap A' :=
  ⟨hs, h.bytes.below ho.1 h.ahead, h.ahead⟩
theorem Ready.below {w w' : World} {S K cap A : Nat} {c : Option Addr} (h : Ready w S c K cap A) (hb : Below w.heap.size w w') : Ready w' S c K cap A :=
  ⟨h.src.below hb, h.bytes.below (hb.mono (Nat.le_of_lt h.src.lt)) h.ahead, h.ahead⟩

theorem draw_next (S K cap A : Nat) (c : Option Addr) (n : Int) (w : World) (hK : K ≤ 1048576) (hA : A ≤ 1000000) (hn0 : 0 ≤ n) (hn1 : n ≤ 100000) (h : Ready w S c K cap A) :
    Calls Try.prog 65 #[.pointer (some ⟨S, 0, none⟩), .int .i64 n] w fun e w' => ∃ r : Int, e = .returned (.int .i64 r) ∧ 0 ≤ r ∧ (r < n ∨ r = 0) ∧ Ready w' S c K cap (A + 1) ∧ Only S w w' := by
  refine (next_any S K cap A c n w hK hA hn0 hn1 h.src h.bytes h.ahead).mono ?_
  rintro e w' ⟨r, rfl, h0, h1, hs, ho⟩
  exact ⟨r, rfl, h0, h1, h.step hs ho, ho⟩
theorem draw_pick (S K cap A : Nat) (c : Option Addr) (g : Nat) (xs : List Int) (m cp : Nat) (w : World) (hK : K ≤ 1048576) (hA : A ≤ 1000000) (hm : m = xs.length) (hm0 : 0 < m) (hm1 : m ≤ 100) (hx : Picks w g xs) (hgS : g ≠ S) (h : Ready w S c K cap A) :
    Calls Try.prog 64 #[.pointer (some ⟨S, 0, none⟩), .slice (some ⟨g, 0, none⟩) m cp] w fun e w' => ∃ x : Int, e = .returned (.int .i64 x) ∧ x ∈ xs ∧ Ready w' S c K cap (A + 1) ∧ Only S w w' := by
  refine (pick_any S K cap A c g xs m cp w hK hA hm hm0 hm1 hx hgS h.src h.bytes h.ahead).mono ?_
  rintro e w' ⟨r, rfl, h0, hs, ho⟩
  exact ⟨r, rfl, h0, h.step hs ho, ho⟩

theorem picks_new (w : World) (xs : List Int) (T : TypeId) : Picks (w.alloc (.cells (xs.map (Value.int .i64)).toArray T)) w.heap.size xs := by
  intro i hi
  rw [cell_of_row _ _ i _ _ _ (heap_alloc_new w _)]
  rw [List.getD_eq_getElem?_getD, List.getElem?_eq_getElem hi]
  simp [List.getElem?_eq_getElem hi]

theorem bytes_of_row {w : World} {a : Option Addr} {len cap : Nat} {zs : List Int} (h : IsRow .u8 w a len cap zs) : Bytes w a len ∧ (len ≠ 0 → ∀ b o s, a = some ⟨b, o, s⟩ → b < w.heap.size) := by
  rcases h with ⟨rfl, rfl, rfl, rfl⟩ | ⟨x, rfl, hl, hm, hz, hcell, hwz⟩
  · exact ⟨.inl rfl, fun h => absurd rfl h⟩
  · by_cases h0 : len = 0
    · subst h0; exact ⟨.inl rfl, fun h => absurd rfl h⟩
    obtain ⟨b, off, spot⟩ := x
    have hc := hcell 0 (by omega)
    have hspot : spot = none := by simpa [Addr.add] using World.cell?_spot hc
    subst hspot
    refine ⟨.inr ⟨b, off, rfl, fun i hi => ?_⟩, fun _ b' o s h => ?_⟩
    · have h1 := hcell i (by omega)
      have hmem : zs.getD i 0 ∈ zs := by
        rw [List.getD_eq_getElem?_getD, List.getElem?_eq_getElem (by omega)]; simp
      have hb := Go.bounds_u8 (hwz _ hmem)
      refine ⟨zs.getD i 0, ?_, hb.1, by omega⟩
      rw [← h1]
      congr 1
      cases i <;> simp [Addr.add]
    · have hb := World.block_lt_of_cell? _ _ hc
      simp at h
      simp [Addr.add] at hb
      omega

theorem ready_new {w : World} {a : Option Addr} {K cap : Nat} (hb : Bytes w a K) (ha : K ≠ 0 → ∀ b o s, a = some ⟨b, o, s⟩ → b < w.heap.size) :
    Ready (w.alloc (.cells #[.slice a K cap, .int .i64 0] 124)) w.heap.size a K cap 0 :=
  ⟨heap_alloc_new _ _, hb.below ((Below.refl _ _).alloc (Nat.le_refl _) _) ha, ha⟩

set_option maxHeartbeats 400000 in
theorem source_any (a : Option Addr) (K cap : Nat) (w : World) :
    Calls Try.prog 61 #[.slice a K cap] w fun e w' => e = .returned (.pointer (some ⟨w.heap.size, 0, none⟩)) ∧ w' = w.alloc (.cells #[.slice a K cap, .int .i64 0] 124) := by
  go_enter Try.func61, Try.ntmps61
  go_wp2
  go_ret
  exact ⟨rfl, rfl⟩

end Go.Proofs.Ytcikofhbfncgdaa
namespace Go.Proofs.Ytcikofhbfncgdaa
open Go.RowKit
set_option linter.unusedVariables false

set_option maxHeartbeats 400000 in
theorem chance_any (S K cap A : Nat) (c : Option Addr) (n : Int) (w : World) (hK : K ≤ 1048576) (hA : A ≤ 1000000) (hn0 : 0 ≤ n) (hn1 : n ≤ 100000) (h : Ready w S c K cap A) :
    Calls Try.prog 102 #[.pointer (some ⟨S, 0, none⟩), .int .i64 n] w fun e w' => ∃ b : Bool, e = .returned (.bool b) ∧ Ready w' S c K cap (A + 1) ∧ Only S w w' := by
  have hnx := draw_next S K cap A c n w hK hA hn0 hn1 h
  clear h
  go_enter Try.func102, Try.ntmps102
  go_wp2_with fail
  refine hnx.mono ?_
  rintro e w1 ⟨r, rfl, _, _, hr, ho⟩
  have HR : Hid (Ready w1 S c K cap (A + 1)) := hr
  have HO : Hid (Only S w w1) := ho
  clear hr ho
  go_wp2
  go_ret
  exact ⟨_, rfl, HR.out, HO.out⟩
end Go.Proofs.Ytcikofhbfncgdaa
namespace Go.Proofs.Ytcikofhbfncgdaa
open Go.RowKit

set_option maxHeartbeats 1600000 in
theorem word_any (S K cap A : Nat) (c : Option Addr) (w : World) (hK : K ≤ 1048576) (hA : A ≤ 900000) (h : Ready w S c K cap A) :
    Calls Try.prog 104 #[.pointer (some ⟨S, 0, none⟩)] w fun e w' => ∃ x : Int, e = .returned (.int .i64 x) ∧ Ready w' S c K cap (A + 4) ∧ Only S w w' := by
  have HR0 : Hid (Ready w S c K cap A) := h
  clear h
  go_enter Try.func104, Try.ntmps104
  go_wp2_with fail
  refine (draw_next S K cap A c 90 w hK (by omega) (by omega) (by omega) HR0.out).mono ?_
  rintro e w1 ⟨r1, rfl, h10, h11, hr, ho⟩
  have HR1 : Hid (Ready w1 S c K cap (A + 1)) := hr
  have HO1 : Hid (Only S w w1) := ho
  clear hr ho
  go_wp2_with fail
  refine (draw_next S K cap (A + 1) c 256 w1 hK (by omega) (by omega) (by omega) HR1.out).mono ?_
  rintro e w2 ⟨r2, rfl, h20, h21, hr, ho⟩
  have HR2 : Hid (Ready w2 S c K cap (A + 2)) := hr
  have HO2 : Hid (Only S w w2) := HO1.out.trans ho
  clear hr ho
  go_wp2_with fail
  refine (draw_next S K cap (A + 2) c 9 w2 hK (by omega) (by omega) (by omega) HR2.out).mono ?_
  rintro e w3 ⟨r3, rfl, h30, h31, hr, ho⟩
  have HR3 : Hid (Ready w3 S c K cap (A + 3)) := hr
  have HO3 : Hid (Only S w w3) := HO2.out.trans ho
  have h12 : r1 < 90 := by omega
  have h22 : r2 < 256 := by omega
  have h32 : r3 < 9 := by omega
  have hlt : S ≠ w3.heap.size := by have := hr.src.lt; omega
  clear hr ho h11 h21 h31
  have hb : Below w3.heap.size w3 (w3.alloc (.cells #[.int .i64 r1, .int .i64 (r2 * 257), .int .i64 (65535 - r3), .int .i64 32768, .int .i64 32767, .int .i64 0] 2)) := (Below.refl _ _).alloc (Nat.le_refl _) _
  have HP : Hid (Picks (w3.alloc (.cells #[.int .i64 r1, .int .i64 (r2 * 257), .int .i64 (65535 - r3), .int .i64 32768, .int .i64 32767, .int .i64 0] 2)) w3.heap.size [r1, r2 * 257, 65535 - r3, 32768, 32767, 0]) := picks_new w3 [r1, r2 * 257, 65535 - r3, 32768, 32767, 0] 2
  have HR4 : Hid (Ready (w3.alloc (.cells #[.int .i64 r1, .int .i64 (r2 * 257), .int .i64 (65535 - r3), .int .i64 32768, .int .i64 32767, .int .i64 0] 2)) S c K cap (A + 3)) := HR3.out.below hb
  have HO4 : Hid (Only S w (w3.alloc (.cells #[.int .i64 r1, .int .i64 (r2 * 257), .int .i64 (65535 - r3), .int .i64 32768, .int .i64 32767, .int .i64 0] 2))) := HO3.out.trans (Only.of_below hb (Nat.le_of_lt HR3.out.src.lt))
  clear hb
  go_wp2_with fail
  refine (draw_pick S K cap (A + 3) c w3.heap.size [r1, r2 * 257, 65535 - r3, 32768, 32767, 0] 6 6 _ hK (by omega) rfl (by omega) (by omega) HP.out (fun h => hlt h.symm) HR4.out).mono ?_
  rintro e w5 ⟨x, rfl, hx, hr, ho⟩
  have HR5 : Hid (Ready w5 S c K cap (A + 4)) := hr
  have HO5 : Hid (Only S w w5) := HO4.out.trans ho
  clear hr ho hx
  go_wp2
  go_ret
  exact ⟨x, rfl, HR5.out, HO5.out⟩
end Go.Proofs.Ytcikofhbfncgdaa
