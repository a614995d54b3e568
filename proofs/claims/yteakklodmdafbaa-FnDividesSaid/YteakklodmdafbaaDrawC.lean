/-
  The source, spec.l1DrawWord: what each law that draws begins with. Nothing that was there turns.
-/
import Derived.Test.YteakklodmdafbaaDraw
namespace Go.Proofs.Yteakklodmdafbaa
open Go.RowKit

/-- what all draws ask of the source -/
structure Ready (w : World) (S : Nat) (c : Option Addr) (K cap A : Nat) : Prop where
  src : Src w S c K cap A
  bytes : Bytes w c K
  ahead : K ≠ 0 → ∀ b o s, c = some ⟨b, o, s⟩ → b < S
theorem Ready.step {w w' : World} {S K cap A A' : Nat} {c : Option Addr} (h : Ready w S c K cap A) (hs : Src w' S c K cap A') (ho : Only S w w') : Ready w' S c K cap A' :=
  ⟨hs, h.bytes.below ho.1 h.ahead, h.ahead⟩
theorem Ready.below {w w' : World} {S K cap A : Nat} {c : Option Addr} (h : Ready w S c K cap A) (hb : Below w.heap.size w w') : Ready w' S c K cap A :=
  ⟨h.src.below hb, h.bytes.below (hb.mono (Nat.le_of_lt h.src.lt)) h.ahead, h.ahead⟩

theorem draw_next (S K cap A : Nat) (c : Option Addr) (n : Int) (w : World) (hK : K ≤ 1048576) (hA : A ≤ 1000000) (hn0 : 0 ≤ n) (hn1 : n ≤ 100000) (h : Ready w S c K cap A) :
    Calls Try.prog 33 #[.pointer (some ⟨S, 0, none⟩), .int .i64 n] w fun e w' => ∃ r : Int, e = .returned (.int .i64 r) ∧ 0 ≤ r ∧ (r < n ∨ r = 0) ∧ Ready w' S c K cap (A + 1) ∧ Only S w w' := by
  refine (next_any S K cap A c n w hK hA hn0 hn1 h.src h.bytes h.ahead).mono ?_
  rintro e w' ⟨r, rfl, h0, h1, hs, ho⟩
  exact ⟨r, rfl, h0, h1, h.step hs ho, ho⟩
theorem draw_pick (S K cap A : Nat) (c : Option Addr) (g : Nat) (xs : List Int) (m cp : Nat) (w : World) (hK : K ≤ 1048576) (hA : A ≤ 1000000) (hm : m = xs.length) (hm0 : 0 < m) (hm1 : m ≤ 100) (hx : Picks w g xs) (hgS : g ≠ S) (h : Ready w S c K cap A) :
    Calls Try.prog 32 #[.pointer (some ⟨S, 0, none⟩), .slice (some ⟨g, 0, none⟩) m cp] w fun e w' => ∃ x : Int, e = .returned (.int .i64 x) ∧ x ∈ xs ∧ Ready w' S c K cap (A + 1) ∧ Only S w w' := by
  refine (pick_any S K cap A c g xs m cp w hK hA hm hm0 hm1 hx hgS h.src h.bytes h.ahead).mono ?_
  rintro e w' ⟨r, rfl, h0, hs, ho⟩
  exact ⟨r, rfl, h0, h.step hs ho, ho⟩

theorem picks_new (w : World) (xs : List Int) (T : TypeId) : Picks (w.alloc (.cells (xs.map (Value.int .i64)).toArray T)) w.heap.size xs := by
  intro i hi
  rw [cell_of_row _ _ i _ _ _ (heap_alloc_new w _)]
  rw [List.getD_eq_getElem?_getD, List.getElem?_eq_getElem hi]
  simp [List.getElem?_eq_getElem hi]

set_option maxHeartbeats 1600000 in
theorem word_any (S K cap A : Nat) (c : Option Addr) (w : World) (hK : K ≤ 1048576) (hA : A ≤ 900000) (h : Ready w S c K cap A) :
    Calls Try.prog 38 #[.pointer (some ⟨S, 0, none⟩)] w fun e w' => ∃ x : Int, e = .returned (.int .i64 x) ∧ Ready w' S c K cap (A + 4) ∧ Only S w w' := by
  have HR0 : Hid (Ready w S c K cap A) := h
  clear h
  go_enter Try.func38, Try.ntmps38
  go_wp2_with fail
  refine (draw_next S K cap A c 90 w hK (by omega) (by omega) (by omega) HR0.out).mono ?_
  rintro e w1 ⟨r1, rfl, h10, h11, hr, ho⟩
  have HR1 : Hid (Ready w1 S c K cap (A + 1)) := hr
  have HO1 : Hid (Only S w w1) := ho
  clear hr ho
  go_wp2_with fail
  refine (draw_next S K cap (A + 1) c 256 w1 hK (by omega) (by omega) (by omega) HR1.out).mono ?_
  rintro e w2 ⟨r2, rfl, h20, h21, hr, ho⟩
  have HR2 : Hid (Ready w2 S c K cap (A + 2)) := hr
  have HO2 : Hid (Only S w w2) := HO1.out.trans ho
  clear hr ho
  go_wp2_with fail
  refine (draw_next S K cap (A + 2) c 9 w2 hK (by omega) (by omega) (by omega) HR2.out).mono ?_
  rintro e w3 ⟨r3, rfl, h30, h31, hr, ho⟩
  have HR3 : Hid (Ready w3 S c K cap (A + 3)) := hr
  have HO3 : Hid (Only S w w3) := HO2.out.trans ho
  have h12 : r1 < 90 := by omega
  have h22 : r2 < 256 := by omega
  have h32 : r3 < 9 := by omega
  have hlt : S ≠ w3.heap.size := by have := hr.src.lt; omega
  clear hr ho h11 h21 h31
  have hb : Below w3.heap.size w3 (w3.alloc (.cells #[.int .i64 r1, .int .i64 (r2 * 257), .int .i64 (65535 - r3), .int .i64 32768, .int .i64 32767, .int .i64 0] 2)) := (Below.refl _ _).alloc (Nat.le_refl _) _
  have HP : Hid (Picks (w3.alloc (.cells #[.int .i64 r1, .int .i64 (r2 * 257), .int .i64 (65535 - r3), .int .i64 32768, .int .i64 32767, .int .i64 0] 2)) w3.heap.size [r1, r2 * 257, 65535 - r3, 32768, 32767, 0]) := picks_new w3 [r1, r2 * 257, 65535 - r3, 32768, 32767, 0] 2
  have HR4 : Hid (Ready (w3.alloc (.cells #[.int .i64 r1, .int .i64 (r2 * 257), .int .i64 (65535 - r3), .int .i64 32768, .int .i64 32767, .int .i64 0] 2)) S c K cap (A + 3)) := HR3.out.below hb
  have HO4 : Hid (Only S w (w3.alloc (.cells #[.int .i64 r1, .int .i64 (r2 * 257), .int .i64 (65535 - r3), .int .i64 32768, .int .i64 32767, .int .i64 0] 2))) := HO3.out.trans (Only.of_below hb (Nat.le_of_lt HR3.out.src.lt))
  clear hb
  go_wp2_with fail
  refine (draw_pick S K cap (A + 3) c w3.heap.size [r1, r2 * 257, 65535 - r3, 32768, 32767, 0] 6 6 _ hK (by omega) rfl (by omega) (by omega) HP.out (fun h => hlt h.symm) HR4.out).mono ?_
  rintro e w5 ⟨x, rfl, hx, hr, ho⟩
  have HR5 : Hid (Ready w5 S c K cap (A + 4)) := hr
  have HO5 : Hid (Only S w w5) := HO4.out.trans ho
  clear hr ho hx
  go_wp2
  go_ret
  exact ⟨x, rfl, HR5.out, HO5.out⟩

theorem bytes_of_row {w : World} {a : Option Addr} {len cap : Nat} {zs : List Int} (h : IsRow .u8 w a len cap zs) : Bytes w a len ∧ (len ≠ 0 → ∀ b o s, a = some ⟨b, o, s⟩ → b < w.heap.size) := by
  rcases h with ⟨rfl, rfl, rfl, rfl⟩ | ⟨x, rfl, hl, hm, hz, hcell, hwz⟩
  · exact ⟨.inl rfl, fun h => absurd rfl h⟩
  · by_cases h0 : len = 0
    · subst h0; exact ⟨.inl rfl, fun h => absurd rfl h⟩
    obtain ⟨b, off, spot⟩ := x
    have hc := hcell 0 (by omega)
    have hspot : spot = none := by simpa [Addr.add] using World.cell?_spot hc
    subst hspot
    refine ⟨.inr ⟨b, off, rfl, fun i hi => ?_⟩, fun _ b' o s h => ?_⟩
    · have h1 := hcell i (by omega)
      have hmem : zs.getD i 0 ∈ zs := by
        rw [List.getD_eq_getElem?_getD, List.getElem?_eq_getElem (by omega)]; simp
      have hb := Go.bounds_u8 (hwz _ hmem)
      refine ⟨zs.getD i 0, ?_, hb.1, by omega⟩
      rw [← h1]
      congr 1
      cases i <;> simp [Addr.add]
    · have hb := World.block_lt_of_cell? _ _ hc
      simp at h
      simp [Addr.add] at hb
      omega

theorem ready_new {w : World} {a : Option Addr} {K cap : Nat} (hb : Bytes w a K) (ha : K ≠ 0 → ∀ b o s, a = some ⟨b, o, s⟩ → b < w.heap.size) :
    Ready (w.alloc (.cells #[.slice a K cap, .int .i64 0] 47)) w.heap.size a K cap 0 :=
  ⟨heap_alloc_new _ _, hb.below ((Below.refl _ _).alloc (Nat.le_refl _) _) ha, ha⟩

set_option maxHeartbeats 400000 in
theorem source_any (a : Option Addr) (K cap : Nat) (w : World) :
    Calls Try.prog 30 #[.slice a K cap] w fun e w' => e = .returned (.pointer (some ⟨w.heap.size, 0, none⟩)) ∧ w' = w.alloc (.cells #[.slice a K cap, .int .i64 0] 47) := by
  go_enter Try.func30, Try.ntmps30
  go_wp2
  go_ret
  exact ⟨rfl, rfl⟩

end Go.Proofs.Yteakklodmdafbaa
