/-
  The source, spec.l1DrawWord: what each law that draws begins with. Nothing that was there turns.
-/
import Derived.Test.YtlofagpffeaebaaDraw
namespace Go.Proofs.Ytlofagpffeaebaa
open Go.RowKit

/-- what all draws ask of the source -/
structure Ready (w : World) (S : Nat) (c : Option Addr) (K cap A : Nat) : Prop where
  src : Src w S c K cap A
  bytes : Bytes w c K
  ahead : K ≠ 0 → ∀ b o s, c = some ⟨b, o, s⟩ → b < S
theorem Ready.step {w w' : World} {S K cap A A' : Nat} {c : Option Addr} (h : Ready w S c K cap A) (hs : Src w' S c K cap A') (ho : Only S w w') : Ready w' S c K cap A' :=
  ⟨hs, h.bytes.below ho.1 h.ahead, h.ahead⟩
theorem Ready.below {w w' : World} {S K cap A : Nat} {c : Option Addr} (h : Ready w S c K cap A) (hb : Below w.heap.size w w') : Ready w' S c K cap A :=
  ⟨h.src.below hb, h.bytes.below (hb.mono (Nat.le_of_lt h.src.lt)) h.ahead, h.ahead⟩

theorem draw_next (S K cap A : Nat) (c : Option Addr) (n : Int) (w : World) (hK : K ≤ 1048576) (hA : A ≤ 1000000) (hn0 : 0 ≤ n) (hn1 : n ≤ 100000) (h : Ready w S c K cap A) :
    Calls Try.prog 36 #[.pointer (some ⟨S, 0, none⟩), .int .i64 n] w fun e w' => ∃ r : Int, e = .returned (.int .i64 r) ∧ 0 ≤ r ∧ (r < n ∨ r = 0) ∧ Ready w' S c K cap (A + 1) ∧ Only S w w' := by
  refine (next_any S K cap A c n w hK hA hn0 hn1 h.src h.bytes h.ahead).mono ?_
  rintro e w' ⟨r, rfl, h0, h1, hs, ho⟩
  exact ⟨r, rfl, h0, h1, h.step hs ho, ho⟩
theorem draw_pick (S K cap A : Nat) (c : Option Addr) (g : Nat) (xs : List Int) (m cp : Nat) (w : World) (hK : K ≤ 1048576) (hA : A ≤ 1000000) (hm : m = xs.length) (hm0 : 0 < m) (hm1 : m ≤ 100) (hx : Picks w g xs) (hgS : g ≠ S) (h : Ready w S c K cap A) :
    Calls Try.prog 35 #[.pointer (some ⟨S, 0, none⟩), .slice (some ⟨g, 0, none⟩) m cp] w fun e w' => ∃ x : Int, e = .returned (.int .i64 x) ∧ x ∈ xs ∧ Ready w' S c K cap (A + 1) ∧ Only S w w' := by
  refine (pick_any S K cap A c g xs m cp w hK hA hm hm0 hm1 hx hgS h.src h.bytes h.ahead).mono ?_
  rintro e w' ⟨r, rfl, h0, hs, ho⟩
  exact ⟨r, rfl, h0, h.step hs ho, ho⟩

theorem picks_new (w : World) (xs : List Int) (T : TypeId) : Picks (w.alloc (.cells (xs.map (Value.int .i64)).toArray T)) w.heap.size xs := by
  intro i hi
  rw [cell_of_row _ _ i _ _ _ (heap_alloc_new w _)]
  rw [List.getD_eq_getElem?_getD, List.getElem?_eq_getElem hi]
  simp [List.getElem?_eq_getElem hi]

theorem bytes_of_row {w : World} {a : Option Addr} {len cap : Nat} {zs : List Int} (h : IsRow .u8 w a len cap zs) : Bytes w a len ∧ (len ≠ 0 → ∀ b o s, a = some ⟨b, o, s⟩ → b < w.heap.size) := by
  rcases h with ⟨rfl, rfl, rfl, rfl⟩ | ⟨x, rfl, hl, hm, hz, hcell, hwz⟩
  · exact ⟨.inl rfl, fun h => absurd rfl h⟩
  · by_cases h0 : len = 0
    · subst h0; exact ⟨.inl rfl, fun h => absurd rfl h⟩
    obtain ⟨b, off, spot⟩ := x
    have hc := hcell 0 (by omega)
    have hspot : spot = none := by simpa [Addr.add] using World.cell?_spot hc
    subst hspot
    refine ⟨.inr ⟨b, off, rfl, fun i hi => ?_⟩, fun _ b' o s h => ?_⟩
    · have h1 := hcell i (by omega)
      have hmem : zs.getD i 0 ∈ zs := by
        rw [List.getD_eq_getElem?_getD, List.getElem?_eq_getElem (by omega)]; simp
      have hb := Go.bounds_u8 (hwz _ hmem)
      refine ⟨zs.getD i 0, ?_, hb.1, by omega⟩
      rw [← h1]
      congr 1
      cases i <;> simp [Addr.add]
    · have hb := World.block_lt_of_cell? _ _ hc
      simp at h
      simp [Addr.add] at hb
      omega

theorem ready_new {w : World} {a : Option Addr} {K cap : Nat} (hb : Bytes w a K) (ha : K ≠ 0 → ∀ b o s, a = some ⟨b, o, s⟩ → b < w.heap.size) :
    Ready (w.alloc (.cells #[.slice a K cap, .int .i64 0] 113)) w.heap.size a K cap 0 :=
  ⟨heap_alloc_new _ _, hb.below ((Below.refl _ _).alloc (Nat.le_refl _) _) ha, ha⟩

set_option maxHeartbeats 400000 in
theorem source_any (a : Option Addr) (K cap : Nat) (w : World) :
    Calls Try.prog 32 #[.slice a K cap] w fun e w' => e = .returned (.pointer (some ⟨w.heap.size, 0, none⟩)) ∧ w' = w.alloc (.cells #[.slice a K cap, .int .i64 0] 113) := by
  go_enter Try.func32, Try.ntmps32
  go_wp2
  go_ret
  exact ⟨rfl, rfl⟩

end Go.Proofs.Ytlofagpffeaebaa
