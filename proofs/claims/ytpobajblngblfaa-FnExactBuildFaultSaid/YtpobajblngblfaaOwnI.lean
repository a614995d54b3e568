/-
  A row of numbers of its own.
-/
import Derived.Test.YtpobajblngblfaaBase
import Derived.OwnWalk
import Derived.Laws.OwnMore
import Derived.Laws.Rows
namespace Go.Proofs.Ytpobajblngblfaa
open Go.RowKit

theorem infoInt : (Try.prog.info? 2).map (fun i => (i.zero, i.size, i.bytes)) = some (some (.int .i64 0), 1, 8) := by kernel_rfl

/-- the slice v is new memory (blocks from B on) and holds zs -/
abbrev Own (w : World) (B : Nat) (v : Value) (zs : List Int) : Prop := w.ownsRow B 2 1 v zs.length (zs.map (Value.int .i64))

theorem nums_of_own {w : World} {B n cap : Nat} {a : Option Addr} {zs : List Int} (h : Own w B (.slice a n cap) zs) : n = zs.length ∧ Nums w a zs := by
  obtain ⟨hl, h | ⟨g, c, cur, hv, hg, hh, h1, h2, h3, h4⟩⟩ := h
  · obtain ⟨hv, hn⟩ := h
    simp at hv
    exact ⟨by omega, .inl (List.eq_nil_of_length_eq_zero hn)⟩
  · simp at hv
    obtain ⟨rfl, rfl, rfl⟩ := hv
    refine ⟨rfl, .inr ⟨g, 0, rfl, fun i hi => ?_⟩⟩
    have ho : w.ownsRow B 2 1 (.slice (some ⟨g, 0, none⟩) zs.length cap) zs.length (zs.map (Value.int .i64)) := ⟨hl, .inr ⟨g, cap, cur, rfl, hg, hh, h1, h2, h3, h4⟩⟩
    rw [Nat.zero_add, ho.cellAt i (by omega), List.getElem?_map, List.getElem?_eq_getElem hi, List.getD_eq_getElem?_getD, List.getElem?_eq_getElem hi]
    rfl

/-- what came in, its first 'len' numbers -/
theorem nums_of_row {w : World} {a : Option Addr} {len cap : Nat} {zs : List Int} (h : IsRow .i64 w a len cap zs) : (zs.take len).length = len ∧ Nums w a (zs.take len) := by
  rcases h with ⟨rfl, rfl, rfl, rfl⟩ | ⟨x, rfl, hl, hm, hz, hcell, hwz⟩
  · exact ⟨rfl, .inl rfl⟩
  · refine ⟨by simp; omega, ?_⟩
    by_cases h0 : len = 0
    · subst h0; exact .inl rfl
    obtain ⟨b, off, spot⟩ := x
    have hc := hcell 0 (by omega)
    have hspot : spot = none := by simpa [Addr.add] using World.cell?_spot hc
    subst hspot
    refine .inr ⟨b, off, rfl, fun i hi => ?_⟩
    have hi2 : i < len := by simp at hi; omega
    have := hcell i (by omega)
    rw [List.getD_eq_getElem?_getD] at this ⊢
    rw [List.getElem?_take_of_lt hi2, ← this]
    congr 1
    cases i <;> simp [Addr.add]

theorem own_shape {w : World} {B n : Nat} {v : Value} {xs : List Value} (h : w.ownsRow B 2 1 v n xs) : ∃ a cap, v = .slice a n cap := by
  rcases h.2 with ⟨rfl, rfl⟩ | ⟨g, c, cur, rfl, _⟩
  · exact ⟨_, _, rfl⟩
  · exact ⟨_, _, rfl⟩
theorem own_mono {w : World} {B C n : Nat} {v : Value} {xs : List Value} (h : w.ownsRow B 2 1 v n xs) (hC : C ≤ B) : w.ownsRow C 2 1 v n xs := by
  refine ⟨h.1, ?_⟩
  rcases h.2 with h2 | ⟨g, c, cur, rfl, hg, hr⟩
  · exact .inl h2
  · exact .inr ⟨g, c, cur, rfl, by omega, hr⟩
/-- what is owned stays owned where only new blocks come -/
theorem own_kept {w w' : World} {B n : Nat} {v : Value} {xs : List Value} (h : w.ownsRow B 2 1 v n xs) (hb : Below w.heap.size w w') : w'.ownsRow B 2 1 v n xs := by
  refine ⟨h.1, ?_⟩
  rcases h.2 with h2 | ⟨g, c, cur, rfl, hg, hh, hr⟩
  · exact .inl h2
  · refine .inr ⟨g, c, cur, rfl, hg, ?_, hr⟩
    rw [hb.block g (Array.getElem?_eq_some_iff.1 hh).1]; exact hh

/-- an IntsResult -/
abbrev resL (c : Int) (v : Value) : Value := .agg #[.int .i64 c, v]

theorem own_other {w w' : World} {B n : Nat} {v : Value} {xs : List Value} (h : w.ownsRow B 2 1 v n xs) (hs : ∀ g, v.ownBlock = some g → w'.heap[g]? = w.heap[g]?) : w'.ownsRow B 2 1 v n xs := by
  refine ⟨h.1, ?_⟩
  rcases h.2 with h2 | ⟨g, c, cur, rfl, hg, hh, hr⟩
  · exact .inl h2
  · refine .inr ⟨g, c, cur, rfl, hg, ?_, hr⟩
    rw [hs g rfl]; exact hh
theorem own_lt {w : World} {B n m cap : Nat} {a : Option Addr} {xs : List Value} (h : w.ownsRow B 2 1 (.slice a m cap) n xs) {g : Nat} (ha : a = some ⟨g, 0, none⟩) : B ≤ g ∧ g < w.heap.size := by
  subst ha; exact h.lt g rfl
theorem own_len {w : World} {B n m cap : Nat} {a : Option Addr} {xs : List Value} (h : w.ownsRow B 2 1 (.slice a m cap) n xs) : m = n := by
  rcases h.2 with ⟨h1, h2⟩ | ⟨g, c, cur, h1, _⟩
  · simp at h1; omega
  · simp at h1; exact h1.2.1
theorem own_at {w : World} {B n m cap g : Nat} {a : Option Addr} {xs : List Value} (h : w.ownsRow B 2 1 (.slice a m cap) n xs) (hg : (Value.slice a m cap).ownBlock = some g) : a = some ⟨g, 0, none⟩ := by
  rcases h.2 with ⟨h, _⟩ | ⟨q, c, cur, h, _⟩ <;> simp at h
  · rw [h.1] at hg; simp [Value.ownBlock] at hg
  · rw [h.1] at hg ⊢; simp [Value.ownBlock] at hg; rw [hg]
end Go.Proofs.Ytpobajblngblfaa
