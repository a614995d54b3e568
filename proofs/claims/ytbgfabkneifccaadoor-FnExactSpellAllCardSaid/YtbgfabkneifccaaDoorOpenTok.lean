/-
  How tokens that come in are read: one by value; a slice of them.
-/
import Derived.Test.YtbgfabkneifccaaDoorBase
import Derived.Lib.SmallJoins
import Derived.Deep.Slices
import Derived.ChangeOld
import Derived.ShutString
namespace Go.Proofs.YtbgfabkneifccaaDoor
open Go.RowKit Go.ChangeShapes Go.WideShapes Go.Deep Go.Lib Go.Joins
set_option linter.unusedVariables false

theorem cellsTok : Tryd.prog.cellsOf 38 = 4 := by kernel_rfl
theorem cellsI : Tryd.prog.cellsOf 2 = 1 := by kernel_rfl
theorem cellsS : Tryd.prog.cellsOf 9 = 1 := by kernel_rfl
section
variable {H : Type} {enc : TypeId × Value → H} {W : World} {base : Nat}
set_option maxRecDepth 100000 in
theorem open_tok {v : Value} {d : DataW H} {p : List MemPlace} (hv : Value.okWide Tryd.prog W .any base 38 v) (h : DataW.Trod enc Tryd.prog W 0 (fun _ => true) true 38 v d p) :
    ∃ (k : Int) (t : ByteArray) (n q : Int), v = .agg #[.int .i64 k, .string t, .int .i64 n, .int .i64 q] ∧ t.size ≤ maxLen := by
  obtain ⟨v0, v1, v2, v3, y0, y1, y2, y3, n, rfl, _, _, h0, h1, h2, h3⟩ := open_agg4 Tryd.underlying38 (by kernel_rfl) cellsTok hv h
  obtain ⟨k, e0, _, _⟩ := DataW.trod_int Tryd.underlying2 h0
  obtain ⟨t, e1, _, ht⟩ := DataW.trod_string Tryd.underlying9 h1
  obtain ⟨m, e2, _, _⟩ := DataW.trod_int Tryd.underlying2 h2
  obtain ⟨q, e3, _, _⟩ := DataW.trod_int Tryd.underlying2 h3
  cases e0; cases e1; cases e2; cases e3
  exact ⟨k, t, m, q, rfl, ht⟩

/-- a slice of tokens that came in -/
def IsToks (w : World) (a : Option Addr) (len cap : Nat) (z : List (Int × ByteArray × Int × Int)) : Prop :=
  z.length = len ∧ len ≤ cap ∧ cap ≤ maxLen ∧ (len ≠ 0 → ∃ b o, a = some ⟨b, o, none⟩ ∧ b < w.heap.size ∧ ∀ (i : Nat) y, z[i]? = some y →
    w.cell? ⟨b, o + i * 4, none⟩ = some (.int .i64 y.1) ∧ w.cell? ⟨b, o + i * 4 + 1, none⟩ = some (.string y.2.1) ∧ w.cell? ⟨b, o + i * 4 + 2, none⟩ = some (.int .i64 y.2.2.1) ∧ w.cell? ⟨b, o + i * 4 + 3, none⟩ = some (.int .i64 y.2.2.2)) ∧
    ∀ y ∈ z, y.2.1.size ≤ maxLen

theorem range_four {f : Nat → Option Value} {cs : List Value} (h : (List.range 4).mapM f = some cs) : ∃ c0 c1 c2 c3, cs = [c0, c1, c2, c3] ∧ f 0 = some c0 ∧ f 1 = some c1 ∧ f 2 = some c2 ∧ f 3 = some c3 := by
  rw [show List.range 4 = [0, 1, 2, 3] from rfl] at h
  cases h0 : f 0 <;> cases h1 : f 1 <;> cases h2 : f 2 <;> cases h3 : f 3 <;> simp [h0, h1, h2, h3] at h
  exact ⟨_, _, _, _, h.symm, rfl, rfl, rfl, rfl⟩
set_option maxRecDepth 100000 in
theorem open_toks {a : Option Addr} {len cap : Nat} {d : DataW H} {p : List MemPlace} (h : DataW.Trod enc Tryd.prog W 0 (fun _ => true) true 43 (.slice a len cap) d p) : ∃ z, IsToks W a len cap z := by
  obtain ⟨fuel, hf⟩ := h
  rcases open_slice Tryd.underlying43 hf with ⟨hcs, _⟩ | ⟨x, l, c, m, n, D, Pl, hcs, hb, hl, hm, hmm, _, hall⟩
  · simp [Value.cells] at hcs
    obtain ⟨rfl, rfl, rfl⟩ := hcs
    exact ⟨[], rfl, by omega, by unfold maxLen; omega, fun h => absurd rfl h, fun y hy => by cases hy⟩
  · simp [Value.cells] at hcs
    obtain ⟨rfl, rfl, rfl⟩ := hcs
    have hmm : m = cap := by simpa using hmm
    subst hmm
    have key : ∀ i, i < len → ∃ y : Int × ByteArray × Int × Int, W.cell? (x.add (i * 4)) = some (.int .i64 y.1) ∧ W.cell? ((x.add (i * 4)).add 1) = some (.string y.2.1) ∧ W.cell? ((x.add (i * 4)).add 2) = some (.int .i64 y.2.2.1) ∧ W.cell? ((x.add (i * 4)).add 3) = some (.int .i64 y.2.2.2) ∧ y.2.1.size ≤ maxLen := by
      intro i hi
      obtain ⟨cs', h1, h2⟩ := hall i (by omega)
      rw [cellsTok] at h1
      unfold World.cells? at h1
      rw [if_pos (Nat.zero_le _)] at h1
      obtain ⟨c0, c1, c2, c3, rfl, g0, g1, g2, g3⟩ := range_four h1
      obtain ⟨y0, y1, y2, y3, n', hx, _, k0, k1, k2, k3⟩ := trod_struct4 Tryd.underlying38 h2
      rw [cellsI] at k0 k2 k3
      rw [cellsS] at k1
      obtain ⟨k, e0, _, _⟩ := DataW.trod_int Tryd.underlying2 k0
      obtain ⟨t, e1, _, ht⟩ := DataW.trod_string Tryd.underlying9 k1
      obtain ⟨m', e2, _, _⟩ := DataW.trod_int Tryd.underlying2 k2
      obtain ⟨q, e3, _, _⟩ := DataW.trod_int Tryd.underlying2 k3
      simp at e0 e1 e2 e3
      subst e0 e1 e2 e3
      exact ⟨(k, t, m', q), by simpa [Addr.add] using g0, g1, g2, g3, ht⟩
    obtain ⟨f, hf⟩ : ∃ f : Nat → Int × ByteArray × Int × Int, ∀ i, i < len → W.cell? (x.add (i * 4)) = some (.int .i64 (f i).1) ∧ W.cell? ((x.add (i * 4)).add 1) = some (.string (f i).2.1) ∧ W.cell? ((x.add (i * 4)).add 2) = some (.int .i64 (f i).2.2.1) ∧ W.cell? ((x.add (i * 4)).add 3) = some (.int .i64 (f i).2.2.2) ∧ (f i).2.1.size ≤ maxLen := by
      classical
      refine ⟨fun i => if hi : i < len then Classical.choose (key i hi) else (0, ByteArray.empty, 0, 0), fun i hi => ?_⟩
      simp only [dif_pos hi]
      exact Classical.choose_spec (key i hi)
    refine ⟨(List.range len).map f, by simp, hl, hm, fun h0 => ?_, fun y hy => ?_⟩
    · obtain ⟨b, off, spot⟩ := x
      have hc := (hf 0 (by omega)).1
      have hspot : spot = none := by simpa [Addr.add] using World.cell?_spot hc
      subst hspot
      have hbl := World.block_lt_of_cell? _ _ hc
      refine ⟨b, off, rfl, by simpa [Addr.add] using hbl, fun i y hy => ?_⟩
      have hi : i < len := by have := (List.getElem?_eq_some_iff.1 hy).1; simpa using this
      have hy2 : f i = y := by simpa [hi] using hy
      obtain ⟨q0, q1, q2, q3, _⟩ := hf i hi
      rw [hy2] at q0 q1 q2 q3
      have e : ∀ j, (Addr.add ⟨b, off, none⟩ (i * 4)).add j = ⟨b, off + i * 4 + j, none⟩ := fun j => by
        unfold Addr.add
        by_cases h1 : i * 4 = 0 <;> by_cases h2 : j = 0 <;> simp [h1, h2] <;> omega
      have e0 := e 0
      rw [e 1] at q1
      rw [e 2] at q2
      rw [e 3] at q3
      have q0' : W.cell? ((Addr.add ⟨b, off, none⟩ (i * 4)).add 0) = some (.int .i64 y.1) := by
        show W.cell? (Addr.add (Addr.add ⟨b, off, none⟩ (i * 4)) 0) = _
        rw [show Addr.add (Addr.add ⟨b, off, none⟩ (i * 4)) 0 = Addr.add ⟨b, off, none⟩ (i * 4) from rfl]
        exact q0
      rw [e0] at q0'
      exact ⟨q0', q1, q2, q3⟩
    · obtain ⟨i, hi, rfl⟩ := List.mem_map.1 hy
      exact (hf i (List.mem_range.1 hi)).2.2.2.2
end
end Go.Proofs.YtbgfabkneifccaaDoor
