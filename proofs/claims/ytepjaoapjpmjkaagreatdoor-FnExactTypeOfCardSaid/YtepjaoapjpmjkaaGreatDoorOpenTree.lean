/-
  How a tree that comes in is read.
-/
import Derived.Test.YtepjaoapjpmjkaaGreatDoorTreeM
import Derived.Lib.SmallJoins
import Derived.Deep.Slices
import Derived.ChangeOld
import Derived.ShutString
namespace Go.Proofs.YtepjaoapjpmjkaaGreatDoor
open Go.RowKit Go.ChangeShapes Go.WideShapes Go.Deep Go.Lib Go.Joins
set_option linter.unusedVariables false
theorem cellsNode : Tryz.prog.cellsOf 107 = 8 := by kernel_rfl
theorem cellsVar : Tryz.prog.cellsOf 105 = 4 := by kernel_rfl
theorem cellsTree : Tryz.prog.cellsOf 26 = 3 := by kernel_rfl
theorem cellsInt : Tryz.prog.cellsOf 2 = 1 := by kernel_rfl
theorem cellsStr : Tryz.prog.cellsOf 9 = 1 := by kernel_rfl
theorem cellsInts : Tryz.prog.cellsOf 24 = 1 := by kernel_rfl
section
variable {H : Type} {enc : TypeId × Value → H} {W : World}
theorem add_none (b o i : Nat) : (⟨b, o, none⟩ : Addr).add i = ⟨b, o + i, none⟩ := by
  unfold Addr.add
  split
  · rename_i h; first | (subst h; rfl) | (have h := of_decide_eq_true h; subst h; rfl) | (have := eq_of_beq h; subst this; rfl)
  · rfl
theorem open_intsV {fuel : Nat} {v : Value} {y : DataW H × List MemPlace} (h : DataW.trod enc Tryz.prog W 0 (fun _ => true) true fuel 24 [v] = some y) : ∃ xs, IntsV 0 W v xs ∧ xs.length ≤ 9223372036854775807 := by
  rcases open_ints Tryz.underlying24 Tryz.underlying2 (by kernel_rfl) h with ⟨hcs, _⟩ | ⟨a, len, cap, zs, hcs, _, hl, hm, hz, _, hcell, _⟩
  · simp at hcs
    subst hcs
    exact ⟨[], ⟨none, 0, rfl, Nat.le_refl _, fun h => absurd rfl h⟩, by simp⟩
  · simp at hcs
    subst hcs
    have hz : zs.length = cap := by simpa using hz
    have hlen : (zs.take len).length = len := by simp; omega
    refine ⟨zs.take len, ⟨some a, cap, by rw [hlen], by omega, fun hn => ?_⟩, by unfold maxLen at hm; omega⟩
    have h0 : 0 < len := by rcases Nat.eq_zero_or_pos len with e | e; · subst e; simp at hn
                            · exact e
    obtain ⟨b, o, spot⟩ := a
    have hs : spot = none := by simpa [Addr.add] using World.cell?_spot (hcell 0 (by omega))
    subst hs
    refine ⟨b, o, rfl, Nat.zero_le _, fun i x hx => ?_⟩
    have hi : i < len := by have := (List.getElem?_eq_some_iff.1 hx).1; omega
    have hx2 : zs[i]? = some x := by rw [List.getElem?_take] at hx; simpa [hi] using hx
    have := hcell i (by omega)
    rw [List.getD_eq_getElem?_getD, hx2, add_none] at this
    exact this
theorem gather {α : Type} [Inhabited α] {P : Nat → α → Prop} {n : Nat} (h : ∀ i, i < n → ∃ x, P i x) : ∃ xs : List α, xs.length = n ∧ ∀ i x, xs[i]? = some x → P i x := by
  classical
  refine ⟨(List.range n).map fun i => if hi : i < n then Classical.choose (h i hi) else default, by simp, fun i x hx => ?_⟩
  have hi : i < n := by have := (List.getElem?_eq_some_iff.1 hx).1; simpa using this
  have hy : (Classical.choose (h i hi)) = x := by simpa [hi] using hx
  rw [← hy]
  exact Classical.choose_spec (h i hi)
theorem range4 {f : Nat → Option Value} {cs : List Value} (h : (List.range 4).mapM f = some cs) : ∃ c0 c1 c2 c3, cs = [c0, c1, c2, c3] ∧ f 0 = some c0 ∧ f 1 = some c1 ∧ f 2 = some c2 ∧ f 3 = some c3 := by
  rw [show List.range 4 = [0, 1, 2, 3] from rfl] at h
  cases h0 : f 0 <;> cases h1 : f 1 <;> cases h2 : f 2 <;> cases h3 : f 3 <;> simp [h0, h1, h2, h3] at h
  exact ⟨_, _, _, _, h.symm, rfl, rfl, rfl, rfl⟩
theorem mapM_get {f : Nat → Option Value} : ∀ (l : List Nat) (cs : List Value), List.mapM f l = some cs → ∀ (i k : Nat), l[i]? = some k → ∃ c : Value, cs[i]? = some c ∧ f k = some c := by
  intro l
  induction l with
  | nil => intro cs h i k hk; simp at hk
  | cons a l ih =>
    intro cs h i k hk
    rw [List.mapM_cons] at h
    cases ha : f a with
    | none => simp [ha] at h
    | some c =>
      cases hl : l.mapM f with
      | none => simp [ha, hl] at h
      | some cs' =>
        simp [ha, hl] at h
        subst h
        cases i with
        | zero => simp at hk; subst hk; exact ⟨c, rfl, ha⟩
        | succ i => simpa using ih cs' hl i k (by simpa using hk)
theorem list8 {α : Type} {cs : List α} (h : cs.length = 8) : ∃ c0 c1 c2 c3 c4 c5 c6 c7, cs = [c0, c1, c2, c3, c4, c5, c6, c7] := by
  match cs, h with
  | [c0, c1, c2, c3, c4, c5, c6, c7], _ => exact ⟨c0, c1, c2, c3, c4, c5, c6, c7, rfl⟩
set_option maxRecDepth 100000 in
theorem open_varsV {fuel : Nat} {v : Value} {y : DataW H × List MemPlace} (h : DataW.trod enc Tryz.prog W 0 (fun _ => true) true fuel 22 [v] = some y) : ∃ xs, VarsV 0 W v xs ∧ xs.length ≤ 9223372036854775807 ∧ ∀ x ∈ xs, x.name.length ≤ 9223372036854775807 := by
  rcases open_slice Tryz.underlying22 h with ⟨hcs, _⟩ | ⟨a, len, cap, m, n, D, Pl, hcs, hb, hl, hm, hmm, _, hall⟩
  · simp at hcs
    subst hcs
    exact ⟨[], ⟨none, 0, rfl, Nat.le_refl _, fun h => absurd rfl h⟩, by simp, fun x hx => by cases hx⟩
  · simp at hcs
    subst hcs
    have hmm : m = cap := by simpa using hmm
    subst hmm
    have key : ∀ i, i < len → ∃ x : LVar, (W.cell? (a.add (i * 4)) = some (.string (bs x.name)) ∧ W.cell? ((a.add (i * 4)).add 1) = some (.int .i64 x.kind) ∧ W.cell? ((a.add (i * 4)).add 2) = some (.int .i64 x.type) ∧ W.cell? ((a.add (i * 4)).add 3) = some (.int .i64 x.size)) ∧ x.name.length ≤ 9223372036854775807 := by
      intro i hi
      obtain ⟨cs', h1, h2⟩ := hall i (by omega)
      rw [cellsVar] at h1
      unfold World.cells? at h1
      rw [if_pos (Nat.zero_le _)] at h1
      obtain ⟨c0, c1, c2, c3, rfl, g0, g1, g2, g3⟩ := range4 h1
      obtain ⟨y0, y1, y2, y3, n', hx, _, k0, k1, k2, k3⟩ := trod_struct4 Tryz.underlying105 h2
      rw [cellsStr] at k0
      rw [cellsInt] at k1 k2 k3
      obtain ⟨t, e0, _, ht⟩ := DataW.trod_string Tryz.underlying9 k0
      obtain ⟨k, e1, _, _⟩ := DataW.trod_int Tryz.underlying2 k1
      obtain ⟨m', e2, _, _⟩ := DataW.trod_int Tryz.underlying2 k2
      obtain ⟨q, e3, _, _⟩ := DataW.trod_int Tryz.underlying2 k3
      simp at e0 e1 e2 e3
      subst e0 e1 e2 e3
      refine ⟨⟨t.data.toList, k, m', q⟩, ⟨?_, g1, g2, g3⟩, ?_⟩
      · rw [← bs_of]; simpa [Addr.add] using g0
      · show t.data.toList.length ≤ _
        rw [Array.length_toList]
        unfold maxLen at ht
        exact Nat.le_trans ht (by omega)
    obtain ⟨xs, hxl, hxs⟩ := gather key
    refine ⟨xs, ⟨some a, m, by rw [hxl], by omega, fun hn => ?_⟩, by unfold maxLen at hm; omega, fun x hx => ?_⟩
    · have h0 : 0 < len := by rcases Nat.eq_zero_or_pos len with e | e; · rw [e] at hxl; exact absurd (List.eq_nil_of_length_eq_zero hxl) hn
                              · exact e
      obtain ⟨b, o, spot⟩ := a
      obtain ⟨x0, ⟨q0, _⟩, _⟩ := key 0 h0
      have hs : spot = none := by simpa [Addr.add] using World.cell?_spot q0
      subst hs
      refine ⟨b, o, rfl, Nat.zero_le _, fun i x hx => ?_⟩
      obtain ⟨⟨q0, q1, q2, q3⟩, _⟩ := hxs i x hx
      simp only [add_none] at q0 q1 q2 q3
      exact ⟨q0, q1, q2, q3⟩
    · obtain ⟨i, hi, rfl⟩ := List.getElem_of_mem hx
      exact (hxs i _ (List.getElem?_eq_getElem hi)).2
theorem trod_struct8 {P : Program} {w : World} {base : Nat} {spare : Nat → Bool} {held : Bool} {t : TypeId} {f0 f1 f2 f3 f4 f5 f6 f7 : Field} {fuel : Nat} {cs : List Value} {x : DataW H × List MemPlace} (ht : P.underlying t = some (.struct #[f0, f1, f2, f3, f4, f5, f6, f7])) (h : DataW.trod enc P w base spare held fuel t cs = some x) :
    ∃ y0 y1 y2 y3 y4 y5 y6 y7 n, cs.length = P.cellsOf t ∧ DataW.trod enc P w base spare held n f0.type ((cs.drop f0.offset).take (P.cellsOf f0.type)) = some y0 ∧
      DataW.trod enc P w base spare held n f1.type ((cs.drop f1.offset).take (P.cellsOf f1.type)) = some y1 ∧ DataW.trod enc P w base spare held n f2.type ((cs.drop f2.offset).take (P.cellsOf f2.type)) = some y2 ∧
      DataW.trod enc P w base spare held n f3.type ((cs.drop f3.offset).take (P.cellsOf f3.type)) = some y3 ∧ DataW.trod enc P w base spare held n f4.type ((cs.drop f4.offset).take (P.cellsOf f4.type)) = some y4 ∧
      DataW.trod enc P w base spare held n f5.type ((cs.drop f5.offset).take (P.cellsOf f5.type)) = some y5 ∧ DataW.trod enc P w base spare held n f6.type ((cs.drop f6.offset).take (P.cellsOf f6.type)) = some y6 ∧
      DataW.trod enc P w base spare held n f7.type ((cs.drop f7.offset).take (P.cellsOf f7.type)) = some y7 := by
  obtain ⟨xs, n, _, rfl, hl, hlen, hf⟩ := DataW.trod_struct ht h
  match xs, hlen with
  | [y0, y1, y2, y3, y4, y5, y6, y7], _ => exact ⟨y0, y1, y2, y3, y4, y5, y6, y7, n, hl, by simpa using hf 0 f0 rfl, by simpa using hf 1 f1 rfl, by simpa using hf 2 f2 rfl, by simpa using hf 3 f3 rfl, by simpa using hf 4 f4 rfl, by simpa using hf 5 f5 rfl, by simpa using hf 6 f6 rfl, by simpa using hf 7 f7 rfl⟩
def NodeFit (n : LNode) : Prop := n.name.length ≤ 9223372036854775807 ∧ n.kids.length ≤ 9223372036854775807 ∧ n.thn.length ≤ 9223372036854775807 ∧ n.els.length ≤ 9223372036854775807
set_option maxRecDepth 100000 in
theorem open_nodesV {fuel : Nat} {v : Value} {y : DataW H × List MemPlace} (h : DataW.trod enc Tryz.prog W 0 (fun _ => true) true fuel 23 [v] = some y) : ∃ xs, NodesV 0 W v xs ∧ xs.length ≤ 9223372036854775807 ∧ ∀ x ∈ xs, NodeFit x := by
  rcases open_slice Tryz.underlying23 h with ⟨hcs, _⟩ | ⟨a, len, cap, m, n, D, Pl, hcs, hb, hl, hm, hmm, _, hall⟩
  · simp at hcs
    subst hcs
    exact ⟨[], ⟨none, 0, rfl, Nat.le_refl _, fun h => absurd rfl h⟩, by simp, fun x hx => by cases hx⟩
  · simp at hcs
    subst hcs
    have hmm : m = cap := by simpa using hmm
    subst hmm
    have key : ∀ i, i < len → ∃ x : LNode, (∃ vk vt ve, (W.cell? ((a.add (i * 8)).add 0) = some (.int .i64 x.kind) ∧ W.cell? ((a.add (i * 8)).add 1) = some (.int .i64 x.op) ∧ W.cell? ((a.add (i * 8)).add 2) = some (.string (bs x.name)) ∧ W.cell? ((a.add (i * 8)).add 3) = some (.int .i64 x.num) ∧ W.cell? ((a.add (i * 8)).add 4) = some (.int .i64 x.far) ∧ W.cell? ((a.add (i * 8)).add 5) = some vk ∧ W.cell? ((a.add (i * 8)).add 6) = some vt ∧ W.cell? ((a.add (i * 8)).add 7) = some ve) ∧ NodeVals 0 W x vk vt ve) ∧ NodeFit x := by
      intro i hi
      obtain ⟨cs', h1, h2⟩ := hall i (by omega)
      rw [cellsNode] at h1
      unfold World.cells? at h1
      rw [if_pos (Nat.zero_le _)] at h1
      obtain ⟨y0, y1, y2, y3, y4, y5, y6, y7, n', hln, k0, k1, k2, k3, k4, k5, k6, k7⟩ := trod_struct8 Tryz.underlying107 h2
      rw [cellsNode] at hln
      obtain ⟨c0, c1, c2, c3, c4, c5, c6, c7, rfl⟩ := list8 hln
      have g : ∀ (j : Nat) (c : Value), [c0, c1, c2, c3, c4, c5, c6, c7][j]? = some c → W.cell? ((a.add (i * 8)).add j) = some c := fun j c hc => by
        have hj : j < 8 := by have := (List.getElem?_eq_some_iff.1 hc).1; simpa using this
        obtain ⟨c', e1, e2⟩ := mapM_get _ _ h1 j j (by rw [List.getElem?_range hj])
        rw [hc] at e1
        cases e1
        exact e2
      rw [cellsInt] at k0 k1 k3 k4
      rw [cellsStr] at k2
      rw [cellsInts] at k5 k6 k7
      obtain ⟨z0, e0, _, _⟩ := DataW.trod_int Tryz.underlying2 k0
      obtain ⟨z1, e1, _, _⟩ := DataW.trod_int Tryz.underlying2 k1
      obtain ⟨t, e2, _, ht⟩ := DataW.trod_string Tryz.underlying9 k2
      obtain ⟨z3, e3, _, _⟩ := DataW.trod_int Tryz.underlying2 k3
      obtain ⟨z4, e4, _, _⟩ := DataW.trod_int Tryz.underlying2 k4
      simp at e0 e1 e2 e3 e4 k5 k6 k7
      subst e0 e1 e2 e3 e4
      obtain ⟨ks, hks, lks⟩ := open_intsV k5
      obtain ⟨ts, hts, lts⟩ := open_intsV k6
      obtain ⟨es, hes, les⟩ := open_intsV k7
      refine ⟨⟨z0, z1, t.data.toList, z3, z4, ks, ts, es⟩, ⟨c5, c6, c7, ⟨g 0 _ rfl, g 1 _ rfl, by rw [← bs_of]; exact g 2 _ rfl, g 3 _ rfl, g 4 _ rfl, g 5 _ rfl, g 6 _ rfl, g 7 _ rfl⟩, hks, hts, hes⟩, ?_, lks, lts, les⟩
      show t.data.toList.length ≤ _
      rw [Array.length_toList]
      unfold maxLen at ht
      exact Nat.le_trans ht (by omega)
    obtain ⟨xs, hxl, hxs⟩ := gather key
    refine ⟨xs, ⟨some a, m, by rw [hxl], by omega, fun hn => ?_⟩, by unfold maxLen at hm; omega, fun x hx => ?_⟩
    · have h0 : 0 < len := by rcases Nat.eq_zero_or_pos len with e | e; · rw [e] at hxl; exact absurd (List.eq_nil_of_length_eq_zero hxl) hn
                              · exact e
      obtain ⟨b, o, spot⟩ := a
      obtain ⟨x0, ⟨_, _, _, ⟨q0, _⟩, _⟩, _⟩ := key 0 h0
      have hs : spot = none := by simpa [Addr.add] using World.cell?_spot q0
      subst hs
      refine ⟨b, o, rfl, Nat.zero_le _, fun i x hx => ?_⟩
      obtain ⟨⟨vk, vt, ve, ⟨q0, q1, q2, q3, q4, q5, q6, q7⟩, hv⟩, _⟩ := hxs i x hx
      simp only [add_none, Nat.add_zero] at q0 q1 q2 q3 q4 q5 q6 q7
      exact ⟨vk, vt, ve, ⟨q0, q1, q2, q3, q4, q5, q6, q7⟩, hv⟩
    · obtain ⟨i, hi, rfl⟩ := List.getElem_of_mem hx
      exact (hxs i _ (List.getElem?_eq_getElem hi)).2
structure IsTree (w : World) (vv vn vb : Value) (T : LTree) : Prop where
  tree : TreeV 0 w vv vn vb T
  fits : Sized 9223372036854775807 T
set_option maxRecDepth 100000 in
theorem open_tree {base : Nat} {v : Value} {d : DataW H} {p : List MemPlace} (hv : Value.okWide Tryz.prog W .any base 26 v) (h : DataW.Trod enc Tryz.prog W 0 (fun _ => true) true 26 v d p) :
    ∃ (vv vn vb : Value) (T : LTree), v = treeV vv vn vb ∧ IsTree W vv vn vb T := by
  obtain ⟨v0, v1, v2, y0, y1, y2, n, rfl, _, _, h0, h1, h2⟩ := open_agg3 Tryz.underlying26 (by kernel_rfl) cellsTree hv h
  obtain ⟨vs, hvs, lv, nv⟩ := open_varsV h0
  obtain ⟨ns, hns, ln, nn⟩ := open_nodesV h1
  obtain ⟨bs, hbs, lb⟩ := open_intsV h2
  exact ⟨v0, v1, v2, ⟨vs, ns, bs⟩, rfl, ⟨hvs, hns, hbs⟩, lv, ln, lb, nv, nn⟩
end
end Go.Proofs.YtepjaoapjpmjkaaGreatDoor
