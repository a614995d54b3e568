/-
  A slice of numbers wherever it lies; a row of numbers appended to a row of one's own.
-/
import Derived.Test.YtpobajblngblfaaOwnI
import Derived.Maps.AppendAt
import Derived.Laws.AppendOwn
namespace Go.Proofs.Ytpobajblngblfaa
open Go.RowKit
set_option linter.unusedVariables false

/-- a slice of the numbers zs, wherever it lies -/
def RowV (w : World) (v : Value) (zs : List Int) : Prop := ∃ a c, v = .slice a zs.length c ∧ Nums w a zs ∧ (a = none → c = 0)
theorem RowV.below {w w' : World} {v : Value} {zs : List Int} (h : RowV w v zs) (hb : Below w.heap.size w w') : RowV w' v zs := by
  obtain ⟨a, c, rfl, hn, hc⟩ := h
  exact ⟨a, c, rfl, hn.below hb, hc⟩
theorem own_row {w : World} {B : Nat} {v : Value} {zs : List Int} (h : Own w B v zs) : RowV w v zs := by
  obtain ⟨a, c, rfl⟩ := own_shape h
  refine ⟨a, c, rfl, (nums_of_own h).2, fun ha => ?_⟩
  subst ha
  rcases h.2 with ⟨h1, _⟩ | ⟨g, c2, cur, h1, _⟩
  · simp at h1; exact h1.2
  · simp at h1
/-- appending a row of numbers to a row of one's own -/
theorem append_nums (w : World) (B : Nat) (ty : TypeId) (v : Value) (xs zs : List Int) (hown : Own w B v xs) (a : Option Addr) (c : Nat) (hn : Nums w a zs) (hc : a = none → c = 0) (hz : a = none → zs = []) (hl : xs.length + zs.length ≤ 2097152) (hbase : B ≤ w.heap.size) :
    ∃ v' w', (Builtin.append_ #[23, 23] ty #[v, .slice a zs.length c]).run Try.prog w = .ok v' w' ∧ Own w' B v' (xs ++ zs) ∧ w.grownBy w' v.ownBlock ∧ (v'.ownBlock = v.ownBlock ∨ v'.ownBlock = some w.heap.size) := by
  obtain ⟨i0, hi, hz0, hz1, hz2⟩ := info_parts infoInt
  cases a with
  | none =>
    rw [hc rfl, hz rfl]
    refine ⟨v, w, ?_, by simpa using hown, World.grownBy.refl _ _, .inl rfl⟩
    exact run_append_owned_none (P := Try.prog) w B 23 ty 2 i0 1 Try.underlying23 hi v xs.length (xs.map (Value.int .i64)) hown
  | some ad =>
    have hcells : ∀ j u, (zs.map (Value.int .i64))[j]? = some u → w.cell? (ad.add j) = some u := fun j u hu => by
      rcases hn with hn | ⟨b, off, hab, hcc⟩
      · subst hn; simp at hu
      · have hab2 := Option.some.inj hab
        subst hab2
        have hj : j < zs.length := by
          have := (List.getElem?_eq_some_iff.1 hu).1
          simpa using this
        rw [Addr.add_lit, hcc j hj]
        rw [List.getElem?_map, List.getElem?_eq_getElem hj] at hu
        rw [List.getD_eq_getElem?_getD, List.getElem?_eq_getElem hj]
        simpa using hu
    obtain ⟨v', w', hr, h2, h3, _, h5⟩ := run_append_own_at (P := Try.prog) w B 23 ty 2 i0 (.int .i64 0) 1 8 Try.underlying23 hi hz0 hz1 hz2 rfl (by omega) v xs.length (xs.map (Value.int .i64)) hown ad zs.length c (zs.map (Value.int .i64)) (by simp) hcells (ints_oneCell _ _) (by unfold maxLen; omega) (by omega) hbase
    refine ⟨v', w', hr, ?_, h3, h5⟩
    show World.ownsRow _ _ _ _ _ _ _
    rw [List.length_append, List.map_append]
    exact h2
theorem wpList_append_nums {w : World} {ops : Array Oper} {rest : List Oper} {o : Oper} {a : Act} {Q : Exit → Act → World → Prop} (hgd : o.guard = none) (s x : Operand)
    (ho : o.op = .call { callee := .builtin .append, args := #[s, x], argTypes := #[23, 23] }) (B : Nat) (v : Value) (xs zs : List Int) (hs : a.eval s = v) (hown : Own w B v xs) (ad : Option Addr) (c : Nat) (hx : a.eval x = .slice ad zs.length c)
    (hn : Nums w ad zs) (hc : ad = none → c = 0) (hz : ad = none → zs = []) (hl : xs.length + zs.length ≤ 2097152) (hbase : B ≤ w.heap.size)
    (h : ∀ v' w', Hid (Own w' B v' (xs ++ zs)) → Hid (w.grownBy w' v.ownBlock) → Hid (v'.ownBlock = v.ownBlock ∨ v'.ownBlock = some w.heap.size) → wpList Try.prog ops Q rest (a.put o.dst v') w') : wpList Try.prog ops Q (o :: rest) a w := by
  refine wpList_plain hgd fun K hK => ?_
  obtain ⟨v', w', hr, h2, h3, h4⟩ := append_nums w B o.type v xs zs hown ad c hn hc hz hl hbase
  unfold Oper.wp execOp
  simp only [ho, resolve, invoke, builtin, Sem.run_bind, Sem.run_pure, Result.andThen_ok, List.map_toArray, List.map_cons, List.map_nil, hs, hx, hr]
  exact hK _ _ (h v' w' h2 h3 h4)
theorem rowZ {w : World} {a : Option Addr} {zs : List Int} (h : Nums w a zs) : a = none → zs = [] := by
  rintro rfl
  rcases h with h | ⟨b, o, h, _⟩
  · exact h
  · cases h
/-- a new empty row -/
theorem own_new (w : World) (B : Nat) (h : B ≤ w.heap.size) : Own (w.alloc (.cells #[] 2)) B (.slice (some ⟨w.heap.size, 0, none⟩) 0 0) [] :=
  World.ownsRow_made w #[] 0 h (Nat.zero_le _) rfl
theorem one_numR (w : World) (x : Int) : Nums (w.alloc (.cells #[.int .i64 x] 2)) (some ⟨w.heap.size, 0, none⟩) [x] := by
  refine .inr ⟨w.heap.size, 0, rfl, fun i hi => ?_⟩
  have : i = 0 := by simp at hi; omega
  subst this
  exact cell_of_row _ _ 0 _ _ _ (heap_alloc_new w (.cells #[.int .i64 x] 2))
end Go.Proofs.Ytpobajblngblfaa
