/-
  A machine in memory: its block, its rows; what a store, an append make of it.
-/
import Derived.Test.YtcikofhbfncgdaaStkM
import Derived.Deep.RegionHeld3
import Derived.Test.YtcikofhbfncgdaaCopy
import Derived.Maps.AppendAt
import Derived.Laws.AppendOwn
namespace Go.Proofs.Ytcikofhbfncgdaa
open Go.RowKit
set_option linter.unusedVariables false

/-- a row's block behind a call -/
theorem blk8 {w w' : World} {g : Nat} {cs : Array Value} {T : TypeId} (h : w.heap[g]? = some (.cells cs T (0, 0))) (hb : Below w.heap.size w w') : w'.heap[g]? = some (.cells cs T (0, 0)) :=
  (hb.block g (Array.getElem?_eq_some_iff.1 h).1).trans h
set_option maxHeartbeats 400000 in
theorem implSignOf (s k : Int) (w : World) : Calls Try.prog 138 #[.int .i64 s, .int .i64 k] w fun e w' => e = .returned (.int .i64 (sgn s k)) ∧ w' = w := by
  have h1 := wd_lo s; have h2 := wd_hi s; have h3 := wd_lo k; have h4 := wd_hi k
  have HA : Hid (∀ W, Calls Try.prog 160 #[.int .i64 s] W fun e w' => e = .returned (.int .i64 (wd s)) ∧ w' = W) := implWordOf s
  have HB : Hid (∀ W, Calls Try.prog 160 #[.int .i64 k] W fun e w' => e = .returned (.int .i64 (wd k)) ∧ w' = W) := implWordOf k
  have HE : Hid (sgn s k = (wd s * 31 + wd k + 1) % 65521) := rfl
  generalize wd s = a at *
  generalize wd k = b at *
  rw [HE.out]
  clear HE
  go_enter Try.func138, Try.ntmps138
  go_wp2_with fail
  refine (HA.out _).mono ?_
  rintro e w1 ⟨rfl, rfl⟩
  go_wp2_with fail
  refine (HB.out _).mono ?_
  rintro e w1 ⟨rfl, rfl⟩
  go_wp2_with fail
  go_ret
  exact ⟨rfl, rfl⟩
set_option maxHeartbeats 400000 in
theorem specSignOf (s k : Int) (w : World) : Calls Try.prog 150 #[.int .i64 s, .int .i64 k] w fun e w' => e = .returned (.int .i64 (sgn s k)) ∧ w' = w := by
  have h1 := wd_lo s; have h2 := wd_hi s; have h3 := wd_lo k; have h4 := wd_hi k
  have HA : Hid (∀ W, Calls Try.prog 151 #[.int .i64 s] W fun e w' => e = .returned (.int .i64 (wd s)) ∧ w' = W) := specWordOf s
  have HB : Hid (∀ W, Calls Try.prog 151 #[.int .i64 k] W fun e w' => e = .returned (.int .i64 (wd k)) ∧ w' = W) := specWordOf k
  have HE : Hid (sgn s k = (wd s * 31 + wd k + 1) % 65521) := rfl
  generalize wd s = a at *
  generalize wd k = b at *
  rw [HE.out]
  clear HE
  go_enter Try.func150, Try.ntmps150
  go_wp2_with fail
  refine (HA.out _).mono ?_
  rintro e w1 ⟨rfl, rfl⟩
  go_wp2_with fail
  refine (HB.out _).mono ?_
  rintro e w1 ⟨rfl, rfl⟩
  go_wp2_with fail
  go_ret
  exact ⟨rfl, rfl⟩

set_option maxHeartbeats 800000 in
theorem within_any (z a b : Int) (w : World) : Calls Try.prog 67 #[.int .i64 z, .int .i64 a, .int .i64 b] w fun e w' => e = .returned (.bool (inB z a b)) ∧ w' = w := by
  by_cases h1 : a ≤ z
  · by_cases h2 : z ≤ b
    · have e : inB z a b = true := inB_iff.2 ⟨h1, h2⟩
      rw [e]
      go_enter Try.func67, Try.ntmps67
      go_wp2
      go_ret
      exact ⟨rfl, rfl⟩
    · have e : inB z a b = false := inB_no.2 (fun h => h2 h.2)
      rw [e]
      go_enter Try.func67, Try.ntmps67
      go_wp2
      go_ret
      exact ⟨rfl, rfl⟩
  · have e : inB z a b = false := inB_no.2 (fun h => h1 h.1)
    rw [e]
    go_enter Try.func67, Try.ntmps67
    go_wp2
    go_ret
    exact ⟨rfl, rfl⟩

set_option maxHeartbeats 800000 in
theorem l8Args_any (op : Int) (w : World) : Calls Try.prog 113 #[.int .i64 op] w fun e w' => e = .returned (.int .i64 (argN op)) ∧ w' = w := by
  by_cases h4 : op = 4
  · subst h4; go_enter Try.func113, Try.ntmps113; go_wp2; go_ret; exact ⟨rfl, rfl⟩
  by_cases h5 : op = 5
  · subst h5; go_enter Try.func113, Try.ntmps113; go_wp2; go_ret; exact ⟨rfl, rfl⟩
  by_cases h7 : op = 7
  · subst h7; go_enter Try.func113, Try.ntmps113; go_wp2; go_ret; exact ⟨rfl, rfl⟩
  by_cases h8 : op = 8
  · subst h8; go_enter Try.func113, Try.ntmps113; go_wp2; go_ret; exact ⟨rfl, rfl⟩
  by_cases h9 : op = 9
  · subst h9; go_enter Try.func113, Try.ntmps113; go_wp2; go_ret; exact ⟨rfl, rfl⟩
  by_cases h13 : op = 13
  · subst h13; go_enter Try.func113, Try.ntmps113; go_wp2; go_ret; exact ⟨rfl, rfl⟩
  have e : argN op = 1 := by unfold argN; rw [if_neg (by omega), if_neg (by omega)]
  have e4 : (op == 4) = false := by simpa using h4
  have e5 : (op == 5) = false := by simpa using h5
  have e7 : (op == 7) = false := by simpa using h7
  have e8 : (op == 8) = false := by simpa using h8
  have e9 : (op == 9) = false := by simpa using h9
  have e13 : (op == 13) = false := by simpa using h13
  rw [e]
  clear e h4 h5 h7 h8 h9 h13
  go_enter Try.func113, Try.ntmps113
  go_wp2
  go_ret
  exact ⟨rfl, rfl⟩
end Go.Proofs.Ytcikofhbfncgdaa
namespace Go.Proofs.Ytcikofhbfncgdaa
open Go.RowKit
set_option linter.unusedVariables false

/-- a slice of the numbers zs, wherever it lies -/
def RowV (w : World) (v : Value) (zs : List Int) : Prop := ∃ a c, v = .slice a zs.length c ∧ Nums w a zs ∧ (a = none → c = 0)
theorem RowV.below {w w' : World} {v : Value} {zs : List Int} (h : RowV w v zs) (hb : Below w.heap.size w w') : RowV w' v zs := by
  obtain ⟨a, c, rfl, hn, hc⟩ := h
  exact ⟨a, c, rfl, hn.below hb, hc⟩
theorem own_row {w : World} {B : Nat} {v : Value} {zs : List Int} (h : Own w B v zs) : RowV w v zs := by
  obtain ⟨a, c, rfl⟩ := own_shape h
  refine ⟨a, c, rfl, (nums_of_own h).2, fun ha => ?_⟩
  subst ha
  rcases h.2 with ⟨h1, _⟩ | ⟨g, c2, cur, h1, _⟩
  · simp at h1; exact h1.2
  · simp at h1
/-- appending a row of numbers to a row of one's own -/
theorem append_nums (w : World) (B : Nat) (ty : TypeId) (v : Value) (xs zs : List Int) (hown : Own w B v xs) (a : Option Addr) (c : Nat) (hn : Nums w a zs) (hc : a = none → c = 0) (hz : a = none → zs = []) (hl : xs.length + zs.length ≤ 2097152) (hbase : B ≤ w.heap.size) :
    ∃ v' w', (Builtin.append_ #[24, 24] ty #[v, .slice a zs.length c]).run Try.prog w = .ok v' w' ∧ Own w' B v' (xs ++ zs) ∧ w.grownBy w' v.ownBlock ∧ (v'.ownBlock = v.ownBlock ∨ v'.ownBlock = some w.heap.size) := by
  obtain ⟨i0, hi, hz0, hz1, hz2⟩ := info_parts infoInt
  cases a with
  | none =>
    rw [hc rfl, hz rfl]
    refine ⟨v, w, ?_, by simpa using hown, World.grownBy.refl _ _, .inl rfl⟩
    exact run_append_owned_none (P := Try.prog) w B 24 ty 2 i0 1 Try.underlying24 hi v xs.length (xs.map (Value.int .i64)) hown
  | some ad =>
    have hcells : ∀ j u, (zs.map (Value.int .i64))[j]? = some u → w.cell? (ad.add j) = some u := fun j u hu => by
      rcases hn with hn | ⟨b, off, hab, hcc⟩
      · subst hn; simp at hu
      · have hab2 := Option.some.inj hab
        subst hab2
        have hj : j < zs.length := by
          have := (List.getElem?_eq_some_iff.1 hu).1
          simpa using this
        rw [Addr.add_lit, hcc j hj]
        rw [List.getElem?_map, List.getElem?_eq_getElem hj] at hu
        rw [List.getD_eq_getElem?_getD, List.getElem?_eq_getElem hj]
        simpa using hu
    obtain ⟨v', w', hr, h2, h3, _, h5⟩ := run_append_own_at (P := Try.prog) w B 24 ty 2 i0 (.int .i64 0) 1 8 Try.underlying24 hi hz0 hz1 hz2 rfl (by omega) v xs.length (xs.map (Value.int .i64)) hown ad zs.length c (zs.map (Value.int .i64)) (by simp) hcells (ints_oneCell _ _) (by unfold maxLen; omega) (by omega) hbase
    refine ⟨v', w', hr, ?_, h3, h5⟩
    show World.ownsRow _ _ _ _ _ _ _
    rw [List.length_append, List.map_append]
    exact h2
theorem wpList_append_nums {w : World} {ops : Array Oper} {rest : List Oper} {o : Oper} {a : Act} {Q : Exit → Act → World → Prop} (hgd : o.guard = none) (s x : Operand)
    (ho : o.op = .call { callee := .builtin .append, args := #[s, x], argTypes := #[24, 24] }) (B : Nat) (v : Value) (xs zs : List Int) (hs : a.eval s = v) (hown : Own w B v xs) (ad : Option Addr) (c : Nat) (hx : a.eval x = .slice ad zs.length c)
    (hn : Nums w ad zs) (hc : ad = none → c = 0) (hz : ad = none → zs = []) (hl : xs.length + zs.length ≤ 2097152) (hbase : B ≤ w.heap.size)
    (h : ∀ v' w', Hid (Own w' B v' (xs ++ zs)) → Hid (w.grownBy w' v.ownBlock) → Hid (v'.ownBlock = v.ownBlock ∨ v'.ownBlock = some w.heap.size) → wpList Try.prog ops Q rest (a.put o.dst v') w') : wpList Try.prog ops Q (o :: rest) a w := by
  refine wpList_plain hgd fun K hK => ?_
  obtain ⟨v', w', hr, h2, h3, h4⟩ := append_nums w B o.type v xs zs hown ad c hn hc hz hl hbase
  unfold Oper.wp execOp
  simp only [ho, resolve, invoke, builtin, Sem.run_bind, Sem.run_pure, Result.andThen_ok, List.map_toArray, List.map_cons, List.map_nil, hs, hx, hr]
  exact hK _ _ (h v' w' h2 h3 h4)
theorem rowZ {w : World} {a : Option Addr} {zs : List Int} (h : Nums w a zs) : a = none → zs = [] := by
  rintro rfl
  rcases h with h | ⟨b, o, h, _⟩
  · exact h
  · cases h
/-- a new empty row -/
theorem own_new (w : World) (B : Nat) (h : B ≤ w.heap.size) : Own (w.alloc (.cells #[] 2)) B (.slice (some ⟨w.heap.size, 0, none⟩) 0 0) [] :=
  World.ownsRow_made w #[] 0 h (Nat.zero_le _) rfl

/-- the two rows of a machine in block p: of one's own, apart -/
structure MemO (B : Nat) (w : World) (p : Nat) (sv cv : Value) (m : SM) : Prop where
  ss : Own w B sv m.stk
  cs : Own w B cv m.cells
  pB : B ≤ p
  d1 : sv.ownBlock ≠ some p
  d2 : cv.ownBlock ≠ some p
  d3 : ∀ g, sv.ownBlock = some g → cv.ownBlock ≠ some g
abbrev lineI (m : SM) (sv cv : Value) : Array Value := #[sv, cv, .int .i64 m.pc, .int .i64 m.sig, .int .i64 m.used, .int .i64 m.trap, .bool m.done]
abbrev lineS (m : SM) (sv cv : Value) : Array Value := #[.int .i64 m.pc, sv, cv, .int .i64 m.sig, .int .i64 m.used, .int .i64 m.trap, .bool m.done]
/-- impl's run of a machine, spec's machine, in block p -/
def RunI (B : Nat) (w : World) (p : Nat) (m : SM) : Prop := ∃ sv cv, w.heap[p]? = some (.cells (lineI m sv cv) 112 (0, 0)) ∧ MemO B w p sv cv m
def RunS (B : Nat) (w : World) (p : Nat) (m : SM) : Prop := ∃ sv cv, w.heap[p]? = some (.cells (lineS m sv cv) 39 (0, 0)) ∧ MemO B w p sv cv m

theorem MemO.of {B p : Nat} {w w' : World} {sv cv : Value} {m m' : SM} (h : MemO B w p sv cv m) (hb : ∀ g, g < w.heap.size → g ≠ p → w'.heap[g]? = w.heap[g]?) (e1 : m'.stk = m.stk) (e2 : m'.cells = m.cells) : MemO B w' p sv cv m' :=
  ⟨by rw [e1]; exact own_other h.ss (fun g hg => hb g (h.ss.lt g hg).2 (fun e => h.d1 (by rw [hg, e]))), by rw [e2]; exact own_other h.cs (fun g hg => hb g (h.cs.lt g hg).2 (fun e => h.d2 (by rw [hg, e]))), h.pB, h.d1, h.d2, h.d3⟩
theorem RunI.kept {B p : Nat} {w w' : World} {m : SM} (h : RunI B w p m) (hb : Below w.heap.size w w') : RunI B w' p m := by
  obtain ⟨sv, cv, hl, hm⟩ := h
  exact ⟨sv, cv, blk8 hl hb, hm.of (fun g hg _ => hb.block g hg) rfl rfl⟩
theorem RunS.kept {B p : Nat} {w w' : World} {m : SM} (h : RunS B w p m) (hb : Below w.heap.size w w') : RunS B w' p m := by
  obtain ⟨sv, cv, hl, hm⟩ := h
  exact ⟨sv, cv, blk8 hl hb, hm.of (fun g hg _ => hb.block g hg) rfl rfl⟩
/-- a row that is cut by one at its end -/
theorem own_cut {w : World} {B n cap : Nat} {a : Option Addr} {zs : List Int} (h : Own w B (.slice a n cap) zs) (h0 : 0 < n) : Own w B (.slice a (n - 1) cap) (zs.take (n - 1)) := by
  have hn := (nums_of_own h).1
  subst hn
  have hl : (zs.take (zs.length - 1)).length = zs.length - 1 := by simp only [List.length_take]; omega
  show World.ownsRow _ _ _ _ _ _ _
  refine ⟨by simp, ?_⟩
  rcases h.2 with ⟨h1, h2⟩ | ⟨g, c, cur, h1, hg, hh, q1, q2, q3, q4⟩
  · omega
  · simp at h1
    obtain ⟨rfl, rfl⟩ := h1
    refine .inr ⟨g, cap, cur, by rw [hl], hg, hh, by rw [hl]; omega, q2, q3, ?_⟩
    rw [hl, Nat.mul_one, List.map_take, ← q4, List.take_take]
    congr 1
    omega
/-- a store into a row of numbers -/
theorem own_put {w : World} {B n cap g k : Nat} {zs : List Int} (h : Own w B (.slice (some ⟨g, 0, none⟩) n cap) zs) (x : Int) : Own (w.setCell ⟨g, k, none⟩ (.int .i64 x)) B (.slice (some ⟨g, 0, none⟩) n cap) (zs.set k x) := by
  have hn := (nums_of_own h).1
  subst hn
  have := (h.stored k (.int .i64 x)).1
  show World.ownsRow _ _ _ _ _ _ _
  rw [List.length_set, List.map_set]
  exact this
/-- a store of another field of the block -/
theorem RunI.fld {B p : Nat} {w : World} {m m' : SM} (h : RunI B w p m) (i : Nat) (v : Value) (hf : ∀ sv cv, (lineI m sv cv).setIfInBounds i v = lineI m' sv cv) (e1 : m'.stk = m.stk) (e2 : m'.cells = m.cells) : RunI B (w.setCell ⟨p, i, none⟩ v) p m' := by
  obtain ⟨sv, cv, hl, hm⟩ := h
  refine ⟨sv, cv, ?_, hm.of (fun g hg hne => heap_setCell_other _ _ _ _ hne) e1 e2⟩
  have := heap_setCell_same w p i _ _ v hl
  rw [hf sv cv] at this
  exact this
theorem RunS.fld {B p : Nat} {w : World} {m m' : SM} (h : RunS B w p m) (i : Nat) (v : Value) (hf : ∀ sv cv, (lineS m sv cv).setIfInBounds i v = lineS m' sv cv) (e1 : m'.stk = m.stk) (e2 : m'.cells = m.cells) : RunS B (w.setCell ⟨p, i, none⟩ v) p m' := by
  obtain ⟨sv, cv, hl, hm⟩ := h
  refine ⟨sv, cv, ?_, hm.of (fun g hg hne => heap_setCell_other _ _ _ _ hne) e1 e2⟩
  have := heap_setCell_same w p i _ _ v hl
  rw [hf sv cv] at this
  exact this
/-- another row is put in the place of the Stack -/
theorem MemO.stk {B p : Nat} {w w' : World} {sv cv sv' : Value} {m m' : SM} (h : MemO B w p sv cv m) (ho : Own w' B sv' m'.stk) (hk : ∀ g, g < w.heap.size → some g ≠ sv.ownBlock → w'.heap[g]? = w.heap[g]?) (hv : sv'.ownBlock = sv.ownBlock ∨ ∃ q, w.heap.size ≤ q ∧ sv'.ownBlock = some q) (hp : p < w.heap.size) (e2 : m'.cells = m.cells) (x : Value) (i : Nat) : MemO B (w'.setCell ⟨p, i, none⟩ x) p sv' cv m' := by
  have hd1 : sv'.ownBlock ≠ some p := by
    rcases hv with hv | ⟨q, hq, hv⟩
    · rw [hv]; exact h.d1
    · rw [hv]; intro e; injection e with e; omega
  refine ⟨own_other ho (fun g hg => heap_setCell_other _ _ _ _ (fun e => hd1 (by rw [hg, e]))), ?_, h.pB, hd1, h.d2, fun g hg => ?_⟩
  · rw [e2]
    refine own_other h.cs (fun g hg => (heap_setCell_other _ _ _ _ (fun e => h.d2 (by rw [hg, e]))).trans (hk g (h.cs.lt g hg).2 (fun e => h.d3 g e.symm hg)))
  · rcases hv with hv | ⟨q, hq, hv⟩
    · exact h.d3 g (by rw [← hv]; exact hg)
    · intro hc
      have := (h.cs.lt g hc).2
      rw [hg] at hv; injection hv with hv; omega
theorem MemO.lt {B p : Nat} {w : World} {sv cv : Value} {m : SM} (h : MemO B w p sv cv m) : (∀ g, sv.ownBlock = some g → B ≤ g) ∧ (∀ g, cv.ownBlock = some g → B ≤ g) := ⟨fun g hg => (h.ss.lt g hg).1, fun g hg => (h.cs.lt g hg).1⟩
/-- a word is stored into the cells -/
theorem MemO.put {B p g n c k : Nat} {w : World} {sv : Value} {m : SM} (h : MemO B w p sv (.slice (some ⟨g, 0, none⟩) n c) m) (x : Int) : MemO B (w.setCell ⟨g, k, none⟩ (.int .i64 x)) p sv (.slice (some ⟨g, 0, none⟩) n c) (sto m k x) :=
  ⟨own_other h.ss (fun j hj => heap_setCell_other _ _ _ _ (fun e => h.d3 j hj (by rw [e]; rfl))), own_put h.cs x, h.pB, h.d1, h.d2, h.d3⟩
theorem MemO.heap {B p : Nat} {w w' : World} {sv cv : Value} {m : SM} (h : MemO B w p sv cv m) (e : w'.heap = w.heap) : MemO B w' p sv cv m :=
  h.of (fun g _ _ => by rw [e]) rfl rfl
theorem RunI.heap {B p : Nat} {w w' : World} {m : SM} (h : RunI B w p m) (e : w'.heap = w.heap) : RunI B w' p m := by
  obtain ⟨sv, cv, hl, hm⟩ := h
  exact ⟨sv, cv, by rw [e]; exact hl, hm.heap e⟩
theorem RunS.heap {B p : Nat} {w w' : World} {m : SM} (h : RunS B w p m) (e : w'.heap = w.heap) : RunS B w' p m := by
  obtain ⟨sv, cv, hl, hm⟩ := h
  exact ⟨sv, cv, by rw [e]; exact hl, hm.heap e⟩
/-- what stays of a block behind an append to the Stack -/
theorem MemO.grown {B p : Nat} {w W w2 : World} {sv cv : Value} {m : SM} {cs : Array Value} {T : TypeId} (h : MemO B w p sv cv m) (hb : w.heap[p]? = some (.cells cs T (0, 0))) (hA : Below w.heap.size w W) (hBw : B ≤ w.heap.size) (hg : W.grownBy w2 sv.ownBlock) : w2.heap[p]? = some (.cells cs T (0, 0)) ∧ Below B w w2 := by
  have hp := (Array.getElem?_eq_some_iff.1 hb).1
  refine ⟨?_, ?_⟩
  · rw [hg.block p (by have := hA.size; omega) (fun e => h.d1 e.symm), hA.block p hp]
    exact hb
  · exact (hA.mono hBw).grown hg (by have := hA.size; omega) (fun k hk => h.lt.1 k hk)
theorem lineS_cells {p : Nat} {w : World} {m : SM} {sv cv : Value} (h : w.heap[p]? = some (.cells (lineS m sv cv) 39 (0, 0))) :
    w.cell? ⟨p, 0, none⟩ = some (.int .i64 m.pc) ∧ w.cell? ⟨p, 1, none⟩ = some sv ∧ w.cell? ⟨p, 2, none⟩ = some cv ∧ w.cell? ⟨p, 3, none⟩ = some (.int .i64 m.sig) ∧ w.cell? ⟨p, 4, none⟩ = some (.int .i64 m.used) ∧ w.cell? ⟨p, 5, none⟩ = some (.int .i64 m.trap) ∧ w.cell? ⟨p, 6, none⟩ = some (.bool m.done) :=
  ⟨cell_of_row _ _ 0 _ _ _ h, cell_of_row _ _ 1 _ _ _ h, cell_of_row _ _ 2 _ _ _ h, cell_of_row _ _ 3 _ _ _ h, cell_of_row _ _ 4 _ _ _ h, cell_of_row _ _ 5 _ _ _ h, cell_of_row _ _ 6 _ _ _ h⟩
end Go.Proofs.Ytcikofhbfncgdaa
