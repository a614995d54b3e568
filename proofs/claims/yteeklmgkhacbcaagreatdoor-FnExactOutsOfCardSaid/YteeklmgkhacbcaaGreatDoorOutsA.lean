/-
  spec.l6Outputs, l9Outs.
-/
import Derived.Test.YteeklmgkhacbcaaGreatDoorWords0
import Derived.Test.YteeklmgkhacbcaaGreatDoorWords0
import Derived.Test.YteeklmgkhacbcaaGreatDoorCheckM
import Derived.Test.YteeklmgkhacbcaaGreatDoorStr
import Derived.Maps.AppendAt
import Derived.Laws.AppendOwn
import Derived.Test.YteeklmgkhacbcaaGreatDoorSName
import Derived.Test.YteeklmgkhacbcaaGreatDoorIVarsM
namespace Go.Proofs.YteeklmgkhacbcaaGreatDoor
open Go.RowKit
set_option linter.unusedVariables false
def allW (zs : List Int) : Bool := zs.all fun z => decide (0 ≤ z ∧ z ≤ 65535)
theorem allW_iff {zs : List Int} : allW zs = true ↔ ∀ z ∈ zs, 0 ≤ z ∧ z ≤ 65535 := by unfold allW; rw [List.all_eq_true]; simp
theorem allW_ok {zs : List Int} (h : ∀ j, j < zs.length → 0 ≤ zs.getD j 0 ∧ zs.getD j 0 ≤ 65535) : allW zs = true := by
 rw [allW_iff]
 intro z hm
 obtain ⟨i, hi, rfl⟩ := List.getElem_of_mem hm
 have := h i hi
 rw [List.getD_eq_getElem?_getD, List.getElem?_eq_getElem hi] at this
 simpa using this
theorem allW_bad {zs : List Int} (i : Nat) (hi : i < zs.length) (h : zs.getD i 0 < 0 ∨ 65535 < zs.getD i 0) : allW zs = false := by
 cases hw : allW zs with
 | false => rfl
 | true =>
  have hm : zs.getD i 0 ∈ zs := by rw [List.getD_eq_getElem?_getD, List.getElem?_eq_getElem hi]; simp
  have := (allW_iff.1 hw) _ hm
  omega
theorem fault_allW {zs : List Int} (h : zs.length ≤ 400) : fault zs = if allW zs = true then 0 else 3 := by
 unfold fault
 rw [if_neg (by omega)]
 by_cases hw : ∀ z ∈ zs, 0 ≤ z ∧ z ≤ 65535
 ·rw [if_pos hw, if_pos (allW_iff.2 hw)]
 ·rw [if_neg hw, if_neg (fun h => hw (allW_iff.1 h))]
def staF (T : LTree) (zs : List Int) : Int := if (chkT T).1.1 ≠ 0 then (chkT T).1.1 else if (zs.length : Int) ≠ cellsL (allL 0 T) then 1 else if allW zs = true then 0 else 3
theorem chk_good {T : LTree} (h : (chkT T).1.1 = 0) : faultL T = 0 ∧ cellsL (allL 0 T) ≤ 60 := by
 unfold chkT at h
 by_cases h0 : faultL T = 0
 ·rw [if_neg (by simpa using h0)] at h
  refine ⟨h0, ?_⟩
  by_cases h1 : namesF (allL 3 T) T.vars.length = 0
  ·rw [if_neg (by simpa using h1)] at h
   by_cases h2 : (bodyF (allL 3 T) T).1 = 0
   ·rw [if_neg (by simpa using h2)] at h
    by_cases h3 : 2000 < budT T ∨ 60 < cellsL (allL 3 T)
    ·rw [if_pos h3] at h; simp at h
    ·rw [cells_kind] at h3; omega
   ·rw [if_pos h2] at h; exact absurd h h2
  ·rw [if_pos h1] at h; exact absurd h h1
 ·rw [if_pos h0] at h; exact absurd h h0
def outAt (V : List LVar) (cs : List Int) (k : Nat) : List Int := (cs.drop (cellsL (V.take k)).toNat).take (szV (V.getD k default)).toNat
def outsV (V : List LVar) (cs : List Int) : Nat → List Int
 | 0 => []
 | k + 1 => outsV V cs k ++ (if (V.getD k default).kind = 2 then outAt V cs k else [])
def outsL (T : LTree) (cs : List Int) : List Int := if staF T cs = 0 then outsV (allL 0 T) cs (allL 0 T).length else []
def posV (V : List LVar) : Nat → List Int
 | 0 => []
 | k + 1 => posV V k ++ (if (V.getD k default).kind = 2 then (List.range (szV (V.getD k default)).toNat).map (fun j => cellsL (V.take k) + ((j : Nat) : Int)) else [])
theorem outsV_at {V : List LVar} {cs : List Int} {k : Nat} {x : LVar} (h : V[k]? = some x) : outsV V cs (k + 1) = outsV V cs k ++ (if x.kind = 2 then (cs.drop (cellsL (V.take k)).toNat).take (szV x).toNat else []) := by
 have e : V.getD k default = x := by rw [List.getD_eq_getElem?_getD, h]; rfl
 show outsV V cs k ++ (if (V.getD k default).kind = 2 then outAt V cs k else []) = _
 unfold outAt
 rw [e]
theorem posV_at {V : List LVar} {k : Nat} {x : LVar} (h : V[k]? = some x) : posV V (k + 1) = posV V k ++ (if x.kind = 2 then (List.range (szV x).toNat).map (fun j => cellsL (V.take k) + ((j : Nat) : Int)) else []) := by
 have e : V.getD k default = x := by rw [List.getD_eq_getElem?_getD, h]; rfl
 show posV V k ++ (if (V.getD k default).kind = 2 then _ else []) = _
 rw [e]
theorem drop_take_map (cs : List Int) (a n : Nat) (h : a + n ≤ cs.length) : (cs.drop a).take n = (List.range n).map (fun j => cs.getD (a + j) 0) := by
 refine List.ext_getElem (by simp; omega) (fun i h1 h2 => ?_)
 have hi : i < n := by simp at h2; exact h2
 simp only [List.getElem_take, List.getElem_drop, List.getElem_map, List.getElem_range]
 rw [List.getD_eq_getElem?_getD, List.getElem?_eq_getElem (by omega)]
 rfl
theorem szV_pos (x : LVar) : 0 ≤ szV x := by unfold szV; omega
theorem cells_ahead {V : List LVar} (hs : SizesLe V) {k : Nat} {x : LVar} (h : V[k]? = some x) : 0 ≤ cellsL (V.take k) ∧ cellsL (V.take k) + szV x ≤ cellsL V := by
 have hk := (List.getElem?_eq_some_iff.1 h).1
 have e := cellsL_take h
 have h1 := (cellsL_le (V.take k) (fun v hv => hs v (List.mem_of_mem_take hv))).1
 have h2 : cellsL V = cellsL (V.take (k + 1)) + cellsL (V.drop (k + 1)) := by rw [← cellsL_append, List.take_append_drop]
 have h3 := (cellsL_le (V.drop (k + 1)) (fun v hv => hs v (List.mem_of_mem_drop hv))).1
 omega
theorem pos_outs {V : List LVar} {cs : List Int} (hs : SizesLe V) (hc : cellsL V ≤ cs.length) : ∀ k, k ≤ V.length → (posV V k).map (fun p => cs.getD p.toNat 0) = outsV V cs k
 | 0, _ => rfl
 | k + 1, hk => by
  obtain ⟨x, hx⟩ : ∃ x, V[k]? = some x := ⟨V[k]'(by omega), List.getElem?_eq_getElem _⟩
  rw [posV_at hx, outsV_at hx, List.map_append, pos_outs hs hc k (by omega)]
  congr 1
  obtain ⟨h0, h1⟩ := cells_ahead hs hx
  have h2 := szV_pos x
  by_cases hkd : x.kind = 2
  ·rw [if_pos hkd, if_pos hkd, drop_take_map cs _ _ (by omega), List.map_map]
   refine List.map_congr_left (fun j hj => ?_)
   show cs.getD (cellsL (V.take k) + (j : Int)).toNat 0 = _
   congr 1
   omega
  ·rw [if_neg hkd, if_neg hkd]; rfl
theorem posV_in {V : List LVar} (hs : SizesLe V) : ∀ k, k ≤ V.length → (posV V k).length ≤ 8 * k ∧ ∀ p ∈ posV V k, 0 ≤ p ∧ p < cellsL V
 | 0, _ => ⟨by simp [posV], fun p hp => by simp [posV] at hp⟩
 | k + 1, hk => by
  obtain ⟨x, hx⟩ : ∃ x, V[k]? = some x := ⟨V[k]'(by omega), List.getElem?_eq_getElem _⟩
  obtain ⟨i1, i2⟩ := posV_in hs k (by omega)
  obtain ⟨h0, h1⟩ := cells_ahead hs hx
  have h2 := szV_pos x
  have h3 : szV x ≤ 8 := by have := hs x (List.mem_of_getElem? hx); unfold szV; omega
  rw [posV_at hx]
  by_cases hkd : x.kind = 2
  ·rw [if_pos hkd]
   refine ⟨by rw [List.length_append, List.length_map, List.length_range]; omega, fun p hp => ?_⟩
   rcases List.mem_append.1 hp with hp | hp
   ·exact i2 p hp
   ·obtain ⟨j, hj, rfl⟩ := List.mem_map.1 hp
    have := List.mem_range.1 hj
    omega
  ·rw [if_neg hkd, List.append_nil]
   exact ⟨by omega, i2⟩
theorem outsV_len {V : List LVar} {cs : List Int} (hs : SizesLe V) : ∀ k, k ≤ V.length → (outsV V cs k).length ≤ 8 * k
 | 0, _ => by simp [outsV]
 | k + 1, hk => by
  obtain ⟨x, hx⟩ : ∃ x, V[k]? = some x := ⟨V[k]'(by omega), List.getElem?_eq_getElem _⟩
  have ih := outsV_len (cs := cs) hs k (by omega)
  have h3 : szV x ≤ 8 := by have := hs x (List.mem_of_getElem? hx); unfold szV; omega
  rw [outsV_at hx, List.length_append]
  split
  ·have := List.length_take_le (szV x).toNat (cs.drop (cellsL (V.take k)).toNat)
   have : ((cs.drop (cellsL (V.take k)).toNat).take (szV x).toNat).length ≤ (szV x).toNat := this
   omega
  ·simp; omega
theorem outsV_more {V W : List LVar} {cs : List Int} (h : ∀ v ∈ W, v.kind ≠ 2) : ∀ k, k ≤ W.length → outsV (V ++ W) cs (V.length + k) = outsV V cs V.length
 | 0, _ => by
  have go : ∀ j, j ≤ V.length → outsV (V ++ W) cs j = outsV V cs j := fun j => by
   induction j with
   | zero => exact fun _ => rfl
   | succ j ih =>
    intro hj
    obtain ⟨x, hx⟩ : ∃ x, V[j]? = some x := ⟨V[j]'(by omega), List.getElem?_eq_getElem _⟩
    have hx2 : (V ++ W)[j]? = some x := by rw [List.getElem?_append_left (by omega)]; exact hx
    rw [outsV_at hx, outsV_at hx2, ih (by omega), List.take_append_of_le_length (by omega)]
  exact go V.length (Nat.le_refl _)
 | k + 1, hk => by
  obtain ⟨x, hx⟩ : ∃ x, W[k]? = some x := ⟨W[k]'(by omega), List.getElem?_eq_getElem _⟩
  have hx2 : (V ++ W)[V.length + k]? = some x := by rw [List.getElem?_append_right (by omega), Nat.add_sub_cancel_left]; exact hx
  rw [show V.length + (k + 1) = V.length + k + 1 from by omega, outsV_at hx2, if_neg (h x (List.mem_of_getElem? hx)), List.append_nil]
  exact outsV_more h k (by omega)
theorem appN_nums (w : World) (B : Nat) (ty : TypeId) (v : Value) (xs zs : List Int) (hown : Own w B v xs) (a : Option Addr) (c : Nat) (hn : Nums w a zs) (hc : a = none → c = 0) (hz : a = none → zs = []) (hl : xs.length + zs.length ≤ 2097152) (hbase : B ≤ w.heap.size) :
  ∃ v' w', (Builtin.append_ #[24, 24] ty #[v, .slice a zs.length c]).run Tryz.prog w = .ok v' w' ∧ Own w' B v' (xs ++ zs) ∧ w.grownBy w' v.ownBlock ∧ (v'.ownBlock = v.ownBlock ∨ v'.ownBlock = some w.heap.size) := by
 obtain ⟨i0, hi, hz0, hz1, hz2⟩ := info_parts infoInt
 cases a with
 | none =>
  rw [hc rfl, hz rfl]
  refine ⟨v, w, ?_, by simpa using hown, World.grownBy.refl _ _, .inl rfl⟩
  exact run_append_owned_none (P := Tryz.prog) w B 24 ty 2 i0 1 Tryz.underlying24 hi v xs.length (xs.map (Value.int .i64)) hown
 | some ad =>
  have hcells : ∀ j u, (zs.map (Value.int .i64))[j]? = some u → w.cell? (ad.add j) = some u := fun j u hu => by
   rcases hn with hn | ⟨b, off, hab, hcc⟩
   ·subst hn; simp at hu
   ·have hab2 := Option.some.inj hab
    subst hab2
    have hj : j < zs.length := by
     have := (List.getElem?_eq_some_iff.1 hu).1
     simpa using this
    rw [Addr.add_lit, hcc j hj]
    rw [List.getElem?_map, List.getElem?_eq_getElem hj] at hu
    rw [List.getD_eq_getElem?_getD, List.getElem?_eq_getElem hj]
    simpa using hu
  obtain ⟨v', w', hr, h2, h3, _, h5⟩ := run_append_own_at (P := Tryz.prog) w B 24 ty 2 i0 (.int .i64 0) 1 8 Tryz.underlying24 hi hz0 hz1 hz2 rfl (by omega) v xs.length (xs.map (Value.int .i64)) hown ad zs.length c (zs.map (Value.int .i64)) (by simp) hcells (ints_oneCell _ _) (by unfold maxLen; omega) (by omega) hbase
  refine ⟨v', w', hr, ?_, h3, h5⟩
  show World.ownsRow _ _ _ _ _ _ _
  rw [List.length_append, List.map_append]
  exact h2
theorem wpList_appN {w : World} {ops : Array Oper} {rest : List Oper} {o : Oper} {a : Act} {Q : Exit → Act → World → Prop} (hgd : o.guard = none) (s x : Operand)
  (ho : o.op = .call { callee := .builtin .append, args := #[s, x], argTypes := #[24, 24] }) (B : Nat) (v : Value) (xs zs : List Int) (hs : a.eval s = v) (hown : Own w B v xs) (ad : Option Addr) (c : Nat) (hx : a.eval x = .slice ad zs.length c)
  (hn : Nums w ad zs) (hc : ad = none → c = 0) (hz : ad = none → zs = []) (hl : xs.length + zs.length ≤ 2097152) (hbase : B ≤ w.heap.size)
  (h : ∀ v' w', Hid (Own w' B v' (xs ++ zs)) → Hid (w.grownBy w' v.ownBlock) → Hid (v'.ownBlock = v.ownBlock ∨ v'.ownBlock = some w.heap.size) → wpList Tryz.prog ops Q rest (a.put o.dst v') w') : wpList Tryz.prog ops Q (o :: rest) a w := by
 refine wpList_plain hgd fun K hK => ?_
 obtain ⟨v', w', hr, h2, h3, h4⟩ := appN_nums w B o.type v xs zs hown ad c hn hc hz hl hbase
 unfold Oper.wp execOp
 simp only [ho, resolve, invoke, builtin, Sem.run_bind, Sem.run_pure, Result.andThen_ok, List.map_toArray, List.map_cons, List.map_nil, hs, hx, hr]
 exact hK _ _ (h v' w' h2 h3 h4)
theorem own_empty (w : World) (B : Nat) (h : B ≤ w.heap.size) : Own (w.alloc (.cells #[] 2)) B (.slice (some ⟨w.heap.size, 0, none⟩) 0 0) [] :=
 World.ownsRow_made w #[] 0 h (Nat.zero_le _) rfl
theorem one_numN (w : World) (x : Int) : Nums (w.alloc (.cells #[.int .i64 x] 2)) (some ⟨w.heap.size, 0, none⟩) [x] := by
 refine .inr ⟨w.heap.size, 0, rfl, fun i hi => ?_⟩
 have : i = 0 := by simp at hi; omega
 subst this
 exact cell_of_row _ _ 0 _ _ _ (heap_alloc_new w (.cells #[.int .i64 x] 2))
attribute [local go_sem] bs_size bs_get bs_extract bs_append bs_eq bs_toList
set_option maxHeartbeats 3200000 in
set_option maxRecDepth 100000 in
theorem l5CellsO_any (V : List LVar) (ad : Option Addr) (k c : Nat) (w : World) (hk : k ≤ V.length) (hV : V ≠ [] → ∃ b o, ad = some ⟨b, o, none⟩ ∧ ∀ (i : Nat) (x : LVar), V[i]? = some x → VarAt w b (o + i * 4) x) (hs : SizesLe V) (hl : V.length ≤ 624) :
  Calls Tryz.prog 43 #[.slice ad k c] w fun e w' => e = .returned (.int .i64 (cellsL (V.take k))) ∧ Below w.heap.size w w' := by
 have HV : Hid (V ≠ [] → ∃ b o, ad = some ⟨b, o, none⟩ ∧ ∀ (i : Nat) (x : LVar), V[i]? = some x → VarAt w b (o + i * 4) x) := hV
 have HNX : Hid (∀ (k : Nat) (x : LVar), V[k]? = some x → 0 ≤ cellsL (V.take k) ∧ cellsL (V.take k) ≤ 4992 ∧ 0 ≤ szV x ∧ szV x ≤ 8 ∧ cellsL (V.take (k + 1)) = cellsL (V.take k) + szV x) := fun k x hk => cells_next hk hs hl
 have HSZ : Hid (∀ (x : LVar) (w : World), Calls Tryz.prog 69 #[varV x] w fun e w' => e = .returned (.int .i64 (szV x)) ∧ Below w.heap.size w w') := l5Size_any
 clear hV hs
 go_enter Tryz.func43, Tryz.ntmps43
 go_wp2
 go_loopw [3, 4] (fun d i wr => ∃ j : Nat, j ≤ k ∧ i = .int .i64 j ∧ d = .int .i64 (cellsL (V.take j)) ∧ Below w.heap.size w wr) (fun d i _ => k - (intOf i).toNat)
 case atStart => exact ⟨0, by omega, rfl, rfl, Below.refl _ _⟩
 case round =>
  obtain ⟨j, hj, rfl, rfl, hB⟩ := hrel
  have HB := hid hB
  by_cases hlt : j < k
  ·obtain ⟨x, hx⟩ : ∃ x, V[j]? = some x := ⟨V[j]'(by omega), List.getElem?_eq_getElem _⟩
   obtain ⟨g, og, rfl, hc⟩ := HV.out (by intro e; rw [e] at hx; simp at hx)
   obtain ⟨c0, c1, c2, c3⟩ := (hc j x hx).keep (lo := 0) (Keeps.of_below hB) (Nat.zero_le _)
   obtain ⟨n0, n1, n2, n3, n4⟩ := HNX.out j x hx
   have HN : Hid (cellsL (V.take (j + 1)) = cellsL (V.take j) + szV x) := n4
   have hj0 : (0 : Int) ≤ (j : Int) := by omega
   have hj1 : (j : Int) < (k : Int) := by omega
   clear hx hc n4 hB
   generalize cellsL (V.take j) = s at *
   go_wp2_with fail
   refine (HSZ.out x _).mono ?_
   rintro e w2 ⟨rfl, hb⟩
   have HB2 : Hid (Below w.heap.size w w2) := HB.out.trans (hb.mono HB.out.size)
   clear hb HB c0 c1 c2 c3
   generalize szV x = z at *
   go_wp2_with fail
   go_roundw
   case rel => exact ⟨j + 1, by omega, by go_num, by rw [HN.out], HB2.out⟩
   case measure => simp [intOf]; omega
  ·have hje : j = k := by omega
   subst hje
   go_wp2
   go_ret
   exact ⟨rfl, HB.out⟩
theorem slice_preO (b o k n c : Nat) (h : k ≤ n) (hc : n ≤ c) (W : World) : (Instr.slice 34 (.slice (some ⟨b, o, none⟩) n c) none (some (.int .i64 (k : Int))) none).run Tryz.prog W = .ok (.slice (some ⟨b, o, none⟩) k c) W := by
 have hu := Tryz.underlying34
 have hkc : k ≤ c := Nat.le_trans h hc
 simp [go_sem, hu, hkc]
set_option maxHeartbeats 6400000 in
set_option maxRecDepth 100000 in
theorem l6Outputs_any (lo p : Nat) (vv vn vb : Value) (T : LTree) (w : World) (h : TreeP lo w p vv vn vb T) (hs : SizesLe T.vars) (hl : T.vars.length ≤ 24) :
  Calls Tryz.prog 57 #[.pointer (some ⟨p, 0, none⟩)] w fun e w' => ∃ v, e = .returned v ∧ Own w' w.heap.size v (posV T.vars T.vars.length) ∧ Below w.heap.size w w' := by
 have hp := World.block_lt_of_cell? _ _ h.c0
 have hc0 := h.c0
 obtain ⟨av, cv, rfl, hcap, hv⟩ := h.tree.vars
 generalize T.vars = V at *
 have HP0 : Hid (∀ W, Below w.heap.size w W → W.cell? ⟨p, 0, none⟩ = some (.slice av V.length cv)) := fun W hb => (hb.cell (p := ⟨p, 0, none⟩) hp).trans hc0
 have HVA : Hid (V ≠ [] → ∃ b o, av = some ⟨b, o, none⟩ ∧ ∀ (W : World), Below w.heap.size w W → ∀ (i : Nat) (x : LVar), V[i]? = some x → VarAt W b (o + i * 4) x) := fun hne => by
  obtain ⟨b, o, e, hlo, hc⟩ := hv hne
  exact ⟨b, o, e, fun W hb i x hx => (hc i x hx).keep (lo := 0) (Keeps.of_below hb) (Nat.zero_le _)⟩
 have HNX : Hid (∀ (k : Nat) (x : LVar), V[k]? = some x → 0 ≤ cellsL (V.take k) ∧ cellsL (V.take k) ≤ 4992 ∧ 0 ≤ szV x ∧ szV x ≤ 8 ∧ cellsL (V.take (k + 1)) = cellsL (V.take k) + szV x) := fun k x hk => cells_next hk hs (by omega)
 have HSZ : Hid (∀ (x : LVar) (w : World), Calls Tryz.prog 69 #[varV x] w fun e w' => e = .returned (.int .i64 (szV x)) ∧ Below w.heap.size w w') := l5Size_any
 have HCE : Hid (∀ (k : Nat) (W : World), k ≤ V.length → Below w.heap.size w W → Calls Tryz.prog 43 #[.slice av k cv] W fun e w' => e = .returned (.int .i64 (cellsL (V.take k))) ∧ Below W.heap.size W w') := fun k W hk hb => l5CellsO_any V av k cv W hk (fun hne => by
  obtain ⟨b, o, e, hc⟩ := HVA.out hne
  exact ⟨b, o, e, hc W hb⟩) hs (by omega)
 have HPL : Hid (∀ k, k ≤ V.length → (posV V k).length ≤ 8 * k) := fun k hk => (posV_in hs k hk).1
 have HB0 : Hid (Below w.heap.size w (w.alloc (.cells #[] 2)) ∧ Own (w.alloc (.cells #[] 2)) w.heap.size (.slice (some ⟨w.heap.size, 0, none⟩) 0 0) (posV V 0)) := ⟨(Below.refl _ _).alloc (Nat.le_refl _) _, own_empty w _ (Nat.le_refl _)⟩
 have HCAP := hid hcap
 have HL24 := hid hl
 clear h hs hl hv hc0 hp hcap
 go_enter Tryz.func57, Tryz.ntmps57
 go_wp2_with fail
 generalize w.alloc (.cells #[] 2) = W0 at *
 generalize Value.slice (some ⟨w.heap.size, 0, none⟩) 0 0 = v0 at *
 go_loopw [3, 4] (fun v i wr => ∃ (k : Nat) (u : Value), k ≤ V.length ∧ i = .int .i64 k ∧ u = v ∧ Hid (Own wr w.heap.size u (posV V k)) ∧ Hid (Below w.heap.size w wr)) (fun _ i _ => V.length - (intOf i).toNat)
 case atStart => exact ⟨0, _, Nat.zero_le _, rfl, rfl, HB0.out.2, HB0.out.1⟩
 case round =>
  obtain ⟨k, v, hk, rfl, rfl, HO, HB⟩ := hrel
  have p0 := HP0.out wr HB.out
  clear HB0
  by_cases hlt : k < V.length
  ·obtain ⟨x, hx⟩ : ∃ x, V[k]? = some x := ⟨V[k], List.getElem?_eq_getElem hlt⟩
   obtain ⟨b, o, rfl, hc⟩ := HVA.out (by intro e; rw [e] at hx; simp at hx)
   obtain ⟨c0, c1, c2, c3⟩ := hc wr HB.out k x hx
   obtain ⟨n0, n1, n2, n3, n4⟩ := HNX.out k x hx
   have HCA : Hid (∀ W, Below w.heap.size w W → VarAt W b (o + k * 4) x) := fun W hb => hc W hb k x hx
   have HPN := hid (posV_at hx)
   have hk0 : (0 : Int) ≤ (k : Int) := by omega
   have hk1 : (k : Int) < (V.length : Int) := by omega
   have hkc : (k : Int) ≤ (cv : Int) := by have := HCAP.out; omega
   have HLT := hid hlt
   have HXX := hid hx
   have hv24 : (V.length : Int) ≤ 24 := by have := HL24.out; omega
   clear hc hx hlt
   by_cases hkd : x.kind = 2
   ·rw [if_pos hkd] at HPN
    have hkb : (x.kind != 2) = false := by rw [hkd]; rfl
    obtain ⟨S, hS⟩ := Int.eq_ofNat_of_zero_le n2
    rw [hS] at HPN n3
    simp only [Int.toNat_natCast] at HPN
    have HSX := hid hS
    have hS8 : (S : Int) ≤ 8 := by omega
    have hpl := HPL.out k hk
    clear n2 hS hkd
    have HO0 : Hid (Own wr w.heap.size v (posV V k ++ (List.range 0).map (fun j => cellsL (V.take k) + ((j : Nat) : Int)))) := by
     unfold Hid
     simp
     exact HO.out
    clear n3 n0 n1
    go_wp2_with fail
    clear p0 c0 c1 c2 c3
    go_loopw [3, 5] (fun v i wr => ∃ (j : Nat) (u : Value), j ≤ S ∧ i = .int .i64 j ∧ u = v ∧ Hid (Own wr w.heap.size u (posV V k ++ (List.range j).map (fun j => cellsL (V.take k) + ((j : Nat) : Int)))) ∧ Hid (Below w.heap.size w wr)) (fun _ i _ => S - (intOf i).toNat)
    case atStart => exact ⟨0, _, Nat.zero_le _, rfl, rfl, HO0, HB⟩
    case round =>
     clear HO HO0 HB
     obtain ⟨j, v, hj, rfl, rfl, HO, HB⟩ := hrel
     obtain ⟨L, hL⟩ : ∃ L, posV V k ++ (List.range j).map (fun j => cellsL (V.take k) + ((j : Nat) : Int)) = L := ⟨_, rfl⟩
     rw [hL] at HO
     have HLQ := hid hL
     clear hL
     obtain ⟨ad, cp, hsh⟩ := own_shape HO.out
     subst hsh
     have p0 := HP0.out wr HB.out
     obtain ⟨c0, c1, c2, c3⟩ := HCA.out wr HB.out
     go_wp2_with fail
     refine (HSZ.out x _).mono ?_
     rintro e w2 ⟨rfl, hb⟩
     rw [HSX.out]
     have HB2 : Hid (Below w.heap.size w w2) := HB.out.trans (hb.mono HB.out.size)
     have HO2 := hid (own_kept HO.out hb)
     have p2 := HP0.out w2 HB2.out
     clear p0 c0 c1 c2 c3 hb HB HO
     by_cases hjS : j < S
     ·have hjS2 : (j : Int) < (S : Int) := by omega
      have hj0 : (0 : Int) ≤ (j : Int) := by omega
      have HJ := hid hjS
      have hsl : ∀ W, (Instr.slice 34 (.slice (some ⟨b, o, none⟩) V.length cv) none (some (.int .i64 (k : Int))) none).run Tryz.prog W = .ok (.slice (some ⟨b, o, none⟩) k cv) W := slice_preO b o k V.length cv (Nat.le_of_lt HLT.out) HCAP.out
      clear hjS
      go_wp2_with fail
      refine (HCE.out k _ hk HB2.out).mono ?_
      rintro e w3 ⟨rfl, hb⟩
      have HB3 : Hid (Below w.heap.size w w3) := HB2.out.trans (hb.mono HB2.out.size)
      have HO3 := hid (own_kept HO2.out hb)
      obtain ⟨n0, n1, -, -, -⟩ := HNX.out k x HXX.out
      have HLE : Hid (L.length + 1 ≤ 2097152) := by
       unfold Hid
       rw [← HLQ.out, List.length_append, List.length_map, List.length_range]
       omega
      have HRS : Hid (L ++ [cellsL (V.take k) + (j : Int)] = posV V k ++ (List.range (j + 1)).map (fun j => cellsL (V.take k) + ((j : Nat) : Int))) := by
       unfold Hid
       rw [← HLQ.out, List.range_succ, List.map_append, List.append_assoc]
       rfl
      obtain ⟨C, hC⟩ : ∃ C, cellsL (V.take k) = C := ⟨_, rfl⟩
      rw [hC] at n0 n1 HRS ⊢
      have HCQ := hid hC
      clear hb p2 HB2 HO2 hsl hC
      have hw1 : IntKind.i64.wrap (C + (j : Int)) = C + (j : Int) := IntWalk.i64_in _ ⟨by omega, by omega⟩
      have hbz : w.heap.size ≤ w3.heap.size := HB3.out.size
      go_wp2_with (at_builtin; go_loud (refine wpList_appN rfl _ _ rfl w.heap.size _ L [C + (j : Int)] (by rfl) (own_kept HO3.out ((Below.refl w3.heap.size w3).alloc (Nat.le_refl _) (.cells #[.int .i64 (C + (j : Int))] 2))) (some ⟨w3.heap.size, 0, none⟩) 1 (by rfl) (one_numN w3 _) (fun e => by cases e) (fun e => by cases e) HLE.out (Nat.le_trans hbz (by rw [World.size_alloc]; omega)) ?_))
      intro v4 w4 ho hg hv
      have HB4 : Hid (Below w.heap.size w w4) := (HB3.out.alloc hbz _).grown hg.out (Nat.le_trans hbz (by rw [World.size_alloc]; omega)) (fun g hg => HO3.out.lt g hg |>.1)
      have HO4 := hid (show Own w4 w.heap.size v4 _ from HRS.out ▸ ho.out)
      clear ho hg hv HB3 HO3 HRS HLE
      go_wp2_with fail
      go_roundw
      case rel => exact ⟨j + 1, _, HJ.out, by go_num, rfl, by rw [HCQ.out]; exact HO4, HB4⟩
      case measure => have h9 := HJ.out; clear hv24 hk0 hk1 hkc; simp [intOf]; omega
     ·have hje : j = S := by omega
      subst hje
      go_wp2_with fail
      go_roundw
      case rel => exact ⟨k + 1, _, HLT.out, by go_num, rfl, by rw [HPN.out, HLQ.out]; exact HO2, HB2⟩
      case measure => have h9 := HLT.out; have h10 := HL24.out; clear hv24 hk0 hk1 hkc; simp [intOf]; omega
   ·rw [if_neg hkd, List.append_nil] at HPN
    have hkb : (x.kind != 2) = true := by simpa using hkd
    clear hkd
    go_wp2_with fail
    go_roundw
    case rel => exact ⟨k + 1, _, HLT.out, by go_num, rfl, by rw [HPN.out]; exact HO, HB⟩
    case measure => have h9 := HLT.out; have h10 := HL24.out; clear hv24 hk0 hk1 hkc; simp [intOf]; omega
  ·have hke : k = V.length := by omega
   subst hke
   go_wp2_with fail
   go_ret
   exact ⟨_, rfl, HO.out, HB.out⟩
end Go.Proofs.YteeklmgkhacbcaaGreatDoor
