/-
  impl's checker: what its types lean on; plainType.
-/
import Derived.Test.YteeklmgkhacbcaaGreatDoorIVars
import Derived.Test.YteeklmgkhacbcaaGreatDoorSOwn
import Derived.Maps.OwnSet
import Derived.Test.YteeklmgkhacbcaaGreatDoorTreeVar
import Derived.Deep.RegionHeld3
namespace Go.Proofs.YteeklmgkhacbcaaGreatDoor
open Go.RowKit
open Go.Maps (IsMap string_keyed)
set_option linter.unusedVariables false
def firstI (V : List LVar) (nm : List UInt8) : Nat → Option Nat
 | 0 => none
 | k + 1 => match firstI V nm k with
  | some i => some i
  | none => if (V.getD k default).name = nm then some k else none
theorem firstI_some {V : List LVar} {nm : List UInt8} {k i : Nat} (h : firstI V nm k = some i) : firstI V nm (k + 1) = some i := by
 show (match firstI V nm k with | some i => some i | none => _) = _
 rw [h]
theorem firstI_hit {V : List LVar} {nm : List UInt8} {k : Nat} (h : firstI V nm k = none) (e : (V.getD k default).name = nm) : firstI V nm (k + 1) = some k := by
 show (match firstI V nm k with | some i => some i | none => if (V.getD k default).name = nm then some k else none) = _
 rw [h]; simp only [if_pos e]
theorem firstI_miss {V : List LVar} {nm : List UInt8} {k : Nat} (h : firstI V nm k = none) (e : (V.getD k default).name ≠ nm) : firstI V nm (k + 1) = none := by
 show (match firstI V nm k with | some i => some i | none => if (V.getD k default).name = nm then some k else none) = _
 rw [h]; simp only [if_neg e]
theorem key_lit (nm : List UInt8) : WideAt.IsKeyLit (.string nm) := trivial
def entVal (V : List LVar) (nv i : Nat) : Value := .agg #[.string (bs (V.getD i default).name), .int .i64 (V.getD i default).kind, .int .i64 (V.getD i default).type, .int .i64 (V.getD i default).size, .bool (decide (nv ≤ i)), .int .i64 (cellsL (V.take i))]
abbrev noVal : Value := .agg #[.string ⟨#[]⟩, .int .i64 0, .int .i64 0, .int .i64 0, .bool false, .int .i64 0]
def heldR (v : Value) : Option (DataW Value × List MemPlace) := some (.held v, [])
def nameD (V : List LVar) (nv : Nat) : Nat → DataW Value
 | 0 => .map []
 | k + 1 => if (firstI V (V.getD k default).name k).isSome then nameD V nv k else (nameD V nv k).put (.string (V.getD k default).name) (.held (entVal V nv k))
theorem nameD_isMap (V : List LVar) (nv : Nat) : ∀ k, IsMap (nameD V nv k) := by
 intro k
 induction k with
 | zero => exact Maps.isMap_empty
 | succ k ih =>
  unfold nameD
  split
  ·exact ih
  ·exact ih.put _ _
theorem nameD_at (V : List LVar) (nv : Nat) (zd : DataW Value) : ∀ (k : Nat) (nm : List UInt8), Maps.has (nameD V nv k) (.string nm) = (firstI V nm k).isSome ∧ (nameD V nv k).atKey (.string nm) zd = (match firstI V nm k with | some i => .held (entVal V nv i) | none => zd) := by
 intro k
 induction k with
 | zero => intro nm; exact ⟨rfl, rfl⟩
 | succ k ih =>
  intro nm
  unfold nameD
  split
  ·rename_i hs
   obtain ⟨h1, h2⟩ := ih nm
   rw [h1, h2]
   cases hf : firstI V nm k with
   | some i => rw [firstI_some hf]; exact ⟨rfl, rfl⟩
   | none =>
    by_cases e : (V.getD k default).name = nm
    ·rw [e, hf] at hs; simp at hs
    ·rw [firstI_miss hf e]; exact ⟨rfl, rfl⟩
  ·rename_i hs
   by_cases e : (V.getD k default).name = nm
   ·rw [e]
    rw [e] at hs
    have hn : firstI V nm k = none := by cases hf : firstI V nm k with
     | none => rfl
     | some i => rw [hf] at hs; simp at hs
    rw [Maps.has_put_same (nameD_isMap V nv k) (key_lit nm), Maps.atKey_put_same (nameD_isMap V nv k) (key_lit nm), firstI_hit hn e]
    exact ⟨rfl, rfl⟩
   ·have hne : (Lit.string nm) ≠ (Lit.string (V.getD k default).name) := fun h => e (by injection h with h; exact h.symm)
    obtain ⟨h1, h2⟩ := ih nm
    rw [Maps.has_put_other hne, Maps.atKey_put_other hne, h1, h2]
    cases hf : firstI V nm k with
    | some i => rw [firstI_some hf]; exact ⟨rfl, rfl⟩
    | none => rw [firstI_miss hf e]; exact ⟨rfl, rfl⟩
def lookV (V : List LVar) (nv k : Nat) (nm : List UInt8) : Value := match firstI V nm k with | some i => entVal V nv i | none => noVal
theorem firstI_from (V : List LVar) (nm : List UInt8) : ∀ k, k ≤ V.length → (∀ i, firstI V nm k = some i → varFrom nm V 0 = (i : Int) ∧ i < k) ∧ (firstI V nm k = none → varFrom nm V 0 = varFrom nm (V.drop k) k) := by
 intro k
 induction k with
 | zero => intro _; exact ⟨fun i h => by simp [firstI] at h, fun _ => rfl⟩
 | succ k ih =>
  intro hk
  obtain ⟨h1, h2⟩ := ih (by omega)
  have hx : V[k]? = some (V.getD k default) := by rw [List.getD_eq_getElem?_getD, List.getElem?_eq_getElem (show k < V.length by omega)]; rfl
  cases hf : firstI V nm k with
  | some i => rw [firstI_some hf]; exact ⟨fun j hj => by simp at hj; subst hj; exact ⟨(h1 i hf).1, by have := (h1 i hf).2; omega⟩, fun h => by simp at h⟩
  | none =>
   by_cases e : (V.getD k default).name = nm
   ·rw [firstI_hit hf e]
    refine ⟨fun j hj => ?_, fun h => by simp at h⟩
    simp at hj; subst hj
    exact ⟨(h2 hf).trans (varFrom_hit hx e), by omega⟩
   ·rw [firstI_miss hf e]
    exact ⟨fun j hj => by simp at hj, fun _ => (h2 hf).trans (varFrom_miss hx e)⟩
theorem zeroE (w : World) : (zeroValue 93).run Tryz.prog w = .ok noVal w := by kernel_rfl
theorem keyOf_nm (nm : List UInt8) (h : nm.length ≤ 1048576) : keyOf Tryz.prog 9 (.string (bs nm)) = some (.string nm) := by
 have := WideMaps.keyOf_string_mk (P := Tryz.prog) (k := 9) Tryz.underlying9 (s := bs nm) (by rw [bs_size]; unfold maxLen; omega)
 rw [this]
 rfl
theorem wpList_look_names {w : World} {ops : Array Oper} {rest : List Oper} {o : Oper} {a : Act} {Q : Exit → Act → World → Prop} (hg : o.guard = none) (m x : Operand)
  (hop : o.op = Op.lookup 180 m x true) (V : List LVar) (nv k b n : Nat) (hm : a.eval m = .map (some b)) (hown : w.ownsMap Tryz.prog 9 heldR b n (nameD V nv k)) (nm : List UInt8) (hs : nm.length ≤ 1048576) (hx : a.eval x = .string (bs nm)) (val : Value) (ok : Bool) (hval : lookV V nv k nm = val) (hok : (firstI V nm k).isSome = ok)
  (hK : wpList Tryz.prog ops Q rest (a.put o.dst (.tuple #[val, .bool ok])) w) : wpList Tryz.prog ops Q (o :: rest) a w := by
 subst hval hok
 refine wpList_lookup_own_ok w hg m x _ hop 9 93 (string_keyed Tryz.underlying9) Tryz.underlying180 heldR (zeroE w) (.held noVal) [] rfl b n _ hm hown _ _ hx (keyOf_nm nm hs) ?_
 intro v ps hv
 obtain ⟨h1, h2⟩ := nameD_at V nv (.held noVal) k nm
 rw [h2] at hv
 rw [h1]
 have e : v = lookV V nv k nm := by
  unfold lookV
  unfold heldR at hv
  split at hv <;> · simp at hv; exact hv.1
 rw [e]; exact hK
theorem wpList_put_names {w : World} {ops : Array Oper} {rest : List Oper} {o : Oper} {a : Act} {Q : Exit → Act → World → Prop} (hg : o.guard = none) (m x v : Operand)
  (hop : o.op = Op.mapUpdate 180 m x v) (V : List LVar) (nv k b n : Nat) (hm : a.eval m = .map (some b)) (hown : w.ownsMap Tryz.prog 9 heldR b n (nameD V nv k)) (hn : n < maxLen) (hs : (V.getD k default).name.length ≤ 1048576) (hx : a.eval x = .string (bs (V.getD k default).name)) (hv : a.eval v = entVal V nv k)
  (hf : firstI V (V.getD k default).name k = none)
  (hK : ∀ w', w'.ownsMap Tryz.prog 9 heldR b (n + 1) (nameD V nv (k + 1)) → w.grownBy w' (some b) → wpList Tryz.prog ops Q rest (a.put o.dst undef) w') : wpList Tryz.prog ops Q (o :: rest) a w := by
 refine wpList_mapUpdate_own w hg m x v _ hop 9 93 (string_keyed Tryz.underlying9) Tryz.underlying180 heldR b n _ hm hown hn _ _ _ hx hv (keyOf_nm _ hs) (.held (entVal V nv k)) [] rfl ?_
 intro w' h1 h2
 refine hK w' ?_ h2
 have e : nameD V nv (k + 1) = (nameD V nv k).put (.string (V.getD k default).name) (.held (entVal V nv k)) := by
  show (if (firstI V (V.getD k default).name k).isSome then _ else _) = _
  rw [hf]; rfl
 rw [e]; exact h1
theorem nameD_skip {V : List LVar} {nv k : Nat} (h : (firstI V (V.getD k default).name k).isSome = true) : nameD V nv (k + 1) = nameD V nv k := by
 show (if (firstI V (V.getD k default).name k).isSome then _ else _) = _
 rw [if_pos h]
end Go.Proofs.YteeklmgkhacbcaaGreatDoor
namespace Go.Proofs.YteeklmgkhacbcaaGreatDoor
open Go.RowKit
set_option linter.unusedVariables false
attribute [local go_sem] bs_size bs_get bs_extract bs_append bs_eq bs_toList
def RowE (w : World) (ad : Option Addr) (V : List LVar) (nv : Nat) : Prop := V ≠ [] → ∃ g, ad = some ⟨g, 0, none⟩ ∧ ∀ (i : Nat) (x : LVar), V[i]? = some x → VarAt w g (i * 6) x ∧ w.cell? ⟨g, i * 6 + 4, none⟩ = some (.bool (decide (nv ≤ i))) ∧ w.cell? ⟨g, i * 6 + 5, none⟩ = some (.int .i64 (cellsL (V.take i)))
theorem RowE.of_own {w : World} {B : Nat} {ad : Option Addr} {n c nv : Nat} {V : List LVar} (h : w.ownsRow B 93 6 (.slice ad n c) n (entC V nv n)) (hn : n = V.length) : RowE w ad V nv := by
 intro hne
 subst hn
 have hp : 0 < V.length := List.length_pos_iff.2 hne
 obtain ⟨g, c', e, _, _, hc⟩ := rowE_cells h hp (entC_len _ _ _)
 simp at e
 refine ⟨g, e.1, fun i x hx => ?_⟩
 have hi := (List.getElem?_eq_some_iff.1 hx).1
 have hat : ∀ j, j < 6 → w.cell? ⟨g, i * 6 + j, none⟩ = (entV V nv i)[j]? := fun j hj => by rw [hc _ (by omega), entC_at V nv _ i hi j hj]
 rw [entV_at hx] at hat
 exact ⟨⟨hat 0 (by omega), hat 1 (by omega), hat 2 (by omega), hat 3 (by omega)⟩, hat 4 (by omega), hat 5 (by omega)⟩
theorem RowE.below {w w' : World} {ad : Option Addr} {V : List LVar} {nv : Nat} (h : RowE w ad V nv) (hb : Below w.heap.size w w') : RowE w' ad V nv := fun hne => by
 obtain ⟨g, e, hc⟩ := h hne
 refine ⟨g, e, fun i x hx => ?_⟩
 have hk : Keeps 0 w w' := Keeps.of_below hb
 obtain ⟨h1, h2, h3⟩ := hc i x hx
 exact ⟨h1.keep (lo := 0) hk (Nat.zero_le _), hk.cell (p := ⟨g, i * 6 + 4, none⟩) (Nat.zero_le _) h2, hk.cell (p := ⟨g, i * 6 + 5, none⟩) (Nat.zero_le _) h3⟩
set_option maxHeartbeats 3200000 in
set_option maxRecDepth 100000 in
theorem cellCount_any (V : List LVar) (nv : Nat) (ad : Option Addr) (k c : Nat) (w : World) (hk : k = V.length) (hV : RowE w ad V nv) (hs : SizesLe V) (hl : V.length ≤ 624) :
  Calls Tryz.prog 78 #[.slice ad k c] w fun e w' => e = .returned (.int .i64 (cellsL V)) ∧ Below w.heap.size w w' := by
 subst hk
 have HV : Hid (RowE w ad V nv) := hV
 have HNX : Hid (∀ (k : Nat) (x : LVar), V[k]? = some x → 0 ≤ cellsL (V.take k) ∧ cellsL (V.take k) ≤ 4992 ∧ 0 ≤ szV x ∧ szV x ≤ 8 ∧ cellsL (V.take (k + 1)) = cellsL (V.take k) + szV x) := fun k x hk => cells_next hk hs hl
 have HSZ : Hid (∀ (x : LVar) (w : World), Calls Tryz.prog 62 #[varV x] w fun e w' => e = .returned (.int .i64 (szV x)) ∧ Below w.heap.size w w') := cellsFor_any
 clear hV hs
 go_enter Tryz.func78, Tryz.ntmps78
 go_wp2
 go_loopw [3, 8] (fun d i wr => ∃ j : Nat, j ≤ V.length ∧ i = .int .i64 j ∧ d = .int .i64 (cellsL (V.take j)) ∧ Below w.heap.size w wr) (fun d i _ => V.length - (intOf i).toNat)
 case atStart => exact ⟨0, by omega, rfl, rfl, Below.refl _ _⟩
 case round =>
  obtain ⟨j, hj, rfl, rfl, hB⟩ := hrel
  have HB := hid hB
  by_cases hlt : j < V.length
  ·obtain ⟨x, hx⟩ : ∃ x, V[j]? = some x := ⟨V[j]'(by omega), List.getElem?_eq_getElem _⟩
   obtain ⟨g, rfl, hc⟩ := (HV.out.below hB) (by intro e; rw [e] at hx; simp at hx)
   obtain ⟨⟨c0, c1, c2, c3⟩, c4, c5⟩ := hc j x hx
   obtain ⟨n0, n1, n2, n3, n4⟩ := HNX.out j x hx
   have HN : Hid (cellsL (V.take (j + 1)) = cellsL (V.take j) + szV x) := n4
   have hj0 : (0 : Int) ≤ (j : Int) := by omega
   have hj1 : (j : Int) < (V.length : Int) := by omega
   have hwz := hB.size
   clear hx hc n4 hB
   generalize cellsL (V.take j) = s at *
   go_wp2_with fail
   have hbb : Below wr.heap.size wr (wr.alloc (.cells #[.string (bs x.name), .int .i64 x.kind, .int .i64 x.type, .int .i64 x.size, .bool (decide (nv ≤ j)), .int .i64 s] 93)) := (Below.refl _ _).alloc (Nat.le_refl _) _
   generalize wr.alloc (.cells #[.string (bs x.name), .int .i64 x.kind, .int .i64 x.type, .int .i64 x.size, .bool (decide (nv ≤ j)), .int .i64 s] 93) = w1 at *
   refine (HSZ.out x _).mono ?_
   rintro e w2 ⟨rfl, hb⟩
   have HB2 : Hid (Below w.heap.size w w2) := HB.out.trans ((hbb.trans (hb.mono hbb.size)).mono HB.out.size)
   clear hb hbb HB c0 c1 c2 c3 c4 c5
   generalize szV x = z at *
   go_wp2_with fail
   go_roundw
   case rel => exact ⟨j + 1, by omega, by go_num, by rw [HN.out], HB2.out⟩
   case measure => simp [intOf]; omega
  ·have hje : j = V.length := by omega
   subst hje
   go_wp2
   go_ret
   exact ⟨by rw [List.take_length]; rfl, HB.out⟩
set_option maxHeartbeats 6400000 in
set_option maxRecDepth 100000 in
theorem byName_any (V : List LVar) (nv : Nat) (ad : Option Addr) (k c : Nat) (w : World) (hk : k = V.length) (hV : RowE w ad V nv) (hl : V.length ≤ 624) (hn : ∀ x ∈ V, x.name.length ≤ 1048576) :
  Calls Tryz.prog 131 #[.slice ad k c] w fun e w' => e = .returned (.map (some w.heap.size)) ∧ w'.ownsMap Tryz.prog 9 heldR w.heap.size V.length (nameD V nv V.length) ∧ Below w.heap.size w w' := by
 subst hk
 have HV : Hid (RowE w ad V nv) := hV
 have HN := hid hn
 have hmm := @run_makeMap Tryz.prog
 clear hV hn
 go_enter Tryz.func131, Tryz.ntmps131
 go_wp2
 have HM0 : Hid ((w.alloc (.map #[] 0)).ownsMap Tryz.prog 9 heldR w.heap.size 0 (nameD V nv 0)) := World.ownsMap_made _ _ _ _
 have HB0 : Hid (Below w.heap.size w (w.alloc (.map #[] 0))) := (Below.refl _ _).alloc (Nat.le_refl _) _
 generalize w.alloc (.map #[] 0) = W0 at *
 clear hmm
 go_loopw [11] (fun i wr => ∃ j : Nat, j ≤ V.length ∧ i = .int .i64 j ∧ wr.ownsMap Tryz.prog 9 heldR w.heap.size j (nameD V nv j) ∧ Below w.heap.size w wr) (fun i _ => V.length - (intOf i).toNat)
 case atStart => exact ⟨0, by omega, rfl, HM0.out, HB0.out⟩
 case round =>
  clear HM0 HB0
  obtain ⟨j, hj, rfl, hown, hB⟩ := hrel
  have HOWN := hid hown
  have HB := hid hB
  by_cases hlt : j < V.length
  ·obtain ⟨x, hx⟩ : ∃ x, V[j]? = some x := ⟨V[j]'(by omega), List.getElem?_eq_getElem _⟩
   obtain ⟨g, rfl, hc⟩ := (HV.out.below hB) (by intro e; rw [e] at hx; simp at hx)
   obtain ⟨⟨c0, c1, c2, c3⟩, c4, c5⟩ := hc j x hx
   have hj0 : (0 : Int) ≤ (j : Int) := by omega
   have hj1 : (j : Int) < (V.length : Int) := by omega
   have hwz := hB.size
   have hxn := HN.out x (List.mem_of_getElem? hx)
   have HXD : Hid (V.getD j default = x) := by unfold Hid; rw [List.getD_eq_getElem?_getD, hx]; rfl
   have HEV : Hid (entVal V nv j = .agg #[.string (bs x.name), .int .i64 x.kind, .int .i64 x.type, .int .i64 x.size, .bool (decide (nv ≤ j)), .int .i64 (cellsL (V.take j))]) := by unfold Hid entVal; rw [HXD.out]
   clear hx hc hB
   generalize cellsL (V.take j) = s at *
   generalize decide (nv ≤ j) = ob at *
   have hown1 := hown.alloc (.cells #[.string (bs x.name), .int .i64 x.kind, .int .i64 x.type, .int .i64 x.size, .bool ob, .int .i64 s] 93)
   cases hr : firstI V x.name j with
   | some i =>
    have HSK : Hid (nameD V nv (j + 1) = nameD V nv j) := nameD_skip (by rw [HXD.out, hr]; rfl)
    obtain ⟨y0, y1, y2, y3, y4, y5, hy⟩ : ∃ y0 y1 y2 y3 y4 y5, entVal V nv i = .agg #[.string (bs y0), .int .i64 y1, .int .i64 y2, .int .i64 y3, .bool y4, .int .i64 y5] := ⟨_, _, _, _, _, _, rfl⟩
    have hlv : lookV V nv j x.name = .agg #[.string (bs y0), .int .i64 y1, .int .i64 y2, .int .i64 y3, .bool y4, .int .i64 y5] := by unfold lookV; rw [hr]; exact hy
    have hok : (firstI V x.name j).isSome = true := by rw [hr]; rfl
    have HOW2 : Hid (((wr.alloc (.cells #[.string (bs x.name), .int .i64 x.kind, .int .i64 x.type, .int .i64 x.size, .bool ob, .int .i64 s] 93)).alloc (.cells #[.string (bs y0), .int .i64 y1, .int .i64 y2, .int .i64 y3, .bool y4, .int .i64 y5] 93)).ownsMap Tryz.prog 9 heldR w.heap.size j (nameD V nv j)) := hown1.alloc _
    have HB2 : Hid (Below w.heap.size w ((wr.alloc (.cells #[.string (bs x.name), .int .i64 x.kind, .int .i64 x.type, .int .i64 x.size, .bool ob, .int .i64 s] 93)).alloc (.cells #[.string (bs y0), .int .i64 y1, .int .i64 y2, .int .i64 y3, .bool y4, .int .i64 y5] 93))) := (HB.out.alloc HB.out.size _).alloc (by have := HB.out.size; simp; omega) _
    clear hr hy hown
    go_wp2_with (at_lookup; go_loud (refine wpList_look_names rfl _ _ rfl V nv j w.heap.size j rfl hown1 x.name hxn rfl _ true hlv hok ?_))
    go_roundw
    case rel => exact ⟨j + 1, by omega, by go_num, by rw [HSK.out]; exact HOW2.out.mono (by omega), HB2.out⟩
    case measure => simp [intOf]; omega
   | none =>
    have hlv : lookV V nv j x.name = noVal := by unfold lookV; rw [hr]
    have hok : (firstI V x.name j).isSome = false := by rw [hr]; rfl
    have hown2 := hown1.alloc (.cells #[.string ⟨#[]⟩, .int .i64 0, .int .i64 0, .int .i64 0, .bool false, .int .i64 0] 93)
    have HB2 : Hid (Below w.heap.size w ((wr.alloc (.cells #[.string (bs x.name), .int .i64 x.kind, .int .i64 x.type, .int .i64 x.size, .bool ob, .int .i64 s] 93)).alloc (.cells #[.string ⟨#[]⟩, .int .i64 0, .int .i64 0, .int .i64 0, .bool false, .int .i64 0] 93))) := (HB.out.alloc HB.out.size _).alloc (by have := HB.out.size; simp; omega) _
    have hff : firstI V (V.getD j default).name j = none := by rw [HXD.out]; exact hr
    have hxe : (V.getD j default).name = x.name := by rw [HXD.out]
    clear hr hown
    go_wp2_with (first | (at_lookup; refine wpList_look_names rfl _ _ rfl V nv j w.heap.size j rfl hown1 x.name hxn rfl _ false hlv hok ?_) | (at_mapUpdate; go_loud (refine wpList_put_names rfl _ _ _ rfl V nv j w.heap.size j rfl hown2 (by unfold maxLen; omega) (by rw [hxe]; exact hxn) (by rw [hxe]; rfl) HEV.out.symm hff ?_)))
    intro w9 hown9 hgrow
    have HOW9 := hid hown9
    have HB9 : Hid (Below w.heap.size w w9) := HB2.out.grown hgrow (by have := HB2.out.size; omega) (fun b hb => by cases hb; omega)
    clear hown9 hgrow hown1 hown2 HEV hlv hok hff hxe HB2 HOWN
    go_wp2_with fail
    go_roundw
    case rel => exact ⟨j + 1, by omega, by go_num, HOW9.out, HB9.out⟩
    case measure => simp [intOf]; omega
  ·have hje : j = V.length := by omega
   subst hje
   clear hown hB
   go_wp2
   go_ret
   exact ⟨rfl, HOWN.out, HB.out⟩
theorem ownsMap_block {w w' : World} {b n : Nat} {D : DataW Value} (h : w.ownsMap Tryz.prog 9 heldR b n D) (e : w'.heap[b]? = w.heap[b]?) : w'.ownsMap Tryz.prog 9 heldR b n D := by
 obtain ⟨es, clock, hb, F, hs, hD⟩ := h
 exact ⟨es, clock, e.trans hb, F, hs, hD⟩
abbrev NamesAt (W : World) (mp : Nat) (V : List LVar) (nv : Nat) : Prop := W.ownsMap Tryz.prog 9 heldR mp V.length (nameD V nv V.length)
theorem names_look {W : World} {mp nv : Nat} {V : List LVar} (h : NamesAt W mp V nv) (nm : List UInt8) (hn : nm.length ≤ 1048576) :
  (Instr.lookup 180 (.map (some mp)) (.string (bs nm)) true).run Tryz.prog W = .ok (.tuple #[lookV V nv V.length nm, .bool (firstI V nm V.length).isSome]) W := by
 obtain ⟨v, ps, hrun, hv⟩ := h.look_ok (zp := []) (Maps.string_keyed Tryz.underlying9) Tryz.underlying180 (zeroE W) (zd := .held noVal) rfl (keyOf_nm nm hn)
 obtain ⟨h1, h2⟩ := nameD_at V nv (.held noVal) V.length nm
 rw [h1] at hrun
 rw [h2] at hv
 have e : v = lookV V nv V.length nm := by
  unfold lookV
  unfold heldR at hv
  split at hv <;> · simp at hv; exact hv.1
 rw [hrun, e]
structure CkE (lo : Nat) (W : World) (cp mp : Nat) (vn vl : Value) (T : LTree) (V : List LVar) : Prop where
 row : W.heap[cp]? = some (.cells #[vn, .map (some mp), vl] 183 (0, 0))
 nodes : NodesV lo W vn T.nodes
 map : NamesAt W mp V T.vars.length
 good : Good T
 few : V.length ≤ 624
theorem CkE.below {lo cp mp : Nat} {W W' : World} {vn vl : Value} {T : LTree} {V : List LVar} (h : CkE lo W cp mp vn vl T V) (hb : Below W.heap.size W W') : CkE lo W' cp mp vn vl T V :=
 ⟨blk h.row hb, h.nodes.below hb, ownsMap_block h.map (hb.block _ h.map.lt), h.good, h.few⟩
end Go.Proofs.YteeklmgkhacbcaaGreatDoor
