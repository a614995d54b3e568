/-
  spec.l5Name.
-/
import Derived.Test.YteeklmgkhacbcaaGreatDoorTreeTo2
import Derived.Laws.AppendOwn
import Derived.Test.YteeklmgkhacbcaaGreatDoorSOwn
import Derived.Test.YteeklmgkhacbcaaGreatDoorIVars
import Derived.Test.YteeklmgkhacbcaaGreatDoorIVarsM
import Derived.Deep.RegionHeld3
namespace Go.Proofs.YteeklmgkhacbcaaGreatDoor
open Go.RowKit
set_option linter.unusedVariables false
theorem addr_add0 (g j : Nat) : (⟨g, 0, none⟩ : Addr).add j = ⟨g, j, none⟩ := by
 unfold Addr.add; split <;> simp_all
theorem append_nothing (ty : TypeId) (ad a2 : Option Addr) (n c c2 : Nat) (w : World) (h : n ≤ c) :
  (Builtin.append_ #[34, 34] ty #[.slice ad n c, .slice a2 0 c2]).run Tryz.prog w = .ok (.slice ad n c) w := by
 cases ad <;> cases a2 <;> simp [Builtin.append_, go_sem, h, Builtin.lenOf, Builtin.firstCells, sizeOf]
theorem wpList_append_none {w : World} {ops : Array Oper} {rest : List Oper} {o : Oper} {a : Act} {Q : Exit → Act → World → Prop} (hgd : o.guard = none) (s x : Operand)
  (ho : o.op = .call { callee := .builtin .append, args := #[s, x], argTypes := #[34, 34] }) (ad a2 : Option Addr) (n c c2 : Nat) (hs : a.eval s = .slice ad n c) (hx : a.eval x = .slice a2 0 c2) (hle : n ≤ c)
  (h : wpList Tryz.prog ops Q rest (a.put o.dst (.slice ad n c)) w) : wpList Tryz.prog ops Q (o :: rest) a w :=
 wpList_plain hgd fun _ hK => by
  have hr := append_nothing o.type ad a2 n c c2 w hle
  unfold Oper.wp execOp
  simp only [ho, resolve, invoke, builtin, Sem.run_bind, Sem.run_pure, Result.andThen_ok, List.map_toArray, List.map_cons, List.map_nil, hs, hx, hr]
  exact hK _ _ h
attribute [local go_sem] bs_size bs_get bs_extract bs_append bs_eq bs_toList
theorem varCells_append (a b : List LVar) : varCells (a ++ b) = varCells a ++ varCells b := by unfold varCells; rw [List.flatMap_append]
theorem varCells_one (xs : List LVar) : ∀ u ∈ varCells xs, u.oneCell' = true := by
 intro u hu
 obtain ⟨x, _, h⟩ := List.mem_flatMap.1 hu
 simp at h
 rcases h with rfl | rfl | rfl | rfl <;> rfl
theorem cells_of_heap {w : World} {g : Nat} {T : TypeId} {l : List Value} (h : w.heap[g]? = some (.cells l.toArray T (0, 0))) : ∀ j u, l[j]? = some u → w.cell? ((⟨g, 0, none⟩ : Addr).add j) = some u := by
 intro j u hj
 have := cell_of_row _ _ j _ _ _ h
 rw [addr_add0, this]
 simpa using hj
theorem varCells_from {w : World} {b o : Nat} {V : List LVar} (h : ∀ (i : Nat) (x : LVar), V[i]? = some x → VarAt w b (o + i * 4) x) : ∀ j u, (varCells V)[j]? = some u → w.cell? ((⟨b, o, none⟩ : Addr).add j) = some u := by
 intro j u hj
 have hlt := (List.getElem?_eq_some_iff.1 hj).1
 rw [varCells_len] at hlt
 obtain ⟨i, r, hr, rfl⟩ : ∃ i r, r < 4 ∧ j = i * 4 + r := ⟨j / 4, j % 4, Nat.mod_lt _ (by omega), by omega⟩
 have hi : i < V.length := by omega
 obtain ⟨x, hx⟩ : ∃ x, V[i]? = some x := ⟨V[i], List.getElem?_eq_getElem hi⟩
 obtain ⟨c0, c1, c2, c3⟩ := h i x hx
 obtain ⟨u0, u1, u2, u3⟩ := varCells_at V i x hx
 have e : (⟨b, o, none⟩ : Addr).add (i * 4 + r) = ⟨b, o + i * 4 + r, none⟩ := by simp [Addr.add, Nat.add_assoc]
 rw [e]
 match r, hr with
 | 0, _ => rw [Nat.add_zero] at hj ⊢; rw [c0, ← u0, hj]
 | 1, _ => rw [c1, ← u1, hj]
 | 2, _ => rw [c2, ← u2, hj]
 | 3, _ => rw [c3, ← u3, hj]
set_option maxHeartbeats 6400000 in
set_option maxRecDepth 100000 in
theorem l5Owns_any (lo p : Nat) (vv vn vb : Value) (T : LTree) (w : World) (h : TreeP lo w p vv vn vb T) (hg : Good T) :
  Calls Tryz.prog 70 #[.pointer (some ⟨p, 0, none⟩)] w fun e w' => ∃ v, e = .returned v ∧ w'.ownsRow w.heap.size 86 4 v (ownsL 3 T.nodes).length (varCells (ownsL 3 T.nodes)) ∧ Below w.heap.size w w' := by
 obtain ⟨i0, hi, hz0, hz1, hz2⟩ := info_parts infoV
 obtain ⟨an, cn, rfl, _, hhn⟩ := id h.tree.nodes
 have HN := hid hhn
 have p1 := h.c1
 have HP1 : Hid (w.cell? ⟨p, 1, none⟩ = some (.slice an T.nodes.length cn)) := p1
 have hpw : p < w.heap.size := World.block_lt_of_cell? _ _ p1
 have HOP : Hid (∀ n ∈ T.nodes, n.kind = 11 → (1 ≤ n.op ∧ n.op ≤ 4) ∧ n.name.length ≤ 8) := fun n hn hk => by
  obtain ⟨k, hk2, rfl⟩ := List.getElem_of_mem hn
  have := (hg.node k _ (List.getElem?_eq_getElem hk2)).1
  exact ⟨own_op this hk, (name_len (own_name this hk)).2⟩
 have hnl := hg.nodes
 have HOWL : Hid (∀ k, (ownsL 3 (T.nodes.take k)).length ≤ 600) := fun k => by
  have := ownsL_len 3 (T.nodes.take k)
  have : (T.nodes.take k).length ≤ 200 := by rw [List.length_take]; omega
  omega
 clear h hhn hg p1
 go_enter Tryz.func70, Tryz.ntmps70
 go_wp2
 have HOW0 : Hid ((w.alloc (.cells #[] 86)).ownsRow w.heap.size 86 4 (.slice (some ⟨w.heap.size, 0, none⟩) 0 0) (ownsL 3 (T.nodes.take 0)).length (varCells (ownsL 3 (T.nodes.take 0)))) :=
  ⟨rfl, .inr ⟨w.heap.size, 0, #[], rfl, Nat.le_refl _, heap_alloc_new w _, Nat.le_refl _, by decide, rfl, rfl⟩⟩
 have HB0 : Hid (Below w.heap.size w (w.alloc (.cells #[] 86))) := (Below.refl _ _).alloc (Nat.le_refl _) _
 generalize w.alloc (.cells #[] 86) = W0 at *
 go_loopw [3, 4] (fun v i wr => ∃ k : Nat, k ≤ T.nodes.length ∧ i = .int .i64 k ∧ wr.ownsRow w.heap.size 86 4 v (ownsL 3 (T.nodes.take k)).length (varCells (ownsL 3 (T.nodes.take k))) ∧ Below w.heap.size w wr) (fun v i _ => T.nodes.length - (intOf i).toNat)
 case atStart => exact ⟨0, by omega, rfl, HOW0.out, HB0.out⟩
 case round =>
  clear HOW0 HB0
  obtain ⟨k, hk, rfl, hown, hB⟩ := hrel
  obtain ⟨ad, cp, rfl⟩ := rowE_shape hown
  have HOWN := hid hown
  have HB := hid hB
  have q1 := (hB.cell (p := ⟨p, 1, none⟩) hpw).trans HP1.out
  have hlk := HOWL.out k
  clear hown
  by_cases hlt : k < T.nodes.length
  ·obtain ⟨y, hy⟩ : ∃ y, T.nodes[k]? = some y := ⟨T.nodes[k], List.getElem?_eq_getElem hlt⟩
   obtain ⟨b, o, rfl, _, hc2⟩ := HN.out (by intro e; rw [e] at hlt; simp at hlt)
   obtain ⟨vk, vt, ve, hcs, hvs⟩ := hc2 k y hy
   obtain ⟨d0, d1, d2, d3, d4, d5, d6, d7⟩ := hcs.keep (lo := 0) (Keeps.of_below hB) (Nat.zero_le _)
   have HTK : Hid (ownsL 3 (T.nodes.take (k + 1)) = ownsL 3 (T.nodes.take k) ++ ownN 3 y) := ownsL_take hy
   have hopy := HOP.out y (List.mem_of_getElem? hy)
   have hk0 : (0 : Int) ≤ (k : Int) := by omega
   have hk1 : (k : Int) < (T.nodes.length : Int) := by omega
   obtain ⟨ak, ck, rfl, _⟩ := id hvs.kids
   obtain ⟨at2, ct, rfl, _⟩ := id hvs.thn
   obtain ⟨ae, ce, rfl, _⟩ := id hvs.els
   clear hy hc2 hcs hvs hB
   generalize ownsL 3 (T.nodes.take k) = M at *
   by_cases k11 : y.kind = 11
   ·have hop : 1 ≤ y.op ∧ y.op ≤ 4 := (hopy k11).1
    have hyn : y.name.length ≤ 8 := (hopy k11).2
    have HOW : Hid (ownN 3 y = ownOf 3 y.op y.name) := by unfold Hid ownN; rw [if_pos k11]
    have HCO : Hid (∀ w, Calls Tryz.prog 93 #[.agg #[.int .i64 11, .int .i64 y.op, .string (bs y.name), .int .i64 y.num, .int .i64 y.far, .slice ak y.kids.length ck, .slice at2 y.thn.length ct, .slice ae y.els.length ce]] w fun e w' => VarsR w.heap.size w' e (ownOf 3 y.op y.name) ∧ Below w.heap.size w w') := fun w => by
     have := l5Own_any y (.slice ak y.kids.length ck) (.slice at2 y.thn.length ct) (.slice ae y.els.length ce) w ⟨_, _, _, rfl⟩ ⟨_, _, _, rfl⟩ ⟨_, _, _, rfl⟩ (by omega) hop.1 hop.2
     rwa [nodeV, k11] at this
    have hol := (ownOf_len 3 y.op y.name).2
    clear hopy
    go_wp2_with fail
    refine (HCO.out _).mono ?_
    rintro e w2 ⟨⟨gv, rfl, hgv, hvb⟩, hb⟩
    have hown := rowE_kept HOWN.out hb
    have HB2 : Hid (Below w.heap.size w w2) := HB.out.trans (hb.mono HB.out.size)
    have hwz := HB2.out.size
    have HCL : Hid (∀ j u, (varCells (ownOf 3 y.op y.name))[j]? = some u → w2.cell? ((⟨gv, 0, none⟩ : Addr).add j) = some u) := cells_of_heap hvb
    clear HCO hb hvb HOWN HB d0 d1 d2 d3 d4 d5 d6 d7 q1
    obtain ⟨X, hX⟩ : ∃ X, X = ownOf 3 y.op y.name := ⟨_, rfl⟩
    rw [← hX] at HCL HOW hol ⊢
    clear hX
    go_wp2_with (at_builtin; go_loud (refine wpList_append_own _ rfl _ _ 34 rfl w.heap.size 86 i0 (.agg #[.string ⟨#[]⟩, .int .i64 0, .int .i64 0, .int .i64 0]) 4 40 Tryz.underlying34 hi hz0 hz1 hz2 rfl (by decide) _ _ _ rfl hown ⟨gv, 0, none⟩ X.length X.length (varCells X) rfl ?c1 HCL.out (varCells_one X) ?c3 ?c4 ?c5 ?_))
    case c1 => exact varCells_len X
    case c3 => unfold maxLen; omega
    case c4 => omega
    case c5 => exact hwz
    intro v' w9 hown' hgrow _
    have hnew : Hid (w9.ownsRow w.heap.size 86 4 v' (ownsL 3 (T.nodes.take (k + 1))).length (varCells (ownsL 3 (T.nodes.take (k + 1))))) := by
     unfold Hid
     rw [HTK.out, HOW.out, varCells_append, List.length_append]; exact hown'
    have hbel9 : Hid (Below w.heap.size w w9) := HB2.out.grown hgrow hwz (fun j hj => (hown.lt j hj).1)
    clear hown' hgrow hown HB2 HCL
    go_wp2_with fail
    go_roundw
    case rel => exact ⟨k + 1, by omega, by go_num, hnew.out, hbel9.out⟩
    case measure => simp [intOf]; omega
   ·have HOW : Hid (ownN 3 y = []) := by unfold Hid ownN; rw [if_neg k11]
    clear hopy
    go_wp2_with fail
    go_roundw
    case rel => exact ⟨k + 1, by omega, by go_num, by rw [HTK.out, HOW.out, List.append_nil]; exact HOWN.out, HB.out⟩
    case measure => simp [intOf]; omega
  ·have hke : k = T.nodes.length := by omega
   subst hke
   go_wp2
   go_ret
   refine ⟨_, rfl, ?_, HB.out⟩
   have h := HOWN.out
   rw [List.take_length] at h
   rw [List.take_length]
   exact h
set_option maxHeartbeats 6400000 in
set_option maxRecDepth 100000 in
theorem l5All_any (lo p : Nat) (vv vn vb : Value) (T : LTree) (w : World) (h : TreeP lo w p vv vn vb T) (hg : Good T) :
  Calls Tryz.prog 44 #[.pointer (some ⟨p, 0, none⟩)] w fun e w' => ∃ v, e = .returned v ∧ w'.ownsRow w.heap.size 86 4 v (allL 3 T).length (varCells (allL 3 T)) ∧ Below w.heap.size w w' := by
 obtain ⟨i0, hi, hz0, hz1, hz2⟩ := info_parts infoV
 obtain ⟨av, cv, rfl, _, hhv⟩ := id h.tree.vars
 have p0 := h.c0
 have hpw : p < w.heap.size := World.block_lt_of_cell? _ _ p0
 have HTP := hid h
 have HCO : Hid (∀ w', Below w.heap.size w w' → Calls Tryz.prog 70 #[.pointer (some ⟨p, 0, none⟩)] w' fun e w2 => ∃ v, e = .returned v ∧ w2.ownsRow w'.heap.size 86 4 v (ownsL 3 T.nodes).length (varCells (ownsL 3 T.nodes)) ∧ Below w'.heap.size w' w2) := fun w' hb => l5Owns_any lo p _ _ _ T w' (h.below hb) hg
 have hvl := hg.vars
 have hol : (ownsL 3 T.nodes).length ≤ 600 := by have := ownsL_len 3 T.nodes; have := hg.nodes; omega
 have HOW0 : Hid ((w.alloc (.cells #[] 86)).ownsRow w.heap.size 86 4 (.slice (some ⟨w.heap.size, 0, none⟩) 0 0) 0 []) :=
  ⟨rfl, .inr ⟨w.heap.size, 0, #[], rfl, Nat.le_refl _, heap_alloc_new w _, Nat.le_refl _, by decide, rfl, rfl⟩⟩
 have HB0 : Hid (Below w.heap.size w (w.alloc (.cells #[] 86))) := (Below.refl _ _).alloc (Nat.le_refl _) _
 have hsz0 : w.heap.size ≤ (w.alloc (.cells #[] 86)).heap.size := by simp
 by_cases hnil : T.vars = []
 ·have hn0 : T.vars.length = 0 := by rw [hnil]; rfl
  have HOW6 : Hid ((w.alloc (.cells #[] 86)).ownsRow w.heap.size 86 4 (.slice (some ⟨w.heap.size, 0, none⟩) 0 0) 0 []) := HOW0
  have HB6 : Hid (Below w.heap.size w (w.alloc (.cells #[] 86))) := HB0
  rw [hn0] at p0
  clear h hg hhv HOW0 HB0 HTP hvl hn0
  go_enter Tryz.func44, Tryz.ntmps44
  go_wp2_with (at_builtin; go_loud (refine wpList_append_none rfl _ _ rfl (some ⟨w.heap.size, 0, none⟩) av 0 0 cv rfl rfl (Nat.le_refl 0) ?_))
  generalize w.alloc (.cells #[] 86) = w6 at *
  obtain ⟨ad, cp, hsv⟩ : ∃ ad cp, (Value.slice (some ⟨w.heap.size, 0, none⟩) 0 0) = .slice ad 0 cp := ⟨_, _, rfl⟩
  rw [hsv] at HOW6 ⊢
  clear hsv
  have HC6 : Hid (Calls Tryz.prog 70 #[.pointer (some ⟨p, 0, none⟩)] w6 fun e w2 => ∃ v, e = .returned v ∧ w2.ownsRow w6.heap.size 86 4 v (ownsL 3 T.nodes).length (varCells (ownsL 3 T.nodes)) ∧ Below w6.heap.size w6 w2) := HCO.out w6 HB6.out
  clear HCO
  go_wp2_with fail
  refine HC6.out.mono ?_
  rintro e w7 ⟨v7, rfl, hown7, hb⟩
  have hwz := HB6.out.size
  have hown := rowE_kept HOW6.out hb
  have HB7 : Hid (Below w.heap.size w w7) := HB6.out.trans (hb.mono HB6.out.size)
  have hsz7 := HB7.out.size
  have HALL : Hid (allL 3 T = ownsL 3 T.nodes) := by unfold Hid allL; rw [hnil]; rfl
  clear HC6 hb HOW6
  by_cases hne : 0 < (ownsL 3 T.nodes).length
  ·obtain ⟨gv, c, rfl, _, _, hcs⟩ := rowE_cells hown7 hne (varCells_len _)
   have HCL : Hid (∀ j u, (varCells (ownsL 3 T.nodes))[j]? = some u → w7.cell? ((⟨gv, 0, none⟩ : Addr).add j) = some u) := fun j u hj => by
    have hlt := (List.getElem?_eq_some_iff.1 hj).1
    rw [varCells_len] at hlt
    rw [addr_add0, hcs j hlt, hj]
   clear hown7 hcs
   obtain ⟨X, hX⟩ : ∃ X, X = ownsL 3 T.nodes := ⟨_, rfl⟩
   rw [← hX] at HCL HALL hol hne ⊢
   clear hX
   go_wp2_with (at_builtin; go_loud (refine wpList_append_own _ rfl _ _ 34 rfl w.heap.size 86 i0 (.agg #[.string ⟨#[]⟩, .int .i64 0, .int .i64 0, .int .i64 0]) 4 40 Tryz.underlying34 hi hz0 hz1 hz2 rfl (by decide) _ _ _ rfl hown ⟨gv, 0, none⟩ X.length c (varCells X) rfl ?c1 HCL.out (varCells_one X) ?c3 ?c4 ?c5 ?_))
   case c1 => exact varCells_len _
   case c3 => unfold maxLen; omega
   case c4 => omega
   case c5 => exact hsz7
   intro v' w9 hown' hgrow _
   have hnew : Hid (w9.ownsRow w.heap.size 86 4 v' (allL 3 T).length (varCells (allL 3 T))) := by
    unfold Hid
    rw [HALL.out]; simpa using hown'
   have hbel9 : Hid (Below w.heap.size w w9) := HB7.out.grown hgrow hsz7 (fun j hj => (hown.lt j hj).1)
   clear hown' hgrow hown HB7 HCL
   go_wp2_with fail
   go_ret
   exact ⟨_, rfl, hnew.out, hbel9.out⟩
  ·have hz : ownsL 3 T.nodes = [] := List.length_eq_zero_iff.1 (by omega)
   have HAL2 : Hid (allL 3 T = []) := by unfold Hid; rw [HALL.out, hz]
   rw [hz] at hown7
   obtain ⟨a7, c7, rfl⟩ := rowE_shape hown7
   have hcp : 0 ≤ cp := row_cap hown
   have HOW7 := hid hown
   clear hown hown7 hz hne HALL
   go_wp2_with (at_builtin; go_loud (refine wpList_append_none rfl _ _ rfl ad a7 0 cp c7 rfl rfl hcp ?_))
   go_wp2_with fail
   go_ret
   exact ⟨_, rfl, by rw [HAL2.out]; exact HOW7.out, HB7.out⟩
 ·obtain ⟨b, o, rfl, _, hcs⟩ := hhv hnil
  have HCL : Hid (∀ j u, (varCells T.vars)[j]? = some u → (w.alloc (.cells #[] 86)).cell? ((⟨b, o, none⟩ : Addr).add j) = some u) := varCells_from fun i x hx => (hcs i x hx).keep (lo := 0) (Keeps.of_below ((Below.refl _ _).alloc (Nat.le_refl _) _)) (Nat.zero_le _)
  have hown := HOW0.out
  clear h hg hhv HOW0 hcs
  go_enter Tryz.func44, Tryz.ntmps44
  go_wp2_with (at_builtin; go_loud (refine wpList_append_own _ rfl _ _ 34 rfl w.heap.size 86 i0 (.agg #[.string ⟨#[]⟩, .int .i64 0, .int .i64 0, .int .i64 0]) 4 40 Tryz.underlying34 hi hz0 hz1 hz2 rfl (by decide) _ 0 [] rfl hown ⟨b, o, none⟩ T.vars.length cv (varCells T.vars) rfl ?c1 HCL.out (varCells_one T.vars) ?c3 ?c4 ?c5 ?_))
  case c1 => exact varCells_len _
  case c3 => unfold maxLen; omega
  case c4 => omega
  case c5 => exact hsz0
  intro v' w6 hown' hgrow _
  have HOW6 : Hid (w6.ownsRow w.heap.size 86 4 v' T.vars.length (varCells T.vars)) := hown'
  have HB6 : Hid (Below w.heap.size w w6) := HB0.out.grown hgrow hsz0 (fun j hj => (hown.lt j hj).1)
  obtain ⟨ad, cp, rfl⟩ := rowE_shape HOW6.out
  have HC6 : Hid (Calls Tryz.prog 70 #[.pointer (some ⟨p, 0, none⟩)] w6 fun e w2 => ∃ v, e = .returned v ∧ w2.ownsRow w6.heap.size 86 4 v (ownsL 3 T.nodes).length (varCells (ownsL 3 T.nodes)) ∧ Below w6.heap.size w6 w2) := HCO.out w6 HB6.out
  clear hown' hgrow hown HB0 HCL HCO
  go_wp2_with fail
  refine HC6.out.mono ?_
  rintro e w7 ⟨v7, rfl, hown7, hb⟩
  have hwz := HB6.out.size
  have hown := rowE_kept HOW6.out hb
  have HB7 : Hid (Below w.heap.size w w7) := HB6.out.trans (hb.mono HB6.out.size)
  have hsz7 := HB7.out.size
  have HALL : Hid (allL 3 T = T.vars ++ ownsL 3 T.nodes) := rfl
  clear HC6 hb HOW6
  by_cases hne : 0 < (ownsL 3 T.nodes).length
  ·obtain ⟨gv, c, rfl, _, _, hcs⟩ := rowE_cells hown7 hne (varCells_len _)
   have HCL : Hid (∀ j u, (varCells (ownsL 3 T.nodes))[j]? = some u → w7.cell? ((⟨gv, 0, none⟩ : Addr).add j) = some u) := fun j u hj => by
    have hlt := (List.getElem?_eq_some_iff.1 hj).1
    rw [varCells_len] at hlt
    rw [addr_add0, hcs j hlt, hj]
   clear hown7 hcs
   obtain ⟨X, hX⟩ : ∃ X, X = ownsL 3 T.nodes := ⟨_, rfl⟩
   rw [← hX] at HCL HALL hol hne ⊢
   clear hX
   go_wp2_with (at_builtin; go_loud (refine wpList_append_own _ rfl _ _ 34 rfl w.heap.size 86 i0 (.agg #[.string ⟨#[]⟩, .int .i64 0, .int .i64 0, .int .i64 0]) 4 40 Tryz.underlying34 hi hz0 hz1 hz2 rfl (by decide) _ _ _ rfl hown ⟨gv, 0, none⟩ X.length c (varCells X) rfl ?c1 HCL.out (varCells_one X) ?c3 ?c4 ?c5 ?_))
   case c1 => exact varCells_len _
   case c3 => unfold maxLen; omega
   case c4 => omega
   case c5 => exact hsz7
   intro v' w9 hown' hgrow _
   have hnew : Hid (w9.ownsRow w.heap.size 86 4 v' (allL 3 T).length (varCells (allL 3 T))) := by
    unfold Hid
    rw [HALL.out, varCells_append, List.length_append]; exact hown'
   have hbel9 : Hid (Below w.heap.size w w9) := HB7.out.grown hgrow hsz7 (fun j hj => (hown.lt j hj).1)
   clear hown' hgrow hown HB7 HCL
   go_wp2_with fail
   go_ret
   exact ⟨_, rfl, hnew.out, hbel9.out⟩
  ·have hz : ownsL 3 T.nodes = [] := List.length_eq_zero_iff.1 (by omega)
   have HAL2 : Hid (allL 3 T = T.vars) := by unfold Hid; rw [HALL.out, hz, List.append_nil]
   rw [hz] at hown7
   obtain ⟨a7, c7, rfl⟩ := rowE_shape hown7
   have hcp : T.vars.length ≤ cp := row_cap hown
   have HOW7 := hid hown
   clear hown hown7 hz hne HALL
   go_wp2_with (at_builtin; go_loud (refine wpList_append_none rfl _ _ rfl ad a7 T.vars.length cp c7 rfl rfl hcp ?_))
   go_wp2_with fail
   go_ret
   exact ⟨_, rfl, by rw [HAL2.out]; exact HOW7.out, HB7.out⟩
set_option maxHeartbeats 800000 in
theorem l5Size_any (x : LVar) (w : World) : Calls Tryz.prog 69 #[varV x] w fun e w' => e = .returned (.int .i64 (szV x)) ∧ Below w.heap.size w w' := by
 have HM : Hid (∀ (w : World), Calls Tryz.prog 91 #[.int .i64 1, .int .i64 x.size] w fun e w' => e = .returned (.int .i64 (szV x)) ∧ w' = w) := fun w => l1Max_any 1 x.size w
 go_enter Tryz.func69, Tryz.ntmps69
 go_wp2_with fail
 refine (HM.out _).mono ?_
 rintro e w2 ⟨rfl, rfl⟩
 go_wp2_with fail
 go_ret
 exact ⟨rfl, by go_grown⟩
def RowV (w : World) (ad : Option Addr) (V : List LVar) : Prop := V ≠ [] → ∃ g, ad = some ⟨g, 0, none⟩ ∧ ∀ (i : Nat) (x : LVar), V[i]? = some x → VarAt w g (i * 4) x
theorem RowV.of_own {w : World} {B : Nat} {ad : Option Addr} {n c : Nat} {V : List LVar} (h : w.ownsRow B 86 4 (.slice ad n c) n (varCells V)) (hn : n = V.length) : RowV w ad V := by
 intro hne
 subst hn
 have hp : 0 < V.length := List.length_pos_iff.2 hne
 obtain ⟨g, c', e, _, _, hc⟩ := rowE_cells h hp (varCells_len _)
 simp at e
 refine ⟨g, e.1, fun i x hx => ?_⟩
 have hi := (List.getElem?_eq_some_iff.1 hx).1
 obtain ⟨u0, u1, u2, u3⟩ := varCells_at V i x hx
 exact ⟨(hc _ (by omega)).trans u0, (hc _ (by omega)).trans u1, (hc _ (by omega)).trans u2, (hc _ (by omega)).trans u3⟩
theorem RowV.below {w w' : World} {ad : Option Addr} {V : List LVar} (h : RowV w ad V) (hb : Below w.heap.size w w') : RowV w' ad V := fun hne => by
 obtain ⟨g, e, hc⟩ := h hne
 exact ⟨g, e, fun i x hx => (hc i x hx).keep (lo := 0) (Keeps.of_below hb) (Nat.zero_le _)⟩
set_option maxHeartbeats 3200000 in
set_option maxRecDepth 100000 in
theorem l5Cells_any (V : List LVar) (ad : Option Addr) (k c : Nat) (w : World) (hk : k ≤ V.length) (hV : RowV w ad V) (hs : SizesLe V) (hl : V.length ≤ 624) :
  Calls Tryz.prog 43 #[.slice ad k c] w fun e w' => e = .returned (.int .i64 (cellsL (V.take k))) ∧ Below w.heap.size w w' := by
 have HV : Hid (RowV w ad V) := hV
 have HNX : Hid (∀ (k : Nat) (x : LVar), V[k]? = some x → 0 ≤ cellsL (V.take k) ∧ cellsL (V.take k) ≤ 4992 ∧ 0 ≤ szV x ∧ szV x ≤ 8 ∧ cellsL (V.take (k + 1)) = cellsL (V.take k) + szV x) := fun k x hk => cells_next hk hs hl
 have HSZ : Hid (∀ (x : LVar) (w : World), Calls Tryz.prog 69 #[varV x] w fun e w' => e = .returned (.int .i64 (szV x)) ∧ Below w.heap.size w w') := l5Size_any
 clear hV hs
 go_enter Tryz.func43, Tryz.ntmps43
 go_wp2
 go_loopw [3, 4] (fun d i wr => ∃ j : Nat, j ≤ k ∧ i = .int .i64 j ∧ d = .int .i64 (cellsL (V.take j)) ∧ Below w.heap.size w wr) (fun d i _ => k - (intOf i).toNat)
 case atStart => exact ⟨0, by omega, rfl, rfl, Below.refl _ _⟩
 case round =>
  obtain ⟨j, hj, rfl, rfl, hB⟩ := hrel
  have HB := hid hB
  by_cases hlt : j < k
  ·obtain ⟨x, hx⟩ : ∃ x, V[j]? = some x := ⟨V[j]'(by omega), List.getElem?_eq_getElem _⟩
   obtain ⟨g, rfl, hc⟩ := HV.out (by intro e; rw [e] at hx; simp at hx)
   obtain ⟨c0, c1, c2, c3⟩ := (hc j x hx).keep (lo := 0) (Keeps.of_below hB) (Nat.zero_le _)
   obtain ⟨n0, n1, n2, n3, n4⟩ := HNX.out j x hx
   have HN : Hid (cellsL (V.take (j + 1)) = cellsL (V.take j) + szV x) := n4
   have hj0 : (0 : Int) ≤ (j : Int) := by omega
   have hj1 : (j : Int) < (k : Int) := by omega
   clear hx hc n4 hB
   generalize cellsL (V.take j) = s at *
   go_wp2_with fail
   refine (HSZ.out x _).mono ?_
   rintro e w2 ⟨rfl, hb⟩
   have HB2 : Hid (Below w.heap.size w w2) := HB.out.trans (hb.mono HB.out.size)
   clear hb HB c0 c1 c2 c3
   generalize szV x = z at *
   go_wp2_with fail
   go_roundw
   case rel => exact ⟨j + 1, by omega, by go_num, by rw [HN.out], HB2.out⟩
   case measure => simp [intOf]; omega
  ·have hje : j = k := by omega
   subst hje
   go_wp2
   go_ret
   exact ⟨rfl, HB.out⟩
set_option maxHeartbeats 3200000 in
set_option maxRecDepth 100000 in
theorem l5Find_any (V : List LVar) (nm : List UInt8) (ad : Option Addr) (k c : Nat) (w : World) (hk : k = V.length) (hV : RowV w ad V) (hl : V.length ≤ 624) :
  Calls Tryz.prog 86 #[.slice ad k c, .string (bs nm)] w fun e w' => e = .returned (.int .i64 (varFrom nm V 0)) ∧ w' = w := by
 subst hk
 have HV : Hid (RowV w ad V) := hV
 clear hV
 go_enter Tryz.func86, Tryz.ntmps86
 go_wp2
 go_loopw [5] (fun i wr => ∃ k : Nat, k ≤ V.length ∧ i = .int .i64 k ∧ varFrom nm V 0 = varFrom nm (V.drop k) k ∧ SameW wr w) (fun i _ => V.length - (intOf i).toNat)
 case atStart => exact ⟨0, by omega, rfl, rfl, rfl⟩
 case round =>
  obtain ⟨k, hk, rfl, hv, hw⟩ := hrel
  have HF : Hid _ := hv
  clear hv
  by_cases hlt : k < V.length
  ·obtain ⟨x, hx⟩ : ∃ x, V[k]? = some x := ⟨V[k], List.getElem?_eq_getElem hlt⟩
   obtain ⟨g, rfl, hc1⟩ := HV.out (by intro e; rw [e] at hlt; simp at hlt)
   have c0 : wr.cell? ⟨g, k * 4, none⟩ = _ := (congrArg (fun W => World.cell? W ⟨g, k * 4, none⟩) hw).trans (hc1 k x hx).1
   have HX : Hid (V[k]? = some x) := hx
   clear hx hc1
   by_cases he : x.name = nm
   ·have e := HF.out.trans (varFrom_hit HX.out he)
    have HE : Hid _ := e
    clear e
    subst he
    go_wp2
    go_ret
    exact ⟨by rw [HE.out]; rfl, hw⟩
   ·have hne : (x.name == nm) = false := by simpa using he
    have hne2 : decide (x.name = nm) = false := decide_eq_false he
    have e := HF.out.trans (varFrom_miss HX.out he)
    have HE : Hid _ := e
    clear e
    go_wp2
    go_roundw
    case rel => exact ⟨k + 1, by omega, by go_num, HE.out, hw⟩
    case measure => simp [intOf]; omega
  ·have hke : k = V.length := by omega
   have HKE : Hid (k = V.length) := hke
   clear hke
   go_wp2
   go_ret
   refine ⟨?_, hw⟩
   rw [HF.out, HKE.out, List.drop_length]; rfl
structure Sole (g : Nat) (w w' : World) : Prop where
 bel : Below 0 w w'
 rest : ∀ b, b < w.heap.size → b ≠ g → w'.heap[b]? = w.heap[b]?
theorem Sole.refl (g : Nat) (w : World) : Sole g w w := ⟨Below.refl _ _, fun _ _ _ => rfl⟩
theorem Sole.trans {g : Nat} {a b c : World} (h : Sole g a b) (k : Sole g b c) : Sole g a c :=
 ⟨h.bel.trans k.bel, fun i hi hg => (k.rest i (Nat.lt_of_lt_of_le hi h.bel.size) hg).trans (h.rest i hi hg)⟩
theorem _root_.Go.RowKit.Below.sole {g : Nat} {w w' : World} (h : Below w.heap.size w w') : Sole g w w' := ⟨h.mono (Nat.zero_le _), fun b hb _ => h.block b hb⟩
theorem Sole.set {g : Nat} {w w' : World} (h : Sole g w w') (o : Nat) (u : Value) : Sole g w (w'.setCell ⟨g, o, none⟩ u) :=
 h.trans ⟨(Below.refl _ _).setCell (Nat.zero_le _) _, fun b _ hg => Below.heap_setCell _ _ _ _ hg⟩
theorem Sole.cell {g : Nat} {w w' : World} (h : Sole g w w') {p : Addr} {u : Value} (hne : p.block ≠ g) (hc : w.cell? p = some u) : w'.cell? p = some u := by
 rw [World.cell?_of_block (h.rest p.block (World.block_lt_of_cell? _ _ hc) hne)]; exact hc
structure ChkE (lo : Nat) (W0 : World) (p kp : Nat) (vv vn vb : Value) (aA : Option Addr) (T : LTree) (V : List LVar) : Prop where
 tree : TreeP lo W0 p vv vn vb T
 all : RowV W0 aA V
 few : V.length ≤ 624
 low : W0.heap.size ≤ kp
 good : Good T
structure Chk (W0 W : World) (kp p : Nat) (aA : Option Addr) (lA cA : Nat) (vl : Value) (st : Met) : Prop where
 bel : Below W0.heap.size W0 W
 row : W.heap[kp]? = some (.cells #[.pointer (some ⟨p, 0, none⟩), .slice aA lA cA, vl, .int .i64 st.1, .int .i64 st.2] 112 (0, 0))
theorem Chk.below {W0 W W' : World} {kp p lA cA : Nat} {aA : Option Addr} {vl : Value} {st : Met} (h : Chk W0 W kp p aA lA cA vl st) (hb : Below W.heap.size W W') : Chk W0 W' kp p aA lA cA vl st :=
 ⟨h.bel.trans (hb.mono h.bel.size), blk h.row hb⟩
theorem ChkE.node {lo p kp : Nat} {W0 W : World} {vv vn vb : Value} {aA : Option Addr} {T : LTree} {V : List LVar} (h : ChkE lo W0 p kp vv vn vb aA T V) (hb : Below W0.heap.size W0 W) (x : Nat) (hx : x < T.nodes.length) :
  ∃ bn on cn, vn = .slice (some ⟨bn, on, none⟩) T.nodes.length cn ∧ W.cell? ⟨p, 1, none⟩ = some vn ∧ ∃ vk vt ve, NodeCells W bn (on + x * 8) (nodeOf T.nodes (x : Int)) vk vt ve ∧ IntsV lo W0 vk (nodeOf T.nodes (x : Int)).kids ∧ (∃ a l c, vk = .slice a l c) ∧ (∃ a l c, vt = .slice a l c) ∧ (∃ a l c, ve = .slice a l c) := by
 obtain ⟨an, cn, rfl, _, hh⟩ := id h.tree.tree.nodes
 obtain ⟨bn, on, rfl, _, hc⟩ := hh (by intro e; rw [e] at hx; simp at hx)
 have hxe : T.nodes[x]? = some (nodeOf T.nodes (x : Int)) := by unfold nodeOf; rw [Int.toNat_natCast, List.getD_eq_getElem?_getD, List.getElem?_eq_getElem hx]; rfl
 obtain ⟨vk, vt, ve, h1, h2⟩ := hc x _ hxe
 have hpw : p < W0.heap.size := World.block_lt_of_cell? _ _ h.tree.c1
 obtain ⟨a1, c1, e1, _⟩ := id h2.kids
 obtain ⟨a2, c2, e2, _⟩ := id h2.thn
 obtain ⟨a3, c3, e3, _⟩ := id h2.els
 exact ⟨bn, on, cn, rfl, (hb.cell (p := ⟨p, 1, none⟩) hpw).trans h.tree.c1, vk, vt, ve, h1.keep (lo := 0) (.of_below hb) (Nat.zero_le _), h2.kids, ⟨_, _, _, e1⟩, ⟨_, _, _, e2⟩, ⟨_, _, _, e3⟩⟩
set_option maxHeartbeats 1600000 in
theorem l5Stop_any (W0 W : World) (kp p lA cA : Nat) (aA : Option Addr) (vl : Value) (st : Met) (c x : Int) (h : Chk W0 W kp p aA lA cA vl st) (hl : W0.heap.size ≤ kp) :
  Calls Tryz.prog 114 #[.pointer (some ⟨kp, 0, none⟩), .int .i64 c, .int .i64 x] W fun e w' => e = .returned (.tuple #[]) ∧ Chk W0 w' kp p aA lA cA vl (metAt st c x) ∧ Sole kp W w' := by
 obtain ⟨s1, s2⟩ := st
 obtain ⟨-, -, -, c3, c4⟩ := cl5 h.row
 obtain ⟨-, -, -, f3, f4⟩ := fl5 h.row
 have hk := blk_lt h.row
 have H := hid h
 clear h
 by_cases hz : s1 = 0
 ·subst hz
  go_enter Tryz.func114, Tryz.ntmps114
  go_wp2
  go_end0
  refine ⟨rfl, ⟨H.out.bel.trans (((Below.refl _ _).setCell (by simp; omega) _).setCell (by simp; omega) _), ?_⟩, ((Sole.refl _ _).set _ _).set _ _⟩
  rw [heap_setCell_same _ _ _ _ _ _ (heap_setCell_same _ _ _ _ _ _ H.out.row)]
  rfl
 ·have e : metAt (s1, s2) c x = (s1, s2) := by unfold metAt; rw [if_neg hz]
  rw [e]
  have hz1 : (s1 == 0) = false := by simpa using hz
  have hz2 : decide (s1 = 0) = false := decide_eq_false hz
  go_enter Tryz.func114, Tryz.ntmps114
  go_wp2
  go_end0
  exact ⟨rfl, H.out, Sole.refl _ _⟩
theorem rowV_heap {W W' : World} {a : Option Addr} {V : List LVar} (h : RowV W a V) (hW : W'.heap = W.heap) : RowV W' a V := fun hne => by
 obtain ⟨g, e, hc⟩ := h hne
 have hs : ∀ o, W'.cell? ⟨g, o, none⟩ = W.cell? ⟨g, o, none⟩ := fun o => World.cell?_of_block (a := ⟨g, o, none⟩) (show W'.heap[g]? = W.heap[g]? from by rw [hW])
 exact ⟨g, e, fun i x hx => by
  obtain ⟨h1, h2, h3, h4⟩ := hc i x hx
  exact ⟨(hs _).trans h1, (hs _).trans h2, (hs _).trans h3, (hs _).trans h4⟩⟩
set_option maxHeartbeats 6400000 in
set_option maxRecDepth 100000 in
theorem l5Name_any (lo : Nat) (W0 W : World) (kp p cA : Nat) (vv vn vb : Value) (aA : Option Addr) (T : LTree) (V : List LVar) (vl : Value) (st : Met) (j : Nat) (row : Bool) (hE : ChkE lo W0 p kp vv vn vb aA T V) (hC : Chk W0 W kp p aA V.length cA vl st) (hj : j < T.nodes.length) :
  Calls Tryz.prog 135 #[.pointer (some ⟨kp, 0, none⟩), .int .i64 (j : Int), .bool row] W fun e w' => e = .returned (.int .i64 (nameF V T.vars.length (nodeOf T.nodes (j : Int)).name row (j : Int) st).1) ∧ Chk W0 w' kp p aA V.length cA vl (nameF V T.vars.length (nodeOf T.nodes (j : Int)).name row (j : Int) st).2 ∧ Sole kp W w' := by
 obtain ⟨bn, on, cn, rfl, q1, vk, vt, ve, hnc, _⟩ := hE.node hC.bel j hj
 have n2 := hnc.c2
 obtain ⟨k0, k1⟩ := cl2 hC.row
 have hrv := hE.all.below hC.bel
 have hfew := hE.few
 have hnl := hE.good.nodes
 have hvl := hE.good.vars
 obtain ⟨av, cv, rfl, _⟩ := id hE.tree.tree.vars
 have hpw : p < W0.heap.size := World.block_lt_of_cell? _ _ hE.tree.c0
 have q0 : W.cell? ⟨p, 0, none⟩ = some (.slice av T.vars.length cv) := (hC.bel.cell (p := ⟨p, 0, none⟩) hpw).trans hE.tree.c0
 have HSTOP : Hid (∀ (c : Int) (W' : World), Chk W0 W' kp p aA V.length cA vl st → Calls Tryz.prog 114 #[.pointer (some ⟨kp, 0, none⟩), .int .i64 c, .int .i64 (j : Int)] W' fun e w' => e = .returned (.tuple #[]) ∧ Chk W0 w' kp p aA V.length cA vl (metAt st c (j : Int)) ∧ Sole kp W' w') := fun c W' h => l5Stop_any W0 W' kp p V.length cA aA vl st c (j : Int) h hE.low
 obtain ⟨nm, hnm⟩ : ∃ nm, nm = (nodeOf T.nodes (j : Int)).name := ⟨_, rfl⟩
 rw [← hnm] at n2 ⊢
 clear hnm
 have HFI : Hid (∀ W', W'.heap = W.heap → Calls Tryz.prog 86 #[.slice aA V.length cA, .string (bs nm)] W' fun e w' => e = .returned (.int .i64 (varFrom nm V 0)) ∧ w' = W') := fun W' hW => l5Find_any V nm aA V.length cA W' rfl (rowV_heap hrv hW) hfew
 have HVO := varFrom_or nm V 0
 have HNF : Hid (∀ X, varFrom nm V 0 = X → nameF V T.vars.length nm row (j : Int) st = (if X < 0 ∨ (row = true ∧ (T.vars.length : Int) ≤ X) then (0, metAt st 4 (j : Int)) else if (decide (0 < (V.getD X.toNat default).size)) ≠ row then (0, metAt st 1 (j : Int)) else ((V.getD X.toNat default).type, st))) := fun X hX => by unfold nameF; rw [hX]
 have HCH := hid hC
 have HRV : Hid (RowV W aA V) := hrv
 have hj0 : (0 : Int) ≤ (j : Int) := by omega
 have hj1 : (j : Int) < (T.nodes.length : Int) := by omega
 obtain ⟨X, hX⟩ : ∃ X, varFrom nm V 0 = X := ⟨_, rfl⟩
 have HN := HNF.out X hX
 rw [hX] at HFI HVO
 clear hC hE hnc hrv hX HNF
 go_enter Tryz.func135, Tryz.ntmps135
 go_wp2_with fail
 go_region_held3 (fun Z => Z.cell? ⟨kp, 0, none⟩ = some (.pointer (some ⟨p, 0, none⟩)) ∧ Z.cell? ⟨kp, 1, none⟩ = some (.slice aA V.length cA) ∧ Z.cell? ⟨p, 1, none⟩ = some (.slice (some ⟨bn, on, none⟩) T.nodes.length cn) ∧ Z.cell? ⟨bn, on + j * 8 + 2, none⟩ = some (.string (bs nm))) (go_keep) (first | (go_at_call 86; refine (HFI.out _ (by rfl)).mono ?_; rintro e w2 ⟨rfl, rfl⟩))
 have hcd : Chk W0 W.drew kp p aA V.length cA vl st := ⟨HCH.out.bel.drew, HCH.out.row⟩
 have hrd : RowV W.drew aA V := rowV_heap HRV.out rfl
 have k0 : W.drew.cell? ⟨kp, 0, none⟩ = _ := k0
 have k1 : W.drew.cell? ⟨kp, 1, none⟩ = _ := k1
 have q0 : W.drew.cell? ⟨p, 0, none⟩ = _ := q0
 have hbd : Sole kp W W.drew := ((Below.refl W.heap.size W).drew).sole
 clear HCH HRV q1 n2 HFI
 have HCD := hid hcd
 have HRD : Hid (RowV W.drew aA V) := hrd
 have HBD : Hid (Sole kp W W.drew) := hbd
 clear hcd hrd hbd
 generalize W.drew = Wd at *
 rcases HVO with hX1 | ⟨i, rfl, hi⟩
 ·have hXn : X < 0 := by omega
  have HR : Hid (nameF V T.vars.length nm row (j : Int) st = (0, metAt st 4 (j : Int))) := by unfold Hid; rw [HN, if_pos (Or.inl hXn)]
  clear hX1 HN HRD
  go_wp2_with fail
  refine (HSTOP.out 4 _ HCD.out).mono ?_
  rintro e w2 ⟨rfl, hc2, hb2⟩
  have HC2 : Hid (Chk W0 w2 kp p aA V.length cA vl (metAt st 4 (j : Int)) ∧ Sole kp W w2) := ⟨hc2, HBD.out.trans hb2⟩
  clear hc2 hb2
  go_wp2_with fail
  go_ret
  exact ⟨by rw [HR.out]; rfl, by rw [HR.out]; exact HC2.out.1, HC2.out.2⟩
 ·have hiV : i < V.length := by omega
  have hni : ¬ ((i : Int) < 0) := by omega
  obtain ⟨v, hv⟩ : ∃ v, V[i]? = some v := ⟨V[i], List.getElem?_eq_getElem hiV⟩
  have hvd : V.getD ((i : Int)).toNat default = v := by rw [Int.toNat_natCast, List.getD_eq_getElem?_getD, hv]; rfl
  rw [hvd] at HN
  obtain ⟨g, rfl, hcs⟩ := HRD.out (by intro e; rw [e] at hiV; simp at hiV)
  obtain ⟨c0, c1, c2, c3⟩ := hcs i v hv
  have hi0 : (0 : Int) ≤ (i : Int) := by omega
  have hi1 : (i : Int) < (V.length : Int) := by omega
  clear hcs hv hvd HRD hi
  by_cases hrow : row = true ∧ (T.vars.length : Int) ≤ (i : Int)
  ·obtain ⟨rfl, hge⟩ := hrow
   have HR : Hid (nameF V T.vars.length nm true (j : Int) st = (0, metAt st 4 (j : Int))) := by unfold Hid; rw [HN, if_pos (Or.inr ⟨rfl, hge⟩)]
   have hge2 : ¬ ((i : Int) < (T.vars.length : Int)) := by omega
   have hge3 : T.vars.length ≤ i := by omega
   clear HN c0 c1 c2 c3
   go_wp2_with fail
   refine (HSTOP.out 4 _ HCD.out).mono ?_
   rintro e w2 ⟨rfl, hc2, hb2⟩
   have HC2 : Hid (Chk W0 w2 kp p (some ⟨g, 0, none⟩) V.length cA vl (metAt st 4 (j : Int)) ∧ Sole kp W w2) := ⟨hc2, HBD.out.trans hb2⟩
   clear hc2 hb2
   go_wp2_with fail
   go_ret
   exact ⟨by rw [HR.out]; rfl, by rw [HR.out]; exact HC2.out.1, HC2.out.2⟩
  ·have hrow2 : row = true → i < T.vars.length := fun hr => by
    by_cases h : (T.vars.length : Int) ≤ (i : Int)
    ·exact absurd ⟨hr, h⟩ hrow
    ·omega
   rw [if_neg (by rintro (h | h); exact hni h; exact hrow h)] at HN
   by_cases hsz : (decide (0 < v.size)) ≠ row
   ·have HR : Hid (nameF V T.vars.length nm row (j : Int) st = (0, metAt st 1 (j : Int))) := by unfold Hid; rw [HN, if_pos hsz]
    clear HN hrow
    cases row with
    | true =>
     have h1 := hrow2 rfl
     have h2 : ¬ (T.vars.length ≤ i) := by omega
     have hs0 : ¬ (0 < v.size) := by intro h; exact hsz (decide_eq_true h)
     clear hsz hrow2
     go_wp2_with fail
     refine (HSTOP.out 1 _ HCD.out).mono ?_
     rintro e w2 ⟨rfl, hc2, hb2⟩
     have HC2 : Hid (Chk W0 w2 kp p (some ⟨g, 0, none⟩) V.length cA vl (metAt st 1 (j : Int)) ∧ Sole kp W w2) := ⟨hc2, HBD.out.trans hb2⟩
     clear hc2 hb2
     go_wp2_with fail
     go_ret
     exact ⟨by rw [HR.out]; rfl, by rw [HR.out]; exact HC2.out.1, HC2.out.2⟩
    | false =>
     have hs0 : 0 < v.size := by
      by_cases h : 0 < v.size
      ·exact h
      ·exact absurd (decide_eq_false h) hsz
     clear hsz hrow2
     go_wp2_with fail
     refine (HSTOP.out 1 _ HCD.out).mono ?_
     rintro e w2 ⟨rfl, hc2, hb2⟩
     have HC2 : Hid (Chk W0 w2 kp p (some ⟨g, 0, none⟩) V.length cA vl (metAt st 1 (j : Int)) ∧ Sole kp W w2) := ⟨hc2, HBD.out.trans hb2⟩
     clear hc2 hb2
     go_wp2_with fail
     go_ret
     exact ⟨by rw [HR.out]; rfl, by rw [HR.out]; exact HC2.out.1, HC2.out.2⟩
   ·have hsz2 : decide (0 < v.size) = row := by simpa using hsz
    have HR : Hid (nameF V T.vars.length nm row (j : Int) st = (v.type, st)) := by unfold Hid; rw [HN, if_neg hsz]
    clear HN hrow hsz HSTOP
    cases row with
    | true =>
     have h1 := hrow2 rfl
     have h2 : ¬ (T.vars.length ≤ i) := by omega
     have hs0 : 0 < v.size := of_decide_eq_true hsz2
     clear hsz2 hrow2
     go_wp2_with fail
     go_ret
     exact ⟨by rw [HR.out]; rfl, by rw [HR.out]; exact HCD.out, HBD.out⟩
    | false =>
     have hs0 : ¬ (0 < v.size) := of_decide_eq_false hsz2
     clear hsz2 hrow2
     go_wp2_with fail
     go_ret
     exact ⟨by rw [HR.out]; rfl, by rw [HR.out]; exact HCD.out, HBD.out⟩
end Go.Proofs.YteeklmgkhacbcaaGreatDoor
