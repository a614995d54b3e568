/-
  spec.l5Owns, l5All.
-/
import Derived.Test.YtepjaoapjpmjkaaGreatDoorAppNone
import Derived.Test.YtepjaoapjpmjkaaGreatDoorRowE
import Derived.Test.YtepjaoapjpmjkaaGreatDoorIVars
import Derived.Test.YtepjaoapjpmjkaaGreatDoorAppNone
import Derived.Laws.AppendOwn
namespace Go.Proofs.YtepjaoapjpmjkaaGreatDoor
open Go.RowKit
set_option linter.unusedVariables false
attribute [local go_sem] bs_size bs_get bs_extract bs_append bs_eq bs_toList
theorem varCells_append (a b : List LVar) : varCells (a ++ b) = varCells a ++ varCells b := by unfold varCells; rw [List.flatMap_append]
theorem varCells_one (xs : List LVar) : ∀ u ∈ varCells xs, u.oneCell' = true := by
 intro u hu
 obtain ⟨x, _, h⟩ := List.mem_flatMap.1 hu
 simp at h
 rcases h with rfl | rfl | rfl | rfl <;> rfl
theorem cells_of_heap {w : World} {g : Nat} {T : TypeId} {l : List Value} (h : w.heap[g]? = some (.cells l.toArray T (0, 0))) : ∀ j u, l[j]? = some u → w.cell? ((⟨g, 0, none⟩ : Addr).add j) = some u := by
 intro j u hj
 have := cell_of_row _ _ j _ _ _ h
 rw [addr_add0, this]
 simpa using hj
theorem varCells_from {w : World} {b o : Nat} {V : List LVar} (h : ∀ (i : Nat) (x : LVar), V[i]? = some x → VarAt w b (o + i * 4) x) : ∀ j u, (varCells V)[j]? = some u → w.cell? ((⟨b, o, none⟩ : Addr).add j) = some u := by
 intro j u hj
 have hlt := (List.getElem?_eq_some_iff.1 hj).1
 rw [varCells_len] at hlt
 obtain ⟨i, r, hr, rfl⟩ : ∃ i r, r < 4 ∧ j = i * 4 + r := ⟨j / 4, j % 4, Nat.mod_lt _ (by omega), by omega⟩
 have hi : i < V.length := by omega
 obtain ⟨x, hx⟩ : ∃ x, V[i]? = some x := ⟨V[i], List.getElem?_eq_getElem hi⟩
 obtain ⟨c0, c1, c2, c3⟩ := h i x hx
 obtain ⟨u0, u1, u2, u3⟩ := varCells_at V i x hx
 have e : (⟨b, o, none⟩ : Addr).add (i * 4 + r) = ⟨b, o + i * 4 + r, none⟩ := by simp [Addr.add, Nat.add_assoc]
 rw [e]
 match r, hr with
 | 0, _ => rw [Nat.add_zero] at hj ⊢; rw [c0, ← u0, hj]
 | 1, _ => rw [c1, ← u1, hj]
 | 2, _ => rw [c2, ← u2, hj]
 | 3, _ => rw [c3, ← u3, hj]
set_option maxHeartbeats 6400000 in
set_option maxRecDepth 100000 in
theorem l5Owns_any (lo p : Nat) (vv vn vb : Value) (T : LTree) (w : World) (h : TreeP lo w p vv vn vb T) (hg : Good T) :
  Calls Tryz.prog 66 #[.pointer (some ⟨p, 0, none⟩)] w fun e w' => ∃ v, e = .returned v ∧ w'.ownsRow w.heap.size 108 4 v (ownsL 3 T.nodes).length (varCells (ownsL 3 T.nodes)) ∧ Below w.heap.size w w' := by
 obtain ⟨i0, hi, hz0, hz1, hz2⟩ := info_parts infoV
 obtain ⟨an, cn, rfl, _, hhn⟩ := id h.tree.nodes
 have HN := hid hhn
 have p1 := h.c1
 have HP1 : Hid (w.cell? ⟨p, 1, none⟩ = some (.slice an T.nodes.length cn)) := p1
 have hpw : p < w.heap.size := World.block_lt_of_cell? _ _ p1
 have HOP : Hid (∀ n ∈ T.nodes, n.kind = 11 → (1 ≤ n.op ∧ n.op ≤ 4) ∧ n.name.length ≤ 8) := fun n hn hk => by
  obtain ⟨k, hk2, rfl⟩ := List.getElem_of_mem hn
  have := (hg.node k _ (List.getElem?_eq_getElem hk2)).1
  exact ⟨own_op this hk, (name_len (own_name this hk)).2⟩
 have hnl := hg.nodes
 have HOWL : Hid (∀ k, (ownsL 3 (T.nodes.take k)).length ≤ 600) := fun k => by
  have := ownsL_len 3 (T.nodes.take k)
  have : (T.nodes.take k).length ≤ 200 := by rw [List.length_take]; omega
  omega
 clear h hhn hg p1
 go_enter Tryz.func66, Tryz.ntmps66
 go_wp2
 have HOW0 : Hid ((w.alloc (.cells #[] 108)).ownsRow w.heap.size 108 4 (.slice (some ⟨w.heap.size, 0, none⟩) 0 0) (ownsL 3 (T.nodes.take 0)).length (varCells (ownsL 3 (T.nodes.take 0)))) :=
  ⟨rfl, .inr ⟨w.heap.size, 0, #[], rfl, Nat.le_refl _, heap_alloc_new w _, Nat.le_refl _, by decide, rfl, rfl⟩⟩
 have HB0 : Hid (Below w.heap.size w (w.alloc (.cells #[] 108))) := (Below.refl _ _).alloc (Nat.le_refl _) _
 generalize w.alloc (.cells #[] 108) = W0 at *
 go_loopw [3, 4] (fun v i wr => ∃ k : Nat, k ≤ T.nodes.length ∧ i = .int .i64 k ∧ wr.ownsRow w.heap.size 108 4 v (ownsL 3 (T.nodes.take k)).length (varCells (ownsL 3 (T.nodes.take k))) ∧ Below w.heap.size w wr) (fun v i _ => T.nodes.length - (intOf i).toNat)
 case atStart => exact ⟨0, by omega, rfl, HOW0.out, HB0.out⟩
 case round =>
  clear HOW0 HB0
  obtain ⟨k, hk, rfl, hown, hB⟩ := hrel
  obtain ⟨ad, cp, rfl⟩ := rowE_shape hown
  have HOWN := hid hown
  have HB := hid hB
  have q1 := (hB.cell (p := ⟨p, 1, none⟩) hpw).trans HP1.out
  have hlk := HOWL.out k
  clear hown
  by_cases hlt : k < T.nodes.length
  ·obtain ⟨y, hy⟩ : ∃ y, T.nodes[k]? = some y := ⟨T.nodes[k], List.getElem?_eq_getElem hlt⟩
   obtain ⟨b, o, rfl, _, hc2⟩ := HN.out (by intro e; rw [e] at hlt; simp at hlt)
   obtain ⟨vk, vt, ve, hcs, hvs⟩ := hc2 k y hy
   obtain ⟨d0, d1, d2, d3, d4, d5, d6, d7⟩ := hcs.keep (lo := 0) (Keeps.of_below hB) (Nat.zero_le _)
   have HTK : Hid (ownsL 3 (T.nodes.take (k + 1)) = ownsL 3 (T.nodes.take k) ++ ownN 3 y) := ownsL_take hy
   have hopy := HOP.out y (List.mem_of_getElem? hy)
   have hk0 : (0 : Int) ≤ (k : Int) := by omega
   have hk1 : (k : Int) < (T.nodes.length : Int) := by omega
   obtain ⟨ak, ck, rfl, _⟩ := id hvs.kids
   obtain ⟨at2, ct, rfl, _⟩ := id hvs.thn
   obtain ⟨ae, ce, rfl, _⟩ := id hvs.els
   clear hy hc2 hcs hvs hB
   generalize ownsL 3 (T.nodes.take k) = M at *
   by_cases k11 : y.kind = 11
   ·have hop : 1 ≤ y.op ∧ y.op ≤ 4 := (hopy k11).1
    have hyn : y.name.length ≤ 8 := (hopy k11).2
    have HOW : Hid (ownN 3 y = ownOf 3 y.op y.name) := by unfold Hid ownN; rw [if_pos k11]
    have HCO : Hid (∀ w, Calls Tryz.prog 106 #[.agg #[.int .i64 11, .int .i64 y.op, .string (bs y.name), .int .i64 y.num, .int .i64 y.far, .slice ak y.kids.length ck, .slice at2 y.thn.length ct, .slice ae y.els.length ce]] w fun e w' => VarsR w.heap.size w' e (ownOf 3 y.op y.name) ∧ Below w.heap.size w w') := fun w => by
     have := l5Own_any y (.slice ak y.kids.length ck) (.slice at2 y.thn.length ct) (.slice ae y.els.length ce) w ⟨_, _, _, rfl⟩ ⟨_, _, _, rfl⟩ ⟨_, _, _, rfl⟩ (by omega) hop.1 hop.2
     rwa [nodeV, k11] at this
    have hol := (ownOf_len 3 y.op y.name).2
    clear hopy
    go_wp2_with fail
    refine (HCO.out _).mono ?_
    rintro e w2 ⟨⟨gv, rfl, hgv, hvb⟩, hb⟩
    have hown := rowE_kept HOWN.out hb
    have HB2 : Hid (Below w.heap.size w w2) := HB.out.trans (hb.mono HB.out.size)
    have hwz := HB2.out.size
    have HCL : Hid (∀ j u, (varCells (ownOf 3 y.op y.name))[j]? = some u → w2.cell? ((⟨gv, 0, none⟩ : Addr).add j) = some u) := cells_of_heap hvb
    clear HCO hb hvb HOWN HB d0 d1 d2 d3 d4 d5 d6 d7 q1
    obtain ⟨X, hX⟩ : ∃ X, X = ownOf 3 y.op y.name := ⟨_, rfl⟩
    rw [← hX] at HCL HOW hol ⊢
    clear hX
    go_wp2_with (at_builtin; go_loud (refine wpList_append_own _ rfl _ _ 31 rfl w.heap.size 108 i0 (.agg #[.string ⟨#[]⟩, .int .i64 0, .int .i64 0, .int .i64 0]) 4 40 Tryz.underlying31 hi hz0 hz1 hz2 rfl (by decide) _ _ _ rfl hown ⟨gv, 0, none⟩ X.length X.length (varCells X) rfl ?c1 HCL.out (varCells_one X) ?c3 ?c4 ?c5 ?_))
    case c1 => exact varCells_len X
    case c3 => unfold maxLen; omega
    case c4 => omega
    case c5 => exact hwz
    intro v' w9 hown' hgrow _
    have hnew : Hid (w9.ownsRow w.heap.size 108 4 v' (ownsL 3 (T.nodes.take (k + 1))).length (varCells (ownsL 3 (T.nodes.take (k + 1))))) := by
     unfold Hid
     rw [HTK.out, HOW.out, varCells_append, List.length_append]; exact hown'
    have hbel9 : Hid (Below w.heap.size w w9) := HB2.out.grown hgrow hwz (fun j hj => (hown.lt j hj).1)
    clear hown' hgrow hown HB2 HCL
    go_wp2_with fail
    go_roundw
    case rel => exact ⟨k + 1, by omega, by go_num, hnew.out, hbel9.out⟩
    case measure => simp [intOf]; omega
   ·have HOW : Hid (ownN 3 y = []) := by unfold Hid ownN; rw [if_neg k11]
    clear hopy
    go_wp2_with fail
    go_roundw
    case rel => exact ⟨k + 1, by omega, by go_num, by rw [HTK.out, HOW.out, List.append_nil]; exact HOWN.out, HB.out⟩
    case measure => simp [intOf]; omega
  ·have hke : k = T.nodes.length := by omega
   subst hke
   go_wp2
   go_ret
   refine ⟨_, rfl, ?_, HB.out⟩
   have h := HOWN.out
   rw [List.take_length] at h
   rw [List.take_length]
   exact h
set_option maxHeartbeats 6400000 in
set_option maxRecDepth 100000 in
theorem l5All_any (lo p : Nat) (vv vn vb : Value) (T : LTree) (w : World) (h : TreeP lo w p vv vn vb T) (hg : Good T) :
  Calls Tryz.prog 33 #[.pointer (some ⟨p, 0, none⟩)] w fun e w' => ∃ v, e = .returned v ∧ w'.ownsRow w.heap.size 108 4 v (allL 3 T).length (varCells (allL 3 T)) ∧ Below w.heap.size w w' := by
 obtain ⟨i0, hi, hz0, hz1, hz2⟩ := info_parts infoV
 obtain ⟨av, cv, rfl, _, hhv⟩ := id h.tree.vars
 have p0 := h.c0
 have hpw : p < w.heap.size := World.block_lt_of_cell? _ _ p0
 have HTP := hid h
 have HCO : Hid (∀ w', Below w.heap.size w w' → Calls Tryz.prog 66 #[.pointer (some ⟨p, 0, none⟩)] w' fun e w2 => ∃ v, e = .returned v ∧ w2.ownsRow w'.heap.size 108 4 v (ownsL 3 T.nodes).length (varCells (ownsL 3 T.nodes)) ∧ Below w'.heap.size w' w2) := fun w' hb => l5Owns_any lo p _ _ _ T w' (h.below hb) hg
 have hvl := hg.vars
 have hol : (ownsL 3 T.nodes).length ≤ 600 := by have := ownsL_len 3 T.nodes; have := hg.nodes; omega
 have HOW0 : Hid ((w.alloc (.cells #[] 108)).ownsRow w.heap.size 108 4 (.slice (some ⟨w.heap.size, 0, none⟩) 0 0) 0 []) :=
  ⟨rfl, .inr ⟨w.heap.size, 0, #[], rfl, Nat.le_refl _, heap_alloc_new w _, Nat.le_refl _, by decide, rfl, rfl⟩⟩
 have HB0 : Hid (Below w.heap.size w (w.alloc (.cells #[] 108))) := (Below.refl _ _).alloc (Nat.le_refl _) _
 have hsz0 : w.heap.size ≤ (w.alloc (.cells #[] 108)).heap.size := by simp
 by_cases hnil : T.vars = []
 ·have hn0 : T.vars.length = 0 := by rw [hnil]; rfl
  have HOW6 : Hid ((w.alloc (.cells #[] 108)).ownsRow w.heap.size 108 4 (.slice (some ⟨w.heap.size, 0, none⟩) 0 0) 0 []) := HOW0
  have HB6 : Hid (Below w.heap.size w (w.alloc (.cells #[] 108))) := HB0
  rw [hn0] at p0
  clear h hg hhv HOW0 HB0 HTP hvl hn0
  go_enter Tryz.func33, Tryz.ntmps33
  go_wp2_with (at_builtin; go_loud (refine wpList_append_none rfl _ _ rfl (some ⟨w.heap.size, 0, none⟩) av 0 0 cv rfl rfl (Nat.le_refl 0) ?_))
  generalize w.alloc (.cells #[] 108) = w6 at *
  obtain ⟨ad, cp, hsv⟩ : ∃ ad cp, (Value.slice (some ⟨w.heap.size, 0, none⟩) 0 0) = .slice ad 0 cp := ⟨_, _, rfl⟩
  rw [hsv] at HOW6 ⊢
  clear hsv
  have HC6 : Hid (Calls Tryz.prog 66 #[.pointer (some ⟨p, 0, none⟩)] w6 fun e w2 => ∃ v, e = .returned v ∧ w2.ownsRow w6.heap.size 108 4 v (ownsL 3 T.nodes).length (varCells (ownsL 3 T.nodes)) ∧ Below w6.heap.size w6 w2) := HCO.out w6 HB6.out
  clear HCO
  go_wp2_with fail
  refine HC6.out.mono ?_
  rintro e w7 ⟨v7, rfl, hown7, hb⟩
  have hwz := HB6.out.size
  have hown := rowE_kept HOW6.out hb
  have HB7 : Hid (Below w.heap.size w w7) := HB6.out.trans (hb.mono HB6.out.size)
  have hsz7 := HB7.out.size
  have HALL : Hid (allL 3 T = ownsL 3 T.nodes) := by unfold Hid allL; rw [hnil]; rfl
  clear HC6 hb HOW6
  by_cases hne : 0 < (ownsL 3 T.nodes).length
  ·obtain ⟨gv, c, rfl, _, _, hcs⟩ := rowE_cells hown7 hne (varCells_len _)
   have HCL : Hid (∀ j u, (varCells (ownsL 3 T.nodes))[j]? = some u → w7.cell? ((⟨gv, 0, none⟩ : Addr).add j) = some u) := fun j u hj => by
    have hlt := (List.getElem?_eq_some_iff.1 hj).1
    rw [varCells_len] at hlt
    rw [addr_add0, hcs j hlt, hj]
   clear hown7 hcs
   obtain ⟨X, hX⟩ : ∃ X, X = ownsL 3 T.nodes := ⟨_, rfl⟩
   rw [← hX] at HCL HALL hol hne ⊢
   clear hX
   go_wp2_with (at_builtin; go_loud (refine wpList_append_own _ rfl _ _ 31 rfl w.heap.size 108 i0 (.agg #[.string ⟨#[]⟩, .int .i64 0, .int .i64 0, .int .i64 0]) 4 40 Tryz.underlying31 hi hz0 hz1 hz2 rfl (by decide) _ _ _ rfl hown ⟨gv, 0, none⟩ X.length c (varCells X) rfl ?c1 HCL.out (varCells_one X) ?c3 ?c4 ?c5 ?_))
   case c1 => exact varCells_len _
   case c3 => unfold maxLen; omega
   case c4 => omega
   case c5 => exact hsz7
   intro v' w9 hown' hgrow _
   have hnew : Hid (w9.ownsRow w.heap.size 108 4 v' (allL 3 T).length (varCells (allL 3 T))) := by
    unfold Hid
    rw [HALL.out]; simpa using hown'
   have hbel9 : Hid (Below w.heap.size w w9) := HB7.out.grown hgrow hsz7 (fun j hj => (hown.lt j hj).1)
   clear hown' hgrow hown HB7 HCL
   go_wp2_with fail
   go_ret
   exact ⟨_, rfl, hnew.out, hbel9.out⟩
  ·have hz : ownsL 3 T.nodes = [] := List.length_eq_zero_iff.1 (by omega)
   have HAL2 : Hid (allL 3 T = []) := by unfold Hid; rw [HALL.out, hz]
   rw [hz] at hown7
   obtain ⟨a7, c7, rfl⟩ := rowE_shape hown7
   have hcp : 0 ≤ cp := row_cap hown
   have HOW7 := hid hown
   clear hown hown7 hz hne HALL
   go_wp2_with (at_builtin; go_loud (refine wpList_append_none rfl _ _ rfl ad a7 0 cp c7 rfl rfl hcp ?_))
   go_wp2_with fail
   go_ret
   exact ⟨_, rfl, by rw [HAL2.out]; exact HOW7.out, HB7.out⟩
 ·obtain ⟨b, o, rfl, _, hcs⟩ := hhv hnil
  have HCL : Hid (∀ j u, (varCells T.vars)[j]? = some u → (w.alloc (.cells #[] 108)).cell? ((⟨b, o, none⟩ : Addr).add j) = some u) := varCells_from fun i x hx => (hcs i x hx).keep (lo := 0) (Keeps.of_below ((Below.refl _ _).alloc (Nat.le_refl _) _)) (Nat.zero_le _)
  have hown := HOW0.out
  clear h hg hhv HOW0 hcs
  go_enter Tryz.func33, Tryz.ntmps33
  go_wp2_with (at_builtin; go_loud (refine wpList_append_own _ rfl _ _ 31 rfl w.heap.size 108 i0 (.agg #[.string ⟨#[]⟩, .int .i64 0, .int .i64 0, .int .i64 0]) 4 40 Tryz.underlying31 hi hz0 hz1 hz2 rfl (by decide) _ 0 [] rfl hown ⟨b, o, none⟩ T.vars.length cv (varCells T.vars) rfl ?c1 HCL.out (varCells_one T.vars) ?c3 ?c4 ?c5 ?_))
  case c1 => exact varCells_len _
  case c3 => unfold maxLen; omega
  case c4 => omega
  case c5 => exact hsz0
  intro v' w6 hown' hgrow _
  have HOW6 : Hid (w6.ownsRow w.heap.size 108 4 v' T.vars.length (varCells T.vars)) := hown'
  have HB6 : Hid (Below w.heap.size w w6) := HB0.out.grown hgrow hsz0 (fun j hj => (hown.lt j hj).1)
  obtain ⟨ad, cp, rfl⟩ := rowE_shape HOW6.out
  have HC6 : Hid (Calls Tryz.prog 66 #[.pointer (some ⟨p, 0, none⟩)] w6 fun e w2 => ∃ v, e = .returned v ∧ w2.ownsRow w6.heap.size 108 4 v (ownsL 3 T.nodes).length (varCells (ownsL 3 T.nodes)) ∧ Below w6.heap.size w6 w2) := HCO.out w6 HB6.out
  clear hown' hgrow hown HB0 HCL HCO
  go_wp2_with fail
  refine HC6.out.mono ?_
  rintro e w7 ⟨v7, rfl, hown7, hb⟩
  have hwz := HB6.out.size
  have hown := rowE_kept HOW6.out hb
  have HB7 : Hid (Below w.heap.size w w7) := HB6.out.trans (hb.mono HB6.out.size)
  have hsz7 := HB7.out.size
  have HALL : Hid (allL 3 T = T.vars ++ ownsL 3 T.nodes) := rfl
  clear HC6 hb HOW6
  by_cases hne : 0 < (ownsL 3 T.nodes).length
  ·obtain ⟨gv, c, rfl, _, _, hcs⟩ := rowE_cells hown7 hne (varCells_len _)
   have HCL : Hid (∀ j u, (varCells (ownsL 3 T.nodes))[j]? = some u → w7.cell? ((⟨gv, 0, none⟩ : Addr).add j) = some u) := fun j u hj => by
    have hlt := (List.getElem?_eq_some_iff.1 hj).1
    rw [varCells_len] at hlt
    rw [addr_add0, hcs j hlt, hj]
   clear hown7 hcs
   obtain ⟨X, hX⟩ : ∃ X, X = ownsL 3 T.nodes := ⟨_, rfl⟩
   rw [← hX] at HCL HALL hol hne ⊢
   clear hX
   go_wp2_with (at_builtin; go_loud (refine wpList_append_own _ rfl _ _ 31 rfl w.heap.size 108 i0 (.agg #[.string ⟨#[]⟩, .int .i64 0, .int .i64 0, .int .i64 0]) 4 40 Tryz.underlying31 hi hz0 hz1 hz2 rfl (by decide) _ _ _ rfl hown ⟨gv, 0, none⟩ X.length c (varCells X) rfl ?c1 HCL.out (varCells_one X) ?c3 ?c4 ?c5 ?_))
   case c1 => exact varCells_len _
   case c3 => unfold maxLen; omega
   case c4 => omega
   case c5 => exact hsz7
   intro v' w9 hown' hgrow _
   have hnew : Hid (w9.ownsRow w.heap.size 108 4 v' (allL 3 T).length (varCells (allL 3 T))) := by
    unfold Hid
    rw [HALL.out, varCells_append, List.length_append]; exact hown'
   have hbel9 : Hid (Below w.heap.size w w9) := HB7.out.grown hgrow hsz7 (fun j hj => (hown.lt j hj).1)
   clear hown' hgrow hown HB7 HCL
   go_wp2_with fail
   go_ret
   exact ⟨_, rfl, hnew.out, hbel9.out⟩
  ·have hz : ownsL 3 T.nodes = [] := List.length_eq_zero_iff.1 (by omega)
   have HAL2 : Hid (allL 3 T = T.vars) := by unfold Hid; rw [HALL.out, hz, List.append_nil]
   rw [hz] at hown7
   obtain ⟨a7, c7, rfl⟩ := rowE_shape hown7
   have hcp : T.vars.length ≤ cp := row_cap hown
   have HOW7 := hid hown
   clear hown hown7 hz hne HALL
   go_wp2_with (at_builtin; go_loud (refine wpList_append_none rfl _ _ rfl ad a7 T.vars.length cp c7 rfl rfl hcp ?_))
   go_wp2_with fail
   go_ret
   exact ⟨_, rfl, by rw [HAL2.out]; exact HOW7.out, HB7.out⟩
end Go.Proofs.YtepjaoapjpmjkaaGreatDoor
