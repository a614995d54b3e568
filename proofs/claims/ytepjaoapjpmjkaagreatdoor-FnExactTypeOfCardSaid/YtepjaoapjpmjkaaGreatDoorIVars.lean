/-
  impl.variablesOf.
-/
import Derived.Test.YtepjaoapjpmjkaaGreatDoorRowE
import Derived.Test.YtepjaoapjpmjkaaGreatDoorRowE
import Derived.Test.YtepjaoapjpmjkaaGreatDoorTreeTo
import Derived.Laws.AppendOwn
namespace Go.Proofs.YtepjaoapjpmjkaaGreatDoor
open Go.RowKit
set_option linter.unusedVariables false
attribute [local go_sem] bs_size bs_get bs_extract bs_append bs_eq bs_toList
structure VarSt (V : List LVar) (nv : Nat) (vv vn vb : Value) (w wr : World) (v : Value) (m : Nat) : Prop where
 row : wr.ownsRow (w.heap.size + 1) 158 6 v m (entC V nv m)
 box : wr.heap[w.heap.size]? = some (.cells #[vv, vn, vb] 34 (0, 0))
 bel : Below w.heap.size w wr
 size : w.heap.size + 1 ≤ wr.heap.size
theorem VarSt.below {V : List LVar} {nv m : Nat} {vv vn vb v : Value} {w wr w' : World} (h : VarSt V nv vv vn vb w wr v m) (hb : Below wr.heap.size wr w') : VarSt V nv vv vn vb w w' v m :=
 ⟨rowE_kept h.row hb, blk h.box hb, h.bel.trans (hb.mono h.bel.size), Nat.le_trans h.size hb.size⟩
theorem VarSt.grown {V : List LVar} {nv m : Nat} {vv vn vb v v' : Value} {w wr w2 w6 : World} (h : VarSt V nv vv vn vb w wr v m) (hb : Below wr.heap.size wr w2) (hown : w6.ownsRow (w.heap.size + 1) 158 6 v' (m + 1) (entC V nv m ++ entV V nv m)) (hg : w2.grownBy w6 v.ownBlock) : VarSt V nv vv vn vb w w6 v' (m + 1) ∧ ∀ g, wr.heap.size ≤ g → g < w2.heap.size → w6.heap[g]? = w2.heap[g]? := by
 have hrow : ∀ j, v.ownBlock = some j → w.heap.size + 1 ≤ j ∧ j < wr.heap.size := fun j hj => h.row.lt j hj
 have hs := hb.size
 have hz := h.size
 refine ⟨⟨by rw [entC_succ]; exact hown, ?_, ?_, ?_⟩, fun g h1 h2 => hg.block g h2 (fun e => by have := (hrow _ e.symm).2; omega)⟩
 ·rw [hg.block w.heap.size (by omega) (fun e => by have := (hrow _ e.symm).1; omega)]
  exact blk h.box hb
 ·exact (h.bel.trans (hb.mono h.bel.size)).grown hg (by omega) (fun j hj => by have := (hrow j hj).1; omega)
 ·have := hg.size; omega
theorem VarSt.typed {V : List LVar} {nv m : Nat} {vv vn vb v : Value} {w wr w2 w6 : World} (h : VarSt V nv vv vn vb w wr v m) (hb : Below wr.heap.size wr w2) (hg : w2.grownBy w6 v.ownBlock) {g : Nat} {cs : Array Value} {T2 : TypeId} {fz : Nat × Nat} (hT : T2 ≠ 158) (hc : w2.heap[g]? = some (.cells cs T2 fz)) : w6.heap[g]? = some (.cells cs T2 fz) := by
 rw [hg.block g (Array.getElem?_eq_some_iff.1 hc).1 (fun e => ?_)]
 ·exact hc
 ·have hl := h.row.lt g e.symm
  have hw := (hb.block g hl.2).symm.trans hc
  rcases h.row.2 with ⟨rfl, _⟩ | ⟨g', c, cur, rfl, _, hh, _⟩
  ·simp [Value.ownBlock] at e
  ·simp [Value.ownBlock] at e
   subst e
   rw [hh] at hw
   simp at hw
   exact hT hw.2.1.symm
theorem all_left {K : Int} {T : LTree} {k : Nat} {x : LVar} (h : T.vars[k]? = some x) : (allL K T)[k]? = some x := by
 unfold allL; rw [List.getElem?_append_left (List.getElem?_eq_some_iff.1 h).1]; exact h
theorem all_right {K : Int} {T : LTree} {k j : Nat} {n : LNode} {x : LVar} (h : T.nodes[k]? = some n) (hx : (ownN K n)[j]? = some x) : (allL K T)[T.vars.length + (ownsL K (T.nodes.take k)).length + j]? = some x := by
 obtain ⟨hk, rfl⟩ := List.getElem?_eq_some_iff.1 h
 have e : ownsL K T.nodes = ownsL K (T.nodes.take k) ++ (ownN K T.nodes[k] ++ ownsL K (T.nodes.drop (k + 1))) := by
  conv => lhs; rw [← List.take_append_drop k T.nodes, List.drop_eq_getElem_cons hk]
  unfold ownsL; rw [List.flatMap_append, List.flatMap_cons]
 have hj := (List.getElem?_eq_some_iff.1 hx).1
 unfold allL
 rw [List.getElem?_append_right (by omega), e, List.getElem?_append_right (by omega), List.getElem?_append_left (by omega)]
 rw [show T.vars.length + (ownsL K (T.nodes.take k)).length + j - T.vars.length - (ownsL K (T.nodes.take k)).length = j by omega]
 exact hx
theorem cells_next {V : List LVar} {k : Nat} {x : LVar} (h : V[k]? = some x) (hs : SizesLe V) (hl : V.length ≤ 624) : 0 ≤ cellsL (V.take k) ∧ cellsL (V.take k) ≤ 4992 ∧ 0 ≤ szV x ∧ szV x ≤ 8 ∧ cellsL (V.take (k + 1)) = cellsL (V.take k) + szV x := by
 have h1 := cellsL_le (V.take k) (fun v hv => hs v (List.mem_of_mem_take hv))
 have h2 : (V.take k).length ≤ 624 := by rw [List.length_take]; omega
 have h3 := hs x (List.mem_of_getElem? h)
 refine ⟨h1.1, by omega, ?_, ?_, cellsL_take h⟩
 ·unfold szV; omega
 ·unfold szV; omega
theorem fieldB (a : Option Addr) (l c : Nat) (v2 : Value) (W : World) : (Instr.field 161 (.agg #[.slice a l c, v2]) 0).run Tryz.prog W = .ok (.slice a l c) W := by kernel_rfl
set_option maxHeartbeats 6400000 in
set_option maxRecDepth 100000 in
theorem variablesOf_any (lo : Nat) (vv vn vb : Value) (T : LTree) (w : World) (h : TreeV lo w vv vn vb T) (hg : Good T) :
  Calls Tryz.prog 82 #[treeV vv vn vb] w fun e w' => ∃ v, e = .returned v ∧ w'.ownsRow w.heap.size 158 6 v (allL 0 T).length (entC (allL 0 T) T.vars.length (allL 0 T).length) ∧ Below w.heap.size w w' := by
 obtain ⟨i0, hi, hz0, hz1, hz2⟩ := info_parts infoE
 obtain ⟨av, cv, rfl, _, hhv⟩ := id h.vars
 obtain ⟨an, cn, rfl, _, hhn⟩ := id h.nodes
 obtain ⟨ab, cb, rfl, _⟩ := id h.body
 have HV := hid hhv
 have HN := hid hhn
 have HOP : Hid (∀ n ∈ T.nodes, n.kind = 11 → (1 ≤ n.op ∧ n.op ≤ 4) ∧ n.name.length ≤ 8) := fun n hn hk => by
  obtain ⟨k, hk2, rfl⟩ := List.getElem_of_mem hn
  have := (hg.node k _ (List.getElem?_eq_getElem hk2)).1
  exact ⟨own_op this hk, (name_len (own_name this hk)).2⟩
 have HLEN : Hid (allL 0 T = T.vars ++ ownsL 0 T.nodes) := rfl
 have HNX : Hid (∀ (k : Nat) (x : LVar), (allL 0 T)[k]? = some x → 0 ≤ cellsL ((allL 0 T).take k) ∧ cellsL ((allL 0 T).take k) ≤ 4992 ∧ 0 ≤ szV x ∧ szV x ≤ 8 ∧ cellsL ((allL 0 T).take (k + 1)) = cellsL ((allL 0 T).take k) + szV x) := fun k x hk => cells_next hk (hg.sizes 0) (hg.all_len 0)
 have HL1 : Hid (∀ (k : Nat) (x : LVar), T.vars[k]? = some x → (allL 0 T)[k]? = some x) := fun k x hx => all_left hx
 have HL2 : Hid (∀ (k j : Nat) (n : LNode) (x : LVar), T.nodes[k]? = some n → (ownN 0 n)[j]? = some x → (allL 0 T)[T.vars.length + (ownsL 0 (T.nodes.take k)).length + j]? = some x) := fun k j n x hn hx => all_right hn hx
 have hvl := hg.vars
 have hnl := hg.nodes
 have hal := hg.all_len 0
 generalize hV : allL 0 T = V at *
 have HOWL : Hid (∀ k, (ownsL 0 (T.nodes.take k)).length ≤ 600) := fun k => by
  have := ownsL_len 0 (T.nodes.take k)
  have : (T.nodes.take k).length ≤ 200 := by rw [List.length_take]; omega
  omega
 have HCF : Hid (∀ (x : LVar) (w : World), Calls Tryz.prog 117 #[varV x] w fun e w' => e = .returned (.int .i64 (szV x)) ∧ Below w.heap.size w w') := cellsFor_any
 have HBO : Hid (∀ (op : Int) (w : World), 1 ≤ op → op ≤ 4 → Calls Tryz.prog 118 #[.int .i64 op] w fun e w' => BlockR w.heap.size w' e op ∧ Below w.heap.size w w') := fun op w h1 h2 => blockOf_any op h1 h2 w
 clear h hhv hhn hg
 go_enter Tryz.func82, Tryz.ntmps82
 go_wp2_with fail
 have HST0 : Hid (VarSt V T.vars.length (.slice av T.vars.length cv) (.slice an T.nodes.length cn) (.slice ab T.body.length cb) w (w.alloc (.cells #[.slice av T.vars.length cv, .slice an T.nodes.length cn, .slice ab T.body.length cb] 34)) (.slice none 0 0) 0) :=
  ⟨rowE_nil _ _ _ _, heap_alloc_new w _, (Below.refl _ _).alloc (Nat.le_refl _) _, by simp⟩
 generalize w.alloc (.cells #[.slice av T.vars.length cv, .slice an T.nodes.length cn, .slice ab T.body.length cb] 34) = W0 at *
 go_loopw [3, 4, 14] (fun v nx i wr => ∃ k : Nat, k ≤ T.vars.length ∧ i = .int .i64 k ∧ nx = .int .i64 (cellsL (V.take k)) ∧ VarSt V T.vars.length (.slice av T.vars.length cv) (.slice an T.nodes.length cn) (.slice ab T.body.length cb) w wr v k) (fun v nx i _ => T.vars.length - (intOf i).toNat)
 case atStart => exact ⟨0, by omega, rfl, rfl, HST0.out⟩
 case round =>
  clear HST0
  obtain ⟨k, hk, rfl, rfl, hst⟩ := hrel
  obtain ⟨ad, cp, rfl⟩ := rowE_shape hst.row
  have HST := hid hst
  by_cases hlt : k < T.vars.length
  ·obtain ⟨x, hx⟩ : ∃ x, T.vars[k]? = some x := ⟨T.vars[k], List.getElem?_eq_getElem hlt⟩
   obtain ⟨b, o, rfl, _, hc2⟩ := HV.out (by intro e; rw [e] at hlt; simp at hlt)
   obtain ⟨x0, x1, x2, x3⟩ := (hc2 k x hx).keep (lo := 0) (Keeps.of_below hst.bel) (Nat.zero_le _)
   have hVx := HL1.out k x hx
   obtain ⟨hn0, hn1, hn2, hn3, hn4⟩ := HNX.out k x hVx
   have HN4 := hid hn4
   have hk0 : (0 : Int) ≤ (k : Int) := by omega
   have hk1 : (k : Int) < (T.vars.length : Int) := by omega
   have HEV : Hid (entV V T.vars.length k = [.string (bs x.name), .int .i64 x.kind, .int .i64 x.type, .int .i64 x.size, .bool false, .int .i64 (cellsL (V.take k))]) := by
    unfold Hid; rw [entV_at hVx, decide_eq_false (by omega)]
   have hown := hst.row
   clear hc2 hx hVx hn4 hst
   generalize cellsL (V.take k) = s at *
   go_wp2_with (at_builtin; refine wpList_append_own _ rfl _ _ 125 rfl (w.heap.size + 1) 158 i0 (.agg #[.string ⟨#[]⟩, .int .i64 0, .int .i64 0, .int .i64 0, .bool false, .int .i64 0]) 6 56 Tryz.underlying125 hi hz0 hz1 hz2 rfl (by decide) _ _ _ rfl ((hown.alloc _).alloc _) ⟨wr.heap.size + 1, 0, none⟩ 1 1 [.string (bs x.name), .int .i64 x.kind, .int .i64 x.type, .int .i64 x.size, .bool false, .int .i64 s] rfl rfl ?c1 ?c2 ?c3 ?c4 ?c5 ?_)
   case c1 =>
    intro j u hj
    match j, hj with
    | 0, hj => simp at hj; subst hj; simp [Addr.add, go_sem]
    | 1, hj => simp at hj; subst hj; simp [Addr.add, go_sem]
    | 2, hj => simp at hj; subst hj; simp [Addr.add, go_sem]
    | 3, hj => simp at hj; subst hj; simp [Addr.add, go_sem]
    | 4, hj => simp at hj; subst hj; simp [Addr.add, go_sem]
    | 5, hj => simp at hj; subst hj; simp [Addr.add, go_sem]
    | j + 6, hj => simp at hj
   case c2 => intro u hu; simp at hu; rcases hu with rfl | rfl | rfl | rfl | rfl | rfl <;> rfl
   case c3 => unfold maxLen; omega
   case c4 => omega
   case c5 => have := HST.out.size; simp; omega
   intro v' w6 hown' hgrow _
   rw [← HEV.out] at hown'
   obtain ⟨hst6, hsame⟩ := HST.out.grown (((Below.refl _ _).alloc (Nat.le_refl _) _).alloc (by simp) _) hown' hgrow
   have hvb : w6.heap[wr.heap.size]? = some (.cells #[.string (bs x.name), .int .i64 x.kind, .int .i64 x.type, .int .i64 x.size] 108 (0, 0)) := by
    rw [hsame _ (Nat.le_refl _) (by simp; omega)]
    exact heap_keep (heap_alloc_new wr _)
   obtain ⟨v0, v1, v2, v3⟩ := cl4 hvb
   have HST6 := hid hst6
   clear hown' hgrow hst6 hsame hvb hown HST HEV x0 x1 x2 x3
   go_wp2_with fail
   refine (HCF.out x w6).mono ?_
   rintro e w7 ⟨rfl, hb⟩
   have HST7 : Hid (VarSt V T.vars.length (.slice (some ⟨b, o, none⟩) T.vars.length cv) (.slice an T.nodes.length cn) (.slice ab T.body.length cb) w w7 v' (k + 1)) := HST6.out.below hb
   clear hb HST6 v0 v1 v2 v3
   generalize szV x = z at *
   go_wp2_with fail
   go_roundw
   case rel => exact ⟨k + 1, by omega, by go_num, by rw [HN4.out], HST7.out⟩
   case measure => simp [intOf]; omega
  ·have hke : k = T.vars.length := by omega
   subst hke
   have c1 := cell_of_row _ _ 1 _ _ _ hst.box
   simp at c1
   have HST1 := hid hst
   have HS1 : Hid (cellsL (V.take T.vars.length) = cellsL (V.take (T.vars.length + (ownsL 0 (T.nodes.take 0)).length))) := rfl
   rw [HS1.out]
   clear hst HST HS1
   go_wp2_with fail
   go_loopw [3, 4, 32] (fun v nx i wr => ∃ k : Nat, k ≤ T.nodes.length ∧ i = .int .i64 k ∧ nx = .int .i64 (cellsL (V.take (T.vars.length + (ownsL 0 (T.nodes.take k)).length))) ∧ VarSt V T.vars.length (.slice av T.vars.length cv) (.slice an T.nodes.length cn) (.slice ab T.body.length cb) w wr v (T.vars.length + (ownsL 0 (T.nodes.take k)).length)) (fun v nx i _ => T.nodes.length - (intOf i).toNat)
   case atStart => exact ⟨0, by omega, rfl, rfl, HST1.out⟩
   case round =>
    clear HST1 c1
    obtain ⟨k, hk, rfl, rfl, hst⟩ := hrel
    obtain ⟨ad, cp, rfl⟩ := rowE_shape hst.row
    have HST := hid hst
    have hlk := HOWL.out k
    by_cases hlt : k < T.nodes.length
    ·obtain ⟨y, hy⟩ : ∃ y, T.nodes[k]? = some y := ⟨T.nodes[k], List.getElem?_eq_getElem hlt⟩
     obtain ⟨b, o, rfl, _, hc2⟩ := HN.out (by intro e; rw [e] at hlt; simp at hlt)
     obtain ⟨vk, vt, ve, hcs, hvs⟩ := hc2 k y hy
     obtain ⟨d0, d1, d2, d3, d4, d5, d6, d7⟩ := hcs.keep (lo := 0) (Keeps.of_below hst.bel) (Nat.zero_le _)
     have HTK : Hid (ownsL 0 (T.nodes.take (k + 1)) = ownsL 0 (T.nodes.take k) ++ ownN 0 y) := ownsL_take hy
     have HLY : Hid (∀ (j : Nat) (x : LVar), (ownN 0 y)[j]? = some x → V[T.vars.length + (ownsL 0 (T.nodes.take k)).length + j]? = some x) := fun j x hx => HL2.out k j y x hy hx
     have hopy := HOP.out y (List.mem_of_getElem? hy)
     have hk0 : (0 : Int) ≤ (k : Int) := by omega
     have hk1 : (k : Int) < (T.nodes.length : Int) := by omega
     obtain ⟨ak, ck, rfl, _⟩ := id hvs.kids
     obtain ⟨at2, ct, rfl, _⟩ := id hvs.thn
     obtain ⟨ae, ce, rfl, _⟩ := id hvs.els
     clear hy hc2 hcs hvs hst
     have HM1 : Hid (T.vars.length + (ownsL 0 (T.nodes.take (k + 1))).length = T.vars.length + (ownsL 0 (T.nodes.take k)).length + (ownN 0 y).length) := by unfold Hid; rw [HTK.out, List.length_append]; omega
     have hMl : T.vars.length + (ownsL 0 (T.nodes.take k)).length ≤ 624 := by omega
     have HMV : Hid (T.vars.length ≤ T.vars.length + (ownsL 0 (T.nodes.take k)).length) := Nat.le_add_right _ _
     clear hlk
     generalize T.vars.length + (ownsL 0 (T.nodes.take k)).length = M at *
     by_cases k11 : y.kind = 11
     ·have hop : 1 ≤ y.op ∧ y.op ≤ 4 := (hopy k11).1
      have hyn : y.name.length ≤ 8 := (hopy k11).2
      have HOW : Hid (ownN 0 y = ownOf 0 y.op y.name) := by unfold Hid ownN; rw [if_pos k11]
      clear hopy
      go_wp2_with fail
      have hA := heap_alloc_new wr (.cells #[.int .i64 11, .int .i64 y.op, .string (bs y.name), .int .i64 y.num, .int .i64 y.far, .slice ak y.kids.length ck, .slice at2 y.thn.length ct, .slice ae y.els.length ce] 66)
      have hB5 : Below wr.heap.size wr (wr.alloc (.cells #[.int .i64 11, .int .i64 y.op, .string (bs y.name), .int .i64 y.num, .int .i64 y.far, .slice ak y.kids.length ck, .slice at2 y.thn.length ct, .slice ae y.els.length ce] 66)) := (Below.refl wr.heap.size wr).alloc (Nat.le_refl _) _
      generalize wr.alloc (.cells #[.int .i64 11, .int .i64 y.op, .string (bs y.name), .int .i64 y.num, .int .i64 y.far, .slice ak y.kids.length ck, .slice at2 y.thn.length ct, .slice ae y.els.length ce] 66) = W5 at *
      refine (HBO.out _ _ hop.1 hop.2).mono ?_
      rintro e w2 ⟨⟨gv, v2, rfl, hgv, hvb, _⟩, hb⟩
      have HST2 : Hid (VarSt V T.vars.length (.slice av T.vars.length cv) (.slice (some ⟨b, o, none⟩) T.nodes.length cn) (.slice ab T.body.length cb) w w2 (.slice ad M cp) M) := HST.out.below (hB5.trans (hb.mono hB5.size))
      have HA : Hid (w2.heap[wr.heap.size]? = some (.cells #[.int .i64 11, .int .i64 y.op, .string (bs y.name), .int .i64 y.num, .int .i64 y.far, .slice ak y.kids.length ck, .slice at2 y.thn.length ct, .slice ae y.els.length ce] 66 (0, 0))) := blk hA hb
      have HVB := hid hvb
      have hfl : ∀ W, (Instr.field 161 (.agg #[.slice (some ⟨gv, 0, none⟩) (ownOf 0 y.op []).length (ownOf 0 y.op []).length, v2]) 0).run Tryz.prog W = .ok (.slice (some ⟨gv, 0, none⟩) (ownOf 0 y.op []).length (ownOf 0 y.op []).length) W := fun W => fieldB _ _ _ _ _
      have HOL : Hid ((ownN 0 y).length = (ownOf 0 y.op []).length) := by unfold Hid; rw [HOW.out, ownOf_len2]
      have hol := (ownOf_len 0 y.op []).2
      have HGET : Hid (∀ (j : Nat) (x : LVar), (ownOf 0 y.op [])[j]? = some x → (ownN 0 y)[j]? = some { x with name := y.name ++ x.name }) := fun j x hx => by rw [HOW.out]; exact ownOf_get hx
      clear hA hB5 hb hvb hgv HST HOW d0 d1 d2 d3 d4 d5 d6 d7
      generalize hL : (ownOf 0 y.op []).length = L at *
      go_wp2_with fail
      have HSA : Hid (cellsL (V.take M) = cellsL (V.take (M + 0))) := rfl
      have HSTA : Hid (VarSt V T.vars.length (.slice av T.vars.length cv) (.slice (some ⟨b, o, none⟩) T.nodes.length cn) (.slice ab T.body.length cb) w w2 (.slice ad M cp) (M + 0)) := HST2
      rw [HSA.out]
      clear HST2 HSA
      generalize hp8 : wr.heap.size = p8 at *
      go_loopw [3, 4, 44] (fun v nx i wi => ∃ j : Nat, j ≤ L ∧ i = .int .i64 j ∧ nx = .int .i64 (cellsL (V.take (M + j))) ∧ VarSt V T.vars.length (.slice av T.vars.length cv) (.slice (some ⟨b, o, none⟩) T.nodes.length cn) (.slice ab T.body.length cb) w wi v (M + j) ∧ wi.heap[p8]? = some (.cells #[.int .i64 11, .int .i64 y.op, .string (bs y.name), .int .i64 y.num, .int .i64 y.far, .slice ak y.kids.length ck, .slice at2 y.thn.length ct, .slice ae y.els.length ce] 66 (0, 0)) ∧ wi.heap[gv]? = some (.cells (varCells (ownOf 0 y.op [])).toArray 108 (0, 0))) (fun v nx i _ => L - (intOf i).toNat)
      case atStart => exact ⟨0, by omega, rfl, rfl, HSTA.out, HA.out, HVB.out⟩
      case round =>
       clear HSTA HA HVB
       obtain ⟨j, hj, rfl, rfl, hst, hA, hVB⟩ := hrel
       obtain ⟨ad, cp, rfl⟩ := rowE_shape hst.row
       have HST := hid hst
       by_cases hjt : j < L
       ·obtain ⟨x, hx⟩ : ∃ x, (ownOf 0 y.op [])[j]? = some x := ⟨(ownOf 0 y.op [])[j]'(by omega), List.getElem?_eq_getElem _⟩
        obtain ⟨u0, u1, u2, u3⟩ := varCells_at _ j x hx
        have hx1 := ownOf_one 0 y.op x (List.mem_of_getElem? hx)
        have hsum : ¬ (9223372036854775807 < y.name.length + x.name.length) := by omega
        have x0 := cell_of_row _ _ (j * 4) _ _ _ hVB
        have x1 := cell_of_row _ _ (j * 4 + 1) _ _ _ hVB
        have x2 := cell_of_row _ _ (j * 4 + 2) _ _ _ hVB
        have x3 := cell_of_row _ _ (j * 4 + 3) _ _ _ hVB
        simp only [List.getElem?_toArray, u0, u1, u2, u3] at x0 x1 x2 x3
        have c2 := cell_of_row _ _ 2 _ _ _ hA
        simp at c2
        have hVx := HLY.out j _ (HGET.out j x hx)
        obtain ⟨hn0, hn1, hn2, hn3, hn4⟩ := HNX.out _ _ hVx
        have HN4 : Hid (cellsL (V.take (M + (j + 1))) = cellsL (V.take (M + j)) + szV x) := hn4
        change 0 ≤ szV x at hn2
        change szV x ≤ 8 at hn3
        have hj0 : (0 : Int) ≤ (j : Int) := by omega
        have hj1 : (j : Int) < (L : Int) := by omega
        have HEV : Hid (entV V T.vars.length (M + j) = [.string (bs (y.name ++ x.name)), .int .i64 x.kind, .int .i64 x.type, .int .i64 x.size, .bool true, .int .i64 (cellsL (V.take (M + j)))]) := by
         unfold Hid; rw [entV_at hVx, decide_eq_true (by have := HMV.out; omega)]
        have HCX : Hid (∀ w, Calls Tryz.prog 117 #[.agg #[.string (bs (y.name ++ x.name)), .int .i64 x.kind, .int .i64 x.type, .int .i64 x.size]] w fun e w' => e = .returned (.int .i64 (szV x)) ∧ Below w.heap.size w w') := fun w => HCF.out { x with name := y.name ++ x.name } w
        have hown := hst.row
        have HA := hid hA
        have HVB := hid hVB
        have hp8r : p8 < wr.heap.size := (Array.getElem?_eq_some_iff.1 hA).1
        clear hx hVx hn4 hst hA hVB u0 u1 u2 u3
        generalize cellsL (V.take (M + j)) = s at *
        go_wp2_with (at_builtin; go_loud (refine wpList_append_own _ rfl _ _ 125 rfl (w.heap.size + 1) 158 i0 (.agg #[.string ⟨#[]⟩, .int .i64 0, .int .i64 0, .int .i64 0, .bool false, .int .i64 0]) 6 56 Tryz.underlying125 hi hz0 hz1 hz2 rfl (by decide) _ _ _ rfl ((hown.alloc _).alloc _) ⟨wr.heap.size + 1, 0, none⟩ 1 1 [.string (bs (y.name ++ x.name)), .int .i64 x.kind, .int .i64 x.type, .int .i64 x.size, .bool true, .int .i64 s] rfl rfl ?c1 ?c2 ?c3 ?c4 ?c5 ?_))
        case c1 =>
         intro j u hj
         match j, hj with
         | 0, hj => simp at hj; subst hj; simp [Addr.add, go_sem]
         | 1, hj => simp at hj; subst hj; simp [Addr.add, go_sem]
         | 2, hj => simp at hj; subst hj; simp [Addr.add, go_sem]
         | 3, hj => simp at hj; subst hj; simp [Addr.add, go_sem]
         | 4, hj => simp at hj; subst hj; simp [Addr.add, go_sem]
         | 5, hj => simp at hj; subst hj; simp [Addr.add, go_sem]
         | j + 6, hj => simp at hj
        case c2 => intro u hu; simp at hu; rcases hu with rfl | rfl | rfl | rfl | rfl | rfl <;> rfl
        case c3 => unfold maxLen; omega
        case c4 => omega
        case c5 => have := HST.out.size; simp; omega
        intro v' w6 hown' hgrow _
        rw [← HEV.out] at hown'
        have hbb : Below wr.heap.size wr ((wr.alloc (.cells #[.string (bs (y.name ++ x.name)), .int .i64 x.kind, .int .i64 x.type, .int .i64 x.size] 108)).alloc (.cells #[.string (bs (y.name ++ x.name)), .int .i64 x.kind, .int .i64 x.type, .int .i64 x.size, .bool true, .int .i64 s] 158)) := ((Below.refl _ _).alloc (Nat.le_refl _) _).alloc (by simp) _
        obtain ⟨hst6, hsame⟩ := HST.out.grown hbb hown' hgrow
        have hvb : w6.heap[wr.heap.size]? = some (.cells #[.string (bs (y.name ++ x.name)), .int .i64 x.kind, .int .i64 x.type, .int .i64 x.size] 108 (0, 0)) := by
         rw [hsame _ (Nat.le_refl _) (by simp; omega)]
         exact heap_keep (heap_alloc_new wr _)
        have HA6 : Hid (w6.heap[p8]? = some (.cells #[.int .i64 11, .int .i64 y.op, .string (bs y.name), .int .i64 y.num, .int .i64 y.far, .slice ak y.kids.length ck, .slice at2 y.thn.length ct, .slice ae y.els.length ce] 66 (0, 0))) := HST.out.typed hbb hgrow (by decide) (heap_keep (heap_keep HA.out))
        have HVB6 : Hid (w6.heap[gv]? = some (.cells (varCells (ownOf 0 y.op [])).toArray 108 (0, 0))) := HST.out.typed hbb hgrow (by decide) (heap_keep (heap_keep HVB.out))
        obtain ⟨v0, v1, v2, v3⟩ := cl4 hvb
        have HST6 := hid hst6
        clear hown' hgrow hst6 hsame hvb hown HST HEV x0 x1 x2 x3 hbb HA HVB
        go_wp2_with fail
        refine (HCX.out w6).mono ?_
        rintro e w7 ⟨rfl, hb⟩
        have HST7 : Hid (VarSt V T.vars.length (.slice av T.vars.length cv) (.slice (some ⟨b, o, none⟩) T.nodes.length cn) (.slice ab T.body.length cb) w w7 v' (M + (j + 1))) := HST6.out.below hb
        have HA7 : Hid (w7.heap[p8]? = some (.cells #[.int .i64 11, .int .i64 y.op, .string (bs y.name), .int .i64 y.num, .int .i64 y.far, .slice ak y.kids.length ck, .slice at2 y.thn.length ct, .slice ae y.els.length ce] 66 (0, 0))) := blk HA6.out hb
        have HVB7 : Hid (w7.heap[gv]? = some (.cells (varCells (ownOf 0 y.op [])).toArray 108 (0, 0))) := blk HVB6.out hb
        clear hb HST6 v0 v1 v2 v3 HA6 HVB6 HCX
        generalize szV x = z at *
        go_wp2_with fail
        go_roundw
        case rel => exact ⟨j + 1, by omega, by go_num, by rw [HN4.out], HST7.out, HA7.out, HVB7.out⟩
        case measure => simp [intOf]; omega
       ·have hje : j = L := by omega
        subst hje
        clear hst hA hVB
        go_wp2_with fail
        go_roundw
        case rel => exact ⟨k + 1, by omega, by go_num, by rw [HM1.out, HOL.out], by rw [HM1.out, HOL.out]; exact HST.out⟩
        case measure => simp [intOf]; omega
     ·have HOW : Hid (ownN 0 y = []) := by unfold Hid ownN; rw [if_neg k11]
      clear hopy
      go_wp2_with fail
      have HSTN : Hid (VarSt V T.vars.length (.slice av T.vars.length cv) (.slice (some ⟨b, o, none⟩) T.nodes.length cn) (.slice ab T.body.length cb) w (wr.alloc (.cells #[.int .i64 y.kind, .int .i64 y.op, .string (bs y.name), .int .i64 y.num, .int .i64 y.far, .slice ak y.kids.length ck, .slice at2 y.thn.length ct, .slice ae y.els.length ce] 66)) (.slice ad M cp) M) := HST.out.below ((Below.refl wr.heap.size wr).alloc (Nat.le_refl _) _)
      go_roundw
      case rel => exact ⟨k + 1, by omega, by go_num, by rw [HM1.out, HOW.out]; rfl, by rw [HM1.out, HOW.out]; exact HSTN.out⟩
      case measure => simp [intOf]; omega
    ·have hke : k = T.nodes.length := by omega
     subst hke
     clear hst
     go_wp2
     go_ret
     refine ⟨_, rfl, ?_, HST.out.bel⟩
     have h := rowE_mono HST.out.row (Nat.le_succ _)
     have hl : V.length = T.vars.length + (ownsL 0 (T.nodes.take T.nodes.length)).length := by rw [HLEN.out, List.length_append, List.take_length]
     rw [hl]
     exact h
end Go.Proofs.YtepjaoapjpmjkaaGreatDoor
