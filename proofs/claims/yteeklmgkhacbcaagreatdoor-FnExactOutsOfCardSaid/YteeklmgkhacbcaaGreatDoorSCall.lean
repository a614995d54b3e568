/-
  spec.l5Call.
-/
import Derived.Test.YteeklmgkhacbcaaGreatDoorCheckN
import Derived.Test.YteeklmgkhacbcaaGreatDoorSTypE
import Derived.Test.YteeklmgkhacbcaaGreatDoorCheckM
import Derived.Test.YteeklmgkhacbcaaGreatDoorBase
import Derived.Test.YteeklmgkhacbcaaGreatDoorSTarg
namespace Go.Proofs.YteeklmgkhacbcaaGreatDoor
open Go.RowKit
set_option linter.unusedVariables false
theorem expr_of {n : LNode} (h : 1 ≤ n.kind ∧ n.kind ≤ 6) : exprN n = true := inB_iff.2 h
theorem expr_to {n : LNode} (h : exprN n = true) : 1 ≤ n.kind ∧ n.kind ≤ 6 := inB_iff.1 h
theorem fits_of {T : LTree} (h : faultL T = 0) : FitsE T := by
 intro x hx hk
 have hG := good_of h
 have hn := hG.node x _ (node_get hx)
 have ho := own_kids hn.1 (expr_of hk)
 refine ⟨fun h6 => ?_, ⟨fun h35 => ?_, fun h6 => ?_⟩, fun y hy => ⟨hn.2.1 y hy, ?_, fun h1 => ?_⟩⟩
 ·rcases ho with h | h | h
  ·omega
  ·omega
  ·exact h.2.2
 ·rcases ho with h | h | h
  ·omega
  ·exact h.2
  ·omega
 ·rcases ho with h | h | h
  ·omega
  ·omega
  ·exact h.2.1
 ·exact expr_to (kin_of h x _ (node_get hx) y hy)
 ·have hy2 := hn.2.1 y hy
  obtain ⟨j, rfl⟩ : ∃ j : Nat, y = j := ⟨y.toNat, by omega⟩
  exact (own_nums (hG.node j _ (node_get (by omega))).1).1.1
theorem ownOf_types (K op : Int) (nm : List UInt8) : ∀ v ∈ ownOf K op nm, v.type = 1 ∨ v.type = 2 := by
 intro v hv; unfold ownOf at hv
 split at hv
 ·simp at hv; rcases hv with rfl | rfl | rfl <;> simp
 split at hv
 ·simp at hv; rcases hv with rfl | rfl <;> simp
 split at hv
 ·simp at hv; rcases hv with rfl | rfl <;> simp
 ·simp at hv; subst hv; simp
theorem types_ok {T : LTree} (h : Good T) (K : Int) : TypesOk (allL K T) := by
 intro i hi
 have hm : (allL K T).getD i default ∈ allL K T := by
  rw [List.getD_eq_getElem?_getD, List.getElem?_eq_getElem hi]; exact List.getElem_mem _
 rcases List.mem_append.1 hm with hv | hv
 ·have := (h.var _ hv).2.2.1; omega
 ·obtain ⟨n, hn, hv⟩ := List.mem_flatMap.1 hv
  unfold ownN at hv
  split at hv
  ·exact ownOf_types _ _ _ _ hv
  ·cases hv
def ntS (v : LVar) : List UInt8 × Int × Int := (v.name, v.type, v.size)
theorem allL_nts (T : LTree) : (allL 3 T).map ntS = (allL 0 T).map ntS := by
 have h2 : ∀ op nm, (ownOf 3 op nm).map ntS = (ownOf 0 op nm).map ntS := by
  intro op nm; unfold ownOf
  split
  ·rfl
  split
  ·rfl
  split <;> rfl
 unfold allL ownsL
 rw [List.map_append, List.map_append, List.map_flatMap, List.map_flatMap]
 congr 2
 funext n
 unfold ownN
 split
 ·exact h2 _ _
 ·rfl
theorem nts_at {V W : List LVar} (h : V.map ntS = W.map ntS) (i : Nat) : (V.getD i default).type = (W.getD i default).type ∧ (V.getD i default).size = (W.getD i default).size ∧ (V.getD i default).name = (W.getD i default).name := by
 have e : ∀ U : List LVar, ntS (U.getD i default) = ((U.map ntS)[i]?).getD (ntS default) := fun U => by
  rw [List.getD_eq_getElem?_getD, List.getElem?_map]; cases U[i]? <;> rfl
 have h1 : ntS (V.getD i default) = ntS (W.getD i default) := by rw [e, e, h]
 unfold ntS at h1
 injection h1 with a b
 injection b with b c
 exact ⟨b, c, a⟩
theorem nts_names {V W : List LVar} (h : V.map ntS = W.map ntS) : V.map LVar.name = W.map LVar.name := by
 have := congrArg (List.map (fun p : List UInt8 × Int × Int => p.1)) h
 rw [List.map_map, List.map_map] at this; exact this
theorem nameF_nts {V W : List LVar} (h : V.map ntS = W.map ntS) (nv : Nat) (nm : List UInt8) (row : Bool) (x : Int) (st : Met) : nameF V nv nm row x st = nameF W nv nm row x st := by
 unfold nameF
 rw [varFrom_names nm V W 0 (nts_names h), (nts_at h _).1, (nts_at h _).2.1]
theorem boolB_nts {V W : List LVar} (h : V.map ntS = W.map ntS) (n : LNode) : boolB V n = boolB W n := by
 unfold boolB
 rw [varFrom_names n.name V W 0 (nts_names h), (nts_at h _).1]
theorem wantF_nts {V W : List LVar} (h : V.map ntS = W.map ntS) (N : List LNode) (n : LNode) : wantF V N n = wantF W N n := by
 unfold wantF sameF
 rw [boolB_nts h]
theorem typeF_nts {V W : List LVar} (h : V.map ntS = W.map ntS) (nv : Nat) (N : List LNode) : ∀ (f : Nat) (x : Int) (st : Met), typeF V nv N f x st = typeF W nv N f x st := by
 intro f
 induction f with
 | zero => intro x st; rfl
 | succ f ih => intro x st; simp only [typeF, nameF_nts h, wantF_nts h, ih]
theorem typeF_kind (T : LTree) (nv : Nat) (N : List LNode) (f : Nat) (x : Int) (st : Met) : typeF (allL 3 T) nv N f x st = typeF (allL 0 T) nv N f x st := typeF_nts (allL_nts T) nv N f x st
theorem names_small {T : LTree} (hS : Sized 1048576 T) : ∀ y : Nat, y < T.nodes.length → (nodeOf T.nodes (y : Int)).name.length ≤ 1048576 := fun y hy => by
 have := hS.node _ (List.mem_of_getElem? (node_get hy)); exact this.1
attribute [local go_sem] bs_size bs_get bs_extract bs_append bs_eq bs_toList
def IntsR (lo : Nat) (w' : World) (e : Ending) (zs : List Int) : Prop := ∃ g, e = .returned (.slice (some ⟨g, 0, none⟩) zs.length zs.length) ∧ lo ≤ g ∧ w'.heap[g]? = some (.cells (zs.map (Value.int .i64)).toArray 2 (0, 0))
set_option maxHeartbeats 800000 in
theorem l5Args_any (op : Int) (w : World) (h1 : 1 ≤ op) (h4 : op ≤ 4) : Calls Tryz.prog 117 #[.int .i64 op] w fun e w' => IntsR w.heap.size w' e (argsL op) ∧ Below w.heap.size w w' := by
 have h : op = 1 ∨ op = 2 ∨ op = 3 ∨ op = 4 := by omega
 rcases h with rfl | rfl | rfl | rfl
 all_goals
  go_enter Tryz.func117, Tryz.ntmps117
  go_wp2
  go_ret
  exact ⟨⟨w.heap.size, rfl, Nat.le_refl _, heap_alloc_new w _⟩, by go_grown⟩
theorem argsF_drop {must : Int → Int → Met → Met} {ks ts : List Int} {j : Nat} {y t : Int} {st : Met} (h1 : ks[j]? = some y) (h2 : ts[j]? = some t) : argsF must (ks.drop j) (ts.drop j) st = argsF must (ks.drop (j + 1)) (ts.drop (j + 1)) (must y t st) := by
 obtain ⟨a1, rfl⟩ := List.getElem?_eq_some_iff.1 h1
 obtain ⟨a2, rfl⟩ := List.getElem?_eq_some_iff.1 h2
 rw [List.drop_eq_getElem_cons a1, List.drop_eq_getElem_cons a2]; rfl
theorem argsL_le (op : Int) : 1 ≤ (argsL op).length ∧ (argsL op).length ≤ 3 := by
 unfold argsL
 split
 ·simp
 split
 ·simp
 split <;> simp
theorem Chk.soleW {W0 W W' : World} {kp p lA cA : Nat} {aA : Option Addr} {vl vl' : Value} {st st' : Met} (h : Chk W0 W kp p aA lA cA vl st) (h' : Chk W0 W' kp p aA lA cA vl' st') : Below W0.heap.size W0 W' := h'.bel
set_option maxHeartbeats 12800000 in
set_option maxRecDepth 100000 in
theorem l5Call_any (lo : Nat) (W0 W : World) (kp p cA B : Nat) (vv vn vb : Value) (aA : Option Addr) (T : LTree) (V : List LVar) (vl : Value) (st : Met) (L : List (List UInt8)) (j : Nat) (hE : ChkE lo W0 p kp vv vn vb aA T V) (hC : Chk W0 W kp p aA V.length cA vl st) (hL : LoopO W B vl L) (hLl : L.length ≤ 1048576) (hj : j < T.nodes.length) (hX : Kin T.nodes) (hk : (nodeOf T.nodes (j : Int)).kind = 11) :
  Calls Tryz.prog 90 #[.pointer (some ⟨kp, 0, none⟩), .int .i64 (j : Int)] W fun e w' => e = .returned (.tuple #[]) ∧ Chk W0 w' kp p aA V.length cA vl (callF (mustT V T.vars.length T.nodes) L (nodeOf T.nodes (j : Int)) (j : Int) st) ∧ Sole kp W w' := by
 have hnode := hE.good.node j _ (node_get hj)
 have hop := own_op hnode.1 hk
 have HKX : Hid (∀ y ∈ (nodeOf T.nodes (j : Int)).kids, exprN (nodeOf T.nodes y) = true ∧ 0 ≤ y ∧ y < (T.nodes.length : Int)) := fun y hy => ⟨hX j _ (node_get hj) y hy, (hnode.2.1 y hy).1, by have := (hnode.2.1 y hy).2; omega⟩
 obtain ⟨bn, on, cn, rfl, q1, vk, vt, ve, hnc, hkd, _, ⟨a6, l6, c6, rfl⟩, ⟨a7, l7, c7, rfl⟩⟩ := hE.node hC.bel j hj
 obtain ⟨aL, cL, rfl, _⟩ := hL.form
 obtain ⟨k0, -, k2⟩ := cl3 hC.row
 have hkW := blk_lt hC.row
 have hnl := hE.good.nodes
 have hlow := hE.low
 have hW0 := hC.bel.size
 have HSTOP : Hid (∀ (c : Int) (s : Met) (W' : World), Chk W0 W' kp p aA V.length cA (.slice aL L.length cL) s → Calls Tryz.prog 114 #[.pointer (some ⟨kp, 0, none⟩), .int .i64 c, .int .i64 (j : Int)] W' fun e w' => e = .returned (.tuple #[]) ∧ Chk W0 w' kp p aA V.length cA (.slice aL L.length cL) (metAt s c (j : Int)) ∧ Sole kp W' w') := fun c s W' h => l5Stop_any W0 W' kp p V.length cA aA _ s c (j : Int) h hlow
 have HMU : Hid (∀ (y : Nat) (t : Int) (s : Met) (W' : World), (y : Int) ∈ (nodeOf T.nodes (j : Int)).kids → Chk W0 W' kp p aA V.length cA (.slice aL L.length cL) s → Calls Tryz.prog 88 #[.pointer (some ⟨kp, 0, none⟩), .int .i64 (y : Int), .int .i64 t] W' fun e w' => e = .returned (.tuple #[]) ∧ Chk W0 w' kp p aA V.length cA (.slice aL L.length cL) (mustT V T.vars.length T.nodes (y : Int) t s) ∧ Sole kp W' w') := fun y t s W' hy h => by
  have h3 := HKX.out _ hy
  exact l5Must_all lo W0 W' kp p cA vv _ vb aA T V _ s y t hE hX h (by omega) h3.1
 obtain ⟨ks, hks⟩ : ∃ ks, ks = (nodeOf T.nodes (j : Int)).kids := ⟨_, rfl⟩
 obtain ⟨op, hop2⟩ : ∃ op, op = (nodeOf T.nodes (j : Int)).op := ⟨_, rfl⟩
 have HR : Hid (callF (mustT V T.vars.length T.nodes) L (nodeOf T.nodes (j : Int)) (j : Int) st = if (argsL op).length ≠ ks.length ∨ L ≠ [] then metAt st 2 (j : Int) else argsF (mustT V T.vars.length T.nodes) ks (argsL op) st) := by unfold Hid callF; rw [hks, hop2]
 obtain ⟨d0, d1, d2, d3, d4, d5, d6, d7⟩ := hnc
 rw [← hks] at HMU HKX hkd
 rw [← hop2] at d1 hop
 generalize callF (mustT V T.vars.length T.nodes) L (nodeOf T.nodes (j : Int)) (j : Int) st = R at *
 obtain ⟨ak, ck, evk, _, hik⟩ := id hkd
 subst evk
 have HKD := hid hkd
 generalize nodeOf T.nodes (j : Int) = n at *
 have HAR : Hid (∀ w, Calls Tryz.prog 117 #[.int .i64 op] w fun e w' => IntsR w.heap.size w' e (argsL op) ∧ Below w.heap.size w w') := fun w => l5Args_any op w hop.1 hop.2
 have hal := argsL_le op
 have HCA : Hid (∀ o, Chk W0 (W.alloc o) kp p aA V.length cA (.slice aL L.length cL) st ∧ Sole kp W (W.alloc o)) := fun o =>
  have hb : Below W.heap.size W (W.alloc o) := (Below.refl _ _).alloc (Nat.le_refl _) _
  ⟨hC.below hb, hb.sole⟩
 have hj0 : (0 : Int) ≤ (j : Int) := by omega
 have hj1 : (j : Int) < (T.nodes.length : Int) := by omega
 clear hC hE hL hik hkd hX hk hnode hks hop2 hop
 generalize argsL op = ts at *
 go_enter Tryz.func90, Tryz.ntmps90
 go_wp2_with fail
 generalize hW5 : W.alloc (.cells #[.int .i64 n.kind, .int .i64 op, .string (bs n.name), .int .i64 n.num, .int .i64 n.far, .slice ak ks.length ck, .slice a6 l6 c6, .slice a7 l7 c7] 88) = W5
 have hA := heap_alloc_new W (.cells #[.int .i64 n.kind, .int .i64 op, .string (bs n.name), .int .i64 n.num, .int .i64 n.far, .slice ak ks.length ck, .slice a6 l6 c6, .slice a7 l7 c7] 88)
 have hC5 := HCA.out (.cells #[.int .i64 n.kind, .int .i64 op, .string (bs n.name), .int .i64 n.num, .int .i64 n.far, .slice ak ks.length ck, .slice a6 l6 c6, .slice a7 l7 c7] 88)
 rw [hW5] at hA hC5
 clear hW5 HCA d0 d1 d2 d3 d4 d5 d6 d7 q1 k0 k2
 refine (HAR.out _).mono ?_
 rintro e w2 ⟨⟨g, rfl, hg, hcg⟩, hb⟩
 have HC : Hid (Chk W0 w2 kp p aA V.length cA (.slice aL L.length cL) st ∧ Sole kp W w2) := ⟨hC5.1.below hb, hC5.2.trans hb.sole⟩
 have HG := hid hcg
 have HN : Hid (w2.cell? ⟨W.heap.size, 5, none⟩ = some (.slice ak ks.length ck)) := cell_of_row _ _ 5 _ _ _ (blk hA hb)
 have hg5 : g ≠ kp := by have := blk_lt hA; omega
 have hkWn : W.heap.size ≠ kp := by omega
 have hz2 : W.heap.size < w2.heap.size := Nat.lt_of_lt_of_le (blk_lt hA) hb.size
 clear hb hcg hC5 hA HAR hg
 have n5 : w2.cell? ⟨W.heap.size, 5, none⟩ = some (.slice ak ks.length ck) := HN.out
 have k2 : w2.cell? ⟨kp, 2, none⟩ = some (.slice aL L.length cL) := by have := cell_of_row _ _ 2 _ _ _ HC.out.1.row; simpa using this
 have HNG : Hid (∀ wr, Sole kp w2 wr → wr.cell? ⟨W.heap.size, 5, none⟩ = some (.slice ak ks.length ck) ∧ wr.heap[g]? = some (.cells (ts.map (Value.int .i64)).toArray 2 (0, 0))) := fun wr h => ⟨h.cell (p := ⟨W.heap.size, 5, none⟩) hkWn HN.out, (h.rest g (blk_lt HG.out) hg5).trans HG.out⟩
 by_cases hlen : ts.length = ks.length
 ·by_cases hLn : L.length = 0
  ·have HR2 : Hid (R = argsF (mustT V T.vars.length T.nodes) (ks.drop 0) (ts.drop 0) st) := by unfold Hid; rw [HR.out, if_neg (by simp [hlen, List.eq_nil_of_length_eq_zero hLn])]; rfl
   have HTL := hid hlen
   have hL1 : ¬ (0 < L.length) := by omega
   have HS2 : Hid (Sole kp W w2) := HC.out.2
   have HC1 : Hid (Chk W0 w2 kp p aA V.length cA (.slice aL L.length cL) st ∧ Sole kp w2 w2) := ⟨HC.out.1, Sole.refl _ _⟩
   have hk3 : ks.length ≤ 3 := by omega
   rw [hlen]
   clear HR HSTOP hLn hlen HC HG HN hal
   go_wp2_with fail
   go_loopw [6] (fun i wr => ∃ (k : Nat) (s : Met), k ≤ ks.length ∧ i = .int .i64 k ∧ Hid (R = argsF (mustT V T.vars.length T.nodes) (ks.drop k) (ts.drop k) s) ∧ Hid (Chk W0 wr kp p aA V.length cA (.slice aL L.length cL) s ∧ Sole kp w2 wr)) (fun i _ => ks.length - (intOf i).toNat)
   case atStart => exact ⟨0, st, Nat.zero_le _, rfl, HR2, HC1⟩
   case round =>
    clear HR2 HC1 n5 k2
    obtain ⟨k, s, hkl, rfl, HR, HC⟩ := hrel
    by_cases hlt : k < ks.length
    ·obtain ⟨y, hy⟩ : ∃ y, ks[k]? = some y := ⟨_, List.getElem?_eq_getElem hlt⟩
     obtain ⟨t, ht⟩ : ∃ t, ts[k]? = some t := ⟨_, List.getElem?_eq_getElem (by have := HTL.out; omega)⟩
     have hym := List.mem_of_getElem? hy
     obtain ⟨_, hy0, hy1⟩ := HKX.out y hym
     obtain ⟨Y, rfl⟩ := Int.eq_ofNat_of_zero_le hy0
     have hN := (HNG.out wr HC.out.2).1
     have hG := (HNG.out wr HC.out.2).2
     have hgk : wr.cell? ⟨g, k, none⟩ = some (.int .i64 t) := by
      have := cell_of_row _ _ k _ _ _ hG
      rw [List.getElem?_toArray, List.getElem?_map, ht] at this; exact this
     obtain ⟨bk, ok, rfl, hkc, hbk⟩ : ∃ b o, ak = some ⟨b, o, none⟩ ∧ wr.cell? ⟨b, o + k, none⟩ = some (.int .i64 (Y : Int)) ∧ b ≠ kp := by
      obtain ⟨_, _, e, _, h⟩ := id HKD.out
      injection e with e1 e2 e3
      subst e1
      obtain ⟨b, o, e, _, hc⟩ := h (by intro e; rw [e] at hlt; simp at hlt)
      have hb0 := World.block_lt_of_cell? _ _ (hc k _ hy)
      exact ⟨b, o, e, (HC.out.1.bel.cell (p := ⟨b, o + k, none⟩) hb0).trans (hc k _ hy), by simp at hb0; omega⟩
     have HMK : Hid (Calls Tryz.prog 88 #[.pointer (some ⟨kp, 0, none⟩), .int .i64 (Y : Int), .int .i64 t] wr.drew fun e w' => e = .returned (.tuple #[]) ∧ Chk W0 w' kp p aA V.length cA (.slice aL L.length cL) (mustT V T.vars.length T.nodes (Y : Int) t s) ∧ Sole kp wr.drew w') := HMU.out Y t s wr.drew hym ⟨HC.out.1.bel.drew, HC.out.1.row⟩
     have HSD : Hid (Sole kp w2 wr.drew) := HC.out.2.trans (((Below.refl wr.heap.size wr).drew).sole)
     have HR3 : Hid (R = argsF (mustT V T.vars.length T.nodes) (ks.drop (k + 1)) (ts.drop (k + 1)) (mustT V T.vars.length T.nodes (Y : Int) t s)) := by unfold Hid; rw [HR.out]; exact argsF_drop hy ht
     have hk0 : (0 : Int) ≤ (k : Int) := by omega
     have hk1 : (k : Int) < (ks.length : Int) := by omega
     have HX5 : Hid (wr.drew.cell? ⟨W.heap.size, 5, none⟩ = some (.slice (some ⟨bk, ok, none⟩) ks.length ck) ∧ wr.drew.cell? ⟨bk, ok + k, none⟩ = some (.int .i64 (Y : Int)) ∧ wr.drew.cell? ⟨g, k, none⟩ = some (.int .i64 t)) := ⟨hN, hkc, hgk⟩
     clear hy ht hym hG HC HR HMU hy0 hy1
     generalize mustT V T.vars.length T.nodes (Y : Int) t s = s' at *
     go_wp2_with fail
     go_region_held3 (fun Z => Z.cell? ⟨W.heap.size, 5, none⟩ = some (.slice (some ⟨bk, ok, none⟩) ks.length ck) ∧ Z.cell? ⟨bk, ok + k, none⟩ = some (.int .i64 (Y : Int)) ∧ Z.cell? ⟨g, k, none⟩ = some (.int .i64 t)) (go_keep) (first | (go_at_call 88; refine HMK.out.mono ?_; rintro e w3 ⟨rfl, hc3, hs3⟩; have x5 := hs3.cell (p := ⟨W.heap.size, 5, none⟩) hkWn HX5.out.1; have xk := hs3.cell (p := ⟨bk, ok + k, none⟩) hbk HX5.out.2.1; have xg := hs3.cell (p := ⟨g, k, none⟩) hg5 HX5.out.2.2))
     have HC3 : Hid (Chk W0 w3 kp p aA V.length cA (.slice aL L.length cL) s' ∧ Sole kp w2 w3) := ⟨hc3, HSD.out.trans hs3⟩
     clear hc3 hs3 x5 xk xg HX5 HMK HSD hN hgk hkc
     go_wp2_with fail
     go_roundw
     case rel => exact ⟨k + 1, s', by omega, by go_num, HR3, HC3⟩
     case measure => simp [intOf]; omega
    ·have hke : k = ks.length := by omega
     have HR3 : Hid (R = s) := by unfold Hid; rw [HR.out, hke, List.drop_length]; rfl
     clear HR hke
     go_wp2_with fail
     go_end0
     exact ⟨rfl, by rw [HR3.out]; exact HC.out.1, HS2.out.trans HC.out.2⟩
  ·have HR2 : Hid (R = metAt st 2 (j : Int)) := by unfold Hid; rw [HR.out, if_pos (Or.inr (fun e => hLn (by rw [e]; rfl)))]
   have hL1 : 0 < L.length := by omega
   rw [hlen]
   have hk3 : ks.length ≤ 3 := by omega
   clear HR HMU hLn hlen hal HNG HG HN
   go_wp2_with fail
   refine (HSTOP.out 2 st _ HC.out.1).mono ?_
   rintro e w3 ⟨rfl, hc3, hs3⟩
   have HC3 : Hid (Chk W0 w3 kp p aA V.length cA (.slice aL L.length cL) (metAt st 2 (j : Int)) ∧ Sole kp W w3) := ⟨hc3, HC.out.2.trans hs3⟩
   clear hc3 hs3
   go_wp2_with fail
   first | go_ret | (refine bodyPost_ret (v := .tuple #[]) (by simp [results, Tryz.results90, go_sem]) rfl ?_)
   exact ⟨rfl, by rw [HR2.out]; exact HC3.out.1, HC3.out.2⟩
 ·have HR2 : Hid (R = metAt st 2 (j : Int)) := by unfold Hid; rw [HR.out, if_pos (Or.inl hlen)]
  have hle : ((ts.length : Int) != (ks.length : Int)) = true := bne_iff_ne.2 (by omega)
  clear HR HMU hal HNG HG HN
  go_wp2_with fail
  refine (HSTOP.out 2 st _ HC.out.1).mono ?_
  rintro e w3 ⟨rfl, hc3, hs3⟩
  have HC3 : Hid (Chk W0 w3 kp p aA V.length cA (.slice aL L.length cL) (metAt st 2 (j : Int)) ∧ Sole kp W w3) := ⟨hc3, HC.out.2.trans hs3⟩
  clear hc3 hs3
  go_wp2_with fail
  first | go_ret | (refine bodyPost_ret (v := .tuple #[]) (by simp [results, Tryz.results90, go_sem]) rfl ?_)
  exact ⟨rfl, by rw [HR2.out]; exact HC3.out.1, HC3.out.2⟩
end Go.Proofs.YteeklmgkhacbcaaGreatDoor
