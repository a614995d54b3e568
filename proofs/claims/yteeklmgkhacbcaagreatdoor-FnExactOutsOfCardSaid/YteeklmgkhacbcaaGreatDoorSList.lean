/-
  spec.l5List, at every list of places ahead of a bound.
-/
import Derived.Test.YteeklmgkhacbcaaGreatDoorSFor
import Derived.Test.YteeklmgkhacbcaaGreatDoorSCall
namespace Go.Proofs.YteeklmgkhacbcaaGreatDoor
open Go.RowKit
set_option linter.unusedVariables false
attribute [local go_sem] bs_size bs_get bs_extract bs_append bs_eq bs_toList
theorem len_two {l : List Int} (h : l.length = 2) : ∃ y z, l = [y, z] := by
 match l, h with
 | [a, b], _ => exact ⟨a, b, rfl⟩
theorem stat_kids {n : LNode} (h : ownB n = true) : (n.kind = 7 → ∃ y, n.kids = [y]) ∧ (n.kind = 8 → ∃ y z, n.kids = [y, z]) ∧ (n.kind = 9 → ∃ y, n.kids = [y]) := by
 unfold ownB at h
 simp only [Bool.and_eq_true] at h
 obtain ⟨⟨⟨⟨⟨⟨⟨_, _⟩, _⟩, hl⟩, _⟩, _⟩, _⟩, _⟩ := h.1
 refine ⟨fun e => ?_, fun e => ?_, fun e => ?_⟩ <;> rw [e] at hl <;> simp [wantsN] at hl
 ·exact List.length_eq_one_iff.1 (by omega)
 ·exact len_two (by omega)
 ·exact List.length_eq_one_iff.1 (by omega)
def Stk (T : LTree) : Prop := ∀ (k : Nat) (n : LNode), T.nodes[k]? = some n → (∀ x ∈ n.thn, 7 ≤ (nodeOf T.nodes x).kind ∧ (nodeOf T.nodes x).kind ≤ 11) ∧ (∀ x ∈ n.els, 7 ≤ (nodeOf T.nodes x).kind ∧ (nodeOf T.nodes x).kind ≤ 11)
theorem refs_stat {T : LTree} (hG : Good T) {m : Nat} (hm : m ≤ T.nodes.length) {l : List Int} (h : refsB T.nodes m l false = true) : ∀ x ∈ l, 7 ≤ (nodeOf T.nodes x).kind ∧ (nodeOf T.nodes x).kind ≤ 11 := fun x hx => by
 have h1 := List.all_eq_true.1 h x hx
 unfold refB at h1
 simp only [Bool.and_eq_true] at h1
 have hb := inB_iff.1 h1.1
 obtain ⟨j, rfl⟩ : ∃ j : Nat, x = j := ⟨x.toNat, by omega⟩
 have hk := (own_nums (hG.node j _ (node_get (by omega))).1).2.2
 have h2 : exprN (nodeOf T.nodes (j : Int)) = false := by
  have h3 := h1.2
  unfold nodeOf
  revert h3
  cases exprN (T.nodes.getD ((j : Int)).toNat default) <;> simp
 unfold exprN at h2
 have := inB_no.1 h2
 omega
theorem stk_of {T : LTree} (h : faultL T = 0) : Stk T := fun k n hk => by
 obtain ⟨_, _, _, h4, _⟩ := fault_zero h
 have hr := right_at h4 hk
 have hlt := (List.getElem?_eq_some_iff.1 hk).1
 exact ⟨refs_stat (good_of h) (by omega) hr.2.2.1, refs_stat (good_of h) (by omega) hr.2.2.2⟩
theorem body_stat {T : LTree} (h : faultL T = 0) : ∀ x ∈ T.body, 7 ≤ (nodeOf T.nodes x).kind ∧ (nodeOf T.nodes x).kind ≤ 11 := by
 obtain ⟨_, _, _, _, h5⟩ := fault_zero h
 exact refs_stat (good_of h) (Nat.le_refl _) h5
theorem goL_met {s : Int → Met → Met} {l : List Int} {st : Met} (h : st.1 ≠ 0) : goL s l st = st := by
 cases l with
 | nil => rfl
 | cons x r => unfold goL; rw [if_neg h]
theorem goL_step {s : Int → Met → Met} {l : List Int} {k : Nat} {x m : Int} (h : l[k]? = some x) : goL s (l.drop k) (0, m) = goL s (l.drop (k + 1)) (s x (0, m)) := by
 obtain ⟨hk, rfl⟩ := List.getElem?_eq_some_iff.1 h
 rw [List.drop_eq_getElem_cons hk, goL, if_pos rfl]
set_option maxHeartbeats 12800000 in
set_option maxRecDepth 100000 in
theorem l5List_step (lo : Nat) (W0 : World) (kp p cA B f : Nat) (vv vn vb : Value) (aA : Option Addr) (T : LTree) (V : List LVar) (L : List (List UInt8)) (list : List Int) (hE : ChkE lo W0 p kp vv vn vb aA T V) (hX : Kin T.nodes) (hB : B = kp + 1) (hLl : L.length ≤ 999) (hll : list.length ≤ 1048576)
  (hs : ∀ x ∈ list, (0 ≤ x ∧ x < (T.nodes.length : Int)) ∧ (7 ≤ (nodeOf T.nodes x).kind ∧ (nodeOf T.nodes x).kind ≤ 11))
  (IH : ∀ x ∈ list, ((nodeOf T.nodes x).kind = 9 → ListC lo W0 kp p cA B aA T V f L (nodeOf T.nodes x).thn ∧ ListC lo W0 kp p cA B aA T V f L (nodeOf T.nodes x).els) ∧ ((nodeOf T.nodes x).kind = 10 → ListC lo W0 kp p cA B aA T V f (L ++ [(nodeOf T.nodes x).name]) (nodeOf T.nodes x).thn)) :
  ListC lo W0 kp p cA B aA T V (f + 1) L list := by
 intro W vk vl st hC hL hV
 obtain ⟨aV, cV, evV, _⟩ := id hV
 subst evV
 have HV := hid hV
 have HE := hid hE
 have HS := hid hs
 have HIH : Hid (∀ x ∈ list, ((nodeOf T.nodes x).kind = 9 → ListC lo W0 kp p cA B aA T V f L (nodeOf T.nodes x).thn ∧ ListC lo W0 kp p cA B aA T V f L (nodeOf T.nodes x).els) ∧ ((nodeOf T.nodes x).kind = 10 → ListC lo W0 kp p cA B aA T V f (L ++ [(nodeOf T.nodes x).name]) (nodeOf T.nodes x).thn)) := IH
 have HX : Hid (Kin T.nodes) := hX
 have hlow := hE.low
 have hnl := hE.good.nodes
 have hkW := blk_lt hC.row
 obtain ⟨R, hR⟩ : ∃ R, R = goL (stmtF (mustT V T.vars.length T.nodes) T.vars T.nodes (f + 1) L) list st := ⟨_, rfl⟩
 rw [← hR]
 have HR := hid hR
 have HST : Hid (Chk W0 W kp p aA V.length cA vl st ∧ LoopO W B vl L ∧ Duo kp vl vl W W) := ⟨hC, hL, Duo.refl _ _ _⟩
 clear hC hL hV hE hs IH hX hR
 go_enter Tryz.func66, Tryz.ntmps66
 go_wp2_with fail
 go_loopw [4] (fun i wr => ∃ (k : Nat) (s : Met) (vl' : Value), k ≤ list.length ∧ i = .int .i64 k ∧ Hid (R = goL (stmtF (mustT V T.vars.length T.nodes) T.vars T.nodes (f + 1) L) (list.drop k) s) ∧ Hid (Chk W0 wr kp p aA V.length cA vl' s ∧ LoopO wr B vl' L ∧ Duo kp vl vl' W wr)) (fun i _ => list.length - (intOf i).toNat)
 case atStart => exact ⟨0, st, vl, Nat.zero_le _, rfl, HR, HST⟩
 case round =>
  clear HR HST
  obtain ⟨k, ⟨s1, s2⟩, vl', hkl, rfl, HR, HST⟩ := hrel
  have k3 : wr.cell? ⟨kp, 3, none⟩ = some (.int .i64 s1) := by have := cell_of_row _ _ 3 _ _ _ HST.out.1.row; simpa using this
  by_cases hlt : k < list.length
  ·by_cases hz : s1 = 0
   ·subst hz
    obtain ⟨x, hx⟩ : ∃ x, list[k]? = some x := ⟨_, List.getElem?_eq_getElem hlt⟩
    have hxm := List.mem_of_getElem? hx
    obtain ⟨⟨hx0, hx1⟩, hk7, hk11⟩ := HS.out x hxm
    obtain ⟨X, rfl⟩ := Int.eq_ofNat_of_zero_le hx0
    have hXl : X < T.nodes.length := by omega
    have HR1 : Hid (R = goL (stmtF (mustT V T.vars.length T.nodes) T.vars T.nodes (f + 1) L) (list.drop (k + 1)) (stmtF (mustT V T.vars.length T.nodes) T.vars T.nodes (f + 1) L (X : Int) (0, s2))) := by unfold Hid; rw [HR.out]; exact goL_step hx
    obtain ⟨bV, oV, eaV, hcV⟩ : ∃ b o, aV = some ⟨b, o, none⟩ ∧ wr.cell? ⟨b, o + k, none⟩ = some (.int .i64 (X : Int)) := by
     obtain ⟨_, _, e, _, h⟩ := HV.out.below HST.out.1.bel
     injection e with e1 e2 e3
     subst e1
     obtain ⟨b, o, e, _, hc⟩ := h (by intro e; rw [e] at hlt; simp at hlt)
     exact ⟨b, o, e, hc k _ hx⟩
    subst eaV
    have hown := (HE.out.good.node X _ (node_get hXl)).1
    have HSK : Hid (((nodeOf T.nodes (X : Int)).kind = 7 → ∃ y, (nodeOf T.nodes (X : Int)).kids = [y]) ∧ ((nodeOf T.nodes (X : Int)).kind = 8 → ∃ y z, (nodeOf T.nodes (X : Int)).kids = [y, z]) ∧ ((nodeOf T.nodes (X : Int)).kind = 9 → ∃ y, (nodeOf T.nodes (X : Int)).kids = [y])) := stat_kids hown
    have HKX : Hid (∀ y ∈ (nodeOf T.nodes (X : Int)).kids, exprN (nodeOf T.nodes y) = true ∧ 0 ≤ y ∧ y < (T.nodes.length : Int)) := fun y hy => ⟨HX.out X _ (node_get hXl) y hy, ((HE.out.good.node X _ (node_get hXl)).2.1 y hy).1, by have := ((HE.out.good.node X _ (node_get hXl)).2.1 y hy).2; omega⟩
    have HMU : Hid (∀ (y : Nat) (t : Int) (v9 : Value) (s : Met) (W' : World), (y : Int) ∈ (nodeOf T.nodes (X : Int)).kids → Chk W0 W' kp p aA V.length cA v9 s → Calls Tryz.prog 88 #[.pointer (some ⟨kp, 0, none⟩), .int .i64 (y : Int), .int .i64 t] W' fun e w' => e = .returned (.tuple #[]) ∧ Chk W0 w' kp p aA V.length cA v9 (mustT V T.vars.length T.nodes (y : Int) t s) ∧ Sole kp W' w') := fun y t v9 s W' hy h => by
     have h3 := HKX.out _ hy
     exact l5Must_all lo W0 W' kp p cA vv vn vb aA T V _ s y t HE.out HX.out h (by omega) h3.1
    have HTA : Hid (∀ (row : Bool) (v9 : Value) (s : Met) (W' : World), Chk W0 W' kp p aA V.length cA v9 s → LoopO W' B v9 L → Calls Tryz.prog 87 #[.pointer (some ⟨kp, 0, none⟩), .int .i64 (X : Int), .bool row] W' fun e w' => e = .returned (.int .i64 (targetF T.vars L (nodeOf T.nodes (X : Int)).name row (X : Int) s).1) ∧ Chk W0 w' kp p aA V.length cA v9 (targetF T.vars L (nodeOf T.nodes (X : Int)).name row (X : Int) s).2 ∧ Sole kp W' w') := fun row v9 s W' h h2 => l5Target_any lo W0 W' kp p cA B vv vn vb aA T V v9 s L X row HE.out h h2 (by omega) (by omega) hXl
    have HFO : Hid ((nodeOf T.nodes (X : Int)).kind = 10 → ∀ (v9 : Value) (s : Met) (W' : World), Chk W0 W' kp p aA V.length cA v9 s → LoopO W' B v9 L → Calls Tryz.prog 89 #[.pointer (some ⟨kp, 0, none⟩), .int .i64 (X : Int)] W' fun e w' => e = .returned (.tuple #[]) ∧ ∃ vl', Chk W0 w' kp p aA V.length cA vl' (goL (stmtF (mustT V T.vars.length T.nodes) T.vars T.nodes f (L ++ [(nodeOf T.nodes (X : Int)).name])) (nodeOf T.nodes (X : Int)).thn (forF T.vars L (nodeOf T.nodes (X : Int)) (X : Int) s)) ∧ LoopO w' B vl' L ∧ Duo kp v9 vl' W' w') := fun hk v9 s W' h h2 => l5For_any lo W0 W' kp p cA B f vv vn vb aA T V v9 s L X HE.out h h2 hB (by omega) hXl hk ((HIH.out _ hxm).2 hk)
    have HCL : Hid ((nodeOf T.nodes (X : Int)).kind = 11 → ∀ (v9 : Value) (s : Met) (W' : World), Chk W0 W' kp p aA V.length cA v9 s → LoopO W' B v9 L → Calls Tryz.prog 90 #[.pointer (some ⟨kp, 0, none⟩), .int .i64 (X : Int)] W' fun e w' => e = .returned (.tuple #[]) ∧ Chk W0 w' kp p aA V.length cA v9 (callF (mustT V T.vars.length T.nodes) L (nodeOf T.nodes (X : Int)) (X : Int) s) ∧ Sole kp W' w') := fun hk v9 s W' h h2 => l5Call_any lo W0 W' kp p cA B vv vn vb aA T V v9 s L X HE.out h h2 (by omega) hXl HX.out hk
    have HI9 : Hid ((nodeOf T.nodes (X : Int)).kind = 9 → ListC lo W0 kp p cA B aA T V f L (nodeOf T.nodes (X : Int)).thn ∧ ListC lo W0 kp p cA B aA T V f L (nodeOf T.nodes (X : Int)).els) := (HIH.out _ hxm).1
    have HSF : Hid (stmtF (mustT V T.vars.length T.nodes) T.vars T.nodes (f + 1) L (X : Int) (0, s2) = if (nodeOf T.nodes (X : Int)).kind = 7 then mustT V T.vars.length T.nodes ((nodeOf T.nodes (X : Int)).kids.getD 0 0) (targetF T.vars L (nodeOf T.nodes (X : Int)).name false (X : Int) (0, s2)).1 (targetF T.vars L (nodeOf T.nodes (X : Int)).name false (X : Int) (0, s2)).2
     else if (nodeOf T.nodes (X : Int)).kind = 8 then mustT V T.vars.length T.nodes ((nodeOf T.nodes (X : Int)).kids.getD 1 0) (targetF T.vars L (nodeOf T.nodes (X : Int)).name true (X : Int) (0, s2)).1 (mustT V T.vars.length T.nodes ((nodeOf T.nodes (X : Int)).kids.getD 0 0) 1 (targetF T.vars L (nodeOf T.nodes (X : Int)).name true (X : Int) (0, s2)).2)
     else if (nodeOf T.nodes (X : Int)).kind = 9 then goL (stmtF (mustT V T.vars.length T.nodes) T.vars T.nodes f L) (nodeOf T.nodes (X : Int)).els (goL (stmtF (mustT V T.vars.length T.nodes) T.vars T.nodes f L) (nodeOf T.nodes (X : Int)).thn (mustT V T.vars.length T.nodes ((nodeOf T.nodes (X : Int)).kids.getD 0 0) 2 (0, s2)))
     else if (nodeOf T.nodes (X : Int)).kind = 10 then goL (stmtF (mustT V T.vars.length T.nodes) T.vars T.nodes f (L ++ [(nodeOf T.nodes (X : Int)).name])) (nodeOf T.nodes (X : Int)).thn (forF T.vars L (nodeOf T.nodes (X : Int)) (X : Int) (0, s2))
     else if (nodeOf T.nodes (X : Int)).kind = 11 then callF (mustT V T.vars.length T.nodes) L (nodeOf T.nodes (X : Int)) (X : Int) (0, s2)
     else (0, s2)) := by unfold Hid; rfl
    obtain ⟨bn, on, cn, evn, q1, vk, vt, ve, hnc, hkd, htd, hed⟩ := HE.out.node3 HST.out.1.bel X hXl
    obtain ⟨ak, ck, evk, _⟩ := id hkd
    obtain ⟨at1, ct, evt, _⟩ := id htd
    obtain ⟨ae, ce, eve, _⟩ := id hed
    subst evk; subst evt; subst eve
    have HKD := hid hkd
    have HTD := hid htd
    have HED := hid hed
    have k0 : wr.cell? ⟨kp, 0, none⟩ = some (.pointer (some ⟨p, 0, none⟩)) := by have := cell_of_row _ _ 0 _ _ _ HST.out.1.row; simpa using this
    rw [evn] at q1
    have hgv : vl'.ownBlock ≠ some wr.heap.size := fun e => by have := (World.ownsRow.lt HST.out.2.1 _ e).2; omega
    have hgk : wr.heap.size ≠ kp := by have := blk_lt HST.out.1.row; omega
    have hX0 : (0 : Int) ≤ (X : Int) := by omega
    have hX1 : (X : Int) < (T.nodes.length : Int) := by omega
    have hk0 : (0 : Int) ≤ (k : Int) := by omega
    have hk1 : (k : Int) < (list.length : Int) := by omega
    have HBW : Hid (Below W0.heap.size W0 wr) := HST.out.1.bel
    have HS5 : Hid (∀ o, Chk W0 (wr.alloc o) kp p aA V.length cA vl' (0, s2) ∧ LoopO (wr.alloc o) B vl' L ∧ Duo kp vl vl' W (wr.alloc o)) := fun o =>
     have hb : Below wr.heap.size wr (wr.alloc o) := (Below.refl _ _).alloc (Nat.le_refl _) _
     ⟨HST.out.1.below hb, HST.out.2.1.sole (kp := kp) hb.sole (by omega), HST.out.2.2.trans (hb.sole.duo _)⟩
    clear HR HS HIH HV hx hxm hkd htd hed hown evn HST hx0 hx1
    obtain ⟨n, hn⟩ : ∃ n, n = nodeOf T.nodes (X : Int) := ⟨_, rfl⟩
    rw [← hn] at HSF HSK HKX HMU HTA HFO HCL HI9 HKD HTD HED hnc hk7 hk11
    clear hn HE HX
    obtain ⟨d0, d1, d2, d3, d4, d5, d6, d7⟩ := hnc
    have hcs : n.kind = 7 ∨ n.kind = 8 ∨ n.kind = 9 ∨ n.kind = 10 ∨ n.kind = 11 := by omega
    clear hk7 hk11
    rcases hcs with hK | hK | hK | hK | hK
    ·obtain ⟨y, hks⟩ := HSK.out.1 hK
     have hmy : (y : Int) ∈ n.kids := by rw [hks]; simp
     obtain ⟨_, h0y, _⟩ := HKX.out _ hmy
     obtain ⟨yn, rfl⟩ := Int.eq_ofNat_of_zero_le h0y
     clear h0y
     have HSV : Hid (stmtF (mustT V T.vars.length T.nodes) T.vars T.nodes (f + 1) L (X : Int) (0, s2) = mustT V T.vars.length T.nodes (yn : Int) (targetF T.vars L n.name false (X : Int) (0, s2)).1 (targetF T.vars L n.name false (X : Int) (0, s2)).2) := by unfold Hid; rw [HSF.out, if_pos hK, hks]; rfl
     have HR2 : Hid (R = goL (stmtF (mustT V T.vars.length T.nodes) T.vars T.nodes (f + 1) L) (list.drop (k + 1)) (mustT V T.vars.length T.nodes (yn : Int) (targetF T.vars L n.name false (X : Int) (0, s2)).1 (targetF T.vars L n.name false (X : Int) (0, s2)).2)) := by unfold Hid; rw [HR1.out, HSV.out]
     clear HR1 HSV
     obtain ⟨bk, ok, eak, hkc⟩ : ∃ b o, ak = some ⟨b, o, none⟩ ∧ ∀ (i : Nat) (y : Int), n.kids[i]? = some y → W0.cell? ⟨b, o + i, none⟩ = some (.int .i64 y) := by
      obtain ⟨_, _, e, _, h⟩ := id HKD.out
      injection e with e1 e2 e3
      subst e1
      obtain ⟨b, o, e, _, hc⟩ := h (by rw [hks]; simp)
      exact ⟨b, o, e, hc⟩
     subst eak
     have hy0 := hkc 0 _ (by rw [hks]; rfl)
     clear HSF HSK HKX HFO HCL HI9 HTD HED hkc
     have hkl1 : (0 : Int) < (n.kids.length : Int) := by rw [hks]; simp
     clear hks
     rw [hK] at d0
     go_wp2_with fail
     have h5 := HS5.out (.cells #[.int .i64 7, .int .i64 n.op, .string (bs n.name), .int .i64 n.num, .int .i64 n.far, .slice (some ⟨bk, ok, none⟩) n.kids.length ck, .slice at1 n.thn.length ct, .slice ae n.els.length ce] 88)
     have hA := heap_alloc_new wr (.cells #[.int .i64 7, .int .i64 n.op, .string (bs n.name), .int .i64 n.num, .int .i64 n.far, .slice (some ⟨bk, ok, none⟩) n.kids.length ck, .slice at1 n.thn.length ct, .slice ae n.els.length ce] 88)
     generalize hW5 : wr.alloc (.cells #[.int .i64 7, .int .i64 n.op, .string (bs n.name), .int .i64 n.num, .int .i64 n.far, .slice (some ⟨bk, ok, none⟩) n.kids.length ck, .slice at1 n.thn.length ct, .slice ae n.els.length ce] 88) = W5 at *
     clear hW5 HS5 d0 d1 d2 d3 d4 d5 d6 d7 q1 k0 k3 hcV
     have HS5 : Hid _ := h5
     have HA : Hid _ := hA
     have hz5 := blk_lt hA
     clear h5 hA
     refine (HTA.out false _ _ _ HS5.out.1 HS5.out.2.1).mono ?_
     rintro e w6 ⟨rfl, hc6, hs6⟩
     generalize targetF T.vars L n.name false (X : Int) (0, s2) = tg at *
     have n5 : w6.cell? ⟨wr.heap.size, 5, none⟩ = some (.slice (some ⟨bk, ok, none⟩) n.kids.length ck) := hs6.cell (p := ⟨wr.heap.size, 5, none⟩) hgk (cell_of_row _ _ 5 _ _ _ HA.out)
     have ky : w6.cell? ⟨bk, ok, none⟩ = some (.int .i64 (yn : Int)) := (hc6.bel.cell (p := ⟨bk, ok, none⟩) (World.block_lt_of_cell? _ _ hy0)).trans hy0
     have HC6 : Hid (Chk W0 w6 kp p aA V.length cA vl' tg.2 ∧ LoopO w6 B vl' L ∧ Duo kp vl vl' W w6) := ⟨hc6, HS5.out.2.1.sole hs6 (by omega), HS5.out.2.2.trans (hs6.duo _)⟩
     clear hc6 hs6 HTA HS5 HA hy0
     obtain ⟨t1, t2⟩ := tg
     go_wp2_with fail
     refine (HMU.out yn t1 _ _ _ hmy HC6.out.1).mono ?_
     rintro e w7 ⟨rfl, hc7, hs7⟩
     have HC7 : Hid (Chk W0 w7 kp p aA V.length cA vl' (mustT V T.vars.length T.nodes (yn : Int) t1 t2) ∧ LoopO w7 B vl' L ∧ Duo kp vl vl' W w7) := ⟨hc7, HC6.out.2.1.sole hs7 (by omega), HC6.out.2.2.trans (hs7.duo _)⟩
     clear hc7 hs7 HMU HC6 n5 ky
     go_wp2_with fail
     go_roundw
     case rel => exact ⟨k + 1, _, vl', by omega, by go_num, HR2, HC7⟩
     case measure => simp [intOf]; omega
    ·obtain ⟨y, z, hks⟩ := HSK.out.2.1 hK
     have hmy : (y : Int) ∈ n.kids := by rw [hks]; simp
     obtain ⟨_, h0y, _⟩ := HKX.out _ hmy
     obtain ⟨yn, rfl⟩ := Int.eq_ofNat_of_zero_le h0y
     clear h0y
     have hmz : (z : Int) ∈ n.kids := by rw [hks]; simp
     obtain ⟨_, h0z, _⟩ := HKX.out _ hmz
     obtain ⟨zn, rfl⟩ := Int.eq_ofNat_of_zero_le h0z
     clear h0z
     have HSV : Hid (stmtF (mustT V T.vars.length T.nodes) T.vars T.nodes (f + 1) L (X : Int) (0, s2) = mustT V T.vars.length T.nodes (zn : Int) (targetF T.vars L n.name true (X : Int) (0, s2)).1 (mustT V T.vars.length T.nodes (yn : Int) 1 (targetF T.vars L n.name true (X : Int) (0, s2)).2)) := by unfold Hid; rw [HSF.out, if_neg (by omega), if_pos hK, hks]; rfl
     have HR2 : Hid (R = goL (stmtF (mustT V T.vars.length T.nodes) T.vars T.nodes (f + 1) L) (list.drop (k + 1)) (mustT V T.vars.length T.nodes (zn : Int) (targetF T.vars L n.name true (X : Int) (0, s2)).1 (mustT V T.vars.length T.nodes (yn : Int) 1 (targetF T.vars L n.name true (X : Int) (0, s2)).2))) := by unfold Hid; rw [HR1.out, HSV.out]
     clear HR1 HSV
     obtain ⟨bk, ok, eak, hkc⟩ : ∃ b o, ak = some ⟨b, o, none⟩ ∧ ∀ (i : Nat) (y : Int), n.kids[i]? = some y → W0.cell? ⟨b, o + i, none⟩ = some (.int .i64 y) := by
      obtain ⟨_, _, e, _, h⟩ := id HKD.out
      injection e with e1 e2 e3
      subst e1
      obtain ⟨b, o, e, _, hc⟩ := h (by rw [hks]; simp)
      exact ⟨b, o, e, hc⟩
     subst eak
     have hy0 := hkc 0 _ (by rw [hks]; rfl)
     have hz0 := hkc 1 _ (by rw [hks]; rfl)
     clear HSF HSK HKX HFO HCL HI9 HTD HED hkc
     have hkl1 : (1 : Int) < (n.kids.length : Int) := by rw [hks]; simp
     clear hks
     rw [hK] at d0
     go_wp2_with fail
     have h5 := HS5.out (.cells #[.int .i64 8, .int .i64 n.op, .string (bs n.name), .int .i64 n.num, .int .i64 n.far, .slice (some ⟨bk, ok, none⟩) n.kids.length ck, .slice at1 n.thn.length ct, .slice ae n.els.length ce] 88)
     have hA := heap_alloc_new wr (.cells #[.int .i64 8, .int .i64 n.op, .string (bs n.name), .int .i64 n.num, .int .i64 n.far, .slice (some ⟨bk, ok, none⟩) n.kids.length ck, .slice at1 n.thn.length ct, .slice ae n.els.length ce] 88)
     generalize hW5 : wr.alloc (.cells #[.int .i64 8, .int .i64 n.op, .string (bs n.name), .int .i64 n.num, .int .i64 n.far, .slice (some ⟨bk, ok, none⟩) n.kids.length ck, .slice at1 n.thn.length ct, .slice ae n.els.length ce] 88) = W5 at *
     clear hW5 HS5 d0 d1 d2 d3 d4 d5 d6 d7 q1 k0 k3 hcV
     have HS5 : Hid _ := h5
     have HA : Hid _ := hA
     have hz5 := blk_lt hA
     clear h5 hA
     refine (HTA.out true _ _ _ HS5.out.1 HS5.out.2.1).mono ?_
     rintro e w6 ⟨rfl, hc6, hs6⟩
     generalize targetF T.vars L n.name true (X : Int) (0, s2) = tg at *
     have n5 : w6.cell? ⟨wr.heap.size, 5, none⟩ = some (.slice (some ⟨bk, ok, none⟩) n.kids.length ck) := hs6.cell (p := ⟨wr.heap.size, 5, none⟩) hgk (cell_of_row _ _ 5 _ _ _ HA.out)
     have ky : w6.cell? ⟨bk, ok, none⟩ = some (.int .i64 (yn : Int)) := (hc6.bel.cell (p := ⟨bk, ok, none⟩) (World.block_lt_of_cell? _ _ hy0)).trans hy0
     have HC6 : Hid (Chk W0 w6 kp p aA V.length cA vl' tg.2 ∧ LoopO w6 B vl' L ∧ Duo kp vl vl' W w6) := ⟨hc6, HS5.out.2.1.sole hs6 (by omega), HS5.out.2.2.trans (hs6.duo _)⟩
     clear hc6 hs6 HTA HS5 HA hy0
     obtain ⟨t1, t2⟩ := tg
     go_wp2_with fail
     refine (HMU.out yn 1 _ _ _ hmy HC6.out.1).mono ?_
     rintro e w7 ⟨rfl, hc7, hs7⟩
     have n57 := hs7.cell (p := ⟨wr.heap.size, 5, none⟩) hgk n5
     have kz : w7.cell? ⟨bk, ok + 1, none⟩ = some (.int .i64 (zn : Int)) := (hc7.bel.cell (p := ⟨bk, ok + 1, none⟩) (World.block_lt_of_cell? _ _ hz0)).trans hz0
     have HC7 : Hid (Chk W0 w7 kp p aA V.length cA vl' (mustT V T.vars.length T.nodes (yn : Int) 1 t2) ∧ LoopO w7 B vl' L ∧ Duo kp vl vl' W w7) := ⟨hc7, HC6.out.2.1.sole hs7 (by omega), HC6.out.2.2.trans (hs7.duo _)⟩
     clear hc7 hs7 HC6 n5 ky hz0
     go_wp2_with fail
     refine (HMU.out zn t1 _ _ _ hmz HC7.out.1).mono ?_
     rintro e w8 ⟨rfl, hc8, hs8⟩
     have HC8 : Hid (Chk W0 w8 kp p aA V.length cA vl' (mustT V T.vars.length T.nodes (zn : Int) t1 (mustT V T.vars.length T.nodes (yn : Int) 1 t2)) ∧ LoopO w8 B vl' L ∧ Duo kp vl vl' W w8) := ⟨hc8, HC7.out.2.1.sole hs8 (by omega), HC7.out.2.2.trans (hs8.duo _)⟩
     clear hc8 hs8 HMU HC7 n57 kz
     go_wp2_with fail
     go_roundw
     case rel => exact ⟨k + 1, _, vl', by omega, by go_num, HR2, HC8⟩
     case measure => simp [intOf]; omega
    ·obtain ⟨y, hks⟩ := HSK.out.2.2 hK
     have hmy : (y : Int) ∈ n.kids := by rw [hks]; simp
     obtain ⟨_, h0y, _⟩ := HKX.out _ hmy
     obtain ⟨yn, rfl⟩ := Int.eq_ofNat_of_zero_le h0y
     clear h0y
     have HSV : Hid (stmtF (mustT V T.vars.length T.nodes) T.vars T.nodes (f + 1) L (X : Int) (0, s2) = goL (stmtF (mustT V T.vars.length T.nodes) T.vars T.nodes f L) n.els (goL (stmtF (mustT V T.vars.length T.nodes) T.vars T.nodes f L) n.thn (mustT V T.vars.length T.nodes (yn : Int) 2 (0, s2)))) := by unfold Hid; rw [HSF.out, if_neg (by omega), if_neg (by omega), if_pos hK, hks]; rfl
     have HR2 : Hid (R = goL (stmtF (mustT V T.vars.length T.nodes) T.vars T.nodes (f + 1) L) (list.drop (k + 1)) (goL (stmtF (mustT V T.vars.length T.nodes) T.vars T.nodes f L) n.els (goL (stmtF (mustT V T.vars.length T.nodes) T.vars T.nodes f L) n.thn (mustT V T.vars.length T.nodes (yn : Int) 2 (0, s2))))) := by unfold Hid; rw [HR1.out, HSV.out]
     clear HR1 HSV
     obtain ⟨bk, ok, eak, hkc⟩ : ∃ b o, ak = some ⟨b, o, none⟩ ∧ ∀ (i : Nat) (y : Int), n.kids[i]? = some y → W0.cell? ⟨b, o + i, none⟩ = some (.int .i64 y) := by
      obtain ⟨_, _, e, _, h⟩ := id HKD.out
      injection e with e1 e2 e3
      subst e1
      obtain ⟨b, o, e, _, hc⟩ := h (by rw [hks]; simp)
      exact ⟨b, o, e, hc⟩
     subst eak
     have hy0 := hkc 0 _ (by rw [hks]; rfl)
     have HI : Hid (ListC lo W0 kp p cA B aA T V f L n.thn ∧ ListC lo W0 kp p cA B aA T V f L n.els) := HI9.out hK
     have hkl1 : (0 : Int) < (n.kids.length : Int) := by rw [hks]; simp
     clear HSF HSK HKX HFO HCL HI9 HTA hkc
     have ky : wr.cell? ⟨bk, ok, none⟩ = some (.int .i64 (yn : Int)) := (HBW.out.cell (p := ⟨bk, ok, none⟩) (World.block_lt_of_cell? _ _ hy0)).trans hy0
     have hbkw : bk < wr.heap.size := World.block_lt_of_cell? _ _ ky
     clear hks
     rw [hK] at d0
     go_wp2_with fail
     have h5 := HS5.out (.cells #[.int .i64 9, .int .i64 n.op, .string (bs n.name), .int .i64 n.num, .int .i64 n.far, .slice (some ⟨bk, ok, none⟩) n.kids.length ck, .slice at1 n.thn.length ct, .slice ae n.els.length ce] 88)
     have hA := heap_alloc_new wr (.cells #[.int .i64 9, .int .i64 n.op, .string (bs n.name), .int .i64 n.num, .int .i64 n.far, .slice (some ⟨bk, ok, none⟩) n.kids.length ck, .slice at1 n.thn.length ct, .slice ae n.els.length ce] 88)
     generalize hW5 : wr.alloc (.cells #[.int .i64 9, .int .i64 n.op, .string (bs n.name), .int .i64 n.num, .int .i64 n.far, .slice (some ⟨bk, ok, none⟩) n.kids.length ck, .slice at1 n.thn.length ct, .slice ae n.els.length ce] 88) = W5 at *
     clear hW5 HS5 d0 d1 d2 d3 d4 d5 d6 d7 q1 k0 k3 hcV
     have HS5 : Hid _ := h5
     have HA : Hid _ := hA
     have hz5 := blk_lt hA
     clear h5 hA
     refine (HMU.out yn 2 _ _ _ hmy HS5.out.1).mono ?_
     rintro e w6 ⟨rfl, hc6, hs6⟩
     have hA6 := (hs6.rest wr.heap.size hz5 hgk).trans HA.out
     have n6 : w6.cell? ⟨wr.heap.size, 6, none⟩ = some (.slice at1 n.thn.length ct) := cell_of_row _ _ 6 _ _ _ hA6
     have HC6 : Hid (Chk W0 w6 kp p aA V.length cA vl' (mustT V T.vars.length T.nodes (yn : Int) 2 (0, s2)) ∧ LoopO w6 B vl' L ∧ Duo kp vl vl' W w6) := ⟨hc6, HS5.out.2.1.sole hs6 (by omega), HS5.out.2.2.trans (hs6.duo _)⟩
     have HA6 : Hid _ := hA6
     have hz6 := blk_lt hA6
     clear hc6 hs6 HS5 HA hy0 hA6 ky HMU
     generalize mustT V T.vars.length T.nodes (yn : Int) 2 (0, s2) = st6 at *
     go_wp2_with fail
     refine (HI.out.1 _ _ _ _ HC6.out.1 HC6.out.2.1 HTD.out).mono ?_
     rintro e w7 ⟨rfl, vl7, hc7, hl7, hd7⟩
     have n7 : w7.cell? ⟨wr.heap.size, 7, none⟩ = some (.slice ae n.els.length ce) := hd7.cell (p := ⟨wr.heap.size, 7, none⟩) hgk hgv (cell_of_row _ _ 7 _ _ _ HA6.out)
     have HC7 : Hid (Chk W0 w7 kp p aA V.length cA vl7 (goL (stmtF (mustT V T.vars.length T.nodes) T.vars T.nodes f L) n.thn st6) ∧ LoopO w7 B vl7 L ∧ Duo kp vl vl7 W w7) := ⟨hc7, hl7, HC6.out.2.2.trans hd7⟩
     clear hc7 hl7 hd7 HC6 HA6 n6
     generalize goL (stmtF (mustT V T.vars.length T.nodes) T.vars T.nodes f L) n.thn st6 = st7 at *
     go_wp2_with fail
     refine (HI.out.2 _ _ _ _ HC7.out.1 HC7.out.2.1 HED.out).mono ?_
     rintro e w8 ⟨rfl, vl8, hc8, hl8, hd8⟩
     have HC8 : Hid (Chk W0 w8 kp p aA V.length cA vl8 (goL (stmtF (mustT V T.vars.length T.nodes) T.vars T.nodes f L) n.els st7) ∧ LoopO w8 B vl8 L ∧ Duo kp vl vl8 W w8) := ⟨hc8, hl8, HC7.out.2.2.trans hd8⟩
     clear hc8 hl8 hd8 HC7 n7 HI
     go_wp2_with fail
     go_roundw
     case rel => exact ⟨k + 1, _, vl8, by omega, by go_num, HR2, HC8⟩
     case measure => simp [intOf]; omega
    ·have HSV : Hid (stmtF (mustT V T.vars.length T.nodes) T.vars T.nodes (f + 1) L (X : Int) (0, s2) = goL (stmtF (mustT V T.vars.length T.nodes) T.vars T.nodes f (L ++ [n.name])) n.thn (forF T.vars L n (X : Int) (0, s2))) := by unfold Hid; rw [HSF.out, if_neg (by omega), if_neg (by omega), if_neg (by omega), if_pos hK]
     have HR2 : Hid (R = goL (stmtF (mustT V T.vars.length T.nodes) T.vars T.nodes (f + 1) L) (list.drop (k + 1)) (goL (stmtF (mustT V T.vars.length T.nodes) T.vars T.nodes f (L ++ [n.name])) n.thn (forF T.vars L n (X : Int) (0, s2)))) := by unfold Hid; rw [HR1.out, HSV.out]
     clear HR1 HSV
     clear HSF HSK HKX HCL HI9 HTA HMU
     rw [hK] at d0
     go_wp2_with fail
     have h5 := HS5.out (.cells #[.int .i64 10, .int .i64 n.op, .string (bs n.name), .int .i64 n.num, .int .i64 n.far, .slice ak n.kids.length ck, .slice at1 n.thn.length ct, .slice ae n.els.length ce] 88)
     have hA := heap_alloc_new wr (.cells #[.int .i64 10, .int .i64 n.op, .string (bs n.name), .int .i64 n.num, .int .i64 n.far, .slice ak n.kids.length ck, .slice at1 n.thn.length ct, .slice ae n.els.length ce] 88)
     generalize hW5 : wr.alloc (.cells #[.int .i64 10, .int .i64 n.op, .string (bs n.name), .int .i64 n.num, .int .i64 n.far, .slice ak n.kids.length ck, .slice at1 n.thn.length ct, .slice ae n.els.length ce] 88) = W5 at *
     clear hW5 HS5 d0 d1 d2 d3 d4 d5 d6 d7 q1 k0 k3 hcV
     have HS5 : Hid _ := h5
     have HA : Hid _ := hA
     have hz5 := blk_lt hA
     clear h5 hA
     refine (HFO.out hK _ _ _ HS5.out.1 HS5.out.2.1).mono ?_
     rintro e w8 ⟨rfl, vl8, hc8, hl8, hd8⟩
     have HC8 : Hid (Chk W0 w8 kp p aA V.length cA vl8 (goL (stmtF (mustT V T.vars.length T.nodes) T.vars T.nodes f (L ++ [n.name])) n.thn (forF T.vars L n (X : Int) (0, s2))) ∧ LoopO w8 B vl8 L ∧ Duo kp vl vl8 W w8) := ⟨hc8, hl8, HS5.out.2.2.trans hd8⟩
     clear hc8 hl8 hd8 HS5 HA HFO
     go_wp2_with fail
     go_roundw
     case rel => exact ⟨k + 1, _, vl8, by omega, by go_num, HR2, HC8⟩
     case measure => simp [intOf]; omega
    ·have HSV : Hid (stmtF (mustT V T.vars.length T.nodes) T.vars T.nodes (f + 1) L (X : Int) (0, s2) = callF (mustT V T.vars.length T.nodes) L n (X : Int) (0, s2)) := by unfold Hid; rw [HSF.out, if_neg (by omega), if_neg (by omega), if_neg (by omega), if_neg (by omega), if_pos hK]
     have HR2 : Hid (R = goL (stmtF (mustT V T.vars.length T.nodes) T.vars T.nodes (f + 1) L) (list.drop (k + 1)) (callF (mustT V T.vars.length T.nodes) L n (X : Int) (0, s2))) := by unfold Hid; rw [HR1.out, HSV.out]
     clear HR1 HSV
     clear HSF HSK HKX HFO HI9 HTA HMU
     rw [hK] at d0
     go_wp2_with fail
     have h5 := HS5.out (.cells #[.int .i64 11, .int .i64 n.op, .string (bs n.name), .int .i64 n.num, .int .i64 n.far, .slice ak n.kids.length ck, .slice at1 n.thn.length ct, .slice ae n.els.length ce] 88)
     have hA := heap_alloc_new wr (.cells #[.int .i64 11, .int .i64 n.op, .string (bs n.name), .int .i64 n.num, .int .i64 n.far, .slice ak n.kids.length ck, .slice at1 n.thn.length ct, .slice ae n.els.length ce] 88)
     generalize hW5 : wr.alloc (.cells #[.int .i64 11, .int .i64 n.op, .string (bs n.name), .int .i64 n.num, .int .i64 n.far, .slice ak n.kids.length ck, .slice at1 n.thn.length ct, .slice ae n.els.length ce] 88) = W5 at *
     clear hW5 HS5 d0 d1 d2 d3 d4 d5 d6 d7 q1 k0 k3 hcV
     have HS5 : Hid _ := h5
     have HA : Hid _ := hA
     have hz5 := blk_lt hA
     clear h5 hA
     refine (HCL.out hK _ _ _ HS5.out.1 HS5.out.2.1).mono ?_
     rintro e w8 ⟨rfl, hc8, hs8⟩
     have HC8 : Hid (Chk W0 w8 kp p aA V.length cA vl' (callF (mustT V T.vars.length T.nodes) L n (X : Int) (0, s2)) ∧ LoopO w8 B vl' L ∧ Duo kp vl vl' W w8) := ⟨hc8, HS5.out.2.1.sole hs8 (by omega), HS5.out.2.2.trans (hs8.duo _)⟩
     clear hc8 hs8 HS5 HA HCL
     go_wp2_with fail
     go_roundw
     case rel => exact ⟨k + 1, _, vl', by omega, by go_num, HR2, HC8⟩
     case measure => simp [intOf]; omega
   ·have hz1 : (s1 == 0) = false := by simpa using hz
    have hz2 : decide (s1 = 0) = false := decide_eq_false hz
    have HR2 : Hid (R = (s1, s2)) := by unfold Hid; rw [HR.out, goL_met hz]
    have hk0 : (0 : Int) ≤ (k : Int) := by omega
    have hk1 : (k : Int) < (list.length : Int) := by omega
    clear HR HS HIH HV HE HX hz
    go_wp2_with fail
    go_end0
    exact ⟨rfl, vl', by rw [HR2.out]; exact HST.out.1, HST.out.2.1, HST.out.2.2⟩
  ·have hke : k = list.length := by omega
   have HR2 : Hid (R = (s1, s2)) := by unfold Hid; rw [HR.out, hke, List.drop_length]; rfl
   clear HR HS HIH HV HE HX hke
   go_wp2_with fail
   go_end0
   exact ⟨rfl, vl', by rw [HR2.out]; exact HST.out.1, HST.out.2.1, HST.out.2.2⟩
theorem l5List_all (lo : Nat) (W0 : World) (kp p cA B : Nat) (vv vn vb : Value) (aA : Option Addr) (T : LTree) (V : List LVar) (hE : ChkE lo W0 p kp vv vn vb aA T V) (hX : Kin T.nodes) (hK : Stk T) (hS : Sized 1048576 T) (hB : B = kp + 1) :
  ∀ (f : Nat), f ≤ T.nodes.length → ∀ (L : List (List UInt8)) (list : List Int), L.length + f ≤ 999 → list.length ≤ 1048576 → (∀ x ∈ list, (0 ≤ x ∧ x < (f : Int)) ∧ (7 ≤ (nodeOf T.nodes x).kind ∧ (nodeOf T.nodes x).kind ≤ 11)) → ListC lo W0 kp p cA B aA T V f L list := by
 intro f
 induction f with
 | zero =>
  intro _ L list _ hll hs
  have hn : list = [] := by
   cases list with
   | nil => rfl
   | cons x r => have := (hs x (by simp)).1; omega
  subst hn
  intro W vk vl st hC hL hV
  have := l5List_step lo W0 kp p cA B 0 vv vn vb aA T V L [] hE hX hB (by omega) (by simp) (fun x hx => by cases hx) (fun x hx => by cases hx) W vk vl st hC hL hV
  exact this
 | succ f ih =>
  intro hf L list hLf hll hs
  refine l5List_step lo W0 kp p cA B f vv vn vb aA T V L list hE hX hB (by omega) hll (fun x hx => ⟨⟨(hs x hx).1.1, by have := (hs x hx).1.2; omega⟩, (hs x hx).2⟩) (fun x hx => ?_)
  have h1 := (hs x hx).1
  obtain ⟨j, rfl⟩ : ∃ j : Nat, x = j := ⟨x.toNat, by omega⟩
  have hj : j < T.nodes.length := by omega
  have hg := hE.good.node j _ (node_get hj)
  have hk := hK j _ (node_get hj)
  have hsz := hS.node _ (List.mem_of_getElem? (node_get hj))
  refine ⟨fun _ => ⟨ih (by omega) L _ (by omega) hsz.2.2.1 (fun y hy => ⟨⟨(hg.2.2.1 y hy).1, by have := (hg.2.2.1 y hy).2; omega⟩, hk.1 y hy⟩), ih (by omega) L _ (by omega) hsz.2.2.2 (fun y hy => ⟨⟨(hg.2.2.2 y hy).1, by have := (hg.2.2.2 y hy).2; omega⟩, hk.2 y hy⟩)⟩, fun _ => ih (by omega) _ _ (by simp; omega) hsz.2.2.1 (fun y hy => ⟨⟨(hg.2.2.1 y hy).1, by have := (hg.2.2.1 y hy).2; omega⟩, hk.1 y hy⟩)⟩
end Go.Proofs.YteeklmgkhacbcaaGreatDoor
