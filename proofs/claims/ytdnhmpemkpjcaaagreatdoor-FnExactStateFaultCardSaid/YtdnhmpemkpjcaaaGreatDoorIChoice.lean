/-
  (*impl.checker).choice, loop: from a contract of statements.
-/
import Derived.Test.YtdnhmpemkpjcaaaGreatDoorSCall
import Derived.Test.YtdnhmpemkpjcaaaGreatDoorTyBr
import Derived.Test.YtdnhmpemkpjcaaaGreatDoorIVars
namespace Go.Proofs.YtdnhmpemkpjcaaaGreatDoor
open Go.RowKit
set_option linter.unusedVariables false
attribute [local go_sem] bs_size bs_get bs_extract bs_append bs_eq bs_toList
theorem len_two {l : List Int} (h : l.length = 2) : ∃ y z, l = [y, z] := by
 match l, h with
 | [a, b], _ => exact ⟨a, b, rfl⟩
theorem stat_kids {n : LNode} (h : ownB n = true) : (n.kind = 7 → ∃ y, n.kids = [y]) ∧ (n.kind = 8 → ∃ y z, n.kids = [y, z]) ∧ (n.kind = 9 → ∃ y, n.kids = [y]) := by
 unfold ownB at h
 simp only [Bool.and_eq_true] at h
 obtain ⟨⟨⟨⟨⟨⟨⟨_, _⟩, _⟩, hl⟩, _⟩, _⟩, _⟩, _⟩ := h.1
 refine ⟨fun e => ?_, fun e => ?_, fun e => ?_⟩ <;> rw [e] at hl <;> simp [wantsN] at hl
 ·exact List.length_eq_one_iff.1 (by omega)
 ·exact len_two (by omega)
 ·exact List.length_eq_one_iff.1 (by omega)
def Stk (T : LTree) : Prop := ∀ (k : Nat) (n : LNode), T.nodes[k]? = some n → (∀ x ∈ n.thn, 7 ≤ (nodeOf T.nodes x).kind ∧ (nodeOf T.nodes x).kind ≤ 11) ∧ (∀ x ∈ n.els, 7 ≤ (nodeOf T.nodes x).kind ∧ (nodeOf T.nodes x).kind ≤ 11)
theorem refs_stat {T : LTree} (hG : Good T) {m : Nat} (hm : m ≤ T.nodes.length) {l : List Int} (h : refsB T.nodes m l false = true) : ∀ x ∈ l, 7 ≤ (nodeOf T.nodes x).kind ∧ (nodeOf T.nodes x).kind ≤ 11 := fun x hx => by
 have h1 := List.all_eq_true.1 h x hx
 unfold refB at h1
 simp only [Bool.and_eq_true] at h1
 have hb := inB_iff.1 h1.1
 obtain ⟨j, rfl⟩ : ∃ j : Nat, x = j := ⟨x.toNat, by omega⟩
 have hk := (own_nums (hG.node j _ (node_get (by omega))).1).2.2
 have h2 : exprN (nodeOf T.nodes (j : Int)) = false := by
  have h3 := h1.2
  unfold nodeOf
  revert h3
  cases exprN (T.nodes.getD ((j : Int)).toNat default) <;> simp
 unfold exprN at h2
 have := inB_no.1 h2
 omega
theorem stk_of {T : LTree} (h : faultL T = 0) : Stk T := fun k n hk => by
 obtain ⟨_, _, _, h4, _⟩ := fault_zero h
 have hr := right_at h4 hk
 have hlt := (List.getElem?_eq_some_iff.1 hk).1
 exact ⟨refs_stat (good_of h) (by omega) hr.2.2.1, refs_stat (good_of h) (by omega) hr.2.2.2⟩
theorem body_stat {T : LTree} (h : faultL T = 0) : ∀ x ∈ T.body, 7 ≤ (nodeOf T.nodes x).kind ∧ (nodeOf T.nodes x).kind ≤ 11 := by
 obtain ⟨_, _, _, _, h5⟩ := fault_zero h
 exact refs_stat (good_of h) (Nat.le_refl _) h5
theorem goL_met {s : Int → Met → Met} {l : List Int} {st : Met} (h : st.1 ≠ 0) : goL s l st = st := by
 cases l with
 | nil => rfl
 | cons x r => unfold goL; rw [if_neg h]
theorem goL_step {s : Int → Met → Met} {l : List Int} {k : Nat} {x m : Int} (h : l[k]? = some x) : goL s (l.drop k) (0, m) = goL s (l.drop (k + 1)) (s x (0, m)) := by
 obtain ⟨hk, rfl⟩ := List.getElem?_eq_some_iff.1 h
 rw [List.drop_eq_getElem_cons hk, goL, if_pos rfl]
set_option maxHeartbeats 12800000 in
set_option maxRecDepth 100000 in
theorem l5List_step (lo : Nat) (W0 : World) (kp p cA B f : Nat) (vv vn vb : Value) (aA : Option Addr) (T : LTree) (V : List LVar) (L : List (List UInt8)) (list : List Int) (hE : ChkE lo W0 p kp vv vn vb aA T V) (hX : Kin T.nodes) (hB : B = kp + 1) (hLl : L.length ≤ 999) (hll : list.length ≤ 1048576)
  (hs : ∀ x ∈ list, (0 ≤ x ∧ x < (T.nodes.length : Int)) ∧ (7 ≤ (nodeOf T.nodes x).kind ∧ (nodeOf T.nodes x).kind ≤ 11))
  (IH : ∀ x ∈ list, ((nodeOf T.nodes x).kind = 9 → ListC lo W0 kp p cA B aA T V f L (nodeOf T.nodes x).thn ∧ ListC lo W0 kp p cA B aA T V f L (nodeOf T.nodes x).els) ∧ ((nodeOf T.nodes x).kind = 10 → ListC lo W0 kp p cA B aA T V f (L ++ [(nodeOf T.nodes x).name]) (nodeOf T.nodes x).thn)) :
  ListC lo W0 kp p cA B aA T V (f + 1) L list := by
 intro W vk vl st hC hL hV
 obtain ⟨aV, cV, evV, _⟩ := id hV
 subst evV
 have HV : Hid (IntsV lo W0 (.slice aV list.length cV) list) := hV
 have HE : Hid (ChkE lo W0 p kp vv vn vb aA T V) := hE
 have HS : Hid (∀ x ∈ list, (0 ≤ x ∧ x < (T.nodes.length : Int)) ∧ (7 ≤ (nodeOf T.nodes x).kind ∧ (nodeOf T.nodes x).kind ≤ 11)) := hs
 have HIH : Hid (∀ x ∈ list, ((nodeOf T.nodes x).kind = 9 → ListC lo W0 kp p cA B aA T V f L (nodeOf T.nodes x).thn ∧ ListC lo W0 kp p cA B aA T V f L (nodeOf T.nodes x).els) ∧ ((nodeOf T.nodes x).kind = 10 → ListC lo W0 kp p cA B aA T V f (L ++ [(nodeOf T.nodes x).name]) (nodeOf T.nodes x).thn)) := IH
 have HX : Hid (Kin T.nodes) := hX
 have hlow := hE.low
 have hnl := hE.good.nodes
 have hkW := blk_lt hC.row
 obtain ⟨R, hR⟩ : ∃ R, R = goL (stmtF (mustT V T.vars.length T.nodes) T.vars T.nodes (f + 1) L) list st := ⟨_, rfl⟩
 rw [← hR]
 have HR : Hid (R = goL (stmtF (mustT V T.vars.length T.nodes) T.vars T.nodes (f + 1) L) (list.drop 0) st) := hR
 have HST : Hid (Chk W0 W kp p aA V.length cA vl st ∧ LoopO W B vl L ∧ Duo kp vl vl W W) := ⟨hC, hL, Duo.refl _ _ _⟩
 clear hC hL hV hE hs IH hX hR
 go_enter Tryz.func136, Tryz.ntmps136
 go_wp2_with fail
 go_loopw [4] (fun i wr => ∃ (k : Nat) (s : Met) (vl' : Value), k ≤ list.length ∧ i = .int .i64 k ∧ Hid (R = goL (stmtF (mustT V T.vars.length T.nodes) T.vars T.nodes (f + 1) L) (list.drop k) s) ∧ Hid (Chk W0 wr kp p aA V.length cA vl' s ∧ LoopO wr B vl' L ∧ Duo kp vl vl' W wr)) (fun i _ => list.length - (intOf i).toNat)
 case atStart => exact ⟨0, st, vl, Nat.zero_le _, rfl, HR, HST⟩
 case round =>
  clear HR HST
  obtain ⟨k, ⟨s1, s2⟩, vl', hkl, rfl, HR, HST⟩ := hrel
  have k3 : wr.cell? ⟨kp, 3, none⟩ = some (.int .i64 s1) := by have := cell_of_row _ _ 3 _ _ _ HST.out.1.row; simpa using this
  by_cases hlt : k < list.length
  ·by_cases hz : s1 = 0
   ·subst hz
    obtain ⟨x, hx⟩ : ∃ x, list[k]? = some x := ⟨_, List.getElem?_eq_getElem hlt⟩
    have hxm := List.mem_of_getElem? hx
    obtain ⟨⟨hx0, hx1⟩, hk7, hk11⟩ := HS.out x hxm
    obtain ⟨X, rfl⟩ := Int.eq_ofNat_of_zero_le hx0
    have hXl : X < T.nodes.length := by omega
    have HR1 : Hid (R = goL (stmtF (mustT V T.vars.length T.nodes) T.vars T.nodes (f + 1) L) (list.drop (k + 1)) (stmtF (mustT V T.vars.length T.nodes) T.vars T.nodes (f + 1) L (X : Int) (0, s2))) := by unfold Hid; rw [HR.out]; exact goL_step hx
    obtain ⟨bV, oV, eaV, hcV⟩ : ∃ b o, aV = some ⟨b, o, none⟩ ∧ wr.cell? ⟨b, o + k, none⟩ = some (.int .i64 (X : Int)) := by
     obtain ⟨_, _, e, _, h⟩ := HV.out.below HST.out.1.bel
     injection e with e1 e2 e3
     subst e1
     obtain ⟨b, o, e, _, hc⟩ := h (by intro e; rw [e] at hlt; simp at hlt)
     exact ⟨b, o, e, hc k _ hx⟩
    subst eaV
    have hown := (HE.out.good.node X _ (node_get hXl)).1
    have HSK : Hid (((nodeOf T.nodes (X : Int)).kind = 7 → ∃ y, (nodeOf T.nodes (X : Int)).kids = [y]) ∧ ((nodeOf T.nodes (X : Int)).kind = 8 → ∃ y z, (nodeOf T.nodes (X : Int)).kids = [y, z]) ∧ ((nodeOf T.nodes (X : Int)).kind = 9 → ∃ y, (nodeOf T.nodes (X : Int)).kids = [y])) := stat_kids hown
    have HKX : Hid (∀ y ∈ (nodeOf T.nodes (X : Int)).kids, exprN (nodeOf T.nodes y) = true ∧ 0 ≤ y ∧ y < (T.nodes.length : Int)) := fun y hy => ⟨HX.out X _ (node_get hXl) y hy, ((HE.out.good.node X _ (node_get hXl)).2.1 y hy).1, by have := ((HE.out.good.node X _ (node_get hXl)).2.1 y hy).2; omega⟩
    have HMU : Hid (∀ (y : Nat) (t : Int) (v9 : Value) (s : Met) (W' : World), (y : Int) ∈ (nodeOf T.nodes (X : Int)).kids → Chk W0 W' kp p aA V.length cA v9 s → Calls Tryz.prog 127 #[.pointer (some ⟨kp, 0, none⟩), .int .i64 (y : Int), .int .i64 t] W' fun e w' => e = .returned (.tuple #[]) ∧ Chk W0 w' kp p aA V.length cA v9 (mustT V T.vars.length T.nodes (y : Int) t s) ∧ Sole kp W' w') := fun y t v9 s W' hy h => by
     have h3 := HKX.out _ hy
     exact l5Must_all lo W0 W' kp p cA vv vn vb aA T V _ s y t HE.out HX.out h (by omega) h3.1
    have HTA : Hid (∀ (row : Bool) (v9 : Value) (s : Met) (W' : World), Chk W0 W' kp p aA V.length cA v9 s → LoopO W' B v9 L → Calls Tryz.prog 179 #[.pointer (some ⟨kp, 0, none⟩), .int .i64 (X : Int), .bool row] W' fun e w' => e = .returned (.int .i64 (targetF T.vars L (nodeOf T.nodes (X : Int)).name row (X : Int) s).1) ∧ Chk W0 w' kp p aA V.length cA v9 (targetF T.vars L (nodeOf T.nodes (X : Int)).name row (X : Int) s).2 ∧ Sole kp W' w') := fun row v9 s W' h h2 => l5Target_any lo W0 W' kp p cA B vv vn vb aA T V v9 s L X row HE.out h h2 (by omega) (by omega) hXl
    have HFO : Hid ((nodeOf T.nodes (X : Int)).kind = 10 → ∀ (v9 : Value) (s : Met) (W' : World), Chk W0 W' kp p aA V.length cA v9 s → LoopO W' B v9 L → Calls Tryz.prog 180 #[.pointer (some ⟨kp, 0, none⟩), .int .i64 (X : Int)] W' fun e w' => e = .returned (.tuple #[]) ∧ ∃ vl', Chk W0 w' kp p aA V.length cA vl' (goL (stmtF (mustT V T.vars.length T.nodes) T.vars T.nodes f (L ++ [(nodeOf T.nodes (X : Int)).name])) (nodeOf T.nodes (X : Int)).thn (forF T.vars L (nodeOf T.nodes (X : Int)) (X : Int) s)) ∧ LoopO w' B vl' L ∧ Duo kp v9 vl' W' w') := fun hk v9 s W' h h2 => l5For_any lo W0 W' kp p cA B f vv vn vb aA T V v9 s L X HE.out h h2 hB (by omega) hXl hk ((HIH.out _ hxm).2 hk)
    have HCL : Hid ((nodeOf T.nodes (X : Int)).kind = 11 → ∀ (v9 : Value) (s : Met) (W' : World), Chk W0 W' kp p aA V.length cA v9 s → LoopO W' B v9 L → Calls Tryz.prog 181 #[.pointer (some ⟨kp, 0, none⟩), .int .i64 (X : Int)] W' fun e w' => e = .returned (.tuple #[]) ∧ Chk W0 w' kp p aA V.length cA v9 (callF (mustT V T.vars.length T.nodes) L (nodeOf T.nodes (X : Int)) (X : Int) s) ∧ Sole kp W' w') := fun hk v9 s W' h h2 => l5Call_any lo W0 W' kp p cA B vv vn vb aA T V v9 s L X HE.out h h2 (by omega) hXl HX.out hk
    have HI9 : Hid ((nodeOf T.nodes (X : Int)).kind = 9 → ListC lo W0 kp p cA B aA T V f L (nodeOf T.nodes (X : Int)).thn ∧ ListC lo W0 kp p cA B aA T V f L (nodeOf T.nodes (X : Int)).els) := (HIH.out _ hxm).1
    have HSF : Hid (stmtF (mustT V T.vars.length T.nodes) T.vars T.nodes (f + 1) L (X : Int) (0, s2) = if (nodeOf T.nodes (X : Int)).kind = 7 then mustT V T.vars.length T.nodes ((nodeOf T.nodes (X : Int)).kids.getD 0 0) (targetF T.vars L (nodeOf T.nodes (X : Int)).name false (X : Int) (0, s2)).1 (targetF T.vars L (nodeOf T.nodes (X : Int)).name false (X : Int) (0, s2)).2
     else if (nodeOf T.nodes (X : Int)).kind = 8 then mustT V T.vars.length T.nodes ((nodeOf T.nodes (X : Int)).kids.getD 1 0) (targetF T.vars L (nodeOf T.nodes (X : Int)).name true (X : Int) (0, s2)).1 (mustT V T.vars.length T.nodes ((nodeOf T.nodes (X : Int)).kids.getD 0 0) 1 (targetF T.vars L (nodeOf T.nodes (X : Int)).name true (X : Int) (0, s2)).2)
     else if (nodeOf T.nodes (X : Int)).kind = 9 then goL (stmtF (mustT V T.vars.length T.nodes) T.vars T.nodes f L) (nodeOf T.nodes (X : Int)).els (goL (stmtF (mustT V T.vars.length T.nodes) T.vars T.nodes f L) (nodeOf T.nodes (X : Int)).thn (mustT V T.vars.length T.nodes ((nodeOf T.nodes (X : Int)).kids.getD 0 0) 2 (0, s2)))
     else if (nodeOf T.nodes (X : Int)).kind = 10 then goL (stmtF (mustT V T.vars.length T.nodes) T.vars T.nodes f (L ++ [(nodeOf T.nodes (X : Int)).name])) (nodeOf T.nodes (X : Int)).thn (forF T.vars L (nodeOf T.nodes (X : Int)) (X : Int) (0, s2))
     else if (nodeOf T.nodes (X : Int)).kind = 11 then callF (mustT V T.vars.length T.nodes) L (nodeOf T.nodes (X : Int)) (X : Int) (0, s2)
     else (0, s2)) := by unfold Hid; rfl
    obtain ⟨bn, on, cn, evn, q1, vk, vt, ve, hnc, hkd, htd, hed⟩ := HE.out.node3 HST.out.1.bel X hXl
    obtain ⟨ak, ck, evk, _⟩ := id hkd
    obtain ⟨at1, ct, evt, _⟩ := id htd
    obtain ⟨ae, ce, eve, _⟩ := id hed
    subst evk; subst evt; subst eve
    have HKD : Hid (IntsV lo W0 (.slice ak (nodeOf T.nodes (X : Int)).kids.length ck) (nodeOf T.nodes (X : Int)).kids) := hkd
    have HTD : Hid (IntsV lo W0 (.slice at1 (nodeOf T.nodes (X : Int)).thn.length ct) (nodeOf T.nodes (X : Int)).thn) := htd
    have HED : Hid (IntsV lo W0 (.slice ae (nodeOf T.nodes (X : Int)).els.length ce) (nodeOf T.nodes (X : Int)).els) := hed
    have k0 : wr.cell? ⟨kp, 0, none⟩ = some (.pointer (some ⟨p, 0, none⟩)) := by have := cell_of_row _ _ 0 _ _ _ HST.out.1.row; simpa using this
    rw [evn] at q1
    have hgv : vl'.ownBlock ≠ some wr.heap.size := fun e => by have := (World.ownsRow.lt HST.out.2.1 _ e).2; omega
    have hgk : wr.heap.size ≠ kp := by have := blk_lt HST.out.1.row; omega
    have hX0 : (0 : Int) ≤ (X : Int) := by omega
    have hX1 : (X : Int) < (T.nodes.length : Int) := by omega
    have hk0 : (0 : Int) ≤ (k : Int) := by omega
    have hk1 : (k : Int) < (list.length : Int) := by omega
    have HBW : Hid (Below W0.heap.size W0 wr) := HST.out.1.bel
    have HS5 : Hid (∀ o, Chk W0 (wr.alloc o) kp p aA V.length cA vl' (0, s2) ∧ LoopO (wr.alloc o) B vl' L ∧ Duo kp vl vl' W (wr.alloc o)) := fun o =>
     have hb : Below wr.heap.size wr (wr.alloc o) := (Below.refl _ _).alloc (Nat.le_refl _) _
     ⟨HST.out.1.below hb, HST.out.2.1.sole (kp := kp) hb.sole (by omega), HST.out.2.2.trans (hb.sole.duo _)⟩
    clear HR HS HIH HV hx hxm hkd htd hed hown evn HST hx0 hx1
    obtain ⟨n, hn⟩ : ∃ n, n = nodeOf T.nodes (X : Int) := ⟨_, rfl⟩
    rw [← hn] at HSF HSK HKX HMU HTA HFO HCL HI9 HKD HTD HED hnc hk7 hk11
    clear hn HE HX
    obtain ⟨d0, d1, d2, d3, d4, d5, d6, d7⟩ := hnc
    have hcs : n.kind = 7 ∨ n.kind = 8 ∨ n.kind = 9 ∨ n.kind = 10 ∨ n.kind = 11 := by omega
    clear hk7 hk11
    rcases hcs with hK | hK | hK | hK | hK
    ·obtain ⟨y, hks⟩ := HSK.out.1 hK
     have hmy : (y : Int) ∈ n.kids := by rw [hks]; simp
     obtain ⟨_, h0y, _⟩ := HKX.out _ hmy
     obtain ⟨yn, rfl⟩ := Int.eq_ofNat_of_zero_le h0y
     clear h0y
     have HSV : Hid (stmtF (mustT V T.vars.length T.nodes) T.vars T.nodes (f + 1) L (X : Int) (0, s2) = mustT V T.vars.length T.nodes (yn : Int) (targetF T.vars L n.name false (X : Int) (0, s2)).1 (targetF T.vars L n.name false (X : Int) (0, s2)).2) := by unfold Hid; rw [HSF.out, if_pos hK, hks]; rfl
     have HR2 : Hid (R = goL (stmtF (mustT V T.vars.length T.nodes) T.vars T.nodes (f + 1) L) (list.drop (k + 1)) (mustT V T.vars.length T.nodes (yn : Int) (targetF T.vars L n.name false (X : Int) (0, s2)).1 (targetF T.vars L n.name false (X : Int) (0, s2)).2)) := by unfold Hid; rw [HR1.out, HSV.out]
     clear HR1 HSV
     obtain ⟨bk, ok, eak, hkc⟩ : ∃ b o, ak = some ⟨b, o, none⟩ ∧ ∀ (i : Nat) (y : Int), n.kids[i]? = some y → W0.cell? ⟨b, o + i, none⟩ = some (.int .i64 y) := by
      obtain ⟨_, _, e, _, h⟩ := id HKD.out
      injection e with e1 e2 e3
      subst e1
      obtain ⟨b, o, e, _, hc⟩ := h (by rw [hks]; simp)
      exact ⟨b, o, e, hc⟩
     subst eak
     have hy0 := hkc 0 _ (by rw [hks]; rfl)
     clear HSF HSK HKX HFO HCL HI9 HTD HED hkc
     have hkl1 : (0 : Int) < (n.kids.length : Int) := by rw [hks]; simp
     clear hks
     rw [hK] at d0
     go_wp2_with fail
     have h5 := HS5.out (.cells #[.int .i64 7, .int .i64 n.op, .string (bs n.name), .int .i64 n.num, .int .i64 n.far, .slice (some ⟨bk, ok, none⟩) n.kids.length ck, .slice at1 n.thn.length ct, .slice ae n.els.length ce] 111)
     have hA := heap_alloc_new wr (.cells #[.int .i64 7, .int .i64 n.op, .string (bs n.name), .int .i64 n.num, .int .i64 n.far, .slice (some ⟨bk, ok, none⟩) n.kids.length ck, .slice at1 n.thn.length ct, .slice ae n.els.length ce] 111)
     generalize hW5 : wr.alloc (.cells #[.int .i64 7, .int .i64 n.op, .string (bs n.name), .int .i64 n.num, .int .i64 n.far, .slice (some ⟨bk, ok, none⟩) n.kids.length ck, .slice at1 n.thn.length ct, .slice ae n.els.length ce] 111) = W5 at *
     clear hW5 HS5 d0 d1 d2 d3 d4 d5 d6 d7 q1 k0 k3 hcV
     have HS5 : Hid _ := h5
     have HA : Hid _ := hA
     have hz5 := blk_lt hA
     clear h5 hA
     refine (HTA.out false _ _ _ HS5.out.1 HS5.out.2.1).mono ?_
     rintro e w6 ⟨rfl, hc6, hs6⟩
     generalize targetF T.vars L n.name false (X : Int) (0, s2) = tg at *
     have n5 : w6.cell? ⟨wr.heap.size, 5, none⟩ = some (.slice (some ⟨bk, ok, none⟩) n.kids.length ck) := hs6.cell (p := ⟨wr.heap.size, 5, none⟩) hgk (cell_of_row _ _ 5 _ _ _ HA.out)
     have ky : w6.cell? ⟨bk, ok, none⟩ = some (.int .i64 (yn : Int)) := (hc6.bel.cell (p := ⟨bk, ok, none⟩) (World.block_lt_of_cell? _ _ hy0)).trans hy0
     have HC6 : Hid (Chk W0 w6 kp p aA V.length cA vl' tg.2 ∧ LoopO w6 B vl' L ∧ Duo kp vl vl' W w6) := ⟨hc6, HS5.out.2.1.sole hs6 (by omega), HS5.out.2.2.trans (hs6.duo _)⟩
     clear hc6 hs6 HTA HS5 HA hy0
     obtain ⟨t1, t2⟩ := tg
     go_wp2_with fail
     refine (HMU.out yn t1 _ _ _ hmy HC6.out.1).mono ?_
     rintro e w7 ⟨rfl, hc7, hs7⟩
     have HC7 : Hid (Chk W0 w7 kp p aA V.length cA vl' (mustT V T.vars.length T.nodes (yn : Int) t1 t2) ∧ LoopO w7 B vl' L ∧ Duo kp vl vl' W w7) := ⟨hc7, HC6.out.2.1.sole hs7 (by omega), HC6.out.2.2.trans (hs7.duo _)⟩
     clear hc7 hs7 HMU HC6 n5 ky
     go_wp2_with fail
     go_roundw
     case rel => exact ⟨k + 1, _, vl', by omega, by go_num, HR2, HC7⟩
     case measure => simp [intOf]; omega
    ·obtain ⟨y, z, hks⟩ := HSK.out.2.1 hK
     have hmy : (y : Int) ∈ n.kids := by rw [hks]; simp
     obtain ⟨_, h0y, _⟩ := HKX.out _ hmy
     obtain ⟨yn, rfl⟩ := Int.eq_ofNat_of_zero_le h0y
     clear h0y
     have hmz : (z : Int) ∈ n.kids := by rw [hks]; simp
     obtain ⟨_, h0z, _⟩ := HKX.out _ hmz
     obtain ⟨zn, rfl⟩ := Int.eq_ofNat_of_zero_le h0z
     clear h0z
     have HSV : Hid (stmtF (mustT V T.vars.length T.nodes) T.vars T.nodes (f + 1) L (X : Int) (0, s2) = mustT V T.vars.length T.nodes (zn : Int) (targetF T.vars L n.name true (X : Int) (0, s2)).1 (mustT V T.vars.length T.nodes (yn : Int) 1 (targetF T.vars L n.name true (X : Int) (0, s2)).2)) := by unfold Hid; rw [HSF.out, if_neg (by omega), if_pos hK, hks]; rfl
     have HR2 : Hid (R = goL (stmtF (mustT V T.vars.length T.nodes) T.vars T.nodes (f + 1) L) (list.drop (k + 1)) (mustT V T.vars.length T.nodes (zn : Int) (targetF T.vars L n.name true (X : Int) (0, s2)).1 (mustT V T.vars.length T.nodes (yn : Int) 1 (targetF T.vars L n.name true (X : Int) (0, s2)).2))) := by unfold Hid; rw [HR1.out, HSV.out]
     clear HR1 HSV
     obtain ⟨bk, ok, eak, hkc⟩ : ∃ b o, ak = some ⟨b, o, none⟩ ∧ ∀ (i : Nat) (y : Int), n.kids[i]? = some y → W0.cell? ⟨b, o + i, none⟩ = some (.int .i64 y) := by
      obtain ⟨_, _, e, _, h⟩ := id HKD.out
      injection e with e1 e2 e3
      subst e1
      obtain ⟨b, o, e, _, hc⟩ := h (by rw [hks]; simp)
      exact ⟨b, o, e, hc⟩
     subst eak
     have hy0 := hkc 0 _ (by rw [hks]; rfl)
     have hz0 := hkc 1 _ (by rw [hks]; rfl)
     clear HSF HSK HKX HFO HCL HI9 HTD HED hkc
     have hkl1 : (1 : Int) < (n.kids.length : Int) := by rw [hks]; simp
     clear hks
     rw [hK] at d0
     go_wp2_with fail
     have h5 := HS5.out (.cells #[.int .i64 8, .int .i64 n.op, .string (bs n.name), .int .i64 n.num, .int .i64 n.far, .slice (some ⟨bk, ok, none⟩) n.kids.length ck, .slice at1 n.thn.length ct, .slice ae n.els.length ce] 111)
     have hA := heap_alloc_new wr (.cells #[.int .i64 8, .int .i64 n.op, .string (bs n.name), .int .i64 n.num, .int .i64 n.far, .slice (some ⟨bk, ok, none⟩) n.kids.length ck, .slice at1 n.thn.length ct, .slice ae n.els.length ce] 111)
     generalize hW5 : wr.alloc (.cells #[.int .i64 8, .int .i64 n.op, .string (bs n.name), .int .i64 n.num, .int .i64 n.far, .slice (some ⟨bk, ok, none⟩) n.kids.length ck, .slice at1 n.thn.length ct, .slice ae n.els.length ce] 111) = W5 at *
     clear hW5 HS5 d0 d1 d2 d3 d4 d5 d6 d7 q1 k0 k3 hcV
     have HS5 : Hid _ := h5
     have HA : Hid _ := hA
     have hz5 := blk_lt hA
     clear h5 hA
     refine (HTA.out true _ _ _ HS5.out.1 HS5.out.2.1).mono ?_
     rintro e w6 ⟨rfl, hc6, hs6⟩
     generalize targetF T.vars L n.name true (X : Int) (0, s2) = tg at *
     have n5 : w6.cell? ⟨wr.heap.size, 5, none⟩ = some (.slice (some ⟨bk, ok, none⟩) n.kids.length ck) := hs6.cell (p := ⟨wr.heap.size, 5, none⟩) hgk (cell_of_row _ _ 5 _ _ _ HA.out)
     have ky : w6.cell? ⟨bk, ok, none⟩ = some (.int .i64 (yn : Int)) := (hc6.bel.cell (p := ⟨bk, ok, none⟩) (World.block_lt_of_cell? _ _ hy0)).trans hy0
     have HC6 : Hid (Chk W0 w6 kp p aA V.length cA vl' tg.2 ∧ LoopO w6 B vl' L ∧ Duo kp vl vl' W w6) := ⟨hc6, HS5.out.2.1.sole hs6 (by omega), HS5.out.2.2.trans (hs6.duo _)⟩
     clear hc6 hs6 HTA HS5 HA hy0
     obtain ⟨t1, t2⟩ := tg
     go_wp2_with fail
     refine (HMU.out yn 1 _ _ _ hmy HC6.out.1).mono ?_
     rintro e w7 ⟨rfl, hc7, hs7⟩
     have n57 := hs7.cell (p := ⟨wr.heap.size, 5, none⟩) hgk n5
     have kz : w7.cell? ⟨bk, ok + 1, none⟩ = some (.int .i64 (zn : Int)) := (hc7.bel.cell (p := ⟨bk, ok + 1, none⟩) (World.block_lt_of_cell? _ _ hz0)).trans hz0
     have HC7 : Hid (Chk W0 w7 kp p aA V.length cA vl' (mustT V T.vars.length T.nodes (yn : Int) 1 t2) ∧ LoopO w7 B vl' L ∧ Duo kp vl vl' W w7) := ⟨hc7, HC6.out.2.1.sole hs7 (by omega), HC6.out.2.2.trans (hs7.duo _)⟩
     clear hc7 hs7 HC6 n5 ky hz0
     go_wp2_with fail
     refine (HMU.out zn t1 _ _ _ hmz HC7.out.1).mono ?_
     rintro e w8 ⟨rfl, hc8, hs8⟩
     have HC8 : Hid (Chk W0 w8 kp p aA V.length cA vl' (mustT V T.vars.length T.nodes (zn : Int) t1 (mustT V T.vars.length T.nodes (yn : Int) 1 t2)) ∧ LoopO w8 B vl' L ∧ Duo kp vl vl' W w8) := ⟨hc8, HC7.out.2.1.sole hs8 (by omega), HC7.out.2.2.trans (hs8.duo _)⟩
     clear hc8 hs8 HMU HC7 n57 kz
     go_wp2_with fail
     go_roundw
     case rel => exact ⟨k + 1, _, vl', by omega, by go_num, HR2, HC8⟩
     case measure => simp [intOf]; omega
    ·obtain ⟨y, hks⟩ := HSK.out.2.2 hK
     have hmy : (y : Int) ∈ n.kids := by rw [hks]; simp
     obtain ⟨_, h0y, _⟩ := HKX.out _ hmy
     obtain ⟨yn, rfl⟩ := Int.eq_ofNat_of_zero_le h0y
     clear h0y
     have HSV : Hid (stmtF (mustT V T.vars.length T.nodes) T.vars T.nodes (f + 1) L (X : Int) (0, s2) = goL (stmtF (mustT V T.vars.length T.nodes) T.vars T.nodes f L) n.els (goL (stmtF (mustT V T.vars.length T.nodes) T.vars T.nodes f L) n.thn (mustT V T.vars.length T.nodes (yn : Int) 2 (0, s2)))) := by unfold Hid; rw [HSF.out, if_neg (by omega), if_neg (by omega), if_pos hK, hks]; rfl
     have HR2 : Hid (R = goL (stmtF (mustT V T.vars.length T.nodes) T.vars T.nodes (f + 1) L) (list.drop (k + 1)) (goL (stmtF (mustT V T.vars.length T.nodes) T.vars T.nodes f L) n.els (goL (stmtF (mustT V T.vars.length T.nodes) T.vars T.nodes f L) n.thn (mustT V T.vars.length T.nodes (yn : Int) 2 (0, s2))))) := by unfold Hid; rw [HR1.out, HSV.out]
     clear HR1 HSV
     obtain ⟨bk, ok, eak, hkc⟩ : ∃ b o, ak = some ⟨b, o, none⟩ ∧ ∀ (i : Nat) (y : Int), n.kids[i]? = some y → W0.cell? ⟨b, o + i, none⟩ = some (.int .i64 y) := by
      obtain ⟨_, _, e, _, h⟩ := id HKD.out
      injection e with e1 e2 e3
      subst e1
      obtain ⟨b, o, e, _, hc⟩ := h (by rw [hks]; simp)
      exact ⟨b, o, e, hc⟩
     subst eak
     have hy0 := hkc 0 _ (by rw [hks]; rfl)
     have HI : Hid (ListC lo W0 kp p cA B aA T V f L n.thn ∧ ListC lo W0 kp p cA B aA T V f L n.els) := HI9.out hK
     have hkl1 : (0 : Int) < (n.kids.length : Int) := by rw [hks]; simp
     clear HSF HSK HKX HFO HCL HI9 HTA hkc
     have ky : wr.cell? ⟨bk, ok, none⟩ = some (.int .i64 (yn : Int)) := (HBW.out.cell (p := ⟨bk, ok, none⟩) (World.block_lt_of_cell? _ _ hy0)).trans hy0
     have hbkw : bk < wr.heap.size := World.block_lt_of_cell? _ _ ky
     clear hks
     rw [hK] at d0
     go_wp2_with fail
     have h5 := HS5.out (.cells #[.int .i64 9, .int .i64 n.op, .string (bs n.name), .int .i64 n.num, .int .i64 n.far, .slice (some ⟨bk, ok, none⟩) n.kids.length ck, .slice at1 n.thn.length ct, .slice ae n.els.length ce] 111)
     have hA := heap_alloc_new wr (.cells #[.int .i64 9, .int .i64 n.op, .string (bs n.name), .int .i64 n.num, .int .i64 n.far, .slice (some ⟨bk, ok, none⟩) n.kids.length ck, .slice at1 n.thn.length ct, .slice ae n.els.length ce] 111)
     generalize hW5 : wr.alloc (.cells #[.int .i64 9, .int .i64 n.op, .string (bs n.name), .int .i64 n.num, .int .i64 n.far, .slice (some ⟨bk, ok, none⟩) n.kids.length ck, .slice at1 n.thn.length ct, .slice ae n.els.length ce] 111) = W5 at *
     clear hW5 HS5 d0 d1 d2 d3 d4 d5 d6 d7 q1 k0 k3 hcV
     have HS5 : Hid _ := h5
     have HA : Hid _ := hA
     have hz5 := blk_lt hA
     clear h5 hA
     refine (HMU.out yn 2 _ _ _ hmy HS5.out.1).mono ?_
     rintro e w6 ⟨rfl, hc6, hs6⟩
     have hA6 := (hs6.rest wr.heap.size hz5 hgk).trans HA.out
     have n6 : w6.cell? ⟨wr.heap.size, 6, none⟩ = some (.slice at1 n.thn.length ct) := cell_of_row _ _ 6 _ _ _ hA6
     have HC6 : Hid (Chk W0 w6 kp p aA V.length cA vl' (mustT V T.vars.length T.nodes (yn : Int) 2 (0, s2)) ∧ LoopO w6 B vl' L ∧ Duo kp vl vl' W w6) := ⟨hc6, HS5.out.2.1.sole hs6 (by omega), HS5.out.2.2.trans (hs6.duo _)⟩
     have HA6 : Hid _ := hA6
     have hz6 := blk_lt hA6
     clear hc6 hs6 HS5 HA hy0 hA6 ky HMU
     generalize mustT V T.vars.length T.nodes (yn : Int) 2 (0, s2) = st6 at *
     go_wp2_with fail
     refine (HI.out.1 _ _ _ _ HC6.out.1 HC6.out.2.1 HTD.out).mono ?_
     rintro e w7 ⟨rfl, vl7, hc7, hl7, hd7⟩
     have n7 : w7.cell? ⟨wr.heap.size, 7, none⟩ = some (.slice ae n.els.length ce) := hd7.cell (p := ⟨wr.heap.size, 7, none⟩) hgk hgv (cell_of_row _ _ 7 _ _ _ HA6.out)
     have HC7 : Hid (Chk W0 w7 kp p aA V.length cA vl7 (goL (stmtF (mustT V T.vars.length T.nodes) T.vars T.nodes f L) n.thn st6) ∧ LoopO w7 B vl7 L ∧ Duo kp vl vl7 W w7) := ⟨hc7, hl7, HC6.out.2.2.trans hd7⟩
     clear hc7 hl7 hd7 HC6 HA6 n6
     generalize goL (stmtF (mustT V T.vars.length T.nodes) T.vars T.nodes f L) n.thn st6 = st7 at *
     go_wp2_with fail
     refine (HI.out.2 _ _ _ _ HC7.out.1 HC7.out.2.1 HED.out).mono ?_
     rintro e w8 ⟨rfl, vl8, hc8, hl8, hd8⟩
     have HC8 : Hid (Chk W0 w8 kp p aA V.length cA vl8 (goL (stmtF (mustT V T.vars.length T.nodes) T.vars T.nodes f L) n.els st7) ∧ LoopO w8 B vl8 L ∧ Duo kp vl vl8 W w8) := ⟨hc8, hl8, HC7.out.2.2.trans hd8⟩
     clear hc8 hl8 hd8 HC7 n7 HI
     go_wp2_with fail
     go_roundw
     case rel => exact ⟨k + 1, _, vl8, by omega, by go_num, HR2, HC8⟩
     case measure => simp [intOf]; omega
    ·have HSV : Hid (stmtF (mustT V T.vars.length T.nodes) T.vars T.nodes (f + 1) L (X : Int) (0, s2) = goL (stmtF (mustT V T.vars.length T.nodes) T.vars T.nodes f (L ++ [n.name])) n.thn (forF T.vars L n (X : Int) (0, s2))) := by unfold Hid; rw [HSF.out, if_neg (by omega), if_neg (by omega), if_neg (by omega), if_pos hK]
     have HR2 : Hid (R = goL (stmtF (mustT V T.vars.length T.nodes) T.vars T.nodes (f + 1) L) (list.drop (k + 1)) (goL (stmtF (mustT V T.vars.length T.nodes) T.vars T.nodes f (L ++ [n.name])) n.thn (forF T.vars L n (X : Int) (0, s2)))) := by unfold Hid; rw [HR1.out, HSV.out]
     clear HR1 HSV
     clear HSF HSK HKX HCL HI9 HTA HMU
     rw [hK] at d0
     go_wp2_with fail
     have h5 := HS5.out (.cells #[.int .i64 10, .int .i64 n.op, .string (bs n.name), .int .i64 n.num, .int .i64 n.far, .slice ak n.kids.length ck, .slice at1 n.thn.length ct, .slice ae n.els.length ce] 111)
     have hA := heap_alloc_new wr (.cells #[.int .i64 10, .int .i64 n.op, .string (bs n.name), .int .i64 n.num, .int .i64 n.far, .slice ak n.kids.length ck, .slice at1 n.thn.length ct, .slice ae n.els.length ce] 111)
     generalize hW5 : wr.alloc (.cells #[.int .i64 10, .int .i64 n.op, .string (bs n.name), .int .i64 n.num, .int .i64 n.far, .slice ak n.kids.length ck, .slice at1 n.thn.length ct, .slice ae n.els.length ce] 111) = W5 at *
     clear hW5 HS5 d0 d1 d2 d3 d4 d5 d6 d7 q1 k0 k3 hcV
     have HS5 : Hid _ := h5
     have HA : Hid _ := hA
     have hz5 := blk_lt hA
     clear h5 hA
     refine (HFO.out hK _ _ _ HS5.out.1 HS5.out.2.1).mono ?_
     rintro e w8 ⟨rfl, vl8, hc8, hl8, hd8⟩
     have HC8 : Hid (Chk W0 w8 kp p aA V.length cA vl8 (goL (stmtF (mustT V T.vars.length T.nodes) T.vars T.nodes f (L ++ [n.name])) n.thn (forF T.vars L n (X : Int) (0, s2))) ∧ LoopO w8 B vl8 L ∧ Duo kp vl vl8 W w8) := ⟨hc8, hl8, HS5.out.2.2.trans hd8⟩
     clear hc8 hl8 hd8 HS5 HA HFO
     go_wp2_with fail
     go_roundw
     case rel => exact ⟨k + 1, _, vl8, by omega, by go_num, HR2, HC8⟩
     case measure => simp [intOf]; omega
    ·have HSV : Hid (stmtF (mustT V T.vars.length T.nodes) T.vars T.nodes (f + 1) L (X : Int) (0, s2) = callF (mustT V T.vars.length T.nodes) L n (X : Int) (0, s2)) := by unfold Hid; rw [HSF.out, if_neg (by omega), if_neg (by omega), if_neg (by omega), if_neg (by omega), if_pos hK]
     have HR2 : Hid (R = goL (stmtF (mustT V T.vars.length T.nodes) T.vars T.nodes (f + 1) L) (list.drop (k + 1)) (callF (mustT V T.vars.length T.nodes) L n (X : Int) (0, s2))) := by unfold Hid; rw [HR1.out, HSV.out]
     clear HR1 HSV
     clear HSF HSK HKX HFO HI9 HTA HMU
     rw [hK] at d0
     go_wp2_with fail
     have h5 := HS5.out (.cells #[.int .i64 11, .int .i64 n.op, .string (bs n.name), .int .i64 n.num, .int .i64 n.far, .slice ak n.kids.length ck, .slice at1 n.thn.length ct, .slice ae n.els.length ce] 111)
     have hA := heap_alloc_new wr (.cells #[.int .i64 11, .int .i64 n.op, .string (bs n.name), .int .i64 n.num, .int .i64 n.far, .slice ak n.kids.length ck, .slice at1 n.thn.length ct, .slice ae n.els.length ce] 111)
     generalize hW5 : wr.alloc (.cells #[.int .i64 11, .int .i64 n.op, .string (bs n.name), .int .i64 n.num, .int .i64 n.far, .slice ak n.kids.length ck, .slice at1 n.thn.length ct, .slice ae n.els.length ce] 111) = W5 at *
     clear hW5 HS5 d0 d1 d2 d3 d4 d5 d6 d7 q1 k0 k3 hcV
     have HS5 : Hid _ := h5
     have HA : Hid _ := hA
     have hz5 := blk_lt hA
     clear h5 hA
     refine (HCL.out hK _ _ _ HS5.out.1 HS5.out.2.1).mono ?_
     rintro e w8 ⟨rfl, hc8, hs8⟩
     have HC8 : Hid (Chk W0 w8 kp p aA V.length cA vl' (callF (mustT V T.vars.length T.nodes) L n (X : Int) (0, s2)) ∧ LoopO w8 B vl' L ∧ Duo kp vl vl' W w8) := ⟨hc8, HS5.out.2.1.sole hs8 (by omega), HS5.out.2.2.trans (hs8.duo _)⟩
     clear hc8 hs8 HS5 HA HCL
     go_wp2_with fail
     go_roundw
     case rel => exact ⟨k + 1, _, vl', by omega, by go_num, HR2, HC8⟩
     case measure => simp [intOf]; omega
   ·have hz1 : (s1 == 0) = false := by simpa using hz
    have hz2 : decide (s1 = 0) = false := decide_eq_false hz
    have HR2 : Hid (R = (s1, s2)) := by unfold Hid; rw [HR.out, goL_met hz]
    have hk0 : (0 : Int) ≤ (k : Int) := by omega
    have hk1 : (k : Int) < (list.length : Int) := by omega
    clear HR HS HIH HV HE HX hz
    go_wp2_with fail
    go_end0
    exact ⟨rfl, vl', by rw [HR2.out]; exact HST.out.1, HST.out.2.1, HST.out.2.2⟩
  ·have hke : k = list.length := by omega
   have HR2 : Hid (R = (s1, s2)) := by unfold Hid; rw [HR.out, hke, List.drop_length]; rfl
   clear HR HS HIH HV HE HX hke
   go_wp2_with fail
   go_end0
   exact ⟨rfl, vl', by rw [HR2.out]; exact HST.out.1, HST.out.2.1, HST.out.2.2⟩
theorem l5List_all (lo : Nat) (W0 : World) (kp p cA B : Nat) (vv vn vb : Value) (aA : Option Addr) (T : LTree) (V : List LVar) (hE : ChkE lo W0 p kp vv vn vb aA T V) (hX : Kin T.nodes) (hK : Stk T) (hS : Sized 1048576 T) (hB : B = kp + 1) :
  ∀ (f : Nat), f ≤ T.nodes.length → ∀ (L : List (List UInt8)) (list : List Int), L.length + f ≤ 999 → list.length ≤ 1048576 → (∀ x ∈ list, (0 ≤ x ∧ x < (f : Int)) ∧ (7 ≤ (nodeOf T.nodes x).kind ∧ (nodeOf T.nodes x).kind ≤ 11)) → ListC lo W0 kp p cA B aA T V f L list := by
 intro f
 induction f with
 | zero =>
  intro _ L list _ hll hs
  have hn : list = [] := by
   cases list with
   | nil => rfl
   | cons x r => have := (hs x (by simp)).1; omega
  subst hn
  intro W vk vl st hC hL hV
  have := l5List_step lo W0 kp p cA B 0 vv vn vb aA T V L [] hE hX hB (by omega) (by simp) (fun x hx => by cases hx) (fun x hx => by cases hx) W vk vl st hC hL hV
  exact this
 | succ f ih =>
  intro hf L list hLf hll hs
  refine l5List_step lo W0 kp p cA B f vv vn vb aA T V L list hE hX hB (by omega) hll (fun x hx => ⟨⟨(hs x hx).1.1, by have := (hs x hx).1.2; omega⟩, (hs x hx).2⟩) (fun x hx => ?_)
  have h1 := (hs x hx).1
  obtain ⟨j, rfl⟩ : ∃ j : Nat, x = j := ⟨x.toNat, by omega⟩
  have hj : j < T.nodes.length := by omega
  have hg := hE.good.node j _ (node_get hj)
  have hk := hK j _ (node_get hj)
  have hsz := hS.node _ (List.mem_of_getElem? (node_get hj))
  refine ⟨fun _ => ⟨ih (by omega) L _ (by omega) hsz.2.2.1 (fun y hy => ⟨⟨(hg.2.2.1 y hy).1, by have := (hg.2.2.1 y hy).2; omega⟩, hk.1 y hy⟩), ih (by omega) L _ (by omega) hsz.2.2.2 (fun y hy => ⟨⟨(hg.2.2.2 y hy).1, by have := (hg.2.2.2 y hy).2; omega⟩, hk.2 y hy⟩)⟩, fun _ => ih (by omega) _ _ (by simp; omega) hsz.2.2.1 (fun y hy => ⟨⟨(hg.2.2.1 y hy).1, by have := (hg.2.2.1 y hy).2; omega⟩, hk.1 y hy⟩)⟩
theorem ints_of_heap {W : World} {g : Nat} {I : TypeId} {ts : List Int} (h : W.heap[g]? = some (.cells (ts.map (Value.int .i64)).toArray I (0, 0))) : IntsV 0 W (.slice (some ⟨g, 0, none⟩) ts.length ts.length) ts :=
 ⟨_, _, rfl, Nat.le_refl _, fun _ => ⟨g, 0, rfl, Nat.zero_le _, fun i x hx => by
  rw [cell_of_row _ _ _ _ _ _ h, Nat.zero_add, List.getElem?_toArray, List.getElem?_map, hx]; rfl⟩⟩
structure CkT (lo : Nat) (W0 : World) (cp mp : Nat) (vn : Value) (T : LTree) (V : List LVar) : Prop where
 b : CkB lo W0 cp mp vn T V
 typ : ∀ (vl : Value) (f x : Nat), x < T.nodes.length → 1 ≤ (nodeOf T.nodes (x : Int)).kind ∧ (nodeOf T.nodes (x : Int)).kind ≤ 6 → T.nodes.length = f + 1 → ITypeC lo cp mp vn vl T V (f + 1) x
 fits : FitsE T
 kin : Kin T.nodes
 stk : Stk T
 small : Sized 1048576 T
theorem mustBe_st {lo : Nat} {W0 W : World} {cp mp : Nat} {vn vl vk vt : Value} {T : LTree} {V : List LVar} {x lt : Nat} {ts : List Int} (h : CkT lo W0 cp mp vn T V) (hC : ICk W0 W cp mp vn vl) (hx : x < T.nodes.length)
  (hk : IntsV lo W0 vk (nodeOf T.nodes (x : Int)).kids) (hlen : (nodeOf T.nodes (x : Int)).kids.length = ts.length) (h3 : ts.length ≤ 3) (hj : IntsV lt W vt ts) :
  Calls Tryz.prog 177 #[.pointer (some ⟨cp, 0, none⟩), vk, vt] W fun e w' => e = .returned (errV (argsF (mustT V T.vars.length T.nodes) (nodeOf T.nodes (x : Int)).kids ts (0, 0))) ∧ Below W.heap.size W w' := by
 have hn := h.b.good.node x _ (node_get hx)
 obtain ⟨f, hf⟩ : ∃ f, T.nodes.length = f + 1 := ⟨T.nodes.length - 1, by omega⟩
 have key : ∀ y ∈ (nodeOf T.nodes (x : Int)).kids, (0 ≤ y ∧ y < (T.nodes.length : Int)) ∧ (1 ≤ (nodeOf T.nodes y).kind ∧ (nodeOf T.nodes y).kind ≤ 6) ∧ ((nodeOf T.nodes y).kind = 1 → 0 ≤ (nodeOf T.nodes y).num) := fun y hy => by
  have hy2 := hn.2.1 y hy
  obtain ⟨j, rfl⟩ : ∃ j : Nat, y = j := ⟨y.toNat, by omega⟩
  exact ⟨⟨hy2.1, by omega⟩, expr_to (h.kin x _ (node_get hx) _ hy), fun _ => (own_nums (h.b.good.node j _ (node_get (by omega))).1).1.1⟩
 have := mustBe_any lo lo lt cp mp f W vn vl vk vt T V (nodeOf T.nodes (x : Int)).kids ts (h.b.ck hC) hlen (by omega) key (hk.below hC.bel) hj (fun y hy => h.typ vl f y (by have := (key _ hy).1.2; omega) (key _ hy).2.1 hf)
 unfold mustsF at this
 unfold mustT
 rw [hf]; exact this
theorem must_met {V : List LVar} {nv : Nat} {N : List LNode} {y t : Int} {st : Met} (h : st.1 ≠ 0) : mustT V nv N y t st = st := by
 unfold mustT
 have e : typeF V nv N N.length y st = ((typeF V nv N N.length y st).1, st) := Prod.ext rfl (typeF_met _ y h)
 rw [e, mustW_met h]
def Orz (m : Met) : Prop := m = (0, 0) ∨ m.1 ≠ 0
theorem must_orz {V : List LVar} {nv : Nat} {N : List LNode} {y t : Int} {st : Met} (h : Orz st) : Orz (mustT V nv N y t st) := by
 unfold mustT
 rcases mustW_or (nodeOf N y) y t (typeF V nv N N.length y st) with e | e
 ·rw [e]
  rcases typeF_or (V := V) (nv := nv) (N := N) N.length y st with e2 | e2
  ·rw [e2]; exact h
  ·exact .inr e2
 ·exact .inr e
theorem args_met {must : Int → Int → Met → Met} (hm : ∀ y t st, st.1 ≠ 0 → must y t st = st) : ∀ (ks ts : List Int) (st : Met), st.1 ≠ 0 → argsF must ks ts st = st := by
 intro ks
 induction ks with
 | nil => intro ts st h; rfl
 | cons k r ih =>
  intro ts st h
  cases ts with
  | nil => rfl
  | cons t q => unfold argsF; rw [hm _ _ _ h]; exact ih q st h
theorem args_orz {must : Int → Int → Met → Met} (hm : ∀ y t st, Orz st → Orz (must y t st)) : ∀ (ks ts : List Int) (st : Met), Orz st → Orz (argsF must ks ts st) := by
 intro ks
 induction ks with
 | nil => intro ts st h; exact h
 | cons k r ih =>
  intro ts st h
  cases ts with
  | nil => exact h
  | cons t q => exact ih q _ (hm _ _ _ h)
theorem meta_orz {st : Met} (h : Orz st) {c x : Int} (hc : c ≠ 0) : Orz (metAt st c x) := by
 unfold metAt; split
 ·exact .inr hc
 ·exact h
theorem target_orz {VS : List LVar} {L : List (List UInt8)} {nm : List UInt8} {row : Bool} {x : Int} {st : Met} (h : Orz st) : Orz (targetF VS L nm row x st).2 := by
 unfold targetF
 split
 ·exact meta_orz h (by decide)
 ·show Orz (if _ then _ else _)
  split
  ·refine meta_orz ?_ (by decide)
   split
   ·exact meta_orz h (by decide)
   ·exact h
  ·split
   ·exact meta_orz h (by decide)
   ·exact h
theorem goL_orz {s : Int → Met → Met} (hs : ∀ x st, Orz st → Orz (s x st)) : ∀ (l : List Int) (st : Met), Orz st → Orz (goL s l st) := by
 intro l
 induction l with
 | nil => intro st h; exact h
 | cons x r ih =>
  intro st h
  unfold goL
  split
  ·exact ih _ (hs x st h)
  ·exact h
theorem for_orz {VS : List LVar} {L : List (List UInt8)} {n : LNode} {x : Int} {st : Met} (h : Orz st) : Orz (forF VS L n x st) := by
 have hA : Orz (forA VS L n x st) := by
  unfold forA
  split
  ·exact meta_orz (target_orz h) (by decide)
  ·exact target_orz h
 unfold forF
 split
 ·exact meta_orz hA (by decide)
 ·exact hA
theorem call_orz {must : Int → Int → Met → Met} (hm : ∀ y t st, Orz st → Orz (must y t st)) {L : List (List UInt8)} {n : LNode} {x : Int} {st : Met} (h : Orz st) : Orz (callF must L n x st) := by
 unfold callF
 split
 ·exact meta_orz h (by decide)
 ·exact args_orz hm _ _ _ h
theorem stmt_orz {must : Int → Int → Met → Met} (hm : ∀ y t st, Orz st → Orz (must y t st)) {VS : List LVar} {N : List LNode} : ∀ (f : Nat) (L : List (List UInt8)) (x : Int) (st : Met), Orz st → Orz (stmtF must VS N f L x st) := by
 intro f
 induction f with
 | zero => intro L x st h; exact h
 | succ f ih =>
  intro L x st h
  simp only [stmtF]
  split
  ·exact hm _ _ _ (target_orz h)
  split
  ·exact hm _ _ _ (hm _ _ _ (target_orz h))
  split
  ·exact goL_orz (fun y s hs => ih L y s hs) _ _ (goL_orz (fun y s hs => ih L y s hs) _ _ (hm _ _ _ h))
  split
  ·exact goL_orz (fun y s hs => ih _ y s hs) _ _ (for_orz h)
  split
  ·exact call_orz hm h
  ·exact h
theorem varFrom_append (nm : List UInt8) : ∀ (A B : List LVar) (i : Nat), varFrom nm (A ++ B) i = if 0 ≤ varFrom nm A i then varFrom nm A i else varFrom nm B (i + A.length) := by
 intro A
 induction A with
 | nil => intro B i; simp [varFrom]
 | cons a r ih =>
  intro B i
  by_cases h : a.name = nm
  ·simp [varFrom, h]
  ·have e := ih B (i + 1)
   simp only [List.cons_append, varFrom, if_neg h, e, List.length_cons]
   split
   ·rfl
   ·rw [show i + 1 + r.length = i + (r.length + 1) by omega]
theorem varFrom_ge (nm : List UInt8) : ∀ (A : List LVar) (i : Nat), varFrom nm A i < 0 ∨ (i : Int) ≤ varFrom nm A i := by
 intro A
 induction A with
 | nil => intro i; exact .inl (by simp [varFrom])
 | cons a r ih =>
  intro i
  unfold varFrom
  split
  ·exact .inr (Int.le_refl _)
  ·rcases ih (i + 1) with h | h
   ·exact .inl h
   ·exact .inr (by omega)
theorem varFrom_name {nm : List UInt8} : ∀ {A : List LVar} {i : Nat}, 0 ≤ varFrom nm A i → (A.getD ((varFrom nm A i).toNat - i) default).name = nm := by
 intro A
 induction A with
 | nil => intro i h; simp [varFrom] at h
 | cons a r ih =>
  intro i h
  unfold varFrom at h ⊢
  by_cases e : a.name = nm
  ·rw [if_pos e]; simp [e]
  ·rw [if_neg e] at h ⊢
   have h2 := ih h
   have h3 := (varFrom_ge nm r (i + 1)).resolve_left (by omega)
   rw [show (varFrom nm r (i + 1)).toNat - i = ((varFrom nm r (i + 1)).toNat - (i + 1)) + 1 by omega, List.getD_cons_succ]
   exact h2
theorem sett_target {T : LTree} {K : Int} {L : List (List UInt8)} {n : LNode} {x : Int} {row : Bool} (hrow : row = decide (n.kind = 8)) (hk : n.kind = 7 ∨ n.kind = 8 ∨ n.kind = 10) :
  (targetF T.vars L n.name row x (0, 0)).2 = settF (allL K T) T.vars.length L n x ∧ ((settF (allL K T) T.vars.length L n x).1 = 0 → (targetF T.vars L n.name row x (0, 0)).1 = ((allL K T).getD (varFrom n.name (allL K T) 0).toNat default).type) := by
 have ha := varFrom_append n.name T.vars (ownsL K T.nodes) 0
 unfold settF namedF targetF
 by_cases h : varFrom n.name T.vars 0 < 0
 ·rw [if_pos h]
  have h2 : varFrom n.name (allL K T) 0 < 0 ∨ ((T.vars.length : Int) ≤ varFrom n.name (allL K T) 0 ∧ n.kind ≠ 2) := by
   unfold allL
   rw [ha, if_neg (by omega)]
   rcases varFrom_ge n.name (ownsL K T.nodes) (0 + T.vars.length) with h3 | h3
   ·exact .inl h3
   ·exact .inr ⟨by omega, by omega⟩
  rw [if_pos h2, if_pos (show ((4 : Int), x).1 ≠ 0 from by simp)]
  exact ⟨metAt_zero 4 x 0, fun h => by simp at h⟩
 ·rw [if_neg h]
  have e : varFrom n.name (allL K T) 0 = varFrom n.name T.vars 0 := by unfold allL; rw [ha, if_pos (by omega)]
  obtain ⟨i, hi, hil⟩ : ∃ i : Nat, varFrom n.name T.vars 0 = i ∧ i < T.vars.length := by
   rcases varFrom_or n.name T.vars 0 with h2 | ⟨j, h2, h3⟩
   ·omega
   ·exact ⟨j, h2, by omega⟩
  have hnm := varFrom_name (nm := n.name) (A := T.vars) (i := 0) (by omega)
  rw [e, hi, Int.toNat_natCast]
  rw [hi, Int.toNat_natCast, Nat.sub_zero] at hnm
  have eg : (allL K T).getD i default = T.vars.getD i default := by
   unfold allL; rw [List.getD_eq_getElem?_getD, List.getD_eq_getElem?_getD, List.getElem?_append_left hil]
  have hn2 : ¬ ((i : Int) < 0 ∨ (T.vars.length : Int) ≤ (i : Int) ∧ n.kind ≠ 2) := by omega
  have hr2 : decide (n.kind = 3 ∨ n.kind = 8) = row := by
   rw [hrow]
   exact decide_eq_decide.2 (by omega)
  rw [eg, hnm, if_neg hn2, hr2]
  by_cases hs : decide (0 < (T.vars.getD i default).size) = row
  ·have h1 : ¬ (row ≠ decide (0 < (T.vars.getD i default).size)) := fun h => h hs.symm
   have h2 : ¬ (decide (0 < (T.vars.getD i default).size) ≠ row) := fun h => h hs
   rw [if_neg h1, if_neg h2, if_neg (show ¬ (((0 : Int), (0 : Int)).1 ≠ 0) from by decide)]
   by_cases hkl : (T.vars.getD i default).kind = 1 ∨ n.name ∈ L
   ·rw [if_pos hkl, if_pos hkl]
    exact ⟨metAt_zero 10 x 0, fun _ => rfl⟩
   ·rw [if_neg hkl, if_neg hkl]
    exact ⟨rfl, fun _ => rfl⟩
  ·have h1 : row ≠ decide (0 < (T.vars.getD i default).size) := fun h => hs h.symm
   rw [if_pos h1, if_pos hs, if_pos (show ((1 : Int), x).1 ≠ 0 from by simp)]
   refine ⟨?_, fun h => by simp at h⟩
   rw [metAt_zero]
   show (if _ then metAt (1, x) 10 x else (1, x)) = (1, x)
   split
   ·exact metAt_met (show ((1 : Int), x).1 ≠ 0 from by simp) _ _
   ·rfl
def asgF (V : List LVar) (T : LTree) (L : List (List UInt8)) (n : LNode) (x : Int) : Met :=
 if (settF V T.vars.length L n x).1 ≠ 0 then settF V T.vars.length L n x
 else argsF (mustT V T.vars.length T.nodes) n.kids (if n.kind = 8 then [1, (V.getD (varFrom n.name V 0).toNat default).type] else [(V.getD (varFrom n.name V 0).toNat default).type]) (0, 0)
theorem asg_stmt {T : LTree} {K : Int} {L : List (List UInt8)} {f : Nat} {x : Int} (ho : ownB (nodeOf T.nodes x) = true) (hk : (nodeOf T.nodes x).kind = 7 ∨ (nodeOf T.nodes x).kind = 8) :
  stmtF (mustT (allL K T) T.vars.length T.nodes) T.vars T.nodes (f + 1) L x (0, 0) = asgF (allL K T) T L (nodeOf T.nodes x) x := by
 obtain ⟨s7, s8, _⟩ := stat_kids ho
 simp only [stmtF]
 rcases hk with hk | hk
 ·obtain ⟨y, hy⟩ := s7 hk
  obtain ⟨h1, h2⟩ := sett_target (T := T) (K := K) (L := L) (n := nodeOf T.nodes x) (x := x) (row := false) (by simp [hk]) (.inl hk)
  unfold asgF
  rw [if_pos hk, h1, hy, if_neg (show ¬ (nodeOf T.nodes x).kind = 8 by omega)]
  by_cases hz : (settF (allL K T) T.vars.length L (nodeOf T.nodes x) x).1 = 0
  ·rw [if_neg (show ¬ (settF (allL K T) T.vars.length L (nodeOf T.nodes x) x).1 ≠ 0 from fun h => h hz), h2 hz]
   have hz2 : settF (allL K T) T.vars.length L (nodeOf T.nodes x) x = (0, 0) := by
    rw [← h1]; exact (target_orz (.inl rfl)).resolve_right (fun h => h (by rw [h1]; exact hz))
   rw [hz2]; rfl
  ·rw [if_pos (show (settF (allL K T) T.vars.length L (nodeOf T.nodes x) x).1 ≠ 0 from hz), must_met hz]
 ·obtain ⟨y, z, hy⟩ := s8 hk
  obtain ⟨h1, h2⟩ := sett_target (T := T) (K := K) (L := L) (n := nodeOf T.nodes x) (x := x) (row := true) (by simp [hk]) (.inr (.inl hk))
  unfold asgF
  rw [if_neg (show ¬ (nodeOf T.nodes x).kind = 7 by omega), if_pos hk, h1, hy, if_pos hk]
  by_cases hz : (settF (allL K T) T.vars.length L (nodeOf T.nodes x) x).1 = 0
  ·rw [if_neg (show ¬ (settF (allL K T) T.vars.length L (nodeOf T.nodes x) x).1 ≠ 0 from fun h => h hz), h2 hz]
   have hz2 : settF (allL K T) T.vars.length L (nodeOf T.nodes x) x = (0, 0) := by
    rw [← h1]; exact (target_orz (.inl rfl)).resolve_right (fun h => h (by rw [h1]; exact hz))
   rw [hz2]; rfl
  ·rw [if_pos (show (settF (allL K T) T.vars.length L (nodeOf T.nodes x) x).1 ≠ 0 from hz), must_met (t := 1) hz, must_met hz]
theorem alloc_sz (w : World) (o : Obj) : (w.alloc o).heap.size = w.heap.size + 1 := by simp
set_option maxHeartbeats 12800000 in
set_option maxRecDepth 100000 in
theorem assignment_any (lo : Nat) (W0 W : World) (cp mp B : Nat) (vn vl : Value) (T : LTree) (V : List LVar) (L : List (List UInt8)) (x : Nat) (h : CkT lo W0 cp mp vn T V) (hC : ICk W0 W cp mp vn vl) (hL : LoopO W B vl L) (hB : B = cp + 1) (hLl : L.length ≤ 1048576) (hx : x < T.nodes.length) (hk : (nodeOf T.nodes (x : Int)).kind = 7 ∨ (nodeOf T.nodes (x : Int)).kind = 8) :
  Calls Tryz.prog 197 #[.pointer (some ⟨cp, 0, none⟩), .int .i64 (x : Int)] W fun e w' => e = .returned (errV (asgF V T L (nodeOf T.nodes (x : Int)) (x : Int))) ∧ Below W.heap.size W w' := by
 have hsm := (h.small.node _ (List.mem_of_getElem? (node_get hx))).1
 have HSE : Hid (Calls Tryz.prog 210 #[.pointer (some ⟨cp, 0, none⟩), .int .i64 (x : Int)] W fun e w' => e = .returned (.tuple #[namedV V T.vars.length (nodeOf T.nodes (x : Int)) (x : Int), errV (settF V T.vars.length L (nodeOf T.nodes (x : Int)) (x : Int))]) ∧ Below W.heap.size W w') := settable_any lo W0 W cp mp B vn vl T V L x h.b hC hL hB hLl hx hsm
 have hown := (h.b.good.node x _ (node_get hx)).1
 obtain ⟨s7, s8, _⟩ := stat_kids hown
 have HH : Hid (CkT lo W0 cp mp vn T V) := h
 have HC : Hid (ICk W0 W cp mp vn vl) := hC
 have hnl := h.b.good.nodes
 obtain ⟨R, hR⟩ : ∃ R, R = asgF V T L (nodeOf T.nodes (x : Int)) (x : Int) := ⟨_, rfl⟩
 rw [← hR]
 have HR : Hid (R = if (settF V T.vars.length L (nodeOf T.nodes (x : Int)) (x : Int)).1 ≠ 0 then settF V T.vars.length L (nodeOf T.nodes (x : Int)) (x : Int)
  else argsF (mustT V T.vars.length T.nodes) (nodeOf T.nodes (x : Int)).kids (if (nodeOf T.nodes (x : Int)).kind = 8 then [1, (V.getD (varFrom (nodeOf T.nodes (x : Int)).name V 0).toNat default).type] else [(V.getD (varFrom (nodeOf T.nodes (x : Int)).name V 0).toNat default).type]) (0, 0)) := hR
 obtain ⟨y0, y1, y2, y3, y4, y5, hy⟩ := namedV_form V T.vars.length (nodeOf T.nodes (x : Int)) (x : Int)
 obtain ⟨m, hm⟩ : ∃ m, m = settF V T.vars.length L (nodeOf T.nodes (x : Int)) (x : Int) := ⟨_, rfl⟩
 have HY : Hid (m.1 = 0 → (V.getD (varFrom (nodeOf T.nodes (x : Int)).name V 0).toNat default).type = y2) := fun h0 => by
  have hn0 : (namedF V T.vars.length (nodeOf T.nodes (x : Int)) (x : Int)).1 = 0 := by
   rw [hm] at h0; unfold settF at h0
   split at h0
   ·rename_i h1; exact absurd h0 h1
   ·rename_i h1; exact Classical.byContradiction fun h2 => h1 h2
  have h := hy
  unfold namedV at h
  rw [if_pos hn0] at h
  unfold entVal at h
  injection h with h
  have h2 := congrArg Array.toList h
  simp at h2
  exact h2.2.2.1
 rw [hy, ← hm] at HSE
 rw [← hm] at HR
 have hx0 : (0 : Int) ≤ (x : Int) := by omega
 have hx1 : (x : Int) < (T.nodes.length : Int) := by omega
 clear hy hm hR h hC hL hown
 obtain ⟨m1, m2⟩ := m
 have HVB : Hid (∀ w2, Below W.heap.size W w2 → Below W.heap.size W (w2.alloc (.cells #[.string (bs y0), .int .i64 y1, .int .i64 y2, .int .i64 y3, .bool y4, .int .i64 y5] 100))) := fun w2 hb => hb.alloc hb.size _
 go_enter Tryz.func197, Tryz.ntmps197
 go_wp2_with fail
 refine HSE.out.mono ?_
 rintro e w2 ⟨rfl, hb⟩
 have HB : Hid (Below W.heap.size W w2) := hb
 clear hb HSE
 by_cases hz : m1 = 0
 ·subst hz
  have HR2 : Hid (R = argsF (mustT V T.vars.length T.nodes) (nodeOf T.nodes (x : Int)).kids (if (nodeOf T.nodes (x : Int)).kind = 8 then [1, y2] else [y2]) (0, 0)) := by unfold Hid; rw [HR.out, if_neg (by simp), HY.out rfl]
  rw [errV_zero rfl]
  have hb3 := HVB.out w2 HB.out
  have hV3 := heap_alloc_new w2 (.cells #[.string (bs y0), .int .i64 y1, .int .i64 y2, .int .i64 y3, .bool y4, .int .i64 y5] 100)
  obtain ⟨bn, on, cn, rfl, vk, vt, ve, ⟨d0, d1, d2, d3, d4, d5, d6, d7⟩, hkd, htd, hed⟩ := HH.out.b.node (HC.out.below hb3).bel x hx
  obtain ⟨ak, ck, evk, _⟩ := id hkd
  obtain ⟨at1, ct, evt, _⟩ := id htd
  obtain ⟨ae, ce, eve, _⟩ := id hed
  subst evk; subst evt; subst eve
  have HKD : Hid (IntsV lo W0 (.slice ak (nodeOf T.nodes (x : Int)).kids.length ck) (nodeOf T.nodes (x : Int)).kids) := hkd
  have k0 : (w2.alloc (.cells #[.string (bs y0), .int .i64 y1, .int .i64 y2, .int .i64 y3, .bool y4, .int .i64 y5] 100)).cell? ⟨cp, 0, none⟩ = some (.slice (some ⟨bn, on, none⟩) T.nodes.length cn) := cell_of_row _ _ 0 _ _ _ (HC.out.below hb3).row
  have HB3 : Hid (Below W.heap.size W (w2.alloc (.cells #[.string (bs y0), .int .i64 y1, .int .i64 y2, .int .i64 y3, .bool y4, .int .i64 y5] 100))) := hb3
  have hgz : w2.heap.size < (w2.alloc (.cells #[.string (bs y0), .int .i64 y1, .int .i64 y2, .int .i64 y3, .bool y4, .int .i64 y5] 100)).heap.size := blk_lt hV3
  have v2 : (w2.alloc (.cells #[.string (bs y0), .int .i64 y1, .int .i64 y2, .int .i64 y3, .bool y4, .int .i64 y5] 100)).cell? ⟨w2.heap.size, 2, none⟩ = some (.int .i64 y2) := cell_of_row _ _ 2 _ _ _ hV3
  clear hb3 hV3 hkd htd hed HR HY
  go_upto_region 4 with fail
  generalize w2.alloc (.cells #[.string (bs y0), .int .i64 y1, .int .i64 y2, .int .i64 y3, .bool y4, .int .i64 y5] 100) = W3 at *
  generalize w2.heap.size = gv at *
  have HMU : Hid (∀ (W' : World) (lt : Nat) (vt : Value) (ts : List Int), Below W.heap.size W W' → (nodeOf T.nodes (x : Int)).kids.length = ts.length → ts.length ≤ 3 → IntsV lt W' vt ts → Calls Tryz.prog 177 #[.pointer (some ⟨cp, 0, none⟩), .slice ak (nodeOf T.nodes (x : Int)).kids.length ck, vt] W' fun e w' => e = .returned (errV (argsF (mustT V T.vars.length T.nodes) (nodeOf T.nodes (x : Int)).kids ts (0, 0))) ∧ Below W'.heap.size W' w') := fun W' lt vt ts hb hl h3 hj => mustBe_st HH.out (HC.out.below hb) hx HKD.out hl h3 hj
  generalize argsF (mustT V T.vars.length T.nodes) (nodeOf T.nodes (x : Int)).kids = AF at *
  generalize nodeOf T.nodes (x : Int) = n at *
  have hsz := HB3.out.size
  rcases hk with hk | hk
  ·obtain ⟨y, hks⟩ := s7 hk
   have HKL : Hid (n.kids.length = 1) := by unfold Hid; rw [hks]; rfl
   have HR3 : Hid (R = AF [y2] (0, 0)) := by unfold Hid; rw [HR2.out, if_neg (by omega)]
   rw [hk] at d0
   clear hks s7 s8 hk HR2
   go_wp2_with fail
   have hb6 : Below W.heap.size W ((W3.alloc (.cells #[.int .i64 7, .int .i64 n.op, .string (bs n.name), .int .i64 n.num, .int .i64 n.far, .slice ak n.kids.length ck, .slice at1 n.thn.length ct, .slice ae n.els.length ce] 111)).alloc (.cells #[.int .i64 y2] 2)) := (HB3.out.alloc hsz _).alloc (by simp; omega) _
   have hj := ints_of_heap (ts := [y2]) (heap_alloc_new (W3.alloc (.cells #[.int .i64 7, .int .i64 n.op, .string (bs n.name), .int .i64 n.num, .int .i64 n.far, .slice ak n.kids.length ck, .slice at1 n.thn.length ct, .slice ae n.els.length ce] 111)) (.cells #[.int .i64 y2] 2))
   rw [alloc_sz] at hj
   refine (HMU.out _ 0 _ [y2] hb6 HKL.out (by simp) hj).mono ?_
   rintro e w8 ⟨rfl, hb⟩
   have HB8 : Hid (Below W.heap.size W w8) := hb6.trans (hb.mono hb6.size)
   clear hb hb6 hj HMU HB3
   go_wp2_with fail
   go_ret
   exact ⟨by rw [HR3.out]; rfl, HB8.out⟩
  ·obtain ⟨y, z, hks⟩ := s8 hk
   have HKL : Hid (n.kids.length = 2) := by unfold Hid; rw [hks]; rfl
   have HR3 : Hid (R = AF [1, y2] (0, 0)) := by unfold Hid; rw [HR2.out, if_pos hk]
   rw [hk] at d0
   clear hks s7 s8 hk HR2
   go_wp2_with fail
   have hb6 : Below W.heap.size W ((W3.alloc (.cells #[.int .i64 8, .int .i64 n.op, .string (bs n.name), .int .i64 n.num, .int .i64 n.far, .slice ak n.kids.length ck, .slice at1 n.thn.length ct, .slice ae n.els.length ce] 111)).alloc (.cells #[.int .i64 1, .int .i64 y2] 2)) := (HB3.out.alloc hsz _).alloc (by simp; omega) _
   have hj := ints_of_heap (ts := [1, y2]) (heap_alloc_new (W3.alloc (.cells #[.int .i64 8, .int .i64 n.op, .string (bs n.name), .int .i64 n.num, .int .i64 n.far, .slice ak n.kids.length ck, .slice at1 n.thn.length ct, .slice ae n.els.length ce] 111)) (.cells #[.int .i64 1, .int .i64 y2] 2))
   rw [alloc_sz] at hj
   refine (HMU.out _ 0 _ [1, y2] hb6 HKL.out (by simp) hj).mono ?_
   rintro e w8 ⟨rfl, hb⟩
   have HB8 : Hid (Below W.heap.size W w8) := hb6.trans (hb.mono hb6.size)
   clear hb hb6 hj HMU HB3
   go_wp2_with fail
   go_ret
   exact ⟨by rw [HR3.out]; rfl, HB8.out⟩
 ·have HR2 : Hid (R = (m1, m2)) := by unfold Hid; rw [HR.out, if_pos hz]
  rw [errV_met hz]
  have HRE : Hid (errV R = .iface 89 (.agg #[.int .i64 m1, .int .i64 m2])) := by unfold Hid; rw [HR2.out, errV_met hz]
  have HB3 : Hid (Below W.heap.size W (w2.alloc (.cells #[.string (bs y0), .int .i64 y1, .int .i64 y2, .int .i64 y3, .bool y4, .int .i64 y5] 100))) := HVB.out w2 HB.out
  clear HR HY HR2 hz HVB
  go_wp2_with fail
  go_ret
  exact ⟨by rw [HRE.out]; rfl, HB3.out⟩
theorem fieldB1 (a b : Value) (w : World) : (Instr.field 164 (.agg #[a, b]) 1).run Tryz.prog w = .ok b w := by kernel_rfl
set_option maxHeartbeats 12800000 in
set_option maxRecDepth 100000 in
theorem call_any (lo : Nat) (W0 W : World) (cp mp B : Nat) (vn vl : Value) (T : LTree) (V : List LVar) (L : List (List UInt8)) (x : Nat) (h : CkT lo W0 cp mp vn T V) (hC : ICk W0 W cp mp vn vl) (hL : LoopO W B vl L) (hLl : L.length ≤ 1048576) (hx : x < T.nodes.length) (hk : (nodeOf T.nodes (x : Int)).kind = 11) :
  Calls Tryz.prog 200 #[.pointer (some ⟨cp, 0, none⟩), .int .i64 (x : Int)] W fun e w' => e = .returned (errV (callF (mustT V T.vars.length T.nodes) L (nodeOf T.nodes (x : Int)) (x : Int) (0, 0))) ∧ Below W.heap.size W w' := by
 have hop := own_op (h.b.good.node x _ (node_get hx)).1 hk
 have hkl3 : (nodeOf T.nodes (x : Int)).kids.length ≤ 1048576 := (h.small.node _ (List.mem_of_getElem? (node_get hx))).2.1
 have HH : Hid (CkT lo W0 cp mp vn T V) := h
 have HC : Hid (ICk W0 W cp mp vn vl) := hC
 have hnl := h.b.good.nodes
 obtain ⟨aL, cL, evl, _⟩ := hL.form
 subst evl
 obtain ⟨bn, on, cn, rfl, vk, vt, ve, ⟨d0, d1, d2, d3, d4, d5, d6, d7⟩, hkd, htd, hed⟩ := h.b.node hC.bel x hx
 obtain ⟨ak, ck, evk, _⟩ := id hkd
 obtain ⟨at1, ct, evt, _⟩ := id htd
 obtain ⟨ae, ce, eve, _⟩ := id hed
 subst evk; subst evt; subst eve
 have HKD : Hid (IntsV lo W0 (.slice ak (nodeOf T.nodes (x : Int)).kids.length ck) (nodeOf T.nodes (x : Int)).kids) := hkd
 have k0 := cell_of_row _ _ 0 _ _ _ hC.row
 simp at k0
 have HMU : Hid (∀ (W' : World) (lt : Nat) (vt : Value) (ts : List Int), Below W.heap.size W W' → (nodeOf T.nodes (x : Int)).kids.length = ts.length → ts.length ≤ 3 → IntsV lt W' vt ts → Calls Tryz.prog 177 #[.pointer (some ⟨cp, 0, none⟩), .slice ak (nodeOf T.nodes (x : Int)).kids.length ck, vt] W' fun e w' => e = .returned (errV (argsF (mustT V T.vars.length T.nodes) (nodeOf T.nodes (x : Int)).kids ts (0, 0))) ∧ Below W'.heap.size W' w') := fun W' lt vt ts hb hl h3 hj => mustBe_st HH.out (HC.out.below hb) hx HKD.out hl h3 hj
 have HBO : Hid (∀ (w : World), Calls Tryz.prog 111 #[.int .i64 (nodeOf T.nodes (x : Int)).op] w fun e w' => (∃ v1 a c, e = .returned (.agg #[v1, .slice a (argsL (nodeOf T.nodes (x : Int)).op).length c]) ∧ IntsV w.heap.size w' (.slice a (argsL (nodeOf T.nodes (x : Int)).op).length c) (argsL (nodeOf T.nodes (x : Int)).op)) ∧ Below w.heap.size w w') := fun w => (blockOf_any _ hop.1 hop.2 w).mono fun e w' hh => by
  obtain ⟨⟨g, v2, rfl, _, _, hi⟩, hb⟩ := hh
  obtain ⟨a, c, e2, _⟩ := id hi
  subst e2
  exact ⟨⟨_, _, _, rfl, hi⟩, hb⟩
 have HR : Hid (callF (mustT V T.vars.length T.nodes) L (nodeOf T.nodes (x : Int)) (x : Int) (0, 0) = if (argsL (nodeOf T.nodes (x : Int)).op).length ≠ (nodeOf T.nodes (x : Int)).kids.length ∨ L ≠ [] then (2, (x : Int)) else argsF (mustT V T.vars.length T.nodes) (nodeOf T.nodes (x : Int)).kids (argsL (nodeOf T.nodes (x : Int)).op) (0, 0)) := by unfold Hid callF; rw [metAt_zero]
 have hal := argsL_le (nodeOf T.nodes (x : Int)).op
 obtain ⟨R, hRR⟩ : ∃ R, R = callF (mustT V T.vars.length T.nodes) L (nodeOf T.nodes (x : Int)) (x : Int) (0, 0) := ⟨_, rfl⟩
 rw [← hRR] at HR ⊢
 have hx0 : (0 : Int) ≤ (x : Int) := by omega
 have hx1 : (x : Int) < (T.nodes.length : Int) := by omega
 have HROW : Hid (∀ W', Below W.heap.size W W' → W'.cell? ⟨cp, 2, none⟩ = some (.slice aL L.length cL)) := fun W' hb => cell_of_row _ _ 2 _ _ _ (hC.below hb).row
 clear hRR hkd htd hed h hC hL hop
 generalize argsF (mustT V T.vars.length T.nodes) (nodeOf T.nodes (x : Int)).kids = AF at *
 generalize nodeOf T.nodes (x : Int) = n at *
 generalize argsL n.op = ts at *
 rw [hk] at d0
 go_enter Tryz.func200, Tryz.ntmps200
 go_wp2_with fail
 have hA := heap_alloc_new W (.cells #[.int .i64 11, .int .i64 n.op, .string (bs n.name), .int .i64 n.num, .int .i64 n.far, .slice ak n.kids.length ck, .slice at1 n.thn.length ct, .slice ae n.els.length ce] 111)
 have hb1 : Below W.heap.size W (W.alloc (.cells #[.int .i64 11, .int .i64 n.op, .string (bs n.name), .int .i64 n.num, .int .i64 n.far, .slice ak n.kids.length ck, .slice at1 n.thn.length ct, .slice ae n.els.length ce] 111)) := (Below.refl _ _).alloc (Nat.le_refl _) _
 generalize W.alloc (.cells #[.int .i64 11, .int .i64 n.op, .string (bs n.name), .int .i64 n.num, .int .i64 n.far, .slice ak n.kids.length ck, .slice at1 n.thn.length ct, .slice ae n.els.length ce] 111) = W1 at *
 refine (HBO.out _).mono ?_
 rintro e w2 ⟨⟨v1, a9, c9, rfl, hi⟩, hb⟩
 have n5 : w2.cell? ⟨W.heap.size, 5, none⟩ = some (.slice ak n.kids.length ck) := cell_of_row _ _ 5 _ _ _ (blk hA hb)
 have HB : Hid (Below W.heap.size W w2) := hb1.trans (hb.mono hb1.size)
 have HI : Hid (IntsV W1.heap.size w2 (.slice a9 ts.length c9) ts) := hi
 have k2 := HROW.out w2 HB.out
 have hfl : ∀ W, (Instr.field 164 (.agg #[v1, .slice a9 ts.length c9]) 1).run Tryz.prog W = .ok (.slice a9 ts.length c9) W := fun W => fieldB1 _ _ W
 clear hA hb1 hb hi HBO HROW k0 d0 d1 d2 d3 d4 d5 d6 d7
 by_cases hlen : ts.length = n.kids.length
 ·by_cases hLn : L.length = 0
  ·have HR2 : Hid (R = AF ts (0, 0)) := by unfold Hid; rw [HR.out, if_neg (by simp [hlen, List.eq_nil_of_length_eq_zero hLn])]
   have hL1 : ¬ (0 < L.length) := by omega
   have HMX : Hid (Calls Tryz.prog 177 #[.pointer (some ⟨cp, 0, none⟩), .slice ak n.kids.length ck, .slice a9 n.kids.length c9] w2 fun e w' => e = .returned (errV (AF ts (0, 0))) ∧ Below w2.heap.size w2 w') := by
    have := HMU.out w2 _ _ ts HB.out hlen.symm hal.2 HI.out
    rw [hlen] at this; exact this
   rw [hlen] at hfl ⊢
   have hk3 : n.kids.length ≤ 3 := by omega
   clear HR hLn hlen HMU HI hal
   go_wp2_with fail
   refine HMX.out.mono ?_
   rintro e w8 ⟨rfl, hb⟩
   have HB8 : Hid (Below W.heap.size W w8) := HB.out.trans (hb.mono HB.out.size)
   clear hb HMX HB
   go_wp2_with fail
   go_ret
   exact ⟨by rw [HR2.out]; rfl, HB8.out⟩
  ·have HR2 : Hid (R = (2, (x : Int))) := by unfold Hid; rw [HR.out, if_pos (Or.inr (fun e => hLn (by rw [e]; rfl)))]
   have hL1 : 0 < L.length := by omega
   rw [hlen] at hfl ⊢
   have hk3 : n.kids.length ≤ 3 := by omega
   clear HR hLn hlen HMU HI hal
   go_wp2_with fail
   go_ret
   exact ⟨by rw [HR2.out]; rfl, HB.out⟩
 ·have HR2 : Hid (R = (2, (x : Int))) := by unfold Hid; rw [HR.out, if_pos (Or.inl hlen)]
  have hle : ((n.kids.length : Int) != (ts.length : Int)) = true := bne_iff_ne.2 (by omega)
  clear HR HMU HI
  go_wp2_with fail
  go_ret
  exact ⟨by rw [HR2.out]; rfl, HB.out⟩
def IListC (lo : Nat) (W0 : World) (cp mp B : Nat) (vn : Value) (T : LTree) (V : List LVar) (f : Nat) (L : List (List UInt8)) (list : List Int) : Prop := ∀ (W : World) (vk vl : Value), ICk W0 W cp mp vn vl → LoopO W B vl L → IntsV lo W0 vk list →
 Calls Tryz.prog 114 #[.pointer (some ⟨cp, 0, none⟩), vk] W fun e w' => e = .returned (errV (goL (stmtF (mustT V T.vars.length T.nodes) T.vars T.nodes f L) list (0, 0))) ∧ ∃ vl', ICk W0 w' cp mp vn vl' ∧ LoopO w' B vl' L ∧ Duo cp vl vl' W w'
theorem orz_stmt {V : List LVar} {T : LTree} {f : Nat} {L : List (List UInt8)} (l : List Int) {st : Met} (h : Orz st) : Orz (goL (stmtF (mustT V T.vars.length T.nodes) T.vars T.nodes f L) l st) :=
 goL_orz (fun y s hs => stmt_orz (fun _ _ _ h => must_orz h) f L y s hs) l st h
set_option maxHeartbeats 12800000 in
set_option maxRecDepth 100000 in
theorem choice_any (lo : Nat) (W0 W : World) (cp mp B f : Nat) (vn vl vk vt ve : Value) (T : LTree) (V : List LVar) (L : List (List UInt8)) (x : Nat) (h : CkT lo W0 cp mp vn T V) (hC : ICk W0 W cp mp vn vl) (hL : LoopO W B vl L) (hB : B = cp + 1) (hx : x < T.nodes.length) (hk : (nodeOf T.nodes (x : Int)).kind = 9)
  (hkd : IntsV lo W0 vk (nodeOf T.nodes (x : Int)).kids) (htd : IntsV lo W0 vt (nodeOf T.nodes (x : Int)).thn) (hed : IntsV lo W0 ve (nodeOf T.nodes (x : Int)).els)
  (hT : IListC lo W0 cp mp B vn T V f L (nodeOf T.nodes (x : Int)).thn) (hE : IListC lo W0 cp mp B vn T V f L (nodeOf T.nodes (x : Int)).els) :
  Calls Tryz.prog 198 #[.pointer (some ⟨cp, 0, none⟩), nodeV (nodeOf T.nodes (x : Int)) vk vt ve] W fun e w' => e = .returned (errV (goL (stmtF (mustT V T.vars.length T.nodes) T.vars T.nodes f L) (nodeOf T.nodes (x : Int)).els (goL (stmtF (mustT V T.vars.length T.nodes) T.vars T.nodes f L) (nodeOf T.nodes (x : Int)).thn (mustT V T.vars.length T.nodes ((nodeOf T.nodes (x : Int)).kids.getD 0 0) 2 (0, 0))))) ∧ ∃ vl', ICk W0 w' cp mp vn vl' ∧ LoopO w' B vl' L ∧ Duo cp vl vl' W w' := by
 obtain ⟨_, _, s9⟩ := stat_kids (h.b.good.node x _ (node_get hx)).1
 obtain ⟨y, hy⟩ := s9 hk
 have hcl := blk_lt hC.row
 have hrl : ∀ g, vl.ownBlock = some g → B ≤ g ∧ g < W.heap.size := fun g hg => World.ownsRow.lt hL g hg
 have hgv : vl.ownBlock ≠ some W.heap.size := fun e => by have := (hrl _ e).2; omega
 have hgc : W.heap.size ≠ cp := by omega
 obtain ⟨ak, ck, evk, _⟩ := id hkd
 obtain ⟨at1, ct, evt, _⟩ := id htd
 obtain ⟨ae, ce, eve, _⟩ := id hed
 subst evk; subst evt; subst eve
 have HMU : Hid (∀ (W' : World) (lt : Nat) (vt : Value), Below W.heap.size W W' → IntsV lt W' vt [2] → Calls Tryz.prog 177 #[.pointer (some ⟨cp, 0, none⟩), .slice ak (nodeOf T.nodes (x : Int)).kids.length ck, vt] W' fun e w' => e = .returned (errV (mustT V T.vars.length T.nodes y 2 (0, 0))) ∧ Below W'.heap.size W' w') := fun W' lt vt hb hj => by
  have := mustBe_st (ts := [2]) h (hC.below hb) hx hkd (by rw [hy]; rfl) (by simp) hj
  rw [hy] at this
  rw [hy]; exact this
 have HTC : Hid (IListC lo W0 cp mp B vn T V f L (nodeOf T.nodes (x : Int)).thn ∧ IListC lo W0 cp mp B vn T V f L (nodeOf T.nodes (x : Int)).els) := ⟨hT, hE⟩
 have HTD : Hid (IntsV lo W0 (.slice at1 (nodeOf T.nodes (x : Int)).thn.length ct) (nodeOf T.nodes (x : Int)).thn ∧ IntsV lo W0 (.slice ae (nodeOf T.nodes (x : Int)).els.length ce) (nodeOf T.nodes (x : Int)).els) := ⟨htd, hed⟩
 have HCK : Hid (∀ W', Below W.heap.size W W' → ICk W0 W' cp mp vn vl ∧ LoopO W' B vl L ∧ Duo cp vl vl W W') := fun W' hb => ⟨hC.below hb, rowE_kept hL hb, hb.sole.duo _⟩
 obtain ⟨R, hR⟩ : ∃ R, R = goL (stmtF (mustT V T.vars.length T.nodes) T.vars T.nodes f L) (nodeOf T.nodes (x : Int)).els (goL (stmtF (mustT V T.vars.length T.nodes) T.vars T.nodes f L) (nodeOf T.nodes (x : Int)).thn (mustT V T.vars.length T.nodes ((nodeOf T.nodes (x : Int)).kids.getD 0 0) 2 (0, 0))) := ⟨_, rfl⟩
 rw [← hR]
 have HR : Hid (R = goL (stmtF (mustT V T.vars.length T.nodes) T.vars T.nodes f L) (nodeOf T.nodes (x : Int)).els (goL (stmtF (mustT V T.vars.length T.nodes) T.vars T.nodes f L) (nodeOf T.nodes (x : Int)).thn (mustT V T.vars.length T.nodes y 2 (0, 0)))) := by unfold Hid; rw [hR, hy]; rfl
 have HO1 : Hid (Orz (mustT V T.vars.length T.nodes y 2 (0, 0))) := must_orz (.inl rfl)
 clear hR h hC hL hkd htd hed hT hE s9 hy hrl
 obtain ⟨m, hm⟩ : ∃ m, m = mustT V T.vars.length T.nodes y 2 (0, 0) := ⟨_, rfl⟩
 rw [← hm] at HMU HR HO1
 clear hm
 generalize nodeOf T.nodes (x : Int) = n at *
 obtain ⟨m1, m2⟩ := m
 go_enter Tryz.func198, Tryz.ntmps198
 go_wp2_with fail
 have hA := heap_alloc_new W (.cells #[.int .i64 9, .int .i64 n.op, .string (bs n.name), .int .i64 n.num, .int .i64 n.far, .slice ak n.kids.length ck, .slice at1 n.thn.length ct, .slice ae n.els.length ce] 111)
 have hb1 : Below W.heap.size W (W.alloc (.cells #[.int .i64 9, .int .i64 n.op, .string (bs n.name), .int .i64 n.num, .int .i64 n.far, .slice ak n.kids.length ck, .slice at1 n.thn.length ct, .slice ae n.els.length ce] 111)) := (Below.refl _ _).alloc (Nat.le_refl _) _
 have hb2 : Below W.heap.size W ((W.alloc (.cells #[.int .i64 9, .int .i64 n.op, .string (bs n.name), .int .i64 n.num, .int .i64 n.far, .slice ak n.kids.length ck, .slice at1 n.thn.length ct, .slice ae n.els.length ce] 111)).alloc (.cells #[.int .i64 2] 2)) := hb1.alloc hb1.size _
 have hA2 := blk hA ((Below.refl _ _).alloc (Nat.le_refl (W.alloc (.cells #[.int .i64 9, .int .i64 n.op, .string (bs n.name), .int .i64 n.num, .int .i64 n.far, .slice ak n.kids.length ck, .slice at1 n.thn.length ct, .slice ae n.els.length ce] 111)).heap.size) (.cells #[.int .i64 2] 2))
 have hj : IntsV 0 ((W.alloc (.cells #[.int .i64 9, .int .i64 n.op, .string (bs n.name), .int .i64 n.num, .int .i64 n.far, .slice ak n.kids.length ck, .slice at1 n.thn.length ct, .slice ae n.els.length ce] 111)).alloc (.cells #[.int .i64 2] 2)) (.slice (some ⟨W.heap.size + 1, 0, none⟩) 1 1) [2] := by
  have := ints_of_heap (ts := [2]) (heap_alloc_new (W.alloc (.cells #[.int .i64 9, .int .i64 n.op, .string (bs n.name), .int .i64 n.num, .int .i64 n.far, .slice ak n.kids.length ck, .slice at1 n.thn.length ct, .slice ae n.els.length ce] 111)) (.cells #[.int .i64 2] 2))
  rw [alloc_sz] at this; exact this
 generalize (W.alloc (.cells #[.int .i64 9, .int .i64 n.op, .string (bs n.name), .int .i64 n.num, .int .i64 n.far, .slice ak n.kids.length ck, .slice at1 n.thn.length ct, .slice ae n.els.length ce] 111)).alloc (.cells #[.int .i64 2] 2) = W2 at *
 refine (HMU.out _ 0 _ hb2 hj).mono ?_
 rintro e w3 ⟨rfl, hb⟩
 have hA3 := blk hA2 hb
 have hb3 : Below W.heap.size W w3 := hb2.trans (hb.mono hb2.size)
 have HC3 : Hid (ICk W0 w3 cp mp vn vl ∧ LoopO w3 B vl L ∧ Duo cp vl vl W w3) := HCK.out w3 hb3
 have n6 : w3.cell? ⟨W.heap.size, 6, none⟩ = some (.slice at1 n.thn.length ct) := cell_of_row _ _ 6 _ _ _ hA3
 have n7 : w3.cell? ⟨W.heap.size, 7, none⟩ = some (.slice ae n.els.length ce) := cell_of_row _ _ 7 _ _ _ hA3
 have hz3 : W.heap.size < w3.heap.size := blk_lt hA3
 have N7 : Hid (w3.cell? ⟨W.heap.size, 7, none⟩ = some (.slice ae n.els.length ce)) := n7
 clear hA hb1 hb2 hA2 hj hb hA3 hb3 HMU HCK n7
 by_cases hz : m1 = 0
 ·subst hz
  have hm0 : ((0 : Int), m2) = (0, 0) := (HO1.out).resolve_right (fun h => h rfl)
  rw [hm0] at HR
  rw [errV_zero rfl]
  obtain ⟨r, hr⟩ : ∃ r, r = goL (stmtF (mustT V T.vars.length T.nodes) T.vars T.nodes f L) n.thn (0, 0) := ⟨_, rfl⟩
  have HO2 : Hid (Orz r) := by unfold Hid; rw [hr]; exact orz_stmt n.thn (.inl rfl)
  have HT1 : Hid (Calls Tryz.prog 114 #[.pointer (some ⟨cp, 0, none⟩), .slice at1 n.thn.length ct] w3 fun e w' => e = .returned (errV r) ∧ ∃ vl', ICk W0 w' cp mp vn vl' ∧ LoopO w' B vl' L ∧ Duo cp vl vl' w3 w') := by rw [hr]; exact HTC.out.1 w3 _ vl HC3.out.1 HC3.out.2.1 HTD.out.1
  rw [← hr] at HR
  clear hr hm0 HO1
  obtain ⟨r1, r2⟩ := r
  go_wp2_with fail
  refine HT1.out.mono ?_
  rintro e w4 ⟨rfl, vl4, hc4, hl4, hd4⟩
  have n7 : w4.cell? ⟨W.heap.size, 7, none⟩ = some (.slice ae n.els.length ce) := hd4.cell (p := ⟨W.heap.size, 7, none⟩) hgc hgv N7.out
  have HC4 : Hid (ICk W0 w4 cp mp vn vl4 ∧ LoopO w4 B vl4 L ∧ Duo cp vl vl4 W w4) := ⟨hc4, hl4, HC3.out.2.2.trans hd4⟩
  clear hc4 hl4 hd4 HC3 HT1 n6 N7
  by_cases hz4 : r1 = 0
  ·subst hz4
   have hr0 : ((0 : Int), r2) = (0, 0) := (HO2.out).resolve_right (fun h => h rfl)
   rw [hr0] at HR
   rw [errV_zero rfl]
   have HE1 : Hid (Calls Tryz.prog 114 #[.pointer (some ⟨cp, 0, none⟩), .slice ae n.els.length ce] w4 fun e w' => e = .returned (errV R) ∧ ∃ vl', ICk W0 w' cp mp vn vl' ∧ LoopO w' B vl' L ∧ Duo cp vl4 vl' w4 w') := by unfold Hid; rw [HR.out]; exact HTC.out.2 w4 _ vl4 HC4.out.1 HC4.out.2.1 HTD.out.2
   clear HR hr0 HO2 HTC HTD
   go_wp2_with fail
   refine HE1.out.mono ?_
   rintro e w5 ⟨rfl, vl5, hc5, hl5, hd5⟩
   have HC5 : Hid (ICk W0 w5 cp mp vn vl5 ∧ LoopO w5 B vl5 L ∧ Duo cp vl vl5 W w5) := ⟨hc5, hl5, HC4.out.2.2.trans hd5⟩
   clear hc5 hl5 hd5 HC4 HE1 n7
   go_wp2_with fail
   go_ret
   exact ⟨rfl, vl5, HC5.out⟩
  ·have HRE : Hid (errV R = .iface 89 (.agg #[.int .i64 r1, .int .i64 r2])) := by unfold Hid; rw [HR.out, goL_met hz4, errV_met hz4]
   rw [errV_met hz4]
   clear HR HO2 HTC HTD hz4
   go_wp2_with fail
   go_ret
   exact ⟨by rw [HRE.out]; rfl, vl4, HC4.out⟩
 ·have HRE : Hid (errV R = .iface 89 (.agg #[.int .i64 m1, .int .i64 m2])) := by unfold Hid; rw [HR.out, goL_met (l := n.thn) (show ((m1, m2) : Met).1 ≠ 0 from hz), goL_met hz, errV_met hz]
  rw [errV_met hz]
  clear HR HO1 HTC HTD hz
  go_wp2_with fail
  go_ret
  exact ⟨by rw [HRE.out]; rfl, vl, HC3.out⟩
end Go.Proofs.YtdnhmpemkpjcaaaGreatDoor
