/-
  impl.TreeFault.
-/
import Derived.Test.YtepjaoapjpmjkaaGreatDoorIParts
import Derived.Test.YtepjaoapjpmjkaaGreatDoorIParts
import Derived.Test.YtepjaoapjpmjkaaGreatDoorIDeep
import Derived.Test.YtepjaoapjpmjkaaGreatDoorSFault
import Derived.Test.YtepjaoapjpmjkaaGreatDoorTreeVar
namespace Go.Proofs.YtepjaoapjpmjkaaGreatDoor
open Go.RowKit
set_option linter.unusedVariables false
attribute [local go_sem] bs_size bs_get bs_extract bs_append bs_eq bs_toList
theorem own_kind {n : LNode} (h : ownB n = true) : inB n.kind 1 11 = true := by
 unfold ownB at h
 simp only [Bool.and_eq_true] at h
 exact h.1.1.1.1.1.1.1.1
theorem stat_refs {N : List LNode} {m : Nat} (hk : ∀ j, j < m → inB (kindAt N (j : Int)) 1 11 = true) (l : List Int) : statB N m l = refsB N m l false := by
 unfold statB refsB
 congr 1
 funext x
 unfold refB
 cases hx : inB x 0 ((m : Int) - 1) with
 | false => rfl
 | true =>
  have := inB_iff.1 hx
  obtain ⟨j, rfl⟩ : ∃ j : Nat, x = j := ⟨x.toNat, by omega⟩
  have h := inB_iff.1 (hk j (by omega))
  simp only [Bool.true_and]
  show inB (kindAt N (j : Int)) 7 11 = (inB (kindAt N (j : Int)) 1 6 == false)
  generalize kindAt N (j : Int) = K at *
  by_cases hK : K ≤ 6
  ·rw [show inB K 7 11 = false from inB_no.2 (by omega), show inB K 1 6 = true from inB_iff.2 (by omega)]; rfl
  ·rw [show inB K 7 11 = true from inB_iff.2 (by omega), show inB K 1 6 = false from inB_no.2 (by omega)]; rfl
theorem kids_refs (N : List LNode) (m : Nat) (l : List Int) : kidsB N m l = refsB N m l true := by
 unfold kidsB refsB
 congr 1
 funext x
 unfold refB
 cases hx : inB x 0 ((m : Int) - 1) with
 | false => rfl
 | true =>
  simp only [Bool.true_and]
  show inB (kindAt N x) 1 6 = (inB (kindAt N x) 1 6 == true)
  cases inB (kindAt N x) 1 6 <;> rfl
theorem right_parts {N : List LNode} {m : Nat} (hk : ∀ j, j < m → inB (kindAt N (j : Int)) 1 11 = true) : rightB N m = (ownB (N.getD m default) && partsB N m (N.getD m default)) := by
 rw [rightB_eq, partsB, kids_refs, stat_refs hk, stat_refs hk]
 simp only [Bool.and_assoc]
theorem kinds_of_rights {N : List LNode} {m : Nat} (h : ∀ j, j < m → rightB N j = true) : ∀ j, j < m → inB (kindAt N (j : Int)) 1 11 = true := fun j hj => by
 have := h j hj
 rw [rightB_eq] at this
 simp only [Bool.and_eq_true] at this
 exact own_kind this.1.1.1
theorem slice_preN (b o k n c : Nat) (h : k ≤ n) (hc : n ≤ c) (W : World) : (Instr.slice 32 (.slice (some ⟨b, o, none⟩) n c) none (some (.int .i64 (k : Int))) none).run Tryz.prog W = .ok (.slice (some ⟨b, o, none⟩) k c) W := by
 have hu := Tryz.underlying32
 have hkc : k ≤ c := Nat.le_trans h hc
 simp [go_sem, hu, hkc]
theorem kinds_of_nodes {lo : Nat} {w : World} {a : Option Addr} {c : Nat} {N : List LNode} (h : NodesV lo w (.slice a N.length c) N) (m : Nat) (hm : m ≤ N.length) : Kinds w a N m := fun h0 => by
 obtain ⟨_, _, he, _, hh⟩ := h
 cases he
 obtain ⟨b, o, e, _, hc⟩ := hh (by rintro rfl; simp at hm; omega)
 refine ⟨b, o, e, fun i x hi hx => ?_⟩
 obtain ⟨_, _, _, hcs, _⟩ := hc i x hx
 exact hcs.c0
set_option maxHeartbeats 12800000 in
set_option maxRecDepth 100000 in
theorem implTreeFault : TreeInt 38 faultL := by
 intro lo vv vn vb T w h hS
 obtain ⟨av, cv, rfl, _, hhv⟩ := id h.vars
 obtain ⟨an, cn, rfl, hcn, hhn⟩ := id h.nodes
 obtain ⟨ab, cb, rfl, _⟩ := id h.body
 have HT : Hid (TreeV lo w (.slice av T.vars.length cv) (.slice an T.nodes.length cn) (.slice ab T.body.length cb) T) := h
 have hlv := hS.vars
 have hln := hS.nodes
 have HS : Hid (Sized 1048576 T) := hS
 have HV : Hid (T.vars ≠ [] → ∃ b o, av = some ⟨b, o, none⟩ ∧ lo ≤ b ∧ ∀ (i : Nat) (x : LVar), T.vars[i]? = some x → VarAt w b (o + i * 4) x) := hhv
 have HN : Hid (T.nodes ≠ [] → ∃ b o, an = some ⟨b, o, none⟩ ∧ lo ≤ b ∧ ∀ (i : Nat) (x : LNode), T.nodes[i]? = some x → NodeAt lo w b (o + i * 8) x) := hhn
 obtain ⟨F, hF⟩ : ∃ F, F = faultL T := ⟨_, rfl⟩
 rw [← hF]
 have HF : Hid (F = if 24 < T.vars.length ∨ 200 < T.nodes.length then 2 else if varsB T.vars ≠ 0 then varsB T.vars else if rightsB T.nodes = false then 1 else if refsB T.nodes T.nodes.length T.body false = false then 1 else if (countsL T).all (fun c => decide (c = 1)) = false then 1 else if (depthsF T.nodes T.nodes.length).all (fun d => decide (d ≤ 20)) = false then 9 else 0) := hF
 clear h hhv hhn hS hF
 by_cases hv : 24 < T.vars.length
 ·have HE : Hid (F = 2) := by unfold Hid; rw [HF.out, if_pos (Or.inl hv)]
  have hb1 : decide ((24 : Int) < ((T.vars.length : Nat) : Int)) = true := decide_eq_true (by omega)
  clear HF
  go_enter Tryz.func38, Tryz.ntmps38
  go_wp2
  go_ret
  exact ⟨by rw [HE.out]; rfl, by go_grown⟩
 by_cases hn2 : 200 < T.nodes.length
 ·have HE : Hid (F = 2) := by unfold Hid; rw [HF.out, if_pos (Or.inr hn2)]
  have hb1 : decide ((24 : Int) < ((T.vars.length : Nat) : Int)) = false := decide_eq_false (by omega)
  have hb2 : decide ((200 : Int) < ((T.nodes.length : Nat) : Int)) = true := decide_eq_true (by omega)
  clear HF hv hn2
  go_enter Tryz.func38, Tryz.ntmps38
  go_wp2
  go_ret
  exact ⟨by rw [HE.out]; rfl, by go_grown⟩
 have hb1 : decide ((24 : Int) < ((T.vars.length : Nat) : Int)) = false := decide_eq_false (by omega)
 have hb2 : decide ((200 : Int) < ((T.nodes.length : Nat) : Int)) = false := decide_eq_false (by omega)
 have HF : Hid (F = if varsB T.vars ≠ 0 then varsB T.vars else if rightsB T.nodes = false then 1 else if refsB T.nodes T.nodes.length T.body false = false then 1 else if (countsL T).all (fun c => decide (c = 1)) = false then 1 else if (depthsF T.nodes T.nodes.length).all (fun d => decide (d ≤ 20)) = false then 9 else 0) := by
  unfold Hid; rw [HF.out, if_neg (by omega)]
 have HN200 : Hid (T.nodes.length ≤ 200) := by unfold Hid; omega
 clear hv hn2
 go_enter Tryz.func38, Tryz.ntmps38
 go_wp2
 clear hb1 hb2
 have hA := heap_alloc_new w (.cells #[.slice av T.vars.length cv, .slice an T.nodes.length cn, .slice ab T.body.length cb] 34)
 have hB : Below w.heap.size w (w.alloc (.cells #[.slice av T.vars.length cv, .slice an T.nodes.length cn, .slice ab T.body.length cb] 34)) := (Below.refl _ _).alloc (Nat.le_refl _) _
 generalize w.alloc (.cells #[.slice av T.vars.length cv, .slice an T.nodes.length cn, .slice ab T.body.length cb] 34) = W0 at *
 have HA : Hid (W0.heap[w.heap.size]? = some (.cells #[.slice av T.vars.length cv, .slice an T.nodes.length cn, .slice ab T.body.length cb] 34 (0, 0))) := hA
 have HB0 : Hid (Below w.heap.size w W0) := hB
 have hw0 : w.heap.size < W0.heap.size := (Array.getElem?_eq_some_iff.1 hA).1
 clear hA hB
 go_loopw [19] (fun i wr => ∃ k : Nat, k ≤ T.vars.length ∧ i = .int .i64 k ∧ varsB T.vars = varsB (T.vars.drop k) ∧ Below W0.heap.size W0 wr) (fun i _ => T.vars.length - (intOf i).toNat)
 case atStart => exact ⟨0, by omega, rfl, rfl, Below.refl _ _⟩
 case round =>
  obtain ⟨k, hk, rfl, hvb, hB⟩ := hrel
  have HVB : Hid (varsB T.vars = varsB (T.vars.drop k)) := hvb
  have HBW : Hid (Below W0.heap.size W0 wr) := hB
  have HB : Hid (Below w.heap.size w wr) := HB0.out.trans (hB.mono HB0.out.size)
  clear hvb
  by_cases hlt : k < T.vars.length
  ·obtain ⟨x, hx⟩ : ∃ x, T.vars[k]? = some x := ⟨T.vars[k], List.getElem?_eq_getElem hlt⟩
   obtain ⟨g, o, rfl, _, hc1⟩ := HV.out (by intro e; rw [e] at hlt; simp at hlt)
   obtain ⟨c0, c1, c2, c3⟩ := (hc1 k x hx).keep (lo := 0) (Keeps.of_below HB.out) (Nat.zero_le _)
   have hnl : x.name.length ≤ 1048576 := HS.out.names x (List.mem_of_getElem? hx)
   have HX : Hid (T.vars[k]? = some x) := hx
   clear hx hc1 hB
   go_wp2_with fail
   have hA := heap_alloc_new wr (.cells #[.string (bs x.name), .int .i64 x.kind, .int .i64 x.type, .int .i64 x.size] 108)
   have hB5 : Below wr.heap.size wr (wr.alloc (.cells #[.string (bs x.name), .int .i64 x.kind, .int .i64 x.type, .int .i64 x.size] 108)) := (Below.refl _ _).alloc (Nat.le_refl _) _
   generalize wr.alloc (.cells #[.string (bs x.name), .int .i64 x.kind, .int .i64 x.type, .int .i64 x.size] 108) = W5 at *
   refine (iIsName_any x.name _ (by omega)).mono ?_
   rintro e w6 ⟨rfl, rfl⟩
   have HB6 : Hid (Below W0.heap.size W0 w6) := HBW.out.trans (hB5.mono HBW.out.size)
   have HB7 : Hid (Below w.heap.size w w6) := HB0.out.trans (HB6.out.mono HB0.out.size)
   obtain ⟨-, d1, d2, d3⟩ := cl4 hA
   clear hA hB5 c0 c1 c2 c3
   have HVX : Hid (varB x = if isNameL x.name then (if inB x.kind 1 3 && inB x.type 1 2 && inB x.size 0 8 then 0 else 3) else 5) := rfl
   generalize isNameL x.name = qn at *
   have HBAD : Hid (varB x ≠ 0 → F = varB x) := fun hne => by
    rw [HF.out, HVB.out, varsB_hit HX.out hne, if_pos hne]
   have HGOOD : Hid (varB x = 0 → varsB T.vars = varsB (T.vars.drop (k + 1))) := fun he => by
    rw [HVB.out, varsB_miss HX.out he]
   cases qn with
   | false =>
    have HE : Hid (F = 5) := by
     have h5 : varB x = 5 := by rw [HVX.out]; rfl
     have := HBAD.out (by rw [h5]; decide)
     unfold Hid; rw [this, h5]
    go_wp2_with fail
    go_ret
    exact ⟨by rw [HE.out]; rfl, HB7.out⟩
   | true =>
    go_wp2_with fail
    refine (within_any x.kind 1 3 _).mono ?_
    rintro e w7 ⟨rfl, rfl⟩
    generalize inB x.kind 1 3 = q1 at *
    cases q1 with
    | false =>
     have HE : Hid (F = 3) := by
      have h5 : varB x = 3 := by rw [HVX.out]; rfl
      have := HBAD.out (by rw [h5]; decide)
      unfold Hid; rw [this, h5]
     go_wp2_with fail
     go_ret
     exact ⟨by rw [HE.out]; rfl, HB7.out⟩
    | true =>
     go_wp2_with fail
     refine (within_any x.type 1 2 _).mono ?_
     rintro e w7 ⟨rfl, rfl⟩
     generalize inB x.type 1 2 = q2 at *
     cases q2 with
     | false =>
      have HE : Hid (F = 3) := by
       have h5 : varB x = 3 := by rw [HVX.out]; rfl
       have := HBAD.out (by rw [h5]; decide)
       unfold Hid; rw [this, h5]
      go_wp2_with fail
      go_ret
      exact ⟨by rw [HE.out]; rfl, HB7.out⟩
     | true =>
      go_wp2_with fail
      refine (within_any x.size 0 8 _).mono ?_
      rintro e w7 ⟨rfl, rfl⟩
      generalize inB x.size 0 8 = q3 at *
      cases q3 with
      | false =>
       have HE : Hid (F = 3) := by
        have h5 : varB x = 3 := by rw [HVX.out]; rfl
        have := HBAD.out (by rw [h5]; decide)
        unfold Hid; rw [this, h5]
       go_wp2_with fail
       go_ret
       exact ⟨by rw [HE.out]; rfl, HB7.out⟩
      | true =>
       have HNX : Hid (varsB T.vars = varsB (T.vars.drop (k + 1))) := HGOOD.out (by rw [HVX.out]; rfl)
       go_wp2_with fail
       go_roundw
       case rel => exact ⟨k + 1, by omega, by go_num, HNX.out, HB6.out⟩
       case measure => simp [intOf]; omega
  ·have hke : k = T.vars.length := by omega
   have hz : varsB T.vars = 0 := by rw [HVB.out, hke, List.drop_length]; rfl
   have HF2 : Hid (F = if rightsB T.nodes = false then 1 else if refsB T.nodes T.nodes.length T.body false = false then 1 else if (countsL T).all (fun c => decide (c = 1)) = false then 1 else if (depthsF T.nodes T.nodes.length).all (fun d => decide (d ≤ 20)) = false then 9 else 0) := by
    unfold Hid; rw [HF.out, if_neg (by simp [hz])]
   have q1 : wr.cell? ⟨w.heap.size, 1, none⟩ = some (.slice an T.nodes.length cn) := (hB.cell (p := ⟨w.heap.size, 1, none⟩) hw0).trans (cell_of_row _ _ 1 _ _ _ HA.out)
   clear HF HVB hz hke HB hB
   generalize hwq : wr = w1 at *
   clear hwq
   go_wp2
   clear q1
   go_loopw [47] (fun i wr => ∃ m : Nat, m ≤ T.nodes.length ∧ i = .int .i64 m ∧ (∀ j, j < m → rightB T.nodes j = true) ∧ Below W0.heap.size W0 wr) (fun i _ => T.nodes.length - (intOf i).toNat)
   case atStart => exact ⟨0, by omega, rfl, by omega, HBW.out⟩
   case round =>
    obtain ⟨m, hm, rfl, hall, hB⟩ := hrel
    have HALL : Hid (∀ j, j < m → rightB T.nodes j = true) := hall
    have HB2 : Hid (Below W0.heap.size W0 wr) := hB
    have HB3 : Hid (Below w.heap.size w wr) := HB0.out.trans (hB.mono HB0.out.size)
    have q0 : wr.cell? ⟨w.heap.size, 0, none⟩ = some (.slice av T.vars.length cv) := (hB.cell (p := ⟨w.heap.size, 0, none⟩) hw0).trans (cell_of_row _ _ 0 _ _ _ HA.out)
    have q1 : wr.cell? ⟨w.heap.size, 1, none⟩ = some (.slice an T.nodes.length cn) := (hB.cell (p := ⟨w.heap.size, 1, none⟩) hw0).trans (cell_of_row _ _ 1 _ _ _ HA.out)
    have q2 : wr.cell? ⟨w.heap.size, 2, none⟩ = some (.slice ab T.body.length cb) := (hB.cell (p := ⟨w.heap.size, 2, none⟩) hw0).trans (cell_of_row _ _ 2 _ _ _ HA.out)
    have hwr : w.heap.size < wr.heap.size := Nat.lt_of_lt_of_le hw0 hB.size
    clear hall hB
    by_cases hlt2 : m < T.nodes.length
    ·obtain ⟨y, hy⟩ : ∃ y, T.nodes[m]? = some y := ⟨T.nodes[m], List.getElem?_eq_getElem hlt2⟩
     obtain ⟨g2, o2, rfl, _, hc2⟩ := HN.out (by intro e; rw [e] at hlt2; simp at hlt2)
     obtain ⟨vk, vt, ve, hcs, hvs⟩ := hc2 m y hy
     obtain ⟨d0, d1, d2, d3, d4, d5, d6, d7⟩ := hcs.keep (lo := 0) (fun g _ hg => HB3.out.block g hg) (Nat.zero_le _)
     have hgw2 : g2 < w.heap.size := World.block_lt_of_cell? _ _ hcs.c0
     obtain ⟨ak, ck, rfl, _⟩ := id hvs.kids
     obtain ⟨at2, ct, rfl, _⟩ := id hvs.thn
     obtain ⟨ae, ce, rfl, _⟩ := id hvs.els
     have hsz := HS.out.node y (List.mem_of_getElem? hy)
     have hgd : T.nodes.getD m default = y := by rw [List.getD_eq_getElem?_getD, hy]; rfl
     have HRB : Hid (rightB T.nodes m = (ownB y && partsB T.nodes m y)) := by unfold Hid; rw [right_parts (kinds_of_rights HALL.out), hgd]
     have HSH : Hid (∀ W, Calls Tryz.prog 74 #[nodeV y (.slice ak y.kids.length ck) (.slice at2 y.thn.length ct) (.slice ae y.els.length ce)] W fun e w' => e = .returned (.bool (ownB y)) ∧ Below W.heap.size W w') := fun W => hasShape_any y ak at2 ae ck ct ce W hsz.1 hsz.2.1 hsz.2.2.1 hsz.2.2.2
     have HPT : Hid (∀ W, Below w.heap.size w W → Calls Tryz.prog 75 #[.slice (some ⟨g2, o2, none⟩) m cn, nodeV y (.slice ak y.kids.length ck) (.slice at2 y.thn.length ct) (.slice ae y.els.length ce)] W fun e w' => e = .returned (.bool (partsB T.nodes m y)) ∧ Below W.heap.size W w') := fun W hb => by
      have hN := HT.out.nodes.below hb
      have hv := hvs.below hb
      exact hasParts_any T.nodes m _ cn y _ _ _ W (by omega) (by omega) (kinds_of_nodes hN m (by omega)) hv.kids.toB hv.thn.toB hv.els.toB hsz.2.1 hsz.2.2.1 hsz.2.2.2
     have hsl : ∀ W, (Instr.slice 32 (.slice (some ⟨g2, o2, none⟩) T.nodes.length cn) none (some (.int .i64 (m : Int))) none).run Tryz.prog W = .ok (.slice (some ⟨g2, o2, none⟩) m cn) W := slice_preN g2 o2 m T.nodes.length cn (by omega) hcn
     have hm0 : (0 : Int) ≤ (m : Int) := by omega
     have hm1 : (m : Int) < (T.nodes.length : Int) := by omega
     have hg2r : g2 < wr.heap.size := Nat.lt_of_lt_of_le hgw2 HB3.out.size
     have HQ1 : Hid (wr.cell? ⟨w.heap.size, 1, none⟩ = some (.slice (some ⟨g2, o2, none⟩) T.nodes.length cn)) := q1
     have HD0 := d0
     have HDC : Hid (NodeCells wr g2 (o2 + m * 8) y (.slice ak y.kids.length ck) (.slice at2 y.thn.length ct) (.slice ae y.els.length ce)) := ⟨d0, d1, d2, d3, d4, d5, d6, d7⟩
     obtain ⟨qo, hqo⟩ : ∃ q, ownB y = q := ⟨_, rfl⟩
     obtain ⟨qp, hqp⟩ : ∃ q, partsB T.nodes m y = q := ⟨_, rfl⟩
     rw [hqo] at HSH HRB
     rw [hqp] at HPT HRB
     clear hy hc2 hcs hvs hgd hsz HD0 hqo hqp q0 q2
     cases qo with
     | false =>
      have HE : Hid (F = 1) := by
       unfold Hid; rw [HF2.out, if_pos]
       exact List.all_eq_false.2 ⟨m, List.mem_range.2 hlt2, by rw [HRB.out]; simp⟩
      go_wp2_with fail
      have HCL : Hid (∀ W, Below wr.heap.size wr W → W.cell? ⟨w.heap.size, 1, none⟩ = some (.slice (some ⟨g2, o2, none⟩) T.nodes.length cn) ∧ NodeCells W g2 (o2 + m * 8) y (.slice ak y.kids.length ck) (.slice at2 y.thn.length ct) (.slice ae y.els.length ce)) := fun W hD =>
       ⟨(hD.cell (p := ⟨w.heap.size, 1, none⟩) hwr).trans HQ1.out, HDC.out.keep (lo := 0) (fun g _ hg => hD.block g hg) (Nat.zero_le _)⟩
      refine wp_region_quiet (C := fun W => Below wr.heap.size wr W) (by kernel_rfl) (by kernel_rfl) ((Below.refl wr.heap.size wr).drew) ?_
      clear d0 d1 d2 d3 d4 d5 d6 d7 q1
      refine wpQuiet_step (fun K hK => ?_)
      go_simp
      refine ⟨_, fun _ _ => rfl, hK _ ?_⟩
      clear hK K
      refine wpQuiet_step (fun K hK => ?_)
      go_simp
      refine ⟨.slice (some ⟨g2, o2, none⟩) T.nodes.length cn, fun W hD => ?_, hK _ ?_⟩
      ·obtain ⟨c1, hc⟩ := HCL.out W hD
       go_simp
      clear hK K
      refine wpQuiet_step (fun K hK => ?_)
      go_simp
      refine ⟨_, fun _ _ => rfl, hK _ ?_⟩
      clear hK K
      refine wpQuiet_step (fun K hK => ?_)
      go_simp
      refine ⟨_, fun _ _ => rfl, hK _ ?_⟩
      clear hK K
      refine wpQuiet_step (fun K hK => ?_)
      go_simp
      refine ⟨nodeV y (.slice ak y.kids.length ck) (.slice at2 y.thn.length ct) (.slice ae y.els.length ce), fun W hD => ?_, hK _ ?_⟩
      ·obtain ⟨c1, hc⟩ := HCL.out W hD
       obtain ⟨e0, e1, e2, e3, e4, e5, e6, e7⟩ := hc
       go_simp
      clear hK K
      refine wpQuiet_step (fun K hK => ?_)
      go_simp
      refine ⟨.bool false, fun W hD => (HSH.out W).mono (fun e w' h => ⟨h.1, hD.trans (Below.mono h.2 hD.size)⟩), hK _ ?_⟩
      clear hK K
      refine wpQuiet_step (fun K hK => ?_)
      go_simp
      refine ⟨.bool true, fun _ _ => rfl, ?_⟩
      apply hK
      clear hK K
      refine wpQuiet_step (fun K hK => ?_)
      go_simp
      refine ⟨.bool true, fun _ _ => rfl, ?_⟩
      apply hK
      clear hK K
      repeat go_big_quiet_skip
      refine wpQuiet_step (fun K hK => ?_)
      go_simp
      refine ⟨.bool true, fun _ _ => rfl, ?_⟩
      apply hK
      clear hK K
      refine wpQuiet_nil ?_
      intro w5 hD
      have HB4 : Hid (Below w.heap.size w w5) := HB3.out.trans (Below.mono hD HB3.out.size)
      clear hD
      go_wp2_with fail
      go_ret
      exact ⟨by rw [HE.out]; rfl, HB4.out⟩
     | true =>
      have HRQ : Hid (rightB T.nodes m = qp) := by unfold Hid; rw [HRB.out]; simp
      clear HRB
      cases qp with
      | false =>
       have HE : Hid (F = 1) := by
        unfold Hid; rw [HF2.out, if_pos]
        exact List.all_eq_false.2 ⟨m, List.mem_range.2 hlt2, by rw [HRQ.out]; simp⟩
       go_wp2_with fail
       go_region_held3 (fun W => W.cell? ⟨w.heap.size, 1, none⟩ = some (.slice (some ⟨g2, o2, none⟩) T.nodes.length cn) ∧ (W.cell? ⟨g2, o2 + m * 8, none⟩ = some (.int .i64 y.kind) ∧ W.cell? ⟨g2, o2 + m * 8 + 1, none⟩ = some (.int .i64 y.op) ∧ W.cell? ⟨g2, o2 + m * 8 + 2, none⟩ = some (.string (bs y.name)) ∧ W.cell? ⟨g2, o2 + m * 8 + 3, none⟩ = some (.int .i64 y.num) ∧ W.cell? ⟨g2, o2 + m * 8 + 4, none⟩ = some (.int .i64 y.far) ∧ W.cell? ⟨g2, o2 + m * 8 + 5, none⟩ = some (.slice ak y.kids.length ck) ∧ W.cell? ⟨g2, o2 + m * 8 + 6, none⟩ = some (.slice at2 y.thn.length ct) ∧ W.cell? ⟨g2, o2 + m * 8 + 7, none⟩ = some (.slice ae y.els.length ce))) (go_keep) (first | (go_at_call 74; refine (HSH.out _).mono ?_; rintro e w2 ⟨rfl, hb⟩; have hD : Below wr.heap.size wr w2 := ((Below.refl wr.heap.size wr).drew).trans (Below.mono hb (Nat.le_refl _)); have q1' := (hD.cell (p := ⟨w.heap.size, 1, none⟩) hwr).trans HQ1.out; obtain ⟨e0, e1, e2, e3, e4, e5, e6, e7⟩ := HDC.out.keep (lo := 0) (w' := w2) (fun g _ hg => hD.block g hg) (Nat.zero_le _); have HB4 : Hid (Below w.heap.size w w2) := HB3.out.trans (hD.mono HB3.out.size); have HC4 : Hid (Below W0.heap.size W0 w2) := HB2.out.trans (hD.mono HB2.out.size); clear hb hD) | (go_at_call 75; refine (HPT.out _ (by exact HB4.out)).mono ?_; rintro e w5 ⟨rfl, hb⟩; have HC5 : Hid (Below W0.heap.size W0 w5) := HC4.out.trans (hb.mono HC4.out.size); have e9 := (hb.cell (p := ⟨w.heap.size, 1, none⟩) (Nat.lt_of_lt_of_le hw0 HC4.out.size)).trans q1'; obtain ⟨f0, f1, f2, f3, f4, f5, f6, f7⟩ := NodeCells.keep (lo := 0) (w' := w5) (⟨e0, e1, e2, e3, e4, e5, e6, e7⟩ : NodeCells w2 g2 (o2 + m * 8) y (.slice ak y.kids.length ck) (.slice at2 y.thn.length ct) (.slice ae y.els.length ce)) (fun g _ hg => hb.block g hg) (Nat.zero_le _); have HB5 : Hid (Below w.heap.size w w5) := HB4.out.trans (hb.mono HB4.out.size); clear hb))
       go_wp2_with fail
       go_ret
       exact ⟨by rw [HE.out]; rfl, HB5.out⟩
      | true =>
       go_wp2_with fail
       go_region_held3 (fun W => W.cell? ⟨w.heap.size, 1, none⟩ = some (.slice (some ⟨g2, o2, none⟩) T.nodes.length cn) ∧ (W.cell? ⟨g2, o2 + m * 8, none⟩ = some (.int .i64 y.kind) ∧ W.cell? ⟨g2, o2 + m * 8 + 1, none⟩ = some (.int .i64 y.op) ∧ W.cell? ⟨g2, o2 + m * 8 + 2, none⟩ = some (.string (bs y.name)) ∧ W.cell? ⟨g2, o2 + m * 8 + 3, none⟩ = some (.int .i64 y.num) ∧ W.cell? ⟨g2, o2 + m * 8 + 4, none⟩ = some (.int .i64 y.far) ∧ W.cell? ⟨g2, o2 + m * 8 + 5, none⟩ = some (.slice ak y.kids.length ck) ∧ W.cell? ⟨g2, o2 + m * 8 + 6, none⟩ = some (.slice at2 y.thn.length ct) ∧ W.cell? ⟨g2, o2 + m * 8 + 7, none⟩ = some (.slice ae y.els.length ce))) (go_keep) (first | (go_at_call 74; refine (HSH.out _).mono ?_; rintro e w2 ⟨rfl, hb⟩; have hD : Below wr.heap.size wr w2 := ((Below.refl wr.heap.size wr).drew).trans (Below.mono hb (Nat.le_refl _)); have q1' := (hD.cell (p := ⟨w.heap.size, 1, none⟩) hwr).trans HQ1.out; obtain ⟨e0, e1, e2, e3, e4, e5, e6, e7⟩ := HDC.out.keep (lo := 0) (w' := w2) (fun g _ hg => hD.block g hg) (Nat.zero_le _); have HB4 : Hid (Below w.heap.size w w2) := HB3.out.trans (hD.mono HB3.out.size); have HC4 : Hid (Below W0.heap.size W0 w2) := HB2.out.trans (hD.mono HB2.out.size); clear hb hD) | (go_at_call 75; refine (HPT.out _ (by exact HB4.out)).mono ?_; rintro e w5 ⟨rfl, hb⟩; have HC5 : Hid (Below W0.heap.size W0 w5) := HC4.out.trans (hb.mono HC4.out.size); have e9 := (hb.cell (p := ⟨w.heap.size, 1, none⟩) (Nat.lt_of_lt_of_le hw0 HC4.out.size)).trans q1'; obtain ⟨f0, f1, f2, f3, f4, f5, f6, f7⟩ := NodeCells.keep (lo := 0) (w' := w5) (⟨e0, e1, e2, e3, e4, e5, e6, e7⟩ : NodeCells w2 g2 (o2 + m * 8) y (.slice ak y.kids.length ck) (.slice at2 y.thn.length ct) (.slice ae y.els.length ce)) (fun g _ hg => hb.block g hg) (Nat.zero_le _); have HB5 : Hid (Below w.heap.size w w5) := HB4.out.trans (hb.mono HB4.out.size); clear hb))
       go_wp2_with fail
       go_roundw
       case rel => exact ⟨m + 1, by omega, by go_num, fun j hj => by
         rcases Nat.lt_succ_iff_lt_or_eq.1 hj with h | rfl
         ·exact HALL.out j h
         ·exact HRQ.out, HC5.out⟩
       case measure => simp [intOf]; omega
    ·have hme : m = T.nodes.length := by omega
     subst hme
     have hrt : rightsB T.nodes = true := List.all_eq_true.2 (fun j hj => HALL.out j (by have := List.mem_range.1 hj; omega))
     have HRT : Hid (rightsB T.nodes = true) := hrt
     have HF3 : Hid (F = if refsB T.nodes T.nodes.length T.body false = false then 1 else if (countsL T).all (fun c => decide (c = 1)) = false then 1 else if (depthsF T.nodes T.nodes.length).all (fun d => decide (d ≤ 20)) = false then 9 else 0) := by
      unfold Hid; rw [HF2.out, if_neg (by simp [hrt])]
     have HST : Hid (Calls Tryz.prog 76 #[.slice an T.nodes.length cn, .slice ab T.body.length cb] wr fun e w' => e = .returned (.bool (refsB T.nodes T.nodes.length T.body false)) ∧ w' = wr) := by
      have hN := HT.out.nodes.below HB3.out
      have h := areStatements_any T.nodes T.nodes.length an cn _ T.body wr.heap.size wr (Nat.le_refl _) hln (kinds_of_nodes hN _ (Nat.le_refl _)) (HT.out.body.below HB3.out).toB HS.out.body
      rw [stat_refs (kinds_of_rights HALL.out)] at h
      exact h
     clear HF2 hrt HALL
     obtain ⟨q, hq⟩ : ∃ q, refsB T.nodes T.nodes.length T.body false = q := ⟨_, rfl⟩
     rw [hq] at HST HF3
     have HQ : Hid (refsB T.nodes T.nodes.length T.body false = q) := hq
     clear hq
     cases q with
     | false =>
      have HE : Hid (F = 1) := by unfold Hid; rw [HF3.out, if_pos rfl]
      go_wp2_with fail
      refine HST.out.mono ?_
      rintro e w5 ⟨rfl, rfl⟩
      go_wp2_with fail
      go_ret
      exact ⟨by rw [HE.out]; rfl, HB3.out⟩
     | true =>
      have HF4 : Hid (F = if (countsL T).all (fun c => decide (c = 1)) = false then 1 else if (depthsF T.nodes T.nodes.length).all (fun d => decide (d ≤ 20)) = false then 9 else 0) := by unfold Hid; rw [HF3.out, if_neg (by decide)]
      have HON : Hid (Calls Tryz.prog 77 #[treeV (.slice av T.vars.length cv) (.slice an T.nodes.length cn) (.slice ab T.body.length cb)] wr fun e w' => e = .returned (.bool ((countsL T).all (fun c => decide (c = 1)))) ∧ Below wr.heap.size wr w') :=
       eachOnce_any lo _ _ _ T wr (HT.out.below HB3.out) HS.out HN200.out (rights_in HRT.out) (refs_in HQ.out)
      obtain ⟨qc, hqc⟩ : ∃ q, (countsL T).all (fun c => decide (c = 1)) = q := ⟨_, rfl⟩
      rw [hqc] at HON HF4
      clear hqc HF3 HQ HRT
      go_wp2_with fail
      refine HST.out.mono ?_
      rintro e w5 ⟨rfl, rfl⟩
      go_wp2_with fail
      refine HON.out.mono ?_
      rintro e w6 ⟨rfl, hb⟩
      have HB6 : Hid (Below w.heap.size w w6) := HB3.out.trans (hb.mono HB3.out.size)
      have q1' := (hb.cell (p := ⟨w.heap.size, 1, none⟩) hwr).trans q1
      clear hb q0 q1 q2 HST HON
      cases qc with
      | false =>
       have HE : Hid (F = 1) := by unfold Hid; rw [HF4.out, if_pos rfl]
       go_wp2_with fail
       go_ret
       exact ⟨by rw [HE.out]; rfl, HB6.out⟩
      | true =>
       have HF5 : Hid (F = if (depthsF T.nodes T.nodes.length).all (fun d => decide (d ≤ 20)) = false then 9 else 0) := by unfold Hid; rw [HF4.out, if_neg (by decide)]
       have HDP : Hid (Calls Tryz.prog 78 #[.slice an T.nodes.length cn] w6 fun e w' => e = .returned (.int .i64 (maxL (depthsF T.nodes T.nodes.length))) ∧ Below w6.heap.size w6 w') :=
        deepest_any lo an cn T.nodes w6 (HT.out.nodes.below HB6.out) hln (fun n hn => (HS.out.node n hn).2)
       have HML := maxL_le (depthsF T.nodes T.nodes.length) 20 (by decide)
       have HML : Hid ((maxL (depthsF T.nodes T.nodes.length) ≤ 20) ↔ ∀ d ∈ depthsF T.nodes T.nodes.length, d ≤ 20) := HML
       generalize depthsF T.nodes T.nodes.length = ds at *
       generalize maxL ds = mx at *
       clear HF4
       go_wp2_with fail
       refine HDP.out.mono ?_
       rintro e w7 ⟨rfl, hb⟩
       have HB7 : Hid (Below w.heap.size w w7) := HB6.out.trans (hb.mono HB6.out.size)
       clear hb HDP q1'
       by_cases hmx : mx ≤ 20
       ·have HE : Hid (F = 0) := by
         unfold Hid; rw [HF5.out, if_neg]
         rw [Bool.not_eq_false]
         exact List.all_eq_true.2 (fun d hd => by simpa using HML.out.1 hmx d hd)
        have hne : decide (20 < mx) = false := decide_eq_false (by omega)
        clear HML HF5
        go_wp2_with fail
        go_ret
        exact ⟨by rw [HE.out]; rfl, HB7.out⟩
       ·have HE : Hid (F = 9) := by
         unfold Hid; rw [HF5.out, if_pos]
         cases hal : ds.all (fun d => decide (d ≤ 20)) with
         | false => rfl
         | true => exact absurd (HML.out.2 (fun d hd => by simpa using List.all_eq_true.1 hal d hd)) hmx
        have hne : decide (20 < mx) = true := decide_eq_true (by omega)
        clear HML HF5
        go_wp2_with fail
        go_ret
        exact ⟨by rw [HE.out]; rfl, HB7.out⟩
end Go.Proofs.YtepjaoapjpmjkaaGreatDoor
