/-
  The Go function laws.FnExactCellOf answers true at every input and writes nothing that was there. No condition.
-/
import Derived.Test.YtanalajojjpjnaaIHas
import Derived.Test.YtanalajojjpjnaaIParts
import Derived.Test.YtanalajojjpjnaaIDeep
import Derived.Test.YtanalajojjpjnaaSFault
import Derived.Test.YtanalajojjpjnaaTreeC
import Derived.Test.YtanalajojjpjnaaOwn
import Derived.Test.YtanalajojjpjnaaTreeWants
import Derived.Test.YtanalajojjpjnaaSWord
import Derived.Test.YtanalajojjpjnaaSRgtA
import Derived.Test.YtanalajojjpjnaaSRgtB
import Derived.Test.YtanalajojjpjnaaSCells
import Derived.Test.YtanalajojjpjnaaAllKind
import Derived.Test.YtanalajojjpjnaaIByName
namespace Go.Proofs.Ytanalajojjpjnaa
open Go.RowKit
set_option linter.unusedVariables false
attribute [local go_sem] bs_size bs_get bs_extract bs_append bs_eq bs_toList

theorem own_kind {n : LNode} (h : ownB n = true) : inB n.kind 1 11 = true := by
  unfold ownB at h
  simp only [Bool.and_eq_true] at h
  exact h.1.1.1.1.1.1.1.1
theorem stat_refs {N : List LNode} {m : Nat} (hk : ∀ j, j < m → inB (kindAt N (j : Int)) 1 11 = true) (l : List Int) : statB N m l = refsB N m l false := by
  unfold statB refsB
  congr 1
  funext x
  unfold refB
  cases hx : inB x 0 ((m : Int) - 1) with
  | false => rfl
  | true =>
    have := inB_iff.1 hx
    obtain ⟨j, rfl⟩ : ∃ j : Nat, x = j := ⟨x.toNat, by omega⟩
    have h := inB_iff.1 (hk j (by omega))
    simp only [Bool.true_and]
    show inB (kindAt N (j : Int)) 7 11 = (inB (kindAt N (j : Int)) 1 6 == false)
    generalize kindAt N (j : Int) = K at *
    by_cases hK : K ≤ 6
    · rw [show inB K 7 11 = false from inB_no.2 (by omega), show inB K 1 6 = true from inB_iff.2 (by omega)]; rfl
    · rw [show inB K 7 11 = true from inB_iff.2 (by omega), show inB K 1 6 = false from inB_no.2 (by omega)]; rfl
theorem kids_refs (N : List LNode) (m : Nat) (l : List Int) : kidsB N m l = refsB N m l true := by
  unfold kidsB refsB
  congr 1
  funext x
  unfold refB
  cases hx : inB x 0 ((m : Int) - 1) with
  | false => rfl
  | true =>
    simp only [Bool.true_and]
    show inB (kindAt N x) 1 6 = (inB (kindAt N x) 1 6 == true)
    cases inB (kindAt N x) 1 6 <;> rfl
theorem right_parts {N : List LNode} {m : Nat} (hk : ∀ j, j < m → inB (kindAt N (j : Int)) 1 11 = true) : rightB N m = (ownB (N.getD m default) && partsB N m (N.getD m default)) := by
  rw [rightB_eq, partsB, kids_refs, stat_refs hk, stat_refs hk]
  simp only [Bool.and_assoc]
theorem kinds_of_rights {N : List LNode} {m : Nat} (h : ∀ j, j < m → rightB N j = true) : ∀ j, j < m → inB (kindAt N (j : Int)) 1 11 = true := fun j hj => by
  have := h j hj
  rw [rightB_eq] at this
  simp only [Bool.and_eq_true] at this
  exact own_kind this.1.1.1
theorem slice_preN (b o k n c : Nat) (h : k ≤ n) (hc : n ≤ c) (W : World) : (Instr.slice 32 (.slice (some ⟨b, o, none⟩) n c) none (some (.int .i64 (k : Int))) none).run Try.prog W = .ok (.slice (some ⟨b, o, none⟩) k c) W := by
  have hu := Try.underlying32
  have hkc : k ≤ c := Nat.le_trans h hc
  simp [go_sem, hu, hkc]
theorem kinds_of_nodes {lo : Nat} {w : World} {a : Option Addr} {c : Nat} {N : List LNode} (h : NodesV lo w (.slice a N.length c) N) (m : Nat) (hm : m ≤ N.length) : Kinds w a N m := fun h0 => by
  obtain ⟨_, _, he, _, hh⟩ := h
  cases he
  obtain ⟨b, o, e, _, hc⟩ := hh (by rintro rfl; simp at hm; omega)
  refine ⟨b, o, e, fun i x hi hx => ?_⟩
  obtain ⟨_, _, _, hcs, _⟩ := hc i x hx
  exact hcs.c0

set_option maxHeartbeats 12800000 in
set_option maxRecDepth 100000 in
theorem implTreeFault : TreeInt 32 faultL := by
  intro lo vv vn vb T w h hS
  obtain ⟨av, cv, rfl, _, hhv⟩ := id h.vars
  obtain ⟨an, cn, rfl, hcn, hhn⟩ := id h.nodes
  obtain ⟨ab, cb, rfl, _⟩ := id h.body
  have HT : Hid (TreeV lo w (.slice av T.vars.length cv) (.slice an T.nodes.length cn) (.slice ab T.body.length cb) T) := h
  have hlv := hS.vars
  have hln := hS.nodes
  have HS : Hid (Sized 1048576 T) := hS
  have HV : Hid (T.vars ≠ [] → ∃ b o, av = some ⟨b, o, none⟩ ∧ lo ≤ b ∧ ∀ (i : Nat) (x : LVar), T.vars[i]? = some x → VarAt w b (o + i * 4) x) := hhv
  have HN : Hid (T.nodes ≠ [] → ∃ b o, an = some ⟨b, o, none⟩ ∧ lo ≤ b ∧ ∀ (i : Nat) (x : LNode), T.nodes[i]? = some x → NodeAt lo w b (o + i * 8) x) := hhn
  obtain ⟨F, hF⟩ : ∃ F, F = faultL T := ⟨_, rfl⟩
  rw [← hF]
  have HF : Hid (F = if 24 < T.vars.length ∨ 200 < T.nodes.length then 2 else if varsB T.vars ≠ 0 then varsB T.vars else if rightsB T.nodes = false then 1 else if refsB T.nodes T.nodes.length T.body false = false then 1 else if (countsL T).all (fun c => decide (c = 1)) = false then 1 else if (depthsF T.nodes T.nodes.length).all (fun d => decide (d ≤ 20)) = false then 9 else 0) := hF
  clear h hhv hhn hS hF
  by_cases hv : 24 < T.vars.length
  · have HE : Hid (F = 2) := by unfold Hid; rw [HF.out, if_pos (Or.inl hv)]
    have hb1 : decide ((24 : Int) < ((T.vars.length : Nat) : Int)) = true := decide_eq_true (by omega)
    clear HF
    go_enter Try.func32, Try.ntmps32
    go_wp2
    go_ret
    exact ⟨by rw [HE.out]; rfl, by go_grown⟩
  by_cases hn2 : 200 < T.nodes.length
  · have HE : Hid (F = 2) := by unfold Hid; rw [HF.out, if_pos (Or.inr hn2)]
    have hb1 : decide ((24 : Int) < ((T.vars.length : Nat) : Int)) = false := decide_eq_false (by omega)
    have hb2 : decide ((200 : Int) < ((T.nodes.length : Nat) : Int)) = true := decide_eq_true (by omega)
    clear HF hv hn2
    go_enter Try.func32, Try.ntmps32
    go_wp2
    go_ret
    exact ⟨by rw [HE.out]; rfl, by go_grown⟩
  have hb1 : decide ((24 : Int) < ((T.vars.length : Nat) : Int)) = false := decide_eq_false (by omega)
  have hb2 : decide ((200 : Int) < ((T.nodes.length : Nat) : Int)) = false := decide_eq_false (by omega)
  have HF : Hid (F = if varsB T.vars ≠ 0 then varsB T.vars else if rightsB T.nodes = false then 1 else if refsB T.nodes T.nodes.length T.body false = false then 1 else if (countsL T).all (fun c => decide (c = 1)) = false then 1 else if (depthsF T.nodes T.nodes.length).all (fun d => decide (d ≤ 20)) = false then 9 else 0) := by
    unfold Hid; rw [HF.out, if_neg (by omega)]
  have HN200 : Hid (T.nodes.length ≤ 200) := by unfold Hid; omega
  clear hv hn2
  go_enter Try.func32, Try.ntmps32
  go_wp2
  clear hb1 hb2
  have hA := heap_alloc_new w (.cells #[.slice av T.vars.length cv, .slice an T.nodes.length cn, .slice ab T.body.length cb] 34)
  have hB : Below w.heap.size w (w.alloc (.cells #[.slice av T.vars.length cv, .slice an T.nodes.length cn, .slice ab T.body.length cb] 34)) := (Below.refl _ _).alloc (Nat.le_refl _) _
  generalize w.alloc (.cells #[.slice av T.vars.length cv, .slice an T.nodes.length cn, .slice ab T.body.length cb] 34) = W0 at *
  have HA : Hid (W0.heap[w.heap.size]? = some (.cells #[.slice av T.vars.length cv, .slice an T.nodes.length cn, .slice ab T.body.length cb] 34 (0, 0))) := hA
  have HB0 : Hid (Below w.heap.size w W0) := hB
  have hw0 : w.heap.size < W0.heap.size := (Array.getElem?_eq_some_iff.1 hA).1
  clear hA hB
  go_loopw [19] (fun i wr => ∃ k : Nat, k ≤ T.vars.length ∧ i = .int .i64 k ∧ varsB T.vars = varsB (T.vars.drop k) ∧ Below W0.heap.size W0 wr) (fun i _ => T.vars.length - (intOf i).toNat)
  case atStart => exact ⟨0, by omega, rfl, rfl, Below.refl _ _⟩
  case round =>
    obtain ⟨k, hk, rfl, hvb, hB⟩ := hrel
    have HVB : Hid (varsB T.vars = varsB (T.vars.drop k)) := hvb
    have HBW : Hid (Below W0.heap.size W0 wr) := hB
    have HB : Hid (Below w.heap.size w wr) := HB0.out.trans (hB.mono HB0.out.size)
    clear hvb
    by_cases hlt : k < T.vars.length
    · obtain ⟨x, hx⟩ : ∃ x, T.vars[k]? = some x := ⟨T.vars[k], List.getElem?_eq_getElem hlt⟩
      obtain ⟨g, o, rfl, _, hc1⟩ := HV.out (by intro e; rw [e] at hlt; simp at hlt)
      obtain ⟨c0, c1, c2, c3⟩ := (hc1 k x hx).keep (lo := 0) (Keeps.of_below HB.out) (Nat.zero_le _)
      have hnl : x.name.length ≤ 1048576 := HS.out.names x (List.mem_of_getElem? hx)
      have HX : Hid (T.vars[k]? = some x) := hx
      clear hx hc1 hB
      go_wp2_with fail
      have hA := heap_alloc_new wr (.cells #[.string (bs x.name), .int .i64 x.kind, .int .i64 x.type, .int .i64 x.size] 73)
      have hB5 : Below wr.heap.size wr (wr.alloc (.cells #[.string (bs x.name), .int .i64 x.kind, .int .i64 x.type, .int .i64 x.size] 73)) := (Below.refl _ _).alloc (Nat.le_refl _) _
      generalize wr.alloc (.cells #[.string (bs x.name), .int .i64 x.kind, .int .i64 x.type, .int .i64 x.size] 73) = W5 at *
      refine (iIsName_any x.name _ (by omega)).mono ?_
      rintro e w6 ⟨rfl, rfl⟩
      have HB6 : Hid (Below W0.heap.size W0 w6) := HBW.out.trans (hB5.mono HBW.out.size)
      have HB7 : Hid (Below w.heap.size w w6) := HB0.out.trans (HB6.out.mono HB0.out.size)
      have d1 : w6.cell? ⟨wr.heap.size, 1, none⟩ = some (.int .i64 x.kind) := cell_of_row _ _ 1 _ _ _ hA
      have d2 : w6.cell? ⟨wr.heap.size, 2, none⟩ = some (.int .i64 x.type) := cell_of_row _ _ 2 _ _ _ hA
      have d3 : w6.cell? ⟨wr.heap.size, 3, none⟩ = some (.int .i64 x.size) := cell_of_row _ _ 3 _ _ _ hA
      clear hA hB5 c0 c1 c2 c3
      have HVX : Hid (varB x = if isNameL x.name then (if inB x.kind 1 3 && inB x.type 1 2 && inB x.size 0 8 then 0 else 3) else 5) := rfl
      generalize isNameL x.name = qn at *
      have HBAD : Hid (varB x ≠ 0 → F = varB x) := fun hne => by
        rw [HF.out, HVB.out, varsB_hit HX.out hne, if_pos hne]
      have HGOOD : Hid (varB x = 0 → varsB T.vars = varsB (T.vars.drop (k + 1))) := fun he => by
        rw [HVB.out, varsB_miss HX.out he]
      cases qn with
      | false =>
        have HE : Hid (F = 5) := by
          have h5 : varB x = 5 := by rw [HVX.out]; rfl
          have := HBAD.out (by rw [h5]; decide)
          unfold Hid; rw [this, h5]
        go_wp2_with fail
        go_ret
        exact ⟨by rw [HE.out]; rfl, HB7.out⟩
      | true =>
        go_wp2_with fail
        refine (within_any x.kind 1 3 _).mono ?_
        rintro e w7 ⟨rfl, rfl⟩
        generalize inB x.kind 1 3 = q1 at *
        cases q1 with
        | false =>
          have HE : Hid (F = 3) := by
            have h5 : varB x = 3 := by rw [HVX.out]; rfl
            have := HBAD.out (by rw [h5]; decide)
            unfold Hid; rw [this, h5]
          go_wp2_with fail
          go_ret
          exact ⟨by rw [HE.out]; rfl, HB7.out⟩
        | true =>
          go_wp2_with fail
          refine (within_any x.type 1 2 _).mono ?_
          rintro e w7 ⟨rfl, rfl⟩
          generalize inB x.type 1 2 = q2 at *
          cases q2 with
          | false =>
            have HE : Hid (F = 3) := by
              have h5 : varB x = 3 := by rw [HVX.out]; rfl
              have := HBAD.out (by rw [h5]; decide)
              unfold Hid; rw [this, h5]
            go_wp2_with fail
            go_ret
            exact ⟨by rw [HE.out]; rfl, HB7.out⟩
          | true =>
            go_wp2_with fail
            refine (within_any x.size 0 8 _).mono ?_
            rintro e w7 ⟨rfl, rfl⟩
            generalize inB x.size 0 8 = q3 at *
            cases q3 with
            | false =>
              have HE : Hid (F = 3) := by
                have h5 : varB x = 3 := by rw [HVX.out]; rfl
                have := HBAD.out (by rw [h5]; decide)
                unfold Hid; rw [this, h5]
              go_wp2_with fail
              go_ret
              exact ⟨by rw [HE.out]; rfl, HB7.out⟩
            | true =>
              have HNX : Hid (varsB T.vars = varsB (T.vars.drop (k + 1))) := HGOOD.out (by rw [HVX.out]; rfl)
              go_wp2_with fail
              go_roundw
              case rel => exact ⟨k + 1, by omega, by go_num, HNX.out, HB6.out⟩
              case measure => simp [intOf]; omega
    · have hke : k = T.vars.length := by omega
      have hz : varsB T.vars = 0 := by rw [HVB.out, hke, List.drop_length]; rfl
      have HF2 : Hid (F = if rightsB T.nodes = false then 1 else if refsB T.nodes T.nodes.length T.body false = false then 1 else if (countsL T).all (fun c => decide (c = 1)) = false then 1 else if (depthsF T.nodes T.nodes.length).all (fun d => decide (d ≤ 20)) = false then 9 else 0) := by
        unfold Hid; rw [HF.out, if_neg (by simp [hz])]
      have q1 : wr.cell? ⟨w.heap.size, 1, none⟩ = some (.slice an T.nodes.length cn) := (hB.cell (p := ⟨w.heap.size, 1, none⟩) hw0).trans (cell_of_row _ _ 1 _ _ _ HA.out)
      clear HF HVB hz hke HB hB
      generalize hwq : wr = w1 at *
      clear hwq
      go_wp2
      clear q1
      go_loopw [47] (fun i wr => ∃ m : Nat, m ≤ T.nodes.length ∧ i = .int .i64 m ∧ (∀ j, j < m → rightB T.nodes j = true) ∧ Below W0.heap.size W0 wr) (fun i _ => T.nodes.length - (intOf i).toNat)
      case atStart => exact ⟨0, by omega, rfl, by omega, HBW.out⟩
      case round =>
        obtain ⟨m, hm, rfl, hall, hB⟩ := hrel
        have HALL : Hid (∀ j, j < m → rightB T.nodes j = true) := hall
        have HB2 : Hid (Below W0.heap.size W0 wr) := hB
        have HB3 : Hid (Below w.heap.size w wr) := HB0.out.trans (hB.mono HB0.out.size)
        have q0 : wr.cell? ⟨w.heap.size, 0, none⟩ = some (.slice av T.vars.length cv) := (hB.cell (p := ⟨w.heap.size, 0, none⟩) hw0).trans (cell_of_row _ _ 0 _ _ _ HA.out)
        have q1 : wr.cell? ⟨w.heap.size, 1, none⟩ = some (.slice an T.nodes.length cn) := (hB.cell (p := ⟨w.heap.size, 1, none⟩) hw0).trans (cell_of_row _ _ 1 _ _ _ HA.out)
        have q2 : wr.cell? ⟨w.heap.size, 2, none⟩ = some (.slice ab T.body.length cb) := (hB.cell (p := ⟨w.heap.size, 2, none⟩) hw0).trans (cell_of_row _ _ 2 _ _ _ HA.out)
        have hwr : w.heap.size < wr.heap.size := Nat.lt_of_lt_of_le hw0 hB.size
        clear hall hB
        by_cases hlt2 : m < T.nodes.length
        · obtain ⟨y, hy⟩ : ∃ y, T.nodes[m]? = some y := ⟨T.nodes[m], List.getElem?_eq_getElem hlt2⟩
          obtain ⟨g2, o2, rfl, _, hc2⟩ := HN.out (by intro e; rw [e] at hlt2; simp at hlt2)
          obtain ⟨vk, vt, ve, hcs, hvs⟩ := hc2 m y hy
          obtain ⟨d0, d1, d2, d3, d4, d5, d6, d7⟩ := hcs.keep (lo := 0) (fun g _ hg => HB3.out.block g hg) (Nat.zero_le _)
          have hgw2 : g2 < w.heap.size := World.block_lt_of_cell? _ _ hcs.c0
          obtain ⟨ak, ck, rfl, _⟩ := id hvs.kids
          obtain ⟨at2, ct, rfl, _⟩ := id hvs.thn
          obtain ⟨ae, ce, rfl, _⟩ := id hvs.els
          have hsz := HS.out.node y (List.mem_of_getElem? hy)
          have hgd : T.nodes.getD m default = y := by rw [List.getD_eq_getElem?_getD, hy]; rfl
          have HRB : Hid (rightB T.nodes m = (ownB y && partsB T.nodes m y)) := by unfold Hid; rw [right_parts (kinds_of_rights HALL.out), hgd]
          have HSH : Hid (∀ W, Calls Try.prog 65 #[nodeV y (.slice ak y.kids.length ck) (.slice at2 y.thn.length ct) (.slice ae y.els.length ce)] W fun e w' => e = .returned (.bool (ownB y)) ∧ Below W.heap.size W w') := fun W => hasShape_any y ak at2 ae ck ct ce W hsz.1 hsz.2.1 hsz.2.2.1 hsz.2.2.2
          have HPT : Hid (∀ W, Below w.heap.size w W → Calls Try.prog 66 #[.slice (some ⟨g2, o2, none⟩) m cn, nodeV y (.slice ak y.kids.length ck) (.slice at2 y.thn.length ct) (.slice ae y.els.length ce)] W fun e w' => e = .returned (.bool (partsB T.nodes m y)) ∧ Below W.heap.size W w') := fun W hb => by
            have hN := HT.out.nodes.below hb
            have hv := hvs.below hb
            exact hasParts_any T.nodes m _ cn y _ _ _ W (by omega) (by omega) (kinds_of_nodes hN m (by omega)) hv.kids.toB hv.thn.toB hv.els.toB hsz.2.1 hsz.2.2.1 hsz.2.2.2
          have hsl : ∀ W, (Instr.slice 32 (.slice (some ⟨g2, o2, none⟩) T.nodes.length cn) none (some (.int .i64 (m : Int))) none).run Try.prog W = .ok (.slice (some ⟨g2, o2, none⟩) m cn) W := slice_preN g2 o2 m T.nodes.length cn (by omega) hcn
          have hm0 : (0 : Int) ≤ (m : Int) := by omega
          have hm1 : (m : Int) < (T.nodes.length : Int) := by omega
          have hg2r : g2 < wr.heap.size := Nat.lt_of_lt_of_le hgw2 HB3.out.size
          have HQ1 : Hid (wr.cell? ⟨w.heap.size, 1, none⟩ = some (.slice (some ⟨g2, o2, none⟩) T.nodes.length cn)) := q1
          have HD0 := d0
          have HDC : Hid (NodeCells wr g2 (o2 + m * 8) y (.slice ak y.kids.length ck) (.slice at2 y.thn.length ct) (.slice ae y.els.length ce)) := ⟨d0, d1, d2, d3, d4, d5, d6, d7⟩
          obtain ⟨qo, hqo⟩ : ∃ q, ownB y = q := ⟨_, rfl⟩
          obtain ⟨qp, hqp⟩ : ∃ q, partsB T.nodes m y = q := ⟨_, rfl⟩
          rw [hqo] at HSH HRB
          rw [hqp] at HPT HRB
          clear hy hc2 hcs hvs hgd hsz HD0 hqo hqp q0 q2
          cases qo with
          | false =>
            have HE : Hid (F = 1) := by
              unfold Hid; rw [HF2.out, if_pos]
              exact List.all_eq_false.2 ⟨m, List.mem_range.2 hlt2, by rw [HRB.out]; simp⟩
            go_wp2_with fail
            have HCL : Hid (∀ W, Below wr.heap.size wr W → W.cell? ⟨w.heap.size, 1, none⟩ = some (.slice (some ⟨g2, o2, none⟩) T.nodes.length cn) ∧ NodeCells W g2 (o2 + m * 8) y (.slice ak y.kids.length ck) (.slice at2 y.thn.length ct) (.slice ae y.els.length ce)) := fun W hD =>
              ⟨(hD.cell (p := ⟨w.heap.size, 1, none⟩) hwr).trans HQ1.out, HDC.out.keep (lo := 0) (fun g _ hg => hD.block g hg) (Nat.zero_le _)⟩
            refine wp_region_quiet (C := fun W => Below wr.heap.size wr W) (by kernel_rfl) (by kernel_rfl) ((Below.refl wr.heap.size wr).drew) ?_
            clear d0 d1 d2 d3 d4 d5 d6 d7 q1
            refine wpQuiet_step (fun K hK => ?_)
            go_simp
            refine ⟨_, fun _ _ => rfl, hK _ ?_⟩
            clear hK K
            refine wpQuiet_step (fun K hK => ?_)
            go_simp
            refine ⟨.slice (some ⟨g2, o2, none⟩) T.nodes.length cn, fun W hD => ?_, hK _ ?_⟩
            · obtain ⟨c1, hc⟩ := HCL.out W hD
              go_simp
            clear hK K
            refine wpQuiet_step (fun K hK => ?_)
            go_simp
            refine ⟨_, fun _ _ => rfl, hK _ ?_⟩
            clear hK K
            refine wpQuiet_step (fun K hK => ?_)
            go_simp
            refine ⟨_, fun _ _ => rfl, hK _ ?_⟩
            clear hK K
            refine wpQuiet_step (fun K hK => ?_)
            go_simp
            refine ⟨nodeV y (.slice ak y.kids.length ck) (.slice at2 y.thn.length ct) (.slice ae y.els.length ce), fun W hD => ?_, hK _ ?_⟩
            · obtain ⟨c1, hc⟩ := HCL.out W hD
              obtain ⟨e0, e1, e2, e3, e4, e5, e6, e7⟩ := hc
              go_simp
            clear hK K
            refine wpQuiet_step (fun K hK => ?_)
            go_simp
            refine ⟨.bool false, fun W hD => (HSH.out W).mono (fun e w' h => ⟨h.1, hD.trans (Below.mono h.2 hD.size)⟩), hK _ ?_⟩
            clear hK K
            refine wpQuiet_step (fun K hK => ?_)
            go_simp
            refine ⟨.bool true, fun _ _ => rfl, ?_⟩
            apply hK
            clear hK K
            refine wpQuiet_step (fun K hK => ?_)
            go_simp
            refine ⟨.bool true, fun _ _ => rfl, ?_⟩
            apply hK
            clear hK K
            repeat go_big_quiet_skip
            refine wpQuiet_step (fun K hK => ?_)
            go_simp
            refine ⟨.bool true, fun _ _ => rfl, ?_⟩
            apply hK
            clear hK K
            refine wpQuiet_nil ?_
            intro w5 hD
            have HB4 : Hid (Below w.heap.size w w5) := HB3.out.trans (Below.mono hD HB3.out.size)
            clear hD
            go_wp2_with fail
            go_ret
            exact ⟨by rw [HE.out]; rfl, HB4.out⟩
          | true =>
            have HRQ : Hid (rightB T.nodes m = qp) := by unfold Hid; rw [HRB.out]; simp
            clear HRB
            cases qp with
            | false =>
              have HE : Hid (F = 1) := by
                unfold Hid; rw [HF2.out, if_pos]
                exact List.all_eq_false.2 ⟨m, List.mem_range.2 hlt2, by rw [HRQ.out]; simp⟩
              go_wp2_with fail
              go_region_held3 (fun W => W.cell? ⟨w.heap.size, 1, none⟩ = some (.slice (some ⟨g2, o2, none⟩) T.nodes.length cn) ∧ (W.cell? ⟨g2, o2 + m * 8, none⟩ = some (.int .i64 y.kind) ∧ W.cell? ⟨g2, o2 + m * 8 + 1, none⟩ = some (.int .i64 y.op) ∧ W.cell? ⟨g2, o2 + m * 8 + 2, none⟩ = some (.string (bs y.name)) ∧ W.cell? ⟨g2, o2 + m * 8 + 3, none⟩ = some (.int .i64 y.num) ∧ W.cell? ⟨g2, o2 + m * 8 + 4, none⟩ = some (.int .i64 y.far) ∧ W.cell? ⟨g2, o2 + m * 8 + 5, none⟩ = some (.slice ak y.kids.length ck) ∧ W.cell? ⟨g2, o2 + m * 8 + 6, none⟩ = some (.slice at2 y.thn.length ct) ∧ W.cell? ⟨g2, o2 + m * 8 + 7, none⟩ = some (.slice ae y.els.length ce))) (go_keep) (first | (go_at_call 65; refine (HSH.out _).mono ?_; rintro e w2 ⟨rfl, hb⟩; have hD : Below wr.heap.size wr w2 := ((Below.refl wr.heap.size wr).drew).trans (Below.mono hb (Nat.le_refl _)); have q1' := (hD.cell (p := ⟨w.heap.size, 1, none⟩) hwr).trans HQ1.out; obtain ⟨e0, e1, e2, e3, e4, e5, e6, e7⟩ := HDC.out.keep (lo := 0) (w' := w2) (fun g _ hg => hD.block g hg) (Nat.zero_le _); have HB4 : Hid (Below w.heap.size w w2) := HB3.out.trans (hD.mono HB3.out.size); have HC4 : Hid (Below W0.heap.size W0 w2) := HB2.out.trans (hD.mono HB2.out.size); clear hb hD) | (go_at_call 66; refine (HPT.out _ (by exact HB4.out)).mono ?_; rintro e w5 ⟨rfl, hb⟩; have HC5 : Hid (Below W0.heap.size W0 w5) := HC4.out.trans (hb.mono HC4.out.size); have e9 := (hb.cell (p := ⟨w.heap.size, 1, none⟩) (Nat.lt_of_lt_of_le hw0 HC4.out.size)).trans q1'; obtain ⟨f0, f1, f2, f3, f4, f5, f6, f7⟩ := NodeCells.keep (lo := 0) (w' := w5) (⟨e0, e1, e2, e3, e4, e5, e6, e7⟩ : NodeCells w2 g2 (o2 + m * 8) y (.slice ak y.kids.length ck) (.slice at2 y.thn.length ct) (.slice ae y.els.length ce)) (fun g _ hg => hb.block g hg) (Nat.zero_le _); have HB5 : Hid (Below w.heap.size w w5) := HB4.out.trans (hb.mono HB4.out.size); clear hb))
              go_wp2_with fail
              go_ret
              exact ⟨by rw [HE.out]; rfl, HB5.out⟩
            | true =>
              go_wp2_with fail
              go_region_held3 (fun W => W.cell? ⟨w.heap.size, 1, none⟩ = some (.slice (some ⟨g2, o2, none⟩) T.nodes.length cn) ∧ (W.cell? ⟨g2, o2 + m * 8, none⟩ = some (.int .i64 y.kind) ∧ W.cell? ⟨g2, o2 + m * 8 + 1, none⟩ = some (.int .i64 y.op) ∧ W.cell? ⟨g2, o2 + m * 8 + 2, none⟩ = some (.string (bs y.name)) ∧ W.cell? ⟨g2, o2 + m * 8 + 3, none⟩ = some (.int .i64 y.num) ∧ W.cell? ⟨g2, o2 + m * 8 + 4, none⟩ = some (.int .i64 y.far) ∧ W.cell? ⟨g2, o2 + m * 8 + 5, none⟩ = some (.slice ak y.kids.length ck) ∧ W.cell? ⟨g2, o2 + m * 8 + 6, none⟩ = some (.slice at2 y.thn.length ct) ∧ W.cell? ⟨g2, o2 + m * 8 + 7, none⟩ = some (.slice ae y.els.length ce))) (go_keep) (first | (go_at_call 65; refine (HSH.out _).mono ?_; rintro e w2 ⟨rfl, hb⟩; have hD : Below wr.heap.size wr w2 := ((Below.refl wr.heap.size wr).drew).trans (Below.mono hb (Nat.le_refl _)); have q1' := (hD.cell (p := ⟨w.heap.size, 1, none⟩) hwr).trans HQ1.out; obtain ⟨e0, e1, e2, e3, e4, e5, e6, e7⟩ := HDC.out.keep (lo := 0) (w' := w2) (fun g _ hg => hD.block g hg) (Nat.zero_le _); have HB4 : Hid (Below w.heap.size w w2) := HB3.out.trans (hD.mono HB3.out.size); have HC4 : Hid (Below W0.heap.size W0 w2) := HB2.out.trans (hD.mono HB2.out.size); clear hb hD) | (go_at_call 66; refine (HPT.out _ (by exact HB4.out)).mono ?_; rintro e w5 ⟨rfl, hb⟩; have HC5 : Hid (Below W0.heap.size W0 w5) := HC4.out.trans (hb.mono HC4.out.size); have e9 := (hb.cell (p := ⟨w.heap.size, 1, none⟩) (Nat.lt_of_lt_of_le hw0 HC4.out.size)).trans q1'; obtain ⟨f0, f1, f2, f3, f4, f5, f6, f7⟩ := NodeCells.keep (lo := 0) (w' := w5) (⟨e0, e1, e2, e3, e4, e5, e6, e7⟩ : NodeCells w2 g2 (o2 + m * 8) y (.slice ak y.kids.length ck) (.slice at2 y.thn.length ct) (.slice ae y.els.length ce)) (fun g _ hg => hb.block g hg) (Nat.zero_le _); have HB5 : Hid (Below w.heap.size w w5) := HB4.out.trans (hb.mono HB4.out.size); clear hb))
              go_wp2_with fail
              go_roundw
              case rel => exact ⟨m + 1, by omega, by go_num, fun j hj => by
                  rcases Nat.lt_succ_iff_lt_or_eq.1 hj with h | rfl
                  · exact HALL.out j h
                  · exact HRQ.out, HC5.out⟩
              case measure => simp [intOf]; omega
        · have hme : m = T.nodes.length := by omega
          subst hme
          have hrt : rightsB T.nodes = true := List.all_eq_true.2 (fun j hj => HALL.out j (by have := List.mem_range.1 hj; omega))
          have HRT : Hid (rightsB T.nodes = true) := hrt
          have HF3 : Hid (F = if refsB T.nodes T.nodes.length T.body false = false then 1 else if (countsL T).all (fun c => decide (c = 1)) = false then 1 else if (depthsF T.nodes T.nodes.length).all (fun d => decide (d ≤ 20)) = false then 9 else 0) := by
            unfold Hid; rw [HF2.out, if_neg (by simp [hrt])]
          have HST : Hid (Calls Try.prog 67 #[.slice an T.nodes.length cn, .slice ab T.body.length cb] wr fun e w' => e = .returned (.bool (refsB T.nodes T.nodes.length T.body false)) ∧ w' = wr) := by
            have hN := HT.out.nodes.below HB3.out
            have h := areStatements_any T.nodes T.nodes.length an cn _ T.body wr.heap.size wr (Nat.le_refl _) hln (kinds_of_nodes hN _ (Nat.le_refl _)) (HT.out.body.below HB3.out).toB HS.out.body
            rw [stat_refs (kinds_of_rights HALL.out)] at h
            exact h
          clear HF2 hrt HALL
          obtain ⟨q, hq⟩ : ∃ q, refsB T.nodes T.nodes.length T.body false = q := ⟨_, rfl⟩
          rw [hq] at HST HF3
          have HQ : Hid (refsB T.nodes T.nodes.length T.body false = q) := hq
          clear hq
          cases q with
          | false =>
            have HE : Hid (F = 1) := by unfold Hid; rw [HF3.out, if_pos rfl]
            go_wp2_with fail
            refine HST.out.mono ?_
            rintro e w5 ⟨rfl, rfl⟩
            go_wp2_with fail
            go_ret
            exact ⟨by rw [HE.out]; rfl, HB3.out⟩
          | true =>
            have HF4 : Hid (F = if (countsL T).all (fun c => decide (c = 1)) = false then 1 else if (depthsF T.nodes T.nodes.length).all (fun d => decide (d ≤ 20)) = false then 9 else 0) := by unfold Hid; rw [HF3.out, if_neg (by decide)]
            have HON : Hid (Calls Try.prog 68 #[treeV (.slice av T.vars.length cv) (.slice an T.nodes.length cn) (.slice ab T.body.length cb)] wr fun e w' => e = .returned (.bool ((countsL T).all (fun c => decide (c = 1)))) ∧ Below wr.heap.size wr w') :=
              eachOnce_any lo _ _ _ T wr (HT.out.below HB3.out) HS.out HN200.out (rights_in HRT.out) (refs_in HQ.out)
            obtain ⟨qc, hqc⟩ : ∃ q, (countsL T).all (fun c => decide (c = 1)) = q := ⟨_, rfl⟩
            rw [hqc] at HON HF4
            clear hqc HF3 HQ HRT
            go_wp2_with fail
            refine HST.out.mono ?_
            rintro e w5 ⟨rfl, rfl⟩
            go_wp2_with fail
            refine HON.out.mono ?_
            rintro e w6 ⟨rfl, hb⟩
            have HB6 : Hid (Below w.heap.size w w6) := HB3.out.trans (hb.mono HB3.out.size)
            have q1' := (hb.cell (p := ⟨w.heap.size, 1, none⟩) hwr).trans q1
            clear hb q0 q1 q2 HST HON
            cases qc with
            | false =>
              have HE : Hid (F = 1) := by unfold Hid; rw [HF4.out, if_pos rfl]
              go_wp2_with fail
              go_ret
              exact ⟨by rw [HE.out]; rfl, HB6.out⟩
            | true =>
              have HF5 : Hid (F = if (depthsF T.nodes T.nodes.length).all (fun d => decide (d ≤ 20)) = false then 9 else 0) := by unfold Hid; rw [HF4.out, if_neg (by decide)]
              have HDP : Hid (Calls Try.prog 69 #[.slice an T.nodes.length cn] w6 fun e w' => e = .returned (.int .i64 (maxL (depthsF T.nodes T.nodes.length))) ∧ Below w6.heap.size w6 w') :=
                deepest_any lo an cn T.nodes w6 (HT.out.nodes.below HB6.out) hln (fun n hn => (HS.out.node n hn).2)
              have HML := maxL_le (depthsF T.nodes T.nodes.length) 20 (by decide)
              have HML : Hid ((maxL (depthsF T.nodes T.nodes.length) ≤ 20) ↔ ∀ d ∈ depthsF T.nodes T.nodes.length, d ≤ 20) := HML
              generalize depthsF T.nodes T.nodes.length = ds at *
              generalize maxL ds = mx at *
              clear HF4
              go_wp2_with fail
              refine HDP.out.mono ?_
              rintro e w7 ⟨rfl, hb⟩
              have HB7 : Hid (Below w.heap.size w w7) := HB6.out.trans (hb.mono HB6.out.size)
              clear hb HDP q1'
              by_cases hmx : mx ≤ 20
              · have HE : Hid (F = 0) := by
                  unfold Hid; rw [HF5.out, if_neg]
                  rw [Bool.not_eq_false]
                  exact List.all_eq_true.2 (fun d hd => by simpa using HML.out.1 hmx d hd)
                have hne : decide (20 < mx) = false := decide_eq_false (by omega)
                clear HML HF5
                go_wp2_with fail
                go_ret
                exact ⟨by rw [HE.out]; rfl, HB7.out⟩
              · have HE : Hid (F = 9) := by
                  unfold Hid; rw [HF5.out, if_pos]
                  cases hal : ds.all (fun d => decide (d ≤ 20)) with
                  | false => rfl
                  | true => exact absurd (HML.out.2 (fun d hd => by simpa using List.all_eq_true.1 hal d hd)) hmx
                have hne : decide (20 < mx) = true := decide_eq_true (by omega)
                clear HML HF5
                go_wp2_with fail
                go_ret
                exact ⟨by rw [HE.out]; rfl, HB7.out⟩
end Go.Proofs.Ytanalajojjpjnaa
namespace Go.Proofs.Ytanalajojjpjnaa
open Go.RowKit
set_option linter.unusedVariables false
attribute [local go_sem] bs_size bs_get bs_extract bs_append bs_eq bs_toList

set_option maxHeartbeats 6400000 in
set_option maxRecDepth 100000 in
theorem rgt9 (R : Bool) (p at_ : Nat) (b o cn : Nat) (nn : Nat) (vv vb : Value) (op : Int) (name : List UInt8) (num far : Int) (kids thn els : List Int) (a a2 a3 : Option Addr) (c c2 c3 : Nat) (w : World) (hl : name.length ≤ 1048576) (hk1 : kids.length ≤ 1048576) (hk2 : thn.length ≤ 1048576) (hk3 : els.length ≤ 1048576)
    (r1 r2 r3 : Bool) (hO : R = ((decide (op = 0) && name.isEmpty && decide (num = 0) && decide (far = 0) && decide (1 ≤ kids.length ∧ kids.length ≤ 1)) && r1 && r2 && r3)) (hat : at_ < nn) (hp1 : w.cell? ⟨p, 1, none⟩ = some (.slice (some ⟨b, o, none⟩) nn cn))
    (hc0 : w.cell? ⟨b, o + at_ * 8, none⟩ = some (.int .i64 9))
    (hc1 : w.cell? ⟨b, o + at_ * 8 + 1, none⟩ = some (.int .i64 op))
    (hc2 : w.cell? ⟨b, o + at_ * 8 + 2, none⟩ = some (.string (bs name)))
    (hc3 : w.cell? ⟨b, o + at_ * 8 + 3, none⟩ = some (.int .i64 num))
    (hc4 : w.cell? ⟨b, o + at_ * 8 + 4, none⟩ = some (.int .i64 far))
    (hc5 : w.cell? ⟨b, o + at_ * 8 + 5, none⟩ = some (.slice a kids.length c))
    (hc6 : w.cell? ⟨b, o + at_ * 8 + 6, none⟩ = some (.slice a2 thn.length c2))
    (hc7 : w.cell? ⟨b, o + at_ * 8 + 7, none⟩ = some (.slice a3 els.length c3))
    (hR1 : ∀ W, Below w.heap.size w W → Calls Try.prog 56 #[.pointer (some ⟨p, 0, none⟩), .int .i64 at_, .slice a kids.length c, .bool true] W fun e w' => e = .returned (.bool r1) ∧ Below W.heap.size W w')
    (hR2 : ∀ W, Below w.heap.size w W → Calls Try.prog 56 #[.pointer (some ⟨p, 0, none⟩), .int .i64 at_, .slice a2 thn.length c2, .bool false] W fun e w' => e = .returned (.bool r2) ∧ Below W.heap.size W w')
    (hR3 : ∀ W, Below w.heap.size w W → Calls Try.prog 56 #[.pointer (some ⟨p, 0, none⟩), .int .i64 at_, .slice a3 els.length c3, .bool false] W fun e w' => e = .returned (.bool r3) ∧ Below W.heap.size W w') :
    Calls Try.prog 55 #[.pointer (some ⟨p, 0, none⟩), .int .i64 at_] w fun e w' => e = .returned (.bool R) ∧ Below w.heap.size w w' := by
  have HO : Hid (R = ((decide (op = 0) && name.isEmpty && decide (num = 0) && decide (far = 0) && decide (1 ≤ kids.length ∧ kids.length ≤ 1)) && r1 && r2 && r3)) := hO
  have HR1 : Hid (∀ W, Below w.heap.size w W → Calls Try.prog 56 #[.pointer (some ⟨p, 0, none⟩), .int .i64 at_, .slice a kids.length c, .bool true] W fun e w' => e = .returned (.bool r1) ∧ Below W.heap.size W w') := hR1
  have HR2 : Hid (∀ W, Below w.heap.size w W → Calls Try.prog 56 #[.pointer (some ⟨p, 0, none⟩), .int .i64 at_, .slice a2 thn.length c2, .bool false] W fun e w' => e = .returned (.bool r2) ∧ Below W.heap.size W w') := hR2
  have HR3 : Hid (∀ W, Below w.heap.size w W → Calls Try.prog 56 #[.pointer (some ⟨p, 0, none⟩), .int .i64 at_, .slice a3 els.length c3, .bool false] W fun e w' => e = .returned (.bool r3) ∧ Below W.heap.size W w') := hR3
  have hI0 : (0 : Int) ≤ (at_ : Int) := by omega
  have hI1 : (at_ : Int) < (nn : Int) := by omega
  clear hO hR1 hR2 hR3
  go_enter Try.func55, Try.ntmps55
  go_wp2_with fail
  have hA := heap_alloc_new w (.cells #[.int .i64 9, .int .i64 op, .string (bs name), .int .i64 num, .int .i64 far, .slice a kids.length c, .slice a2 thn.length c2, .slice a3 els.length c3] 92)
  have hB : Below w.heap.size w (w.alloc (.cells #[.int .i64 9, .int .i64 op, .string (bs name), .int .i64 num, .int .i64 far, .slice a kids.length c, .slice a2 thn.length c2, .slice a3 els.length c3] 92)) := (Below.refl _ _).alloc (Nat.le_refl _) _
  generalize w.alloc (.cells #[.int .i64 9, .int .i64 op, .string (bs name), .int .i64 num, .int .i64 far, .slice a kids.length c, .slice a2 thn.length c2, .slice a3 els.length c3] 92) = W at *
  have d0 : W.cell? ⟨w.heap.size, 0, none⟩ = some (.int .i64 9) := cell_of_row _ _ 0 _ _ _ hA
  have d1 : W.cell? ⟨w.heap.size, 1, none⟩ = some (.int .i64 op) := cell_of_row _ _ 1 _ _ _ hA
  have d2 : W.cell? ⟨w.heap.size, 2, none⟩ = some (.string (bs name)) := cell_of_row _ _ 2 _ _ _ hA
  have d3 : W.cell? ⟨w.heap.size, 3, none⟩ = some (.int .i64 num) := cell_of_row _ _ 3 _ _ _ hA
  have d4 : W.cell? ⟨w.heap.size, 4, none⟩ = some (.int .i64 far) := cell_of_row _ _ 4 _ _ _ hA
  have d5 : W.cell? ⟨w.heap.size, 5, none⟩ = some (.slice a kids.length c) := cell_of_row _ _ 5 _ _ _ hA
  have d6 : W.cell? ⟨w.heap.size, 6, none⟩ = some (.slice a2 thn.length c2) := cell_of_row _ _ 6 _ _ _ hA
  have d7 : W.cell? ⟨w.heap.size, 7, none⟩ = some (.slice a3 els.length c3) := cell_of_row _ _ 7 _ _ _ hA
  have HB : Hid (Below w.heap.size w W) := hB
  have HA : Hid (W.heap[w.heap.size]? = some (.cells #[.int .i64 9, .int .i64 op, .string (bs name), .int .i64 num, .int .i64 far, .slice a kids.length c, .slice a2 thn.length c2, .slice a3 els.length c3] 92 (0, 0))) := hA
  clear hA hB hp1 hc0 hc1 hc2 hc3 hc4 hc5 hc6 hc7
  refine (l1In_any 9 1 11 _).mono ?_
  rintro e w1 ⟨rfl, rfl⟩
  have e1 : inB 9 1 11 = true := by decide
  rw [e1]
  clear e1
  go_wp2_with fail
  refine (l4Wants_any (⟨9, op, name, num, far, kids, thn, els⟩ : LNode) _ _ _ _ ⟨_, _, _, rfl⟩ ⟨_, _, _, rfl⟩ ⟨_, _, _, rfl⟩).mono ?_
  rintro e w2 ⟨rfl, hb⟩
  have e1 : wantsN 9 = (false, 1, false) := by decide
  simp only [wantsV, e1]
  clear e1
  have hA := blk HA.out hb
  have hB := HB.out.trans (hb.mono HB.out.size)
  clear HA HB hb d0 d1 d2 d3 d4 d5 d6 d7
  have HA : Hid (w2.heap[w.heap.size]? = some (.cells #[.int .i64 9, .int .i64 op, .string (bs name), .int .i64 num, .int .i64 far, .slice a kids.length c, .slice a2 thn.length c2, .slice a3 els.length c3] 92 (0, 0))) := hA
  have HB : Hid (Below w.heap.size w w2) := hB
  have d0 : w2.cell? ⟨w.heap.size, 0, none⟩ = some (.int .i64 9) := cell_of_row _ _ 0 _ _ _ hA
  have d1 : w2.cell? ⟨w.heap.size, 1, none⟩ = some (.int .i64 op) := cell_of_row _ _ 1 _ _ _ hA
  have d2 : w2.cell? ⟨w.heap.size, 2, none⟩ = some (.string (bs name)) := cell_of_row _ _ 2 _ _ _ hA
  have d3 : w2.cell? ⟨w.heap.size, 3, none⟩ = some (.int .i64 num) := cell_of_row _ _ 3 _ _ _ hA
  have d4 : w2.cell? ⟨w.heap.size, 4, none⟩ = some (.int .i64 far) := cell_of_row _ _ 4 _ _ _ hA
  have d5 : w2.cell? ⟨w.heap.size, 5, none⟩ = some (.slice a kids.length c) := cell_of_row _ _ 5 _ _ _ hA
  have d6 : w2.cell? ⟨w.heap.size, 6, none⟩ = some (.slice a2 thn.length c2) := cell_of_row _ _ 6 _ _ _ hA
  have d7 : w2.cell? ⟨w.heap.size, 7, none⟩ = some (.slice a3 els.length c3) := cell_of_row _ _ 7 _ _ _ hA
  clear hA hB
  go_wp2_with fail
  (try (rename_i kk hkk; simp only [List.append_eq, List.cons_append, List.nil_append] at hkk))
  refine (isName_any name _ (by omega)).mono ?_
  rintro e w3 ⟨rfl, hb⟩
  have hA := blk HA.out hb
  have hB := HB.out.trans (hb.mono HB.out.size)
  clear HA HB hb d0 d1 d2 d3 d4 d5 d6 d7
  have HA : Hid (w3.heap[w.heap.size]? = some (.cells #[.int .i64 9, .int .i64 op, .string (bs name), .int .i64 num, .int .i64 far, .slice a kids.length c, .slice a2 thn.length c2, .slice a3 els.length c3] 92 (0, 0))) := hA
  have HB : Hid (Below w.heap.size w w3) := hB
  have d0 : w3.cell? ⟨w.heap.size, 0, none⟩ = some (.int .i64 9) := cell_of_row _ _ 0 _ _ _ hA
  have d1 : w3.cell? ⟨w.heap.size, 1, none⟩ = some (.int .i64 op) := cell_of_row _ _ 1 _ _ _ hA
  have d2 : w3.cell? ⟨w.heap.size, 2, none⟩ = some (.string (bs name)) := cell_of_row _ _ 2 _ _ _ hA
  have d3 : w3.cell? ⟨w.heap.size, 3, none⟩ = some (.int .i64 num) := cell_of_row _ _ 3 _ _ _ hA
  have d4 : w3.cell? ⟨w.heap.size, 4, none⟩ = some (.int .i64 far) := cell_of_row _ _ 4 _ _ _ hA
  have d5 : w3.cell? ⟨w.heap.size, 5, none⟩ = some (.slice a kids.length c) := cell_of_row _ _ 5 _ _ _ hA
  have d6 : w3.cell? ⟨w.heap.size, 6, none⟩ = some (.slice a2 thn.length c2) := cell_of_row _ _ 6 _ _ _ hA
  have d7 : w3.cell? ⟨w.heap.size, 7, none⟩ = some (.slice a3 els.length c3) := cell_of_row _ _ 7 _ _ _ hA
  clear hA hB
  obtain ⟨qn, hqn⟩ : ∃ q, isNameL name = q := ⟨_, rfl⟩
  rw [hqn]
  by_cases qname : name = []
  · have e1 : qn = false := by rw [← hqn, qname]; exact isNameL_nil
    subst e1
    (try simp only [])
    by_cases qk : kids.length = 1
    · have hz1 : (((kids.length : Nat) : Int) == 1) = true := by rw [beq_iff_eq]; omega
      have hz2 : decide (((kids.length : Nat) : Int) = 1) = true := decide_eq_true (by omega)
      have hz6 : (((kids.length : Nat) : Int) != 1) = false := by rw [bne_eq_false_iff_eq]; omega
      have QK : Hid (kids.length = 1) := qk
      clear qk
      by_cases qnum : num = 0
      · skip
        by_cases qfar : far = 0
        · skip
          by_cases qop : op = 0
          · skip
            go_wp2_with fail
            (try (rename_i kk hkk; simp only [List.append_eq, List.cons_append, List.nil_append] at hkk))
            refine (HR1.out _ HB.out).mono ?_
            rintro e w4 ⟨rfl, hb⟩
            have hA := blk HA.out hb
            have hB := HB.out.trans (hb.mono HB.out.size)
            clear HA HB hb d0 d1 d2 d3 d4 d5 d6 d7
            have HA : Hid (w4.heap[w.heap.size]? = some (.cells #[.int .i64 9, .int .i64 op, .string (bs name), .int .i64 num, .int .i64 far, .slice a kids.length c, .slice a2 thn.length c2, .slice a3 els.length c3] 92 (0, 0))) := hA
            have HB : Hid (Below w.heap.size w w4) := hB
            have d0 : w4.cell? ⟨w.heap.size, 0, none⟩ = some (.int .i64 9) := cell_of_row _ _ 0 _ _ _ hA
            have d1 : w4.cell? ⟨w.heap.size, 1, none⟩ = some (.int .i64 op) := cell_of_row _ _ 1 _ _ _ hA
            have d2 : w4.cell? ⟨w.heap.size, 2, none⟩ = some (.string (bs name)) := cell_of_row _ _ 2 _ _ _ hA
            have d3 : w4.cell? ⟨w.heap.size, 3, none⟩ = some (.int .i64 num) := cell_of_row _ _ 3 _ _ _ hA
            have d4 : w4.cell? ⟨w.heap.size, 4, none⟩ = some (.int .i64 far) := cell_of_row _ _ 4 _ _ _ hA
            have d5 : w4.cell? ⟨w.heap.size, 5, none⟩ = some (.slice a kids.length c) := cell_of_row _ _ 5 _ _ _ hA
            have d6 : w4.cell? ⟨w.heap.size, 6, none⟩ = some (.slice a2 thn.length c2) := cell_of_row _ _ 6 _ _ _ hA
            have d7 : w4.cell? ⟨w.heap.size, 7, none⟩ = some (.slice a3 els.length c3) := cell_of_row _ _ 7 _ _ _ hA
            clear hA hB
            cases r1 with
            | false =>
              (try simp only [])
              have HE : Hid (R = false) := by unfold Hid; rw [HO.out]; simp []
              clear HO
              go_wp2_with fail
              go_ret
              exact ⟨by rw [HE.out]; rfl, HB.out⟩
            | true =>
              (try simp only [])
              go_wp2_with fail
              refine (HR2.out _ HB.out).mono ?_
              rintro e w5 ⟨rfl, hb⟩
              have hA := blk HA.out hb
              have hB := HB.out.trans (hb.mono HB.out.size)
              clear HA HB hb d0 d1 d2 d3 d4 d5 d6 d7
              have HA : Hid (w5.heap[w.heap.size]? = some (.cells #[.int .i64 9, .int .i64 op, .string (bs name), .int .i64 num, .int .i64 far, .slice a kids.length c, .slice a2 thn.length c2, .slice a3 els.length c3] 92 (0, 0))) := hA
              have HB : Hid (Below w.heap.size w w5) := hB
              have d0 : w5.cell? ⟨w.heap.size, 0, none⟩ = some (.int .i64 9) := cell_of_row _ _ 0 _ _ _ hA
              have d1 : w5.cell? ⟨w.heap.size, 1, none⟩ = some (.int .i64 op) := cell_of_row _ _ 1 _ _ _ hA
              have d2 : w5.cell? ⟨w.heap.size, 2, none⟩ = some (.string (bs name)) := cell_of_row _ _ 2 _ _ _ hA
              have d3 : w5.cell? ⟨w.heap.size, 3, none⟩ = some (.int .i64 num) := cell_of_row _ _ 3 _ _ _ hA
              have d4 : w5.cell? ⟨w.heap.size, 4, none⟩ = some (.int .i64 far) := cell_of_row _ _ 4 _ _ _ hA
              have d5 : w5.cell? ⟨w.heap.size, 5, none⟩ = some (.slice a kids.length c) := cell_of_row _ _ 5 _ _ _ hA
              have d6 : w5.cell? ⟨w.heap.size, 6, none⟩ = some (.slice a2 thn.length c2) := cell_of_row _ _ 6 _ _ _ hA
              have d7 : w5.cell? ⟨w.heap.size, 7, none⟩ = some (.slice a3 els.length c3) := cell_of_row _ _ 7 _ _ _ hA
              clear hA hB
              cases r2 with
              | false =>
                (try simp only [])
                have HE : Hid (R = false) := by unfold Hid; rw [HO.out]; simp []
                clear HO
                go_wp2_with fail
                go_ret
                exact ⟨by rw [HE.out]; rfl, HB.out⟩
              | true =>
                (try simp only [])
                go_wp2_with fail
                refine (HR3.out _ HB.out).mono ?_
                rintro e w6 ⟨rfl, hb⟩
                have hA := blk HA.out hb
                have hB := HB.out.trans (hb.mono HB.out.size)
                clear HA HB hb d0 d1 d2 d3 d4 d5 d6 d7
                have HA : Hid (w6.heap[w.heap.size]? = some (.cells #[.int .i64 9, .int .i64 op, .string (bs name), .int .i64 num, .int .i64 far, .slice a kids.length c, .slice a2 thn.length c2, .slice a3 els.length c3] 92 (0, 0))) := hA
                have HB : Hid (Below w.heap.size w w6) := hB
                have d0 : w6.cell? ⟨w.heap.size, 0, none⟩ = some (.int .i64 9) := cell_of_row _ _ 0 _ _ _ hA
                have d1 : w6.cell? ⟨w.heap.size, 1, none⟩ = some (.int .i64 op) := cell_of_row _ _ 1 _ _ _ hA
                have d2 : w6.cell? ⟨w.heap.size, 2, none⟩ = some (.string (bs name)) := cell_of_row _ _ 2 _ _ _ hA
                have d3 : w6.cell? ⟨w.heap.size, 3, none⟩ = some (.int .i64 num) := cell_of_row _ _ 3 _ _ _ hA
                have d4 : w6.cell? ⟨w.heap.size, 4, none⟩ = some (.int .i64 far) := cell_of_row _ _ 4 _ _ _ hA
                have d5 : w6.cell? ⟨w.heap.size, 5, none⟩ = some (.slice a kids.length c) := cell_of_row _ _ 5 _ _ _ hA
                have d6 : w6.cell? ⟨w.heap.size, 6, none⟩ = some (.slice a2 thn.length c2) := cell_of_row _ _ 6 _ _ _ hA
                have d7 : w6.cell? ⟨w.heap.size, 7, none⟩ = some (.slice a3 els.length c3) := cell_of_row _ _ 7 _ _ _ hA
                clear hA hB
                have HE : Hid (R = r3) := by unfold Hid; rw [HO.out]; simp [qname, QK.out, qnum, qfar, qop]
                clear HO
                go_wp2_with fail
                go_ret
                exact ⟨by rw [HE.out]; rfl, HB.out⟩
          · have hz1 : (op == 0) = false := by simpa using qop
            have hz2 : decide (op = 0) = false := decide_eq_false qop
            have HE : Hid (R = false) := by unfold Hid; rw [HO.out]; simp [qop]
            clear HO
            go_wp2_with fail
            go_ret
            exact ⟨by rw [HE.out]; rfl, HB.out⟩
        · have hz1 : (far == 0) = false := by simpa using qfar
          have hz2 : decide (far = 0) = false := decide_eq_false qfar
          have HE : Hid (R = false) := by unfold Hid; rw [HO.out]; simp [qfar]
          clear HO
          go_wp2_with fail
          go_ret
          exact ⟨by rw [HE.out]; rfl, HB.out⟩
      · have hz1 : (num == 0) = false := by simpa using qnum
        have hz2 : decide (num = 0) = false := decide_eq_false qnum
        have HE : Hid (R = false) := by unfold Hid; rw [HO.out]; simp [qnum]
        clear HO
        go_wp2_with fail
        go_ret
        exact ⟨by rw [HE.out]; rfl, HB.out⟩
    · have hz1 : (((kids.length : Nat) : Int) == 1) = false := by rw [beq_eq_false_iff_ne]; omega
      have hz2 : decide (((kids.length : Nat) : Int) = 1) = false := decide_eq_false (by omega)
      have hz6 : (((kids.length : Nat) : Int) != 1) = true := by rw [bne_iff_ne]; omega
      have QK : Hid (¬ (1 ≤ kids.length ∧ kids.length ≤ 1)) := by unfold Hid; omega
      clear qk
      have HE : Hid (R = false) := by unfold Hid; rw [HO.out]; simp [QK.out]
      clear HO
      go_wp2_with fail
      go_ret
      exact ⟨by rw [HE.out]; rfl, HB.out⟩
  · have hz1 : (name == []) = false := by simpa using qname
    have hz2 : decide (name = []) = false := decide_eq_false qname
    cases qn with
    | false =>
      (try simp only [])
      have HE : Hid (R = false) := by unfold Hid; rw [HO.out]; simp [qname]
      clear HO
      go_wp2_with fail
      go_ret
      exact ⟨by rw [HE.out]; rfl, HB.out⟩
    | true =>
      (try simp only [])
      have HE : Hid (R = false) := by unfold Hid; rw [HO.out]; simp [qname]
      clear HO
      go_wp2_with fail
      go_ret
      exact ⟨by rw [HE.out]; rfl, HB.out⟩
set_option maxHeartbeats 6400000 in
set_option maxRecDepth 100000 in
theorem rgt10 (R : Bool) (p at_ : Nat) (b o cn : Nat) (nn : Nat) (vv vb : Value) (op : Int) (name : List UInt8) (num far : Int) (kids thn els : List Int) (a a2 a3 : Option Addr) (c c2 c3 : Nat) (w : World) (hl : name.length ≤ 1048576) (hk1 : kids.length ≤ 1048576) (hk2 : thn.length ≤ 1048576) (hk3 : els.length ≤ 1048576)
    (r1 r2 r3 : Bool) (hO : R = ((decide (op = 0) && isNameL name && inB num 0 65535 && inB far 0 65535 && kids.isEmpty && els.isEmpty) && r1 && r2 && r3)) (hat : at_ < nn) (hp1 : w.cell? ⟨p, 1, none⟩ = some (.slice (some ⟨b, o, none⟩) nn cn))
    (hc0 : w.cell? ⟨b, o + at_ * 8, none⟩ = some (.int .i64 10))
    (hc1 : w.cell? ⟨b, o + at_ * 8 + 1, none⟩ = some (.int .i64 op))
    (hc2 : w.cell? ⟨b, o + at_ * 8 + 2, none⟩ = some (.string (bs name)))
    (hc3 : w.cell? ⟨b, o + at_ * 8 + 3, none⟩ = some (.int .i64 num))
    (hc4 : w.cell? ⟨b, o + at_ * 8 + 4, none⟩ = some (.int .i64 far))
    (hc5 : w.cell? ⟨b, o + at_ * 8 + 5, none⟩ = some (.slice a kids.length c))
    (hc6 : w.cell? ⟨b, o + at_ * 8 + 6, none⟩ = some (.slice a2 thn.length c2))
    (hc7 : w.cell? ⟨b, o + at_ * 8 + 7, none⟩ = some (.slice a3 els.length c3))
    (hR1 : ∀ W, Below w.heap.size w W → Calls Try.prog 56 #[.pointer (some ⟨p, 0, none⟩), .int .i64 at_, .slice a kids.length c, .bool true] W fun e w' => e = .returned (.bool r1) ∧ Below W.heap.size W w')
    (hR2 : ∀ W, Below w.heap.size w W → Calls Try.prog 56 #[.pointer (some ⟨p, 0, none⟩), .int .i64 at_, .slice a2 thn.length c2, .bool false] W fun e w' => e = .returned (.bool r2) ∧ Below W.heap.size W w')
    (hR3 : ∀ W, Below w.heap.size w W → Calls Try.prog 56 #[.pointer (some ⟨p, 0, none⟩), .int .i64 at_, .slice a3 els.length c3, .bool false] W fun e w' => e = .returned (.bool r3) ∧ Below W.heap.size W w') :
    Calls Try.prog 55 #[.pointer (some ⟨p, 0, none⟩), .int .i64 at_] w fun e w' => e = .returned (.bool R) ∧ Below w.heap.size w w' := by
  have HO : Hid (R = ((decide (op = 0) && isNameL name && inB num 0 65535 && inB far 0 65535 && kids.isEmpty && els.isEmpty) && r1 && r2 && r3)) := hO
  have HR1 : Hid (∀ W, Below w.heap.size w W → Calls Try.prog 56 #[.pointer (some ⟨p, 0, none⟩), .int .i64 at_, .slice a kids.length c, .bool true] W fun e w' => e = .returned (.bool r1) ∧ Below W.heap.size W w') := hR1
  have HR2 : Hid (∀ W, Below w.heap.size w W → Calls Try.prog 56 #[.pointer (some ⟨p, 0, none⟩), .int .i64 at_, .slice a2 thn.length c2, .bool false] W fun e w' => e = .returned (.bool r2) ∧ Below W.heap.size W w') := hR2
  have HR3 : Hid (∀ W, Below w.heap.size w W → Calls Try.prog 56 #[.pointer (some ⟨p, 0, none⟩), .int .i64 at_, .slice a3 els.length c3, .bool false] W fun e w' => e = .returned (.bool r3) ∧ Below W.heap.size W w') := hR3
  have hI0 : (0 : Int) ≤ (at_ : Int) := by omega
  have hI1 : (at_ : Int) < (nn : Int) := by omega
  clear hO hR1 hR2 hR3
  go_enter Try.func55, Try.ntmps55
  go_wp2_with fail
  have hA := heap_alloc_new w (.cells #[.int .i64 10, .int .i64 op, .string (bs name), .int .i64 num, .int .i64 far, .slice a kids.length c, .slice a2 thn.length c2, .slice a3 els.length c3] 92)
  have hB : Below w.heap.size w (w.alloc (.cells #[.int .i64 10, .int .i64 op, .string (bs name), .int .i64 num, .int .i64 far, .slice a kids.length c, .slice a2 thn.length c2, .slice a3 els.length c3] 92)) := (Below.refl _ _).alloc (Nat.le_refl _) _
  generalize w.alloc (.cells #[.int .i64 10, .int .i64 op, .string (bs name), .int .i64 num, .int .i64 far, .slice a kids.length c, .slice a2 thn.length c2, .slice a3 els.length c3] 92) = W at *
  have d0 : W.cell? ⟨w.heap.size, 0, none⟩ = some (.int .i64 10) := cell_of_row _ _ 0 _ _ _ hA
  have d1 : W.cell? ⟨w.heap.size, 1, none⟩ = some (.int .i64 op) := cell_of_row _ _ 1 _ _ _ hA
  have d2 : W.cell? ⟨w.heap.size, 2, none⟩ = some (.string (bs name)) := cell_of_row _ _ 2 _ _ _ hA
  have d3 : W.cell? ⟨w.heap.size, 3, none⟩ = some (.int .i64 num) := cell_of_row _ _ 3 _ _ _ hA
  have d4 : W.cell? ⟨w.heap.size, 4, none⟩ = some (.int .i64 far) := cell_of_row _ _ 4 _ _ _ hA
  have d5 : W.cell? ⟨w.heap.size, 5, none⟩ = some (.slice a kids.length c) := cell_of_row _ _ 5 _ _ _ hA
  have d6 : W.cell? ⟨w.heap.size, 6, none⟩ = some (.slice a2 thn.length c2) := cell_of_row _ _ 6 _ _ _ hA
  have d7 : W.cell? ⟨w.heap.size, 7, none⟩ = some (.slice a3 els.length c3) := cell_of_row _ _ 7 _ _ _ hA
  have HB : Hid (Below w.heap.size w W) := hB
  have HA : Hid (W.heap[w.heap.size]? = some (.cells #[.int .i64 10, .int .i64 op, .string (bs name), .int .i64 num, .int .i64 far, .slice a kids.length c, .slice a2 thn.length c2, .slice a3 els.length c3] 92 (0, 0))) := hA
  clear hA hB hp1 hc0 hc1 hc2 hc3 hc4 hc5 hc6 hc7
  refine (l1In_any 10 1 11 _).mono ?_
  rintro e w1 ⟨rfl, rfl⟩
  have e1 : inB 10 1 11 = true := by decide
  rw [e1]
  clear e1
  go_wp2_with fail
  refine (l4Wants_any (⟨10, op, name, num, far, kids, thn, els⟩ : LNode) _ _ _ _ ⟨_, _, _, rfl⟩ ⟨_, _, _, rfl⟩ ⟨_, _, _, rfl⟩).mono ?_
  rintro e w2 ⟨rfl, hb⟩
  have e1 : wantsN 10 = (true, 0, true) := by decide
  simp only [wantsV, e1]
  clear e1
  have hA := blk HA.out hb
  have hB := HB.out.trans (hb.mono HB.out.size)
  clear HA HB hb d0 d1 d2 d3 d4 d5 d6 d7
  have HA : Hid (w2.heap[w.heap.size]? = some (.cells #[.int .i64 10, .int .i64 op, .string (bs name), .int .i64 num, .int .i64 far, .slice a kids.length c, .slice a2 thn.length c2, .slice a3 els.length c3] 92 (0, 0))) := hA
  have HB : Hid (Below w.heap.size w w2) := hB
  have d0 : w2.cell? ⟨w.heap.size, 0, none⟩ = some (.int .i64 10) := cell_of_row _ _ 0 _ _ _ hA
  have d1 : w2.cell? ⟨w.heap.size, 1, none⟩ = some (.int .i64 op) := cell_of_row _ _ 1 _ _ _ hA
  have d2 : w2.cell? ⟨w.heap.size, 2, none⟩ = some (.string (bs name)) := cell_of_row _ _ 2 _ _ _ hA
  have d3 : w2.cell? ⟨w.heap.size, 3, none⟩ = some (.int .i64 num) := cell_of_row _ _ 3 _ _ _ hA
  have d4 : w2.cell? ⟨w.heap.size, 4, none⟩ = some (.int .i64 far) := cell_of_row _ _ 4 _ _ _ hA
  have d5 : w2.cell? ⟨w.heap.size, 5, none⟩ = some (.slice a kids.length c) := cell_of_row _ _ 5 _ _ _ hA
  have d6 : w2.cell? ⟨w.heap.size, 6, none⟩ = some (.slice a2 thn.length c2) := cell_of_row _ _ 6 _ _ _ hA
  have d7 : w2.cell? ⟨w.heap.size, 7, none⟩ = some (.slice a3 els.length c3) := cell_of_row _ _ 7 _ _ _ hA
  clear hA hB
  go_wp2_with fail
  (try (rename_i kk hkk; simp only [List.append_eq, List.cons_append, List.nil_append] at hkk))
  refine (isName_any name _ (by omega)).mono ?_
  rintro e w3 ⟨rfl, hb⟩
  have hA := blk HA.out hb
  have hB := HB.out.trans (hb.mono HB.out.size)
  clear HA HB hb d0 d1 d2 d3 d4 d5 d6 d7
  have HA : Hid (w3.heap[w.heap.size]? = some (.cells #[.int .i64 10, .int .i64 op, .string (bs name), .int .i64 num, .int .i64 far, .slice a kids.length c, .slice a2 thn.length c2, .slice a3 els.length c3] 92 (0, 0))) := hA
  have HB : Hid (Below w.heap.size w w3) := hB
  have d0 : w3.cell? ⟨w.heap.size, 0, none⟩ = some (.int .i64 10) := cell_of_row _ _ 0 _ _ _ hA
  have d1 : w3.cell? ⟨w.heap.size, 1, none⟩ = some (.int .i64 op) := cell_of_row _ _ 1 _ _ _ hA
  have d2 : w3.cell? ⟨w.heap.size, 2, none⟩ = some (.string (bs name)) := cell_of_row _ _ 2 _ _ _ hA
  have d3 : w3.cell? ⟨w.heap.size, 3, none⟩ = some (.int .i64 num) := cell_of_row _ _ 3 _ _ _ hA
  have d4 : w3.cell? ⟨w.heap.size, 4, none⟩ = some (.int .i64 far) := cell_of_row _ _ 4 _ _ _ hA
  have d5 : w3.cell? ⟨w.heap.size, 5, none⟩ = some (.slice a kids.length c) := cell_of_row _ _ 5 _ _ _ hA
  have d6 : w3.cell? ⟨w.heap.size, 6, none⟩ = some (.slice a2 thn.length c2) := cell_of_row _ _ 6 _ _ _ hA
  have d7 : w3.cell? ⟨w.heap.size, 7, none⟩ = some (.slice a3 els.length c3) := cell_of_row _ _ 7 _ _ _ hA
  clear hA hB
  obtain ⟨qn, hqn⟩ : ∃ q, isNameL name = q := ⟨_, rfl⟩
  rw [hqn]
  cases qn with
  | false =>
    (try simp only [])
    have HE : Hid (R = false) := by unfold Hid; rw [HO.out]; simp [hqn]
    clear HO
    go_wp2_with fail
    go_ret
    exact ⟨by rw [HE.out]; rfl, HB.out⟩
  | true =>
    (try simp only [])
    by_cases qk : kids.length = 0
    · have hz1 : (((kids.length : Nat) : Int) == 0) = true := by rw [beq_iff_eq]; omega
      have hz2 : decide (((kids.length : Nat) : Int) = 0) = true := decide_eq_true (by omega)
      have hz6 : (((kids.length : Nat) : Int) != 0) = false := by rw [bne_eq_false_iff_eq]; omega
      have QK : Hid (kids = []) := List.length_eq_zero_iff.1 qk
      clear qk
      go_wp2_with fail
      (try (rename_i kk hkk; simp only [List.append_eq, List.cons_append, List.nil_append] at hkk))
      refine (l1Word_any num _).mono ?_
      rintro e w' ⟨rfl, rfl⟩
      obtain ⟨q, qnum⟩ : ∃ q, inB num 0 65535 = q := ⟨_, rfl⟩
      rw [qnum]
      cases q with
      | false =>
        (try simp only [])
        have HE : Hid (R = false) := by unfold Hid; rw [HO.out]; simp [qnum]
        clear HO
        go_wp2_with fail
        go_ret
        exact ⟨by rw [HE.out]; rfl, HB.out⟩
      | true =>
        (try simp only [])
        go_wp2_with fail
        (try (rename_i kk hkk; simp only [List.append_eq, List.cons_append, List.nil_append] at hkk))
        refine (l1Word_any far _).mono ?_
        rintro e w' ⟨rfl, rfl⟩
        obtain ⟨q, qfar⟩ : ∃ q, inB far 0 65535 = q := ⟨_, rfl⟩
        rw [qfar]
        cases q with
        | false =>
          (try simp only [])
          have HE : Hid (R = false) := by unfold Hid; rw [HO.out]; simp [qfar]
          clear HO
          go_wp2_with fail
          go_ret
          exact ⟨by rw [HE.out]; rfl, HB.out⟩
        | true =>
          (try simp only [])
          by_cases qop : op = 0
          · skip
            by_cases qels : els = []
            · rw [qels] at HR3
              simp only [List.length_nil] at HR3
              go_wp2_with fail
              (try (rename_i kk hkk; simp only [List.append_eq, List.cons_append, List.nil_append] at hkk))
              refine (HR1.out _ HB.out).mono ?_
              rintro e w4 ⟨rfl, hb⟩
              have hA := blk HA.out hb
              have hB := HB.out.trans (hb.mono HB.out.size)
              clear HA HB hb d0 d1 d2 d3 d4 d5 d6 d7
              have HA : Hid (w4.heap[w.heap.size]? = some (.cells #[.int .i64 10, .int .i64 op, .string (bs name), .int .i64 num, .int .i64 far, .slice a kids.length c, .slice a2 thn.length c2, .slice a3 els.length c3] 92 (0, 0))) := hA
              have HB : Hid (Below w.heap.size w w4) := hB
              have d0 : w4.cell? ⟨w.heap.size, 0, none⟩ = some (.int .i64 10) := cell_of_row _ _ 0 _ _ _ hA
              have d1 : w4.cell? ⟨w.heap.size, 1, none⟩ = some (.int .i64 op) := cell_of_row _ _ 1 _ _ _ hA
              have d2 : w4.cell? ⟨w.heap.size, 2, none⟩ = some (.string (bs name)) := cell_of_row _ _ 2 _ _ _ hA
              have d3 : w4.cell? ⟨w.heap.size, 3, none⟩ = some (.int .i64 num) := cell_of_row _ _ 3 _ _ _ hA
              have d4 : w4.cell? ⟨w.heap.size, 4, none⟩ = some (.int .i64 far) := cell_of_row _ _ 4 _ _ _ hA
              have d5 : w4.cell? ⟨w.heap.size, 5, none⟩ = some (.slice a kids.length c) := cell_of_row _ _ 5 _ _ _ hA
              have d6 : w4.cell? ⟨w.heap.size, 6, none⟩ = some (.slice a2 thn.length c2) := cell_of_row _ _ 6 _ _ _ hA
              have d7 : w4.cell? ⟨w.heap.size, 7, none⟩ = some (.slice a3 els.length c3) := cell_of_row _ _ 7 _ _ _ hA
              clear hA hB
              cases r1 with
              | false =>
                (try simp only [])
                have HE : Hid (R = false) := by unfold Hid; rw [HO.out]; simp []
                clear HO
                go_wp2_with fail
                go_ret
                exact ⟨by rw [HE.out]; rfl, HB.out⟩
              | true =>
                (try simp only [])
                go_wp2_with fail
                refine (HR2.out _ HB.out).mono ?_
                rintro e w5 ⟨rfl, hb⟩
                have hA := blk HA.out hb
                have hB := HB.out.trans (hb.mono HB.out.size)
                clear HA HB hb d0 d1 d2 d3 d4 d5 d6 d7
                have HA : Hid (w5.heap[w.heap.size]? = some (.cells #[.int .i64 10, .int .i64 op, .string (bs name), .int .i64 num, .int .i64 far, .slice a kids.length c, .slice a2 thn.length c2, .slice a3 els.length c3] 92 (0, 0))) := hA
                have HB : Hid (Below w.heap.size w w5) := hB
                have d0 : w5.cell? ⟨w.heap.size, 0, none⟩ = some (.int .i64 10) := cell_of_row _ _ 0 _ _ _ hA
                have d1 : w5.cell? ⟨w.heap.size, 1, none⟩ = some (.int .i64 op) := cell_of_row _ _ 1 _ _ _ hA
                have d2 : w5.cell? ⟨w.heap.size, 2, none⟩ = some (.string (bs name)) := cell_of_row _ _ 2 _ _ _ hA
                have d3 : w5.cell? ⟨w.heap.size, 3, none⟩ = some (.int .i64 num) := cell_of_row _ _ 3 _ _ _ hA
                have d4 : w5.cell? ⟨w.heap.size, 4, none⟩ = some (.int .i64 far) := cell_of_row _ _ 4 _ _ _ hA
                have d5 : w5.cell? ⟨w.heap.size, 5, none⟩ = some (.slice a kids.length c) := cell_of_row _ _ 5 _ _ _ hA
                have d6 : w5.cell? ⟨w.heap.size, 6, none⟩ = some (.slice a2 thn.length c2) := cell_of_row _ _ 6 _ _ _ hA
                have d7 : w5.cell? ⟨w.heap.size, 7, none⟩ = some (.slice a3 els.length c3) := cell_of_row _ _ 7 _ _ _ hA
                clear hA hB
                cases r2 with
                | false =>
                  (try simp only [])
                  have HE : Hid (R = false) := by unfold Hid; rw [HO.out]; simp []
                  clear HO
                  go_wp2_with fail
                  go_ret
                  exact ⟨by rw [HE.out]; rfl, HB.out⟩
                | true =>
                  (try simp only [])
                  go_wp2_with fail
                  refine (HR3.out _ HB.out).mono ?_
                  rintro e w6 ⟨rfl, hb⟩
                  have hA := blk HA.out hb
                  have hB := HB.out.trans (hb.mono HB.out.size)
                  clear HA HB hb d0 d1 d2 d3 d4 d5 d6 d7
                  have HA : Hid (w6.heap[w.heap.size]? = some (.cells #[.int .i64 10, .int .i64 op, .string (bs name), .int .i64 num, .int .i64 far, .slice a kids.length c, .slice a2 thn.length c2, .slice a3 els.length c3] 92 (0, 0))) := hA
                  have HB : Hid (Below w.heap.size w w6) := hB
                  have d0 : w6.cell? ⟨w.heap.size, 0, none⟩ = some (.int .i64 10) := cell_of_row _ _ 0 _ _ _ hA
                  have d1 : w6.cell? ⟨w.heap.size, 1, none⟩ = some (.int .i64 op) := cell_of_row _ _ 1 _ _ _ hA
                  have d2 : w6.cell? ⟨w.heap.size, 2, none⟩ = some (.string (bs name)) := cell_of_row _ _ 2 _ _ _ hA
                  have d3 : w6.cell? ⟨w.heap.size, 3, none⟩ = some (.int .i64 num) := cell_of_row _ _ 3 _ _ _ hA
                  have d4 : w6.cell? ⟨w.heap.size, 4, none⟩ = some (.int .i64 far) := cell_of_row _ _ 4 _ _ _ hA
                  have d5 : w6.cell? ⟨w.heap.size, 5, none⟩ = some (.slice a kids.length c) := cell_of_row _ _ 5 _ _ _ hA
                  have d6 : w6.cell? ⟨w.heap.size, 6, none⟩ = some (.slice a2 thn.length c2) := cell_of_row _ _ 6 _ _ _ hA
                  have d7 : w6.cell? ⟨w.heap.size, 7, none⟩ = some (.slice a3 els.length c3) := cell_of_row _ _ 7 _ _ _ hA
                  clear hA hB
                  have HE : Hid (R = r3) := by unfold Hid; rw [HO.out]; simp [hqn, QK.out, qnum, qfar, qop, qels]
                  clear HO
                  go_wp2_with fail
                  go_ret
                  exact ⟨by rw [HE.out]; rfl, HB.out⟩
            · have hz : 0 < els.length := List.length_pos_iff.2 qels
              have hz3 : decide ((0 : Int) < ((els.length : Nat) : Int)) = true := decide_eq_true (by omega)
              have HE : Hid (R = false) := by unfold Hid; rw [HO.out]; simp [qels]
              clear HO
              go_wp2_with fail
              go_ret
              exact ⟨by rw [HE.out]; rfl, HB.out⟩
          · have hz1 : (op == 0) = false := by simpa using qop
            have hz2 : decide (op = 0) = false := decide_eq_false qop
            have HE : Hid (R = false) := by unfold Hid; rw [HO.out]; simp [qop]
            clear HO
            go_wp2_with fail
            go_ret
            exact ⟨by rw [HE.out]; rfl, HB.out⟩
    · have hz1 : (((kids.length : Nat) : Int) == 0) = false := by rw [beq_eq_false_iff_ne]; omega
      have hz2 : decide (((kids.length : Nat) : Int) = 0) = false := decide_eq_false (by omega)
      have hz6 : (((kids.length : Nat) : Int) != 0) = true := by rw [bne_iff_ne]; omega
      have QK : Hid (¬ (kids = [])) := by unfold Hid; rintro rfl; exact qk rfl
      clear qk
      have HE : Hid (R = false) := by unfold Hid; rw [HO.out]; simp [QK.out]
      clear HO
      go_wp2_with fail
      go_ret
      exact ⟨by rw [HE.out]; rfl, HB.out⟩
set_option maxHeartbeats 6400000 in
set_option maxRecDepth 100000 in
theorem rgt11 (R : Bool) (p at_ : Nat) (b o cn : Nat) (nn : Nat) (vv vb : Value) (op : Int) (name : List UInt8) (num far : Int) (kids thn els : List Int) (a a2 a3 : Option Addr) (c c2 c3 : Nat) (w : World) (hl : name.length ≤ 1048576) (hk1 : kids.length ≤ 1048576) (hk2 : thn.length ≤ 1048576) (hk3 : els.length ≤ 1048576)
    (r1 r2 r3 : Bool) (hO : R = ((inB op 1 4 && isNameL name && decide (num = 0) && decide (far = 0) && decide (1 ≤ kids.length ∧ kids.length ≤ 3) && thn.isEmpty && els.isEmpty) && r1 && r2 && r3)) (hat : at_ < nn) (hp1 : w.cell? ⟨p, 1, none⟩ = some (.slice (some ⟨b, o, none⟩) nn cn))
    (hc0 : w.cell? ⟨b, o + at_ * 8, none⟩ = some (.int .i64 11))
    (hc1 : w.cell? ⟨b, o + at_ * 8 + 1, none⟩ = some (.int .i64 op))
    (hc2 : w.cell? ⟨b, o + at_ * 8 + 2, none⟩ = some (.string (bs name)))
    (hc3 : w.cell? ⟨b, o + at_ * 8 + 3, none⟩ = some (.int .i64 num))
    (hc4 : w.cell? ⟨b, o + at_ * 8 + 4, none⟩ = some (.int .i64 far))
    (hc5 : w.cell? ⟨b, o + at_ * 8 + 5, none⟩ = some (.slice a kids.length c))
    (hc6 : w.cell? ⟨b, o + at_ * 8 + 6, none⟩ = some (.slice a2 thn.length c2))
    (hc7 : w.cell? ⟨b, o + at_ * 8 + 7, none⟩ = some (.slice a3 els.length c3))
    (hR1 : ∀ W, Below w.heap.size w W → Calls Try.prog 56 #[.pointer (some ⟨p, 0, none⟩), .int .i64 at_, .slice a kids.length c, .bool true] W fun e w' => e = .returned (.bool r1) ∧ Below W.heap.size W w')
    (hR2 : ∀ W, Below w.heap.size w W → Calls Try.prog 56 #[.pointer (some ⟨p, 0, none⟩), .int .i64 at_, .slice a2 thn.length c2, .bool false] W fun e w' => e = .returned (.bool r2) ∧ Below W.heap.size W w')
    (hR3 : ∀ W, Below w.heap.size w W → Calls Try.prog 56 #[.pointer (some ⟨p, 0, none⟩), .int .i64 at_, .slice a3 els.length c3, .bool false] W fun e w' => e = .returned (.bool r3) ∧ Below W.heap.size W w') :
    Calls Try.prog 55 #[.pointer (some ⟨p, 0, none⟩), .int .i64 at_] w fun e w' => e = .returned (.bool R) ∧ Below w.heap.size w w' := by
  have HO : Hid (R = ((inB op 1 4 && isNameL name && decide (num = 0) && decide (far = 0) && decide (1 ≤ kids.length ∧ kids.length ≤ 3) && thn.isEmpty && els.isEmpty) && r1 && r2 && r3)) := hO
  have HR1 : Hid (∀ W, Below w.heap.size w W → Calls Try.prog 56 #[.pointer (some ⟨p, 0, none⟩), .int .i64 at_, .slice a kids.length c, .bool true] W fun e w' => e = .returned (.bool r1) ∧ Below W.heap.size W w') := hR1
  have HR2 : Hid (∀ W, Below w.heap.size w W → Calls Try.prog 56 #[.pointer (some ⟨p, 0, none⟩), .int .i64 at_, .slice a2 thn.length c2, .bool false] W fun e w' => e = .returned (.bool r2) ∧ Below W.heap.size W w') := hR2
  have HR3 : Hid (∀ W, Below w.heap.size w W → Calls Try.prog 56 #[.pointer (some ⟨p, 0, none⟩), .int .i64 at_, .slice a3 els.length c3, .bool false] W fun e w' => e = .returned (.bool r3) ∧ Below W.heap.size W w') := hR3
  have hI0 : (0 : Int) ≤ (at_ : Int) := by omega
  have hI1 : (at_ : Int) < (nn : Int) := by omega
  clear hO hR1 hR2 hR3
  go_enter Try.func55, Try.ntmps55
  go_wp2_with fail
  have hA := heap_alloc_new w (.cells #[.int .i64 11, .int .i64 op, .string (bs name), .int .i64 num, .int .i64 far, .slice a kids.length c, .slice a2 thn.length c2, .slice a3 els.length c3] 92)
  have hB : Below w.heap.size w (w.alloc (.cells #[.int .i64 11, .int .i64 op, .string (bs name), .int .i64 num, .int .i64 far, .slice a kids.length c, .slice a2 thn.length c2, .slice a3 els.length c3] 92)) := (Below.refl _ _).alloc (Nat.le_refl _) _
  generalize w.alloc (.cells #[.int .i64 11, .int .i64 op, .string (bs name), .int .i64 num, .int .i64 far, .slice a kids.length c, .slice a2 thn.length c2, .slice a3 els.length c3] 92) = W at *
  have d0 : W.cell? ⟨w.heap.size, 0, none⟩ = some (.int .i64 11) := cell_of_row _ _ 0 _ _ _ hA
  have d1 : W.cell? ⟨w.heap.size, 1, none⟩ = some (.int .i64 op) := cell_of_row _ _ 1 _ _ _ hA
  have d2 : W.cell? ⟨w.heap.size, 2, none⟩ = some (.string (bs name)) := cell_of_row _ _ 2 _ _ _ hA
  have d3 : W.cell? ⟨w.heap.size, 3, none⟩ = some (.int .i64 num) := cell_of_row _ _ 3 _ _ _ hA
  have d4 : W.cell? ⟨w.heap.size, 4, none⟩ = some (.int .i64 far) := cell_of_row _ _ 4 _ _ _ hA
  have d5 : W.cell? ⟨w.heap.size, 5, none⟩ = some (.slice a kids.length c) := cell_of_row _ _ 5 _ _ _ hA
  have d6 : W.cell? ⟨w.heap.size, 6, none⟩ = some (.slice a2 thn.length c2) := cell_of_row _ _ 6 _ _ _ hA
  have d7 : W.cell? ⟨w.heap.size, 7, none⟩ = some (.slice a3 els.length c3) := cell_of_row _ _ 7 _ _ _ hA
  have HB : Hid (Below w.heap.size w W) := hB
  have HA : Hid (W.heap[w.heap.size]? = some (.cells #[.int .i64 11, .int .i64 op, .string (bs name), .int .i64 num, .int .i64 far, .slice a kids.length c, .slice a2 thn.length c2, .slice a3 els.length c3] 92 (0, 0))) := hA
  clear hA hB hp1 hc0 hc1 hc2 hc3 hc4 hc5 hc6 hc7
  refine (l1In_any 11 1 11 _).mono ?_
  rintro e w1 ⟨rfl, rfl⟩
  have e1 : inB 11 1 11 = true := by decide
  rw [e1]
  clear e1
  go_wp2_with fail
  refine (l4Wants_any (⟨11, op, name, num, far, kids, thn, els⟩ : LNode) _ _ _ _ ⟨_, _, _, rfl⟩ ⟨_, _, _, rfl⟩ ⟨_, _, _, rfl⟩).mono ?_
  rintro e w2 ⟨rfl, hb⟩
  have e1 : wantsN 11 = (true, -1, false) := by decide
  simp only [wantsV, e1]
  clear e1
  have hA := blk HA.out hb
  have hB := HB.out.trans (hb.mono HB.out.size)
  clear HA HB hb d0 d1 d2 d3 d4 d5 d6 d7
  have HA : Hid (w2.heap[w.heap.size]? = some (.cells #[.int .i64 11, .int .i64 op, .string (bs name), .int .i64 num, .int .i64 far, .slice a kids.length c, .slice a2 thn.length c2, .slice a3 els.length c3] 92 (0, 0))) := hA
  have HB : Hid (Below w.heap.size w w2) := hB
  have d0 : w2.cell? ⟨w.heap.size, 0, none⟩ = some (.int .i64 11) := cell_of_row _ _ 0 _ _ _ hA
  have d1 : w2.cell? ⟨w.heap.size, 1, none⟩ = some (.int .i64 op) := cell_of_row _ _ 1 _ _ _ hA
  have d2 : w2.cell? ⟨w.heap.size, 2, none⟩ = some (.string (bs name)) := cell_of_row _ _ 2 _ _ _ hA
  have d3 : w2.cell? ⟨w.heap.size, 3, none⟩ = some (.int .i64 num) := cell_of_row _ _ 3 _ _ _ hA
  have d4 : w2.cell? ⟨w.heap.size, 4, none⟩ = some (.int .i64 far) := cell_of_row _ _ 4 _ _ _ hA
  have d5 : w2.cell? ⟨w.heap.size, 5, none⟩ = some (.slice a kids.length c) := cell_of_row _ _ 5 _ _ _ hA
  have d6 : w2.cell? ⟨w.heap.size, 6, none⟩ = some (.slice a2 thn.length c2) := cell_of_row _ _ 6 _ _ _ hA
  have d7 : w2.cell? ⟨w.heap.size, 7, none⟩ = some (.slice a3 els.length c3) := cell_of_row _ _ 7 _ _ _ hA
  clear hA hB
  go_wp2_with fail
  (try (rename_i kk hkk; simp only [List.append_eq, List.cons_append, List.nil_append] at hkk))
  refine (isName_any name _ (by omega)).mono ?_
  rintro e w3 ⟨rfl, hb⟩
  have hA := blk HA.out hb
  have hB := HB.out.trans (hb.mono HB.out.size)
  clear HA HB hb d0 d1 d2 d3 d4 d5 d6 d7
  have HA : Hid (w3.heap[w.heap.size]? = some (.cells #[.int .i64 11, .int .i64 op, .string (bs name), .int .i64 num, .int .i64 far, .slice a kids.length c, .slice a2 thn.length c2, .slice a3 els.length c3] 92 (0, 0))) := hA
  have HB : Hid (Below w.heap.size w w3) := hB
  have d0 : w3.cell? ⟨w.heap.size, 0, none⟩ = some (.int .i64 11) := cell_of_row _ _ 0 _ _ _ hA
  have d1 : w3.cell? ⟨w.heap.size, 1, none⟩ = some (.int .i64 op) := cell_of_row _ _ 1 _ _ _ hA
  have d2 : w3.cell? ⟨w.heap.size, 2, none⟩ = some (.string (bs name)) := cell_of_row _ _ 2 _ _ _ hA
  have d3 : w3.cell? ⟨w.heap.size, 3, none⟩ = some (.int .i64 num) := cell_of_row _ _ 3 _ _ _ hA
  have d4 : w3.cell? ⟨w.heap.size, 4, none⟩ = some (.int .i64 far) := cell_of_row _ _ 4 _ _ _ hA
  have d5 : w3.cell? ⟨w.heap.size, 5, none⟩ = some (.slice a kids.length c) := cell_of_row _ _ 5 _ _ _ hA
  have d6 : w3.cell? ⟨w.heap.size, 6, none⟩ = some (.slice a2 thn.length c2) := cell_of_row _ _ 6 _ _ _ hA
  have d7 : w3.cell? ⟨w.heap.size, 7, none⟩ = some (.slice a3 els.length c3) := cell_of_row _ _ 7 _ _ _ hA
  clear hA hB
  obtain ⟨qn, hqn⟩ : ∃ q, isNameL name = q := ⟨_, rfl⟩
  rw [hqn]
  cases qn with
  | false =>
    (try simp only [])
    have HE : Hid (R = false) := by unfold Hid; rw [HO.out]; simp [hqn]
    clear HO
    go_wp2_with fail
    go_ret
    exact ⟨by rw [HE.out]; rfl, HB.out⟩
  | true =>
    (try simp only [])
    go_wp2_with fail
    (try (rename_i kk hkk; simp only [List.append_eq, List.cons_append, List.nil_append] at hkk))
    refine (l1In_any (kids.length : Int) 1 3 _).mono ?_
    rintro e w' ⟨rfl, rfl⟩
    obtain ⟨q, qk⟩ : ∃ q, inB (kids.length : Int) 1 3 = q := ⟨_, rfl⟩
    rw [qk]
    cases q with
    | false =>
      (try simp only [])
      have QK : Hid (¬ (1 ≤ kids.length ∧ kids.length ≤ 3)) := by unfold Hid; have := inB_no.1 qk; omega
      have HE : Hid (R = false) := by unfold Hid; rw [HO.out]; simp [QK.out]
      clear HO
      go_wp2_with fail
      go_ret
      exact ⟨by rw [HE.out]; rfl, HB.out⟩
    | true =>
      (try simp only [])
      have QK : Hid (1 ≤ kids.length ∧ kids.length ≤ 3) := by unfold Hid; have := inB_iff.1 qk; omega
      by_cases qnum : num = 0
      · skip
        by_cases qfar : far = 0
        · skip
          go_wp2_with fail
          (try (rename_i kk hkk; simp only [List.append_eq, List.cons_append, List.nil_append] at hkk))
          refine (l1In_any op 1 4 _).mono ?_
          rintro e w' ⟨rfl, rfl⟩
          obtain ⟨q, qop⟩ : ∃ q, inB op 1 4 = q := ⟨_, rfl⟩
          rw [qop]
          cases q with
          | false =>
            (try simp only [])
            have HE : Hid (R = false) := by unfold Hid; rw [HO.out]; simp [qop]
            clear HO
            go_wp2_with fail
            go_ret
            exact ⟨by rw [HE.out]; rfl, HB.out⟩
          | true =>
            (try simp only [])
            by_cases qels : els = []
            · rw [qels] at HR3
              simp only [List.length_nil] at HR3
              by_cases qthn : thn = []
              · rw [qthn] at HR2
                simp only [List.length_nil] at HR2
                go_wp2_with fail
                (try (rename_i kk hkk; simp only [List.append_eq, List.cons_append, List.nil_append] at hkk))
                refine (HR1.out _ HB.out).mono ?_
                rintro e w4 ⟨rfl, hb⟩
                have hA := blk HA.out hb
                have hB := HB.out.trans (hb.mono HB.out.size)
                clear HA HB hb d0 d1 d2 d3 d4 d5 d6 d7
                have HA : Hid (w4.heap[w.heap.size]? = some (.cells #[.int .i64 11, .int .i64 op, .string (bs name), .int .i64 num, .int .i64 far, .slice a kids.length c, .slice a2 thn.length c2, .slice a3 els.length c3] 92 (0, 0))) := hA
                have HB : Hid (Below w.heap.size w w4) := hB
                have d0 : w4.cell? ⟨w.heap.size, 0, none⟩ = some (.int .i64 11) := cell_of_row _ _ 0 _ _ _ hA
                have d1 : w4.cell? ⟨w.heap.size, 1, none⟩ = some (.int .i64 op) := cell_of_row _ _ 1 _ _ _ hA
                have d2 : w4.cell? ⟨w.heap.size, 2, none⟩ = some (.string (bs name)) := cell_of_row _ _ 2 _ _ _ hA
                have d3 : w4.cell? ⟨w.heap.size, 3, none⟩ = some (.int .i64 num) := cell_of_row _ _ 3 _ _ _ hA
                have d4 : w4.cell? ⟨w.heap.size, 4, none⟩ = some (.int .i64 far) := cell_of_row _ _ 4 _ _ _ hA
                have d5 : w4.cell? ⟨w.heap.size, 5, none⟩ = some (.slice a kids.length c) := cell_of_row _ _ 5 _ _ _ hA
                have d6 : w4.cell? ⟨w.heap.size, 6, none⟩ = some (.slice a2 thn.length c2) := cell_of_row _ _ 6 _ _ _ hA
                have d7 : w4.cell? ⟨w.heap.size, 7, none⟩ = some (.slice a3 els.length c3) := cell_of_row _ _ 7 _ _ _ hA
                clear hA hB
                cases r1 with
                | false =>
                  (try simp only [])
                  have HE : Hid (R = false) := by unfold Hid; rw [HO.out]; simp []
                  clear HO
                  go_wp2_with fail
                  go_ret
                  exact ⟨by rw [HE.out]; rfl, HB.out⟩
                | true =>
                  (try simp only [])
                  go_wp2_with fail
                  refine (HR2.out _ HB.out).mono ?_
                  rintro e w5 ⟨rfl, hb⟩
                  have hA := blk HA.out hb
                  have hB := HB.out.trans (hb.mono HB.out.size)
                  clear HA HB hb d0 d1 d2 d3 d4 d5 d6 d7
                  have HA : Hid (w5.heap[w.heap.size]? = some (.cells #[.int .i64 11, .int .i64 op, .string (bs name), .int .i64 num, .int .i64 far, .slice a kids.length c, .slice a2 thn.length c2, .slice a3 els.length c3] 92 (0, 0))) := hA
                  have HB : Hid (Below w.heap.size w w5) := hB
                  have d0 : w5.cell? ⟨w.heap.size, 0, none⟩ = some (.int .i64 11) := cell_of_row _ _ 0 _ _ _ hA
                  have d1 : w5.cell? ⟨w.heap.size, 1, none⟩ = some (.int .i64 op) := cell_of_row _ _ 1 _ _ _ hA
                  have d2 : w5.cell? ⟨w.heap.size, 2, none⟩ = some (.string (bs name)) := cell_of_row _ _ 2 _ _ _ hA
                  have d3 : w5.cell? ⟨w.heap.size, 3, none⟩ = some (.int .i64 num) := cell_of_row _ _ 3 _ _ _ hA
                  have d4 : w5.cell? ⟨w.heap.size, 4, none⟩ = some (.int .i64 far) := cell_of_row _ _ 4 _ _ _ hA
                  have d5 : w5.cell? ⟨w.heap.size, 5, none⟩ = some (.slice a kids.length c) := cell_of_row _ _ 5 _ _ _ hA
                  have d6 : w5.cell? ⟨w.heap.size, 6, none⟩ = some (.slice a2 thn.length c2) := cell_of_row _ _ 6 _ _ _ hA
                  have d7 : w5.cell? ⟨w.heap.size, 7, none⟩ = some (.slice a3 els.length c3) := cell_of_row _ _ 7 _ _ _ hA
                  clear hA hB
                  cases r2 with
                  | false =>
                    (try simp only [])
                    have HE : Hid (R = false) := by unfold Hid; rw [HO.out]; simp []
                    clear HO
                    go_wp2_with fail
                    go_ret
                    exact ⟨by rw [HE.out]; rfl, HB.out⟩
                  | true =>
                    (try simp only [])
                    go_wp2_with fail
                    refine (HR3.out _ HB.out).mono ?_
                    rintro e w6 ⟨rfl, hb⟩
                    have hA := blk HA.out hb
                    have hB := HB.out.trans (hb.mono HB.out.size)
                    clear HA HB hb d0 d1 d2 d3 d4 d5 d6 d7
                    have HA : Hid (w6.heap[w.heap.size]? = some (.cells #[.int .i64 11, .int .i64 op, .string (bs name), .int .i64 num, .int .i64 far, .slice a kids.length c, .slice a2 thn.length c2, .slice a3 els.length c3] 92 (0, 0))) := hA
                    have HB : Hid (Below w.heap.size w w6) := hB
                    have d0 : w6.cell? ⟨w.heap.size, 0, none⟩ = some (.int .i64 11) := cell_of_row _ _ 0 _ _ _ hA
                    have d1 : w6.cell? ⟨w.heap.size, 1, none⟩ = some (.int .i64 op) := cell_of_row _ _ 1 _ _ _ hA
                    have d2 : w6.cell? ⟨w.heap.size, 2, none⟩ = some (.string (bs name)) := cell_of_row _ _ 2 _ _ _ hA
                    have d3 : w6.cell? ⟨w.heap.size, 3, none⟩ = some (.int .i64 num) := cell_of_row _ _ 3 _ _ _ hA
                    have d4 : w6.cell? ⟨w.heap.size, 4, none⟩ = some (.int .i64 far) := cell_of_row _ _ 4 _ _ _ hA
                    have d5 : w6.cell? ⟨w.heap.size, 5, none⟩ = some (.slice a kids.length c) := cell_of_row _ _ 5 _ _ _ hA
                    have d6 : w6.cell? ⟨w.heap.size, 6, none⟩ = some (.slice a2 thn.length c2) := cell_of_row _ _ 6 _ _ _ hA
                    have d7 : w6.cell? ⟨w.heap.size, 7, none⟩ = some (.slice a3 els.length c3) := cell_of_row _ _ 7 _ _ _ hA
                    clear hA hB
                    have HE : Hid (R = r3) := by unfold Hid; rw [HO.out]; simp [hqn, QK.out, qnum, qfar, qop, qels, qthn]
                    clear HO
                    go_wp2_with fail
                    go_ret
                    exact ⟨by rw [HE.out]; rfl, HB.out⟩
              · have hz : 0 < thn.length := List.length_pos_iff.2 qthn
                have hz3 : decide ((0 : Int) < ((thn.length : Nat) : Int)) = true := decide_eq_true (by omega)
                have HE : Hid (R = false) := by unfold Hid; rw [HO.out]; simp [qthn]
                clear HO
                go_wp2_with fail
                go_ret
                exact ⟨by rw [HE.out]; rfl, HB.out⟩
            · have hz : 0 < els.length := List.length_pos_iff.2 qels
              have hz3 : decide ((0 : Int) < ((els.length : Nat) : Int)) = true := decide_eq_true (by omega)
              have HE : Hid (R = false) := by unfold Hid; rw [HO.out]; simp [qels]
              clear HO
              go_wp2_with fail
              go_ret
              exact ⟨by rw [HE.out]; rfl, HB.out⟩
        · have hz1 : (far == 0) = false := by simpa using qfar
          have hz2 : decide (far = 0) = false := decide_eq_false qfar
          have HE : Hid (R = false) := by unfold Hid; rw [HO.out]; simp [qfar]
          clear HO
          go_wp2_with fail
          go_ret
          exact ⟨by rw [HE.out]; rfl, HB.out⟩
      · have hz1 : (num == 0) = false := by simpa using qnum
        have hz2 : decide (num = 0) = false := decide_eq_false qnum
        have HE : Hid (R = false) := by unfold Hid; rw [HO.out]; simp [qnum]
        clear HO
        go_wp2_with fail
        go_ret
        exact ⟨by rw [HE.out]; rfl, HB.out⟩
end Go.Proofs.Ytanalajojjpjnaa
namespace Go.Proofs.Ytanalajojjpjnaa
open Go.RowKit
set_option linter.unusedVariables false
attribute [local go_sem] bs_size bs_get bs_extract bs_append bs_eq bs_toList

set_option maxHeartbeats 3200000 in
set_option maxRecDepth 100000 in
theorem rgt0 (R : Bool) (p at_ : Nat) (b o cn : Nat) (nn : Nat) (K op : Int) (name : List UInt8) (num far : Int) (kids thn els : List Int) (a a2 a3 : Option Addr) (c c2 c3 : Nat) (w : World) (hK : inB K 1 11 = false) (hR : R = false)
    (hat : at_ < nn) (hp1 : w.cell? ⟨p, 1, none⟩ = some (.slice (some ⟨b, o, none⟩) nn cn))
    (hc : NodeCells w b (o + at_ * 8) ⟨K, op, name, num, far, kids, thn, els⟩ (.slice a kids.length c) (.slice a2 thn.length c2) (.slice a3 els.length c3)) :
    Calls Try.prog 55 #[.pointer (some ⟨p, 0, none⟩), .int .i64 at_] w fun e w' => e = .returned (.bool R) ∧ Below w.heap.size w w' := by
  obtain ⟨d0, d1, d2, d3, d4, d5, d6, d7⟩ := hc
  have HW0 : Hid (∀ w, Calls Try.prog 27 #[.int .i64 K, .int .i64 1, .int .i64 11] w fun e w' => e = .returned (.bool false) ∧ w' = w) := fun w => by have h := l1In_any K 1 11 w; rwa [hK] at h
  have HR : Hid (R = false) := hR
  have hI0 : (0 : Int) ≤ (at_ : Int) := by omega
  have hI1 : (at_ : Int) < (nn : Int) := by omega
  clear hK hR
  simp only at d0 d1 d2 d3 d4 d5 d6 d7
  go_enter Try.func55, Try.ntmps55
  go_wp2_with fail
  have hB : Below w.heap.size w (w.alloc (.cells #[.int .i64 K, .int .i64 op, .string (bs name), .int .i64 num, .int .i64 far, .slice a kids.length c, .slice a2 thn.length c2, .slice a3 els.length c3] 92)) := (Below.refl _ _).alloc (Nat.le_refl _) _
  generalize w.alloc (.cells #[.int .i64 K, .int .i64 op, .string (bs name), .int .i64 num, .int .i64 far, .slice a kids.length c, .slice a2 thn.length c2, .slice a3 els.length c3] 92) = W at *
  refine (HW0.out _).mono ?_
  rintro e w1 ⟨rfl, rfl⟩
  go_wp2_with fail
  go_ret
  exact ⟨by rw [HR.out]; rfl, hB⟩

set_option maxHeartbeats 3200000 in
theorem l4Right_any (lo p : Nat) (vv vn vb : Value) (T : LTree) (k : Nat) (w : World) (h : TreeP lo w p vv vn vb T) (hS : Sized 1048576 T) (hn : T.nodes.length ≤ 200) (hk : k < T.nodes.length) :
    Calls Try.prog 55 #[.pointer (some ⟨p, 0, none⟩), .int .i64 k] w fun e w' => e = .returned (.bool (rightB T.nodes k)) ∧ Below w.heap.size w w' := by
  obtain ⟨an, cn, rfl, _, hhn⟩ := id h.tree.nodes
  obtain ⟨b, o, rfl, _, hc2⟩ := hhn (by intro e; rw [e] at hk; simp at hk)
  obtain ⟨y, hy⟩ : ∃ y, T.nodes[k]? = some y := ⟨T.nodes[k], List.getElem?_eq_getElem hk⟩
  obtain ⟨vk, vt, ve, hcs, hvs⟩ := hc2 k y hy
  have hsz := hS.node y (List.mem_of_getElem? hy)
  have hgd : T.nodes.getD k default = y := by rw [List.getD_eq_getElem?_getD, hy]; rfl
  have hR : ∀ (v : Value) (l : List Int) (e : Bool), IntsV lo w v l → l.length ≤ 1048576 → ∀ W, Below w.heap.size w W → Calls Try.prog 56 #[.pointer (some ⟨p, 0, none⟩), .int .i64 k, v, .bool e] W fun e' w' => e' = .returned (.bool (refsB T.nodes k l e)) ∧ Below W.heap.size W w' :=
    fun v l e hv hl W hb => l4Refs_any lo p _ _ _ v T k l e lo W (h.below hb) (by omega) hn (hv.below hb) hl
  have h1 := hR vk y.kids true hvs.kids hsz.2.1
  have h2 := hR vt y.thn false hvs.thn hsz.2.2.1
  have h3 := hR ve y.els false hvs.els hsz.2.2.2
  have hO : rightB T.nodes k = (ownB y && refsB T.nodes k y.kids true && refsB T.nodes k y.thn false && refsB T.nodes k y.els false) := by rw [rightB_eq, hgd]
  obtain ⟨ak, ck, rfl, _⟩ := id hvs.kids
  obtain ⟨at2, ct, rfl, _⟩ := id hvs.thn
  obtain ⟨ae, ce, rfl, _⟩ := id hvs.els
  obtain ⟨K, op, name, num, far, kids, thn, els⟩ := y
  have hcs2 := hcs
  obtain ⟨d0, d1, d2, d3, d4, d5, d6, d7⟩ := hcs
  by_cases hK : inB K 1 11 = true
  · have hh := inB_iff.1 hK
    have : K = 1 ∨ K = 2 ∨ K = 3 ∨ K = 4 ∨ K = 5 ∨ K = 6 ∨ K = 7 ∨ K = 8 ∨ K = 9 ∨ K = 10 ∨ K = 11 := by omega
    rcases this with rfl | rfl | rfl | rfl | rfl | rfl | rfl | rfl | rfl | rfl | rfl
    · exact rgt1 _ p k b o cn T.nodes.length vv vb op name num far kids thn els ak at2 ae ck ct ce w hsz.1 hsz.2.1 hsz.2.2.1 hsz.2.2.2 _ _ _ (by rw [hO, ownK1]) hk h.c1 d0 d1 d2 d3 d4 d5 d6 d7 h1 h2 h3
    · exact rgt2 _ p k b o cn T.nodes.length vv vb op name num far kids thn els ak at2 ae ck ct ce w hsz.1 hsz.2.1 hsz.2.2.1 hsz.2.2.2 _ _ _ (by rw [hO, ownK2]) hk h.c1 d0 d1 d2 d3 d4 d5 d6 d7 h1 h2 h3
    · exact rgt3 _ p k b o cn T.nodes.length vv vb op name num far kids thn els ak at2 ae ck ct ce w hsz.1 hsz.2.1 hsz.2.2.1 hsz.2.2.2 _ _ _ (by rw [hO, ownK3]) hk h.c1 d0 d1 d2 d3 d4 d5 d6 d7 h1 h2 h3
    · exact rgt4 _ p k b o cn T.nodes.length vv vb op name num far kids thn els ak at2 ae ck ct ce w hsz.1 hsz.2.1 hsz.2.2.1 hsz.2.2.2 _ _ _ (by rw [hO, ownK4]) hk h.c1 d0 d1 d2 d3 d4 d5 d6 d7 h1 h2 h3
    · exact rgt5 _ p k b o cn T.nodes.length vv vb op name num far kids thn els ak at2 ae ck ct ce w hsz.1 hsz.2.1 hsz.2.2.1 hsz.2.2.2 _ _ _ (by rw [hO, ownK5]) hk h.c1 d0 d1 d2 d3 d4 d5 d6 d7 h1 h2 h3
    · exact rgt6 _ p k b o cn T.nodes.length vv vb op name num far kids thn els ak at2 ae ck ct ce w hsz.1 hsz.2.1 hsz.2.2.1 hsz.2.2.2 _ _ _ (by rw [hO, ownK6]) hk h.c1 d0 d1 d2 d3 d4 d5 d6 d7 h1 h2 h3
    · exact rgt7 _ p k b o cn T.nodes.length vv vb op name num far kids thn els ak at2 ae ck ct ce w hsz.1 hsz.2.1 hsz.2.2.1 hsz.2.2.2 _ _ _ (by rw [hO, ownK7]) hk h.c1 d0 d1 d2 d3 d4 d5 d6 d7 h1 h2 h3
    · exact rgt8 _ p k b o cn T.nodes.length vv vb op name num far kids thn els ak at2 ae ck ct ce w hsz.1 hsz.2.1 hsz.2.2.1 hsz.2.2.2 _ _ _ (by rw [hO, ownK8]) hk h.c1 d0 d1 d2 d3 d4 d5 d6 d7 h1 h2 h3
    · exact rgt9 _ p k b o cn T.nodes.length vv vb op name num far kids thn els ak at2 ae ck ct ce w hsz.1 hsz.2.1 hsz.2.2.1 hsz.2.2.2 _ _ _ (by rw [hO, ownK9]) hk h.c1 d0 d1 d2 d3 d4 d5 d6 d7 h1 h2 h3
    · exact rgt10 _ p k b o cn T.nodes.length vv vb op name num far kids thn els ak at2 ae ck ct ce w hsz.1 hsz.2.1 hsz.2.2.1 hsz.2.2.2 _ _ _ (by rw [hO, ownK10]) hk h.c1 d0 d1 d2 d3 d4 d5 d6 d7 h1 h2 h3
    · exact rgt11 _ p k b o cn T.nodes.length vv vb op name num far kids thn els ak at2 ae ck ct ce w hsz.1 hsz.2.1 hsz.2.2.1 hsz.2.2.2 _ _ _ (by rw [hO, ownK11]) hk h.c1 d0 d1 d2 d3 d4 d5 d6 d7 h1 h2 h3
  · have hK : inB K 1 11 = false := by simpa using hK
    exact rgt0 _ p k b o cn T.nodes.length K op name num far kids thn els ak at2 ae ck ct ce w hK (by rw [hO]; unfold ownB; simp only [hK, Bool.false_and]) hk h.c1 hcs2

end Go.Proofs.Ytanalajojjpjnaa
namespace Go.Proofs.Ytanalajojjpjnaa
open Go.RowKit
set_option linter.unusedVariables false
attribute [local go_sem] bs_size bs_get bs_extract bs_append bs_eq bs_toList

set_option maxHeartbeats 800000 in
theorem eqIntRes_any (a b : Int) (w : World) : Calls Try.prog 11 #[.agg #[.int .i64 a, .int .i64 b], .agg #[.int .i64 a, .int .i64 b]] w fun e w' => e = .returned (.bool true) ∧ Below w.heap.size w w' := by
  go_enter Try.func11, Try.ntmps11
  go_wp2
  go_ret
  exact ⟨rfl, by go_grown⟩
/-- a function of a tree and a number that answers a code and a value -/
def TreeAt (f : FuncId) (C V : LTree → Int → Int) : Prop := ∀ (lo : Nat) (vv vn vb : Value) (T : LTree) (k : Int) (w : World), TreeV lo w vv vn vb T → Sized 1048576 T →
  Calls Try.prog f #[treeV vv vn vb, .int .i64 k] w fun e w' => e = .returned (.agg #[.int .i64 (C T k), .int .i64 (V T k)]) ∧ Below w.heap.size w w'
/-- a function of a tree and a text that answers a code and a value -/
def TreeNamed (f : FuncId) (C V : LTree → List UInt8 → Int) : Prop := ∀ (lo : Nat) (vv vn vb : Value) (T : LTree) (nm : List UInt8) (w : World), TreeV lo w vv vn vb T → Sized 1048576 T → nm.length ≤ 1048576 →
  Calls Try.prog f #[treeV vv vn vb, .string (bs nm)] w fun e w' => e = .returned (.agg #[.int .i64 (C T nm), .int .i64 (V T nm)]) ∧ Below w.heap.size w w'

end Go.Proofs.Ytanalajojjpjnaa
namespace Go.Proofs.Ytanalajojjpjnaa
open Go.RowKit
set_option linter.unusedVariables false

theorem two_start (w : World) (vv vn vb : Value) (T1 T2 : TypeId) : let W := ((w.alloc (.cells #[vv, vn, vb] T1)).alloc (.cells #[.int .i64 0, .int .i64 0] T2))
    W.heap[w.heap.size]? = some (.cells #[vv, vn, vb] T1 (0, 0)) ∧ W.heap[w.heap.size + 1]? = some (.cells #[.int .i64 0, .int .i64 0] T2 (0, 0)) ∧ Below w.heap.size w W := by
  intro W
  have hA := heap_alloc_new w (.cells #[vv, vn, vb] T1)
  have hB : Below w.heap.size w (w.alloc (.cells #[vv, vn, vb] T1)) := (Below.refl _ _).alloc (Nat.le_refl _) _
  have hZ : (w.alloc (.cells #[vv, vn, vb] T1)).heap.size = w.heap.size + 1 := by simp
  have hA2 := heap_alloc_new (w.alloc (.cells #[vv, vn, vb] T1)) (.cells #[.int .i64 0, .int .i64 0] T2)
  have hB2 : Below (w.alloc (.cells #[vv, vn, vb] T1)).heap.size (w.alloc (.cells #[vv, vn, vb] T1)) W := (Below.refl _ _).alloc (Nat.le_refl _) _
  rw [hZ] at hA2
  exact ⟨blk hA hB2, hA2, hB.trans (hB2.mono (by omega))⟩
end Go.Proofs.Ytanalajojjpjnaa
namespace Go.Proofs.Ytanalajojjpjnaa
open Go.RowKit
set_option linter.unusedVariables false
attribute [local go_sem] bs_size bs_get bs_extract bs_append bs_eq bs_toList

def ceoC (T : LTree) (nm : List UInt8) : Int := if faultL T ≠ 0 then faultL T else if varFrom nm (allL 0 T) 0 < 0 then 4 else 0
def ceoV (T : LTree) (nm : List UInt8) : Int := if faultL T ≠ 0 then 0 else if varFrom nm (allL 0 T) 0 < 0 then 0 else cellsL ((allL 0 T).take (varFrom nm (allL 0 T) 0).toNat)

set_option maxHeartbeats 6400000 in
set_option maxRecDepth 100000 in
theorem specCellOf : TreeNamed 15 ceoC ceoV := by
  intro lo vv vn vb T nm w h hS hnm
  have HF : Hid (∀ (p : Nat) (w' : World), TreeP lo w' p vv vn vb T → Calls Try.prog 26 #[.pointer (some ⟨p, 0, none⟩)] w' fun e w2 => e = .returned (.int .i64 (faultL T)) ∧ Below w'.heap.size w' w2) := fun p w' hp =>
    l4Fault_any lo p vv vn vb T w' hp hS (fun hn k W hb hk => l4Right_any lo p vv vn vb T k W (hp.below hb) hS hn hk)
  have HD : Hid (∀ (p : Nat) (w' : World), TreeP lo w' p vv vn vb T → faultL T = 0 → Calls Try.prog 39 #[.pointer (some ⟨p, 0, none⟩)] w' fun e w2 => ∃ v, e = .returned v ∧ w2.ownsRow w'.heap.size 73 4 v (allL 3 T).length (varCells (allL 3 T)) ∧ Below w'.heap.size w' w2) := fun p w' hp h0 => l5All_any lo p vv vn vb T w' hp (good_of h0)
  have HSZ : Hid (faultL T = 0 → SizesLe (allL 3 T) ∧ (allL 3 T).length ≤ 624) := fun h => ⟨(good_of h).sizes 3, (good_of h).all_len 3⟩
  have HLN : Hid ((allL 3 T).length = (allL 0 T).length) := allL_len T
  have HCC : Hid (∀ (ad : Option Addr) (k c : Nat) (w : World), k ≤ (allL 3 T).length → RowV w ad (allL 3 T) → SizesLe (allL 3 T) → (allL 3 T).length ≤ 624 → Calls Try.prog 38 #[.slice ad k c] w fun e w' => e = .returned (.int .i64 (cellsL ((allL 0 T).take k))) ∧ Below w.heap.size w w') := fun ad k c w h0 h1 h2 h3 => by
    have := l5Cells_any (allL 3 T) ad k c w h0 h1 h2 h3
    rw [cellsL_kind] at this
    exact this
  have HFI : Hid (∀ (ad : Option Addr) (c : Nat) (w : World), RowV w ad (allL 3 T) → (allL 3 T).length ≤ 624 → Calls Try.prog 42 #[.slice ad (allL 3 T).length c, .string (bs nm)] w fun e w' => e = .returned (.int .i64 (varFrom nm (allL 0 T) 0)) ∧ w' = w) := fun ad c w h1 h3 => by
    have := l5Find_any (allL 3 T) nm ad (allL 3 T).length c w rfl h1 h3
    rw [varFrom_kind] at this
    exact this
  have HVO := varFrom_or nm (allL 0 T) 0
  obtain ⟨av, cv, rfl, _⟩ := id h.vars
  obtain ⟨an, cn, rfl, _⟩ := id h.nodes
  obtain ⟨ab, cb, rfl, _⟩ := id h.body
  have HT : Hid (TreeV lo w (.slice av T.vars.length cv) (.slice an T.nodes.length cn) (.slice ab T.body.length cb) T) := h
  have HC : Hid (ceoC T nm = if faultL T ≠ 0 then faultL T else if varFrom nm (allL 0 T) 0 < 0 then 4 else 0) := rfl
  have HW : Hid (ceoV T nm = if faultL T ≠ 0 then 0 else if varFrom nm (allL 0 T) 0 < 0 then 0 else cellsL ((allL 0 T).take (varFrom nm (allL 0 T) 0).toNat)) := rfl
  clear h hS
  go_enter Try.func15, Try.ntmps15
  go_wp2_with fail
  obtain ⟨hA, hA2, hB⟩ := two_start w (.slice av T.vars.length cv) (.slice an T.nodes.length cn) (.slice ab T.body.length cb) 34 29
  generalize ((w.alloc (.cells #[.slice av T.vars.length cv, .slice an T.nodes.length cn, .slice ab T.body.length cb] 34)).alloc (.cells #[.int .i64 0, .int .i64 0] 29)) = W at *
  refine (HF.out _ _ ⟨cell_of_row _ _ 0 _ _ _ hA, cell_of_row _ _ 1 _ _ _ hA, cell_of_row _ _ 2 _ _ _ hA, HT.out.below hB⟩).mono ?_
  rintro e w2 ⟨rfl, hb⟩
  have HA : Hid (w2.heap[w.heap.size]? = some (.cells #[.slice av T.vars.length cv, .slice an T.nodes.length cn, .slice ab T.body.length cb] 34 (0, 0))) := blk hA hb
  have HA2 : Hid (w2.heap[w.heap.size + 1]? = some (.cells #[.int .i64 0, .int .i64 0] 29 (0, 0))) := blk hA2 hb
  have HB : Hid (Below w.heap.size w w2) := hB.trans (hb.mono hB.size)
  clear hA hA2 hB hb HF
  obtain ⟨F, hF⟩ : ∃ F, faultL T = F := ⟨_, rfl⟩
  rw [hF]
  by_cases hz : F = 0
  · subst hz
    have HTP : Hid (TreeP lo w2 w.heap.size (.slice av T.vars.length cv) (.slice an T.nodes.length cn) (.slice ab T.body.length cb) T) := ⟨cell_of_row _ _ 0 _ _ _ HA.out, cell_of_row _ _ 1 _ _ _ HA.out, cell_of_row _ _ 2 _ _ _ HA.out, HT.out.below HB.out⟩
    have HDC : Hid (Calls Try.prog 39 #[.pointer (some ⟨w.heap.size, 0, none⟩)] w2 fun e w3 => ∃ v, e = .returned v ∧ w3.ownsRow w2.heap.size 73 4 v (allL 3 T).length (varCells (allL 3 T)) ∧ Below w2.heap.size w2 w3) := HD.out _ _ HTP.out hF
    have HS2 : Hid (SizesLe (allL 3 T) ∧ (allL 3 T).length ≤ 624) := HSZ.out hF
    have HC : Hid (ceoC T nm = if varFrom nm (allL 0 T) 0 < 0 then 4 else 0) := by unfold Hid; rw [HC.out, hF, if_neg (by simp)]
    have HW : Hid (ceoV T nm = if varFrom nm (allL 0 T) 0 < 0 then 0 else cellsL ((allL 0 T).take (varFrom nm (allL 0 T) 0).toNat)) := by unfold Hid; rw [HW.out, hF, if_neg (by simp)]
    clear hF HD HSZ
    go_wp2_with fail
    refine HDC.out.mono ?_
    rintro e w4 ⟨v, rfl, hown, hb⟩
    obtain ⟨ad, cp, rfl⟩ := rowE_shape hown
    have hcap := row_cap hown
    have hRV := RowV.of_own hown rfl
    have HRV : Hid (RowV w4 ad (allL 3 T)) := hRV
    have HFX : Hid (Calls Try.prog 42 #[.slice ad (allL 3 T).length cp, .string (bs nm)] w4 fun e w' => e = .returned (.int .i64 (varFrom nm (allL 0 T) 0)) ∧ w' = w4) := HFI.out ad cp w4 hRV HS2.out.2
    have HCX : Hid (∀ k, k ≤ (allL 3 T).length → Calls Try.prog 38 #[.slice ad k cp] w4 fun e w' => e = .returned (.int .i64 (cellsL ((allL 0 T).take k))) ∧ Below w4.heap.size w4 w') := fun k hk => HCC.out ad k cp w4 hk hRV HS2.out.1 HS2.out.2
    have hA2 := blk HA2.out hb
    have HB2 : Hid (Below w.heap.size w w4) := HB.out.trans (hb.mono HB.out.size)
    have hln := HLN.out
    have HAD : Hid (0 < (allL 3 T).length → ∃ g, ad = some ⟨g, 0, none⟩) := fun hp => by
      obtain ⟨g, e, _⟩ := hRV (List.length_pos_iff.1 hp)
      exact ⟨g, e⟩
    clear hown hRV hb HCC HS2 HDC HFI HLN HRV
    generalize hL : (allL 3 T).length = L at *
    obtain ⟨X, hX⟩ : ∃ X, X = varFrom nm (allL 0 T) 0 := ⟨_, rfl⟩
    rw [← hX] at HFX HVO HC HW
    clear hX
    rcases HVO with hX1 | ⟨j, rfl, hj⟩
    · have hXn : X < 0 := by omega
      have HCV : Hid (ceoC T nm = 4 ∧ ceoV T nm = 0) := ⟨by rw [HC.out, if_pos hXn], by rw [HW.out, if_pos hXn]⟩
      clear hX1
      have r0 := cell_of_row _ _ 0 _ _ _ hA2
      have r1 := cell_of_row _ _ 1 _ _ _ hA2
      have f0 := frozen_of_row _ _ 0 _ _ hA2
      have f1 := frozen_of_row _ _ 1 _ _ hA2
      simp at r0 r1 f0 f1
      clear HC HW HCX hA2 HAD hln hcap
      go_wp2_with fail
      refine HFX.out.mono ?_
      rintro e w5 ⟨rfl, rfl⟩
      go_wp2_with fail
      refine bodyPost_ret (v := .agg #[.int .i64 4, .int .i64 0]) (by simp [results, Try.results15, go_sem, r0, r1]) rfl ⟨by rw [HCV.out.1, HCV.out.2], (HB2.out.setCell (by simp) _).setCell (by simp) _⟩
    · have HCV : Hid (ceoC T nm = 0 ∧ ceoV T nm = cellsL ((allL 0 T).take j)) := ⟨by rw [HC.out, if_neg (by omega)], by rw [HW.out, if_neg (by omega), Int.toNat_natCast]⟩
      have hj0 : (0 : Int) ≤ (j : Int) := by omega
      have hj1 : (j : Int) ≤ (cp : Int) := by omega
      have HCJ : Hid (Calls Try.prog 38 #[.slice ad j cp] w4 fun e w' => e = .returned (.int .i64 (cellsL ((allL 0 T).take j))) ∧ Below w4.heap.size w4 w') := HCX.out j (by omega)
      obtain ⟨g, rfl⟩ := HAD.out (by omega)
      have hj2 : j ≤ cp := by omega
      clear HC HW HCX hln hj HAD
      go_wp2_with fail
      refine HFX.out.mono ?_
      rintro e w5 ⟨rfl, rfl⟩
      go_wp2_with fail
      refine HCJ.out.mono ?_
      rintro e w5 ⟨rfl, hb⟩
      have hA5 := blk hA2 hb
      have HB5 : Hid (Below w.heap.size w w5) := HB2.out.trans (hb.mono HB2.out.size)
      clear hA2 hb
      have r0 := cell_of_row _ _ 0 _ _ _ hA5
      have r1 := cell_of_row _ _ 1 _ _ _ hA5
      have f0 := frozen_of_row _ _ 0 _ _ hA5
      have f1 := frozen_of_row _ _ 1 _ _ hA5
      simp at r0 r1 f0 f1
      clear hA5
      generalize cellsL ((allL 0 T).take j) = z at *
      go_wp2_with fail
      refine bodyPost_ret (v := .agg #[.int .i64 0, .int .i64 z]) (by simp [results, Try.results15, go_sem, r0, r1]) rfl ⟨by rw [HCV.out.1, HCV.out.2], (HB5.out.setCell (by simp) _).setCell (by simp) _⟩
  · have HCV : Hid (ceoC T nm = F ∧ ceoV T nm = 0) := ⟨by rw [HC.out, hF, if_pos hz], by rw [HW.out, hF, if_pos hz]⟩
    have hz1 : (F == 0) = false := by simpa using hz
    have hz2 : decide (F = 0) = false := decide_eq_false hz
    have r0 := cell_of_row _ _ 0 _ _ _ HA2.out
    have r1 := cell_of_row _ _ 1 _ _ _ HA2.out
    have f0 := frozen_of_row _ _ 0 _ _ HA2.out
    have f1 := frozen_of_row _ _ 1 _ _ HA2.out
    simp at r0 r1 f0 f1
    clear HC HW hF HVO
    go_wp2_with fail
    refine bodyPost_ret (v := .agg #[.int .i64 F, .int .i64 0]) (by simp [results, Try.results15, go_sem, r0, r1]) rfl ⟨by rw [HCV.out.1, HCV.out.2], (HB.out.setCell (by simp) _).setCell (by simp) _⟩

set_option maxHeartbeats 6400000 in
set_option maxRecDepth 100000 in
theorem implCellOf : TreeNamed 16 ceoC ceoV := by
  intro lo vv vn vb T nm w h hS hnm
  obtain ⟨av, cv, rfl, _⟩ := id h.vars
  obtain ⟨an, cn, rfl, _⟩ := id h.nodes
  obtain ⟨ab, cb, rfl, _⟩ := id h.body
  have HF : Hid (∀ (w' : World), Below w.heap.size w w' → Calls Try.prog 32 #[treeV (.slice av T.vars.length cv) (.slice an T.nodes.length cn) (.slice ab T.body.length cb)] w' fun e w2 => e = .returned (.int .i64 (faultL T)) ∧ Below w'.heap.size w' w2) := fun w' hb =>
    implTreeFault lo _ _ _ T w' (h.below hb) hS
  have HD : Hid (∀ (w' : World), Below w.heap.size w w' → faultL T = 0 → Calls Try.prog 41 #[.agg #[.slice av T.vars.length cv, .slice an T.nodes.length cn, .slice ab T.body.length cb]] w' fun e w2 => ∃ v, e = .returned v ∧ w2.ownsRow w'.heap.size 75 6 v (allL 0 T).length (entC (allL 0 T) T.vars.length (allL 0 T).length) ∧ Below w'.heap.size w' w2) := fun w' hb h0 =>
    variablesOf_any lo _ _ _ T w' (h.below hb) (good_of h0)
  have HSZ : Hid (faultL T = 0 → (∀ x ∈ allL 0 T, x.name.length ≤ 1048576) ∧ (allL 0 T).length ≤ 624) := fun h => ⟨fun x hx => by have := all_names (good_of h) 0 x hx; omega, (good_of h).all_len 0⟩
  have HBN : Hid (∀ (ad : Option Addr) (c : Nat) (w : World), RowE w ad (allL 0 T) T.vars.length → (allL 0 T).length ≤ 624 → (∀ x ∈ allL 0 T, x.name.length ≤ 1048576) → Calls Try.prog 43 #[.slice ad (allL 0 T).length c] w fun e w' => e = .returned (.map (some w.heap.size)) ∧ w'.ownsMap Try.prog 9 heldR w.heap.size (allL 0 T).length (nameD (allL 0 T) T.vars.length (allL 0 T).length) ∧ Below w.heap.size w w') := fun ad c w h1 h2 h3 =>
    byName_any (allL 0 T) T.vars.length ad (allL 0 T).length c w rfl h1 h2 h3
  have HFR : Hid ((∀ i, firstI (allL 0 T) nm (allL 0 T).length = some i → varFrom nm (allL 0 T) 0 = (i : Int)) ∧ (firstI (allL 0 T) nm (allL 0 T).length = none → varFrom nm (allL 0 T) 0 = -1)) := by
    obtain ⟨h1, h2⟩ := firstI_from (allL 0 T) nm (allL 0 T).length (Nat.le_refl _)
    exact ⟨fun i hi => (h1 i hi).1, fun hn => by rw [h2 hn, List.drop_length]; rfl⟩
  have HC : Hid (ceoC T nm = if faultL T ≠ 0 then faultL T else if varFrom nm (allL 0 T) 0 < 0 then 4 else 0) := rfl
  have HW : Hid (ceoV T nm = if faultL T ≠ 0 then 0 else if varFrom nm (allL 0 T) 0 < 0 then 0 else cellsL ((allL 0 T).take (varFrom nm (allL 0 T) 0).toNat)) := rfl
  clear h hS
  go_enter Try.func16, Try.ntmps16
  go_wp2_with fail
  obtain ⟨hA, hA2, hB⟩ := two_start w (.slice av T.vars.length cv) (.slice an T.nodes.length cn) (.slice ab T.body.length cb) 34 29
  generalize ((w.alloc (.cells #[.slice av T.vars.length cv, .slice an T.nodes.length cn, .slice ab T.body.length cb] 34)).alloc (.cells #[.int .i64 0, .int .i64 0] 29)) = W at *
  refine (HF.out _ hB).mono ?_
  rintro e w2 ⟨rfl, hb⟩
  have HA : Hid (w2.heap[w.heap.size]? = some (.cells #[.slice av T.vars.length cv, .slice an T.nodes.length cn, .slice ab T.body.length cb] 34 (0, 0))) := blk hA hb
  have HA2 : Hid (w2.heap[w.heap.size + 1]? = some (.cells #[.int .i64 0, .int .i64 0] 29 (0, 0))) := blk hA2 hb
  have HB : Hid (Below w.heap.size w w2) := hB.trans (hb.mono hB.size)
  clear hA hA2 hB hb HF
  obtain ⟨F, hF⟩ : ∃ F, faultL T = F := ⟨_, rfl⟩
  rw [hF]
  by_cases hz : F = 0
  · subst hz
    have HDC : Hid (Calls Try.prog 41 #[.agg #[.slice av T.vars.length cv, .slice an T.nodes.length cn, .slice ab T.body.length cb]] w2 fun e w3 => ∃ v, e = .returned v ∧ w3.ownsRow w2.heap.size 75 6 v (allL 0 T).length (entC (allL 0 T) T.vars.length (allL 0 T).length) ∧ Below w2.heap.size w2 w3) := HD.out _ HB.out hF
    have HS2 : Hid ((∀ x ∈ allL 0 T, x.name.length ≤ 1048576) ∧ (allL 0 T).length ≤ 624) := HSZ.out hF
    have HC : Hid (ceoC T nm = if varFrom nm (allL 0 T) 0 < 0 then 4 else 0) := by unfold Hid; rw [HC.out, hF, if_neg (by simp)]
    have HW : Hid (ceoV T nm = if varFrom nm (allL 0 T) 0 < 0 then 0 else cellsL ((allL 0 T).take (varFrom nm (allL 0 T) 0).toNat)) := by unfold Hid; rw [HW.out, hF, if_neg (by simp)]
    have p0 := cell_of_row _ _ 0 _ _ _ HA.out
    have p1 := cell_of_row _ _ 1 _ _ _ HA.out
    have p2 := cell_of_row _ _ 2 _ _ _ HA.out
    simp at p0 p1 p2
    clear hF HD HSZ
    go_wp2_with fail
    refine HDC.out.mono ?_
    rintro e w4 ⟨v, rfl, hown, hb⟩
    obtain ⟨ad, cp, rfl⟩ := rowE_shape hown
    have hRV := RowE.of_own hown rfl
    have HBX : Hid (Calls Try.prog 43 #[.slice ad (allL 0 T).length cp] w4 fun e w' => e = .returned (.map (some w4.heap.size)) ∧ w'.ownsMap Try.prog 9 heldR w4.heap.size (allL 0 T).length (nameD (allL 0 T) T.vars.length (allL 0 T).length) ∧ Below w4.heap.size w4 w') := HBN.out ad cp w4 hRV HS2.out.2 HS2.out.1
    have hA2 := blk HA2.out hb
    have HB2 : Hid (Below w.heap.size w w4) := HB.out.trans (hb.mono HB.out.size)
    clear hown hRV hb HBN HS2 HDC p0 p1 p2
    go_wp2_with fail
    refine HBX.out.mono ?_
    rintro e w5 ⟨rfl, hmap, hb⟩
    have hA5 := blk hA2 hb
    have HB5 : Hid (Below w.heap.size w w5) := HB2.out.trans (hb.mono HB2.out.size)
    have hsz5 : w.heap.size + 1 < w5.heap.size := blk_lt hA5
    clear hA2 hb HBX
    have r0 := cell_of_row _ _ 0 _ _ _ hA5
    have r1 := cell_of_row _ _ 1 _ _ _ hA5
    have f0 := frozen_of_row _ _ 0 _ _ hA5
    have f1 := frozen_of_row _ _ 1 _ _ hA5
    simp at r0 r1 f0 f1
    have HA5 : Hid (w5.heap[w.heap.size + 1]? = some (.cells #[.int .i64 0, .int .i64 0] 29 (0, 0))) := hA5
    clear hA5
    cases hr : firstI (allL 0 T) nm (allL 0 T).length with
    | some i =>
      have hvf := HFR.out.1 i hr
      have HCV : Hid (ceoC T nm = 0 ∧ ceoV T nm = cellsL ((allL 0 T).take i)) := ⟨by rw [HC.out, hvf, if_neg (by omega)], by rw [HW.out, hvf, if_neg (by omega), Int.toNat_natCast]⟩
      obtain ⟨y0, y1, y2, y3, y4, hy⟩ : ∃ y0 y1 y2 y3 y4, entVal (allL 0 T) T.vars.length i = .agg #[.string (bs y0), .int .i64 y1, .int .i64 y2, .int .i64 y3, .bool y4, .int .i64 (cellsL ((allL 0 T).take i))] := ⟨_, _, _, _, _, rfl⟩
      have hlv : lookV (allL 0 T) T.vars.length (allL 0 T).length nm = .agg #[.string (bs y0), .int .i64 y1, .int .i64 y2, .int .i64 y3, .bool y4, .int .i64 (cellsL ((allL 0 T).take i))] := by unfold lookV; rw [hr]; exact hy
      have hok : (firstI (allL 0 T) nm (allL 0 T).length).isSome = true := by rw [hr]; rfl
      clear hr hy hvf HC HW HFR
      generalize cellsL ((allL 0 T).take i) = z at *
      go_wp2_with (at_lookup; go_loud (refine wpList_look_names rfl _ _ rfl (allL 0 T) T.vars.length (allL 0 T).length w4.heap.size (allL 0 T).length rfl hmap nm hnm rfl _ true hlv hok ?_))
      refine bodyPost_ret (v := .agg #[.int .i64 0, .int .i64 z]) (by simp [results, Try.results16, go_sem, r0, r1, hsz5]) rfl ⟨by rw [HCV.out.1, HCV.out.2], ?_⟩
      have := HB5.out.size
      refine Below.alloc (Below.setCell (Below.setCell HB5.out ?_ _) ?_ _) ?_ _ <;> (simp; try omega)
    | none =>
      have hvf := HFR.out.2 hr
      have HCV : Hid (ceoC T nm = 4 ∧ ceoV T nm = 0) := ⟨by rw [HC.out, hvf, if_pos (by omega)], by rw [HW.out, hvf, if_pos (by omega)]⟩
      have hlv : lookV (allL 0 T) T.vars.length (allL 0 T).length nm = noVal := by unfold lookV; rw [hr]
      have hok : (firstI (allL 0 T) nm (allL 0 T).length).isSome = false := by rw [hr]; rfl
      clear hr hvf HC HW HFR
      go_wp2_with (at_lookup; go_loud (refine wpList_look_names rfl _ _ rfl (allL 0 T) T.vars.length (allL 0 T).length w4.heap.size (allL 0 T).length rfl hmap nm hnm rfl _ false hlv hok ?_))
      refine bodyPost_ret (v := .agg #[.int .i64 4, .int .i64 0]) (by simp [results, Try.results16, go_sem, r0, r1, hsz5]) rfl ⟨by rw [HCV.out.1, HCV.out.2], ?_⟩
      have := HB5.out.size
      refine Below.alloc (Below.setCell (Below.setCell HB5.out ?_ _) ?_ _) ?_ _ <;> (simp; try omega)
  · have HCV : Hid (ceoC T nm = F ∧ ceoV T nm = 0) := ⟨by rw [HC.out, hF, if_pos hz], by rw [HW.out, hF, if_pos hz]⟩
    have hz1 : (F == 0) = false := by simpa using hz
    have hz2 : decide (F = 0) = false := decide_eq_false hz
    have r0 := cell_of_row _ _ 0 _ _ _ HA2.out
    have r1 := cell_of_row _ _ 1 _ _ _ HA2.out
    have f0 := frozen_of_row _ _ 0 _ _ HA2.out
    have f1 := frozen_of_row _ _ 1 _ _ HA2.out
    simp at r0 r1 f0 f1
    clear HC HW hF HFR
    go_wp2_with fail
    refine bodyPost_ret (v := .agg #[.int .i64 F, .int .i64 0]) (by simp [results, Try.results16, go_sem, r0, r1]) rfl ⟨by rw [HCV.out.1, HCV.out.2], (HB.out.setCell (by simp) _).setCell (by simp) _⟩
end Go.Proofs.Ytanalajojjpjnaa
namespace Go.Proofs.Ytanalajojjpjnaa
open Go.RowKit
set_option linter.unusedVariables false
attribute [local go_sem] bs_size bs_get bs_extract bs_append bs_eq bs_toList

set_option maxHeartbeats 6400000 in
set_option maxRecDepth 100000 in
theorem cellOf_law (C V : LTree → List UInt8 → Int) (hS : TreeNamed 15 C V) (hI : TreeNamed 16 C V) (vv vn vb : Value) (T : LTree) (nm : List UInt8) (w : World) (h : IsTree w vv vn vb T) (hn : nm.length ≤ 1048576) :
    Calls Try.prog 5 #[treeV vv vn vb, .string (bs nm)] w fun e w' => e = .returned (.bool true) ∧ Below w.heap.size w w' := by
  obtain ⟨ht, hf⟩ := h
  obtain ⟨av, cv, rfl, _⟩ := id ht.vars
  obtain ⟨an, cn, rfl, _⟩ := id ht.nodes
  obtain ⟨ab, cb, rfl, _⟩ := id ht.body
  have HT : Hid (TreeV 0 w (.slice av T.vars.length cv) (.slice an T.nodes.length cn) (.slice ab T.body.length cb) T) := ht
  have HF : Hid (Fits T) := hf
  have HS : Hid (TreeNamed 15 C V) := hS
  have HI : Hid (TreeNamed 16 C V) := hI
  have HQ : Hid (∀ (a b : Int) (w : World), Calls Try.prog 11 #[.agg #[.int .i64 a, .int .i64 b], .agg #[.int .i64 a, .int .i64 b]] w fun e w' => e = .returned (.bool true) ∧ Below w.heap.size w w') := eqIntRes_any
  clear ht hf hS hI
  have HN : Hid (nm.length ≤ 1048576) := hn
  have hbb : decide ((1048576 : Int) < (nm.length : Int)) = false := decide_eq_false (by omega)
  clear hn
  go_enter Try.func5, Try.ntmps5
  go_wp2_with fail
  have hA := heap_alloc_new w (.cells #[.slice av T.vars.length cv, .slice an T.nodes.length cn, .slice ab T.body.length cb] 26)
  have hB : Below w.heap.size w (w.alloc (.cells #[.slice av T.vars.length cv, .slice an T.nodes.length cn, .slice ab T.body.length cb] 26)) := (Below.refl _ _).alloc (Nat.le_refl _) _
  generalize w.alloc (.cells #[.slice av T.vars.length cv, .slice an T.nodes.length cn, .slice ab T.body.length cb] 26) = W at *
  refine (szTree_any 0 T _ _ _ _ (HT.out.below hB) HF.out).mono ?_
  rintro e w1 ⟨r, rfl, hr, hb1⟩
  have HA : Hid (w1.heap[w.heap.size]? = some (.cells #[.slice av T.vars.length cv, .slice an T.nodes.length cn, .slice ab T.body.length cb] 26 (0, 0))) := blk hA hb1
  have HB : Hid (Below w.heap.size w w1) := hB.trans (hb1.mono hB.size)
  clear hb1 hA hB
  by_cases h0 : 0 ≤ r
  · have HZ : Hid (Sized 1048576 T) := hr h0
    clear hr
    have a0 := cell_of_row _ _ 0 _ _ _ HA.out
    have a1 := cell_of_row _ _ 1 _ _ _ HA.out
    have a2 := cell_of_row _ _ 2 _ _ _ HA.out
    simp at a0 a1 a2
    go_wp2_with fail
    refine (toTree_any 0 T _ _ _ _ (HT.out.below HB.out) HZ.out).mono ?_
    rintro e w2 ⟨_, _, _, rfl, ht2, hb⟩
    obtain ⟨av2, cv2, rfl, _⟩ := id ht2.vars
    obtain ⟨an2, cn2, rfl, _⟩ := id ht2.nodes
    obtain ⟨ab2, cb2, rfl, _⟩ := id ht2.body
    have hA := blk HA.out hb
    have hB := HB.out.trans (hb.mono HB.out.size)
    clear HA HB hb a0 a1 a2
    have HA : Hid _ := hA
    have HB : Hid (Below w.heap.size w w2) := hB
    have HT2 : Hid (TreeV w1.heap.size w2 (.slice av2 T.vars.length cv2) (.slice an2 T.nodes.length cn2) (.slice ab2 T.body.length cb2) T) := ht2
    clear hA hB ht2
    go_wp2_with fail
    refine (HS.out _ _ _ _ T _ _ HT2.out HZ.out HN.out).mono ?_
    rintro e w3 ⟨rfl, hb⟩
    have hA := blk HA.out hb
    have hB := HB.out.trans (hb.mono HB.out.size)
    clear HA HB hb HT2
    have HA : Hid _ := hA
    have HB : Hid (Below w.heap.size w w3) := hB
    clear hA hB
    have hbx : Below w3.heap.size w3 (w3.alloc (.cells #[.int .i64 (C T nm), .int .i64 (V T nm)] 29)) := (Below.refl _ _).alloc (Nat.le_refl _) _
    have HG : Hid _ := heap_alloc_new w3 (.cells #[.int .i64 (C T nm), .int .i64 (V T nm)] 29)
    have hA := blk HA.out hbx
    have a0 := cell_of_row _ _ 0 _ _ _ hA
    have a1 := cell_of_row _ _ 1 _ _ _ hA
    have a2 := cell_of_row _ _ 2 _ _ _ hA
    simp at a0 a1 a2
    have hB := HB.out.trans (hbx.mono HB.out.size)
    clear HA HB hbx
    have HA : Hid _ := hA
    have HB : Hid _ := hB
    clear hA hB
    go_wp2_with fail
    have hA := HA.out
    have hB := HB.out
    have hG := HG.out
    clear HA HB HG a0 a1 a2
    generalize w3.alloc (.cells #[.int .i64 (C T nm), .int .i64 (V T nm)] 29) = W3 at *
    generalize w3.heap.size = g3 at *
    refine (toTree_any 0 T _ _ _ _ (HT.out.below hB) HZ.out).mono ?_
    rintro e w4 ⟨_, _, _, rfl, ht4, hb⟩
    obtain ⟨av4, cv4, rfl, _⟩ := id ht4.vars
    obtain ⟨an4, cn4, rfl, _⟩ := id ht4.nodes
    obtain ⟨ab4, cb4, rfl, _⟩ := id ht4.body
    have HA : Hid _ := blk hA hb
    have HG : Hid _ := blk hG hb
    have HB : Hid (Below w.heap.size w w4) := hB.trans (hb.mono hB.size)
    have HT4 : Hid (TreeV W3.heap.size w4 (.slice av4 T.vars.length cv4) (.slice an4 T.nodes.length cn4) (.slice ab4 T.body.length cb4) T) := ht4
    clear hA hB ht4 hG hb
    go_wp2_with fail
    have hbx : Below w4.heap.size w4 (w4.alloc (.cells #[.slice av4 T.vars.length cv4, .slice an4 T.nodes.length cn4, .slice ab4 T.body.length cb4] 34)) := (Below.refl _ _).alloc (Nat.le_refl _) _
    have hX := heap_alloc_new w4 (.cells #[.slice av4 T.vars.length cv4, .slice an4 T.nodes.length cn4, .slice ab4 T.body.length cb4] 34)
    have hA := blk HA.out hbx
    have hG := blk HG.out hbx
    have hB := HB.out.trans (hbx.mono HB.out.size)
    have hT4 := HT4.out.below hbx
    clear HA HB HG HT4 hbx
    generalize w4.alloc (.cells #[.slice av4 T.vars.length cv4, .slice an4 T.nodes.length cn4, .slice ab4 T.body.length cb4] 34) = W5 at *
    generalize w4.heap.size = g4 at *
    refine (HI.out _ _ _ _ T _ _ hT4 HZ.out HN.out).mono ?_
    rintro e w5 ⟨rfl, hb⟩
    have hA5 := blk hA hb
    have hG5 := blk hG hb
    have hX5 := blk hX hb
    have hB5 := hB.trans (hb.mono hB.size)
    have hT5 := hT4.below hb
    clear hb hB hT4 hA hX hG
    have hbx : Below w5.heap.size w5 (w5.alloc (.cells #[.int .i64 (C T nm), .int .i64 (V T nm)] 29)) := (Below.refl _ _).alloc (Nat.le_refl _) _
    have hH := heap_alloc_new w5 (.cells #[.int .i64 (C T nm), .int .i64 (V T nm)] 29)
    have HA : Hid _ := blk hA5 hbx
    have HG : Hid _ := blk hG5 hbx
    have HX : Hid _ := blk hX5 hbx
    have HH : Hid _ := hH
    have HB : Hid _ := hB5.trans (hbx.mono hB5.size)
    have HT5 : Hid _ := hT5.below hbx
    have b0 := cell_of_row _ _ 0 _ _ _ HG.out
    have b1 := cell_of_row _ _ 1 _ _ _ HG.out
    have d0 := cell_of_row _ _ 0 _ _ _ HH.out
    have d1 := cell_of_row _ _ 1 _ _ _ HH.out
    simp at b0 b1 d0 d1
    clear hA5 hG5 hX5 hH hB5 hT5 hbx
    go_wp2_with fail
    generalize w5.alloc (.cells #[.int .i64 (C T nm), .int .i64 (V T nm)] 29) = W6 at *
    refine (HQ.out _ _ _).mono ?_
    rintro e w6 ⟨rfl, hb⟩
    have hA6 := blk HA.out hb
    have hX6 := blk HX.out hb
    have hB6 := HB.out.trans (hb.mono HB.out.size)
    have hT6 := HT5.out.below hb
    clear HA HG HX HH HB HT5 b0 b1 d0 d1 hb
    have HB : Hid (Below w.heap.size w w6) := hB6
    have HT6 : Hid (TreeV W3.heap.size w6 (.slice av4 T.vars.length cv4) (.slice an4 T.nodes.length cn4) (.slice ab4 T.body.length cb4) T) := hT6
    clear hB6 hT6
    have hgA : w.heap.size < w6.heap.size := blk_lt hA6
    have hgX : g4 < w6.heap.size := blk_lt hX6
    have a0 := cell_of_row _ _ 0 _ _ _ hA6
    have a1 := cell_of_row _ _ 1 _ _ _ hA6
    have a2 := cell_of_row _ _ 2 _ _ _ hA6
    simp at a0 a1 a2
    have x0 := cell_of_row _ _ 0 _ _ _ hX6
    have x1 := cell_of_row _ _ 1 _ _ _ hX6
    have x2 := cell_of_row _ _ 2 _ _ _ hX6
    simp at x0 x1 x2
    clear hA6 hX6
    have A0 : Hid _ := a0
    have X0 : Hid _ := x0
    have A1 : Hid _ := a1
    have X1 : Hid _ := x1
    have A2 : Hid _ := a2
    have X2 : Hid _ := x2
    have HC : Hid (∀ W, Below w6.heap.size w6 W → Calls Try.prog 9 #[.agg #[.slice av T.vars.length cv, .slice an T.nodes.length cn, .slice ab T.body.length cb]] W fun e w' => ∃ a c a2 c2 a3 c3, e = .returned (treeV (.slice a T.vars.length c) (.slice a2 T.nodes.length c2) (.slice a3 T.body.length c3)) ∧ TreeV W.heap.size w' (.slice a T.vars.length c) (.slice a2 T.nodes.length c2) (.slice a3 T.body.length c3) T ∧ Below W.heap.size W w') := fun W hW =>
      (toTree_any 0 T _ _ _ W (HT.out.below (HB.out.trans (hW.mono HB.out.size))) HZ.out).mono fun e w' h => by
        obtain ⟨_, _, _, rfl, h1, h2⟩ := h
        obtain ⟨_, _, rfl, _⟩ := id h1.vars
        obtain ⟨_, _, rfl, _⟩ := id h1.nodes
        obtain ⟨_, _, rfl, _⟩ := id h1.body
        exact ⟨_, _, _, _, _, _, rfl, h1, h2⟩
    have HE : Hid (∀ W lo v1 v2 v3, Below w6.heap.size w6 W → TreeV lo W v1 v2 v3 T → Calls Try.prog 12 #[.agg #[.slice av4 T.vars.length cv4, .slice an4 T.nodes.length cn4, .slice ab4 T.body.length cb4], treeV v1 v2 v3] W fun e w' => e = .returned (.bool true) ∧ Below W.heap.size W w') := fun W lo v1 v2 v3 hW h =>
      eqTree_any _ _ T _ _ _ _ _ _ W (HT6.out.below hW) h HZ.out
    go_wp2_with fail
    go_region_held3 (fun W => (W.cell? ⟨w.heap.size, 0, none⟩ = some (.slice av T.vars.length cv) ∧ W.cell? ⟨w.heap.size, 1, none⟩ = some (.slice an T.nodes.length cn) ∧ W.cell? ⟨w.heap.size, 2, none⟩ = some (.slice ab T.body.length cb)) ∧ (W.cell? ⟨g4, 0, none⟩ = some (.slice av4 T.vars.length cv4) ∧ W.cell? ⟨g4, 1, none⟩ = some (.slice an4 T.nodes.length cn4) ∧ W.cell? ⟨g4, 2, none⟩ = some (.slice ab4 T.body.length cb4))) (go_keep) (first | (go_at_call 9; refine (HC.out _ (Below.refl w6.heap.size w6).drew).mono ?_; rintro e w7 ⟨a7, c7, b7, d7, e7, f7, rfl, ht7, hb⟩; have hD : Below w6.heap.size w6 w7 := ((Below.refl w6.heap.size w6).drew).trans (Below.mono hb (Nat.le_refl _)); have a0 := (hD.cell (p := ⟨w.heap.size, 0, none⟩) hgA).trans A0.out; have a1 := (hD.cell (p := ⟨w.heap.size, 1, none⟩) hgA).trans A1.out; have a2 := (hD.cell (p := ⟨w.heap.size, 2, none⟩) hgA).trans A2.out; have x0 := (hD.cell (p := ⟨g4, 0, none⟩) hgX).trans X0.out; have x1 := (hD.cell (p := ⟨g4, 1, none⟩) hgX).trans X1.out; have x2 := (hD.cell (p := ⟨g4, 2, none⟩) hgX).trans X2.out; have HD : Hid (Below w6.heap.size w6 w7) := hD; have HT7 : Hid (TreeV _ w7 _ _ _ T) := ht7; clear hb hD ht7) | (go_at_call 12; refine (HE.out _ _ _ _ _ HD.out HT7.out).mono ?_; rintro e w8 ⟨rfl, hb⟩; have hD : Below w6.heap.size w6 w8 := HD.out.trans (Below.mono hb HD.out.size); have a0 := (hD.cell (p := ⟨w.heap.size, 0, none⟩) hgA).trans A0.out; have a1 := (hD.cell (p := ⟨w.heap.size, 1, none⟩) hgA).trans A1.out; have a2 := (hD.cell (p := ⟨w.heap.size, 2, none⟩) hgA).trans A2.out; have x0 := (hD.cell (p := ⟨g4, 0, none⟩) hgX).trans X0.out; have x1 := (hD.cell (p := ⟨g4, 1, none⟩) hgX).trans X1.out; have x2 := (hD.cell (p := ⟨g4, 2, none⟩) hgX).trans X2.out; have hBB := HB.out.trans (hD.mono HB.out.size); clear hb))
    go_wp2
    go_ret
    exact ⟨rfl, hBB⟩
  · go_wp2_with fail
    go_ret
    exact ⟨rfl, HB.out⟩
end Go.Proofs.Ytanalajojjpjnaa
namespace Go.Proofs.Ytanalajojjpjnaa
open Go.RowKit
set_option linter.unusedVariables false
attribute [local go_sem] bs_size bs_get bs_extract bs_append bs_eq bs_toList

set_option maxHeartbeats 1600000 in
theorem fnExactCellOf_walk (vv0 vn0 vb0 : Value) (T0 : LTree) (a1 : ByteArray) (w : World) (w0 : IsTree w vv0 vn0 vb0 T0) (w1 : a1.size ≤ maxLen) :
    Calls Try.prog 5 #[treeV vv0 vn0 vb0, .string a1] w fun e w' => e = .returned (.bool true) ∧ Below w.heap.size w w' := by
  obtain ⟨l, rfl⟩ : ∃ l, a1 = bs l := ⟨_, bs_of a1⟩
  by_cases hbig : 1048576 < l.length
  · have hbb : decide ((1048576 : Int) < (l.length : Int)) = true := decide_eq_true (by omega)
    obtain ⟨ht, _⟩ := w0
    obtain ⟨av, cv, rfl, _⟩ := id ht.vars
    obtain ⟨an, cn, rfl, _⟩ := id ht.nodes
    obtain ⟨ab, cb, rfl, _⟩ := id ht.body
    clear hbig w1 ht
    go_enter Try.func5, Try.ntmps5
    go_wp2
    go_ret
    exact ⟨rfl, by go_grown⟩
  · exact cellOf_law ceoC ceoV specCellOf implCellOf vv0 vn0 vb0 T0 l w w0 (by omega)
end Go.Proofs.Ytanalajojjpjnaa
