/-
  impl.countPlaces.
-/
import Derived.Test.YteeklmgkhacbcaaGreatDoorILoop
import Derived.Test.YteeklmgkhacbcaaGreatDoorCheckN
import Derived.Test.YteeklmgkhacbcaaGreatDoorCheckM
import Derived.Test.YteeklmgkhacbcaaGreatDoorIVarsM
namespace Go.Proofs.YteeklmgkhacbcaaGreatDoor
open Go.RowKit
set_option linter.unusedVariables false
attribute [local go_sem] bs_size bs_get bs_extract bs_append bs_eq bs_toList
set_option maxHeartbeats 12800000 in
set_option maxRecDepth 100000 in
theorem statement_any (lo : Nat) (W0 W : World) (cp mp B f : Nat) (K : Int) (vn vl : Value) (T : LTree) (L : List (List UInt8)) (x : Nat) (h : CkT lo W0 cp mp vn T (allL K T)) (hC : ICk W0 W cp mp vn vl) (hL : LoopO W B vl L) (hB : B = cp + 1) (hLl : L.length ≤ 1000) (hx : x < T.nodes.length) (hk : 7 ≤ (nodeOf T.nodes (x : Int)).kind ∧ (nodeOf T.nodes (x : Int)).kind ≤ 11)
    (IH : ((nodeOf T.nodes (x : Int)).kind = 9 → IListC lo W0 cp mp B vn T (allL K T) f L (nodeOf T.nodes (x : Int)).thn ∧ IListC lo W0 cp mp B vn T (allL K T) f L (nodeOf T.nodes (x : Int)).els) ∧ ((nodeOf T.nodes (x : Int)).kind = 10 → IListC lo W0 cp mp B vn T (allL K T) f (L ++ [(nodeOf T.nodes (x : Int)).name]) (nodeOf T.nodes (x : Int)).thn)) :
    Calls Tryz.prog 132 #[.pointer (some ⟨cp, 0, none⟩), .int .i64 (x : Int)] W fun e w' => e = .returned (errV (stmtF (mustT (allL K T) T.vars.length T.nodes) T.vars T.nodes (f + 1) L (x : Int) (0, 0))) ∧ ∃ vl', ICk W0 w' cp mp vn vl' ∧ LoopO w' B vl' L ∧ Duo cp vl vl' W w' := by
  have hown := (h.b.good.node x _ (node_get hx)).1
  obtain ⟨bn, on, cn, evn, vk, vt, ve, hnc, hkd, htd, hed⟩ := h.b.node hC.bel x hx
  have k0 := cell_of_row _ _ 0 _ _ _ hC.row
  simp only [List.getElem?_toArray] at k0
  obtain ⟨ak, ck, evk, _⟩ := id hkd
  obtain ⟨at1, ct, evt, _⟩ := id htd
  obtain ⟨ae, ce, eve, _⟩ := id hed
  subst evk; subst evt; subst eve
  have hnl := h.b.good.nodes
  have hx0 : (0 : Int) ≤ (x : Int) := by omega
  have hx1 : (x : Int) < (T.nodes.length : Int) := by omega
  have HDone : Hid (∀ w', Below W.heap.size W w' → ICk W0 w' cp mp vn vl ∧ LoopO w' B vl L ∧ Duo cp vl vl W w') := fun W' hb => ⟨hC.below hb, rowE_kept hL hb, hb.sole.duo _⟩
  have HSF : Hid (∀ st, stmtF (mustT (allL K T) T.vars.length T.nodes) T.vars T.nodes (f + 1) L (x : Int) st = if (nodeOf T.nodes (x : Int)).kind = 7 then mustT (allL K T) T.vars.length T.nodes ((nodeOf T.nodes (x : Int)).kids.getD 0 0) (targetF T.vars L (nodeOf T.nodes (x : Int)).name false (x : Int) st).1 (targetF T.vars L (nodeOf T.nodes (x : Int)).name false (x : Int) st).2
    else if (nodeOf T.nodes (x : Int)).kind = 8 then mustT (allL K T) T.vars.length T.nodes ((nodeOf T.nodes (x : Int)).kids.getD 1 0) (targetF T.vars L (nodeOf T.nodes (x : Int)).name true (x : Int) st).1 (mustT (allL K T) T.vars.length T.nodes ((nodeOf T.nodes (x : Int)).kids.getD 0 0) 1 (targetF T.vars L (nodeOf T.nodes (x : Int)).name true (x : Int) st).2)
    else if (nodeOf T.nodes (x : Int)).kind = 9 then goL (stmtF (mustT (allL K T) T.vars.length T.nodes) T.vars T.nodes f L) (nodeOf T.nodes (x : Int)).els (goL (stmtF (mustT (allL K T) T.vars.length T.nodes) T.vars T.nodes f L) (nodeOf T.nodes (x : Int)).thn (mustT (allL K T) T.vars.length T.nodes ((nodeOf T.nodes (x : Int)).kids.getD 0 0) 2 st))
    else if (nodeOf T.nodes (x : Int)).kind = 10 then goL (stmtF (mustT (allL K T) T.vars.length T.nodes) T.vars T.nodes f (L ++ [(nodeOf T.nodes (x : Int)).name])) (nodeOf T.nodes (x : Int)).thn (forF T.vars L (nodeOf T.nodes (x : Int)) (x : Int) st)
    else if (nodeOf T.nodes (x : Int)).kind = 11 then callF (mustT (allL K T) T.vars.length T.nodes) L (nodeOf T.nodes (x : Int)) (x : Int) st
    else st) := fun st => rfl
  obtain ⟨d0, d1, d2, d3, d4, d5, d6, d7⟩ := hnc
  have hcs : (nodeOf T.nodes (x : Int)).kind = 7 ∨ (nodeOf T.nodes (x : Int)).kind = 8 ∨ (nodeOf T.nodes (x : Int)).kind = 9 ∨ (nodeOf T.nodes (x : Int)).kind = 10 ∨ (nodeOf T.nodes (x : Int)).kind = 11 := by omega
  rcases hcs with hK | hK | hK | hK | hK
  · have HA : Hid (Calls Tryz.prog 142 #[.pointer (some ⟨cp, 0, none⟩), .int .i64 (x : Int)] W fun e w' => e = .returned (errV (stmtF (mustT (allL K T) T.vars.length T.nodes) T.vars T.nodes (f + 1) L (x : Int) (0, 0))) ∧ Below W.heap.size W w') := by
      rw [asg_stmt hown (.inl hK)]; exact assignment_any lo W0 W cp mp B vn vl T (allL K T) L x h hC hL hB (by omega) hx (.inl hK)
    rw [hK] at d0
    subst evn
    clear HSF h hC hL hkd htd hed hown IH hk
    generalize stmtF (mustT (allL K T) T.vars.length T.nodes) T.vars T.nodes (f + 1) L (x : Int) (0, 0) = R at *
    go_enter Tryz.func132, Tryz.ntmps132
    go_wp2_with fail
    refine HA.out.mono ?_
    rintro e w2 ⟨rfl, hb⟩
    have HB : Hid _ := HDone.out w2 hb
    clear hb HA HDone
    go_wp2_with fail
    go_ret
    exact ⟨rfl, vl, HB.out⟩
  · have HA : Hid (Calls Tryz.prog 142 #[.pointer (some ⟨cp, 0, none⟩), .int .i64 (x : Int)] W fun e w' => e = .returned (errV (stmtF (mustT (allL K T) T.vars.length T.nodes) T.vars T.nodes (f + 1) L (x : Int) (0, 0))) ∧ Below W.heap.size W w') := by
      rw [asg_stmt hown (.inr hK)]; exact assignment_any lo W0 W cp mp B vn vl T (allL K T) L x h hC hL hB (by omega) hx (.inr hK)
    rw [hK] at d0
    subst evn
    clear HSF h hC hL hkd htd hed hown IH hk
    generalize stmtF (mustT (allL K T) T.vars.length T.nodes) T.vars T.nodes (f + 1) L (x : Int) (0, 0) = R at *
    go_enter Tryz.func132, Tryz.ntmps132
    go_wp2_with fail
    refine HA.out.mono ?_
    rintro e w2 ⟨rfl, hb⟩
    have HB : Hid _ := HDone.out w2 hb
    clear hb HA HDone
    go_wp2_with fail
    go_ret
    exact ⟨rfl, vl, HB.out⟩
  · have HA : Hid (∀ W', Below W.heap.size W W' → Calls Tryz.prog 143 #[.pointer (some ⟨cp, 0, none⟩), .agg #[.int .i64 9, .int .i64 (nodeOf T.nodes (x : Int)).op, .string (bs (nodeOf T.nodes (x : Int)).name), .int .i64 (nodeOf T.nodes (x : Int)).num, .int .i64 (nodeOf T.nodes (x : Int)).far, .slice ak (nodeOf T.nodes (x : Int)).kids.length ck, .slice at1 (nodeOf T.nodes (x : Int)).thn.length ct, .slice ae (nodeOf T.nodes (x : Int)).els.length ce]] W' fun e w' => e = .returned (errV (stmtF (mustT (allL K T) T.vars.length T.nodes) T.vars T.nodes (f + 1) L (x : Int) (0, 0))) ∧ ∃ vl', ICk W0 w' cp mp vn vl' ∧ LoopO w' B vl' L ∧ Duo cp vl vl' W' w') := fun W' hb => by
      have h9 := IH.1 hK
      have := choice_any lo W0 W' cp mp B f vn vl _ _ _ T (allL K T) L x h (hC.below hb) (rowE_kept hL hb) hB hx hK hkd htd hed h9.1 h9.2
      rw [HSF.out, if_neg (by omega), if_neg (by omega), if_pos hK]
      rwa [nodeV, hK] at this
    rw [hK] at d0
    subst evn
    clear HSF h hC hL hkd htd hed hown IH hk
    generalize stmtF (mustT (allL K T) T.vars.length T.nodes) T.vars T.nodes (f + 1) L (x : Int) (0, 0) = R at *
    generalize nodeOf T.nodes (x : Int) = n at *
    go_enter Tryz.func132, Tryz.ntmps132
    go_wp2_with fail
    refine (HA.out _ (Below.refl _ _)).mono ?_
    rintro e w2 ⟨rfl, vl', hh⟩
    have HB : Hid _ := hh
    clear hh HA HDone
    go_wp2_with fail
    go_ret
    exact ⟨rfl, vl', HB.out⟩
  · have HA : Hid (Calls Tryz.prog 144 #[.pointer (some ⟨cp, 0, none⟩), .int .i64 (x : Int)] W fun e w' => e = .returned (errV (stmtF (mustT (allL K T) T.vars.length T.nodes) T.vars T.nodes (f + 1) L (x : Int) (0, 0))) ∧ ∃ vl', ICk W0 w' cp mp vn vl' ∧ LoopO w' B vl' L ∧ Duo cp vl vl' W w') := by
      have := loop_any lo W0 W cp mp B f K vn vl T L x h hC hL hB hLl hx hK (IH.2 hK)
      rw [HSF.out, if_neg (by omega), if_neg (by omega), if_neg (by omega), if_pos hK]
      exact this
    rw [hK] at d0
    subst evn
    clear HSF h hC hL hkd htd hed hown IH hk
    generalize stmtF (mustT (allL K T) T.vars.length T.nodes) T.vars T.nodes (f + 1) L (x : Int) (0, 0) = R at *
    go_enter Tryz.func132, Tryz.ntmps132
    go_wp2_with fail
    refine HA.out.mono ?_
    rintro e w2 ⟨rfl, vl', hh⟩
    have HB : Hid _ := hh
    clear hh HA HDone
    go_wp2_with fail
    go_ret
    exact ⟨rfl, vl', HB.out⟩
  · have HA : Hid (Calls Tryz.prog 145 #[.pointer (some ⟨cp, 0, none⟩), .int .i64 (x : Int)] W fun e w' => e = .returned (errV (stmtF (mustT (allL K T) T.vars.length T.nodes) T.vars T.nodes (f + 1) L (x : Int) (0, 0))) ∧ Below W.heap.size W w') := by
      have := call_any lo W0 W cp mp B vn vl T (allL K T) L x h hC hL (by omega) hx hK
      rw [HSF.out, if_neg (by omega), if_neg (by omega), if_neg (by omega), if_neg (by omega), if_pos hK]
      exact this
    rw [hK] at d0
    subst evn
    clear HSF h hC hL hkd htd hed hown IH hk
    generalize stmtF (mustT (allL K T) T.vars.length T.nodes) T.vars T.nodes (f + 1) L (x : Int) (0, 0) = R at *
    go_enter Tryz.func132, Tryz.ntmps132
    go_wp2_with fail
    refine HA.out.mono ?_
    rintro e w2 ⟨rfl, hb⟩
    have HB : Hid _ := HDone.out w2 hb
    clear hb HA HDone
    go_wp2_with fail
    go_ret
    exact ⟨rfl, vl, HB.out⟩
set_option maxHeartbeats 12800000 in
set_option maxRecDepth 100000 in
theorem statements_step (lo : Nat) (W0 : World) (cp mp B f : Nat) (K : Int) (vn : Value) (T : LTree) (L : List (List UInt8)) (list : List Int) (hL999 : L.length ≤ 999) (hll : list.length ≤ 1048576) (hlow : W0.heap.size ≤ cp)
    (HS : ∀ (X : Nat) (W : World) (vl : Value), (X : Int) ∈ list → ICk W0 W cp mp vn vl → LoopO W B vl L → Calls Tryz.prog 132 #[.pointer (some ⟨cp, 0, none⟩), .int .i64 (X : Int)] W fun e w' => e = .returned (errV (stmtF (mustT (allL K T) T.vars.length T.nodes) T.vars T.nodes f L (X : Int) (0, 0))) ∧ ∃ vl', ICk W0 w' cp mp vn vl' ∧ LoopO w' B vl' L ∧ Duo cp vl vl' W w')
    (hs : ∀ x ∈ list, 0 ≤ x) : IListC lo W0 cp mp B vn T (allL K T) f L list := by
  intro W vk vl hC hL hV
  obtain ⟨aV, cV, evV, _⟩ := id hV
  subst evV
  have HV := hid hV
  have HSS : Hid (∀ (X : Nat) (W : World) (vl : Value), (X : Int) ∈ list → ICk W0 W cp mp vn vl → LoopO W B vl L → Calls Tryz.prog 132 #[.pointer (some ⟨cp, 0, none⟩), .int .i64 (X : Int)] W fun e w' => e = .returned (errV (stmtF (mustT (allL K T) T.vars.length T.nodes) T.vars T.nodes f L (X : Int) (0, 0))) ∧ ∃ vl', ICk W0 w' cp mp vn vl' ∧ LoopO w' B vl' L ∧ Duo cp vl vl' W w') := HS
  have HNN : Hid (∀ x ∈ list, 0 ≤ x) := hs
  obtain ⟨R, hR⟩ : ∃ R, R = goL (stmtF (mustT (allL K T) T.vars.length T.nodes) T.vars T.nodes f L) list (0, 0) := ⟨_, rfl⟩
  rw [← hR]
  have HR := hid hR
  have HST : Hid (ICk W0 W cp mp vn vl ∧ LoopO W B vl L ∧ Duo cp vl vl W W) := ⟨hC, hL, Duo.refl _ _ _⟩
  clear hC hL hV HS hR hs
  go_enter Tryz.func105, Tryz.ntmps105
  go_wp2_with fail
  go_loopw [10] (fun i wr => ∃ (k : Nat) (vl' : Value), k ≤ list.length ∧ i = .int .i64 k ∧ Hid (R = goL (stmtF (mustT (allL K T) T.vars.length T.nodes) T.vars T.nodes f L) (list.drop k) (0, 0)) ∧ Hid (ICk W0 wr cp mp vn vl' ∧ LoopO wr B vl' L ∧ Duo cp vl vl' W wr)) (fun i _ => list.length - (intOf i).toNat)
  case atStart => exact ⟨0, vl, Nat.zero_le _, rfl, HR, HST⟩
  case round =>
    clear HR HST
    obtain ⟨k, vl', hkl, rfl, HR, HST⟩ := hrel
    by_cases hlt : k < list.length
    · obtain ⟨x, hx⟩ : ∃ x, list[k]? = some x := ⟨_, List.getElem?_eq_getElem hlt⟩
      have hxm := List.mem_of_getElem? hx
      obtain ⟨X, rfl⟩ := Int.eq_ofNat_of_zero_le (HNN.out x hxm)
      have HSX := HSS.out X wr vl' hxm HST.out.1 HST.out.2.1
      have HO : Hid (Orz (stmtF (mustT (allL K T) T.vars.length T.nodes) T.vars T.nodes f L (X : Int) (0, 0))) := stmt_orz (fun _ _ _ h => must_orz h) f L (X : Int) (0, 0) (.inl rfl)
      have HR1 : Hid (R = goL (stmtF (mustT (allL K T) T.vars.length T.nodes) T.vars T.nodes f L) (list.drop (k + 1)) (stmtF (mustT (allL K T) T.vars.length T.nodes) T.vars T.nodes f L (X : Int) (0, 0))) := by unfold Hid; rw [HR.out]; exact goL_step hx
      obtain ⟨bV, oV, eaV, hcV⟩ : ∃ b o, aV = some ⟨b, o, none⟩ ∧ wr.cell? ⟨b, o + k, none⟩ = some (.int .i64 (X : Int)) := by
        obtain ⟨_, _, e, _, h⟩ := HV.out.below HST.out.1.bel
        injection e with e1 e2 e3
        subst e1
        obtain ⟨b, o, e, _, hc⟩ := h (by intro e; rw [e] at hlt; simp at hlt)
        exact ⟨b, o, e, hc k _ hx⟩
      subst eaV
      have hk0 : (0 : Int) ≤ (k : Int) := by omega
      have hk1 : (k : Int) < (list.length : Int) := by omega
      clear HR hx hxm HSS HV HNN
      obtain ⟨m, hm⟩ : ∃ m, m = stmtF (mustT (allL K T) T.vars.length T.nodes) T.vars T.nodes f L (X : Int) (0, 0) := ⟨_, rfl⟩
      rw [← hm] at HSX HO HR1
      clear hm
      have HSC : Hid (Calls Tryz.prog 132 #[.pointer (some ⟨cp, 0, none⟩), .int .i64 (X : Int)] wr fun e w' => e = .returned (errV m) ∧ ∃ vl'', ICk W0 w' cp mp vn vl'' ∧ LoopO w' B vl'' L ∧ Duo cp vl' vl'' wr w') := HSX
      clear HSX
      obtain ⟨m1, m2⟩ := m
      by_cases hz : m1 = 0
      · subst hz
        have hm0 : ((0 : Int), m2) = (0, 0) := (HO.out).resolve_right (fun h => h rfl)
        rw [hm0] at HR1
        rw [errV_zero rfl] at HSC
        clear HO hm0
        go_wp2_with fail
        refine HSC.out.mono ?_
        rintro e w3 ⟨rfl, vl3, hc3, hl3, hd3⟩
        have HC3 : Hid (ICk W0 w3 cp mp vn vl3 ∧ LoopO w3 B vl3 L ∧ Duo cp vl vl3 W w3) := ⟨hc3, hl3, HST.out.2.2.trans hd3⟩
        clear hc3 hl3 hd3 HST HSC hcV
        go_wp2_with fail
        go_roundw
        case rel => exact ⟨k + 1, vl3, by omega, by go_num, HR1, HC3⟩
        case measure => simp [intOf]; omega
      · have HRE : Hid (errV R = .iface 121 (.agg #[.int .i64 m1, .int .i64 m2])) := by unfold Hid; rw [HR1.out, goL_met (show ((m1, m2) : Met).1 ≠ 0 from hz), errV_met hz]
        rw [errV_met hz] at HSC
        clear HO hz HR1
        go_wp2_with fail
        refine HSC.out.mono ?_
        rintro e w3 ⟨rfl, vl3, hc3, hl3, hd3⟩
        have HC3 : Hid (ICk W0 w3 cp mp vn vl3 ∧ LoopO w3 B vl3 L ∧ Duo cp vl vl3 W w3) := ⟨hc3, hl3, HST.out.2.2.trans hd3⟩
        clear hc3 hl3 hd3 HST HSC hcV
        go_wp2_with fail
        go_ret
        exact ⟨by rw [HRE.out]; rfl, vl3, HC3.out⟩
    · have hke : k = list.length := by omega
      have HRE : Hid (errV R = .nilIface) := by unfold Hid; rw [HR.out, hke, List.drop_length]; rfl
      clear HR HSS HV HNN hke
      go_wp2_with fail
      go_ret
      exact ⟨by rw [HRE.out]; rfl, vl', HST.out⟩
theorem statements_all (lo : Nat) (W0 : World) (cp mp B : Nat) (K : Int) (vn : Value) (T : LTree) (h : CkT lo W0 cp mp vn T (allL K T)) (hB : B = cp + 1) :
    ∀ (f : Nat), f ≤ T.nodes.length → ∀ (L : List (List UInt8)) (list : List Int), L.length + f ≤ 999 → list.length ≤ 1048576 → (∀ x ∈ list, (0 ≤ x ∧ x < (f : Int)) ∧ (7 ≤ (nodeOf T.nodes x).kind ∧ (nodeOf T.nodes x).kind ≤ 11)) → IListC lo W0 cp mp B vn T (allL K T) f L list := by
  intro f
  induction f with
  | zero =>
    intro _ L list hLf hll hs
    exact statements_step lo W0 cp mp B 0 K vn T L list (by omega) hll h.b.low (fun X W vl hX hC hL => by have := (hs _ hX).1; omega) (fun x hx => (hs x hx).1.1)
  | succ f ih =>
    intro hf L list hLf hll hs
    refine statements_step lo W0 cp mp B (f + 1) K vn T L list (by omega) hll h.b.low (fun X W vl hX hC hL => ?_) (fun x hx => (hs x hx).1.1)
    have h1 := (hs _ hX).1
    have hj : X < T.nodes.length := by omega
    have hg := h.b.good.node X _ (node_get hj)
    have hk := h.stk X _ (node_get hj)
    have hsz := h.small.node _ (List.mem_of_getElem? (node_get hj))
    exact statement_any lo W0 W cp mp B f K vn vl T L X h hC hL hB (by omega) hj (hs _ hX).2
      ⟨fun _ => ⟨ih (by omega) L _ (by omega) hsz.2.2.1 (fun y hy => ⟨⟨(hg.2.2.1 y hy).1, by have := (hg.2.2.1 y hy).2; omega⟩, hk.1 y hy⟩), ih (by omega) L _ (by omega) hsz.2.2.2 (fun y hy => ⟨⟨(hg.2.2.2 y hy).1, by have := (hg.2.2.2 y hy).2; omega⟩, hk.2 y hy⟩)⟩,
       fun _ => ih (by omega) _ _ (by simp; omega) hsz.2.2.1 (fun y hy => ⟨⟨(hg.2.2.1 y hy).1, by have := (hg.2.2.1 y hy).2; omega⟩, hk.1 y hy⟩)⟩
set_option maxHeartbeats 6400000 in
set_option maxRecDepth 100000 in
theorem newChecker_ctx (lo : Nat) (vv vn vb : Value) (T : LTree) (w : World) (h : TreeV lo w vv vn vb T) (hG : Good T) :
    Calls Tryz.prog 104 #[.agg #[vv, vn, vb]] w fun e w' => (∃ cp mp W0, e = .returned (.pointer (some ⟨cp, 0, none⟩)) ∧ CkB lo W0 cp mp vn T (allL 0 T) ∧ ICk W0 w' cp mp vn (.slice none 0 0) ∧ Below w.heap.size w W0) ∧ Below w.heap.size w w' := by
  obtain ⟨av, cv, rfl, _⟩ := id h.vars
  obtain ⟨an, cn, rfl, _⟩ := id h.nodes
  obtain ⟨ab, cb, rfl, _⟩ := id h.body
  have HD : Hid (∀ (w' : World), Below w.heap.size w w' → Calls Tryz.prog 39 #[.agg #[.slice av T.vars.length cv, .slice an T.nodes.length cn, .slice ab T.body.length cb]] w' fun e w2 => (∃ ad cp, e = .returned (.slice ad (allL 0 T).length cp) ∧ RowE w2 ad (allL 0 T) T.vars.length) ∧ Below w'.heap.size w' w2) := fun w' hb =>
    (variablesOf_any lo _ _ _ T w' (h.below hb) hG).mono (fun e w2 hh => by
      obtain ⟨v, rfl, hown, hb⟩ := hh
      obtain ⟨ad, cp, rfl⟩ := rowE_shape hown
      exact ⟨⟨ad, cp, rfl, RowE.of_own hown rfl⟩, hb⟩)
  have HBN : Hid (∀ (ad : Option Addr) (c : Nat) (w : World), RowE w ad (allL 0 T) T.vars.length → Calls Tryz.prog 131 #[.slice ad (allL 0 T).length c] w fun e w' => e = .returned (.map (some w.heap.size)) ∧ NamesAt w' w.heap.size (allL 0 T) T.vars.length ∧ Below w.heap.size w w') := fun ad c w h1 =>
    byName_any (allL 0 T) T.vars.length ad (allL 0 T).length c w rfl h1 (hG.all_len 0) (fun x hx => by have := all_names hG 0 x hx; omega)
  have HNO : Hid (∀ w', Below w.heap.size w w' → NodesV lo w' (.slice an T.nodes.length cn) T.nodes) := fun w' hb => (h.below hb).nodes
  have HGG : Hid (Good T ∧ (allL 0 T).length ≤ 624) := ⟨hG, hG.all_len 0⟩
  clear h hG
  generalize (allL 0 T).length = L at *
  go_enter Tryz.func104, Tryz.ntmps104
  go_wp2_with fail
  have hb1 : Below w.heap.size w (w.alloc (.cells #[.slice av T.vars.length cv, .slice an T.nodes.length cn, .slice ab T.body.length cb] 37)) := (Below.refl _ _).alloc (Nat.le_refl _) _
  have hA := heap_alloc_new w (.cells #[.slice av T.vars.length cv, .slice an T.nodes.length cn, .slice ab T.body.length cb] 37)
  generalize hW : w.alloc (.cells #[.slice av T.vars.length cv, .slice an T.nodes.length cn, .slice ab T.body.length cb] 37) = W1 at *
  clear hW
  obtain ⟨p0, p1, p2⟩ := cl3 hA
  have hlt := blk_lt hA
  have HB1 : Hid (Below w.heap.size w W1.drew) := hb1.drew
  clear hA hb1
  go_region_held3 (fun Z => Z.cell? ⟨w.heap.size, 0, none⟩ = some (.slice av T.vars.length cv) ∧ Z.cell? ⟨w.heap.size, 1, none⟩ = some (.slice an T.nodes.length cn) ∧ Z.cell? ⟨w.heap.size, 2, none⟩ = some (.slice ab T.body.length cb)) (go_keep) (first | (go_at_call 39; refine (HD.out _ HB1.out).mono ?_; rintro e w2 ⟨⟨ad, cp, rfl, hrow⟩, hb⟩; have s0 := (hb.cell (p := ⟨w.heap.size, 0, none⟩) hlt).trans p0; have s1 := (hb.cell (p := ⟨w.heap.size, 1, none⟩) hlt).trans p1; have s2 := (hb.cell (p := ⟨w.heap.size, 2, none⟩) hlt).trans p2; have HRW : Hid (RowE w2 ad (allL 0 T) T.vars.length) := hrow; have HB2 : Hid (Below w.heap.size w w2) := HB1.out.trans (hb.mono HB1.out.size); have hl2 : w.heap.size < w2.heap.size := Nat.lt_of_lt_of_le hlt hb.size; clear hb hrow) | (go_at_call 131; refine (HBN.out _ _ _ HRW.out).mono ?_; rintro e w3 ⟨rfl, hmap, hb⟩; have u0 := (hb.cell (p := ⟨w.heap.size, 0, none⟩) hl2).trans s0; have u1 := (hb.cell (p := ⟨w.heap.size, 1, none⟩) hl2).trans s1; have u2 := (hb.cell (p := ⟨w.heap.size, 2, none⟩) hl2).trans s2; have HMAP : Hid (NamesAt w3 w2.heap.size (allL 0 T) T.vars.length) := hmap; have HB3 : Hid (Below w.heap.size w w3) := HB2.out.trans (hb.mono HB2.out.size); clear hb hmap))
  have HB4 : Hid (Below w.heap.size w (w3.alloc (.cells #[.slice an T.nodes.length cn, .map (some w2.heap.size), .slice none 0 0] 183))) := HB3.out.alloc HB3.out.size _
  have HCK : Hid (CkB lo w3 w3.heap.size w2.heap.size (.slice an T.nodes.length cn) T (allL 0 T) ∧ ICk w3 (w3.alloc (.cells #[.slice an T.nodes.length cn, .map (some w2.heap.size), .slice none 0 0] 183)) w3.heap.size w2.heap.size (.slice an T.nodes.length cn) (.slice none 0 0) ∧ Below w.heap.size w w3) := ⟨⟨HNO.out _ HB3.out, HMAP.out, HGG.out.1, HGG.out.1.all_len 0, Nat.le_refl _⟩, ⟨(Below.refl _ _).alloc (Nat.le_refl _) _, heap_alloc_new w3 _⟩, HB3.out⟩
  clear u0 u1 u2 s0 s1 s2 p0 p1 p2 HD HBN HNO HGG HMAP HRW HB1 HB2 HB3
  go_wp2
  go_ret
  exact ⟨⟨_, _, w3, rfl, HCK.out⟩, HB4.out⟩
end Go.Proofs.YteeklmgkhacbcaaGreatDoor
namespace Go.Proofs.YteeklmgkhacbcaaGreatDoor
open Go.RowKit
set_option linter.unusedVariables false
def Cnt (w : World) (g : Nat) (T : TypeId) (cs : List Int) : Prop := w.heap[g]? = some (.cells (cs.map (Value.int .i64)).toArray T (0, 0))
def IntsB (hi : Nat) (w : World) (v : Value) (xs : List Int) : Prop :=
  ∃ a c, v = .slice a xs.length c ∧ (xs ≠ [] → ∃ b o, a = some ⟨b, o, none⟩ ∧ b < hi ∧ ∀ (i : Nat) (x : Int), xs[i]? = some x → w.cell? ⟨b, o + i, none⟩ = some (.int .i64 x))
theorem IntsV.toB {lo : Nat} {w : World} {v : Value} {xs : List Int} (h : IntsV lo w v xs) : IntsB w.heap.size w v xs := by
  obtain ⟨a, c, h1, h2, h3⟩ := h
  refine ⟨a, c, h1, fun hn => ?_⟩
  obtain ⟨b, o, e, hl, hc⟩ := h3 hn
  cases xs with
  | nil => exact absurd rfl hn
  | cons x r => exact ⟨b, o, e, World.block_lt_of_cell? _ _ (hc 0 x rfl), hc⟩
structure But (g : Nat) (w w' : World) : Prop where
  below : Below g w w'
  rest : ∀ b, b < w.heap.size → b ≠ g → w'.heap[b]? = w.heap[b]?
theorem But.refl (g : Nat) (w : World) : But g w w := ⟨Below.refl _ _, fun _ _ _ => rfl⟩
theorem But.trans {g : Nat} {a b c : World} (h : But g a b) (k : But g b c) : But g a c :=
  ⟨h.below.trans k.below, fun x hx hne => (k.rest x (Nat.lt_of_lt_of_le hx h.below.size) hne).trans (h.rest x hx hne)⟩
theorem But.cell {g : Nat} {w w' : World} (h : But g w w') {p : Addr} {u : Value} (hne : p.block ≠ g) (hc : w.cell? p = some u) : w'.cell? p = some u := by
  rw [World.cell?_of_block (h.rest p.block (World.block_lt_of_cell? _ _ hc) hne)]; exact hc
theorem But.set {g : Nat} {w w' : World} (h : But g w w') (o : Nat) (u : Value) : But g w (w'.setCell ⟨g, o, none⟩ u) :=
  ⟨h.below.setCell (Nat.le_refl _) _, fun b hb hne => (by
    have := h.rest b hb hne
    rw [← this]
    exact heap_setCell_other _ _ _ _ hne)⟩
theorem Cnt.bumped {w : World} {g : Nat} {T : TypeId} {cs : List Int} (h : Cnt w g T cs) (j : Nat) : Cnt (w.setCell ⟨g, j, none⟩ (.int .i64 (cs.getD j 0 + 1))) g T (bump cs (j : Int)) := by
  have := heap_setCell_same w g j _ _ (.int .i64 (cs.getD j 0 + 1)) h
  unfold Cnt
  rw [this]
  simp [bump, List.map_set]
theorem Cnt.cell {w : World} {g : Nat} {T : TypeId} {cs : List Int} (h : Cnt w g T cs) (j : Nat) (hj : j < cs.length) : w.cell? ⟨g, j, none⟩ = some (.int .i64 (cs.getD j 0)) ∧ w.frozen? ⟨g, j, none⟩ = false := by
  refine ⟨?_, frozen_of_row _ _ _ _ _ h⟩
  rw [cell_of_row _ _ _ _ _ _ h]
  simp [List.getElem?_eq_getElem hj]
abbrev bumpP (ls : List (Value × List Int)) (cs : List Int) : List Int := ls.foldl (fun cs p => bumps cs p.2) cs
theorem bumpP_len (ls : List (Value × List Int)) : ∀ cs : List Int, (bumpP ls cs).length = cs.length := by
  induction ls with
  | nil => intro cs; rfl
  | cons p r ih => intro cs; show (bumpP r (bumps cs p.2)).length = _; rw [ih, bumps_len]
theorem bumpP_take {ls : List (Value × List Int)} {cs : List Int} {k : Nat} {p : Value × List Int} (h : ls[k]? = some p) : bumpP (ls.take (k + 1)) cs = bumps (bumpP (ls.take k) cs) p.2 := by
  obtain ⟨hk, rfl⟩ := List.getElem?_eq_some_iff.1 h
  unfold bumpP; rw [List.take_succ_eq_append_getElem hk, List.foldl_append]; rfl
theorem bumpP_le (B : Int) : ∀ (ls : List (Value × List Int)) {M : Int} {cs : List Int}, CntLe M cs → (∀ p ∈ ls, (p.2.length : Int) ≤ B) → CntLe (M + B * ls.length) (bumpP ls cs) := by
  intro ls
  induction ls with
  | nil => intro M cs h _; simpa using h
  | cons p r ih =>
    intro M cs h hB
    have h1 := hB p (by simp)
    have := ih (cs := bumps cs p.2) ((bumps_le p.2 h).mono (M' := M + B) (by omega)) (fun n hn => hB n (by simp [hn]))
    have e : M + B * ((p :: r).length : Int) = M + B + B * (r.length : Int) := by simp [Int.mul_add]; omega
    rw [e]; exact this
set_option maxHeartbeats 3200000 in
set_option maxRecDepth 100000 in
theorem countPlaces_any (g lb : Nat) (cs : List Int) (ls : List (Value × List Int)) (c c2 : Nat) (w : World) (M B : Int)
    (hg : Cnt w g 3 cs) (hl : ∀ i p, ls[i]? = some p → w.cell? ⟨lb, i, none⟩ = some p.1) (hv : ∀ p ∈ ls, IntsB g w p.1 p.2) (hlb : lb ≠ g)
    (hin : ∀ p ∈ ls, ∀ x ∈ p.2, 0 ≤ x ∧ x < (cs.length : Int)) (hM : CntLe M cs) (hB : ∀ p ∈ ls, (p.2.length : Int) ≤ B) (hB1 : B ≤ 1048576) (h3 : ls.length ≤ 3) (hM0 : 0 ≤ M) (hM1 : M ≤ 10000000000) (hn : cs.length ≤ 200) :
    Calls Tryz.prog 125 #[.slice (some ⟨g, 0, none⟩) cs.length c, .slice (some ⟨lb, 0, none⟩) ls.length c2] w fun e w' => e = .returned (.tuple #[]) ∧ Cnt w' g 3 (bumpP ls cs) ∧ But g w w' := by
  have HG : Hid (Cnt w g 3 cs) := hg
  have HL := hid hl
  have HV := hid hv
  have HI := hid hin
  have HM : Hid (CntLe M cs) := hM
  have HB := hid hB
  have HB1 : Hid (B ≤ 1048576 ∧ 0 ≤ M ∧ M ≤ 10000000000) := ⟨hB1, hM0, hM1⟩
  clear hg hl hv hin hM hB hB1 hM0 hM1
  go_enter Tryz.func125, Tryz.ntmps125
  go_wp2
  go_loopw [10] (fun i wr => ∃ k : Nat, k ≤ ls.length ∧ i = .int .i64 k ∧ Cnt wr g 3 (bumpP (ls.take k) cs) ∧ But g w wr) (fun i _ => ls.length - (intOf i).toNat)
  case atStart => exact ⟨0, by omega, rfl, HG.out, But.refl _ _⟩
  case round =>
    obtain ⟨k, hk, rfl, hcnt, hbut⟩ := hrel
    have HC := hid hcnt
    clear hcnt
    by_cases hlt : k < ls.length
    · obtain ⟨p, hp⟩ : ∃ p, ls[k]? = some p := ⟨ls[k], List.getElem?_eq_getElem hlt⟩
      obtain ⟨v, l⟩ := p
      have hmem := List.mem_of_getElem? hp
      obtain ⟨a, cp, hv0, hh⟩ := HV.out _ hmem
      change v = .slice a l.length cp at hv0
      subst hv0
      have HP := hid hp
      have HH := hid hh
      have HX : Hid (∀ x ∈ l, 0 ≤ x ∧ x < (cs.length : Int)) := HI.out _ hmem
      have HLB : Hid ((l.length : Int) ≤ B) := HB.out _ hmem
      have HLE : Hid (CntLe (M + B * k) (bumpP (ls.take k) cs)) := by
        have := bumpP_le B (ls.take k) (HM.out) (fun p hp => HB.out p (List.mem_of_mem_take hp))
        have e : (ls.take k).length = k := by simp; omega
        rw [e] at this; exact this
      have c0 := hbut.cell (p := ⟨lb, k, none⟩) hlb (HL.out k _ hp)
      have hll : l.length ≤ 1048576 := by have := HLB.out; have := HB1.out.1; omega
      have HBUT : Hid (But g w wr) := hbut
      have HLN : Hid ((bumpP (ls.take k) cs).length = cs.length) := bumpP_len _ _
      generalize hD : bumpP (ls.take k) cs = D at *
      clear hp hh hmem hbut
      go_wp2
      go_loopw [16] (fun i wi => ∃ j : Nat, j ≤ l.length ∧ i = .int .i64 j ∧ Cnt wi g 3 (bumps D (l.take j)) ∧ But g w wi) (fun i _ => l.length - (intOf i).toNat)
      case atStart => exact ⟨0, by omega, rfl, HC.out, HBUT.out⟩
      case round =>
        obtain ⟨j, hj, rfl, hcnt, hbut⟩ := hrel
        by_cases hjt : j < l.length
        · obtain ⟨x, hx⟩ : ∃ x, l[j]? = some x := ⟨l[j], List.getElem?_eq_getElem hjt⟩
          obtain ⟨b, o, rfl, hbg, hc1⟩ := HH.out (by intro e; rw [e] at hjt; simp at hjt)
          have hx2 := HX.out x (List.mem_of_getElem? hx)
          obtain ⟨q, rfl⟩ : ∃ q : Nat, x = q := ⟨x.toNat, by omega⟩
          have d0 := hbut.cell (p := ⟨b, o + j, none⟩) (show b ≠ g by omega) (hc1 j _ hx)
          have hqn : q < cs.length := by omega
          have hlen : (bumps D (l.take j)).length = cs.length := by rw [bumps_len]; exact HLN.out
          obtain ⟨d1, d2⟩ := hcnt.cell q (by omega)
          have hle := (bumps_le (l.take j) HLE.out) q
          have hlj : (l.take j).length ≤ l.length := by simp; omega
          have hk3 : k ≤ 3 := by omega
          have hBk : B * (k : Int) ≤ 1048576 * 3 := by
            have h1 := HB1.out.1
            have h2 := HLB.out
            have h3 : B * (k : Int) ≤ 1048576 * (k : Int) := Int.mul_le_mul_of_nonneg_right h1 (by omega)
            omega
          have HCN : Hid (Cnt (wr.setCell ⟨g, q, none⟩ (.int .i64 ((bumps D (l.take j)).getD q 0 + 1))) g 3 (bumps D (l.take (j + 1)))) := by
            rw [bumps_take hx]; exact hcnt.bumped q
          have hz1 : (bumps D (l.take j)).getD q 0 + 1 ≤ 1000000000000 := by have := HB1.out; omega
          have hz0 : 0 ≤ (bumps D (l.take j)).getD q 0 := hle.1
          have HBUT2 : Hid (But g w wr) := hbut
          generalize (bumps D (l.take j)).getD q 0 = z at *
          have hq0 : (0 : Int) ≤ (q : Int) := by omega
          have hq1 : (q : Int) < (cs.length : Int) := by omega
          clear hle hlj hBk hlen hx2 hx hc1 hcnt hbut
          go_wp2
          go_roundw
          case rel => exact ⟨j + 1, by omega, by go_num, HCN.out, HBUT2.out.set _ _⟩
          case measure => simp [intOf]; omega
        · have hje : j = l.length := by omega
          subst hje
          have HCN : Hid (Cnt wr g 3 (bumpP (ls.take (k + 1)) cs)) := by
            unfold Hid; rw [bumpP_take HP.out, hD]; simpa using hcnt
          have HBUT2 : Hid (But g w wr) := hbut
          clear hcnt hbut hD
          go_wp2
          go_roundw
          case rel => exact ⟨k + 1, by omega, by go_num, HCN.out, HBUT2.out⟩
          case measure => simp [intOf]; omega
    · have hke : k = ls.length := by omega
      subst hke
      have HCN : Hid (Cnt wr g 3 (bumpP ls cs)) := by unfold Hid; have := HC.out; simpa using this
      have HBUT2 : Hid (But g w wr) := hbut
      clear hbut
      go_wp2
      go_end0
      exact ⟨rfl, HCN.out, HBUT2.out⟩
theorem countPlaces_at (g lb : Nat) (cs : List Int) (ls : List (Value × List Int)) (n m c c2 : Nat) (w : World) (M B : Int) (hn' : n = cs.length) (hm' : m = ls.length)
    (hg : Cnt w g 3 cs) (hl : ∀ i p, ls[i]? = some p → w.cell? ⟨lb, i, none⟩ = some p.1) (hv : ∀ p ∈ ls, IntsB g w p.1 p.2) (hlb : lb ≠ g)
    (hin : ∀ p ∈ ls, ∀ x ∈ p.2, 0 ≤ x ∧ x < (cs.length : Int)) (hM : CntLe M cs) (hB : ∀ p ∈ ls, (p.2.length : Int) ≤ B) (hB1 : B ≤ 1048576) (h3 : ls.length ≤ 3) (hM0 : 0 ≤ M) (hM1 : M ≤ 10000000000) (hn : cs.length ≤ 200) :
    Calls Tryz.prog 125 #[.slice (some ⟨g, 0, none⟩) n c, .slice (some ⟨lb, 0, none⟩) m c2] w fun e w' => e = .returned (.tuple #[]) ∧ Cnt w' g 3 (bumpP ls cs) ∧ But g w w' := by
  subst hn' hm'
  exact countPlaces_any g lb cs ls c c2 w M B hg hl hv hlb hin hM hB hB1 h3 hM0 hM1 hn
end Go.Proofs.YteeklmgkhacbcaaGreatDoor
