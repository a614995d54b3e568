/-
  spec.l5Costs.
-/
import Derived.Test.YteeklmgkhacbcaaGreatDoorCheckN
import Derived.Test.YteeklmgkhacbcaaGreatDoorSName
import Derived.Test.YteeklmgkhacbcaaGreatDoorTreeMath
import Derived.Test.YteeklmgkhacbcaaGreatDoorSTypE
import Derived.Deep.RegionHeld3
import Derived.Deep.AppendLies
import Derived.Test.YteeklmgkhacbcaaGreatDoorSOwn
import Derived.Test.YteeklmgkhacbcaaGreatDoorICount
import Derived.Test.YteeklmgkhacbcaaGreatDoorIVarsM
import Derived.Test.YteeklmgkhacbcaaGreatDoorIDeep
import Derived.Test.YteeklmgkhacbcaaGreatDoorStr
import Derived.BigRegion
import Derived.Laws.AppendOwn
namespace Go.Proofs.YteeklmgkhacbcaaGreatDoor
open Go.RowKit
set_option linter.unusedVariables false
attribute [local go_sem] bs_size bs_get bs_extract bs_append bs_eq bs_toList
theorem RowV.take {W : World} {a : Option Addr} {V : List LVar} (h : RowV W a V) (k : Nat) : RowV W a (V.take k) := fun hne => by
 obtain ⟨g, e, hc⟩ := h (by intro e; rw [e] at hne; simp at hne)
 exact ⟨g, e, fun i x hx => hc i x (by
  rw [List.getElem?_take] at hx
  split at hx
  ·exact hx
  ·cases hx)⟩
theorem rowV_drew {W : World} {a : Option Addr} {V : List LVar} (h : RowV W a V) : RowV W.drew a V := fun hne => by
 obtain ⟨g, e, hc⟩ := h hne
 exact ⟨g, e, fun i x hx => hc i x hx⟩
theorem slice_preV (a : Option Addr) (k n c : Nat) (h : k ≤ n) (hc : n ≤ c) (ha : ∀ x, a = some x → ∃ g, x = ⟨g, 0, none⟩) (W : World) : (Instr.slice 34 (.slice a n c) none (some (.int .i64 (k : Int))) none).run Tryz.prog W = .ok (.slice a k c) W := by
 have hu := Tryz.underlying34
 have hkc : k ≤ c := Nat.le_trans h hc
 cases a with
 | none => simp [go_sem, hu, hkc]
 | some x =>
  obtain ⟨g, rfl⟩ := ha x rfl
  simp [go_sem, hu, hkc]
set_option maxHeartbeats 12800000 in
set_option maxRecDepth 100000 in
theorem l5Names_any (lo p : Nat) (vv vn vb : Value) (T : LTree) (w : World) (h : TreeP lo w p vv vn vb T) (hg : Good T) :
  Calls Tryz.prog 65 #[.pointer (some ⟨p, 0, none⟩)] w fun e w' => e = .returned (.int .i64 (namesF (allL 3 T) T.vars.length)) ∧ Below w.heap.size w w' := by
 obtain ⟨i0, hi, hz0, hz1, hz2⟩ := info_parts infoV
 have HAL : Hid (∀ (w' : World), Below w.heap.size w w' → Calls Tryz.prog 44 #[.pointer (some ⟨p, 0, none⟩)] w' fun e w2 => ∃ v, e = .returned v ∧ w2.ownsRow w'.heap.size 86 4 v (allL 3 T).length (varCells (allL 3 T)) ∧ Below w'.heap.size w' w2) := fun w' hb => l5All_any lo p vv vn vb T w' (h.below hb) hg
 obtain ⟨an, cn, rfl, _, hhn⟩ := id h.tree.nodes
 obtain ⟨av, cv, rfl, _⟩ := id h.tree.vars
 have HN : Hid (T.nodes ≠ [] → ∃ b o, an = some ⟨b, o, none⟩ ∧ lo ≤ b ∧ ∀ (i : Nat) (x : LNode), T.nodes[i]? = some x → NodeAt lo w b (o + i * 8) x) := hhn
 have hpw : p < w.heap.size := World.block_lt_of_cell? _ _ h.c1
 have HP0 : Hid (w.cell? ⟨p, 0, none⟩ = some (.slice av T.vars.length cv)) := h.c0
 have HP1 : Hid (w.cell? ⟨p, 1, none⟩ = some (.slice an T.nodes.length cn)) := h.c1
 have hnl := hg.nodes
 have hvl := hg.vars
 have hal := hg.all_len 3
 have hvle : T.vars.length ≤ (allL 3 T).length := by unfold allL; rw [List.length_append]; omega
 have HNM : Hid (∀ x ∈ allL 3 T, x.name.length ≤ 9) := all_names hg 3
 have HCN : Hid (∀ n ∈ T.nodes, n.kind = 11 → n.name.length ≤ 8) := fun n hn hk => by
  obtain ⟨k, hk2, rfl⟩ := List.getElem_of_mem hn
  exact (name_len (own_name (hg.node k _ (List.getElem?_eq_getElem hk2)).1 hk)).2
 have HFR : Hid (dupB (allL 3 T) = false → ∀ (k : Nat) (n : LNode), T.nodes[k]? = some n → n.kind = 11 → varFrom n.name (callsL (T.nodes.take k)) 0 < 0) := fun h k n hk hc => calls_fresh h hk hc
 have HCL : Hid (∀ k, (callsL (T.nodes.take k)).length ≤ 200) := fun k => by
  have := callsL_len (T.nodes.take k)
  have : (T.nodes.take k).length ≤ 200 := by rw [List.length_take]; omega
  omega
 clear h hg hhn
 obtain ⟨V, hV⟩ : ∃ V, V = allL 3 T := ⟨_, rfl⟩
 rw [← hV] at HAL hal hvle HNM HFR ⊢
 clear hV
 obtain ⟨R, hR⟩ : ∃ R, R = namesF V T.vars.length := ⟨_, rfl⟩
 rw [← hR]
 have HR : Hid (R = if dupB V then 7 else if (V.drop T.vars.length).any (fun v => !isNameL v.name) then 5 else 0) := hR
 clear hR
 go_enter Tryz.func65, Tryz.ntmps65
 go_wp2_with fail
 refine (HAL.out _ (Below.refl _ _)).mono ?_
 rintro e w1 ⟨v, rfl, hown, hb1⟩
 obtain ⟨ad, cp, rfl⟩ := rowE_shape hown
 have hcap := row_cap hown
 have HRV : Hid (RowV w1 ad V) := RowV.of_own hown rfl
 have HAD : Hid (∀ x, ad = some x → ∃ g, x = ⟨g, 0, none⟩) := by
  rcases hown.2 with ⟨e, _⟩ | ⟨g, c, cur, e, _⟩
  ·injection e with e1 e2 e3; subst e1; exact fun x hx => by cases hx
  ·injection e with e1 e2 e3; subst e1; exact fun x hx => by injection hx with hx; exact ⟨g, hx.symm⟩
 have HB1 : Hid (Below w.heap.size w w1) := hb1
 clear hb1 hown HAL
 go_wp2_with fail
 go_loopw [4] (fun i wr => ∃ k : Nat, k ≤ V.length ∧ i = .int .i64 k ∧ Hid (∀ j, j < k → varFrom (V.getD j default).name (V.take j) 0 < 0) ∧ Hid (Below w1.heap.size w1 wr)) (fun i _ => V.length - (intOf i).toNat)
 case atStart => exact ⟨0, by omega, rfl, fun j hj => by omega, Below.refl _ _⟩
 case round =>
  obtain ⟨k, hk, rfl, HD, HB⟩ := hrel
  by_cases hlt : k < V.length
  ·obtain ⟨x, hx⟩ : ∃ x, V[k]? = some x := ⟨V[k], List.getElem?_eq_getElem hlt⟩
   have hxd : V.getD k default = x := by rw [List.getD_eq_getElem?_getD, hx]; rfl
   have hrv := HRV.out.below HB.out
   obtain ⟨g, rfl, hc⟩ := id hrv (by intro e; rw [e] at hlt; simp at hlt)
   obtain ⟨c0, _, _, _⟩ := hc k x hx
   have hsl : ∀ W, (Instr.slice 34 (.slice (some ⟨g, 0, none⟩) V.length cp) none (some (.int .i64 (k : Int))) none).run Tryz.prog W = .ok (.slice (some ⟨g, 0, none⟩) k cp) W := slice_preV _ k V.length cp (by omega) hcap HAD.out
   have HFI : Hid (Calls Tryz.prog 86 #[.slice (some ⟨g, 0, none⟩) k cp, .string (bs x.name)] wr.drew fun e w' => e = .returned (.int .i64 (varFrom x.name (V.take k) 0)) ∧ w' = wr.drew) := l5Find_any (V.take k) x.name _ k cp wr.drew (by rw [List.length_take]; omega) (rowV_drew (hrv.take k)) (by rw [List.length_take]; omega)
   have hk0 : (0 : Int) ≤ (k : Int) := by omega
   have hk1 : (k : Int) < (V.length : Int) := by omega
   have HVD : Hid (V.getD k default = x) := hxd
   obtain ⟨X, hX⟩ : ∃ X, varFrom x.name (V.take k) 0 = X := ⟨_, rfl⟩
   have HX : Hid (varFrom x.name (V.take k) 0 = X) := hX
   rw [hX] at HFI
   have HB2 : Hid (Below w1.heap.size w1 wr.drew) := HB.out.drew
   clear hrv hc hx hxd hX
   go_wp2_with fail
   go_region_held3 (fun Z => Z.cell? ⟨g, k * 4, none⟩ = some (.string (bs x.name))) (go_keep) (first | (go_at_call 86; refine HFI.out.mono ?_; rintro e w2 ⟨rfl, rfl⟩))
   clear c0 hsl HFI
   by_cases hX0 : 0 ≤ X
   ·have HR2 : Hid (R = 7) := by unfold Hid; rw [HR.out, dup_hit hlt (by rw [HVD.out, HX.out]; exact hX0), if_pos rfl]
    clear HR HD
    go_wp2_with fail
    go_ret
    exact ⟨by rw [HR2.out]; rfl, HB1.out.trans (HB2.out.mono HB1.out.size)⟩
   ·have HD2 : Hid (∀ j, j < k + 1 → varFrom (V.getD j default).name (V.take j) 0 < 0) := fun j hj => by
     by_cases e : j = k
     ·rw [e, HVD.out, HX.out]; omega
     ·exact HD.out j (by omega)
    clear HD
    go_wp2_with fail
    go_roundw
    case rel => exact ⟨k + 1, by omega, by go_num, HD2, HB2⟩
    case measure => simp [intOf]; omega
  ·have hke : k = V.length := by omega
   have hdf : dupB V = false := dup_none (by rw [← hke]; exact HD.out)
   have HR2 : Hid (R = if (V.drop T.vars.length).any (fun v => !isNameL v.name) then 5 else 0) := by unfold Hid; rw [HR.out, hdf]; rfl
   have HFR2 : Hid (∀ (k : Nat) (n : LNode), T.nodes[k]? = some n → n.kind = 11 → varFrom n.name (callsL (T.nodes.take k)) 0 < 0) := HFR.out hdf
   have HRV2 : Hid (RowV wr ad V) := HRV.out.below HB.out
   have HBW : Hid (Below w.heap.size w wr) := HB1.out.trans (HB.out.mono HB1.out.size)
   clear HR HFR HD HB HB1 HRV hdf hke
   generalize wr = wa at *
   go_wp2_with fail
   have HOW0 : Hid ((wa.alloc (.cells #[] 86)).ownsRow wa.heap.size 86 4 (.slice (some ⟨wa.heap.size, 0, none⟩) 0 0) (callsL (T.nodes.take 0)).length (varCells (callsL (T.nodes.take 0)))) :=
    ⟨rfl, .inr ⟨wa.heap.size, 0, #[], rfl, Nat.le_refl _, heap_alloc_new wa _, Nat.le_refl _, by decide, rfl, rfl⟩⟩
   have HB0 : Hid (Below wa.heap.size wa (wa.alloc (.cells #[] 86))) := (Below.refl _ _).alloc (Nat.le_refl _) _
   generalize wa.alloc (.cells #[] 86) = Wx at *
   go_loopw [5, 6] (fun v i wz => ∃ k : Nat, k ≤ T.nodes.length ∧ i = .int .i64 k ∧ Hid (wz.ownsRow wa.heap.size 86 4 v (callsL (T.nodes.take k)).length (varCells (callsL (T.nodes.take k)))) ∧ Hid (Below wa.heap.size wa wz)) (fun v i _ => T.nodes.length - (intOf i).toNat)
   case atStart => exact ⟨0, by omega, rfl, HOW0, HB0⟩
   case round =>
    clear HOW0 HB0
    obtain ⟨k, hk, rfl, HOWN, HBZ⟩ := hrel
    generalize wr = wz at *
    obtain ⟨az, cz, rfl⟩ := rowE_shape HOWN.out
    have HBF : Hid (Below w.heap.size w wz) := HBW.out.trans (HBZ.out.mono HBW.out.size)
    have q1 := (HBF.out.cell (p := ⟨p, 1, none⟩) hpw).trans HP1.out
    by_cases hlt : k < T.nodes.length
    ·obtain ⟨y, hy⟩ : ∃ y, T.nodes[k]? = some y := ⟨T.nodes[k], List.getElem?_eq_getElem hlt⟩
     obtain ⟨b, o, rfl, _, hc2⟩ := HN.out (by intro e; rw [e] at hlt; simp at hlt)
     obtain ⟨vk, vt, ve, hcs, hvs⟩ := hc2 k y hy
     obtain ⟨d0, d1, d2, d3, d4, d5, d6, d7⟩ := hcs.keep (lo := 0) (Keeps.of_below HBF.out) (Nat.zero_le _)
     have hk0 : (0 : Int) ≤ (k : Int) := by omega
     have hk1 : (k : Int) < (T.nodes.length : Int) := by omega
     clear hc2 hcs hvs d1 d3 d4 d5 d6 d7
     by_cases k11 : y.kind = 11
     ·have HFX : Hid (varFrom y.name (callsL (T.nodes.take k)) 0 < 0) := HFR2.out k y hy k11
      have HNX : Hid (callsL (T.nodes.take (k + 1)) = callsL (T.nodes.take k) ++ [⟨y.name, 0, 0, 0⟩]) := callsL_hit hy k11
      have hlk := HCL.out k
      have hyn := HCN.out y (List.mem_of_getElem? hy) k11
      have hown := HOWN.out
      have HFI : Hid (Calls Tryz.prog 86 #[.slice az (callsL (T.nodes.take k)).length cz, .string (bs y.name)] wz fun e w' => e = .returned (.int .i64 (varFrom y.name (callsL (T.nodes.take k)) 0)) ∧ w' = wz) := l5Find_any (callsL (T.nodes.take k)) y.name az _ cz wz rfl (RowV.of_own hown rfl) (by omega)
      rw [k11] at d0
      clear hy k11 HOWN
      generalize callsL (T.nodes.take k) = M at *
      obtain ⟨X, hX⟩ : ∃ X, varFrom y.name M 0 = X := ⟨_, rfl⟩
      rw [hX] at HFX HFI
      have hXn : X < 0 := HFX.out
      have hXn2 : ¬ (0 ≤ X) := by omega
      have hzz := HBZ.out.size
      clear hX HFX
      go_wp2_with fail
      refine HFI.out.mono ?_
      rintro e w2 ⟨rfl, rfl⟩
      clear HFI
      go_wp2_with (at_builtin; go_loud (refine wpList_append_own _ rfl _ _ 34 rfl wa.heap.size 86 i0 (.agg #[.string ⟨#[]⟩, .int .i64 0, .int .i64 0, .int .i64 0]) 4 40 Tryz.underlying34 hi hz0 hz1 hz2 rfl (by decide) _ _ _ rfl (hown.alloc _) ⟨w2.heap.size, 0, none⟩ 1 1 [.string (bs y.name), .int .i64 0, .int .i64 0, .int .i64 0] rfl rfl ?c1 ?c2 ?c3 ?c4 ?c5 ?_))
      case c1 => exact World.news_of_block (heap_alloc_new w2 _)
      case c2 => simp [Value.oneCell']
      case c3 => unfold maxLen; omega
      case c4 => omega
      case c5 => simp; omega
      intro v' w9 hown' hgrow _
      have HON : Hid (w9.ownsRow wa.heap.size 86 4 v' (callsL (T.nodes.take (k + 1))).length (varCells (callsL (T.nodes.take (k + 1))))) := by
       unfold Hid
       rw [HNX.out, varCells_append, List.length_append]; exact hown'
      have HB9 : Hid (Below wa.heap.size wa w9) := (HBZ.out.alloc hzz _).grown hgrow (by simp; omega) (fun j hj => (hown.lt j hj).1)
      clear hown' hgrow hown d0 d2 q1 HNX HBZ HBF
      go_wp2_with fail
      go_roundw
      case rel => exact ⟨k + 1, by omega, by go_num, HON, HB9⟩
      case measure => simp [intOf]; omega
     ·have HNX : Hid (callsL (T.nodes.take (k + 1)) = callsL (T.nodes.take k)) := callsL_miss hy k11
      have hkb : (y.kind != 11) = true := bne_iff_ne.2 k11
      have hkd : decide (y.kind = 11) = false := decide_eq_false k11
      clear hy d2
      go_wp2_with fail
      go_roundw
      case rel => exact ⟨k + 1, by omega, by go_num, by unfold Hid; rw [HNX.out]; exact HOWN.out, HBZ⟩
      case measure => simp [intOf]; omega
    ·have q0 := (HBF.out.cell (p := ⟨p, 0, none⟩) hpw).trans HP0.out
     have HRZ : Hid (RowV wz ad V) := HRV2.out.below HBZ.out
     clear HOWN HBZ HRV2 HFR2 HN HCN HCL
     go_wp2_with fail
     go_loopw [7] (fun i wl => ∃ k : Nat, T.vars.length ≤ k ∧ k ≤ V.length ∧ i = .int .i64 k ∧ Hid (R = if (V.drop k).any (fun v => !isNameL v.name) then 5 else 0) ∧ Hid (Below wz.heap.size wz wl)) (fun i _ => V.length - (intOf i).toNat)
     case atStart => exact ⟨T.vars.length, Nat.le_refl _, hvle, rfl, HR2, Below.refl _ _⟩
     case round =>
      clear HR2
      obtain ⟨m, hm0, hm, rfl, HRM, HBL⟩ := hrel
      generalize wr = wl at *
      by_cases hlm : m < V.length
      ·obtain ⟨x, hx⟩ : ∃ x, V[m]? = some x := ⟨V[m], List.getElem?_eq_getElem hlm⟩
       have hrv := HRZ.out.below HBL.out
       obtain ⟨g, rfl, hc⟩ := id hrv (by intro e; rw [e] at hlm; simp at hlm)
       obtain ⟨c0, _, _, _⟩ := hc m x hx
       have hxl := HNM.out x (List.mem_of_getElem? hx)
       have HST : Hid (R = if (!isNameL x.name || (V.drop (m + 1)).any (fun v => !isNameL v.name)) then 5 else 0) := by unfold Hid; rw [HRM.out, any_drop_step hx]
       obtain ⟨q, hq⟩ : ∃ q, isNameL x.name = q := ⟨_, rfl⟩
       have HIN : Hid (∀ w, Calls Tryz.prog 80 #[.string (bs x.name)] w fun e w' => e = .returned (.bool q) ∧ Below w.heap.size w w') := fun w => by rw [← hq]; exact isName_any x.name w (by omega)
       rw [hq] at HST
       have hk0 : (0 : Int) ≤ (m : Int) := by omega
       have hk1 : (m : Int) < (V.length : Int) := by omega
       clear hq hrv hc hx HRM
       cases q with
       | true =>
        have HR3 : Hid (R = if (V.drop (m + 1)).any (fun v => !isNameL v.name) then 5 else 0) := HST.out
        clear HST
        go_wp2_with fail
        refine (HIN.out _).mono ?_
        rintro e w8 ⟨rfl, hb8⟩
        have HB8 : Hid (Below wz.heap.size wz w8) := HBL.out.trans (hb8.mono HBL.out.size)
        clear hb8 HBL c0 HIN
        go_wp2_with fail
        go_roundw
        case rel => exact ⟨m + 1, by omega, by omega, by go_num, HR3, HB8⟩
        case measure => simp [intOf]; omega
       | false =>
        have HR3 : Hid (R = 5) := by unfold Hid; rw [HST.out]; rfl
        clear HST
        go_wp2_with fail
        refine (HIN.out _).mono ?_
        rintro e w8 ⟨rfl, hb8⟩
        have HB8 : Hid (Below wz.heap.size wz w8) := HBL.out.trans (hb8.mono HBL.out.size)
        clear hb8 HBL c0 HIN
        go_wp2_with fail
        go_ret
        exact ⟨by rw [HR3.out]; rfl, HBF.out.trans (HB8.out.mono HBF.out.size)⟩
      ·have hme : m = V.length := by omega
       have HR3 : Hid (R = 0) := by unfold Hid; rw [HRM.out, hme, List.drop_length]; rfl
       clear HRM hme
       go_wp2_with fail
       go_ret
       exact ⟨by rw [HR3.out]; rfl, HBF.out.trans (HBL.out.mono HBF.out.size)⟩
set_option maxHeartbeats 3200000 in
set_option maxRecDepth 100000 in
theorem l5Sum_any (cs l : List Int) (a : Option Addr) (k c hi : Nat) (v : Value) (w : World) (hk : cs.length = k) (hk1 : k ≤ 1048576) (hN : Nums w a cs) (hv : IntsB hi w v l) (hin : ∀ x ∈ l, 0 ≤ x ∧ x < (k : Int)) (hb : Betw 100000 cs) (hl : l.length ≤ 1048576) :
  Calls Tryz.prog 67 #[.slice a k c, v] w fun e w' => e = .returned (.int .i64 (sumAtL cs l)) ∧ w' = w := by
 obtain ⟨al, cp, rfl, hh⟩ := hv
 have HH := hid hh
 have HN : Hid (Nums w a cs) := hN
 have HI := hid hin
 have HB : Hid (Betw 100000 cs) := hb
 clear hh hN hin hb
 go_enter Tryz.func67, Tryz.ntmps67
 go_wp2
 go_loopw [5, 6] (fun d i wr => ∃ j : Nat, j ≤ l.length ∧ i = .int .i64 j ∧ d = .int .i64 (sumAtL cs (l.take j)) ∧ SameW wr w) (fun d i _ => l.length - (intOf i).toNat)
 case atStart => exact ⟨0, by omega, rfl, rfl, rfl⟩
 case round =>
  obtain ⟨j, hj, rfl, rfl, hw⟩ := hrel
  have HW : Hid (SameW wr w) := hw
  by_cases hlt : j < l.length
  ·obtain ⟨x, hx⟩ : ∃ x, l[j]? = some x := ⟨l[j], List.getElem?_eq_getElem hlt⟩
   obtain ⟨b, o, rfl, _, hc1⟩ := HH.out (by intro e; rw [e] at hlt; simp at hlt)
   have c0 : wr.cell? ⟨b, o + j, none⟩ = _ := (congrArg (fun W => World.cell? W ⟨b, o + j, none⟩) hw).trans (hc1 j x hx)
   have HD : Hid (sumAtL cs (l.take (j + 1)) = sumAtL cs (l.take j) + cs.getD x.toNat 0) := sumAt_take hx
   have hx2 := HI.out x (List.mem_of_getElem? hx)
   obtain ⟨p, rfl⟩ : ∃ p : Nat, x = p := ⟨x.toNat, by omega⟩
   have hpk : p < k := by omega
   rcases HN.out with hz | ⟨g3, o3, rfl, hc3⟩
   ·rw [hz] at hk; simp at hk; omega
   have c3 : wr.cell? ⟨g3, o3 + p, none⟩ = _ := (congrArg (fun W => World.cell? W ⟨g3, o3 + p, none⟩) hw).trans (hc3 p (by omega))
   have hz2 := HB.out p
   have hs := sum_big HB.out (l := l.take j) (by rw [List.length_take]; omega)
   change Hid (sumAtL cs (l.take (j + 1)) = sumAtL cs (l.take j) + cs.getD p 0) at HD
   generalize sumAtL cs (l.take j) = s at *
   generalize cs.getD p 0 = z at *
   have hp0 : (0 : Int) ≤ (p : Int) := by omega
   have hp1 : (p : Int) < (k : Int) := by omega
   clear hx hc1 hw hx2 hc3
   go_wp2_with fail
   go_roundw
   case rel => exact ⟨j + 1, by omega, by go_num, by rw [HD.out], HW.out⟩
   case measure => simp [intOf]; omega
  ·have hje : j = l.length := by omega
   have e : sumAtL cs (l.take j) = sumAtL cs l := by rw [hje, List.take_length]
   rw [e]
   clear hje e
   go_wp2
   go_ret
   exact ⟨rfl, hw⟩
set_option maxHeartbeats 800000 in
theorem l1Min_any (a b : Int) (w : World) : Calls Tryz.prog 92 #[.int .i64 a, .int .i64 b] w fun e w' => e = .returned (.int .i64 (min a b)) ∧ w' = w := by
 by_cases h : a < b
 ·have e : min a b = a := by omega
  rw [e]
  go_enter Tryz.func92, Tryz.ntmps92
  go_wp2
  go_ret
  exact ⟨rfl, rfl⟩
 ·have e : min a b = b := by omega
  rw [e]
  go_enter Tryz.func92, Tryz.ntmps92
  go_wp2
  go_ret
  exact ⟨rfl, rfl⟩
theorem costN_9 {cs : List Int} {n : LNode} (h : n.kind = 9) : costN cs n = min 100000 (1 + sumAtL cs n.kids + max (sumAtL cs n.thn) (sumAtL cs n.els)) := by unfold costN; rw [if_pos h]
theorem costN_10 {cs : List Int} {n : LNode} (h : n.kind = 10) : costN cs n = min 100000 (1 + sumAtL cs n.kids + 2 + max 0 (n.far - n.num + 1) * (3 + sumAtL cs n.thn)) := by unfold costN; rw [if_neg (by omega), if_pos h]
theorem costN_11 {cs : List Int} {n : LNode} (h : n.kind = 11) : costN cs n = min 100000 (1 + sumAtL cs n.kids + 12) := by unfold costN; rw [if_neg (by omega), if_neg (by omega), if_pos h]
theorem costN_0 {cs : List Int} {n : LNode} (h1 : n.kind ≠ 9) (h2 : n.kind ≠ 10) (h3 : n.kind ≠ 11) : costN cs n = min 100000 (1 + sumAtL cs n.kids) := by unfold costN; rw [if_neg h1, if_neg h2, if_neg h3]
set_option maxHeartbeats 6400000 in
set_option maxRecDepth 100000 in
theorem l5Costs_any (lo p : Nat) (vv vn vb : Value) (T : LTree) (w : World) (h : TreeP lo w p vv vn vb T) (hg : Good T) (hS : Sized 1048576 T) :
  Calls Tryz.prog 68 #[.pointer (some ⟨p, 0, none⟩)] w fun e w' => ∃ v, e = .returned v ∧ Own w' w.heap.size v (costsF T.nodes T.nodes.length) ∧ Below w.heap.size w w' := by
 obtain ⟨an, cn, rfl, _, hhn⟩ := id h.tree.nodes
 have HN := hid hhn
 have p1 := h.c1
 have HP1 : Hid (w.cell? ⟨p, 1, none⟩ = some (.slice an T.nodes.length cn)) := p1
 have hpw : p < w.heap.size := World.block_lt_of_cell? _ _ p1
 have hn200 := hg.nodes
 have HT : Hid (∀ n ∈ T.nodes, Tame n) := hg.tame hS
 have HG : Hid (∀ (k : Nat) (n : LNode), T.nodes[k]? = some n → ownB n = true ∧ (∀ x ∈ n.kids, 0 ≤ x ∧ x < (k : Int)) ∧ (∀ x ∈ n.thn, 0 ≤ x ∧ x < (k : Int)) ∧ (∀ x ∈ n.els, 0 ≤ x ∧ x < (k : Int))) := hg.node
 have HLE : Hid (∀ k : Nat, k ≤ T.nodes.length → Betw 100000 (costsF T.nodes k)) := costsF_le T.nodes (hg.tame hS)
 clear h hhn hS hg
 obtain ⟨i0, hi, hz0, hz1, hz2⟩ := info_parts infoInt
 go_enter Tryz.func68, Tryz.ntmps68
 go_wp2
 have HOW0 : Hid ((w.alloc (.cells #[] 2)).ownsRow w.heap.size 2 1 (.slice (some ⟨w.heap.size, 0, none⟩) 0 0) 0 []) :=
  ⟨rfl, .inr ⟨w.heap.size, 0, #[], rfl, Nat.le_refl _, heap_alloc_new w _, Nat.le_refl _, by decide, rfl, rfl⟩⟩
 have HB0 : Hid (Below w.heap.size w (w.alloc (.cells #[] 2))) := (Below.refl _ _).alloc (Nat.le_refl _) _
 generalize w.alloc (.cells #[] 2) = W0 at *
 go_loopw [3, 4] (fun v i wr => ∃ k : Nat, k ≤ T.nodes.length ∧ i = .int .i64 k ∧ wr.ownsRow w.heap.size 2 1 v k ((costsF T.nodes k).map (Value.int .i64)) ∧ Below w.heap.size w wr) (fun v i _ => T.nodes.length - (intOf i).toNat)
 case atStart => exact ⟨0, by omega, rfl, HOW0.out, HB0.out⟩
 case round =>
  clear HOW0 HB0
  obtain ⟨k, hk, rfl, hown, hB⟩ := hrel
  obtain ⟨ad, cp, rfl⟩ := own_shape hown
  have HOWN := hid hown
  have HB := hid hB
  have q1 := (hB.cell (p := ⟨p, 1, none⟩) hpw).trans HP1.out
  clear hown
  by_cases hlt : k < T.nodes.length
  ·obtain ⟨y, hy⟩ : ∃ y, T.nodes[k]? = some y := ⟨T.nodes[k], List.getElem?_eq_getElem hlt⟩
   obtain ⟨b, o, rfl, _, hc2⟩ := HN.out (by intro e; rw [e] at hlt; simp at hlt)
   obtain ⟨vk, vt, ve, hcs, hvs⟩ := hc2 k y hy
   have hkp : ∀ q, q < w.heap.size → wr.heap[q]? = w.heap[q]? := fun q hq => hB.block q hq
   obtain ⟨d0, d1, d2, d3, d4, d5, d6, d7⟩ := hcs.keep (lo := 0) (w' := wr) (fun q _ hq => hkp q hq) (Nat.zero_le _)
   have HK : Hid (IntsB w.heap.size w vk y.kids) := hvs.kids.toB
   have HTH : Hid (IntsB w.heap.size w vt y.thn) := hvs.thn.toB
   have HE : Hid (IntsB w.heap.size w ve y.els) := hvs.els.toB
   have HKP := hid hkp
   have HY : Hid (T.nodes[k]? = some y) := hy
   have HTY : Hid (Tame y) := HT.out y (List.mem_of_getElem? hy)
   have HGY : Hid (ownB y = true ∧ (∀ x ∈ y.kids, 0 ≤ x ∧ x < (k : Int)) ∧ (∀ x ∈ y.thn, 0 ≤ x ∧ x < (k : Int)) ∧ (∀ x ∈ y.els, 0 ≤ x ∧ x < (k : Int))) := HG.out k y hy
   have hk0 : (0 : Int) ≤ (k : Int) := by omega
   have hk1 : (k : Int) < (T.nodes.length : Int) := by omega
   have hwz : w.heap.size ≤ wr.heap.size := hB.size
   obtain ⟨ak, ck, rfl, _⟩ := id hvs.kids
   obtain ⟨at2, ct, rfl, _⟩ := id hvs.thn
   obtain ⟨ae, ce, rfl, _⟩ := id hvs.els
   clear hy hc2 hcs hvs hkp hB
   go_wp2_with fail
   have hA := heap_alloc_new wr (.cells #[.int .i64 y.kind, .int .i64 y.op, .string (bs y.name), .int .i64 y.num, .int .i64 y.far, .slice ak y.kids.length ck, .slice at2 y.thn.length ct, .slice ae y.els.length ce] 88)
   have hB6 : Below wr.heap.size wr (wr.alloc (.cells #[.int .i64 y.kind, .int .i64 y.op, .string (bs y.name), .int .i64 y.num, .int .i64 y.far, .slice ak y.kids.length ck, .slice at2 y.thn.length ct, .slice ae y.els.length ce] 88)) := (Below.refl wr.heap.size wr).alloc (Nat.le_refl _) _
   generalize wr.alloc (.cells #[.int .i64 y.kind, .int .i64 y.op, .string (bs y.name), .int .i64 y.num, .int .i64 y.far, .slice ak y.kids.length ck, .slice at2 y.thn.length ct, .slice ae y.els.length ce] 88) = W5 at *
   obtain ⟨e0, -, -, e3, e4, e5, e6, e7⟩ := cl8 hA
   have hown5 : W5.ownsRow w.heap.size 2 1 (.slice ad k cp) k ((costsF T.nodes k).map (Value.int .i64)) := own_kept HOWN.out hB6
   have HOW5 := hid hown5
   have HNM : Nums W5 ad (costsF T.nodes k) := by
    have e : k = (costsF T.nodes k).length := (costsF_len _ _).symm
    have h2 : Own W5 w.heap.size (.slice ad k cp) (costsF T.nodes k) := by unfold Own; rw [← e]; exact hown5
    exact (nums_of_own h2).2
   have HB5 : Hid (Below w.heap.size w W5) := HB.out.trans (hB6.mono hwz)
   have hkp5 : ∀ q, q < w.heap.size → W5.heap[q]? = w.heap[q]? := fun q hq => (hB6.block q (Nat.lt_of_lt_of_le hq hwz)).trans (HKP.out q hq)
   have hbw := HLE.out k (by omega)
   have hcall : ∀ (v : Value) (l : List Int), IntsB w.heap.size w v l → (∀ x ∈ l, 0 ≤ x ∧ x < (k : Int)) → l.length ≤ 1048576 → ∀ W, W.heap = W5.heap → Calls Tryz.prog 67 #[.slice ad k cp, v] W fun e w' => e = .returned (.int .i64 (sumAtL (costsF T.nodes k) l)) ∧ w' = W := fun v l hv hx hl W hW =>
    l5Sum_any (costsF T.nodes k) l ad k cp w.heap.size v W (costsF_len _ _) (by omega) (by
     rcases HNM with hz | ⟨b, off, e, hc⟩
     ·exact .inl hz
     ·exact .inr ⟨b, off, e, fun i hi => by rw [← hc i hi]; exact World.cell?_of_block (a := ⟨b, off + i, none⟩) (by rw [hW])⟩) (hv.keep (fun q hq => by rw [hW]; exact hkp5 q hq) (Nat.le_refl _)) hx hbw hl
   have H1 : Hid (∀ W, W.heap = W5.heap → Calls Tryz.prog 67 #[.slice ad k cp, .slice ak y.kids.length ck] W fun e w' => e = .returned (.int .i64 (sumAtL (costsF T.nodes k) y.kids)) ∧ w' = W) := hcall _ _ HK.out HGY.out.2.1 HTY.out.kids
   have H2 : Hid (∀ W, W.heap = W5.heap → Calls Tryz.prog 67 #[.slice ad k cp, .slice at2 y.thn.length ct] W fun e w' => e = .returned (.int .i64 (sumAtL (costsF T.nodes k) y.thn)) ∧ w' = W) := hcall _ _ HTH.out HGY.out.2.2.1 HTY.out.thn
   have H3 : Hid (∀ W, W.heap = W5.heap → Calls Tryz.prog 67 #[.slice ad k cp, .slice ae y.els.length ce] W fun e w' => e = .returned (.int .i64 (sumAtL (costsF T.nodes k) y.els)) ∧ w' = W) := hcall _ _ HE.out HGY.out.2.2.2 HTY.out.els
   have HMX : Hid (∀ (a b : Int) (w : World), Calls Tryz.prog 91 #[.int .i64 a, .int .i64 b] w fun e w' => e = .returned (.int .i64 (max a b)) ∧ w' = w) := l1Max_any
   have HMN : Hid (∀ (a b : Int) (w : World), Calls Tryz.prog 92 #[.int .i64 a, .int .i64 b] w fun e w' => e = .returned (.int .i64 (min a b)) ∧ w' = w) := l1Min_any
   have hs1 := sum_big hbw HTY.out.kids
   have hs2 := sum_big hbw HTY.out.thn
   have hs3 := sum_big hbw HTY.out.els
   have hrd := rounds_le HTY.out
   have hnm := HTY.out.num
   have hfr := HTY.out.far
   have hmul := mul_le_of hrd.1 hrd.2 (b := 3 + sumAtL (costsF T.nodes k) y.thn) (by omega) (Int.add_le_add_left hs2.2 3)
   have HNX : Hid (costsF T.nodes (k + 1) = costsF T.nodes k ++ [costN (costsF T.nodes k) y]) := by
    show costsF T.nodes k ++ [costN (costsF T.nodes k) (T.nodes.getD k default)] = _
    rw [List.getD_eq_getElem?_getD, HY.out]; rfl
   have C9 : Hid (y.kind = 9 → costN (costsF T.nodes k) y = min 100000 (1 + sumAtL (costsF T.nodes k) y.kids + max (sumAtL (costsF T.nodes k) y.thn) (sumAtL (costsF T.nodes k) y.els))) := costN_9
   have C10 : Hid (y.kind = 10 → costN (costsF T.nodes k) y = min 100000 (1 + sumAtL (costsF T.nodes k) y.kids + 2 + max 0 (y.far - y.num + 1) * (3 + sumAtL (costsF T.nodes k) y.thn))) := costN_10
   have C11 : Hid (y.kind = 11 → costN (costsF T.nodes k) y = min 100000 (1 + sumAtL (costsF T.nodes k) y.kids + 12)) := costN_11
   have C0 : Hid (y.kind ≠ 9 → y.kind ≠ 10 → y.kind ≠ 11 → costN (costsF T.nodes k) y = min 100000 (1 + sumAtL (costsF T.nodes k) y.kids)) := costN_0
   generalize sumAtL (costsF T.nodes k) y.kids = s1 at *
   generalize sumAtL (costsF T.nodes k) y.thn = s2 at *
   generalize sumAtL (costsF T.nodes k) y.els = s3 at *
   generalize Value.slice ak y.kids.length ck = v1 at *
   generalize Value.slice at2 y.thn.length ct = v2 at *
   generalize Value.slice ae y.els.length ce = v3 at *
   clear hA hcall hown5 HNM hbw hkp5 d0 d1 d2 d3 d4 d5 d6 d7 q1 HK HTH HE HKP HOWN HB HY hB6
   refine (H1.out _ rfl).mono ?_
   rintro e w2 ⟨rfl, rfl⟩
   by_cases k9 : y.kind = 9
   ·have HCE : Hid (costN (costsF T.nodes k) y = min 100000 (1 + s1 + max s2 s3)) := C9.out k9
    have hw9 : IntKind.i64.wrap (1 + s1 + max s2 s3) = 1 + s1 + max s2 s3 := IntWalk.i64_in _ (by omega)
    go_wp2_with fail
    go_region_held3 (fun W => W.cell? ⟨wr.heap.size, 6, none⟩ = some v2 ∧ W.cell? ⟨wr.heap.size, 7, none⟩ = some v3) (go_keep) (first | (go_at_call 67; (with_reducible show Calls _ _ #[_, v2] _ _); refine (H2.out _ (by rfl)).mono ?_; rintro e w3 ⟨rfl, rfl⟩) | (go_at_call 67; (with_reducible show Calls _ _ #[_, v3] _ _); refine (H3.out _ (by rfl)).mono ?_; rintro e w3 ⟨rfl, rfl⟩) | (go_at_call 91; refine (HMX.out _ _ _).mono ?_; rintro e w3 ⟨rfl, rfl⟩))
    go_wp2_with fail
    have hownd : Hid (w2.drew.ownsRow w.heap.size 2 1 (.slice ad k cp) k ((costsF T.nodes k).map (Value.int .i64))) := own_kept HOW5.out ((Below.refl w2.heap.size w2).drew)
    have hbd : Hid (Below w.heap.size w w2.drew) := HB5.out.drew
    clear HOW5 HB5 e0 e3 e4 e5 e6 e7
    have HOW5 := hownd
    have HB5 := hbd
    clear hownd hbd
    generalize w2.drew = w4 at *
    refine (HMN.out _ _ _).mono ?_
    rintro e w3 ⟨rfl, rfl⟩
    rw [← HCE.out]
    obtain ⟨D, hD⟩ : ∃ D, D = costN (costsF T.nodes k) y := ⟨_, rfl⟩
    rw [← hD] at HNX HCE ⊢
    have hown := HOW5.out
    clear hD H1 H2 H3 HMX HMN C9 C10 C11 C0 hmul hs1 hs2 hs3 hrd hnm hfr HCE
    go_wp2_with (at_builtin; refine wpList_append_own _ rfl _ _ 24 rfl w.heap.size 2 i0 (.int .i64 0) 1 8 Tryz.underlying24 hi hz0 hz1 hz2 rfl (by decide) _ _ _ rfl (hown.alloc _) ⟨w3.heap.size, 0, none⟩ 1 1 [.int .i64 D] rfl rfl ?c1 ?c2 ?c3 ?c4 ?c5 ?_)
    case c1 =>
     intro j u hj
     match j, hj with
     | 0, hj => simp at hj; subst hj; simp [Addr.add]
     | j + 1, hj => simp at hj
    case c2 => intro u hu; simp at hu; subst hu; rfl
    case c3 => unfold maxLen; omega
    case c4 => omega
    case c5 => have := HB5.out.size; simp; omega
    intro v' w9 hown' hgrow _
    have hbel9 : Hid (Below w.heap.size w w9) := by
     have h3 : Below w.heap.size w (w3.alloc (.cells #[.int .i64 D] 2)) := HB5.out.alloc HB5.out.size _
     exact h3.grown hgrow (by have := HB5.out.size; simp; omega) (fun j hj => (hown.lt j hj).1)
    have hnew : Hid (w9.ownsRow w.heap.size 2 1 v' (k + 1) ((costsF T.nodes (k + 1)).map (Value.int .i64))) := by
     unfold Hid; rw [HNX.out, List.map_append]; exact hown'
    clear hown' hgrow hown
    go_wp2_with fail
    go_roundw
    case rel => exact ⟨k + 1, by omega, by go_num, hnew.out, hbel9.out⟩
    case measure => simp [intOf]; omega
   by_cases k10 : y.kind = 10
   ·have HCE : Hid (costN (costsF T.nodes k) y = min 100000 (1 + s1 + 2 + max 0 (y.far - y.num + 1) * (3 + s2))) := C10.out k10
    have hwa : IntKind.i64.wrap (1 + s1 + 2) = 1 + s1 + 2 := IntWalk.i64_in _ (by omega)
    have hwb : IntKind.i64.wrap (y.far - y.num) = y.far - y.num := IntWalk.i64_in _ (by omega)
    have hwc : IntKind.i64.wrap (y.far - y.num + 1) = y.far - y.num + 1 := IntWalk.i64_in _ (by omega)
    have hwd : IntKind.i64.wrap (3 + s2) = 3 + s2 := IntWalk.i64_in _ (by omega)
    have hwe : IntKind.i64.wrap (max 0 (y.far - y.num + 1) * (3 + s2)) = max 0 (y.far - y.num + 1) * (3 + s2) := IntWalk.i64_in _ (by omega)
    have hwf : IntKind.i64.wrap (1 + s1 + 2 + max 0 (y.far - y.num + 1) * (3 + s2)) = 1 + s1 + 2 + max 0 (y.far - y.num + 1) * (3 + s2) := IntWalk.i64_in _ (by omega)
    go_wp2_with fail
    go_region_held3 (fun W => W.cell? ⟨wr.heap.size, 6, none⟩ = some v2 ∧ W.cell? ⟨wr.heap.size, 3, none⟩ = some (.int .i64 y.num) ∧ W.cell? ⟨wr.heap.size, 4, none⟩ = some (.int .i64 y.far)) (go_keep) (first | (go_at_call 67; (with_reducible show Calls _ _ #[_, v2] _ _); refine (H2.out _ (by rfl)).mono ?_; rintro e w3 ⟨rfl, rfl⟩) | (go_at_call 91; refine (HMX.out _ _ _).mono ?_; rintro e w3 ⟨rfl, rfl⟩))
    go_wp2_with fail
    clear hwa hwb hwc hwd hwe hwf
    have hownd : Hid (w2.drew.ownsRow w.heap.size 2 1 (.slice ad k cp) k ((costsF T.nodes k).map (Value.int .i64))) := own_kept HOW5.out ((Below.refl w2.heap.size w2).drew)
    have hbd : Hid (Below w.heap.size w w2.drew) := HB5.out.drew
    clear HOW5 HB5 e0 e3 e4 e5 e6 e7
    have HOW5 := hownd
    have HB5 := hbd
    clear hownd hbd
    generalize w2.drew = w4 at *
    refine (HMN.out _ _ _).mono ?_
    rintro e w3 ⟨rfl, rfl⟩
    rw [← HCE.out]
    obtain ⟨D, hD⟩ : ∃ D, D = costN (costsF T.nodes k) y := ⟨_, rfl⟩
    rw [← hD] at HNX HCE ⊢
    have hown := HOW5.out
    clear hD H1 H2 H3 HMX HMN C9 C10 C11 C0 hmul hs1 hs2 hs3 hrd hnm hfr HCE
    go_wp2_with (at_builtin; refine wpList_append_own _ rfl _ _ 24 rfl w.heap.size 2 i0 (.int .i64 0) 1 8 Tryz.underlying24 hi hz0 hz1 hz2 rfl (by decide) _ _ _ rfl (hown.alloc _) ⟨w3.heap.size, 0, none⟩ 1 1 [.int .i64 D] rfl rfl ?c1 ?c2 ?c3 ?c4 ?c5 ?_)
    case c1 =>
     intro j u hj
     match j, hj with
     | 0, hj => simp at hj; subst hj; simp [Addr.add]
     | j + 1, hj => simp at hj
    case c2 => intro u hu; simp at hu; subst hu; rfl
    case c3 => unfold maxLen; omega
    case c4 => omega
    case c5 => have := HB5.out.size; simp; omega
    intro v' w9 hown' hgrow _
    have hbel9 : Hid (Below w.heap.size w w9) := by
     have h3 : Below w.heap.size w (w3.alloc (.cells #[.int .i64 D] 2)) := HB5.out.alloc HB5.out.size _
     exact h3.grown hgrow (by have := HB5.out.size; simp; omega) (fun j hj => (hown.lt j hj).1)
    have hnew : Hid (w9.ownsRow w.heap.size 2 1 v' (k + 1) ((costsF T.nodes (k + 1)).map (Value.int .i64))) := by
     unfold Hid; rw [HNX.out, List.map_append]; exact hown'
    clear hown' hgrow hown
    go_wp2_with fail
    go_roundw
    case rel => exact ⟨k + 1, by omega, by go_num, hnew.out, hbel9.out⟩
    case measure => simp [intOf]; omega
   by_cases k11 : y.kind = 11
   ·have HCE : Hid (costN (costsF T.nodes k) y = min 100000 (1 + s1 + 12)) := C11.out k11
    go_wp2_with fail
    refine (HMN.out _ _ _).mono ?_
    rintro e w3 ⟨rfl, rfl⟩
    rw [← HCE.out]
    obtain ⟨D, hD⟩ : ∃ D, D = costN (costsF T.nodes k) y := ⟨_, rfl⟩
    rw [← hD] at HNX HCE ⊢
    have hown := HOW5.out
    clear hD H1 H2 H3 HMX HMN C9 C10 C11 C0 e0 e3 e4 e5 e6 e7 hmul hs1 hs2 hs3 hrd hnm hfr HCE
    go_wp2_with (at_builtin; refine wpList_append_own _ rfl _ _ 24 rfl w.heap.size 2 i0 (.int .i64 0) 1 8 Tryz.underlying24 hi hz0 hz1 hz2 rfl (by decide) _ _ _ rfl (hown.alloc _) ⟨w3.heap.size, 0, none⟩ 1 1 [.int .i64 D] rfl rfl ?c1 ?c2 ?c3 ?c4 ?c5 ?_)
    case c1 =>
     intro j u hj
     match j, hj with
     | 0, hj => simp at hj; subst hj; simp [Addr.add]
     | j + 1, hj => simp at hj
    case c2 => intro u hu; simp at hu; subst hu; rfl
    case c3 => unfold maxLen; omega
    case c4 => omega
    case c5 => have := HB5.out.size; simp; omega
    intro v' w9 hown' hgrow _
    have hbel9 : Hid (Below w.heap.size w w9) := by
     have h3 : Below w.heap.size w (w3.alloc (.cells #[.int .i64 D] 2)) := HB5.out.alloc HB5.out.size _
     exact h3.grown hgrow (by have := HB5.out.size; simp; omega) (fun j hj => (hown.lt j hj).1)
    have hnew : Hid (w9.ownsRow w.heap.size 2 1 v' (k + 1) ((costsF T.nodes (k + 1)).map (Value.int .i64))) := by
     unfold Hid; rw [HNX.out, List.map_append]; exact hown'
    clear hown' hgrow hown
    go_wp2_with fail
    go_roundw
    case rel => exact ⟨k + 1, by omega, by go_num, hnew.out, hbel9.out⟩
    case measure => simp [intOf]; omega
   have HCE : Hid (costN (costsF T.nodes k) y = min 100000 (1 + s1)) := C0.out k9 k10 k11
   go_wp2_with fail
   refine (HMN.out _ _ _).mono ?_
   rintro e w3 ⟨rfl, rfl⟩
   rw [← HCE.out]
   obtain ⟨D, hD⟩ : ∃ D, D = costN (costsF T.nodes k) y := ⟨_, rfl⟩
   rw [← hD] at HNX HCE ⊢
   have hown := HOW5.out
   clear hD H1 H2 H3 HMX HMN C9 C10 C11 C0 e0 e3 e4 e5 e6 e7 hmul hs1 hs2 hs3 hrd hnm hfr HCE
   go_wp2_with (at_builtin; refine wpList_append_own _ rfl _ _ 24 rfl w.heap.size 2 i0 (.int .i64 0) 1 8 Tryz.underlying24 hi hz0 hz1 hz2 rfl (by decide) _ _ _ rfl (hown.alloc _) ⟨w3.heap.size, 0, none⟩ 1 1 [.int .i64 D] rfl rfl ?c1 ?c2 ?c3 ?c4 ?c5 ?_)
   case c1 =>
    intro j u hj
    match j, hj with
    | 0, hj => simp at hj; subst hj; simp [Addr.add]
    | j + 1, hj => simp at hj
   case c2 => intro u hu; simp at hu; subst hu; rfl
   case c3 => unfold maxLen; omega
   case c4 => omega
   case c5 => have := HB5.out.size; simp; omega
   intro v' w9 hown' hgrow _
   have hbel9 : Hid (Below w.heap.size w w9) := by
    have h3 : Below w.heap.size w (w3.alloc (.cells #[.int .i64 D] 2)) := HB5.out.alloc HB5.out.size _
    exact h3.grown hgrow (by have := HB5.out.size; simp; omega) (fun j hj => (hown.lt j hj).1)
   have hnew : Hid (w9.ownsRow w.heap.size 2 1 v' (k + 1) ((costsF T.nodes (k + 1)).map (Value.int .i64))) := by
    unfold Hid; rw [HNX.out, List.map_append]; exact hown'
   clear hown' hgrow hown
   go_wp2_with fail
   go_roundw
   case rel => exact ⟨k + 1, by omega, by go_num, hnew.out, hbel9.out⟩
   case measure => simp [intOf]; omega
  ·have hke : k = T.nodes.length := by omega
   subst hke
   go_wp2
   go_ret
   refine ⟨_, rfl, ?_, HB.out⟩
   have h := HOWN.out
   unfold Own
   rw [costsF_len]
   exact h
end Go.Proofs.YteeklmgkhacbcaaGreatDoor
