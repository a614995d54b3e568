/-
  spec.l5Sum, l1Min.
-/
import Derived.Test.YtepjaoapjpmjkaaGreatDoorCheckN
import Derived.Test.YtepjaoapjpmjkaaGreatDoorSName
import Derived.Test.YtepjaoapjpmjkaaGreatDoorSName
import Derived.Test.YtepjaoapjpmjkaaGreatDoorTreeMath
import Derived.Test.YtepjaoapjpmjkaaGreatDoorSTypE
import Derived.Deep.RegionHeld3
import Derived.Deep.AppendLies
import Derived.Test.YtepjaoapjpmjkaaGreatDoorSOwn
import Derived.Test.YtepjaoapjpmjkaaGreatDoorICount
import Derived.Test.YtepjaoapjpmjkaaGreatDoorCopy
namespace Go.Proofs.YtepjaoapjpmjkaaGreatDoor
open Go.RowKit
set_option linter.unusedVariables false
attribute [local go_sem] bs_size bs_get bs_extract bs_append bs_eq bs_toList
theorem RowV.take {W : World} {a : Option Addr} {V : List LVar} (h : RowV W a V) (k : Nat) : RowV W a (V.take k) := fun hne => by
 obtain ⟨g, e, hc⟩ := h (by intro e; rw [e] at hne; simp at hne)
 exact ⟨g, e, fun i x hx => hc i x (by
  rw [List.getElem?_take] at hx
  split at hx
  ·exact hx
  ·cases hx)⟩
theorem rowV_drew {W : World} {a : Option Addr} {V : List LVar} (h : RowV W a V) : RowV W.drew a V := fun hne => by
 obtain ⟨g, e, hc⟩ := h hne
 exact ⟨g, e, fun i x hx => hc i x hx⟩
theorem slice_preV (a : Option Addr) (k n c : Nat) (h : k ≤ n) (hc : n ≤ c) (ha : ∀ x, a = some x → ∃ g, x = ⟨g, 0, none⟩) (W : World) : (Instr.slice 31 (.slice a n c) none (some (.int .i64 (k : Int))) none).run Tryz.prog W = .ok (.slice a k c) W := by
 have hu := Tryz.underlying31
 have hkc : k ≤ c := Nat.le_trans h hc
 cases a with
 | none => simp [go_sem, hu, hkc]
 | some x =>
  obtain ⟨g, rfl⟩ := ha x rfl
  simp [go_sem, hu, hkc]
set_option maxHeartbeats 12800000 in
set_option maxRecDepth 100000 in
theorem l5Names_any (lo p : Nat) (vv vn vb : Value) (T : LTree) (w : World) (h : TreeP lo w p vv vn vb T) (hg : Good T) :
  Calls Tryz.prog 88 #[.pointer (some ⟨p, 0, none⟩)] w fun e w' => e = .returned (.int .i64 (namesF (allL 3 T) T.vars.length)) ∧ Below w.heap.size w w' := by
 obtain ⟨i0, hi, hz0, hz1, hz2⟩ := info_parts infoV
 have HAL : Hid (∀ (w' : World), Below w.heap.size w w' → Calls Tryz.prog 33 #[.pointer (some ⟨p, 0, none⟩)] w' fun e w2 => ∃ v, e = .returned v ∧ w2.ownsRow w'.heap.size 108 4 v (allL 3 T).length (varCells (allL 3 T)) ∧ Below w'.heap.size w' w2) := fun w' hb => l5All_any lo p vv vn vb T w' (h.below hb) hg
 obtain ⟨an, cn, rfl, _, hhn⟩ := id h.tree.nodes
 obtain ⟨av, cv, rfl, _⟩ := id h.tree.vars
 have HN : Hid (T.nodes ≠ [] → ∃ b o, an = some ⟨b, o, none⟩ ∧ lo ≤ b ∧ ∀ (i : Nat) (x : LNode), T.nodes[i]? = some x → NodeAt lo w b (o + i * 8) x) := hhn
 have hpw : p < w.heap.size := World.block_lt_of_cell? _ _ h.c1
 have HP0 : Hid (w.cell? ⟨p, 0, none⟩ = some (.slice av T.vars.length cv)) := h.c0
 have HP1 : Hid (w.cell? ⟨p, 1, none⟩ = some (.slice an T.nodes.length cn)) := h.c1
 have hnl := hg.nodes
 have hvl := hg.vars
 have hal := hg.all_len 3
 have hvle : T.vars.length ≤ (allL 3 T).length := by unfold allL; rw [List.length_append]; omega
 have HNM : Hid (∀ x ∈ allL 3 T, x.name.length ≤ 9) := all_names hg 3
 have HCN : Hid (∀ n ∈ T.nodes, n.kind = 11 → n.name.length ≤ 8) := fun n hn hk => by
  obtain ⟨k, hk2, rfl⟩ := List.getElem_of_mem hn
  exact (name_len (own_name (hg.node k _ (List.getElem?_eq_getElem hk2)).1 hk)).2
 have HFR : Hid (dupB (allL 3 T) = false → ∀ (k : Nat) (n : LNode), T.nodes[k]? = some n → n.kind = 11 → varFrom n.name (callsL (T.nodes.take k)) 0 < 0) := fun h k n hk hc => calls_fresh h hk hc
 have HCL : Hid (∀ k, (callsL (T.nodes.take k)).length ≤ 200) := fun k => by
  have := callsL_len (T.nodes.take k)
  have : (T.nodes.take k).length ≤ 200 := by rw [List.length_take]; omega
  omega
 clear h hg hhn
 obtain ⟨V, hV⟩ : ∃ V, V = allL 3 T := ⟨_, rfl⟩
 rw [← hV] at HAL hal hvle HNM HFR ⊢
 clear hV
 obtain ⟨R, hR⟩ : ∃ R, R = namesF V T.vars.length := ⟨_, rfl⟩
 rw [← hR]
 have HR : Hid (R = if dupB V then 7 else if (V.drop T.vars.length).any (fun v => !isNameL v.name) then 5 else 0) := hR
 clear hR
 go_enter Tryz.func88, Tryz.ntmps88
 go_wp2_with fail
 refine (HAL.out _ (Below.refl _ _)).mono ?_
 rintro e w1 ⟨v, rfl, hown, hb1⟩
 obtain ⟨ad, cp, rfl⟩ := rowE_shape hown
 have hcap := row_cap hown
 have HRV : Hid (RowV w1 ad V) := RowV.of_own hown rfl
 have HAD : Hid (∀ x, ad = some x → ∃ g, x = ⟨g, 0, none⟩) := by
  rcases hown.2 with ⟨e, _⟩ | ⟨g, c, cur, e, _⟩
  ·injection e with e1 e2 e3; subst e1; exact fun x hx => by cases hx
  ·injection e with e1 e2 e3; subst e1; exact fun x hx => by injection hx with hx; exact ⟨g, hx.symm⟩
 have HB1 : Hid (Below w.heap.size w w1) := hb1
 clear hb1 hown HAL
 go_wp2_with fail
 go_loopw [4] (fun i wr => ∃ k : Nat, k ≤ V.length ∧ i = .int .i64 k ∧ Hid (∀ j, j < k → varFrom (V.getD j default).name (V.take j) 0 < 0) ∧ Hid (Below w1.heap.size w1 wr)) (fun i _ => V.length - (intOf i).toNat)
 case atStart => exact ⟨0, by omega, rfl, fun j hj => by omega, Below.refl _ _⟩
 case round =>
  obtain ⟨k, hk, rfl, HD, HB⟩ := hrel
  by_cases hlt : k < V.length
  ·obtain ⟨x, hx⟩ : ∃ x, V[k]? = some x := ⟨V[k], List.getElem?_eq_getElem hlt⟩
   have hxd : V.getD k default = x := by rw [List.getD_eq_getElem?_getD, hx]; rfl
   have hrv := HRV.out.below HB.out
   obtain ⟨g, rfl, hc⟩ := id hrv (by intro e; rw [e] at hlt; simp at hlt)
   obtain ⟨c0, _, _, _⟩ := hc k x hx
   have hsl : ∀ W, (Instr.slice 31 (.slice (some ⟨g, 0, none⟩) V.length cp) none (some (.int .i64 (k : Int))) none).run Tryz.prog W = .ok (.slice (some ⟨g, 0, none⟩) k cp) W := slice_preV _ k V.length cp (by omega) hcap HAD.out
   have HFI : Hid (Calls Tryz.prog 107 #[.slice (some ⟨g, 0, none⟩) k cp, .string (bs x.name)] wr.drew fun e w' => e = .returned (.int .i64 (varFrom x.name (V.take k) 0)) ∧ w' = wr.drew) := l5Find_any (V.take k) x.name _ k cp wr.drew (by rw [List.length_take]; omega) (rowV_drew (hrv.take k)) (by rw [List.length_take]; omega)
   have hk0 : (0 : Int) ≤ (k : Int) := by omega
   have hk1 : (k : Int) < (V.length : Int) := by omega
   have HVD : Hid (V.getD k default = x) := hxd
   obtain ⟨X, hX⟩ : ∃ X, varFrom x.name (V.take k) 0 = X := ⟨_, rfl⟩
   have HX : Hid (varFrom x.name (V.take k) 0 = X) := hX
   rw [hX] at HFI
   have HB2 : Hid (Below w1.heap.size w1 wr.drew) := HB.out.drew
   clear hrv hc hx hxd hX
   go_wp2_with fail
   go_region_held3 (fun Z => Z.cell? ⟨g, k * 4, none⟩ = some (.string (bs x.name))) (go_keep) (first | (go_at_call 107; refine HFI.out.mono ?_; rintro e w2 ⟨rfl, rfl⟩))
   clear c0 hsl HFI
   by_cases hX0 : 0 ≤ X
   ·have HR2 : Hid (R = 7) := by unfold Hid; rw [HR.out, dup_hit hlt (by rw [HVD.out, HX.out]; exact hX0), if_pos rfl]
    clear HR HD
    go_wp2_with fail
    go_ret
    exact ⟨by rw [HR2.out]; rfl, HB1.out.trans (HB2.out.mono HB1.out.size)⟩
   ·have HD2 : Hid (∀ j, j < k + 1 → varFrom (V.getD j default).name (V.take j) 0 < 0) := fun j hj => by
     by_cases e : j = k
     ·rw [e, HVD.out, HX.out]; omega
     ·exact HD.out j (by omega)
    clear HD
    go_wp2_with fail
    go_roundw
    case rel => exact ⟨k + 1, by omega, by go_num, HD2, HB2⟩
    case measure => simp [intOf]; omega
  ·have hke : k = V.length := by omega
   have hdf : dupB V = false := dup_none (by rw [← hke]; exact HD.out)
   have HR2 : Hid (R = if (V.drop T.vars.length).any (fun v => !isNameL v.name) then 5 else 0) := by unfold Hid; rw [HR.out, hdf]; rfl
   have HFR2 : Hid (∀ (k : Nat) (n : LNode), T.nodes[k]? = some n → n.kind = 11 → varFrom n.name (callsL (T.nodes.take k)) 0 < 0) := HFR.out hdf
   have HRV2 : Hid (RowV wr ad V) := HRV.out.below HB.out
   have HBW : Hid (Below w.heap.size w wr) := HB1.out.trans (HB.out.mono HB1.out.size)
   clear HR HFR HD HB HB1 HRV hdf hke
   generalize wr = wa at *
   go_wp2_with fail
   have HOW0 : Hid ((wa.alloc (.cells #[] 108)).ownsRow wa.heap.size 108 4 (.slice (some ⟨wa.heap.size, 0, none⟩) 0 0) (callsL (T.nodes.take 0)).length (varCells (callsL (T.nodes.take 0)))) :=
    ⟨rfl, .inr ⟨wa.heap.size, 0, #[], rfl, Nat.le_refl _, heap_alloc_new wa _, Nat.le_refl _, by decide, rfl, rfl⟩⟩
   have HB0 : Hid (Below wa.heap.size wa (wa.alloc (.cells #[] 108))) := (Below.refl _ _).alloc (Nat.le_refl _) _
   generalize wa.alloc (.cells #[] 108) = Wx at *
   go_loopw [5, 6] (fun v i wz => ∃ k : Nat, k ≤ T.nodes.length ∧ i = .int .i64 k ∧ Hid (wz.ownsRow wa.heap.size 108 4 v (callsL (T.nodes.take k)).length (varCells (callsL (T.nodes.take k)))) ∧ Hid (Below wa.heap.size wa wz)) (fun v i _ => T.nodes.length - (intOf i).toNat)
   case atStart => exact ⟨0, by omega, rfl, HOW0, HB0⟩
   case round =>
    clear HOW0 HB0
    obtain ⟨k, hk, rfl, HOWN, HBZ⟩ := hrel
    generalize wr = wz at *
    obtain ⟨az, cz, rfl⟩ := rowE_shape HOWN.out
    have HBF : Hid (Below w.heap.size w wz) := HBW.out.trans (HBZ.out.mono HBW.out.size)
    have q1 := (HBF.out.cell (p := ⟨p, 1, none⟩) hpw).trans HP1.out
    by_cases hlt : k < T.nodes.length
    ·obtain ⟨y, hy⟩ : ∃ y, T.nodes[k]? = some y := ⟨T.nodes[k], List.getElem?_eq_getElem hlt⟩
     obtain ⟨b, o, rfl, _, hc2⟩ := HN.out (by intro e; rw [e] at hlt; simp at hlt)
     obtain ⟨vk, vt, ve, hcs, hvs⟩ := hc2 k y hy
     obtain ⟨d0, d1, d2, d3, d4, d5, d6, d7⟩ := hcs.keep (lo := 0) (Keeps.of_below HBF.out) (Nat.zero_le _)
     have hk0 : (0 : Int) ≤ (k : Int) := by omega
     have hk1 : (k : Int) < (T.nodes.length : Int) := by omega
     clear hc2 hcs hvs d1 d3 d4 d5 d6 d7
     by_cases k11 : y.kind = 11
     ·have HFX : Hid (varFrom y.name (callsL (T.nodes.take k)) 0 < 0) := HFR2.out k y hy k11
      have HNX : Hid (callsL (T.nodes.take (k + 1)) = callsL (T.nodes.take k) ++ [⟨y.name, 0, 0, 0⟩]) := callsL_hit hy k11
      have hlk := HCL.out k
      have hyn := HCN.out y (List.mem_of_getElem? hy) k11
      have hown := HOWN.out
      have HFI : Hid (Calls Tryz.prog 107 #[.slice az (callsL (T.nodes.take k)).length cz, .string (bs y.name)] wz fun e w' => e = .returned (.int .i64 (varFrom y.name (callsL (T.nodes.take k)) 0)) ∧ w' = wz) := l5Find_any (callsL (T.nodes.take k)) y.name az _ cz wz rfl (RowV.of_own hown rfl) (by omega)
      rw [k11] at d0
      clear hy k11 HOWN
      generalize callsL (T.nodes.take k) = M at *
      obtain ⟨X, hX⟩ : ∃ X, varFrom y.name M 0 = X := ⟨_, rfl⟩
      rw [hX] at HFX HFI
      have hXn : X < 0 := HFX.out
      have hXn2 : ¬ (0 ≤ X) := by omega
      have hzz := HBZ.out.size
      clear hX HFX
      go_wp2_with fail
      refine HFI.out.mono ?_
      rintro e w2 ⟨rfl, rfl⟩
      clear HFI
      go_wp2_with (at_builtin; go_loud (refine wpList_append_own _ rfl _ _ 31 rfl wa.heap.size 108 i0 (.agg #[.string ⟨#[]⟩, .int .i64 0, .int .i64 0, .int .i64 0]) 4 40 Tryz.underlying31 hi hz0 hz1 hz2 rfl (by decide) _ _ _ rfl (hown.alloc _) ⟨w2.heap.size, 0, none⟩ 1 1 [.string (bs y.name), .int .i64 0, .int .i64 0, .int .i64 0] rfl rfl ?c1 ?c2 ?c3 ?c4 ?c5 ?_))
      case c1 => exact World.news_of_block (heap_alloc_new w2 _)
      case c2 => simp [Value.oneCell']
      case c3 => unfold maxLen; omega
      case c4 => omega
      case c5 => simp; omega
      intro v' w9 hown' hgrow _
      have HON : Hid (w9.ownsRow wa.heap.size 108 4 v' (callsL (T.nodes.take (k + 1))).length (varCells (callsL (T.nodes.take (k + 1))))) := by
       unfold Hid
       rw [HNX.out, varCells_append, List.length_append]; exact hown'
      have HB9 : Hid (Below wa.heap.size wa w9) := (HBZ.out.alloc hzz _).grown hgrow (by simp; omega) (fun j hj => (hown.lt j hj).1)
      clear hown' hgrow hown d0 d2 q1 HNX HBZ HBF
      go_wp2_with fail
      go_roundw
      case rel => exact ⟨k + 1, by omega, by go_num, HON, HB9⟩
      case measure => simp [intOf]; omega
     ·have HNX : Hid (callsL (T.nodes.take (k + 1)) = callsL (T.nodes.take k)) := callsL_miss hy k11
      have hkb : (y.kind != 11) = true := bne_iff_ne.2 k11
      have hkd : decide (y.kind = 11) = false := decide_eq_false k11
      clear hy d2
      go_wp2_with fail
      go_roundw
      case rel => exact ⟨k + 1, by omega, by go_num, by unfold Hid; rw [HNX.out]; exact HOWN.out, HBZ⟩
      case measure => simp [intOf]; omega
    ·have q0 := (HBF.out.cell (p := ⟨p, 0, none⟩) hpw).trans HP0.out
     have HRZ : Hid (RowV wz ad V) := HRV2.out.below HBZ.out
     clear HOWN HBZ HRV2 HFR2 HN HCN HCL
     go_wp2_with fail
     go_loopw [7] (fun i wl => ∃ k : Nat, T.vars.length ≤ k ∧ k ≤ V.length ∧ i = .int .i64 k ∧ Hid (R = if (V.drop k).any (fun v => !isNameL v.name) then 5 else 0) ∧ Hid (Below wz.heap.size wz wl)) (fun i _ => V.length - (intOf i).toNat)
     case atStart => exact ⟨T.vars.length, Nat.le_refl _, hvle, rfl, HR2, Below.refl _ _⟩
     case round =>
      clear HR2
      obtain ⟨m, hm0, hm, rfl, HRM, HBL⟩ := hrel
      generalize wr = wl at *
      by_cases hlm : m < V.length
      ·obtain ⟨x, hx⟩ : ∃ x, V[m]? = some x := ⟨V[m], List.getElem?_eq_getElem hlm⟩
       have hrv := HRZ.out.below HBL.out
       obtain ⟨g, rfl, hc⟩ := id hrv (by intro e; rw [e] at hlm; simp at hlm)
       obtain ⟨c0, _, _, _⟩ := hc m x hx
       have hxl := HNM.out x (List.mem_of_getElem? hx)
       have HST : Hid (R = if (!isNameL x.name || (V.drop (m + 1)).any (fun v => !isNameL v.name)) then 5 else 0) := by unfold Hid; rw [HRM.out, any_drop_step hx]
       obtain ⟨q, hq⟩ : ∃ q, isNameL x.name = q := ⟨_, rfl⟩
       have HIN : Hid (∀ w, Calls Tryz.prog 61 #[.string (bs x.name)] w fun e w' => e = .returned (.bool q) ∧ Below w.heap.size w w') := fun w => by rw [← hq]; exact isName_any x.name w (by omega)
       rw [hq] at HST
       have hk0 : (0 : Int) ≤ (m : Int) := by omega
       have hk1 : (m : Int) < (V.length : Int) := by omega
       clear hq hrv hc hx HRM
       cases q with
       | true =>
        have HR3 : Hid (R = if (V.drop (m + 1)).any (fun v => !isNameL v.name) then 5 else 0) := HST.out
        clear HST
        go_wp2_with fail
        refine (HIN.out _).mono ?_
        rintro e w8 ⟨rfl, hb8⟩
        have HB8 : Hid (Below wz.heap.size wz w8) := HBL.out.trans (hb8.mono HBL.out.size)
        clear hb8 HBL c0 HIN
        go_wp2_with fail
        go_roundw
        case rel => exact ⟨m + 1, by omega, by omega, by go_num, HR3, HB8⟩
        case measure => simp [intOf]; omega
       | false =>
        have HR3 : Hid (R = 5) := by unfold Hid; rw [HST.out]; rfl
        clear HST
        go_wp2_with fail
        refine (HIN.out _).mono ?_
        rintro e w8 ⟨rfl, hb8⟩
        have HB8 : Hid (Below wz.heap.size wz w8) := HBL.out.trans (hb8.mono HBL.out.size)
        clear hb8 HBL c0 HIN
        go_wp2_with fail
        go_ret
        exact ⟨by rw [HR3.out]; rfl, HBF.out.trans (HB8.out.mono HBF.out.size)⟩
      ·have hme : m = V.length := by omega
       have HR3 : Hid (R = 0) := by unfold Hid; rw [HRM.out, hme, List.drop_length]; rfl
       clear HRM hme
       go_wp2_with fail
       go_ret
       exact ⟨by rw [HR3.out]; rfl, HBF.out.trans (HBL.out.mono HBF.out.size)⟩
end Go.Proofs.YtepjaoapjpmjkaaGreatDoor
namespace Go.Proofs.YtepjaoapjpmjkaaGreatDoor
open Go.RowKit
set_option linter.unusedVariables false
attribute [local go_sem] bs_size bs_get bs_extract bs_append bs_eq bs_toList
set_option maxHeartbeats 3200000 in
set_option maxRecDepth 100000 in
theorem l5Sum_any (cs l : List Int) (a : Option Addr) (k c hi : Nat) (v : Value) (w : World) (hk : cs.length = k) (hk1 : k ≤ 1048576) (hN : Nums w a cs) (hv : IntsB hi w v l) (hin : ∀ x ∈ l, 0 ≤ x ∧ x < (k : Int)) (hb : Betw 100000 cs) (hl : l.length ≤ 1048576) :
  Calls Tryz.prog 90 #[.slice a k c, v] w fun e w' => e = .returned (.int .i64 (sumAtL cs l)) ∧ w' = w := by
 obtain ⟨al, cp, rfl, hh⟩ := hv
 have HH := hid hh
 have HN : Hid (Nums w a cs) := hN
 have HI := hid hin
 have HB : Hid (Betw 100000 cs) := hb
 clear hh hN hin hb
 go_enter Tryz.func90, Tryz.ntmps90
 go_wp2
 go_loopw [5, 6] (fun d i wr => ∃ j : Nat, j ≤ l.length ∧ i = .int .i64 j ∧ d = .int .i64 (sumAtL cs (l.take j)) ∧ SameW wr w) (fun d i _ => l.length - (intOf i).toNat)
 case atStart => exact ⟨0, by omega, rfl, rfl, rfl⟩
 case round =>
  obtain ⟨j, hj, rfl, rfl, hw⟩ := hrel
  have HW : Hid (SameW wr w) := hw
  by_cases hlt : j < l.length
  ·obtain ⟨x, hx⟩ : ∃ x, l[j]? = some x := ⟨l[j], List.getElem?_eq_getElem hlt⟩
   obtain ⟨b, o, rfl, _, hc1⟩ := HH.out (by intro e; rw [e] at hlt; simp at hlt)
   have c0 : wr.cell? ⟨b, o + j, none⟩ = _ := (congrArg (fun W => World.cell? W ⟨b, o + j, none⟩) hw).trans (hc1 j x hx)
   have HD : Hid (sumAtL cs (l.take (j + 1)) = sumAtL cs (l.take j) + cs.getD x.toNat 0) := sumAt_take hx
   have hx2 := HI.out x (List.mem_of_getElem? hx)
   obtain ⟨p, rfl⟩ : ∃ p : Nat, x = p := ⟨x.toNat, by omega⟩
   have hpk : p < k := by omega
   rcases HN.out with hz | ⟨g3, o3, rfl, hc3⟩
   ·rw [hz] at hk; simp at hk; omega
   have c3 : wr.cell? ⟨g3, o3 + p, none⟩ = _ := (congrArg (fun W => World.cell? W ⟨g3, o3 + p, none⟩) hw).trans (hc3 p (by omega))
   have hz2 := HB.out p
   have hs := sum_big HB.out (l := l.take j) (by rw [List.length_take]; omega)
   change Hid (sumAtL cs (l.take (j + 1)) = sumAtL cs (l.take j) + cs.getD p 0) at HD
   generalize sumAtL cs (l.take j) = s at *
   generalize cs.getD p 0 = z at *
   have hp0 : (0 : Int) ≤ (p : Int) := by omega
   have hp1 : (p : Int) < (k : Int) := by omega
   clear hx hc1 hw hx2 hc3
   go_wp2_with fail
   go_roundw
   case rel => exact ⟨j + 1, by omega, by go_num, by rw [HD.out], HW.out⟩
   case measure => simp [intOf]; omega
  ·have hje : j = l.length := by omega
   have e : sumAtL cs (l.take j) = sumAtL cs l := by rw [hje, List.take_length]
   rw [e]
   clear hje e
   go_wp2
   go_ret
   exact ⟨rfl, hw⟩
set_option maxHeartbeats 800000 in
theorem l1Min_any (a b : Int) (w : World) : Calls Tryz.prog 129 #[.int .i64 a, .int .i64 b] w fun e w' => e = .returned (.int .i64 (min a b)) ∧ w' = w := by
 by_cases h : a < b
 ·have e : min a b = a := by omega
  rw [e]
  go_enter Tryz.func129, Tryz.ntmps129
  go_wp2
  go_ret
  exact ⟨rfl, rfl⟩
 ·have e : min a b = b := by omega
  rw [e]
  go_enter Tryz.func129, Tryz.ntmps129
  go_wp2
  go_ret
  exact ⟨rfl, rfl⟩
end Go.Proofs.YtepjaoapjpmjkaaGreatDoor
