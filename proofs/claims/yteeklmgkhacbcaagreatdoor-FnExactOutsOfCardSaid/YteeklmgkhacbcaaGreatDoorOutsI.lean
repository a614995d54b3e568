/-
  impl.outCells, outsIn.
-/
import Derived.Test.YteeklmgkhacbcaaGreatDoorStr
import Derived.Test.YteeklmgkhacbcaaGreatDoorOutsA
import Derived.Test.YteeklmgkhacbcaaGreatDoorSName
import Derived.Deep.RegionHeld3
import Derived.Test.YteeklmgkhacbcaaGreatDoorICkE
namespace Go.Proofs.YteeklmgkhacbcaaGreatDoor
open Go.RowKit
theorem nums_at {w : World} {a : Option Addr} {zs : List Int} (h : Nums w a zs) (hp : 0 < zs.length) : ∃ b o, a = some ⟨b, o, none⟩ ∧ ∀ i, i < zs.length → w.cell? ⟨b, o + i, none⟩ = some (.int .i64 (zs.getD i 0)) := by
 rcases h with h | h
 ·subst h; simp at hp
 ·exact h
theorem own_block {w : World} {B : Nat} {b o n c : Nat} {zs : List Int} (h : Own w B (.slice (some ⟨b, o, none⟩) n c) zs) : B ≤ b ∧ b < w.heap.size := h.lt b rfl
theorem cell_heap {w w' : World} {b : Nat} (h : w'.heap[b]? = w.heap[b]?) (i : Nat) : w'.cell? ⟨b, i, none⟩ = w.cell? ⟨b, i, none⟩ := by
 unfold World.cell?
 simp only [h]
set_option linter.unusedVariables false
attribute [local go_sem] bs_size bs_get bs_extract bs_append bs_eq bs_toList
set_option maxHeartbeats 6400000 in
set_option maxRecDepth 100000 in
theorem l9Outs_any (lo p : Nat) (vv vn vb : Value) (T : LTree) (a : Option Addr) (cs : List Int) (c : Nat) (w : World) (h : TreeP lo w p vv vn vb T) (hs : SizesLe T.vars) (hl : T.vars.length ≤ 24) (hn : Nums w a cs) (hc : cellsL T.vars ≤ cs.length) (hcl : cs.length ≤ 1048576) :
  Calls Tryz.prog 36 #[.pointer (some ⟨p, 0, none⟩), .slice a cs.length c] w fun e w' => ∃ v, e = .returned v ∧ Own w' w.heap.size v (outsV T.vars cs T.vars.length) ∧ Below w.heap.size w w' := by
 have HX : Hid (∀ W, Below w.heap.size w W → Calls Tryz.prog 57 #[.pointer (some ⟨p, 0, none⟩)] W fun e w' => ∃ v, e = .returned v ∧ Own w' W.heap.size v (posV T.vars T.vars.length) ∧ Below W.heap.size W w') := fun W hb => l6Outputs_any lo p vv vn vb T W (h.below hb) hs hl
 obtain ⟨hpl, hpi⟩ := posV_in hs T.vars.length (Nat.le_refl _)
 have HPO := hid (pos_outs hs hc T.vars.length (Nat.le_refl _))
 have HPI : Hid (∀ (k : Nat) (x : Int), (posV T.vars T.vars.length)[k]? = some x → 0 ≤ x ∧ x < cs.length) := fun k x hk => by
  have := hpi x (List.mem_of_getElem? hk)
  omega
 have hpl2 : (posV T.vars T.vars.length).length ≤ 192 := by omega
 generalize outsV T.vars cs T.vars.length = R at *
 generalize posV T.vars T.vars.length = P at *
 have HN := hid hn
 have HWN : Hid (∀ W, Below w.heap.size w W → Nums W a cs) := fun W hb => hn.below hb
 have HB0 : Hid (Below w.heap.size w (w.alloc (.cells #[] 2)) ∧ Own (w.alloc (.cells #[] 2)) w.heap.size (.slice (some ⟨w.heap.size, 0, none⟩) 0 0) []) := ⟨(Below.refl _ _).alloc (Nat.le_refl _) _, own_empty w _ (Nat.le_refl _)⟩
 clear h hs hl hn hc hpl hpi
 go_enter Tryz.func36, Tryz.ntmps36
 go_upto_region 2 with fail
 have HV0 : Hid (∀ g, (Value.slice (some ⟨w.heap.size, 0, none⟩) 0 0).ownBlock = some g → g < (w.alloc (.cells #[] 2)).heap.size) := fun g hg => by
  have h9 : w.heap.size = g := Option.some.inj hg
  rw [World.size_alloc]
  omega
 generalize w.alloc (.cells #[] 2) = W0 at *
 generalize Value.slice (some ⟨w.heap.size, 0, none⟩) 0 0 = v0 at *
 go_wp2_with fail
 refine (HX.out _ HB0.out.1).mono ?_
 rintro e w2 ⟨vp, rfl, hop, hb⟩
 have HO2 := hid (own_kept HB0.out.2 hb)
 have HB2 : Hid (Below w.heap.size w w2) := HB0.out.1.trans (hb.mono HB0.out.1.size)
 have HPB : Hid (W0.heap.size ≤ w2.heap.size) := hb.size
 obtain ⟨ap, cp, hsh⟩ := own_shape hop
 subst hsh
 have HNP := hid (nums_of_own hop).2
 have HPW : Hid (∀ b o, ap = some ⟨b, o, none⟩ → W0.heap.size ≤ b ∧ b < w2.heap.size) := fun b o e => by subst e; exact own_block hop
 have HV2 : Hid (∀ g, v0.ownBlock = some g → g < W0.heap.size ∨ w2.heap.size ≤ g) := fun g hg => .inl (HV0.out g hg)
 clear hb hop HB0 HX
 go_wp2_with fail
 go_loopw [5, 7] (fun v i wr => ∃ (k : Nat) (u : Value), k ≤ P.length ∧ i = .int .i64 k ∧ u = v ∧ Hid (Own wr w.heap.size u ((P.take k).map (fun p => cs.getD p.toNat 0))) ∧ Hid (Below w.heap.size w wr) ∧ Hid (∀ g, u.ownBlock = some g → g < W0.heap.size ∨ w2.heap.size ≤ g) ∧ Hid (∀ g, W0.heap.size ≤ g → g < w2.heap.size → wr.heap[g]? = w2.heap[g]?) ∧ Hid (w2.heap.size ≤ wr.heap.size)) (fun _ i _ => P.length - (intOf i).toNat)
 case atStart => exact ⟨0, _, Nat.zero_le _, rfl, rfl, HO2, HB2, HV2, fun _ _ _ => rfl, Nat.le_refl _⟩
 case round =>
  clear HO2 HB2 HV2
  obtain ⟨k, v, hk, rfl, rfl, HO, HB, OB, KP, SZ⟩ := hrel
  by_cases hlt : k < P.length
  ·obtain ⟨x, hx⟩ : ∃ x, P[k]? = some x := ⟨P[k], List.getElem?_eq_getElem hlt⟩
   obtain ⟨x0, x1⟩ := HPI.out k x hx
   obtain ⟨X, hX⟩ := Int.eq_ofNat_of_zero_le x0
   subst hX
   have hXc : X < cs.length := by omega
   obtain ⟨bp, op, hap, hcp⟩ := nums_at HNP.out (by omega)
   subst hap
   obtain ⟨hb1, hb2⟩ := HPW.out bp op rfl
   have d0 := (cell_heap (KP.out bp hb1 hb2) (op + k)).trans (hcp k hlt)
   rw [List.getD_eq_getElem?_getD, hx] at d0
   simp only [Option.getD_some] at d0
   obtain ⟨bc, oc, hac, hcc⟩ := nums_at (HWN.out wr HB.out) (by omega)
   subst hac
   have d1 := hcc X hXc
   obtain ⟨y, hy⟩ : ∃ y, cs.getD X 0 = y := ⟨_, rfl⟩
   rw [hy] at d1
   have HRS : Hid ((P.take (k + 1)).map (fun p => cs.getD p.toNat 0) = (P.take k).map (fun p => cs.getD p.toNat 0) ++ [y]) := by
    unfold Hid
    rw [List.take_add_one, hx, List.map_append]
    show _ ++ [cs.getD (X : Int).toNat 0] = _
    rw [Int.toNat_natCast, hy]
   have hll : ((P.take k).map (fun p => cs.getD p.toNat 0)).length + 1 ≤ 2097152 := by rw [List.length_map, List.length_take]; omega
   have HLE := hid hll
   obtain ⟨L, hL⟩ : ∃ L, (P.take k).map (fun p => cs.getD p.toNat 0) = L := ⟨_, rfl⟩
   rw [hL] at HO HRS HLE
   obtain ⟨ad, cq, hsh⟩ := own_shape HO.out
   subst hsh
   have HLT := hid hlt
   have hk0 : (0 : Int) ≤ (k : Int) := by omega
   have hk1 : (k : Int) < (P.length : Int) := by omega
   have hX0 : (0 : Int) ≤ (X : Int) := by omega
   have hX1 : (X : Int) < (cs.length : Int) := by omega
   have hbz : w.heap.size ≤ wr.heap.size := HB.out.size
   clear hcp hcc hx hy hL hll hlt x0 x1
   go_wp2_with (at_builtin; go_loud (refine wpList_appN rfl _ _ rfl w.heap.size _ L [y] (by rfl) (own_kept HO.out ((Below.refl wr.heap.size wr).alloc (Nat.le_refl _) (.cells #[.int .i64 y] 2))) (some ⟨wr.heap.size, 0, none⟩) 1 (by rfl) (one_numN wr _) (fun e => by cases e) (fun e => by cases e) HLE.out (Nat.le_trans hbz (by rw [World.size_alloc]; omega)) ?_))
   intro v4 w4 ho hg hv
   have HB4 : Hid (Below w.heap.size w w4) := (HB.out.alloc hbz _).grown hg.out (Nat.le_trans hbz (by rw [World.size_alloc]; omega)) (fun g hg => HO.out.lt g hg |>.1)
   have HO4 := hid (show Own w4 w.heap.size v4 _ from HRS.out ▸ ho.out)
   have OB4 : Hid (∀ g, v4.ownBlock = some g → g < W0.heap.size ∨ w2.heap.size ≤ g) := fun g hg4 => by
    rcases hv.out with e | e
    ·exact OB.out g (e ▸ hg4)
    ·have h9 := Option.some.inj (e.symm.trans hg4)
     have h8 := SZ.out
     omega
   have KP4 : Hid (∀ g, W0.heap.size ≤ g → g < w2.heap.size → w4.heap[g]? = w2.heap[g]?) := fun g h1 h2 => by
    have hs := SZ.out
    refine (hg.out.block g (by rw [World.size_alloc]; omega) (fun e => ?_)).trans ((((Below.refl wr.heap.size wr).alloc (Nat.le_refl _) _).block g (by omega)).trans (KP.out g h1 h2))
    rcases OB.out g e.symm with h | h <;> omega
   have SZ4 : Hid (w2.heap.size ≤ w4.heap.size) := by
    have h1 := hg.out.size
    rw [World.size_alloc] at h1
    exact Nat.le_trans SZ.out (by omega)
   clear ho hg hv HB HO HRS HLE OB KP SZ
   go_wp2_with fail
   go_roundw
   case rel => exact ⟨k + 1, _, HLT.out, by go_num, rfl, HO4, HB4, OB4, KP4, SZ4⟩
   case measure => have h9 := HLT.out; clear hk0 hk1; simp [intOf]; omega
  ·have hke : k = P.length := by omega
   subst hke
   rw [List.take_length, HPO.out] at HO
   go_wp2_with fail
   go_ret
   exact ⟨_, rfl, HO.out, HB.out⟩
set_option maxHeartbeats 800000 in
theorem l6AllW_any (a : Option Addr) (zs : List Int) (cap : Nat) (w : World) (hlen : zs.length ≤ 1048576) (hn : Nums w a zs) :
  Calls Tryz.prog 45 #[.slice a zs.length cap] w fun e w' => e = .returned (.bool (allW zs)) ∧ w' = w := by
 go_enter Tryz.func45, Tryz.ntmps45
 go_wp2
 go_loop [3] (fun i => ∃ k : Nat, k ≤ zs.length ∧ i = .int .i64 k ∧ ∀ j, j < k → 0 ≤ zs.getD j 0 ∧ zs.getD j 0 ≤ 65535) (fun i => zs.length - (intOf i).toNat)
 case atStart => exact ⟨0, Nat.zero_le _, rfl, fun j hj => by omega⟩
 case round =>
  obtain ⟨k, hk, rfl, ho⟩ := hrel
  have HO : Hid _ := ho
  clear ho
  by_cases hlt : k < zs.length
  ·rcases hn with hn | ⟨b, off, rfl, hc⟩
   ·subst hn; simp at hlt
   have hcell := hc k hlt
   clear hc
   obtain ⟨z, hz⟩ : ∃ z, z = zs.getD k 0 := ⟨_, rfl⟩
   rw [← hz] at hcell
   have HZ : Hid _ := hz
   clear hz
   by_cases h5 : 0 ≤ z ∧ z ≤ 65535
   ·obtain ⟨h5, h6⟩ := h5
    go_wp2_with (go_at_call 71; refine (l1Word_yes _ _ h5 h6).mono ?_; rintro e w' ⟨rfl, rfl⟩)
    go_round
    case rel =>
     refine ⟨k + 1, by omega, by go_num, fun j hj => ?_⟩
     by_cases hjk : j = k
     ·subst hjk; rw [← HZ.out]; exact ⟨h5, h6⟩
     ·exact HO.out j (by omega)
    case measure => simp [intOf]; omega
   ·have h6 : z < 0 ∨ 65535 < z := by omega
    have H6 : Hid _ := h6
    clear h6 h5
    go_wp2_with (go_at_call 71; refine (l1Word_no _ _ H6.out).mono ?_; rintro e w' ⟨rfl, rfl⟩)
    go_ret
    have hf := allW_bad k hlt (by rw [← HZ.out]; exact H6.out)
    exact ⟨by rw [hf]; rfl, rfl⟩
  ·have hk2 : k = zs.length := by omega
   subst hk2
   go_wp2
   go_ret
   have hf := allW_ok HO.out
   exact ⟨by rw [hf]; rfl, rfl⟩
set_option maxHeartbeats 6400000 in
set_option maxRecDepth 100000 in
theorem l6Fault_any (lo p q : Nat) (vv vn vb : Value) (T : LTree) (a : Option Addr) (zs : List Int) (cap : Nat) (w : World) (h : TreeP lo w p vv vn vb T) (hS : Sized 1048576 T) (hq : w.cell? ⟨q, 0, none⟩ = some (.slice a zs.length cap)) (hn : Nums w a zs) (hlen : zs.length ≤ 1048576) :
  Calls Tryz.prog 26 #[.pointer (some ⟨p, 0, none⟩), .pointer (some ⟨q, 0, none⟩)] w fun e w' => e = .returned (.int .i64 (staF T zs)) ∧ Below w.heap.size w w' := by
 have HX : Hid (Calls Tryz.prog 42 #[.pointer (some ⟨p, 0, none⟩)] w fun e w' => e = .returned (.agg #[.int .i64 (chkT T).1.1, .int .i64 (chkT T).1.2, .int .i64 (chkT T).2]) ∧ Below w.heap.size w w') := l5Tree_any lo p vv vn vb T w h hS
 have HAL : Hid ((chkT T).1.1 = 0 → ∀ (w' : World), Below w.heap.size w w' → Calls Tryz.prog 44 #[.pointer (some ⟨p, 0, none⟩)] w' fun e w2 => ∃ v, e = .returned v ∧ w2.ownsRow w'.heap.size 86 4 v (allL 3 T).length (varCells (allL 3 T)) ∧ Below w'.heap.size w' w2) := fun h0 w' hb => l5All_any lo p vv vn vb T w' (h.below hb) (good_of (chk_good h0).1)
 have HCE : Hid ((chkT T).1.1 = 0 → ∀ (ad : Option Addr) (c : Nat) (W : World), RowV W ad (allL 3 T) → Calls Tryz.prog 43 #[.slice ad (allL 3 T).length c] W fun e w' => e = .returned (.int .i64 (cellsL (allL 0 T))) ∧ Below W.heap.size W w') := fun h0 ad c W hr => by
  have g := good_of (chk_good h0).1
  have := l5Cells_any (allL 3 T) ad (allL 3 T).length c W (Nat.le_refl _) hr (g.sizes 3) (g.all_len 3)
  rwa [List.take_length, cells_kind] at this
 have HL6 : Hid (∀ W, Below w.heap.size w W → Calls Tryz.prog 45 #[.slice a zs.length cap] W fun e w' => e = .returned (.bool (allW zs)) ∧ w' = W) := fun W hb => l6AllW_any a zs cap W hlen (hn.below hb)
 have HQ : Hid (∀ W, Below w.heap.size w W → W.cell? ⟨q, 0, none⟩ = some (.slice a zs.length cap)) := fun W hb => (hb.cell (p := ⟨q, 0, none⟩) (World.block_lt_of_cell? _ _ hq)).trans hq
 have HST : Hid (staF T zs = if (chkT T).1.1 ≠ 0 then (chkT T).1.1 else if (zs.length : Int) ≠ cellsL (allL 0 T) then 1 else if allW zs = true then 0 else 3) := rfl
 clear h hS hq hn
 generalize staF T zs = R at *
 generalize (chkT T).1.1 = c1 at *
 generalize (chkT T).1.2 = c2 at *
 generalize (chkT T).2 = c3 at *
 generalize cellsL (allL 0 T) = z at *
 generalize allW zs = aw at *
 go_enter Tryz.func26, Tryz.ntmps26
 go_wp2_with fail
 refine HX.out.mono ?_
 rintro e w2 ⟨rfl, hb⟩
 have HB := hid hb
 clear hb HX
 by_cases hc : c1 = 0
 ·subst hc
  have HST2 : Hid (R = if (zs.length : Int) ≠ z then 1 else if aw = true then 0 else 3) := by unfold Hid; rw [HST.out, if_neg (by simp)]
  have HAL2 := HAL.out rfl
  have HCE2 := HCE.out rfl
  clear HST HAL HCE
  have HAL : Hid _ := HAL2
  have HCE : Hid _ := HCE2
  clear HAL2 HCE2
  go_upto_region 4 with fail
  have HB3 : Hid (Below w.heap.size w (w2.alloc (.cells #[.int .i64 0, .int .i64 c2, .int .i64 c3] 77))) := HB.out.alloc HB.out.size _
  generalize w2.alloc (.cells #[.int .i64 0, .int .i64 c2, .int .i64 c3] 77) = W3 at *
  have q0 : W3.cell? ⟨q, 0, none⟩ = some (.slice a zs.length cap) := HQ.out _ HB3.out
  clear HB
  by_cases hz : (zs.length : Int) = z
  ·subst hz
   have HR : Hid (R = if aw = true then 0 else 3) := by unfold Hid; rw [HST2.out, if_neg (by simp)]
   clear HST2
   go_region_held3 (fun W => W.cell? ⟨q, 0, none⟩ = some (.slice a zs.length cap)) (go_keep) (first | (go_at_call 44; refine (HAL.out _ HB3.out.drew).mono ?_; rintro e w7 ⟨v, rfl, hown, hb⟩; obtain ⟨ad, cp, rfl⟩ := rowE_shape hown; have HRV : Hid (RowV w7 ad (allL 3 T)) := RowV.of_own hown rfl; have HD : Hid (Below w.heap.size w w7) := HB3.out.drew.trans (hb.mono HB3.out.drew.size); have q0 := HQ.out _ HD.out; clear hb hown) | (go_at_call 43; refine (HCE.out _ _ _ HRV.out).mono ?_; rintro e w8 ⟨rfl, hb⟩; have HE : Hid (Below w.heap.size w w8) := HD.out.trans (hb.mono HD.out.size); have q0 := HQ.out _ HE.out; clear hb))
   go_wp2_with fail
   refine (HL6.out _ HE.out).mono ?_
   rintro e w9 ⟨rfl, rfl⟩
   cases aw with
   | true =>
    go_wp2_with fail
    go_ret
    exact ⟨by rw [HR.out]; rfl, HE.out⟩
   | false =>
    go_wp2_with fail
    go_ret
    exact ⟨by rw [HR.out]; rfl, HE.out⟩
  ·have hz1 : ((zs.length : Int) == z) = false := by simpa using hz
   have hz2 : decide ((zs.length : Int) = z) = false := decide_eq_false hz
   have HR : Hid (R = 1) := by unfold Hid; rw [HST2.out, if_pos hz]
   clear HST2
   go_region_held3 (fun W => W.cell? ⟨q, 0, none⟩ = some (.slice a zs.length cap)) (go_keep) (first | (go_at_call 44; refine (HAL.out _ HB3.out.drew).mono ?_; rintro e w7 ⟨v, rfl, hown, hb⟩; obtain ⟨ad, cp, rfl⟩ := rowE_shape hown; have HRV : Hid (RowV w7 ad (allL 3 T)) := RowV.of_own hown rfl; have HD : Hid (Below w.heap.size w w7) := HB3.out.drew.trans (hb.mono HB3.out.drew.size); have q0 := HQ.out _ HD.out; clear hb hown) | (go_at_call 43; refine (HCE.out _ _ _ HRV.out).mono ?_; rintro e w8 ⟨rfl, hb⟩; have HE : Hid (Below w.heap.size w w8) := HD.out.trans (hb.mono HD.out.size); have q0 := HQ.out _ HE.out; clear hb))
   go_wp2_with fail
   go_ret
   exact ⟨by rw [HR.out]; rfl, HE.out⟩
 ·have hz1 : (c1 == 0) = false := by simpa using hc
  have hz2 : decide (c1 = 0) = false := decide_eq_false hc
  have HR : Hid (R = c1) := by unfold Hid; rw [HST.out, if_pos hc]
  clear HST HAL HCE HL6 HQ
  go_wp2_with fail
  go_ret
  exact ⟨by rw [HR.out]; rfl, HB.out.alloc HB.out.size _⟩
end Go.Proofs.YteeklmgkhacbcaaGreatDoor
namespace Go.Proofs.YteeklmgkhacbcaaGreatDoor
open Go.RowKit
set_option linter.unusedVariables false
def mksL (N : List LNode) : Nat → List Int
 | 0 => []
 | k + 1 => mksL N k ++ (if inB (N.getD k default).kind 7 11 = true then [(k : Int)] else [])
def mrkL (T : LTree) : List Int := if (chkT T).1.1 = 0 then mksL T.nodes T.nodes.length else []
theorem mksL_len (N : List LNode) : ∀ k, (mksL N k).length ≤ k
 | 0 => Nat.le_refl _
 | k + 1 => by
  have := mksL_len N k
  show (mksL N k ++ _).length ≤ k + 1
  rw [List.length_append]
  split <;> simp <;> omega
theorem mrkL_len (T : LTree) : (mrkL T).length ≤ 200 := by
 unfold mrkL
 split
 ·rename_i h; have := mksL_len T.nodes T.nodes.length; have := (good_of (chk_good h).1).nodes; omega
 ·simp
theorem mksL_at {N : List LNode} {k : Nat} {y : LNode} (h : N[k]? = some y) : mksL N (k + 1) = mksL N k ++ (if inB y.kind 7 11 = true then [(k : Int)] else []) := by
 show mksL N k ++ (if inB (N.getD k default).kind 7 11 = true then [(k : Int)] else []) = _
 rw [List.getD_eq_getElem?_getD, h]; rfl
theorem mksL_yes {N : List LNode} {k : Nat} {y : LNode} (h : N[k]? = some y) (hb : inB y.kind 7 11 = true) : mksL N (k + 1) = mksL N k ++ [(k : Int)] := by rw [mksL_at h, if_pos hb]
theorem mksL_no {N : List LNode} {k : Nat} {y : LNode} (h : N[k]? = some y) (hb : inB y.kind 7 11 = false) : mksL N (k + 1) = mksL N k := by rw [mksL_at h, if_neg (by rw [hb]; simp), List.append_nil]
theorem two_boxes (w : World) (vv vn vb a b : Value) (T1 T2 : TypeId) : let W := ((w.alloc (.cells #[vv, vn, vb] T1)).alloc (.cells #[a, b] T2))
  W.heap[w.heap.size]? = some (.cells #[vv, vn, vb] T1 (0, 0)) ∧ W.heap[w.heap.size + 1]? = some (.cells #[a, b] T2 (0, 0)) ∧ Below w.heap.size w W := by
 intro W
 have hA := heap_alloc_new w (.cells #[vv, vn, vb] T1)
 have hB : Below w.heap.size w (w.alloc (.cells #[vv, vn, vb] T1)) := (Below.refl _ _).alloc (Nat.le_refl _) _
 have hZ : (w.alloc (.cells #[vv, vn, vb] T1)).heap.size = w.heap.size + 1 := by simp
 have hA2 := heap_alloc_new (w.alloc (.cells #[vv, vn, vb] T1)) (.cells #[a, b] T2)
 have hB2 : Below (w.alloc (.cells #[vv, vn, vb] T1)).heap.size (w.alloc (.cells #[vv, vn, vb] T1)) W := (Below.refl _ _).alloc (Nat.le_refl _) _
 rw [hZ] at hA2
 exact ⟨blk hA hB2, hA2, hB.trans (hB2.mono (by omega))⟩
attribute [local go_sem] bs_size bs_get bs_extract bs_append bs_eq bs_toList
theorem ownOf_kind (K op : Int) (nm : List UInt8) : ∀ v ∈ ownOf K op nm, v.kind = K := by
 intro v hv
 unfold ownOf at hv
 split at hv
 ·simp at hv; rcases hv with rfl | rfl | rfl <;> rfl
 ·split at hv
  ·simp at hv; rcases hv with rfl | rfl <;> rfl
  ·split at hv
   ·simp at hv; rcases hv with rfl | rfl <;> rfl
   ·simp at hv; subst hv; rfl
theorem ownsL_kind (K : Int) (N : List LNode) : ∀ v ∈ ownsL K N, v.kind = K := by
 intro v hv
 obtain ⟨n, _, h⟩ := List.mem_flatMap.1 hv
 unfold ownN at h
 split at h
 ·exact ownOf_kind _ _ _ v h
 ·cases h
theorem outs_vars (T : LTree) (cs : List Int) : outsV (allL 0 T) cs (allL 0 T).length = outsV T.vars cs T.vars.length := by
 have h := outsV_more (V := T.vars) (W := ownsL 0 T.nodes) (cs := cs) (fun v hv => by rw [ownsL_kind 0 T.nodes v hv]; decide) _ (Nat.le_refl _)
 rw [← h]
 show outsV (T.vars ++ ownsL 0 T.nodes) cs (T.vars ++ ownsL 0 T.nodes).length = _
 rw [List.length_append]
theorem sta_zero {T : LTree} {cs : List Int} (h : staF T cs = 0) : Good T ∧ (cs.length : Int) = cellsL (allL 0 T) ∧ cellsL T.vars ≤ cs.length ∧ cs.length ≤ 60 := by
 unfold staF at h
 split at h
 ·exact absurd h ‹_›
 ·next h1 =>
  have h1 : (chkT T).1.1 = 0 := by simpa using h1
  obtain ⟨hf, h60⟩ := chk_good h1
  have hG := good_of hf
  split at h
  ·exact absurd h (by decide)
  ·next h2 =>
   have h2 : (cs.length : Int) = cellsL (allL 0 T) := by simpa using h2
   refine ⟨hG, h2, ?_, by omega⟩
   have e : cellsL (allL 0 T) = cellsL T.vars + cellsL (ownsL 0 T.nodes) := cellsL_append _ _
   have := (cellsL_le (ownsL 0 T.nodes) (fun v hv => by have := ownsL_size 0 T.nodes v hv; omega)).1
   omega
theorem three_boxes (w : World) (a b c d e f : Value) (T1 T2 T3 : TypeId) : let W := (((w.alloc (.cells #[a, b, c] T1)).alloc (.cells #[d] T2)).alloc (.cells #[e, f] T3))
  W.heap[w.heap.size]? = some (.cells #[a, b, c] T1 (0, 0)) ∧ W.heap[w.heap.size + 1]? = some (.cells #[d] T2 (0, 0)) ∧ W.heap[w.heap.size + 2]? = some (.cells #[e, f] T3 (0, 0)) ∧ Below w.heap.size w W := by
 intro W
 have h1 := heap_alloc_new w (.cells #[a, b, c] T1)
 have b1 : Below w.heap.size w (w.alloc (.cells #[a, b, c] T1)) := (Below.refl _ _).alloc (Nat.le_refl _) _
 have s1 : (w.alloc (.cells #[a, b, c] T1)).heap.size = w.heap.size + 1 := by simp
 generalize hw1 : w.alloc (.cells #[a, b, c] T1) = w1 at *
 have h2 := heap_alloc_new w1 (.cells #[d] T2)
 have b2 : Below w1.heap.size w1 (w1.alloc (.cells #[d] T2)) := (Below.refl _ _).alloc (Nat.le_refl _) _
 have s2 : (w1.alloc (.cells #[d] T2)).heap.size = w.heap.size + 2 := by simp; omega
 generalize hw2 : w1.alloc (.cells #[d] T2) = w2 at *
 have h3 := heap_alloc_new w2 (.cells #[e, f] T3)
 have b3 : Below w2.heap.size w2 (w2.alloc (.cells #[e, f] T3)) := (Below.refl _ _).alloc (Nat.le_refl _) _
 have hW : W = w2.alloc (.cells #[e, f] T3) := by show ((w.alloc _).alloc _).alloc _ = _; rw [hw1, hw2]
 rw [hW]
 rw [s1] at h2
 rw [s2] at h3
 exact ⟨blk (blk h1 b2) b3, blk h2 b3, h3, (b1.trans (b2.mono (by omega))).trans (b3.mono (by omega))⟩
set_option maxHeartbeats 6400000 in
set_option maxRecDepth 100000 in
theorem specOutsOf (lo : Nat) (vv vn vb : Value) (T : LTree) (a : Option Addr) (cs : List Int) (cap : Nat) (w : World) (h : TreeV lo w vv vn vb T) (hS : Sized 1048576 T) (hn : Nums w a cs) (hlen : cs.length ≤ 1048576) :
  Calls Tryz.prog 21 #[treeV vv vn vb, .agg #[.slice a cs.length cap]] w fun e w' => ∃ v, e = .returned (resL (staF T cs) v) ∧ Own w' w.heap.size v (outsL T cs) ∧ Below w.heap.size w w' := by
 have HX : Hid (∀ W, Below w.heap.size w W → W.heap[w.heap.size]? = some (.cells #[vv, vn, vb] 37 (0, 0)) → W.heap[w.heap.size + 1]? = some (.cells #[.slice a cs.length cap] 39 (0, 0)) → Calls Tryz.prog 26 #[.pointer (some ⟨w.heap.size, 0, none⟩), .pointer (some ⟨w.heap.size + 1, 0, none⟩)] W fun e w' => e = .returned (.int .i64 (staF T cs)) ∧ Below W.heap.size W w') := fun W hb h1 h2 =>
  l6Fault_any lo w.heap.size (w.heap.size + 1) vv vn vb T a cs cap W ⟨cell_of_row _ _ 0 _ _ _ h1, cell_of_row _ _ 1 _ _ _ h1, cell_of_row _ _ 2 _ _ _ h1, h.below hb⟩ hS (cell_of_row _ _ 0 _ _ _ h2) (hn.below hb) hlen
 have HO : Hid (staF T cs = 0 → ∀ W, Below w.heap.size w W → W.heap[w.heap.size]? = some (.cells #[vv, vn, vb] 37 (0, 0)) → Calls Tryz.prog 36 #[.pointer (some ⟨w.heap.size, 0, none⟩), .slice a cs.length cap] W fun e w' => ∃ v, e = .returned v ∧ Own w' W.heap.size v (outsL T cs) ∧ Below W.heap.size W w') := fun h0 W hb h1 => by
  obtain ⟨hG, _, hc, h60⟩ := sta_zero h0
  have := l9Outs_any lo w.heap.size vv vn vb T a cs cap W ⟨cell_of_row _ _ 0 _ _ _ h1, cell_of_row _ _ 1 _ _ _ h1, cell_of_row _ _ 2 _ _ _ h1, h.below hb⟩ (fun v hv => hG.sizes 0 v (List.mem_append.2 (.inl hv))) hG.vars (hn.below hb) hc hlen
  rwa [show outsL T cs = outsV T.vars cs T.vars.length from by unfold outsL; rw [if_pos h0, outs_vars]]
 have HZ : Hid (staF T cs ≠ 0 → outsL T cs = []) := fun h => by unfold outsL; rw [if_neg h]
 obtain ⟨av, cv, rfl, _⟩ := id h.vars
 obtain ⟨an, cn, rfl, _⟩ := id h.nodes
 obtain ⟨ab, cb, rfl, _⟩ := id h.body
 clear h hS hn
 generalize outsL T cs = L at *
 generalize staF T cs = F at *
 have hS3 := three_boxes w (.slice av T.vars.length cv) (.slice an T.nodes.length cn) (.slice ab T.body.length cb) (.slice a cs.length cap) (.int .i64 0) (.slice none 0 0) 37 39 32
 go_enter Tryz.func21, Tryz.ntmps21
 go_upto_region 1 with fail
 generalize (((w.alloc (.cells #[.slice av T.vars.length cv, .slice an T.nodes.length cn, .slice ab T.body.length cb] 37)).alloc (.cells #[.slice a cs.length cap] 39)).alloc (.cells #[.int .i64 0, .slice none 0 0] 32)) = W at *
 obtain ⟨hA, hA2, hA3, hB⟩ := hS3
 go_wp2_with fail
 refine (HX.out _ hB hA hA2).mono ?_
 rintro e w2 ⟨rfl, hb⟩
 have HA := hid (blk hA hb)
 have HA2 := hid (blk hA2 hb)
 have HA3 := hid (blk hA3 hb)
 have HB : Hid (Below w.heap.size w w2) := hB.trans (hb.mono hB.size)
 have q0 := cell_of_row _ _ 0 _ _ _ HA2.out
 obtain ⟨r0, r1⟩ := And.intro (cell_of_row _ _ 0 _ _ _ HA3.out) (cell_of_row _ _ 1 _ _ _ HA3.out)
 obtain ⟨f0, f1⟩ := And.intro (frozen_of_row _ _ 0 _ _ HA3.out) (frozen_of_row _ _ 1 _ _ HA3.out)
 simp at q0 r0 r1 f0 f1
 clear hA hA2 hA3 hB hb HX
 by_cases hc : F = 0
 ·subst hc
  have HO1 := HO.out rfl
  have HOC := hid (HO1 _ HB.out HA.out)
  clear HO HO1 HZ
  go_wp2_with fail
  refine HOC.out.mono ?_
  rintro e w3 ⟨v, rfl, hown, hb⟩
  obtain ⟨ad, cp, rfl⟩ := own_shape hown
  have hA3 := blk HA3.out hb
  obtain ⟨r0, r1⟩ := And.intro (cell_of_row _ _ 0 _ _ _ hA3) (cell_of_row _ _ 1 _ _ _ hA3)
  obtain ⟨f0, f1⟩ := And.intro (frozen_of_row _ _ 0 _ _ hA3) (frozen_of_row _ _ 1 _ _ hA3)
  simp at r0 r1 f0 f1
  have HB3 : Hid (Below w.heap.size w w3) := HB.out.trans (hb.mono HB.out.size)
  have HW := hid hown
  have hlt : w.heap.size + 2 < w2.heap.size := blk_lt HA3.out
  have HLT := hid hlt
  clear hown hb hA3 HB HA HA2 HA3 HOC hlt
  go_wp2_with fail
  refine bodyPost_ret (v := resL 0 (.slice ad L.length cp)) (by simp [results, Tryz.results21, resL, go_sem, r0, r1]) rfl ⟨_, rfl, ?_, (HB3.out.setCell (by show w.heap.size ≤ w.heap.size + 1 + 1; omega) _).setCell (by show w.heap.size ≤ w.heap.size + 1 + 1; omega) _⟩
  have hg := HLT.out
  exact own_mono (ownsRow_setCell_below (ownsRow_setCell_below HW.out (a := ⟨w.heap.size + 2, 0, none⟩) hg _) (a := ⟨w.heap.size + 2, 1, none⟩) hg _) (by omega)
 ·have hz1' : (F == 0) = false := by simpa using hc
  have hz2' : decide (F = 0) = false := decide_eq_false hc
  have HL0 := hid (HZ.out hc)
  clear HO HZ
  go_wp2_with fail
  refine bodyPost_ret (v := resL F (.slice none 0 0)) (by simp [results, Tryz.results21, resL, go_sem, r0, r1]) rfl ⟨_, rfl, ?_, (HB.out.setCell (by show w.heap.size ≤ w.heap.size + 1 + 1; omega) _).setCell (by show w.heap.size ≤ w.heap.size + 1 + 1; omega) _⟩
  rw [HL0.out]
  exact World.ownsRow_nil _ _ _ _
set_option maxHeartbeats 6400000 in
set_option maxRecDepth 100000 in
theorem outCells_any (V : List LVar) (nv : Nat) (ad : Option Addr) (c : Nat) (w : World) (hV : RowE w ad V nv) (hs : SizesLe V) (hl : V.length ≤ 624) :
  Calls Tryz.prog 61 #[.slice ad V.length c] w fun e w' => ∃ v, e = .returned v ∧ Own w' w.heap.size v (posV V V.length) ∧ Below w.heap.size w w' := by
 have HV : Hid (∀ W, Below w.heap.size w W → RowE W ad V nv) := fun W hb => hV.below hb
 have HNX : Hid (∀ (k : Nat) (x : LVar), V[k]? = some x → 0 ≤ cellsL (V.take k) ∧ cellsL (V.take k) + szV x ≤ 4992 ∧ 0 ≤ szV x ∧ szV x ≤ 8) := fun k x hk => by
  obtain ⟨h1, h2⟩ := cells_ahead hs hk
  obtain ⟨h4, h5, h6, h3, h7⟩ := cells_next hk hs hl
  have := (cellsL_le V hs).2
  exact ⟨h1, by omega, h6, h3⟩
 have HPL : Hid (∀ k, k ≤ V.length → (posV V k).length ≤ 8 * k) := fun k hk => (posV_in hs k hk).1
 have HSZ : Hid (∀ (x : LVar) (w : World), Calls Tryz.prog 62 #[varV x] w fun e w' => e = .returned (.int .i64 (szV x)) ∧ Below w.heap.size w w') := cellsFor_any
 have HLE := hid hl
 have hl2 : (V.length : Int) ≤ 624 := by omega
 clear hV hs hl
 go_enter Tryz.func61, Tryz.ntmps61
 go_wp2_with fail
 go_loopw [3, 9] (fun v i wr => ∃ (k : Nat) (u : Value), k ≤ V.length ∧ i = .int .i64 k ∧ u = v ∧ Hid (Own wr w.heap.size u (posV V k)) ∧ Hid (Below w.heap.size w wr)) (fun _ i _ => V.length - (intOf i).toNat)
 case atStart => exact ⟨0, _, Nat.zero_le _, rfl, rfl, World.ownsRow_nil _ _ _ _, Below.refl _ _⟩
 case round =>
  obtain ⟨k, v, hk, rfl, rfl, HO, HB⟩ := hrel
  by_cases hlt : k < V.length
  ·obtain ⟨x, hx⟩ : ∃ x, V[k]? = some x := ⟨V[k], List.getElem?_eq_getElem hlt⟩
   obtain ⟨g, rfl, hcx⟩ := (HV.out wr HB.out) (by intro e; rw [e] at hx; simp at hx)
   obtain ⟨⟨c0, c1, c2, c3⟩, c4, c5⟩ := hcx k x hx
   obtain ⟨n0, n1, n2, n3⟩ := HNX.out k x hx
   have HPN := hid (posV_at hx)
   have hk0 : (0 : Int) ≤ (k : Int) := by omega
   have hk1 : (k : Int) < (V.length : Int) := by omega
   have HLK := hid (HPL.out k hk)
   obtain ⟨F, hF⟩ : ∃ F, cellsL (V.take k) = F := ⟨_, rfl⟩
   rw [hF] at c5 n0 n1 HPN
   obtain ⟨P, hP⟩ : ∃ P, posV V k = P := ⟨_, rfl⟩
   rw [hP] at HO HPN HLK
   have HLT := hid hlt
   clear hcx hF hP hx hlt
   obtain ⟨al, cl, hsh⟩ := own_shape HO.out
   subst hsh
   by_cases hkd : x.kind = 2
   ·rw [if_pos hkd] at HPN
    obtain ⟨Z, hZ⟩ := Int.eq_ofNat_of_zero_le n2
    rw [hZ] at HPN n1 n3
    simp only [Int.toNat_natCast] at HPN
    have HZZ := hid hZ
    have hbb : Below wr.heap.size wr (wr.alloc (.cells #[.string (bs x.name), .int .i64 x.kind, .int .i64 x.type, .int .i64 x.size, .bool (decide (nv ≤ k)), .int .i64 F] 93)) := (Below.refl _ _).alloc (Nat.le_refl _) _
    have hbx := heap_alloc_new wr (.cells #[.string (bs x.name), .int .i64 x.kind, .int .i64 x.type, .int .i64 x.size, .bool (decide (nv ≤ k)), .int .i64 F] 93)
    have hkb : (x.kind != 2) = false := by rw [hkd]; rfl
    clear hkd hZ n2
    go_upto_region 5 with fail
    generalize wr.alloc (.cells #[.string (bs x.name), .int .i64 x.kind, .int .i64 x.type, .int .i64 x.size, .bool (decide (nv ≤ k)), .int .i64 F] 93) = w1 at *
    have HAG : Hid (∀ g, (Value.slice al P.length cl).ownBlock = some g → g ≠ wr.heap.size) := fun g e => by have := (HO.out.lt _ e).2; omega
    obtain ⟨e0, e1, e2, e3, e4, e5⟩ := cl6 hbx
    have HBX := hid hbx
    have HO1 := hid (own_kept HO.out hbb)
    have HB1 : Hid (Below w.heap.size w w1) := HB.out.trans (hbb.mono HB.out.size)
    have HGZ : Hid (w.heap.size ≤ wr.heap.size ∧ wr.heap.size < w1.heap.size) := ⟨HB.out.size, blk_lt hbx⟩
    clear hbb hbx c0 c1 c2 c3 c4 c5
    generalize wr.heap.size = q at *
    clear HB HO
    go_wp2_with fail
    refine (HSZ.out x _).mono ?_
    rintro e w6 ⟨rfl, hb⟩
    rw [HZZ.out]
    have HO6 := hid (own_kept HO1.out hb)
    have HB6 : Hid (Below w.heap.size w w6) := HB1.out.trans (hb.mono HB1.out.size)
    have HX6 := hid (blk HBX.out hb)
    clear hb HO1 HB1 HBX HGZ e0 e1 e2 e3 e4 e5 hkb
    go_wp2_with fail
    go_loopw [3, 20] (fun v i wr => ∃ (j : Nat) (u : Value), j ≤ Z ∧ i = .int .i64 j ∧ u = v ∧ Hid (Own wr w.heap.size u (P ++ (List.range j).map (fun j => F + ((j : Nat) : Int)))) ∧ Hid (Below w.heap.size w wr) ∧ Hid (∀ g, u.ownBlock = some g → g ≠ q) ∧ Hid (wr.heap[q]? = some (.cells #[.string (bs x.name), .int .i64 x.kind, .int .i64 x.type, .int .i64 x.size, .bool (decide (nv ≤ k)), .int .i64 F] 93 (0, 0)))) (fun _ i _ => Z - (intOf i).toNat)
    case atStart => exact ⟨0, _, Nat.zero_le _, rfl, rfl, by unfold Hid; simp only [List.range_zero, List.map_nil, List.append_nil]; exact HO6.out, HB6, HAG, HX6⟩
    case round =>
     clear HO6 HB6 HAG HX6
     obtain ⟨j, v, hj, rfl, rfl, HO, HB, HAG, HX⟩ := hrel
     obtain ⟨L, hL⟩ : ∃ L, P ++ (List.range j).map (fun j => F + ((j : Nat) : Int)) = L := ⟨_, rfl⟩
     rw [hL] at HO
     have HLQ := hid hL
     clear hL
     obtain ⟨ad, cp, hsh⟩ := own_shape HO.out
     subst hsh
     by_cases hjS : j < Z
     ·have hjS2 : (j : Int) < (Z : Int) := by omega
      have hj0 : (0 : Int) ≤ (j : Int) := by omega
      have HJ := hid hjS
      have e5 := (cl6 HX.out).2.2.2.2.2
      have HLE : Hid (L.length + 1 ≤ 2097152) := by
       have := HLK.out
       have := HLT.out
       unfold Hid
       rw [← HLQ.out, List.length_append, List.length_map, List.length_range]
       omega
      have HRS : Hid (L ++ [F + (j : Int)] = P ++ (List.range (j + 1)).map (fun j => F + ((j : Nat) : Int))) := by
       unfold Hid
       rw [← HLQ.out, List.range_succ, List.map_append, List.append_assoc]
       rfl
      have hw1 : IntKind.i64.wrap (F + (j : Int)) = F + (j : Int) := IntWalk.i64_in _ ⟨by omega, by omega⟩
      have hbz : w.heap.size ≤ wr.heap.size := HB.out.size
      have hql : q < wr.heap.size := blk_lt HX.out
      clear hjS
      go_wp2_with (at_builtin; go_loud (refine wpList_appN rfl _ _ rfl w.heap.size _ L [F + (j : Int)] (by rfl) (own_kept HO.out ((Below.refl wr.heap.size wr).alloc (Nat.le_refl _) (.cells #[.int .i64 (F + (j : Int))] 2))) (some ⟨wr.heap.size, 0, none⟩) 1 (by rfl) (one_numN wr _) (fun e => by cases e) (fun e => by cases e) HLE.out (Nat.le_trans hbz (by rw [World.size_alloc]; omega)) ?_))
      intro v4 w4 ho hg hv
      have HB4 : Hid (Below w.heap.size w w4) := (HB.out.alloc hbz _).grown hg.out (Nat.le_trans hbz (by rw [World.size_alloc]; omega)) (fun g hg => HO.out.lt g hg |>.1)
      have HO4 := hid (show Own w4 w.heap.size v4 _ from HRS.out ▸ ho.out)
      have HX4 : Hid (w4.heap[q]? = some (.cells #[.string (bs x.name), .int .i64 x.kind, .int .i64 x.type, .int .i64 x.size, .bool (decide (nv ≤ k)), .int .i64 F] 93 (0, 0))) :=
       (hg.out.block q (by rw [World.size_alloc]; omega) (fun e => HAG.out q e.symm rfl)).trans ((((Below.refl wr.heap.size wr).alloc (Nat.le_refl _) _).block q hql).trans HX.out)
      have HAG4 : Hid (∀ g, v4.ownBlock = some g → g ≠ q) := fun g hg4 => by
       rcases hv.out with e | e
       ·exact HAG.out g (e ▸ hg4)
       ·have h9 := Option.some.inj (e.symm.trans hg4)
        omega
      clear ho hg hv HB HO HAG HX HRS HLE e5 hbz
      go_wp2_with fail
      go_roundw
      case rel => exact ⟨j + 1, _, HJ.out, by go_num, rfl, HO4, HB4, HAG4, HX4⟩
      case measure => have h9 := HJ.out; clear hl2 hk0 hk1 hql; simp [intOf]; omega
     ·have hje : j = Z := by omega
      subst hje
      go_wp2_with fail
      go_roundw
      case rel => exact ⟨k + 1, _, HLT.out, by go_num, rfl, by rw [HPN.out, HLQ.out]; exact HO, HB⟩
      case measure => have h9 := HLT.out; have h10 := HLE.out; clear hl2 hk0 hk1; simp [intOf]; omega
   ·rw [if_neg hkd, List.append_nil] at HPN
    have hkb : (x.kind != 2) = true := by simpa using hkd
    have hbb : Below wr.heap.size wr (wr.alloc (.cells #[.string (bs x.name), .int .i64 x.kind, .int .i64 x.type, .int .i64 x.size, .bool (decide (nv ≤ k)), .int .i64 F] 93)) := (Below.refl _ _).alloc (Nat.le_refl _) _
    have HB5 : Hid (Below w.heap.size w (wr.alloc (.cells #[.string (bs x.name), .int .i64 x.kind, .int .i64 x.type, .int .i64 x.size, .bool (decide (nv ≤ k)), .int .i64 F] 93))) := HB.out.trans (hbb.mono HB.out.size)
    have HO5 := hid (own_kept HO.out hbb)
    clear hkd hbb n0 n1 n2 n3 HB HO
    go_wp2_with fail
    go_roundw
    case rel => exact ⟨k + 1, _, HLT.out, by go_num, rfl, by rw [HPN.out]; exact HO5, HB5⟩
    case measure => have h9 := HLT.out; have h10 := HLE.out; clear hl2 hk0 hk1; simp [intOf]; omega
  ·have hke : k = V.length := by omega
   subst hke
   go_wp2_with fail
   go_ret
   exact ⟨_, rfl, HO.out, HB.out⟩
set_option maxHeartbeats 6400000 in
set_option maxRecDepth 100000 in
theorem outsIn_any (V : List LVar) (nv : Nat) (ad : Option Addr) (c : Nat) (ac : Option Addr) (cs : List Int) (cc : Nat) (w : World) (hV : RowE w ad V nv) (hs : SizesLe V) (hl : V.length ≤ 624) (hn : Nums w ac cs) (hc : cellsL V ≤ cs.length) (hcl : cs.length ≤ 60) :
  Calls Tryz.prog 38 #[.slice ac cs.length cc, .slice ad V.length c] w fun e w' => ∃ v, e = .returned v ∧ Own w' w.heap.size v (outsV V cs V.length) ∧ Below w.heap.size w w' := by
 have HX : Hid (Calls Tryz.prog 61 #[.slice ad V.length c] w fun e w' => ∃ v, e = .returned v ∧ Own w' w.heap.size v (posV V V.length) ∧ Below w.heap.size w w') := outCells_any V nv ad c w hV hs hl
 obtain ⟨hpl, hpi⟩ := posV_in hs V.length (Nat.le_refl _)
 have HPO := hid (pos_outs hs hc V.length (Nat.le_refl _))
 have HPI : Hid (∀ (k : Nat) (x : Int), (posV V V.length)[k]? = some x → 0 ≤ x ∧ x < cs.length) := fun k x hk => by
  have := hpi x (List.mem_of_getElem? hk)
  omega
 have hpl2 : (posV V V.length).length ≤ 4992 := by omega
 generalize outsV V cs V.length = R at *
 generalize posV V V.length = P at *
 have HWN : Hid (∀ W, Below w.heap.size w W → Nums W ac cs) := fun W hb => hn.below hb
 clear hV hs hl hn hc hpl hpi
 go_enter Tryz.func38, Tryz.ntmps38
 go_wp2_with fail
 refine HX.out.mono ?_
 rintro e w2 ⟨vp, rfl, hop, hb⟩
 have HB2 := hid hb
 obtain ⟨ap, cp, hsh⟩ := own_shape hop
 subst hsh
 have HNP := hid (nums_of_own hop).2
 have HPW : Hid (∀ b o, ap = some ⟨b, o, none⟩ → w.heap.size ≤ b ∧ b < w2.heap.size) := fun b o e => by subst e; exact ⟨(hop.lt b rfl).1, (hop.lt b rfl).2⟩
 clear hb hop HX
 go_wp2_with fail
 go_loopw [5, 11] (fun v i wr => ∃ (k : Nat) (u : Value), k ≤ P.length ∧ i = .int .i64 k ∧ u = v ∧ Hid (Own wr w.heap.size u ((P.take k).map (fun p => cs.getD p.toNat 0))) ∧ Hid (Below w.heap.size w wr) ∧ Hid (∀ g, u.ownBlock = some g → w2.heap.size ≤ g) ∧ Hid (∀ g, g < w2.heap.size → wr.heap[g]? = w2.heap[g]?) ∧ Hid (w2.heap.size ≤ wr.heap.size)) (fun _ i _ => P.length - (intOf i).toNat)
 case atStart => exact ⟨0, _, Nat.zero_le _, rfl, rfl, World.ownsRow_nil _ _ _ _, HB2, fun g h => (by cases h), fun _ _ => rfl, Nat.le_refl _⟩
 case round =>
  clear HB2
  obtain ⟨k, v, hk, rfl, rfl, HO, HB, OB, KP, SZ⟩ := hrel
  by_cases hlt : k < P.length
  ·obtain ⟨x, hx⟩ : ∃ x, P[k]? = some x := ⟨P[k], List.getElem?_eq_getElem hlt⟩
   obtain ⟨x0, x1⟩ := HPI.out k x hx
   obtain ⟨X, hX⟩ := Int.eq_ofNat_of_zero_le x0
   subst hX
   have hXc : X < cs.length := by omega
   obtain ⟨bp, op, hap, hcp⟩ := nums_at HNP.out (by omega)
   subst hap
   obtain ⟨hb1, hb2⟩ := HPW.out bp op rfl
   have d0 := (cell_heap (KP.out bp hb2) (op + k)).trans (hcp k hlt)
   rw [List.getD_eq_getElem?_getD, hx] at d0
   simp only [Option.getD_some] at d0
   obtain ⟨bc, oc, hac, hcc⟩ := nums_at (HWN.out wr HB.out) (by omega)
   subst hac
   have d1 := hcc X hXc
   obtain ⟨y, hy⟩ : ∃ y, cs.getD X 0 = y := ⟨_, rfl⟩
   rw [hy] at d1
   have HRS : Hid ((P.take (k + 1)).map (fun p => cs.getD p.toNat 0) = (P.take k).map (fun p => cs.getD p.toNat 0) ++ [y]) := by
    unfold Hid
    rw [List.take_add_one, hx, List.map_append]
    show _ ++ [cs.getD (X : Int).toNat 0] = _
    rw [Int.toNat_natCast, hy]
   have hll : ((P.take k).map (fun p => cs.getD p.toNat 0)).length + 1 ≤ 2097152 := by rw [List.length_map, List.length_take]; omega
   have HLE := hid hll
   obtain ⟨L, hL⟩ : ∃ L, (P.take k).map (fun p => cs.getD p.toNat 0) = L := ⟨_, rfl⟩
   rw [hL] at HO HRS HLE
   obtain ⟨ad, cq, hsh⟩ := own_shape HO.out
   subst hsh
   have HLT := hid hlt
   have hk0 : (0 : Int) ≤ (k : Int) := by omega
   have hk1 : (k : Int) < (P.length : Int) := by omega
   have hX0 : (0 : Int) ≤ (X : Int) := by omega
   have hX1 : (X : Int) < (cs.length : Int) := by omega
   have hbz : w.heap.size ≤ wr.heap.size := HB.out.size
   clear hcp hcc hx hy hL hll hlt x0 x1
   go_wp2_with (at_builtin; go_loud (refine wpList_appN rfl _ _ rfl w.heap.size _ L [y] (by rfl) (own_kept HO.out ((Below.refl wr.heap.size wr).alloc (Nat.le_refl _) (.cells #[.int .i64 y] 2))) (some ⟨wr.heap.size, 0, none⟩) 1 (by rfl) (one_numN wr _) (fun e => by cases e) (fun e => by cases e) HLE.out (Nat.le_trans hbz (by rw [World.size_alloc]; omega)) ?_))
   intro v4 w4 ho hg hv
   have HB4 : Hid (Below w.heap.size w w4) := (HB.out.alloc hbz _).grown hg.out (Nat.le_trans hbz (by rw [World.size_alloc]; omega)) (fun g hg => HO.out.lt g hg |>.1)
   have HO4 := hid (show Own w4 w.heap.size v4 _ from HRS.out ▸ ho.out)
   have OB4 : Hid (∀ g, v4.ownBlock = some g → w2.heap.size ≤ g) := fun g hg4 => by
    rcases hv.out with e | e
    ·exact OB.out g (e ▸ hg4)
    ·have h9 := Option.some.inj (e.symm.trans hg4)
     have h8 := SZ.out
     omega
   have KP4 : Hid (∀ g, g < w2.heap.size → w4.heap[g]? = w2.heap[g]?) := fun g h2 => by
    have hs := SZ.out
    refine (hg.out.block g (by rw [World.size_alloc]; omega) (fun e => ?_)).trans ((((Below.refl wr.heap.size wr).alloc (Nat.le_refl _) _).block g (by omega)).trans (KP.out g h2))
    have := OB.out g e.symm
    omega
   have SZ4 : Hid (w2.heap.size ≤ w4.heap.size) := by
    have h1 := hg.out.size
    rw [World.size_alloc] at h1
    exact Nat.le_trans SZ.out (by omega)
   clear ho hg hv HB HO HRS HLE OB KP SZ
   go_wp2_with fail
   go_roundw
   case rel => exact ⟨k + 1, _, HLT.out, by go_num, rfl, HO4, HB4, OB4, KP4, SZ4⟩
   case measure => have h9 := HLT.out; clear hk0 hk1; simp [intOf]; omega
  ·have hke : k = P.length := by omega
   subst hke
   rw [List.take_length, HPO.out] at HO
   go_wp2_with fail
   go_ret
   exact ⟨_, rfl, HO.out, HB.out⟩
end Go.Proofs.YteeklmgkhacbcaaGreatDoor
