/-
  spec.l5Costs.
-/
import Derived.Test.YtepjaoapjpmjkaaGreatDoorSSum
import Derived.Test.YtepjaoapjpmjkaaGreatDoorIDeep
import Derived.Test.YtepjaoapjpmjkaaGreatDoorCopy
import Derived.BigRegion
import Derived.Laws.AppendOwn
namespace Go.Proofs.YtepjaoapjpmjkaaGreatDoor
open Go.RowKit
set_option linter.unusedVariables false
attribute [local go_sem] bs_size bs_get bs_extract bs_append bs_eq bs_toList
theorem costN_9 {cs : List Int} {n : LNode} (h : n.kind = 9) : costN cs n = min 100000 (1 + sumAtL cs n.kids + max (sumAtL cs n.thn) (sumAtL cs n.els)) := by unfold costN; rw [if_pos h]
theorem costN_10 {cs : List Int} {n : LNode} (h : n.kind = 10) : costN cs n = min 100000 (1 + sumAtL cs n.kids + 2 + max 0 (n.far - n.num + 1) * (3 + sumAtL cs n.thn)) := by unfold costN; rw [if_neg (by omega), if_pos h]
theorem costN_11 {cs : List Int} {n : LNode} (h : n.kind = 11) : costN cs n = min 100000 (1 + sumAtL cs n.kids + 12) := by unfold costN; rw [if_neg (by omega), if_neg (by omega), if_pos h]
theorem costN_0 {cs : List Int} {n : LNode} (h1 : n.kind ≠ 9) (h2 : n.kind ≠ 10) (h3 : n.kind ≠ 11) : costN cs n = min 100000 (1 + sumAtL cs n.kids) := by unfold costN; rw [if_neg h1, if_neg h2, if_neg h3]
set_option maxHeartbeats 6400000 in
set_option maxRecDepth 100000 in
theorem l5Costs_any (lo p : Nat) (vv vn vb : Value) (T : LTree) (w : World) (h : TreeP lo w p vv vn vb T) (hg : Good T) (hS : Sized 1048576 T) :
  Calls Tryz.prog 91 #[.pointer (some ⟨p, 0, none⟩)] w fun e w' => ∃ v, e = .returned v ∧ Own w' w.heap.size v (costsF T.nodes T.nodes.length) ∧ Below w.heap.size w w' := by
 obtain ⟨an, cn, rfl, _, hhn⟩ := id h.tree.nodes
 have HN := hid hhn
 have p1 := h.c1
 have HP1 : Hid (w.cell? ⟨p, 1, none⟩ = some (.slice an T.nodes.length cn)) := p1
 have hpw : p < w.heap.size := World.block_lt_of_cell? _ _ p1
 have hn200 := hg.nodes
 have HT : Hid (∀ n ∈ T.nodes, Tame n) := hg.tame hS
 have HG : Hid (∀ (k : Nat) (n : LNode), T.nodes[k]? = some n → ownB n = true ∧ (∀ x ∈ n.kids, 0 ≤ x ∧ x < (k : Int)) ∧ (∀ x ∈ n.thn, 0 ≤ x ∧ x < (k : Int)) ∧ (∀ x ∈ n.els, 0 ≤ x ∧ x < (k : Int))) := hg.node
 have HLE : Hid (∀ k : Nat, k ≤ T.nodes.length → Betw 100000 (costsF T.nodes k)) := costsF_le T.nodes (hg.tame hS)
 clear h hhn hS hg
 obtain ⟨i0, hi, hz0, hz1, hz2⟩ := info_parts infoInt
 go_enter Tryz.func91, Tryz.ntmps91
 go_wp2
 have HOW0 : Hid ((w.alloc (.cells #[] 2)).ownsRow w.heap.size 2 1 (.slice (some ⟨w.heap.size, 0, none⟩) 0 0) 0 []) :=
  ⟨rfl, .inr ⟨w.heap.size, 0, #[], rfl, Nat.le_refl _, heap_alloc_new w _, Nat.le_refl _, by decide, rfl, rfl⟩⟩
 have HB0 : Hid (Below w.heap.size w (w.alloc (.cells #[] 2))) := (Below.refl _ _).alloc (Nat.le_refl _) _
 generalize w.alloc (.cells #[] 2) = W0 at *
 go_loopw [3, 4] (fun v i wr => ∃ k : Nat, k ≤ T.nodes.length ∧ i = .int .i64 k ∧ wr.ownsRow w.heap.size 2 1 v k ((costsF T.nodes k).map (Value.int .i64)) ∧ Below w.heap.size w wr) (fun v i _ => T.nodes.length - (intOf i).toNat)
 case atStart => exact ⟨0, by omega, rfl, HOW0.out, HB0.out⟩
 case round =>
  clear HOW0 HB0
  obtain ⟨k, hk, rfl, hown, hB⟩ := hrel
  obtain ⟨ad, cp, rfl⟩ := own_shape hown
  have HOWN := hid hown
  have HB := hid hB
  have q1 := (hB.cell (p := ⟨p, 1, none⟩) hpw).trans HP1.out
  clear hown
  by_cases hlt : k < T.nodes.length
  ·obtain ⟨y, hy⟩ : ∃ y, T.nodes[k]? = some y := ⟨T.nodes[k], List.getElem?_eq_getElem hlt⟩
   obtain ⟨b, o, rfl, _, hc2⟩ := HN.out (by intro e; rw [e] at hlt; simp at hlt)
   obtain ⟨vk, vt, ve, hcs, hvs⟩ := hc2 k y hy
   have hkp : ∀ q, q < w.heap.size → wr.heap[q]? = w.heap[q]? := fun q hq => hB.block q hq
   obtain ⟨d0, d1, d2, d3, d4, d5, d6, d7⟩ := hcs.keep (lo := 0) (w' := wr) (fun q _ hq => hkp q hq) (Nat.zero_le _)
   have HK : Hid (IntsB w.heap.size w vk y.kids) := hvs.kids.toB
   have HTH : Hid (IntsB w.heap.size w vt y.thn) := hvs.thn.toB
   have HE : Hid (IntsB w.heap.size w ve y.els) := hvs.els.toB
   have HKP := hid hkp
   have HY : Hid (T.nodes[k]? = some y) := hy
   have HTY : Hid (Tame y) := HT.out y (List.mem_of_getElem? hy)
   have HGY : Hid (ownB y = true ∧ (∀ x ∈ y.kids, 0 ≤ x ∧ x < (k : Int)) ∧ (∀ x ∈ y.thn, 0 ≤ x ∧ x < (k : Int)) ∧ (∀ x ∈ y.els, 0 ≤ x ∧ x < (k : Int))) := HG.out k y hy
   have hk0 : (0 : Int) ≤ (k : Int) := by omega
   have hk1 : (k : Int) < (T.nodes.length : Int) := by omega
   have hwz : w.heap.size ≤ wr.heap.size := hB.size
   obtain ⟨ak, ck, rfl, _⟩ := id hvs.kids
   obtain ⟨at2, ct, rfl, _⟩ := id hvs.thn
   obtain ⟨ae, ce, rfl, _⟩ := id hvs.els
   clear hy hc2 hcs hvs hkp hB
   go_wp2_with fail
   have hA := heap_alloc_new wr (.cells #[.int .i64 y.kind, .int .i64 y.op, .string (bs y.name), .int .i64 y.num, .int .i64 y.far, .slice ak y.kids.length ck, .slice at2 y.thn.length ct, .slice ae y.els.length ce] 66)
   have hB6 : Below wr.heap.size wr (wr.alloc (.cells #[.int .i64 y.kind, .int .i64 y.op, .string (bs y.name), .int .i64 y.num, .int .i64 y.far, .slice ak y.kids.length ck, .slice at2 y.thn.length ct, .slice ae y.els.length ce] 66)) := (Below.refl wr.heap.size wr).alloc (Nat.le_refl _) _
   generalize wr.alloc (.cells #[.int .i64 y.kind, .int .i64 y.op, .string (bs y.name), .int .i64 y.num, .int .i64 y.far, .slice ak y.kids.length ck, .slice at2 y.thn.length ct, .slice ae y.els.length ce] 66) = W5 at *
   obtain ⟨e0, -, -, e3, e4, e5, e6, e7⟩ := cl8 hA
   have hown5 : W5.ownsRow w.heap.size 2 1 (.slice ad k cp) k ((costsF T.nodes k).map (Value.int .i64)) := own_kept HOWN.out hB6
   have HOW5 := hid hown5
   have HNM : Nums W5 ad (costsF T.nodes k) := by
    have e : k = (costsF T.nodes k).length := (costsF_len _ _).symm
    have h2 : Own W5 w.heap.size (.slice ad k cp) (costsF T.nodes k) := by unfold Own; rw [← e]; exact hown5
    exact (nums_of_own h2).2
   have HB5 : Hid (Below w.heap.size w W5) := HB.out.trans (hB6.mono hwz)
   have hkp5 : ∀ q, q < w.heap.size → W5.heap[q]? = w.heap[q]? := fun q hq => (hB6.block q (Nat.lt_of_lt_of_le hq hwz)).trans (HKP.out q hq)
   have hbw := HLE.out k (by omega)
   have hcall : ∀ (v : Value) (l : List Int), IntsB w.heap.size w v l → (∀ x ∈ l, 0 ≤ x ∧ x < (k : Int)) → l.length ≤ 1048576 → ∀ W, W.heap = W5.heap → Calls Tryz.prog 90 #[.slice ad k cp, v] W fun e w' => e = .returned (.int .i64 (sumAtL (costsF T.nodes k) l)) ∧ w' = W := fun v l hv hx hl W hW =>
    l5Sum_any (costsF T.nodes k) l ad k cp w.heap.size v W (costsF_len _ _) (by omega) (by
     rcases HNM with hz | ⟨b, off, e, hc⟩
     ·exact .inl hz
     ·exact .inr ⟨b, off, e, fun i hi => by rw [← hc i hi]; exact World.cell?_of_block (a := ⟨b, off + i, none⟩) (by rw [hW])⟩) (hv.keep (fun q hq => by rw [hW]; exact hkp5 q hq) (Nat.le_refl _)) hx hbw hl
   have H1 : Hid (∀ W, W.heap = W5.heap → Calls Tryz.prog 90 #[.slice ad k cp, .slice ak y.kids.length ck] W fun e w' => e = .returned (.int .i64 (sumAtL (costsF T.nodes k) y.kids)) ∧ w' = W) := hcall _ _ HK.out HGY.out.2.1 HTY.out.kids
   have H2 : Hid (∀ W, W.heap = W5.heap → Calls Tryz.prog 90 #[.slice ad k cp, .slice at2 y.thn.length ct] W fun e w' => e = .returned (.int .i64 (sumAtL (costsF T.nodes k) y.thn)) ∧ w' = W) := hcall _ _ HTH.out HGY.out.2.2.1 HTY.out.thn
   have H3 : Hid (∀ W, W.heap = W5.heap → Calls Tryz.prog 90 #[.slice ad k cp, .slice ae y.els.length ce] W fun e w' => e = .returned (.int .i64 (sumAtL (costsF T.nodes k) y.els)) ∧ w' = W) := hcall _ _ HE.out HGY.out.2.2.2 HTY.out.els
   have HMX : Hid (∀ (a b : Int) (w : World), Calls Tryz.prog 105 #[.int .i64 a, .int .i64 b] w fun e w' => e = .returned (.int .i64 (max a b)) ∧ w' = w) := l1Max_any
   have HMN : Hid (∀ (a b : Int) (w : World), Calls Tryz.prog 129 #[.int .i64 a, .int .i64 b] w fun e w' => e = .returned (.int .i64 (min a b)) ∧ w' = w) := l1Min_any
   have hs1 := sum_big hbw HTY.out.kids
   have hs2 := sum_big hbw HTY.out.thn
   have hs3 := sum_big hbw HTY.out.els
   have hrd := rounds_le HTY.out
   have hnm := HTY.out.num
   have hfr := HTY.out.far
   have hmul := mul_le_of hrd.1 hrd.2 (b := 3 + sumAtL (costsF T.nodes k) y.thn) (by omega) (Int.add_le_add_left hs2.2 3)
   have HNX : Hid (costsF T.nodes (k + 1) = costsF T.nodes k ++ [costN (costsF T.nodes k) y]) := by
    show costsF T.nodes k ++ [costN (costsF T.nodes k) (T.nodes.getD k default)] = _
    rw [List.getD_eq_getElem?_getD, HY.out]; rfl
   have C9 : Hid (y.kind = 9 → costN (costsF T.nodes k) y = min 100000 (1 + sumAtL (costsF T.nodes k) y.kids + max (sumAtL (costsF T.nodes k) y.thn) (sumAtL (costsF T.nodes k) y.els))) := costN_9
   have C10 : Hid (y.kind = 10 → costN (costsF T.nodes k) y = min 100000 (1 + sumAtL (costsF T.nodes k) y.kids + 2 + max 0 (y.far - y.num + 1) * (3 + sumAtL (costsF T.nodes k) y.thn))) := costN_10
   have C11 : Hid (y.kind = 11 → costN (costsF T.nodes k) y = min 100000 (1 + sumAtL (costsF T.nodes k) y.kids + 12)) := costN_11
   have C0 : Hid (y.kind ≠ 9 → y.kind ≠ 10 → y.kind ≠ 11 → costN (costsF T.nodes k) y = min 100000 (1 + sumAtL (costsF T.nodes k) y.kids)) := costN_0
   generalize sumAtL (costsF T.nodes k) y.kids = s1 at *
   generalize sumAtL (costsF T.nodes k) y.thn = s2 at *
   generalize sumAtL (costsF T.nodes k) y.els = s3 at *
   generalize Value.slice ak y.kids.length ck = v1 at *
   generalize Value.slice at2 y.thn.length ct = v2 at *
   generalize Value.slice ae y.els.length ce = v3 at *
   clear hA hcall hown5 HNM hbw hkp5 d0 d1 d2 d3 d4 d5 d6 d7 q1 HK HTH HE HKP HOWN HB HY hB6
   refine (H1.out _ rfl).mono ?_
   rintro e w2 ⟨rfl, rfl⟩
   by_cases k9 : y.kind = 9
   ·have HCE : Hid (costN (costsF T.nodes k) y = min 100000 (1 + s1 + max s2 s3)) := C9.out k9
    have hw9 : IntKind.i64.wrap (1 + s1 + max s2 s3) = 1 + s1 + max s2 s3 := IntWalk.i64_in _ (by omega)
    go_wp2_with fail
    go_region_held3 (fun W => W.cell? ⟨wr.heap.size, 6, none⟩ = some v2 ∧ W.cell? ⟨wr.heap.size, 7, none⟩ = some v3) (go_keep) (first | (go_at_call 90; (with_reducible show Calls _ _ #[_, v2] _ _); refine (H2.out _ (by rfl)).mono ?_; rintro e w3 ⟨rfl, rfl⟩) | (go_at_call 90; (with_reducible show Calls _ _ #[_, v3] _ _); refine (H3.out _ (by rfl)).mono ?_; rintro e w3 ⟨rfl, rfl⟩) | (go_at_call 105; refine (HMX.out _ _ _).mono ?_; rintro e w3 ⟨rfl, rfl⟩))
    go_wp2_with fail
    have hownd : Hid (w2.drew.ownsRow w.heap.size 2 1 (.slice ad k cp) k ((costsF T.nodes k).map (Value.int .i64))) := own_kept HOW5.out ((Below.refl w2.heap.size w2).drew)
    have hbd : Hid (Below w.heap.size w w2.drew) := HB5.out.drew
    clear HOW5 HB5 e0 e3 e4 e5 e6 e7
    have HOW5 := hownd
    have HB5 := hbd
    clear hownd hbd
    generalize w2.drew = w4 at *
    refine (HMN.out _ _ _).mono ?_
    rintro e w3 ⟨rfl, rfl⟩
    rw [← HCE.out]
    obtain ⟨D, hD⟩ : ∃ D, D = costN (costsF T.nodes k) y := ⟨_, rfl⟩
    rw [← hD] at HNX HCE ⊢
    have hown := HOW5.out
    clear hD H1 H2 H3 HMX HMN C9 C10 C11 C0 hmul hs1 hs2 hs3 hrd hnm hfr HCE
    go_wp2_with (at_builtin; refine wpList_append_own _ rfl _ _ 24 rfl w.heap.size 2 i0 (.int .i64 0) 1 8 Tryz.underlying24 hi hz0 hz1 hz2 rfl (by decide) _ _ _ rfl (hown.alloc _) ⟨w3.heap.size, 0, none⟩ 1 1 [.int .i64 D] rfl rfl ?c1 ?c2 ?c3 ?c4 ?c5 ?_)
    case c1 =>
     intro j u hj
     match j, hj with
     | 0, hj => simp at hj; subst hj; simp [Addr.add]
     | j + 1, hj => simp at hj
    case c2 => intro u hu; simp at hu; subst hu; rfl
    case c3 => unfold maxLen; omega
    case c4 => omega
    case c5 => have := HB5.out.size; simp; omega
    intro v' w9 hown' hgrow _
    have hbel9 : Hid (Below w.heap.size w w9) := by
     have h3 : Below w.heap.size w (w3.alloc (.cells #[.int .i64 D] 2)) := HB5.out.alloc HB5.out.size _
     exact h3.grown hgrow (by have := HB5.out.size; simp; omega) (fun j hj => (hown.lt j hj).1)
    have hnew : Hid (w9.ownsRow w.heap.size 2 1 v' (k + 1) ((costsF T.nodes (k + 1)).map (Value.int .i64))) := by
     unfold Hid; rw [HNX.out, List.map_append]; exact hown'
    clear hown' hgrow hown
    go_wp2_with fail
    go_roundw
    case rel => exact ⟨k + 1, by omega, by go_num, hnew.out, hbel9.out⟩
    case measure => simp [intOf]; omega
   by_cases k10 : y.kind = 10
   ·have HCE : Hid (costN (costsF T.nodes k) y = min 100000 (1 + s1 + 2 + max 0 (y.far - y.num + 1) * (3 + s2))) := C10.out k10
    have hwa : IntKind.i64.wrap (1 + s1 + 2) = 1 + s1 + 2 := IntWalk.i64_in _ (by omega)
    have hwb : IntKind.i64.wrap (y.far - y.num) = y.far - y.num := IntWalk.i64_in _ (by omega)
    have hwc : IntKind.i64.wrap (y.far - y.num + 1) = y.far - y.num + 1 := IntWalk.i64_in _ (by omega)
    have hwd : IntKind.i64.wrap (3 + s2) = 3 + s2 := IntWalk.i64_in _ (by omega)
    have hwe : IntKind.i64.wrap (max 0 (y.far - y.num + 1) * (3 + s2)) = max 0 (y.far - y.num + 1) * (3 + s2) := IntWalk.i64_in _ (by omega)
    have hwf : IntKind.i64.wrap (1 + s1 + 2 + max 0 (y.far - y.num + 1) * (3 + s2)) = 1 + s1 + 2 + max 0 (y.far - y.num + 1) * (3 + s2) := IntWalk.i64_in _ (by omega)
    go_wp2_with fail
    go_region_held3 (fun W => W.cell? ⟨wr.heap.size, 6, none⟩ = some v2 ∧ W.cell? ⟨wr.heap.size, 3, none⟩ = some (.int .i64 y.num) ∧ W.cell? ⟨wr.heap.size, 4, none⟩ = some (.int .i64 y.far)) (go_keep) (first | (go_at_call 90; (with_reducible show Calls _ _ #[_, v2] _ _); refine (H2.out _ (by rfl)).mono ?_; rintro e w3 ⟨rfl, rfl⟩) | (go_at_call 105; refine (HMX.out _ _ _).mono ?_; rintro e w3 ⟨rfl, rfl⟩))
    go_wp2_with fail
    clear hwa hwb hwc hwd hwe hwf
    have hownd : Hid (w2.drew.ownsRow w.heap.size 2 1 (.slice ad k cp) k ((costsF T.nodes k).map (Value.int .i64))) := own_kept HOW5.out ((Below.refl w2.heap.size w2).drew)
    have hbd : Hid (Below w.heap.size w w2.drew) := HB5.out.drew
    clear HOW5 HB5 e0 e3 e4 e5 e6 e7
    have HOW5 := hownd
    have HB5 := hbd
    clear hownd hbd
    generalize w2.drew = w4 at *
    refine (HMN.out _ _ _).mono ?_
    rintro e w3 ⟨rfl, rfl⟩
    rw [← HCE.out]
    obtain ⟨D, hD⟩ : ∃ D, D = costN (costsF T.nodes k) y := ⟨_, rfl⟩
    rw [← hD] at HNX HCE ⊢
    have hown := HOW5.out
    clear hD H1 H2 H3 HMX HMN C9 C10 C11 C0 hmul hs1 hs2 hs3 hrd hnm hfr HCE
    go_wp2_with (at_builtin; refine wpList_append_own _ rfl _ _ 24 rfl w.heap.size 2 i0 (.int .i64 0) 1 8 Tryz.underlying24 hi hz0 hz1 hz2 rfl (by decide) _ _ _ rfl (hown.alloc _) ⟨w3.heap.size, 0, none⟩ 1 1 [.int .i64 D] rfl rfl ?c1 ?c2 ?c3 ?c4 ?c5 ?_)
    case c1 =>
     intro j u hj
     match j, hj with
     | 0, hj => simp at hj; subst hj; simp [Addr.add]
     | j + 1, hj => simp at hj
    case c2 => intro u hu; simp at hu; subst hu; rfl
    case c3 => unfold maxLen; omega
    case c4 => omega
    case c5 => have := HB5.out.size; simp; omega
    intro v' w9 hown' hgrow _
    have hbel9 : Hid (Below w.heap.size w w9) := by
     have h3 : Below w.heap.size w (w3.alloc (.cells #[.int .i64 D] 2)) := HB5.out.alloc HB5.out.size _
     exact h3.grown hgrow (by have := HB5.out.size; simp; omega) (fun j hj => (hown.lt j hj).1)
    have hnew : Hid (w9.ownsRow w.heap.size 2 1 v' (k + 1) ((costsF T.nodes (k + 1)).map (Value.int .i64))) := by
     unfold Hid; rw [HNX.out, List.map_append]; exact hown'
    clear hown' hgrow hown
    go_wp2_with fail
    go_roundw
    case rel => exact ⟨k + 1, by omega, by go_num, hnew.out, hbel9.out⟩
    case measure => simp [intOf]; omega
   by_cases k11 : y.kind = 11
   ·have HCE : Hid (costN (costsF T.nodes k) y = min 100000 (1 + s1 + 12)) := C11.out k11
    go_wp2_with fail
    refine (HMN.out _ _ _).mono ?_
    rintro e w3 ⟨rfl, rfl⟩
    rw [← HCE.out]
    obtain ⟨D, hD⟩ : ∃ D, D = costN (costsF T.nodes k) y := ⟨_, rfl⟩
    rw [← hD] at HNX HCE ⊢
    have hown := HOW5.out
    clear hD H1 H2 H3 HMX HMN C9 C10 C11 C0 e0 e3 e4 e5 e6 e7 hmul hs1 hs2 hs3 hrd hnm hfr HCE
    go_wp2_with (at_builtin; refine wpList_append_own _ rfl _ _ 24 rfl w.heap.size 2 i0 (.int .i64 0) 1 8 Tryz.underlying24 hi hz0 hz1 hz2 rfl (by decide) _ _ _ rfl (hown.alloc _) ⟨w3.heap.size, 0, none⟩ 1 1 [.int .i64 D] rfl rfl ?c1 ?c2 ?c3 ?c4 ?c5 ?_)
    case c1 =>
     intro j u hj
     match j, hj with
     | 0, hj => simp at hj; subst hj; simp [Addr.add]
     | j + 1, hj => simp at hj
    case c2 => intro u hu; simp at hu; subst hu; rfl
    case c3 => unfold maxLen; omega
    case c4 => omega
    case c5 => have := HB5.out.size; simp; omega
    intro v' w9 hown' hgrow _
    have hbel9 : Hid (Below w.heap.size w w9) := by
     have h3 : Below w.heap.size w (w3.alloc (.cells #[.int .i64 D] 2)) := HB5.out.alloc HB5.out.size _
     exact h3.grown hgrow (by have := HB5.out.size; simp; omega) (fun j hj => (hown.lt j hj).1)
    have hnew : Hid (w9.ownsRow w.heap.size 2 1 v' (k + 1) ((costsF T.nodes (k + 1)).map (Value.int .i64))) := by
     unfold Hid; rw [HNX.out, List.map_append]; exact hown'
    clear hown' hgrow hown
    go_wp2_with fail
    go_roundw
    case rel => exact ⟨k + 1, by omega, by go_num, hnew.out, hbel9.out⟩
    case measure => simp [intOf]; omega
   have HCE : Hid (costN (costsF T.nodes k) y = min 100000 (1 + s1)) := C0.out k9 k10 k11
   go_wp2_with fail
   refine (HMN.out _ _ _).mono ?_
   rintro e w3 ⟨rfl, rfl⟩
   rw [← HCE.out]
   obtain ⟨D, hD⟩ : ∃ D, D = costN (costsF T.nodes k) y := ⟨_, rfl⟩
   rw [← hD] at HNX HCE ⊢
   have hown := HOW5.out
   clear hD H1 H2 H3 HMX HMN C9 C10 C11 C0 e0 e3 e4 e5 e6 e7 hmul hs1 hs2 hs3 hrd hnm hfr HCE
   go_wp2_with (at_builtin; refine wpList_append_own _ rfl _ _ 24 rfl w.heap.size 2 i0 (.int .i64 0) 1 8 Tryz.underlying24 hi hz0 hz1 hz2 rfl (by decide) _ _ _ rfl (hown.alloc _) ⟨w3.heap.size, 0, none⟩ 1 1 [.int .i64 D] rfl rfl ?c1 ?c2 ?c3 ?c4 ?c5 ?_)
   case c1 =>
    intro j u hj
    match j, hj with
    | 0, hj => simp at hj; subst hj; simp [Addr.add]
    | j + 1, hj => simp at hj
   case c2 => intro u hu; simp at hu; subst hu; rfl
   case c3 => unfold maxLen; omega
   case c4 => omega
   case c5 => have := HB5.out.size; simp; omega
   intro v' w9 hown' hgrow _
   have hbel9 : Hid (Below w.heap.size w w9) := by
    have h3 : Below w.heap.size w (w3.alloc (.cells #[.int .i64 D] 2)) := HB5.out.alloc HB5.out.size _
    exact h3.grown hgrow (by have := HB5.out.size; simp; omega) (fun j hj => (hown.lt j hj).1)
   have hnew : Hid (w9.ownsRow w.heap.size 2 1 v' (k + 1) ((costsF T.nodes (k + 1)).map (Value.int .i64))) := by
    unfold Hid; rw [HNX.out, List.map_append]; exact hown'
   clear hown' hgrow hown
   go_wp2_with fail
   go_roundw
   case rel => exact ⟨k + 1, by omega, by go_num, hnew.out, hbel9.out⟩
   case measure => simp [intOf]; omega
  ·have hke : k = T.nodes.length := by omega
   subst hke
   go_wp2
   go_ret
   refine ⟨_, rfl, ?_, HB.out⟩
   have h := HOWN.out
   unfold Own
   rw [costsF_len]
   exact h
end Go.Proofs.YtepjaoapjpmjkaaGreatDoor
