/-
  The two blocks at the start of a function of a tree that answers three numbers.
-/
import Derived.Test.YtdnhmpemkpjcaaaGreatDoorSSum
import Derived.Test.YtdnhmpemkpjcaaaGreatDoorIOnce
import Derived.Test.YtdnhmpemkpjcaaaGreatDoorCopy
import Derived.BigRegion
import Derived.Laws.AppendOwn
import Derived.Test.YtdnhmpemkpjcaaaGreatDoorOwn
import Derived.Test.YtdnhmpemkpjcaaaGreatDoorTreeWants
import Derived.Test.YtdnhmpemkpjcaaaGreatDoorSWord
import Derived.Test.YtdnhmpemkpjcaaaGreatDoorSRgtA
import Derived.Test.YtdnhmpemkpjcaaaGreatDoorSRgtB
import Derived.Test.YtdnhmpemkpjcaaaGreatDoorSFault
import Derived.Test.YtdnhmpemkpjcaaaGreatDoorTreeC
namespace Go.Proofs.YtdnhmpemkpjcaaaGreatDoor
open Go.RowKit
set_option linter.unusedVariables false
attribute [local go_sem] bs_size bs_get bs_extract bs_append bs_eq bs_toList
theorem costN_9 {cs : List Int} {n : LNode} (h : n.kind = 9) : costN cs n = min 100000 (1 + sumAtL cs n.kids + max (sumAtL cs n.thn) (sumAtL cs n.els)) := by unfold costN; rw [if_pos h]
theorem costN_10 {cs : List Int} {n : LNode} (h : n.kind = 10) : costN cs n = min 100000 (1 + sumAtL cs n.kids + 2 + max 0 (n.far - n.num + 1) * (3 + sumAtL cs n.thn)) := by unfold costN; rw [if_neg (by omega), if_pos h]
theorem costN_11 {cs : List Int} {n : LNode} (h : n.kind = 11) : costN cs n = min 100000 (1 + sumAtL cs n.kids + 12) := by unfold costN; rw [if_neg (by omega), if_neg (by omega), if_pos h]
theorem costN_0 {cs : List Int} {n : LNode} (h1 : n.kind ≠ 9) (h2 : n.kind ≠ 10) (h3 : n.kind ≠ 11) : costN cs n = min 100000 (1 + sumAtL cs n.kids) := by unfold costN; rw [if_neg h1, if_neg h2, if_neg h3]
set_option maxHeartbeats 6400000 in
set_option maxRecDepth 100000 in
theorem l5Costs_any (lo p : Nat) (vv vn vb : Value) (T : LTree) (w : World) (h : TreeP lo w p vv vn vb T) (hg : Good T) (hS : Sized 1048576 T) :
  Calls Tryz.prog 138 #[.pointer (some ⟨p, 0, none⟩)] w fun e w' => ∃ v, e = .returned v ∧ Own w' w.heap.size v (costsF T.nodes T.nodes.length) ∧ Below w.heap.size w w' := by
 obtain ⟨an, cn, rfl, _, hhn⟩ := id h.tree.nodes
 have HN : Hid (T.nodes ≠ [] → ∃ b o, an = some ⟨b, o, none⟩ ∧ lo ≤ b ∧ ∀ (i : Nat) (x : LNode), T.nodes[i]? = some x → NodeAt lo w b (o + i * 8) x) := hhn
 have p1 := h.c1
 have HP1 : Hid (w.cell? ⟨p, 1, none⟩ = some (.slice an T.nodes.length cn)) := p1
 have hpw : p < w.heap.size := World.block_lt_of_cell? _ _ p1
 have hn200 := hg.nodes
 have HT : Hid (∀ n ∈ T.nodes, Tame n) := hg.tame hS
 have HG : Hid (∀ (k : Nat) (n : LNode), T.nodes[k]? = some n → ownB n = true ∧ (∀ x ∈ n.kids, 0 ≤ x ∧ x < (k : Int)) ∧ (∀ x ∈ n.thn, 0 ≤ x ∧ x < (k : Int)) ∧ (∀ x ∈ n.els, 0 ≤ x ∧ x < (k : Int))) := hg.node
 have HLE : Hid (∀ k : Nat, k ≤ T.nodes.length → Betw 100000 (costsF T.nodes k)) := costsF_le T.nodes (hg.tame hS)
 clear h hhn hS hg
 obtain ⟨i0, hi, hz0, hz1, hz2⟩ := info_parts infoInt
 go_enter Tryz.func138, Tryz.ntmps138
 go_wp2
 have HOW0 : Hid ((w.alloc (.cells #[] 2)).ownsRow w.heap.size 2 1 (.slice (some ⟨w.heap.size, 0, none⟩) 0 0) 0 []) :=
  ⟨rfl, .inr ⟨w.heap.size, 0, #[], rfl, Nat.le_refl _, heap_alloc_new w _, Nat.le_refl _, by decide, rfl, rfl⟩⟩
 have HB0 : Hid (Below w.heap.size w (w.alloc (.cells #[] 2))) := (Below.refl _ _).alloc (Nat.le_refl _) _
 generalize w.alloc (.cells #[] 2) = W0 at *
 go_loopw [3, 4] (fun v i wr => ∃ k : Nat, k ≤ T.nodes.length ∧ i = .int .i64 k ∧ wr.ownsRow w.heap.size 2 1 v k ((costsF T.nodes k).map (Value.int .i64)) ∧ Below w.heap.size w wr) (fun v i _ => T.nodes.length - (intOf i).toNat)
 case atStart => exact ⟨0, by omega, rfl, HOW0.out, HB0.out⟩
 case round =>
  clear HOW0 HB0
  obtain ⟨k, hk, rfl, hown, hB⟩ := hrel
  obtain ⟨ad, cp, rfl⟩ := own_shape hown
  have HOWN : Hid (wr.ownsRow w.heap.size 2 1 (.slice ad k cp) k ((costsF T.nodes k).map (Value.int .i64))) := hown
  have HB : Hid (Below w.heap.size w wr) := hB
  have q1 := (hB.cell (p := ⟨p, 1, none⟩) hpw).trans HP1.out
  clear hown
  by_cases hlt : k < T.nodes.length
  ·obtain ⟨y, hy⟩ : ∃ y, T.nodes[k]? = some y := ⟨T.nodes[k], List.getElem?_eq_getElem hlt⟩
   obtain ⟨b, o, rfl, _, hc2⟩ := HN.out (by intro e; rw [e] at hlt; simp at hlt)
   obtain ⟨vk, vt, ve, hcs, hvs⟩ := hc2 k y hy
   have hkp : ∀ q, q < w.heap.size → wr.heap[q]? = w.heap[q]? := fun q hq => hB.block q hq
   obtain ⟨d0, d1, d2, d3, d4, d5, d6, d7⟩ := hcs.keep (lo := 0) (w' := wr) (fun q _ hq => hkp q hq) (Nat.zero_le _)
   have HK : Hid (IntsB w.heap.size w vk y.kids) := hvs.kids.toB
   have HTH : Hid (IntsB w.heap.size w vt y.thn) := hvs.thn.toB
   have HE : Hid (IntsB w.heap.size w ve y.els) := hvs.els.toB
   have HKP : Hid (∀ q, q < w.heap.size → wr.heap[q]? = w.heap[q]?) := hkp
   have HY : Hid (T.nodes[k]? = some y) := hy
   have HTY : Hid (Tame y) := HT.out y (List.mem_of_getElem? hy)
   have HGY : Hid (ownB y = true ∧ (∀ x ∈ y.kids, 0 ≤ x ∧ x < (k : Int)) ∧ (∀ x ∈ y.thn, 0 ≤ x ∧ x < (k : Int)) ∧ (∀ x ∈ y.els, 0 ≤ x ∧ x < (k : Int))) := HG.out k y hy
   have hk0 : (0 : Int) ≤ (k : Int) := by omega
   have hk1 : (k : Int) < (T.nodes.length : Int) := by omega
   have hwz : w.heap.size ≤ wr.heap.size := hB.size
   obtain ⟨ak, ck, rfl, _⟩ := id hvs.kids
   obtain ⟨at2, ct, rfl, _⟩ := id hvs.thn
   obtain ⟨ae, ce, rfl, _⟩ := id hvs.els
   clear hy hc2 hcs hvs hkp hB
   go_wp2_with fail
   have hA := heap_alloc_new wr (.cells #[.int .i64 y.kind, .int .i64 y.op, .string (bs y.name), .int .i64 y.num, .int .i64 y.far, .slice ak y.kids.length ck, .slice at2 y.thn.length ct, .slice ae y.els.length ce] 111)
   have hB6 : Below wr.heap.size wr (wr.alloc (.cells #[.int .i64 y.kind, .int .i64 y.op, .string (bs y.name), .int .i64 y.num, .int .i64 y.far, .slice ak y.kids.length ck, .slice at2 y.thn.length ct, .slice ae y.els.length ce] 111)) := (Below.refl wr.heap.size wr).alloc (Nat.le_refl _) _
   generalize wr.alloc (.cells #[.int .i64 y.kind, .int .i64 y.op, .string (bs y.name), .int .i64 y.num, .int .i64 y.far, .slice ak y.kids.length ck, .slice at2 y.thn.length ct, .slice ae y.els.length ce] 111) = W5 at *
   have e0 : W5.cell? ⟨wr.heap.size, 0, none⟩ = some (.int .i64 y.kind) := cell_of_row _ _ 0 _ _ _ hA
   have e3 : W5.cell? ⟨wr.heap.size, 3, none⟩ = some (.int .i64 y.num) := cell_of_row _ _ 3 _ _ _ hA
   have e4 : W5.cell? ⟨wr.heap.size, 4, none⟩ = some (.int .i64 y.far) := cell_of_row _ _ 4 _ _ _ hA
   have e5 : W5.cell? ⟨wr.heap.size, 5, none⟩ = some (.slice ak y.kids.length ck) := cell_of_row _ _ 5 _ _ _ hA
   have e6 : W5.cell? ⟨wr.heap.size, 6, none⟩ = some (.slice at2 y.thn.length ct) := cell_of_row _ _ 6 _ _ _ hA
   have e7 : W5.cell? ⟨wr.heap.size, 7, none⟩ = some (.slice ae y.els.length ce) := cell_of_row _ _ 7 _ _ _ hA
   have hown5 : W5.ownsRow w.heap.size 2 1 (.slice ad k cp) k ((costsF T.nodes k).map (Value.int .i64)) := own_kept HOWN.out hB6
   have HOW5 : Hid (W5.ownsRow w.heap.size 2 1 (.slice ad k cp) k ((costsF T.nodes k).map (Value.int .i64))) := hown5
   have HNM : Nums W5 ad (costsF T.nodes k) := by
    have e : k = (costsF T.nodes k).length := (costsF_len _ _).symm
    have h2 : Own W5 w.heap.size (.slice ad k cp) (costsF T.nodes k) := by unfold Own; rw [← e]; exact hown5
    exact (nums_of_own h2).2
   have HB5 : Hid (Below w.heap.size w W5) := HB.out.trans (hB6.mono hwz)
   have hkp5 : ∀ q, q < w.heap.size → W5.heap[q]? = w.heap[q]? := fun q hq => (hB6.block q (Nat.lt_of_lt_of_le hq hwz)).trans (HKP.out q hq)
   have hbw := HLE.out k (by omega)
   have hcall : ∀ (v : Value) (l : List Int), IntsB w.heap.size w v l → (∀ x ∈ l, 0 ≤ x ∧ x < (k : Int)) → l.length ≤ 1048576 → ∀ W, W.heap = W5.heap → Calls Tryz.prog 137 #[.slice ad k cp, v] W fun e w' => e = .returned (.int .i64 (sumAtL (costsF T.nodes k) l)) ∧ w' = W := fun v l hv hx hl W hW =>
    l5Sum_any (costsF T.nodes k) l ad k cp w.heap.size v W (costsF_len _ _) (by omega) (by
     rcases HNM with hz | ⟨b, off, e, hc⟩
     ·exact .inl hz
     ·exact .inr ⟨b, off, e, fun i hi => by rw [← hc i hi]; exact World.cell?_of_block (a := ⟨b, off + i, none⟩) (by rw [hW])⟩) (hv.keep (fun q hq => by rw [hW]; exact hkp5 q hq) (Nat.le_refl _)) hx hbw hl
   have H1 : Hid (∀ W, W.heap = W5.heap → Calls Tryz.prog 137 #[.slice ad k cp, .slice ak y.kids.length ck] W fun e w' => e = .returned (.int .i64 (sumAtL (costsF T.nodes k) y.kids)) ∧ w' = W) := hcall _ _ HK.out HGY.out.2.1 HTY.out.kids
   have H2 : Hid (∀ W, W.heap = W5.heap → Calls Tryz.prog 137 #[.slice ad k cp, .slice at2 y.thn.length ct] W fun e w' => e = .returned (.int .i64 (sumAtL (costsF T.nodes k) y.thn)) ∧ w' = W) := hcall _ _ HTH.out HGY.out.2.2.1 HTY.out.thn
   have H3 : Hid (∀ W, W.heap = W5.heap → Calls Tryz.prog 137 #[.slice ad k cp, .slice ae y.els.length ce] W fun e w' => e = .returned (.int .i64 (sumAtL (costsF T.nodes k) y.els)) ∧ w' = W) := hcall _ _ HE.out HGY.out.2.2.2 HTY.out.els
   have HMX : Hid (∀ (a b : Int) (w : World), Calls Tryz.prog 172 #[.int .i64 a, .int .i64 b] w fun e w' => e = .returned (.int .i64 (max a b)) ∧ w' = w) := l1Max_any
   have HMN : Hid (∀ (a b : Int) (w : World), Calls Tryz.prog 182 #[.int .i64 a, .int .i64 b] w fun e w' => e = .returned (.int .i64 (min a b)) ∧ w' = w) := l1Min_any
   have hs1 := sum_big hbw HTY.out.kids
   have hs2 := sum_big hbw HTY.out.thn
   have hs3 := sum_big hbw HTY.out.els
   have hrd := rounds_le HTY.out
   have hnm := HTY.out.num
   have hfr := HTY.out.far
   have hmul := mul_le_of hrd.1 hrd.2 (b := 3 + sumAtL (costsF T.nodes k) y.thn) (by omega) (Int.add_le_add_left hs2.2 3)
   have HNX : Hid (costsF T.nodes (k + 1) = costsF T.nodes k ++ [costN (costsF T.nodes k) y]) := by
    show costsF T.nodes k ++ [costN (costsF T.nodes k) (T.nodes.getD k default)] = _
    rw [List.getD_eq_getElem?_getD, HY.out]; rfl
   have C9 : Hid (y.kind = 9 → costN (costsF T.nodes k) y = min 100000 (1 + sumAtL (costsF T.nodes k) y.kids + max (sumAtL (costsF T.nodes k) y.thn) (sumAtL (costsF T.nodes k) y.els))) := costN_9
   have C10 : Hid (y.kind = 10 → costN (costsF T.nodes k) y = min 100000 (1 + sumAtL (costsF T.nodes k) y.kids + 2 + max 0 (y.far - y.num + 1) * (3 + sumAtL (costsF T.nodes k) y.thn))) := costN_10
   have C11 : Hid (y.kind = 11 → costN (costsF T.nodes k) y = min 100000 (1 + sumAtL (costsF T.nodes k) y.kids + 12)) := costN_11
   have C0 : Hid (y.kind ≠ 9 → y.kind ≠ 10 → y.kind ≠ 11 → costN (costsF T.nodes k) y = min 100000 (1 + sumAtL (costsF T.nodes k) y.kids)) := costN_0
   generalize sumAtL (costsF T.nodes k) y.kids = s1 at *
   generalize sumAtL (costsF T.nodes k) y.thn = s2 at *
   generalize sumAtL (costsF T.nodes k) y.els = s3 at *
   generalize Value.slice ak y.kids.length ck = v1 at *
   generalize Value.slice at2 y.thn.length ct = v2 at *
   generalize Value.slice ae y.els.length ce = v3 at *
   clear hA hcall hown5 HNM hbw hkp5 d0 d1 d2 d3 d4 d5 d6 d7 q1 HK HTH HE HKP HOWN HB HY hB6
   refine (H1.out _ rfl).mono ?_
   rintro e w2 ⟨rfl, rfl⟩
   by_cases k9 : y.kind = 9
   ·have HCE : Hid (costN (costsF T.nodes k) y = min 100000 (1 + s1 + max s2 s3)) := C9.out k9
    have hw9 : IntKind.i64.wrap (1 + s1 + max s2 s3) = 1 + s1 + max s2 s3 := IntWalk.i64_in _ (by omega)
    go_wp2_with fail
    go_region_held3 (fun W => W.cell? ⟨wr.heap.size, 6, none⟩ = some v2 ∧ W.cell? ⟨wr.heap.size, 7, none⟩ = some v3) (go_keep) (first | (go_at_call 137; (with_reducible show Calls _ _ #[_, v2] _ _); refine (H2.out _ (by rfl)).mono ?_; rintro e w3 ⟨rfl, rfl⟩) | (go_at_call 137; (with_reducible show Calls _ _ #[_, v3] _ _); refine (H3.out _ (by rfl)).mono ?_; rintro e w3 ⟨rfl, rfl⟩) | (go_at_call 172; refine (HMX.out _ _ _).mono ?_; rintro e w3 ⟨rfl, rfl⟩))
    go_wp2_with fail
    have hownd : Hid (w2.drew.ownsRow w.heap.size 2 1 (.slice ad k cp) k ((costsF T.nodes k).map (Value.int .i64))) := own_kept HOW5.out ((Below.refl w2.heap.size w2).drew)
    have hbd : Hid (Below w.heap.size w w2.drew) := HB5.out.drew
    clear HOW5 HB5 e0 e3 e4 e5 e6 e7
    have HOW5 := hownd
    have HB5 := hbd
    clear hownd hbd
    generalize w2.drew = w4 at *
    refine (HMN.out _ _ _).mono ?_
    rintro e w3 ⟨rfl, rfl⟩
    rw [← HCE.out]
    obtain ⟨D, hD⟩ : ∃ D, D = costN (costsF T.nodes k) y := ⟨_, rfl⟩
    rw [← hD] at HNX HCE ⊢
    have hown := HOW5.out
    clear hD H1 H2 H3 HMX HMN C9 C10 C11 C0 hmul hs1 hs2 hs3 hrd hnm hfr HCE
    go_wp2_with (at_builtin; refine wpList_append_own _ rfl _ _ 26 rfl w.heap.size 2 i0 (.int .i64 0) 1 8 Tryz.underlying26 hi hz0 hz1 hz2 rfl (by decide) _ _ _ rfl (hown.alloc _) ⟨w3.heap.size, 0, none⟩ 1 1 [.int .i64 D] rfl rfl ?c1 ?c2 ?c3 ?c4 ?c5 ?_)
    case c1 =>
     intro j u hj
     match j, hj with
     | 0, hj => simp at hj; subst hj; simp [Addr.add]
     | j + 1, hj => simp at hj
    case c2 => intro u hu; simp at hu; subst hu; rfl
    case c3 => unfold maxLen; omega
    case c4 => omega
    case c5 => have := HB5.out.size; simp; omega
    intro v' w9 hown' hgrow _
    have hbel9 : Hid (Below w.heap.size w w9) := by
     have h3 : Below w.heap.size w (w3.alloc (.cells #[.int .i64 D] 2)) := HB5.out.alloc HB5.out.size _
     exact h3.grown hgrow (by have := HB5.out.size; simp; omega) (fun j hj => (hown.lt j hj).1)
    have hnew : Hid (w9.ownsRow w.heap.size 2 1 v' (k + 1) ((costsF T.nodes (k + 1)).map (Value.int .i64))) := by
     unfold Hid; rw [HNX.out, List.map_append]; exact hown'
    clear hown' hgrow hown
    go_wp2_with fail
    go_roundw
    case rel => exact ⟨k + 1, by omega, by go_num, hnew.out, hbel9.out⟩
    case measure => simp [intOf]; omega
   by_cases k10 : y.kind = 10
   ·have HCE : Hid (costN (costsF T.nodes k) y = min 100000 (1 + s1 + 2 + max 0 (y.far - y.num + 1) * (3 + s2))) := C10.out k10
    have hwa : IntKind.i64.wrap (1 + s1 + 2) = 1 + s1 + 2 := IntWalk.i64_in _ (by omega)
    have hwb : IntKind.i64.wrap (y.far - y.num) = y.far - y.num := IntWalk.i64_in _ (by omega)
    have hwc : IntKind.i64.wrap (y.far - y.num + 1) = y.far - y.num + 1 := IntWalk.i64_in _ (by omega)
    have hwd : IntKind.i64.wrap (3 + s2) = 3 + s2 := IntWalk.i64_in _ (by omega)
    have hwe : IntKind.i64.wrap (max 0 (y.far - y.num + 1) * (3 + s2)) = max 0 (y.far - y.num + 1) * (3 + s2) := IntWalk.i64_in _ (by omega)
    have hwf : IntKind.i64.wrap (1 + s1 + 2 + max 0 (y.far - y.num + 1) * (3 + s2)) = 1 + s1 + 2 + max 0 (y.far - y.num + 1) * (3 + s2) := IntWalk.i64_in _ (by omega)
    go_wp2_with fail
    go_region_held3 (fun W => W.cell? ⟨wr.heap.size, 6, none⟩ = some v2 ∧ W.cell? ⟨wr.heap.size, 3, none⟩ = some (.int .i64 y.num) ∧ W.cell? ⟨wr.heap.size, 4, none⟩ = some (.int .i64 y.far)) (go_keep) (first | (go_at_call 137; (with_reducible show Calls _ _ #[_, v2] _ _); refine (H2.out _ (by rfl)).mono ?_; rintro e w3 ⟨rfl, rfl⟩) | (go_at_call 172; refine (HMX.out _ _ _).mono ?_; rintro e w3 ⟨rfl, rfl⟩))
    go_wp2_with fail
    clear hwa hwb hwc hwd hwe hwf
    have hownd : Hid (w2.drew.ownsRow w.heap.size 2 1 (.slice ad k cp) k ((costsF T.nodes k).map (Value.int .i64))) := own_kept HOW5.out ((Below.refl w2.heap.size w2).drew)
    have hbd : Hid (Below w.heap.size w w2.drew) := HB5.out.drew
    clear HOW5 HB5 e0 e3 e4 e5 e6 e7
    have HOW5 := hownd
    have HB5 := hbd
    clear hownd hbd
    generalize w2.drew = w4 at *
    refine (HMN.out _ _ _).mono ?_
    rintro e w3 ⟨rfl, rfl⟩
    rw [← HCE.out]
    obtain ⟨D, hD⟩ : ∃ D, D = costN (costsF T.nodes k) y := ⟨_, rfl⟩
    rw [← hD] at HNX HCE ⊢
    have hown := HOW5.out
    clear hD H1 H2 H3 HMX HMN C9 C10 C11 C0 hmul hs1 hs2 hs3 hrd hnm hfr HCE
    go_wp2_with (at_builtin; refine wpList_append_own _ rfl _ _ 26 rfl w.heap.size 2 i0 (.int .i64 0) 1 8 Tryz.underlying26 hi hz0 hz1 hz2 rfl (by decide) _ _ _ rfl (hown.alloc _) ⟨w3.heap.size, 0, none⟩ 1 1 [.int .i64 D] rfl rfl ?c1 ?c2 ?c3 ?c4 ?c5 ?_)
    case c1 =>
     intro j u hj
     match j, hj with
     | 0, hj => simp at hj; subst hj; simp [Addr.add]
     | j + 1, hj => simp at hj
    case c2 => intro u hu; simp at hu; subst hu; rfl
    case c3 => unfold maxLen; omega
    case c4 => omega
    case c5 => have := HB5.out.size; simp; omega
    intro v' w9 hown' hgrow _
    have hbel9 : Hid (Below w.heap.size w w9) := by
     have h3 : Below w.heap.size w (w3.alloc (.cells #[.int .i64 D] 2)) := HB5.out.alloc HB5.out.size _
     exact h3.grown hgrow (by have := HB5.out.size; simp; omega) (fun j hj => (hown.lt j hj).1)
    have hnew : Hid (w9.ownsRow w.heap.size 2 1 v' (k + 1) ((costsF T.nodes (k + 1)).map (Value.int .i64))) := by
     unfold Hid; rw [HNX.out, List.map_append]; exact hown'
    clear hown' hgrow hown
    go_wp2_with fail
    go_roundw
    case rel => exact ⟨k + 1, by omega, by go_num, hnew.out, hbel9.out⟩
    case measure => simp [intOf]; omega
   by_cases k11 : y.kind = 11
   ·have HCE : Hid (costN (costsF T.nodes k) y = min 100000 (1 + s1 + 12)) := C11.out k11
    go_wp2_with fail
    refine (HMN.out _ _ _).mono ?_
    rintro e w3 ⟨rfl, rfl⟩
    rw [← HCE.out]
    obtain ⟨D, hD⟩ : ∃ D, D = costN (costsF T.nodes k) y := ⟨_, rfl⟩
    rw [← hD] at HNX HCE ⊢
    have hown := HOW5.out
    clear hD H1 H2 H3 HMX HMN C9 C10 C11 C0 e0 e3 e4 e5 e6 e7 hmul hs1 hs2 hs3 hrd hnm hfr HCE
    go_wp2_with (at_builtin; refine wpList_append_own _ rfl _ _ 26 rfl w.heap.size 2 i0 (.int .i64 0) 1 8 Tryz.underlying26 hi hz0 hz1 hz2 rfl (by decide) _ _ _ rfl (hown.alloc _) ⟨w3.heap.size, 0, none⟩ 1 1 [.int .i64 D] rfl rfl ?c1 ?c2 ?c3 ?c4 ?c5 ?_)
    case c1 =>
     intro j u hj
     match j, hj with
     | 0, hj => simp at hj; subst hj; simp [Addr.add]
     | j + 1, hj => simp at hj
    case c2 => intro u hu; simp at hu; subst hu; rfl
    case c3 => unfold maxLen; omega
    case c4 => omega
    case c5 => have := HB5.out.size; simp; omega
    intro v' w9 hown' hgrow _
    have hbel9 : Hid (Below w.heap.size w w9) := by
     have h3 : Below w.heap.size w (w3.alloc (.cells #[.int .i64 D] 2)) := HB5.out.alloc HB5.out.size _
     exact h3.grown hgrow (by have := HB5.out.size; simp; omega) (fun j hj => (hown.lt j hj).1)
    have hnew : Hid (w9.ownsRow w.heap.size 2 1 v' (k + 1) ((costsF T.nodes (k + 1)).map (Value.int .i64))) := by
     unfold Hid; rw [HNX.out, List.map_append]; exact hown'
    clear hown' hgrow hown
    go_wp2_with fail
    go_roundw
    case rel => exact ⟨k + 1, by omega, by go_num, hnew.out, hbel9.out⟩
    case measure => simp [intOf]; omega
   have HCE : Hid (costN (costsF T.nodes k) y = min 100000 (1 + s1)) := C0.out k9 k10 k11
   go_wp2_with fail
   refine (HMN.out _ _ _).mono ?_
   rintro e w3 ⟨rfl, rfl⟩
   rw [← HCE.out]
   obtain ⟨D, hD⟩ : ∃ D, D = costN (costsF T.nodes k) y := ⟨_, rfl⟩
   rw [← hD] at HNX HCE ⊢
   have hown := HOW5.out
   clear hD H1 H2 H3 HMX HMN C9 C10 C11 C0 e0 e3 e4 e5 e6 e7 hmul hs1 hs2 hs3 hrd hnm hfr HCE
   go_wp2_with (at_builtin; refine wpList_append_own _ rfl _ _ 26 rfl w.heap.size 2 i0 (.int .i64 0) 1 8 Tryz.underlying26 hi hz0 hz1 hz2 rfl (by decide) _ _ _ rfl (hown.alloc _) ⟨w3.heap.size, 0, none⟩ 1 1 [.int .i64 D] rfl rfl ?c1 ?c2 ?c3 ?c4 ?c5 ?_)
   case c1 =>
    intro j u hj
    match j, hj with
    | 0, hj => simp at hj; subst hj; simp [Addr.add]
    | j + 1, hj => simp at hj
   case c2 => intro u hu; simp at hu; subst hu; rfl
   case c3 => unfold maxLen; omega
   case c4 => omega
   case c5 => have := HB5.out.size; simp; omega
   intro v' w9 hown' hgrow _
   have hbel9 : Hid (Below w.heap.size w w9) := by
    have h3 : Below w.heap.size w (w3.alloc (.cells #[.int .i64 D] 2)) := HB5.out.alloc HB5.out.size _
    exact h3.grown hgrow (by have := HB5.out.size; simp; omega) (fun j hj => (hown.lt j hj).1)
   have hnew : Hid (w9.ownsRow w.heap.size 2 1 v' (k + 1) ((costsF T.nodes (k + 1)).map (Value.int .i64))) := by
    unfold Hid; rw [HNX.out, List.map_append]; exact hown'
   clear hown' hgrow hown
   go_wp2_with fail
   go_roundw
   case rel => exact ⟨k + 1, by omega, by go_num, hnew.out, hbel9.out⟩
   case measure => simp [intOf]; omega
  ·have hke : k = T.nodes.length := by omega
   subst hke
   go_wp2
   go_ret
   refine ⟨_, rfl, ?_, HB.out⟩
   have h := HOWN.out
   unfold Own
   rw [costsF_len]
   exact h
set_option maxHeartbeats 6400000 in
set_option maxRecDepth 100000 in
theorem rgt9 (R : Bool) (p at_ : Nat) (b o cn : Nat) (nn : Nat) (vv vb : Value) (op : Int) (name : List UInt8) (num far : Int) (kids thn els : List Int) (a a2 a3 : Option Addr) (c c2 c3 : Nat) (w : World) (hl : name.length ≤ 1048576) (hk1 : kids.length ≤ 1048576) (hk2 : thn.length ≤ 1048576) (hk3 : els.length ≤ 1048576)
  (r1 r2 r3 : Bool) (hO : R = ((decide (op = 0) && name.isEmpty && decide (num = 0) && decide (far = 0) && decide (1 ≤ kids.length ∧ kids.length ≤ 1)) && r1 && r2 && r3)) (hat : at_ < nn) (hp1 : w.cell? ⟨p, 1, none⟩ = some (.slice (some ⟨b, o, none⟩) nn cn))
  (hc0 : w.cell? ⟨b, o + at_ * 8, none⟩ = some (.int .i64 9))
  (hc1 : w.cell? ⟨b, o + at_ * 8 + 1, none⟩ = some (.int .i64 op))
  (hc2 : w.cell? ⟨b, o + at_ * 8 + 2, none⟩ = some (.string (bs name)))
  (hc3 : w.cell? ⟨b, o + at_ * 8 + 3, none⟩ = some (.int .i64 num))
  (hc4 : w.cell? ⟨b, o + at_ * 8 + 4, none⟩ = some (.int .i64 far))
  (hc5 : w.cell? ⟨b, o + at_ * 8 + 5, none⟩ = some (.slice a kids.length c))
  (hc6 : w.cell? ⟨b, o + at_ * 8 + 6, none⟩ = some (.slice a2 thn.length c2))
  (hc7 : w.cell? ⟨b, o + at_ * 8 + 7, none⟩ = some (.slice a3 els.length c3))
  (hR1 : ∀ W, Below w.heap.size w W → Calls Tryz.prog 119 #[.pointer (some ⟨p, 0, none⟩), .int .i64 at_, .slice a kids.length c, .bool true] W fun e w' => e = .returned (.bool r1) ∧ Below W.heap.size W w')
  (hR2 : ∀ W, Below w.heap.size w W → Calls Tryz.prog 119 #[.pointer (some ⟨p, 0, none⟩), .int .i64 at_, .slice a2 thn.length c2, .bool false] W fun e w' => e = .returned (.bool r2) ∧ Below W.heap.size W w')
  (hR3 : ∀ W, Below w.heap.size w W → Calls Tryz.prog 119 #[.pointer (some ⟨p, 0, none⟩), .int .i64 at_, .slice a3 els.length c3, .bool false] W fun e w' => e = .returned (.bool r3) ∧ Below W.heap.size W w') :
  Calls Tryz.prog 118 #[.pointer (some ⟨p, 0, none⟩), .int .i64 at_] w fun e w' => e = .returned (.bool R) ∧ Below w.heap.size w w' := by
 have HO : Hid (R = ((decide (op = 0) && name.isEmpty && decide (num = 0) && decide (far = 0) && decide (1 ≤ kids.length ∧ kids.length ≤ 1)) && r1 && r2 && r3)) := hO
 have HR1 : Hid (∀ W, Below w.heap.size w W → Calls Tryz.prog 119 #[.pointer (some ⟨p, 0, none⟩), .int .i64 at_, .slice a kids.length c, .bool true] W fun e w' => e = .returned (.bool r1) ∧ Below W.heap.size W w') := hR1
 have HR2 : Hid (∀ W, Below w.heap.size w W → Calls Tryz.prog 119 #[.pointer (some ⟨p, 0, none⟩), .int .i64 at_, .slice a2 thn.length c2, .bool false] W fun e w' => e = .returned (.bool r2) ∧ Below W.heap.size W w') := hR2
 have HR3 : Hid (∀ W, Below w.heap.size w W → Calls Tryz.prog 119 #[.pointer (some ⟨p, 0, none⟩), .int .i64 at_, .slice a3 els.length c3, .bool false] W fun e w' => e = .returned (.bool r3) ∧ Below W.heap.size W w') := hR3
 have hI0 : (0 : Int) ≤ (at_ : Int) := by omega
 have hI1 : (at_ : Int) < (nn : Int) := by omega
 clear hO hR1 hR2 hR3
 go_enter Tryz.func118, Tryz.ntmps118
 go_wp2_with fail
 have hA := heap_alloc_new w (.cells #[.int .i64 9, .int .i64 op, .string (bs name), .int .i64 num, .int .i64 far, .slice a kids.length c, .slice a2 thn.length c2, .slice a3 els.length c3] 111)
 have hB : Below w.heap.size w (w.alloc (.cells #[.int .i64 9, .int .i64 op, .string (bs name), .int .i64 num, .int .i64 far, .slice a kids.length c, .slice a2 thn.length c2, .slice a3 els.length c3] 111)) := (Below.refl _ _).alloc (Nat.le_refl _) _
 generalize w.alloc (.cells #[.int .i64 9, .int .i64 op, .string (bs name), .int .i64 num, .int .i64 far, .slice a kids.length c, .slice a2 thn.length c2, .slice a3 els.length c3] 111) = W at *
 have d0 : W.cell? ⟨w.heap.size, 0, none⟩ = some (.int .i64 9) := cell_of_row _ _ 0 _ _ _ hA
 have d1 : W.cell? ⟨w.heap.size, 1, none⟩ = some (.int .i64 op) := cell_of_row _ _ 1 _ _ _ hA
 have d2 : W.cell? ⟨w.heap.size, 2, none⟩ = some (.string (bs name)) := cell_of_row _ _ 2 _ _ _ hA
 have d3 : W.cell? ⟨w.heap.size, 3, none⟩ = some (.int .i64 num) := cell_of_row _ _ 3 _ _ _ hA
 have d4 : W.cell? ⟨w.heap.size, 4, none⟩ = some (.int .i64 far) := cell_of_row _ _ 4 _ _ _ hA
 have d5 : W.cell? ⟨w.heap.size, 5, none⟩ = some (.slice a kids.length c) := cell_of_row _ _ 5 _ _ _ hA
 have d6 : W.cell? ⟨w.heap.size, 6, none⟩ = some (.slice a2 thn.length c2) := cell_of_row _ _ 6 _ _ _ hA
 have d7 : W.cell? ⟨w.heap.size, 7, none⟩ = some (.slice a3 els.length c3) := cell_of_row _ _ 7 _ _ _ hA
 have HB : Hid (Below w.heap.size w W) := hB
 have HA : Hid (W.heap[w.heap.size]? = some (.cells #[.int .i64 9, .int .i64 op, .string (bs name), .int .i64 num, .int .i64 far, .slice a kids.length c, .slice a2 thn.length c2, .slice a3 els.length c3] 111 (0, 0))) := hA
 clear hA hB hp1 hc0 hc1 hc2 hc3 hc4 hc5 hc6 hc7
 refine (l1In_any 9 1 11 _).mono ?_
 rintro e w1 ⟨rfl, rfl⟩
 have e1 : inB 9 1 11 = true := by decide
 rw [e1]
 clear e1
 go_wp2_with fail
 refine (l4Wants_any (⟨9, op, name, num, far, kids, thn, els⟩ : LNode) _ _ _ _ ⟨_, _, _, rfl⟩ ⟨_, _, _, rfl⟩ ⟨_, _, _, rfl⟩).mono ?_
 rintro e w2 ⟨rfl, hb⟩
 have e1 : wantsN 9 = (false, 1, false) := by decide
 simp only [wantsV, e1]
 clear e1
 have hA := blk HA.out hb
 have hB := HB.out.trans (hb.mono HB.out.size)
 clear HA HB hb d0 d1 d2 d3 d4 d5 d6 d7
 have HA : Hid (w2.heap[w.heap.size]? = some (.cells #[.int .i64 9, .int .i64 op, .string (bs name), .int .i64 num, .int .i64 far, .slice a kids.length c, .slice a2 thn.length c2, .slice a3 els.length c3] 111 (0, 0))) := hA
 have HB : Hid (Below w.heap.size w w2) := hB
 have d0 : w2.cell? ⟨w.heap.size, 0, none⟩ = some (.int .i64 9) := cell_of_row _ _ 0 _ _ _ hA
 have d1 : w2.cell? ⟨w.heap.size, 1, none⟩ = some (.int .i64 op) := cell_of_row _ _ 1 _ _ _ hA
 have d2 : w2.cell? ⟨w.heap.size, 2, none⟩ = some (.string (bs name)) := cell_of_row _ _ 2 _ _ _ hA
 have d3 : w2.cell? ⟨w.heap.size, 3, none⟩ = some (.int .i64 num) := cell_of_row _ _ 3 _ _ _ hA
 have d4 : w2.cell? ⟨w.heap.size, 4, none⟩ = some (.int .i64 far) := cell_of_row _ _ 4 _ _ _ hA
 have d5 : w2.cell? ⟨w.heap.size, 5, none⟩ = some (.slice a kids.length c) := cell_of_row _ _ 5 _ _ _ hA
 have d6 : w2.cell? ⟨w.heap.size, 6, none⟩ = some (.slice a2 thn.length c2) := cell_of_row _ _ 6 _ _ _ hA
 have d7 : w2.cell? ⟨w.heap.size, 7, none⟩ = some (.slice a3 els.length c3) := cell_of_row _ _ 7 _ _ _ hA
 clear hA hB
 go_wp2_with fail
 (try (rename_i kk hkk; simp only [List.append_eq, List.cons_append, List.nil_append] at hkk))
 refine (isName_any name _ (by omega)).mono ?_
 rintro e w3 ⟨rfl, hb⟩
 have hA := blk HA.out hb
 have hB := HB.out.trans (hb.mono HB.out.size)
 clear HA HB hb d0 d1 d2 d3 d4 d5 d6 d7
 have HA : Hid (w3.heap[w.heap.size]? = some (.cells #[.int .i64 9, .int .i64 op, .string (bs name), .int .i64 num, .int .i64 far, .slice a kids.length c, .slice a2 thn.length c2, .slice a3 els.length c3] 111 (0, 0))) := hA
 have HB : Hid (Below w.heap.size w w3) := hB
 have d0 : w3.cell? ⟨w.heap.size, 0, none⟩ = some (.int .i64 9) := cell_of_row _ _ 0 _ _ _ hA
 have d1 : w3.cell? ⟨w.heap.size, 1, none⟩ = some (.int .i64 op) := cell_of_row _ _ 1 _ _ _ hA
 have d2 : w3.cell? ⟨w.heap.size, 2, none⟩ = some (.string (bs name)) := cell_of_row _ _ 2 _ _ _ hA
 have d3 : w3.cell? ⟨w.heap.size, 3, none⟩ = some (.int .i64 num) := cell_of_row _ _ 3 _ _ _ hA
 have d4 : w3.cell? ⟨w.heap.size, 4, none⟩ = some (.int .i64 far) := cell_of_row _ _ 4 _ _ _ hA
 have d5 : w3.cell? ⟨w.heap.size, 5, none⟩ = some (.slice a kids.length c) := cell_of_row _ _ 5 _ _ _ hA
 have d6 : w3.cell? ⟨w.heap.size, 6, none⟩ = some (.slice a2 thn.length c2) := cell_of_row _ _ 6 _ _ _ hA
 have d7 : w3.cell? ⟨w.heap.size, 7, none⟩ = some (.slice a3 els.length c3) := cell_of_row _ _ 7 _ _ _ hA
 clear hA hB
 obtain ⟨qn, hqn⟩ : ∃ q, isNameL name = q := ⟨_, rfl⟩
 rw [hqn]
 by_cases qname : name = []
 ·have e1 : qn = false := by rw [← hqn, qname]; exact isNameL_nil
  subst e1
  (try simp only [])
  by_cases qk : kids.length = 1
  ·have hz1 : (((kids.length : Nat) : Int) == 1) = true := by rw [beq_iff_eq]; omega
   have hz2 : decide (((kids.length : Nat) : Int) = 1) = true := decide_eq_true (by omega)
   have hz6 : (((kids.length : Nat) : Int) != 1) = false := by rw [bne_eq_false_iff_eq]; omega
   have QK : Hid (kids.length = 1) := qk
   clear qk
   by_cases qnum : num = 0
   ·skip
    by_cases qfar : far = 0
    ·skip
     by_cases qop : op = 0
     ·skip
      go_wp2_with fail
      (try (rename_i kk hkk; simp only [List.append_eq, List.cons_append, List.nil_append] at hkk))
      refine (HR1.out _ HB.out).mono ?_
      rintro e w4 ⟨rfl, hb⟩
      have hA := blk HA.out hb
      have hB := HB.out.trans (hb.mono HB.out.size)
      clear HA HB hb d0 d1 d2 d3 d4 d5 d6 d7
      have HA : Hid (w4.heap[w.heap.size]? = some (.cells #[.int .i64 9, .int .i64 op, .string (bs name), .int .i64 num, .int .i64 far, .slice a kids.length c, .slice a2 thn.length c2, .slice a3 els.length c3] 111 (0, 0))) := hA
      have HB : Hid (Below w.heap.size w w4) := hB
      have d0 : w4.cell? ⟨w.heap.size, 0, none⟩ = some (.int .i64 9) := cell_of_row _ _ 0 _ _ _ hA
      have d1 : w4.cell? ⟨w.heap.size, 1, none⟩ = some (.int .i64 op) := cell_of_row _ _ 1 _ _ _ hA
      have d2 : w4.cell? ⟨w.heap.size, 2, none⟩ = some (.string (bs name)) := cell_of_row _ _ 2 _ _ _ hA
      have d3 : w4.cell? ⟨w.heap.size, 3, none⟩ = some (.int .i64 num) := cell_of_row _ _ 3 _ _ _ hA
      have d4 : w4.cell? ⟨w.heap.size, 4, none⟩ = some (.int .i64 far) := cell_of_row _ _ 4 _ _ _ hA
      have d5 : w4.cell? ⟨w.heap.size, 5, none⟩ = some (.slice a kids.length c) := cell_of_row _ _ 5 _ _ _ hA
      have d6 : w4.cell? ⟨w.heap.size, 6, none⟩ = some (.slice a2 thn.length c2) := cell_of_row _ _ 6 _ _ _ hA
      have d7 : w4.cell? ⟨w.heap.size, 7, none⟩ = some (.slice a3 els.length c3) := cell_of_row _ _ 7 _ _ _ hA
      clear hA hB
      cases r1 with
      | false =>
       (try simp only [])
       have HE : Hid (R = false) := by unfold Hid; rw [HO.out]; simp []
       clear HO
       go_wp2_with fail
       go_ret
       exact ⟨by rw [HE.out]; rfl, HB.out⟩
      | true =>
       (try simp only [])
       go_wp2_with fail
       refine (HR2.out _ HB.out).mono ?_
       rintro e w5 ⟨rfl, hb⟩
       have hA := blk HA.out hb
       have hB := HB.out.trans (hb.mono HB.out.size)
       clear HA HB hb d0 d1 d2 d3 d4 d5 d6 d7
       have HA : Hid (w5.heap[w.heap.size]? = some (.cells #[.int .i64 9, .int .i64 op, .string (bs name), .int .i64 num, .int .i64 far, .slice a kids.length c, .slice a2 thn.length c2, .slice a3 els.length c3] 111 (0, 0))) := hA
       have HB : Hid (Below w.heap.size w w5) := hB
       have d0 : w5.cell? ⟨w.heap.size, 0, none⟩ = some (.int .i64 9) := cell_of_row _ _ 0 _ _ _ hA
       have d1 : w5.cell? ⟨w.heap.size, 1, none⟩ = some (.int .i64 op) := cell_of_row _ _ 1 _ _ _ hA
       have d2 : w5.cell? ⟨w.heap.size, 2, none⟩ = some (.string (bs name)) := cell_of_row _ _ 2 _ _ _ hA
       have d3 : w5.cell? ⟨w.heap.size, 3, none⟩ = some (.int .i64 num) := cell_of_row _ _ 3 _ _ _ hA
       have d4 : w5.cell? ⟨w.heap.size, 4, none⟩ = some (.int .i64 far) := cell_of_row _ _ 4 _ _ _ hA
       have d5 : w5.cell? ⟨w.heap.size, 5, none⟩ = some (.slice a kids.length c) := cell_of_row _ _ 5 _ _ _ hA
       have d6 : w5.cell? ⟨w.heap.size, 6, none⟩ = some (.slice a2 thn.length c2) := cell_of_row _ _ 6 _ _ _ hA
       have d7 : w5.cell? ⟨w.heap.size, 7, none⟩ = some (.slice a3 els.length c3) := cell_of_row _ _ 7 _ _ _ hA
       clear hA hB
       cases r2 with
       | false =>
        (try simp only [])
        have HE : Hid (R = false) := by unfold Hid; rw [HO.out]; simp []
        clear HO
        go_wp2_with fail
        go_ret
        exact ⟨by rw [HE.out]; rfl, HB.out⟩
       | true =>
        (try simp only [])
        go_wp2_with fail
        refine (HR3.out _ HB.out).mono ?_
        rintro e w6 ⟨rfl, hb⟩
        have hA := blk HA.out hb
        have hB := HB.out.trans (hb.mono HB.out.size)
        clear HA HB hb d0 d1 d2 d3 d4 d5 d6 d7
        have HA : Hid (w6.heap[w.heap.size]? = some (.cells #[.int .i64 9, .int .i64 op, .string (bs name), .int .i64 num, .int .i64 far, .slice a kids.length c, .slice a2 thn.length c2, .slice a3 els.length c3] 111 (0, 0))) := hA
        have HB : Hid (Below w.heap.size w w6) := hB
        have d0 : w6.cell? ⟨w.heap.size, 0, none⟩ = some (.int .i64 9) := cell_of_row _ _ 0 _ _ _ hA
        have d1 : w6.cell? ⟨w.heap.size, 1, none⟩ = some (.int .i64 op) := cell_of_row _ _ 1 _ _ _ hA
        have d2 : w6.cell? ⟨w.heap.size, 2, none⟩ = some (.string (bs name)) := cell_of_row _ _ 2 _ _ _ hA
        have d3 : w6.cell? ⟨w.heap.size, 3, none⟩ = some (.int .i64 num) := cell_of_row _ _ 3 _ _ _ hA
        have d4 : w6.cell? ⟨w.heap.size, 4, none⟩ = some (.int .i64 far) := cell_of_row _ _ 4 _ _ _ hA
        have d5 : w6.cell? ⟨w.heap.size, 5, none⟩ = some (.slice a kids.length c) := cell_of_row _ _ 5 _ _ _ hA
        have d6 : w6.cell? ⟨w.heap.size, 6, none⟩ = some (.slice a2 thn.length c2) := cell_of_row _ _ 6 _ _ _ hA
        have d7 : w6.cell? ⟨w.heap.size, 7, none⟩ = some (.slice a3 els.length c3) := cell_of_row _ _ 7 _ _ _ hA
        clear hA hB
        have HE : Hid (R = r3) := by unfold Hid; rw [HO.out]; simp [qname, QK.out, qnum, qfar, qop]
        clear HO
        go_wp2_with fail
        go_ret
        exact ⟨by rw [HE.out]; rfl, HB.out⟩
     ·have hz1 : (op == 0) = false := by simpa using qop
      have hz2 : decide (op = 0) = false := decide_eq_false qop
      have HE : Hid (R = false) := by unfold Hid; rw [HO.out]; simp [qop]
      clear HO
      go_wp2_with fail
      go_ret
      exact ⟨by rw [HE.out]; rfl, HB.out⟩
    ·have hz1 : (far == 0) = false := by simpa using qfar
     have hz2 : decide (far = 0) = false := decide_eq_false qfar
     have HE : Hid (R = false) := by unfold Hid; rw [HO.out]; simp [qfar]
     clear HO
     go_wp2_with fail
     go_ret
     exact ⟨by rw [HE.out]; rfl, HB.out⟩
   ·have hz1 : (num == 0) = false := by simpa using qnum
    have hz2 : decide (num = 0) = false := decide_eq_false qnum
    have HE : Hid (R = false) := by unfold Hid; rw [HO.out]; simp [qnum]
    clear HO
    go_wp2_with fail
    go_ret
    exact ⟨by rw [HE.out]; rfl, HB.out⟩
  ·have hz1 : (((kids.length : Nat) : Int) == 1) = false := by rw [beq_eq_false_iff_ne]; omega
   have hz2 : decide (((kids.length : Nat) : Int) = 1) = false := decide_eq_false (by omega)
   have hz6 : (((kids.length : Nat) : Int) != 1) = true := by rw [bne_iff_ne]; omega
   have QK : Hid (¬ (1 ≤ kids.length ∧ kids.length ≤ 1)) := by unfold Hid; omega
   clear qk
   have HE : Hid (R = false) := by unfold Hid; rw [HO.out]; simp [QK.out]
   clear HO
   go_wp2_with fail
   go_ret
   exact ⟨by rw [HE.out]; rfl, HB.out⟩
 ·have hz1 : (name == []) = false := by simpa using qname
  have hz2 : decide (name = []) = false := decide_eq_false qname
  cases qn with
  | false =>
   (try simp only [])
   have HE : Hid (R = false) := by unfold Hid; rw [HO.out]; simp [qname]
   clear HO
   go_wp2_with fail
   go_ret
   exact ⟨by rw [HE.out]; rfl, HB.out⟩
  | true =>
   (try simp only [])
   have HE : Hid (R = false) := by unfold Hid; rw [HO.out]; simp [qname]
   clear HO
   go_wp2_with fail
   go_ret
   exact ⟨by rw [HE.out]; rfl, HB.out⟩
set_option maxHeartbeats 6400000 in
set_option maxRecDepth 100000 in
theorem rgt10 (R : Bool) (p at_ : Nat) (b o cn : Nat) (nn : Nat) (vv vb : Value) (op : Int) (name : List UInt8) (num far : Int) (kids thn els : List Int) (a a2 a3 : Option Addr) (c c2 c3 : Nat) (w : World) (hl : name.length ≤ 1048576) (hk1 : kids.length ≤ 1048576) (hk2 : thn.length ≤ 1048576) (hk3 : els.length ≤ 1048576)
  (r1 r2 r3 : Bool) (hO : R = ((decide (op = 0) && isNameL name && inB num 0 65535 && inB far 0 65535 && kids.isEmpty && els.isEmpty) && r1 && r2 && r3)) (hat : at_ < nn) (hp1 : w.cell? ⟨p, 1, none⟩ = some (.slice (some ⟨b, o, none⟩) nn cn))
  (hc0 : w.cell? ⟨b, o + at_ * 8, none⟩ = some (.int .i64 10))
  (hc1 : w.cell? ⟨b, o + at_ * 8 + 1, none⟩ = some (.int .i64 op))
  (hc2 : w.cell? ⟨b, o + at_ * 8 + 2, none⟩ = some (.string (bs name)))
  (hc3 : w.cell? ⟨b, o + at_ * 8 + 3, none⟩ = some (.int .i64 num))
  (hc4 : w.cell? ⟨b, o + at_ * 8 + 4, none⟩ = some (.int .i64 far))
  (hc5 : w.cell? ⟨b, o + at_ * 8 + 5, none⟩ = some (.slice a kids.length c))
  (hc6 : w.cell? ⟨b, o + at_ * 8 + 6, none⟩ = some (.slice a2 thn.length c2))
  (hc7 : w.cell? ⟨b, o + at_ * 8 + 7, none⟩ = some (.slice a3 els.length c3))
  (hR1 : ∀ W, Below w.heap.size w W → Calls Tryz.prog 119 #[.pointer (some ⟨p, 0, none⟩), .int .i64 at_, .slice a kids.length c, .bool true] W fun e w' => e = .returned (.bool r1) ∧ Below W.heap.size W w')
  (hR2 : ∀ W, Below w.heap.size w W → Calls Tryz.prog 119 #[.pointer (some ⟨p, 0, none⟩), .int .i64 at_, .slice a2 thn.length c2, .bool false] W fun e w' => e = .returned (.bool r2) ∧ Below W.heap.size W w')
  (hR3 : ∀ W, Below w.heap.size w W → Calls Tryz.prog 119 #[.pointer (some ⟨p, 0, none⟩), .int .i64 at_, .slice a3 els.length c3, .bool false] W fun e w' => e = .returned (.bool r3) ∧ Below W.heap.size W w') :
  Calls Tryz.prog 118 #[.pointer (some ⟨p, 0, none⟩), .int .i64 at_] w fun e w' => e = .returned (.bool R) ∧ Below w.heap.size w w' := by
 have HO : Hid (R = ((decide (op = 0) && isNameL name && inB num 0 65535 && inB far 0 65535 && kids.isEmpty && els.isEmpty) && r1 && r2 && r3)) := hO
 have HR1 : Hid (∀ W, Below w.heap.size w W → Calls Tryz.prog 119 #[.pointer (some ⟨p, 0, none⟩), .int .i64 at_, .slice a kids.length c, .bool true] W fun e w' => e = .returned (.bool r1) ∧ Below W.heap.size W w') := hR1
 have HR2 : Hid (∀ W, Below w.heap.size w W → Calls Tryz.prog 119 #[.pointer (some ⟨p, 0, none⟩), .int .i64 at_, .slice a2 thn.length c2, .bool false] W fun e w' => e = .returned (.bool r2) ∧ Below W.heap.size W w') := hR2
 have HR3 : Hid (∀ W, Below w.heap.size w W → Calls Tryz.prog 119 #[.pointer (some ⟨p, 0, none⟩), .int .i64 at_, .slice a3 els.length c3, .bool false] W fun e w' => e = .returned (.bool r3) ∧ Below W.heap.size W w') := hR3
 have hI0 : (0 : Int) ≤ (at_ : Int) := by omega
 have hI1 : (at_ : Int) < (nn : Int) := by omega
 clear hO hR1 hR2 hR3
 go_enter Tryz.func118, Tryz.ntmps118
 go_wp2_with fail
 have hA := heap_alloc_new w (.cells #[.int .i64 10, .int .i64 op, .string (bs name), .int .i64 num, .int .i64 far, .slice a kids.length c, .slice a2 thn.length c2, .slice a3 els.length c3] 111)
 have hB : Below w.heap.size w (w.alloc (.cells #[.int .i64 10, .int .i64 op, .string (bs name), .int .i64 num, .int .i64 far, .slice a kids.length c, .slice a2 thn.length c2, .slice a3 els.length c3] 111)) := (Below.refl _ _).alloc (Nat.le_refl _) _
 generalize w.alloc (.cells #[.int .i64 10, .int .i64 op, .string (bs name), .int .i64 num, .int .i64 far, .slice a kids.length c, .slice a2 thn.length c2, .slice a3 els.length c3] 111) = W at *
 have d0 : W.cell? ⟨w.heap.size, 0, none⟩ = some (.int .i64 10) := cell_of_row _ _ 0 _ _ _ hA
 have d1 : W.cell? ⟨w.heap.size, 1, none⟩ = some (.int .i64 op) := cell_of_row _ _ 1 _ _ _ hA
 have d2 : W.cell? ⟨w.heap.size, 2, none⟩ = some (.string (bs name)) := cell_of_row _ _ 2 _ _ _ hA
 have d3 : W.cell? ⟨w.heap.size, 3, none⟩ = some (.int .i64 num) := cell_of_row _ _ 3 _ _ _ hA
 have d4 : W.cell? ⟨w.heap.size, 4, none⟩ = some (.int .i64 far) := cell_of_row _ _ 4 _ _ _ hA
 have d5 : W.cell? ⟨w.heap.size, 5, none⟩ = some (.slice a kids.length c) := cell_of_row _ _ 5 _ _ _ hA
 have d6 : W.cell? ⟨w.heap.size, 6, none⟩ = some (.slice a2 thn.length c2) := cell_of_row _ _ 6 _ _ _ hA
 have d7 : W.cell? ⟨w.heap.size, 7, none⟩ = some (.slice a3 els.length c3) := cell_of_row _ _ 7 _ _ _ hA
 have HB : Hid (Below w.heap.size w W) := hB
 have HA : Hid (W.heap[w.heap.size]? = some (.cells #[.int .i64 10, .int .i64 op, .string (bs name), .int .i64 num, .int .i64 far, .slice a kids.length c, .slice a2 thn.length c2, .slice a3 els.length c3] 111 (0, 0))) := hA
 clear hA hB hp1 hc0 hc1 hc2 hc3 hc4 hc5 hc6 hc7
 refine (l1In_any 10 1 11 _).mono ?_
 rintro e w1 ⟨rfl, rfl⟩
 have e1 : inB 10 1 11 = true := by decide
 rw [e1]
 clear e1
 go_wp2_with fail
 refine (l4Wants_any (⟨10, op, name, num, far, kids, thn, els⟩ : LNode) _ _ _ _ ⟨_, _, _, rfl⟩ ⟨_, _, _, rfl⟩ ⟨_, _, _, rfl⟩).mono ?_
 rintro e w2 ⟨rfl, hb⟩
 have e1 : wantsN 10 = (true, 0, true) := by decide
 simp only [wantsV, e1]
 clear e1
 have hA := blk HA.out hb
 have hB := HB.out.trans (hb.mono HB.out.size)
 clear HA HB hb d0 d1 d2 d3 d4 d5 d6 d7
 have HA : Hid (w2.heap[w.heap.size]? = some (.cells #[.int .i64 10, .int .i64 op, .string (bs name), .int .i64 num, .int .i64 far, .slice a kids.length c, .slice a2 thn.length c2, .slice a3 els.length c3] 111 (0, 0))) := hA
 have HB : Hid (Below w.heap.size w w2) := hB
 have d0 : w2.cell? ⟨w.heap.size, 0, none⟩ = some (.int .i64 10) := cell_of_row _ _ 0 _ _ _ hA
 have d1 : w2.cell? ⟨w.heap.size, 1, none⟩ = some (.int .i64 op) := cell_of_row _ _ 1 _ _ _ hA
 have d2 : w2.cell? ⟨w.heap.size, 2, none⟩ = some (.string (bs name)) := cell_of_row _ _ 2 _ _ _ hA
 have d3 : w2.cell? ⟨w.heap.size, 3, none⟩ = some (.int .i64 num) := cell_of_row _ _ 3 _ _ _ hA
 have d4 : w2.cell? ⟨w.heap.size, 4, none⟩ = some (.int .i64 far) := cell_of_row _ _ 4 _ _ _ hA
 have d5 : w2.cell? ⟨w.heap.size, 5, none⟩ = some (.slice a kids.length c) := cell_of_row _ _ 5 _ _ _ hA
 have d6 : w2.cell? ⟨w.heap.size, 6, none⟩ = some (.slice a2 thn.length c2) := cell_of_row _ _ 6 _ _ _ hA
 have d7 : w2.cell? ⟨w.heap.size, 7, none⟩ = some (.slice a3 els.length c3) := cell_of_row _ _ 7 _ _ _ hA
 clear hA hB
 go_wp2_with fail
 (try (rename_i kk hkk; simp only [List.append_eq, List.cons_append, List.nil_append] at hkk))
 refine (isName_any name _ (by omega)).mono ?_
 rintro e w3 ⟨rfl, hb⟩
 have hA := blk HA.out hb
 have hB := HB.out.trans (hb.mono HB.out.size)
 clear HA HB hb d0 d1 d2 d3 d4 d5 d6 d7
 have HA : Hid (w3.heap[w.heap.size]? = some (.cells #[.int .i64 10, .int .i64 op, .string (bs name), .int .i64 num, .int .i64 far, .slice a kids.length c, .slice a2 thn.length c2, .slice a3 els.length c3] 111 (0, 0))) := hA
 have HB : Hid (Below w.heap.size w w3) := hB
 have d0 : w3.cell? ⟨w.heap.size, 0, none⟩ = some (.int .i64 10) := cell_of_row _ _ 0 _ _ _ hA
 have d1 : w3.cell? ⟨w.heap.size, 1, none⟩ = some (.int .i64 op) := cell_of_row _ _ 1 _ _ _ hA
 have d2 : w3.cell? ⟨w.heap.size, 2, none⟩ = some (.string (bs name)) := cell_of_row _ _ 2 _ _ _ hA
 have d3 : w3.cell? ⟨w.heap.size, 3, none⟩ = some (.int .i64 num) := cell_of_row _ _ 3 _ _ _ hA
 have d4 : w3.cell? ⟨w.heap.size, 4, none⟩ = some (.int .i64 far) := cell_of_row _ _ 4 _ _ _ hA
 have d5 : w3.cell? ⟨w.heap.size, 5, none⟩ = some (.slice a kids.length c) := cell_of_row _ _ 5 _ _ _ hA
 have d6 : w3.cell? ⟨w.heap.size, 6, none⟩ = some (.slice a2 thn.length c2) := cell_of_row _ _ 6 _ _ _ hA
 have d7 : w3.cell? ⟨w.heap.size, 7, none⟩ = some (.slice a3 els.length c3) := cell_of_row _ _ 7 _ _ _ hA
 clear hA hB
 obtain ⟨qn, hqn⟩ : ∃ q, isNameL name = q := ⟨_, rfl⟩
 rw [hqn]
 cases qn with
 | false =>
  (try simp only [])
  have HE : Hid (R = false) := by unfold Hid; rw [HO.out]; simp [hqn]
  clear HO
  go_wp2_with fail
  go_ret
  exact ⟨by rw [HE.out]; rfl, HB.out⟩
 | true =>
  (try simp only [])
  by_cases qk : kids.length = 0
  ·have hz1 : (((kids.length : Nat) : Int) == 0) = true := by rw [beq_iff_eq]; omega
   have hz2 : decide (((kids.length : Nat) : Int) = 0) = true := decide_eq_true (by omega)
   have hz6 : (((kids.length : Nat) : Int) != 0) = false := by rw [bne_eq_false_iff_eq]; omega
   have QK : Hid (kids = []) := List.length_eq_zero_iff.1 qk
   clear qk
   go_wp2_with fail
   (try (rename_i kk hkk; simp only [List.append_eq, List.cons_append, List.nil_append] at hkk))
   refine (l1Word_any num _).mono ?_
   rintro e w' ⟨rfl, rfl⟩
   obtain ⟨q, qnum⟩ : ∃ q, inB num 0 65535 = q := ⟨_, rfl⟩
   rw [qnum]
   cases q with
   | false =>
    (try simp only [])
    have HE : Hid (R = false) := by unfold Hid; rw [HO.out]; simp [qnum]
    clear HO
    go_wp2_with fail
    go_ret
    exact ⟨by rw [HE.out]; rfl, HB.out⟩
   | true =>
    (try simp only [])
    go_wp2_with fail
    (try (rename_i kk hkk; simp only [List.append_eq, List.cons_append, List.nil_append] at hkk))
    refine (l1Word_any far _).mono ?_
    rintro e w' ⟨rfl, rfl⟩
    obtain ⟨q, qfar⟩ : ∃ q, inB far 0 65535 = q := ⟨_, rfl⟩
    rw [qfar]
    cases q with
    | false =>
     (try simp only [])
     have HE : Hid (R = false) := by unfold Hid; rw [HO.out]; simp [qfar]
     clear HO
     go_wp2_with fail
     go_ret
     exact ⟨by rw [HE.out]; rfl, HB.out⟩
    | true =>
     (try simp only [])
     by_cases qop : op = 0
     ·skip
      by_cases qels : els = []
      ·rw [qels] at HR3
       simp only [List.length_nil] at HR3
       go_wp2_with fail
       (try (rename_i kk hkk; simp only [List.append_eq, List.cons_append, List.nil_append] at hkk))
       refine (HR1.out _ HB.out).mono ?_
       rintro e w4 ⟨rfl, hb⟩
       have hA := blk HA.out hb
       have hB := HB.out.trans (hb.mono HB.out.size)
       clear HA HB hb d0 d1 d2 d3 d4 d5 d6 d7
       have HA : Hid (w4.heap[w.heap.size]? = some (.cells #[.int .i64 10, .int .i64 op, .string (bs name), .int .i64 num, .int .i64 far, .slice a kids.length c, .slice a2 thn.length c2, .slice a3 els.length c3] 111 (0, 0))) := hA
       have HB : Hid (Below w.heap.size w w4) := hB
       have d0 : w4.cell? ⟨w.heap.size, 0, none⟩ = some (.int .i64 10) := cell_of_row _ _ 0 _ _ _ hA
       have d1 : w4.cell? ⟨w.heap.size, 1, none⟩ = some (.int .i64 op) := cell_of_row _ _ 1 _ _ _ hA
       have d2 : w4.cell? ⟨w.heap.size, 2, none⟩ = some (.string (bs name)) := cell_of_row _ _ 2 _ _ _ hA
       have d3 : w4.cell? ⟨w.heap.size, 3, none⟩ = some (.int .i64 num) := cell_of_row _ _ 3 _ _ _ hA
       have d4 : w4.cell? ⟨w.heap.size, 4, none⟩ = some (.int .i64 far) := cell_of_row _ _ 4 _ _ _ hA
       have d5 : w4.cell? ⟨w.heap.size, 5, none⟩ = some (.slice a kids.length c) := cell_of_row _ _ 5 _ _ _ hA
       have d6 : w4.cell? ⟨w.heap.size, 6, none⟩ = some (.slice a2 thn.length c2) := cell_of_row _ _ 6 _ _ _ hA
       have d7 : w4.cell? ⟨w.heap.size, 7, none⟩ = some (.slice a3 els.length c3) := cell_of_row _ _ 7 _ _ _ hA
       clear hA hB
       cases r1 with
       | false =>
        (try simp only [])
        have HE : Hid (R = false) := by unfold Hid; rw [HO.out]; simp []
        clear HO
        go_wp2_with fail
        go_ret
        exact ⟨by rw [HE.out]; rfl, HB.out⟩
       | true =>
        (try simp only [])
        go_wp2_with fail
        refine (HR2.out _ HB.out).mono ?_
        rintro e w5 ⟨rfl, hb⟩
        have hA := blk HA.out hb
        have hB := HB.out.trans (hb.mono HB.out.size)
        clear HA HB hb d0 d1 d2 d3 d4 d5 d6 d7
        have HA : Hid (w5.heap[w.heap.size]? = some (.cells #[.int .i64 10, .int .i64 op, .string (bs name), .int .i64 num, .int .i64 far, .slice a kids.length c, .slice a2 thn.length c2, .slice a3 els.length c3] 111 (0, 0))) := hA
        have HB : Hid (Below w.heap.size w w5) := hB
        have d0 : w5.cell? ⟨w.heap.size, 0, none⟩ = some (.int .i64 10) := cell_of_row _ _ 0 _ _ _ hA
        have d1 : w5.cell? ⟨w.heap.size, 1, none⟩ = some (.int .i64 op) := cell_of_row _ _ 1 _ _ _ hA
        have d2 : w5.cell? ⟨w.heap.size, 2, none⟩ = some (.string (bs name)) := cell_of_row _ _ 2 _ _ _ hA
        have d3 : w5.cell? ⟨w.heap.size, 3, none⟩ = some (.int .i64 num) := cell_of_row _ _ 3 _ _ _ hA
        have d4 : w5.cell? ⟨w.heap.size, 4, none⟩ = some (.int .i64 far) := cell_of_row _ _ 4 _ _ _ hA
        have d5 : w5.cell? ⟨w.heap.size, 5, none⟩ = some (.slice a kids.length c) := cell_of_row _ _ 5 _ _ _ hA
        have d6 : w5.cell? ⟨w.heap.size, 6, none⟩ = some (.slice a2 thn.length c2) := cell_of_row _ _ 6 _ _ _ hA
        have d7 : w5.cell? ⟨w.heap.size, 7, none⟩ = some (.slice a3 els.length c3) := cell_of_row _ _ 7 _ _ _ hA
        clear hA hB
        cases r2 with
        | false =>
         (try simp only [])
         have HE : Hid (R = false) := by unfold Hid; rw [HO.out]; simp []
         clear HO
         go_wp2_with fail
         go_ret
         exact ⟨by rw [HE.out]; rfl, HB.out⟩
        | true =>
         (try simp only [])
         go_wp2_with fail
         refine (HR3.out _ HB.out).mono ?_
         rintro e w6 ⟨rfl, hb⟩
         have hA := blk HA.out hb
         have hB := HB.out.trans (hb.mono HB.out.size)
         clear HA HB hb d0 d1 d2 d3 d4 d5 d6 d7
         have HA : Hid (w6.heap[w.heap.size]? = some (.cells #[.int .i64 10, .int .i64 op, .string (bs name), .int .i64 num, .int .i64 far, .slice a kids.length c, .slice a2 thn.length c2, .slice a3 els.length c3] 111 (0, 0))) := hA
         have HB : Hid (Below w.heap.size w w6) := hB
         have d0 : w6.cell? ⟨w.heap.size, 0, none⟩ = some (.int .i64 10) := cell_of_row _ _ 0 _ _ _ hA
         have d1 : w6.cell? ⟨w.heap.size, 1, none⟩ = some (.int .i64 op) := cell_of_row _ _ 1 _ _ _ hA
         have d2 : w6.cell? ⟨w.heap.size, 2, none⟩ = some (.string (bs name)) := cell_of_row _ _ 2 _ _ _ hA
         have d3 : w6.cell? ⟨w.heap.size, 3, none⟩ = some (.int .i64 num) := cell_of_row _ _ 3 _ _ _ hA
         have d4 : w6.cell? ⟨w.heap.size, 4, none⟩ = some (.int .i64 far) := cell_of_row _ _ 4 _ _ _ hA
         have d5 : w6.cell? ⟨w.heap.size, 5, none⟩ = some (.slice a kids.length c) := cell_of_row _ _ 5 _ _ _ hA
         have d6 : w6.cell? ⟨w.heap.size, 6, none⟩ = some (.slice a2 thn.length c2) := cell_of_row _ _ 6 _ _ _ hA
         have d7 : w6.cell? ⟨w.heap.size, 7, none⟩ = some (.slice a3 els.length c3) := cell_of_row _ _ 7 _ _ _ hA
         clear hA hB
         have HE : Hid (R = r3) := by unfold Hid; rw [HO.out]; simp [hqn, QK.out, qnum, qfar, qop, qels]
         clear HO
         go_wp2_with fail
         go_ret
         exact ⟨by rw [HE.out]; rfl, HB.out⟩
      ·have hz : 0 < els.length := List.length_pos_iff.2 qels
       have hz3 : decide ((0 : Int) < ((els.length : Nat) : Int)) = true := decide_eq_true (by omega)
       have HE : Hid (R = false) := by unfold Hid; rw [HO.out]; simp [qels]
       clear HO
       go_wp2_with fail
       go_ret
       exact ⟨by rw [HE.out]; rfl, HB.out⟩
     ·have hz1 : (op == 0) = false := by simpa using qop
      have hz2 : decide (op = 0) = false := decide_eq_false qop
      have HE : Hid (R = false) := by unfold Hid; rw [HO.out]; simp [qop]
      clear HO
      go_wp2_with fail
      go_ret
      exact ⟨by rw [HE.out]; rfl, HB.out⟩
  ·have hz1 : (((kids.length : Nat) : Int) == 0) = false := by rw [beq_eq_false_iff_ne]; omega
   have hz2 : decide (((kids.length : Nat) : Int) = 0) = false := decide_eq_false (by omega)
   have hz6 : (((kids.length : Nat) : Int) != 0) = true := by rw [bne_iff_ne]; omega
   have QK : Hid (¬ (kids = [])) := by unfold Hid; rintro rfl; exact qk rfl
   clear qk
   have HE : Hid (R = false) := by unfold Hid; rw [HO.out]; simp [QK.out]
   clear HO
   go_wp2_with fail
   go_ret
   exact ⟨by rw [HE.out]; rfl, HB.out⟩
set_option maxHeartbeats 6400000 in
set_option maxRecDepth 100000 in
theorem rgt11 (R : Bool) (p at_ : Nat) (b o cn : Nat) (nn : Nat) (vv vb : Value) (op : Int) (name : List UInt8) (num far : Int) (kids thn els : List Int) (a a2 a3 : Option Addr) (c c2 c3 : Nat) (w : World) (hl : name.length ≤ 1048576) (hk1 : kids.length ≤ 1048576) (hk2 : thn.length ≤ 1048576) (hk3 : els.length ≤ 1048576)
  (r1 r2 r3 : Bool) (hO : R = ((inB op 1 4 && isNameL name && decide (num = 0) && decide (far = 0) && decide (1 ≤ kids.length ∧ kids.length ≤ 3) && thn.isEmpty && els.isEmpty) && r1 && r2 && r3)) (hat : at_ < nn) (hp1 : w.cell? ⟨p, 1, none⟩ = some (.slice (some ⟨b, o, none⟩) nn cn))
  (hc0 : w.cell? ⟨b, o + at_ * 8, none⟩ = some (.int .i64 11))
  (hc1 : w.cell? ⟨b, o + at_ * 8 + 1, none⟩ = some (.int .i64 op))
  (hc2 : w.cell? ⟨b, o + at_ * 8 + 2, none⟩ = some (.string (bs name)))
  (hc3 : w.cell? ⟨b, o + at_ * 8 + 3, none⟩ = some (.int .i64 num))
  (hc4 : w.cell? ⟨b, o + at_ * 8 + 4, none⟩ = some (.int .i64 far))
  (hc5 : w.cell? ⟨b, o + at_ * 8 + 5, none⟩ = some (.slice a kids.length c))
  (hc6 : w.cell? ⟨b, o + at_ * 8 + 6, none⟩ = some (.slice a2 thn.length c2))
  (hc7 : w.cell? ⟨b, o + at_ * 8 + 7, none⟩ = some (.slice a3 els.length c3))
  (hR1 : ∀ W, Below w.heap.size w W → Calls Tryz.prog 119 #[.pointer (some ⟨p, 0, none⟩), .int .i64 at_, .slice a kids.length c, .bool true] W fun e w' => e = .returned (.bool r1) ∧ Below W.heap.size W w')
  (hR2 : ∀ W, Below w.heap.size w W → Calls Tryz.prog 119 #[.pointer (some ⟨p, 0, none⟩), .int .i64 at_, .slice a2 thn.length c2, .bool false] W fun e w' => e = .returned (.bool r2) ∧ Below W.heap.size W w')
  (hR3 : ∀ W, Below w.heap.size w W → Calls Tryz.prog 119 #[.pointer (some ⟨p, 0, none⟩), .int .i64 at_, .slice a3 els.length c3, .bool false] W fun e w' => e = .returned (.bool r3) ∧ Below W.heap.size W w') :
  Calls Tryz.prog 118 #[.pointer (some ⟨p, 0, none⟩), .int .i64 at_] w fun e w' => e = .returned (.bool R) ∧ Below w.heap.size w w' := by
 have HO : Hid (R = ((inB op 1 4 && isNameL name && decide (num = 0) && decide (far = 0) && decide (1 ≤ kids.length ∧ kids.length ≤ 3) && thn.isEmpty && els.isEmpty) && r1 && r2 && r3)) := hO
 have HR1 : Hid (∀ W, Below w.heap.size w W → Calls Tryz.prog 119 #[.pointer (some ⟨p, 0, none⟩), .int .i64 at_, .slice a kids.length c, .bool true] W fun e w' => e = .returned (.bool r1) ∧ Below W.heap.size W w') := hR1
 have HR2 : Hid (∀ W, Below w.heap.size w W → Calls Tryz.prog 119 #[.pointer (some ⟨p, 0, none⟩), .int .i64 at_, .slice a2 thn.length c2, .bool false] W fun e w' => e = .returned (.bool r2) ∧ Below W.heap.size W w') := hR2
 have HR3 : Hid (∀ W, Below w.heap.size w W → Calls Tryz.prog 119 #[.pointer (some ⟨p, 0, none⟩), .int .i64 at_, .slice a3 els.length c3, .bool false] W fun e w' => e = .returned (.bool r3) ∧ Below W.heap.size W w') := hR3
 have hI0 : (0 : Int) ≤ (at_ : Int) := by omega
 have hI1 : (at_ : Int) < (nn : Int) := by omega
 clear hO hR1 hR2 hR3
 go_enter Tryz.func118, Tryz.ntmps118
 go_wp2_with fail
 have hA := heap_alloc_new w (.cells #[.int .i64 11, .int .i64 op, .string (bs name), .int .i64 num, .int .i64 far, .slice a kids.length c, .slice a2 thn.length c2, .slice a3 els.length c3] 111)
 have hB : Below w.heap.size w (w.alloc (.cells #[.int .i64 11, .int .i64 op, .string (bs name), .int .i64 num, .int .i64 far, .slice a kids.length c, .slice a2 thn.length c2, .slice a3 els.length c3] 111)) := (Below.refl _ _).alloc (Nat.le_refl _) _
 generalize w.alloc (.cells #[.int .i64 11, .int .i64 op, .string (bs name), .int .i64 num, .int .i64 far, .slice a kids.length c, .slice a2 thn.length c2, .slice a3 els.length c3] 111) = W at *
 have d0 : W.cell? ⟨w.heap.size, 0, none⟩ = some (.int .i64 11) := cell_of_row _ _ 0 _ _ _ hA
 have d1 : W.cell? ⟨w.heap.size, 1, none⟩ = some (.int .i64 op) := cell_of_row _ _ 1 _ _ _ hA
 have d2 : W.cell? ⟨w.heap.size, 2, none⟩ = some (.string (bs name)) := cell_of_row _ _ 2 _ _ _ hA
 have d3 : W.cell? ⟨w.heap.size, 3, none⟩ = some (.int .i64 num) := cell_of_row _ _ 3 _ _ _ hA
 have d4 : W.cell? ⟨w.heap.size, 4, none⟩ = some (.int .i64 far) := cell_of_row _ _ 4 _ _ _ hA
 have d5 : W.cell? ⟨w.heap.size, 5, none⟩ = some (.slice a kids.length c) := cell_of_row _ _ 5 _ _ _ hA
 have d6 : W.cell? ⟨w.heap.size, 6, none⟩ = some (.slice a2 thn.length c2) := cell_of_row _ _ 6 _ _ _ hA
 have d7 : W.cell? ⟨w.heap.size, 7, none⟩ = some (.slice a3 els.length c3) := cell_of_row _ _ 7 _ _ _ hA
 have HB : Hid (Below w.heap.size w W) := hB
 have HA : Hid (W.heap[w.heap.size]? = some (.cells #[.int .i64 11, .int .i64 op, .string (bs name), .int .i64 num, .int .i64 far, .slice a kids.length c, .slice a2 thn.length c2, .slice a3 els.length c3] 111 (0, 0))) := hA
 clear hA hB hp1 hc0 hc1 hc2 hc3 hc4 hc5 hc6 hc7
 refine (l1In_any 11 1 11 _).mono ?_
 rintro e w1 ⟨rfl, rfl⟩
 have e1 : inB 11 1 11 = true := by decide
 rw [e1]
 clear e1
 go_wp2_with fail
 refine (l4Wants_any (⟨11, op, name, num, far, kids, thn, els⟩ : LNode) _ _ _ _ ⟨_, _, _, rfl⟩ ⟨_, _, _, rfl⟩ ⟨_, _, _, rfl⟩).mono ?_
 rintro e w2 ⟨rfl, hb⟩
 have e1 : wantsN 11 = (true, -1, false) := by decide
 simp only [wantsV, e1]
 clear e1
 have hA := blk HA.out hb
 have hB := HB.out.trans (hb.mono HB.out.size)
 clear HA HB hb d0 d1 d2 d3 d4 d5 d6 d7
 have HA : Hid (w2.heap[w.heap.size]? = some (.cells #[.int .i64 11, .int .i64 op, .string (bs name), .int .i64 num, .int .i64 far, .slice a kids.length c, .slice a2 thn.length c2, .slice a3 els.length c3] 111 (0, 0))) := hA
 have HB : Hid (Below w.heap.size w w2) := hB
 have d0 : w2.cell? ⟨w.heap.size, 0, none⟩ = some (.int .i64 11) := cell_of_row _ _ 0 _ _ _ hA
 have d1 : w2.cell? ⟨w.heap.size, 1, none⟩ = some (.int .i64 op) := cell_of_row _ _ 1 _ _ _ hA
 have d2 : w2.cell? ⟨w.heap.size, 2, none⟩ = some (.string (bs name)) := cell_of_row _ _ 2 _ _ _ hA
 have d3 : w2.cell? ⟨w.heap.size, 3, none⟩ = some (.int .i64 num) := cell_of_row _ _ 3 _ _ _ hA
 have d4 : w2.cell? ⟨w.heap.size, 4, none⟩ = some (.int .i64 far) := cell_of_row _ _ 4 _ _ _ hA
 have d5 : w2.cell? ⟨w.heap.size, 5, none⟩ = some (.slice a kids.length c) := cell_of_row _ _ 5 _ _ _ hA
 have d6 : w2.cell? ⟨w.heap.size, 6, none⟩ = some (.slice a2 thn.length c2) := cell_of_row _ _ 6 _ _ _ hA
 have d7 : w2.cell? ⟨w.heap.size, 7, none⟩ = some (.slice a3 els.length c3) := cell_of_row _ _ 7 _ _ _ hA
 clear hA hB
 go_wp2_with fail
 (try (rename_i kk hkk; simp only [List.append_eq, List.cons_append, List.nil_append] at hkk))
 refine (isName_any name _ (by omega)).mono ?_
 rintro e w3 ⟨rfl, hb⟩
 have hA := blk HA.out hb
 have hB := HB.out.trans (hb.mono HB.out.size)
 clear HA HB hb d0 d1 d2 d3 d4 d5 d6 d7
 have HA : Hid (w3.heap[w.heap.size]? = some (.cells #[.int .i64 11, .int .i64 op, .string (bs name), .int .i64 num, .int .i64 far, .slice a kids.length c, .slice a2 thn.length c2, .slice a3 els.length c3] 111 (0, 0))) := hA
 have HB : Hid (Below w.heap.size w w3) := hB
 have d0 : w3.cell? ⟨w.heap.size, 0, none⟩ = some (.int .i64 11) := cell_of_row _ _ 0 _ _ _ hA
 have d1 : w3.cell? ⟨w.heap.size, 1, none⟩ = some (.int .i64 op) := cell_of_row _ _ 1 _ _ _ hA
 have d2 : w3.cell? ⟨w.heap.size, 2, none⟩ = some (.string (bs name)) := cell_of_row _ _ 2 _ _ _ hA
 have d3 : w3.cell? ⟨w.heap.size, 3, none⟩ = some (.int .i64 num) := cell_of_row _ _ 3 _ _ _ hA
 have d4 : w3.cell? ⟨w.heap.size, 4, none⟩ = some (.int .i64 far) := cell_of_row _ _ 4 _ _ _ hA
 have d5 : w3.cell? ⟨w.heap.size, 5, none⟩ = some (.slice a kids.length c) := cell_of_row _ _ 5 _ _ _ hA
 have d6 : w3.cell? ⟨w.heap.size, 6, none⟩ = some (.slice a2 thn.length c2) := cell_of_row _ _ 6 _ _ _ hA
 have d7 : w3.cell? ⟨w.heap.size, 7, none⟩ = some (.slice a3 els.length c3) := cell_of_row _ _ 7 _ _ _ hA
 clear hA hB
 obtain ⟨qn, hqn⟩ : ∃ q, isNameL name = q := ⟨_, rfl⟩
 rw [hqn]
 cases qn with
 | false =>
  (try simp only [])
  have HE : Hid (R = false) := by unfold Hid; rw [HO.out]; simp [hqn]
  clear HO
  go_wp2_with fail
  go_ret
  exact ⟨by rw [HE.out]; rfl, HB.out⟩
 | true =>
  (try simp only [])
  go_wp2_with fail
  (try (rename_i kk hkk; simp only [List.append_eq, List.cons_append, List.nil_append] at hkk))
  refine (l1In_any (kids.length : Int) 1 3 _).mono ?_
  rintro e w' ⟨rfl, rfl⟩
  obtain ⟨q, qk⟩ : ∃ q, inB (kids.length : Int) 1 3 = q := ⟨_, rfl⟩
  rw [qk]
  cases q with
  | false =>
   (try simp only [])
   have QK : Hid (¬ (1 ≤ kids.length ∧ kids.length ≤ 3)) := by unfold Hid; have := inB_no.1 qk; omega
   have HE : Hid (R = false) := by unfold Hid; rw [HO.out]; simp [QK.out]
   clear HO
   go_wp2_with fail
   go_ret
   exact ⟨by rw [HE.out]; rfl, HB.out⟩
  | true =>
   (try simp only [])
   have QK : Hid (1 ≤ kids.length ∧ kids.length ≤ 3) := by unfold Hid; have := inB_iff.1 qk; omega
   by_cases qnum : num = 0
   ·skip
    by_cases qfar : far = 0
    ·skip
     go_wp2_with fail
     (try (rename_i kk hkk; simp only [List.append_eq, List.cons_append, List.nil_append] at hkk))
     refine (l1In_any op 1 4 _).mono ?_
     rintro e w' ⟨rfl, rfl⟩
     obtain ⟨q, qop⟩ : ∃ q, inB op 1 4 = q := ⟨_, rfl⟩
     rw [qop]
     cases q with
     | false =>
      (try simp only [])
      have HE : Hid (R = false) := by unfold Hid; rw [HO.out]; simp [qop]
      clear HO
      go_wp2_with fail
      go_ret
      exact ⟨by rw [HE.out]; rfl, HB.out⟩
     | true =>
      (try simp only [])
      by_cases qels : els = []
      ·rw [qels] at HR3
       simp only [List.length_nil] at HR3
       by_cases qthn : thn = []
       ·rw [qthn] at HR2
        simp only [List.length_nil] at HR2
        go_wp2_with fail
        (try (rename_i kk hkk; simp only [List.append_eq, List.cons_append, List.nil_append] at hkk))
        refine (HR1.out _ HB.out).mono ?_
        rintro e w4 ⟨rfl, hb⟩
        have hA := blk HA.out hb
        have hB := HB.out.trans (hb.mono HB.out.size)
        clear HA HB hb d0 d1 d2 d3 d4 d5 d6 d7
        have HA : Hid (w4.heap[w.heap.size]? = some (.cells #[.int .i64 11, .int .i64 op, .string (bs name), .int .i64 num, .int .i64 far, .slice a kids.length c, .slice a2 thn.length c2, .slice a3 els.length c3] 111 (0, 0))) := hA
        have HB : Hid (Below w.heap.size w w4) := hB
        have d0 : w4.cell? ⟨w.heap.size, 0, none⟩ = some (.int .i64 11) := cell_of_row _ _ 0 _ _ _ hA
        have d1 : w4.cell? ⟨w.heap.size, 1, none⟩ = some (.int .i64 op) := cell_of_row _ _ 1 _ _ _ hA
        have d2 : w4.cell? ⟨w.heap.size, 2, none⟩ = some (.string (bs name)) := cell_of_row _ _ 2 _ _ _ hA
        have d3 : w4.cell? ⟨w.heap.size, 3, none⟩ = some (.int .i64 num) := cell_of_row _ _ 3 _ _ _ hA
        have d4 : w4.cell? ⟨w.heap.size, 4, none⟩ = some (.int .i64 far) := cell_of_row _ _ 4 _ _ _ hA
        have d5 : w4.cell? ⟨w.heap.size, 5, none⟩ = some (.slice a kids.length c) := cell_of_row _ _ 5 _ _ _ hA
        have d6 : w4.cell? ⟨w.heap.size, 6, none⟩ = some (.slice a2 thn.length c2) := cell_of_row _ _ 6 _ _ _ hA
        have d7 : w4.cell? ⟨w.heap.size, 7, none⟩ = some (.slice a3 els.length c3) := cell_of_row _ _ 7 _ _ _ hA
        clear hA hB
        cases r1 with
        | false =>
         (try simp only [])
         have HE : Hid (R = false) := by unfold Hid; rw [HO.out]; simp []
         clear HO
         go_wp2_with fail
         go_ret
         exact ⟨by rw [HE.out]; rfl, HB.out⟩
        | true =>
         (try simp only [])
         go_wp2_with fail
         refine (HR2.out _ HB.out).mono ?_
         rintro e w5 ⟨rfl, hb⟩
         have hA := blk HA.out hb
         have hB := HB.out.trans (hb.mono HB.out.size)
         clear HA HB hb d0 d1 d2 d3 d4 d5 d6 d7
         have HA : Hid (w5.heap[w.heap.size]? = some (.cells #[.int .i64 11, .int .i64 op, .string (bs name), .int .i64 num, .int .i64 far, .slice a kids.length c, .slice a2 thn.length c2, .slice a3 els.length c3] 111 (0, 0))) := hA
         have HB : Hid (Below w.heap.size w w5) := hB
         have d0 : w5.cell? ⟨w.heap.size, 0, none⟩ = some (.int .i64 11) := cell_of_row _ _ 0 _ _ _ hA
         have d1 : w5.cell? ⟨w.heap.size, 1, none⟩ = some (.int .i64 op) := cell_of_row _ _ 1 _ _ _ hA
         have d2 : w5.cell? ⟨w.heap.size, 2, none⟩ = some (.string (bs name)) := cell_of_row _ _ 2 _ _ _ hA
         have d3 : w5.cell? ⟨w.heap.size, 3, none⟩ = some (.int .i64 num) := cell_of_row _ _ 3 _ _ _ hA
         have d4 : w5.cell? ⟨w.heap.size, 4, none⟩ = some (.int .i64 far) := cell_of_row _ _ 4 _ _ _ hA
         have d5 : w5.cell? ⟨w.heap.size, 5, none⟩ = some (.slice a kids.length c) := cell_of_row _ _ 5 _ _ _ hA
         have d6 : w5.cell? ⟨w.heap.size, 6, none⟩ = some (.slice a2 thn.length c2) := cell_of_row _ _ 6 _ _ _ hA
         have d7 : w5.cell? ⟨w.heap.size, 7, none⟩ = some (.slice a3 els.length c3) := cell_of_row _ _ 7 _ _ _ hA
         clear hA hB
         cases r2 with
         | false =>
          (try simp only [])
          have HE : Hid (R = false) := by unfold Hid; rw [HO.out]; simp []
          clear HO
          go_wp2_with fail
          go_ret
          exact ⟨by rw [HE.out]; rfl, HB.out⟩
         | true =>
          (try simp only [])
          go_wp2_with fail
          refine (HR3.out _ HB.out).mono ?_
          rintro e w6 ⟨rfl, hb⟩
          have hA := blk HA.out hb
          have hB := HB.out.trans (hb.mono HB.out.size)
          clear HA HB hb d0 d1 d2 d3 d4 d5 d6 d7
          have HA : Hid (w6.heap[w.heap.size]? = some (.cells #[.int .i64 11, .int .i64 op, .string (bs name), .int .i64 num, .int .i64 far, .slice a kids.length c, .slice a2 thn.length c2, .slice a3 els.length c3] 111 (0, 0))) := hA
          have HB : Hid (Below w.heap.size w w6) := hB
          have d0 : w6.cell? ⟨w.heap.size, 0, none⟩ = some (.int .i64 11) := cell_of_row _ _ 0 _ _ _ hA
          have d1 : w6.cell? ⟨w.heap.size, 1, none⟩ = some (.int .i64 op) := cell_of_row _ _ 1 _ _ _ hA
          have d2 : w6.cell? ⟨w.heap.size, 2, none⟩ = some (.string (bs name)) := cell_of_row _ _ 2 _ _ _ hA
          have d3 : w6.cell? ⟨w.heap.size, 3, none⟩ = some (.int .i64 num) := cell_of_row _ _ 3 _ _ _ hA
          have d4 : w6.cell? ⟨w.heap.size, 4, none⟩ = some (.int .i64 far) := cell_of_row _ _ 4 _ _ _ hA
          have d5 : w6.cell? ⟨w.heap.size, 5, none⟩ = some (.slice a kids.length c) := cell_of_row _ _ 5 _ _ _ hA
          have d6 : w6.cell? ⟨w.heap.size, 6, none⟩ = some (.slice a2 thn.length c2) := cell_of_row _ _ 6 _ _ _ hA
          have d7 : w6.cell? ⟨w.heap.size, 7, none⟩ = some (.slice a3 els.length c3) := cell_of_row _ _ 7 _ _ _ hA
          clear hA hB
          have HE : Hid (R = r3) := by unfold Hid; rw [HO.out]; simp [hqn, QK.out, qnum, qfar, qop, qels, qthn]
          clear HO
          go_wp2_with fail
          go_ret
          exact ⟨by rw [HE.out]; rfl, HB.out⟩
       ·have hz : 0 < thn.length := List.length_pos_iff.2 qthn
        have hz3 : decide ((0 : Int) < ((thn.length : Nat) : Int)) = true := decide_eq_true (by omega)
        have HE : Hid (R = false) := by unfold Hid; rw [HO.out]; simp [qthn]
        clear HO
        go_wp2_with fail
        go_ret
        exact ⟨by rw [HE.out]; rfl, HB.out⟩
      ·have hz : 0 < els.length := List.length_pos_iff.2 qels
       have hz3 : decide ((0 : Int) < ((els.length : Nat) : Int)) = true := decide_eq_true (by omega)
       have HE : Hid (R = false) := by unfold Hid; rw [HO.out]; simp [qels]
       clear HO
       go_wp2_with fail
       go_ret
       exact ⟨by rw [HE.out]; rfl, HB.out⟩
    ·have hz1 : (far == 0) = false := by simpa using qfar
     have hz2 : decide (far = 0) = false := decide_eq_false qfar
     have HE : Hid (R = false) := by unfold Hid; rw [HO.out]; simp [qfar]
     clear HO
     go_wp2_with fail
     go_ret
     exact ⟨by rw [HE.out]; rfl, HB.out⟩
   ·have hz1 : (num == 0) = false := by simpa using qnum
    have hz2 : decide (num = 0) = false := decide_eq_false qnum
    have HE : Hid (R = false) := by unfold Hid; rw [HO.out]; simp [qnum]
    clear HO
    go_wp2_with fail
    go_ret
    exact ⟨by rw [HE.out]; rfl, HB.out⟩
set_option maxHeartbeats 3200000 in
set_option maxRecDepth 100000 in
theorem rgt0 (R : Bool) (p at_ : Nat) (b o cn : Nat) (nn : Nat) (K op : Int) (name : List UInt8) (num far : Int) (kids thn els : List Int) (a a2 a3 : Option Addr) (c c2 c3 : Nat) (w : World) (hK : inB K 1 11 = false) (hR : R = false)
  (hat : at_ < nn) (hp1 : w.cell? ⟨p, 1, none⟩ = some (.slice (some ⟨b, o, none⟩) nn cn))
  (hc : NodeCells w b (o + at_ * 8) ⟨K, op, name, num, far, kids, thn, els⟩ (.slice a kids.length c) (.slice a2 thn.length c2) (.slice a3 els.length c3)) :
  Calls Tryz.prog 118 #[.pointer (some ⟨p, 0, none⟩), .int .i64 at_] w fun e w' => e = .returned (.bool R) ∧ Below w.heap.size w w' := by
 obtain ⟨d0, d1, d2, d3, d4, d5, d6, d7⟩ := hc
 have HW0 : Hid (∀ w, Calls Tryz.prog 64 #[.int .i64 K, .int .i64 1, .int .i64 11] w fun e w' => e = .returned (.bool false) ∧ w' = w) := fun w => by have h := l1In_any K 1 11 w; rwa [hK] at h
 have HR : Hid (R = false) := hR
 have hI0 : (0 : Int) ≤ (at_ : Int) := by omega
 have hI1 : (at_ : Int) < (nn : Int) := by omega
 clear hK hR
 simp only at d0 d1 d2 d3 d4 d5 d6 d7
 go_enter Tryz.func118, Tryz.ntmps118
 go_wp2_with fail
 have hB : Below w.heap.size w (w.alloc (.cells #[.int .i64 K, .int .i64 op, .string (bs name), .int .i64 num, .int .i64 far, .slice a kids.length c, .slice a2 thn.length c2, .slice a3 els.length c3] 111)) := (Below.refl _ _).alloc (Nat.le_refl _) _
 generalize w.alloc (.cells #[.int .i64 K, .int .i64 op, .string (bs name), .int .i64 num, .int .i64 far, .slice a kids.length c, .slice a2 thn.length c2, .slice a3 els.length c3] 111) = W at *
 refine (HW0.out _).mono ?_
 rintro e w1 ⟨rfl, rfl⟩
 go_wp2_with fail
 go_ret
 exact ⟨by rw [HR.out]; rfl, hB⟩
set_option maxHeartbeats 3200000 in
theorem l4Right_any (lo p : Nat) (vv vn vb : Value) (T : LTree) (k : Nat) (w : World) (h : TreeP lo w p vv vn vb T) (hS : Sized 1048576 T) (hn : T.nodes.length ≤ 200) (hk : k < T.nodes.length) :
  Calls Tryz.prog 118 #[.pointer (some ⟨p, 0, none⟩), .int .i64 k] w fun e w' => e = .returned (.bool (rightB T.nodes k)) ∧ Below w.heap.size w w' := by
 obtain ⟨an, cn, rfl, _, hhn⟩ := id h.tree.nodes
 obtain ⟨b, o, rfl, _, hc2⟩ := hhn (by intro e; rw [e] at hk; simp at hk)
 obtain ⟨y, hy⟩ : ∃ y, T.nodes[k]? = some y := ⟨T.nodes[k], List.getElem?_eq_getElem hk⟩
 obtain ⟨vk, vt, ve, hcs, hvs⟩ := hc2 k y hy
 have hsz := hS.node y (List.mem_of_getElem? hy)
 have hgd : T.nodes.getD k default = y := by rw [List.getD_eq_getElem?_getD, hy]; rfl
 have hR : ∀ (v : Value) (l : List Int) (e : Bool), IntsV lo w v l → l.length ≤ 1048576 → ∀ W, Below w.heap.size w W → Calls Tryz.prog 119 #[.pointer (some ⟨p, 0, none⟩), .int .i64 k, v, .bool e] W fun e' w' => e' = .returned (.bool (refsB T.nodes k l e)) ∧ Below W.heap.size W w' :=
  fun v l e hv hl W hb => l4Refs_any lo p _ _ _ v T k l e lo W (h.below hb) (by omega) hn (hv.below hb) hl
 have h1 := hR vk y.kids true hvs.kids hsz.2.1
 have h2 := hR vt y.thn false hvs.thn hsz.2.2.1
 have h3 := hR ve y.els false hvs.els hsz.2.2.2
 have hO : rightB T.nodes k = (ownB y && refsB T.nodes k y.kids true && refsB T.nodes k y.thn false && refsB T.nodes k y.els false) := by rw [rightB_eq, hgd]
 obtain ⟨ak, ck, rfl, _⟩ := id hvs.kids
 obtain ⟨at2, ct, rfl, _⟩ := id hvs.thn
 obtain ⟨ae, ce, rfl, _⟩ := id hvs.els
 obtain ⟨K, op, name, num, far, kids, thn, els⟩ := y
 have hcs2 := hcs
 obtain ⟨d0, d1, d2, d3, d4, d5, d6, d7⟩ := hcs
 by_cases hK : inB K 1 11 = true
 ·have hh := inB_iff.1 hK
  have : K = 1 ∨ K = 2 ∨ K = 3 ∨ K = 4 ∨ K = 5 ∨ K = 6 ∨ K = 7 ∨ K = 8 ∨ K = 9 ∨ K = 10 ∨ K = 11 := by omega
  rcases this with rfl | rfl | rfl | rfl | rfl | rfl | rfl | rfl | rfl | rfl | rfl
  ·exact rgt1 _ p k b o cn T.nodes.length vv vb op name num far kids thn els ak at2 ae ck ct ce w hsz.1 hsz.2.1 hsz.2.2.1 hsz.2.2.2 _ _ _ (by rw [hO, ownK1]) hk h.c1 d0 d1 d2 d3 d4 d5 d6 d7 h1 h2 h3
  ·exact rgt2 _ p k b o cn T.nodes.length vv vb op name num far kids thn els ak at2 ae ck ct ce w hsz.1 hsz.2.1 hsz.2.2.1 hsz.2.2.2 _ _ _ (by rw [hO, ownK2]) hk h.c1 d0 d1 d2 d3 d4 d5 d6 d7 h1 h2 h3
  ·exact rgt3 _ p k b o cn T.nodes.length vv vb op name num far kids thn els ak at2 ae ck ct ce w hsz.1 hsz.2.1 hsz.2.2.1 hsz.2.2.2 _ _ _ (by rw [hO, ownK3]) hk h.c1 d0 d1 d2 d3 d4 d5 d6 d7 h1 h2 h3
  ·exact rgt4 _ p k b o cn T.nodes.length vv vb op name num far kids thn els ak at2 ae ck ct ce w hsz.1 hsz.2.1 hsz.2.2.1 hsz.2.2.2 _ _ _ (by rw [hO, ownK4]) hk h.c1 d0 d1 d2 d3 d4 d5 d6 d7 h1 h2 h3
  ·exact rgt5 _ p k b o cn T.nodes.length vv vb op name num far kids thn els ak at2 ae ck ct ce w hsz.1 hsz.2.1 hsz.2.2.1 hsz.2.2.2 _ _ _ (by rw [hO, ownK5]) hk h.c1 d0 d1 d2 d3 d4 d5 d6 d7 h1 h2 h3
  ·exact rgt6 _ p k b o cn T.nodes.length vv vb op name num far kids thn els ak at2 ae ck ct ce w hsz.1 hsz.2.1 hsz.2.2.1 hsz.2.2.2 _ _ _ (by rw [hO, ownK6]) hk h.c1 d0 d1 d2 d3 d4 d5 d6 d7 h1 h2 h3
  ·exact rgt7 _ p k b o cn T.nodes.length vv vb op name num far kids thn els ak at2 ae ck ct ce w hsz.1 hsz.2.1 hsz.2.2.1 hsz.2.2.2 _ _ _ (by rw [hO, ownK7]) hk h.c1 d0 d1 d2 d3 d4 d5 d6 d7 h1 h2 h3
  ·exact rgt8 _ p k b o cn T.nodes.length vv vb op name num far kids thn els ak at2 ae ck ct ce w hsz.1 hsz.2.1 hsz.2.2.1 hsz.2.2.2 _ _ _ (by rw [hO, ownK8]) hk h.c1 d0 d1 d2 d3 d4 d5 d6 d7 h1 h2 h3
  ·exact rgt9 _ p k b o cn T.nodes.length vv vb op name num far kids thn els ak at2 ae ck ct ce w hsz.1 hsz.2.1 hsz.2.2.1 hsz.2.2.2 _ _ _ (by rw [hO, ownK9]) hk h.c1 d0 d1 d2 d3 d4 d5 d6 d7 h1 h2 h3
  ·exact rgt10 _ p k b o cn T.nodes.length vv vb op name num far kids thn els ak at2 ae ck ct ce w hsz.1 hsz.2.1 hsz.2.2.1 hsz.2.2.2 _ _ _ (by rw [hO, ownK10]) hk h.c1 d0 d1 d2 d3 d4 d5 d6 d7 h1 h2 h3
  ·exact rgt11 _ p k b o cn T.nodes.length vv vb op name num far kids thn els ak at2 ae ck ct ce w hsz.1 hsz.2.1 hsz.2.2.1 hsz.2.2.2 _ _ _ (by rw [hO, ownK11]) hk h.c1 d0 d1 d2 d3 d4 d5 d6 d7 h1 h2 h3
 ·have hK : inB K 1 11 = false := by simpa using hK
  exact rgt0 _ p k b o cn T.nodes.length K op name num far kids thn els ak at2 ae ck ct ce w hK (by rw [hO]; unfold ownB; simp only [hK, Bool.false_and]) hk h.c1 hcs2
end Go.Proofs.YtdnhmpemkpjcaaaGreatDoor
namespace Go.Proofs.YtdnhmpemkpjcaaaGreatDoor
open Go.RowKit
set_option linter.unusedVariables false
theorem three_start (w : World) (vv vn vb : Value) (T1 T2 : TypeId) : let W := ((w.alloc (.cells #[vv, vn, vb] T1)).alloc (.cells #[.int .i64 0, .int .i64 0, .int .i64 0] T2))
  W.heap[w.heap.size]? = some (.cells #[vv, vn, vb] T1 (0, 0)) ∧ W.heap[w.heap.size + 1]? = some (.cells #[.int .i64 0, .int .i64 0, .int .i64 0] T2 (0, 0)) ∧ Below w.heap.size w W := by
 intro W
 have hA := heap_alloc_new w (.cells #[vv, vn, vb] T1)
 have hB : Below w.heap.size w (w.alloc (.cells #[vv, vn, vb] T1)) := (Below.refl _ _).alloc (Nat.le_refl _) _
 have hZ : (w.alloc (.cells #[vv, vn, vb] T1)).heap.size = w.heap.size + 1 := by simp
 have hA2 := heap_alloc_new (w.alloc (.cells #[vv, vn, vb] T1)) (.cells #[.int .i64 0, .int .i64 0, .int .i64 0] T2)
 have hB2 : Below (w.alloc (.cells #[vv, vn, vb] T1)).heap.size (w.alloc (.cells #[vv, vn, vb] T1)) W := (Below.refl _ _).alloc (Nat.le_refl _) _
 rw [hZ] at hA2
 exact ⟨blk hA hB2, hA2, hB.trans (hB2.mono (by omega))⟩
end Go.Proofs.YtdnhmpemkpjcaaaGreatDoor
