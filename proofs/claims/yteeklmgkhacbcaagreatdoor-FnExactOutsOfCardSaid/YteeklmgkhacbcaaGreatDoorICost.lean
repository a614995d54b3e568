/-
  impl.costs.
-/
import Derived.Test.YteeklmgkhacbcaaGreatDoorSOwn
import Derived.Test.YteeklmgkhacbcaaGreatDoorICount
import Derived.Test.YteeklmgkhacbcaaGreatDoorIVarsM
import Derived.Test.YteeklmgkhacbcaaGreatDoorIDeep
import Derived.Deep.Cut
import Derived.Deep.RegionHeld3
namespace Go.Proofs.YteeklmgkhacbcaaGreatDoor
open Go.RowKit
set_option linter.unusedVariables false
attribute [local go_sem] bs_size bs_get bs_extract bs_append bs_eq bs_toList
set_option maxHeartbeats 3200000 in
set_option maxRecDepth 100000 in
theorem sumAt_any (cs l : List Int) (a : Option Addr) (k c hi : Nat) (v : Value) (w : World) (hk : cs.length = k) (hk1 : k ≤ 1048576) (hN : Nums w a cs) (hv : IntsB hi w v l) (hin : ∀ x ∈ l, 0 ≤ x ∧ x < (k : Int)) (hb : Betw 100000 cs) (hl : l.length ≤ 1048576) :
  Calls Tryz.prog 106 #[.slice a k c, v] w fun e w' => e = .returned (.int .i64 (sumAtL cs l)) ∧ w' = w := by
 obtain ⟨al, cp, rfl, hh⟩ := hv
 have HH := hid hh
 have HN : Hid (Nums w a cs) := hN
 have HI := hid hin
 have HB : Hid (Betw 100000 cs) := hb
 clear hh hN hin hb
 go_enter Tryz.func106, Tryz.ntmps106
 go_wp2
 go_loopw [5, 10] (fun d i wr => ∃ j : Nat, j ≤ l.length ∧ i = .int .i64 j ∧ d = .int .i64 (sumAtL cs (l.take j)) ∧ SameW wr w) (fun d i _ => l.length - (intOf i).toNat)
 case atStart => exact ⟨0, by omega, rfl, rfl, rfl⟩
 case round =>
  obtain ⟨j, hj, rfl, rfl, hw⟩ := hrel
  have HW : Hid (SameW wr w) := hw
  by_cases hlt : j < l.length
  ·obtain ⟨x, hx⟩ : ∃ x, l[j]? = some x := ⟨l[j], List.getElem?_eq_getElem hlt⟩
   obtain ⟨b, o, rfl, _, hc1⟩ := HH.out (by intro e; rw [e] at hlt; simp at hlt)
   have c0 : wr.cell? ⟨b, o + j, none⟩ = _ := (congrArg (fun W => World.cell? W ⟨b, o + j, none⟩) hw).trans (hc1 j x hx)
   have HD : Hid (sumAtL cs (l.take (j + 1)) = sumAtL cs (l.take j) + cs.getD x.toNat 0) := sumAt_take hx
   have hx2 := HI.out x (List.mem_of_getElem? hx)
   obtain ⟨p, rfl⟩ : ∃ p : Nat, x = p := ⟨x.toNat, by omega⟩
   have hpk : p < k := by omega
   rcases HN.out with hz | ⟨g3, o3, rfl, hc3⟩
   ·rw [hz] at hk; simp at hk; omega
   have c3 : wr.cell? ⟨g3, o3 + p, none⟩ = _ := (congrArg (fun W => World.cell? W ⟨g3, o3 + p, none⟩) hw).trans (hc3 p (by omega))
   have hz2 := HB.out p
   have hs := sum_big HB.out (l := l.take j) (by rw [List.length_take]; omega)
   change Hid (sumAtL cs (l.take (j + 1)) = sumAtL cs (l.take j) + cs.getD p 0) at HD
   generalize sumAtL cs (l.take j) = s at *
   generalize cs.getD p 0 = z at *
   have hp0 : (0 : Int) ≤ (p : Int) := by omega
   have hp1 : (p : Int) < (k : Int) := by omega
   clear hx hc1 hw hx2 hc3
   go_wp2_with fail
   go_roundw
   case rel => exact ⟨j + 1, by omega, by go_num, by rw [HD.out], HW.out⟩
   case measure => simp [intOf]; omega
  ·have hje : j = l.length := by omega
   have e : sumAtL cs (l.take j) = sumAtL cs l := by rw [hje, List.take_length]
   rw [e]
   clear hje e
   go_wp2
   go_ret
   exact ⟨rfl, hw⟩
end Go.Proofs.YteeklmgkhacbcaaGreatDoor
namespace Go.Proofs.YteeklmgkhacbcaaGreatDoor
open Go.RowKit
set_option linter.unusedVariables false
theorem max2 (x y : Int) (W : World) : (Builtin.max_ #[2, 2] 2 #[.int .i64 x, .int .i64 y]).run Tryz.prog W = .ok (.int .i64 (max x y)) W := by
 have e1 : (if y > x then y else x) = max x y := by split <;> omega
 show (([Value.int .i64 y].foldlM Builtin.max2 (.int .i64 x) : Sem Value)).run Tryz.prog W = _
 simp only [List.foldlM_cons, List.foldlM_nil, Builtin.max2, Sem.run_bind, Sem.run_pure, Result.andThen_ok, e1]
set_option maxHeartbeats 800000 in
theorem roundsOf_any (x0 x1 x2 x5 x6 x7 : Value) (num far : Int) (hf : -1 ≤ far ∧ far ≤ 65535) (hn : -1 ≤ num ∧ num ≤ 65535) (w : World) :
  Calls Tryz.prog 133 #[.agg #[x0, x1, x2, .int .i64 num, .int .i64 far, x5, x6, x7]] w fun e w' => e = .returned (.int .i64 (max 0 (far - num + 1))) ∧ Below w.heap.size w w' := by
 have hA := heap_alloc_new w (.cells #[x0, x1, x2, .int .i64 num, .int .i64 far, x5, x6, x7] 88)
 have hB : Below w.heap.size w (w.alloc (.cells #[x0, x1, x2, .int .i64 num, .int .i64 far, x5, x6, x7] 88)) := (Below.refl _ _).alloc (Nat.le_refl _) _
 have hmx := max2 0 (far - num + 1)
 go_enter Tryz.func133, Tryz.ntmps133
 go_upto_region 1 with fail
 generalize w.alloc (.cells #[x0, x1, x2, .int .i64 num, .int .i64 far, x5, x6, x7] 88) = W at *
 obtain ⟨-, -, -, d3, d4⟩ := cl5 hA
 have HB := hid hB
 clear hA hB
 go_wp2_with fail
 go_ret
 exact ⟨rfl, HB.out⟩
attribute [local go_sem] bs_size bs_get bs_extract bs_append bs_eq bs_toList
theorem bel_go {a b c : World} (h : Below a.heap.size a b) (hb : Below b.heap.size b c) : Below a.heap.size a c := h.trans (hb.mono h.size)
set_option maxHeartbeats 6400000 in
set_option maxRecDepth 100000 in
theorem costs_any (lo : Nat) (a2 : Option Addr) (c2 : Nat) (N : List LNode) (w : World) (h : NodesV lo w (.slice a2 N.length c2) N) (hn : N.length ≤ 200) (hT : ∀ n ∈ N, Tame n)
  (hG : ∀ (k : Nat) (n : LNode), N[k]? = some n → (∀ x ∈ n.kids, 0 ≤ x ∧ x < (k : Int)) ∧ (∀ x ∈ n.thn, 0 ≤ x ∧ x < (k : Int)) ∧ (∀ x ∈ n.els, 0 ≤ x ∧ x < (k : Int))) :
  Calls Tryz.prog 107 #[.slice a2 N.length c2] w fun e w' => e = .returned (.slice (some ⟨w.heap.size, 0, none⟩) N.length N.length) ∧ Cnt w' w.heap.size 2 (costsF N N.length) ∧ Below w.heap.size w w' := by
 obtain ⟨i0, hi, hz0, hz1, hz2⟩ := info_parts infoInt
 have hmax : N.length ≤ maxLen := by unfold maxLen; omega
 obtain ⟨_, _, he, _, hhn⟩ := id h
 cases he
 have HN : Hid (N ≠ [] → ∃ b o, a2 = some ⟨b, o, none⟩ ∧ lo ≤ b ∧ ∀ (i : Nat) (x : LNode), N[i]? = some x → NodeAt lo w b (o + i * 8) x) := hhn
 have HS : Hid (∀ n ∈ N, Tame n) := hT
 have HGG : Hid (∀ (k : Nat) (n : LNode), N[k]? = some n → (∀ x ∈ n.kids, 0 ≤ x ∧ x < (k : Int)) ∧ (∀ x ∈ n.thn, 0 ≤ x ∧ x < (k : Int)) ∧ (∀ x ∈ n.els, 0 ≤ x ∧ x < (k : Int))) := hG
 have HLE : Hid (∀ k : Nat, k ≤ N.length → Betw 100000 (costsF N k)) := costsF_le N hT
 clear h hhn hT hG
 go_enter Tryz.func107, Tryz.ntmps107
 go_wp2_with (at_make; refine wpList_make_full _ rfl (.tmp 8) (.tmp 8) 24 rfl w.heap.size 2 i0 (.int .i64 0) 1 Tryz.underlying24 hi hz0 hz1 .i64 .i64 N.length N.length N.length rfl rfl rfl rfl ?_ hmax (Nat.le_refl _) ?_)
 ·rw [hz2]; omega
 intro w1 hown hgrow
 have HB : Hid (Below w.heap.size w w1) := (Below.refl _ _).grown hgrow (Nat.le_refl _) (fun k hk => by cases hk)
 have HC : Hid (Cnt w1 w.heap.size 2 (List.replicate N.length 0)) := cnt_of_own64 (by rw [toList_madeCells_one] at hown; simpa using hown)
 have hg : w.heap.size < w1.heap.size := (Array.getElem?_eq_some_iff.1 HC.out).1
 clear hgrow hown
 generalize hge : w.heap.size = g at *
 go_wp2
 go_loopw [12] (fun i wr => ∃ k : Nat, k ≤ N.length ∧ i = .int .i64 k ∧ Cnt wr g 2 (costsF N k ++ List.replicate (N.length - k) 0) ∧ But g w1 wr) (fun i _ => N.length - (intOf i).toNat)
 case atStart => exact ⟨0, by omega, rfl, HC.out, But.refl _ _⟩
 case round =>
  obtain ⟨k, hk, rfl, hcnt, hbut⟩ := hrel
  have HCN : Hid (Cnt wr g 2 (costsF N k ++ List.replicate (N.length - k) 0)) := hcnt
  have HBT : Hid (But g w1 wr) := hbut
  by_cases hlt : k < N.length
  ·obtain ⟨y, hy⟩ : ∃ y, N[k]? = some y := ⟨N[k], List.getElem?_eq_getElem hlt⟩
   obtain ⟨b, o, rfl, _, hc2⟩ := HN.out (by intro e; rw [e] at hlt; simp at hlt)
   obtain ⟨vk, vt, ve, hcs, hvs⟩ := hc2 k y hy
   have hbw : b < w.heap.size := World.block_lt_of_cell? _ _ hcs.c0
   have hkp : ∀ q, q < w.heap.size → wr.heap[q]? = w.heap[q]? := fun q hq => (hbut.rest q (by omega) (by omega)).trans (HB.out.block q (by omega))
   obtain ⟨d0, d1, d2, d3, d4, d5, d6, d7⟩ := hcs.keep (lo := 0) (w' := wr) (fun q _ hq => hkp q hq) (Nat.zero_le _)
   have HK : Hid (IntsB w.heap.size w vk y.kids) := hvs.kids.toB
   have HT : Hid (IntsB w.heap.size w vt y.thn) := hvs.thn.toB
   have HE : Hid (IntsB w.heap.size w ve y.els) := hvs.els.toB
   have HKP : Hid (∀ q, q < w.heap.size → wr.heap[q]? = w.heap[q]?) := hkp
   obtain ⟨ak, ck, rfl, _⟩ := id hvs.kids
   obtain ⟨at2, ct, rfl, _⟩ := id hvs.thn
   obtain ⟨ae, ce, rfl, _⟩ := id hvs.els
   have HY : Hid (N[k]? = some y) := hy
   have hgr : g < wr.heap.size := Nat.lt_of_lt_of_le hg hbut.below.size
   have HTY : Hid (Tame y) := HS.out y (List.mem_of_getElem? hy)
   have HGY : Hid ((∀ x ∈ y.kids, 0 ≤ x ∧ x < (k : Int)) ∧ (∀ x ∈ y.thn, 0 ≤ x ∧ x < (k : Int)) ∧ (∀ x ∈ y.els, 0 ≤ x ∧ x < (k : Int))) := HGG.out k y hy
   clear hy hc2 hcs hvs hkp hcnt hbut
   go_wp2_with fail
   have hA := heap_alloc_new wr (.cells #[.int .i64 y.kind, .int .i64 y.op, .string (bs y.name), .int .i64 y.num, .int .i64 y.far, .slice ak y.kids.length ck, .slice at2 y.thn.length ct, .slice ae y.els.length ce] 88)
   have hB5 : But g wr (wr.alloc (.cells #[.int .i64 y.kind, .int .i64 y.op, .string (bs y.name), .int .i64 y.num, .int .i64 y.far, .slice ak y.kids.length ck, .slice at2 y.thn.length ct, .slice ae y.els.length ce] 88)) := (But.refl g wr).alloc (by omega) _
   have hC5 := HCN.out.alloc (.cells #[.int .i64 y.kind, .int .i64 y.op, .string (bs y.name), .int .i64 y.num, .int .i64 y.far, .slice ak y.kids.length ck, .slice at2 y.thn.length ct, .slice ae y.els.length ce] 88)
   generalize wr.alloc (.cells #[.int .i64 y.kind, .int .i64 y.op, .string (bs y.name), .int .i64 y.num, .int .i64 y.far, .slice ak y.kids.length ck, .slice at2 y.thn.length ct, .slice ae y.els.length ce] 88) = W5 at *
   obtain ⟨e0, e1, e2, e3, e4, e5, e6, e7⟩ := cl8 hA
   have hkp5 : ∀ q, q < w.heap.size → W5.heap[q]? = w.heap[q]? := fun q hq => (hB5.rest q (by omega) (by omega)).trans (HKP.out q hq)
   have HC5 : Hid (Cnt W5 g 2 (costsF N k ++ List.replicate (N.length - k) 0)) := hC5
   have HB5 : Hid (But g wr W5) := hB5
   have hbw2 := HLE.out k (by omega)
   have hll : (costsF N k ++ List.replicate (N.length - k) 0).length = N.length := by rw [List.length_append, costsF_len, List.length_replicate]; omega
   have hg5 : g < W5.heap.size := Nat.lt_of_lt_of_le hgr hB5.below.size
   have hcall : ∀ (v : Value) (l : List Int), IntsB w.heap.size w v l → (∀ x ∈ l, 0 ≤ x ∧ x < (k : Int)) → l.length ≤ 1048576 → ∀ W, Below W5.heap.size W5 W → Calls Tryz.prog 106 #[.slice (some ⟨g, 0, none⟩) N.length N.length, v] W fun e w' => e = .returned (.int .i64 (sumAtL (costsF N k) l)) ∧ w' = W := fun v l hv hx hl W hW => by
    have := sumAt_any (costsF N k ++ List.replicate (N.length - k) 0) l (some ⟨g, 0, none⟩) N.length N.length w.heap.size v W hll (by omega) (.inr ⟨g, 0, rfl, fun i hi => by
     rw [Nat.zero_add, ← (hC5.cell i hi).1]; exact hW.cell (p := ⟨g, i, none⟩) hg5⟩) (hv.keep (fun q hq => (hW.block q (by omega)).trans (hkp5 q hq)) (Nat.le_refl _)) (fun x hx' => by have := hx x hx'; omega) (hbw2.zeros _) hl
    rw [sumAt_zeros] at this
    exact this
   have H1 : Hid (∀ W, Below W5.heap.size W5 W → Calls Tryz.prog 106 #[.slice (some ⟨g, 0, none⟩) N.length N.length, .slice ak y.kids.length ck] W fun e w' => e = .returned (.int .i64 (sumAtL (costsF N k) y.kids)) ∧ w' = W) := hcall _ _ HK.out HGY.out.1 HTY.out.kids
   have H2 : Hid (∀ W, Below W5.heap.size W5 W → Calls Tryz.prog 106 #[.slice (some ⟨g, 0, none⟩) N.length N.length, .slice at2 y.thn.length ct] W fun e w' => e = .returned (.int .i64 (sumAtL (costsF N k) y.thn)) ∧ w' = W) := hcall _ _ HT.out HGY.out.2.1 HTY.out.thn
   have H3 : Hid (∀ W, Below W5.heap.size W5 W → Calls Tryz.prog 106 #[.slice (some ⟨g, 0, none⟩) N.length N.length, .slice ae y.els.length ce] W fun e w' => e = .returned (.int .i64 (sumAtL (costsF N k) y.els)) ∧ w' = W) := hcall _ _ HE.out HGY.out.2.2 HTY.out.els
   have hs1 := sum_big hbw2 HTY.out.kids
   have hs2 := sum_big hbw2 HTY.out.thn
   have hs3 := sum_big hbw2 HTY.out.els
   have hrd := rounds_le HTY.out
   have hnm := HTY.out.num
   have hfr := HTY.out.far
   have hmul := mul_le_of hrd.1 hrd.2 (b := 3 + sumAtL (costsF N k) y.thn) (by omega) (Int.add_le_add_left hs2.2 3)
   have HPUT : Hid ((costsF N k ++ List.replicate (N.length - k) 0).set k (costN (costsF N k) y) = costsF N (k + 1) ++ List.replicate (N.length - (k + 1)) 0) := by
    have := costs_put N k N.length hlt
    rw [List.getD_eq_getElem?_getD, HY.out] at this
    exact this
   have C9 : Hid (y.kind = 9 → costN (costsF N k) y = min 100000 (1 + sumAtL (costsF N k) y.kids + max (sumAtL (costsF N k) y.thn) (sumAtL (costsF N k) y.els))) := fun h => by unfold costN; rw [if_pos h]
   have C10 : Hid (y.kind = 10 → costN (costsF N k) y = min 100000 (1 + sumAtL (costsF N k) y.kids + 2 + max 0 (y.far - y.num + 1) * (3 + sumAtL (costsF N k) y.thn))) := fun h => by unfold costN; rw [if_neg (by omega), if_pos h]
   have C11 : Hid (y.kind = 11 → costN (costsF N k) y = min 100000 (1 + sumAtL (costsF N k) y.kids + 12)) := fun h => by unfold costN; rw [if_neg (by omega), if_neg (by omega), if_pos h]
   have C0 : Hid (y.kind ≠ 9 → y.kind ≠ 10 → y.kind ≠ 11 → costN (costsF N k) y = min 100000 (1 + sumAtL (costsF N k) y.kids)) := fun h1 h2 h3 => by unfold costN; rw [if_neg h1, if_neg h2, if_neg h3]
   generalize sumAtL (costsF N k) y.kids = s1 at *
   generalize sumAtL (costsF N k) y.thn = s2 at *
   generalize sumAtL (costsF N k) y.els = s3 at *
   generalize Value.slice ak y.kids.length ck = v1 at *
   generalize Value.slice at2 y.thn.length ct = v2 at *
   generalize Value.slice ae y.els.length ce = v3 at *
   have HAA := hid hA
   clear hA hcall hC5 hB5 hbw2 hkp5 d0 d1 d2 d3 d4 d5 d6 d7 HK HT HE HKP
   refine (H1.out _ (Below.refl _ _)).mono ?_
   rintro e w2 ⟨rfl, rfl⟩
   have hc0 := (HC5.out.cell k (by omega)).1
   have hf0 := (HC5.out.cell k (by omega)).2
   have hmx := max2 s2 s3
   by_cases k9 : y.kind = 9
   ·have HCE : Hid (costN (costsF N k) y = min 100000 (1 + s1 + max s2 s3)) := C9.out k9
    have hw9 : IntKind.i64.wrap (1 + s1 + max s2 s3) = 1 + s1 + max s2 s3 := IntWalk.i64_in _ (by omega)
    go_wp2_with fail
    go_region_held3 (fun W => W.cell? ⟨wr.heap.size, 6, none⟩ = some v2 ∧ W.cell? ⟨wr.heap.size, 7, none⟩ = some v3) (go_keep) (first | (go_at_call 106; (with_reducible show Calls _ _ #[_, v2] _ _); refine (H2.out _ (Below.refl _ _).drew).mono ?_; rintro e w3 ⟨rfl, rfl⟩) | (go_at_call 106; (with_reducible show Calls _ _ #[_, v3] _ _); refine (H3.out _ (Below.refl _ _).drew).mono ?_; rintro e w3 ⟨rfl, rfl⟩))
    have hcd : Hid (Cnt w2.drew g 2 (costsF N k ++ List.replicate (N.length - k) 0)) := HC5.out
    have hbd : Hid (But g wr w2.drew) := HB5.out.drew
    have hc0 : w2.drew.cell? ⟨g, k, none⟩ = _ := hc0
    have hf0 : w2.drew.frozen? ⟨g, k, none⟩ = false := hf0
    clear HC5 HB5 hmx hw9 e0 e1 e2 e3 e4 e5 e6 e7 H1 H2 H3 HAA
    have HC5 := hcd
    have HB5 := hbd
    clear hcd hbd
    generalize w2.drew = w2 at *
    go_wp2_with fail
    have hX : (if 100000 < 1 + s1 + max s2 s3 then 100000 else 1 + s1 + max s2 s3) = costN (costsF N k) y := by rw [HCE.out]; split <;> omega
    rw [hX]
    have hP : Hid (Cnt (w2.setCell ⟨g, k, none⟩ (.int .i64 (costN (costsF N k) y))) g 2 (costsF N (k + 1) ++ List.replicate (N.length - (k + 1)) 0)) := by
     have := HC5.out.put k (costN (costsF N k) y)
     rw [HPUT.out] at this
     exact this
    have hQ : Hid (But g w1 (w2.setCell ⟨g, k, none⟩ (.int .i64 (costN (costsF N k) y)))) := (HBT.out.trans HB5.out).set _ _
    exact ⟨⟨k + 1, by omega, by go_num, hP.out, hQ.out⟩, by simp [intOf]; omega⟩
   by_cases k10 : y.kind = 10
   ·have HCE : Hid (costN (costsF N k) y = min 100000 (1 + s1 + 2 + max 0 (y.far - y.num + 1) * (3 + s2))) := C10.out k10
    have HRO : Hid (∀ x0 W, Calls Tryz.prog 133 #[.agg #[x0, .int .i64 y.op, .string (bs y.name), .int .i64 y.num, .int .i64 y.far, v1, v2, v3]] W fun e w' => e = .returned (.int .i64 (max 0 (y.far - y.num + 1))) ∧ Below W.heap.size W w') := fun x0 W => roundsOf_any x0 _ _ _ _ _ _ _ ⟨by omega, by omega⟩ ⟨by omega, by omega⟩ W
    generalize max 0 (y.far - y.num + 1) = R at *
    obtain ⟨M, hM⟩ : ∃ M, M = R * (3 + s2) := ⟨_, rfl⟩
    have hwa : IntKind.i64.wrap (3 + s2) = 3 + s2 := IntWalk.i64_in _ (by omega)
    have hwe : IntKind.i64.wrap (R * (3 + s2)) = M := by rw [hM]; exact IntWalk.i64_in _ (by omega)
    rw [← hM] at hmul HCE
    clear hM
    have hwb : IntKind.i64.wrap (2 + M) = 2 + M := IntWalk.i64_in _ (by omega)
    have hwc : IntKind.i64.wrap (1 + s1 + (2 + M)) = 1 + s1 + (2 + M) := IntWalk.i64_in _ (by omega)
    have hS0 : Below w2.heap.size w2 w2 := Below.refl _ _
    have HCL : Hid (∀ W, Below w2.heap.size w2 W → W.cell? ⟨wr.heap.size, 0, none⟩ = some (.int .i64 y.kind) ∧ W.cell? ⟨wr.heap.size, 1, none⟩ = some (.int .i64 y.op) ∧ W.cell? ⟨wr.heap.size, 2, none⟩ = some (.string (bs y.name)) ∧ W.cell? ⟨wr.heap.size, 3, none⟩ = some (.int .i64 y.num) ∧ W.cell? ⟨wr.heap.size, 4, none⟩ = some (.int .i64 y.far) ∧ W.cell? ⟨wr.heap.size, 5, none⟩ = some v1 ∧ W.cell? ⟨wr.heap.size, 6, none⟩ = some v2 ∧ W.cell? ⟨wr.heap.size, 7, none⟩ = some v3) := fun W hb => cl8 (blk HAA.out hb)
    go_wp2_with fail
    go_region_held3 (fun W => Below w2.heap.size w2 W ∧ W.cell? ⟨wr.heap.size, 0, none⟩ = some (.int .i64 y.kind) ∧ W.cell? ⟨wr.heap.size, 1, none⟩ = some (.int .i64 y.op) ∧ W.cell? ⟨wr.heap.size, 2, none⟩ = some (.string (bs y.name)) ∧ W.cell? ⟨wr.heap.size, 3, none⟩ = some (.int .i64 y.num) ∧ W.cell? ⟨wr.heap.size, 4, none⟩ = some (.int .i64 y.far) ∧ W.cell? ⟨wr.heap.size, 5, none⟩ = some v1 ∧ W.cell? ⟨wr.heap.size, 6, none⟩ = some v2 ∧ W.cell? ⟨wr.heap.size, 7, none⟩ = some v3) (first | (with_reducible exact ⟨by assumption, HCL.out _ (by assumption)⟩) | (with_reducible exact ⟨hS0.drew, HCL.out _ hS0.drew⟩) | fail) (first | (go_at_call 133; refine (HRO.out _ _).mono ?_; rintro e w3 ⟨rfl, hb⟩; have hD3 : Below w2.heap.size w2 w3 := bel_go (And.left (by with_reducible assumption)) hb; clear hb) | (go_at_call 106; refine (H2.out _ hD3).mono ?_; rintro e w4 ⟨rfl, hw4⟩; have hw5 := hw4.symm; clear hw4; subst hw5) | fail)
    have HC6 : Hid (Cnt w3 g 2 (costsF N k ++ List.replicate (N.length - k) 0)) := blk HC5.out hD3
    have HB6 : Hid (But g wr w3) := HB5.out.trans ⟨hD3.mono (Nat.le_of_lt hg5), fun b hb _ => hD3.block b hb⟩
    have hc0 := (HC6.out.cell k (by omega)).1
    have hf0 := (HC6.out.cell k (by omega)).2
    clear HC5 HB5 hwa hwe hwb hwc hS0 HCL HRO HAA hmx e0 e1 e2 e3 e4 e5 e6 e7 H1 H2 H3 hD3
    go_wp2_with fail
    have hX : (if 100000 < 1 + s1 + (2 + M) then 100000 else 1 + s1 + (2 + M)) = costN (costsF N k) y := by rw [HCE.out]; split <;> omega
    rw [hX]
    have hP : Hid (Cnt (w3.setCell ⟨g, k, none⟩ (.int .i64 (costN (costsF N k) y))) g 2 (costsF N (k + 1) ++ List.replicate (N.length - (k + 1)) 0)) := by
     have := HC6.out.put k (costN (costsF N k) y)
     rw [HPUT.out] at this
     exact this
    have hQ : Hid (But g w1 (w3.setCell ⟨g, k, none⟩ (.int .i64 (costN (costsF N k) y)))) := (HBT.out.trans HB6.out).set _ _
    exact ⟨⟨k + 1, by omega, by go_num, hP.out, hQ.out⟩, by simp [intOf]; omega⟩
   by_cases k11 : y.kind = 11
   ·have HCE : Hid (costN (costsF N k) y = min 100000 (1 + s1 + 12)) := C11.out k11
    go_wp2_with fail
    have hX : (if 100000 < 1 + s1 + 12 then 100000 else 1 + s1 + 12) = costN (costsF N k) y := by rw [HCE.out]; split <;> omega
    rw [hX]
    have hP : Hid (Cnt (w2.setCell ⟨g, k, none⟩ (.int .i64 (costN (costsF N k) y))) g 2 (costsF N (k + 1) ++ List.replicate (N.length - (k + 1)) 0)) := by
     have := HC5.out.put k (costN (costsF N k) y)
     rw [HPUT.out] at this
     exact this
    have hQ : Hid (But g w1 (w2.setCell ⟨g, k, none⟩ (.int .i64 (costN (costsF N k) y)))) := (HBT.out.trans HB5.out).set _ _
    exact ⟨⟨k + 1, by omega, by go_num, hP.out, hQ.out⟩, by simp [intOf]; omega⟩
   have HCE : Hid (costN (costsF N k) y = min 100000 (1 + s1)) := C0.out k9 k10 k11
   go_wp2_with fail
   have hX : (if 100000 < 1 + s1 then 100000 else 1 + s1) = costN (costsF N k) y := by rw [HCE.out]; split <;> omega
   rw [hX]
   have hP : Hid (Cnt (w2.setCell ⟨g, k, none⟩ (.int .i64 (costN (costsF N k) y))) g 2 (costsF N (k + 1) ++ List.replicate (N.length - (k + 1)) 0)) := by
    have := HC5.out.put k (costN (costsF N k) y)
    rw [HPUT.out] at this
    exact this
   have hQ : Hid (But g w1 (w2.setCell ⟨g, k, none⟩ (.int .i64 (costN (costsF N k) y)))) := (HBT.out.trans HB5.out).set _ _
   exact ⟨⟨k + 1, by omega, by go_num, hP.out, hQ.out⟩, by simp [intOf]; omega⟩
  ·have hke : k = N.length := by omega
   subst hke
   have HCN0 : Hid (Cnt wr g 2 (costsF N N.length)) := by unfold Hid; have := HCN.out; simpa using this
   clear hcnt hbut HCN
   go_wp2
   go_ret
   subst hge
   exact ⟨rfl, HCN0.out, HB.out.trans HBT.out.below⟩
end Go.Proofs.YteeklmgkhacbcaaGreatDoor
