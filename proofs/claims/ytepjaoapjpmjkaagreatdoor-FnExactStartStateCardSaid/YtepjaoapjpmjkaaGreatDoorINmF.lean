/-
  impl.namesFault.
-/
import Derived.Test.YtepjaoapjpmjkaaGreatDoorSOwn
import Derived.Test.YtepjaoapjpmjkaaGreatDoorICount
import Derived.Test.YtepjaoapjpmjkaaGreatDoorIVars
import Derived.Test.YtepjaoapjpmjkaaGreatDoorIDeep
import Derived.Deep.Cut
import Derived.Deep.RegionHeld3
import Derived.Test.YtepjaoapjpmjkaaGreatDoorSTree
import Derived.Test.YtepjaoapjpmjkaaGreatDoorCheckN
import Derived.Test.YtepjaoapjpmjkaaGreatDoorICkE
import Derived.Test.YtepjaoapjpmjkaaGreatDoorTreeMath
namespace Go.Proofs.YtepjaoapjpmjkaaGreatDoor
open Go.RowKit
set_option linter.unusedVariables false
attribute [local go_sem] bs_size bs_get bs_extract bs_append bs_eq bs_toList
set_option maxHeartbeats 3200000 in
set_option maxRecDepth 100000 in
theorem sumAt_any (cs l : List Int) (a : Option Addr) (k c hi : Nat) (v : Value) (w : World) (hk : cs.length = k) (hk1 : k ≤ 1048576) (hN : Nums w a cs) (hv : IntsB hi w v l) (hin : ∀ x ∈ l, 0 ≤ x ∧ x < (k : Int)) (hb : Betw 100000 cs) (hl : l.length ≤ 1048576) :
  Calls Tryz.prog 95 #[.slice a k c, v] w fun e w' => e = .returned (.int .i64 (sumAtL cs l)) ∧ w' = w := by
 obtain ⟨al, cp, rfl, hh⟩ := hv
 have HH := hid hh
 have HN : Hid (Nums w a cs) := hN
 have HI := hid hin
 have HB : Hid (Betw 100000 cs) := hb
 clear hh hN hin hb
 go_enter Tryz.func95, Tryz.ntmps95
 go_wp2
 go_loopw [5, 10] (fun d i wr => ∃ j : Nat, j ≤ l.length ∧ i = .int .i64 j ∧ d = .int .i64 (sumAtL cs (l.take j)) ∧ SameW wr w) (fun d i _ => l.length - (intOf i).toNat)
 case atStart => exact ⟨0, by omega, rfl, rfl, rfl⟩
 case round =>
  obtain ⟨j, hj, rfl, rfl, hw⟩ := hrel
  have HW : Hid (SameW wr w) := hw
  by_cases hlt : j < l.length
  ·obtain ⟨x, hx⟩ : ∃ x, l[j]? = some x := ⟨l[j], List.getElem?_eq_getElem hlt⟩
   obtain ⟨b, o, rfl, _, hc1⟩ := HH.out (by intro e; rw [e] at hlt; simp at hlt)
   have c0 : wr.cell? ⟨b, o + j, none⟩ = _ := (congrArg (fun W => World.cell? W ⟨b, o + j, none⟩) hw).trans (hc1 j x hx)
   have HD : Hid (sumAtL cs (l.take (j + 1)) = sumAtL cs (l.take j) + cs.getD x.toNat 0) := sumAt_take hx
   have hx2 := HI.out x (List.mem_of_getElem? hx)
   obtain ⟨p, rfl⟩ : ∃ p : Nat, x = p := ⟨x.toNat, by omega⟩
   have hpk : p < k := by omega
   rcases HN.out with hz | ⟨g3, o3, rfl, hc3⟩
   ·rw [hz] at hk; simp at hk; omega
   have c3 : wr.cell? ⟨g3, o3 + p, none⟩ = _ := (congrArg (fun W => World.cell? W ⟨g3, o3 + p, none⟩) hw).trans (hc3 p (by omega))
   have hz2 := HB.out p
   have hs := sum_big HB.out (l := l.take j) (by rw [List.length_take]; omega)
   change Hid (sumAtL cs (l.take (j + 1)) = sumAtL cs (l.take j) + cs.getD p 0) at HD
   generalize sumAtL cs (l.take j) = s at *
   generalize cs.getD p 0 = z at *
   have hp0 : (0 : Int) ≤ (p : Int) := by omega
   have hp1 : (p : Int) < (k : Int) := by omega
   clear hx hc1 hw hx2 hc3
   go_wp2_with fail
   go_roundw
   case rel => exact ⟨j + 1, by omega, by go_num, by rw [HD.out], HW.out⟩
   case measure => simp [intOf]; omega
  ·have hje : j = l.length := by omega
   have e : sumAtL cs (l.take j) = sumAtL cs l := by rw [hje, List.take_length]
   rw [e]
   clear hje e
   go_wp2
   go_ret
   exact ⟨rfl, hw⟩
end Go.Proofs.YtepjaoapjpmjkaaGreatDoor
namespace Go.Proofs.YtepjaoapjpmjkaaGreatDoor
open Go.RowKit
set_option linter.unusedVariables false
theorem max2 (x y : Int) (W : World) : (Builtin.max_ #[2, 2] 2 #[.int .i64 x, .int .i64 y]).run Tryz.prog W = .ok (.int .i64 (max x y)) W := by
 have e1 : (if y > x then y else x) = max x y := by split <;> omega
 show (([Value.int .i64 y].foldlM Builtin.max2 (.int .i64 x) : Sem Value)).run Tryz.prog W = _
 simp only [List.foldlM_cons, List.foldlM_nil, Builtin.max2, Sem.run_bind, Sem.run_pure, Result.andThen_ok, e1]
set_option maxHeartbeats 800000 in
theorem roundsOf_any (x0 x1 x2 x5 x6 x7 : Value) (num far : Int) (hf : -1 ≤ far ∧ far ≤ 65535) (hn : -1 ≤ num ∧ num ≤ 65535) (w : World) :
  Calls Tryz.prog 131 #[.agg #[x0, x1, x2, .int .i64 num, .int .i64 far, x5, x6, x7]] w fun e w' => e = .returned (.int .i64 (max 0 (far - num + 1))) ∧ Below w.heap.size w w' := by
 have hA := heap_alloc_new w (.cells #[x0, x1, x2, .int .i64 num, .int .i64 far, x5, x6, x7] 66)
 have hB : Below w.heap.size w (w.alloc (.cells #[x0, x1, x2, .int .i64 num, .int .i64 far, x5, x6, x7] 66)) := (Below.refl _ _).alloc (Nat.le_refl _) _
 have hmx := max2 0 (far - num + 1)
 go_enter Tryz.func131, Tryz.ntmps131
 go_upto_region 1 with fail
 generalize w.alloc (.cells #[x0, x1, x2, .int .i64 num, .int .i64 far, x5, x6, x7] 66) = W at *
 obtain ⟨-, -, -, d3, d4⟩ := cl5 hA
 have HB := hid hB
 clear hA hB
 go_wp2_with fail
 go_ret
 exact ⟨rfl, HB.out⟩
end Go.Proofs.YtepjaoapjpmjkaaGreatDoor
namespace Go.Proofs.YtepjaoapjpmjkaaGreatDoor
open Go.RowKit
set_option linter.unusedVariables false
attribute [local go_sem] bs_size bs_get bs_extract bs_append bs_eq bs_toList
theorem bel_go {a b c : World} (h : Below a.heap.size a b) (hb : Below b.heap.size b c) : Below a.heap.size a c := h.trans (hb.mono h.size)
set_option maxHeartbeats 6400000 in
set_option maxRecDepth 100000 in
theorem costs_any (lo : Nat) (a2 : Option Addr) (c2 : Nat) (N : List LNode) (w : World) (h : NodesV lo w (.slice a2 N.length c2) N) (hn : N.length ≤ 200) (hT : ∀ n ∈ N, Tame n)
  (hG : ∀ (k : Nat) (n : LNode), N[k]? = some n → (∀ x ∈ n.kids, 0 ≤ x ∧ x < (k : Int)) ∧ (∀ x ∈ n.thn, 0 ≤ x ∧ x < (k : Int)) ∧ (∀ x ∈ n.els, 0 ≤ x ∧ x < (k : Int))) :
  Calls Tryz.prog 96 #[.slice a2 N.length c2] w fun e w' => e = .returned (.slice (some ⟨w.heap.size, 0, none⟩) N.length N.length) ∧ Cnt w' w.heap.size 2 (costsF N N.length) ∧ Below w.heap.size w w' := by
 obtain ⟨i0, hi, hz0, hz1, hz2⟩ := info_parts infoInt
 have hmax : N.length ≤ maxLen := by unfold maxLen; omega
 obtain ⟨_, _, he, _, hhn⟩ := id h
 cases he
 have HN : Hid (N ≠ [] → ∃ b o, a2 = some ⟨b, o, none⟩ ∧ lo ≤ b ∧ ∀ (i : Nat) (x : LNode), N[i]? = some x → NodeAt lo w b (o + i * 8) x) := hhn
 have HS : Hid (∀ n ∈ N, Tame n) := hT
 have HGG : Hid (∀ (k : Nat) (n : LNode), N[k]? = some n → (∀ x ∈ n.kids, 0 ≤ x ∧ x < (k : Int)) ∧ (∀ x ∈ n.thn, 0 ≤ x ∧ x < (k : Int)) ∧ (∀ x ∈ n.els, 0 ≤ x ∧ x < (k : Int))) := hG
 have HLE : Hid (∀ k : Nat, k ≤ N.length → Betw 100000 (costsF N k)) := costsF_le N hT
 clear h hhn hT hG
 go_enter Tryz.func96, Tryz.ntmps96
 go_wp2_with (at_make; refine wpList_make_full _ rfl (.tmp 8) (.tmp 8) 24 rfl w.heap.size 2 i0 (.int .i64 0) 1 Tryz.underlying24 hi hz0 hz1 .i64 .i64 N.length N.length N.length rfl rfl rfl rfl ?_ hmax (Nat.le_refl _) ?_)
 ·rw [hz2]; omega
 intro w1 hown hgrow
 have HB : Hid (Below w.heap.size w w1) := (Below.refl _ _).grown hgrow (Nat.le_refl _) (fun k hk => by cases hk)
 have HC : Hid (Cnt w1 w.heap.size 2 (List.replicate N.length 0)) := cnt_of_own64 (by rw [toList_madeCells_one] at hown; simpa using hown)
 have hg : w.heap.size < w1.heap.size := (Array.getElem?_eq_some_iff.1 HC.out).1
 clear hgrow hown
 generalize hge : w.heap.size = g at *
 go_wp2
 go_loopw [12] (fun i wr => ∃ k : Nat, k ≤ N.length ∧ i = .int .i64 k ∧ Cnt wr g 2 (costsF N k ++ List.replicate (N.length - k) 0) ∧ But g w1 wr) (fun i _ => N.length - (intOf i).toNat)
 case atStart => exact ⟨0, by omega, rfl, HC.out, But.refl _ _⟩
 case round =>
  obtain ⟨k, hk, rfl, hcnt, hbut⟩ := hrel
  have HCN : Hid (Cnt wr g 2 (costsF N k ++ List.replicate (N.length - k) 0)) := hcnt
  have HBT : Hid (But g w1 wr) := hbut
  by_cases hlt : k < N.length
  ·obtain ⟨y, hy⟩ : ∃ y, N[k]? = some y := ⟨N[k], List.getElem?_eq_getElem hlt⟩
   obtain ⟨b, o, rfl, _, hc2⟩ := HN.out (by intro e; rw [e] at hlt; simp at hlt)
   obtain ⟨vk, vt, ve, hcs, hvs⟩ := hc2 k y hy
   have hbw : b < w.heap.size := World.block_lt_of_cell? _ _ hcs.c0
   have hkp : ∀ q, q < w.heap.size → wr.heap[q]? = w.heap[q]? := fun q hq => (hbut.rest q (by omega) (by omega)).trans (HB.out.block q (by omega))
   obtain ⟨d0, d1, d2, d3, d4, d5, d6, d7⟩ := hcs.keep (lo := 0) (w' := wr) (fun q _ hq => hkp q hq) (Nat.zero_le _)
   have HK : Hid (IntsB w.heap.size w vk y.kids) := hvs.kids.toB
   have HT : Hid (IntsB w.heap.size w vt y.thn) := hvs.thn.toB
   have HE : Hid (IntsB w.heap.size w ve y.els) := hvs.els.toB
   have HKP : Hid (∀ q, q < w.heap.size → wr.heap[q]? = w.heap[q]?) := hkp
   obtain ⟨ak, ck, rfl, _⟩ := id hvs.kids
   obtain ⟨at2, ct, rfl, _⟩ := id hvs.thn
   obtain ⟨ae, ce, rfl, _⟩ := id hvs.els
   have HY : Hid (N[k]? = some y) := hy
   have hgr : g < wr.heap.size := Nat.lt_of_lt_of_le hg hbut.below.size
   have HTY : Hid (Tame y) := HS.out y (List.mem_of_getElem? hy)
   have HGY : Hid ((∀ x ∈ y.kids, 0 ≤ x ∧ x < (k : Int)) ∧ (∀ x ∈ y.thn, 0 ≤ x ∧ x < (k : Int)) ∧ (∀ x ∈ y.els, 0 ≤ x ∧ x < (k : Int))) := HGG.out k y hy
   clear hy hc2 hcs hvs hkp hcnt hbut
   go_wp2_with fail
   have hA := heap_alloc_new wr (.cells #[.int .i64 y.kind, .int .i64 y.op, .string (bs y.name), .int .i64 y.num, .int .i64 y.far, .slice ak y.kids.length ck, .slice at2 y.thn.length ct, .slice ae y.els.length ce] 66)
   have hB5 : But g wr (wr.alloc (.cells #[.int .i64 y.kind, .int .i64 y.op, .string (bs y.name), .int .i64 y.num, .int .i64 y.far, .slice ak y.kids.length ck, .slice at2 y.thn.length ct, .slice ae y.els.length ce] 66)) := (But.refl g wr).alloc (by omega) _
   have hC5 := HCN.out.alloc (.cells #[.int .i64 y.kind, .int .i64 y.op, .string (bs y.name), .int .i64 y.num, .int .i64 y.far, .slice ak y.kids.length ck, .slice at2 y.thn.length ct, .slice ae y.els.length ce] 66)
   generalize wr.alloc (.cells #[.int .i64 y.kind, .int .i64 y.op, .string (bs y.name), .int .i64 y.num, .int .i64 y.far, .slice ak y.kids.length ck, .slice at2 y.thn.length ct, .slice ae y.els.length ce] 66) = W5 at *
   obtain ⟨e0, e1, e2, e3, e4, e5, e6, e7⟩ := cl8 hA
   have hkp5 : ∀ q, q < w.heap.size → W5.heap[q]? = w.heap[q]? := fun q hq => (hB5.rest q (by omega) (by omega)).trans (HKP.out q hq)
   have HC5 : Hid (Cnt W5 g 2 (costsF N k ++ List.replicate (N.length - k) 0)) := hC5
   have HB5 : Hid (But g wr W5) := hB5
   have hbw2 := HLE.out k (by omega)
   have hll : (costsF N k ++ List.replicate (N.length - k) 0).length = N.length := by rw [List.length_append, costsF_len, List.length_replicate]; omega
   have hg5 : g < W5.heap.size := Nat.lt_of_lt_of_le hgr hB5.below.size
   have hcall : ∀ (v : Value) (l : List Int), IntsB w.heap.size w v l → (∀ x ∈ l, 0 ≤ x ∧ x < (k : Int)) → l.length ≤ 1048576 → ∀ W, Below W5.heap.size W5 W → Calls Tryz.prog 95 #[.slice (some ⟨g, 0, none⟩) N.length N.length, v] W fun e w' => e = .returned (.int .i64 (sumAtL (costsF N k) l)) ∧ w' = W := fun v l hv hx hl W hW => by
    have := sumAt_any (costsF N k ++ List.replicate (N.length - k) 0) l (some ⟨g, 0, none⟩) N.length N.length w.heap.size v W hll (by omega) (.inr ⟨g, 0, rfl, fun i hi => by
     rw [Nat.zero_add, ← (hC5.cell i hi).1]; exact hW.cell (p := ⟨g, i, none⟩) hg5⟩) (hv.keep (fun q hq => (hW.block q (by omega)).trans (hkp5 q hq)) (Nat.le_refl _)) (fun x hx' => by have := hx x hx'; omega) (hbw2.zeros _) hl
    rw [sumAt_zeros] at this
    exact this
   have H1 : Hid (∀ W, Below W5.heap.size W5 W → Calls Tryz.prog 95 #[.slice (some ⟨g, 0, none⟩) N.length N.length, .slice ak y.kids.length ck] W fun e w' => e = .returned (.int .i64 (sumAtL (costsF N k) y.kids)) ∧ w' = W) := hcall _ _ HK.out HGY.out.1 HTY.out.kids
   have H2 : Hid (∀ W, Below W5.heap.size W5 W → Calls Tryz.prog 95 #[.slice (some ⟨g, 0, none⟩) N.length N.length, .slice at2 y.thn.length ct] W fun e w' => e = .returned (.int .i64 (sumAtL (costsF N k) y.thn)) ∧ w' = W) := hcall _ _ HT.out HGY.out.2.1 HTY.out.thn
   have H3 : Hid (∀ W, Below W5.heap.size W5 W → Calls Tryz.prog 95 #[.slice (some ⟨g, 0, none⟩) N.length N.length, .slice ae y.els.length ce] W fun e w' => e = .returned (.int .i64 (sumAtL (costsF N k) y.els)) ∧ w' = W) := hcall _ _ HE.out HGY.out.2.2 HTY.out.els
   have hs1 := sum_big hbw2 HTY.out.kids
   have hs2 := sum_big hbw2 HTY.out.thn
   have hs3 := sum_big hbw2 HTY.out.els
   have hrd := rounds_le HTY.out
   have hnm := HTY.out.num
   have hfr := HTY.out.far
   have hmul := mul_le_of hrd.1 hrd.2 (b := 3 + sumAtL (costsF N k) y.thn) (by omega) (Int.add_le_add_left hs2.2 3)
   have HPUT : Hid ((costsF N k ++ List.replicate (N.length - k) 0).set k (costN (costsF N k) y) = costsF N (k + 1) ++ List.replicate (N.length - (k + 1)) 0) := by
    have := costs_put N k N.length hlt
    rw [List.getD_eq_getElem?_getD, HY.out] at this
    exact this
   have C9 : Hid (y.kind = 9 → costN (costsF N k) y = min 100000 (1 + sumAtL (costsF N k) y.kids + max (sumAtL (costsF N k) y.thn) (sumAtL (costsF N k) y.els))) := fun h => by unfold costN; rw [if_pos h]
   have C10 : Hid (y.kind = 10 → costN (costsF N k) y = min 100000 (1 + sumAtL (costsF N k) y.kids + 2 + max 0 (y.far - y.num + 1) * (3 + sumAtL (costsF N k) y.thn))) := fun h => by unfold costN; rw [if_neg (by omega), if_pos h]
   have C11 : Hid (y.kind = 11 → costN (costsF N k) y = min 100000 (1 + sumAtL (costsF N k) y.kids + 12)) := fun h => by unfold costN; rw [if_neg (by omega), if_neg (by omega), if_pos h]
   have C0 : Hid (y.kind ≠ 9 → y.kind ≠ 10 → y.kind ≠ 11 → costN (costsF N k) y = min 100000 (1 + sumAtL (costsF N k) y.kids)) := fun h1 h2 h3 => by unfold costN; rw [if_neg h1, if_neg h2, if_neg h3]
   generalize sumAtL (costsF N k) y.kids = s1 at *
   generalize sumAtL (costsF N k) y.thn = s2 at *
   generalize sumAtL (costsF N k) y.els = s3 at *
   generalize Value.slice ak y.kids.length ck = v1 at *
   generalize Value.slice at2 y.thn.length ct = v2 at *
   generalize Value.slice ae y.els.length ce = v3 at *
   have HAA := hid hA
   clear hA hcall hC5 hB5 hbw2 hkp5 d0 d1 d2 d3 d4 d5 d6 d7 HK HT HE HKP
   refine (H1.out _ (Below.refl _ _)).mono ?_
   rintro e w2 ⟨rfl, rfl⟩
   have hc0 := (HC5.out.cell k (by omega)).1
   have hf0 := (HC5.out.cell k (by omega)).2
   have hmx := max2 s2 s3
   by_cases k9 : y.kind = 9
   ·have HCE : Hid (costN (costsF N k) y = min 100000 (1 + s1 + max s2 s3)) := C9.out k9
    have hw9 : IntKind.i64.wrap (1 + s1 + max s2 s3) = 1 + s1 + max s2 s3 := IntWalk.i64_in _ (by omega)
    go_wp2_with fail
    go_region_held3 (fun W => W.cell? ⟨wr.heap.size, 6, none⟩ = some v2 ∧ W.cell? ⟨wr.heap.size, 7, none⟩ = some v3) (go_keep) (first | (go_at_call 95; (with_reducible show Calls _ _ #[_, v2] _ _); refine (H2.out _ (Below.refl _ _).drew).mono ?_; rintro e w3 ⟨rfl, rfl⟩) | (go_at_call 95; (with_reducible show Calls _ _ #[_, v3] _ _); refine (H3.out _ (Below.refl _ _).drew).mono ?_; rintro e w3 ⟨rfl, rfl⟩))
    have hcd : Hid (Cnt w2.drew g 2 (costsF N k ++ List.replicate (N.length - k) 0)) := HC5.out
    have hbd : Hid (But g wr w2.drew) := HB5.out.drew
    have hc0 : w2.drew.cell? ⟨g, k, none⟩ = _ := hc0
    have hf0 : w2.drew.frozen? ⟨g, k, none⟩ = false := hf0
    clear HC5 HB5 hmx hw9 e0 e1 e2 e3 e4 e5 e6 e7 H1 H2 H3 HAA
    have HC5 := hcd
    have HB5 := hbd
    clear hcd hbd
    generalize w2.drew = w2 at *
    go_wp2_with fail
    have hX : (if 100000 < 1 + s1 + max s2 s3 then 100000 else 1 + s1 + max s2 s3) = costN (costsF N k) y := by rw [HCE.out]; split <;> omega
    rw [hX]
    have hP : Hid (Cnt (w2.setCell ⟨g, k, none⟩ (.int .i64 (costN (costsF N k) y))) g 2 (costsF N (k + 1) ++ List.replicate (N.length - (k + 1)) 0)) := by
     have := HC5.out.put k (costN (costsF N k) y)
     rw [HPUT.out] at this
     exact this
    have hQ : Hid (But g w1 (w2.setCell ⟨g, k, none⟩ (.int .i64 (costN (costsF N k) y)))) := (HBT.out.trans HB5.out).set _ _
    exact ⟨⟨k + 1, by omega, by go_num, hP.out, hQ.out⟩, by simp [intOf]; omega⟩
   by_cases k10 : y.kind = 10
   ·have HCE : Hid (costN (costsF N k) y = min 100000 (1 + s1 + 2 + max 0 (y.far - y.num + 1) * (3 + s2))) := C10.out k10
    have HRO : Hid (∀ x0 W, Calls Tryz.prog 131 #[.agg #[x0, .int .i64 y.op, .string (bs y.name), .int .i64 y.num, .int .i64 y.far, v1, v2, v3]] W fun e w' => e = .returned (.int .i64 (max 0 (y.far - y.num + 1))) ∧ Below W.heap.size W w') := fun x0 W => roundsOf_any x0 _ _ _ _ _ _ _ ⟨by omega, by omega⟩ ⟨by omega, by omega⟩ W
    generalize max 0 (y.far - y.num + 1) = R at *
    obtain ⟨M, hM⟩ : ∃ M, M = R * (3 + s2) := ⟨_, rfl⟩
    have hwa : IntKind.i64.wrap (3 + s2) = 3 + s2 := IntWalk.i64_in _ (by omega)
    have hwe : IntKind.i64.wrap (R * (3 + s2)) = M := by rw [hM]; exact IntWalk.i64_in _ (by omega)
    rw [← hM] at hmul HCE
    clear hM
    have hwb : IntKind.i64.wrap (2 + M) = 2 + M := IntWalk.i64_in _ (by omega)
    have hwc : IntKind.i64.wrap (1 + s1 + (2 + M)) = 1 + s1 + (2 + M) := IntWalk.i64_in _ (by omega)
    have hS0 : Below w2.heap.size w2 w2 := Below.refl _ _
    have HCL : Hid (∀ W, Below w2.heap.size w2 W → W.cell? ⟨wr.heap.size, 0, none⟩ = some (.int .i64 y.kind) ∧ W.cell? ⟨wr.heap.size, 1, none⟩ = some (.int .i64 y.op) ∧ W.cell? ⟨wr.heap.size, 2, none⟩ = some (.string (bs y.name)) ∧ W.cell? ⟨wr.heap.size, 3, none⟩ = some (.int .i64 y.num) ∧ W.cell? ⟨wr.heap.size, 4, none⟩ = some (.int .i64 y.far) ∧ W.cell? ⟨wr.heap.size, 5, none⟩ = some v1 ∧ W.cell? ⟨wr.heap.size, 6, none⟩ = some v2 ∧ W.cell? ⟨wr.heap.size, 7, none⟩ = some v3) := fun W hb => cl8 (blk HAA.out hb)
    go_wp2_with fail
    go_region_held3 (fun W => Below w2.heap.size w2 W ∧ W.cell? ⟨wr.heap.size, 0, none⟩ = some (.int .i64 y.kind) ∧ W.cell? ⟨wr.heap.size, 1, none⟩ = some (.int .i64 y.op) ∧ W.cell? ⟨wr.heap.size, 2, none⟩ = some (.string (bs y.name)) ∧ W.cell? ⟨wr.heap.size, 3, none⟩ = some (.int .i64 y.num) ∧ W.cell? ⟨wr.heap.size, 4, none⟩ = some (.int .i64 y.far) ∧ W.cell? ⟨wr.heap.size, 5, none⟩ = some v1 ∧ W.cell? ⟨wr.heap.size, 6, none⟩ = some v2 ∧ W.cell? ⟨wr.heap.size, 7, none⟩ = some v3) (first | (with_reducible exact ⟨by assumption, HCL.out _ (by assumption)⟩) | (with_reducible exact ⟨hS0.drew, HCL.out _ hS0.drew⟩) | fail) (first | (go_at_call 131; refine (HRO.out _ _).mono ?_; rintro e w3 ⟨rfl, hb⟩; have hD3 : Below w2.heap.size w2 w3 := bel_go (And.left (by with_reducible assumption)) hb; clear hb) | (go_at_call 95; refine (H2.out _ hD3).mono ?_; rintro e w4 ⟨rfl, hw4⟩; have hw5 := hw4.symm; clear hw4; subst hw5) | fail)
    have HC6 : Hid (Cnt w3 g 2 (costsF N k ++ List.replicate (N.length - k) 0)) := blk HC5.out hD3
    have HB6 : Hid (But g wr w3) := HB5.out.trans ⟨hD3.mono (Nat.le_of_lt hg5), fun b hb _ => hD3.block b hb⟩
    have hc0 := (HC6.out.cell k (by omega)).1
    have hf0 := (HC6.out.cell k (by omega)).2
    clear HC5 HB5 hwa hwe hwb hwc hS0 HCL HRO HAA hmx e0 e1 e2 e3 e4 e5 e6 e7 H1 H2 H3 hD3
    go_wp2_with fail
    have hX : (if 100000 < 1 + s1 + (2 + M) then 100000 else 1 + s1 + (2 + M)) = costN (costsF N k) y := by rw [HCE.out]; split <;> omega
    rw [hX]
    have hP : Hid (Cnt (w3.setCell ⟨g, k, none⟩ (.int .i64 (costN (costsF N k) y))) g 2 (costsF N (k + 1) ++ List.replicate (N.length - (k + 1)) 0)) := by
     have := HC6.out.put k (costN (costsF N k) y)
     rw [HPUT.out] at this
     exact this
    have hQ : Hid (But g w1 (w3.setCell ⟨g, k, none⟩ (.int .i64 (costN (costsF N k) y)))) := (HBT.out.trans HB6.out).set _ _
    exact ⟨⟨k + 1, by omega, by go_num, hP.out, hQ.out⟩, by simp [intOf]; omega⟩
   by_cases k11 : y.kind = 11
   ·have HCE : Hid (costN (costsF N k) y = min 100000 (1 + s1 + 12)) := C11.out k11
    go_wp2_with fail
    have hX : (if 100000 < 1 + s1 + 12 then 100000 else 1 + s1 + 12) = costN (costsF N k) y := by rw [HCE.out]; split <;> omega
    rw [hX]
    have hP : Hid (Cnt (w2.setCell ⟨g, k, none⟩ (.int .i64 (costN (costsF N k) y))) g 2 (costsF N (k + 1) ++ List.replicate (N.length - (k + 1)) 0)) := by
     have := HC5.out.put k (costN (costsF N k) y)
     rw [HPUT.out] at this
     exact this
    have hQ : Hid (But g w1 (w2.setCell ⟨g, k, none⟩ (.int .i64 (costN (costsF N k) y)))) := (HBT.out.trans HB5.out).set _ _
    exact ⟨⟨k + 1, by omega, by go_num, hP.out, hQ.out⟩, by simp [intOf]; omega⟩
   have HCE : Hid (costN (costsF N k) y = min 100000 (1 + s1)) := C0.out k9 k10 k11
   go_wp2_with fail
   have hX : (if 100000 < 1 + s1 then 100000 else 1 + s1) = costN (costsF N k) y := by rw [HCE.out]; split <;> omega
   rw [hX]
   have hP : Hid (Cnt (w2.setCell ⟨g, k, none⟩ (.int .i64 (costN (costsF N k) y))) g 2 (costsF N (k + 1) ++ List.replicate (N.length - (k + 1)) 0)) := by
    have := HC5.out.put k (costN (costsF N k) y)
    rw [HPUT.out] at this
    exact this
   have hQ : Hid (But g w1 (w2.setCell ⟨g, k, none⟩ (.int .i64 (costN (costsF N k) y)))) := (HBT.out.trans HB5.out).set _ _
   exact ⟨⟨k + 1, by omega, by go_num, hP.out, hQ.out⟩, by simp [intOf]; omega⟩
  ·have hke : k = N.length := by omega
   subst hke
   have HCN0 : Hid (Cnt wr g 2 (costsF N N.length)) := by unfold Hid; have := HCN.out; simpa using this
   clear hcnt hbut HCN
   go_wp2
   go_ret
   subst hge
   exact ⟨rfl, HCN0.out, HB.out.trans HBT.out.below⟩
end Go.Proofs.YtepjaoapjpmjkaaGreatDoor
namespace Go.Proofs.YtepjaoapjpmjkaaGreatDoor
open Go.RowKit
set_option linter.unusedVariables false
attribute [local go_sem] bs_size bs_get bs_extract bs_append bs_eq bs_toList
set_option maxHeartbeats 6400000 in
set_option maxRecDepth 100000 in
theorem budgetOf_any (lo : Nat) (vv vn vb : Value) (T : LTree) (w : World) (h : TreeV lo w vv vn vb T) (hS : Sized 1048576 T) (hG : Good T) :
  Calls Tryz.prog 48 #[treeV vv vn vb] w fun e w' => e = .returned (.int .i64 (budT T)) ∧ Below w.heap.size w w' := by
 obtain ⟨av, cv, rfl, _⟩ := id h.vars
 obtain ⟨an, cn, rfl, _⟩ := id h.nodes
 obtain ⟨ab, cb, rfl, _⟩ := id h.body
 have HCO : Hid (∀ (w' : World), Below w.heap.size w w' → Calls Tryz.prog 96 #[.slice an T.nodes.length cn] w' fun e w2 => e = .returned (.slice (some ⟨w'.heap.size, 0, none⟩) T.nodes.length T.nodes.length) ∧ Cnt w2 w'.heap.size 2 (costsF T.nodes T.nodes.length) ∧ Below w'.heap.size w' w2) := fun w' hb =>
  costs_any lo an cn T.nodes w' (h.nodes.below hb) hG.nodes (hG.tame hS) (fun k n hk => (hG.node k n hk).2)
 have HSU : Hid (∀ (a : Option Addr) (c : Nat) (W : World), Below w.heap.size w W → Nums W a (costsF T.nodes T.nodes.length) → Calls Tryz.prog 95 #[.slice a T.nodes.length c, .slice ab T.body.length cb] W fun e w' => e = .returned (.int .i64 (sumAtL (costsF T.nodes T.nodes.length) T.body)) ∧ w' = W) := fun a c W hb hn =>
  sumAt_any (costsF T.nodes T.nodes.length) T.body a T.nodes.length c W.heap.size _ W (costsF_len _ _) (by have := hG.nodes; omega) hn ((h.below hb).body).toB hG.body (costsF_le T.nodes (hG.tame hS) _ (Nat.le_refl _)) hS.body
 have hsb := sum_big (costsF_le T.nodes (hG.tame hS) _ (Nat.le_refl _)) hS.body
 have HDL : Hid ((costsF T.nodes T.nodes.length).length = T.nodes.length) := costsF_len _ _
 have HBU : Hid (budT T = 1 + sumAtL (costsF T.nodes T.nodes.length) T.body) := rfl
 clear h hS hG
 obtain ⟨ds, hds⟩ : ∃ ds, ds = costsF T.nodes T.nodes.length := ⟨_, rfl⟩
 rw [← hds] at HCO HSU hsb HDL HBU
 clear hds
 obtain ⟨sm, hsm⟩ : ∃ sm, sm = sumAtL ds T.body := ⟨_, rfl⟩
 rw [← hsm] at HSU hsb HBU
 clear hsm
 go_enter Tryz.func48, Tryz.ntmps48
 go_wp2_with fail
 have hb1 : Below w.heap.size w (w.alloc (.cells #[.slice av T.vars.length cv, .slice an T.nodes.length cn, .slice ab T.body.length cb] 34)) := (Below.refl _ _).alloc (Nat.le_refl _) _
 have hA := heap_alloc_new w (.cells #[.slice av T.vars.length cv, .slice an T.nodes.length cn, .slice ab T.body.length cb] 34)
 generalize w.alloc (.cells #[.slice av T.vars.length cv, .slice an T.nodes.length cn, .slice ab T.body.length cb] 34) = W1 at *
 obtain ⟨-, p1, p2⟩ := cl3 hA
 have hlt := blk_lt hA
 have HB1 : Hid (Below w.heap.size w W1.drew) := hb1.drew
 clear hA hb1
 go_region_held3 (fun Z => Z.cell? ⟨w.heap.size, 1, none⟩ = some (.slice an T.nodes.length cn) ∧ Z.cell? ⟨w.heap.size, 2, none⟩ = some (.slice ab T.body.length cb)) (go_keep) (first | (go_at_call 96; refine (HCO.out _ HB1.out).mono ?_; rintro e w7 ⟨rfl, hcnt, hb7⟩; have q1 := (hb7.cell (p := ⟨w.heap.size, 1, none⟩) hlt).trans p1; have q2 := (hb7.cell (p := ⟨w.heap.size, 2, none⟩) hlt).trans p2; have HNU : Hid (Nums w7 (some ⟨W1.drew.heap.size, 0, none⟩) ds) := .inr ⟨_, 0, rfl, fun i hi => by rw [Nat.zero_add]; exact (hcnt.cell i hi).1⟩; have HB9 : Hid (Below w.heap.size w w7) := HB1.out.trans (hb7.mono HB1.out.size); clear hcnt hb7) | (go_at_call 95; refine (HSU.out _ _ _ HB9.out HNU.out).mono ?_; rintro e w8 ⟨rfl, rfl⟩))
 clear p1 p2 q1 q2 HCO HSU
 go_wp2_with fail
 go_ret
 have e : Ending.returned (Value.int .i64 (IntKind.i64.wrap (1 + sm))) = Ending.returned (Value.int .i64 (budT T)) := by rw [HBU.out, IntWalk.i64_in _ (by omega)]
 exact ⟨e, HB9.out⟩
end Go.Proofs.YtepjaoapjpmjkaaGreatDoor
namespace Go.Proofs.YtepjaoapjpmjkaaGreatDoor
open Go.RowKit
open Go.Maps
set_option linter.unusedVariables false
theorem first_some (V : List LVar) (nm : List UInt8) : ∀ k, k ≤ V.length → ((firstI V nm k).isSome = true ↔ ∃ v ∈ V.take k, v.name = nm) := by
 intro k
 induction k with
 | zero => intro _; simp [firstI]
 | succ k ih =>
  intro hk
  have hk2 : k < V.length := by omega
  rw [List.take_succ_eq_append_getElem hk2]
  have e : V.getD k default = V[k] := by rw [List.getD_eq_getElem?_getD, List.getElem?_eq_getElem hk2]; rfl
  cases hf : firstI V nm k with
  | some i =>
   rw [firstI_some hf]
   have h1 := (ih (by omega)).1 (by rw [hf]; rfl)
   obtain ⟨v, hv, e2⟩ := h1
   exact ⟨fun _ => ⟨v, List.mem_append.2 (.inl hv), e2⟩, fun _ => rfl⟩
  | none =>
   have h1 : ¬ ∃ v ∈ V.take k, v.name = nm := fun h => by
    have := (ih (by omega)).2 h
    rw [hf] at this; cases this
   by_cases he : (V.getD k default).name = nm
   ·rw [firstI_hit hf he]
    rw [e] at he
    exact ⟨fun _ => ⟨V[k], List.mem_append.2 (.inr (List.mem_singleton.2 rfl)), he⟩, fun _ => rfl⟩
   ·rw [firstI_miss hf he]
    rw [e] at he
    refine ⟨fun h => (by cases h), fun ⟨v, hv, e2⟩ => ?_⟩
    rcases List.mem_append.1 hv with hv | hv
    ·exact absurd ⟨v, hv, e2⟩ h1
    ·rw [List.mem_singleton] at hv; subst hv; exact absurd e2 he
theorem nameD_tidy (V : List LVar) (nv : Nat) : ∀ k, Tidy (nameD V nv k) := by
 intro k
 induction k with
 | zero => exact tidy_empty
 | succ k ih =>
  unfold nameD
  split
  ·exact ih
  ·exact ih.put (key_lit _) _
theorem nameD_size (V : List LVar) (nv : Nat) : ∀ k, k ≤ V.length → Maps.size (nameD V nv k) ≤ k ∧ (Maps.size (nameD V nv k) = k ↔ ∀ j, j < k → varFrom (V.getD j default).name (V.take j) 0 < 0) := by
 intro k
 induction k with
 | zero => intro _; exact ⟨Nat.le_refl _, ⟨fun _ j hj => by omega, fun _ => rfl⟩⟩
 | succ k ih =>
  intro hk
  obtain ⟨h1, h2⟩ := ih (by omega)
  have hfs := first_some V (V.getD k default).name k (by omega)
  have hvm := varFrom_mem (V.getD k default).name (V.take k) 0
  unfold nameD
  by_cases hs : (firstI V (V.getD k default).name k).isSome = true
  ·rw [if_pos hs]
   refine ⟨by omega, ⟨fun e => by omega, fun h => ?_⟩⟩
   have h3 := h k (by omega)
   have h4 := hvm.2 (hfs.1 hs)
   omega
  ·rw [if_neg hs, size_put (nameD_tidy V nv k)]
   rw [(nameD_at V nv (.held noVal) k (V.getD k default).name).1, if_neg hs]
   have h5 : varFrom (V.getD k default).name (V.take k) 0 < 0 := Classical.byContradiction fun h => hs (hfs.2 (hvm.1 (by omega)))
   refine ⟨by omega, ⟨fun e j hj => ?_, fun h => ?_⟩⟩
   ·by_cases ej : j = k
    ·rw [ej]; exact h5
    ·exact h2.1 (by omega) j (by omega)
   ·have := h2.2 (fun j hj => h j (by omega)); omega
theorem size_dup (V : List LVar) (nv : Nat) : Maps.size (nameD V nv V.length) ≤ V.length ∧ (Maps.size (nameD V nv V.length) < V.length ↔ dupB V = true) := by
 obtain ⟨h1, h2⟩ := nameD_size V nv V.length (Nat.le_refl _)
 refine ⟨h1, ⟨fun h => ?_, fun h => ?_⟩⟩
 ·cases hd : dupB V with
  | true => rfl
  | false =>
   exfalso
   have : Maps.size (nameD V nv V.length) = V.length := h2.2 fun j hj => by
    refine Classical.byContradiction fun hh => ?_
    rw [dup_hit hj (by omega)] at hd; cases hd
   omega
 ·refine Nat.lt_of_le_of_ne h1 fun e => ?_
  have := dup_none (h2.1 e)
  rw [this] at h; cases h
end Go.Proofs.YtepjaoapjpmjkaaGreatDoor
namespace Go.Proofs.YtepjaoapjpmjkaaGreatDoor
open Go.RowKit
set_option linter.unusedVariables false
attribute [local go_sem] bs_size bs_get bs_extract bs_append bs_eq bs_toList
set_option maxHeartbeats 400000 in
theorem iletter_any (n : Int) (w : World) : Calls Tryz.prog 111 #[.int .u8 n] w fun e w' => e = .returned (.bool (isLetI n)) ∧ w' = w := by
 by_cases h1 : 97 ≤ n
 ·by_cases h2 : n ≤ 122
  ·have hv : isLetI n = true := decide_eq_true (.inl ⟨h1, h2⟩)
   rw [hv]; clear hv
   go_enter Tryz.func111, Tryz.ntmps111
   go_wp2
   go_ret
   exact ⟨rfl, rfl⟩
  ·have hv : isLetI n = false := decide_eq_false (by omega)
   rw [hv]; clear hv
   have h3 : (n == 95) = false := by simpa using (by omega : n ≠ 95)
   go_enter Tryz.func111, Tryz.ntmps111
   go_wp2
   go_ret
   exact ⟨rfl, rfl⟩
 ·by_cases h2 : n = 95
  ·subst h2
   go_enter Tryz.func111, Tryz.ntmps111
   go_wp2
   go_ret
   exact ⟨rfl, rfl⟩
  ·have hv : isLetI n = false := decide_eq_false (by omega)
   rw [hv]; clear hv
   have h3 : (n == 95) = false := by simpa using h2
   go_enter Tryz.func111, Tryz.ntmps111
   go_wp2
   go_ret
   exact ⟨rfl, rfl⟩
set_option maxHeartbeats 1600000 in
theorem iIsWord_any (l : List UInt8) (w : World) : Calls Tryz.prog 110 #[.string (bs l)] w fun e w' => e = .returned (.bool (isWordL l)) ∧ w' = w := by
 cases h : isWordL l
 ·
  have b0 : (l == [97, 110, 100]) = false := beq_eq_false_iff_ne.2 fun e => by subst e; exact absurd h (by decide)
  have b1 : (l == [98, 111, 111, 108]) = false := beq_eq_false_iff_ne.2 fun e => by subst e; exact absurd h (by decide)
  have b2 : (l == [99, 116, 117]) = false := beq_eq_false_iff_ne.2 fun e => by subst e; exact absurd h (by decide)
  have b3 : (l == [100, 111]) = false := beq_eq_false_iff_ne.2 fun e => by subst e; exact absurd h (by decide)
  have b4 : (l == [101, 108, 115, 101]) = false := beq_eq_false_iff_ne.2 fun e => by subst e; exact absurd h (by decide)
  have b5 : (l == [101, 110, 100]) = false := beq_eq_false_iff_ne.2 fun e => by subst e; exact absurd h (by decide)
  have b6 : (l == [102, 97, 108, 115, 101]) = false := beq_eq_false_iff_ne.2 fun e => by subst e; exact absurd h (by decide)
  have b7 : (l == [102, 111, 114]) = false := beq_eq_false_iff_ne.2 fun e => by subst e; exact absurd h (by decide)
  have b8 : (l == [105, 102]) = false := beq_eq_false_iff_ne.2 fun e => by subst e; exact absurd h (by decide)
  have b9 : (l == [105, 110]) = false := beq_eq_false_iff_ne.2 fun e => by subst e; exact absurd h (by decide)
  have b10 : (l == [105, 110, 116]) = false := beq_eq_false_iff_ne.2 fun e => by subst e; exact absurd h (by decide)
  have b11 : (l == [109, 111, 100]) = false := beq_eq_false_iff_ne.2 fun e => by subst e; exact absurd h (by decide)
  have b12 : (l == [110, 111, 116]) = false := beq_eq_false_iff_ne.2 fun e => by subst e; exact absurd h (by decide)
  have b13 : (l == [111, 114]) = false := beq_eq_false_iff_ne.2 fun e => by subst e; exact absurd h (by decide)
  have b14 : (l == [111, 117, 116]) = false := beq_eq_false_iff_ne.2 fun e => by subst e; exact absurd h (by decide)
  have b15 : (l == [114, 116, 114, 105, 103]) = false := beq_eq_false_iff_ne.2 fun e => by subst e; exact absurd h (by decide)
  have b16 : (l == [115, 114]) = false := beq_eq_false_iff_ne.2 fun e => by subst e; exact absurd h (by decide)
  have b17 : (l == [116, 104, 101, 110]) = false := beq_eq_false_iff_ne.2 fun e => by subst e; exact absurd h (by decide)
  have b18 : (l == [116, 111]) = false := beq_eq_false_iff_ne.2 fun e => by subst e; exact absurd h (by decide)
  have b19 : (l == [116, 111, 110]) = false := beq_eq_false_iff_ne.2 fun e => by subst e; exact absurd h (by decide)
  have b20 : (l == [116, 114, 117, 101]) = false := beq_eq_false_iff_ne.2 fun e => by subst e; exact absurd h (by decide)
  have b21 : (l == [118, 97, 114]) = false := beq_eq_false_iff_ne.2 fun e => by subst e; exact absurd h (by decide)
  have b22 : (l == [120, 111, 114]) = false := beq_eq_false_iff_ne.2 fun e => by subst e; exact absurd h (by decide)
  clear h
  go_enter Tryz.func110, Tryz.ntmps110
  go_wp2
  go_ret
  exact ⟨rfl, rfl⟩
 ·unfold isWordL at h
  obtain ⟨x, hx, hxl⟩ := List.any_eq_true.1 h
  have hxl : x = l := by simpa using hxl
  subst hxl
  clear h
  simp only [wordsL, List.mem_cons, List.not_mem_nil, or_false] at hx
  rcases hx with rfl | rfl | rfl | rfl | rfl | rfl | rfl | rfl | rfl | rfl | rfl | rfl | rfl | rfl | rfl | rfl | rfl | rfl | rfl | rfl | rfl | rfl | rfl
  all_goals
   go_enter Tryz.func110, Tryz.ntmps110
   go_wp2
   go_ret
   exact ⟨rfl, rfl⟩
set_option maxHeartbeats 800000 in
theorem iIsName_any (l : List UInt8) (w : World) (hl0 : l.length ≤ 9223372036854775807) : Calls Tryz.prog 72 #[.string (bs l)] w fun e w' => e = .returned (.bool (isNameL l)) ∧ w' = w := by
 have hw := iIsWord_any l w
 by_cases h1 : 1 ≤ l.length ∧ l.length ≤ 8
 ·have hn0 : isNameL l = (!isWordL l && l.all isLet) := by unfold isNameL; rw [decide_eq_true h1]; rfl
  obtain ⟨h1, h2⟩ := h1
  rw [hn0]
  clear hn0
  generalize isWordL l = b at hw
  cases b
  ·go_enter Tryz.func72, Tryz.ntmps72
   go_wp2_with (first | (go_at_call 110; refine hw.mono ?_; rintro e w' ⟨rfl, rfl⟩))
   clear hw
   go_loop [18] (fun i => ∃ k : Nat, k ≤ l.length ∧ i = .int .i64 k ∧ ∀ j, j < k → isLet (ch l j) = true) (fun i => l.length - (intOf i).toNat)
   case atStart => exact ⟨0, by omega, rfl, by omega⟩
   case round =>
    obtain ⟨k, hk, rfl, hno⟩ := hrel
    have HNO := hid hno
    clear hno
    by_cases hlt : k < l.length
    ·cases hc : isLetI ((ch l k).toNat : Int)
     ·go_wp2_with (first | (go_at_call 111; refine (iletter_any _ _).mono ?_; rintro e w' ⟨rfl, rfl⟩))
      go_ret
      exact ⟨retB (by rw [all_no hlt hc]; rfl), rfl⟩
     ·go_wp2_with (first | (go_at_call 111; refine (iletter_any _ _).mono ?_; rintro e w' ⟨rfl, rfl⟩))
      go_round
      case rel => exact ⟨k + 1, by omega, by go_num, fun j hj => by rcases Nat.lt_succ_iff_lt_or_eq.1 hj with h | rfl; exact HNO.out j h; exact hc⟩
      case measure => simp [intOf]; omega
    ·have hk3 : k = l.length := by omega
     subst hk3
     go_wp2
     go_ret
     exact ⟨retB (by rw [all_yes HNO.out]), rfl⟩
  ·go_enter Tryz.func72, Tryz.ntmps72
   go_wp2_with (first | (go_at_call 110; refine hw.mono ?_; rintro e w' ⟨rfl, rfl⟩))
   go_ret
   exact ⟨rfl, rfl⟩
 ·have hn0 : isNameL l = false := by unfold isNameL; rw [decide_eq_false h1]; rfl
  rw [hn0]
  clear hn0 hw
  by_cases h2 : 1 ≤ l.length
  ·have h3 : 8 < l.length := by omega
   clear h1
   go_enter Tryz.func72, Tryz.ntmps72
   go_wp2
   go_ret
   exact ⟨rfl, rfl⟩
  ·have h3 : l.length = 0 := by omega
   clear h1
   go_enter Tryz.func72, Tryz.ntmps72
   go_wp2
   go_ret
   exact ⟨rfl, rfl⟩
end Go.Proofs.YtepjaoapjpmjkaaGreatDoor
namespace Go.Proofs.YtepjaoapjpmjkaaGreatDoor
open Go.RowKit
set_option linter.unusedVariables false
attribute [local go_sem] bs_size bs_get bs_extract bs_append bs_eq bs_toList
set_option maxHeartbeats 6400000 in
set_option maxRecDepth 100000 in
theorem namesFault_any (V : List LVar) (nv : Nat) (ad : Option Addr) (k c : Nat) (w : World) (hk : k = V.length) (hV : RowE w ad V nv) (hl : V.length ≤ 624) (hn : ∀ x ∈ V, x.name.length ≤ 1048576) (hnv : nv ≤ V.length) :
  Calls Tryz.prog 92 #[.slice ad k c] w fun e w' => e = .returned (.int .i64 (namesF V nv)) ∧ Below w.heap.size w w' := by
 subst hk
 have HV : Hid (RowE w ad V nv) := hV
 have HBN : Hid (Calls Tryz.prog 81 #[.slice ad V.length c] w fun e w' => e = .returned (.map (some w.heap.size)) ∧ w'.ownsMap Tryz.prog 9 heldR w.heap.size V.length (nameD V nv V.length) ∧ Below w.heap.size w w') := byName_any V nv ad V.length c w rfl hV hl hn
 have HNM : Hid (∀ x ∈ V, x.name.length ≤ 1048576) := hn
 obtain ⟨hsd1, hsd2⟩ := size_dup V nv
 obtain ⟨sz, hsz⟩ : ∃ sz, sz = Maps.size (nameD V nv V.length) := ⟨_, rfl⟩
 have HLEN : Hid (∀ (W : World), W.ownsMap Tryz.prog 9 heldR w.heap.size V.length (nameD V nv V.length) → (Builtin.len_ #[123] 3 #[.map (some w.heap.size)]).run Tryz.prog W = .ok (.int .i64 (sz : Int)) W) := fun W h => by rw [hsz]; exact h.len Tryz.underlying123 _
 rw [← hsz] at hsd1 hsd2
 obtain ⟨R, hR⟩ : ∃ R, R = namesF V nv := ⟨_, rfl⟩
 rw [← hR]
 have HR : Hid (R = if dupB V then 7 else if (V.drop nv).any (fun v => !isNameL v.name) then 5 else 0) := hR
 clear hV hn hR hsz
 go_enter Tryz.func92, Tryz.ntmps92
 go_wp2_with fail
 refine HBN.out.mono ?_
 rintro e w1 ⟨rfl, hm, hb⟩
 have hlen := HLEN.out w1 hm
 have HB : Hid (Below w.heap.size w w1) := hb
 clear hm hb HBN HLEN
 by_cases hd : sz < V.length
 ·have HR2 : Hid (R = 7) := by unfold Hid; rw [HR.out, hsd2.1 hd, if_pos rfl]
  clear HR hsd2
  go_wp2_with fail
  go_ret
  exact ⟨by rw [HR2.out]; rfl, HB.out⟩
 ·have hdf : dupB V = false := by cases h : dupB V with
   | false => rfl
   | true => exact absurd (hsd2.2 h) hd
  have HR2 : Hid (R = if (V.drop (max nv 0)).any (fun v => !isNameL v.name) then 5 else 0) := by unfold Hid; rw [HR.out, hdf, Nat.max_zero]; rfl
  clear HR hsd2 hdf
  go_wp2_with fail
  go_loopw [13] (fun i wr => ∃ j : Nat, j ≤ V.length ∧ i = .int .i64 j ∧ Hid (R = if (V.drop (max nv j)).any (fun v => !isNameL v.name) then 5 else 0) ∧ Hid (Below w.heap.size w wr)) (fun i _ => V.length - (intOf i).toNat)
  case atStart => exact ⟨0, by omega, rfl, HR2, HB⟩
  case round =>
   clear HR2 HB hlen
   obtain ⟨j, hj, rfl, HR, HB⟩ := hrel
   by_cases hlt : j < V.length
   ·obtain ⟨x, hx⟩ : ∃ x, V[j]? = some x := ⟨V[j]'(by omega), List.getElem?_eq_getElem _⟩
    obtain ⟨g, rfl, hc⟩ := (HV.out.below HB.out) (by intro e; rw [e] at hx; simp at hx)
    obtain ⟨⟨c0, c1, c2, c3⟩, c4, c5⟩ := hc j x hx
    have hj0 : (0 : Int) ≤ (j : Int) := by omega
    have hj1 : (j : Int) < (V.length : Int) := by omega
    have hxn := HNM.out x (List.mem_of_getElem? hx)
    have hwz := HB.out.size
    have HBX : Hid (∀ o, Below w.heap.size w (wr.alloc o)) := fun o => HB.out.alloc hwz o
    by_cases hov : nv ≤ j
    ·have HST : Hid (R = if (!isNameL x.name || (V.drop (j + 1)).any (fun v => !isNameL v.name)) then 5 else 0) := by unfold Hid; rw [HR.out, show max nv j = j by omega, any_drop_step hx]
     have hod : decide (nv ≤ j) = true := decide_eq_true hov
     rw [hod] at c4
     obtain ⟨q, hq⟩ : ∃ q, isNameL x.name = q := ⟨_, rfl⟩
     have HIN : Hid (∀ w, Calls Tryz.prog 72 #[.string (bs x.name)] w fun e w' => e = .returned (.bool q) ∧ w' = w) := fun w => by rw [← hq]; exact iIsName_any x.name w (by omega)
     rw [hq] at HST
     clear hx hc HR hq hod HB
     generalize cellsL (V.take j) = s at *
     cases q with
     | true =>
      have HR3 : Hid (R = if (V.drop (max nv (j + 1))).any (fun v => !isNameL v.name) then 5 else 0) := by unfold Hid; rw [show max nv (j + 1) = j + 1 by omega]; exact HST.out
      clear HST hov
      go_wp2_with fail
      refine (HIN.out _).mono ?_
      rintro e w8 ⟨rfl, rfl⟩
      have HB8 : Hid (Below w.heap.size w _) := HBX.out (.cells #[.string (bs x.name), .int .i64 x.kind, .int .i64 x.type, .int .i64 x.size, .bool true, .int .i64 s] 158)
      clear HIN c0 c1 c2 c3 c4 c5
      go_wp2_with fail
      go_roundw
      case rel => exact ⟨j + 1, by omega, by go_num, HR3, HB8⟩
      case measure => simp [intOf]; omega
     | false =>
      have HR3 : Hid (R = 5) := by unfold Hid; rw [HST.out]; rfl
      clear HST hov
      go_wp2_with fail
      refine (HIN.out _).mono ?_
      rintro e w8 ⟨rfl, rfl⟩
      have HB8 : Hid (Below w.heap.size w _) := HBX.out (.cells #[.string (bs x.name), .int .i64 x.kind, .int .i64 x.type, .int .i64 x.size, .bool true, .int .i64 s] 158)
      clear HIN c0 c1 c2 c3 c4 c5
      go_wp2_with fail
      go_ret
      exact ⟨by rw [HR3.out]; rfl, HB8.out⟩
    ·have HR3 : Hid (R = if (V.drop (max nv (j + 1))).any (fun v => !isNameL v.name) then 5 else 0) := by unfold Hid; rw [HR.out, show max nv (j + 1) = max nv j by omega]
     have hod : decide (nv ≤ j) = false := decide_eq_false hov
     rw [hod] at c4
     clear hx hc HR hod HB hov
     generalize cellsL (V.take j) = s at *
     have HB8 : Hid (Below w.heap.size w _) := HBX.out (.cells #[.string (bs x.name), .int .i64 x.kind, .int .i64 x.type, .int .i64 x.size, .bool false, .int .i64 s] 158)
     go_wp2_with fail
     go_roundw
     case rel => exact ⟨j + 1, by omega, by go_num, HR3, HB8⟩
     case measure => simp [intOf]; omega
   ·have hje : j = V.length := by omega
    have HR3 : Hid (R = 0) := by unfold Hid; rw [HR.out, show max nv j = V.length by omega, List.drop_length]; rfl
    clear HR hje
    go_wp2_with fail
    go_ret
    exact ⟨by rw [HR3.out]; rfl, HB.out⟩
end Go.Proofs.YtepjaoapjpmjkaaGreatDoor
