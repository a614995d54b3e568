/-
  spec.l4Count.
-/
import Derived.Test.YteeklmgkhacbcaaGreatDoorIDeep
import Derived.BigRegion
import Derived.Laws.AppendOwn
namespace Go.Proofs.YteeklmgkhacbcaaGreatDoor
open Go.RowKit
set_option linter.unusedVariables false
attribute [local go_sem] bs_size bs_get bs_extract bs_append bs_eq bs_toList
abbrev deepP (ds : List Int) (k : Nat) (ls : List (Value × List Int)) : Int := ls.foldl (fun d q => deepG ds k d q.2) 0
theorem deepP_take {ds : List Int} {k j : Nat} {ls : List (Value × List Int)} {q : Value × List Int} (h : ls[j]? = some q) : deepP ds k (ls.take (j + 1)) = deepG ds k (deepP ds k (ls.take j)) q.2 := by
 obtain ⟨hk, rfl⟩ := List.getElem?_eq_some_iff.1 h
 unfold deepP; rw [List.take_succ_eq_append_getElem hk, List.foldl_append]; rfl
theorem row3_cell {W : World} {g : Nat} {a b c : Value} {T : TypeId} {l1 l2 l3 : List Int} (h : W.heap[g]? = some (.cells #[a, b, c] T (0, 0))) :
  ∀ j q, [(a, l1), (b, l2), (c, l3)][j]? = some q → W.cell? ⟨g, j, none⟩ = some q.1 := by
 intro j q hq
 match j, hq with
 | 0, hq => simp at hq; subst hq; exact cell_of_row _ _ 0 _ _ _ h
 | 1, hq => simp at hq; subst hq; exact cell_of_row _ _ 1 _ _ _ h
 | 2, hq => simp at hq; subst hq; exact cell_of_row _ _ 2 _ _ _ h
 | j + 3, hq => simp at hq
set_option maxHeartbeats 6400000 in
set_option maxRecDepth 100000 in
theorem l4Depths_any (lo p : Nat) (vv vn vb : Value) (T : LTree) (w : World) (h : TreeP lo w p vv vn vb T) (hn : T.nodes.length ≤ 1048576) (hS : ∀ n ∈ T.nodes, n.kids.length ≤ 1048576 ∧ n.thn.length ≤ 1048576 ∧ n.els.length ≤ 1048576) :
  Calls Tryz.prog 85 #[.pointer (some ⟨p, 0, none⟩)] w fun e w' => ∃ v, e = .returned v ∧ Own w' w.heap.size v (depthsF T.nodes T.nodes.length) ∧ Below w.heap.size w w' := by
 obtain ⟨an, cn, rfl, _, hhn⟩ := id h.tree.nodes
 have HN := hid hhn
 have p1 := h.c1
 have HP1 : Hid (w.cell? ⟨p, 1, none⟩ = some (.slice an T.nodes.length cn)) := p1
 have hpw : p < w.heap.size := World.block_lt_of_cell? _ _ p1
 have HS := hid hS
 clear h hhn hS
 obtain ⟨i0, hi, hz0, hz1, hz2⟩ := info_parts infoInt
 go_enter Tryz.func85, Tryz.ntmps85
 go_wp2
 have HOW0 : Hid ((w.alloc (.cells #[] 2)).ownsRow w.heap.size 2 1 (.slice (some ⟨w.heap.size, 0, none⟩) 0 0) 0 []) :=
  ⟨rfl, .inr ⟨w.heap.size, 0, #[], rfl, Nat.le_refl _, heap_alloc_new w _, Nat.le_refl _, by decide, rfl, rfl⟩⟩
 have HB0 : Hid (Below w.heap.size w (w.alloc (.cells #[] 2))) := (Below.refl _ _).alloc (Nat.le_refl _) _
 generalize w.alloc (.cells #[] 2) = W0 at *
 go_loopw [3, 4] (fun v i wr => ∃ k : Nat, k ≤ T.nodes.length ∧ i = .int .i64 k ∧ wr.ownsRow w.heap.size 2 1 v k ((depthsF T.nodes k).map (Value.int .i64)) ∧ Below w.heap.size w wr) (fun v i _ => T.nodes.length - (intOf i).toNat)
 case atStart => exact ⟨0, by omega, rfl, HOW0.out, HB0.out⟩
 case round =>
  clear HOW0 HB0
  obtain ⟨k, hk, rfl, hown, hB⟩ := hrel
  obtain ⟨ad, cp, rfl⟩ := own_shape hown
  have HOWN := hid hown
  have HB := hid hB
  have q1 := (hB.cell (p := ⟨p, 1, none⟩) hpw).trans HP1.out
  clear hown
  by_cases hlt : k < T.nodes.length
  ·obtain ⟨y, hy⟩ : ∃ y, T.nodes[k]? = some y := ⟨T.nodes[k], List.getElem?_eq_getElem hlt⟩
   obtain ⟨b, o, rfl, _, hc2⟩ := HN.out (by intro e; rw [e] at hlt; simp at hlt)
   obtain ⟨vk, vt, ve, hcs, hvs⟩ := hc2 k y hy
   have hkp : ∀ q, q < w.heap.size → wr.heap[q]? = w.heap[q]? := fun q hq => hB.block q hq
   have hce := hcs.keep (lo := 0) (w' := wr) (fun q _ hq => hkp q hq) (Nat.zero_le _)
   have d5 := hce.c5
   have d6 := hce.c6
   have d7 := hce.c7
   have HK : Hid (IntsB w.heap.size w vk y.kids) := hvs.kids.toB
   have HT : Hid (IntsB w.heap.size w vt y.thn) := hvs.thn.toB
   have HE : Hid (IntsB w.heap.size w ve y.els) := hvs.els.toB
   have HKP := hid hkp
   have HY : Hid (T.nodes[k]? = some y) := hy
   have hsz := HS.out y (List.mem_of_getElem? hy)
   have hk0 : (0 : Int) ≤ (k : Int) := by omega
   have hk1 : (k : Int) < (T.nodes.length : Int) := by omega
   have hwz : w.heap.size ≤ wr.heap.size := hB.size
   obtain ⟨ak, ck, rfl, _⟩ := id hvs.kids
   obtain ⟨at2, ct, rfl, _⟩ := id hvs.thn
   obtain ⟨ae, ce, rfl, _⟩ := id hvs.els
   clear hy hc2 hcs hvs hkp hB hce
   go_wp2_with fail
   go_region
   have e0 : ((wr.alloc (.cells #[.slice ak y.kids.length ck, .slice at2 y.thn.length ct, .slice ae y.els.length ce] 24)).drew).heap[wr.heap.size]? = _ := heap_alloc_new wr _
   have hB6 : Below wr.heap.size wr ((wr.alloc (.cells #[.slice ak y.kids.length ck, .slice at2 y.thn.length ct, .slice ae y.els.length ce] 24)).drew) := ((Below.refl wr.heap.size wr).alloc (Nat.le_refl _) _).drew
   generalize (wr.alloc (.cells #[.slice ak y.kids.length ck, .slice at2 y.thn.length ct, .slice ae y.els.length ce] 24)).drew = W6 at *
   have HR : Hid (∀ j q, [((Value.slice ak y.kids.length ck), y.kids), ((Value.slice at2 y.thn.length ct), y.thn), ((Value.slice ae y.els.length ce), y.els)][j]? = some q → W6.cell? ⟨wr.heap.size, j, none⟩ = some q.1) := row3_cell e0
   have HLS : Hid (∀ q ∈ [((Value.slice ak y.kids.length ck), y.kids), ((Value.slice at2 y.thn.length ct), y.thn), ((Value.slice ae y.els.length ce), y.els)], IntsB w.heap.size W6 q.1 q.2 ∧ q.2.length ≤ 1048576) := fun q hq => by
    have hkk : ∀ b, b < w.heap.size → W6.heap[b]? = w.heap[b]? := fun b hb => (hB6.block b (Nat.lt_of_lt_of_le hb hwz)).trans (HKP.out b hb)
    rcases in3 hq with rfl | rfl | rfl
    ·exact ⟨HK.out.keep hkk (Nat.le_refl _), hsz.1⟩
    ·exact ⟨HT.out.keep hkk (Nat.le_refl _), hsz.2.1⟩
    ·exact ⟨HE.out.keep hkk (Nat.le_refl _), hsz.2.2⟩
   have HDN : Hid (deepP (depthsF T.nodes k) k [((Value.slice ak y.kids.length ck), y.kids), ((Value.slice at2 y.thn.length ct), y.thn), ((Value.slice ae y.els.length ce), y.els)] = deepN (depthsF T.nodes k) k (T.nodes.getD k default)) := by
    unfold Hid; rw [List.getD_eq_getElem?_getD, HY.out]; rfl
   have HL3 : Hid ([((Value.slice ak y.kids.length ck), y.kids), ((Value.slice at2 y.thn.length ct), y.thn), ((Value.slice ae y.els.length ce), y.els)].length = 3) := rfl
   generalize [((Value.slice ak y.kids.length ck), y.kids), ((Value.slice at2 y.thn.length ct), y.thn), ((Value.slice ae y.els.length ce), y.els)] = ls at *
   have hown6 : Hid (W6.ownsRow w.heap.size 2 1 (.slice ad k cp) k ((depthsF T.nodes k).map (Value.int .i64))) := own_kept HOWN.out hB6
   have HNM : Hid (Nums W6 ad (depthsF T.nodes k)) := by
    have h := hown6.out
    have e : k = (depthsF T.nodes k).length := (depthsF_len _ _).symm
    have h2 : Own W6 w.heap.size (.slice ad k cp) (depthsF T.nodes k) := by unfold Own; rw [← e]; exact h
    exact (nums_of_own h2).2
   have HB6 : Hid (Below w.heap.size w W6) := HB.out.trans (hB6.mono hwz)
   have HLN : Hid ((depthsF T.nodes k).length = k) := depthsF_len _ _
   have HLE : Hid (0 ≤ deepN (depthsF T.nodes k) k (T.nodes.getD k default) ∧ deepN (depthsF T.nodes k) k (T.nodes.getD k default) ≤ k) := deepN_le (depthsF_le T.nodes k) (by omega) _
   have HNX : Hid (depthsF T.nodes (k + 1) = depthsF T.nodes k ++ [deepN (depthsF T.nodes k) k (T.nodes.getD k default) + 1]) := rfl
   have hlb : wr.heap.size = wr.heap.size := rfl
   clear d5 d6 d7 q1 HK HT HE HKP hsz e0 hB6 hlb HOWN HB HY
   obtain ⟨ds, hds⟩ : ∃ ds, ds = depthsF T.nodes k := ⟨_, rfl⟩
   rw [← hds] at HDN HNM HLE HNX hown6 HLN
   clear hds
   generalize hlb : wr.heap.size = lb at *
   go_wp2
   go_loopw [5, 7] (fun d i wi => ∃ j : Nat, j ≤ 3 ∧ i = .int .i64 j ∧ d = .int .i64 (deepP ds k (ls.take j)) ∧ SameW wi W6) (fun d i _ => 3 - (intOf i).toNat)
   case atStart => exact ⟨0, by omega, rfl, rfl, rfl⟩
   case round =>
    obtain ⟨j, hj, rfl, rfl, hw⟩ := hrel
    have HW : Hid (SameW wr W6) := hw
    by_cases hj3 : j < 3
    ·obtain ⟨q, hq⟩ : ∃ q, ls[j]? = some q := ⟨ls[j]'(by have := HL3.out; omega), List.getElem?_eq_getElem _⟩
     have c0 : wr.cell? ⟨lb, j, none⟩ = _ := (congrArg (fun W => World.cell? W ⟨lb, j, none⟩) hw).trans (HR.out j q hq)
     obtain ⟨hqi, hql⟩ := HLS.out q (List.mem_of_getElem? hq)
     have HDT : Hid (deepP ds k (ls.take (j + 1)) = deepG ds k (deepP ds k (ls.take j)) q.2) := deepP_take hq
     obtain ⟨v, l⟩ := q
     obtain ⟨a, c, hv0, hh⟩ := hqi
     change v = .slice a l.length c at hv0
     subst hv0
     have HH := hid hh
     change l.length ≤ 1048576 at hql
     change wr.cell? ⟨lb, j, none⟩ = some (.slice a l.length c) at c0
     change Hid (deepP ds k (ls.take (j + 1)) = deepG ds k (deepP ds k (ls.take j)) l) at HDT
     have HC0 : Hid (W6.cell? ⟨lb, j, none⟩ = some (.slice a l.length c)) := HR.out j _ hq
     have hb3 : decide ((j : Int) < 3) = true := decide_eq_true (by omega)
     clear hq hw hh
     obtain ⟨d0, hd0⟩ : ∃ d0, d0 = deepP ds k (ls.take j) := ⟨_, rfl⟩
     rw [← hd0] at HDT ⊢
     clear hd0
     go_wp2
     go_loopw [5, 8] (fun d i wi => ∃ m : Nat, m ≤ l.length ∧ i = .int .i64 m ∧ d = .int .i64 (deepG ds k d0 (l.take m)) ∧ SameW wi W6) (fun d i _ => l.length - (intOf i).toNat)
     case atStart => exact ⟨0, by omega, rfl, rfl, HW.out⟩
     case round =>
      obtain ⟨m, hm, rfl, rfl, hw⟩ := hrel
      have HW2 : Hid (SameW wr W6) := hw
      have c1 : wr.cell? ⟨lb, j, none⟩ = _ := (congrArg (fun W => World.cell? W ⟨lb, j, none⟩) hw).trans HC0.out
      by_cases hml : m < l.length
      ·obtain ⟨x, hx⟩ : ∃ x, l[m]? = some x := ⟨l[m], List.getElem?_eq_getElem hml⟩
       obtain ⟨b2, o2, rfl, _, hc1⟩ := HH.out (by intro e; rw [e] at hml; simp at hml)
       have c2 : wr.cell? ⟨b2, o2 + m, none⟩ = _ := (congrArg (fun W => World.cell? W ⟨b2, o2 + m, none⟩) hw).trans (hc1 m x hx)
       have HD : Hid (deepG ds k d0 (l.take (m + 1)) = deepStep ds k (deepG ds k d0 (l.take m)) x) := deepG_take hx
       obtain ⟨d1, hd1⟩ : ∃ d1, d1 = deepG ds k d0 (l.take m) := ⟨_, rfl⟩
       rw [← hd1] at HD ⊢
       clear hd1 hx hc1
       obtain ⟨qb, hq⟩ : ∃ q, inB x 0 ((k : Int) - 1) = q := ⟨_, rfl⟩
       cases qb with
       | false =>
        have hD : Hid (deepG ds k d0 (l.take (m + 1)) = d1) := by unfold Hid; rw [HD.out]; unfold deepStep; rw [hq]; rfl
        have hI : Hid (∀ w, Calls Tryz.prog 81 #[.int .i64 x, .int .i64 0, .int .i64 ((k : Int) - 1)] w fun e w' => e = .returned (.bool false) ∧ w' = w) := fun w => by have h := l1In_any x 0 ((k : Int) - 1) w; rwa [hq] at h
        clear hq hw
        go_wp2_with fail
        refine (hI.out _).mono ?_
        rintro e w1 ⟨rfl, rfl⟩
        go_wp2_with fail
        go_roundw
        case rel => exact ⟨m + 1, by omega, by go_num, by rw [hD.out], HW2.out⟩
        case measure => simp [intOf]; omega
       | true =>
        have hq2 := inB_iff.1 hq
        obtain ⟨pn, rfl⟩ : ∃ pn : Nat, x = pn := ⟨x.toNat, by omega⟩
        have hpk : pn < k := by omega
        have hD : Hid (deepG ds k d0 (l.take (m + 1)) = max d1 (ds.getD pn 0)) := by unfold Hid; rw [HD.out]; unfold deepStep; rw [hq]; rfl
        rcases HNM.out with hz | ⟨g3, o3, rfl, hc3⟩
        ·have := HLN.out; rw [hz] at this; simp at this; omega
        have c3 : wr.cell? ⟨g3, o3 + pn, none⟩ = _ := (congrArg (fun W => World.cell? W ⟨g3, o3 + pn, none⟩) hw).trans (hc3 pn (by have := HLN.out; omega))
        generalize ds.getD pn 0 = z at *
        have hI : Hid (∀ w, Calls Tryz.prog 81 #[.int .i64 (pn : Int), .int .i64 0, .int .i64 ((k : Int) - 1)] w fun e w' => e = .returned (.bool true) ∧ w' = w) := fun w => by have h := l1In_any (pn : Int) 0 ((k : Int) - 1) w; rwa [hq] at h
        have hX : Hid (∀ w, Calls Tryz.prog 91 #[.int .i64 d1, .int .i64 z] w fun e w' => e = .returned (.int .i64 (max d1 z)) ∧ w' = w) := fun w => l1Max_any d1 z w
        have hp0 : (0 : Int) ≤ (pn : Int) := by omega
        have hp1 : (pn : Int) < (k : Int) := by omega
        clear hq hw hq2 hc3
        go_wp2_with fail
        refine (hI.out _).mono ?_
        rintro e w1 ⟨rfl, rfl⟩
        go_wp2_with fail
        refine (hX.out _).mono ?_
        rintro e w1 ⟨rfl, rfl⟩
        go_wp2_with fail
        go_roundw
        case rel => exact ⟨m + 1, by omega, by go_num, by rw [hD.out], HW2.out⟩
        case measure => simp [intOf]; omega
      ·have hme : m = l.length := by omega
       have HE : Hid (deepG ds k d0 (l.take m) = deepP ds k (ls.take (j + 1))) := by unfold Hid; rw [hme, List.take_length, HDT.out]
       rw [HE.out]
       clear hme hw
       go_wp2
       go_roundw
       case rel => exact ⟨j + 1, by omega, by go_num, rfl, HW2.out⟩
       case measure => simp [intOf]; omega
    ·have hje : j = 3 := by omega
     subst hje
     have HE : Hid (deepP ds k (ls.take 3) = deepN ds k (T.nodes.getD k default)) := by unfold Hid; rw [List.take_of_length_le (by have := HL3.out; omega), HDN.out]
     rw [HE.out]
     obtain ⟨D, hD⟩ : ∃ D, D = deepN ds k (T.nodes.getD k default) := ⟨_, rfl⟩
     rw [← hD] at HLE HNX ⊢
     clear hD HE HDN
     obtain rfl : wr = W6 := hw
     have hown := hown6.out
     have hd0 := HLE.out.1
     have hd1 := HLE.out.2
     clear HW HR HLS
     go_wp2_with (at_builtin; refine wpList_append_own _ rfl _ _ 24 rfl w.heap.size 2 i0 (.int .i64 0) 1 8 Tryz.underlying24 hi hz0 hz1 hz2 rfl (by decide) _ _ _ rfl (hown.alloc _) ⟨wr.heap.size, 0, none⟩ 1 1 [.int .i64 (D + 1)] rfl rfl ?c1 ?c2 ?c3 ?c4 ?c5 ?_)
     case c1 =>
      intro j u hj
      match j, hj with
      | 0, hj => simp at hj; subst hj; simp [Addr.add]
      | j + 1, hj => simp at hj
     case c2 => intro u hu; simp at hu; subst hu; rfl
     case c3 => unfold maxLen; omega
     case c4 => omega
     case c5 => have := HB6.out.size; simp; omega
     intro v' w9 hown' hgrow _
     have hbel9 : Hid (Below w.heap.size w w9) := by
      have h3 : Below w.heap.size w (wr.alloc (.cells #[.int .i64 (D + 1)] 2)) := HB6.out.alloc HB6.out.size _
      exact h3.grown hgrow (by have := HB6.out.size; simp; omega) (fun j hj => (hown.lt j hj).1)
     have hnew : Hid (w9.ownsRow w.heap.size 2 1 v' (k + 1) ((depthsF T.nodes (k + 1)).map (Value.int .i64))) := by
      unfold Hid; rw [HNX.out, List.map_append]; exact hown'
     clear hown' hgrow hown
     go_wp2_with fail
     go_roundw
     case rel => exact ⟨k + 1, by omega, by go_num, hnew.out, hbel9.out⟩
     case measure => simp [intOf]; omega
  ·have hke : k = T.nodes.length := by omega
   subst hke
   go_wp2
   go_ret
   refine ⟨_, rfl, ?_, HB.out⟩
   have h := HOWN.out
   unfold Own
   rw [depthsF_len]
   exact h
theorem bumpP3 (cs : List Int) (y : LNode) (a b c : Value) : bumpP [(a, y.kids), (b, y.thn), (c, y.els)] cs = bumpN cs y := rfl
set_option maxHeartbeats 6400000 in
set_option maxRecDepth 100000 in
theorem l4Count_any (lo p : Nat) (vv vn vb : Value) (T : LTree) (w : World) (h : TreeP lo w p vv vn vb T) (hS : Sized 1048576 T) (hn : T.nodes.length ≤ 200)
  (hin1 : ∀ n ∈ T.nodes, ∀ x ∈ listsOf n, 0 ≤ x ∧ x < (T.nodes.length : Int)) (hin2 : ∀ x ∈ T.body, 0 ≤ x ∧ x < (T.nodes.length : Int)) :
  Calls Tryz.prog 84 #[.pointer (some ⟨p, 0, none⟩)] w fun e w' => e = .returned (.slice (some ⟨w.heap.size, 0, none⟩) T.nodes.length T.nodes.length) ∧ Cnt w' w.heap.size 2 (countsL T) ∧ Below w.heap.size w w' := by
 obtain ⟨i0, hi, hz0, hz1, hz2⟩ := info_parts infoInt
 have hmax : T.nodes.length ≤ maxLen := by unfold maxLen; omega
 obtain ⟨an, cn, rfl, _, hhn⟩ := id h.tree.nodes
 have HBV : Hid (IntsB w.heap.size w vb T.body) := h.tree.body.toB
 obtain ⟨ab, cb, rfl, _⟩ := id h.tree.body
 have HN := hid hhn
 have p1 := h.c1
 have HP1 : Hid (w.cell? ⟨p, 1, none⟩ = some (.slice an T.nodes.length cn)) := p1
 have HP2 : Hid (w.cell? ⟨p, 2, none⟩ = some (.slice ab T.body.length cb)) := h.c2
 have hpw : p < w.heap.size := World.block_lt_of_cell? _ _ p1
 have HS : Hid (Sized 1048576 T) := hS
 have HI1 := hid hin1
 have HI2 := hid hin2
 clear h hhn hS hin1 hin2
 go_enter Tryz.func84, Tryz.ntmps84
 go_wp2_with (at_make; refine wpList_make_full _ rfl (.tmp 13) (.tmp 13) 24 rfl w.heap.size 2 i0 (.int .i64 0) 1 Tryz.underlying24 hi hz0 hz1 .i64 .i64 T.nodes.length T.nodes.length T.nodes.length rfl rfl rfl rfl ?_ hmax (Nat.le_refl _) ?_)
 ·rw [hz2]; omega
 intro w1 hown hgrow
 have HB : Hid (Below w.heap.size w w1) := (Below.refl _ _).grown hgrow (Nat.le_refl _) (fun k hk => by cases hk)
 have HC : Hid (Cnt w1 w.heap.size 2 (List.replicate T.nodes.length 0)) := cnt_of_own64 (by rw [toList_madeCells_one] at hown; simpa using hown)
 have hg : w.heap.size < w1.heap.size := (Array.getElem?_eq_some_iff.1 HC.out).1
 clear hgrow hown p1
 generalize hge : w.heap.size = g at *
 go_wp2
 go_loopw [4] (fun i wr => ∃ k : Nat, k ≤ T.nodes.length ∧ i = .int .i64 k ∧ Cnt wr g 2 ((T.nodes.take k).foldl bumpN (List.replicate T.nodes.length 0)) ∧ But g w1 wr) (fun i _ => T.nodes.length - (intOf i).toNat)
 case atStart => exact ⟨0, by omega, rfl, HC.out, But.refl _ _⟩
 case round =>
  obtain ⟨k, hk, rfl, hcnt, hbut⟩ := hrel
  have HCN := hid hcnt
  have HBT : Hid (But g w1 wr) := hbut
  have hkp : ∀ q, q < g → wr.heap[q]? = w.heap[q]? := fun q hq => (hbut.rest q (by omega) (by omega)).trans (HB.out.block q (by omega))
  have q1 : wr.cell? ⟨p, 1, none⟩ = _ := (World.cell?_of_block (a := ⟨p, 1, none⟩) (hkp p (by omega))).trans HP1.out
  have hgr : g < wr.heap.size := Nat.lt_of_lt_of_le hg hbut.below.size
  by_cases hlt : k < T.nodes.length
  ·obtain ⟨y, hy⟩ : ∃ y, T.nodes[k]? = some y := ⟨T.nodes[k], List.getElem?_eq_getElem hlt⟩
   obtain ⟨b, o, rfl, _, hc2⟩ := HN.out (by intro e; rw [e] at hlt; simp at hlt)
   obtain ⟨vk, vt, ve, hcs, hvs⟩ := hc2 k y hy
   have hbw : b < w.heap.size := World.block_lt_of_cell? _ _ hcs.c0
   have hce := hcs.keep (lo := 0) (w' := wr) (fun q _ hq => hkp q (by omega)) (Nat.zero_le _)
   have d5 := hce.c5
   have d6 := hce.c6
   have d7 := hce.c7
   have HK : Hid (IntsB g w vk y.kids) := by unfold Hid; rw [← hge]; exact hvs.kids.toB
   have HT : Hid (IntsB g w vt y.thn) := by unfold Hid; rw [← hge]; exact hvs.thn.toB
   have HE : Hid (IntsB g w ve y.els) := by unfold Hid; rw [← hge]; exact hvs.els.toB
   have HKP := hid hkp
   have HY : Hid (T.nodes[k]? = some y) := hy
   have hsz := HS.out.node y (List.mem_of_getElem? hy)
   have hk0 : (0 : Int) ≤ (k : Int) := by omega
   have hk1 : (k : Int) < (T.nodes.length : Int) := by omega
   obtain ⟨ak, ck, rfl, _⟩ := id hvs.kids
   obtain ⟨at2, ct, rfl, _⟩ := id hvs.thn
   obtain ⟨ae, ce, rfl, _⟩ := id hvs.els
   clear hy hc2 hcs hvs hkp hce hcnt hbut
   go_wp2_with fail
   go_region
   have e0 : ((wr.alloc (.cells #[.slice ak y.kids.length ck, .slice at2 y.thn.length ct, .slice ae y.els.length ce] 24)).drew).heap[wr.heap.size]? = _ := heap_alloc_new wr _
   have hB6 : But g wr ((wr.alloc (.cells #[.slice ak y.kids.length ck, .slice at2 y.thn.length ct, .slice ae y.els.length ce] 24)).drew) := ((But.refl g wr).alloc (by omega) _).drew
   have hC6 : Cnt ((wr.alloc (.cells #[.slice ak y.kids.length ck, .slice at2 y.thn.length ct, .slice ae y.els.length ce] 24)).drew) g 2 ((T.nodes.take k).foldl bumpN (List.replicate T.nodes.length 0)) := HCN.out.alloc _
   generalize (wr.alloc (.cells #[.slice ak y.kids.length ck, .slice at2 y.thn.length ct, .slice ae y.els.length ce] 24)).drew = W6 at *
   have HR : Hid (∀ j q, [((Value.slice ak y.kids.length ck), y.kids), ((Value.slice at2 y.thn.length ct), y.thn), ((Value.slice ae y.els.length ce), y.els)][j]? = some q → W6.cell? ⟨wr.heap.size, j, none⟩ = some q.1) := row3_cell e0
   have HLS : Hid (∀ q ∈ [((Value.slice ak y.kids.length ck), y.kids), ((Value.slice at2 y.thn.length ct), y.thn), ((Value.slice ae y.els.length ce), y.els)], IntsB g W6 q.1 q.2 ∧ q.2.length ≤ 1048576 ∧ ∀ x ∈ q.2, 0 ≤ x ∧ x < (T.nodes.length : Int)) := fun q hq => by
    have hkk : ∀ b, b < g → W6.heap[b]? = w.heap[b]? := fun b hb => (hB6.rest b (by omega) (by omega)).trans (HKP.out b hb)
    have hI := HI1.out y (List.mem_of_getElem? HY.out)
    rcases in3 hq with rfl | rfl | rfl
    ·exact ⟨HK.out.keep hkk (Nat.le_refl _), hsz.2.1, fun x hx => hI x (by unfold listsOf; simp_all)⟩
    ·exact ⟨HT.out.keep hkk (Nat.le_refl _), hsz.2.2.1, fun x hx => hI x (by unfold listsOf; simp_all)⟩
    ·exact ⟨HE.out.keep hkk (Nat.le_refl _), hsz.2.2.2, fun x hx => hI x (by unfold listsOf; simp_all)⟩
   have HNX : Hid ((T.nodes.take (k + 1)).foldl bumpN (List.replicate T.nodes.length 0) = bumpP [((Value.slice ak y.kids.length ck), y.kids), ((Value.slice at2 y.thn.length ct), y.thn), ((Value.slice ae y.els.length ce), y.els)] ((T.nodes.take k).foldl bumpN (List.replicate T.nodes.length 0))) := by
    unfold Hid; rw [bumpNs_take HY.out]; rfl
   have HL3 : Hid ([((Value.slice ak y.kids.length ck), y.kids), ((Value.slice at2 y.thn.length ct), y.thn), ((Value.slice ae y.els.length ce), y.els)].length = 3) := rfl
   have HLE : Hid (CntLe (3 * 1048576 * 200) ((T.nodes.take k).foldl bumpN (List.replicate T.nodes.length 0))) := by
    have := bumpNs_le (B := 1048576) (T.nodes.take k) (cnt_zero T.nodes.length) (fun n hn => by have := HS.out.node n (List.mem_of_mem_take hn); omega)
    refine this.mono ?_
    have : (T.nodes.take k).length ≤ 200 := by simp; omega
    omega
   have HLN : Hid (((T.nodes.take k).foldl bumpN (List.replicate T.nodes.length 0)).length = T.nodes.length) := by unfold Hid; rw [bumpsN_len]; simp
   generalize [((Value.slice ak y.kids.length ck), y.kids), ((Value.slice at2 y.thn.length ct), y.thn), ((Value.slice ae y.els.length ce), y.els)] = ls at *
   have HB6 : Hid (But g w1 W6) := HBT.out.trans hB6
   have HC6 := hid hC6
   obtain ⟨cs, hcs⟩ : ∃ cs, cs = (T.nodes.take k).foldl bumpN (List.replicate T.nodes.length 0) := ⟨_, rfl⟩
   rw [← hcs] at HC6 HNX HLE HLN
   have hlbg : g < wr.heap.size := hgr
   have hlb6 : Hid (wr.heap.size < W6.heap.size) := (Array.getElem?_eq_some_iff.1 e0).1
   clear d5 d6 d7 q1 HK HT HE HKP hsz e0 hB6 HBT HCN hC6 hcs hgr
   generalize hlb : wr.heap.size = lb at *
   go_wp2
   go_loopw [6] (fun i wi => ∃ j : Nat, j ≤ 3 ∧ i = .int .i64 j ∧ Cnt wi g 2 (bumpP (ls.take j) cs) ∧ But g W6 wi) (fun i _ => 3 - (intOf i).toNat)
   case atStart => exact ⟨0, by omega, rfl, HC6.out, But.refl _ _⟩
   case round =>
    obtain ⟨j, hj, rfl, hcnt, hbut⟩ := hrel
    have HCJ := hid hcnt
    have HBJ : Hid (But g W6 wr) := hbut
    by_cases hj3 : j < 3
    ·obtain ⟨q, hq⟩ : ∃ q, ls[j]? = some q := ⟨ls[j]'(by have := HL3.out; omega), List.getElem?_eq_getElem _⟩
     have hc0 := HR.out j q hq
     have c0 := hbut.cell (p := ⟨lb, j, none⟩) (show lb ≠ g by omega) hc0
     obtain ⟨hqi, hql, hqx⟩ := HLS.out q (List.mem_of_getElem? hq)
     have HDT : Hid (bumpP (ls.take (j + 1)) cs = bumps (bumpP (ls.take j) cs) q.2) := bumpP_take hq
     have HLJ : Hid (CntLe (3 * 1048576 * 200 + 1048576 * j) (bumpP (ls.take j) cs)) := by
      have := bumpP_le 1048576 (ls.take j) HLE.out (fun q hq => by have := (HLS.out q (List.mem_of_mem_take hq)).2.1; omega)
      have e : (ls.take j).length = j := by have := HL3.out; simp; omega
      rw [e] at this; exact this
     have HLNJ : Hid ((bumpP (ls.take j) cs).length = T.nodes.length) := by unfold Hid; rw [bumpP_len]; exact HLN.out
     obtain ⟨v, l⟩ := q
     obtain ⟨a, c, hv0, hh⟩ := hqi
     change v = .slice a l.length c at hv0
     subst hv0
     have HH := hid hh
     have HX := hid hqx
     change l.length ≤ 1048576 at hql
     change wr.cell? ⟨lb, j, none⟩ = some (.slice a l.length c) at c0
     change Hid (bumpP (ls.take (j + 1)) cs = bumps (bumpP (ls.take j) cs) l) at HDT
     have HC0 := hid hc0
     have hb3 : decide ((j : Int) < 3) = true := decide_eq_true (by omega)
     clear hq hh hqx hcnt hbut hc0
     obtain ⟨D, hD⟩ : ∃ D, D = bumpP (ls.take j) cs := ⟨_, rfl⟩
     rw [← hD] at HDT HCJ HLJ HLNJ
     clear hD
     go_wp2
     go_loopw [7] (fun i wi => ∃ m : Nat, m ≤ l.length ∧ i = .int .i64 m ∧ Cnt wi g 2 (bumps D (l.take m)) ∧ But g W6 wi) (fun i _ => l.length - (intOf i).toNat)
     case atStart => exact ⟨0, by omega, rfl, HCJ.out, HBJ.out⟩
     case round =>
      obtain ⟨m, hm, rfl, hcnt, hbut⟩ := hrel
      have c1 := hbut.cell (p := ⟨lb, j, none⟩) (show lb ≠ g by omega) HC0.out
      by_cases hml : m < l.length
      ·obtain ⟨x, hx⟩ : ∃ x, l[m]? = some x := ⟨l[m], List.getElem?_eq_getElem hml⟩
       obtain ⟨b2, o2, rfl, hbg, hc1⟩ := HH.out (by intro e; rw [e] at hml; simp at hml)
       have hx2 := HX.out x (List.mem_of_getElem? hx)
       obtain ⟨q, rfl⟩ : ∃ q : Nat, x = q := ⟨x.toNat, by omega⟩
       have c2 := hbut.cell (p := ⟨b2, o2 + m, none⟩) (show b2 ≠ g by omega) (hc1 m _ hx)
       have hqn : q < T.nodes.length := by omega
       have hlen : (bumps D (l.take m)).length = T.nodes.length := by rw [bumps_len]; exact HLNJ.out
       obtain ⟨c3, f3⟩ := hcnt.cell q (by omega)
       have hle := (bumps_le (l.take m) HLJ.out) q
       have hlj : (l.take m).length ≤ l.length := by simp; omega
       have HCN : Hid (Cnt (wr.setCell ⟨g, q, none⟩ (.int .i64 ((bumps D (l.take m)).getD q 0 + 1))) g 2 (bumps D (l.take (m + 1)))) := by
        unfold Hid; rw [bumps_take hx]; exact hcnt.bumped q
       have hz1 : (bumps D (l.take m)).getD q 0 + 1 ≤ 1000000000000 := by omega
       have hz0 : 0 ≤ (bumps D (l.take m)).getD q 0 := hle.1
       have HBUT2 : Hid (But g W6 wr) := hbut
       generalize (bumps D (l.take m)).getD q 0 = z at *
       have hq0 : (0 : Int) ≤ (q : Int) := by omega
       have hq1 : (q : Int) < (T.nodes.length : Int) := by omega
       clear hle hlj hlen hx2 hx hc1 hcnt hbut
       go_wp2
       go_roundw
       case rel => exact ⟨m + 1, by omega, by go_num, HCN.out, HBUT2.out.set _ _⟩
       case measure => simp [intOf]; omega
      ·have hme : m = l.length := by omega
       have HCN : Hid (Cnt wr g 2 (bumpP (ls.take (j + 1)) cs)) := by
        unfold Hid; rw [HDT.out]; rw [hme, List.take_length] at hcnt; exact hcnt
       have HBUT2 : Hid (But g W6 wr) := hbut
       clear hme hcnt hbut
       go_wp2
       go_roundw
       case rel => exact ⟨j + 1, by omega, by go_num, HCN.out, HBUT2.out⟩
       case measure => simp [intOf]; omega
    ·have hje : j = 3 := by omega
     subst hje
     have HCN : Hid (Cnt wr g 2 ((T.nodes.take (k + 1)).foldl bumpN (List.replicate T.nodes.length 0))) := by
      unfold Hid
      rw [HNX.out]
      have := HCJ.out
      rw [List.take_of_length_le (by have := HL3.out; omega)] at this
      exact this
     have HBT2 : Hid (But g w1 wr) := HB6.out.trans HBJ.out
     clear hcnt hbut
     go_wp2
     go_roundw
     case rel => exact ⟨k + 1, by omega, by go_num, HCN.out, HBT2.out⟩
     case measure => simp [intOf]; omega
  ·have hke : k = T.nodes.length := by omega
   subst hke
   have HKP := hid hkp
   have HCN0 : Hid (Cnt wr g 2 (T.nodes.foldl bumpN (List.replicate T.nodes.length 0))) := by unfold Hid; have := HCN.out; simpa using this
   have HLE : Hid (CntLe (3 * 1048576 * 200) (T.nodes.foldl bumpN (List.replicate T.nodes.length 0))) := by
    have := bumpNs_le (B := 1048576) T.nodes (cnt_zero T.nodes.length) (fun n hn => by have := HS.out.node n hn; omega)
    refine this.mono ?_
    omega
   have HLN : Hid ((T.nodes.foldl bumpN (List.replicate T.nodes.length 0)).length = T.nodes.length) := by unfold Hid; rw [bumpsN_len]; simp
   have HBD := HBV.out
   obtain ⟨_, _, he, hhb⟩ := HBD
   cases he
   have HH := hid hhb
   have hbl : T.body.length ≤ 1048576 := HS.out.body
   have HF : Hid (countsL T = bumps (T.nodes.foldl bumpN (List.replicate T.nodes.length 0)) T.body) := rfl
   obtain ⟨cs, hcs⟩ : ∃ cs, cs = T.nodes.foldl bumpN (List.replicate T.nodes.length 0) := ⟨_, rfl⟩
   rw [← hcs] at HCN0 HLE HLN HF
   have HBW : Hid (But g w1 wr) := HBT.out
   have HWR0 : Hid (g < wr.heap.size) := hgr
   clear hcnt hbut HCN hkp hcs hhb HBT
   generalize hwq : wr = w2 at *
   clear hwq
   go_wp2
   clear q1
   go_loopw [8] (fun i wi => ∃ m : Nat, m ≤ T.body.length ∧ i = .int .i64 m ∧ Cnt wi g 2 (bumps cs (T.body.take m)) ∧ But g w2 wi) (fun i _ => T.body.length - (intOf i).toNat)
   case atStart => exact ⟨0, by omega, rfl, HCN0.out, But.refl _ _⟩
   case round =>
    obtain ⟨m, hm, rfl, hcnt, hbut⟩ := hrel
    have hkp : ∀ q, q < g → wr.heap[q]? = w.heap[q]? := fun q hq => (hbut.rest q (by have := HWR0.out; omega) (by omega)).trans (HKP.out q hq)
    have q2 : wr.cell? ⟨p, 2, none⟩ = _ := (World.cell?_of_block (a := ⟨p, 2, none⟩) (hkp p (by omega))).trans HP2.out
    by_cases hml : m < T.body.length
    ·obtain ⟨x, hx⟩ : ∃ x, T.body[m]? = some x := ⟨T.body[m], List.getElem?_eq_getElem hml⟩
     obtain ⟨b2, o2, rfl, hbg, hc1⟩ := HH.out (by intro e; rw [e] at hml; simp at hml)
     have hx2 := HI2.out x (List.mem_of_getElem? hx)
     obtain ⟨q, rfl⟩ : ∃ q : Nat, x = q := ⟨x.toNat, by omega⟩
     have c2 : wr.cell? ⟨b2, o2 + m, none⟩ = _ := (World.cell?_of_block (a := ⟨b2, o2 + m, none⟩) (hkp b2 hbg)).trans (hc1 m _ hx)
     have hqn : q < T.nodes.length := by omega
     have hlen : (bumps cs (T.body.take m)).length = T.nodes.length := by rw [bumps_len]; exact HLN.out
     obtain ⟨c3, f3⟩ := hcnt.cell q (by omega)
     have hle := (bumps_le (T.body.take m) HLE.out) q
     have hlj : (T.body.take m).length ≤ T.body.length := by simp; omega
     have HCN : Hid (Cnt (wr.setCell ⟨g, q, none⟩ (.int .i64 ((bumps cs (T.body.take m)).getD q 0 + 1))) g 2 (bumps cs (T.body.take (m + 1)))) := by
      unfold Hid; rw [bumps_take hx]; exact hcnt.bumped q
     have hz1 : (bumps cs (T.body.take m)).getD q 0 + 1 ≤ 1000000000000 := by omega
     have hz0 : 0 ≤ (bumps cs (T.body.take m)).getD q 0 := hle.1
     have HBUT2 : Hid (But g w2 wr) := hbut
     generalize (bumps cs (T.body.take m)).getD q 0 = z at *
     have hq0 : (0 : Int) ≤ (q : Int) := by omega
     have hq1 : (q : Int) < (T.nodes.length : Int) := by omega
     have hm0 : (0 : Int) ≤ (m : Int) := by omega
     have hm1 : (m : Int) < (T.body.length : Int) := by omega
     clear hle hlj hlen hx2 hx hc1 hcnt hbut hkp
     go_wp2
     go_roundw
     case rel => exact ⟨m + 1, by omega, by go_num, HCN.out, HBUT2.out.set _ _⟩
     case measure => simp [intOf]; omega
    ·have hme : m = T.body.length := by omega
     have HCN : Hid (Cnt wr g 2 (countsL T)) := by
      unfold Hid; rw [HF.out]; rw [hme, List.take_length] at hcnt; exact hcnt
     have HBUT2 : Hid (Below g w wr) := HB.out.trans (HBW.out.trans hbut).below
     clear hme hcnt hbut hkp
     go_wp2
     go_ret
     subst hge
     exact ⟨rfl, HCN.out, HBUT2.out⟩
end Go.Proofs.YteeklmgkhacbcaaGreatDoor
