/-
  spec.l4Depths.
-/
import Derived.Test.YtepjaoapjpmjkaaGreatDoorIDeep
import Derived.BigRegion
import Derived.Laws.AppendOwn
namespace Go.Proofs.YtepjaoapjpmjkaaGreatDoor
open Go.RowKit
set_option linter.unusedVariables false
attribute [local go_sem] bs_size bs_get bs_extract bs_append bs_eq bs_toList
abbrev deepP (ds : List Int) (k : Nat) (ls : List (Value × List Int)) : Int := ls.foldl (fun d q => deepG ds k d q.2) 0
theorem deepP_take {ds : List Int} {k j : Nat} {ls : List (Value × List Int)} {q : Value × List Int} (h : ls[j]? = some q) : deepP ds k (ls.take (j + 1)) = deepG ds k (deepP ds k (ls.take j)) q.2 := by
 obtain ⟨hk, rfl⟩ := List.getElem?_eq_some_iff.1 h
 unfold deepP; rw [List.take_succ_eq_append_getElem hk, List.foldl_append]; rfl
theorem row3_cell {W : World} {g : Nat} {a b c : Value} {T : TypeId} {l1 l2 l3 : List Int} (h : W.heap[g]? = some (.cells #[a, b, c] T (0, 0))) :
  ∀ j q, [(a, l1), (b, l2), (c, l3)][j]? = some q → W.cell? ⟨g, j, none⟩ = some q.1 := by
 intro j q hq
 match j, hq with
 | 0, hq => simp at hq; subst hq; exact cell_of_row _ _ 0 _ _ _ h
 | 1, hq => simp at hq; subst hq; exact cell_of_row _ _ 1 _ _ _ h
 | 2, hq => simp at hq; subst hq; exact cell_of_row _ _ 2 _ _ _ h
 | j + 3, hq => simp at hq
set_option maxHeartbeats 6400000 in
set_option maxRecDepth 100000 in
theorem l4Depths_any (lo p : Nat) (vv vn vb : Value) (T : LTree) (w : World) (h : TreeP lo w p vv vn vb T) (hn : T.nodes.length ≤ 1048576) (hS : ∀ n ∈ T.nodes, n.kids.length ≤ 1048576 ∧ n.thn.length ≤ 1048576 ∧ n.els.length ≤ 1048576) :
  Calls Tryz.prog 65 #[.pointer (some ⟨p, 0, none⟩)] w fun e w' => ∃ v, e = .returned v ∧ Own w' w.heap.size v (depthsF T.nodes T.nodes.length) ∧ Below w.heap.size w w' := by
 obtain ⟨an, cn, rfl, _, hhn⟩ := id h.tree.nodes
 have HN := hid hhn
 have p1 := h.c1
 have HP1 : Hid (w.cell? ⟨p, 1, none⟩ = some (.slice an T.nodes.length cn)) := p1
 have hpw : p < w.heap.size := World.block_lt_of_cell? _ _ p1
 have HS := hid hS
 clear h hhn hS
 obtain ⟨i0, hi, hz0, hz1, hz2⟩ := info_parts infoInt
 go_enter Tryz.func65, Tryz.ntmps65
 go_wp2
 have HOW0 : Hid ((w.alloc (.cells #[] 2)).ownsRow w.heap.size 2 1 (.slice (some ⟨w.heap.size, 0, none⟩) 0 0) 0 []) :=
  ⟨rfl, .inr ⟨w.heap.size, 0, #[], rfl, Nat.le_refl _, heap_alloc_new w _, Nat.le_refl _, by decide, rfl, rfl⟩⟩
 have HB0 : Hid (Below w.heap.size w (w.alloc (.cells #[] 2))) := (Below.refl _ _).alloc (Nat.le_refl _) _
 generalize w.alloc (.cells #[] 2) = W0 at *
 go_loopw [3, 4] (fun v i wr => ∃ k : Nat, k ≤ T.nodes.length ∧ i = .int .i64 k ∧ wr.ownsRow w.heap.size 2 1 v k ((depthsF T.nodes k).map (Value.int .i64)) ∧ Below w.heap.size w wr) (fun v i _ => T.nodes.length - (intOf i).toNat)
 case atStart => exact ⟨0, by omega, rfl, HOW0.out, HB0.out⟩
 case round =>
  clear HOW0 HB0
  obtain ⟨k, hk, rfl, hown, hB⟩ := hrel
  obtain ⟨ad, cp, rfl⟩ := own_shape hown
  have HOWN := hid hown
  have HB := hid hB
  have q1 := (hB.cell (p := ⟨p, 1, none⟩) hpw).trans HP1.out
  clear hown
  by_cases hlt : k < T.nodes.length
  ·obtain ⟨y, hy⟩ : ∃ y, T.nodes[k]? = some y := ⟨T.nodes[k], List.getElem?_eq_getElem hlt⟩
   obtain ⟨b, o, rfl, _, hc2⟩ := HN.out (by intro e; rw [e] at hlt; simp at hlt)
   obtain ⟨vk, vt, ve, hcs, hvs⟩ := hc2 k y hy
   have hkp : ∀ q, q < w.heap.size → wr.heap[q]? = w.heap[q]? := fun q hq => hB.block q hq
   have hce := hcs.keep (lo := 0) (w' := wr) (fun q _ hq => hkp q hq) (Nat.zero_le _)
   have d5 := hce.c5
   have d6 := hce.c6
   have d7 := hce.c7
   have HK : Hid (IntsB w.heap.size w vk y.kids) := hvs.kids.toB
   have HT : Hid (IntsB w.heap.size w vt y.thn) := hvs.thn.toB
   have HE : Hid (IntsB w.heap.size w ve y.els) := hvs.els.toB
   have HKP := hid hkp
   have HY : Hid (T.nodes[k]? = some y) := hy
   have hsz := HS.out y (List.mem_of_getElem? hy)
   have hk0 : (0 : Int) ≤ (k : Int) := by omega
   have hk1 : (k : Int) < (T.nodes.length : Int) := by omega
   have hwz : w.heap.size ≤ wr.heap.size := hB.size
   obtain ⟨ak, ck, rfl, _⟩ := id hvs.kids
   obtain ⟨at2, ct, rfl, _⟩ := id hvs.thn
   obtain ⟨ae, ce, rfl, _⟩ := id hvs.els
   clear hy hc2 hcs hvs hkp hB hce
   go_wp2_with fail
   go_region
   have e0 : ((wr.alloc (.cells #[.slice ak y.kids.length ck, .slice at2 y.thn.length ct, .slice ae y.els.length ce] 24)).drew).heap[wr.heap.size]? = _ := heap_alloc_new wr _
   have hB6 : Below wr.heap.size wr ((wr.alloc (.cells #[.slice ak y.kids.length ck, .slice at2 y.thn.length ct, .slice ae y.els.length ce] 24)).drew) := ((Below.refl wr.heap.size wr).alloc (Nat.le_refl _) _).drew
   generalize (wr.alloc (.cells #[.slice ak y.kids.length ck, .slice at2 y.thn.length ct, .slice ae y.els.length ce] 24)).drew = W6 at *
   have HR : Hid (∀ j q, [((Value.slice ak y.kids.length ck), y.kids), ((Value.slice at2 y.thn.length ct), y.thn), ((Value.slice ae y.els.length ce), y.els)][j]? = some q → W6.cell? ⟨wr.heap.size, j, none⟩ = some q.1) := row3_cell e0
   have HLS : Hid (∀ q ∈ [((Value.slice ak y.kids.length ck), y.kids), ((Value.slice at2 y.thn.length ct), y.thn), ((Value.slice ae y.els.length ce), y.els)], IntsB w.heap.size W6 q.1 q.2 ∧ q.2.length ≤ 1048576) := fun q hq => by
    have hkk : ∀ b, b < w.heap.size → W6.heap[b]? = w.heap[b]? := fun b hb => (hB6.block b (Nat.lt_of_lt_of_le hb hwz)).trans (HKP.out b hb)
    rcases in3 hq with rfl | rfl | rfl
    ·exact ⟨HK.out.keep hkk (Nat.le_refl _), hsz.1⟩
    ·exact ⟨HT.out.keep hkk (Nat.le_refl _), hsz.2.1⟩
    ·exact ⟨HE.out.keep hkk (Nat.le_refl _), hsz.2.2⟩
   have HDN : Hid (deepP (depthsF T.nodes k) k [((Value.slice ak y.kids.length ck), y.kids), ((Value.slice at2 y.thn.length ct), y.thn), ((Value.slice ae y.els.length ce), y.els)] = deepN (depthsF T.nodes k) k (T.nodes.getD k default)) := by
    unfold Hid; rw [List.getD_eq_getElem?_getD, HY.out]; rfl
   have HL3 : Hid ([((Value.slice ak y.kids.length ck), y.kids), ((Value.slice at2 y.thn.length ct), y.thn), ((Value.slice ae y.els.length ce), y.els)].length = 3) := rfl
   generalize [((Value.slice ak y.kids.length ck), y.kids), ((Value.slice at2 y.thn.length ct), y.thn), ((Value.slice ae y.els.length ce), y.els)] = ls at *
   have hown6 : Hid (W6.ownsRow w.heap.size 2 1 (.slice ad k cp) k ((depthsF T.nodes k).map (Value.int .i64))) := own_kept HOWN.out hB6
   have HNM : Hid (Nums W6 ad (depthsF T.nodes k)) := by
    have h := hown6.out
    have e : k = (depthsF T.nodes k).length := (depthsF_len _ _).symm
    have h2 : Own W6 w.heap.size (.slice ad k cp) (depthsF T.nodes k) := by unfold Own; rw [← e]; exact h
    exact (nums_of_own h2).2
   have HB6 : Hid (Below w.heap.size w W6) := HB.out.trans (hB6.mono hwz)
   have HLN : Hid ((depthsF T.nodes k).length = k) := depthsF_len _ _
   have HLE : Hid (0 ≤ deepN (depthsF T.nodes k) k (T.nodes.getD k default) ∧ deepN (depthsF T.nodes k) k (T.nodes.getD k default) ≤ k) := deepN_le (depthsF_le T.nodes k) (by omega) _
   have HNX : Hid (depthsF T.nodes (k + 1) = depthsF T.nodes k ++ [deepN (depthsF T.nodes k) k (T.nodes.getD k default) + 1]) := rfl
   have hlb : wr.heap.size = wr.heap.size := rfl
   clear d5 d6 d7 q1 HK HT HE HKP hsz e0 hB6 hlb HOWN HB HY
   obtain ⟨ds, hds⟩ : ∃ ds, ds = depthsF T.nodes k := ⟨_, rfl⟩
   rw [← hds] at HDN HNM HLE HNX hown6 HLN
   clear hds
   generalize hlb : wr.heap.size = lb at *
   go_wp2
   go_loopw [5, 7] (fun d i wi => ∃ j : Nat, j ≤ 3 ∧ i = .int .i64 j ∧ d = .int .i64 (deepP ds k (ls.take j)) ∧ SameW wi W6) (fun d i _ => 3 - (intOf i).toNat)
   case atStart => exact ⟨0, by omega, rfl, rfl, rfl⟩
   case round =>
    obtain ⟨j, hj, rfl, rfl, hw⟩ := hrel
    have HW : Hid (SameW wr W6) := hw
    by_cases hj3 : j < 3
    ·obtain ⟨q, hq⟩ : ∃ q, ls[j]? = some q := ⟨ls[j]'(by have := HL3.out; omega), List.getElem?_eq_getElem _⟩
     have c0 : wr.cell? ⟨lb, j, none⟩ = _ := (congrArg (fun W => World.cell? W ⟨lb, j, none⟩) hw).trans (HR.out j q hq)
     obtain ⟨hqi, hql⟩ := HLS.out q (List.mem_of_getElem? hq)
     have HDT : Hid (deepP ds k (ls.take (j + 1)) = deepG ds k (deepP ds k (ls.take j)) q.2) := deepP_take hq
     obtain ⟨v, l⟩ := q
     obtain ⟨a, c, hv0, hh⟩ := hqi
     change v = .slice a l.length c at hv0
     subst hv0
     have HH := hid hh
     change l.length ≤ 1048576 at hql
     change wr.cell? ⟨lb, j, none⟩ = some (.slice a l.length c) at c0
     change Hid (deepP ds k (ls.take (j + 1)) = deepG ds k (deepP ds k (ls.take j)) l) at HDT
     have HC0 : Hid (W6.cell? ⟨lb, j, none⟩ = some (.slice a l.length c)) := HR.out j _ hq
     have hb3 : decide ((j : Int) < 3) = true := decide_eq_true (by omega)
     clear hq hw hh
     obtain ⟨d0, hd0⟩ : ∃ d0, d0 = deepP ds k (ls.take j) := ⟨_, rfl⟩
     rw [← hd0] at HDT ⊢
     clear hd0
     go_wp2
     go_loopw [5, 8] (fun d i wi => ∃ m : Nat, m ≤ l.length ∧ i = .int .i64 m ∧ d = .int .i64 (deepG ds k d0 (l.take m)) ∧ SameW wi W6) (fun d i _ => l.length - (intOf i).toNat)
     case atStart => exact ⟨0, by omega, rfl, rfl, HW.out⟩
     case round =>
      obtain ⟨m, hm, rfl, rfl, hw⟩ := hrel
      have HW2 : Hid (SameW wr W6) := hw
      have c1 : wr.cell? ⟨lb, j, none⟩ = _ := (congrArg (fun W => World.cell? W ⟨lb, j, none⟩) hw).trans HC0.out
      by_cases hml : m < l.length
      ·obtain ⟨x, hx⟩ : ∃ x, l[m]? = some x := ⟨l[m], List.getElem?_eq_getElem hml⟩
       obtain ⟨b2, o2, rfl, _, hc1⟩ := HH.out (by intro e; rw [e] at hml; simp at hml)
       have c2 : wr.cell? ⟨b2, o2 + m, none⟩ = _ := (congrArg (fun W => World.cell? W ⟨b2, o2 + m, none⟩) hw).trans (hc1 m x hx)
       have HD : Hid (deepG ds k d0 (l.take (m + 1)) = deepStep ds k (deepG ds k d0 (l.take m)) x) := deepG_take hx
       obtain ⟨d1, hd1⟩ : ∃ d1, d1 = deepG ds k d0 (l.take m) := ⟨_, rfl⟩
       rw [← hd1] at HD ⊢
       clear hd1 hx hc1
       obtain ⟨qb, hq⟩ : ∃ q, inB x 0 ((k : Int) - 1) = q := ⟨_, rfl⟩
       cases qb with
       | false =>
        have hD : Hid (deepG ds k d0 (l.take (m + 1)) = d1) := by unfold Hid; rw [HD.out]; unfold deepStep; rw [hq]; rfl
        have hI : Hid (∀ w, Calls Tryz.prog 31 #[.int .i64 x, .int .i64 0, .int .i64 ((k : Int) - 1)] w fun e w' => e = .returned (.bool false) ∧ w' = w) := fun w => by have h := l1In_any x 0 ((k : Int) - 1) w; rwa [hq] at h
        clear hq hw
        go_wp2_with fail
        refine (hI.out _).mono ?_
        rintro e w1 ⟨rfl, rfl⟩
        go_wp2_with fail
        go_roundw
        case rel => exact ⟨m + 1, by omega, by go_num, by rw [hD.out], HW2.out⟩
        case measure => simp [intOf]; omega
       | true =>
        have hq2 := inB_iff.1 hq
        obtain ⟨pn, rfl⟩ : ∃ pn : Nat, x = pn := ⟨x.toNat, by omega⟩
        have hpk : pn < k := by omega
        have hD : Hid (deepG ds k d0 (l.take (m + 1)) = max d1 (ds.getD pn 0)) := by unfold Hid; rw [HD.out]; unfold deepStep; rw [hq]; rfl
        rcases HNM.out with hz | ⟨g3, o3, rfl, hc3⟩
        ·have := HLN.out; rw [hz] at this; simp at this; omega
        have c3 : wr.cell? ⟨g3, o3 + pn, none⟩ = _ := (congrArg (fun W => World.cell? W ⟨g3, o3 + pn, none⟩) hw).trans (hc3 pn (by have := HLN.out; omega))
        generalize ds.getD pn 0 = z at *
        have hI : Hid (∀ w, Calls Tryz.prog 31 #[.int .i64 (pn : Int), .int .i64 0, .int .i64 ((k : Int) - 1)] w fun e w' => e = .returned (.bool true) ∧ w' = w) := fun w => by have h := l1In_any (pn : Int) 0 ((k : Int) - 1) w; rwa [hq] at h
        have hX : Hid (∀ w, Calls Tryz.prog 105 #[.int .i64 d1, .int .i64 z] w fun e w' => e = .returned (.int .i64 (max d1 z)) ∧ w' = w) := fun w => l1Max_any d1 z w
        have hp0 : (0 : Int) ≤ (pn : Int) := by omega
        have hp1 : (pn : Int) < (k : Int) := by omega
        clear hq hw hq2 hc3
        go_wp2_with fail
        refine (hI.out _).mono ?_
        rintro e w1 ⟨rfl, rfl⟩
        go_wp2_with fail
        refine (hX.out _).mono ?_
        rintro e w1 ⟨rfl, rfl⟩
        go_wp2_with fail
        go_roundw
        case rel => exact ⟨m + 1, by omega, by go_num, by rw [hD.out], HW2.out⟩
        case measure => simp [intOf]; omega
      ·have hme : m = l.length := by omega
       have HE : Hid (deepG ds k d0 (l.take m) = deepP ds k (ls.take (j + 1))) := by unfold Hid; rw [hme, List.take_length, HDT.out]
       rw [HE.out]
       clear hme hw
       go_wp2
       go_roundw
       case rel => exact ⟨j + 1, by omega, by go_num, rfl, HW2.out⟩
       case measure => simp [intOf]; omega
    ·have hje : j = 3 := by omega
     subst hje
     have HE : Hid (deepP ds k (ls.take 3) = deepN ds k (T.nodes.getD k default)) := by unfold Hid; rw [List.take_of_length_le (by have := HL3.out; omega), HDN.out]
     rw [HE.out]
     obtain ⟨D, hD⟩ : ∃ D, D = deepN ds k (T.nodes.getD k default) := ⟨_, rfl⟩
     rw [← hD] at HLE HNX ⊢
     clear hD HE HDN
     obtain rfl : wr = W6 := hw
     have hown := hown6.out
     have hd0 := HLE.out.1
     have hd1 := HLE.out.2
     clear HW HR HLS
     go_wp2_with (at_builtin; refine wpList_append_own _ rfl _ _ 24 rfl w.heap.size 2 i0 (.int .i64 0) 1 8 Tryz.underlying24 hi hz0 hz1 hz2 rfl (by decide) _ _ _ rfl (hown.alloc _) ⟨wr.heap.size, 0, none⟩ 1 1 [.int .i64 (D + 1)] rfl rfl ?c1 ?c2 ?c3 ?c4 ?c5 ?_)
     case c1 =>
      intro j u hj
      match j, hj with
      | 0, hj => simp at hj; subst hj; simp [Addr.add]
      | j + 1, hj => simp at hj
     case c2 => intro u hu; simp at hu; subst hu; rfl
     case c3 => unfold maxLen; omega
     case c4 => omega
     case c5 => have := HB6.out.size; simp; omega
     intro v' w9 hown' hgrow _
     have hbel9 : Hid (Below w.heap.size w w9) := by
      have h3 : Below w.heap.size w (wr.alloc (.cells #[.int .i64 (D + 1)] 2)) := HB6.out.alloc HB6.out.size _
      exact h3.grown hgrow (by have := HB6.out.size; simp; omega) (fun j hj => (hown.lt j hj).1)
     have hnew : Hid (w9.ownsRow w.heap.size 2 1 v' (k + 1) ((depthsF T.nodes (k + 1)).map (Value.int .i64))) := by
      unfold Hid; rw [HNX.out, List.map_append]; exact hown'
     clear hown' hgrow hown
     go_wp2_with fail
     go_roundw
     case rel => exact ⟨k + 1, by omega, by go_num, hnew.out, hbel9.out⟩
     case measure => simp [intOf]; omega
  ·have hke : k = T.nodes.length := by omega
   subst hke
   go_wp2
   go_ret
   refine ⟨_, rfl, ?_, HB.out⟩
   have h := HOWN.out
   unfold Own
   rw [depthsF_len]
   exact h
end Go.Proofs.YtepjaoapjpmjkaaGreatDoor
