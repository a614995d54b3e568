/-
  Strings as lists of bytes: their length, a byte, a piece, equality, one behind the other.
-/
import Derived.Test.YteeklmgkhacbcaaGreatDoorBase
import Derived.OwnWalk
import Derived.Laws.OwnMore
import Derived.Laws.Rows
import Derived.WalkKit
import Derived.Laws.Strings2
import Derived.Laws.Strings3
import Derived.Laws.Concat
namespace Go.Proofs.YteeklmgkhacbcaaGreatDoor
open Go.RowKit
theorem infoInt : (Tryz.prog.info? 2).map (fun i => (i.zero, i.size, i.bytes)) = some (some (.int .i64 0), 1, 8) := by kernel_rfl
abbrev Own (w : World) (B : Nat) (v : Value) (zs : List Int) : Prop := w.ownsRow B 2 1 v zs.length (zs.map (Value.int .i64))
theorem nums_of_own {w : World} {B n cap : Nat} {a : Option Addr} {zs : List Int} (h : Own w B (.slice a n cap) zs) : n = zs.length ∧ Nums w a zs := by
 obtain ⟨hl, h | ⟨g, c, cur, hv, hg, hh, h1, h2, h3, h4⟩⟩ := h
 ·obtain ⟨hv, hn⟩ := h
  simp at hv
  exact ⟨by omega, .inl (List.eq_nil_of_length_eq_zero hn)⟩
 ·simp at hv
  obtain ⟨rfl, rfl, rfl⟩ := hv
  refine ⟨rfl, .inr ⟨g, 0, rfl, fun i hi => ?_⟩⟩
  have ho : w.ownsRow B 2 1 (.slice (some ⟨g, 0, none⟩) zs.length cap) zs.length (zs.map (Value.int .i64)) := ⟨hl, .inr ⟨g, cap, cur, rfl, hg, hh, h1, h2, h3, h4⟩⟩
  rw [Nat.zero_add, ho.cellAt i (by omega), List.getElem?_map, List.getElem?_eq_getElem hi, List.getD_eq_getElem?_getD, List.getElem?_eq_getElem hi]
  rfl
theorem nums_of_row {w : World} {a : Option Addr} {len cap : Nat} {zs : List Int} (h : IsRow .i64 w a len cap zs) : (zs.take len).length = len ∧ Nums w a (zs.take len) := by
 rcases h with ⟨rfl, rfl, rfl, rfl⟩ | ⟨x, rfl, hl, hm, hz, hcell, hwz⟩
 ·exact ⟨rfl, .inl rfl⟩
 ·refine ⟨by simp; omega, ?_⟩
  by_cases h0 : len = 0
  ·subst h0; exact .inl rfl
  obtain ⟨b, off, spot⟩ := x
  have hc := hcell 0 (by omega)
  have hspot : spot = none := by simpa [Addr.add] using World.cell?_spot hc
  subst hspot
  refine .inr ⟨b, off, rfl, fun i hi => ?_⟩
  have hi2 : i < len := by simp at hi; omega
  have := hcell i (by omega)
  rw [List.getD_eq_getElem?_getD] at this ⊢
  rw [List.getElem?_take_of_lt hi2, ← this]
  congr 1
  cases i <;> simp [Addr.add]
theorem own_shape {w : World} {B n : Nat} {v : Value} {xs : List Value} (h : w.ownsRow B 2 1 v n xs) : ∃ a cap, v = .slice a n cap := by
 rcases h.2 with ⟨rfl, rfl⟩ | ⟨g, c, cur, rfl, _⟩
 ·exact ⟨_, _, rfl⟩
 ·exact ⟨_, _, rfl⟩
theorem own_mono {w : World} {B C n : Nat} {v : Value} {xs : List Value} (h : w.ownsRow B 2 1 v n xs) (hC : C ≤ B) : w.ownsRow C 2 1 v n xs := by
 refine ⟨h.1, ?_⟩
 rcases h.2 with h2 | ⟨g, c, cur, rfl, hg, hr⟩
 ·exact .inl h2
 ·exact .inr ⟨g, c, cur, rfl, by omega, hr⟩
theorem own_kept {w w' : World} {B n : Nat} {v : Value} {xs : List Value} (h : w.ownsRow B 2 1 v n xs) (hb : Below w.heap.size w w') : w'.ownsRow B 2 1 v n xs := by
 refine ⟨h.1, ?_⟩
 rcases h.2 with h2 | ⟨g, c, cur, rfl, hg, hh, hr⟩
 ·exact .inl h2
 ·refine .inr ⟨g, c, cur, rfl, hg, ?_, hr⟩
  rw [hb.block g (Array.getElem?_eq_some_iff.1 hh).1]; exact hh
abbrev resL (c : Int) (v : Value) : Value := .agg #[.int .i64 c, v]
theorem own_other {w w' : World} {B n : Nat} {v : Value} {xs : List Value} (h : w.ownsRow B 2 1 v n xs) (hs : ∀ g, v.ownBlock = some g → w'.heap[g]? = w.heap[g]?) : w'.ownsRow B 2 1 v n xs := by
 refine ⟨h.1, ?_⟩
 rcases h.2 with h2 | ⟨g, c, cur, rfl, hg, hh, hr⟩
 ·exact .inl h2
 ·refine .inr ⟨g, c, cur, rfl, hg, ?_, hr⟩
  rw [hs g rfl]; exact hh
theorem own_lt {w : World} {B n m cap : Nat} {a : Option Addr} {xs : List Value} (h : w.ownsRow B 2 1 (.slice a m cap) n xs) {g : Nat} (ha : a = some ⟨g, 0, none⟩) : B ≤ g ∧ g < w.heap.size := by
 subst ha; exact h.lt g rfl
theorem own_len {w : World} {B n m cap : Nat} {a : Option Addr} {xs : List Value} (h : w.ownsRow B 2 1 (.slice a m cap) n xs) : m = n := by
 rcases h.2 with ⟨h1, h2⟩ | ⟨g, c, cur, h1, _⟩
 ·simp at h1; omega
 ·simp at h1; exact h1.2.1
theorem own_at {w : World} {B n m cap g : Nat} {a : Option Addr} {xs : List Value} (h : w.ownsRow B 2 1 (.slice a m cap) n xs) (hg : (Value.slice a m cap).ownBlock = some g) : a = some ⟨g, 0, none⟩ := by
 rcases h.2 with ⟨h, _⟩ | ⟨q, c, cur, h, _⟩ <;> simp at h
 ·rw [h.1] at hg; simp [Value.ownBlock] at hg
 ·rw [h.1] at hg ⊢; simp [Value.ownBlock] at hg; rw [hg]
theorem copied {zs : List Int} {k : Nat} (h : k < zs.length) :
  ((zs.take k ++ List.replicate (zs.length - k) 0).map (Value.int .i64)).set k (.int .i64 (zs.getD k 0)) = (zs.take (k + 1) ++ List.replicate (zs.length - (k + 1)) 0).map (Value.int .i64) := by
 apply List.ext_getElem
 ·simp; omega
 ·intro i h1 h2
  simp only [List.length_set, List.length_map, List.length_append, List.length_take, List.length_replicate] at h1
  rw [List.getElem_set]
  simp only [List.getElem_map, List.getElem_append, List.length_take, List.getElem_take, List.getElem_replicate]
  by_cases hik : k = i
  ·subst hik
   rw [if_pos rfl, dif_pos (by omega)]
   simp [List.getD_eq_getElem?_getD, List.getElem?_eq_getElem h]
  ·rw [if_neg hik]
   by_cases hlt : i < k
   ·rw [dif_pos (by omega), dif_pos (by omega)]
   ·rw [dif_neg (by omega), dif_neg (by omega)]
set_option maxHeartbeats 800000 in
theorem copy_any (a : Option Addr) (zs : List Int) (cap : Nat) (w : World) (hlen : zs.length ≤ 1048576) (hn : Nums w a zs) :
  Calls Tryz.prog 10 #[.slice a zs.length cap] w fun e w' =>
   e = .returned (.slice (some ⟨w.heap.size, 0, none⟩) zs.length zs.length) ∧ Own w' w.heap.size (.slice (some ⟨w.heap.size, 0, none⟩) zs.length zs.length) zs ∧ Below w.heap.size w w' := by
 obtain ⟨i0, hi, hz0, hz1, hz2⟩ := info_parts infoInt
 have hmax : zs.length ≤ maxLen := by unfold maxLen; omega
 go_enter Tryz.func10, Tryz.ntmps10
 go_wp2_with (at_make; refine wpList_make_full _ rfl (.tmp 6) (.tmp 6) 24 rfl w.heap.size 2 i0 (.int .i64 0) 1 Tryz.underlying24 hi hz0 hz1 .i64 .i64 zs.length zs.length zs.length rfl rfl rfl rfl ?_ hmax (Nat.le_refl _) ?_)
 ·rw [hz2]; omega
 ·intro w1 hown hgrow
  have hB : Below w.heap.size w w1 := (Below.refl _ _).grown hgrow (Nat.le_refl _) (fun k hk => by cases hk)
  clear hgrow
  go_wp2
  go_loopw [4] (fun i wr => ∃ k : Nat, k ≤ zs.length ∧ i = .int .i64 k ∧ wr.ownsRow w.heap.size 2 1 (.slice (some ⟨w.heap.size, 0, none⟩) zs.length zs.length) zs.length ((zs.take k ++ List.replicate (zs.length - k) 0).map (Value.int .i64)) ∧ w.heap.size < wr.heap.size ∧ Below w.heap.size w wr) (fun i _ => zs.length - (intOf i).toNat)
  case atStart =>
   refine ⟨0, Nat.zero_le _, rfl, ?_, ?_, hB⟩
   ·rw [toList_madeCells_one] at hown
    simpa using hown
   ·rcases hown.2 with ⟨h, _⟩ | ⟨g, c, cur, h, _, hg, _⟩
    ·simp at h
    ·simp at h
     obtain ⟨rfl, _⟩ := h
     rcases Nat.lt_or_ge w.heap.size w1.heap.size with h | h
     ·exact h
     ·rw [Array.getElem?_eq_none h] at hg; cases hg
  case round =>
   obtain ⟨k, hk, rfl, hown2, hsz, hB2⟩ := hrel
   by_cases hlt : k < zs.length
   ·rcases hn with hn | ⟨b, off, rfl, hc⟩
    ·subst hn; simp at hlt
    have hcell := hc k hlt
    have hbl := World.block_lt_of_cell? _ _ hcell
    rw [← hB2.cell (p := ⟨b, off + k, none⟩) hbl] at hcell
    have hdst := hown2.cellAt k (by omega)
    have hfr := hown2.frozenAt k
    obtain ⟨z, hz⟩ : ∃ z, z = zs.getD k 0 := ⟨_, rfl⟩
    rw [← hz] at hcell
    have HZ : Hid _ := hz
    obtain ⟨y, hy⟩ : ∃ y, wr.cell? ⟨w.heap.size, k, none⟩ = some y := by
     rw [hdst]; exact ⟨_, List.getElem?_eq_getElem (by simp; omega)⟩
    have HOWN : Hid _ := hown2
    have HC : Hid _ := hc
    clear hz hdst hown2 hown hc hB
    go_wp2
    go_roundw
    case rel =>
     refine ⟨k + 1, by omega, by go_num, ?_, ?_, ?_⟩
     ·have h2 := World.ownsRow.stored HOWN.out k (.int .i64 z)
      rw [HZ.out, copied hlt] at h2
      rw [HZ.out]
      exact h2.1
     ·simp only [World.size_setCell]; exact hsz
     ·exact hB2.setCell (Nat.le_refl _) _
    case measure => simp [intOf]; omega
   ·have hk2 : k = zs.length := by omega
    subst hk2
    have hown3 : Hid (wr.ownsRow w.heap.size 2 1 (.slice (some ⟨w.heap.size, 0, none⟩) zs.length zs.length) zs.length (zs.map (Value.int .i64))) := by unfold Hid; simpa using hown2
    clear hown2 hown hB hn
    go_wp2
    go_ret
    exact ⟨rfl, hown3.out, hB2⟩
set_option maxHeartbeats 800000 in
theorem eqNums_any (a b : Option Addr) (zs : List Int) (ca cb : Nat) (w : World) (hlen : zs.length ≤ 9223372036854775807) (ha : Nums w a zs) (hb : Nums w b zs) :
  Calls Tryz.prog 15 #[.slice a zs.length ca, .slice b zs.length cb] w fun e w' => e = .returned (.bool true) ∧ Below w.heap.size w w' := by
 have hne : (((zs.length : Int) != (zs.length : Int)) = false) := by simp
 go_enter Tryz.func15, Tryz.ntmps15
 go_wp2
 go_loopw [5] (fun i wr => ∃ k : Nat, k ≤ zs.length ∧ i = .int .i64 k ∧ Below w.heap.size w wr) (fun i _ => zs.length - (intOf i).toNat)
 case atStart => exact ⟨0, Nat.zero_le _, rfl, Below.refl _ _⟩
 case round =>
  obtain ⟨k, hk, rfl, hB⟩ := hrel
  by_cases hlt : k < zs.length
  ·rcases ha with ha | ⟨b1, o1, rfl, hc1⟩
   ·subst ha; simp at hlt
   rcases hb with hb | ⟨b2, o2, rfl, hc2⟩
   ·subst hb; simp at hlt
   have h1 := hc1 k hlt
   have h2 := hc2 k hlt
   have l1 := World.block_lt_of_cell? _ _ h1
   have l2 := World.block_lt_of_cell? _ _ h2
   rw [← hB.cell (p := ⟨b1, o1 + k, none⟩) l1] at h1
   rw [← hB.cell (p := ⟨b2, o2 + k, none⟩) l2] at h2
   obtain ⟨z, hz⟩ : ∃ z, z = zs.getD k 0 := ⟨_, rfl⟩
   rw [← hz] at h1 h2
   clear hz hc1 hc2 l1 l2
   go_wp2
   go_region
   all_goals
    go_wp2
    go_roundw
    case rel => exact ⟨k + 1, by omega, by go_num, hB.drew⟩
    case measure => simp [intOf]; omega
  ·go_wp2
   go_ret
   exact ⟨rfl, hB⟩
def marks (k : Int) (n : Nat) : List Int := (List.range n).map (fun i : Nat => k + i)
theorem marks_length (k : Int) (n : Nat) : (marks k n).length = n := by unfold marks; simp
theorem marks_get (k : Int) (n i : Nat) (h : i < n) : (marks k n).getD i 0 = k + i := by
 unfold marks
 rw [List.getD_eq_getElem?_getD, List.getElem?_eq_getElem (by simpa using h)]
 simp
theorem marked {k : Int} {zs : List Int} {j : Nat} (h : j < zs.length) :
  ((marks k j ++ zs.drop j).map (Value.int .i64)).set j (.int .i64 (k + j)) = (marks k (j + 1) ++ zs.drop (j + 1)).map (Value.int .i64) := by
 have e : marks k (j + 1) = marks k j ++ [k + j] := by unfold marks; rw [List.range_succ, List.map_append]; rfl
 rw [e, List.drop_eq_getElem_cons h]
 simp only [List.map_append, List.map_cons, List.append_assoc, List.cons_append, List.nil_append]
 rw [List.set_append_right _ _ (by simp [marks_length])]
 simp [marks_length]
set_option maxHeartbeats 800000 in
theorem mark_any (a : Option Addr) (zs : List Int) (cap B : Nat) (k : Int) (w : World) (hlen : zs.length ≤ 1048576) (hk0 : 0 ≤ k) (hk1 : k ≤ 200000000000000) (ho : w.ownsRow B 2 1 (.slice a zs.length cap) zs.length (zs.map (Value.int .i64))) :
  Calls Tryz.prog 18 #[.slice a zs.length cap, .int .i64 k] w fun e w' =>
   e = .returned (.int .i64 (k + zs.length)) ∧ w'.ownsRow B 2 1 (.slice a zs.length cap) zs.length ((marks k zs.length).map (Value.int .i64)) ∧ Below B w w' ∧ w'.heap.size = w.heap.size ∧ (∀ g, a ≠ some ⟨g, 0, none⟩ → w'.heap[g]? = w.heap[g]?) := by
 go_enter Tryz.func18, Tryz.ntmps18
 go_wp2
 go_loopw [1, 5] (fun x i wr => ∃ j : Nat, j ≤ zs.length ∧ i = .int .i64 j ∧ x = .int .i64 (k + j) ∧ wr.ownsRow B 2 1 (.slice a zs.length cap) zs.length ((marks k j ++ zs.drop j).map (Value.int .i64)) ∧ Below B w wr ∧ wr.heap.size = w.heap.size ∧ (∀ g, a ≠ some ⟨g, 0, none⟩ → wr.heap[g]? = w.heap[g]?))
  (fun _ i _ => zs.length - (intOf i).toNat)
 case atStart => exact ⟨0, Nat.zero_le _, rfl, by simp, by simpa [marks] using ho, Below.refl _ _, rfl, fun _ _ => rfl⟩
 case round =>
  obtain ⟨j, hj, rfl, rfl, hown, hB, hsz, hoth⟩ := hrel
  by_cases hlt : j < zs.length
  ·obtain ⟨g, rfl⟩ : ∃ g, a = some ⟨g, 0, none⟩ := by
    rcases hown.2 with ⟨h, h0⟩ | ⟨g, c, cur, h, _⟩
    ·omega
    ·simp at h; exact ⟨g, h.1⟩
   have hgB : B ≤ g := (hown.lt g rfl).1
   have hdst := hown.cellAt j (by omega)
   have hfr := hown.frozenAt j
   obtain ⟨y, hy⟩ : ∃ y, wr.cell? ⟨g, j, none⟩ = some y := by
    rw [hdst]; exact ⟨_, List.getElem?_eq_getElem (by simp [marks_length]; omega)⟩
   have hst := (hown.stored j (.int .i64 (k + j))).1
   rw [marked hlt] at hst
   have HOTH : Hid (∀ g', some (⟨g, 0, none⟩ : Addr) ≠ some ⟨g', 0, none⟩ → (wr.setCell ⟨g, j, none⟩ (.int .i64 (k + j))).heap[g']? = w.heap[g']?) := fun g' hg' => by
    rw [heap_setCell_other _ _ _ _ (fun h => hg' (by simp at h; rw [h]))]
    exact hoth g' hg'
   clear hdst hown hoth ho
   go_wp2
   go_roundw
   case rel => exact ⟨j + 1, by omega, by go_num, by go_num, hst, hB.setCell hgB _, by rw [World.size_setCell]; exact hsz, HOTH.out⟩
   case measure => simp [intOf]; omega
  ·have hj2 : j = zs.length := by omega
   subst hj2
   have hown2 : Hid (wr.ownsRow B 2 1 (.slice a zs.length cap) zs.length ((marks k zs.length).map (Value.int .i64))) := by
    show World.ownsRow _ _ _ _ _ _ _
    simpa using hown
   have HOTH : Hid (∀ g, a ≠ some ⟨g, 0, none⟩ → wr.heap[g]? = w.heap[g]?) := hoth
   clear hown hoth ho
   go_wp2
   go_ret
   exact ⟨rfl, hown2.out, hB, hsz, HOTH.out⟩
set_option maxHeartbeats 800000 in
theorem held_any (a : Option Addr) (n cap : Nat) (k : Int) (w : World) (hlen : n ≤ 1048576) (hk0 : 0 ≤ k) (hk1 : k ≤ 4194304) (hn : Nums w a (marks k n)) :
  Calls Tryz.prog 35 #[.slice a n cap, .int .i64 k] w fun e w' => e = .returned (.int .i64 (k + n)) ∧ w' = w := by
 go_enter Tryz.func35, Tryz.ntmps35
 go_wp2
 go_loop [1, 5] (fun x i => ∃ j : Nat, j ≤ n ∧ i = .int .i64 j ∧ x = .int .i64 (k + j)) (fun _ i => n - (intOf i).toNat)
 case atStart => exact ⟨0, Nat.zero_le _, rfl, by simp⟩
 case round =>
  obtain ⟨j, hj, rfl, rfl⟩ := hrel
  by_cases hlt : j < n
  ·rcases hn with hn | ⟨b, off, rfl, hc⟩
   ·have := marks_length k n; rw [hn] at this; simp at this; omega
   have hcell := hc j (by rw [marks_length]; exact hlt)
   rw [marks_get k n j hlt] at hcell
   clear hc
   go_wp2
   go_round
   case rel => exact ⟨j + 1, by omega, by go_num, by go_num⟩
   case measure => simp [intOf]; omega
  ·have hj2 : j = n := by omega
   subst hj2
   clear hn
   go_wp2
   go_ret
   exact ⟨rfl, rfl⟩
theorem marks_nums {w : World} {B n cap : Nat} {k : Int} {a : Option Addr} (h : w.ownsRow B 2 1 (.slice a n cap) n ((marks k n).map (Value.int .i64))) : Nums w a (marks k n) :=
 (nums_of_own (B := B) (n := n) (cap := cap) (by unfold Own; rw [marks_length]; exact h)).2
set_option maxHeartbeats 800000 in
theorem eqIR_any (c : Int) (a b : Option Addr) (zs : List Int) (ca cb : Nat) (w : World) (hlen : zs.length ≤ 1048576) (ha : Nums w a zs) (hb : Nums w b zs) :
  Calls Tryz.prog 12 #[resL c (.slice a zs.length ca), resL c (.slice b zs.length cb)] w fun e w' => e = .returned (.bool true) ∧ Below w.heap.size w w' := by
 have hB : Below w.heap.size w ((w.alloc (.cells #[.int .i64 c, .slice a zs.length ca] 32)).alloc (.cells #[.int .i64 c, .slice b zs.length cb] 32)) := by go_grown
 have ha2 := ha.below hB
 have hb2 := hb.below hB
 clear ha hb
 go_enter Tryz.func12, Tryz.ntmps12
 go_wp2_with fail
 refine (eqNums_any a b zs ca cb _ (by omega) ha2 hb2).mono ?_
 rintro e w1 ⟨rfl, hb1⟩
 have hB1 : Below w.heap.size w w1 := hB.trans (hb1.mono (by simp; omega))
 clear hb1 hB ha2 hb2
 go_wp2
 go_ret
 exact ⟨rfl, hB1⟩
set_option maxHeartbeats 800000 in
theorem markIR_any (c : Int) (a : Option Addr) (zs : List Int) (cap B : Nat) (k : Int) (w : World) (hlen : zs.length ≤ 1048576) (hk0 : 0 ≤ k) (hk1 : k ≤ 1048576) (hBw : B ≤ w.heap.size) (ho : w.ownsRow B 2 1 (.slice a zs.length cap) zs.length (zs.map (Value.int .i64))) :
  Calls Tryz.prog 19 #[resL c (.slice a zs.length cap), .int .i64 k] w fun e w' =>
   e = .returned (.int .i64 (k + zs.length)) ∧ w'.ownsRow B 2 1 (.slice a zs.length cap) zs.length ((marks k zs.length).map (Value.int .i64)) ∧ Below B w w' ∧ w.heap.size ≤ w'.heap.size ∧ (∀ g, g < w.heap.size → a ≠ some ⟨g, 0, none⟩ → w'.heap[g]? = w.heap[g]?) := by
 have ho2 := ho.alloc (.cells #[.int .i64 c, .slice a zs.length cap] 32)
 have hB : Below B w (w.alloc (.cells #[.int .i64 c, .slice a zs.length cap] 32)) := (Below.refl B w).alloc hBw _
 have hold : Hid (∀ g, g < w.heap.size → (w.alloc (.cells #[.int .i64 c, .slice a zs.length cap] 32)).heap[g]? = w.heap[g]?) := fun g hg => heap_alloc_old _ _ hg
 clear ho
 go_enter Tryz.func19, Tryz.ntmps19
 go_wp2_with fail
 refine (mark_any a zs cap B k _ hlen hk0 (by omega) ho2).mono ?_
 rintro e w1 ⟨rfl, ho3, hB3, hsz, hoth⟩
 have HOTH : Hid (∀ g, g < w.heap.size → a ≠ some ⟨g, 0, none⟩ → w1.heap[g]? = w.heap[g]?) := fun g hg hne => (hoth g hne).trans (hold.out g hg)
 have hB4 := hB.trans hB3
 have hsz4 : w.heap.size ≤ w1.heap.size := by rw [hsz]; simp
 clear hoth hB3 hB ho2 hsz hold
 go_wp2
 go_ret
 exact ⟨rfl, ho3, hB4, hsz4, HOTH.out⟩
set_option maxHeartbeats 800000 in
theorem heldIR_any (c : Int) (a : Option Addr) (n cap : Nat) (k : Int) (w : World) (hlen : n ≤ 1048576) (hk0 : 0 ≤ k) (hk1 : k ≤ 1048576) (hn : Nums w a (marks k n)) :
  Calls Tryz.prog 20 #[resL c (.slice a n cap), .int .i64 k] w fun e w' => e = .returned (.int .i64 (k + n)) ∧ Below w.heap.size w w' := by
 have hB : Below w.heap.size w (w.alloc (.cells #[.int .i64 c, .slice a n cap] 32)) := by go_grown
 have hn2 := hn.below hB
 clear hn
 go_enter Tryz.func20, Tryz.ntmps20
 go_wp2_with fail
 refine (held_any a n cap k _ hlen hk0 (by omega) hn2).mono ?_
 rintro e w1 ⟨rfl, rfl⟩
 clear hn2
 go_wp2
 go_ret
 exact ⟨rfl, hB⟩
end Go.Proofs.YteeklmgkhacbcaaGreatDoor
namespace Go.Proofs.YteeklmgkhacbcaaGreatDoor
def bs (l : List UInt8) : ByteArray := ⟨l.toArray⟩
def ch (l : List UInt8) (k : Nat) : UInt8 := l.getD k 0
theorem bs_toList (l : List UInt8) : (bs l).toList = l := ByteArray.toList_mk l
theorem bs_size (l : List UInt8) : (bs l).size = l.length := rfl
theorem bs_get (l : List UInt8) (k : Nat) (h : k < (bs l).size) : (bs l)[k]'h = ch l k := by
 have h' : k < l.length := by rw [bs_size] at h; exact h
 show l.toArray[k] = l.getD k 0
 rw [List.getD_eq_getElem?_getD, List.getElem?_eq_getElem h']
 simp
theorem bs_extract (l : List UInt8) (a b : Nat) : (bs l).extract a b = bs ((l.drop a).take (b - a)) := ByteArray.extract_mk l a b
theorem bs_append (a b : List UInt8) : bs a ++ bs b = bs (a ++ b) := ByteArray.mk_append_mk a b
theorem bs_eq (a b : List UInt8) : ((bs a).toList == (bs b).toList) = (a == b) := by rw [bs_toList, bs_toList]
theorem bs_of (s : ByteArray) : s = bs s.data.toList := by cases s; rfl
theorem bs_inj {a b : List UInt8} (h : bs a = bs b) : a = b := by have := congrArg ByteArray.toList h; rwa [bs_toList, bs_toList] at this
theorem ch_lo (l : List UInt8) (k : Nat) : (0 : Int) ≤ ((ch l k).toNat : Int) := by omega
theorem ch_hi (l : List UInt8) (k : Nat) : ((ch l k).toNat : Int) ≤ 255 := by have := (ch l k).toNat_lt; omega
theorem ch_cons (c : UInt8) (l : List UInt8) : ch (c :: l) 0 = c := rfl
theorem ch_drop (l : List UInt8) (p k : Nat) : ch (l.drop p) k = ch l (p + k) := by unfold ch; simp [List.getD_eq_getElem?_getD]
theorem ch_get (l : List UInt8) (k : Nat) (h : k < l.length) : ch l k = l[k] := by unfold ch; rw [List.getD_eq_getElem?_getD, List.getElem?_eq_getElem h]; rfl
theorem drop_at (l : List UInt8) (k : Nat) (h : k < l.length) : l.drop k = ch l k :: l.drop (k + 1) := by rw [List.drop_eq_getElem_cons h, ch_get l k h]
theorem take_at (l : List UInt8) (k : Nat) (h : k < l.length) : l.take (k + 1) = l.take k ++ [ch l k] := by rw [List.take_succ_eq_append_getElem h, ch_get l k h]
end Go.Proofs.YteeklmgkhacbcaaGreatDoor
