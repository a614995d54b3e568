/-
  laws.toInt64S hands back a copy in new memory; laws.eqInt64S finds equal numbers equal.
-/
import Derived.Test.YtepjaoapjpmjkaaGreatDoorTreeRefs
import Derived.Test.YtepjaoapjpmjkaaGreatDoorSOwn
import Derived.Test.YtepjaoapjpmjkaaGreatDoorIBlkOf
import Derived.Test.YtepjaoapjpmjkaaGreatDoorIBlkOf
import Derived.Test.YtepjaoapjpmjkaaGreatDoorBase
import Derived.OwnWalk
import Derived.Laws.OwnMore
import Derived.Laws.Rows
namespace Go.Proofs.YtepjaoapjpmjkaaGreatDoor
open Go.RowKit
set_option linter.unusedVariables false
attribute [local go_sem] bs_size bs_get bs_extract bs_append bs_eq bs_toList
abbrev wantsV (q : Bool × Int × Bool) : Value := .tuple #[.bool q.1, .int .i64 q.2.1, .bool q.2.2]
set_option maxHeartbeats 6400000 in
theorem l4Wants_any (n : LNode) (vk vt ve : Value) (w : World) (h1 : ∃ a l c, vk = .slice a l c) (h2 : ∃ a l c, vt = .slice a l c) (h3 : ∃ a l c, ve = .slice a l c) :
  Calls Tryz.prog 103 #[nodeV n vk vt ve] w fun e w' => e = .returned (wantsV (wantsN n.kind)) ∧ Below w.heap.size w w' := by
 obtain ⟨a, l, c, rfl⟩ := h1
 obtain ⟨a2, l2, c2, rfl⟩ := h2
 obtain ⟨a3, l3, c3, rfl⟩ := h3
 unfold wantsN
 go_enter Tryz.func103, Tryz.ntmps103
 by_cases k1 : n.kind = 1
 ·rw [if_pos k1]
  go_wp2
  refine bodyPost_ret (v := wantsV (false, 0, true)) (by simp [results, Tryz.results103, go_sem]) rfl ⟨rfl, by go_grown⟩
 rw [if_neg k1]
 by_cases k2 : n.kind = 2
 ·rw [if_pos k2]
  go_wp2
  refine bodyPost_ret (v := wantsV (true, 0, false)) (by simp [results, Tryz.results103, go_sem]) rfl ⟨rfl, by go_grown⟩
 rw [if_neg k2]
 by_cases k3 : n.kind = 3
 ·rw [if_pos (Or.inl k3)]
  go_wp2
  refine bodyPost_ret (v := wantsV (true, 1, false)) (by simp [results, Tryz.results103, go_sem]) rfl ⟨rfl, by go_grown⟩
 by_cases k7 : n.kind = 7
 ·rw [if_pos (Or.inr k7)]
  go_wp2
  refine bodyPost_ret (v := wantsV (true, 1, false)) (by simp [results, Tryz.results103, go_sem]) rfl ⟨rfl, by go_grown⟩
 rw [if_neg (by omega)]
 by_cases k4 : n.kind = 4
 ·rw [if_pos (Or.inl k4)]
  go_wp2
  refine bodyPost_ret (v := wantsV (false, 1, false)) (by simp [results, Tryz.results103, go_sem]) rfl ⟨rfl, by go_grown⟩
 by_cases k5 : n.kind = 5
 ·rw [if_pos (Or.inr (Or.inl k5))]
  go_wp2
  refine bodyPost_ret (v := wantsV (false, 1, false)) (by simp [results, Tryz.results103, go_sem]) rfl ⟨rfl, by go_grown⟩
 by_cases k9 : n.kind = 9
 ·rw [if_pos (Or.inr (Or.inr k9))]
  go_wp2
  refine bodyPost_ret (v := wantsV (false, 1, false)) (by simp [results, Tryz.results103, go_sem]) rfl ⟨rfl, by go_grown⟩
 rw [if_neg (by omega)]
 by_cases k6 : n.kind = 6
 ·rw [if_pos k6]
  go_wp2
  refine bodyPost_ret (v := wantsV (false, 2, false)) (by simp [results, Tryz.results103, go_sem]) rfl ⟨rfl, by go_grown⟩
 rw [if_neg k6]
 by_cases k8 : n.kind = 8
 ·rw [if_pos k8]
  go_wp2
  refine bodyPost_ret (v := wantsV (true, 2, false)) (by simp [results, Tryz.results103, go_sem]) rfl ⟨rfl, by go_grown⟩
 rw [if_neg k8]
 by_cases k10 : n.kind = 10
 ·rw [if_pos k10]
  go_wp2
  refine bodyPost_ret (v := wantsV (true, 0, true)) (by simp [results, Tryz.results103, go_sem]) rfl ⟨rfl, by go_grown⟩
 rw [if_neg k10]
 go_wp2
 refine bodyPost_ret (v := wantsV (true, -1, false)) (by simp [results, Tryz.results103, go_sem]) rfl ⟨rfl, by go_grown⟩
set_option maxHeartbeats 800000 in
theorem l1Max_any (a b : Int) (w : World) : Calls Tryz.prog 105 #[.int .i64 a, .int .i64 b] w fun e w' => e = .returned (.int .i64 (max a b)) ∧ w' = w := by
 by_cases h : a > b
 ·have e : max a b = a := by omega
  rw [e]
  go_enter Tryz.func105, Tryz.ntmps105
  go_wp2
  go_ret
  exact ⟨rfl, rfl⟩
 ·have e : max a b = b := by omega
  rw [e]
  go_enter Tryz.func105, Tryz.ntmps105
  go_wp2
  go_ret
  exact ⟨rfl, rfl⟩
def SameW (a b : World) : Prop := a = b
end Go.Proofs.YtepjaoapjpmjkaaGreatDoor
namespace Go.Proofs.YtepjaoapjpmjkaaGreatDoor
open Go.RowKit
set_option linter.unusedVariables false
attribute [local go_sem] bs_size bs_get bs_extract bs_append bs_eq bs_toList
theorem infoE : (Tryz.prog.info? 158).map (fun i => (i.zero, i.size, i.bytes)) = some (some (.agg #[.string ⟨#[]⟩, .int .i64 0, .int .i64 0, .int .i64 0, .bool false, .int .i64 0]), 6, 56) := by kernel_rfl
def entV (V : List LVar) (nv i : Nat) : List Value := [.string (bs (V.getD i default).name), .int .i64 (V.getD i default).kind, .int .i64 (V.getD i default).type, .int .i64 (V.getD i default).size, .bool (decide (nv ≤ i)), .int .i64 (cellsL (V.take i))]
def entC (V : List LVar) (nv k : Nat) : List Value := (List.range k).flatMap (entV V nv)
theorem entC_succ (V : List LVar) (nv k : Nat) : entC V nv (k + 1) = entC V nv k ++ entV V nv k := by unfold entC; rw [List.range_succ, List.flatMap_append]; simp
theorem entC_len (V : List LVar) (nv k : Nat) : (entC V nv k).length = k * 6 := by
 induction k with
 | zero => rfl
 | succ k ih => rw [entC_succ, List.length_append, ih]; simp [entV]; omega
theorem entC_at (V : List LVar) (nv : Nat) : ∀ (k i : Nat), i < k → ∀ j, j < 6 → (entC V nv k)[i * 6 + j]? = (entV V nv i)[j]? := by
 intro k
 induction k with
 | zero => intro i h; omega
 | succ k ih =>
  intro i h j hj
  rw [entC_succ]
  by_cases e : i < k
  ·rw [List.getElem?_append_left (by rw [entC_len]; omega)]; exact ih i e j hj
  ·have : i = k := by omega
   subst this
   rw [List.getElem?_append_right (by rw [entC_len]; omega), entC_len, Nat.add_sub_cancel_left]
theorem entV_at {V : List LVar} {nv i : Nat} {x : LVar} (h : V[i]? = some x) : entV V nv i = [.string (bs x.name), .int .i64 x.kind, .int .i64 x.type, .int .i64 x.size, .bool (decide (nv ≤ i)), .int .i64 (cellsL (V.take i))] := by
 have : V.getD i default = x := by rw [List.getD_eq_getElem?_getD, h]; rfl
 unfold entV; rw [this]
set_option maxHeartbeats 800000 in
theorem cellsFor_any (x : LVar) (w : World) : Calls Tryz.prog 117 #[varV x] w fun e w' => e = .returned (.int .i64 (szV x)) ∧ Below w.heap.size w w' := by
 have e1 : (if 1 < x.size then x.size else 1) = szV x := by unfold szV; split <;> omega
 go_enter Tryz.func117, Tryz.ntmps117
 go_wp2
 go_ret
 exact ⟨by rw [← e1]; rfl, by go_grown⟩
end Go.Proofs.YtepjaoapjpmjkaaGreatDoor
namespace Go.Proofs.YtepjaoapjpmjkaaGreatDoor
open Go.RowKit
theorem infoInt : (Tryz.prog.info? 2).map (fun i => (i.zero, i.size, i.bytes)) = some (some (.int .i64 0), 1, 8) := by kernel_rfl
abbrev Own (w : World) (B : Nat) (v : Value) (zs : List Int) : Prop := w.ownsRow B 2 1 v zs.length (zs.map (Value.int .i64))
theorem nums_of_own {w : World} {B n cap : Nat} {a : Option Addr} {zs : List Int} (h : Own w B (.slice a n cap) zs) : n = zs.length ∧ Nums w a zs := by
 obtain ⟨hl, h | ⟨g, c, cur, hv, hg, hh, h1, h2, h3, h4⟩⟩ := h
 ·obtain ⟨hv, hn⟩ := h
  simp at hv
  exact ⟨by omega, .inl (List.eq_nil_of_length_eq_zero hn)⟩
 ·simp at hv
  obtain ⟨rfl, rfl, rfl⟩ := hv
  refine ⟨rfl, .inr ⟨g, 0, rfl, fun i hi => ?_⟩⟩
  have ho : w.ownsRow B 2 1 (.slice (some ⟨g, 0, none⟩) zs.length cap) zs.length (zs.map (Value.int .i64)) := ⟨hl, .inr ⟨g, cap, cur, rfl, hg, hh, h1, h2, h3, h4⟩⟩
  rw [Nat.zero_add, ho.cellAt i (by omega), List.getElem?_map, List.getElem?_eq_getElem hi, List.getD_eq_getElem?_getD, List.getElem?_eq_getElem hi]
  rfl
theorem nums_of_row {w : World} {a : Option Addr} {len cap : Nat} {zs : List Int} (h : IsRow .i64 w a len cap zs) : (zs.take len).length = len ∧ Nums w a (zs.take len) := by
 rcases h with ⟨rfl, rfl, rfl, rfl⟩ | ⟨x, rfl, hl, hm, hz, hcell, hwz⟩
 ·exact ⟨rfl, .inl rfl⟩
 ·refine ⟨by simp; omega, ?_⟩
  by_cases h0 : len = 0
  ·subst h0; exact .inl rfl
  obtain ⟨b, off, spot⟩ := x
  have hc := hcell 0 (by omega)
  have hspot : spot = none := by simpa [Addr.add] using World.cell?_spot hc
  subst hspot
  refine .inr ⟨b, off, rfl, fun i hi => ?_⟩
  have hi2 : i < len := by simp at hi; omega
  have := hcell i (by omega)
  rw [List.getD_eq_getElem?_getD] at this ⊢
  rw [List.getElem?_take_of_lt hi2, ← this]
  congr 1
  cases i <;> simp [Addr.add]
theorem own_shape {w : World} {B n : Nat} {v : Value} {xs : List Value} (h : w.ownsRow B 2 1 v n xs) : ∃ a cap, v = .slice a n cap := by
 rcases h.2 with ⟨rfl, rfl⟩ | ⟨g, c, cur, rfl, _⟩
 ·exact ⟨_, _, rfl⟩
 ·exact ⟨_, _, rfl⟩
theorem own_mono {w : World} {B C n : Nat} {v : Value} {xs : List Value} (h : w.ownsRow B 2 1 v n xs) (hC : C ≤ B) : w.ownsRow C 2 1 v n xs := by
 refine ⟨h.1, ?_⟩
 rcases h.2 with h2 | ⟨g, c, cur, rfl, hg, hr⟩
 ·exact .inl h2
 ·exact .inr ⟨g, c, cur, rfl, by omega, hr⟩
theorem own_kept {w w' : World} {B n : Nat} {v : Value} {xs : List Value} (h : w.ownsRow B 2 1 v n xs) (hb : Below w.heap.size w w') : w'.ownsRow B 2 1 v n xs := by
 refine ⟨h.1, ?_⟩
 rcases h.2 with h2 | ⟨g, c, cur, rfl, hg, hh, hr⟩
 ·exact .inl h2
 ·refine .inr ⟨g, c, cur, rfl, hg, ?_, hr⟩
  rw [hb.block g (Array.getElem?_eq_some_iff.1 hh).1]; exact hh
abbrev resL (c : Int) (v : Value) : Value := .agg #[.int .i64 c, v]
theorem own_other {w w' : World} {B n : Nat} {v : Value} {xs : List Value} (h : w.ownsRow B 2 1 v n xs) (hs : ∀ g, v.ownBlock = some g → w'.heap[g]? = w.heap[g]?) : w'.ownsRow B 2 1 v n xs := by
 refine ⟨h.1, ?_⟩
 rcases h.2 with h2 | ⟨g, c, cur, rfl, hg, hh, hr⟩
 ·exact .inl h2
 ·refine .inr ⟨g, c, cur, rfl, hg, ?_, hr⟩
  rw [hs g rfl]; exact hh
theorem own_lt {w : World} {B n m cap : Nat} {a : Option Addr} {xs : List Value} (h : w.ownsRow B 2 1 (.slice a m cap) n xs) {g : Nat} (ha : a = some ⟨g, 0, none⟩) : B ≤ g ∧ g < w.heap.size := by
 subst ha; exact h.lt g rfl
theorem own_len {w : World} {B n m cap : Nat} {a : Option Addr} {xs : List Value} (h : w.ownsRow B 2 1 (.slice a m cap) n xs) : m = n := by
 rcases h.2 with ⟨h1, h2⟩ | ⟨g, c, cur, h1, _⟩
 ·simp at h1; omega
 ·simp at h1; exact h1.2.1
theorem own_at {w : World} {B n m cap g : Nat} {a : Option Addr} {xs : List Value} (h : w.ownsRow B 2 1 (.slice a m cap) n xs) (hg : (Value.slice a m cap).ownBlock = some g) : a = some ⟨g, 0, none⟩ := by
 rcases h.2 with ⟨h, _⟩ | ⟨q, c, cur, h, _⟩ <;> simp at h
 ·rw [h.1] at hg; simp [Value.ownBlock] at hg
 ·rw [h.1] at hg ⊢; simp [Value.ownBlock] at hg; rw [hg]
end Go.Proofs.YtepjaoapjpmjkaaGreatDoor
namespace Go.Proofs.YtepjaoapjpmjkaaGreatDoor
open Go.RowKit
theorem copied {zs : List Int} {k : Nat} (h : k < zs.length) :
  ((zs.take k ++ List.replicate (zs.length - k) 0).map (Value.int .i64)).set k (.int .i64 (zs.getD k 0)) = (zs.take (k + 1) ++ List.replicate (zs.length - (k + 1)) 0).map (Value.int .i64) := by
 apply List.ext_getElem
 ·simp; omega
 ·intro i h1 h2
  simp only [List.length_set, List.length_map, List.length_append, List.length_take, List.length_replicate] at h1
  rw [List.getElem_set]
  simp only [List.getElem_map, List.getElem_append, List.length_take, List.getElem_take, List.getElem_replicate]
  by_cases hik : k = i
  ·subst hik
   rw [if_pos rfl, dif_pos (by omega)]
   simp [List.getD_eq_getElem?_getD, List.getElem?_eq_getElem h]
  ·rw [if_neg hik]
   by_cases hlt : i < k
   ·rw [dif_pos (by omega), dif_pos (by omega)]
   ·rw [dif_neg (by omega), dif_neg (by omega)]
set_option maxHeartbeats 800000 in
theorem copy_any (a : Option Addr) (zs : List Int) (cap : Nat) (w : World) (hlen : zs.length ≤ 1048576) (hn : Nums w a zs) :
  Calls Tryz.prog 37 #[.slice a zs.length cap] w fun e w' =>
   e = .returned (.slice (some ⟨w.heap.size, 0, none⟩) zs.length zs.length) ∧ Own w' w.heap.size (.slice (some ⟨w.heap.size, 0, none⟩) zs.length zs.length) zs ∧ Below w.heap.size w w' := by
 obtain ⟨i0, hi, hz0, hz1, hz2⟩ := info_parts infoInt
 have hmax : zs.length ≤ maxLen := by unfold maxLen; omega
 go_enter Tryz.func37, Tryz.ntmps37
 go_wp2_with (at_make; refine wpList_make_full _ rfl (.tmp 6) (.tmp 6) 24 rfl w.heap.size 2 i0 (.int .i64 0) 1 Tryz.underlying24 hi hz0 hz1 .i64 .i64 zs.length zs.length zs.length rfl rfl rfl rfl ?_ hmax (Nat.le_refl _) ?_)
 ·rw [hz2]; omega
 ·intro w1 hown hgrow
  have hB : Below w.heap.size w w1 := (Below.refl _ _).grown hgrow (Nat.le_refl _) (fun k hk => by cases hk)
  clear hgrow
  go_wp2
  go_loopw [4] (fun i wr => ∃ k : Nat, k ≤ zs.length ∧ i = .int .i64 k ∧ wr.ownsRow w.heap.size 2 1 (.slice (some ⟨w.heap.size, 0, none⟩) zs.length zs.length) zs.length ((zs.take k ++ List.replicate (zs.length - k) 0).map (Value.int .i64)) ∧ w.heap.size < wr.heap.size ∧ Below w.heap.size w wr) (fun i _ => zs.length - (intOf i).toNat)
  case atStart =>
   refine ⟨0, Nat.zero_le _, rfl, ?_, ?_, hB⟩
   ·rw [toList_madeCells_one] at hown
    simpa using hown
   ·rcases hown.2 with ⟨h, _⟩ | ⟨g, c, cur, h, _, hg, _⟩
    ·simp at h
    ·simp at h
     obtain ⟨rfl, _⟩ := h
     rcases Nat.lt_or_ge w.heap.size w1.heap.size with h | h
     ·exact h
     ·rw [Array.getElem?_eq_none h] at hg; cases hg
  case round =>
   obtain ⟨k, hk, rfl, hown2, hsz, hB2⟩ := hrel
   by_cases hlt : k < zs.length
   ·rcases hn with hn | ⟨b, off, rfl, hc⟩
    ·subst hn; simp at hlt
    have hcell := hc k hlt
    have hbl := World.block_lt_of_cell? _ _ hcell
    rw [← hB2.cell (p := ⟨b, off + k, none⟩) hbl] at hcell
    have hdst := hown2.cellAt k (by omega)
    have hfr := hown2.frozenAt k
    obtain ⟨z, hz⟩ : ∃ z, z = zs.getD k 0 := ⟨_, rfl⟩
    rw [← hz] at hcell
    have HZ : Hid _ := hz
    obtain ⟨y, hy⟩ : ∃ y, wr.cell? ⟨w.heap.size, k, none⟩ = some y := by
     rw [hdst]; exact ⟨_, List.getElem?_eq_getElem (by simp; omega)⟩
    have HOWN : Hid _ := hown2
    have HC : Hid _ := hc
    clear hz hdst hown2 hown hc hB
    go_wp2
    go_roundw
    case rel =>
     refine ⟨k + 1, by omega, by go_num, ?_, ?_, ?_⟩
     ·have h2 := World.ownsRow.stored HOWN.out k (.int .i64 z)
      rw [HZ.out, copied hlt] at h2
      rw [HZ.out]
      exact h2.1
     ·simp only [World.size_setCell]; exact hsz
     ·exact hB2.setCell (Nat.le_refl _) _
    case measure => simp [intOf]; omega
   ·have hk2 : k = zs.length := by omega
    subst hk2
    have hown3 : Hid (wr.ownsRow w.heap.size 2 1 (.slice (some ⟨w.heap.size, 0, none⟩) zs.length zs.length) zs.length (zs.map (Value.int .i64))) := by unfold Hid; simpa using hown2
    clear hown2 hown hB hn
    go_wp2
    go_ret
    exact ⟨rfl, hown3.out, hB2⟩
set_option maxHeartbeats 800000 in
theorem eqNums_any (a b : Option Addr) (zs : List Int) (ca cb : Nat) (w : World) (hlen : zs.length ≤ 9223372036854775807) (ha : Nums w a zs) (hb : Nums w b zs) :
  Calls Tryz.prog 45 #[.slice a zs.length ca, .slice b zs.length cb] w fun e w' => e = .returned (.bool true) ∧ Below w.heap.size w w' := by
 have hne : (((zs.length : Int) != (zs.length : Int)) = false) := by simp
 go_enter Tryz.func45, Tryz.ntmps45
 go_wp2
 go_loopw [5] (fun i wr => ∃ k : Nat, k ≤ zs.length ∧ i = .int .i64 k ∧ Below w.heap.size w wr) (fun i _ => zs.length - (intOf i).toNat)
 case atStart => exact ⟨0, Nat.zero_le _, rfl, Below.refl _ _⟩
 case round =>
  obtain ⟨k, hk, rfl, hB⟩ := hrel
  by_cases hlt : k < zs.length
  ·rcases ha with ha | ⟨b1, o1, rfl, hc1⟩
   ·subst ha; simp at hlt
   rcases hb with hb | ⟨b2, o2, rfl, hc2⟩
   ·subst hb; simp at hlt
   have h1 := hc1 k hlt
   have h2 := hc2 k hlt
   have l1 := World.block_lt_of_cell? _ _ h1
   have l2 := World.block_lt_of_cell? _ _ h2
   rw [← hB.cell (p := ⟨b1, o1 + k, none⟩) l1] at h1
   rw [← hB.cell (p := ⟨b2, o2 + k, none⟩) l2] at h2
   obtain ⟨z, hz⟩ : ∃ z, z = zs.getD k 0 := ⟨_, rfl⟩
   rw [← hz] at h1 h2
   clear hz hc1 hc2 l1 l2
   go_wp2
   go_region
   all_goals
    go_wp2
    go_roundw
    case rel => exact ⟨k + 1, by omega, by go_num, hB.drew⟩
    case measure => simp [intOf]; omega
  ·go_wp2
   go_ret
   exact ⟨rfl, hB⟩
end Go.Proofs.YtepjaoapjpmjkaaGreatDoor
