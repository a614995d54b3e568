/-
  laws.toInt64S, toVar, toVarS: copies in new memory.
-/
import Derived.Test.YtepjaoapjpmjkaaGreatDoorBase
import Derived.OwnWalk
import Derived.Laws.OwnMore
import Derived.Laws.Rows
import Derived.Test.YtepjaoapjpmjkaaGreatDoorTreeM
import Derived.RegionTactic
namespace Go.Proofs.YtepjaoapjpmjkaaGreatDoor
open Go.RowKit
theorem infoInt : (Tryz.prog.info? 2).map (fun i => (i.zero, i.size, i.bytes)) = some (some (.int .i64 0), 1, 8) := by kernel_rfl
abbrev Own (w : World) (B : Nat) (v : Value) (zs : List Int) : Prop := w.ownsRow B 2 1 v zs.length (zs.map (Value.int .i64))
theorem nums_of_own {w : World} {B n cap : Nat} {a : Option Addr} {zs : List Int} (h : Own w B (.slice a n cap) zs) : n = zs.length ∧ Nums w a zs := by
 obtain ⟨hl, h | ⟨g, c, cur, hv, hg, hh, h1, h2, h3, h4⟩⟩ := h
 ·obtain ⟨hv, hn⟩ := h
  simp at hv
  exact ⟨by omega, .inl (List.eq_nil_of_length_eq_zero hn)⟩
 ·simp at hv
  obtain ⟨rfl, rfl, rfl⟩ := hv
  refine ⟨rfl, .inr ⟨g, 0, rfl, fun i hi => ?_⟩⟩
  have ho : w.ownsRow B 2 1 (.slice (some ⟨g, 0, none⟩) zs.length cap) zs.length (zs.map (Value.int .i64)) := ⟨hl, .inr ⟨g, cap, cur, rfl, hg, hh, h1, h2, h3, h4⟩⟩
  rw [Nat.zero_add, ho.cellAt i (by omega), List.getElem?_map, List.getElem?_eq_getElem hi, List.getD_eq_getElem?_getD, List.getElem?_eq_getElem hi]
  rfl
theorem nums_of_row {w : World} {a : Option Addr} {len cap : Nat} {zs : List Int} (h : IsRow .i64 w a len cap zs) : (zs.take len).length = len ∧ Nums w a (zs.take len) := by
 rcases h with ⟨rfl, rfl, rfl, rfl⟩ | ⟨x, rfl, hl, hm, hz, hcell, hwz⟩
 ·exact ⟨rfl, .inl rfl⟩
 ·refine ⟨by simp; omega, ?_⟩
  by_cases h0 : len = 0
  ·subst h0; exact .inl rfl
  obtain ⟨b, off, spot⟩ := x
  have hc := hcell 0 (by omega)
  have hspot : spot = none := by simpa [Addr.add] using World.cell?_spot hc
  subst hspot
  refine .inr ⟨b, off, rfl, fun i hi => ?_⟩
  have hi2 : i < len := by simp at hi; omega
  have := hcell i (by omega)
  rw [List.getD_eq_getElem?_getD] at this ⊢
  rw [List.getElem?_take_of_lt hi2, ← this]
  congr 1
  cases i <;> simp [Addr.add]
theorem own_shape {w : World} {B n : Nat} {v : Value} {xs : List Value} (h : w.ownsRow B 2 1 v n xs) : ∃ a cap, v = .slice a n cap := by
 rcases h.2 with ⟨rfl, rfl⟩ | ⟨g, c, cur, rfl, _⟩
 ·exact ⟨_, _, rfl⟩
 ·exact ⟨_, _, rfl⟩
theorem own_mono {w : World} {B C n : Nat} {v : Value} {xs : List Value} (h : w.ownsRow B 2 1 v n xs) (hC : C ≤ B) : w.ownsRow C 2 1 v n xs := by
 refine ⟨h.1, ?_⟩
 rcases h.2 with h2 | ⟨g, c, cur, rfl, hg, hr⟩
 ·exact .inl h2
 ·exact .inr ⟨g, c, cur, rfl, by omega, hr⟩
theorem own_kept {w w' : World} {B n : Nat} {v : Value} {xs : List Value} (h : w.ownsRow B 2 1 v n xs) (hb : Below w.heap.size w w') : w'.ownsRow B 2 1 v n xs := by
 refine ⟨h.1, ?_⟩
 rcases h.2 with h2 | ⟨g, c, cur, rfl, hg, hh, hr⟩
 ·exact .inl h2
 ·refine .inr ⟨g, c, cur, rfl, hg, ?_, hr⟩
  rw [hb.block g (Array.getElem?_eq_some_iff.1 hh).1]; exact hh
abbrev resL (c : Int) (v : Value) : Value := .agg #[.int .i64 c, v]
theorem own_other {w w' : World} {B n : Nat} {v : Value} {xs : List Value} (h : w.ownsRow B 2 1 v n xs) (hs : ∀ g, v.ownBlock = some g → w'.heap[g]? = w.heap[g]?) : w'.ownsRow B 2 1 v n xs := by
 refine ⟨h.1, ?_⟩
 rcases h.2 with h2 | ⟨g, c, cur, rfl, hg, hh, hr⟩
 ·exact .inl h2
 ·refine .inr ⟨g, c, cur, rfl, hg, ?_, hr⟩
  rw [hs g rfl]; exact hh
theorem own_lt {w : World} {B n m cap : Nat} {a : Option Addr} {xs : List Value} (h : w.ownsRow B 2 1 (.slice a m cap) n xs) {g : Nat} (ha : a = some ⟨g, 0, none⟩) : B ≤ g ∧ g < w.heap.size := by
 subst ha; exact h.lt g rfl
theorem own_len {w : World} {B n m cap : Nat} {a : Option Addr} {xs : List Value} (h : w.ownsRow B 2 1 (.slice a m cap) n xs) : m = n := by
 rcases h.2 with ⟨h1, h2⟩ | ⟨g, c, cur, h1, _⟩
 ·simp at h1; omega
 ·simp at h1; exact h1.2.1
theorem own_at {w : World} {B n m cap g : Nat} {a : Option Addr} {xs : List Value} (h : w.ownsRow B 2 1 (.slice a m cap) n xs) (hg : (Value.slice a m cap).ownBlock = some g) : a = some ⟨g, 0, none⟩ := by
 rcases h.2 with ⟨h, _⟩ | ⟨q, c, cur, h, _⟩ <;> simp at h
 ·rw [h.1] at hg; simp [Value.ownBlock] at hg
 ·rw [h.1] at hg ⊢; simp [Value.ownBlock] at hg; rw [hg]
end Go.Proofs.YtepjaoapjpmjkaaGreatDoor
namespace Go.Proofs.YtepjaoapjpmjkaaGreatDoor
open Go.RowKit
theorem copied {zs : List Int} {k : Nat} (h : k < zs.length) :
  ((zs.take k ++ List.replicate (zs.length - k) 0).map (Value.int .i64)).set k (.int .i64 (zs.getD k 0)) = (zs.take (k + 1) ++ List.replicate (zs.length - (k + 1)) 0).map (Value.int .i64) := by
 apply List.ext_getElem
 ·simp; omega
 ·intro i h1 h2
  simp only [List.length_set, List.length_map, List.length_append, List.length_take, List.length_replicate] at h1
  rw [List.getElem_set]
  simp only [List.getElem_map, List.getElem_append, List.length_take, List.getElem_take, List.getElem_replicate]
  by_cases hik : k = i
  ·subst hik
   rw [if_pos rfl, dif_pos (by omega)]
   simp [List.getD_eq_getElem?_getD, List.getElem?_eq_getElem h]
  ·rw [if_neg hik]
   by_cases hlt : i < k
   ·rw [dif_pos (by omega), dif_pos (by omega)]
   ·rw [dif_neg (by omega), dif_neg (by omega)]
set_option maxHeartbeats 800000 in
theorem copy_any (a : Option Addr) (zs : List Int) (cap : Nat) (w : World) (hlen : zs.length ≤ 1048576) (hn : Nums w a zs) :
  Calls Tryz.prog 37 #[.slice a zs.length cap] w fun e w' =>
   e = .returned (.slice (some ⟨w.heap.size, 0, none⟩) zs.length zs.length) ∧ Own w' w.heap.size (.slice (some ⟨w.heap.size, 0, none⟩) zs.length zs.length) zs ∧ Below w.heap.size w w' := by
 obtain ⟨i0, hi, hz0, hz1, hz2⟩ := info_parts infoInt
 have hmax : zs.length ≤ maxLen := by unfold maxLen; omega
 go_enter Tryz.func37, Tryz.ntmps37
 go_wp2_with (at_make; refine wpList_make_full _ rfl (.tmp 6) (.tmp 6) 24 rfl w.heap.size 2 i0 (.int .i64 0) 1 Tryz.underlying24 hi hz0 hz1 .i64 .i64 zs.length zs.length zs.length rfl rfl rfl rfl ?_ hmax (Nat.le_refl _) ?_)
 ·rw [hz2]; omega
 ·intro w1 hown hgrow
  have hB : Below w.heap.size w w1 := (Below.refl _ _).grown hgrow (Nat.le_refl _) (fun k hk => by cases hk)
  clear hgrow
  go_wp2
  go_loopw [4] (fun i wr => ∃ k : Nat, k ≤ zs.length ∧ i = .int .i64 k ∧ wr.ownsRow w.heap.size 2 1 (.slice (some ⟨w.heap.size, 0, none⟩) zs.length zs.length) zs.length ((zs.take k ++ List.replicate (zs.length - k) 0).map (Value.int .i64)) ∧ w.heap.size < wr.heap.size ∧ Below w.heap.size w wr) (fun i _ => zs.length - (intOf i).toNat)
  case atStart =>
   refine ⟨0, Nat.zero_le _, rfl, ?_, ?_, hB⟩
   ·rw [toList_madeCells_one] at hown
    simpa using hown
   ·rcases hown.2 with ⟨h, _⟩ | ⟨g, c, cur, h, _, hg, _⟩
    ·simp at h
    ·simp at h
     obtain ⟨rfl, _⟩ := h
     rcases Nat.lt_or_ge w.heap.size w1.heap.size with h | h
     ·exact h
     ·rw [Array.getElem?_eq_none h] at hg; cases hg
  case round =>
   obtain ⟨k, hk, rfl, hown2, hsz, hB2⟩ := hrel
   by_cases hlt : k < zs.length
   ·rcases hn with hn | ⟨b, off, rfl, hc⟩
    ·subst hn; simp at hlt
    have hcell := hc k hlt
    have hbl := World.block_lt_of_cell? _ _ hcell
    rw [← hB2.cell (p := ⟨b, off + k, none⟩) hbl] at hcell
    have hdst := hown2.cellAt k (by omega)
    have hfr := hown2.frozenAt k
    obtain ⟨z, hz⟩ : ∃ z, z = zs.getD k 0 := ⟨_, rfl⟩
    rw [← hz] at hcell
    have HZ : Hid _ := hz
    obtain ⟨y, hy⟩ : ∃ y, wr.cell? ⟨w.heap.size, k, none⟩ = some y := by
     rw [hdst]; exact ⟨_, List.getElem?_eq_getElem (by simp; omega)⟩
    have HOWN : Hid _ := hown2
    have HC : Hid _ := hc
    clear hz hdst hown2 hown hc hB
    go_wp2
    go_roundw
    case rel =>
     refine ⟨k + 1, by omega, by go_num, ?_, ?_, ?_⟩
     ·have h2 := World.ownsRow.stored HOWN.out k (.int .i64 z)
      rw [HZ.out, copied hlt] at h2
      rw [HZ.out]
      exact h2.1
     ·simp only [World.size_setCell]; exact hsz
     ·exact hB2.setCell (Nat.le_refl _) _
    case measure => simp [intOf]; omega
   ·have hk2 : k = zs.length := by omega
    subst hk2
    have hown3 : Hid (wr.ownsRow w.heap.size 2 1 (.slice (some ⟨w.heap.size, 0, none⟩) zs.length zs.length) zs.length (zs.map (Value.int .i64))) := by unfold Hid; simpa using hown2
    clear hown2 hown hB hn
    go_wp2
    go_ret
    exact ⟨rfl, hown3.out, hB2⟩
set_option maxHeartbeats 800000 in
theorem eqNums_any (a b : Option Addr) (zs : List Int) (ca cb : Nat) (w : World) (hlen : zs.length ≤ 9223372036854775807) (ha : Nums w a zs) (hb : Nums w b zs) :
  Calls Tryz.prog 45 #[.slice a zs.length ca, .slice b zs.length cb] w fun e w' => e = .returned (.bool true) ∧ Below w.heap.size w w' := by
 have hne : (((zs.length : Int) != (zs.length : Int)) = false) := by simp
 go_enter Tryz.func45, Tryz.ntmps45
 go_wp2
 go_loopw [5] (fun i wr => ∃ k : Nat, k ≤ zs.length ∧ i = .int .i64 k ∧ Below w.heap.size w wr) (fun i _ => zs.length - (intOf i).toNat)
 case atStart => exact ⟨0, Nat.zero_le _, rfl, Below.refl _ _⟩
 case round =>
  obtain ⟨k, hk, rfl, hB⟩ := hrel
  by_cases hlt : k < zs.length
  ·rcases ha with ha | ⟨b1, o1, rfl, hc1⟩
   ·subst ha; simp at hlt
   rcases hb with hb | ⟨b2, o2, rfl, hc2⟩
   ·subst hb; simp at hlt
   have h1 := hc1 k hlt
   have h2 := hc2 k hlt
   have l1 := World.block_lt_of_cell? _ _ h1
   have l2 := World.block_lt_of_cell? _ _ h2
   rw [← hB.cell (p := ⟨b1, o1 + k, none⟩) l1] at h1
   rw [← hB.cell (p := ⟨b2, o2 + k, none⟩) l2] at h2
   obtain ⟨z, hz⟩ : ∃ z, z = zs.getD k 0 := ⟨_, rfl⟩
   rw [← hz] at h1 h2
   clear hz hc1 hc2 l1 l2
   go_wp2
   go_region
   all_goals
    go_wp2
    go_roundw
    case rel => exact ⟨k + 1, by omega, by go_num, hB.drew⟩
    case measure => simp [intOf]; omega
  ·go_wp2
   go_ret
   exact ⟨rfl, hB⟩
end Go.Proofs.YtepjaoapjpmjkaaGreatDoor
namespace Go.Proofs.YtepjaoapjpmjkaaGreatDoor
open Go.RowKit
set_option linter.unusedVariables false
attribute [local go_sem] bs_size bs_get bs_extract bs_append bs_eq bs_toList
theorem blk {w w' : World} {g : Nat} {cs : Array Value} {T : TypeId} (h : w.heap[g]? = some (.cells cs T (0, 0))) (hb : Below w.heap.size w w') : w'.heap[g]? = some (.cells cs T (0, 0)) :=
 (hb.block g (Array.getElem?_eq_some_iff.1 h).1).trans h
theorem blk_lt {w : World} {g : Nat} {o : Obj} (h : w.heap[g]? = some o) : g < w.heap.size := (Array.getElem?_eq_some_iff.1 h).1
abbrev varV (x : LVar) : Value := .agg #[.string (bs x.name), .int .i64 x.kind, .int .i64 x.type, .int .i64 x.size]
def varCells (xs : List LVar) : List Value := xs.flatMap fun x => [.string (bs x.name), .int .i64 x.kind, .int .i64 x.type, .int .i64 x.size]
theorem varCells_len (xs : List LVar) : (varCells xs).length = xs.length * 4 := by
 induction xs with
 | nil => rfl
 | cons x T ih => simp [varCells] at *; omega
theorem varCells_at (T : List LVar) (k : Nat) (x : LVar) (hk : T[k]? = some x) : (varCells T)[k * 4]? = some (.string (bs x.name)) ∧ (varCells T)[k * 4 + 1]? = some (.int .i64 x.kind) ∧ (varCells T)[k * 4 + 2]? = some (.int .i64 x.type) ∧ (varCells T)[k * 4 + 3]? = some (.int .i64 x.size) := by
 induction T generalizing k with
 | nil => simp at hk
 | cons y T ih =>
  cases k with
  | zero =>
   have hy : y = x := by simpa using hk
   subst hy
   simp [varCells]
  | succ k =>
   have h := ih k (by simpa using hk)
   have e : ∀ j, (varCells (y :: T))[(k + 1) * 4 + j]? = (varCells T)[k * 4 + j]? := fun j => by
    unfold varCells
    rw [List.flatMap_cons, List.getElem?_append_right (by simp; omega)]
    congr 1
    simp; omega
   have e0 := e 0
   rw [Nat.add_zero, Nat.add_zero] at e0
   rw [e0, e 1, e 2, e 3]
   exact h
end Go.Proofs.YtepjaoapjpmjkaaGreatDoor
namespace Go.Proofs.YtepjaoapjpmjkaaGreatDoor
open Go.RowKit
set_option linter.unusedVariables false
attribute [local go_sem] bs_size bs_get bs_extract bs_append bs_eq bs_toList
theorem infoI : (Tryz.prog.info? 2).map (fun i => (i.zero, i.size, i.bytes)) = some (some (.int .i64 0), 1, 8) := by kernel_rfl
theorem infoV : (Tryz.prog.info? 108).map (fun i => (i.zero, i.size, i.bytes)) = some (some (.agg #[.string ⟨#[]⟩, .int .i64 0, .int .i64 0, .int .i64 0]), 4, 40) := by kernel_rfl
theorem infoN : (Tryz.prog.info? 66).map (fun i => (i.zero, i.size, i.bytes)) = some (some (.agg #[.int .i64 0, .int .i64 0, .string ⟨#[]⟩, .int .i64 0, .int .i64 0, .slice none 0 0, .slice none 0 0, .slice none 0 0]), 8, 120) := by kernel_rfl
theorem map_at {α : Type} (f : α → Value) (xs : List α) (k : Nat) (x : α) (h : xs[k]? = some x) : (xs.map f)[k]? = some (f x) := by rw [List.getElem?_map, h]; rfl
theorem ints_of_laid {w : World} {g n : Nat} {T : TypeId} {xs : List Int} (h : Laid w g n 1 T (xs.map (Value.int .i64)) n) (hn : xs.length = n) : IntsV g w (.slice (some ⟨g, 0, none⟩) n n) xs :=
 ⟨some ⟨g, 0, none⟩, n, by rw [hn], by omega, fun _ => ⟨g, 0, rfl, Nat.le_refl _, fun i x hx => by
  rw [Nat.zero_add]
  exact h.read (by have := (List.getElem?_eq_some_iff.1 hx).1; omega) (map_at _ _ _ _ hx)⟩⟩
set_option maxHeartbeats 1600000 in
theorem toInts_any (lo : Nat) (v : Value) (xs : List Int) (w : World) (h : IntsV lo w v xs) (hl : xs.length ≤ 1048576) :
  Calls Tryz.prog 37 #[v] w fun e w' => ∃ v', e = .returned v' ∧ IntsV w.heap.size w' v' xs ∧ Below w.heap.size w w' := by
 obtain ⟨a, c, rfl, hc, hhd⟩ := h
 obtain ⟨i0, hi, hz0, hz1, hz2⟩ := info_parts infoI
 have hmax2 : xs.length ≤ maxLen := by unfold maxLen; omega
 have HHD := hid hhd
 clear hhd hc
 go_enter Tryz.func37, Tryz.ntmps37
 go_wp2_with (at_make; refine wpList_make_full _ rfl (.tmp 6) (.tmp 6) 24 rfl w.heap.size 2 i0 (.int .i64 0) 1 Tryz.underlying24 hi hz0 hz1 .i64 .i64 xs.length xs.length xs.length rfl rfl rfl rfl ?_ hmax2 (Nat.le_refl _) ?_)
 ·rw [hz2]; omega
 ·intro w1 hown hgrow
  have hB : Below w.heap.size w w1 := (Below.refl _ _).grown hgrow (Nat.le_refl _) (fun k hk => by cases hk)
  have hP : Laid w1 w.heap.size xs.length 1 2 (xs.map (Value.int .i64)) 0 := .of_own hown
  clear hgrow hown
  go_wp2
  go_loopw [4] (fun i wr => ∃ k : Nat, k ≤ xs.length ∧ i = .int .i64 k ∧ Laid wr w.heap.size xs.length 1 2 (xs.map (Value.int .i64)) k ∧ Below w.heap.size w wr) (fun i _ => xs.length - (intOf i).toNat)
  case atStart => exact ⟨0, Nat.zero_le _, rfl, hP, hB⟩
  case round =>
   clear hP hB
   obtain ⟨k, hk, rfl, hP, hB⟩ := hrel
   have hgl : w.heap.size < wr.heap.size := hP.lt
   by_cases hlt : k < xs.length
   ·obtain ⟨x, hx⟩ : ∃ x, xs[k]? = some x := ⟨xs[k], List.getElem?_eq_getElem hlt⟩
    obtain ⟨b, o, ha, _, hcl⟩ := HHD.out (by intro e; rw [e] at hlt; simp at hlt)
    subst ha
    have hc0 := hcl k x hx
    have hbl := World.block_lt_of_cell? _ _ hc0
    have hc1 := (hB.cell (p := ⟨b, o + k, none⟩) hbl).trans hc0
    obtain ⟨⟨y0, d0⟩, f0⟩ := hP.cell (i := k) (by omega)
    have e0 := hP.store (by omega) (map_at (Value.int .i64) xs k x hx)
    have E0 : Hid (Laid (wr.setCell ⟨w.heap.size, k, none⟩ (.int .i64 x)) w.heap.size xs.length 1 2 (xs.map (Value.int .i64)) (k + 1)) := e0
    have B0 : Hid (Below w.heap.size w (wr.setCell ⟨w.heap.size, k, none⟩ (.int .i64 x))) := hB.setCell (Nat.le_refl _) _
    clear hP hB hcl hc0 e0 hx
    go_wp2_with fail
    go_roundw
    case rel => exact ⟨k + 1, by omega, by go_num, E0.out, B0.out⟩
    case measure => simp [intOf]; omega
   ·have hke : k = xs.length := by omega
    subst hke
    have HP : Hid (IntsV w.heap.size wr (.slice (some ⟨w.heap.size, 0, none⟩) xs.length xs.length) xs) := ints_of_laid hP rfl
    clear hP
    go_wp2
    go_ret
    exact ⟨_, rfl, HP.out, hB⟩
set_option maxHeartbeats 1600000 in
theorem toVar_any (x : LVar) (w : World) : Calls Tryz.prog 70 #[varV x] w fun e w' => e = .returned (varV x) ∧ Below w.heap.size w w' := by
 go_enter Tryz.func70, Tryz.ntmps70
 go_wp2
 refine bodyPost_ret (v := varV x) (by simp [results, Tryz.results70, go_sem]) rfl ⟨rfl, ?_⟩
 go_grown
theorem vars_of_laid {w : World} {g n : Nat} {T : TypeId} {xs : List LVar} (h : Laid w g n 4 T (varCells xs) (n * 4)) (hn : xs.length = n) : VarsV g w (.slice (some ⟨g, 0, none⟩) n n) xs :=
 ⟨some ⟨g, 0, none⟩, n, by rw [hn], by omega, fun _ => ⟨g, 0, rfl, Nat.le_refl _, fun i x hx => by
  have hi : i < n := by have := (List.getElem?_eq_some_iff.1 hx).1; omega
  obtain ⟨u0, u1, u2, u3⟩ := varCells_at xs i x hx
  rw [Nat.zero_add]
  exact ⟨h.read (by omega) u0, h.read (by omega) u1, h.read (by omega) u2, h.read (by omega) u3⟩⟩⟩
set_option maxHeartbeats 3200000 in
theorem toVars_any (lo : Nat) (v : Value) (xs : List LVar) (w : World) (h : VarsV lo w v xs) (hl : xs.length ≤ 1048576) :
  Calls Tryz.prog 35 #[v] w fun e w' => ∃ v', e = .returned v' ∧ VarsV w.heap.size w' v' xs ∧ Below w.heap.size w w' := by
 obtain ⟨a, c, rfl, hc, hhd⟩ := h
 obtain ⟨i0, hi, hz0, hz1, hz2⟩ := info_parts infoV
 have hmax2 : xs.length ≤ maxLen := by unfold maxLen; omega
 have HHD := hid hhd
 clear hhd hc
 go_enter Tryz.func35, Tryz.ntmps35
 go_wp2_with (at_make; refine wpList_make_full _ rfl (.tmp 6) (.tmp 6) 31 rfl w.heap.size 108 i0 (.agg #[.string ⟨#[]⟩, .int .i64 0, .int .i64 0, .int .i64 0]) 4 Tryz.underlying31 hi hz0 hz1 .i64 .i64 xs.length xs.length xs.length rfl rfl rfl rfl ?_ hmax2 (Nat.le_refl _) ?_)
 ·rw [hz2]; omega
 ·intro w1 hown hgrow
  have hB : Below w.heap.size w w1 := (Below.refl _ _).grown hgrow (Nat.le_refl _) (fun k hk => by cases hk)
  have hP : Laid w1 w.heap.size xs.length 4 108 (varCells xs) (0 * 4) := .of_own hown
  clear hgrow hown
  go_wp2
  go_loopw [4] (fun i wr => ∃ k : Nat, k ≤ xs.length ∧ i = .int .i64 k ∧ Laid wr w.heap.size xs.length 4 108 (varCells xs) (k * 4) ∧ Below w.heap.size w wr) (fun i _ => xs.length - (intOf i).toNat)
  case atStart => exact ⟨0, Nat.zero_le _, rfl, hP, hB⟩
  case round =>
   clear hP hB
   obtain ⟨k, hk, rfl, hP, hB⟩ := hrel
   have hgl : w.heap.size < wr.heap.size := hP.lt
   by_cases hlt : k < xs.length
   ·obtain ⟨x, hx⟩ : ∃ x, xs[k]? = some x := ⟨xs[k], List.getElem?_eq_getElem hlt⟩
    obtain ⟨b, o, ha, _, hcl⟩ := HHD.out (by intro e; rw [e] at hlt; simp at hlt)
    subst ha
    have hbl : b < w.heap.size := World.block_lt_of_cell? _ _ (hcl k x hx).1
    obtain ⟨c0, c1, c2, c3⟩ := (hcl k x hx).keep (lo := 0) (fun g _ hg => hB.block g hg) (Nat.zero_le _)
    obtain ⟨u0, u1, u2, u3⟩ := varCells_at xs k x hx
    have HU0 : Hid _ := u0
    have HU1 : Hid _ := u1
    have HU2 : Hid _ := u2
    have HU3 : Hid _ := u3
    have hto : Hid (∀ w, Calls Tryz.prog 70 #[varV x] w fun e w' => e = .returned (varV x) ∧ Below w.heap.size w w') := fun w => toVar_any x w
    have HP := hid hP
    clear hcl hx u0 u1 u2 u3 hP
    go_wp2_with fail
    refine (hto.out _).mono ?_
    rintro e w2 ⟨rfl, hb⟩
    have hP2 := HP.out.below hb
    have hB2 := hB.trans (hb.mono hB.size)
    have hgl2 : w.heap.size < w2.heap.size := Nat.lt_of_lt_of_le hgl hb.size
    obtain ⟨⟨y0, d0⟩, f0⟩ := hP2.cell (i := k * 4) (by omega)
    obtain ⟨⟨y1, d1⟩, f1⟩ := hP2.cell (i := k * 4 + 1) (by omega)
    obtain ⟨⟨y2, d2⟩, f2⟩ := hP2.cell (i := k * 4 + 2) (by omega)
    obtain ⟨⟨y3, d3⟩, f3⟩ := hP2.cell (i := k * 4 + 3) (by omega)
    have e3 := (((hP2.store (by omega) HU0.out).store (by omega) HU1.out).store (by omega) HU2.out).store (by omega) HU3.out
    have E3 : Hid (Laid ((((w2.setCell ⟨w.heap.size, k * 4, none⟩ (.string (bs x.name))).setCell ⟨w.heap.size, k * 4 + 1, none⟩ (.int .i64 x.kind)).setCell ⟨w.heap.size, k * 4 + 2, none⟩ (.int .i64 x.type)).setCell ⟨w.heap.size, k * 4 + 3, none⟩ (.int .i64 x.size)) w.heap.size xs.length 4 108 (varCells xs) (k * 4 + 1 + 1 + 1 + 1)) := e3
    have B3 : Hid (Below w.heap.size w ((((w2.setCell ⟨w.heap.size, k * 4, none⟩ (.string (bs x.name))).setCell ⟨w.heap.size, k * 4 + 1, none⟩ (.int .i64 x.kind)).setCell ⟨w.heap.size, k * 4 + 2, none⟩ (.int .i64 x.type)).setCell ⟨w.heap.size, k * 4 + 3, none⟩ (.int .i64 x.size))) :=
     (((hB2.setCell (Nat.le_refl _) _).setCell (Nat.le_refl _) _).setCell (Nat.le_refl _) _).setCell (Nat.le_refl _) _
    clear hP2 e3 hb hB hB2 HP c0 c1 c2 c3 hto
    go_wp2_with fail
    go_roundw
    case rel => exact ⟨k + 1, by omega, by go_num, by have h := E3.out; rwa [show k * 4 + 1 + 1 + 1 + 1 = (k + 1) * 4 from by omega] at h, B3.out⟩
    case measure => simp [intOf]; omega
   ·have hke : k = xs.length := by omega
    subst hke
    have HP : Hid (VarsV w.heap.size wr (.slice (some ⟨w.heap.size, 0, none⟩) xs.length xs.length) xs) := vars_of_laid hP rfl
    clear hP
    go_wp2
    go_ret
    exact ⟨_, rfl, HP.out, hB⟩
end Go.Proofs.YtepjaoapjpmjkaaGreatDoor
