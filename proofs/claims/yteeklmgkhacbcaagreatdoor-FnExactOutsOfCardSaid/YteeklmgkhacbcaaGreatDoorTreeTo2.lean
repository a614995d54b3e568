/-
  laws.toNode, toNodeS, toTree: copies in new memory.
-/
import Derived.Test.YteeklmgkhacbcaaGreatDoorTreeMath
import Derived.Test.YteeklmgkhacbcaaGreatDoorSOwn
import Derived.RegionTactic
import Derived.Test.YteeklmgkhacbcaaGreatDoorCheckM
namespace Go.Proofs.YteeklmgkhacbcaaGreatDoor
open Go.RowKit
set_option linter.unusedVariables false
theorem rowE_shape {w : World} {B z n : Nat} {T : TypeId} {v : Value} {xs : List Value} (h : w.ownsRow B T z v n xs) : ∃ a cap, v = .slice a n cap := by
 rcases h.2 with ⟨rfl, rfl⟩ | ⟨g, c, cur, rfl, _⟩
 ·exact ⟨_, _, rfl⟩
 ·exact ⟨_, _, rfl⟩
theorem rowE_mono {w : World} {B C z n : Nat} {T : TypeId} {v : Value} {xs : List Value} (h : w.ownsRow B T z v n xs) (hC : C ≤ B) : w.ownsRow C T z v n xs := by
 refine ⟨h.1, ?_⟩
 rcases h.2 with h2 | ⟨g, c, cur, rfl, hg, hr⟩
 ·exact .inl h2
 ·exact .inr ⟨g, c, cur, rfl, by omega, hr⟩
theorem rowE_same {w w' : World} {B z n : Nat} {T : TypeId} {v : Value} {xs : List Value} (h : w.ownsRow B T z v n xs) (hs : ∀ g, B ≤ g → g < w.heap.size → w'.heap[g]? = w.heap[g]?) : w'.ownsRow B T z v n xs := by
 refine ⟨h.1, ?_⟩
 rcases h.2 with h2 | ⟨g, c, cur, rfl, hg, hh, hr⟩
 ·exact .inl h2
 ·refine .inr ⟨g, c, cur, rfl, hg, ?_, hr⟩
  rw [hs g hg (Array.getElem?_eq_some_iff.1 hh).1]; exact hh
theorem rowE_kept {w w' : World} {B z n : Nat} {T : TypeId} {v : Value} {xs : List Value} (h : w.ownsRow B T z v n xs) (hb : Below w.heap.size w w') : w'.ownsRow B T z v n xs :=
 rowE_same h fun g _ hg => hb.block g hg
theorem rowE_nil (w : World) (B z : Nat) (T : TypeId) : w.ownsRow B T z (.slice none 0 0) 0 [] := ⟨by simp, .inl ⟨rfl, rfl⟩⟩
theorem rowE_cells {w : World} {B z n : Nat} {T : TypeId} {v : Value} {xs : List Value} (h : w.ownsRow B T z v n xs) (hn : 0 < n) (hx : xs.length = n * z) : ∃ g c, v = .slice (some ⟨g, 0, none⟩) n c ∧ B ≤ g ∧ g < w.heap.size ∧ ∀ i, i < n * z → w.cell? ⟨g, i, none⟩ = xs[i]? := by
 rcases h.2 with ⟨_, h2⟩ | ⟨g, c, cur, rfl, hg, hh, hr, _, hs, ht⟩
 ·omega
 ·refine ⟨g, c, rfl, hg, (Array.getElem?_eq_some_iff.1 hh).1, fun i hi => ?_⟩
  rw [cell_of_row _ _ _ _ _ _ hh, ← ht, List.getElem?_take_of_lt hi]; simp
theorem row_cap {w : World} {B z n c : Nat} {T : TypeId} {a : Option Addr} {xs : List Value} (h : w.ownsRow B T z (.slice a n c) n xs) : n ≤ c := by
 rcases h.2 with ⟨h, h0⟩ | ⟨g, c', cur, h, _, _, hr, _⟩
 ·omega
 ·simp at h; omega
attribute [local go_sem] bs_size bs_get bs_extract bs_append bs_eq bs_toList
theorem infoI : (Tryz.prog.info? 2).map (fun i => (i.zero, i.size, i.bytes)) = some (some (.int .i64 0), 1, 8) := by kernel_rfl
theorem infoV : (Tryz.prog.info? 86).map (fun i => (i.zero, i.size, i.bytes)) = some (some (.agg #[.string ⟨#[]⟩, .int .i64 0, .int .i64 0, .int .i64 0]), 4, 40) := by kernel_rfl
theorem infoN : (Tryz.prog.info? 88).map (fun i => (i.zero, i.size, i.bytes)) = some (some (.agg #[.int .i64 0, .int .i64 0, .string ⟨#[]⟩, .int .i64 0, .int .i64 0, .slice none 0 0, .slice none 0 0, .slice none 0 0]), 8, 120) := by kernel_rfl
theorem map_at {α : Type} (f : α → Value) (xs : List α) (k : Nat) (x : α) (h : xs[k]? = some x) : (xs.map f)[k]? = some (f x) := by rw [List.getElem?_map, h]; rfl
theorem ints_of_laid {w : World} {g n : Nat} {T : TypeId} {xs : List Int} (h : Laid w g n 1 T (xs.map (Value.int .i64)) n) (hn : xs.length = n) : IntsV g w (.slice (some ⟨g, 0, none⟩) n n) xs :=
 ⟨some ⟨g, 0, none⟩, n, by rw [hn], by omega, fun _ => ⟨g, 0, rfl, Nat.le_refl _, fun i x hx => by
  rw [Nat.zero_add]
  exact h.read (by have := (List.getElem?_eq_some_iff.1 hx).1; omega) (map_at _ _ _ _ hx)⟩⟩
set_option maxHeartbeats 1600000 in
theorem toInts_any (lo : Nat) (v : Value) (xs : List Int) (w : World) (h : IntsV lo w v xs) (hl : xs.length ≤ 1048576) :
  Calls Tryz.prog 10 #[v] w fun e w' => ∃ v', e = .returned v' ∧ IntsV w.heap.size w' v' xs ∧ Below w.heap.size w w' := by
 obtain ⟨a, c, rfl, hc, hhd⟩ := h
 obtain ⟨i0, hi, hz0, hz1, hz2⟩ := info_parts infoI
 have hmax2 : xs.length ≤ maxLen := by unfold maxLen; omega
 have HHD := hid hhd
 clear hhd hc
 go_enter Tryz.func10, Tryz.ntmps10
 go_wp2_with (at_make; refine wpList_make_full _ rfl (.tmp 6) (.tmp 6) 24 rfl w.heap.size 2 i0 (.int .i64 0) 1 Tryz.underlying24 hi hz0 hz1 .i64 .i64 xs.length xs.length xs.length rfl rfl rfl rfl ?_ hmax2 (Nat.le_refl _) ?_)
 ·rw [hz2]; omega
 ·intro w1 hown hgrow
  have hB : Below w.heap.size w w1 := (Below.refl _ _).grown hgrow (Nat.le_refl _) (fun k hk => by cases hk)
  have hP : Laid w1 w.heap.size xs.length 1 2 (xs.map (Value.int .i64)) 0 := .of_own hown
  clear hgrow hown
  go_wp2
  go_loopw [4] (fun i wr => ∃ k : Nat, k ≤ xs.length ∧ i = .int .i64 k ∧ Laid wr w.heap.size xs.length 1 2 (xs.map (Value.int .i64)) k ∧ Below w.heap.size w wr) (fun i _ => xs.length - (intOf i).toNat)
  case atStart => exact ⟨0, Nat.zero_le _, rfl, hP, hB⟩
  case round =>
   clear hP hB
   obtain ⟨k, hk, rfl, hP, hB⟩ := hrel
   have hgl : w.heap.size < wr.heap.size := hP.lt
   by_cases hlt : k < xs.length
   ·obtain ⟨x, hx⟩ : ∃ x, xs[k]? = some x := ⟨xs[k], List.getElem?_eq_getElem hlt⟩
    obtain ⟨b, o, ha, _, hcl⟩ := HHD.out (by intro e; rw [e] at hlt; simp at hlt)
    subst ha
    have hc0 := hcl k x hx
    have hbl := World.block_lt_of_cell? _ _ hc0
    have hc1 := (hB.cell (p := ⟨b, o + k, none⟩) hbl).trans hc0
    obtain ⟨⟨y0, d0⟩, f0⟩ := hP.cell (i := k) (by omega)
    have e0 := hP.store (by omega) (map_at (Value.int .i64) xs k x hx)
    have E0 : Hid (Laid (wr.setCell ⟨w.heap.size, k, none⟩ (.int .i64 x)) w.heap.size xs.length 1 2 (xs.map (Value.int .i64)) (k + 1)) := e0
    have B0 : Hid (Below w.heap.size w (wr.setCell ⟨w.heap.size, k, none⟩ (.int .i64 x))) := hB.setCell (Nat.le_refl _) _
    clear hP hB hcl hc0 e0 hx
    go_wp2_with fail
    go_roundw
    case rel => exact ⟨k + 1, by omega, by go_num, E0.out, B0.out⟩
    case measure => simp [intOf]; omega
   ·have hke : k = xs.length := by omega
    subst hke
    have HP : Hid (IntsV w.heap.size wr (.slice (some ⟨w.heap.size, 0, none⟩) xs.length xs.length) xs) := ints_of_laid hP rfl
    clear hP
    go_wp2
    go_ret
    exact ⟨_, rfl, HP.out, hB⟩
set_option maxHeartbeats 1600000 in
theorem toVar_any (x : LVar) (w : World) : Calls Tryz.prog 48 #[varV x] w fun e w' => e = .returned (varV x) ∧ Below w.heap.size w w' := by
 go_enter Tryz.func48, Tryz.ntmps48
 go_wp2
 refine bodyPost_ret (v := varV x) (by simp [results, Tryz.results48, go_sem]) rfl ⟨rfl, ?_⟩
 go_grown
theorem vars_of_laid {w : World} {g n : Nat} {T : TypeId} {xs : List LVar} (h : Laid w g n 4 T (varCells xs) (n * 4)) (hn : xs.length = n) : VarsV g w (.slice (some ⟨g, 0, none⟩) n n) xs :=
 ⟨some ⟨g, 0, none⟩, n, by rw [hn], by omega, fun _ => ⟨g, 0, rfl, Nat.le_refl _, fun i x hx => by
  have hi : i < n := by have := (List.getElem?_eq_some_iff.1 hx).1; omega
  obtain ⟨u0, u1, u2, u3⟩ := varCells_at xs i x hx
  rw [Nat.zero_add]
  exact ⟨h.read (by omega) u0, h.read (by omega) u1, h.read (by omega) u2, h.read (by omega) u3⟩⟩⟩
set_option maxHeartbeats 3200000 in
theorem toVars_any (lo : Nat) (v : Value) (xs : List LVar) (w : World) (h : VarsV lo w v xs) (hl : xs.length ≤ 1048576) :
  Calls Tryz.prog 28 #[v] w fun e w' => ∃ v', e = .returned v' ∧ VarsV w.heap.size w' v' xs ∧ Below w.heap.size w w' := by
 obtain ⟨a, c, rfl, hc, hhd⟩ := h
 obtain ⟨i0, hi, hz0, hz1, hz2⟩ := info_parts infoV
 have hmax2 : xs.length ≤ maxLen := by unfold maxLen; omega
 have HHD := hid hhd
 clear hhd hc
 go_enter Tryz.func28, Tryz.ntmps28
 go_wp2_with (at_make; refine wpList_make_full _ rfl (.tmp 6) (.tmp 6) 34 rfl w.heap.size 86 i0 (.agg #[.string ⟨#[]⟩, .int .i64 0, .int .i64 0, .int .i64 0]) 4 Tryz.underlying34 hi hz0 hz1 .i64 .i64 xs.length xs.length xs.length rfl rfl rfl rfl ?_ hmax2 (Nat.le_refl _) ?_)
 ·rw [hz2]; omega
 ·intro w1 hown hgrow
  have hB : Below w.heap.size w w1 := (Below.refl _ _).grown hgrow (Nat.le_refl _) (fun k hk => by cases hk)
  have hP : Laid w1 w.heap.size xs.length 4 86 (varCells xs) (0 * 4) := .of_own hown
  clear hgrow hown
  go_wp2
  go_loopw [4] (fun i wr => ∃ k : Nat, k ≤ xs.length ∧ i = .int .i64 k ∧ Laid wr w.heap.size xs.length 4 86 (varCells xs) (k * 4) ∧ Below w.heap.size w wr) (fun i _ => xs.length - (intOf i).toNat)
  case atStart => exact ⟨0, Nat.zero_le _, rfl, hP, hB⟩
  case round =>
   clear hP hB
   obtain ⟨k, hk, rfl, hP, hB⟩ := hrel
   have hgl : w.heap.size < wr.heap.size := hP.lt
   by_cases hlt : k < xs.length
   ·obtain ⟨x, hx⟩ : ∃ x, xs[k]? = some x := ⟨xs[k], List.getElem?_eq_getElem hlt⟩
    obtain ⟨b, o, ha, _, hcl⟩ := HHD.out (by intro e; rw [e] at hlt; simp at hlt)
    subst ha
    have hbl : b < w.heap.size := World.block_lt_of_cell? _ _ (hcl k x hx).1
    obtain ⟨c0, c1, c2, c3⟩ := (hcl k x hx).keep (lo := 0) (fun g _ hg => hB.block g hg) (Nat.zero_le _)
    obtain ⟨u0, u1, u2, u3⟩ := varCells_at xs k x hx
    have HU0 : Hid _ := u0
    have HU1 : Hid _ := u1
    have HU2 : Hid _ := u2
    have HU3 : Hid _ := u3
    have hto : Hid (∀ w, Calls Tryz.prog 48 #[varV x] w fun e w' => e = .returned (varV x) ∧ Below w.heap.size w w') := fun w => toVar_any x w
    have HP := hid hP
    clear hcl hx u0 u1 u2 u3 hP
    go_wp2_with fail
    refine (hto.out _).mono ?_
    rintro e w2 ⟨rfl, hb⟩
    have hP2 := HP.out.below hb
    have hB2 := hB.trans (hb.mono hB.size)
    have hgl2 : w.heap.size < w2.heap.size := Nat.lt_of_lt_of_le hgl hb.size
    obtain ⟨⟨y0, d0⟩, f0⟩ := hP2.cell (i := k * 4) (by omega)
    obtain ⟨⟨y1, d1⟩, f1⟩ := hP2.cell (i := k * 4 + 1) (by omega)
    obtain ⟨⟨y2, d2⟩, f2⟩ := hP2.cell (i := k * 4 + 2) (by omega)
    obtain ⟨⟨y3, d3⟩, f3⟩ := hP2.cell (i := k * 4 + 3) (by omega)
    have e3 := (((hP2.store (by omega) HU0.out).store (by omega) HU1.out).store (by omega) HU2.out).store (by omega) HU3.out
    have E3 : Hid (Laid ((((w2.setCell ⟨w.heap.size, k * 4, none⟩ (.string (bs x.name))).setCell ⟨w.heap.size, k * 4 + 1, none⟩ (.int .i64 x.kind)).setCell ⟨w.heap.size, k * 4 + 2, none⟩ (.int .i64 x.type)).setCell ⟨w.heap.size, k * 4 + 3, none⟩ (.int .i64 x.size)) w.heap.size xs.length 4 86 (varCells xs) (k * 4 + 1 + 1 + 1 + 1)) := e3
    have B3 : Hid (Below w.heap.size w ((((w2.setCell ⟨w.heap.size, k * 4, none⟩ (.string (bs x.name))).setCell ⟨w.heap.size, k * 4 + 1, none⟩ (.int .i64 x.kind)).setCell ⟨w.heap.size, k * 4 + 2, none⟩ (.int .i64 x.type)).setCell ⟨w.heap.size, k * 4 + 3, none⟩ (.int .i64 x.size))) :=
     (((hB2.setCell (Nat.le_refl _) _).setCell (Nat.le_refl _) _).setCell (Nat.le_refl _) _).setCell (Nat.le_refl _) _
    clear hP2 e3 hb hB hB2 HP c0 c1 c2 c3 hto
    go_wp2_with fail
    go_roundw
    case rel => exact ⟨k + 1, by omega, by go_num, by have h := E3.out; rwa [show k * 4 + 1 + 1 + 1 + 1 = (k + 1) * 4 from by omega] at h, B3.out⟩
    case measure => simp [intOf]; omega
   ·have hke : k = xs.length := by omega
    subst hke
    have HP : Hid (VarsV w.heap.size wr (.slice (some ⟨w.heap.size, 0, none⟩) xs.length xs.length) xs) := vars_of_laid hP rfl
    clear hP
    go_wp2
    go_ret
    exact ⟨_, rfl, HP.out, hB⟩
theorem vars_of_cells {w : World} {g lo n : Nat} {T : TypeId} {cs : Array Value} {xs : List LVar} (h : w.heap[g]? = some (.cells cs T (0, 0))) (hcs : cs = (varCells xs).toArray) (hn : xs.length = n) (hl : lo ≤ g) : VarsV lo w (.slice (some ⟨g, 0, none⟩) n n) xs :=
 ⟨some ⟨g, 0, none⟩, n, by rw [hn], by omega, fun _ => ⟨g, 0, rfl, hl, fun i x hx => by
  subst hcs
  obtain ⟨u0, u1, u2, u3⟩ := varCells_at xs i x hx
  rw [Nat.zero_add]
  refine ⟨?_, ?_, ?_, ?_⟩ <;> rw [cell_of_row _ _ _ _ _ _ h] <;> simpa⟩⟩
theorem ints_of_cells {w : World} {g lo n : Nat} {T : TypeId} {cs : Array Value} {xs : List Int} (h : w.heap[g]? = some (.cells cs T (0, 0))) (hcs : cs = (xs.map (Value.int .i64)).toArray) (hn : xs.length = n) (hl : lo ≤ g) : IntsV lo w (.slice (some ⟨g, 0, none⟩) n n) xs :=
 ⟨some ⟨g, 0, none⟩, n, by rw [hn], by omega, fun _ => ⟨g, 0, rfl, hl, fun i x hx => by
  subst hcs
  rw [Nat.zero_add, cell_of_row _ _ _ _ _ _ h]
  simp [hx]⟩⟩
theorem heap_last (w : World) (o : Obj) (g : Nat) (h : w.heap.size = g) : (w.alloc o).heap[g]? = some o := by subst h; exact heap_alloc_new w o
theorem heap_keep {w : World} {o u : Obj} {g : Nat} (h : w.heap[g]? = some u) : (w.alloc o).heap[g]? = some u := (Below.heap_alloc _ _ _ (Array.getElem?_eq_some_iff.1 h).1).trans h
def BlockR (lo : Nat) (w' : World) (e : Ending) (op : Int) : Prop := ∃ g v2, e = .returned (.agg #[.slice (some ⟨g, 0, none⟩) (ownOf 0 op []).length (ownOf 0 op []).length, v2]) ∧ lo ≤ g ∧ w'.heap[g]? = some (.cells (varCells (ownOf 0 op [])).toArray 86 (0, 0)) ∧ IntsV lo w' v2 (argsL op)
set_option maxHeartbeats 3200000 in
set_option maxRecDepth 100000 in
theorem blockOf_1 (w : World) : Calls Tryz.prog 63 #[.int .i64 1] w fun e w' => BlockR w.heap.size w' e 1 ∧ Below w.heap.size w w' := by
 go_enter Tryz.func63, Tryz.ntmps63
 go_wp2
 refine bodyPost_ret (v := .agg #[.slice (some ⟨w.heap.size + 1 + 1 + 1 + 1, 0, none⟩) 3 3, .slice (some ⟨w.heap.size + 1 + 1 + 1 + 1 + 1, 0, none⟩) 3 3]) (by simp [results, Tryz.results63, go_sem]) rfl ⟨⟨w.heap.size + 1 + 1 + 1 + 1, _, rfl, by omega, ?_, ints_of_cells (cs := ((argsL 1).map (Value.int .i64)).toArray) (T := 2) ?_ rfl rfl (by omega)⟩, by go_grown⟩
 ·exact heap_keep (heap_keep (heap_keep (heap_keep (heap_keep (heap_keep (heap_keep (heap_keep (heap_last _ _ _ (by simp)))))))))
 ·exact heap_keep (heap_keep (heap_keep (heap_keep (heap_keep (heap_keep (heap_keep (heap_last _ _ _ (by simp))))))))
set_option maxHeartbeats 3200000 in
set_option maxRecDepth 100000 in
theorem blockOf_2 (w : World) : Calls Tryz.prog 63 #[.int .i64 2] w fun e w' => BlockR w.heap.size w' e 2 ∧ Below w.heap.size w w' := by
 go_enter Tryz.func63, Tryz.ntmps63
 go_wp2
 refine bodyPost_ret (v := .agg #[.slice (some ⟨w.heap.size + 1 + 1 + 1 + 1 + 1 + 1, 0, none⟩) 2 2, .slice (some ⟨w.heap.size + 1 + 1 + 1 + 1 + 1 + 1 + 1, 0, none⟩) 2 2]) (by simp [results, Tryz.results63, go_sem]) rfl ⟨⟨w.heap.size + 1 + 1 + 1 + 1 + 1 + 1, _, rfl, by omega, ?_, ints_of_cells (cs := ((argsL 2).map (Value.int .i64)).toArray) (T := 2) ?_ rfl rfl (by omega)⟩, by go_grown⟩
 ·exact heap_keep (heap_keep (heap_keep (heap_keep (heap_keep (heap_keep (heap_last _ _ _ (by simp)))))))
 ·exact heap_keep (heap_keep (heap_keep (heap_keep (heap_keep (heap_last _ _ _ (by simp))))))
set_option maxHeartbeats 3200000 in
set_option maxRecDepth 100000 in
theorem blockOf_3 (w : World) : Calls Tryz.prog 63 #[.int .i64 3] w fun e w' => BlockR w.heap.size w' e 3 ∧ Below w.heap.size w w' := by
 go_enter Tryz.func63, Tryz.ntmps63
 go_wp2
 refine bodyPost_ret (v := .agg #[.slice (some ⟨w.heap.size + 1 + 1 + 1 + 1 + 1 + 1 + 1 + 1, 0, none⟩) 2 2, .slice (some ⟨w.heap.size + 1 + 1 + 1 + 1 + 1 + 1 + 1 + 1 + 1, 0, none⟩) 1 1]) (by simp [results, Tryz.results63, go_sem]) rfl ⟨⟨w.heap.size + 1 + 1 + 1 + 1 + 1 + 1 + 1 + 1, _, rfl, by omega, ?_, ints_of_cells (cs := ((argsL 3).map (Value.int .i64)).toArray) (T := 2) ?_ rfl rfl (by omega)⟩, by go_grown⟩
 ·exact heap_keep (heap_keep (heap_keep (heap_keep (heap_last _ _ _ (by simp)))))
 ·exact heap_keep (heap_keep (heap_keep (heap_last _ _ _ (by simp))))
set_option maxHeartbeats 3200000 in
set_option maxRecDepth 100000 in
theorem blockOf_4 (w : World) : Calls Tryz.prog 63 #[.int .i64 4] w fun e w' => BlockR w.heap.size w' e 4 ∧ Below w.heap.size w w' := by
 go_enter Tryz.func63, Tryz.ntmps63
 go_wp2
 refine bodyPost_ret (v := .agg #[.slice (some ⟨w.heap.size + 1 + 1 + 1 + 1 + 1 + 1 + 1 + 1 + 1 + 1, 0, none⟩) 1 1, .slice (some ⟨w.heap.size + 1 + 1 + 1 + 1 + 1 + 1 + 1 + 1 + 1 + 1 + 1, 0, none⟩) 2 2]) (by simp [results, Tryz.results63, go_sem]) rfl ⟨⟨w.heap.size + 1 + 1 + 1 + 1 + 1 + 1 + 1 + 1 + 1 + 1, _, rfl, by omega, ?_, ints_of_cells (cs := ((argsL 4).map (Value.int .i64)).toArray) (T := 2) ?_ rfl rfl (by omega)⟩, by go_grown⟩
 ·exact heap_keep (heap_keep (heap_last _ _ _ (by simp)))
 ·exact heap_keep (heap_last _ _ _ (by simp))
theorem blockOf_any (op : Int) (h1 : 1 ≤ op) (h4 : op ≤ 4) (w : World) : Calls Tryz.prog 63 #[.int .i64 op] w fun e w' => BlockR w.heap.size w' e op ∧ Below w.heap.size w w' := by
 have h : op = 1 ∨ op = 2 ∨ op = 3 ∨ op = 4 := by omega
 rcases h with rfl | rfl | rfl | rfl
 ·exact blockOf_1 w
 ·exact blockOf_2 w
 ·exact blockOf_3 w
 ·exact blockOf_4 w
theorem below_set {B : Nat} (w : World) (g i : Nat) (u : Value) (h : B ≤ g) : Below B w (w.setCell ⟨g, i, none⟩ u) := (Below.refl B w).setCell (p := ⟨g, i, none⟩) h u
theorem blk_set {w : World} {g b i : Nat} {cs : Array Value} {T : TypeId} (u : Value) (h : w.heap[g]? = some (.cells cs T (0, 0))) (hl : g < b) : (w.setCell ⟨b, i, none⟩ u).heap[g]? = some (.cells cs T (0, 0)) :=
 ((below_set w b i u (Nat.le_refl _)).block g hl).trans h
theorem keeps_set (w : World) (g i lo : Nat) (u : Value) (hl : g < lo) : Keeps lo w (w.setCell ⟨g, i, none⟩ u) := fun b hb _ => Below.heap_setCell _ _ _ _ (by simp; omega)
theorem NodeVals.set {lo : Nat} {w : World} {n : LNode} {vk vt ve : Value} (h : NodeVals lo w n vk vt ve) {g i : Nat} {u : Value} (hl : g < lo) : NodeVals lo (w.setCell ⟨g, i, none⟩ u) n vk vt ve := h.keep (keeps_set _ _ _ _ _ hl)
theorem Keeps.trans {lo : Nat} {a b c : World} (h : Keeps lo a b) (k : Keeps lo b c) (hs : a.heap.size ≤ b.heap.size) : Keeps lo a c := fun g hg hl => (k g hg (Nat.lt_of_lt_of_le hl hs)).trans (h g hg hl)
set_option maxHeartbeats 6400000 in
set_option maxRecDepth 100000 in
theorem toNode_any (lo : Nat) (n : LNode) (vk vt ve : Value) (w : World) (h : NodeVals lo w n vk vt ve) (h1 : n.kids.length ≤ 1048576) (h2 : n.thn.length ≤ 1048576) (h3 : n.els.length ≤ 1048576) :
  Calls Tryz.prog 49 #[nodeV n vk vt ve] w fun e w' => ∃ vk' vt' ve', e = .returned (nodeV n vk' vt' ve') ∧ NodeVals w.heap.size w' n vk' vt' ve' ∧ Below w.heap.size w w' := by
 obtain ⟨ak, ck, rfl, _⟩ := id h.kids
 obtain ⟨at_, ct, rfl, _⟩ := id h.thn
 obtain ⟨ae, ce, rfl, _⟩ := id h.els
 have HV := hid h
 have HK : Hid (∀ w', NodeVals lo w' n (.slice ak n.kids.length ck) (.slice at_ n.thn.length ct) (.slice ae n.els.length ce) → Calls Tryz.prog 10 #[.slice ak n.kids.length ck] w' fun e w'' => ∃ v', e = .returned v' ∧ IntsV w'.heap.size w'' v' n.kids ∧ Below w'.heap.size w' w'') := fun w' h => toInts_any lo _ _ w' h.kids h1
 have HT : Hid (∀ w', NodeVals lo w' n (.slice ak n.kids.length ck) (.slice at_ n.thn.length ct) (.slice ae n.els.length ce) → Calls Tryz.prog 10 #[.slice at_ n.thn.length ct] w' fun e w'' => ∃ v', e = .returned v' ∧ IntsV w'.heap.size w'' v' n.thn ∧ Below w'.heap.size w' w'') := fun w' h => toInts_any lo _ _ w' h.thn h2
 have HX : Hid (∀ w', NodeVals lo w' n (.slice ak n.kids.length ck) (.slice at_ n.thn.length ct) (.slice ae n.els.length ce) → Calls Tryz.prog 10 #[.slice ae n.els.length ce] w' fun e w'' => ∃ v', e = .returned v' ∧ IntsV w'.heap.size w'' v' n.els ∧ Below w'.heap.size w' w'') := fun w' h => toInts_any lo _ _ w' h.els h3
 clear h h1 h2 h3
 go_enter Tryz.func49, Tryz.ntmps49
 go_wp2_with fail
 obtain ⟨W, hW⟩ : ∃ W, W = (((w.alloc (.cells #[.int .i64 n.kind, .int .i64 n.op, .string (bs n.name), .int .i64 n.num, .int .i64 n.far, .slice ak n.kids.length ck, .slice at_ n.thn.length ct, .slice ae n.els.length ce] 75)).alloc (.cells #[.int .i64 0, .int .i64 0, .string ⟨#[]⟩, .int .i64 0, .int .i64 0, .slice none 0 0, .slice none 0 0, .slice none 0 0] 88)).alloc (.cells #[.int .i64 n.kind, .int .i64 n.op, .string (bs n.name), .int .i64 n.num, .int .i64 n.far, .slice none 0 0, .slice none 0 0, .slice none 0 0] 88)) := ⟨_, rfl⟩
 have hbW : Below w.heap.size w W := by rw [hW]; exact (((Below.refl _ _).alloc (Nat.le_refl _) _).alloc (by simp) _).alloc (by simp; omega) _
 have hA : W.heap[w.heap.size]? = some (.cells #[.int .i64 n.kind, .int .i64 n.op, .string (bs n.name), .int .i64 n.num, .int .i64 n.far, .slice ak n.kids.length ck, .slice at_ n.thn.length ct, .slice ae n.els.length ce] 75 (0, 0)) := by
  rw [hW, Below.heap_alloc _ _ _ (by simp; omega), Below.heap_alloc _ _ _ (by simp)]; exact heap_alloc_new w _
 have hR : W.heap[w.heap.size + 1]? = some (.cells #[.int .i64 0, .int .i64 0, .string ⟨#[]⟩, .int .i64 0, .int .i64 0, .slice none 0 0, .slice none 0 0, .slice none 0 0] 88 (0, 0)) := by
  rw [hW, Below.heap_alloc _ _ _ (by simp)]
  have h := heap_alloc_new (w.alloc (.cells #[.int .i64 n.kind, .int .i64 n.op, .string (bs n.name), .int .i64 n.num, .int .i64 n.far, .slice ak n.kids.length ck, .slice at_ n.thn.length ct, .slice ae n.els.length ce] 75)) (.cells #[.int .i64 0, .int .i64 0, .string ⟨#[]⟩, .int .i64 0, .int .i64 0, .slice none 0 0, .slice none 0 0, .slice none 0 0] 88)
  rwa [show (w.alloc (.cells #[.int .i64 n.kind, .int .i64 n.op, .string (bs n.name), .int .i64 n.num, .int .i64 n.far, .slice ak n.kids.length ck, .slice at_ n.thn.length ct, .slice ae n.els.length ce] 75)).heap.size = w.heap.size + 1 from by simp] at h
 have hO : W.heap[w.heap.size + 1 + 1]? = some (.cells #[.int .i64 n.kind, .int .i64 n.op, .string (bs n.name), .int .i64 n.num, .int .i64 n.far, .slice none 0 0, .slice none 0 0, .slice none 0 0] 88 (0, 0)) := by
  rw [hW]
  have h := heap_alloc_new ((w.alloc (.cells #[.int .i64 n.kind, .int .i64 n.op, .string (bs n.name), .int .i64 n.num, .int .i64 n.far, .slice ak n.kids.length ck, .slice at_ n.thn.length ct, .slice ae n.els.length ce] 75)).alloc (.cells #[.int .i64 0, .int .i64 0, .string ⟨#[]⟩, .int .i64 0, .int .i64 0, .slice none 0 0, .slice none 0 0, .slice none 0 0] 88)) (.cells #[.int .i64 n.kind, .int .i64 n.op, .string (bs n.name), .int .i64 n.num, .int .i64 n.far, .slice none 0 0, .slice none 0 0, .slice none 0 0] 88)
  rwa [show ((w.alloc (.cells #[.int .i64 n.kind, .int .i64 n.op, .string (bs n.name), .int .i64 n.num, .int .i64 n.far, .slice ak n.kids.length ck, .slice at_ n.thn.length ct, .slice ae n.els.length ce] 75)).alloc (.cells #[.int .i64 0, .int .i64 0, .string ⟨#[]⟩, .int .i64 0, .int .i64 0, .slice none 0 0, .slice none 0 0, .slice none 0 0] 88)).heap.size = w.heap.size + 1 + 1 from by simp] at h
 rw [← hW]
 clear hW
 refine (HK.out _ (HV.out.below hbW)).mono ?_
 rintro e wk ⟨_, rfl, hk, hb⟩
 obtain ⟨ak', ck', rfl, _⟩ := id hk
 have hbC := hbW.trans (hb.mono hbW.size)
 have hAc := blk hA hb
 have hRc := blk hR hb
 have hOc := blk hO hb
 have hk1 : IntsV (w.heap.size + 3) wk (.slice ak' n.kids.length ck') n.kids := hk.mono (blk_lt hO)
 have HA : Hid ((wk.setCell ⟨w.heap.size + 1 + 1, 5, none⟩ (.slice ak' n.kids.length ck')).heap[w.heap.size]? = some (.cells #[.int .i64 n.kind, .int .i64 n.op, .string (bs n.name), .int .i64 n.num, .int .i64 n.far, .slice ak n.kids.length ck, .slice at_ n.thn.length ct, .slice ae n.els.length ce] 75 (0, 0))) := blk_set _ hAc (by omega)
 have HR : Hid ((wk.setCell ⟨w.heap.size + 1 + 1, 5, none⟩ (.slice ak' n.kids.length ck')).heap[w.heap.size + 1]? = some (.cells #[.int .i64 0, .int .i64 0, .string ⟨#[]⟩, .int .i64 0, .int .i64 0, .slice none 0 0, .slice none 0 0, .slice none 0 0] 88 (0, 0))) := blk_set _ hRc (by omega)
 have HO : Hid ((wk.setCell ⟨w.heap.size + 1 + 1, 5, none⟩ (.slice ak' n.kids.length ck')).heap[w.heap.size + 1 + 1]? = some (.cells #[.int .i64 n.kind, .int .i64 n.op, .string (bs n.name), .int .i64 n.num, .int .i64 n.far, .slice ak' n.kids.length ck', .slice none 0 0, .slice none 0 0] 88 (0, 0))) := by have h := heap_setCell_same wk (w.heap.size + 1 + 1) 5 _ _ (.slice ak' n.kids.length ck') hOc; exact h
 have HB : Hid (Below w.heap.size w (wk.setCell ⟨w.heap.size + 1 + 1, 5, none⟩ (.slice ak' n.kids.length ck'))) := hbC.trans (below_set _ _ _ _ (by omega))
 have o5 := cell_of_row _ _ 5 _ _ _ hOc
 have g5 := frozen_of_row _ _ 5 _ _ hOc
 simp at o5
 have b6 := cell_of_row _ _ 6 _ _ _ HA.out
 simp at b6
 have y5 := 0
 have Hk : Hid (IntsV (w.heap.size + 3) (wk.setCell ⟨w.heap.size + 1 + 1, 5, none⟩ (.slice ak' n.kids.length ck')) (.slice ak' n.kids.length ck') n.kids) := hk1.keep (keeps_set _ _ _ _ _ (by omega))
 clear hA hR hO hbW hb hbC hAc hRc hOc hk hk1
 go_wp2_with fail
 have hA := HA.out
 have hR := HR.out
 have hO := HO.out
 have hbW := HB.out
 have hkS := Hk.out
 clear HA HR HO HB Hk b6 o5 g5 y5
 generalize wk.setCell ⟨w.heap.size + 1 + 1, 5, none⟩ (.slice ak' n.kids.length ck') = W at *
 refine (HT.out _ (HV.out.below hbW)).mono ?_
 rintro e wt ⟨_, rfl, ht, hb⟩
 obtain ⟨at', ct', rfl, _⟩ := id ht
 have hbC := hbW.trans (hb.mono hbW.size)
 have hAc := blk hA hb
 have hRc := blk hR hb
 have hOc := blk hO hb
 have ht1 : IntsV (w.heap.size + 3) wt (.slice at' n.thn.length ct') n.thn := ht.mono (blk_lt hO)
 have hkC := hkS.below hb
 have HA : Hid ((wt.setCell ⟨w.heap.size + 1 + 1, 6, none⟩ (.slice at' n.thn.length ct')).heap[w.heap.size]? = some (.cells #[.int .i64 n.kind, .int .i64 n.op, .string (bs n.name), .int .i64 n.num, .int .i64 n.far, .slice ak n.kids.length ck, .slice at_ n.thn.length ct, .slice ae n.els.length ce] 75 (0, 0))) := blk_set _ hAc (by omega)
 have HR : Hid ((wt.setCell ⟨w.heap.size + 1 + 1, 6, none⟩ (.slice at' n.thn.length ct')).heap[w.heap.size + 1]? = some (.cells #[.int .i64 0, .int .i64 0, .string ⟨#[]⟩, .int .i64 0, .int .i64 0, .slice none 0 0, .slice none 0 0, .slice none 0 0] 88 (0, 0))) := blk_set _ hRc (by omega)
 have HO : Hid ((wt.setCell ⟨w.heap.size + 1 + 1, 6, none⟩ (.slice at' n.thn.length ct')).heap[w.heap.size + 1 + 1]? = some (.cells #[.int .i64 n.kind, .int .i64 n.op, .string (bs n.name), .int .i64 n.num, .int .i64 n.far, .slice ak' n.kids.length ck', .slice at' n.thn.length ct', .slice none 0 0] 88 (0, 0))) := by have h := heap_setCell_same wt (w.heap.size + 1 + 1) 6 _ _ (.slice at' n.thn.length ct') hOc; exact h
 have HB : Hid (Below w.heap.size w (wt.setCell ⟨w.heap.size + 1 + 1, 6, none⟩ (.slice at' n.thn.length ct'))) := hbC.trans (below_set _ _ _ _ (by omega))
 have o6 := cell_of_row _ _ 6 _ _ _ hOc
 have g6 := frozen_of_row _ _ 6 _ _ hOc
 simp at o6
 have b7 := cell_of_row _ _ 7 _ _ _ HA.out
 simp at b7
 have y6 := 0
 have Hk : Hid (IntsV (w.heap.size + 3) (wt.setCell ⟨w.heap.size + 1 + 1, 6, none⟩ (.slice at' n.thn.length ct')) (.slice ak' n.kids.length ck') n.kids) := hkC.keep (keeps_set _ _ _ _ _ (by omega))
 have Ht : Hid (IntsV (w.heap.size + 3) (wt.setCell ⟨w.heap.size + 1 + 1, 6, none⟩ (.slice at' n.thn.length ct')) (.slice at' n.thn.length ct') n.thn) := ht1.keep (keeps_set _ _ _ _ _ (by omega))
 clear hA hR hO hbW hb hbC hAc hRc hOc ht ht1 hkS hkC
 go_wp2_with fail
 have hA := HA.out
 have hR := HR.out
 have hO := HO.out
 have hbW := HB.out
 have hkS := Hk.out
 have htS := Ht.out
 clear HA HR HO HB Hk Ht b7 o6 g6 y6
 generalize wt.setCell ⟨w.heap.size + 1 + 1, 6, none⟩ (.slice at' n.thn.length ct') = W at *
 refine (HX.out _ (HV.out.below hbW)).mono ?_
 rintro e wx ⟨_, rfl, hx, hb⟩
 obtain ⟨ax', cx', rfl, _⟩ := id hx
 have hbC := hbW.trans (hb.mono hbW.size)
 have hAc := blk hA hb
 have hRc := blk hR hb
 have hOc := blk hO hb
 have hx1 : IntsV (w.heap.size + 3) wx (.slice ax' n.els.length cx') n.els := hx.mono (blk_lt hO)
 have hkC := hkS.below hb
 have htC := htS.below hb
 have HA : Hid ((wx.setCell ⟨w.heap.size + 1 + 1, 7, none⟩ (.slice ax' n.els.length cx')).heap[w.heap.size]? = some (.cells #[.int .i64 n.kind, .int .i64 n.op, .string (bs n.name), .int .i64 n.num, .int .i64 n.far, .slice ak n.kids.length ck, .slice at_ n.thn.length ct, .slice ae n.els.length ce] 75 (0, 0))) := blk_set _ hAc (by omega)
 have HR : Hid ((wx.setCell ⟨w.heap.size + 1 + 1, 7, none⟩ (.slice ax' n.els.length cx')).heap[w.heap.size + 1]? = some (.cells #[.int .i64 0, .int .i64 0, .string ⟨#[]⟩, .int .i64 0, .int .i64 0, .slice none 0 0, .slice none 0 0, .slice none 0 0] 88 (0, 0))) := blk_set _ hRc (by omega)
 have HO : Hid ((wx.setCell ⟨w.heap.size + 1 + 1, 7, none⟩ (.slice ax' n.els.length cx')).heap[w.heap.size + 1 + 1]? = some (.cells #[.int .i64 n.kind, .int .i64 n.op, .string (bs n.name), .int .i64 n.num, .int .i64 n.far, .slice ak' n.kids.length ck', .slice at' n.thn.length ct', .slice ax' n.els.length cx'] 88 (0, 0))) := by have h := heap_setCell_same wx (w.heap.size + 1 + 1) 7 _ _ (.slice ax' n.els.length cx') hOc; exact h
 have HB : Hid (Below w.heap.size w (wx.setCell ⟨w.heap.size + 1 + 1, 7, none⟩ (.slice ax' n.els.length cx'))) := hbC.trans (below_set _ _ _ _ (by omega))
 have o7 := cell_of_row _ _ 7 _ _ _ hOc
 have g7 := frozen_of_row _ _ 7 _ _ hOc
 simp at o7
 have b8 := 0
 have y7 := 0
 have Hk : Hid (IntsV (w.heap.size + 3) (wx.setCell ⟨w.heap.size + 1 + 1, 7, none⟩ (.slice ax' n.els.length cx')) (.slice ak' n.kids.length ck') n.kids) := hkC.keep (keeps_set _ _ _ _ _ (by omega))
 have Ht : Hid (IntsV (w.heap.size + 3) (wx.setCell ⟨w.heap.size + 1 + 1, 7, none⟩ (.slice ax' n.els.length cx')) (.slice at' n.thn.length ct') n.thn) := htC.keep (keeps_set _ _ _ _ _ (by omega))
 have Hx : Hid (IntsV (w.heap.size + 3) (wx.setCell ⟨w.heap.size + 1 + 1, 7, none⟩ (.slice ax' n.els.length cx')) (.slice ax' n.els.length cx') n.els) := hx1.keep (keeps_set _ _ _ _ _ (by omega))
 clear hA hR hO hbW hb hbC hAc hRc hOc hx hx1 hkS hkC htS htC
 obtain ⟨O0, O1, O2, O3, O4, O5, O6, O7⟩ := cl8 HO.out
 obtain ⟨R0, R1, R2, R3, R4, R5, R6, R7⟩ := cl8 HR.out
 obtain ⟨G0, G1, G2, G3, G4, G5, G6, G7⟩ := fl8 HR.out
 go_wp2
 refine bodyPost_ret (v := nodeV n (.slice ak' n.kids.length ck') (.slice at' n.thn.length ct') (.slice ax' n.els.length cx')) (by simp [results, Tryz.results49, go_sem, R0, R1, R2, R3, R4, R5, R6, R7]) rfl ⟨_, _, _, rfl, ?_, ?_⟩
 ·refine NodeVals.mono ?_ (by omega : w.heap.size ≤ w.heap.size + 3)
  refine NodeVals.set ?_ (by omega)
  refine NodeVals.set ?_ (by omega)
  refine NodeVals.set ?_ (by omega)
  refine NodeVals.set ?_ (by omega)
  refine NodeVals.set ?_ (by omega)
  refine NodeVals.set ?_ (by omega)
  refine NodeVals.set ?_ (by omega)
  refine NodeVals.set ?_ (by omega)
  exact ⟨Hk.out, Ht.out, Hx.out⟩
 ·refine Below.trans ?_ (below_set _ _ _ _ (by omega))
  refine Below.trans ?_ (below_set _ _ _ _ (by omega))
  refine Below.trans ?_ (below_set _ _ _ _ (by omega))
  refine Below.trans ?_ (below_set _ _ _ _ (by omega))
  refine Below.trans ?_ (below_set _ _ _ _ (by omega))
  refine Below.trans ?_ (below_set _ _ _ _ (by omega))
  refine Below.trans ?_ (below_set _ _ _ _ (by omega))
  refine Below.trans ?_ (below_set _ _ _ _ (by omega))
  exact HB.out
end Go.Proofs.YteeklmgkhacbcaaGreatDoor
