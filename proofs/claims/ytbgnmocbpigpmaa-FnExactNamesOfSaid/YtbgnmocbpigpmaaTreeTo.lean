/-
  laws.toInt64S, toVar, toVarS: copies in new memory.
-/
import Derived.Test.YtbgnmocbpigpmaaVarC
import Derived.RegionTactic
namespace Go.Proofs.Ytbgnmocbpigpmaa
open Go.RowKit
set_option linter.unusedVariables false
attribute [local go_sem] bs_size bs_get bs_extract bs_append bs_eq bs_toList

theorem infoI : (Try.prog.info? 2).map (fun i => (i.zero, i.size, i.bytes)) = some (some (.int .i64 0), 1, 8) := by kernel_rfl
theorem infoV : (Try.prog.info? 85).map (fun i => (i.zero, i.size, i.bytes)) = some (some (.agg #[.string ⟨#[]⟩, .int .i64 0, .int .i64 0, .int .i64 0]), 4, 40) := by kernel_rfl
theorem infoN : (Try.prog.info? 99).map (fun i => (i.zero, i.size, i.bytes)) = some (some (.agg #[.int .i64 0, .int .i64 0, .string ⟨#[]⟩, .int .i64 0, .int .i64 0, .slice none 0 0, .slice none 0 0, .slice none 0 0]), 8, 120) := by kernel_rfl

theorem map_at {α : Type} (f : α → Value) (xs : List α) (k : Nat) (x : α) (h : xs[k]? = some x) : (xs.map f)[k]? = some (f x) := by rw [List.getElem?_map, h]; rfl
theorem ints_of_laid {w : World} {g n : Nat} {T : TypeId} {xs : List Int} (h : Laid w g n 1 T (xs.map (Value.int .i64)) n) (hn : xs.length = n) : IntsV g w (.slice (some ⟨g, 0, none⟩) n n) xs :=
  ⟨some ⟨g, 0, none⟩, n, by rw [hn], by omega, fun _ => ⟨g, 0, rfl, Nat.le_refl _, fun i x hx => by
    rw [Nat.zero_add]
    exact h.read (by have := (List.getElem?_eq_some_iff.1 hx).1; omega) (map_at _ _ _ _ hx)⟩⟩

set_option maxHeartbeats 1600000 in
theorem toInts_any (lo : Nat) (v : Value) (xs : List Int) (w : World) (h : IntsV lo w v xs) (hl : xs.length ≤ 1048576) :
    Calls Try.prog 50 #[v] w fun e w' => ∃ v', e = .returned v' ∧ IntsV w.heap.size w' v' xs ∧ Below w.heap.size w w' := by
  obtain ⟨a, c, rfl, hc, hhd⟩ := h
  obtain ⟨i0, hi, hz0, hz1, hz2⟩ := info_parts infoI
  have hmax2 : xs.length ≤ maxLen := by unfold maxLen; omega
  have HHD := hid hhd
  clear hhd hc
  go_enter Try.func50, Try.ntmps50
  go_wp2_with (at_make; refine wpList_make_full _ rfl (.tmp 6) (.tmp 6) 24 rfl w.heap.size 2 i0 (.int .i64 0) 1 Try.underlying24 hi hz0 hz1 .i64 .i64 xs.length xs.length xs.length rfl rfl rfl rfl ?_ hmax2 (Nat.le_refl _) ?_)
  · rw [hz2]; omega
  · intro w1 hown hgrow
    have hB : Below w.heap.size w w1 := (Below.refl _ _).grown hgrow (Nat.le_refl _) (fun k hk => by cases hk)
    have hP : Laid w1 w.heap.size xs.length 1 2 (xs.map (Value.int .i64)) 0 := .of_own hown
    clear hgrow hown
    go_wp2
    go_loopw [4] (fun i wr => ∃ k : Nat, k ≤ xs.length ∧ i = .int .i64 k ∧ Laid wr w.heap.size xs.length 1 2 (xs.map (Value.int .i64)) k ∧ Below w.heap.size w wr) (fun i _ => xs.length - (intOf i).toNat)
    case atStart => exact ⟨0, Nat.zero_le _, rfl, hP, hB⟩
    case round =>
      clear hP hB
      obtain ⟨k, hk, rfl, hP, hB⟩ := hrel
      have hgl : w.heap.size < wr.heap.size := hP.lt
      by_cases hlt : k < xs.length
      · obtain ⟨x, hx⟩ : ∃ x, xs[k]? = some x := ⟨xs[k], List.getElem?_eq_getElem hlt⟩
        obtain ⟨b, o, ha, _, hcl⟩ := HHD.out (by intro e; rw [e] at hlt; simp at hlt)
        subst ha
        have hc0 := hcl k x hx
        have hbl := World.block_lt_of_cell? _ _ hc0
        have hc1 := (hB.cell (p := ⟨b, o + k, none⟩) hbl).trans hc0
        obtain ⟨⟨y0, d0⟩, f0⟩ := hP.cell (i := k) (by omega)
        have e0 := hP.store (by omega) (map_at (Value.int .i64) xs k x hx)
        have E0 : Hid (Laid (wr.setCell ⟨w.heap.size, k, none⟩ (.int .i64 x)) w.heap.size xs.length 1 2 (xs.map (Value.int .i64)) (k + 1)) := e0
        have B0 : Hid (Below w.heap.size w (wr.setCell ⟨w.heap.size, k, none⟩ (.int .i64 x))) := hB.setCell (Nat.le_refl _) _
        clear hP hB hcl hc0 e0 hx
        go_wp2_with fail
        go_roundw
        case rel => exact ⟨k + 1, by omega, by go_num, E0.out, B0.out⟩
        case measure => simp [intOf]; omega
      · have hke : k = xs.length := by omega
        subst hke
        have HP : Hid (IntsV w.heap.size wr (.slice (some ⟨w.heap.size, 0, none⟩) xs.length xs.length) xs) := ints_of_laid hP rfl
        clear hP
        go_wp2
        go_ret
        exact ⟨_, rfl, HP.out, hB⟩

set_option maxHeartbeats 1600000 in
theorem toVar_any (x : LVar) (w : World) : Calls Try.prog 108 #[varV x] w fun e w' => e = .returned (varV x) ∧ Below w.heap.size w w' := by
  go_enter Try.func108, Try.ntmps108
  go_wp2
  refine bodyPost_ret (v := varV x) (by simp [results, Try.results108, go_sem]) rfl ⟨rfl, ?_⟩
  go_grown

theorem vars_of_laid {w : World} {g n : Nat} {T : TypeId} {xs : List LVar} (h : Laid w g n 4 T (varCells xs) (n * 4)) (hn : xs.length = n) : VarsV g w (.slice (some ⟨g, 0, none⟩) n n) xs :=
  ⟨some ⟨g, 0, none⟩, n, by rw [hn], by omega, fun _ => ⟨g, 0, rfl, Nat.le_refl _, fun i x hx => by
    have hi : i < n := by have := (List.getElem?_eq_some_iff.1 hx).1; omega
    obtain ⟨u0, u1, u2, u3⟩ := varCells_at xs i x hx
    rw [Nat.zero_add]
    exact ⟨h.read (by omega) u0, h.read (by omega) u1, h.read (by omega) u2, h.read (by omega) u3⟩⟩⟩

set_option maxHeartbeats 3200000 in
theorem toVars_any (lo : Nat) (v : Value) (xs : List LVar) (w : World) (h : VarsV lo w v xs) (hl : xs.length ≤ 1048576) :
    Calls Try.prog 48 #[v] w fun e w' => ∃ v', e = .returned v' ∧ VarsV w.heap.size w' v' xs ∧ Below w.heap.size w w' := by
  obtain ⟨a, c, rfl, hc, hhd⟩ := h
  obtain ⟨i0, hi, hz0, hz1, hz2⟩ := info_parts infoV
  have hmax2 : xs.length ≤ maxLen := by unfold maxLen; omega
  have HHD := hid hhd
  clear hhd hc
  go_enter Try.func48, Try.ntmps48
  go_wp2_with (at_make; refine wpList_make_full _ rfl (.tmp 6) (.tmp 6) 31 rfl w.heap.size 85 i0 (.agg #[.string ⟨#[]⟩, .int .i64 0, .int .i64 0, .int .i64 0]) 4 Try.underlying31 hi hz0 hz1 .i64 .i64 xs.length xs.length xs.length rfl rfl rfl rfl ?_ hmax2 (Nat.le_refl _) ?_)
  · rw [hz2]; omega
  · intro w1 hown hgrow
    have hB : Below w.heap.size w w1 := (Below.refl _ _).grown hgrow (Nat.le_refl _) (fun k hk => by cases hk)
    have hP : Laid w1 w.heap.size xs.length 4 85 (varCells xs) (0 * 4) := .of_own hown
    clear hgrow hown
    go_wp2
    go_loopw [4] (fun i wr => ∃ k : Nat, k ≤ xs.length ∧ i = .int .i64 k ∧ Laid wr w.heap.size xs.length 4 85 (varCells xs) (k * 4) ∧ Below w.heap.size w wr) (fun i _ => xs.length - (intOf i).toNat)
    case atStart => exact ⟨0, Nat.zero_le _, rfl, hP, hB⟩
    case round =>
      clear hP hB
      obtain ⟨k, hk, rfl, hP, hB⟩ := hrel
      have hgl : w.heap.size < wr.heap.size := hP.lt
      by_cases hlt : k < xs.length
      · obtain ⟨x, hx⟩ : ∃ x, xs[k]? = some x := ⟨xs[k], List.getElem?_eq_getElem hlt⟩
        obtain ⟨b, o, ha, _, hcl⟩ := HHD.out (by intro e; rw [e] at hlt; simp at hlt)
        subst ha
        have hbl : b < w.heap.size := World.block_lt_of_cell? _ _ (hcl k x hx).1
        obtain ⟨c0, c1, c2, c3⟩ := (hcl k x hx).keep (lo := 0) (fun g _ hg => hB.block g hg) (Nat.zero_le _)
        obtain ⟨u0, u1, u2, u3⟩ := varCells_at xs k x hx
        have HU0 : Hid _ := u0
        have HU1 : Hid _ := u1
        have HU2 : Hid _ := u2
        have HU3 : Hid _ := u3
        have hto : Hid (∀ w, Calls Try.prog 108 #[varV x] w fun e w' => e = .returned (varV x) ∧ Below w.heap.size w w') := fun w => toVar_any x w
        have HP := hid hP
        clear hcl hx u0 u1 u2 u3 hP
        go_wp2_with fail
        refine (hto.out _).mono ?_
        rintro e w2 ⟨rfl, hb⟩
        have hP2 := HP.out.below hb
        have hB2 := hB.trans (hb.mono hB.size)
        have hgl2 : w.heap.size < w2.heap.size := Nat.lt_of_lt_of_le hgl hb.size
        obtain ⟨⟨y0, d0⟩, f0⟩ := hP2.cell (i := k * 4) (by omega)
        obtain ⟨⟨y1, d1⟩, f1⟩ := hP2.cell (i := k * 4 + 1) (by omega)
        obtain ⟨⟨y2, d2⟩, f2⟩ := hP2.cell (i := k * 4 + 2) (by omega)
        obtain ⟨⟨y3, d3⟩, f3⟩ := hP2.cell (i := k * 4 + 3) (by omega)
        have e3 := (((hP2.store (by omega) HU0.out).store (by omega) HU1.out).store (by omega) HU2.out).store (by omega) HU3.out
        have E3 : Hid (Laid ((((w2.setCell ⟨w.heap.size, k * 4, none⟩ (.string (bs x.name))).setCell ⟨w.heap.size, k * 4 + 1, none⟩ (.int .i64 x.kind)).setCell ⟨w.heap.size, k * 4 + 2, none⟩ (.int .i64 x.type)).setCell ⟨w.heap.size, k * 4 + 3, none⟩ (.int .i64 x.size)) w.heap.size xs.length 4 85 (varCells xs) (k * 4 + 1 + 1 + 1 + 1)) := e3
        have B3 : Hid (Below w.heap.size w ((((w2.setCell ⟨w.heap.size, k * 4, none⟩ (.string (bs x.name))).setCell ⟨w.heap.size, k * 4 + 1, none⟩ (.int .i64 x.kind)).setCell ⟨w.heap.size, k * 4 + 2, none⟩ (.int .i64 x.type)).setCell ⟨w.heap.size, k * 4 + 3, none⟩ (.int .i64 x.size))) :=
          (((hB2.setCell (Nat.le_refl _) _).setCell (Nat.le_refl _) _).setCell (Nat.le_refl _) _).setCell (Nat.le_refl _) _
        clear hP2 e3 hb hB hB2 HP c0 c1 c2 c3 hto
        go_wp2_with fail
        go_roundw
        case rel => exact ⟨k + 1, by omega, by go_num, by have h := E3.out; rwa [show k * 4 + 1 + 1 + 1 + 1 = (k + 1) * 4 from by omega] at h, B3.out⟩
        case measure => simp [intOf]; omega
      · have hke : k = xs.length := by omega
        subst hke
        have HP : Hid (VarsV w.heap.size wr (.slice (some ⟨w.heap.size, 0, none⟩) xs.length xs.length) xs) := vars_of_laid hP rfl
        clear hP
        go_wp2
        go_ret
        exact ⟨_, rfl, HP.out, hB⟩
end Go.Proofs.Ytbgnmocbpigpmaa
