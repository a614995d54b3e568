/-
  laws.toInt64S hands back a copy in new memory; laws.eqInt64S finds equal numbers equal.
-/
import Derived.Test.YtpobajblngblfaaOwnI
namespace Go.Proofs.Ytpobajblngblfaa
open Go.RowKit

theorem copied {zs : List Int} {k : Nat} (h : k < zs.length) :
    ((zs.take k ++ List.replicate (zs.length - k) 0).map (Value.int .i64)).set k (.int .i64 (zs.getD k 0)) = (zs.take (k + 1) ++ List.replicate (zs.length - (k + 1)) 0).map (Value.int .i64) := by
  apply List.ext_getElem
  · simp; omega
  · intro i h1 h2
    simp only [List.length_set, List.length_map, List.length_append, List.length_take, List.length_replicate] at h1
    rw [List.getElem_set]
    simp only [List.getElem_map, List.getElem_append, List.length_take, List.getElem_take, List.getElem_replicate]
    by_cases hik : k = i
    · subst hik
      rw [if_pos rfl, dif_pos (by omega)]
      simp [List.getD_eq_getElem?_getD, List.getElem?_eq_getElem h]
    · rw [if_neg hik]
      by_cases hlt : i < k
      · rw [dif_pos (by omega), dif_pos (by omega)]
      · rw [dif_neg (by omega), dif_neg (by omega)]

set_option maxHeartbeats 800000 in
theorem copy_any (a : Option Addr) (zs : List Int) (cap : Nat) (w : World) (hlen : zs.length ≤ 1048576) (hn : Nums w a zs) :
    Calls Try.prog 18 #[.slice a zs.length cap] w fun e w' =>
      e = .returned (.slice (some ⟨w.heap.size, 0, none⟩) zs.length zs.length) ∧ Own w' w.heap.size (.slice (some ⟨w.heap.size, 0, none⟩) zs.length zs.length) zs ∧ Below w.heap.size w w' := by
  obtain ⟨i0, hi, hz0, hz1, hz2⟩ := info_parts infoInt
  have hmax : zs.length ≤ maxLen := by unfold maxLen; omega
  go_enter Try.func18, Try.ntmps18
  go_wp2_with (at_make; refine wpList_make_full _ rfl (.tmp 6) (.tmp 6) 23 rfl w.heap.size 2 i0 (.int .i64 0) 1 Try.underlying23 hi hz0 hz1 .i64 .i64 zs.length zs.length zs.length rfl rfl rfl rfl ?_ hmax (Nat.le_refl _) ?_)
  · rw [hz2]; omega
  · intro w1 hown hgrow
    have hB : Below w.heap.size w w1 := (Below.refl _ _).grown hgrow (Nat.le_refl _) (fun k hk => by cases hk)
    clear hgrow
    go_wp2
    go_loopw [4] (fun i wr => ∃ k : Nat, k ≤ zs.length ∧ i = .int .i64 k ∧ wr.ownsRow w.heap.size 2 1 (.slice (some ⟨w.heap.size, 0, none⟩) zs.length zs.length) zs.length ((zs.take k ++ List.replicate (zs.length - k) 0).map (Value.int .i64)) ∧ w.heap.size < wr.heap.size ∧ Below w.heap.size w wr) (fun i _ => zs.length - (intOf i).toNat)
    case atStart =>
      refine ⟨0, Nat.zero_le _, rfl, ?_, ?_, hB⟩
      · rw [toList_madeCells_one] at hown
        simpa using hown
      · rcases hown.2 with ⟨h, _⟩ | ⟨g, c, cur, h, _, hg, _⟩
        · simp at h
        · simp at h
          obtain ⟨rfl, _⟩ := h
          rcases Nat.lt_or_ge w.heap.size w1.heap.size with h | h
          · exact h
          · rw [Array.getElem?_eq_none h] at hg; cases hg
    case round =>
      obtain ⟨k, hk, rfl, hown2, hsz, hB2⟩ := hrel
      by_cases hlt : k < zs.length
      · rcases hn with hn | ⟨b, off, rfl, hc⟩
        · subst hn; simp at hlt
        have hcell := hc k hlt
        have hbl := World.block_lt_of_cell? _ _ hcell
        rw [← hB2.cell (p := ⟨b, off + k, none⟩) hbl] at hcell
        have hdst := hown2.cellAt k (by omega)
        have hfr := hown2.frozenAt k
        obtain ⟨z, hz⟩ : ∃ z, z = zs.getD k 0 := ⟨_, rfl⟩
        rw [← hz] at hcell
        have HZ : Hid _ := hz
        obtain ⟨y, hy⟩ : ∃ y, wr.cell? ⟨w.heap.size, k, none⟩ = some y := by
          rw [hdst]; exact ⟨_, List.getElem?_eq_getElem (by simp; omega)⟩
        have HOWN : Hid _ := hown2
        have HC : Hid _ := hc
        clear hz hdst hown2 hown hc hB
        go_wp2
        go_roundw
        case rel =>
          refine ⟨k + 1, by omega, by go_num, ?_, ?_, ?_⟩
          · have h2 := World.ownsRow.stored HOWN.out k (.int .i64 z)
            rw [HZ.out, copied hlt] at h2
            rw [HZ.out]
            exact h2.1
          · simp only [World.size_setCell]; exact hsz
          · exact hB2.setCell (Nat.le_refl _) _
        case measure => simp [intOf]; omega
      · have hk2 : k = zs.length := by omega
        subst hk2
        have hown3 : Hid (wr.ownsRow w.heap.size 2 1 (.slice (some ⟨w.heap.size, 0, none⟩) zs.length zs.length) zs.length (zs.map (Value.int .i64))) := by unfold Hid; simpa using hown2
        clear hown2 hown hB hn
        go_wp2
        go_ret
        exact ⟨rfl, hown3.out, hB2⟩

set_option maxHeartbeats 800000 in
theorem eqNums_any (a b : Option Addr) (zs : List Int) (ca cb : Nat) (w : World) (hlen : zs.length ≤ 9223372036854775807) (ha : Nums w a zs) (hb : Nums w b zs) :
    Calls Try.prog 21 #[.slice a zs.length ca, .slice b zs.length cb] w fun e w' => e = .returned (.bool true) ∧ Below w.heap.size w w' := by
  have hne : (((zs.length : Int) != (zs.length : Int)) = false) := by simp
  go_enter Try.func21, Try.ntmps21
  go_wp2
  go_loopw [5] (fun i wr => ∃ k : Nat, k ≤ zs.length ∧ i = .int .i64 k ∧ Below w.heap.size w wr) (fun i _ => zs.length - (intOf i).toNat)
  case atStart => exact ⟨0, Nat.zero_le _, rfl, Below.refl _ _⟩
  case round =>
    obtain ⟨k, hk, rfl, hB⟩ := hrel
    by_cases hlt : k < zs.length
    · rcases ha with ha | ⟨b1, o1, rfl, hc1⟩
      · subst ha; simp at hlt
      rcases hb with hb | ⟨b2, o2, rfl, hc2⟩
      · subst hb; simp at hlt
      have h1 := hc1 k hlt
      have h2 := hc2 k hlt
      have l1 := World.block_lt_of_cell? _ _ h1
      have l2 := World.block_lt_of_cell? _ _ h2
      rw [← hB.cell (p := ⟨b1, o1 + k, none⟩) l1] at h1
      rw [← hB.cell (p := ⟨b2, o2 + k, none⟩) l2] at h2
      obtain ⟨z, hz⟩ : ∃ z, z = zs.getD k 0 := ⟨_, rfl⟩
      rw [← hz] at h1 h2
      clear hz hc1 hc2 l1 l2
      go_wp2
      go_region
      all_goals
        go_wp2
        go_roundw
        case rel => exact ⟨k + 1, by omega, by go_num, hB.drew⟩
        case measure => simp [intOf]; omega
    · go_wp2
      go_ret
      exact ⟨rfl, hB⟩

end Go.Proofs.Ytpobajblngblfaa
