/-
  spec.l1Blocks makes the plain list of the blocks' sums in new memory.
-/
import Derived.Test.YtpobajblngblfaaBlocks
import Derived.Laws.Rows
namespace Go.Proofs.Ytpobajblngblfaa
open Go.RowKit

set_option maxHeartbeats 1600000 in
theorem l1Blocks_any (a : Option Addr) (zs : List Int) (cap : Nat) (w : World) (hcap : zs.length ≤ cap) (h4 : zs.length ≤ 400) (hw : Hid (∀ z ∈ zs, 0 ≤ z ∧ z ≤ 65535)) (hn : Nums w a zs) :
    Calls Try.prog 52 #[.slice a zs.length cap] w fun e w' =>
      ∃ v, e = .returned v ∧ Own w' w.heap.size v (sumsTo zs (cnt zs)) ∧ Below w.heap.size w w' := by
  obtain ⟨i0, hi, hz0, hz1, hz2⟩ := info_parts infoInt
  have hcnt : Hid (cnt zs = (zs.length + 7) / 8) := rfl
  go_enter Try.func52, Try.ntmps52
  go_wp2
  go_loopw [3, 4, 5] (fun v i _ wr => ∃ k : Nat, k ≤ cnt zs ∧ i = .int .i64 ((k : Int) * 8) ∧ wr.ownsRow w.heap.size 2 1 v k ((sumsTo zs k).map (Value.int .i64)) ∧ Below w.heap.size w wr)
    (fun _ i _ _ => cnt zs * 8 - (intOf i).toNat)
  case atStart =>
    refine ⟨0, Nat.zero_le _, rfl, ?_, by go_grown⟩
    exact ⟨by simp [sumsTo], .inr ⟨w.heap.size, 0, #[], rfl, Nat.le_refl _, heap_alloc_new _ _, Nat.le_refl _, by unfold maxLen; omega, rfl, by simp [sumsTo]⟩⟩
  case round =>
    obtain ⟨k, hk, rfl, hown, hB⟩ := hrel
    by_cases hlt : k < cnt zs
    · have hk8 : k * 8 < zs.length := by have := hcnt.out; omega
      rcases hn.below hB with hn2 | ⟨b, off, rfl, hc⟩
      · subst hn2; simp at hk8
      have hs := sub_nums (k := k) hc
      have hl := sub_length zs k
      have hlt2 := Crc.part_lt (sub zs k) (sub zs k).length (sub_words hw.out)
      have hb : Hid (blk zs k = (Crc.part (sub zs k) (sub zs k).length : Nat)) := rfl
      have hw2 : Hid (∀ z ∈ sub zs k, 0 ≤ z ∧ z ≤ 65535) := sub_words (k := k) hw.out
      have hsz := hB.size
      clear hc
      by_cases hfull : k * 8 + 8 ≤ zs.length
      · have hl8 : (sub zs k).length = 8 := by omega
        rw [hl8] at hlt2 hb
        have HL : Hid _ := hl8.symm
        clear hl8 hl
        go_wp2_with (go_at_call 67; go_in)
        refine (l1Sum_len _ (sub zs k) _ _ _ HL.out (by omega) hs hw2).mono ?_
        rintro e wr ⟨rfl, rfl⟩
        rw [← hb.out]
        go_wp2_with (at_builtin; refine wpList_append_own _ rfl _ _ 23 rfl w.heap.size 2 i0 (.int .i64 0) 1 8 Try.underlying23 hi hz0 hz1 hz2 rfl (by decide) _ _ _ rfl (hown.alloc _) ⟨wr.heap.size, 0, none⟩ 1 1 [.int .i64 (blk zs k)] rfl rfl ?c1 ?c2 ?c3 ?c4 ?c5 ?_)
        case c1 =>
          intro j u hj
          match j, hj with
          | 0, hj => simp at hj; subst hj; simp [Addr.add]
        case c2 => intro u hu; simp at hu; subst hu; rfl
        case c3 => have := hcnt.out; unfold maxLen; omega
        case c4 => have := hcnt.out; omega
        case c5 => simp; omega
        intro v' w2 hown' hgrow _
        have hB2 : Below w.heap.size wr w2 := ((Below.refl w.heap.size wr).alloc (by omega) _).grown hgrow (by simp; omega) (fun j hj => (hown.lt j hj).1)
        have hB3 : Below w.heap.size w w2 := hB.trans hB2
        clear hgrow hown hB hB2
        go_wp2
        go_roundw
        case rel =>
          refine ⟨k + 1, by omega, by congr 1; omega, ?_, hB3⟩
          rw [sumsTo_succ, List.map_append]
          exact hown'
        case measure => simp [intOf]; omega
      · have hl8 : (sub zs k).length = zs.length - k * 8 := by omega
        rw [hl8] at hlt2 hb
        have HL : Hid _ := hl8.symm
        clear hl8 hl
        go_wp2_with (go_at_call 67; go_in)
        refine (l1Sum_len _ (sub zs k) _ _ _ HL.out (by omega) hs hw2).mono ?_
        rintro e wr ⟨rfl, rfl⟩
        rw [← hb.out]
        go_wp2_with (at_builtin; refine wpList_append_own _ rfl _ _ 23 rfl w.heap.size 2 i0 (.int .i64 0) 1 8 Try.underlying23 hi hz0 hz1 hz2 rfl (by decide) _ _ _ rfl (hown.alloc _) ⟨wr.heap.size, 0, none⟩ 1 1 [.int .i64 (blk zs k)] rfl rfl ?d1 ?d2 ?d3 ?d4 ?d5 ?_)
        case d1 =>
          intro j u hj
          match j, hj with
          | 0, hj => simp at hj; subst hj; simp [Addr.add]
        case d2 => intro u hu; simp at hu; subst hu; rfl
        case d3 => have := hcnt.out; unfold maxLen; omega
        case d4 => have := hcnt.out; omega
        case d5 => simp; omega
        intro v' w2 hown' hgrow _
        have hB2 : Below w.heap.size wr w2 := ((Below.refl w.heap.size wr).alloc (by omega) _).grown hgrow (by simp; omega) (fun j hj => (hown.lt j hj).1)
        have hB3 : Below w.heap.size w w2 := hB.trans hB2
        clear hgrow hown hB hB2
        go_wp2
        go_roundw
        case rel =>
          refine ⟨k + 1, by omega, by congr 1; omega, ?_, hB3⟩
          rw [sumsTo_succ, List.map_append]
          exact hown'
        case measure => simp [intOf]; omega
    · have hk2 : k = cnt zs := by omega
      have hge : (zs.length : Int) ≤ (k : Int) * 8 := by have := hcnt.out; omega
      have hfin : Own wr w.heap.size u3 (sumsTo zs (cnt zs)) := by
        rw [hk2] at hown
        unfold Own
        rw [sumsTo_length]
        exact hown
      clear hown hk hlt hk2
      go_wp2
      go_ret
      exact ⟨_, rfl, hfin, hB⟩
end Go.Proofs.Ytpobajblngblfaa
