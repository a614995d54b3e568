/-
  The blocks of a list of words: impl.blockCount, impl.blockSum; impl.BlockSums and spec.l1Blocks, spec.BlockSums make one and the same list of sums in new memory, or tell the fault.
-/
import Derived.Test.YtpobajblngblfaaSums0
import Derived.Test.YtpobajblngblfaaCopy
namespace Go.Proofs.Ytpobajblngblfaa
open Go.RowKit

/-- block k of the numbers; its sum; the first k sums; how many blocks there are -/
def sub (zs : List Int) (k : Nat) : List Int := (zs.drop (k * 8)).take 8
def blk (zs : List Int) (k : Nat) : Int := (Crc.part (sub zs k) (sub zs k).length : Nat)
def sumsTo (zs : List Int) (k : Nat) : List Int := (List.range k).map (blk zs)
def cnt (zs : List Int) : Nat := (zs.length + 7) / 8

theorem sumsTo_succ (zs : List Int) (k : Nat) : sumsTo zs (k + 1) = sumsTo zs k ++ [blk zs k] := by
  unfold sumsTo; rw [List.range_succ, List.map_append]; rfl
theorem sumsTo_length (zs : List Int) (k : Nat) : (sumsTo zs k).length = k := by unfold sumsTo; simp
theorem sub_length (zs : List Int) (k : Nat) : (sub zs k).length = min 8 (zs.length - k * 8) := by unfold sub; simp
theorem sub_words {zs : List Int} {k : Nat} (h : ∀ z ∈ zs, 0 ≤ z ∧ z ≤ 65535) : ∀ z ∈ sub zs k, 0 ≤ z ∧ z ≤ 65535 :=
  fun z hz => h z (List.mem_of_mem_drop (List.mem_of_mem_take hz))
theorem blk_word {zs : List Int} {k : Nat} (h : ∀ z ∈ zs, 0 ≤ z ∧ z ≤ 65535) : 0 ≤ blk zs k ∧ blk zs k ≤ 65535 := by
  unfold blk
  have := Crc.part_lt (sub zs k) (sub zs k).length (sub_words h)
  omega
theorem sub_nums {w : World} {b off : Nat} {zs : List Int} {k : Nat} (hc : ∀ i, i < zs.length → w.cell? ⟨b, off + i, none⟩ = some (.int .i64 (zs.getD i 0))) :
    Nums w (some ⟨b, off + k * 8, none⟩) (sub zs k) := by
  refine .inr ⟨b, off + k * 8, rfl, fun i hi => ?_⟩
  rw [sub_length] at hi
  have h1 := hc (k * 8 + i) (by omega)
  rw [Nat.add_assoc, h1]
  unfold sub
  rw [List.getD_eq_getElem?_getD, List.getD_eq_getElem?_getD, List.getElem?_take_of_lt (by omega), List.getElem?_drop]

set_option maxHeartbeats 400000 in
theorem count_any (a : Option Addr) (n cap : Nat) (w : World) (hlen : n ≤ 1048576) :
    Calls Try.prog 64 #[.slice a n cap] w fun e w' => e = .returned (.int .i64 (((n + 7) / 8 : Nat) : Int)) ∧ w' = w := by
  go_enter Try.func64, Try.ntmps64
  go_wp2
  go_ret
  refine ⟨?_, rfl⟩
  show Ending.returned (.int .i64 _) = _
  congr 2
  omega

set_option maxHeartbeats 800000 in
theorem blockSum_any (b off : Nat) (zs : List Int) (cap k : Nat) (w : World) (hcap : zs.length ≤ cap) (hlen : zs.length ≤ 1048576) (hk : k * 8 < zs.length)
    (hc : Hid (∀ i, i < zs.length → w.cell? ⟨b, off + i, none⟩ = some (.int .i64 (zs.getD i 0)))) (hw : Hid (∀ z ∈ zs, 0 ≤ z ∧ z ≤ 65535)) :
    Calls Try.prog 69 #[.slice (some ⟨b, off, none⟩) zs.length cap, .int .i64 (k : Int)] w fun e w' => e = .returned (.int .i64 (blk zs k)) ∧ w' = w := by
  have hs := sub_nums (k := k) hc.out
  have hl := sub_length zs k
  have hlt := Crc.part_lt (sub zs k) (sub zs k).length (sub_words hw.out)
  have hb : Hid (blk zs k = (Crc.part (sub zs k) (sub zs k).length : Nat)) := rfl
  have hw2 : Hid _ := sub_words (k := k) hw.out
  by_cases hfull : k * 8 + 8 ≤ zs.length
  · have hl8 : (sub zs k).length = 8 := by omega
    rw [hl8] at hlt hb
    have HL : Hid _ := hl8.symm
    clear hl8 hl
    go_enter Try.func69, Try.ntmps69
    go_wp2_with fail
    refine (sumWords_len _ (sub zs k) _ _ _ HL.out (by omega) hs hw2).mono ?_
    rintro e w ⟨rfl, rfl⟩
    go_wp2
    go_ret
    refine ⟨?_, rfl⟩
    show Ending.returned (.int .i64 _) = _
    rw [hb.out]
  · have hl8 : (sub zs k).length = zs.length - k * 8 := by omega
    rw [hl8] at hlt hb
    have HL : Hid _ := hl8.symm
    clear hl8 hl
    go_enter Try.func69, Try.ntmps69
    go_wp2_with fail
    refine (sumWords_len _ (sub zs k) _ _ _ HL.out (by omega) hs hw2).mono ?_
    rintro e w ⟨rfl, rfl⟩
    go_wp2
    go_ret
    refine ⟨?_, rfl⟩
    show Ending.returned (.int .i64 _) = _
    rw [hb.out]

set_option maxRecDepth 100000 in
set_option maxHeartbeats 1600000 in
theorem implBlocks_ok (a : Option Addr) (zs : List Int) (cap : Nat) (w : World) (hcap : zs.length ≤ cap) (hf : fault zs = 0) (hn : Nums w a zs) :
    Calls Try.prog 55 #[.slice a zs.length cap] w fun e w' =>
      ∃ v, e = .returned (.agg #[.int .i64 0, v]) ∧ Own w' w.heap.size v (sumsTo zs (cnt zs)) ∧ Below w.heap.size w w' := by
  obtain ⟨i0, hi, hz0, hz1, hz2⟩ := info_parts infoInt
  obtain ⟨h4, hw⟩ := fault_words hf
  have HW : Hid (∀ z ∈ zs, 0 ≤ z ∧ z ≤ 65535) := hw
  have hft : (fault zs != 0) = false := by rw [hf]; rfl
  have HF : Hid _ := hf
  have hb1 : Below w.heap.size w (w.alloc (.cells #[.int .i64 0, .slice none 0 0] 35)) := (Below.refl _ _).alloc (Nat.le_refl _) _
  have hn1 : Nums (w.alloc (.cells #[.int .i64 0, .slice none 0 0] 35)) a zs := hn.below hb1
  have hcnt : Hid (cnt zs = (zs.length + 7) / 8) := rfl
  clear hw hf
  go_enter Try.func55, Try.ntmps55
  go_wp2_with fail
  refine (implFault_any _ zs cap _ (by omega) hn1).mono ?_
  rintro e w1 ⟨rfl, hbF⟩
  have HOW := own2 hbF
  have HOW2 : Hid _ := HOW
  have hBF := back hbF
  clear HOW hbF hn1 hb1
  go_wp2_with fail
  refine (count_any _ _ _ _ (by omega)).mono ?_
  rintro e w1 ⟨rfl, rfl⟩
  go_wp2_with fail
  go_loopw [4, 5, 14] (fun v _ i wr => ∃ k : Nat, k ≤ cnt zs ∧ i = .int .i64 k ∧ wr.ownsRow (w.heap.size + 1) 2 1 v k ((sumsTo zs k).map (Value.int .i64)) ∧ Below w.heap.size w wr ∧ w.heap.size < wr.heap.size ∧
      wr.cell? ⟨w.heap.size, 0, none⟩ = some (.int .i64 0) ∧ wr.cell? ⟨w.heap.size, 1, none⟩ = some (.slice none 0 0) ∧ wr.frozen? ⟨w.heap.size, 0, none⟩ = false ∧ wr.frozen? ⟨w.heap.size, 1, none⟩ = false)
    (fun _ _ i _ => cnt zs - (intOf i).toNat)
  case atStart =>
    obtain ⟨hc0, hc1, hf0, hf1, hzF⟩ := HOW2.out
    exact ⟨0, Nat.zero_le _, rfl, World.ownsRow_nil _ _ _ _, hBF, hzF, hc0, hc1, hf0, hf1⟩
  case round =>
    obtain ⟨k, hk, rfl, hown, hB, hsz, hc0, hc1, hf0, hf1⟩ := hrel
    by_cases hlt : k < cnt zs
    · have hk8 : k * 8 < zs.length := by have := hcnt.out; omega
      rcases hn.below hB with hn2 | ⟨b, off, rfl, hc⟩
      · subst hn2; simp at hk8
      have hc2 : Hid (∀ i, i < zs.length → wr.cell? ⟨b, off + i, none⟩ = some (.int .i64 (zs.getD i 0))) := hc
      clear hc
      have hd : decide ((k : Int) < ((zs.length : Int) + 7) / 8) = true := decide_eq_true (by have := hcnt.out; omega)
      go_wp2_with fail
      refine (blockSum_any b off zs cap k _ hcap (by omega) hk8 hc2 HW).mono ?_
      rintro e wr ⟨rfl, rfl⟩
      go_wp2_with (at_builtin; go_loud (refine wpList_append_own _ rfl _ _ 23 rfl (w.heap.size + 1) 2 i0 (.int .i64 0) 1 8 Try.underlying23 hi hz0 hz1 hz2 rfl (by decide) _ _ _ rfl (hown.alloc _) ⟨wr.heap.size, 0, none⟩ 1 1 [.int .i64 (blk zs k)] rfl rfl ?c1 ?c2 ?c3 ?c4 ?c5 ?_))
      case c1 =>
        intro j u hj
        match j, hj with
        | 0, hj => simp at hj; subst hj; simp [Addr.add]
      case c2 => intro u hu; simp at hu; subst hu; rfl
      case c3 => have := hcnt.out; unfold maxLen; omega
      case c4 => have := hcnt.out; omega
      case c5 => simp; omega
      intro v' w2 hown' hgrow _
      have hB2 : Below (w.heap.size + 1) wr w2 := ((Below.refl (w.heap.size + 1) wr).alloc (by omega) _).grown hgrow (by simp; omega) (fun j hj => (hown.lt j hj).1)
      have hB3 : Below w.heap.size w w2 := hB.trans (hB2.mono (by omega))
      have hsz2 : w.heap.size < w2.heap.size := Nat.lt_of_lt_of_le hsz hB2.size
      have hd0 := (hB2.cell (p := ⟨w.heap.size, 0, none⟩) (by simp)).trans hc0
      have hd1 := (hB2.cell (p := ⟨w.heap.size, 1, none⟩) (by simp)).trans hc1
      have he0 := (hB2.frozen (p := ⟨w.heap.size, 0, none⟩) (by simp)).trans hf0
      have he1 := (hB2.frozen (p := ⟨w.heap.size, 1, none⟩) (by simp)).trans hf1
      clear hgrow hown hB hB2 hc0 hc1 hf0 hf1 hc2 hsz
      go_wp2
      go_roundw
      case rel =>
        refine ⟨k + 1, by omega, by go_num, ?_, hB3, hsz2, hd0, hd1, he0, he1⟩
        rw [sumsTo_succ, List.map_append]
        exact hown'
      case measure => simp [intOf]; omega
    · have hk2 : k = cnt zs := by omega
      have hge : ((zs.length : Int) + 7) / 8 ≤ (k : Int) := by have := hcnt.out; omega
      obtain ⟨ad, cp, rfl⟩ := own_shape hown
      have hfin : Own ((wr.setCell ⟨w.heap.size, 0, none⟩ (.int .i64 0)).setCell ⟨w.heap.size, 1, none⟩ (.slice ad k cp)) w.heap.size (.slice ad k cp) (sumsTo zs (cnt zs)) := by
        have h1 := ownsRow_setCell_below (ownsRow_setCell_below hown (a := ⟨w.heap.size, 0, none⟩) (by simp) (.int .i64 0)) (a := ⟨w.heap.size, 1, none⟩) (by simp) (.slice ad k cp)
        have h2 := own_mono h1 (C := w.heap.size) (by omega)
        rw [hk2] at h2 ⊢
        unfold Own
        rw [sumsTo_length]
        exact h2
      clear hown hk hlt hk2
      go_wp2
      refine bodyPost_ret (v := .agg #[.int .i64 0, .slice ad k cp]) (by simp [results, Try.results55, go_sem, hc0, hc1]) rfl ⟨_, rfl, hfin, ?_⟩
      go_grown

/-- what BlockSums tells -/
def sumsV (zs : List Int) : List Int := if fault zs = 0 then sumsTo zs (cnt zs) else []

set_option maxRecDepth 100000 in
set_option maxHeartbeats 800000 in
theorem implBlocks_any (a : Option Addr) (zs : List Int) (cap : Nat) (w : World) (hcap : zs.length ≤ cap) (hlen : zs.length ≤ 1048576) (hn : Nums w a zs) :
    Calls Try.prog 55 #[.slice a zs.length cap] w fun e w' =>
      ∃ v, e = .returned (.agg #[.int .i64 (fault zs), v]) ∧ Own w' w.heap.size v (sumsV zs) ∧ Below w.heap.size w w' := by
  by_cases hf : fault zs = 0
  · refine (implBlocks_ok a zs cap w hcap hf hn).mono ?_
    rintro e w' ⟨v, rfl, ho, hb⟩
    refine ⟨v, by rw [hf], ?_, hb⟩
    rw [sumsV, if_pos hf]; exact ho
  · have hft : (fault zs != 0) = true := by simpa using hf
    have hv : Hid (sumsV zs = []) := by show _ = _; rw [sumsV, if_neg hf]
    have hb1 : Below w.heap.size w (w.alloc (.cells #[.int .i64 0, .slice none 0 0] 35)) := (Below.refl _ _).alloc (Nat.le_refl _) _
    have hn1 : Nums (w.alloc (.cells #[.int .i64 0, .slice none 0 0] 35)) a zs := hn.below hb1
    clear hf hb1
    go_enter Try.func55, Try.ntmps55
    go_wp2_with fail
    refine (implFault_any _ zs cap _ (by omega) hn1).mono ?_
    rintro e w1 ⟨rfl, hbF⟩
    obtain ⟨hc0, hc1, hf0, hf1, hzF⟩ := own2 hbF
    have hBF := back hbF
    clear hbF hn1
    go_wp2
    refine bodyPost_ret (v := .agg #[.int .i64 (fault zs), .slice none 0 0]) (by simp [results, Try.results55, go_sem, hc0, hc1]) rfl ⟨_, rfl, ?_, by go_grown⟩
    rw [hv.out]
    exact World.ownsRow_nil _ _ _ _

theorem own2L {w w' : World} {x y : Value} {T : TypeId} (hb : Below (w.alloc (.cells #[x, y] T)).heap.size (w.alloc (.cells #[x, y] T)) w') :
    w'.heap[w.heap.size]? = some (.cells #[x, y] T (0, 0)) := by
  rw [hb.block w.heap.size (by simp)]
  exact heap_alloc_new _ _

end Go.Proofs.Ytpobajblngblfaa
