/-
  impl.CrcFast answers the plain sum of its words by the table, or the fault of its numbers.
-/
import Derived.Test.YtafngcmgmdmciabFast
namespace Go.Proofs.Ytafngcmgmdmciab
open Go.RowKit

set_option maxHeartbeats 800000 in
theorem implFast_bad (a : Option Addr) (zs : List Int) (cap : Nat) (w : World) (hlen : zs.length ≤ 9223372036854775807) (hn : Nums w a zs) (hf : ¬ fault zs = 0) :
    Calls Try.prog 9 #[.slice a zs.length cap] w fun e w' => e = .returned (res (fault zs) (sumV zs)) ∧ Below w.heap.size w w' := by
  have hn1 : Nums (w.alloc (.cells #[.int .i64 0, .int .i64 0] 27)) a zs := hn.below ((Below.refl _ _).alloc (Nat.le_refl _) _)
  have hft : (fault zs != 0) = true := by simpa using hf
  have hv : Hid (sumV zs = 0) := by show _ = _; rw [sumV, if_neg hf]
  clear hf
  go_enter Try.func9, Try.ntmps9
  go_wp2_with fail
  refine (implFault_any a zs cap _ hlen hn1).mono ?_
  rintro e w1 ⟨rfl, hbF⟩
  obtain ⟨hc0, hc1, hf0, hf1, hzF⟩ := own2 hbF
  have hBF := back hbF
  have hn1 := hn1.below hbF
  clear hbF
  go_wp2
  refine bodyPost_ret (v := res (fault zs) 0) (by simp [results, Try.results9, go_sem, hc0, hc1]) rfl ⟨by rw [hv.out], ?_⟩
  go_grown

set_option maxHeartbeats 800000 in
theorem implFast_ok (a : Option Addr) (zs : List Int) (cap : Nat) (w : World) (hlen : zs.length ≤ 9223372036854775807) (hn : Nums w a zs) (hf : fault zs = 0) :
    Calls Try.prog 9 #[.slice a zs.length cap] w fun e w' => e = .returned (res (fault zs) (sumV zs)) ∧ Below w.heap.size w w' := by
  have hn1 : Nums (w.alloc (.cells #[.int .i64 0, .int .i64 0] 27)) a zs := hn.below ((Below.refl _ _).alloc (Nat.le_refl _) _)
  obtain ⟨hzero, hsize⟩ := zero_of_info infoTab
  have hZ : Hid _ := hsize
  obtain ⟨h4, hw⟩ := fault_words hf
  have HW : Hid (∀ z ∈ zs, 0 ≤ z ∧ z ≤ 65535) := hw
  have hv : Hid (sumV zs = (Crc.part zs zs.length : Nat)) := by show _ = _; rw [sumV, if_pos hf]
  have hft : (fault zs != 0) = false := by rw [hf]; rfl
  have HF : Hid _ := hf
  clear hw hf hsize
  go_enter Try.func9, Try.ntmps9
  go_wp2_with fail
  refine (implFault_any a zs cap _ hlen hn1).mono ?_
  rintro e w1 ⟨rfl, hbF⟩
  obtain ⟨hc0, hc1, hf0, hf1, hzF⟩ := own2 hbF
  have hBF := back hbF
  have hn1 := hn1.below hbF
  clear hbF
  go_wp2_with fail
  refine (byteSums_any _).mono ?_
  rintro e w2 ⟨rfl, hb⟩
  replace hc0 := (hb.cell (p := ⟨w.heap.size, 0, none⟩) hzF).trans hc0
  replace hc1 := (hb.cell (p := ⟨w.heap.size, 1, none⟩) hzF).trans hc1
  replace hf0 := (hb.frozen (p := ⟨w.heap.size, 0, none⟩) hzF).trans hf0
  replace hf1 := (hb.frozen (p := ⟨w.heap.size, 1, none⟩) hzF).trans hf1
  have hz : w.heap.size < w2.heap.size := Nat.lt_of_lt_of_le hzF hb.size
  have hB : Below w.heap.size w w2 := hBF.trans (hb.mono hBF.size)
  have hn2 := hn1.below hb
  clear hn1 hn hb hBF hzF
  go_wp2_with (refine wpList_store_row rfl 50 (.tmp 4) (.tmp 15) rfl w2.heap.size TAB rfl rfl 50 Z256 (heap_alloc_new w2 _) (by rw [hZ.out, TAB_size]) (by rw [Z_size, TAB_size]) TAB_one ?_)
  rw [World.setRow_alloc_new]
  have hT := tab_cells (w := w2)
  have hn3 := hn2.below ((Below.refl w2.heap.size w2).alloc (Nat.le_refl _) (.cells TAB 50))
  have hB3 : Below w.heap.size w (w2.alloc (.cells TAB 50)) := hB.alloc hB.size _
  have hd0 : (w2.alloc (.cells TAB 50)).cell? ⟨w.heap.size, 0, none⟩ = some (.int .i64 0) := by rw [World.cell?_alloc_past _ _ _ hz]; exact hc0
  have hd1 : (w2.alloc (.cells TAB 50)).cell? ⟨w.heap.size, 1, none⟩ = some (.int .i64 0) := by rw [World.cell?_alloc_past _ _ _ hz]; exact hc1
  have he0 : (w2.alloc (.cells TAB 50)).frozen? ⟨w.heap.size, 0, none⟩ = false := by rw [((Below.refl w2.heap.size w2).alloc (Nat.le_refl _) _).frozen (p := ⟨w.heap.size, 0, none⟩) hz]; exact hf0
  have he1 : (w2.alloc (.cells TAB 50)).frozen? ⟨w.heap.size, 1, none⟩ = false := by rw [((Below.refl w2.heap.size w2).alloc (Nat.le_refl _) _).frozen (p := ⟨w.heap.size, 1, none⟩) hz]; exact hf1
  generalize w2.alloc (.cells TAB 50) = w3 at *
  have HT : Hid _ := hT
  clear hn2 hB hc0 hc1 hf0 hf1 hT hzero hZ hft
  go_loop [5, 7, 8, 18] (fun x _ _ i => ∃ k S : Nat, k ≤ zs.length ∧ i = .int .i64 k ∧ x = .int .u16 S ∧ S < 65536 ∧ Hid (S = Crc.part zs k)) (fun _ _ _ i => zs.length - (intOf i).toNat)
  case atStart => exact ⟨0, 65535, Nat.zero_le _, rfl, rfl, by omega, (Crc.part_zero zs).symm⟩
  case round =>
    obtain ⟨k, S, hk, rfl, rfl, hS, HS⟩ := hrel
    by_cases hlt : k < zs.length
    · rcases hn3 with hn | ⟨b, off, rfl, hc⟩
      · subst hn; simp at hlt
      have hcell := hc k hlt
      have hz12 := HW.out _ (Crc.getD_mem hlt)
      have hsucc : Hid _ := Crc.part_succ zs k hlt
      obtain ⟨z, hz⟩ : ∃ z, z = zs.getD k 0 := ⟨_, rfl⟩
      rw [← hz] at hcell hz12 hsucc
      obtain ⟨hz1, hz2⟩ := hz12
      clear hz hc
      obtain ⟨Z, rfl⟩ := Int.eq_ofNat_of_zero_le hz1
      clear hz1
      have e1 := u16_xor_nat (S / 256) (Z / 256) (by omega) (by omega)
      have l1 : S / 256 ^^^ Z / 256 < 2 ^ 8 := Nat.xor_lt_two_pow (by omega) (by omega)
      generalize hX : S / 256 ^^^ Z / 256 = X at e1 l1
      have hx1 : bits .xor .u16 ((S : Int) / 256) ((Z : Int) / 256) = (X : Int) := by simpa using e1
      have hT1 := HT.out X (by omega)
      have l2 : (X : Int) < 256 := by omega
      have e2 := u16_xor_nat (S * 256 % 65536) (Crc.byte 0 X) (by omega) (Crc.byte_lt 0 X (by omega) (by omega))
      have l3 := Crc.byte_lt S (Z / 256) hS (by omega)
      have t1 := Crc.byte_table S (Z / 256) hS (by omega)
      rw [hX] at t1
      rw [← t1] at e2
      generalize hS1 : Crc.byte S (Z / 256) = S1 at e2 l3 t1
      have hx2 : bits .xor .u16 (IntKind.u16.wrap ((S : Int) * 256)) (Crc.byte 0 X : Nat) = (S1 : Int) := by
        rw [← e2, IntKind.wrap_u16]; simp
      have ea := u16_and_nat Z 255 (by omega) (by omega)
      rw [nat_mask8] at ea
      have l4 : Z % 256 < 256 := by omega
      generalize hY : Z % 256 = Y at ea l4
      have hx3 : bits .and .u16 (Z : Int) 255 = (Y : Int) := by rw [← ea]; rfl
      have e4 := u16_xor_nat (S1 / 256) Y (by omega) (by omega)
      have l5 : S1 / 256 ^^^ Y < 2 ^ 8 := Nat.xor_lt_two_pow (by omega) (by omega)
      generalize hX2 : S1 / 256 ^^^ Y = X2 at e4 l5
      have hx4 : bits .xor .u16 ((S1 : Int) / 256) (Y : Int) = (X2 : Int) := by simpa using e4
      have hT2 := HT.out X2 (by omega)
      have l6 : (X2 : Int) < 256 := by omega
      have e5 := u16_xor_nat (S1 * 256 % 65536) (Crc.byte 0 X2) (by omega) (Crc.byte_lt 0 X2 (by omega) (by omega))
      have l7 := Crc.byte_lt S1 Y l3 l4
      have t2 := Crc.byte_table S1 Y l3 l4
      rw [hX2] at t2
      rw [← t2] at e5
      generalize hS2 : Crc.byte S1 Y = S2 at e5 l7 t2
      have hx5 : bits .xor .u16 (IntKind.u16.wrap ((S1 : Int) * 256)) (Crc.byte 0 X2 : Nat) = (S2 : Int) := by
        rw [← e5, IntKind.wrap_u16]; simp
      have hfin : Hid (S2 = Crc.part zs (k + 1)) := by
        show _ = _
        rw [hsucc.out, ← HS.out, Crc.word, Int.toNat_natCast, hS1, hY, hS2]
      have l8 : Hid (S2 < 65536) := l7
      clear e1 l1 hX e2 t1 hS1 ea hY l4 e4 l5 hX2 e5 t2 hS2 l7
      go_wp2
      go_round
      case rel => exact ⟨k + 1, S2, by omega, by go_num, rfl, l8.out, hfin⟩
      case measure => simp [intOf]; omega
    · have hk2 : k = zs.length := by omega
      subst hk2
      go_wp2
      refine bodyPost_ret (v := res 0 (S : Int)) (by simp [results, Try.results9, go_sem, hd0, hd1]) rfl ⟨by rw [HF.out, hv.out, HS.out], ?_⟩
      go_grown

theorem implFast_any (a : Option Addr) (zs : List Int) (cap : Nat) (w : World) (hlen : zs.length ≤ 9223372036854775807) (hn : Nums w a zs) :
    Calls Try.prog 9 #[.slice a zs.length cap] w fun e w' => e = .returned (res (fault zs) (sumV zs)) ∧ Below w.heap.size w w' := by
  by_cases hf : fault zs = 0
  · exact implFast_ok a zs cap w hlen hn hf
  · exact implFast_bad a zs cap w hlen hn hf

end Go.Proofs.Ytafngcmgmdmciab
