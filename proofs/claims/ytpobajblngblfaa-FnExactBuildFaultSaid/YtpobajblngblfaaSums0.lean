/-
  impl.sumWords and spec.l1Sum answer the plain sum of whatever words lie in memory.
-/
import Derived.Test.YtpobajblngblfaaCrcs
import Derived.Test.YtpobajblngblfaaWords0
import Derived.Test.YtpobajblngblfaaSFlt
namespace Go.Proofs.Ytpobajblngblfaa
open Go.RowKit

set_option maxHeartbeats 800000 in
theorem sumWords_any (a : Option Addr) (zs : List Int) (cap : Nat) (w : World) (hlen : zs.length ≤ 9223372036854775807) (hn : Nums w a zs) (hw : Hid (∀ z ∈ zs, 0 ≤ z ∧ z ≤ 65535)) :
    Calls Try.prog 38 #[.slice a zs.length cap] w fun e w' => e = .returned (.int .u16 (Crc.part zs zs.length : Nat)) ∧ w' = w := by
  go_enter Try.func38, Try.ntmps38
  go_wp2
  go_loop [3, 5, 6, 9] (fun x _ _ i => ∃ k S : Nat, k ≤ zs.length ∧ i = .int .i64 k ∧ x = .int .u16 S ∧ S < 65536 ∧ Hid (S = Crc.part zs k)) (fun _ _ _ i => zs.length - (intOf i).toNat)
  case atStart => exact ⟨0, 65535, Nat.zero_le _, rfl, rfl, by omega, (Crc.part_zero zs).symm⟩
  case round =>
    obtain ⟨k, S, hk, rfl, rfl, hS, HS⟩ := hrel
    by_cases hlt : k < zs.length
    · rcases hn with hn | ⟨b, off, rfl, hc⟩
      · subst hn; simp at hlt
      have hcell := hc k hlt
      have hz12 := hw.out _ (Crc.getD_mem hlt)
      have hsucc : Hid _ := Crc.part_succ zs k hlt
      obtain ⟨z, hz⟩ : ∃ z, z = zs.getD k 0 := ⟨_, rfl⟩
      rw [← hz] at hcell hz12 hsucc
      obtain ⟨hz1, hz2⟩ := hz12
      clear hz hc
      have hb1 := Crc.byte_lt S (z / 256).toNat hS (by omega)
      go_wp2_with fail
      refine (sumByte_any _ _ _ (by omega) (by omega) (by omega) (by omega)).mono ?_
      rintro e w ⟨rfl, rfl⟩
      go_wp2_with fail
      refine (sumByte_any _ _ _ (by omega) (by omega) (by omega) (by omega)).mono ?_
      rintro e w ⟨rfl, rfl⟩
      have hb2 := Crc.byte_lt (Crc.byte S (z / 256).toNat) (z % 256).toNat hb1 (by omega)
      go_wp2
      go_round
      case rel =>
        refine ⟨k + 1, Crc.byte (Crc.byte S (z / 256).toNat) (z % 256).toNat, by omega, by go_num, ?_, hb2, ?_⟩
        · simp
        · show _ = _
          rw [hsucc.out, ← HS.out, Crc.word, show (z / 256).toNat = z.toNat / 256 from by omega, show (z % 256).toNat = z.toNat % 256 from by omega]
      case measure => simp [intOf]; omega
    · have hk2 : k = zs.length := by omega
      subst hk2
      go_wp2
      go_ret
      refine ⟨?_, rfl⟩
      show Ending.returned (.int .u16 (S : Int)) = _
      rw [HS.out]

set_option maxHeartbeats 800000 in
theorem l1Sum_any (a : Option Addr) (zs : List Int) (cap : Nat) (w : World) (hlen : zs.length ≤ 9223372036854775807) (hn : Nums w a zs) (hw : Hid (∀ z ∈ zs, 0 ≤ z ∧ z ≤ 65535)) :
    Calls Try.prog 42 #[.slice a zs.length cap] w fun e w' => e = .returned (.int .i64 (Crc.part zs zs.length : Nat)) ∧ w' = w := by
  go_enter Try.func42, Try.ntmps42
  go_wp2
  go_loop [3, 4] (fun x i => ∃ k S : Nat, k ≤ zs.length ∧ i = .int .i64 k ∧ x = .int .i64 S ∧ S < 65536 ∧ Hid (S = Crc.part zs k)) (fun _ i => zs.length - (intOf i).toNat)
  case atStart => exact ⟨0, 65535, Nat.zero_le _, rfl, rfl, by omega, (Crc.part_zero zs).symm⟩
  case round =>
    obtain ⟨k, S, hk, rfl, rfl, hS, HS⟩ := hrel
    by_cases hlt : k < zs.length
    · rcases hn with hn | ⟨b, off, rfl, hc⟩
      · subst hn; simp at hlt
      have hcell := hc k hlt
      have hz12 := hw.out _ (Crc.getD_mem hlt)
      have hsucc : Hid _ := Crc.part_succ zs k hlt
      obtain ⟨z, hz⟩ : ∃ z, z = zs.getD k 0 := ⟨_, rfl⟩
      rw [← hz] at hcell hz12 hsucc
      obtain ⟨hz1, hz2⟩ := hz12
      clear hz hc
      have hb1 := Crc.byte_lt S (z / 256).toNat hS (by omega)
      go_wp2_with fail
      refine (l1Crc_any _ _ _ (by omega) (by omega) (by omega) (by omega)).mono ?_
      rintro e w ⟨rfl, rfl⟩
      go_wp2_with fail
      refine (l1Crc_any _ _ _ (by omega) (by omega) (by omega) (by omega)).mono ?_
      rintro e w ⟨rfl, rfl⟩
      have hb2 := Crc.byte_lt (Crc.byte S (z / 256).toNat) (z % 256).toNat hb1 (by omega)
      go_wp2
      go_round
      case rel =>
        refine ⟨k + 1, Crc.byte (Crc.byte S (z / 256).toNat) (z % 256).toNat, by omega, by go_num, ?_, hb2, ?_⟩
        · simp
        · show _ = _
          rw [hsucc.out, ← HS.out, Crc.word, show (z / 256).toNat = z.toNat / 256 from by omega, show (z % 256).toNat = z.toNat % 256 from by omega]
      case measure => simp [intOf]; omega
    · have hk2 : k = zs.length := by omega
      subst hk2
      go_wp2
      go_ret
      refine ⟨?_, rfl⟩
      show Ending.returned (.int .i64 (S : Int)) = _
      rw [HS.out]

theorem sumWords_len (a : Option Addr) (zs : List Int) (n cap : Nat) (w : World) (h : n = zs.length) (hlen : n ≤ 9223372036854775807) (hn : Nums w a zs) (hw : Hid (∀ z ∈ zs, 0 ≤ z ∧ z ≤ 65535)) :
    Calls Try.prog 38 #[.slice a n cap] w fun e w' => e = .returned (.int .u16 (Crc.part zs n : Nat)) ∧ w' = w := by
  subst h; exact sumWords_any a zs cap w hlen hn hw
theorem l1Sum_len (a : Option Addr) (zs : List Int) (n cap : Nat) (w : World) (h : n = zs.length) (hlen : n ≤ 9223372036854775807) (hn : Nums w a zs) (hw : Hid (∀ z ∈ zs, 0 ≤ z ∧ z ≤ 65535)) :
    Calls Try.prog 42 #[.slice a n cap] w fun e w' => e = .returned (.int .i64 (Crc.part zs n : Nat)) ∧ w' = w := by
  subst h; exact l1Sum_any a zs cap w hlen hn hw

theorem fault_words {zs : List Int} (h : fault zs = 0) : zs.length ≤ 400 ∧ ∀ z ∈ zs, 0 ≤ z ∧ z ≤ 65535 := by
  unfold fault at h
  split at h
  · cases h
  · split at h
    · exact ⟨by omega, by assumption⟩
    · cases h
end Go.Proofs.Ytpobajblngblfaa
