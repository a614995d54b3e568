/-
  The Go function laws.FnSums answers true at every input and writes nothing that was there. No condition.
-/
import Derived.Test.YtafngcmgmdmciabDrawB
import Derived.Test.YtafngcmgmdmciabDrawsW
import Derived.Test.YtafngcmgmdmciabLawI
import Derived.Test.YtafngcmgmdmciabQuick
import Derived.Test.YtafngcmgmdmciabByte
import Derived.RegionTactic
import Derived.Deep.RegionHeld3
import Derived.Deep.QuietTactic
import Derived.BigQuiet
namespace Go.Proofs.Ytafngcmgmdmciab
open Go.RowKit
set_option linter.unusedVariables false

set_option maxHeartbeats 3200000 in
theorem fnSums_walk (a0 : Option Addr) (len0 cap0 : Nat) (z0 : List Int) (w : World) (w0 : IsRow .u8 w a0 len0 cap0 z0) :
    Calls Try.prog 3 #[.slice a0 len0 cap0] w fun e w' => e = .returned (.bool true) ∧ Below w.heap.size w w' := by
  obtain ⟨hb0, ha0⟩ := bytes_of_row w0
  have hfl0 := field0
  have hfl1 := field1
  clear w0
  by_cases hbig : 1048576 < len0
  · go_enter Try.func3, Try.ntmps3
    go_wp2_with fail
    refine (big_yes _ _ _ _ hbig).mono ?_
    rintro e w1 ⟨rfl, rfl⟩
    go_wp2
    go_ret
    exact ⟨rfl, Below.refl _ _⟩
  have hs : len0 ≤ 1048576 := by omega
  have HA : Hid (len0 ≠ 0 → ∀ b o s, a0 = some ⟨b, o, s⟩ → b < w.heap.size) := ha0
  have HY : Hid (Bytes w a0 len0) := hb0
  clear hbig ha0 hb0
  go_enter Try.func3, Try.ntmps3
  go_wp2_with fail
  refine (big_any _ _ _ _ hs).mono ?_
  rintro e w1 ⟨rfl, rfl⟩
  go_wp2_with fail
  refine (drawWords_any a0 len0 cap0 w1 hs HY.out HA.out).mono ?_
  rintro e w2 ⟨v, rfl, ad, cp, zs, rfl, hlz, ho2, hB2⟩
  have hn2 := (nums_of_own (B := w1.heap.size) ho2).2
  clear ho2
  go_wp2_with fail
  refine (implWords_any ad zs cp w2 (by omega) hn2).mono ?_
  rintro e w3 ⟨rfl, hb⟩
  have hB3 : Below w1.heap.size w1 w3 := hB2.trans (hb.mono hB2.size)
  have hn3 := hn2.below hb
  clear hb hB2 hn2
  have hb : Below w3.heap.size w3 (w3.alloc (.cells #[.int .i64 (fault zs), .int .i64 (sumV zs)] 27)) := (Below.refl _ _).alloc (Nat.le_refl _) _
  have hv3 := VarI.new w3 (fault zs) (sumV zs)
  have hB4 : Below w1.heap.size w1 (w3.alloc (.cells #[.int .i64 (fault zs), .int .i64 (sumV zs)] 27)) := hB3.trans (hb.mono hB3.size)
  have hn4 := hn3.below hb
  clear hb hB3 hn3
  go_wp2_with fail
  refine (implFast_any ad zs cp _ (by omega) hn4).mono ?_
  rintro e w5 ⟨rfl, hb⟩
  have hv5 := hv3.below hb
  have hB5 : Below w1.heap.size w1 w5 := hB4.trans (hb.mono hB4.size)
  have hn5 := hn4.below hb
  clear hb hB4 hn4 hv3
  have hb : Below w5.heap.size w5 (w5.alloc (.cells #[.int .i64 (fault zs), .int .i64 (sumV zs)] 27)) := (Below.refl _ _).alloc (Nat.le_refl _) _
  have hu6 := VarI.new w5 (fault zs) (sumV zs)
  have hB6 : Below w1.heap.size w1 (w5.alloc (.cells #[.int .i64 (fault zs), .int .i64 (sumV zs)] 27)) := hB5.trans (hb.mono hB5.size)
  have hn6 := hn5.below hb
  have hv6 := hv5.below hb
  obtain ⟨hc0, hc1⟩ := hv5.cells
  have hz5 := hv5.lt
  clear hb hB5 hn5 hv5
  by_cases hf : fault zs = 0
  · have hfb : (fault zs != 0) = false := by rw [hf]; rfl
    have HF : Hid (fault zs = 0) := hf
    clear hf
    have hsv : 0 ≤ sumV zs ∧ sumV zs ≤ 65535 := by
      have h1 := Crc.part_lt zs zs.length (fault_words HF.out).2
      have h2 : sumV zs = (Crc.part zs zs.length : Nat) := by rw [sumV, if_pos HF.out]
      omega
    obtain ⟨hsv0, hsv1⟩ := hsv
    have HA6 : Hid (len0 ≠ 0 → ∀ b o s, a0 = some ⟨b, o, s⟩ → b < (w5.alloc (.cells #[.int .i64 (fault zs), .int .i64 (sumV zs)] 27)).heap.size) := fun h b o s e => Nat.lt_of_lt_of_le (HA.out h b o s e) hB6.size
    have HY6 : Hid (Bytes (w5.alloc (.cells #[.int .i64 (fault zs), .int .i64 (sumV zs)] 27)) a0 len0) := HY.out.below hB6 HA.out
    clear hn6
    go_wp2_with fail
    refine (drawByte_any a0 len0 cap0 _ hs HY6.out HA6.out).mono ?_
    rintro e w7 ⟨x, y, rfl, hb⟩
    have hv7 := hv6.below hb
    have hu7 := hu6.below hb
    have hB7 : Below w1.heap.size w1 w7 := hB6.trans (hb.mono hB6.size)
    clear hb hv6 hu6 hB6 HA6 HY6 hc0 hc1 hz5
    obtain ⟨C, hC⟩ : ∃ C, C = byteC x y := ⟨_, rfl⟩
    obtain ⟨V, hV⟩ : ∃ V, V = byteV x y := ⟨_, rfl⟩
    have hI : Hid (∀ w, Calls Try.prog 12 #[.int .i64 x, .int .i64 y] w fun e w' => e = .returned (res C V) ∧ Below w.heap.size w w') := by intro w; rw [hC, hV]; exact implByte_any x y w
    have hSp : Hid (∀ w, Calls Try.prog 14 #[.int .i64 x, .int .i64 y] w fun e w' => e = .returned (res C V) ∧ Below w.heap.size w w') := by intro w; rw [hC, hV]; exact specByte_any x y w
    have HC : Hid (C = byteC x y) := hC
    have HV : Hid (V = byteV x y) := hV
    clear hC hV
    go_wp2_with fail
    refine (hI.out _).mono ?_
    rintro e w8 ⟨rfl, hb⟩
    have hv8 := hv7.below hb
    have hu8 := hu7.below hb
    have hB8 : Below w1.heap.size w1 w8 := hB7.trans (hb.mono hB7.size)
    clear hb hv7 hu7 hB7 hI
    have hb : Below w8.heap.size w8 (w8.alloc (.cells #[.int .i64 C, .int .i64 V] 27)) := (Below.refl _ _).alloc (Nat.le_refl _) _
    have hq9 := VarI.new w8 C V
    have hv9 := hv8.below hb
    have hu9 := hu8.below hb
    have hB9 : Below w1.heap.size w1 (w8.alloc (.cells #[.int .i64 C, .int .i64 V] 27)) := hB8.trans (hb.mono hB8.size)
    clear hb hv8 hu8 hB8
    by_cases hxy : (0 ≤ x ∧ x ≤ 65535) ∧ (0 ≤ y ∧ y ≤ 255)
    · obtain ⟨⟨hx0, hx1⟩, hy0, hy1⟩ := hxy
      obtain ⟨X, rfl⟩ := Int.eq_ofNat_of_zero_le hx0
      obtain ⟨Y, rfl⟩ := Int.eq_ofNat_of_zero_le hy0
      have hcC : C = 0 := by rw [HC.out, byteC, if_pos (by omega)]
      have hcV : V = (Crc.byte X Y : Nat) := by rw [HV.out, byteV, if_pos (by omega)]; rfl
      have hcb : (C == 0) = true := by rw [hcC]; rfl
      have l1 : X / 256 ^^^ Y < 2 ^ 8 := Nat.xor_lt_two_pow (by omega) (by omega)
      have e1 := i64_xor_nat (X / 256) Y (by omega) (by omega)
      have t1 := Crc.byte_table X Y (by omega) (by omega)
      generalize hT : X / 256 ^^^ Y = T at l1 e1 t1
      have l2 := Crc.byte_lt 0 T (by omega) (by omega)
      have hTab : Hid (∀ w, Calls Try.prog 13 #[.int .i64 (T : Int)] w fun e w' => e = .returned (res 0 (Crc.byte 0 T : Nat)) ∧ Below w.heap.size w w') := by
        intro w
        have h := implTable_any (T : Int) w
        rw [byteC, byteV, if_pos (by omega), if_pos (by omega)] at h
        exact h
      have e2 := i64_xor_nat (X * 256 % 65536) (Crc.byte 0 T) (by omega) (by omega)
      rw [← t1, ← hcV] at e2
      have hx1 : bits .xor .i64 ((X : Int) / 256) (Y : Int) = (T : Int) := by simpa using e1
      have hx2 : bits .xor .i64 ((X : Int) % 256 * 256) ((Crc.byte 0 T : Nat) : Int) = V := by
        rw [← e2]; congr 1; omega
      clear l1 e1 t1 hT e2 hcV hcC
      have hw1 : IntKind.i64.wrap ((X : Int) / 256) = (X : Int) / 256 := IntWalk.i64_in _ (by omega)
      have hw2 : (V != bits .xor .i64 (IntKind.i64.wrap ((X : Int).tmod 256 * 256)) ((Crc.byte 0 T : Nat) : Int)) = false := by
        rw [Int.tmod_eq_emod_of_nonneg (by omega), IntWalk.i64_in _ (by omega), hx2, bne_eq_false_iff_eq]
      go_wp2_with fail
      generalize hW9 : w8.alloc (.cells #[.int .i64 C, .int .i64 V] 27) = w9 at *
      clear hW9
      obtain ⟨hq0, hq1⟩ := hq9.cells
      have hqlt := hq9.lt
      go_region_held3 (fun W => W.cell? ⟨w8.heap.size, 0, none⟩ = some (.int .i64 C) ∧ W.cell? ⟨w8.heap.size, 1, none⟩ = some (.int .i64 V)) (go_keep) (first | (go_at_call 13; refine (hTab.out _).mono ?_; rintro e w10 ⟨rfl, hb⟩; have hD : Below w9.heap.size w9 w10 := ((Below.refl w9.heap.size w9).drew).trans (Below.mono hb (Nat.le_refl _)); have k0 := (hD.cell (p := ⟨w8.heap.size, 0, none⟩) hqlt).trans hq0; have k1 := (hD.cell (p := ⟨w8.heap.size, 1, none⟩) hqlt).trans hq1; have hv10 := hv9.below hD; have hu10 := hu9.below hD; have hq10 := hq9.below hD; have hB10 := hB9.trans (hD.mono hB9.size); clear hb hD))
      clear hq9 hq0 hq1 hqlt hv9 hu9 hB9 k0 k1
      obtain ⟨ka0, ka1⟩ := hv10.cells
      obtain ⟨kb0, kb1⟩ := hu10.cells
      obtain ⟨kc0, kc1⟩ := hq10.cells
      have hla := hv10.lt
      have hlb := hu10.lt
      have hlc := hq10.lt
      go_wp2_with fail
      go_region_held3 (fun W => W.cell? ⟨w3.heap.size, 0, none⟩ = some (.int .i64 (fault zs)) ∧ W.cell? ⟨w3.heap.size, 1, none⟩ = some (.int .i64 (sumV zs)) ∧ W.cell? ⟨w5.heap.size, 0, none⟩ = some (.int .i64 (fault zs)) ∧ W.cell? ⟨w5.heap.size, 1, none⟩ = some (.int .i64 (sumV zs)) ∧ W.cell? ⟨w8.heap.size, 0, none⟩ = some (.int .i64 C)) (go_keep) (first | (go_at_call 14; refine (hSp.out _).mono ?_; rintro e w11 ⟨rfl, hb⟩; have hD : Below w10.heap.size w10 w11 := ((Below.refl w10.heap.size w10).drew).trans (Below.mono hb (Nat.le_refl _)); have k0 := (hD.cell (p := ⟨w3.heap.size, 0, none⟩) hla).trans ka0; have k1 := (hD.cell (p := ⟨w3.heap.size, 1, none⟩) hla).trans ka1; have k2 := (hD.cell (p := ⟨w5.heap.size, 0, none⟩) hlb).trans kb0; have k3 := (hD.cell (p := ⟨w5.heap.size, 1, none⟩) hlb).trans kb1; have k4 := (hD.cell (p := ⟨w8.heap.size, 0, none⟩) hlc).trans kc0; have hB11 := hB10.trans (hD.mono hB10.size); clear hb hD))
      go_wp2
      go_ret
      exact ⟨rfl, by assumption⟩
    · have hcC : C = 3 := by rw [HC.out, byteC, if_neg hxy]
      subst hcC
      clear hxy HC
      go_wp2_with fail
      generalize hW9 : w8.alloc (.cells #[.int .i64 3, .int .i64 V] 27) = w9 at *
      clear hW9
      obtain ⟨hq0, hq1⟩ := hq9.cells
      have hqlt := hq9.lt
      go_quiet (fail)
      have hv10 : VarI (w9.drewN nq) w3.heap.size (fault zs) (sumV zs) := hv9
      have hu10 : VarI (w9.drewN nq) w5.heap.size (fault zs) (sumV zs) := hu9
      have hq10 : VarI (w9.drewN nq) w8.heap.size 3 V := hq9
      have hB10 : Below w1.heap.size w1 (w9.drewN nq) := ⟨hB9.os, hB9.tape, hB9.output, hB9.size, hB9.block⟩
      generalize hW10 : w9.drewN nq = w10 at *
      clear hW10
      clear hq9 hq0 hq1 hqlt hv9 hu9 hB9
      obtain ⟨ka0, ka1⟩ := hv10.cells
      obtain ⟨kb0, kb1⟩ := hu10.cells
      obtain ⟨kc0, kc1⟩ := hq10.cells
      have hla := hv10.lt
      have hlb := hu10.lt
      have hlc := hq10.lt
      go_wp2_with fail
      go_region_held3 (fun W => W.cell? ⟨w3.heap.size, 0, none⟩ = some (.int .i64 (fault zs)) ∧ W.cell? ⟨w3.heap.size, 1, none⟩ = some (.int .i64 (sumV zs)) ∧ W.cell? ⟨w5.heap.size, 0, none⟩ = some (.int .i64 (fault zs)) ∧ W.cell? ⟨w5.heap.size, 1, none⟩ = some (.int .i64 (sumV zs)) ∧ W.cell? ⟨w8.heap.size, 0, none⟩ = some (.int .i64 3)) (go_keep) (first | (go_at_call 14; refine (hSp.out _).mono ?_; rintro e w11 ⟨rfl, hb⟩; have hD : Below w10.heap.size w10 w11 := ((Below.refl w10.heap.size w10).drew).trans (Below.mono hb (Nat.le_refl _)); have k0 := (hD.cell (p := ⟨w3.heap.size, 0, none⟩) hla).trans ka0; have k1 := (hD.cell (p := ⟨w3.heap.size, 1, none⟩) hla).trans ka1; have k2 := (hD.cell (p := ⟨w5.heap.size, 0, none⟩) hlb).trans kb0; have k3 := (hD.cell (p := ⟨w5.heap.size, 1, none⟩) hlb).trans kb1; have k4 := (hD.cell (p := ⟨w8.heap.size, 0, none⟩) hlc).trans kc0; have hB11 := hB10.trans (hD.mono hB10.size); clear hb hD))
      go_wp2
      go_ret
      exact ⟨rfl, by assumption⟩
  · have hfb : (fault zs != 0) = true := by simpa using hf
    clear hf
    have hv0 := hv6.cells.1
    have hu0 := hu6.cells.1
    have hlv := hv6.lt
    have hlu := hu6.lt
    go_wp2_with fail
    generalize hW6 : w5.alloc (.cells #[.int .i64 (fault zs), .int .i64 (sumV zs)] 27) = w6 at *
    clear hW6
    go_region_held3 (fun W => W.cell? ⟨w3.heap.size, 0, none⟩ = some (.int .i64 (fault zs)) ∧ W.cell? ⟨w5.heap.size, 0, none⟩ = some (.int .i64 (fault zs))) (go_keep) (first | (go_at_call 10; refine (specWords_any ad zs cp _ (by omega) ?_).mono ?_; exact hn6; rintro e w8 ⟨rfl, hb⟩; have k0 := (hb.cell (p := ⟨w3.heap.size, 0, none⟩) hlv).trans hv0; have k1 := (hb.cell (p := ⟨w5.heap.size, 0, none⟩) hlu).trans hu0; have hD : Below w6.heap.size w6 w8 := ((Below.refl w6.heap.size w6).drew).trans (Below.mono hb (Nat.le_refl _)); have hB8 : Below w1.heap.size w1 w8 := hB6.trans (hD.mono hB6.size); clear hb hD))
    go_wp2
    go_ret
    exact ⟨rfl, by assumption⟩
end Go.Proofs.Ytafngcmgmdmciab
