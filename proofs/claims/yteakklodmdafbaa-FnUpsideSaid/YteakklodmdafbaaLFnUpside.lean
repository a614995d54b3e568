/-
  The Go function laws.FnUpside answers true at every input and writes nothing that was there. No condition.
-/
import Derived.Test.YteakklodmdafbaaDrawO
namespace Go.Proofs.Yteakklodmdafbaa
open Go.RowKit
set_option linter.unusedVariables false

set_option maxHeartbeats 3200000 in
theorem fnUpside_walk (a0 : Option Addr) (len0 cap0 : Nat) (z0 : List Int) (w : World) (w0 : IsRow .u8 w a0 len0 cap0 z0) :
    Calls Try.prog 3 #[.slice a0 len0 cap0] w fun e w' => e = .returned (.bool true) ∧ Below w.heap.size w w' := by
  obtain ⟨hb0, ha0⟩ := bytes_of_row w0
  have hfl0 := field0
  have hfl1 := field1
  clear w0
  by_cases hbig : 1048576 < len0
  · go_enter Try.func3, Try.ntmps3
    go_wp2_with fail
    refine (big_yes _ _ _ _ hbig).mono ?_
    rintro e w1 ⟨rfl, rfl⟩
    go_wp2
    go_ret
    exact ⟨rfl, Below.refl _ _⟩
  have hs : len0 ≤ 1048576 := by omega
  have HA : Hid (len0 ≠ 0 → ∀ b o s, a0 = some ⟨b, o, s⟩ → b < w.heap.size) := ha0
  have HY : Hid (Bytes w a0 len0) := hb0
  clear hbig ha0 hb0
  go_enter Try.func3, Try.ntmps3
  go_wp2_with fail
  refine (big_any _ _ _ _ hs).mono ?_
  rintro e w1 ⟨rfl, rfl⟩
  go_wp2_with fail
  refine (drawBin_any a0 len0 cap0 w1 hs HY.out HA.out).mono ?_
  rintro e w2 ⟨op, a, b, rfl, hB2⟩
  clear HA HY hs
  obtain ⟨C, hC⟩ : ∃ C, C = binC op b := ⟨_, rfl⟩
  obtain ⟨V, hV⟩ : ∃ V, V = binV op a b := ⟨_, rfl⟩
  have hI : Hid (∀ w, Calls Try.prog 14 #[.int .i64 op, .int .i64 a, .int .i64 b] w fun e w' => e = .returned (res C V) ∧ Below w.heap.size w w') := by intro w; rw [hC, hV]; exact implBin_any op a b w
  have hSp : Hid (∀ w, Calls Try.prog 17 #[.int .i64 op, .int .i64 a, .int .i64 b] w fun e w' => e = .returned (res C V) ∧ Below w.heap.size w w') := by intro w; rw [hC, hV]; exact specBin_any op a b w
  obtain ⟨U, hU⟩ : ∃ U, U = invV op (cm a) (cm b) := ⟨_, rfl⟩
  have hCC : invC op (cm b) = C := by rw [hC, invC, cm_cm, binC_wd]
  have hIn : Hid (∀ w, Calls Try.prog 15 #[.int .i64 op, .int .i64 (cm a), .int .i64 (cm b)] w fun e w' => e = .returned (res C U) ∧ Below w.heap.size w w') := by intro w; rw [← hCC, hU]; exact implInv_any op (cm a) (cm b) w
  have HUV : Hid (C = 0 → U = cm V) := by
    intro h
    rw [hU, invV, hCC, if_pos h, cm_cm, cm_cm, binV_wd, hV]
  clear hC hV hU hCC
  go_wp2_with fail
  refine (hI.out _).mono ?_
  rintro e w3 ⟨rfl, hb⟩
  have hB3 : Below w1.heap.size w1 w3 := hB2.trans (hb.mono hB2.size)
  clear hb hB2
  have hb : Below w3.heap.size w3 (w3.alloc (.cells #[.int .i64 C, .int .i64 V] 27)) := (Below.refl _ _).alloc (Nat.le_refl _) _
  have hv4 := VarI.new w3 C V
  have hB4 : Below w1.heap.size w1 (w3.alloc (.cells #[.int .i64 C, .int .i64 V] 27)) := hB3.trans (hb.mono hB3.size)
  clear hb hB3
  go_wp2_with fail
  refine (implComplement _ _).mono ?_
  rintro e w5 ⟨rfl, rfl⟩
  go_wp2_with fail
  refine (implComplement _ _).mono ?_
  rintro e w5 ⟨rfl, rfl⟩
  go_wp2_with fail
  refine (hIn.out _).mono ?_
  rintro e w5 ⟨rfl, hb⟩
  have hv5 := hv4.below hb
  have hB5 : Below w1.heap.size w1 w5 := hB4.trans (hb.mono hB4.size)
  clear hb hB4 hv4 hIn hI
  have hb : Below w5.heap.size w5 (w5.alloc (.cells #[.int .i64 C, .int .i64 U] 27)) := (Below.refl _ _).alloc (Nat.le_refl _) _
  have hu6 := VarI.new w5 C U
  have hv6 := hv5.below hb
  have hB6 : Below w1.heap.size w1 (w5.alloc (.cells #[.int .i64 C, .int .i64 U] 27)) := hB5.trans (hb.mono hB5.size)
  obtain ⟨hc0, hc1⟩ := hv5.cells
  have hz5 := hv5.lt
  clear hb hB5 hv5
  by_cases hf : C = 0
  · subst hf
    have hU : U = cm V := HUV.out rfl
    clear HUV
    subst hU
    have e1 : (cm (cm a) == wd a) = true := by rw [cm_cm]; simp
    have e2 : (wd (sg a) == wd a) = true := by rw [wd_sg]; simp
    have e3 : (nt (nt (nt a)) == nt a) = true := by
      have h : ∀ x, nt x = 0 ∨ nt x = 1 := by intro x; unfold nt; split <;> simp
      have h0 : nt 0 = 1 := by decide
      have h1 : nt 1 = 0 := by decide
      rcases h a with h | h <;> rw [h] <;> simp [h0, h1]
    have e4 : (wd (a + wd (-a)) == 0) = true := by rw [beq_iff_eq]; unfold wd; omega
    have e5 : (wd (wd (-a) + 65535) == cm a) = true := by rw [beq_iff_eq]; unfold wd cm; omega
    have hA : Hid (∀ (x y : Int) (w : World), Calls Try.prog 14 #[.int .i64 1, .int .i64 x, .int .i64 y] w fun e w' => e = .returned (res 0 (wd (x + y))) ∧ Below w.heap.size w w') := by
      intro x y w
      have h := implBin_any 1 x y w
      have hc : binC 1 y = 0 := by unfold binC; rw [if_neg (by omega), if_neg (by omega)]
      have hv : binV 1 x y = wd (x + y) := by rw [binV, if_pos hc, binW, if_pos rfl]
      rw [hc, hv] at h
      exact h
    go_wp2_with fail
    refine (implNegOf _ _).mono ?_
    rintro e w7 ⟨rfl, rfl⟩
    go_wp2_with fail
    generalize hW6 : w5.alloc (.cells #[.int .i64 0, .int .i64 (cm V)] 27) = w6 at *
    clear hW6 hc0 hc1 hz5
    obtain ⟨hq0, hq1⟩ := hv6.cells
    have hqlt := hv6.lt
    go_region_held3 (fun W => W.cell? ⟨w3.heap.size, 1, none⟩ = some (.int .i64 V)) (go_keep) (first | (go_at_call 17; refine (hSp.out _).mono ?_; rintro e w7 ⟨rfl, hb⟩; have hD : Below w6.heap.size w6 w7 := ((Below.refl w6.heap.size w6).drew).trans (Below.mono hb (Nat.le_refl _)); have k1 := (hD.cell (p := ⟨w3.heap.size, 1, none⟩) hqlt).trans hq1; have hv7 := hv6.below hD; have hu7 := hu6.below hD; have hB7 := hB6.trans (hD.mono hB6.size); clear hb hD) | (go_at_call 19; refine (implWordOf _ _).mono ?_; rintro e w' ⟨rfl, hww⟩; replace hww := hww.symm; subst hww) | (go_at_call 20; refine (specWordOf _ _).mono ?_; rintro e w' ⟨rfl, hww⟩; replace hww := hww.symm; subst hww) | (go_at_call 21; refine (implNotOf _ _).mono ?_; rintro e w' ⟨rfl, hww⟩; replace hww := hww.symm; subst hww) | (go_at_call 22; refine (specNotOf _ _).mono ?_; rintro e w' ⟨rfl, hww⟩; replace hww := hww.symm; subst hww))
    clear hq0 hq1 hqlt hu6 hv6 hB6 k1
    obtain ⟨hq0, hq1⟩ := hv7.cells
    have hqlt := hv7.lt
    obtain ⟨hp0, hp1⟩ := hu7.cells
    have hplt := hu7.lt
    go_wp2_with fail
    go_region_held3 (fun W => W.cell? ⟨w5.heap.size, 0, none⟩ = some (.int .i64 0) ∧ W.cell? ⟨w5.heap.size, 1, none⟩ = some (.int .i64 (cm V)) ∧ W.cell? ⟨w3.heap.size, 1, none⟩ = some (.int .i64 V)) (go_keep) (first | (go_at_call 14; refine (hA.out _ _ _).mono ?_; rintro e w8 ⟨rfl, hb⟩; first | (have j0 := (hb.cell (p := ⟨w5.heap.size, 0, none⟩) hu8.lt).trans k0; have j1 := (hb.cell (p := ⟨w5.heap.size, 1, none⟩) hu8.lt).trans k1; have j2 := (hb.cell (p := ⟨w3.heap.size, 1, none⟩) hv8.lt).trans k2; have hB9 := hB8.trans (hb.mono hB8.size); clear hb) | (have hD : Below w7.heap.size w7 w8 := ((Below.refl w7.heap.size w7).drew).trans (Below.mono hb (Nat.le_refl _)); have k0 := (hD.cell (p := ⟨w5.heap.size, 0, none⟩) hplt).trans hp0; have k1 := (hD.cell (p := ⟨w5.heap.size, 1, none⟩) hplt).trans hp1; have k2 := (hD.cell (p := ⟨w3.heap.size, 1, none⟩) hqlt).trans hq1; have hv8 := hv7.below hD; have hu8 := hu7.below hD; have hB8 := hB7.trans (hD.mono hB7.size); clear hb hD)) | (go_at_call 16; refine (implComplement _ _).mono ?_; rintro e w' ⟨rfl, hww⟩; replace hww := hww.symm; subst hww) | (go_at_call 19; refine (implWordOf _ _).mono ?_; rintro e w' ⟨rfl, hww⟩; replace hww := hww.symm; subst hww) | (go_at_call 23; refine (implSignedOf _ _).mono ?_; rintro e w' ⟨rfl, hww⟩; replace hww := hww.symm; subst hww) | (go_at_call 21; refine (implNotOf _ _).mono ?_; rintro e w' ⟨rfl, hww⟩; replace hww := hww.symm; subst hww))
    go_wp2
    go_ret
    exact ⟨rfl, by assumption⟩
  · have hfb : (C != 0) = true := by simpa using hf
    clear hf HUV
    go_wp2_with fail
    generalize hW6 : w5.alloc (.cells #[.int .i64 C, .int .i64 U] 27) = w6 at *
    clear hW6 hc0 hc1 hz5
    obtain ⟨hq0, hq1⟩ := hv6.cells
    have hqlt := hv6.lt
    obtain ⟨hp0, hp1⟩ := hu6.cells
    have hplt := hu6.lt
    go_region_held3 (fun W => W.cell? ⟨w3.heap.size, 0, none⟩ = some (.int .i64 C) ∧ W.cell? ⟨w5.heap.size, 0, none⟩ = some (.int .i64 C)) (go_keep) (first | (go_at_call 17; refine (hSp.out _).mono ?_; rintro e w7 ⟨rfl, hb⟩; have hD : Below w6.heap.size w6 w7 := ((Below.refl w6.heap.size w6).drew).trans (Below.mono hb (Nat.le_refl _)); have k0 := (hD.cell (p := ⟨w3.heap.size, 0, none⟩) hqlt).trans hq0; have k1 := (hD.cell (p := ⟨w5.heap.size, 0, none⟩) hplt).trans hp0; have hB7 := hB6.trans (hD.mono hB6.size); clear hb hD))
    go_wp2
    go_ret
    exact ⟨rfl, by assumption⟩
end Go.Proofs.Yteakklodmdafbaa
