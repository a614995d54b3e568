/-
  The Go function laws.FnDivides answers true at every input and writes nothing that was there. No condition.
-/
import Derived.Test.YteakklodmdafbaaDrawO
import Derived.Deep.DrawnRows
namespace Go.Proofs.Yteakklodmdafbaa
open Go.RowKit
set_option linter.unusedVariables false
attribute [local go_sem ↓] Go.wp_at_zero Go.wp_at_succ

theorem bin_in (k x y : Int) (h1 : 1 ≤ k) (h2 : k ≤ 10) (h4 : k ≠ 4) (h5 : k ≠ 5) : binC k y = 0 ∧ binV k x y = binW k x y := by
  have hc : binC k y = 0 := by unfold binC; rw [if_neg (by omega), if_neg (by omega)]
  exact ⟨hc, by rw [binV, if_pos hc]⟩
theorem keep2 {w W : World} {p1 p2 : Addr} {v1 v2 : Option Value} (h1 : p1.block < w.heap.size) (e1 : w.cell? p1 = v1) (h2 : p2.block < w.heap.size) (e2 : w.cell? p2 = v2) (hB : Below w.heap.size w W) : W.cell? p1 = v1 ∧ W.cell? p2 = v2 ∧ Below w.heap.size w W :=
  ⟨(hB.cell h1).trans e1, (hB.cell h2).trans e2, hB⟩
theorem step2 {w W W' : World} {A B : Prop} (h : A ∧ B ∧ Below w.heap.size w W) (hb : Below W.heap.size W W') : Below w.heap.size w W' := h.2.2.trans (hb.mono h.2.2.size)

set_option maxHeartbeats 3200000 in
theorem fnDivides_walk (a0 : Option Addr) (len0 cap0 : Nat) (z0 : List Int) (w : World) (w0 : IsRow .u8 w a0 len0 cap0 z0) :
    Calls Try.prog 4 #[.slice a0 len0 cap0] w fun e w' => e = .returned (.bool true) ∧ Below w.heap.size w w' := by
  obtain ⟨hb0, ha0⟩ := bytes_of_row w0
  have hfl0 := field0
  have hfl1 := field1
  clear w0
  by_cases hbig : 1048576 < len0
  · go_enter Try.func4, Try.ntmps4
    go_wp2_with fail
    refine (big_yes _ _ _ _ hbig).mono ?_
    rintro e w1 ⟨rfl, rfl⟩
    go_wp2
    go_ret
    exact ⟨rfl, Below.refl _ _⟩
  have hs : len0 ≤ 1048576 := by omega
  have HA : Hid (len0 ≠ 0 → ∀ b o s, a0 = some ⟨b, o, s⟩ → b < w.heap.size) := ha0
  have HY : Hid (Bytes w a0 len0) := hb0
  clear hbig ha0 hb0
  go_enter Try.func4, Try.ntmps4
  go_wp2_with fail
  refine (big_any _ _ _ _ hs).mono ?_
  rintro e w1 ⟨rfl, rfl⟩
  go_wp2_with fail
  refine (drawInv_any a0 len0 cap0 w1 hs HY.out HA.out).mono ?_
  rintro e w2 ⟨op, a, b, rfl, hB2⟩
  clear HA HY hs
  by_cases hz : wd b = 0
  · have hzb : (wd b == 0) = true := by rw [hz]; rfl
    have h4 : Hid (∀ w, Calls Try.prog 14 #[.int .i64 4, .int .i64 a, .int .i64 b] w fun e w' => e = .returned (res 4 0) ∧ Below w.heap.size w w') := fun w => implBin_zero 4 a b w (.inl rfl) hz
    have h5 : Hid (∀ w, Calls Try.prog 14 #[.int .i64 5, .int .i64 a, .int .i64 b] w fun e w' => e = .returned (res 4 0) ∧ Below w.heap.size w w') := fun w => implBin_zero 5 a b w (.inr rfl) hz
    clear hz
    go_wp2_with fail
    refine (h4.out _).mono ?_
    rintro e w3 ⟨rfl, hb⟩
    have hB3 : Below w1.heap.size w1 w3 := hB2.trans (hb.mono hB2.size)
    clear hb hB2
    have hb : Below w3.heap.size w3 (w3.alloc (.cells #[.int .i64 4, .int .i64 0] 27)) := (Below.refl _ _).alloc (Nat.le_refl _) _
    have hv4 := VarI.new w3 4 0
    have hB4 : Below w1.heap.size w1 (w3.alloc (.cells #[.int .i64 4, .int .i64 0] 27)) := hB3.trans (hb.mono hB3.size)
    clear hb hB3
    go_wp2_with fail
    refine (h5.out _).mono ?_
    rintro e w5 ⟨rfl, hb⟩
    have hv5 := hv4.below hb
    have hB5 : Below w1.heap.size w1 w5 := hB4.trans (hb.mono hB4.size)
    clear hb hB4 hv4
    have hb : Below w5.heap.size w5 (w5.alloc (.cells #[.int .i64 4, .int .i64 0] 27)) := (Below.refl _ _).alloc (Nat.le_refl _) _
    have hu6 := VarI.new w5 4 0
    have hv6 := hv5.below hb
    have hB6 : Below w1.heap.size w1 (w5.alloc (.cells #[.int .i64 4, .int .i64 0] 27)) := hB5.trans (hb.mono hB5.size)
    obtain ⟨hc0, hc1⟩ := hv5.cells
    have hz5 := hv5.lt
    clear hb hB5 hv5
    go_wp2_with fail
    generalize hW6 : w5.alloc (.cells #[.int .i64 4, .int .i64 0] 27) = w6 at *
    clear hW6 hc0 hc1 hz5
    obtain ⟨hq0, hq1⟩ := hv6.cells
    obtain ⟨hp0, hp1⟩ := hu6.cells
    refine (implWordOf _ _).mono ?_
    rintro e w7 ⟨rfl, rfl⟩
    go_wp2
    go_ret
    exact ⟨rfl, hB6⟩
  · have hzb : (wd b == 0) = false := by simpa using hz
    obtain ⟨Q, hQ⟩ : ∃ Q, Q = binW 4 a b := ⟨_, rfl⟩
    obtain ⟨M, hM⟩ : ∃ M, M = binW 5 a b := ⟨_, rfl⟩
    obtain ⟨T, hT⟩ : ∃ T, T = binW 3 Q b := ⟨_, rfl⟩
    have hback : binW 1 T M = wd a := by
      have h := quo_back a b
      rw [hT, hQ, hM]
      simpa [binW] using h
    have h4 : Hid (∀ w, Calls Try.prog 14 #[.int .i64 4, .int .i64 a, .int .i64 b] w fun e w' => e = .returned (res 0 Q) ∧ Below w.heap.size w w') := by intro w; rw [hQ]; exact implBin_4 a b w hz
    have h5 : Hid (∀ w, Calls Try.prog 14 #[.int .i64 5, .int .i64 a, .int .i64 b] w fun e w' => e = .returned (res 0 M) ∧ Below w.heap.size w w') := by intro w; rw [hM]; exact implBin_5 a b w hz
    have hG : Hid (∀ (k x y : Int) (w : World), Calls Try.prog 14 #[.int .i64 k, .int .i64 x, .int .i64 y] w fun e w' => e = .returned (res (binC k y) (binV k x y)) ∧ Below w.heap.size w w') := fun k x y w => implBin_any k x y w
    obtain ⟨c3, v3⟩ := bin_in 3 Q b (by omega) (by omega) (by omega) (by omega)
    obtain ⟨c1, v1⟩ := bin_in 1 T M (by omega) (by omega) (by omega) (by omega)
    rw [← hT] at v3
    rw [hback] at v1
    obtain ⟨c9, v9⟩ := bin_in 9 a b (by omega) (by omega) (by omega) (by omega)
    obtain ⟨c9b, v9b⟩ := bin_in 9 b a (by omega) (by omega) (by omega) (by omega)
    obtain ⟨c10, v10⟩ := bin_in 10 a b (by omega) (by omega) (by omega) (by omega)
    obtain ⟨c6, v6⟩ := bin_in 6 a b (by omega) (by omega) (by omega) (by omega)
    obtain ⟨c7, v7⟩ := bin_in 7 a b (by omega) (by omega) (by omega) (by omega)
    obtain ⟨c8, v8⟩ := bin_in 8 a b (by omega) (by omega) (by omega) (by omega)
    clear hQ hM hT hback hz
    have hless : binW 9 a b + binW 9 b a + binW 10 a b = 1 ∧ 0 ≤ binW 9 a b ∧ binW 9 a b ≤ 1 ∧ 0 ≤ binW 9 b a ∧ binW 9 b a ≤ 1 ∧ 0 ≤ binW 10 a b ∧ binW 10 a b ≤ 1 := by
      have hsm := sg_same a b
      simp only [binW]
      simp
      by_cases e1 : sg a < sg b <;> by_cases e2 : sg b < sg a <;> by_cases e3 : wd a = wd b <;> simp [e1, e2, e3] <;> omega
    have hboth : binW 6 a b + binW 8 a b = binW 7 a b ∧ 0 ≤ binW 6 a b ∧ binW 6 a b ≤ 65535 ∧ 0 ≤ binW 8 a b ∧ binW 8 a b ≤ 65535 := by
      refine ⟨?_, binW_lo _ _ _, binW_hi _ _ _, binW_lo _ _ _, binW_hi _ _ _⟩
      have h := both_or (wd a).toNat (wd b).toNat
      simp only [binW]
      simp
      omega
    generalize binW 9 a b = L1 at *
    generalize binW 9 b a = L2 at *
    generalize binW 10 a b = L3 at *
    generalize binW 6 a b = B6 at *
    generalize binW 7 a b = B7 at *
    generalize binW 8 a b = B8 at *
    obtain ⟨hl, hl1, hl2, hl3, hl4, hl5, hl6⟩ := hless
    have hlb : (L1 + L2 + L3 == 1) = true := by rw [hl]; rfl
    obtain ⟨hbo, hbo1, hbo2, hbo3, hbo4⟩ := hboth
    have hbb : (B6 + B8 == B7) = true := by rw [hbo]; simp
    have h9 : Hid (∀ w, Calls Try.prog 14 #[.int .i64 9, .int .i64 a, .int .i64 b] w fun e w' => e = .returned (res 0 L1) ∧ Below w.heap.size w w') := by intro w; have h := hG.out 9 a b w; rw [c9, v9] at h; exact h
    have h9b : Hid (∀ w, Calls Try.prog 14 #[.int .i64 9, .int .i64 b, .int .i64 a] w fun e w' => e = .returned (res 0 L2) ∧ Below w.heap.size w w') := by intro w; have h := hG.out 9 b a w; rw [c9b, v9b] at h; exact h
    have h10 : Hid (∀ w, Calls Try.prog 14 #[.int .i64 10, .int .i64 a, .int .i64 b] w fun e w' => e = .returned (res 0 L3) ∧ Below w.heap.size w w') := by intro w; have h := hG.out 10 a b w; rw [c10, v10] at h; exact h
    have h6 : Hid (∀ w, Calls Try.prog 14 #[.int .i64 6, .int .i64 a, .int .i64 b] w fun e w' => e = .returned (res 0 B6) ∧ Below w.heap.size w w') := by intro w; have h := hG.out 6 a b w; rw [c6, v6] at h; exact h
    have h7 : Hid (∀ w, Calls Try.prog 14 #[.int .i64 7, .int .i64 a, .int .i64 b] w fun e w' => e = .returned (res 0 B7) ∧ Below w.heap.size w w') := by intro w; have h := hG.out 7 a b w; rw [c7, v7] at h; exact h
    have h8 : Hid (∀ w, Calls Try.prog 14 #[.int .i64 8, .int .i64 a, .int .i64 b] w fun e w' => e = .returned (res 0 B8) ∧ Below w.heap.size w w') := by intro w; have h := hG.out 8 a b w; rw [c8, v8] at h; exact h
    clear hl hbo c9 v9 c9b v9b c10 v10 c6 v6 c7 v7 c8 v8
    go_wp2_with fail
    refine (h4.out _).mono ?_
    rintro e w3 ⟨rfl, hb⟩
    have hB3 : Below w1.heap.size w1 w3 := hB2.trans (hb.mono hB2.size)
    clear hb hB2
    have hb : Below w3.heap.size w3 (w3.alloc (.cells #[.int .i64 0, .int .i64 Q] 27)) := (Below.refl _ _).alloc (Nat.le_refl _) _
    have hv4 := VarI.new w3 0 Q
    have hB4 : Below w1.heap.size w1 (w3.alloc (.cells #[.int .i64 0, .int .i64 Q] 27)) := hB3.trans (hb.mono hB3.size)
    clear hb hB3
    go_wp2_with fail
    refine (h5.out _).mono ?_
    rintro e w5 ⟨rfl, hb⟩
    have hv5 := hv4.below hb
    have hB5 : Below w1.heap.size w1 w5 := hB4.trans (hb.mono hB4.size)
    clear hb hB4 hv4
    have hb : Below w5.heap.size w5 (w5.alloc (.cells #[.int .i64 0, .int .i64 M] 27)) := (Below.refl _ _).alloc (Nat.le_refl _) _
    have hu6 := VarI.new w5 0 M
    have hv6 := hv5.below hb
    have hB6 : Below w1.heap.size w1 (w5.alloc (.cells #[.int .i64 0, .int .i64 M] 27)) := hB5.trans (hb.mono hB5.size)
    obtain ⟨hc0, hc1⟩ := hv5.cells
    have hz5 := hv5.lt
    clear hb hB5 hv5 h4 h5
    go_wp2_with fail
    generalize hW6 : w5.alloc (.cells #[.int .i64 0, .int .i64 M] 27) = w6 at *
    clear hW6 hc0 hc1 hz5
    obtain ⟨hq0, hq1⟩ := hv6.cells
    obtain ⟨hp0, hp1⟩ := hu6.cells
    have hqlt := hv6.lt
    have hplt := hu6.lt
    have C3 : Hid (∀ w, Calls Try.prog 14 #[.int .i64 3, .int .i64 Q, .int .i64 b] w fun e w' => e = .returned (res 0 T) ∧ Below w.heap.size w w') := by intro w; have h := hG.out 3 Q b w; rw [c3, v3] at h; exact h
    clear C3
    go_region_held3 (fun W => W.cell? ⟨w3.heap.size, 1, none⟩ = some (.int .i64 Q) ∧ W.cell? ⟨w5.heap.size, 1, none⟩ = some (.int .i64 M) ∧ Below w6.heap.size w6 W) ((refine keep2 hqlt hq1 hplt hp1 ?_; go_grown)) (first | (go_at_call 14; refine (hG.out _ _ _ _).mono ?_; first | (have hcheck := hBk7; clear hcheck; rintro e w8 ⟨rfl, hb⟩; have hBk8 : Below w6.heap.size w6 w8 := step2 (by assumption) hb; have hs8 := hBk8.size; first | (have hown := own2 hb; obtain ⟨hd0, hd1, hg0, hg1, hy⟩ := hown) | (have hd0 := (hb.cell (p := ⟨w6.heap.size, 0, none⟩) hz).trans hc0; have hd1 := (hb.cell (p := ⟨w6.heap.size, 1, none⟩) hz).trans hc1; have hg0 := (hb.frozen (p := ⟨w6.heap.size, 0, none⟩) hz).trans hf0; have hg1 := (hb.frozen (p := ⟨w6.heap.size, 1, none⟩) hz).trans hf1; have hy := Nat.lt_of_lt_of_le hz hb.size) | skip) | (rintro e w7 ⟨rfl, hb⟩; have hBk7 : Below w6.heap.size w6 w7 := step2 (by assumption) hb; have hs7 := hBk7.size; first | (have hown := own2 (w := w6) (x := .int .i64 0) (y := .int .i64 0) (T := 27) (w' := w7) ⟨hb.os, hb.tape, hb.output, hb.size, hb.block⟩; obtain ⟨hc0, hc1, hf0, hf1, hz⟩ := hown) | skip)))
    rotate_left
    · have hP1 : ((w8.setCell ⟨w7.heap.size, 0, none⟩ (.int .i64 0)).setCell ⟨w7.heap.size, 1, none⟩ (.int .i64 (wd a))).cell? ⟨w7.heap.size, 1, none⟩ = some (.int .i64 (wd a)) := by simp [go_sem, hd1]
      have hPl : w7.heap.size < ((w8.setCell ⟨w7.heap.size, 0, none⟩ (.int .i64 0)).setCell ⟨w7.heap.size, 1, none⟩ (.int .i64 (wd a))).heap.size := World.block_lt_of_cell? _ _ hP1
      have hB9 : Below w6.heap.size w6 ((w8.setCell ⟨w7.heap.size, 0, none⟩ (.int .i64 0)).setCell ⟨w7.heap.size, 1, none⟩ (.int .i64 (wd a))) := by go_grown
      generalize ((w8.setCell ⟨w7.heap.size, 0, none⟩ (.int .i64 0)).setCell ⟨w7.heap.size, 1, none⟩ (.int .i64 (wd a))) = w9 at hP1 hPl hB9 ⊢
      clear hd0 hd1 hg0 hg1 hy hBk8 hs8 hBk7 hs7
      generalize w7.heap.size = P at hP1 hPl ⊢
      have hm0 : w9.cell? ⟨w5.heap.size, 0, none⟩ = some (.int .i64 0) := (hB9.cell (p := ⟨w5.heap.size, 0, none⟩) hplt).trans hp0
      have hl5 : w5.heap.size < w9.heap.size := Nat.lt_of_lt_of_le hplt hB9.size
      have hB10 : Below w1.heap.size w1 w9 := hB6.trans (hB9.mono hB6.size)
      clear hp0 hp1 hq0 hq1 hB9 hB6 hu6 hv6
      go_wp2_with fail
      refine (h9.out _).mono ?_
      rintro e wa ⟨rfl, hb⟩
      have hBa : Below w9.heap.size w9 wa := hb
      clear hb
      go_wp2_with fail
      refine (h9b.out _).mono ?_
      rintro e wb ⟨rfl, hb⟩
      have hBb : Below w9.heap.size w9 wb := hBa.trans (hb.mono hBa.size)
      clear hb hBa
      go_wp2_with fail
      refine (h10.out _).mono ?_
      rintro e wc ⟨rfl, hb⟩
      have hBc : Below w9.heap.size w9 wc := hBb.trans (hb.mono hBb.size)
      clear hb hBb
      go_wp2_with fail
      refine (h6.out _).mono ?_
      rintro e wf ⟨rfl, hb⟩
      have hBd : Below w9.heap.size w9 wf := hBc.trans (hb.mono hBc.size)
      clear hb hBc
      go_wp2_with fail
      refine (h8.out _).mono ?_
      rintro e wg ⟨rfl, hb⟩
      have hBe : Below w9.heap.size w9 wg := hBd.trans (hb.mono hBd.size)
      clear hb hBd
      have kP := (hBe.cell (p := ⟨P, 1, none⟩) hPl).trans hP1
      have km := (hBe.cell (p := ⟨w5.heap.size, 0, none⟩) hl5).trans hm0
      have hzP : P < wg.heap.size := Nat.lt_of_lt_of_le hPl hBe.size
      have hz5 : w5.heap.size < wg.heap.size := Nat.lt_of_lt_of_le hl5 hBe.size
      have hB11 : Below w1.heap.size w1 wg := hB10.trans (hBe.mono hB10.size)
      clear hBe hP1 hPl hm0 hl5 hB10 h9 h9b h10 h6 h8 hG
      go_wp2_with fail
      go_region_held3 (fun W => W.cell? ⟨P, 1, none⟩ = some (.int .i64 (wd a)) ∧ W.cell? ⟨w5.heap.size, 0, none⟩ = some (.int .i64 0)) (go_keep) (first | (go_at_call 14; refine (h7.out _).mono ?_; rintro e wh ⟨rfl, hb⟩; have hD : Below wg.heap.size wg wh := ((Below.refl wg.heap.size wg).drew).trans (Below.mono hb (Nat.le_refl _)); have k0 := (hD.cell (p := ⟨P, 1, none⟩) hzP).trans kP; have k1 := (hD.cell (p := ⟨w5.heap.size, 0, none⟩) hz5).trans km; have hB12 := hB11.trans (hD.mono hB11.size); clear hb hD) | (go_at_call 19; refine (implWordOf _ _).mono ?_; rintro e w' ⟨rfl, hww⟩; replace hww := hww.symm; subst hww))
      go_wp2
      go_ret
      exact ⟨rfl, by assumption⟩
    · have hP1 : ((w8.setCell ⟨w6.heap.size, 0, none⟩ (.int .i64 0)).setCell ⟨w6.heap.size, 1, none⟩ (.int .i64 (wd a))).cell? ⟨w6.heap.size, 1, none⟩ = some (.int .i64 (wd a)) := by simp [go_sem, hd1]
      have hPl : w6.heap.size < ((w8.setCell ⟨w6.heap.size, 0, none⟩ (.int .i64 0)).setCell ⟨w6.heap.size, 1, none⟩ (.int .i64 (wd a))).heap.size := World.block_lt_of_cell? _ _ hP1
      have hB9 : Below w6.heap.size w6 ((w8.setCell ⟨w6.heap.size, 0, none⟩ (.int .i64 0)).setCell ⟨w6.heap.size, 1, none⟩ (.int .i64 (wd a))) := by go_grown
      generalize ((w8.setCell ⟨w6.heap.size, 0, none⟩ (.int .i64 0)).setCell ⟨w6.heap.size, 1, none⟩ (.int .i64 (wd a))) = w9 at hP1 hPl hB9 ⊢
      clear hd0 hd1 hg0 hg1 hy hBk8 hs8 hBk7 hs7 hc0 hc1 hf0 hf1 hz
      generalize w6.heap.size = P at hP1 hPl ⊢
      have hm0 : w9.cell? ⟨w5.heap.size, 0, none⟩ = some (.int .i64 0) := (hB9.cell (p := ⟨w5.heap.size, 0, none⟩) hplt).trans hp0
      have hl5 : w5.heap.size < w9.heap.size := Nat.lt_of_lt_of_le hplt hB9.size
      have hB10 : Below w1.heap.size w1 w9 := hB6.trans (hB9.mono hB6.size)
      clear hp0 hp1 hq0 hq1 hB9 hB6 hu6 hv6
      go_wp2_with fail
      refine (h9.out _).mono ?_
      rintro e wa ⟨rfl, hb⟩
      have hBa : Below w9.heap.size w9 wa := hb
      clear hb
      go_wp2_with fail
      refine (h9b.out _).mono ?_
      rintro e wb ⟨rfl, hb⟩
      have hBb : Below w9.heap.size w9 wb := hBa.trans (hb.mono hBa.size)
      clear hb hBa
      go_wp2_with fail
      refine (h10.out _).mono ?_
      rintro e wc ⟨rfl, hb⟩
      have hBc : Below w9.heap.size w9 wc := hBb.trans (hb.mono hBb.size)
      clear hb hBb
      go_wp2_with fail
      refine (h6.out _).mono ?_
      rintro e wf ⟨rfl, hb⟩
      have hBd : Below w9.heap.size w9 wf := hBc.trans (hb.mono hBc.size)
      clear hb hBc
      go_wp2_with fail
      refine (h8.out _).mono ?_
      rintro e wg ⟨rfl, hb⟩
      have hBe : Below w9.heap.size w9 wg := hBd.trans (hb.mono hBd.size)
      clear hb hBd
      have kP := (hBe.cell (p := ⟨P, 1, none⟩) hPl).trans hP1
      have km := (hBe.cell (p := ⟨w5.heap.size, 0, none⟩) hl5).trans hm0
      have hzP : P < wg.heap.size := Nat.lt_of_lt_of_le hPl hBe.size
      have hz5 : w5.heap.size < wg.heap.size := Nat.lt_of_lt_of_le hl5 hBe.size
      have hB11 : Below w1.heap.size w1 wg := hB10.trans (hBe.mono hB10.size)
      clear hBe hP1 hPl hm0 hl5 hB10 h9 h9b h10 h6 h8 hG
      go_wp2_with fail
      go_region_held3 (fun W => W.cell? ⟨P, 1, none⟩ = some (.int .i64 (wd a)) ∧ W.cell? ⟨w5.heap.size, 0, none⟩ = some (.int .i64 0)) (go_keep) (first | (go_at_call 14; refine (h7.out _).mono ?_; rintro e wh ⟨rfl, hb⟩; have hD : Below wg.heap.size wg wh := ((Below.refl wg.heap.size wg).drew).trans (Below.mono hb (Nat.le_refl _)); have k0 := (hD.cell (p := ⟨P, 1, none⟩) hzP).trans kP; have k1 := (hD.cell (p := ⟨w5.heap.size, 0, none⟩) hz5).trans km; have hB12 := hB11.trans (hD.mono hB11.size); clear hb hD) | (go_at_call 19; refine (implWordOf _ _).mono ?_; rintro e w' ⟨rfl, hww⟩; replace hww := hww.symm; subst hww))
      go_wp2
      go_ret
      exact ⟨rfl, by assumption⟩
    · have hP1 : (w8.alloc (.cells #[.int .i64 0, .int .i64 (wd a)] 27)).cell? ⟨w8.heap.size, 1, none⟩ = some (.int .i64 (wd a)) := by simp
      have hPl : w8.heap.size < (w8.alloc (.cells #[.int .i64 0, .int .i64 (wd a)] 27)).heap.size := World.block_lt_of_cell? _ _ hP1
      have hB9 : Below w6.heap.size w6 (w8.alloc (.cells #[.int .i64 0, .int .i64 (wd a)] 27)) := by go_grown
      generalize (w8.alloc (.cells #[.int .i64 0, .int .i64 (wd a)] 27)) = w9 at hP1 hPl hB9 ⊢
      clear hBk8 hs8 hBk7 hs7
      generalize w8.heap.size = P at hP1 hPl ⊢
      have hm0 : w9.cell? ⟨w5.heap.size, 0, none⟩ = some (.int .i64 0) := (hB9.cell (p := ⟨w5.heap.size, 0, none⟩) hplt).trans hp0
      have hl5 : w5.heap.size < w9.heap.size := Nat.lt_of_lt_of_le hplt hB9.size
      have hB10 : Below w1.heap.size w1 w9 := hB6.trans (hB9.mono hB6.size)
      clear hp0 hp1 hq0 hq1 hB9 hB6 hu6 hv6
      go_wp2_with fail
      refine (h9.out _).mono ?_
      rintro e wa ⟨rfl, hb⟩
      have hBa : Below w9.heap.size w9 wa := hb
      clear hb
      go_wp2_with fail
      refine (h9b.out _).mono ?_
      rintro e wb ⟨rfl, hb⟩
      have hBb : Below w9.heap.size w9 wb := hBa.trans (hb.mono hBa.size)
      clear hb hBa
      go_wp2_with fail
      refine (h10.out _).mono ?_
      rintro e wc ⟨rfl, hb⟩
      have hBc : Below w9.heap.size w9 wc := hBb.trans (hb.mono hBb.size)
      clear hb hBb
      go_wp2_with fail
      refine (h6.out _).mono ?_
      rintro e wf ⟨rfl, hb⟩
      have hBd : Below w9.heap.size w9 wf := hBc.trans (hb.mono hBc.size)
      clear hb hBc
      go_wp2_with fail
      refine (h8.out _).mono ?_
      rintro e wg ⟨rfl, hb⟩
      have hBe : Below w9.heap.size w9 wg := hBd.trans (hb.mono hBd.size)
      clear hb hBd
      have kP := (hBe.cell (p := ⟨P, 1, none⟩) hPl).trans hP1
      have km := (hBe.cell (p := ⟨w5.heap.size, 0, none⟩) hl5).trans hm0
      have hzP : P < wg.heap.size := Nat.lt_of_lt_of_le hPl hBe.size
      have hz5 : w5.heap.size < wg.heap.size := Nat.lt_of_lt_of_le hl5 hBe.size
      have hB11 : Below w1.heap.size w1 wg := hB10.trans (hBe.mono hB10.size)
      clear hBe hP1 hPl hm0 hl5 hB10 h9 h9b h10 h6 h8 hG
      go_wp2_with fail
      go_region_held3 (fun W => W.cell? ⟨P, 1, none⟩ = some (.int .i64 (wd a)) ∧ W.cell? ⟨w5.heap.size, 0, none⟩ = some (.int .i64 0)) (go_keep) (first | (go_at_call 14; refine (h7.out _).mono ?_; rintro e wh ⟨rfl, hb⟩; have hD : Below wg.heap.size wg wh := ((Below.refl wg.heap.size wg).drew).trans (Below.mono hb (Nat.le_refl _)); have k0 := (hD.cell (p := ⟨P, 1, none⟩) hzP).trans kP; have k1 := (hD.cell (p := ⟨w5.heap.size, 0, none⟩) hz5).trans km; have hB12 := hB11.trans (hD.mono hB11.size); clear hb hD) | (go_at_call 19; refine (implWordOf _ _).mono ?_; rintro e w' ⟨rfl, hww⟩; replace hww := hww.symm; subst hww))
      go_wp2
      go_ret
      exact ⟨rfl, by assumption⟩
end Go.Proofs.Yteakklodmdafbaa
