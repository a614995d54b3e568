/-
  The Go function laws.FnExactBadBlock answers true at every input and writes nothing that was there. No condition.
-/
import Derived.Test.YtafngcmgmdmciabBad2
namespace Go.Proofs.Ytafngcmgmdmciab
open Go.RowKit
set_option linter.unusedVariables false

set_option maxHeartbeats 3200000 in
theorem fnExactBadBlock_walk (a0 : Option Addr) (len0 cap0 : Nat) (z0 : List Int) (a1 : Option Addr) (len1 cap1 : Nat) (z1 : List Int) (w : World) (w0 : IsRow .i64 w a0 len0 cap0 z0) (w1 : IsRow .i64 w a1 len1 cap1 z1) :
    Calls Try.prog 5 #[.slice a0 len0 cap0, .slice a1 len1 cap1] w fun e w' => e = .returned (.bool true) ∧ Below w.heap.size w w' := by
  obtain ⟨hl, hn⟩ := nums_of_row w0
  obtain ⟨zs, hzs⟩ : ∃ zs, zs = z0.take len0 := ⟨_, rfl⟩
  rw [← hzs] at hl hn
  subst hl
  clear hzs w0
  obtain ⟨hl, hm⟩ := nums_of_row w1
  obtain ⟨ss, hss⟩ : ∃ ss, ss = z1.take len1 := ⟨_, rfl⟩
  rw [← hss] at hl hm
  subst hl
  clear hss w1
  by_cases hbig : 1048576 < zs.length
  · go_enter Try.func5, Try.ntmps5
    go_wp2
    go_ret
    exact ⟨rfl, Below.refl _ _⟩
  have hs : zs.length ≤ 1048576 := by omega
  clear hbig
  by_cases hbig : 1048576 < ss.length
  · go_enter Try.func5, Try.ntmps5
    go_wp2
    go_ret
    exact ⟨rfl, Below.refl _ _⟩
  have hs2 : ss.length ≤ 1048576 := by omega
  clear hbig
  go_enter Try.func5, Try.ntmps5
  go_wp2_with fail
  refine (copy_any a0 zs cap0 w hs hn).mono ?_
  rintro e w1 ⟨rfl, ho1, hb⟩
  have hB1 := hb
  have hx1 := (nums_of_own ho1).2
  clear ho1 hb
  go_wp2_with fail
  refine (copy_any a1 ss cap1 w1 hs2 (hm.below hB1)).mono ?_
  rintro e w2 ⟨rfl, ho2, hb⟩
  have hy2 := (nums_of_own ho2).2
  have hx2 := hx1.below hb
  have hB2 : Below w.heap.size w w2 := hB1.trans (hb.mono hB1.size)
  clear ho2 hb hB1 hx1
  go_wp2_with fail
  refine (specBad_any _ _ zs ss _ _ w2 (Nat.le_refl _) hs hs2 hx2 hy2).mono ?_
  rintro e w3 ⟨rfl, hb⟩
  have hB3 : Below w.heap.size w w3 := hB2.trans (hb.mono hB2.size)
  clear hb hB2 hx2 hy2
  have hB3' : Below w.heap.size w (w3.alloc (.cells #[.int .i64 (bad zs ss).1, .int .i64 (bad zs ss).2] 27)) := hB3.alloc hB3.size _
  go_wp2_with fail
  refine (copy_any a0 zs cap0 _ hs (hn.below hB3')).mono ?_
  rintro e w4 ⟨rfl, ho4, hb⟩
  obtain ⟨hc0, hc1, hf0, hf1, hz⟩ := own2 hb
  have hB4 : Below w.heap.size w w4 := hB3'.trans (hb.mono hB3'.size)
  have hx4 : Nums w4 (some ⟨w3.heap.size + 1, 0, none⟩) zs := by have h := (nums_of_own ho4).2; rw [World.size_alloc] at h; exact h
  clear hb hB3' hB3 ho4 hf0 hf1
  go_wp2_with fail
  refine (copy_any a1 ss cap1 w4 hs2 (hm.below hB4)).mono ?_
  rintro e w5 ⟨rfl, ho5, hb⟩
  have hy5 := (nums_of_own ho5).2
  have hx5 := hx4.below hb
  have hB5 : Below w.heap.size w w5 := hB4.trans (hb.mono hB4.size)
  have hd0 := (hb.cell (p := ⟨w3.heap.size, 0, none⟩) hz).trans hc0
  have hd1 := (hb.cell (p := ⟨w3.heap.size, 1, none⟩) hz).trans hc1
  have hz5 : w3.heap.size < w5.heap.size := Nat.lt_of_lt_of_le hz hb.size
  clear hb hB4 hx4 hc0 hc1 hz ho5
  go_wp2_with fail
  refine (implBad_any _ _ zs ss _ _ w5 (Nat.le_refl _) hs hs2 hx5 hy5).mono ?_
  rintro e w6 ⟨rfl, hb⟩
  have hy6 := hy5.below hb
  have hx6 := hx5.below hb
  have hB6 : Below w.heap.size w w6 := hB5.trans (hb.mono hB5.size)
  have hc0 := (hb.cell (p := ⟨w3.heap.size, 0, none⟩) hz5).trans hd0
  have hc1 := (hb.cell (p := ⟨w3.heap.size, 1, none⟩) hz5).trans hd1
  have hz6 : w3.heap.size < w6.heap.size := Nat.lt_of_lt_of_le hz5 hb.size
  clear hb hB5 hx5 hy5 hd0 hd1 hz5
  go_wp2_with fail
  refine (eqRes_any _ _ _).mono ?_
  rintro e w7 ⟨rfl, hb⟩
  have hy7 := hy6.below (back hb)
  have hx7 := hx6.below (back hb)
  have hB7 : Below w.heap.size w w7 := hB6.trans ((back hb).mono hB6.size)
  clear hb hB6 hx6 hy6 hc0 hc1 hz6
  go_wp2_with fail
  refine (copy_any a0 zs cap0 w7 hs (hn.below hB7)).mono ?_
  rintro e w8 ⟨rfl, ho8, hb⟩
  have hn8 := (nums_of_own ho8).2
  have hy8 := hy7.below hb
  have hx8 := hx7.below hb
  have hB8 : Below w.heap.size w w8 := hB7.trans (hb.mono hB7.size)
  clear hb hB7 hx7 hy7 ho8
  go_wp2_with fail
  refine (eqNums_any _ _ zs _ _ w8 (by omega) hx8 hn8).mono ?_
  rintro e w9 ⟨rfl, hb⟩
  have hy9 := hy8.below hb
  have hB9 : Below w.heap.size w w9 := hB8.trans (hb.mono hB8.size)
  clear hb hB8 hx8 hy8 hn8
  go_wp2_with fail
  refine (copy_any a1 ss cap1 w9 hs2 (hm.below hB9)).mono ?_
  rintro e w10 ⟨rfl, ho10, hb⟩
  have hn10 := (nums_of_own ho10).2
  have hy10 := hy9.below hb
  have hB10 : Below w.heap.size w w10 := hB9.trans (hb.mono hB9.size)
  clear hb hB9 hy9 ho10
  go_wp2_with fail
  refine (eqNums_any _ _ ss _ _ w10 (by omega) hy10 hn10).mono ?_
  rintro e w11 ⟨rfl, hb⟩
  have hB11 : Below w.heap.size w w11 := hB10.trans (hb.mono hB10.size)
  clear hb hB10 hy10 hn10
  go_wp2
  go_ret
  exact ⟨rfl, hB11⟩
end Go.Proofs.Ytafngcmgmdmciab
