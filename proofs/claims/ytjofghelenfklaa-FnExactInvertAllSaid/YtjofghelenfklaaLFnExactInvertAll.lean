/-
  The Go function laws.FnExactInvertAll answers true at every input and writes nothing that was there. No condition.
-/
import Derived.Test.YtjofghelenfklaaIInv
import Derived.Test.YtjofghelenfklaaMarks
namespace Go.Proofs.Ytjofghelenfklaa
open Go.RowKit
set_option linter.unusedVariables false

set_option maxHeartbeats 3200000 in
theorem fnExactInvertAll_walk (a0 : Option Addr) (len0 cap0 : Nat) (z0 : List Int) (w : World) (w0 : IsRow .i64 w a0 len0 cap0 z0) :
    Calls Try.prog 10 #[.slice a0 len0 cap0] w fun e w' => e = .returned (.bool true) ∧ Below w.heap.size w w' := by
  obtain ⟨hl, hn⟩ := nums_of_row w0
  obtain ⟨zs, hzs⟩ : ∃ zs, zs = z0.take len0 := ⟨_, rfl⟩
  rw [← hzs] at hl hn
  subst hl
  clear hzs w0
  by_cases hbig : 1048576 < zs.length
  · go_enter Try.func10, Try.ntmps10
    go_wp2
    go_ret
    exact ⟨rfl, Below.refl _ _⟩
  have hs : zs.length ≤ 1048576 := by omega
  clear hbig
  have hsl : (invL zs).length ≤ 400 := inv_len zs
  obtain ⟨ss, hss⟩ : ∃ ss, ss = invL zs := ⟨_, rfl⟩
  obtain ⟨f, hf⟩ : ∃ f, f = fault zs := ⟨_, rfl⟩
  rw [← hss] at hsl
  have HSS : Hid (ss = invL zs) := hss
  have HFF : Hid (f = fault zs) := hf
  have hspec : Hid (∀ (a : Option Addr) (cap : Nat) (w : World), zs.length ≤ cap → Nums w a zs → Calls Try.prog 46 #[.slice a zs.length cap] w fun e w' => ∃ ad cp, e = .returned (resL f (.slice ad ss.length cp)) ∧ Own w' w.heap.size (.slice ad ss.length cp) ss ∧ Below w.heap.size w w') := by
    intro a cap w hcap hn
    refine (specInvert_any a zs cap w hcap hs hn).mono ?_
    rintro e w' ⟨v, rfl, ho, hb⟩
    rw [← hss] at ho
    rw [← hf]
    obtain ⟨ad, cp, rfl⟩ := own_shape ho
    exact ⟨ad, cp, rfl, ho, hb⟩
  have himpl : Hid (∀ (a : Option Addr) (cap : Nat) (w : World), zs.length ≤ cap → Nums w a zs → Calls Try.prog 20 #[.slice a zs.length cap] w fun e w' => ∃ ad cp, e = .returned (resL f (.slice ad ss.length cp)) ∧ Own w' w.heap.size (.slice ad ss.length cp) ss ∧ Below w.heap.size w w') := by
    intro a cap w hcap hn
    refine (implInvert_any a zs cap w hcap hs hn).mono ?_
    rintro e w' ⟨v, rfl, ho, hb⟩
    rw [← hss] at ho
    rw [← hf]
    obtain ⟨ad, cp, rfl⟩ := own_shape ho
    exact ⟨ad, cp, rfl, ho, hb⟩
  clear hss hf
  go_enter Try.func10, Try.ntmps10
  go_wp2_with fail
  refine (copy_any a0 zs cap0 w hs hn).mono ?_
  rintro e w1 ⟨rfl, ho1, hb1⟩
  have hn1 := (nums_of_own ho1).2
  clear ho1
  go_wp2_with fail
  refine (hspec.out _ _ _ (Nat.le_refl _) hn1).mono ?_
  rintro e w2 ⟨aw, cw, rfl, hw2, hb2⟩
  have hB2 : Below w.heap.size w w2 := hb1.trans (hb2.mono hb1.size)
  have hwlt : ∀ g, aw = some ⟨g, 0, none⟩ → g < w2.heap.size := fun g hg => (own_lt hw2 hg).2
  have HWLT : Hid (∀ g, aw = some ⟨g, 0, none⟩ → g < w2.heap.size) := hwlt
  clear hb2 hn1 hb1 hwlt
  have hv2 := Var.new w2 f (.slice aw ss.length cw)
  have hw2' := hw2.alloc (.cells #[.int .i64 f, .slice aw ss.length cw] 34)
  have hB2' : Below w.heap.size w (w2.alloc (.cells #[.int .i64 f, .slice aw ss.length cw] 34)) := hB2.alloc hB2.size _
  clear hw2
  go_wp2_with fail
  refine (copy_any a0 zs cap0 _ hs (hn.below hB2')).mono ?_
  rintro e w3 ⟨rfl, ho3, hb3⟩
  have hv3 := hv2.below hb3
  have hw3 := own_kept hw2' hb3
  have hB3 : Below w.heap.size w w3 := hB2'.trans (hb3.mono hB2'.size)
  rw [World.size_alloc] at ho3
  have hn3 := (nums_of_own ho3).2
  have HB2 : Hid (w.heap.size ≤ w2.heap.size) := hB2.size
  clear hv2 hw2' hb3 hB2' hB2
  go_wp2_with fail
  refine (himpl.out _ _ _ (Nat.le_refl _) hn3).mono ?_
  rintro e w4 ⟨ag, cg, rfl, hg4, hb4⟩
  have hv4 := hv3.below hb4
  have hw4 := own_kept hw3 hb4
  have hx4 := own_kept ho3 hb4
  have hB4 : Below w.heap.size w w4 := hB3.trans (hb4.mono hB3.size)
  have hglt : Hid (∀ g, ag = some ⟨g, 0, none⟩ → w3.heap.size ≤ g ∧ g < w4.heap.size) := fun g hg => own_lt hg4 hg
  have hx3lt : w2.heap.size + 1 < w3.heap.size := (own_lt ho3 rfl).2
  have hp1 := hb4.size
  have hB2lt : w.heap.size ≤ w2.heap.size := HB2.out
  clear hv3 hw3 ho3 hn3 hb4 hB3
  have hvc0 := hv4.cells.1
  have hvc1 := hv4.cells.2
  have hz4 := hv4.lt
  have hgv := Var.new w4 f (.slice ag ss.length cg)
  have hb5 : Below w4.heap.size w4 (w4.alloc (.cells #[.int .i64 f, .slice ag ss.length cg] 34)) := (Below.refl _ _).alloc (Nat.le_refl _) _
  have hv5 := hv4.below hb5
  have hw5 := own_kept hw4 hb5
  have hx5 := own_kept hx4 hb5
  have hg5 := own_kept hg4 hb5
  have hB5 : Below w.heap.size w (w4.alloc (.cells #[.int .i64 f, .slice ag ss.length cg] 34)) := hB4.trans (hb5.mono hB4.size)
  clear hv4 hw4 hx4 hg4 hb5 hB4
  go_wp2_with fail
  refine (eqInts_any f ag aw ss _ _ _ (by omega) (nums_of_own hg5).2 (nums_of_own hw5).2).mono ?_
  rintro e w6 ⟨rfl, hb⟩
  have hv6 := hv5.below hb
  have hu6 := hgv.below hb
  have hw6 := own_kept hw5 hb
  have hx6 := own_kept hx5 hb
  have hg6 := own_kept hg5 hb
  have hB6 : Below w.heap.size w w6 := hB5.trans (hb.mono hB5.size)
  clear hb hv5 hgv hw5 hx5 hg5 hB5 hvc0 hvc1 hz4
  go_wp2_with fail
  refine (copy_any a0 zs cap0 w6 hs (hn.below hB6)).mono ?_
  rintro e w7 ⟨rfl, ho7, hb⟩
  have hv7 := hv6.below hb
  have hu7 := hu6.below hb
  have hw7 := own_kept hw6 hb
  have hx7 := own_kept hx6 hb
  have hg7 := own_kept hg6 hb
  have hB7 : Below w.heap.size w w7 := hB6.trans (hb.mono hB6.size)
  have hn7 := (nums_of_own ho7).2
  clear hb hv6 hu6 hw6 hx6 hg6 hB6 ho7
  go_wp2_with fail
  refine (eqNums_any _ _ zs _ _ w7 (by omega) (nums_of_own hx7).2 hn7).mono ?_
  rintro e w8 ⟨rfl, hb⟩
  have hv8 := hv7.below hb
  have hu8 := hu7.below hb
  have hw8 := own_kept hw7 hb
  have hx8 := own_kept hx7 hb
  have hg8 := own_kept hg7 hb
  have hB8 : Below w.heap.size w w8 := hB7.trans (hb.mono hB7.size)
  clear hb hv7 hu7 hw7 hx7 hg7 hB7 hn7
  go_wp2_with fail
  refine (mark_any _ zs _ _ 1 w8 hs (by omega) (by omega) hx8).mono ?_
  rintro e w9 ⟨rfl, hx9, hbm, hsz, hoth⟩
  have hB9 : Below w.heap.size w w9 := hB8.trans (hbm.mono (by have := hB2lt; omega))
  have hv9 : Var w9 w2.heap.size f (.slice aw ss.length cw) := (hoth w2.heap.size (by simp)).trans hv8
  have hu9 : Var w9 w4.heap.size f (.slice ag ss.length cg) := (hoth w4.heap.size (by simp <;> omega)).trans hu8
  have hw9 := own_other hw8 (w' := w9) (fun g hg => hoth g (by
    have h2 := own_at hw8 hg
    have h3 := HWLT.out g h2
    simp <;> omega))
  have hg9 := own_other hg8 (w' := w9) (fun g hg => hoth g (by
    have h2 := own_at hg8 hg
    have h3 := (hglt.out g h2).1
    simp <;> omega))
  clear hoth hsz hbm hx9 hB8 hv8 hu8 hw8 hg8 hx8
  have hvc := hv9.cells
  have huc := hu9.cells
  obtain ⟨hvc0, hvc1⟩ := hvc
  obtain ⟨huc0, huc1⟩ := huc
  go_wp2_with fail
  refine (eqInts_any f ag aw ss _ _ _ (by omega) (nums_of_own hg9).2 (nums_of_own hw9).2).mono ?_
  rintro e w10 ⟨rfl, hb⟩
  have hv10 := hv9.below hb
  have hu10 := hu9.below hb
  have hw10 := own_kept hw9 hb
  have hg10 := own_kept hg9 hb
  have hB10 : Below w.heap.size w w10 := hB9.trans (hb.mono hB9.size)
  clear hb hv9 hu9 hw9 hg9 hB9 hvc0 hvc1 huc0 huc1
  obtain ⟨huc0, huc1⟩ := hu10.cells
  have hs3 : w3.heap.size ≤ w10.heap.size := by have := hu10.lt; omega
  go_wp2_with fail
  refine (markInts_any f ag ss cg w3.heap.size 1 w10 (by omega) (by omega) (by omega) hs3 hg10).mono ?_
  rintro e w11 ⟨rfl, hg11, hbm, hsz, hoth⟩
  have hB11 : Below w.heap.size w w11 := hB10.trans (hbm.mono (by have := hB2lt; omega))
  have hv11 : Var w11 w2.heap.size f (.slice aw ss.length cw) := (hoth w2.heap.size hv10.lt (fun h => by have := (hglt.out _ h).1; omega)).trans hv10
  have hu11 : Var w11 w4.heap.size f (.slice ag ss.length cg) := (hoth w4.heap.size hu10.lt (fun h => by have := (hglt.out _ h).2; omega)).trans hu10
  have hw11 := own_other hw10 (w' := w11) (fun g hg => hoth g (own_lt hw10 (own_at hw10 hg)).2 (fun h => by have := (hglt.out _ h).1; have := HWLT.out g (own_at hw10 hg); omega))
  have hgn := marks_nums hg11
  clear hoth hsz hbm hB10 hv10 hu10 hw10 hg10 huc0 huc1 hs3
  obtain ⟨huc0, huc1⟩ := hu11.cells
  go_wp2_with fail
  refine (heldInts_any f ag ss.length cg 1 w11 (by omega) (by omega) (by omega) hgn).mono ?_
  rintro e w12 ⟨rfl, hb⟩
  have hv12 := hv11.below hb
  have hu12 := hu11.below hb
  have hw12 := own_kept hw11 hb
  have hg12 := own_kept hg11 hb
  have hB12 : Below w.heap.size w w12 := hB11.trans (hb.mono hB11.size)
  clear hb hv11 hu11 hw11 hg11 hB11 hgn huc0 huc1
  go_wp2_with fail
  refine (copy_any a0 zs cap0 w12 hs (hn.below hB12)).mono ?_
  rintro e w13 ⟨rfl, ho13, hb⟩
  have hv13 := hv12.below hb
  have hu13 := hu12.below hb
  have hw13 := own_kept hw12 hb
  have hg13 := own_kept hg12 hb
  have hB13 : Below w.heap.size w w13 := hB12.trans (hb.mono hB12.size)
  have hn13 := (nums_of_own ho13).2
  clear hb hv12 hu12 hw12 hg12 hB12 ho13
  go_wp2_with fail
  refine (himpl.out _ _ _ (Nat.le_refl _) hn13).mono ?_
  rintro e w14 ⟨ah, ch, rfl, hh14, hb⟩
  have hv14 := hv13.below hb
  have hu14 := hu13.below hb
  have hw14 := own_kept hw13 hb
  have hg14 := own_kept hg13 hb
  have hB14 : Below w.heap.size w w14 := hB13.trans (hb.mono hB13.size)
  clear hb hv13 hu13 hw13 hg13 hB13 hn13
  have hb : Below w14.heap.size w14 (w14.alloc (.cells #[.int .i64 f, .slice ah ss.length ch] 34)) := (Below.refl _ _).alloc (Nat.le_refl _) _
  obtain ⟨hvc0, hvc1⟩ := hv14.cells
  have hz14 := hv14.lt
  have hv15 := hv14.below hb
  have hu15 := hu14.below hb
  have hw15 := own_kept hw14 hb
  have hg15 := own_kept hg14 hb
  have hh15 := own_kept hh14 hb
  have hB15 : Below w.heap.size w (w14.alloc (.cells #[.int .i64 f, .slice ah ss.length ch] 34)) := hB14.trans (hb.mono hB14.size)
  clear hb hv14 hu14 hw14 hg14 hB14 hh14
  go_wp2_with fail
  refine (eqInts_any f ah aw ss _ _ _ (by omega) (nums_of_own hh15).2 (nums_of_own hw15).2).mono ?_
  rintro e w16 ⟨rfl, hb⟩
  have hu16 := hu15.below hb
  have hg16 := own_kept hg15 hb
  have hB16 : Below w.heap.size w w16 := hB15.trans (hb.mono hB15.size)
  have hgn := marks_nums hg16
  clear hb hv15 hu15 hw15 hg15 hB15 hh15 hvc0 hvc1 hz14 hg16
  obtain ⟨huc0, huc1⟩ := hu16.cells
  go_wp2_with fail
  refine (heldInts_any f ag ss.length cg 1 w16 (by omega) (by omega) (by omega) hgn).mono ?_
  rintro e w17 ⟨rfl, hb⟩
  have hB17 : Below w.heap.size w w17 := hB16.trans (hb.mono hB16.size)
  clear hb hB16 hgn huc0 huc1 hu16
  go_wp2
  go_ret
  exact ⟨rfl, hB17⟩
end Go.Proofs.Ytjofghelenfklaa
