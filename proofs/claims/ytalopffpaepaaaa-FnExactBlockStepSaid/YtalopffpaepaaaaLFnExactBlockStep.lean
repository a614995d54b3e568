/-
  The Go function laws.FnExactBlockStep answers true at every input and writes nothing that was there. No condition.
-/
import Derived.Test.YtalopffpaepaaaaSBlk3
import Derived.Test.YtalopffpaepaaaaIBlk
import Derived.Test.YtalopffpaepaaaaMarkB
namespace Go.Proofs.Ytalopffpaepaaaa
open Go.RowKit
set_option linter.unusedVariables false

set_option maxHeartbeats 3200000 in
theorem fnExactBlockStep_walk (a0 : Int) (a1 : Option Addr) (len1 cap1 : Nat) (z1 : List Int) (a2 : Option Addr) (len2 cap2 : Nat) (z2 : List Int) (w : World) (w0 : (Lit.int .i64 a0).wf = true) (w1 : IsRow .i64 w a1 len1 cap1 z1) (w2 : IsRow .i64 w a2 len2 cap2 z2) :
    Calls Try.prog 5 #[.int .i64 a0, .slice a1 len1 cap1, .slice a2 len2 cap2] w fun e w' => e = .returned (.bool true) ∧ Below w.heap.size w w' := by
  clear w0
  obtain ⟨hl, hn⟩ := nums_of_row w1
  obtain ⟨zs, hzs⟩ : ∃ zs, zs = z1.take len1 := ⟨_, rfl⟩
  rw [← hzs] at hl hn
  subst hl
  clear hzs w1
  obtain ⟨hl, hm⟩ := nums_of_row w2
  obtain ⟨ys, hys⟩ : ∃ ys, ys = z2.take len2 := ⟨_, rfl⟩
  rw [← hys] at hl hm
  subst hl
  clear hys w2
  by_cases hbig : 1048576 < zs.length
  · go_enter Try.func5, Try.ntmps5
    go_wp2
    go_ret
    exact ⟨rfl, Below.refl _ _⟩
  have hs : zs.length ≤ 1048576 := by omega
  clear hbig
  by_cases hbig : 1048576 < ys.length
  · go_enter Try.func5, Try.ntmps5
    go_wp2
    go_ret
    exact ⟨rfl, Below.refl _ _⟩
  have ht : ys.length ≤ 1048576 := by omega
  clear hbig
  have hsl : (blkV a0 zs ys).length ≤ 3 := blkV_len a0 zs ys
  obtain ⟨ss, hss⟩ : ∃ ss, ss = blkV a0 zs ys := ⟨_, rfl⟩
  obtain ⟨f, hf⟩ : ∃ f, f = blkC a0 zs ys := ⟨_, rfl⟩
  rw [← hss] at hsl
  have hspec : Hid (∀ (a : Option Addr) (ca : Nat) (b : Option Addr) (cb : Nat) (w : World), Nums w a zs → Nums w b ys → Calls Try.prog 11 #[.int .i64 a0, .slice a zs.length ca, .slice b ys.length cb] w fun e w' => ∃ ad cp, e = .returned (resL f (.slice ad ss.length cp)) ∧ Own w' w.heap.size (.slice ad ss.length cp) ss ∧ Below w.heap.size w w') := by
    intro a ca b cb w ha hb
    refine (specBlk_any a0 a zs ca b ys cb w hs ht ha hb).mono ?_
    rintro e w' ⟨v, rfl, ho, hb⟩
    rw [← hss] at ho
    rw [← hf]
    obtain ⟨ad, cp, rfl⟩ := own_shape ho
    exact ⟨ad, cp, rfl, ho, hb⟩
  have himpl : Hid (∀ (a : Option Addr) (ca : Nat) (b : Option Addr) (cb : Nat) (w : World), Nums w a zs → Nums w b ys → Calls Try.prog 10 #[.int .i64 a0, .slice a zs.length ca, .slice b ys.length cb] w fun e w' => ∃ ad cp, e = .returned (resL f (.slice ad ss.length cp)) ∧ Own w' w.heap.size (.slice ad ss.length cp) ss ∧ Below w.heap.size w w') := by
    intro a ca b cb w ha hb
    refine (implBlk_any a0 a zs ca b ys cb w hs ht ha hb).mono ?_
    rintro e w' ⟨v, rfl, ho, hb⟩
    rw [← hss] at ho
    rw [← hf]
    obtain ⟨ad, cp, rfl⟩ := own_shape ho
    exact ⟨ad, cp, rfl, ho, hb⟩
  clear hss hf
  go_enter Try.func5, Try.ntmps5
  go_wp2_with fail
  refine (copy_any a1 zs cap1 w hs hn).mono ?_
  rintro e w1 ⟨rfl, ho1, hb1⟩
  have hn1 := (nums_of_own ho1).2
  clear ho1
  go_wp2_with fail
  refine (copy_any a2 ys cap2 w1 ht (hm.below hb1)).mono ?_
  rintro e w2 ⟨rfl, ho2, hb2⟩
  have hm2 := (nums_of_own ho2).2
  have hn2 := hn1.below hb2
  have hB2 : Below w.heap.size w w2 := hb1.trans (hb2.mono hb1.size)
  clear ho2 hn1 hb1 hb2
  go_wp2_with fail
  refine (hspec.out _ _ _ _ _ hn2 hm2).mono ?_
  rintro e w3 ⟨aw, cw, rfl, hw3, hb⟩
  have hB3 : Below w.heap.size w w3 := hB2.trans (hb.mono hB2.size)
  have HWLT : Hid (∀ g, aw = some ⟨g, 0, none⟩ → g < w3.heap.size) := fun g hg => (own_lt hw3 hg).2
  clear hb hn2 hm2 hB2
  have hv3 := Var.new w3 f (.slice aw ss.length cw)
  have hw4 := hw3.alloc (.cells #[.int .i64 f, .slice aw ss.length cw] 28)
  have hB4 : Below w.heap.size w (w3.alloc (.cells #[.int .i64 f, .slice aw ss.length cw] 28)) := hB3.alloc hB3.size _
  have HB3 : Hid (w.heap.size ≤ w3.heap.size) := hB3.size
  clear hw3 hB3
  go_wp2_with fail
  refine (copy_any a1 zs cap1 _ hs (hn.below hB4)).mono ?_
  rintro e w5 ⟨rfl, ho5, hb⟩
  have hv5 := hv3.below hb
  have hw5 := own_kept hw4 hb
  have hB5 : Below w.heap.size w w5 := hB4.trans (hb.mono hB4.size)
  rw [World.size_alloc] at ho5
  have hx5lt : w3.heap.size + 1 < w5.heap.size := (own_lt ho5 rfl).2
  clear hv3 hw4 hb hB4
  go_wp2_with fail
  refine (copy_any a2 ys cap2 w5 ht (hm.below hB5)).mono ?_
  rintro e w6 ⟨rfl, ho6, hb⟩
  have hv6 := hv5.below hb
  have hw6 := own_kept hw5 hb
  have hx6 := own_kept ho5 hb
  have hB6 : Below w.heap.size w w6 := hB5.trans (hb.mono hB5.size)
  have hn6 := (nums_of_own hx6).2
  have hm6 := (nums_of_own ho6).2
  have hy6lt : w5.heap.size < w6.heap.size := (own_lt ho6 rfl).2
  clear hv5 hw5 ho5 hb hB5
  go_wp2_with fail
  refine (himpl.out _ _ _ _ _ hn6 hm6).mono ?_
  rintro e w7 ⟨ag, cg, rfl, hg7, hb⟩
  have hv7 := hv6.below hb
  have hw7 := own_kept hw6 hb
  have hx7 := own_kept hx6 hb
  have hy7 := own_kept ho6 hb
  have hB7 : Below w.heap.size w w7 := hB6.trans (hb.mono hB6.size)
  have hglt : Hid (∀ g, ag = some ⟨g, 0, none⟩ → w6.heap.size ≤ g ∧ g < w7.heap.size) := fun g hg => own_lt hg7 hg
  have hp7 := hb.size
  clear hv6 hw6 hx6 ho6 hn6 hm6 hb hB6
  have hvc0 := hv7.cells.1
  have hvc1 := hv7.cells.2
  have hz7 := hv7.lt
  have hgv := Var.new w7 f (.slice ag ss.length cg)
  have hb : Below w7.heap.size w7 (w7.alloc (.cells #[.int .i64 f, .slice ag ss.length cg] 28)) := (Below.refl _ _).alloc (Nat.le_refl _) _
  have hv8 := hv7.below hb
  have hw8 := own_kept hw7 hb
  have hx8 := own_kept hx7 hb
  have hy8 := own_kept hy7 hb
  have hg8 := own_kept hg7 hb
  have hB8 : Below w.heap.size w (w7.alloc (.cells #[.int .i64 f, .slice ag ss.length cg] 28)) := hB7.trans (hb.mono hB7.size)
  clear hv7 hw7 hx7 hy7 hg7 hb hB7
  go_wp2_with fail
  refine (eqInts_any f ag aw ss _ _ _ (by omega) (nums_of_own hg8).2 (nums_of_own hw8).2).mono ?_
  rintro e w9 ⟨rfl, hb⟩
  have hv9 := hv8.below hb
  have hu9 := hgv.below hb
  have hw9 := own_kept hw8 hb
  have hx9 := own_kept hx8 hb
  have hy9 := own_kept hy8 hb
  have hg9 := own_kept hg8 hb
  have hB9 : Below w.heap.size w w9 := hB8.trans (hb.mono hB8.size)
  clear hb hv8 hgv hw8 hx8 hy8 hg8 hB8 hvc0 hvc1 hz7
  go_wp2_with fail
  refine (copy_any a1 zs cap1 w9 hs (hn.below hB9)).mono ?_
  rintro e w10 ⟨rfl, ho10, hb⟩
  have hv10 := hv9.below hb
  have hu10 := hu9.below hb
  have hw10 := own_kept hw9 hb
  have hx10 := own_kept hx9 hb
  have hy10 := own_kept hy9 hb
  have hg10 := own_kept hg9 hb
  have hB10 : Below w.heap.size w w10 := hB9.trans (hb.mono hB9.size)
  have hn10 := (nums_of_own ho10).2
  clear hb hv9 hu9 hw9 hx9 hy9 hg9 hB9 ho10
  go_wp2_with fail
  refine (eqNums_any _ _ zs _ _ w10 (by omega) (nums_of_own hx10).2 hn10).mono ?_
  rintro e w11 ⟨rfl, hb⟩
  have hv11 := hv10.below hb
  have hu11 := hu10.below hb
  have hw11 := own_kept hw10 hb
  have hx11 := own_kept hx10 hb
  have hy11 := own_kept hy10 hb
  have hg11 := own_kept hg10 hb
  have hB11 : Below w.heap.size w w11 := hB10.trans (hb.mono hB10.size)
  clear hb hv10 hu10 hw10 hx10 hy10 hg10 hB10 hn10
  go_wp2_with fail
  refine (copy_any a2 ys cap2 w11 ht (hm.below hB11)).mono ?_
  rintro e w12 ⟨rfl, ho12, hb⟩
  have hv12 := hv11.below hb
  have hu12 := hu11.below hb
  have hw12 := own_kept hw11 hb
  have hx12 := own_kept hx11 hb
  have hy12 := own_kept hy11 hb
  have hg12 := own_kept hg11 hb
  have hB12 : Below w.heap.size w w12 := hB11.trans (hb.mono hB11.size)
  have hn12 := (nums_of_own ho12).2
  clear hb hv11 hu11 hw11 hx11 hy11 hg11 hB11 ho12
  go_wp2_with fail
  refine (eqNums_any _ _ ys _ _ w12 (by omega) (nums_of_own hy12).2 hn12).mono ?_
  rintro e w13 ⟨rfl, hb⟩
  have hv13 := hv12.below hb
  have hu13 := hu12.below hb
  have hw13 := own_kept hw12 hb
  have hx13 := own_kept hx12 hb
  have hy13 := own_kept hy12 hb
  have hg13 := own_kept hg12 hb
  have hB13 : Below w.heap.size w w13 := hB12.trans (hb.mono hB12.size)
  clear hb hv12 hu12 hw12 hx12 hy12 hg12 hB12 hn12
  go_wp2_with fail
  refine (mark_any _ zs _ _ 1 w13 hs (by omega) (by omega) hx13).mono ?_
  rintro e w14 ⟨rfl, hx14, hbm, hsz, hoth⟩
  have hB14 : Below w.heap.size w w14 := hB13.trans (hbm.mono (by have := HB3.out; omega))
  have hv14 : Var w14 w3.heap.size f (.slice aw ss.length cw) := (hoth w3.heap.size (by simp)).trans hv13
  have hu14 : Var w14 w7.heap.size f (.slice ag ss.length cg) := (hoth w7.heap.size (by simp <;> omega)).trans hu13
  have hw14 := own_other hw13 (w' := w14) (fun g hg => hoth g (by
    have h3 := HWLT.out g (own_at hw13 hg)
    simp <;> omega))
  have hy14 := own_other hy13 (w' := w14) (fun g hg => hoth g (by
    have h3 := own_at hy13 hg
    simp at h3
    simp <;> omega))
  have hg14 := own_other hg13 (w' := w14) (fun g hg => hoth g (by
    have h3 := (hglt.out g (own_at hg13 hg)).1
    simp <;> omega))
  clear hoth hsz hbm hx14 hB13 hv13 hu13 hw13 hy13 hg13 hx13
  go_wp2_with fail
  refine (markB_any _ ys _ _ (1 + zs.length) w14 ht (by omega) (by omega) hy14).mono ?_
  rintro e w15 ⟨rfl, hy15, hbm, hsz, hoth⟩
  have hB15 : Below w.heap.size w w15 := hB14.trans (hbm.mono (by have := HB3.out; omega))
  have hv15 : Var w15 w3.heap.size f (.slice aw ss.length cw) := (hoth w3.heap.size (by simp <;> omega)).trans hv14
  have hu15 : Var w15 w7.heap.size f (.slice ag ss.length cg) := (hoth w7.heap.size (by simp <;> omega)).trans hu14
  have hw15 := own_other hw14 (w' := w15) (fun g hg => hoth g (by
    have h3 := HWLT.out g (own_at hw14 hg)
    simp <;> omega))
  have hg15 := own_other hg14 (w' := w15) (fun g hg => hoth g (by
    have h3 := (hglt.out g (own_at hg14 hg)).1
    simp <;> omega))
  clear hoth hsz hbm hy15 hB14 hv14 hu14 hw14 hg14 hy14
  obtain ⟨hvc0, hvc1⟩ := hv15.cells
  obtain ⟨huc0, huc1⟩ := hu15.cells
  go_wp2_with fail
  refine (eqInts_any f ag aw ss _ _ _ (by omega) (nums_of_own hg15).2 (nums_of_own hw15).2).mono ?_
  rintro e w16 ⟨rfl, hb⟩
  have hv16 := hv15.below hb
  have hu16 := hu15.below hb
  have hw16 := own_kept hw15 hb
  have hg16 := own_kept hg15 hb
  have hB16 : Below w.heap.size w w16 := hB15.trans (hb.mono hB15.size)
  clear hb hv15 hu15 hw15 hg15 hB15 hvc0 hvc1 huc0 huc1
  obtain ⟨huc0, huc1⟩ := hu16.cells
  have hs3 : w6.heap.size ≤ w16.heap.size := by have := hu16.lt; omega
  go_wp2_with fail
  refine (markInts_any f ag ss cg w6.heap.size 1 w16 (by omega) (by omega) (by omega) hs3 hg16).mono ?_
  rintro e w17 ⟨rfl, hg17, hbm, hsz, hoth⟩
  have hB17 : Below w.heap.size w w17 := hB16.trans (hbm.mono (by have := HB3.out; omega))
  have hv17 : Var w17 w3.heap.size f (.slice aw ss.length cw) := (hoth w3.heap.size hv16.lt (fun h => by have := (hglt.out _ h).1; omega)).trans hv16
  have hu17 : Var w17 w7.heap.size f (.slice ag ss.length cg) := (hoth w7.heap.size hu16.lt (fun h => by have := (hglt.out _ h).2; omega)).trans hu16
  have hw17 := own_other hw16 (w' := w17) (fun g hg => hoth g (own_lt hw16 (own_at hw16 hg)).2 (fun h => by have := (hglt.out _ h).1; have := HWLT.out g (own_at hw16 hg); omega))
  have hgn := marks_nums hg17
  clear hoth hsz hbm hB16 hv16 hu16 hw16 hg16 huc0 huc1 hs3
  obtain ⟨huc0, huc1⟩ := hu17.cells
  go_wp2_with fail
  refine (heldInts_any f ag ss.length cg 1 w17 (by omega) (by omega) (by omega) hgn).mono ?_
  rintro e w18 ⟨rfl, hb⟩
  have hv18 := hv17.below hb
  have hu18 := hu17.below hb
  have hw18 := own_kept hw17 hb
  have hg18 := own_kept hg17 hb
  have hB18 : Below w.heap.size w w18 := hB17.trans (hb.mono hB17.size)
  clear hb hv17 hu17 hw17 hg17 hB17 hgn huc0 huc1
  go_wp2_with fail
  refine (copy_any a1 zs cap1 w18 hs (hn.below hB18)).mono ?_
  rintro e w19 ⟨rfl, ho19, hb⟩
  have hv19 := hv18.below hb
  have hu19 := hu18.below hb
  have hw19 := own_kept hw18 hb
  have hg19 := own_kept hg18 hb
  have hB19 : Below w.heap.size w w19 := hB18.trans (hb.mono hB18.size)
  have hn19 := (nums_of_own ho19).2
  clear hb hv18 hu18 hw18 hg18 hB18 ho19
  go_wp2_with fail
  refine (copy_any a2 ys cap2 w19 ht (hm.below hB19)).mono ?_
  rintro e w20 ⟨rfl, ho20, hb⟩
  have hv20 := hv19.below hb
  have hu20 := hu19.below hb
  have hw20 := own_kept hw19 hb
  have hg20 := own_kept hg19 hb
  have hB20 : Below w.heap.size w w20 := hB19.trans (hb.mono hB19.size)
  have hn20 := hn19.below hb
  have hm20 := (nums_of_own ho20).2
  clear hb hv19 hu19 hw19 hg19 hB19 ho20 hn19
  go_wp2_with fail
  refine (himpl.out _ _ _ _ _ hn20 hm20).mono ?_
  rintro e w21 ⟨ah, ch, rfl, hh21, hb⟩
  have hv21 := hv20.below hb
  have hu21 := hu20.below hb
  have hw21 := own_kept hw20 hb
  have hg21 := own_kept hg20 hb
  have hB21 : Below w.heap.size w w21 := hB20.trans (hb.mono hB20.size)
  clear hb hv20 hu20 hw20 hg20 hB20 hn20 hm20
  have hb : Below w21.heap.size w21 (w21.alloc (.cells #[.int .i64 f, .slice ah ss.length ch] 28)) := (Below.refl _ _).alloc (Nat.le_refl _) _
  obtain ⟨hvc0, hvc1⟩ := hv21.cells
  have hz21 := hv21.lt
  have hv22 := hv21.below hb
  have hu22 := hu21.below hb
  have hw22 := own_kept hw21 hb
  have hg22 := own_kept hg21 hb
  have hh22 := own_kept hh21 hb
  have hB22 : Below w.heap.size w (w21.alloc (.cells #[.int .i64 f, .slice ah ss.length ch] 28)) := hB21.trans (hb.mono hB21.size)
  clear hb hv21 hu21 hw21 hg21 hB21 hh21
  go_wp2_with fail
  refine (eqInts_any f ah aw ss _ _ _ (by omega) (nums_of_own hh22).2 (nums_of_own hw22).2).mono ?_
  rintro e w23 ⟨rfl, hb⟩
  have hu23 := hu22.below hb
  have hg23 := own_kept hg22 hb
  have hB23 : Below w.heap.size w w23 := hB22.trans (hb.mono hB22.size)
  have hgn := marks_nums hg23
  clear hb hv22 hu22 hw22 hg22 hB22 hh22 hvc0 hvc1 hz21 hg23
  obtain ⟨huc0, huc1⟩ := hu23.cells
  go_wp2_with fail
  refine (heldInts_any f ag ss.length cg 1 w23 (by omega) (by omega) (by omega) hgn).mono ?_
  rintro e w24 ⟨rfl, hb⟩
  have hB24 : Below w.heap.size w w24 := hB23.trans (hb.mono hB23.size)
  clear hb hB23 hgn huc0 huc1 hu23
  go_wp2
  go_ret
  exact ⟨rfl, hB24⟩
end Go.Proofs.Ytalopffpaepaaaa
