/-
  slices.Clone of numbers; impl's newStackRun, machine.
-/
import Derived.Test.YtcikofhbfncgdaaIPrg
import Derived.Test.YtcikofhbfncgdaaIPrg
import Derived.Deep.Cut
import Derived.Deep.DrawnRows
import Derived.Deep.QuietTactic
import Derived.Lib.SliceRun
namespace Go.Proofs.Ytcikofhbfncgdaa
open Go.RowKit
set_option linter.unusedVariables false
attribute [local go_sem ↓] Go.wp_at_zero Go.wp_at_succ

abbrev machV (m : SM) (sv cv : Value) : Value := .agg #[.int .i64 m.pc, sv, cv, .int .i64 m.sig, .int .i64 m.used, .int .i64 m.trap, .bool m.done]

set_option maxHeartbeats 1600000 in
set_option maxRecDepth 100000 in
theorem clone_any (v : Value) (zs : List Int) (w : World) (h : RowV w v zs) (hl : zs.length ≤ 1048576) :
    Calls Try.prog 80 #[v] w fun e w' => ∃ v', e = .returned v' ∧ Own w' w.heap.size v' zs ∧ Below w.heap.size w w' := by
  obtain ⟨a, c, rfl, hn, hc⟩ := h
  have q22 : ∀ (w : World) (a : Option Addr) (n c n' c' : Nat), (binOp .eql 24 (.slice a n c) (.slice none n' c')).run Try.prog w = .ok (.bool a.isNone) w := fun w a n c n' c' => Lib.run_eql_slice_nil w _ _ a n c n' c' Try.underlying24
  cases a with
  | none =>
    have hz := rowZ hn rfl
    have hc0 := hc rfl
    subst hz hc0
    clear hl hn hc
    go_enter Try.func80, Try.ntmps80
    go_wp2
    go_ret
    exact ⟨_, rfl, World.ownsRow_nil _ _ _ _, Below.refl _ _⟩
  | some ad =>
    have hA := (Below.refl w.heap.size w).alloc (Nat.le_refl _) (.cells #[] 2)
    have HN : Hid (Nums (w.alloc (.cells #[] 2)) (some ad) zs) := hn.below hA
    have HO : Hid (Own (w.alloc (.cells #[] 2)) w.heap.size (.slice (some ⟨w.heap.size, 0, none⟩) 0 0) []) := own_new w _ (Nat.le_refl _)
    have HA : Hid (Below w.heap.size w (w.alloc (.cells #[] 2))) := hA
    have HL : Hid (zs.length ≤ 1048576) := hl
    clear hA hn hc hl
    generalize hZ : zs.length = L at *
    go_enter Try.func80, Try.ntmps80
    go_wp2_with (at_builtin; refine wpList_append_nums rfl _ _ rfl w.heap.size _ [] zs (by rfl) HO.out (some ad) c (by rw [hZ]; rfl) HN.out (by simp) (by simp) (by have := HL.out; simp; omega) (by simp) ?_)
    intro v' w2 ho hg hv
    obtain ⟨a2, c2, rfl⟩ := own_shape ho.out
    have HB : Hid (Below w.heap.size w w2) := HA.out.grown hg.out (by simp) (fun k hk => by simp [Value.ownBlock] at hk; omega)
    clear hg hv
    have HO2 : Hid (Own w2 w.heap.size (.slice a2 zs.length c2) zs) := ho.out
    clear ho
    go_wp2_with fail
    go_ret
    exact ⟨_, rfl, HO2.out, HB.out⟩

/-- a machine's block behind both its rows: the Stack's row is made first, then the Cells' -/
theorem new_sc (B Bz : Nat) (wx wy W9 : World) (m : SM) (vs vc : Value) (hs : Own wx B vs m.stk) (hc : Own wy Bz vc m.cells) (hz : wx.heap.size ≤ Bz) (h1 : Below wx.heap.size wx wy) (h2 : Below wy.heap.size wy W9) (hB : B ≤ wx.heap.size) : RunI B (W9.alloc (.cells (lineI m vs vc) 112)) W9.heap.size m := by
  have h3 := own_kept (own_kept hs h1) h2
  have h4 := own_kept hc h2
  have z1 := h1.size
  have z2 := h2.size
  refine ⟨vs, vc, heap_alloc_new _ _, h3.alloc _, own_mono (h4.alloc _) (by omega), by omega, fun e => ?_, fun e => ?_, fun g hg e => ?_⟩
  · have := (h3.lt _ e).2; omega
  · have := (h4.lt _ e).2; omega
  · have := (hs.lt _ hg).2; have := (hc.lt _ e).1; omega
theorem new_cs (B Bz : Nat) (wx wy W9 : World) (m : SM) (vs vc : Value) (hc : Own wx B vc m.cells) (hs : Own wy Bz vs m.stk) (hz : wx.heap.size ≤ Bz) (h1 : Below wx.heap.size wx wy) (h2 : Below wy.heap.size wy W9) (hB : B ≤ wx.heap.size) : RunI B (W9.alloc (.cells (lineI m vs vc) 112)) W9.heap.size m := by
  have h3 := own_kept (own_kept hc h1) h2
  have h4 := own_kept hs h2
  have z1 := h1.size
  have z2 := h2.size
  refine ⟨vs, vc, heap_alloc_new _ _, own_mono (h4.alloc _) (by omega), h3.alloc _, by omega, fun e => ?_, fun e => ?_, fun g hg e => ?_⟩
  · have := (h4.lt _ e).2; omega
  · have := (h3.lt _ e).2; omega
  · have := (hs.lt _ hg).1; have := (hc.lt _ e).2; omega

set_option maxHeartbeats 1600000 in
theorem imachine_any (B p : Nat) (m : SM) (w : World) (h : RunI B w p m) (hB : B ≤ w.heap.size) :
    Calls Try.prog 88 #[.pointer (some ⟨p, 0, none⟩)] w fun e w' => ∃ sv cv, e = .returned (machV m sv cv) ∧ Own w' B sv m.stk ∧ Own w' B cv m.cells ∧ (∀ g, sv.ownBlock = some g → cv.ownBlock ≠ some g) ∧ Below w.heap.size w w' := by
  have hpw := h.lt
  obtain ⟨sv, cv, hb, hm⟩ := h
  obtain ⟨a1, k1, rfl⟩ := own_shape hm.ss
  obtain ⟨a2, k2, rfl⟩ := own_shape hm.cs
  have hF : Hid (∀ w', Below w.heap.size w w' → Own w' B (.slice a1 m.stk.length k1) m.stk ∧ Own w' B (.slice a2 m.cells.length k2) m.cells ∧ (∀ g, (Value.slice a1 m.stk.length k1).ownBlock = some g → (Value.slice a2 m.cells.length k2).ownBlock ≠ some g)) := fun w' hb => ⟨own_kept hm.ss hb, own_kept hm.cs hb, hm.d3⟩
  obtain ⟨c0, c1, c2, c3, c4, c5, c6⟩ := RunI.cells (B := B) hb
  clear hm hb
  have n0 := World.new_ne w ⟨p, 0, none⟩ c0
  generalize hn1 : m.stk.length = l1 at *
  generalize hn2 : m.cells.length = l2 at *
  have a3 := heap_alloc_new w (.cells #[.int .i64 0, .slice none 0 0, .slice none 0 0, .int .i64 0, .int .i64 0, .int .i64 0, .bool false] 39)
  have b3 := (Below.refl w.heap.size w).alloc (Nat.le_refl _) (.cells #[.int .i64 0, .slice none 0 0, .slice none 0 0, .int .i64 0, .int .i64 0, .int .i64 0, .bool false] 39)
  have d0 := (b3.cell (p := ⟨p, 0, none⟩) hpw.2).trans c0
  have d1 := (b3.cell (p := ⟨p, 1, none⟩) hpw.2).trans c1
  have d2 := (b3.cell (p := ⟨p, 2, none⟩) hpw.2).trans c2
  have d3 := (b3.cell (p := ⟨p, 3, none⟩) hpw.2).trans c3
  have d4 := (b3.cell (p := ⟨p, 4, none⟩) hpw.2).trans c4
  have d5 := (b3.cell (p := ⟨p, 5, none⟩) hpw.2).trans c5
  have d6 := (b3.cell (p := ⟨p, 6, none⟩) hpw.2).trans c6
  clear c0 c1 c2 c3 c4 c5 c6
  go_enter Try.func88, Try.ntmps88
  go_wp2_with fail
  generalize w.alloc (.cells #[.int .i64 0, .slice none 0 0, .slice none 0 0, .int .i64 0, .int .i64 0, .int .i64 0, .bool false] 39) = W at *
  have e0 := cell_of_row _ _ 0 _ _ _ a3
  have e1 := cell_of_row _ _ 1 _ _ _ a3
  have e2 := cell_of_row _ _ 2 _ _ _ a3
  have e3 := cell_of_row _ _ 3 _ _ _ a3
  have e4 := cell_of_row _ _ 4 _ _ _ a3
  have e5 := cell_of_row _ _ 5 _ _ _ a3
  have e6 := cell_of_row _ _ 6 _ _ _ a3
  have f0 := frozen_of_row _ _ 0 _ _ a3
  have f1 := frozen_of_row _ _ 1 _ _ a3
  have f2 := frozen_of_row _ _ 2 _ _ a3
  have f3 := frozen_of_row _ _ 3 _ _ a3
  have f4 := frozen_of_row _ _ 4 _ _ a3
  have f5 := frozen_of_row _ _ 5 _ _ a3
  have f6 := frozen_of_row _ _ 6 _ _ a3
  simp at e0 e1 e2 e3 e4 e5 e6
  have HB : Hid (Below w.heap.size w W) := b3
  have n1 : w.heap.size ≠ p := by omega
  have n2 : p ≠ w.heap.size := by omega
  clear a3 b3
  go_region_held3 (fun Z => Z.cell? ⟨p, 0, none⟩ = some (.slice a1 l1 k1) ∧ Z.cell? ⟨p, 1, none⟩ = some (.slice a2 l2 k2) ∧ Z.cell? ⟨p, 2, none⟩ = some (.int .i64 m.pc) ∧ Z.cell? ⟨p, 3, none⟩ = some (.int .i64 m.sig) ∧ Z.cell? ⟨p, 4, none⟩ = some (.int .i64 m.used) ∧ Z.cell? ⟨p, 5, none⟩ = some (.int .i64 m.trap) ∧ Z.cell? ⟨p, 6, none⟩ = some (.bool m.done)) (first | go_keep | (simp [go_sem, *]; done)) (fail)
  have HE : Hid _ := ((((((HB.out.setCell (p := ⟨w.heap.size, 0, none⟩) (Nat.le_refl _) (.int .i64 m.pc)).setCell (p := ⟨w.heap.size, 1, none⟩) (Nat.le_refl _) (.slice a1 l1 k1)).setCell (p := ⟨w.heap.size, 2, none⟩) (Nat.le_refl _) (.slice a2 l2 k2)).setCell (p := ⟨w.heap.size, 3, none⟩) (Nat.le_refl _) (.int .i64 m.sig)).setCell (p := ⟨w.heap.size, 4, none⟩) (Nat.le_refl _) (.int .i64 m.used)).setCell (p := ⟨w.heap.size, 5, none⟩) (Nat.le_refl _) (.int .i64 m.trap)).setCell (p := ⟨w.heap.size, 6, none⟩) (Nat.le_refl _) (.bool m.done)
  go_wp2_with fail
  have HE2 := HE.out.drew
  refine bodyPost_ret (v := machV m (.slice a1 l1 k1) (.slice a2 l2 k2)) (by simp [results, Try.results88, go_sem, e0, e1, e2, e3, e4, e5, e6]) rfl ⟨_, _, rfl, (hF.out _ HE2).1, (hF.out _ HE2).2.1, (hF.out _ HE2).2.2, HE2⟩

theorem last8 {A B C D E F G H : Prop} (h : A ∧ B ∧ C ∧ D ∧ E ∧ F ∧ G ∧ H) : H := h.2.2.2.2.2.2.2
theorem below_alloc8 {W Z : World} (h : Below W.heap.size W Z) (o : Obj) : Below W.heap.size W (Z.alloc o) := h.alloc h.size o
set_option maxHeartbeats 1600000 in
theorem newRun_any (m : SM) (sv cv : Value) (w : World) (hs : RowV w sv m.stk) (hc : RowV w cv m.cells) (hl1 : m.stk.length ≤ 1048576) (hl2 : m.cells.length ≤ 1048576) :
    Calls Try.prog 86 #[machV m sv cv] w fun e w' => ∃ g, e = .returned (.pointer (some ⟨g, 0, none⟩)) ∧ RunI w.heap.size w' g m ∧ Below w.heap.size w w' := by
  have hA := (Below.refl w.heap.size w).alloc (Nat.le_refl _) (.cells (lineS m sv cv) 39)
  have a0 := heap_alloc_new w (.cells (lineS m sv cv) 39)
  obtain ⟨b1, k1, rfl, hn1, hk1⟩ := hs
  obtain ⟨b2, k2, rfl, hn2, hk2⟩ := hc
  have HX : Hid (∀ W, W = w.alloc (.cells (lineS m (.slice b1 m.stk.length k1) (.slice b2 m.cells.length k2)) 39) → Below w.heap.size w W ∧ w.heap.size < W.heap.size ∧ ∀ Z, Below W.heap.size W Z →
      Z.cell? ⟨w.heap.size, 0, none⟩ = some (.int .i64 m.pc) ∧ Z.cell? ⟨w.heap.size, 1, none⟩ = some (.slice b1 m.stk.length k1) ∧ Z.cell? ⟨w.heap.size, 2, none⟩ = some (.slice b2 m.cells.length k2) ∧ Z.cell? ⟨w.heap.size, 3, none⟩ = some (.int .i64 m.sig) ∧ Z.cell? ⟨w.heap.size, 4, none⟩ = some (.int .i64 m.used) ∧ Z.cell? ⟨w.heap.size, 5, none⟩ = some (.int .i64 m.trap) ∧ Z.cell? ⟨w.heap.size, 6, none⟩ = some (.bool m.done) ∧ Below W.heap.size W Z) := fun W e => by
    subst e
    refine ⟨hA, by simp, fun Z hz => ?_⟩
    have a1 := blk8 a0 hz
    exact ⟨cell_of_row _ _ 0 _ _ _ a1, cell_of_row _ _ 1 _ _ _ a1, cell_of_row _ _ 2 _ _ _ a1, cell_of_row _ _ 3 _ _ _ a1, cell_of_row _ _ 4 _ _ _ a1, cell_of_row _ _ 5 _ _ _ a1, cell_of_row _ _ 6 _ _ _ a1, hz⟩
  have HCS : Hid (∀ W, Below w.heap.size w W → Calls Try.prog 80 #[.slice b1 m.stk.length k1] W fun e w' => ∃ a' c', e = .returned (.slice a' m.stk.length c') ∧ Own w' W.heap.size (.slice a' m.stk.length c') m.stk ∧ Below W.heap.size W w') := fun W hb => (clone_any _ m.stk W (RowV.below ⟨b1, k1, rfl, hn1, hk1⟩ hb) hl1).mono fun e w' ⟨v', h1, h2, h3⟩ => by
    obtain ⟨a', c', rfl⟩ := own_shape h2
    exact ⟨a', c', h1, h2, h3⟩
  have HCC : Hid (∀ W, Below w.heap.size w W → Calls Try.prog 80 #[.slice b2 m.cells.length k2] W fun e w' => ∃ a' c', e = .returned (.slice a' m.cells.length c') ∧ Own w' W.heap.size (.slice a' m.cells.length c') m.cells ∧ Below W.heap.size W w') := fun W hb => (clone_any _ m.cells W (RowV.below ⟨b2, k2, rfl, hn2, hk2⟩ hb) hl2).mono fun e w' ⟨v', h1, h2, h3⟩ => by
    obtain ⟨a', c', rfl⟩ := own_shape h2
    exact ⟨a', c', h1, h2, h3⟩
  have HN : Hid (∀ (B Bz : Nat) (wx wy W9 : World) (vs vc : Value), Own wx B vs m.stk → Own wy Bz vc m.cells → wx.heap.size ≤ Bz → Below wx.heap.size wx wy → Below wy.heap.size wy W9 → B ≤ wx.heap.size → RunI B (W9.alloc (.cells (lineI m vs vc) 112)) W9.heap.size m) := fun B Bz wx wy W9 vs vc => new_sc B Bz wx wy W9 m vs vc
  have HN2 : Hid (∀ (B Bz : Nat) (wx wy W9 : World) (vs vc : Value), Own wx B vc m.cells → Own wy Bz vs m.stk → wx.heap.size ≤ Bz → Below wx.heap.size wx wy → Below wy.heap.size wy W9 → B ≤ wx.heap.size → RunI B (W9.alloc (.cells (lineI m vs vc) 112)) W9.heap.size m) := fun B Bz wx wy W9 vs vc => new_cs B Bz wx wy W9 m vs vc
  have HPR : Hid (∀ W, Calls Try.prog 97 #[machV m (.slice b1 m.stk.length k1) (.slice b2 m.cells.length k2)] W fun e w' => e = .returned (progV m) ∧ Below W.heap.size W w') := fun W => sprog_any m b1 b2 _ _ k1 k2 W
  clear hA a0 hn1 hn2 hk1 hk2 hl1 hl2
  generalize hL1 : m.stk.length = l1 at *
  generalize hL2 : m.cells.length = l2 at *
  go_enter Try.func86, Try.ntmps86
  go_upto_region 1 with fail
  have hX := HX.out _ rfl
  generalize w.alloc (.cells (lineS m (.slice b1 l1 k1) (.slice b2 l2 k2)) 39) = W at *
  obtain ⟨x1, x2, x3⟩ := hX
  have HB : Hid (Below w.heap.size w W) := x1
  have HK : Hid _ := x3
  have HK0 : Hid (Below W.heap.size W W) := Below.refl _ _
  clear x1 x2 x3 HX
  go_cut [2] from 3 (fun v W1 => ∃ g, v = .pointer (some ⟨g, 0, none⟩) ∧ Hid (RunI w.heap.size W1 g m) ∧ Hid (Below w.heap.size w W1))
  case first =>
    go_region_held3 (fun Z => Z.cell? ⟨w.heap.size, 0, none⟩ = some (.int .i64 m.pc) ∧ Z.cell? ⟨w.heap.size, 1, none⟩ = some (.slice b1 l1 k1) ∧ Z.cell? ⟨w.heap.size, 2, none⟩ = some (.slice b2 l2 k2) ∧ Z.cell? ⟨w.heap.size, 3, none⟩ = some (.int .i64 m.sig) ∧ Z.cell? ⟨w.heap.size, 4, none⟩ = some (.int .i64 m.used) ∧ Z.cell? ⟨w.heap.size, 5, none⟩ = some (.int .i64 m.trap) ∧ Z.cell? ⟨w.heap.size, 6, none⟩ = some (.bool m.done) ∧ Below W.heap.size W Z)
      ((refine HK.out _ ?_; repeat' first | assumption | exact HK0.out | exact last8 (by assumption) | refine Below.drew ?_ | refine below_alloc8 ?_ _))
      (first | ((with_reducible show Calls _ _ #[.slice b1 l1 k1] _ _); refine (HCS.out _ (HB.out.trans (Below.mono (B := W.heap.size) (last8 (by assumption)) HB.out.size))).mono ?_; rintro e ws ⟨ax, cx, rfl, hs, hbs⟩; have hbs2 : Below W.heap.size W ws := Below.trans (last8 (by assumption)) (hbs.mono (Below.size (last8 (by assumption))))) | ((with_reducible show Calls _ _ #[.slice b2 l2 k2] _ _); refine (HCC.out _ (HB.out.trans (Below.mono (B := W.heap.size) (last8 (by assumption)) HB.out.size))).mono ?_; rintro e wq ⟨aq, cq, rfl, hq, hbq⟩; have hbq2 : Below W.heap.size W wq := Below.trans (last8 (by assumption)) (hbq.mono (Below.size (last8 (by assumption))))) | (go_at_call 97; refine (HPR.out _).mono ?_; rintro e wr ⟨rfl, hbr⟩; have hbr2 : Below W.heap.size W wr := Below.trans (last8 (by assumption)) (hbr.mono (Below.size (last8 (by assumption))))) | fail)
    all_goals
      go_wp2_with fail
      go_meet
      case rel =>
        have hz : w.heap.size ≤ W.heap.size := HB.out.size
        have hz1 : W.heap.size ≤ ws.heap.size := hbs2.size
        have hz2 : W.heap.size ≤ wq.heap.size := hbq2.size
        refine ⟨_, rfl, ?_, HB.out.trans (Below.mono (B := W.heap.size) (last8 (by assumption)) hz)⟩
        first
          | exact HN.out _ _ ws wq _ _ _ (own_mono hs hz) hq (Nat.le_refl _) hbq hbr (by omega)
          | exact HN.out _ _ ws wq _ _ _ (own_mono hs hz) hq hbr.size (hbr.trans (hbq.mono hbr.size)) (Below.refl _ _) (by omega)
          | exact HN.out _ _ ws wq _ _ _ (own_mono hs hz) hq (Nat.le_refl _) hbq (Below.refl _ _) (by omega)
          | exact HN2.out _ _ wq ws _ _ _ (own_mono hq hz) hs (Nat.le_refl _) hbs hbr (by omega)
          | exact HN2.out _ _ wq ws _ _ _ (own_mono hq hz) hs hbr.size (hbr.trans (hbs.mono hbr.size)) (Below.refl _ _) (by omega)
          | exact HN2.out _ _ wq ws _ _ _ (own_mono hq hz) hs (Nat.le_refl _) hbs (Below.refl _ _) (by omega)
  case rest =>
    obtain ⟨g, rfl, h1, h2⟩ := hcut
    go_wp2_with fail
    go_ret
    exact ⟨_, rfl, h1.out, h2.out⟩
end Go.Proofs.Ytcikofhbfncgdaa
