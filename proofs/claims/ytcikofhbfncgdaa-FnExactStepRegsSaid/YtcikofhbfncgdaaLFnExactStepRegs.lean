/-
  The Go function laws.FnExactStepRegs answers true at every input and leaves its arguments as they were. No condition.
-/
import Derived.Test.YtcikofhbfncgdaaRgVar3
import Derived.Test.YtcikofhbfncgdaaRgI13
import Derived.Test.YtcikofhbfncgdaaRgS9
import Derived.Deep.RegionHeld3
import Derived.Deep.Cut
namespace Go.Proofs.Ytcikofhbfncgdaa
open Go.RowKit
set_option linter.unusedVariables false

theorem step_smallG (zs : List Int) (m : SM) : (stepRR zs m).stk.length ≤ 1000 ∧ (stepRR zs m).cells.length ≤ 1000 := by
  unfold stepRR
  by_cases h : stepRC zs m = 0
  · rw [if_pos h]
    have hf : fault zs = 0 := by
      by_cases hf : fault zs = 0
      · exact hf
      · unfold stepRC at h; rw [if_neg hf] at h; exact absurd h hf
    have hm : rmF m = 0 := by unfold stepRC at h; rw [if_pos hf] at h; exact h
    have hg := fault_good hf
    have := stepRM_good (rgood_of hm) hg.1 hg.2
    exact ⟨by have := this.sl; omega, by have := this.cl; omega⟩
  · rw [if_neg h]
    exact ⟨by simp [zeroM], by simp [zeroM]⟩

set_option maxHeartbeats 6400000 in
set_option maxRecDepth 100000 in
theorem fnExactStepRegs_walk (a0 : Option Addr) (len0 cap0 : Nat) (z0 : List Int) (sv1 cv1 : Value) (m1 : SM) (w : World) (w0 : IsRow .i64 w a0 len0 cap0 z0) (w1 : IsMach w sv1 cv1 m1) :
    Calls Try.prog 7 #[.slice a0 len0 cap0, .agg #[.int .i64 m1.pc, sv1, cv1, .int .i64 m1.sig, .int .i64 m1.used, .int .i64 m1.trap, .bool m1.done]] w fun e w' => e = .returned (.bool true) ∧ Below w.heap.size w w' := by
  obtain ⟨hl, hn⟩ := nums_of_row w0
  obtain ⟨zs, hzs⟩ : ∃ zs, zs = z0.take len0 := ⟨_, rfl⟩
  rw [← hzs] at hl hn
  subst hl
  clear hzs w0
  obtain ⟨hs, hc, hsl, hcl⟩ := w1
  have HRS : Hid (∀ W, Below w.heap.size w W → RowV W sv1 m1.stk ∧ RowV W cv1 m1.cells) := fun W hb => ⟨hs.below hb, hc.below hb⟩
  obtain ⟨a1, k1, rfl, _⟩ := hs
  obtain ⟨a2, k2, rfl, _⟩ := hc
  have hA := heap_alloc_new w (.cells (lineL m1 (.slice a1 m1.stk.length k1) (.slice a2 m1.cells.length k2)) 47)
  have hB : Below w.heap.size w (w.alloc (.cells (lineL m1 (.slice a1 m1.stk.length k1) (.slice a2 m1.cells.length k2)) 47)) := (Below.refl _ _).alloc (Nat.le_refl _) _
  by_cases hbig : 1048576 < zs.length
  · have HB : Hid _ := hB
    clear hB hA hsl hcl
    go_enter Try.func7, Try.ntmps7
    go_wp2
    go_ret
    exact ⟨rfl, HB.out⟩
  have hzl : zs.length ≤ 1048576 := by omega
  clear hbig
  have HSZ : Hid (∀ W, Calls Try.prog 31 #[machL m1 (.slice a1 m1.stk.length k1) (.slice a2 m1.cells.length k2), .int .i64 1048576] W fun e w' => ∃ r : Int, e = .returned (.int .i64 r) ∧ (0 ≤ r → m1.stk.length ≤ 1048576 ∧ m1.cells.length ≤ 1048576 ∧ r ≤ 1048576) ∧ Below W.heap.size W w') := fun W => szMach_anyG m1 a1 a2 k1 k2 1048576 (by omega) (by omega) hsl hcl W
  have HTO : Hid (∀ W, Below w.heap.size w W → Calls Try.prog 35 #[.slice a0 zs.length cap0] W fun e w' => e = .returned (.slice (some ⟨W.heap.size, 0, none⟩) zs.length zs.length) ∧ Own w' W.heap.size (.slice (some ⟨W.heap.size, 0, none⟩) zs.length zs.length) zs ∧ Below W.heap.size W w') := fun W h => copy_any a0 zs cap0 W hzl (hn.below h)
  clear hsl hcl
  go_enter Try.func7, Try.ntmps7
  go_upto_region 4 with fail
  generalize w.alloc (.cells (lineL m1 (.slice a1 m1.stk.length k1) (.slice a2 m1.cells.length k2)) 47) = W at *
  obtain ⟨c0, c1, c2, c3, c4, c5, c6⟩ := row7 hA
  go_wp2_with fail
  refine (HSZ.out _).mono ?_
  rintro e w1 ⟨r, rfl, hr, hb⟩
  have HA : Hid (w1.heap[w.heap.size]? = some (.cells (lineL m1 (.slice a1 m1.stk.length k1) (.slice a2 m1.cells.length k2)) 47 (0, 0))) := blk8 hA hb
  have HB : Hid (Below w.heap.size w w1) := hB.trans (hb.mono hB.size)
  clear hb hA hB c0 c1 c2 c3 c4 c5 c6 HSZ
  by_cases h0 : 0 ≤ r
  · obtain ⟨hz1, hz2, _⟩ := hr h0
    have HCC : Hid (∀ W, Below w1.heap.size w1 W → W.cell? ⟨w.heap.size, 0, none⟩ = some (.int .i64 m1.pc) ∧ W.cell? ⟨w.heap.size, 1, none⟩ = some (.slice a1 m1.stk.length k1) ∧ W.cell? ⟨w.heap.size, 2, none⟩ = some (.slice a2 m1.cells.length k2) ∧ W.cell? ⟨w.heap.size, 3, none⟩ = some (.int .i64 m1.sig) ∧ W.cell? ⟨w.heap.size, 4, none⟩ = some (.int .i64 m1.used) ∧ W.cell? ⟨w.heap.size, 5, none⟩ = some (.int .i64 m1.trap) ∧ W.cell? ⟨w.heap.size, 6, none⟩ = some (.bool m1.done)) := fun W hb => row7 (blk8 HA.out hb)
    have HT : Hid (TrioG 35 33 41 w (.slice a0 zs.length cap0) (machL m1 (.slice a1 m1.stk.length k1) (.slice a2 m1.cells.length k2)) zs m1 (stepRC zs m1) (stepRR zs m1)) :=
      ⟨fun W h => (HTO.out W h).mono fun e w' h => ⟨_, h.1, (nums_of_own h.2.1).2, (own_lt h.2.1 rfl).2, h.2.2⟩,
       fun W h => (toMach_anyG m1 _ _ W (HRS.out W h).1 (HRS.out W h).2 hz1 hz2).mono fun e w' ⟨g1, g2, _, he, h1, h2, hb⟩ => ⟨_, _, he, own_row h1, own_row h2, hb⟩,
       fun p g sv cv W hp h1 _ h2 h3 => (sStep_anyG (some ⟨g, 0, none⟩) zs zs.length m1 sv cv W h1 hzl (Nat.le_refl _) h2 h3 hz1 hz2).mono fun e w' h => h.gG hp,
       fun g sv cv W h1 _ h2 h3 => (sStep_anyG (some ⟨g, 0, none⟩) zs zs.length m1 sv cv W h1 hzl (Nat.le_refl _) h2 h3 hz1 hz2).mono fun e w' h => h.sG⟩
    have HI0 : Hid (∀ (g : Nat) (sv cv : Value) W, Nums W (some ⟨g, 0, none⟩) zs → g < W.heap.size → RowV W sv m1.stk → RowV W cv m1.cells → Calls Try.prog 19 #[.slice (some ⟨g, 0, none⟩) zs.length zs.length, machL m1 sv cv] W fun e w' => ResR W w' e (stepRC zs m1) (stepRR zs m1)) := fun g sv cv W h1 hg h2 h3 => iStepR_any (some ⟨g, 0, none⟩) zs zs.length m1 sv cv W h1 (fun b off e => by have := Option.some.inj e; have := congrArg Addr.block this; simp at this; omega) hzl (Nat.le_refl _) h2 h3 hz1 hz2
    have HU : Hid (TrioG 35 33 19 w (.slice a0 zs.length cap0) (machL m1 (.slice a1 m1.stk.length k1) (.slice a2 m1.cells.length k2)) zs m1 (stepRC zs m1) (stepRR zs m1)) :=
      ⟨HT.out.t, HT.out.m, fun p g sv cv W hp h1 hg h2 h3 => (HI0.out g sv cv W h1 hg h2 h3).mono fun e w' h => h.gG hp,
       fun g sv cv W h1 hg h2 h3 => (HI0.out g sv cv W h1 hg h2 h3).mono fun e w' h => h.sG⟩
    have HIM : Hid (∀ (g : Nat) (sv cv : Value) W, Nums W (some ⟨g, 0, none⟩) zs → g < W.heap.size → RowV W sv m1.stk → RowV W cv m1.cells → Calls Try.prog 19 #[.slice (some ⟨g, 0, none⟩) zs.length zs.length, machL m1 sv cv] W fun e w' => ResSG W w' e (stepRC zs m1) (stepRR zs m1)) := fun g sv cv W h1 hg h2 h3 => (HI0.out g sv cv W h1 hg h2 h3).mono fun e w' h => h.sG
    have HTM : Hid (∀ W, Below w.heap.size w W → Calls Try.prog 33 #[machL m1 (.slice a1 m1.stk.length k1) (.slice a2 m1.cells.length k2)] W fun e w' => ∃ g1 g2, e = .returned (machL m1 (.slice (some ⟨g1, 0, none⟩) m1.stk.length m1.stk.length) (.slice (some ⟨g2, 0, none⟩) m1.cells.length m1.cells.length)) ∧ Below W.heap.size W w' ∧ VarMG (w'.alloc (.cells (lineL m1 (.slice (some ⟨g1, 0, none⟩) m1.stk.length m1.stk.length) (.slice (some ⟨g2, 0, none⟩) m1.cells.length m1.cells.length)) 28)) W.heap.size w'.heap.size m1 (some ⟨g1, 0, none⟩) (some ⟨g2, 0, none⟩) m1.stk.length m1.cells.length) := fun W hW =>
      (toMach_anyG m1 _ _ W (HRS.out W hW).1 (HRS.out W hW).2 hz1 hz2).mono fun e w' ⟨g1, g2, hne, he, h1, h2, hb⟩ => ⟨g1, g2, he, hb, heap_alloc_new _ _, own_kept h1 ((Below.refl _ _).alloc (Nat.le_refl _) _), own_kept h2 ((Below.refl _ _).alloc (Nat.le_refl _) _), fun g e1 e2 => hne (by have := Option.some.inj e1; have := Option.some.inj e2; simp_all), fun g e => own_lt h1 (by simp [Option.some.inj e]), fun g e => own_lt h2 (by simp [Option.some.inj e])⟩
    clear HRS
    have HEM : Hid (∀ sv cv sv' cv' W, RowV W sv m1.stk → RowV W cv m1.cells → RowV W sv' m1.stk → RowV W cv' m1.cells → Calls Try.prog 34 #[machL m1 sv cv, machL m1 sv' cv'] W fun e w' => e = .returned (.bool true) ∧ Below W.heap.size W w') := fun sv cv sv' cv' W h1 h2 h3 h4 => eqMach_anyG m1 sv cv sv' cv' W h1 h2 h3 h4 hz1 hz2
    clear HI0
    obtain ⟨hm1, hm2⟩ := step_smallG zs m1
    generalize stepRC zs m1 = C at *
    generalize stepRR zs m1 = M at *
    have HEN : Hid (∀ (a b : Option Addr) (W : World), Nums W a zs → Nums W b zs → Calls Try.prog 37 #[.slice a zs.length zs.length, .slice b zs.length zs.length] W fun e w' => e = .returned (.bool true) ∧ Below W.heap.size W w') := fun a b W h1 h2 => eqNums_any a b zs _ _ W (by omega) h1 h2
    have HER : Hid (∀ (a1 a2 b1 b2 : Option Addr) (c1 c2 d1 d2 : Nat) (W : World), RowV W (.slice a1 M.stk.length c1) M.stk ∧ RowV W (.slice a2 M.cells.length c2) M.cells → RowV W (.slice b1 M.stk.length d1) M.stk ∧ RowV W (.slice b2 M.cells.length d2) M.cells → Calls Try.prog 36 #[resV C M (.slice a1 M.stk.length c1) (.slice a2 M.cells.length c2), resV C M (.slice b1 M.stk.length d1) (.slice b2 M.cells.length d2)] W fun e w' => e = .returned (.bool true) ∧ Below W.heap.size W w') := fun a1 a2 b1 b2 c1 c2 d1 d2 W h1 h2 => eqRes8_anyG C M _ _ _ _ W h1.1 h1.2 h2.1 h2.2 (by omega) (by omega)
    have HMK : Hid (∀ (W : World) (g : Nat), Own W g (.slice (some ⟨g, 0, none⟩) zs.length zs.length) zs → Calls Try.prog 38 #[.slice (some ⟨g, 0, none⟩) zs.length zs.length, .int .i64 1] W fun e w' => e = .returned (.int .i64 (1 + zs.length)) ∧ Below g W w' ∧ w'.heap.size = W.heap.size ∧ (∀ q, q ≠ g → w'.heap[q]? = W.heap[q]?)) := fun W g h => (mark_any _ zs _ g 1 W hzl (by omega) (by omega) h).mono fun e w' h => ⟨h.1, h.2.2.1, h.2.2.2.1, fun q hq => h.2.2.2.2 q (fun e => hq (by have := Option.some.inj e; have := congrArg Addr.block this; exact this.symm))⟩
    have HMM : Hid (∀ (s1 s2 : Option Addr) (t1 t2 D y : Nat) (W : World), D ≤ W.heap.size → VarMG W D y m1 s1 s2 t1 t2 → Calls Try.prog 42 #[machL m1 (.slice s1 m1.stk.length t1) (.slice s2 m1.cells.length t2), .int .i64 (1 + zs.length)] W fun e w' => e = .returned (.int .i64 (1 + zs.length + m1.stk.length + m1.cells.length)) ∧ Marked D W w' (1 + zs.length) s1 s2 m1.stk.length m1.cells.length) := fun s1 s2 t1 t2 D y W hB h => markMach_anyG m1 s1 s2 t1 t2 D (1 + zs.length) W h.s h.c h.d hB hz1 hz2 (by omega) (by omega)
    have HMR : Hid (∀ (a1 a2 : Option Addr) (c1 c2 B p : Nat) (W : World), B ≤ W.heap.size → Var8G W B p C M a1 a2 c1 c2 → Calls Try.prog 39 #[resV C M (.slice a1 M.stk.length c1) (.slice a2 M.cells.length c2), .int .i64 1] W fun e w' => e = .returned (.int .i64 (1 + M.stk.length + M.cells.length)) ∧ Marked B W w' 1 a1 a2 M.stk.length M.cells.length) := fun a1 a2 c1 c2 B p W hB h => markRes8_anyG C M a1 a2 c1 c2 B 1 W h.s h.c h.d hB hm1 hm2 (by omega) (by omega)
    have HHD : Hid (∀ (a1 a2 : Option Addr) (c1 c2 : Nat) (W : World), Nums W a1 (marks 1 M.stk.length) → Nums W a2 (marks (1 + M.stk.length) M.cells.length) → Calls Try.prog 40 #[resV C M (.slice a1 M.stk.length c1) (.slice a2 M.cells.length c2), .int .i64 1] W fun e w' => e = .returned (.int .i64 (1 + M.stk.length + M.cells.length)) ∧ Below W.heap.size W w') := fun a1 a2 c1 c2 W h1 h2 => heldRes8_anyG C M a1 a2 _ _ c1 c2 1 W h1 h2 hm1 hm2 (by omega) (by omega)
    have HNN : Hid (¬ ((1 : Int) + zs.length + m1.stk.length + m1.cells.length < 0)) := by unfold Hid; omega
    have HNM : Hid (¬ ((1 : Int) + M.stk.length + M.cells.length < 0)) := by unfold Hid; omega
    have HIMS : Hid (∀ (sv cv : Value) (g : Nat) W, Own W g (.slice (some ⟨g, 0, none⟩) zs.length zs.length) zs → RowV W sv m1.stk → RowV W cv m1.cells → Calls Try.prog 19 #[.slice (some ⟨g, 0, none⟩) zs.length zs.length, machL m1 sv cv] W fun e w' => ResSG W w' e C M) := fun sv cv g W h h2 h3 => HIM.out g sv cv W (nums_of_own h).2 (own_lt h rfl).2 h2 h3
    clear hr hn hz1 hz2 hm1 hm2 HIM
    obtain ⟨c0, c1, c2, c3, c4, c5, c6⟩ := HCC.out _ (Below.refl _ _)
    go_upto_region 7 with fail
    go_cut [6] from 22 (fun x W' => Hid (∃ (p B E : Nat) (b1 b2 : Option Addr) (d1 d2 : Nat), x = .pointer (some ⟨p, 0, none⟩) ∧ VarEG W' B E p C M b1 b2 d1 d2 ∧ E ≤ W'.heap.size ∧ Below w1.heap.size w1 W' ∧ w1.heap.size ≤ p))
    case first =>
      rename_i J K1 hJ hK
      have hS0 : Below w1.heap.size w1 w1 := Below.refl _ _
      go_region_held3 (fun W => Below w1.heap.size w1 W ∧ W.cell? ⟨w.heap.size, 0, none⟩ = some (.int .i64 m1.pc) ∧ W.cell? ⟨w.heap.size, 1, none⟩ = some (.slice a1 m1.stk.length k1) ∧ W.cell? ⟨w.heap.size, 2, none⟩ = some (.slice a2 m1.cells.length k2) ∧ W.cell? ⟨w.heap.size, 3, none⟩ = some (.int .i64 m1.sig) ∧ W.cell? ⟨w.heap.size, 4, none⟩ = some (.int .i64 m1.used) ∧ W.cell? ⟨w.heap.size, 5, none⟩ = some (.int .i64 m1.trap) ∧ W.cell? ⟨w.heap.size, 6, none⟩ = some (.bool m1.done)) (first | (with_reducible exact ⟨by assumption, HCC.out _ (by assumption)⟩) | (with_reducible exact ⟨HBB.out, HCC.out _ HBB.out⟩) | (with_reducible exact ⟨hS0.drew, HCC.out _ hS0.drew⟩) | (with_reducible exact ⟨(below_al hS0).drew, HCC.out _ (below_al hS0).drew⟩) | (with_reducible exact ⟨below_al hD5, HCC.out _ (below_al hD5)⟩) | (with_reducible exact ⟨below_al hD4, HCC.out _ (below_al hD4)⟩) | (with_reducible exact ⟨below_al hD3, HCC.out _ (below_al hD3)⟩) | fail) (first | (go_at_call 35; refine (HT.out.t _ (HB.out.trans (Below.mono (And.left (by with_reducible assumption)) HB.out.size))).mono ?_; rintro e w3 ⟨g3, rfl, hn3, hl3, hb⟩; have hD3 : Below w1.heap.size w1 w3 := step_below (And.left (by with_reducible assumption)) hb; have HN3 := hid hn3; have HL3 := hid hl3; (try (have HZ3 := hid (blk8 (al_drew _ _) hb))); clear hb hn3 hl3) | (go_at_call 33; refine (HT.out.m _ (HB.out.trans (Below.mono (And.left (by with_reducible assumption)) HB.out.size))).mono ?_; rintro e w4 ⟨sv, cv, rfl, hr1, hr2, hb⟩; have hD4 : Below w1.heap.size w1 w4 := step_below (And.left (by with_reducible assumption)) hb; (first | (have HN4 := hid (HN3.out.below hb); have HL4 := hid (Nat.lt_of_lt_of_le HL3.out hb.size)) | (have HN4 := hid (HN3.out.below (back hb)); have HL4 := hid (Nat.lt_of_lt_of_le HL3.out (back hb).size))); (first | (have HZ4 := hid (blk8 HZ3.out hb)) | (have HZ4 := hid (blk8 (heap_alloc_new _ _) hb)) | skip); have HR4 := hid hr1; have HS4 := hid hr2; clear hb hr1 hr2) | (go_at_call 41; (first | (have hz := HZ4.out; refine (HT.out.g _ _ _ _ _ hz HN4.out HL4.out HR4.out HS4.out).mono ?_; rintro e w5 ⟨b1, b2, d1, d2, rfl, hrow, hb, hv, hbb⟩; have hD5 : Below w1.heap.size w1 w5 := step_below hD4 hb; have HBB := hid (Below.trans hD5 (hbb.mono (by first | exact Nat.le_refl _ | exact hD3.size | exact hD4.size))); have HV := hid hv; have HVE := hid hbb.size; obtain ⟨t0, t1, t2, t3, t4, t5, t6, t7⟩ := cl8 hrow; obtain ⟨f0, f1, f2, f3, f4, f5, f6, f7⟩ := fl8 hrow; clear hb hv hrow hbb) | ((with_reducible show Calls _ _ _ (World.alloc w4 _) _); refine (HT.out.g _ _ _ _ _ (heap_alloc_new _ _) (HN4.out.below ((Below.refl _ _).alloc (Nat.le_refl _) _)) (Nat.lt_of_lt_of_le HL4.out (Below.size ((Below.refl _ _).alloc (Nat.le_refl _) _))) (HR4.out.below ((Below.refl _ _).alloc (Nat.le_refl _) _)) (HS4.out.below ((Below.refl _ _).alloc (Nat.le_refl _) _))).mono ?_; rintro e w5 ⟨b1, b2, d1, d2, rfl, hrow, hb, hv, hbb⟩; have hD5 : Below w1.heap.size w1 w5 := step_below (below_al hD4) hb; have HBB := hid (Below.trans hD5 (hbb.mono (by first | exact Nat.le_refl _ | exact hD3.size | exact hD4.size))); have HV := hid hv; have HVE := hid hbb.size; obtain ⟨t0, t1, t2, t3, t4, t5, t6, t7⟩ := cl8 hrow; obtain ⟨f0, f1, f2, f3, f4, f5, f6, f7⟩ := fl8 hrow; clear hb hv hrow hbb) | (refine (HT.out.q _ _ _ _ HN4.out HL4.out HR4.out HS4.out).mono ?_; rintro e w5 ⟨b1, b2, d1, d2, rfl, hb, hv⟩; have hD5 : Below w1.heap.size w1 w5 := step_below hD4 hb; have HV := hid hv; clear hb hv))))
      all_goals
        refine hK _ _ (Met.intro (hJ _ _ ?_))
        (repeat apply Exists.intro)
        refine ⟨?rel, rfl⟩
        case rel => first | exact ⟨_, _, _, b1, b2, d1, d2, rfl, HV.out, HVE.out, HBB.out, by first | exact Nat.le_refl _ | exact hD3.size | exact hD4.size⟩ | exact ⟨_, _, _, b1, b2, d1, d2, rfl, HV.out.e, by simp, below_al hD5, hD5.size⟩
    case rest =>
      obtain ⟨p, B, E, b1, b2, d1, d2, rfl, hv2, he2, hb2, hp2⟩ := hcut.out
      have HA2 := hid (blk8 HA.out hb2)
      have HV2 := hid hv2
      have HE2 : Hid (w.heap.size < E ∧ E ≤ wc.heap.size) := ⟨by have k := (Array.getElem?_eq_some_iff.1 HA.out).1; have k2 := hv2.pE; omega, he2⟩
      have HB2 := hid (HB.out.trans (hb2.mono HB.out.size))
      clear hcut hv2 he2 hb2 hp2 HCC HA HB c0 c1 c2 c3 c4 c5 c6
      go_wp2_with fail
      refine (HTO.out _ HB2.out).mono ?_
      rintro e w3 ⟨rfl, ho3, hb⟩
      have HV3 := hid (HV2.out.below hb)
      have HA3 := hid (blk8 HA2.out hb)
      have HB3 := hid (HB2.out.trans (hb.mono HB2.out.size))
      have HXL : Hid (w.heap.size < E ∧ E ≤ wc.heap.size ∧ wc.heap.size < w3.heap.size) := ⟨HE2.out.1, HE2.out.2, (own_lt ho3 rfl).2⟩
      have HX3 := hid ho3
      clear ho3 hb HV2 HA2 HB2 HE2
      generalize wc.heap.size = x at *
      obtain ⟨c0, c1, c2, c3, c4, c5, c6⟩ := row7 HA3.out
      go_wp2_with fail
      refine (HTM.out _ HB3.out).mono ?_
      rintro e w4 ⟨g1, g2, rfl, hb, hv⟩
      have hb4 := hb.trans ((Below.refl _ _).alloc hb.size (.cells (lineL m1 (.slice (some ⟨g1, 0, none⟩) m1.stk.length m1.stk.length) (.slice (some ⟨g2, 0, none⟩) m1.cells.length m1.cells.length)) 28))
      have HW5 : Hid (StepWG w (w4.alloc (.cells (lineL m1 (.slice (some ⟨g1, 0, none⟩) m1.stk.length m1.stk.length) (.slice (some ⟨g2, 0, none⟩) m1.cells.length m1.cells.length)) 28)) (lineL m1 (.slice a1 m1.stk.length k1) (.slice a2 m1.cells.length k2)) zs m1 C M B E p x w3.heap.size w4.heap.size b1 b2 (some ⟨g1, 0, none⟩) (some ⟨g2, 0, none⟩) d1 d2 m1.stk.length m1.cells.length) :=
        ⟨blk8 HA3.out hb4, HV3.out.below hb4, own_kept HX3.out hb4, hv, HB3.out.trans (hb4.mono HB3.out.size), HXL.out.1, HXL.out.2.1, HXL.out.2.2, hb.size, hv.lt⟩
      clear hb hv hb4 HV3 HA3 HB3 HXL HX3 c0 c1 c2 c3 c4 c5 c6 HTM
      go_upto_region 10 with fail
      generalize w4.alloc (.cells (lineL m1 (.slice (some ⟨g1, 0, none⟩) m1.stk.length m1.stk.length) (.slice (some ⟨g2, 0, none⟩) m1.cells.length m1.cells.length)) 28) = W5 at *
      generalize w4.heap.size = y at *
      generalize w3.heap.size = D at *
      obtain ⟨s1, hs1⟩ : ∃ s, s = (some ⟨g1, 0, none⟩ : Option Addr) := ⟨_, rfl⟩
      obtain ⟨s2, hs2⟩ : ∃ s, s = (some ⟨g2, 0, none⟩ : Option Addr) := ⟨_, rfl⟩
      rw [← hs1, ← hs2] at HW5
      clear hs1 hs2
      obtain ⟨c0, c1, c2, c3, c4, c5, c6⟩ := row7 HW5.out.mo.row
      go_wp2_with fail
      refine (HIMS.out _ _ _ _ HW5.out.xo (own_row HW5.out.mo.s) (own_row HW5.out.mo.c)).mono ?_
      rintro e w6 ⟨f1, f2, i1, i2, rfl, hb, hv⟩
      have hb6 := hb.trans ((Below.refl _ _).alloc hb.size (.cells (line8 C M (.slice f1 M.stk.length i1) (.slice f2 M.cells.length i2)) 30))
      have HW6 := hid (HW5.out.below hb6)
      have HU6 := hid hv
      have HQ : Hid (y < W5.heap.size ∧ W5.heap.size ≤ w6.heap.size) := ⟨HW5.out.l.2.2.2.2, hb.size⟩
      clear hb hv hb6 HW5 c0 c1 c2 c3 c4 c5 c6 HIMS
      go_upto_region 11 with fail
      generalize w6.alloc (.cells (line8 C M (.slice f1 M.stk.length i1) (.slice f2 M.cells.length i2)) 30) = W6 at *
      generalize w6.heap.size = q at *
      generalize W5.heap.size = G at *
      obtain ⟨v0, v1, v2, v3, v4, v5, v6, v7⟩ := row8 HW6.out.v.row
      obtain ⟨u0, u1, u2, u3, u4, u5, u6, u7⟩ := row8 HU6.out.row
      go_wp2_with fail
      refine (HER.out _ _ _ _ _ _ _ _ _ HU6.out.rows HW6.out.v.rows).mono ?_
      rintro e w7 ⟨rfl, hb⟩
      have HW7 := hid (HW6.out.below hb)
      have HU7 := hid (HU6.out.below hb)
      clear hb HW6 HU6 v0 v1 v2 v3 v4 v5 v6 v7 u0 u1 u2 u3 u4 u5 u6 u7
      go_wp2_with fail
      refine (HTO.out _ HW7.out.b).mono ?_
      rintro e w8 ⟨rfl, ho, hb⟩
      have HW8 := hid (HW7.out.below hb)
      have HU8 := hid (HU7.out.below hb)
      have HN8 := hid (nums_of_own ho).2
      clear hb ho HW7 HU7
      go_wp2_with fail
      refine (HEN.out _ _ _ (nums_of_own HW8.out.xo).2 HN8.out).mono ?_
      rintro e w9 ⟨rfl, hb⟩
      have HW9 := hid (HW8.out.below hb)
      have HU9 := hid (HU8.out.below hb)
      clear hb HW8 HU8 HN8 HEN HTO
      have HC9 : Hid (∀ W, Below w9.heap.size w9 W → (W.cell? ⟨w.heap.size, 0, none⟩ = some (.int .i64 m1.pc) ∧ W.cell? ⟨w.heap.size, 1, none⟩ = some (.slice a1 m1.stk.length k1) ∧ W.cell? ⟨w.heap.size, 2, none⟩ = some (.slice a2 m1.cells.length k2) ∧ W.cell? ⟨w.heap.size, 3, none⟩ = some (.int .i64 m1.sig) ∧ W.cell? ⟨w.heap.size, 4, none⟩ = some (.int .i64 m1.used) ∧ W.cell? ⟨w.heap.size, 5, none⟩ = some (.int .i64 m1.trap) ∧ W.cell? ⟨w.heap.size, 6, none⟩ = some (.bool m1.done)) ∧ (W.cell? ⟨y, 0, none⟩ = some (.int .i64 m1.pc) ∧ W.cell? ⟨y, 1, none⟩ = some (.slice s1 m1.stk.length m1.stk.length) ∧ W.cell? ⟨y, 2, none⟩ = some (.slice s2 m1.cells.length m1.cells.length) ∧ W.cell? ⟨y, 3, none⟩ = some (.int .i64 m1.sig) ∧ W.cell? ⟨y, 4, none⟩ = some (.int .i64 m1.used) ∧ W.cell? ⟨y, 5, none⟩ = some (.int .i64 m1.trap) ∧ W.cell? ⟨y, 6, none⟩ = some (.bool m1.done))) := fun W hb => ⟨row7 (blk8 HW9.out.a hb), row7 (blk8 HW9.out.mo.row hb)⟩
      have hS0 : Below w9.heap.size w9 w9 := Below.refl _ _
      obtain ⟨⟨c0, c1, c2, c3, c4, c5, c6⟩, m0, m1', m2, m3, m4, m5, m6⟩ := HC9.out _ hS0
      go_upto_region 15 with fail
      go_region_held3 (fun W => Below w9.heap.size w9 W ∧ (W.cell? ⟨w.heap.size, 0, none⟩ = some (.int .i64 m1.pc) ∧ W.cell? ⟨w.heap.size, 1, none⟩ = some (.slice a1 m1.stk.length k1) ∧ W.cell? ⟨w.heap.size, 2, none⟩ = some (.slice a2 m1.cells.length k2) ∧ W.cell? ⟨w.heap.size, 3, none⟩ = some (.int .i64 m1.sig) ∧ W.cell? ⟨w.heap.size, 4, none⟩ = some (.int .i64 m1.used) ∧ W.cell? ⟨w.heap.size, 5, none⟩ = some (.int .i64 m1.trap) ∧ W.cell? ⟨w.heap.size, 6, none⟩ = some (.bool m1.done)) ∧ (W.cell? ⟨y, 0, none⟩ = some (.int .i64 m1.pc) ∧ W.cell? ⟨y, 1, none⟩ = some (.slice s1 m1.stk.length m1.stk.length) ∧ W.cell? ⟨y, 2, none⟩ = some (.slice s2 m1.cells.length m1.cells.length) ∧ W.cell? ⟨y, 3, none⟩ = some (.int .i64 m1.sig) ∧ W.cell? ⟨y, 4, none⟩ = some (.int .i64 m1.used) ∧ W.cell? ⟨y, 5, none⟩ = some (.int .i64 m1.trap) ∧ W.cell? ⟨y, 6, none⟩ = some (.bool m1.done))) (first | (with_reducible exact ⟨by assumption, HC9.out _ (by assumption)⟩) | (with_reducible exact ⟨hS0.drew, HC9.out _ hS0.drew⟩) | fail) (first | (go_at_call 33; refine (HT.out.m _ (HW9.out.b.trans (Below.mono (And.left (by with_reducible assumption)) HW9.out.b.size))).mono ?_; rintro e wa ⟨sv, cv, rfl, hr1, hr2, hb⟩; have hD3 : Below w9.heap.size w9 wa := step_below (And.left (by with_reducible assumption)) hb; have HR3 := hid hr1; have HS3 := hid hr2; clear hb hr1 hr2) | (go_at_call 34; refine (HEM.out _ _ _ _ _ ((own_row HW9.out.mo.s).below hD3) ((own_row HW9.out.mo.c).below hD3) HR3.out HS3.out).mono ?_; rintro e wb ⟨rfl, hb⟩; have hD4 : Below w9.heap.size w9 wb := step_below hD3 hb; clear hb) | fail)
      have HW10 := hid (HW9.out.below hD4)
      have HU10 := hid (HU9.out.below hD4)
      clear hD3 hD4 hS0 HC9 HW9 HU9 HR3 HS3 HEM c0 c1 c2 c3 c4 c5 c6 m0 m1' m2 m3 m4 m5 m6
      go_wp2_with fail
      refine (HMK.out _ _ HW10.out.xo).mono ?_
      rintro e w11 ⟨rfl, hb, hz, hoth⟩
      have HL : Hid (w.heap.size < E ∧ E ≤ x ∧ x < D ∧ D ≤ y ∧ y < G ∧ G ≤ q ∧ q < w11.heap.size ∧ w.heap.size ≤ w11.heap.size) := by
        have k := HW10.out.l
        have k2 := HU10.out.lt
        have k3 := HW10.out.b.size
        have k4 := HQ.out
        exact ⟨k.1, k.2.1, k.2.2.1, k.2.2.2.1, k4.1, k4.2, by omega, by omega⟩
      have HA11 := hid ((hoth _ (by have := HL.out; omega)).trans HW10.out.a)
      have HV11 := hid (HW10.out.v.keepE (W' := w11) fun g hg => hoth g (by have := HL.out; omega))
      have HM11 := hid (HW10.out.mo.keep (hoth _ (by have := HL.out; omega)) fun g h1 h2 => hoth g (by have := HL.out; omega))
      have HU11 := hid (HU10.out.keep (hoth _ (by have := HL.out; omega)) (fun g hg => hoth g (by have := HU10.out.b1 g hg; have := HL.out; omega)) (fun g hg => hoth g (by have := HU10.out.b2 g hg; have := HL.out; omega)))
      have HB11 := hid (HW10.out.b.trans (hb.mono (by have := HL.out; omega)))
      clear hb hz hoth HW10 HU10 HQ HMK
      obtain ⟨c0, c1, c2, c3, c4, c5, c6⟩ := row7 HM11.out.row
      go_wp2_with fail
      refine (HMM.out _ _ _ _ _ _ _ (by have := HL.out; omega) HM11.out).mono ?_
      rintro e w12 ⟨rfl, _, _, hb, hz, hoth⟩
      have HO : ∀ g, g < w11.heap.size → (g < D ∨ y ≤ g) → w12.heap[g]? = w11.heap[g]? := fun g hg h => hoth g hg (fun e => by have := HM11.out.b1 g e; omega) (fun e => by have := HM11.out.b2 g e; omega)
      have HZ12 : Hid (StepZG w w12 (lineL m1 (.slice a1 m1.stk.length k1) (.slice a2 m1.cells.length k2)) C M B E p G q b1 b2 f1 f2 d1 d2 i1 i2) :=
        ⟨(HO _ (by have := HL.out; omega) (by have := HL.out; omega)).trans HA11.out, HV11.out.keepE fun g hg => HO g (by have := HL.out; omega) (by have := HL.out; omega),
         HU11.out.keep (HO _ (by have := HL.out; omega) (by have := HL.out; omega)) (fun g hg => HO g (by have := HU11.out.b1 g hg; have := HL.out; omega) (by have := HU11.out.b1 g hg; have := HL.out; omega)) (fun g hg => HO g (by have := HU11.out.b2 g hg; have := HL.out; omega) (by have := HU11.out.b2 g hg; have := HL.out; omega)),
         HB11.out.trans (hb.mono (by have := HL.out; omega)), by have := HL.out; omega⟩
      clear hb hz hoth HO HA11 HV11 HM11 HU11 HB11 HL HMM c0 c1 c2 c3 c4 c5 c6
      obtain ⟨v0, v1, v2, v3, v4, v5, v6, v7⟩ := row8 HZ12.out.v.row
      obtain ⟨u0, u1, u2, u3, u4, u5, u6, u7⟩ := row8 HZ12.out.u.row
      have hkd : decide ((1 : Int) + zs.length + m1.stk.length + m1.cells.length < 0) = false := decide_eq_false (by have := HNN.out; omega)
      go_wp2_with fail
      refine (HER.out _ _ _ _ _ _ _ _ _ HZ12.out.u.rows HZ12.out.v.rows).mono ?_
      rintro e w13 ⟨rfl, hb⟩
      have HZ13 := hid (HZ12.out.below hb)
      clear hb hkd HZ12 v0 v1 v2 v3 v4 v5 v6 v7 u0 u1 u2 u3 u4 u5 u6 u7
      obtain ⟨u0, u1, u2, u3, u4, u5, u6, u7⟩ := row8 HZ13.out.u.row
      go_wp2_with fail
      refine (HMR.out _ _ _ _ _ _ _ (by have := HZ13.out.l; omega) HZ13.out.u).mono ?_
      rintro e w14 ⟨rfl, hn1, hn2, hb, hz, hoth⟩
      have HO : ∀ g, g < w13.heap.size → (g < G ∨ q ≤ g) → w14.heap[g]? = w13.heap[g]? := fun g hg h => hoth g hg (fun e => by have := HZ13.out.u.b1 g e; omega) (fun e => by have := HZ13.out.u.b2 g e; omega)
      have HN14 : Hid (StepNG w w14 (lineL m1 (.slice a1 m1.stk.length k1) (.slice a2 m1.cells.length k2)) C M B E p q b1 b2 f1 f2 d1 d2 i1 i2) :=
        ⟨(HO _ (by have := HZ13.out.l; omega) (by have := HZ13.out.l; omega)).trans HZ13.out.a, HZ13.out.v.keepE fun g hg => HO g (by have := HZ13.out.l; omega) (by have := HZ13.out.l; omega),
         (HO _ (by have := HZ13.out.l; omega) (by have := HZ13.out.l; omega)).trans HZ13.out.u.row, hn1, hn2, HZ13.out.b.trans (hb.mono (by have := HZ13.out.l; omega))⟩
      clear hb hz hoth HO HZ13 hn1 hn2 HMR u0 u1 u2 u3 u4 u5 u6 u7
      obtain ⟨u0, u1, u2, u3, u4, u5, u6, u7⟩ := row8 HN14.out.u
      go_wp2_with fail
      refine (HHD.out _ _ _ _ _ HN14.out.n1 HN14.out.n2).mono ?_
      rintro e w15 ⟨rfl, hb⟩
      have HN15 := hid (HN14.out.below hb)
      have HB15 := hid HN15.out.b
      have HCC : Hid (∀ W, Below w15.heap.size w15 W → W.cell? ⟨w.heap.size, 0, none⟩ = some (.int .i64 m1.pc) ∧ W.cell? ⟨w.heap.size, 1, none⟩ = some (.slice a1 m1.stk.length k1) ∧ W.cell? ⟨w.heap.size, 2, none⟩ = some (.slice a2 m1.cells.length k2) ∧ W.cell? ⟨w.heap.size, 3, none⟩ = some (.int .i64 m1.sig) ∧ W.cell? ⟨w.heap.size, 4, none⟩ = some (.int .i64 m1.used) ∧ W.cell? ⟨w.heap.size, 5, none⟩ = some (.int .i64 m1.trap) ∧ W.cell? ⟨w.heap.size, 6, none⟩ = some (.bool m1.done)) := fun W hb => row7 (blk8 HN15.out.a hb)
      clear hb HN14 u0 u1 u2 u3 u4 u5 u6 u7
      have hkd : decide ((1 : Int) + M.stk.length + M.cells.length < 0) = false := decide_eq_false (by have := HNM.out; omega)
      obtain ⟨c0, c1, c2, c3, c4, c5, c6⟩ := HCC.out _ (Below.refl _ _)
      go_upto_region 30 with fail
      clear hkd
      go_cut [13] from 73 (fun x W' => Hid (∃ (p B E : Nat) (b1 b2 : Option Addr) (d1 d2 : Nat), x = .pointer (some ⟨p, 0, none⟩) ∧ VarEG W' B E p C M b1 b2 d1 d2 ∧ E ≤ W'.heap.size ∧ Below w15.heap.size w15 W' ∧ w15.heap.size ≤ p))
      case first =>
        rename_i J K1 hJ hK
        have hS0 : Below w15.heap.size w15 w15 := Below.refl _ _
        go_region_held3 (fun W => Below w15.heap.size w15 W ∧ W.cell? ⟨w.heap.size, 0, none⟩ = some (.int .i64 m1.pc) ∧ W.cell? ⟨w.heap.size, 1, none⟩ = some (.slice a1 m1.stk.length k1) ∧ W.cell? ⟨w.heap.size, 2, none⟩ = some (.slice a2 m1.cells.length k2) ∧ W.cell? ⟨w.heap.size, 3, none⟩ = some (.int .i64 m1.sig) ∧ W.cell? ⟨w.heap.size, 4, none⟩ = some (.int .i64 m1.used) ∧ W.cell? ⟨w.heap.size, 5, none⟩ = some (.int .i64 m1.trap) ∧ W.cell? ⟨w.heap.size, 6, none⟩ = some (.bool m1.done)) (first | (with_reducible exact ⟨by assumption, HCC.out _ (by assumption)⟩) | (with_reducible exact ⟨HBB.out, HCC.out _ HBB.out⟩) | (with_reducible exact ⟨hS0.drew, HCC.out _ hS0.drew⟩) | (with_reducible exact ⟨(below_al hS0).drew, HCC.out _ (below_al hS0).drew⟩) | (with_reducible exact ⟨below_al hD5, HCC.out _ (below_al hD5)⟩) | (with_reducible exact ⟨below_al hD4, HCC.out _ (below_al hD4)⟩) | (with_reducible exact ⟨below_al hD3, HCC.out _ (below_al hD3)⟩) | fail) (first | (go_at_call 35; refine (HU.out.t _ (HB15.out.trans (Below.mono (And.left (by with_reducible assumption)) HB15.out.size))).mono ?_; rintro e w3 ⟨g3, rfl, hn3, hl3, hb⟩; have hD3 : Below w15.heap.size w15 w3 := step_below (And.left (by with_reducible assumption)) hb; have HN3 := hid hn3; have HL3 := hid hl3; (try (have HZ3 := hid (blk8 (al_drew _ _) hb))); clear hb hn3 hl3) | (go_at_call 33; refine (HU.out.m _ (HB15.out.trans (Below.mono (And.left (by with_reducible assumption)) HB15.out.size))).mono ?_; rintro e w4 ⟨sv, cv, rfl, hr1, hr2, hb⟩; have hD4 : Below w15.heap.size w15 w4 := step_below (And.left (by with_reducible assumption)) hb; (first | (have HN4 := hid (HN3.out.below hb); have HL4 := hid (Nat.lt_of_lt_of_le HL3.out hb.size)) | (have HN4 := hid (HN3.out.below (back hb)); have HL4 := hid (Nat.lt_of_lt_of_le HL3.out (back hb).size))); (first | (have HZ4 := hid (blk8 HZ3.out hb)) | (have HZ4 := hid (blk8 (heap_alloc_new _ _) hb)) | skip); have HR4 := hid hr1; have HS4 := hid hr2; clear hb hr1 hr2) | (go_at_call 19; (first | (have hz := HZ4.out; refine (HU.out.g _ _ _ _ _ hz HN4.out HL4.out HR4.out HS4.out).mono ?_; rintro e w5 ⟨b1, b2, d1, d2, rfl, hrow, hb, hv, hbb⟩; have hD5 : Below w15.heap.size w15 w5 := step_below hD4 hb; have HBB := hid (Below.trans hD5 (hbb.mono (by first | exact Nat.le_refl _ | exact hD3.size | exact hD4.size))); have HV := hid hv; have HVE := hid hbb.size; obtain ⟨t0, t1, t2, t3, t4, t5, t6, t7⟩ := cl8 hrow; obtain ⟨f0, f1, f2, f3, f4, f5, f6, f7⟩ := fl8 hrow; clear hb hv hrow hbb) | ((with_reducible show Calls _ _ _ (World.alloc w4 _) _); refine (HU.out.g _ _ _ _ _ (heap_alloc_new _ _) (HN4.out.below ((Below.refl _ _).alloc (Nat.le_refl _) _)) (Nat.lt_of_lt_of_le HL4.out (Below.size ((Below.refl _ _).alloc (Nat.le_refl _) _))) (HR4.out.below ((Below.refl _ _).alloc (Nat.le_refl _) _)) (HS4.out.below ((Below.refl _ _).alloc (Nat.le_refl _) _))).mono ?_; rintro e w5 ⟨b1, b2, d1, d2, rfl, hrow, hb, hv, hbb⟩; have hD5 : Below w15.heap.size w15 w5 := step_below (below_al hD4) hb; have HBB := hid (Below.trans hD5 (hbb.mono (by first | exact Nat.le_refl _ | exact hD3.size | exact hD4.size))); have HV := hid hv; have HVE := hid hbb.size; obtain ⟨t0, t1, t2, t3, t4, t5, t6, t7⟩ := cl8 hrow; obtain ⟨f0, f1, f2, f3, f4, f5, f6, f7⟩ := fl8 hrow; clear hb hv hrow hbb) | (refine (HU.out.q _ _ _ _ HN4.out HL4.out HR4.out HS4.out).mono ?_; rintro e w5 ⟨b1, b2, d1, d2, rfl, hb, hv⟩; have hD5 : Below w15.heap.size w15 w5 := step_below hD4 hb; have HV := hid hv; clear hb hv))))
        all_goals
          refine hK _ _ (Met.intro (hJ _ _ ?_))
          (repeat apply Exists.intro)
          refine ⟨?rel, rfl⟩
          case rel => first | exact ⟨_, _, _, b1, b2, d1, d2, rfl, HV.out, HVE.out, HBB.out, by first | exact Nat.le_refl _ | exact hD3.size | exact hD4.size⟩ | exact ⟨_, _, _, b1, b2, d1, d2, rfl, HV.out.e, by simp, below_al hD5, hD5.size⟩
      case rest =>
        obtain ⟨p2, B2, E2, e1, e2, j1, j2, rfl, hv2, _, hb2, _⟩ := hcut.out
        have HN16 := hid (HN15.out.below hb2)
        have HH16 := hid hv2
        clear hcut hv2 hb2 HCC HN15 HB15 HU HT c0 c1 c2 c3 c4 c5 c6
        obtain ⟨v0, v1, v2, v3, v4, v5, v6, v7⟩ := row8 HN16.out.v.row
        obtain ⟨u0, u1, u2, u3, u4, u5, u6, u7⟩ := row8 HH16.out.row
        go_wp2_with fail
        refine (HER.out _ _ _ _ _ _ _ _ _ HH16.out.rows HN16.out.v.rows).mono ?_
        rintro e w17 ⟨rfl, hb⟩
        have HN17 := hid (HN16.out.below hb)
        clear hb HN16 HH16 v0 v1 v2 v3 v4 v5 v6 v7 u0 u1 u2 u3 u4 u5 u6 u7
        obtain ⟨u0, u1, u2, u3, u4, u5, u6, u7⟩ := row8 HN17.out.u
        go_wp2_with fail
        refine (HHD.out _ _ _ _ _ HN17.out.n1 HN17.out.n2).mono ?_
        rintro e w18 ⟨rfl, hb⟩
        have HB18 := hid (HN17.out.below hb).b
        clear hb HN17 u0 u1 u2 u3 u4 u5 u6 u7
        go_wp2_with fail
        go_ret
        exact ⟨rfl, HB18.out⟩
  · clear HTO
    go_wp2_with fail
    go_ret
    exact ⟨rfl, HB.out⟩
end Go.Proofs.Ytcikofhbfncgdaa
