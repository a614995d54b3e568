/-
  The Go function laws.FnRegisters answers true at every input and writes nothing that was there. No condition.
-/
import Derived.Test.YtcikofhbfncgdaaWords0
import Derived.Test.YtcikofhbfncgdaaStkVar2
import Derived.Test.YtcikofhbfncgdaaRgVar3
import Derived.Test.YtcikofhbfncgdaaBig
import Derived.Test.YtcikofhbfncgdaaBig
import Derived.Test.YtcikofhbfncgdaaBig
import Derived.Deep.RegionHeld3
namespace Go.Proofs.Ytcikofhbfncgdaa
open Go.RowKit
set_option linter.unusedVariables false

theorem field8_0 (C : Int) (M : SM) (sv cv : Value) (w : World) : (Instr.field 30 (resV C M sv cv) 0).run Try.prog w = .ok (.int .i64 C) w := by kernel_rfl
theorem field8_1 (C : Int) (M : SM) (sv cv : Value) (w : World) : (Instr.field 30 (resV C M sv cv) 1).run Try.prog w = .ok (machL M sv cv) w := by kernel_rfl
theorem field7_5 (M : SM) (sv cv : Value) (w : World) : (Instr.field 28 (machL M sv cv) 5).run Try.prog w = .ok (.int .i64 M.trap) w := by kernel_rfl
theorem own_nil {w : World} {B n c : Nat} {a : Option Addr} {zs : List Int} (h : Own w B (.slice a n c) zs) : a = none → c = 0 := by
  rcases h.2 with ⟨h1, h2⟩ | ⟨g, c', cur, h1, _⟩
  · simp at h1; exact fun _ => h1.2.2
  · simp at h1; intro e; rw [e] at h1; cases h1.1
theorem own_cap {w : World} {B c : Nat} {a : Option Addr} {zs : List Int} (h : Own w B (.slice a zs.length c) zs) : zs.length ≤ c := by
  rcases h.2 with ⟨h1, h2⟩ | ⟨g, c', cur, h1, _, _, h3, _⟩
  · omega
  · simp at h1; rw [h1.2]; exact h3
theorem own_ahead {w : World} {B n c b off : Nat} {a : Option Addr} {zs : List Int} (h : Own w B (.slice a n c) zs) (e : a = some ⟨b, off, none⟩) : b < w.heap.size := by
  rcases h.2 with ⟨h1, h2⟩ | ⟨g, c', cur, h1, _⟩
  · simp at h1; rw [h1.1] at e; cases e
  · simp at h1
    have k := (own_lt h (g := g) (by rw [h1.1])).2
    rw [h1.1] at e
    have := Option.some.inj e
    have := congrArg Addr.block this
    simp at this
    omega
theorem field2_1 (C : Int) (v : Value) (w : World) : (Instr.field 34 (.agg #[.int .i64 C, v]) 1).run Try.prog w = .ok v w := by kernel_rfl
theorem words_faultG {zs ys : List Int} {b : Int} (h0 : runRC zs ys b = 0) : fault ys = 0 ∧ fault (ys.map cm) = 0 ∧ (ys.map cm).map cm = ys := by
  obtain ⟨_, h2, _, _⟩ := runC_okG h0
  have hg := startM_goodG h2
  have hw : wordsB ys = true := hg.cells
  have hl : ys.length ≤ 80 := hg.cl
  have hx : ∀ z ∈ ys, 0 ≤ z ∧ z ≤ 65535 := fun z hz => by
    obtain ⟨i, hi, rfl⟩ := List.getElem_of_mem hz
    have := wordsB_get hw hi
    rwa [List.getD_eq_getElem?_getD, List.getElem?_eq_getElem hi] at this
  refine ⟨by rw [fault, if_neg (by omega), if_pos hx], ?_, ?_⟩
  · rw [fault, if_neg (by rw [List.length_map]; omega), if_pos]
    intro z hz
    obtain ⟨x, _, rfl⟩ := List.mem_map.1 hz
    exact ⟨cm_lo _, cm_hi _⟩
  · rw [List.map_map]
    refine (List.map_congr_left (fun z hz => ?_)).trans (List.map_id _)
    show cm (cm z) = z
    rw [cm_cm]
    have := hx z hz
    unfold wd
    omega
theorem run_stepG {zs ys : List Int} {b : Int} {R : SM} (h : RunRG zs ys b R) (h0 : runRC zs ys b = 0) : stepRC zs R = 0 ∧ stepRR zs R = R := by
  have hp := run_propsG h h0
  have hf := (runC_okG h0).1
  have e : stepRC zs R = 0 := by unfold stepRC; rw [if_pos hf]; exact rgood_F hp.1
  refine ⟨e, ?_⟩
  unfold stepRR stepRM
  rw [if_pos e, if_neg (by rw [hp.2.2.1]; simp)]

set_option maxHeartbeats 6400000 in
set_option maxRecDepth 100000 in
theorem fnRegisters_walk (a0 : Option Addr) (len0 cap0 : Nat) (z0 : List Int) (w : World) (w0 : IsRow .u8 w a0 len0 cap0 z0) :
    Calls Try.prog 3 #[.slice a0 len0 cap0] w fun e w' => e = .returned (.bool true) ∧ Below w.heap.size w w' := by
  obtain ⟨hb0, ha0⟩ := bytes_of_row w0
  clear w0
  by_cases hbig : 1048576 < len0
  · go_enter Try.func3, Try.ntmps3
    go_wp2_with fail
    refine (big_yes _ _ _ _ hbig).mono ?_
    rintro e w1 ⟨rfl, rfl⟩
    go_wp2
    go_ret
    exact ⟨rfl, Below.refl _ _⟩
  have hs : len0 ≤ 1048576 := by omega
  have HA := hid ha0
  have HY := hid hb0
  clear hbig ha0 hb0
  go_enter Try.func3, Try.ntmps3
  go_wp2_with fail
  refine (big_any _ _ _ _ hs).mono ?_
  rintro e w1 ⟨rfl, rfl⟩
  go_wp2_with fail
  refine (drawRunG_any a0 len0 cap0 w1 hs HY.out HA.out).mono ?_
  rintro e w2 ⟨zs, ys, bud, a1, a2, c1, c2, rfl, hzl, hyl, hoz, hoy, hB2⟩
  obtain ⟨M, hM⟩ := runR_anyG zs ys bud
  have HOZ := hid hoz
  have HOY := hid hoy
  have HB2 := hid hB2
  have HSP : Hid (∀ W, Below w2.heap.size w2 W → Calls Try.prog 18 #[.slice a1 zs.length c1, .slice a2 ys.length c2, .int .i64 bud] W fun e w' => ∃ sv cv, e = .returned (resV (runRC zs ys bud) M sv cv) ∧ Below W.heap.size W w') := fun W hb => (sRun_anyG a1 zs c1 a2 ys c2 bud M W ((nums_of_own hoz).2.below hb) (by omega) (own_cap hoz) ((nums_of_own hoy).2.below hb) (own_nil hoy) (by omega) hM).mono fun e w' ⟨sv, cv, h1, _, _, _, h2⟩ => ⟨sv, cv, h1, h2⟩
  have HIM : Hid (∀ W, Below w2.heap.size w2 W → Calls Try.prog 17 #[.slice a1 zs.length c1, .slice a2 ys.length c2, .int .i64 bud] W fun e w' => ResSG W w' e (runRC zs ys bud) M) := fun W hb => (iRunR_any a1 zs c1 a2 ys c2 bud M W ((nums_of_own hoz).2.below hb) (fun b off e => own_ahead (own_kept hoz hb) e) (own_cap hoz) (by omega) ((nums_of_own hoy).2.below hb) (own_nil hoy) (by omega) hM).mono fun e w' h => h.sG
  by_cases hC : runRC zs ys bud = 0
  case neg =>
    generalize runRC zs ys bud = C at *
    have e0 : (C != 0) = true := by simpa using hC
    have hf0 := field8_0
    clear hC hM hoz hoy hB2 HOZ HOY HA HY hs
    go_wp2_with fail
    refine (HIM.out _ (Below.refl _ _)).mono ?_
    rintro e w3 ⟨b1, b2, d1, d2, rfl, hb, hv⟩
    have hb3 := hb.trans ((Below.refl _ _).alloc hb.size (.cells (line8 C M (.slice b1 M.stk.length d1) (.slice b2 M.cells.length d2)) 30))
    have HK := hid hb3
    have HB3 := hid (bel_trG HB2.out hb3)
    have HV := hid hv
    clear hb hb3 hv HB2 HIM
    go_upto_region 5 with fail
    generalize w3.alloc (.cells (line8 C M (.slice b1 M.stk.length d1) (.slice b2 M.cells.length d2)) 30) = W3 at *
    generalize w3.heap.size = p at *
    have hS0 : Below W3.heap.size W3 W3 := Below.refl _ _
    have HC3 : Hid (∀ W, Below W3.heap.size W3 W → W.cell? ⟨p, 0, none⟩ = some (.int .i64 C)) := fun W hb => cl1 (blk8 HV.out.row hb)
    have v0 := HC3.out _ hS0
    go_upto_region 6 with fail
    go_region_held3 (fun W => Below W3.heap.size W3 W ∧ W.cell? ⟨p, 0, none⟩ = some (.int .i64 C)) (first | (with_reducible exact ⟨by assumption, HC3.out _ (by assumption)⟩) | (with_reducible exact ⟨hS0.drew, HC3.out _ hS0.drew⟩) | fail) (first | (go_at_call 18; refine (HSP.out _ (HK.out.trans (Below.mono (And.left (by with_reducible assumption)) HK.out.size))).mono ?_; rintro e wa ⟨sv, cv, rfl, hb⟩; have hD3 : Below W3.heap.size W3 wa := bel_trG (And.left (by with_reducible assumption)) hb; clear hb) | fail)
    have HF := hid (bel_trG HB3.out hD3)
    clear hD3 hS0 HC3 HB3 HV HK
    go_wp2_with fail
    go_ret
    exact ⟨rfl, HF.out⟩
  obtain ⟨hgM, hone, hgo, hus, hcl⟩ := run_propsG hM hC
  obtain ⟨hs1, hs2⟩ := run_stepG hM hC
  have HST : Hid (∀ (sv cv : Value) W, Below w2.heap.size w2 W → RowV W sv M.stk → RowV W cv M.cells → Calls Try.prog 19 #[.slice a1 zs.length c1, machL M sv cv] W fun e w' => ResSG W w' e 0 M) := fun sv cv W hb h1 h2 => by
    have := iStepR_any a1 zs c1 M sv cv W ((nums_of_own hoz).2.below hb) (fun b off e => own_ahead (own_kept hoz hb) e) (by omega) (own_cap hoz) h1 h2 (by have := hgM.sl; omega) (by have := hgM.cl; omega)
    rw [hs1, hs2] at this
    exact this.mono fun e w' h => h.sG
  have HSF : Hid (∀ (sv cv : Value) W, RowV W sv M.stk → RowV W cv M.cells → Calls Try.prog 21 #[machL M sv cv] W fun e w' => e = .returned (.int .i64 0) ∧ Below W.heap.size W w') := fun sv cv W h1 h2 => by
    have := irgFault_any M sv cv W h1 h2 (by have := hgM.sl; omega) (by have := hgM.cl; omega)
    rwa [rgood_F hgM] at this
  obtain ⟨hfy, hfm, hmm⟩ := words_faultG hC
  have HIV : Hid (∀ W, Below w2.heap.size w2 W → Calls Try.prog 20 #[.slice a2 ys.length c2] W fun e w' => ∃ x k, e = .returned (.agg #[.int .i64 0, .slice x ys.length k]) ∧ Own w' W.heap.size (.slice x ys.length k) (ys.map cm) ∧ Below W.heap.size W w') := fun W hb => (implInvert_any a2 ys c2 W (own_cap hoy) (by omega) ((nums_of_own hoy).2.below hb)).mono fun e w' ⟨v, h1, h2, h3⟩ => by
    rw [hfy] at h1
    unfold invL at h2
    rw [if_pos hfy] at h2
    obtain ⟨x, k, rfl⟩ := own_shape h2
    rw [List.length_map] at h1 h2
    exact ⟨x, k, h1, h2, h3⟩
  have HIW : Hid (∀ (W : World) (x : Option Addr) (k B : Nat), Own W B (.slice x ys.length k) (ys.map cm) → Calls Try.prog 20 #[.slice x ys.length k] W fun e w' => ∃ x2 k2, e = .returned (.agg #[.int .i64 0, .slice x2 ys.length k2]) ∧ Nums w' x2 ys ∧ Below W.heap.size W w') := fun W x k B h => by
    have hl : (ys.map cm).length = ys.length := List.length_map cm
    have hcap := own_cap (by rw [hl]; exact h)
    have := implInvert_any x (ys.map cm) k W hcap (by omega) (nums_of_own h).2
    rw [hl] at this
    refine this.mono fun e w' ⟨v, h1, h2, h3⟩ => ?_
    rw [hfm] at h1
    unfold invL at h2
    rw [if_pos hfm, hmm] at h2
    obtain ⟨x2, k2, rfl⟩ := own_shape h2
    exact ⟨x2, k2, h1, (nums_of_own h2).2, h3⟩
  have HLW : Hid (∀ (W : World) (x : Option Addr) (k : Nat), Below w2.heap.size w2 W → Nums W x ys → Calls Try.prog 22 #[.slice x ys.length k, .slice a2 ys.length c2] W fun e w' => e = .returned (.bool true) ∧ Below W.heap.size W w') := fun W x k hb h => lwNums_any x a2 ys k c2 W (by omega) h ((nums_of_own hoy).2.below hb)
  have hdt : (M.done = true ∧ M.trap = 0) ∨ (M.done = false ∧ (M.trap != 0) = true) := by
    rcases goes_noG hgo with h | ⟨h1, h2, _⟩
    · exact .inl ⟨h, hone h⟩
    · exact .inr ⟨h1, by simpa using h2⟩
  have HDT := hid hdt
  have HU := hid hus
  have HCL := hid hcl
  rw [hC] at HSP HIM
  clear hdt hgM hone hgo hus hcl hs1 hs2 hM hC hoz hoy hB2 HA HY hs hyl hfy hfm hmm
  go_wp2_with fail
  refine (HIM.out _ (Below.refl _ _)).mono ?_
  rintro e w3 ⟨b1, b2, d1, d2, rfl, hb, hv⟩
  have hb3 := hb.trans ((Below.refl _ _).alloc hb.size (.cells (line8 0 M (.slice b1 M.stk.length d1) (.slice b2 M.cells.length d2)) 30))
  have HK3 := hid hb3
  have HV3 := hid hv
  clear hb hb3 hv HIM
  go_upto_region 5 with fail
  generalize w3.alloc (.cells (line8 0 M (.slice b1 M.stk.length d1) (.slice b2 M.cells.length d2)) 30) = W3 at *
  generalize w3.heap.size = p at *
  obtain ⟨v0, v1, v2, v3, v4, v5, v6, v7⟩ := row8 HV3.out.row
  go_upto_region 7 with fail
  have hx4 := heap_alloc_new W3 (.cells (lineL M (.slice b1 M.stk.length d1) (.slice b2 M.cells.length d2)) 28)
  have hb4 : Below W3.heap.size W3 (W3.alloc (.cells (lineL M (.slice b1 M.stk.length d1) (.slice b2 M.cells.length d2)) 28)) := (Below.refl _ _).alloc (Nat.le_refl _) _
  have HX4 := hid hx4
  have HK4 := hid (bel_trG HK3.out hb4)
  have HR4 : Hid (RowV (W3.alloc (.cells (lineL M (.slice b1 M.stk.length d1) (.slice b2 M.cells.length d2)) 28)) (.slice b1 M.stk.length d1) M.stk ∧ RowV (W3.alloc (.cells (lineL M (.slice b1 M.stk.length d1) (.slice b2 M.cells.length d2)) 28)) (.slice b2 M.cells.length d2) M.cells) := ⟨(HV3.out.rows.1).below hb4, (HV3.out.rows.2).below hb4⟩
  clear hx4 hb4 HV3 HK3
  go_upto_region 8 with fail
  clear v0 v1 v2 v3 v4 v5 v6 v7
  generalize W3.alloc (.cells (lineL M (.slice b1 M.stk.length d1) (.slice b2 M.cells.length d2)) 28) = W4 at *
  generalize W3.heap.size = q at *
  obtain ⟨m0, m1, m2, m3, m4, m5, m6⟩ := row7 HX4.out
  go_wp2_with fail
  refine (HST.out _ _ _ HK4.out HR4.out.1 HR4.out.2).mono ?_
  rintro e w5 ⟨e1, e2, j1, j2, rfl, hb, hv⟩
  have hb5 := hb.trans ((Below.refl _ _).alloc hb.size (.cells (line8 0 M (.slice e1 M.stk.length j1) (.slice e2 M.cells.length j2)) 30))
  have HK5 := hid (bel_trG HK4.out hb5)
  have HX5 := hid (blk8 HX4.out hb5)
  have HR5 : Hid (RowV (w5.alloc (.cells (line8 0 M (.slice e1 M.stk.length j1) (.slice e2 M.cells.length j2)) 30)) (.slice b1 M.stk.length d1) M.stk ∧ RowV (w5.alloc (.cells (line8 0 M (.slice e1 M.stk.length j1) (.slice e2 M.cells.length j2)) 30)) (.slice b2 M.cells.length d2) M.cells) := ⟨(HR4.out.1).below hb5, (HR4.out.2).below hb5⟩
  have HS5 := hid hv.row
  clear hb hb5 hv HK4 HX4 HR4 HST m0 m1 m2 m3 m4 m5 m6
  go_upto_region 9 with fail
  generalize w5.alloc (.cells (line8 0 M (.slice e1 M.stk.length j1) (.slice e2 M.cells.length j2)) 30) = W5 at *
  generalize w5.heap.size = s at *
  go_wp2_with fail
  refine (HIV.out W5 HK5.out).mono ?_
  rintro e w6 ⟨x, k, rfl, ho, hb⟩
  have hb6 := hb.trans ((Below.refl _ _).alloc hb.size (.cells #[.int .i64 0, .slice x ys.length k] 34))
  have HK6 := hid (bel_trG HK5.out hb6)
  have HX6 := hid (blk8 HX5.out hb6)
  have HS6 := hid (blk8 HS5.out hb6)
  have HT6 := hid (heap_alloc_new w6 (.cells #[.int .i64 0, .slice x ys.length k] 34))
  have HO6 := hid (own_kept ho ((Below.refl _ _).alloc (Nat.le_refl _) (.cells #[.int .i64 0, .slice x ys.length k] 34)))
  have HR6 : Hid (RowV (w6.alloc (.cells #[.int .i64 0, .slice x ys.length k] 34)) (.slice b1 M.stk.length d1) M.stk ∧ RowV (w6.alloc (.cells #[.int .i64 0, .slice x ys.length k] 34)) (.slice b2 M.cells.length d2) M.cells) := ⟨(HR5.out.1).below hb6, (HR5.out.2).below hb6⟩
  clear ho hb hb6 HK5 HX5 HS5 HR5 HIV
  go_upto_region 10 with fail
  generalize w6.alloc (.cells #[.int .i64 0, .slice x ys.length k] 34) = W6 at *
  generalize w6.heap.size = t at *
  have hf1 := field8_1
  have hf5 := field7_5
  have hf2 := field2_1
  have hS0 : Below W6.heap.size W6 W6 := Below.refl _ _
  have HC6 : Hid (∀ W, Below W6.heap.size W6 W → W.cell? ⟨q, 0, none⟩ = some (.int .i64 M.pc) ∧ W.cell? ⟨q, 1, none⟩ = some (.slice b1 M.stk.length d1) ∧ W.cell? ⟨q, 2, none⟩ = some (.slice b2 M.cells.length d2) ∧ W.cell? ⟨q, 3, none⟩ = some (.int .i64 M.sig) ∧ W.cell? ⟨q, 4, none⟩ = some (.int .i64 M.used) ∧ W.cell? ⟨q, 5, none⟩ = some (.int .i64 M.trap) ∧ W.cell? ⟨q, 6, none⟩ = some (.bool M.done) ∧ W.cell? ⟨s, 0, none⟩ = some (.int .i64 0) ∧ W.cell? ⟨s, 5, none⟩ = some (.int .i64 M.used) ∧ W.cell? ⟨t, 0, none⟩ = some (.int .i64 0) ∧ W.cell? ⟨t, 1, none⟩ = some (.slice x ys.length k)) := fun W hb => by
    obtain ⟨x0, x1, x2, x3, x4, x5, x6⟩ := row7 (blk8 HX6.out hb)
    obtain ⟨y0, _, _, _, _, y5, _, _⟩ := row8 (blk8 HS6.out hb)
    obtain ⟨z0, z1⟩ := cl2 (blk8 HT6.out hb)
    exact ⟨x0, x1, x2, x3, x4, x5, x6, y0, y5, z0, z1⟩
  obtain ⟨m0, m1, m2, m3, m4, m5, m6, y0, y5, z0, z1⟩ := HC6.out _ hS0
  have hus : M.used ≤ bud := HU.out
  have hcl := HCL.out
  generalize M.cells.length = n2 at *
  subst hcl
  have HF6 := hid (bel_trG HB2.out HK6.out)
  clear HX6 HS6 HT6 HU HB2 HOZ HOY
  have hq : (M.done == (M.trap != 0)) = false := by
    rcases HDT.out with ⟨h1, h2⟩ | ⟨h1, h2⟩
    · rw [h1, h2]; rfl
    · rw [h1, h2]; rfl
  clear HDT
  go_region_held3 (fun W => Below W6.heap.size W6 W ∧ W.cell? ⟨q, 0, none⟩ = some (.int .i64 M.pc) ∧ W.cell? ⟨q, 1, none⟩ = some (.slice b1 M.stk.length d1) ∧ W.cell? ⟨q, 2, none⟩ = some (.slice b2 ys.length d2) ∧ W.cell? ⟨q, 3, none⟩ = some (.int .i64 M.sig) ∧ W.cell? ⟨q, 4, none⟩ = some (.int .i64 M.used) ∧ W.cell? ⟨q, 5, none⟩ = some (.int .i64 M.trap) ∧ W.cell? ⟨q, 6, none⟩ = some (.bool M.done) ∧ W.cell? ⟨s, 0, none⟩ = some (.int .i64 0) ∧ W.cell? ⟨s, 5, none⟩ = some (.int .i64 M.used) ∧ W.cell? ⟨t, 0, none⟩ = some (.int .i64 0) ∧ W.cell? ⟨t, 1, none⟩ = some (.slice x ys.length k)) (first | (with_reducible exact ⟨by assumption, HC6.out _ (by assumption)⟩) | (with_reducible exact ⟨hS0.drew, HC6.out _ hS0.drew⟩) | fail) (first | (go_at_call 21; refine (HSF.out _ _ _ (HR6.out.1.below (And.left (by with_reducible assumption))) (HR6.out.2.below (And.left (by with_reducible assumption)))).mono ?_; rintro e wa ⟨rfl, hb⟩; have hD3 : Below W6.heap.size W6 wa := bel_trG (And.left (by with_reducible assumption)) hb; clear hb) | (go_at_call 20; refine (HIW.out _ _ _ _ (own_kept HO6.out (And.left (by with_reducible assumption)))).mono ?_; rintro e wc ⟨x2, k2, rfl, hn2, hb⟩; have hD5 : Below W6.heap.size W6 wc := bel_trG (And.left (by with_reducible assumption)) hb; have HN2 := hid hn2; clear hb hn2) | (go_at_call 22; refine (HLW.out _ _ _ (HK6.out.trans (Below.mono (And.left (by with_reducible assumption)) HK6.out.size)) HN2.out).mono ?_; rintro e wd ⟨rfl, hb⟩; have hD6 : Below W6.heap.size W6 wd := bel_trG (And.left (by with_reducible assumption)) hb; clear hb) | (go_at_call 18; refine (HSP.out _ (HK6.out.trans (Below.mono (And.left (by with_reducible assumption)) HK6.out.size))).mono ?_; rintro e wb ⟨sv, cv, rfl, hb⟩; have hD4 : Below W6.heap.size W6 wb := bel_trG (And.left (by with_reducible assumption)) hb; clear hb) | fail)
  have HF := hid (bel_trG HF6.out hD4)
  clear hD3 hD4 hD5 hD6 hS0 HC6 HF6 hq hf1 hf5 hf2
  go_wp2_with fail
  go_ret
  exact ⟨rfl, HF.out⟩
end Go.Proofs.Ytcikofhbfncgdaa
