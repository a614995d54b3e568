/-
  impl's spend: the run goes on till it ends or the budget is spent; rounds that it goes again are counted.
-/
import Derived.Test.YtcikofhbfncgdaaRgStood
import Derived.BigRegion
namespace Go.Proofs.Ytcikofhbfncgdaa
open Go.RowKit
set_option linter.unusedVariables false
attribute [local go_sem ↓] Go.wp_at_zero Go.wp_at_succ

/-- what the loop carries -/
structure SpW (zs : List Int) (b : Int) (w W : World) (B p g6 : Nat) (M cur s : SM) (cvs : Value) (n : Nat) : Prop where
  st : Stood B W p g6 cur s cvs
  good : RGood cur
  ends : ∀ r, REnds zs b cur r → REnds zs b M r
  path : Path zs b n s cur
  s0 : 0 ≤ s.used
  sgood : RGood s
  ub : cur.used ≤ b
  b : Below B w W
theorem SpW.below {zs : List Int} {b : Int} {w W W' : World} {B p g6 : Nat} {M cur s : SM} {cvs : Value} {n : Nat} (h : SpW zs b w W B p g6 M cur s cvs n) (hb : Below W.heap.size W W') : SpW zs b w W' B p g6 M cur s cvs n :=
  ⟨h.st.below hb, h.good, h.ends, h.path, h.s0, h.sgood, h.ub, h.b.trans (hb.mono (by have := h.st.lt; omega))⟩
theorem SpW.drewN {zs : List Int} {b : Int} {w W : World} {B p g6 : Nat} {M cur s : SM} {cvs : Value} {n : Nat} (h : SpW zs b w W B p g6 M cur s cvs n) : SpW zs b w W.drew B p g6 M cur s cvs n :=
  ⟨h.st.heap rfl, h.good, h.ends, h.path, h.s0, h.sgood, h.ub, h.b.drew⟩
theorem SpW.cells {zs : List Int} {b : Int} {w W : World} {B p g6 : Nat} {M cur s : SM} {cvs : Value} {n : Nat} (h : SpW zs b w W B p g6 M cur s cvs n) :
    W.cell? ⟨p, 1, none⟩ = some (.int .i64 cur.pc) ∧ W.cell? ⟨p, 2, none⟩ = some (.int .i64 cur.sig) ∧ W.cell? ⟨p, 3, none⟩ = some (.int .i64 cur.used) ∧ W.cell? ⟨p, 4, none⟩ = some (.int .i64 cur.trap) ∧ W.cell? ⟨p, 5, none⟩ = some (.bool cur.done) ∧ W.cell? ⟨g6, 3, none⟩ = some (.int .i64 s.used) ∧ W.frozen? ⟨p, 3, none⟩ = false ∧ W.frozen? ⟨p, 4, none⟩ = false := by
  obtain ⟨cv, hr, _⟩ := h.st.run
  have hg := row6 h.st.row.1
  exact ⟨hr.cells.2.1, hr.cells.2.2.1, hr.cells.2.2.2.1, hr.cells.2.2.2.2.1, hr.cells.2.2.2.2.2, hg.2.2.2.1, hr.froz 3, hr.froz 4⟩

set_option maxHeartbeats 6400000 in
set_option maxRecDepth 100000 in
theorem spend_any (B p : Nat) (M : SM) (zs : List Int) (a : Option Addr) (c : Nat) (b : Int) (w : World) (h : RunJ [] B w p M) (hg : RGood M) (hn : Nums w a zs) (hB : ∀ b off, a = some ⟨b, off, none⟩ → b < B) (hl : zs.length ≤ 400) (hc : zs.length ≤ c) (hw : wordsB zs = true) (hb0 : 0 ≤ b) (hb1 : b ≤ 20000) (hu : M.used ≤ b) :
    Calls Try.prog 69 #[.pointer (some ⟨p, 0, none⟩), .slice a zs.length c, .int .i64 b] w fun e w' => e = .returned (.tuple #[]) ∧ ∃ r, REnds zs b M r ∧ RunJ [] B w' p r ∧ Below B w w' := by
  have hBp := h.lt
  obtain ⟨cv, hrun, -⟩ := id h
  have HCO : Hid (∀ (W : World) (cur : SM) (cv : Value), RunRI B W p cur cv → RGood cur → Calls Try.prog 105 #[.pointer (some ⟨p, 0, none⟩)] W fun e w' => ∃ cv', e = .returned (.agg (lineRR cur cv')) ∧ Own w' W.heap.size cv' cur.cells ∧ Below W.heap.size W w') := fun W cur cv h1 h2 => copied_any B p cur cv W h1 (by have := h2.cl; omega)
  have HST : Hid (∀ (W : World) (g6 n : Nat) (cur s : SM) (cvs : Value), SpW zs b w W B p g6 M cur s cvs n → goes cur = true → cur.used < b → Calls Try.prog 74 #[.pointer (some ⟨p, 0, none⟩), .slice a zs.length c] W fun e w' => e = .returned (.tuple #[]) ∧ SpW zs b w w' B p g6 M (stepRL zs cur) s cvs (n + 1)) := fun W g6 n cur s cvs hS hgo hu => (hS.st.step zs a c hS.good (nums_kept hn hB hS.b) hB hl hc hw).mono fun e w' ⟨e1, e2, e3⟩ => by
    have hus := usedM_more hS.good.used0 (by omega)
    refine ⟨e1, e2, stepRL_good hS.good hw hl, fun r hr => hS.ends r (.step hgo hu hr), hS.path.snoc hgo hu, hS.s0, hS.sgood, ?_, hS.b.trans e3⟩
    rw [stepL_usedG, hus]
    omega
  have HB1 := hid hb1
  have HM0 : Hid (0 ≤ M.used) := hg.used0
  have HSP0 : Hid (∀ (w1 W : World) (cv' : Value), Own w1 w.heap.size cv' M.cells → Below w.heap.size w w1 → W = w1.alloc (.cells (lineRR M cv') 96) → SpW zs b w W B p w1.heap.size M M M cv' 0) := fun w1 W cv' ho hb e => by
    subst e
    have hba := hb.trans ((Below.refl w1.heap.size w1).alloc (Nat.le_refl _) (.cells (lineRR M cv') 96) |>.mono hb.size)
    have hcl : ∀ g, cv.ownBlock = some g → g < w.heap.size := fun g hg => (hrun.cs.lt g hg).2
    have hz := hb.size
    refine ⟨stood_new (C := w.heap.size) (cv := cv) ⟨blk8 hrun.row hba, own_kept hrun.cs hba, hrun.gB, hrun.d, hrun.rl⟩ (heap_alloc_new _ _) (by omega) (fun e => by have := hcl _ e; omega) (ho.alloc _) hBp.2 hcl, hg, fun r hr => hr, .refl _, hg.used0, hg, hu, hba.mono (by omega)⟩
  have HRUN := hid hrun
  have HGM := hid hg
  have HBP := hid hBp
  have hz30 := zeroV30
  have HNZ : Hid (∀ (W : World) (v : Value), (W.alloc (.cells zero30 96)).setRow W.heap.size (lineRR M v) = W.alloc (.cells (lineRR M v) 96)) := fun W v => World.setRow_alloc_new _ _ _ _
  have HZ0 : Hid (zero30.size = 30) := rfl
  have HSZ : Hid (∀ (m : SM) (cv' : Value), RGood m → cv'.oneCell' = true → (lineRR m cv').size = 30 ∧ (lineRR m cv').all (·.oneCell') = true) := fun m cv' h1 h2 => ⟨lineRR_size h1.rl, lineRR_one h2⟩
  clear h hg hn hB hl hc hw hu hrun hBp hb1
  generalize zero30 = Z at *
  generalize zs.length = L at *
  go_enter Try.func69, Try.ntmps69
  go_wp2_with fail
  refine (HCO.out w M cv HRUN.out HGM.out).mono ?_
  rintro e w1 ⟨cv', rfl, ho, hbw⟩
  obtain ⟨ak, ck, rfl⟩ := own_shape ho
  have HS0 := hid (HSP0.out w1 _ _ ho hbw rfl)
  have hsz := HSZ.out M (.slice ak M.cells.length ck) HGM.out rfl
  have hnz := HNZ.out w1 (.slice ak M.cells.length ck)
  have hzn := heap_alloc_new w1 (.cells Z 96)
  have HG6 : Hid (B ≤ w1.heap.size) := by have := hbw.size; have := HBP.out; show B ≤ _; omega
  clear ho hbw HSP0 HRUN
  go_wp2_with (first | (show Go.wpList _ _ _ (Go.Oper.mk _ (Go.Op.store 96 _ _) _ _ _ _ :: _) _ _; refine wpList_st30 rfl _ _ rfl w1.heap.size (lineRR M (.slice ak M.cells.length ck)) Z (by simp [go_sem]) (by simp [go_sem]) hzn HZ0.out hsz.1 hsz.2 ?_) | fail)
  rw [hnz]
  clear hnz hzn hsz
  simp only [Act.put]
  generalize w1.alloc (.cells (lineRR M (.slice ak M.cells.length ck)) 96) = W2 at *
  generalize w1.heap.size = g6 at *
  go_loopw [] (fun wr => ∃ (cur s : SM) (cvs : Value) (n : Nat), Hid (SpW zs b w wr B p g6 M cur s cvs n))
    (fun wr => (b - intOf ((wr.cell? ⟨p, 3, none⟩).getD (.int .i64 0))).toNat)
  case atStart => exact ⟨_, _, _, _, HS0⟩
  case round =>
    clear HS0
    obtain ⟨cur, s, cvs, n, HS⟩ := hrel
    obtain ⟨d1, d2, d3, d4, d5, d6, k3, k4⟩ := HS.out.cells
    have HU3 := hid d3
    have HPB := hid HS.out.st.lt
    go_wp2_with fail
    refine (pgoes_any cur wr).mono ?_
    rintro e Wx ⟨rfl, hbx⟩
    have HX := hid (HS.out.below hbx)
    clear hbx HS d1 d2 d3 d4 d5 d6 k3 k4
    obtain ⟨d1, d2, d3, d4, d5, d6, k3, k4⟩ := HX.out.cells
    cases hgo : goes cur
    · have HEQ := hid (HX.out.ends cur (.stop hgo))
      have HGO := hid hgo
      clear HST
      go_wp2_with fail
      refine (pgoes_any cur Wx).mono ?_
      rintro e Wy ⟨rfl, hby⟩
      rw [hgo]
      have HY := hid (HX.out.below hby)
      clear hby HX d1 d2 d3 d4 d5 d6 k3 k4 hgo
      go_wp2_with fail
      go_end0
      exact ⟨rfl, cur, HEQ.out, HY.out.st.runJ, HY.out.b⟩
    · by_cases hu : cur.used < b
      · have hq7 : decide (cur.used < b) = true := decide_eq_true hu
        have HU := hid hu
        have HGO := hid hgo
        have HSTc := hid (HST.out Wx g6 n cur s cvs HX.out hgo hu)
        clear hu hgo
        go_wp2_with fail
        refine HSTc.out.mono ?_
        rintro e w6 ⟨rfl, hs6⟩
        have H6 := hid hs6
        have HUP := hid (usedM_more HX.out.good.used0 (by have := HU.out; have := HB1.out; omega))
        have HU6 : Hid ((stepRL zs cur).used = cur.used + 1) := by unfold Hid; rw [stepL_usedG, HUP.out]
        have HPT : Hid ((stepRL zs cur).used = s.used + ((n + 1 : Nat) : Int)) := H6.out.path.used HB1.out H6.out.s0
        clear hs6 HSTc HX hq7 d1 d2 d3 d4 d5 d6 k3 k4 HUP HGO
        generalize stepRL zs cur = m1 at *
        have hrow6 := H6.out.st.row.1
        have hsz6 := lineRR_size (cv := cvs) H6.out.sgood.rl
        obtain ⟨cv6, hr6, hne6⟩ := H6.out.st.run
        have HSA := hid (stands_any B p m1 s cv6 cvs w6 hr6 H6.out.st.rowV H6.out.sgood.rl H6.out.good.cl H6.out.sgood.cl)
        clear hr6 hne6
        obtain ⟨st, hst⟩ : ∃ st, st = standsB m1 s := ⟨_, rfl⟩
        rw [← hst] at HSA
        have HSTB := hid hst
        clear hst
        have HGO6 : Hid (p < w6.heap.size) := H6.out.st.lt.2
        go_upto_region 3 with fail
        cases st
        · go_wp2_with (first | (show Go.wpList _ _ _ (Go.Oper.mk _ (Go.Op.load 96 _) _ _ _ _ :: _) _ _; refine wpList_ld30 rfl _ rfl g6 (by simp [go_sem]) (lineRR s cvs) hrow6 hsz6 ?_) | (refine HSA.out.mono ?_; rintro e w7 ⟨rfl, hb7⟩) | fail)
          have H7 := hid (H6.out.below hb7)
          clear hb7 H6 HSA hrow6 hsz6
          obtain ⟨d1, d2, d3, d4, d5, d6, k3, k4⟩ := H7.out.cells
          have hs0 := H7.out.s0
          have hsb : s.used ≤ 20000 := by have := HPT.out; have := H7.out.ub; have := HB1.out; omega
          have hwr : IntKind.i64.wrap (2 * s.used) = 2 * s.used := IntWalk.i64_in _ ⟨by omega, by omega⟩
          by_cases hq : 2 * s.used ≤ m1.used
          · have hqd : decide (2 * s.used ≤ m1.used) = true := decide_eq_true hq
            clear hq hs0 hsb
            go_region
            have H8 := hid H7.out.drewN
            clear H7 d1 d2 d3 d4 d5 d6 k3 k4 hwr hqd HST
            generalize w7.drew = W8 at *
            obtain ⟨cv8, hr8, -⟩ := H8.out.st.run
            have HCO8 := hid (HCO.out W8 m1 cv8 hr8 H8.out.good)
            clear hr8
            go_upto_region 7 with fail
            go_wp2_with fail
            refine HCO8.out.mono ?_
            rintro e w9 ⟨v, rfl, ho, hb9⟩
            obtain ⟨av, kv, rfl⟩ := own_shape ho
            have hsz := HSZ.out m1 (.slice av m1.cells.length kv) H8.out.good rfl
            have hrow9 := blk8 H8.out.st.row.1 hb9
            have hsz9 := lineRR_size (cv := cvs) H8.out.sgood.rl
            have HF : Hid (SpW zs b w (w9.setRow g6 (lineRR m1 (.slice av m1.cells.length kv))) B p g6 M m1 m1 (.slice av m1.cells.length kv) 0) := ⟨H8.out.st.again hb9 ho, H8.out.good, H8.out.ends, .refl _, H8.out.good.used0, H8.out.good, H8.out.ub, below_setRow (H8.out.b.trans (hb9.mono (by have := H8.out.st.lt; omega))) HG6.out _⟩
            clear ho hb9 HCO8
            go_wp2_with (first | (show Go.wpList _ _ _ (Go.Oper.mk _ (Go.Op.store 96 _ _) _ _ _ _ :: _) _ _; refine wpList_st30 rfl _ _ rfl g6 (lineRR m1 (.slice av m1.cells.length kv)) (lineRR s cvs) (by simp [go_sem]) (by simp [go_sem]) hrow9 hsz9 hsz.1 hsz.2 ?_) | fail)
            clear hsz hrow9 hsz9
            generalize w9.setRow g6 (lineRR m1 (.slice av m1.cells.length kv)) = W9 at *
            have hcm := HF.out.cells.2.2.1
            simp only [Act.put]
            go_roundw
            case rel => exact ⟨_, _, _, _, HF⟩
            case measure =>
              rw [hcm, HU3.out]
              have h1 := HU.out
              have h2 := HU6.out
              simp only [intOf, Option.getD_some]
              omega
          · have hqd : decide (2 * s.used ≤ m1.used) = false := decide_eq_false hq
            clear hq hs0 hsb
            go_region
            have HF := hid H7.out.drewN
            clear H7 d1 d2 d3 d4 d5 d6 k3 k4 hwr hqd HST
            generalize w7.drew = W8 at *
            go_wp2_with fail
            have hcm := HF.out.cells.2.2.1
            refine ⟨⟨_, _, _, _, HF⟩, ?_⟩
            rw [hcm, HU3.out]
            have h1 := HU.out
            have h2 := HU6.out
            simp only [intOf, Option.getD_some]
            omega
        · have HSM : Hid (m1 = shU s ((n + 1 : Nat) : Int)) := by
            have hh := of_decide_eq_true HSTB.out.symm
            have := same_sh hh.1 hh.2.1 hh.2.2.1 hh.2.2.2.1 hh.2.2.2.2.1 hh.2.2.2.2.2
            unfold Hid
            rw [this]
            congr 1
            have := HPT.out
            omega
          go_wp2_with (first | (show Go.wpList _ _ _ (Go.Oper.mk _ (Go.Op.load 96 _) _ _ _ _ :: _) _ _; refine wpList_ld30 rfl _ rfl g6 (by simp [go_sem]) (lineRR s cvs) hrow6 hsz6 ?_) | (refine HSA.out.mono ?_; rintro e w7 ⟨rfl, hb7⟩) | fail)
          have H7 := hid (H6.out.below hb7)
          clear hb7 H6 HSA hrow6 hsz6
          obtain ⟨d1, d2, d3, d4, d5, d6, k3, k4⟩ := H7.out.cells
          have hpt := HPT.out
          have hub := H7.out.ub
          have hs0 := H7.out.s0
          have hbb := HB1.out
          obtain ⟨R, hR⟩ : ∃ R : Nat, R = n + 1 := ⟨_, rfl⟩
          have e1 : IntKind.i64.wrap (m1.used - s.used) = (R : Int) := by rw [IntWalk.i64_in _ ⟨by omega, by omega⟩]; omega
          have e2 : IntKind.i64.wrap (b - m1.used) = b - m1.used := IntWalk.i64_in _ ⟨by omega, by omega⟩
          have hdv : (b - m1.used).tdiv (R : Int) = (b - m1.used) / (R : Int) := Int.tdiv_eq_ediv_of_nonneg (by omega)
          have hq0 : 0 ≤ (b - m1.used) / (R : Int) := Int.ediv_nonneg (by omega) (by omega)
          have hq1 : (b - m1.used) / (R : Int) * (R : Int) ≤ b - m1.used := Int.ediv_mul_le _ (by omega)
          obtain ⟨q, hq⟩ := Int.eq_ofNat_of_zero_le hq0
          rw [hq] at hdv hq1
          have hqR : (0 : Int) ≤ (q : Int) * (R : Int) := Int.mul_nonneg (by omega) (by omega)
          have hR1 : (1 : Int) ≤ (R : Int) := by omega
          have hqle : (q : Int) ≤ (q : Int) * (R : Int) := by
            have := Int.mul_le_mul_of_nonneg_left hR1 (show (0 : Int) ≤ (q : Int) by omega)
            rw [Int.mul_one] at this
            exact this
          have e3 : IntKind.i64.wrap ((b - m1.used).tdiv (R : Int)) = (q : Int) := by rw [hdv]; exact IntWalk.i64_in _ ⟨by omega, by omega⟩
          have e4 : IntKind.i64.wrap ((q : Int) * (R : Int)) = (q : Int) * (R : Int) := IntWalk.i64_in _ ⟨by omega, by omega⟩
          have e5 : IntKind.i64.wrap (m1.used + (q : Int) * (R : Int)) = m1.used + (q : Int) * (R : Int) := IntWalk.i64_in _ ⟨by omega, by omega⟩
          have hnz : ¬ (R : Int) = 0 := by omega
          have HQ := hid (show m1.used + (q : Int) * (R : Int) ≤ b by omega)
          have HRR := hid hR
          have HQR := hid hqR
          have HR1 := hid hR1
          clear hpt hub hs0 hbb hR hdv hq0 hq1 hq hqR hqle hR1
          go_region
          have H8 := hid H7.out.drewN
          clear H7 d1 d2 d3 d4 d5 d6 k3 k4 e1
          generalize w7.drew = W8 at *
          obtain ⟨d1, d2, d3, d4, d5, d6, k3, k4⟩ := H8.out.cells
          go_upto_region 5 with fail
          go_region
          have h8 := H8.out.st.used (m1.used + (q : Int) * (R : Int))
          have hp8 := H8.out.path
          rw [← HRR.out] at hp8 HSM
          have hmany := hp8.many HB1.out H8.out.s0 HSM.out q HQ.out
          have HF : Hid (SpW zs b w ((W8.setCell ⟨p, 3, none⟩ (.int .i64 (m1.used + (q : Int) * (R : Int)))).drew) B p g6 M (shU m1 ((q : Int) * (R : Int))) s cvs (q * R + R)) := ⟨h8.heap rfl, shU_good H8.out.good (by have := H8.out.good.used0; have := HQR.out; omega) (by have := HQ.out; have := HB1.out; omega), fun r hr => H8.out.ends r (hmany.ends hr), hp8.trans hmany, H8.out.s0, H8.out.sgood, HQ.out, (H8.out.b.setCell (p := ⟨p, 3, none⟩) (by have := H8.out.st.lt; show B ≤ p; omega) _).drew⟩
          clear hp8 hmany h8 H8 d1 d2 d3 d4 d5 d6 k3 k4 e2 e3 e4 e5 hnz HST HSM
          generalize (W8.setCell ⟨p, 3, none⟩ (.int .i64 (m1.used + (q : Int) * (R : Int)))).drew = W9 at *
          go_wp2_with fail
          have hcm := HF.out.cells.2.2.1
          refine ⟨⟨_, _, _, _, HF⟩, ?_⟩
          rw [hcm, HU3.out]
          have h1 := HU.out
          have h2 := HU6.out
          have h3 := HQR.out
          show (b - (m1.used + (q : Int) * (R : Int))).toNat < (b - cur.used).toNat
          omega
      · have hq7 : decide (cur.used < b) = false := decide_eq_false hu
        have HEQ := hid (HX.out.ends _ (.many hgo (by omega)))
        clear HST hu
        go_wp2_with fail
        refine (pgoes_any cur Wx).mono ?_
        rintro e Wy ⟨rfl, hby⟩
        rw [hgo]
        have HY := hid (HX.out.below hby)
        clear hby HX d1 d2 d3 d4 d5 d6 k3 k4 hgo hq7
        obtain ⟨d1, d2, d3, d4, d5, d6, k3, k4⟩ := HY.out.cells
        have HPB2 := hid HY.out.st.lt.1
        go_wp2_with fail
        go_end0
        exact ⟨rfl, manyM cur, HEQ.out, HY.out.st.runJ.trap 2, HY.out.b.setCell HPB2.out _⟩
end Go.Proofs.Ytcikofhbfncgdaa
