/-
  spec's l10Do: op 13.
-/
import Derived.Test.YtcikofhbfncgdaaRgDo102
namespace Go.Proofs.Ytcikofhbfncgdaa
open Go.RowKit
set_option linter.unusedVariables false
attribute [local go_sem ↓] Go.wp_at_zero Go.wp_at_succ

set_option maxHeartbeats 3200000 in
set_option maxRecDepth 100000 in
theorem rdo_12 (B p b off n c k L : Nat) (m : SM) (x0 nx : Int) (w : World) (h : RunT B w p m) (hg : RGood m) (hk : m.pc = k) (hkn : k + 1 < n) (hn : n ≤ 400) (hnc : n ≤ c) (hbB : b < B) (hL : L = k + 1) (hnx : nx = (k : Int) + 1 + 1) (h0 : w.cell? ⟨b, off + k, none⟩ = some (.int .i64 12)) (h1 : w.cell? ⟨b, off + L, none⟩ = some (.int .i64 x0)) :
    Calls Try.prog 123 #[.slice (some ⟨b, off, none⟩) n c, .pointer (some ⟨p, 0, none⟩)] w fun e w' => e = .returned (.int .i64 0) ∧ (0 = 0 → RunT B w' p (atP (sigR m x0) nx)) ∧ Below B w w' := by
  have HA : Hid (∀ W, Calls Try.prog 93 #[.int .i64 12] W fun e w' => e = .returned (.int .i64 1) ∧ w' = W) := fun W => l10Args_any 12 W
  obtain ⟨gr, cr, a2, c2, hb0, hm0, hgr, hgp⟩ := h.rows hg.rl
  obtain ⟨c0, -⟩ := RunT.cells hb0
  rw [hk] at c0
  have q0 : (0 : Int) ≤ (k : Int) := by omega
  have q1 : (k : Int) < (n : Int) := by omega
  have E1 : (k : Int) + 1 = (L : Int) := by omega
  have Z1 : IntKind.i64.wrap ((k : Int) + 1) = (L : Int) := by rw [IntWalk.i64_in _ ⟨by omega, by omega⟩]; omega
  have Z1b : IntKind.i64.wrap (L : Int) = (L : Int) := IntWalk.i64_in _ ⟨by omega, by omega⟩
  obtain ⟨H, hH⟩ : ∃ H : Nat, H = L + 1 := ⟨_, rfl⟩
  have Z3 : IntKind.i64.wrap ((L : Int) + 1) = (H : Int) := by rw [IntWalk.i64_in _ ⟨by omega, by omega⟩]; omega
  have p0 : (0 : Int) ≤ (L : Int) := by omega
  have p1 : (L : Int) ≤ (H : Int) := by omega
  have p2 : (H : Int) ≤ (c : Int) := by omega
  have p3 : (0 : Int) ≤ (H : Int) := by omega
  have p4 : ¬ (L = c) := by omega
  have p5 : ¬ (c = L) := by omega
  have p6 : (c == L) = false := by rw [beq_eq_false_iff_ne]; omega
  have p7 : (L == c) = false := by rw [beq_eq_false_iff_ne]; omega
  have HHL : Hid (H - L = 1) := by show _ = _; omega
  have hnx2 : nx = (H : Int) := by omega
  have HROW := hid hb0
  have HMEM := hid hm0
  have HPB := hid h.lt
  have HGR := hid hgr
  have HGP := hid hgp
  have HBB := hid hbB
  have HCL := hid hg.cl
  subst hnx2
  clear h hg hk hkn hn hnc hL hnx hb0 hm0 hgr hgp hbB hH
  go_enter Try.func123, Try.ntmps123
  go_upto_region 2 with fail
  go_region_held3 (fun Z => Z.cell? ⟨p, 0, none⟩ = some (.int .i64 (k : Int))) (go_keep) (first | (go_at_call 93; refine (HA.out _).mono ?_; rintro e w6 ⟨rfl, rfl⟩) | fail)
  rw [HHL.out]
  have c0 : w.drew.cell? ⟨p, 0, none⟩ = some (.int .i64 k) := c0
  go_upto_region 3 with fail
  go_region_held3 (fun Z => Z.cell? ⟨p, 0, none⟩ = some (.int .i64 (k : Int))) (go_keep) (first | (go_at_call 93; refine (HA.out _).mono ?_; rintro e w6 ⟨rfl, rfl⟩) | fail)
  have HROW2 : Hid (w.drew.drew.heap[p]? = some (.cells (lineS m (.slice (some ⟨gr, 0, none⟩) 24 cr) (.slice a2 m.cells.length c2)) 28 (0, 0))) := HROW.out
  have HMEM2 : Hid (MemO B w.drew.drew p (.slice (some ⟨gr, 0, none⟩) 24 cr) (.slice a2 m.cells.length c2) m) := HMEM.out.heap rfl
  have HB : Hid (Below B w w.drew.drew) := (Below.refl B w).drew.drew
  have y0 : w.drew.drew.cell? ⟨b, off + L, none⟩ = some (.int .i64 x0) := h1
  have HBL : Hid (p < w.drew.drew.heap.size) := HPB.out.2
  clear HROW HMEM HA c0 h0 h1 Z1 Z1b E1 Z3
  generalize w.drew.drew = W at *
  obtain ⟨-, d1, d2, d3, -, -, -⟩ := RunT.cells HROW2.out
  have HSG : Hid (∀ W', Calls Try.prog 150 #[.int .i64 m.sig, .int .i64 x0] W' fun e w' => e = .returned (.int .i64 (sgn m.sig x0)) ∧ w' = W') := specSignOf m.sig x0
  have d3f := frozen_of_row _ _ 3 _ _ HROW2.out
  have HRF : Hid (RunT B (W.setCell ⟨p, 3, none⟩ (.int .i64 (sgn m.sig x0))) p (sigR m x0)) := RunT.fld (m' := sigR m x0) ⟨_, _, HROW2.out, HMEM2.out⟩ 3 _ (fun _ _ => rfl) rfl rfl
  generalize sgn m.sig x0 = z at *
  go_upto_region 38 with fail
  go_region_with (first | (go_at_call 150; refine (HSG.out _).mono ?_; rintro e w6 ⟨rfl, rfl⟩) | fail)
  all_goals
    have HRZ0 : Hid (RunT B ((W.setCell ⟨p, 3, none⟩ (.int .i64 z)).drew) p (sigR m x0)) := HRF.out.heap rfl
    have HBZ0 : Hid (Below B w ((W.setCell ⟨p, 3, none⟩ (.int .i64 z)).drew)) := (HB.out.setCell (p := ⟨p, 3, none⟩) HPB.out.1 _).drew
    clear HROW2 HMEM2 HB y0 d1 d2 d3 d3f HRF
    generalize (W.setCell ⟨p, 3, none⟩ (.int .i64 z)).drew = WZ at *
    have HRZ := HRZ0
    have HBZ := HBZ0
    obtain ⟨svz, cvz, hbz, _⟩ := id HRZ.out
    have z0 := (RunT.cells hbz).1
    have zf := frozen_of_row _ _ 0 _ _ hbz
    have HF : Hid (RunT B (WZ.setCell ⟨p, 0, none⟩ (.int .i64 (H : Int))) p (atP (sigR m x0) (H : Int))) := HRZ.out.fld (m' := atP (sigR m x0) (H : Int)) 0 _ (fun _ _ => rfl) rfl rfl
    have HPZ := HRZ.out.lt.1
    clear hbz
    go_wp2_with fail
    go_ret
    first | exact ⟨rfl, fun _ => HF.out, HBZ.out.setCell HPZ _⟩ | exact ⟨rfl, HF.out, HBZ.out.setCell HPZ _⟩
end Go.Proofs.Ytcikofhbfncgdaa
namespace Go.Proofs.Ytcikofhbfncgdaa
open Go.RowKit
set_option linter.unusedVariables false
attribute [local go_sem ↓] Go.wp_at_zero Go.wp_at_succ

set_option maxHeartbeats 3200000 in
set_option maxRecDepth 100000 in
theorem rdo_13a (B p b off n c k L : Nat) (m : SM) (nx : Int) (w : World) (h : RunT B w p m) (hg : RGood m) (hk : m.pc = k) (hkn : k + 0 < n) (hn : n ≤ 400) (hnc : n ≤ c) (hbB : b < B) (hL : L = k + 1) (hnx : nx = (k : Int) + 1 + 0) (h0 : w.cell? ⟨b, off + k, none⟩ = some (.int .i64 13)) (hLc : L < c) :
    Calls Try.prog 123 #[.slice (some ⟨b, off, none⟩) n c, .pointer (some ⟨p, 0, none⟩)] w fun e w' => e = .returned (.int .i64 0) ∧ (0 = 0 → RunT B w' p (atP (doneR m) nx)) ∧ Below B w w' := by
  have HA : Hid (∀ W, Calls Try.prog 93 #[.int .i64 13] W fun e w' => e = .returned (.int .i64 0) ∧ w' = W) := fun W => l10Args_any 13 W
  obtain ⟨gr, cr, a2, c2, hb0, hm0, hgr, hgp⟩ := h.rows hg.rl
  obtain ⟨c0, -⟩ := RunT.cells hb0
  rw [hk] at c0
  have q0 : (0 : Int) ≤ (k : Int) := by omega
  have q1 : (k : Int) < (n : Int) := by omega
  have E1 : (k : Int) + 1 = (L : Int) := by omega
  have Z1 : IntKind.i64.wrap ((k : Int) + 1) = (L : Int) := by rw [IntWalk.i64_in _ ⟨by omega, by omega⟩]; omega
  have Z1b : IntKind.i64.wrap (L : Int) = (L : Int) := IntWalk.i64_in _ ⟨by omega, by omega⟩
  have Z3 := True.intro
  have p0 : (0 : Int) ≤ (L : Int) := by omega
  have p2 : (L : Int) ≤ (c : Int) := by omega
  have p4 : ¬ (L = c) := by omega
  have p5 : ¬ (c = L) := by omega
  have p6 : (c == L) = false := by rw [beq_eq_false_iff_ne]; omega
  have p7 : (L == c) = false := by rw [beq_eq_false_iff_ne]; omega
  have hnx2 : nx = (L : Int) := by omega
  have HROW := hid hb0
  have HMEM := hid hm0
  have HPB := hid h.lt
  have HGR := hid hgr
  have HGP := hid hgp
  have HBB := hid hbB
  have HCL := hid hg.cl
  subst hnx2
  clear hLc h hg hk hkn hn hnc hL hnx hb0 hm0 hgr hgp hbB
  go_enter Try.func123, Try.ntmps123
  go_upto_region 2 with fail
  go_region_held3 (fun Z => Z.cell? ⟨p, 0, none⟩ = some (.int .i64 (k : Int))) (go_keep) (first | (go_at_call 93; refine (HA.out _).mono ?_; rintro e w6 ⟨rfl, rfl⟩) | fail)
  have c0 : w.drew.cell? ⟨p, 0, none⟩ = some (.int .i64 k) := c0
  go_upto_region 3 with fail
  go_region_held3 (fun Z => Z.cell? ⟨p, 0, none⟩ = some (.int .i64 (k : Int))) (go_keep) (first | (go_at_call 93; refine (HA.out _).mono ?_; rintro e w6 ⟨rfl, rfl⟩) | fail)
  have HROW2 : Hid (w.drew.drew.heap[p]? = some (.cells (lineS m (.slice (some ⟨gr, 0, none⟩) 24 cr) (.slice a2 m.cells.length c2)) 28 (0, 0))) := HROW.out
  have HMEM2 : Hid (MemO B w.drew.drew p (.slice (some ⟨gr, 0, none⟩) 24 cr) (.slice a2 m.cells.length c2) m) := HMEM.out.heap rfl
  have HB : Hid (Below B w w.drew.drew) := (Below.refl B w).drew.drew
  have HBL : Hid (p < w.drew.drew.heap.size) := HPB.out.2
  clear HROW HMEM HA c0 h0 Z1 Z1b E1 Z3
  generalize w.drew.drew = W at *
  obtain ⟨-, d1, d2, d3, -, -, -⟩ := RunT.cells HROW2.out
  have d6 := (RunT.cells HROW2.out).2.2.2.2.2.2
  have d6f := frozen_of_row _ _ 6 _ _ HROW2.out
  have HRF : Hid (RunT B (W.setCell ⟨p, 6, none⟩ (.bool true)) p (doneR m)) := RunT.fld (m' := doneR m) ⟨_, _, HROW2.out, HMEM2.out⟩ 6 _ (fun _ _ => rfl) rfl rfl
  go_upto_region 41 with fail
  have HRZ0 : Hid (RunT B (W.setCell ⟨p, 6, none⟩ (.bool true)) p (doneR m)) := HRF.out
  have HBZ0 : Hid (Below B w (W.setCell ⟨p, 6, none⟩ (.bool true))) := HB.out.setCell (p := ⟨p, 6, none⟩) HPB.out.1 _
  clear HROW2 HMEM2 HB d1 d2 d3 d6 d6f HRF
  generalize W.setCell ⟨p, 6, none⟩ (.bool true) = WZ at *
  have HRZ := HRZ0
  have HBZ := HBZ0
  obtain ⟨svz, cvz, hbz, _⟩ := id HRZ.out
  have z0 := (RunT.cells hbz).1
  have zf := frozen_of_row _ _ 0 _ _ hbz
  have HF : Hid (RunT B (WZ.setCell ⟨p, 0, none⟩ (.int .i64 (L : Int))) p (atP (doneR m) (L : Int))) := HRZ.out.fld (m' := atP (doneR m) (L : Int)) 0 _ (fun _ _ => rfl) rfl rfl
  have HPZ := HRZ.out.lt.1
  clear hbz
  go_wp2_with fail
  go_ret
  first | exact ⟨rfl, fun _ => HF.out, HBZ.out.setCell HPZ _⟩ | exact ⟨rfl, HF.out, HBZ.out.setCell HPZ _⟩

set_option maxHeartbeats 3200000 in
set_option maxRecDepth 100000 in
theorem rdo_13b (B p b off n k L : Nat) (m : SM) (nx : Int) (w : World) (h : RunT B w p m) (hg : RGood m) (hk : m.pc = k) (hkn : k + 0 < n) (hn : n ≤ 400) (hnc : n ≤ L) (hbB : b < B) (hL : L = k + 1) (hnx : nx = (k : Int) + 1 + 0) (h0 : w.cell? ⟨b, off + k, none⟩ = some (.int .i64 13)) :
    Calls Try.prog 123 #[.slice (some ⟨b, off, none⟩) n L, .pointer (some ⟨p, 0, none⟩)] w fun e w' => e = .returned (.int .i64 0) ∧ (0 = 0 → RunT B w' p (atP (doneR m) nx)) ∧ Below B w w' := by
  have HA : Hid (∀ W, Calls Try.prog 93 #[.int .i64 13] W fun e w' => e = .returned (.int .i64 0) ∧ w' = W) := fun W => l10Args_any 13 W
  obtain ⟨gr, cr, a2, c2, hb0, hm0, hgr, hgp⟩ := h.rows hg.rl
  obtain ⟨c0, -⟩ := RunT.cells hb0
  rw [hk] at c0
  have q0 : (0 : Int) ≤ (k : Int) := by omega
  have q1 : (k : Int) < (n : Int) := by omega
  have E1 : (k : Int) + 1 = (L : Int) := by omega
  have Z1 : IntKind.i64.wrap ((k : Int) + 1) = (L : Int) := by rw [IntWalk.i64_in _ ⟨by omega, by omega⟩]; omega
  have Z1b : IntKind.i64.wrap (L : Int) = (L : Int) := IntWalk.i64_in _ ⟨by omega, by omega⟩
  have Z3 := True.intro
  have p0 : (0 : Int) ≤ (L : Int) := by omega
  have hnx2 : nx = (L : Int) := by omega
  have HROW := hid hb0
  have HMEM := hid hm0
  have HPB := hid h.lt
  have HGR := hid hgr
  have HGP := hid hgp
  have HBB := hid hbB
  have HCL := hid hg.cl
  subst hnx2
  clear h hg hk hkn hn hnc hL hnx hb0 hm0 hgr hgp hbB
  go_enter Try.func123, Try.ntmps123
  go_upto_region 2 with fail
  go_region_held3 (fun Z => Z.cell? ⟨p, 0, none⟩ = some (.int .i64 (k : Int))) (go_keep) (first | (go_at_call 93; refine (HA.out _).mono ?_; rintro e w6 ⟨rfl, rfl⟩) | fail)
  have c0 : w.drew.cell? ⟨p, 0, none⟩ = some (.int .i64 k) := c0
  go_upto_region 3 with fail
  go_region_held3 (fun Z => Z.cell? ⟨p, 0, none⟩ = some (.int .i64 (k : Int))) (go_keep) (first | (go_at_call 93; refine (HA.out _).mono ?_; rintro e w6 ⟨rfl, rfl⟩) | fail)
  have HROW2 : Hid (w.drew.drew.heap[p]? = some (.cells (lineS m (.slice (some ⟨gr, 0, none⟩) 24 cr) (.slice a2 m.cells.length c2)) 28 (0, 0))) := HROW.out
  have HMEM2 : Hid (MemO B w.drew.drew p (.slice (some ⟨gr, 0, none⟩) 24 cr) (.slice a2 m.cells.length c2) m) := HMEM.out.heap rfl
  have HB : Hid (Below B w w.drew.drew) := (Below.refl B w).drew.drew
  have HBL : Hid (p < w.drew.drew.heap.size) := HPB.out.2
  clear HROW HMEM HA c0 h0 Z1 Z1b E1 Z3
  generalize w.drew.drew = W at *
  obtain ⟨-, d1, d2, d3, -, -, -⟩ := RunT.cells HROW2.out
  have d6 := (RunT.cells HROW2.out).2.2.2.2.2.2
  have d6f := frozen_of_row _ _ 6 _ _ HROW2.out
  have HRF : Hid (RunT B (W.setCell ⟨p, 6, none⟩ (.bool true)) p (doneR m)) := RunT.fld (m' := doneR m) ⟨_, _, HROW2.out, HMEM2.out⟩ 6 _ (fun _ _ => rfl) rfl rfl
  go_upto_region 41 with fail
  have HRZ0 : Hid (RunT B (W.setCell ⟨p, 6, none⟩ (.bool true)) p (doneR m)) := HRF.out
  have HBZ0 : Hid (Below B w (W.setCell ⟨p, 6, none⟩ (.bool true))) := HB.out.setCell (p := ⟨p, 6, none⟩) HPB.out.1 _
  clear HROW2 HMEM2 HB d1 d2 d3 d6 d6f HRF
  generalize W.setCell ⟨p, 6, none⟩ (.bool true) = WZ at *
  have HRZ := HRZ0
  have HBZ := HBZ0
  obtain ⟨svz, cvz, hbz, _⟩ := id HRZ.out
  have z0 := (RunT.cells hbz).1
  have zf := frozen_of_row _ _ 0 _ _ hbz
  have HF : Hid (RunT B (WZ.setCell ⟨p, 0, none⟩ (.int .i64 (L : Int))) p (atP (doneR m) (L : Int))) := HRZ.out.fld (m' := atP (doneR m) (L : Int)) 0 _ (fun _ _ => rfl) rfl rfl
  have HPZ := HRZ.out.lt.1
  clear hbz
  go_wp2_with fail
  go_ret
  first | exact ⟨rfl, fun _ => HF.out, HBZ.out.setCell HPZ _⟩ | exact ⟨rfl, HF.out, HBZ.out.setCell HPZ _⟩
end Go.Proofs.Ytcikofhbfncgdaa
