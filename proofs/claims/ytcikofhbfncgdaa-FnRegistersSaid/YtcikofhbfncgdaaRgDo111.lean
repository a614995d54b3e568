/-
  spec's l10Do: op 11.
-/
import Derived.Test.YtcikofhbfncgdaaRgDo102
namespace Go.Proofs.Ytcikofhbfncgdaa
open Go.RowKit
set_option linter.unusedVariables false
attribute [local go_sem ↓] Go.wp_at_zero Go.wp_at_succ

set_option maxHeartbeats 3200000 in
set_option maxRecDepth 100000 in
theorem rdo_9a (B p b off n c k L i0 : Nat) (m : SM) (nx : Int) (w : World) (h : RunT B w p m) (hg : RGood m) (hk : m.pc = k) (hkn : k + 1 < n) (hn : n ≤ 400) (hnc : n ≤ c) (hbB : b < B) (hL : L = k + 1) (hnx : nx = (k : Int) + 1 + 1) (h0 : w.cell? ⟨b, off + k, none⟩ = some (.int .i64 9)) (h1 : w.cell? ⟨b, off + L, none⟩ = some (.int .i64 ((i0 : Nat) : Int))) (r0 : i0 < 24) (hv : m.stk.getD i0 0 = 65535) :
    Calls Try.prog 123 #[.slice (some ⟨b, off, none⟩) n c, .pointer (some ⟨p, 0, none⟩)] w fun e w' => e = .returned (.int .i64 0) ∧ (0 = 0 → RunT B w' p (atP m nx)) ∧ Below B w w' := by
  have HA : Hid (∀ W, Calls Try.prog 93 #[.int .i64 9] W fun e w' => e = .returned (.int .i64 1) ∧ w' = W) := fun W => l10Args_any 9 W
  obtain ⟨gr, cr, a2, c2, hb0, hm0, hgr, hgp⟩ := h.rows hg.rl
  obtain ⟨c0, -⟩ := RunT.cells hb0
  rw [hk] at c0
  have q0 : (0 : Int) ≤ (k : Int) := by omega
  have q1 : (k : Int) < (n : Int) := by omega
  have E1 : (k : Int) + 1 = (L : Int) := by omega
  have Z1 : IntKind.i64.wrap ((k : Int) + 1) = (L : Int) := by rw [IntWalk.i64_in _ ⟨by omega, by omega⟩]; omega
  have Z1b : IntKind.i64.wrap (L : Int) = (L : Int) := IntWalk.i64_in _ ⟨by omega, by omega⟩
  obtain ⟨H, hH⟩ : ∃ H : Nat, H = L + 1 := ⟨_, rfl⟩
  have Z3 : IntKind.i64.wrap ((L : Int) + 1) = (H : Int) := by rw [IntWalk.i64_in _ ⟨by omega, by omega⟩]; omega
  have p0 : (0 : Int) ≤ (L : Int) := by omega
  have p1 : (L : Int) ≤ (H : Int) := by omega
  have p2 : (H : Int) ≤ (c : Int) := by omega
  have p3 : (0 : Int) ≤ (H : Int) := by omega
  have p4 : ¬ (L = c) := by omega
  have p5 : ¬ (c = L) := by omega
  have p6 : (c == L) = false := by rw [beq_eq_false_iff_ne]; omega
  have p7 : (L == c) = false := by rw [beq_eq_false_iff_ne]; omega
  have HHL : Hid (H - L = 1) := by show _ = _; omega
  have hnx2 : nx = (H : Int) := by omega
  have HROW := hid hb0
  have HMEM := hid hm0
  have HPB := hid h.lt
  have HGR := hid hgr
  have HGP := hid hgp
  have HBB := hid hbB
  have HCL := hid hg.cl
  subst hnx2
  clear h hg hk hkn hn hnc hL hnx hb0 hm0 hgr hgp hbB hH
  go_enter Try.func123, Try.ntmps123
  go_upto_region 2 with fail
  go_region_held3 (fun Z => Z.cell? ⟨p, 0, none⟩ = some (.int .i64 (k : Int))) (go_keep) (first | (go_at_call 93; refine (HA.out _).mono ?_; rintro e w6 ⟨rfl, rfl⟩) | fail)
  rw [HHL.out]
  have c0 : w.drew.cell? ⟨p, 0, none⟩ = some (.int .i64 k) := c0
  go_upto_region 3 with fail
  go_region_held3 (fun Z => Z.cell? ⟨p, 0, none⟩ = some (.int .i64 (k : Int))) (go_keep) (first | (go_at_call 93; refine (HA.out _).mono ?_; rintro e w6 ⟨rfl, rfl⟩) | fail)
  have HROW2 : Hid (w.drew.drew.heap[p]? = some (.cells (lineS m (.slice (some ⟨gr, 0, none⟩) 24 cr) (.slice a2 m.cells.length c2)) 28 (0, 0))) := HROW.out
  have HMEM2 : Hid (MemO B w.drew.drew p (.slice (some ⟨gr, 0, none⟩) 24 cr) (.slice a2 m.cells.length c2) m) := HMEM.out.heap rfl
  have HB : Hid (Below B w w.drew.drew) := (Below.refl B w).drew.drew
  have y0 : w.drew.drew.cell? ⟨b, off + L, none⟩ = some (.int .i64 ((i0 : Nat) : Int)) := h1
  have HBL : Hid (p < w.drew.drew.heap.size) := HPB.out.2
  clear HROW HMEM HA c0 h0 h1 Z1 Z1b E1 Z3
  generalize w.drew.drew = W at *
  obtain ⟨-, d1, d2, d3, -, -, -⟩ := RunT.cells HROW2.out
  have ri0 : ((i0 : Nat) : Int) < 24 := by omega
  have rz0 : (0 : Int) ≤ ((i0 : Nat) : Int) := by omega
  obtain ⟨rc0, rf0⟩ := HMEM2.out.rcell r0
  have ev : (m.stk.getD i0 0 != 65535) = false := by rw [hv]; rfl
  clear hv
  generalize m.stk.getD i0 0 = u at *
  go_upto_region 30 with fail
  go_region
  have HRZ0 : Hid (RunT B (W.drew) p (m)) := ⟨_, _, HROW2.out, HMEM2.out.heap rfl⟩
  have HBZ0 : Hid (Below B w (W.drew)) := HB.out.drew
  clear HROW2 HMEM2 HB rc0 rf0 y0 d1 d2 d3
  generalize W.drew = WZ at *
  have HRZ := HRZ0
  have HBZ := HBZ0
  obtain ⟨svz, cvz, hbz, _⟩ := id HRZ.out
  have z0 := (RunT.cells hbz).1
  have zf := frozen_of_row _ _ 0 _ _ hbz
  have HF : Hid (RunT B (WZ.setCell ⟨p, 0, none⟩ (.int .i64 (H : Int))) p (atP (m) (H : Int))) := HRZ.out.fld (m' := atP (m) (H : Int)) 0 _ (fun _ _ => rfl) rfl rfl
  have HPZ := HRZ.out.lt.1
  clear hbz
  go_wp2_with fail
  go_ret
  first | exact ⟨rfl, fun _ => HF.out, HBZ.out.setCell HPZ _⟩ | exact ⟨rfl, HF.out, HBZ.out.setCell HPZ _⟩

set_option maxHeartbeats 3200000 in
set_option maxRecDepth 100000 in
theorem rdo_9b (B p b off n c k L i0 : Nat) (m : SM) (nx : Int) (w : World) (h : RunT B w p m) (hg : RGood m) (hk : m.pc = k) (hkn : k + 1 < n) (hn : n ≤ 400) (hnc : n ≤ c) (hbB : b < B) (hL : L = k + 1) (hnx : nx = (k : Int) + 1 + 1) (h0 : w.cell? ⟨b, off + k, none⟩ = some (.int .i64 9)) (h1 : w.cell? ⟨b, off + L, none⟩ = some (.int .i64 ((i0 : Nat) : Int))) (r0 : i0 < 24) (hv : ¬ m.stk.getD i0 0 = 65535) :
    Calls Try.prog 123 #[.slice (some ⟨b, off, none⟩) n c, .pointer (some ⟨p, 0, none⟩)] w fun e w' => e = .returned (.int .i64 0) ∧ (0 = 0 → RunT B w' p (atP (str m i0 65534) nx)) ∧ Below B w w' := by
  have HA : Hid (∀ W, Calls Try.prog 93 #[.int .i64 9] W fun e w' => e = .returned (.int .i64 1) ∧ w' = W) := fun W => l10Args_any 9 W
  obtain ⟨gr, cr, a2, c2, hb0, hm0, hgr, hgp⟩ := h.rows hg.rl
  obtain ⟨c0, -⟩ := RunT.cells hb0
  rw [hk] at c0
  have q0 : (0 : Int) ≤ (k : Int) := by omega
  have q1 : (k : Int) < (n : Int) := by omega
  have E1 : (k : Int) + 1 = (L : Int) := by omega
  have Z1 : IntKind.i64.wrap ((k : Int) + 1) = (L : Int) := by rw [IntWalk.i64_in _ ⟨by omega, by omega⟩]; omega
  have Z1b : IntKind.i64.wrap (L : Int) = (L : Int) := IntWalk.i64_in _ ⟨by omega, by omega⟩
  obtain ⟨H, hH⟩ : ∃ H : Nat, H = L + 1 := ⟨_, rfl⟩
  have Z3 : IntKind.i64.wrap ((L : Int) + 1) = (H : Int) := by rw [IntWalk.i64_in _ ⟨by omega, by omega⟩]; omega
  have p0 : (0 : Int) ≤ (L : Int) := by omega
  have p1 : (L : Int) ≤ (H : Int) := by omega
  have p2 : (H : Int) ≤ (c : Int) := by omega
  have p3 : (0 : Int) ≤ (H : Int) := by omega
  have p4 : ¬ (L = c) := by omega
  have p5 : ¬ (c = L) := by omega
  have p6 : (c == L) = false := by rw [beq_eq_false_iff_ne]; omega
  have p7 : (L == c) = false := by rw [beq_eq_false_iff_ne]; omega
  have HHL : Hid (H - L = 1) := by show _ = _; omega
  have hnx2 : nx = (H : Int) := by omega
  have HROW := hid hb0
  have HMEM := hid hm0
  have HPB := hid h.lt
  have HGR := hid hgr
  have HGP := hid hgp
  have HBB := hid hbB
  have HCL := hid hg.cl
  subst hnx2
  clear h hg hk hkn hn hnc hL hnx hb0 hm0 hgr hgp hbB hH
  go_enter Try.func123, Try.ntmps123
  go_upto_region 2 with fail
  go_region_held3 (fun Z => Z.cell? ⟨p, 0, none⟩ = some (.int .i64 (k : Int))) (go_keep) (first | (go_at_call 93; refine (HA.out _).mono ?_; rintro e w6 ⟨rfl, rfl⟩) | fail)
  rw [HHL.out]
  have c0 : w.drew.cell? ⟨p, 0, none⟩ = some (.int .i64 k) := c0
  go_upto_region 3 with fail
  go_region_held3 (fun Z => Z.cell? ⟨p, 0, none⟩ = some (.int .i64 (k : Int))) (go_keep) (first | (go_at_call 93; refine (HA.out _).mono ?_; rintro e w6 ⟨rfl, rfl⟩) | fail)
  have HROW2 : Hid (w.drew.drew.heap[p]? = some (.cells (lineS m (.slice (some ⟨gr, 0, none⟩) 24 cr) (.slice a2 m.cells.length c2)) 28 (0, 0))) := HROW.out
  have HMEM2 : Hid (MemO B w.drew.drew p (.slice (some ⟨gr, 0, none⟩) 24 cr) (.slice a2 m.cells.length c2) m) := HMEM.out.heap rfl
  have HB : Hid (Below B w w.drew.drew) := (Below.refl B w).drew.drew
  have y0 : w.drew.drew.cell? ⟨b, off + L, none⟩ = some (.int .i64 ((i0 : Nat) : Int)) := h1
  have HBL : Hid (p < w.drew.drew.heap.size) := HPB.out.2
  clear HROW HMEM HA c0 h0 h1 Z1 Z1b E1 Z3
  generalize w.drew.drew = W at *
  obtain ⟨-, d1, d2, d3, -, -, -⟩ := RunT.cells HROW2.out
  have ri0 : ((i0 : Nat) : Int) < 24 := by omega
  have rz0 : (0 : Int) ≤ ((i0 : Nat) : Int) := by omega
  obtain ⟨rc0, rf0⟩ := HMEM2.out.rcell r0
  have ev : (m.stk.getD i0 0 != 65535) = true := by simpa using hv
  clear hv
  generalize m.stk.getD i0 0 = u at *
  go_upto_region 30 with fail
  go_region
  have HROW3 : Hid (W.drew.heap[p]? = some (.cells (lineS m (.slice (some ⟨gr, 0, none⟩) 24 cr) (.slice a2 m.cells.length c2)) 28 (0, 0))) := HROW2.out
  have HMEM3 : Hid (MemO B W.drew p (.slice (some ⟨gr, 0, none⟩) 24 cr) (.slice a2 m.cells.length c2) m) := HMEM2.out.heap rfl
  have HB3 : Hid (Below B w W.drew) := HB.out.drew
  have y0 : W.drew.cell? ⟨b, off + L, none⟩ = some (.int .i64 ((i0 : Nat) : Int)) := y0
  have rc0 : W.drew.cell? ⟨gr, i0, none⟩ = some (.int .i64 u) := rc0
  have rf0 : W.drew.frozen? ⟨gr, i0, none⟩ = false := rf0
  clear HROW2 HMEM2 HB d1 d2 d3
  generalize W.drew = W3 at *
  obtain ⟨-, d1, -, -, -, -, -⟩ := RunT.cells HROW3.out
  go_upto_region 31 with fail
  go_region
  have HRZ0 : Hid (RunT B ((W3.setCell ⟨gr, i0, none⟩ (.int .i64 65534)).drew) p (str m i0 65534)) := (RunT.reg HROW3.out HMEM3.out _).heap rfl
  have HBZ0 : Hid (Below B w ((W3.setCell ⟨gr, i0, none⟩ (.int .i64 65534)).drew)) := (HB3.out.setCell (p := ⟨gr, i0, none⟩) HGR.out _).drew
  clear HROW3 HMEM3 HB3 rc0 rf0 y0 d1
  generalize (W3.setCell ⟨gr, i0, none⟩ (.int .i64 65534)).drew = WZ at *
  have HRZ := HRZ0
  have HBZ := HBZ0
  obtain ⟨svz, cvz, hbz, _⟩ := id HRZ.out
  have z0 := (RunT.cells hbz).1
  have zf := frozen_of_row _ _ 0 _ _ hbz
  have HF : Hid (RunT B (WZ.setCell ⟨p, 0, none⟩ (.int .i64 (H : Int))) p (atP (str m i0 65534) (H : Int))) := HRZ.out.fld (m' := atP (str m i0 65534) (H : Int)) 0 _ (fun _ _ => rfl) rfl rfl
  have HPZ := HRZ.out.lt.1
  clear hbz
  go_wp2_with fail
  go_ret
  first | exact ⟨rfl, fun _ => HF.out, HBZ.out.setCell HPZ _⟩ | exact ⟨rfl, HF.out, HBZ.out.setCell HPZ _⟩
end Go.Proofs.Ytcikofhbfncgdaa
namespace Go.Proofs.Ytcikofhbfncgdaa
open Go.RowKit
set_option linter.unusedVariables false
attribute [local go_sem ↓] Go.wp_at_zero Go.wp_at_succ

set_option maxHeartbeats 3200000 in
set_option maxRecDepth 100000 in
theorem rdo_10 (B p b off n c k L : Nat) (m : SM) (x0 nx : Int) (w : World) (h : RunT B w p m) (hg : RGood m) (hk : m.pc = k) (hkn : k + 1 < n) (hn : n ≤ 400) (hnc : n ≤ c) (hbB : b < B) (hL : L = k + 1) (hnx : nx = (k : Int) + 1 + 1) (h0 : w.cell? ⟨b, off + k, none⟩ = some (.int .i64 10)) (h1 : w.cell? ⟨b, off + L, none⟩ = some (.int .i64 x0)) :
    Calls Try.prog 123 #[.slice (some ⟨b, off, none⟩) n c, .pointer (some ⟨p, 0, none⟩)] w fun e w' => e = .returned (.int .i64 0) ∧ (0 = 0 → RunT B w' p (atP m x0)) ∧ Below B w w' := by
  have HA : Hid (∀ W, Calls Try.prog 93 #[.int .i64 10] W fun e w' => e = .returned (.int .i64 1) ∧ w' = W) := fun W => l10Args_any 10 W
  obtain ⟨gr, cr, a2, c2, hb0, hm0, hgr, hgp⟩ := h.rows hg.rl
  obtain ⟨c0, -⟩ := RunT.cells hb0
  rw [hk] at c0
  have q0 : (0 : Int) ≤ (k : Int) := by omega
  have q1 : (k : Int) < (n : Int) := by omega
  have E1 : (k : Int) + 1 = (L : Int) := by omega
  have Z1 : IntKind.i64.wrap ((k : Int) + 1) = (L : Int) := by rw [IntWalk.i64_in _ ⟨by omega, by omega⟩]; omega
  have Z1b : IntKind.i64.wrap (L : Int) = (L : Int) := IntWalk.i64_in _ ⟨by omega, by omega⟩
  obtain ⟨H, hH⟩ : ∃ H : Nat, H = L + 1 := ⟨_, rfl⟩
  have Z3 : IntKind.i64.wrap ((L : Int) + 1) = (H : Int) := by rw [IntWalk.i64_in _ ⟨by omega, by omega⟩]; omega
  have p0 : (0 : Int) ≤ (L : Int) := by omega
  have p1 : (L : Int) ≤ (H : Int) := by omega
  have p2 : (H : Int) ≤ (c : Int) := by omega
  have p3 : (0 : Int) ≤ (H : Int) := by omega
  have p4 : ¬ (L = c) := by omega
  have p5 : ¬ (c = L) := by omega
  have p6 : (c == L) = false := by rw [beq_eq_false_iff_ne]; omega
  have p7 : (L == c) = false := by rw [beq_eq_false_iff_ne]; omega
  have HHL : Hid (H - L = 1) := by show _ = _; omega
  have hnx2 : nx = (H : Int) := by omega
  have HROW := hid hb0
  have HMEM := hid hm0
  have HPB := hid h.lt
  have HGR := hid hgr
  have HGP := hid hgp
  have HBB := hid hbB
  have HCL := hid hg.cl
  subst hnx2
  clear h hg hk hkn hn hnc hL hnx hb0 hm0 hgr hgp hbB hH
  go_enter Try.func123, Try.ntmps123
  go_upto_region 2 with fail
  go_region_held3 (fun Z => Z.cell? ⟨p, 0, none⟩ = some (.int .i64 (k : Int))) (go_keep) (first | (go_at_call 93; refine (HA.out _).mono ?_; rintro e w6 ⟨rfl, rfl⟩) | fail)
  rw [HHL.out]
  have c0 : w.drew.cell? ⟨p, 0, none⟩ = some (.int .i64 k) := c0
  go_upto_region 3 with fail
  go_region_held3 (fun Z => Z.cell? ⟨p, 0, none⟩ = some (.int .i64 (k : Int))) (go_keep) (first | (go_at_call 93; refine (HA.out _).mono ?_; rintro e w6 ⟨rfl, rfl⟩) | fail)
  have HROW2 : Hid (w.drew.drew.heap[p]? = some (.cells (lineS m (.slice (some ⟨gr, 0, none⟩) 24 cr) (.slice a2 m.cells.length c2)) 28 (0, 0))) := HROW.out
  have HMEM2 : Hid (MemO B w.drew.drew p (.slice (some ⟨gr, 0, none⟩) 24 cr) (.slice a2 m.cells.length c2) m) := HMEM.out.heap rfl
  have HB : Hid (Below B w w.drew.drew) := (Below.refl B w).drew.drew
  have y0 : w.drew.drew.cell? ⟨b, off + L, none⟩ = some (.int .i64 x0) := h1
  have HBL : Hid (p < w.drew.drew.heap.size) := HPB.out.2
  clear HROW HMEM HA c0 h0 h1 Z1 Z1b E1 Z3
  generalize w.drew.drew = W at *
  obtain ⟨-, d1, d2, d3, -, -, -⟩ := RunT.cells HROW2.out
  have HRZ : Hid (RunT B W p m) := ⟨_, _, HROW2.out, HMEM2.out⟩
  have HBZ := HB
  obtain ⟨WZ, hWZ⟩ : ∃ WZ, WZ = W := ⟨_, rfl⟩
  subst hWZ
  clear HROW2 HMEM2 HB d1 d2 d3
  obtain ⟨svz, cvz, hbz, _⟩ := id HRZ.out
  have z0 := (RunT.cells hbz).1
  have zf := frozen_of_row _ _ 0 _ _ hbz
  have HF : Hid (RunT B (WZ.setCell ⟨p, 0, none⟩ (.int .i64 x0)) p (atP (m) x0)) := HRZ.out.fld (m' := atP (m) x0) 0 _ (fun _ _ => rfl) rfl rfl
  have HPZ := HRZ.out.lt.1
  clear hbz
  go_wp2_with fail
  go_ret
  first | exact ⟨rfl, fun _ => HF.out, HBZ.out.setCell HPZ _⟩ | exact ⟨rfl, HF.out, HBZ.out.setCell HPZ _⟩
end Go.Proofs.Ytcikofhbfncgdaa
namespace Go.Proofs.Ytcikofhbfncgdaa
open Go.RowKit
set_option linter.unusedVariables false
attribute [local go_sem ↓] Go.wp_at_zero Go.wp_at_succ

set_option maxHeartbeats 3200000 in
set_option maxRecDepth 100000 in
theorem rdo_11a (B p b off n c k L i0 : Nat) (m : SM) (x1 nx : Int) (w : World) (h : RunT B w p m) (hg : RGood m) (hk : m.pc = k) (hkn : k + 2 < n) (hn : n ≤ 400) (hnc : n ≤ c) (hbB : b < B) (hL : L = k + 1) (hnx : nx = (k : Int) + 1 + 2) (h0 : w.cell? ⟨b, off + k, none⟩ = some (.int .i64 11)) (h1 : w.cell? ⟨b, off + L, none⟩ = some (.int .i64 ((i0 : Nat) : Int))) (h2 : w.cell? ⟨b, off + L + 1, none⟩ = some (.int .i64 x1)) (r0 : i0 < 24) (hv : m.stk.getD i0 0 = 65535) :
    Calls Try.prog 123 #[.slice (some ⟨b, off, none⟩) n c, .pointer (some ⟨p, 0, none⟩)] w fun e w' => e = .returned (.int .i64 0) ∧ (0 = 0 → RunT B w' p (atP m x1)) ∧ Below B w w' := by
  have HA : Hid (∀ W, Calls Try.prog 93 #[.int .i64 11] W fun e w' => e = .returned (.int .i64 2) ∧ w' = W) := fun W => l10Args_any 11 W
  obtain ⟨gr, cr, a2, c2, hb0, hm0, hgr, hgp⟩ := h.rows hg.rl
  obtain ⟨c0, -⟩ := RunT.cells hb0
  rw [hk] at c0
  have q0 : (0 : Int) ≤ (k : Int) := by omega
  have q1 : (k : Int) < (n : Int) := by omega
  have E1 : (k : Int) + 1 = (L : Int) := by omega
  have Z1 : IntKind.i64.wrap ((k : Int) + 1) = (L : Int) := by rw [IntWalk.i64_in _ ⟨by omega, by omega⟩]; omega
  have Z1b : IntKind.i64.wrap (L : Int) = (L : Int) := IntWalk.i64_in _ ⟨by omega, by omega⟩
  obtain ⟨H, hH⟩ : ∃ H : Nat, H = L + 2 := ⟨_, rfl⟩
  have Z3 : IntKind.i64.wrap ((L : Int) + 2) = (H : Int) := by rw [IntWalk.i64_in _ ⟨by omega, by omega⟩]; omega
  have p0 : (0 : Int) ≤ (L : Int) := by omega
  have p1 : (L : Int) ≤ (H : Int) := by omega
  have p2 : (H : Int) ≤ (c : Int) := by omega
  have p3 : (0 : Int) ≤ (H : Int) := by omega
  have p4 : ¬ (L = c) := by omega
  have p5 : ¬ (c = L) := by omega
  have p6 : (c == L) = false := by rw [beq_eq_false_iff_ne]; omega
  have p7 : (L == c) = false := by rw [beq_eq_false_iff_ne]; omega
  have HHL : Hid (H - L = 2) := by show _ = _; omega
  have hnx2 : nx = (H : Int) := by omega
  have HROW := hid hb0
  have HMEM := hid hm0
  have HPB := hid h.lt
  have HGR := hid hgr
  have HGP := hid hgp
  have HBB := hid hbB
  have HCL := hid hg.cl
  subst hnx2
  clear h hg hk hkn hn hnc hL hnx hb0 hm0 hgr hgp hbB hH
  go_enter Try.func123, Try.ntmps123
  go_upto_region 2 with fail
  go_region_held3 (fun Z => Z.cell? ⟨p, 0, none⟩ = some (.int .i64 (k : Int))) (go_keep) (first | (go_at_call 93; refine (HA.out _).mono ?_; rintro e w6 ⟨rfl, rfl⟩) | fail)
  rw [HHL.out]
  have c0 : w.drew.cell? ⟨p, 0, none⟩ = some (.int .i64 k) := c0
  go_upto_region 3 with fail
  go_region_held3 (fun Z => Z.cell? ⟨p, 0, none⟩ = some (.int .i64 (k : Int))) (go_keep) (first | (go_at_call 93; refine (HA.out _).mono ?_; rintro e w6 ⟨rfl, rfl⟩) | fail)
  have HROW2 : Hid (w.drew.drew.heap[p]? = some (.cells (lineS m (.slice (some ⟨gr, 0, none⟩) 24 cr) (.slice a2 m.cells.length c2)) 28 (0, 0))) := HROW.out
  have HMEM2 : Hid (MemO B w.drew.drew p (.slice (some ⟨gr, 0, none⟩) 24 cr) (.slice a2 m.cells.length c2) m) := HMEM.out.heap rfl
  have HB : Hid (Below B w w.drew.drew) := (Below.refl B w).drew.drew
  have y0 : w.drew.drew.cell? ⟨b, off + L, none⟩ = some (.int .i64 ((i0 : Nat) : Int)) := h1
  have y1 : w.drew.drew.cell? ⟨b, off + L + 1, none⟩ = some (.int .i64 x1) := h2
  have HBL : Hid (p < w.drew.drew.heap.size) := HPB.out.2
  clear HROW HMEM HA c0 h0 h1 h2 Z1 Z1b E1 Z3
  generalize w.drew.drew = W at *
  obtain ⟨-, d1, d2, d3, -, -, -⟩ := RunT.cells HROW2.out
  have ri0 : ((i0 : Nat) : Int) < 24 := by omega
  have rz0 : (0 : Int) ≤ ((i0 : Nat) : Int) := by omega
  obtain ⟨rc0, rf0⟩ := HMEM2.out.rcell r0
  have ev : (m.stk.getD i0 0 == 65535) = true := by rw [hv]; rfl
  clear hv
  generalize m.stk.getD i0 0 = u at *
  go_upto_region 35 with fail
  go_region
  have y1 : W.drew.cell? ⟨b, off + L + 1, none⟩ = some (.int .i64 x1) := y1
  have HRZ0 : Hid (RunT B (W.drew) p (m)) := ⟨_, _, HROW2.out, HMEM2.out.heap rfl⟩
  have HBZ0 : Hid (Below B w (W.drew)) := HB.out.drew
  clear HROW2 HMEM2 HB rc0 rf0 y0 d1 d2 d3
  generalize W.drew = WZ at *
  have HRZ := HRZ0
  have HBZ := HBZ0
  obtain ⟨svz, cvz, hbz, _⟩ := id HRZ.out
  have z0 := (RunT.cells hbz).1
  have zf := frozen_of_row _ _ 0 _ _ hbz
  have HF : Hid (RunT B (WZ.setCell ⟨p, 0, none⟩ (.int .i64 x1)) p (atP (m) x1)) := HRZ.out.fld (m' := atP (m) x1) 0 _ (fun _ _ => rfl) rfl rfl
  have HPZ := HRZ.out.lt.1
  clear hbz
  go_wp2_with fail
  go_ret
  first | exact ⟨rfl, fun _ => HF.out, HBZ.out.setCell HPZ _⟩ | exact ⟨rfl, HF.out, HBZ.out.setCell HPZ _⟩

set_option maxHeartbeats 3200000 in
set_option maxRecDepth 100000 in
theorem rdo_11b (B p b off n c k L i0 : Nat) (m : SM) (x1 nx : Int) (w : World) (h : RunT B w p m) (hg : RGood m) (hk : m.pc = k) (hkn : k + 2 < n) (hn : n ≤ 400) (hnc : n ≤ c) (hbB : b < B) (hL : L = k + 1) (hnx : nx = (k : Int) + 1 + 2) (h0 : w.cell? ⟨b, off + k, none⟩ = some (.int .i64 11)) (h1 : w.cell? ⟨b, off + L, none⟩ = some (.int .i64 ((i0 : Nat) : Int))) (h2 : w.cell? ⟨b, off + L + 1, none⟩ = some (.int .i64 x1)) (r0 : i0 < 24) (hv : ¬ m.stk.getD i0 0 = 65535) :
    Calls Try.prog 123 #[.slice (some ⟨b, off, none⟩) n c, .pointer (some ⟨p, 0, none⟩)] w fun e w' => e = .returned (.int .i64 0) ∧ (0 = 0 → RunT B w' p (atP m nx)) ∧ Below B w w' := by
  have HA : Hid (∀ W, Calls Try.prog 93 #[.int .i64 11] W fun e w' => e = .returned (.int .i64 2) ∧ w' = W) := fun W => l10Args_any 11 W
  obtain ⟨gr, cr, a2, c2, hb0, hm0, hgr, hgp⟩ := h.rows hg.rl
  obtain ⟨c0, -⟩ := RunT.cells hb0
  rw [hk] at c0
  have q0 : (0 : Int) ≤ (k : Int) := by omega
  have q1 : (k : Int) < (n : Int) := by omega
  have E1 : (k : Int) + 1 = (L : Int) := by omega
  have Z1 : IntKind.i64.wrap ((k : Int) + 1) = (L : Int) := by rw [IntWalk.i64_in _ ⟨by omega, by omega⟩]; omega
  have Z1b : IntKind.i64.wrap (L : Int) = (L : Int) := IntWalk.i64_in _ ⟨by omega, by omega⟩
  obtain ⟨H, hH⟩ : ∃ H : Nat, H = L + 2 := ⟨_, rfl⟩
  have Z3 : IntKind.i64.wrap ((L : Int) + 2) = (H : Int) := by rw [IntWalk.i64_in _ ⟨by omega, by omega⟩]; omega
  have p0 : (0 : Int) ≤ (L : Int) := by omega
  have p1 : (L : Int) ≤ (H : Int) := by omega
  have p2 : (H : Int) ≤ (c : Int) := by omega
  have p3 : (0 : Int) ≤ (H : Int) := by omega
  have p4 : ¬ (L = c) := by omega
  have p5 : ¬ (c = L) := by omega
  have p6 : (c == L) = false := by rw [beq_eq_false_iff_ne]; omega
  have p7 : (L == c) = false := by rw [beq_eq_false_iff_ne]; omega
  have HHL : Hid (H - L = 2) := by show _ = _; omega
  have hnx2 : nx = (H : Int) := by omega
  have HROW := hid hb0
  have HMEM := hid hm0
  have HPB := hid h.lt
  have HGR := hid hgr
  have HGP := hid hgp
  have HBB := hid hbB
  have HCL := hid hg.cl
  subst hnx2
  clear h hg hk hkn hn hnc hL hnx hb0 hm0 hgr hgp hbB hH
  go_enter Try.func123, Try.ntmps123
  go_upto_region 2 with fail
  go_region_held3 (fun Z => Z.cell? ⟨p, 0, none⟩ = some (.int .i64 (k : Int))) (go_keep) (first | (go_at_call 93; refine (HA.out _).mono ?_; rintro e w6 ⟨rfl, rfl⟩) | fail)
  rw [HHL.out]
  have c0 : w.drew.cell? ⟨p, 0, none⟩ = some (.int .i64 k) := c0
  go_upto_region 3 with fail
  go_region_held3 (fun Z => Z.cell? ⟨p, 0, none⟩ = some (.int .i64 (k : Int))) (go_keep) (first | (go_at_call 93; refine (HA.out _).mono ?_; rintro e w6 ⟨rfl, rfl⟩) | fail)
  have HROW2 : Hid (w.drew.drew.heap[p]? = some (.cells (lineS m (.slice (some ⟨gr, 0, none⟩) 24 cr) (.slice a2 m.cells.length c2)) 28 (0, 0))) := HROW.out
  have HMEM2 : Hid (MemO B w.drew.drew p (.slice (some ⟨gr, 0, none⟩) 24 cr) (.slice a2 m.cells.length c2) m) := HMEM.out.heap rfl
  have HB : Hid (Below B w w.drew.drew) := (Below.refl B w).drew.drew
  have y0 : w.drew.drew.cell? ⟨b, off + L, none⟩ = some (.int .i64 ((i0 : Nat) : Int)) := h1
  have y1 : w.drew.drew.cell? ⟨b, off + L + 1, none⟩ = some (.int .i64 x1) := h2
  have HBL : Hid (p < w.drew.drew.heap.size) := HPB.out.2
  clear HROW HMEM HA c0 h0 h1 h2 Z1 Z1b E1 Z3
  generalize w.drew.drew = W at *
  obtain ⟨-, d1, d2, d3, -, -, -⟩ := RunT.cells HROW2.out
  have ri0 : ((i0 : Nat) : Int) < 24 := by omega
  have rz0 : (0 : Int) ≤ ((i0 : Nat) : Int) := by omega
  obtain ⟨rc0, rf0⟩ := HMEM2.out.rcell r0
  have ev : (m.stk.getD i0 0 == 65535) = false := by simpa using hv
  clear hv
  generalize m.stk.getD i0 0 = u at *
  go_upto_region 35 with fail
  go_region
  have HRZ0 : Hid (RunT B (W.drew) p (m)) := ⟨_, _, HROW2.out, HMEM2.out.heap rfl⟩
  have HBZ0 : Hid (Below B w (W.drew)) := HB.out.drew
  clear HROW2 HMEM2 HB rc0 rf0 y0 y1 d1 d2 d3
  generalize W.drew = WZ at *
  have HRZ := HRZ0
  have HBZ := HBZ0
  obtain ⟨svz, cvz, hbz, _⟩ := id HRZ.out
  have z0 := (RunT.cells hbz).1
  have zf := frozen_of_row _ _ 0 _ _ hbz
  have HF : Hid (RunT B (WZ.setCell ⟨p, 0, none⟩ (.int .i64 (H : Int))) p (atP (m) (H : Int))) := HRZ.out.fld (m' := atP (m) (H : Int)) 0 _ (fun _ _ => rfl) rfl rfl
  have HPZ := HRZ.out.lt.1
  clear hbz
  go_wp2_with fail
  go_ret
  first | exact ⟨rfl, fun _ => HF.out, HBZ.out.setCell HPZ _⟩ | exact ⟨rfl, HF.out, HBZ.out.setCell HPZ _⟩
end Go.Proofs.Ytcikofhbfncgdaa
