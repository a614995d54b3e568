/-
  spec's l10Do: op 4.
-/
import Derived.Test.YtcikofhbfncgdaaRgDo102
namespace Go.Proofs.Ytcikofhbfncgdaa
open Go.RowKit
set_option linter.unusedVariables false
attribute [local go_sem ↓] Go.wp_at_zero Go.wp_at_succ

set_option maxHeartbeats 3200000 in
set_option maxRecDepth 100000 in
theorem rdo_3 (B p b off n c k L i0 i1 : Nat) (m : SM) (nx : Int) (w : World) (h : RunT B w p m) (hg : RGood m) (hk : m.pc = k) (hkn : k + 2 < n) (hn : n ≤ 400) (hnc : n ≤ c) (hbB : b < B) (hL : L = k + 1) (hnx : nx = (k : Int) + 1 + 2) (h0 : w.cell? ⟨b, off + k, none⟩ = some (.int .i64 3)) (h1 : w.cell? ⟨b, off + L, none⟩ = some (.int .i64 ((i0 : Nat) : Int))) (h2 : w.cell? ⟨b, off + L + 1, none⟩ = some (.int .i64 ((i1 : Nat) : Int))) (r0 : i0 < m.cells.length) (r1 : i1 < 24) :
    Calls Try.prog 123 #[.slice (some ⟨b, off, none⟩) n c, .pointer (some ⟨p, 0, none⟩)] w fun e w' => e = .returned (.int .i64 0) ∧ (0 = 0 → RunT B w' p (atP (stc m i0 (m.stk.getD i1 0)) nx)) ∧ Below B w w' := by
  have HA : Hid (∀ W, Calls Try.prog 93 #[.int .i64 3] W fun e w' => e = .returned (.int .i64 2) ∧ w' = W) := fun W => l10Args_any 3 W
  obtain ⟨gr, cr, a2, c2, hb0, hm0, hgr, hgp⟩ := h.rows hg.rl
  obtain ⟨c0, -⟩ := RunT.cells hb0
  rw [hk] at c0
  have q0 : (0 : Int) ≤ (k : Int) := by omega
  have q1 : (k : Int) < (n : Int) := by omega
  have E1 : (k : Int) + 1 = (L : Int) := by omega
  have Z1 : IntKind.i64.wrap ((k : Int) + 1) = (L : Int) := by rw [IntWalk.i64_in _ ⟨by omega, by omega⟩]; omega
  have Z1b : IntKind.i64.wrap (L : Int) = (L : Int) := IntWalk.i64_in _ ⟨by omega, by omega⟩
  obtain ⟨H, hH⟩ : ∃ H : Nat, H = L + 2 := ⟨_, rfl⟩
  have Z3 : IntKind.i64.wrap ((L : Int) + 2) = (H : Int) := by rw [IntWalk.i64_in _ ⟨by omega, by omega⟩]; omega
  have p0 : (0 : Int) ≤ (L : Int) := by omega
  have p1 : (L : Int) ≤ (H : Int) := by omega
  have p2 : (H : Int) ≤ (c : Int) := by omega
  have p3 : (0 : Int) ≤ (H : Int) := by omega
  have p4 : ¬ (L = c) := by omega
  have p5 : ¬ (c = L) := by omega
  have p6 : (c == L) = false := by rw [beq_eq_false_iff_ne]; omega
  have p7 : (L == c) = false := by rw [beq_eq_false_iff_ne]; omega
  have HHL : Hid (H - L = 2) := by show _ = _; omega
  have hnx2 : nx = (H : Int) := by omega
  have HROW := hid hb0
  have HMEM := hid hm0
  have HPB := hid h.lt
  have HGR := hid hgr
  have HGP := hid hgp
  have HBB := hid hbB
  have HCL := hid hg.cl
  subst hnx2
  generalize hzz : m.stk.getD i1 0 = z
  have HZZ := hid hzz
  clear hzz
  clear h hg hk hkn hn hnc hL hnx hb0 hm0 hgr hgp hbB hH
  go_enter Try.func123, Try.ntmps123
  go_upto_region 2 with fail
  go_region_held3 (fun Z => Z.cell? ⟨p, 0, none⟩ = some (.int .i64 (k : Int))) (go_keep) (first | (go_at_call 93; refine (HA.out _).mono ?_; rintro e w6 ⟨rfl, rfl⟩) | fail)
  rw [HHL.out]
  have c0 : w.drew.cell? ⟨p, 0, none⟩ = some (.int .i64 k) := c0
  go_upto_region 3 with fail
  go_region_held3 (fun Z => Z.cell? ⟨p, 0, none⟩ = some (.int .i64 (k : Int))) (go_keep) (first | (go_at_call 93; refine (HA.out _).mono ?_; rintro e w6 ⟨rfl, rfl⟩) | fail)
  have HROW2 : Hid (w.drew.drew.heap[p]? = some (.cells (lineS m (.slice (some ⟨gr, 0, none⟩) 24 cr) (.slice a2 m.cells.length c2)) 28 (0, 0))) := HROW.out
  have HMEM2 : Hid (MemO B w.drew.drew p (.slice (some ⟨gr, 0, none⟩) 24 cr) (.slice a2 m.cells.length c2) m) := HMEM.out.heap rfl
  have HB : Hid (Below B w w.drew.drew) := (Below.refl B w).drew.drew
  have y0 : w.drew.drew.cell? ⟨b, off + L, none⟩ = some (.int .i64 ((i0 : Nat) : Int)) := h1
  have y1 : w.drew.drew.cell? ⟨b, off + L + 1, none⟩ = some (.int .i64 ((i1 : Nat) : Int)) := h2
  have HBL : Hid (p < w.drew.drew.heap.size) := HPB.out.2
  clear HROW HMEM HA c0 h0 h1 h2 Z1 Z1b E1 Z3
  generalize w.drew.drew = W at *
  obtain ⟨-, d1, d2, d3, -, -, -⟩ := RunT.cells HROW2.out
  have ri1 : ((i1 : Nat) : Int) < 24 := by omega
  have rz1 : (0 : Int) ≤ ((i1 : Nat) : Int) := by omega
  obtain ⟨rc1, rf1⟩ := HMEM2.out.rcell r1
  have rj0 : ((i0 : Nat) : Int) < (m.cells.length : Int) := by omega
  have rz0 : (0 : Int) ≤ ((i0 : Nat) : Int) := by omega
  obtain ⟨gc, hgc, cc0, cf0, hgcB⟩ := HMEM2.out.ccell r0
  have HGC := hid hgcB
  have HA2 := hid hgc
  subst hgc
  generalize hnc2 : m.cells.length = nc at *
  rw [HZZ.out] at rc1
  clear HZZ
  generalize m.cells.getD i0 0 = z0 at *
  clear r0
  go_upto_region 10 with fail
  go_region
  have HRZ0 : Hid (RunT B ((W.setCell ⟨gc, i0, none⟩ (.int .i64 z)).drew) p (stc m i0 z)) := (RunT.cel HROW2.out HMEM2.out _).heap rfl
  have HBZ0 : Hid (Below B w ((W.setCell ⟨gc, i0, none⟩ (.int .i64 z)).drew)) := (HB.out.setCell (p := ⟨gc, i0, none⟩) HGC.out _).drew
  clear HROW2 HMEM2 HB rc1 rf1 y0 y1 d1 d2 d3 cc0 cf0
  generalize (W.setCell ⟨gc, i0, none⟩ (.int .i64 z)).drew = WZ at *
  have HRZ := HRZ0
  have HBZ := HBZ0
  obtain ⟨svz, cvz, hbz, _⟩ := id HRZ.out
  have z0 := (RunT.cells hbz).1
  have zf := frozen_of_row _ _ 0 _ _ hbz
  have HF : Hid (RunT B (WZ.setCell ⟨p, 0, none⟩ (.int .i64 (H : Int))) p (atP (stc m i0 z) (H : Int))) := HRZ.out.fld (m' := atP (stc m i0 z) (H : Int)) 0 _ (fun _ _ => rfl) rfl rfl
  have HPZ := HRZ.out.lt.1
  clear hbz
  go_wp2_with fail
  go_ret
  first | exact ⟨rfl, fun _ => HF.out, HBZ.out.setCell HPZ _⟩ | exact ⟨rfl, HF.out, HBZ.out.setCell HPZ _⟩
end Go.Proofs.Ytcikofhbfncgdaa
namespace Go.Proofs.Ytcikofhbfncgdaa
open Go.RowKit
set_option linter.unusedVariables false
attribute [local go_sem ↓] Go.wp_at_zero Go.wp_at_succ

set_option maxHeartbeats 3200000 in
set_option maxRecDepth 100000 in
theorem rdo_4 (B p b off n c k L i0 i1 : Nat) (m : SM) (x2 x3 nx : Int) (w : World) (h : RunT B w p m) (hg : RGood m) (hk : m.pc = k) (hkn : k + 4 < n) (hn : n ≤ 400) (hnc : n ≤ c) (hbB : b < B) (hL : L = k + 1) (hnx : nx = (k : Int) + 1 + 4) (h0 : w.cell? ⟨b, off + k, none⟩ = some (.int .i64 4)) (h1 : w.cell? ⟨b, off + L, none⟩ = some (.int .i64 ((i0 : Nat) : Int))) (h2 : w.cell? ⟨b, off + L + 1, none⟩ = some (.int .i64 ((i1 : Nat) : Int))) (h3 : w.cell? ⟨b, off + L + 2, none⟩ = some (.int .i64 x2)) (h4 : w.cell? ⟨b, off + L + 3, none⟩ = some (.int .i64 x3)) (r0 : i0 < 24) (r1 : i1 < 24) (C V : Int) (hC : itC m.cells.length x2 x3 (cm (m.stk.getD i1 0)) = C) (hV : itV m.cells.length x2 x3 (cm (m.stk.getD i1 0)) = V) (g0 : 0 ≤ x2) (g1 : x2 ≤ 65535) (g2 : 0 ≤ x3) (g3 : x3 ≤ 65535) :
    Calls Try.prog 123 #[.slice (some ⟨b, off, none⟩) n c, .pointer (some ⟨p, 0, none⟩)] w fun e w' => e = .returned (.int .i64 C) ∧ (C = 0 → RunT B w' p (atP (str m i0 (m.cells.getD V.toNat 0)) nx)) ∧ Below B w w' := by
  have HA : Hid (∀ W, Calls Try.prog 93 #[.int .i64 4] W fun e w' => e = .returned (.int .i64 4) ∧ w' = W) := fun W => l10Args_any 4 W
  obtain ⟨gr, cr, a2, c2, hb0, hm0, hgr, hgp⟩ := h.rows hg.rl
  obtain ⟨c0, -⟩ := RunT.cells hb0
  rw [hk] at c0
  have q0 : (0 : Int) ≤ (k : Int) := by omega
  have q1 : (k : Int) < (n : Int) := by omega
  have E1 : (k : Int) + 1 = (L : Int) := by omega
  have Z1 : IntKind.i64.wrap ((k : Int) + 1) = (L : Int) := by rw [IntWalk.i64_in _ ⟨by omega, by omega⟩]; omega
  have Z1b : IntKind.i64.wrap (L : Int) = (L : Int) := IntWalk.i64_in _ ⟨by omega, by omega⟩
  obtain ⟨H, hH⟩ : ∃ H : Nat, H = L + 4 := ⟨_, rfl⟩
  have Z3 : IntKind.i64.wrap ((L : Int) + 4) = (H : Int) := by rw [IntWalk.i64_in _ ⟨by omega, by omega⟩]; omega
  have p0 : (0 : Int) ≤ (L : Int) := by omega
  have p1 : (L : Int) ≤ (H : Int) := by omega
  have p2 : (H : Int) ≤ (c : Int) := by omega
  have p3 : (0 : Int) ≤ (H : Int) := by omega
  have p4 : ¬ (L = c) := by omega
  have p5 : ¬ (c = L) := by omega
  have p6 : (c == L) = false := by rw [beq_eq_false_iff_ne]; omega
  have p7 : (L == c) = false := by rw [beq_eq_false_iff_ne]; omega
  have HHL : Hid (H - L = 4) := by show _ = _; omega
  have hnx2 : nx = (H : Int) := by omega
  have HROW := hid hb0
  have HMEM := hid hm0
  have HPB := hid h.lt
  have HGR := hid hgr
  have HGP := hid hgp
  have HBB := hid hbB
  have HCL := hid hg.cl
  subst hnx2
  have HV : Hid (C = 0 → 0 ≤ V ∧ V < m.cells.length) := fun h => by rw [← hV]; exact itV_of g0 (hC.trans h)
  have HRO : Hid (∀ W' sv cv, W'.heap[p]? = some (.cells (lineS m sv cv) 28 (0, 0)) → MemO B W' p sv cv m → Calls Try.prog 146 #[.pointer (some ⟨p, 0, none⟩), .int .i64 x2, .int .i64 x3, .int .i64 (m.stk.getD i1 0)] W' fun e w' => e = .returned (.tuple #[.int .i64 V, .int .i64 C]) ∧ w' = W') := fun W' sv cv h1 h2 => by
    have := l10Row_any p m sv cv x2 x3 (m.stk.getD i1 0) W' h1 (own_row h2.cs) hg.cl g0 g1 g2 g3
    rw [hC, hV] at this
    exact this
  clear hC hV g0 g1 g2 g3
  clear h hg hk hkn hn hnc hL hnx hb0 hm0 hgr hgp hbB hH
  go_enter Try.func123, Try.ntmps123
  go_upto_region 2 with fail
  go_region_held3 (fun Z => Z.cell? ⟨p, 0, none⟩ = some (.int .i64 (k : Int))) (go_keep) (first | (go_at_call 93; refine (HA.out _).mono ?_; rintro e w6 ⟨rfl, rfl⟩) | fail)
  rw [HHL.out]
  have c0 : w.drew.cell? ⟨p, 0, none⟩ = some (.int .i64 k) := c0
  go_upto_region 3 with fail
  go_region_held3 (fun Z => Z.cell? ⟨p, 0, none⟩ = some (.int .i64 (k : Int))) (go_keep) (first | (go_at_call 93; refine (HA.out _).mono ?_; rintro e w6 ⟨rfl, rfl⟩) | fail)
  have HROW2 : Hid (w.drew.drew.heap[p]? = some (.cells (lineS m (.slice (some ⟨gr, 0, none⟩) 24 cr) (.slice a2 m.cells.length c2)) 28 (0, 0))) := HROW.out
  have HMEM2 : Hid (MemO B w.drew.drew p (.slice (some ⟨gr, 0, none⟩) 24 cr) (.slice a2 m.cells.length c2) m) := HMEM.out.heap rfl
  have HB : Hid (Below B w w.drew.drew) := (Below.refl B w).drew.drew
  have y0 : w.drew.drew.cell? ⟨b, off + L, none⟩ = some (.int .i64 ((i0 : Nat) : Int)) := h1
  have y1 : w.drew.drew.cell? ⟨b, off + L + 1, none⟩ = some (.int .i64 ((i1 : Nat) : Int)) := h2
  have y2 : w.drew.drew.cell? ⟨b, off + L + 2, none⟩ = some (.int .i64 x2) := h3
  have y3 : w.drew.drew.cell? ⟨b, off + L + 3, none⟩ = some (.int .i64 x3) := h4
  have HBL : Hid (p < w.drew.drew.heap.size) := HPB.out.2
  clear HROW HMEM HA c0 h0 h1 h2 h3 h4 Z1 Z1b E1 Z3
  generalize w.drew.drew = W at *
  obtain ⟨-, d1, d2, d3, -, -, -⟩ := RunT.cells HROW2.out
  have ri0 : ((i0 : Nat) : Int) < 24 := by omega
  have rz0 : (0 : Int) ≤ ((i0 : Nat) : Int) := by omega
  obtain ⟨rc0, rf0⟩ := HMEM2.out.rcell r0
  have ri1 : ((i1 : Nat) : Int) < 24 := by omega
  have rz1 : (0 : Int) ≤ ((i1 : Nat) : Int) := by omega
  obtain ⟨rc1, rf1⟩ := HMEM2.out.rcell r1
  obtain ⟨zr, hzr⟩ : ∃ zr, zr = m.stk.getD i1 0 := ⟨_, rfl⟩
  rw [← hzr] at rc1 HRO
  clear hzr
  go_upto_region 12 with fail
  have HK : Hid (∀ Z : World, Below W.heap.size W Z → Z.cell? ⟨p, 1, none⟩ = some (.slice (some ⟨gr, 0, none⟩) 24 cr) ∧ Z.cell? ⟨gr, i1, none⟩ = some (.int .i64 zr) ∧ Z.cell? ⟨b, off + L, none⟩ = some (.int .i64 ((i0 : Nat) : Int)) ∧ Z.cell? ⟨b, off + L + 1, none⟩ = some (.int .i64 ((i1 : Nat) : Int)) ∧ Z.cell? ⟨b, off + L + 2, none⟩ = some (.int .i64 x2) ∧ Z.cell? ⟨b, off + L + 3, none⟩ = some (.int .i64 x3) ∧ Below W.heap.size W Z) := fun Z hz => ⟨(hz.cell (p := ⟨p, 1, none⟩) (World.block_lt_of_cell? _ _ d1)).trans d1, (hz.cell (p := ⟨gr, i1, none⟩) (World.block_lt_of_cell? _ _ rc1)).trans rc1, (hz.cell (p := ⟨b, off + L, none⟩) (World.block_lt_of_cell? _ _ y0)).trans y0, (hz.cell (p := ⟨b, off + L + 1, none⟩) (World.block_lt_of_cell? _ _ y1)).trans y1, (hz.cell (p := ⟨b, off + L + 2, none⟩) (World.block_lt_of_cell? _ _ y2)).trans y2, (hz.cell (p := ⟨b, off + L + 3, none⟩) (World.block_lt_of_cell? _ _ y3)).trans y3, hz⟩
  have HK1 : Hid (Below W.heap.size W W) := Below.refl _ _
  have HRZ9 : Hid (∀ Z : World, Below W.heap.size W Z → Calls Try.prog 146 #[.pointer (some ⟨p, 0, none⟩), .int .i64 x2, .int .i64 x3, .int .i64 zr] Z fun e w' => e = .returned (.tuple #[.int .i64 V, .int .i64 C]) ∧ w' = Z) := fun Z hz => HRO.out Z _ _ (blk8 HROW2.out hz) (HMEM2.out.of (fun g hg _ => hz.block g hg) rfl rfl)
  go_region_held3 (fun Z => Z.cell? ⟨p, 1, none⟩ = some (.slice (some ⟨gr, 0, none⟩) 24 cr) ∧ Z.cell? ⟨gr, i1, none⟩ = some (.int .i64 zr) ∧ Z.cell? ⟨b, off + L, none⟩ = some (.int .i64 ((i0 : Nat) : Int)) ∧ Z.cell? ⟨b, off + L + 1, none⟩ = some (.int .i64 ((i1 : Nat) : Int)) ∧ Z.cell? ⟨b, off + L + 2, none⟩ = some (.int .i64 x2) ∧ Z.cell? ⟨b, off + L + 3, none⟩ = some (.int .i64 x3) ∧ Below W.heap.size W Z) ((refine HK.out _ ?_; repeat' first | assumption | exact HK1.out | exact last7 (by assumption) | refine Below.drew ?_)) (first | (go_at_call 146; refine (HRZ9.out _ (last7 (by assumption))).mono ?_; rintro e w6 ⟨rfl, rfl⟩) | fail)
  clear HK HK1 HRZ9
  have HROW3 : Hid (W.drew.heap[p]? = some (.cells (lineS m (.slice (some ⟨gr, 0, none⟩) 24 cr) (.slice a2 m.cells.length c2)) 28 (0, 0))) := HROW2.out
  have HMEM3 : Hid (MemO B W.drew p (.slice (some ⟨gr, 0, none⟩) 24 cr) (.slice a2 m.cells.length c2) m) := HMEM2.out.heap rfl
  have HB3 : Hid (Below B w W.drew) := HB.out.drew
  have y0 : W.drew.cell? ⟨b, off + L, none⟩ = some (.int .i64 ((i0 : Nat) : Int)) := y0
  have y1 : W.drew.cell? ⟨b, off + L + 1, none⟩ = some (.int .i64 ((i1 : Nat) : Int)) := y1
  clear HROW2 HMEM2 HB d1 d2 d3 y2 y3 HRO rc0 rf0 rc1 rf1
  generalize W.drew = W3 at *
  obtain ⟨-, d1, d2, d3, -, -, -⟩ := RunT.cells HROW3.out
  obtain ⟨rc0, rf0⟩ := HMEM3.out.rcell r0
  obtain ⟨rc1, rf1⟩ := HMEM3.out.rcell r1
  by_cases hc0 : C = 0
  case neg =>
    have eC : (C != 0) = true := by simpa using hc0
    have HC0 := hid hc0
    clear hc0 HV HROW3 HMEM3 rc0 rf0 rc1 rf1 y0 y1 d1 d2 d3
    go_wp2_with fail
    go_ret
    exact ⟨rfl, fun h => absurd h HC0.out, HB3.out⟩
  obtain ⟨hv0, hv1⟩ := HV.out hc0
  obtain ⟨t, ht⟩ := Int.eq_ofNat_of_zero_le hv0
  have htc : t < m.cells.length := by omega
  obtain ⟨gc, hgc, cc, cf, hgcB⟩ := HMEM3.out.ccell htc
  have HGC := hid hgcB
  subst hgc
  subst hc0 ht
  have t0 : (0 : Int) ≤ (t : Int) := by omega
  have t1 : (t : Int) < (m.cells.length : Int) := by omega
  clear HV hv0 hv1 htc
  generalize hnc2 : m.cells.length = nc at *
  obtain ⟨zt, hzt⟩ : ∃ zt, zt = m.cells.getD t 0 := ⟨_, rfl⟩
  rw [← hzt] at cc
  have HZT := hid hzt
  clear hzt
  generalize m.stk.getD i0 0 = z0 at *
  go_upto_region 15 with fail
  go_region
  have HRZ0 : Hid (RunT B ((W3.setCell ⟨gr, i0, none⟩ (.int .i64 zt)).drew) p (str m i0 zt)) := (RunT.reg HROW3.out HMEM3.out _).heap rfl
  have HBZ0 : Hid (Below B w ((W3.setCell ⟨gr, i0, none⟩ (.int .i64 zt)).drew)) := (HB3.out.setCell (p := ⟨gr, i0, none⟩) HGR.out _).drew
  clear HROW3 HMEM3 HB3 rc0 rf0 rc1 rf1 y0 y1 d1 d2 d3 cc cf
  generalize (W3.setCell ⟨gr, i0, none⟩ (.int .i64 zt)).drew = WZ at *
  have HRZ := HRZ0
  have HBZ := HBZ0
  obtain ⟨svz, cvz, hbz, _⟩ := id HRZ.out
  have z0 := (RunT.cells hbz).1
  have zf := frozen_of_row _ _ 0 _ _ hbz
  have HF : Hid (RunT B (WZ.setCell ⟨p, 0, none⟩ (.int .i64 (H : Int))) p (atP (str m i0 zt) (H : Int))) := HRZ.out.fld (m' := atP (str m i0 zt) (H : Int)) 0 _ (fun _ _ => rfl) rfl rfl
  have HPZ := HRZ.out.lt.1
  clear hbz
  go_wp2_with fail
  go_ret
  have hF := HF.out
  rw [HZT.out] at hF
  first | exact ⟨rfl, fun _ => hF, HBZ.out.setCell HPZ _⟩ | exact ⟨rfl, hF, HBZ.out.setCell HPZ _⟩
end Go.Proofs.Ytcikofhbfncgdaa
