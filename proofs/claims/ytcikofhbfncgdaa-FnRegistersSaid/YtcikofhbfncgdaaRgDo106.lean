/-
  spec's l10Do: op 6.
-/
import Derived.Test.YtcikofhbfncgdaaRgDo102
namespace Go.Proofs.Ytcikofhbfncgdaa
open Go.RowKit
set_option linter.unusedVariables false
attribute [local go_sem ↓] Go.wp_at_zero Go.wp_at_succ

set_option maxHeartbeats 3200000 in
set_option maxRecDepth 100000 in
theorem rdo_5 (B p b off n c k L i0 i1 : Nat) (m : SM) (x2 x3 nx : Int) (w : World) (h : RunT B w p m) (hg : RGood m) (hk : m.pc = k) (hkn : k + 4 < n) (hn : n ≤ 400) (hnc : n ≤ c) (hbB : b < B) (hL : L = k + 1) (hnx : nx = (k : Int) + 1 + 4) (h0 : w.cell? ⟨b, off + k, none⟩ = some (.int .i64 5)) (h1 : w.cell? ⟨b, off + L, none⟩ = some (.int .i64 ((i0 : Nat) : Int))) (h2 : w.cell? ⟨b, off + L + 1, none⟩ = some (.int .i64 ((i1 : Nat) : Int))) (h3 : w.cell? ⟨b, off + L + 2, none⟩ = some (.int .i64 x2)) (h4 : w.cell? ⟨b, off + L + 3, none⟩ = some (.int .i64 x3)) (r0 : i0 < 24) (r1 : i1 < 24) (C V : Int) (hC : itC m.cells.length x2 x3 (cm (m.stk.getD i0 0)) = C) (hV : itV m.cells.length x2 x3 (cm (m.stk.getD i0 0)) = V) (g0 : 0 ≤ x2) (g1 : x2 ≤ 65535) (g2 : 0 ≤ x3) (g3 : x3 ≤ 65535) :
    Calls Try.prog 123 #[.slice (some ⟨b, off, none⟩) n c, .pointer (some ⟨p, 0, none⟩)] w fun e w' => e = .returned (.int .i64 C) ∧ (C = 0 → RunT B w' p (atP (stc m V (m.stk.getD i1 0)) nx)) ∧ Below B w w' := by
  have HA : Hid (∀ W, Calls Try.prog 93 #[.int .i64 5] W fun e w' => e = .returned (.int .i64 4) ∧ w' = W) := fun W => l10Args_any 5 W
  obtain ⟨gr, cr, a2, c2, hb0, hm0, hgr, hgp⟩ := h.rows hg.rl
  obtain ⟨c0, -⟩ := RunT.cells hb0
  rw [hk] at c0
  have q0 : (0 : Int) ≤ (k : Int) := by omega
  have q1 : (k : Int) < (n : Int) := by omega
  have E1 : (k : Int) + 1 = (L : Int) := by omega
  have Z1 : IntKind.i64.wrap ((k : Int) + 1) = (L : Int) := by rw [IntWalk.i64_in _ ⟨by omega, by omega⟩]; omega
  have Z1b : IntKind.i64.wrap (L : Int) = (L : Int) := IntWalk.i64_in _ ⟨by omega, by omega⟩
  obtain ⟨H, hH⟩ : ∃ H : Nat, H = L + 4 := ⟨_, rfl⟩
  have Z3 : IntKind.i64.wrap ((L : Int) + 4) = (H : Int) := by rw [IntWalk.i64_in _ ⟨by omega, by omega⟩]; omega
  have p0 : (0 : Int) ≤ (L : Int) := by omega
  have p1 : (L : Int) ≤ (H : Int) := by omega
  have p2 : (H : Int) ≤ (c : Int) := by omega
  have p3 : (0 : Int) ≤ (H : Int) := by omega
  have p4 : ¬ (L = c) := by omega
  have p5 : ¬ (c = L) := by omega
  have p6 : (c == L) = false := by rw [beq_eq_false_iff_ne]; omega
  have p7 : (L == c) = false := by rw [beq_eq_false_iff_ne]; omega
  have HHL : Hid (H - L = 4) := by show _ = _; omega
  have hnx2 : nx = (H : Int) := by omega
  have HROW := hid hb0
  have HMEM := hid hm0
  have HPB := hid h.lt
  have HGR := hid hgr
  have HGP := hid hgp
  have HBB := hid hbB
  have HCL := hid hg.cl
  subst hnx2
  have HV : Hid (C = 0 → 0 ≤ V ∧ V < m.cells.length) := fun h => by rw [← hV]; exact itV_of g0 (hC.trans h)
  have HRO : Hid (∀ W' sv cv, W'.heap[p]? = some (.cells (lineS m sv cv) 28 (0, 0)) → MemO B W' p sv cv m → Calls Try.prog 146 #[.pointer (some ⟨p, 0, none⟩), .int .i64 x2, .int .i64 x3, .int .i64 (m.stk.getD i0 0)] W' fun e w' => e = .returned (.tuple #[.int .i64 V, .int .i64 C]) ∧ w' = W') := fun W' sv cv h1 h2 => by
    have := l10Row_any p m sv cv x2 x3 (m.stk.getD i0 0) W' h1 (own_row h2.cs) hg.cl g0 g1 g2 g3
    rw [hC, hV] at this
    exact this
  generalize hzz : m.stk.getD i1 0 = z1
  have HZZ := hid hzz
  clear hC hV g0 g1 g2 g3 hzz
  clear h hg hk hkn hn hnc hL hnx hb0 hm0 hgr hgp hbB hH
  go_enter Try.func123, Try.ntmps123
  go_upto_region 2 with fail
  go_region_held3 (fun Z => Z.cell? ⟨p, 0, none⟩ = some (.int .i64 (k : Int))) (go_keep) (first | (go_at_call 93; refine (HA.out _).mono ?_; rintro e w6 ⟨rfl, rfl⟩) | fail)
  rw [HHL.out]
  have c0 : w.drew.cell? ⟨p, 0, none⟩ = some (.int .i64 k) := c0
  go_upto_region 3 with fail
  go_region_held3 (fun Z => Z.cell? ⟨p, 0, none⟩ = some (.int .i64 (k : Int))) (go_keep) (first | (go_at_call 93; refine (HA.out _).mono ?_; rintro e w6 ⟨rfl, rfl⟩) | fail)
  have HROW2 : Hid (w.drew.drew.heap[p]? = some (.cells (lineS m (.slice (some ⟨gr, 0, none⟩) 24 cr) (.slice a2 m.cells.length c2)) 28 (0, 0))) := HROW.out
  have HMEM2 : Hid (MemO B w.drew.drew p (.slice (some ⟨gr, 0, none⟩) 24 cr) (.slice a2 m.cells.length c2) m) := HMEM.out.heap rfl
  have HB : Hid (Below B w w.drew.drew) := (Below.refl B w).drew.drew
  have y0 : w.drew.drew.cell? ⟨b, off + L, none⟩ = some (.int .i64 ((i0 : Nat) : Int)) := h1
  have y1 : w.drew.drew.cell? ⟨b, off + L + 1, none⟩ = some (.int .i64 ((i1 : Nat) : Int)) := h2
  have y2 : w.drew.drew.cell? ⟨b, off + L + 2, none⟩ = some (.int .i64 x2) := h3
  have y3 : w.drew.drew.cell? ⟨b, off + L + 3, none⟩ = some (.int .i64 x3) := h4
  have HBL : Hid (p < w.drew.drew.heap.size) := HPB.out.2
  clear HROW HMEM HA c0 h0 h1 h2 h3 h4 Z1 Z1b E1 Z3
  generalize w.drew.drew = W at *
  obtain ⟨-, d1, d2, d3, -, -, -⟩ := RunT.cells HROW2.out
  have ri0 : ((i0 : Nat) : Int) < 24 := by omega
  have rz0 : (0 : Int) ≤ ((i0 : Nat) : Int) := by omega
  obtain ⟨rc0, rf0⟩ := HMEM2.out.rcell r0
  have ri1 : ((i1 : Nat) : Int) < 24 := by omega
  have rz1 : (0 : Int) ≤ ((i1 : Nat) : Int) := by omega
  obtain ⟨rc1, rf1⟩ := HMEM2.out.rcell r1
  obtain ⟨zr, hzr⟩ : ∃ zr, zr = m.stk.getD i0 0 := ⟨_, rfl⟩
  rw [← hzr] at rc0 HRO
  clear hzr
  go_upto_region 17 with fail
  have HK : Hid (∀ Z : World, Below W.heap.size W Z → Z.cell? ⟨p, 1, none⟩ = some (.slice (some ⟨gr, 0, none⟩) 24 cr) ∧ Z.cell? ⟨gr, i0, none⟩ = some (.int .i64 zr) ∧ Z.cell? ⟨b, off + L, none⟩ = some (.int .i64 ((i0 : Nat) : Int)) ∧ Z.cell? ⟨b, off + L + 1, none⟩ = some (.int .i64 ((i1 : Nat) : Int)) ∧ Z.cell? ⟨b, off + L + 2, none⟩ = some (.int .i64 x2) ∧ Z.cell? ⟨b, off + L + 3, none⟩ = some (.int .i64 x3) ∧ Below W.heap.size W Z) := fun Z hz => ⟨(hz.cell (p := ⟨p, 1, none⟩) (World.block_lt_of_cell? _ _ d1)).trans d1, (hz.cell (p := ⟨gr, i0, none⟩) (World.block_lt_of_cell? _ _ rc0)).trans rc0, (hz.cell (p := ⟨b, off + L, none⟩) (World.block_lt_of_cell? _ _ y0)).trans y0, (hz.cell (p := ⟨b, off + L + 1, none⟩) (World.block_lt_of_cell? _ _ y1)).trans y1, (hz.cell (p := ⟨b, off + L + 2, none⟩) (World.block_lt_of_cell? _ _ y2)).trans y2, (hz.cell (p := ⟨b, off + L + 3, none⟩) (World.block_lt_of_cell? _ _ y3)).trans y3, hz⟩
  have HK1 : Hid (Below W.heap.size W W) := Below.refl _ _
  have HRZ9 : Hid (∀ Z : World, Below W.heap.size W Z → Calls Try.prog 146 #[.pointer (some ⟨p, 0, none⟩), .int .i64 x2, .int .i64 x3, .int .i64 zr] Z fun e w' => e = .returned (.tuple #[.int .i64 V, .int .i64 C]) ∧ w' = Z) := fun Z hz => HRO.out Z _ _ (blk8 HROW2.out hz) (HMEM2.out.of (fun g hg _ => hz.block g hg) rfl rfl)
  go_region_held3 (fun Z => Z.cell? ⟨p, 1, none⟩ = some (.slice (some ⟨gr, 0, none⟩) 24 cr) ∧ Z.cell? ⟨gr, i0, none⟩ = some (.int .i64 zr) ∧ Z.cell? ⟨b, off + L, none⟩ = some (.int .i64 ((i0 : Nat) : Int)) ∧ Z.cell? ⟨b, off + L + 1, none⟩ = some (.int .i64 ((i1 : Nat) : Int)) ∧ Z.cell? ⟨b, off + L + 2, none⟩ = some (.int .i64 x2) ∧ Z.cell? ⟨b, off + L + 3, none⟩ = some (.int .i64 x3) ∧ Below W.heap.size W Z) ((refine HK.out _ ?_; repeat' first | assumption | exact HK1.out | exact last7 (by assumption) | refine Below.drew ?_)) (first | (go_at_call 146; refine (HRZ9.out _ (last7 (by assumption))).mono ?_; rintro e w6 ⟨rfl, rfl⟩) | fail)
  clear HK HK1 HRZ9
  have HROW3 : Hid (W.drew.heap[p]? = some (.cells (lineS m (.slice (some ⟨gr, 0, none⟩) 24 cr) (.slice a2 m.cells.length c2)) 28 (0, 0))) := HROW2.out
  have HMEM3 : Hid (MemO B W.drew p (.slice (some ⟨gr, 0, none⟩) 24 cr) (.slice a2 m.cells.length c2) m) := HMEM2.out.heap rfl
  have HB3 : Hid (Below B w W.drew) := HB.out.drew
  have y0 : W.drew.cell? ⟨b, off + L, none⟩ = some (.int .i64 ((i0 : Nat) : Int)) := y0
  have y1 : W.drew.cell? ⟨b, off + L + 1, none⟩ = some (.int .i64 ((i1 : Nat) : Int)) := y1
  clear HROW2 HMEM2 HB d1 d2 d3 y2 y3 HRO rc0 rf0 rc1 rf1
  generalize W.drew = W3 at *
  obtain ⟨-, d1, d2, d3, -, -, -⟩ := RunT.cells HROW3.out
  obtain ⟨rc0, rf0⟩ := HMEM3.out.rcell r0
  obtain ⟨rc1, rf1⟩ := HMEM3.out.rcell r1
  rw [HZZ.out] at rc1
  clear HZZ
  by_cases hc0 : C = 0
  case neg =>
    have eC : (C != 0) = true := by simpa using hc0
    have HC0 := hid hc0
    clear hc0 HV HROW3 HMEM3 rc0 rf0 rc1 rf1 y0 y1 d1 d2 d3
    go_wp2_with fail
    go_ret
    exact ⟨rfl, fun h => absurd h HC0.out, HB3.out⟩
  obtain ⟨hv0, hv1⟩ := HV.out hc0
  obtain ⟨t, ht⟩ := Int.eq_ofNat_of_zero_le hv0
  have htc : t < m.cells.length := by omega
  obtain ⟨gc, hgc, cc, cf, hgcB⟩ := HMEM3.out.ccell htc
  have HGC := hid hgcB
  subst hgc
  subst hc0 ht
  have t0 : (0 : Int) ≤ (t : Int) := by omega
  have t1 : (t : Int) < (m.cells.length : Int) := by omega
  clear HV hv0 hv1 htc
  generalize hnc2 : m.cells.length = nc at *
  obtain ⟨zt, hzt⟩ : ∃ zt, zt = m.cells.getD t 0 := ⟨_, rfl⟩
  rw [← hzt] at cc
  have HZT := hid hzt
  clear hzt
  generalize m.stk.getD i0 0 = z0 at *
  go_upto_region 20 with fail
  go_region
  have HRZ0 : Hid (RunT B ((W3.setCell ⟨gc, t, none⟩ (.int .i64 z1)).drew) p (stc m t z1)) := (RunT.cel HROW3.out HMEM3.out _).heap rfl
  have HBZ0 : Hid (Below B w ((W3.setCell ⟨gc, t, none⟩ (.int .i64 z1)).drew)) := (HB3.out.setCell (p := ⟨gc, t, none⟩) HGC.out _).drew
  clear HROW3 HMEM3 HB3 rc0 rf0 rc1 rf1 y0 y1 d1 d2 d3 cc cf
  generalize (W3.setCell ⟨gc, t, none⟩ (.int .i64 z1)).drew = WZ at *
  have HRZ := HRZ0
  have HBZ := HBZ0
  obtain ⟨svz, cvz, hbz, _⟩ := id HRZ.out
  have z0 := (RunT.cells hbz).1
  have zf := frozen_of_row _ _ 0 _ _ hbz
  have HF : Hid (RunT B (WZ.setCell ⟨p, 0, none⟩ (.int .i64 (H : Int))) p (atP (stc m t z1) (H : Int))) := HRZ.out.fld (m' := atP (stc m t z1) (H : Int)) 0 _ (fun _ _ => rfl) rfl rfl
  have HPZ := HRZ.out.lt.1
  clear hbz
  go_wp2_with fail
  go_ret
  first | exact ⟨rfl, fun _ => HF.out, HBZ.out.setCell HPZ _⟩ | exact ⟨rfl, HF.out, HBZ.out.setCell HPZ _⟩
end Go.Proofs.Ytcikofhbfncgdaa
namespace Go.Proofs.Ytcikofhbfncgdaa
open Go.RowKit
set_option linter.unusedVariables false
attribute [local go_sem ↓] Go.wp_at_zero Go.wp_at_succ

theorem belG {a b c : World} (h : Below a.heap.size a b) (hb : Below b.heap.size b c) : Below a.heap.size a c := h.trans (hb.mono h.size)
theorem belG_al {W Z : World} (h : Below W.heap.size W Z) {o : Obj} : Below W.heap.size W (Z.alloc o) := h.alloc h.size o

theorem belG_set {W Z : World} (h : Below W.heap.size W Z) {x y : Value} : Below W.heap.size W ((Z.setCell ⟨W.heap.size, 0, none⟩ x).setCell ⟨W.heap.size, 1, none⟩ y) := (h.setCell (Nat.le_refl _) _).setCell (Nat.le_refl _) _

set_option maxHeartbeats 6400000 in
set_option maxRecDepth 100000 in
theorem l10Two_any (B p gr cr b o cc i0 i1 i2 : Nat) (m : SM) (cv : Value) (u : Int) (w : World) (hb0 : w.heap[p]? = some (.cells (lineS m (.slice (some ⟨gr, 0, none⟩) 24 cr) cv) 28 (0, 0))) (hm0 : MemO B w p (.slice (some ⟨gr, 0, none⟩) 24 cr) cv m) (hgr : B ≤ gr) (hBw : B ≤ w.heap.size)
    (y0 : w.cell? ⟨b, o, none⟩ = some (.int .i64 ((i0 : Nat) : Int))) (y1 : w.cell? ⟨b, o + 1, none⟩ = some (.int .i64 ((i1 : Nat) : Int))) (y2 : w.cell? ⟨b, o + 2, none⟩ = some (.int .i64 ((i2 : Nat) : Int))) (y3 : w.cell? ⟨b, o + 3, none⟩ = some (.int .i64 u)) (r0 : i0 < 24) (r1 : i1 < 24) (r2 : i2 < 24) (C V : Int) (hC : twoI u (m.stk.getD i2 0) = C) (hV : invV u (m.stk.getD i1 0) (m.stk.getD i2 0) = V) :
    Calls Try.prog 147 #[.pointer (some ⟨p, 0, none⟩), .slice (some ⟨b, o, none⟩) 4 cc] w fun e w' => e = .returned (.int .i64 C) ∧ (C = 0 → RunT B w' p (str m i0 V)) ∧ Below B w w' := by
  obtain ⟨-, d1, -⟩ := RunT.cells hb0
  obtain ⟨rc1, -⟩ := hm0.rcell r1
  obtain ⟨rc2, -⟩ := hm0.rcell r2
  have HI : Hid (∀ W, Calls Try.prog 164 #[.int .i64 u, .int .i64 (m.stk.getD i1 0), .int .i64 (m.stk.getD i2 0)] W fun e w' => e = .returned (resS (invC u (m.stk.getD i2 0)) V) ∧ Below W.heap.size W w') := fun W => by
    have := specInv_any u (m.stk.getD i1 0) (m.stk.getD i2 0) W; rwa [hV] at this
  have HROW := hid hb0
  have HLT : Hid (gr < w.heap.size) := World.block_lt_of_cell? _ _ rc1
  have HMEM := hid hm0
  have HGR := hid hgr
  have HBW := hid hBw
  have HC : Hid (C = if invC u (m.stk.getD i2 0) = 3 then 1 else invC u (m.stk.getD i2 0)) := hC.symm
  have r0i : ((i0 : Nat) : Int) < 24 := by omega
  have r1i : ((i1 : Nat) : Int) < 24 := by omega
  have r2i : ((i2 : Nat) : Int) < 24 := by omega
  have s0i : (0 : Int) ≤ ((i0 : Nat) : Int) := by omega
  have s1i : (0 : Int) ≤ ((i1 : Nat) : Int) := by omega
  have s2i : (0 : Int) ≤ ((i2 : Nat) : Int) := by omega
  have HR0 := hid r0
  generalize invC u (m.stk.getD i2 0) = D at *
  generalize m.stk.getD i1 0 = z1 at *
  generalize m.stk.getD i2 0 = z2 at *
  have hS0 : Below w.heap.size w w := Below.refl _ _
  have HCC : Hid (∀ Z, Below w.heap.size w Z → Z.cell? ⟨p, 1, none⟩ = some (.slice (some ⟨gr, 0, none⟩) 24 cr) ∧ Z.cell? ⟨gr, i1, none⟩ = some (.int .i64 z1) ∧ Z.cell? ⟨gr, i2, none⟩ = some (.int .i64 z2) ∧ Z.cell? ⟨b, o + 1, none⟩ = some (.int .i64 ((i1 : Nat) : Int)) ∧ Z.cell? ⟨b, o + 2, none⟩ = some (.int .i64 ((i2 : Nat) : Int)) ∧ Z.cell? ⟨b, o + 3, none⟩ = some (.int .i64 u)) := by
    have D1 := hid d1
    have R1 := hid rc1
    have R2 := hid rc2
    have Y1 := hid y1
    have Y2 := hid y2
    have Y3 := hid y3
    intro Z hz
    exact ⟨(hz.cell (p := ⟨p, 1, none⟩) (World.block_lt_of_cell? _ _ D1.out)).trans D1.out, (hz.cell (p := ⟨gr, i1, none⟩) (World.block_lt_of_cell? _ _ R1.out)).trans R1.out, (hz.cell (p := ⟨gr, i2, none⟩) (World.block_lt_of_cell? _ _ R2.out)).trans R2.out, (hz.cell (p := ⟨b, o + 1, none⟩) (World.block_lt_of_cell? _ _ Y1.out)).trans Y1.out, (hz.cell (p := ⟨b, o + 2, none⟩) (World.block_lt_of_cell? _ _ Y2.out)).trans Y2.out, (hz.cell (p := ⟨b, o + 3, none⟩) (World.block_lt_of_cell? _ _ Y3.out)).trans Y3.out⟩
  have HY0 : Hid (∀ Z, Below w.heap.size w Z → Z.cell? ⟨b, o, none⟩ = some (.int .i64 ((i0 : Nat) : Int))) := fun Z hz => (hz.cell (p := ⟨b, o, none⟩) (World.block_lt_of_cell? _ _ y0)).trans y0
  clear hb0 hm0 hgr hBw hC hV r0 r1 r2 y0
  go_enter Try.func147, Try.ntmps147
  go_upto_region 1 with fail
  go_cut [5] from 28 (fun x Z => ∃ g : Nat, x = .pointer (some ⟨g, 0, none⟩) ∧ Below w.heap.size w Z ∧ w.heap.size ≤ g ∧ Z.heap[g]? = some (.cells #[.int .i64 D, .int .i64 V] 61 (0, 0)))
  case first =>
    go_region_held3 (fun Z => Below w.heap.size w Z ∧ Z.cell? ⟨p, 1, none⟩ = some (.slice (some ⟨gr, 0, none⟩) 24 cr) ∧ Z.cell? ⟨gr, i1, none⟩ = some (.int .i64 z1) ∧ Z.cell? ⟨gr, i2, none⟩ = some (.int .i64 z2) ∧ Z.cell? ⟨b, o + 1, none⟩ = some (.int .i64 ((i1 : Nat) : Int)) ∧ Z.cell? ⟨b, o + 2, none⟩ = some (.int .i64 ((i2 : Nat) : Int)) ∧ Z.cell? ⟨b, o + 3, none⟩ = some (.int .i64 u)) (first | (with_reducible exact ⟨by assumption, HCC.out _ (by assumption)⟩) | (with_reducible exact ⟨hS0.drew, HCC.out _ hS0.drew⟩) | (with_reducible exact ⟨(belG_al hS0).drew, HCC.out _ (belG_al hS0).drew⟩) | (with_reducible exact ⟨belG_al hS0.drew, HCC.out _ (belG_al hS0.drew)⟩) | (with_reducible exact ⟨belG_al hD3, HCC.out _ (belG_al hD3)⟩) | (with_reducible exact ⟨belG_set hD3, HCC.out _ (belG_set hD3)⟩) | fail) (first | (go_at_call 164; refine (HI.out _).mono ?_; rintro e wa ⟨rfl, hb⟩; have hD3 : Below w.heap.size w wa := belG (And.left (by with_reducible assumption)) hb; (try (have HZ3 := hid (blk8 (show (w.alloc (.cells #[.int .i64 0, .int .i64 0] 61)).drew.heap[w.heap.size]? = some (.cells #[.int .i64 0, .int .i64 0] 61 (0, 0)) from heap_alloc_new w _) hb); obtain ⟨e0, e1⟩ := cl2 HZ3.out; obtain ⟨f0, f1⟩ := fl2 HZ3.out)); clear hb) | fail)
    all_goals
      go_wp2_with fail
      go_meet
      case rel => first | exact ⟨_, rfl, belG_al hD3, hD3.size, heap_alloc_new _ _⟩ | exact ⟨_, rfl, belG_set hD3, Nat.le_refl _, by rw [heap_setCell_same _ _ _ _ _ _ (heap_setCell_same _ _ _ _ _ _ HZ3.out)]; rfl⟩
  case rest =>
  obtain ⟨g, rfl, hZ, hgw, hrow⟩ := hcut
  rename World => Z
  have HMZ : Hid (MemO B Z p (.slice (some ⟨gr, 0, none⟩) 24 cr) cv m) := HMEM.out.of (fun j hj _ => hZ.block j hj) rfl rfl
  have HRZ := hid (blk8 HROW.out hZ)
  have HBZ : Hid (Below B w Z) := hZ.mono HBW.out
  have q0 := HY0.out _ hZ
  have HNG : Hid (gr ≠ g) := by have := HLT.out; show ¬ _; omega
  obtain ⟨rc0, rf0⟩ := HMZ.out.rcell HR0.out
  obtain ⟨-, d1, -⟩ := RunT.cells HRZ.out
  obtain ⟨g0, g1⟩ := cl2 hrow
  have HRG : Hid (∀ x, RunT B (Z.setCell ⟨gr, i0, none⟩ (.int .i64 x)) p (str m i0 x)) := RunT.reg HRZ.out HMZ.out
  clear HROW HMEM HMZ HRZ hS0 HCC HY0 hZ hrow HI y1 y2 y3 rc1 rc2 hgw HBW HR0
  by_cases h3 : D = 3
  · have eC : C = 1 := by rw [HC.out, if_pos h3]
    subst h3 eC
    clear HC
    go_wp2_with fail
    go_ret
    exact ⟨rfl, fun h => absurd h (by decide), HBZ.out⟩
  have eC : C = D := by rw [HC.out, if_neg h3]
  subst eC
  clear HC
  have k3 : (C == 3) = false := by simpa using h3
  clear h3
  by_cases h0 : C = 0
  · subst h0
    go_upto_region 5 with fail
    go_region
    have HR5 : Hid (RunT B ((Z.setCell ⟨gr, i0, none⟩ (.int .i64 V)).drew) p (str m i0 V)) := (HRG.out V).heap rfl
    have HB5 : Hid (Below B w ((Z.setCell ⟨gr, i0, none⟩ (.int .i64 V)).drew)) := (HBZ.out.setCell (p := ⟨gr, i0, none⟩) HGR.out _).drew
    have g5 : ((Z.setCell ⟨gr, i0, none⟩ (.int .i64 V)).drew).cell? ⟨g, 0, none⟩ = some (.int .i64 0) := (World.cell?_setCell_far Z ⟨gr, i0, none⟩ ⟨g, 0, none⟩ _ HNG.out).trans g0
    clear g0 g1 rc0 rf0 q0 d1 HRG HBZ
    generalize (Z.setCell ⟨gr, i0, none⟩ (.int .i64 V)).drew = Z5 at *
    go_wp2_with fail
    go_ret
    exact ⟨rfl, HR5.out, HB5.out⟩
  · have k0 : (C == 0) = false := by simpa using h0
    have H0 := hid h0
    clear h0
    go_wp2_with fail
    go_ret
    exact ⟨rfl, fun h => absurd h H0.out, HBZ.out⟩
end Go.Proofs.Ytcikofhbfncgdaa
namespace Go.Proofs.Ytcikofhbfncgdaa
open Go.RowKit
set_option linter.unusedVariables false
attribute [local go_sem ↓] Go.wp_at_zero Go.wp_at_succ

set_option maxHeartbeats 3200000 in
set_option maxRecDepth 100000 in
theorem rdo_6 (B p b off n c k L i0 i1 i2 : Nat) (m : SM) (x3 nx : Int) (w : World) (h : RunT B w p m) (hg : RGood m) (hk : m.pc = k) (hkn : k + 4 < n) (hn : n ≤ 400) (hnc : n ≤ c) (hbB : b < B) (hL : L = k + 1) (hnx : nx = (k : Int) + 1 + 4) (h0 : w.cell? ⟨b, off + k, none⟩ = some (.int .i64 6)) (h1 : w.cell? ⟨b, off + L, none⟩ = some (.int .i64 ((i0 : Nat) : Int))) (h2 : w.cell? ⟨b, off + L + 1, none⟩ = some (.int .i64 ((i1 : Nat) : Int))) (h3 : w.cell? ⟨b, off + L + 2, none⟩ = some (.int .i64 ((i2 : Nat) : Int))) (h4 : w.cell? ⟨b, off + L + 3, none⟩ = some (.int .i64 x3)) (r0 : i0 < 24) (r1 : i1 < 24) (r2 : i2 < 24) (C V : Int) (hC : twoI x3 (m.stk.getD i2 0) = C) (hV : invV x3 (m.stk.getD i1 0) (m.stk.getD i2 0) = V) :
    Calls Try.prog 123 #[.slice (some ⟨b, off, none⟩) n c, .pointer (some ⟨p, 0, none⟩)] w fun e w' => e = .returned (.int .i64 C) ∧ (C = 0 → RunT B w' p (atP (str m i0 V) nx)) ∧ Below B w w' := by
  have HA : Hid (∀ W, Calls Try.prog 93 #[.int .i64 6] W fun e w' => e = .returned (.int .i64 4) ∧ w' = W) := fun W => l10Args_any 6 W
  obtain ⟨gr, cr, a2, c2, hb0, hm0, hgr, hgp⟩ := h.rows hg.rl
  obtain ⟨c0, -⟩ := RunT.cells hb0
  rw [hk] at c0
  have q0 : (0 : Int) ≤ (k : Int) := by omega
  have q1 : (k : Int) < (n : Int) := by omega
  have E1 : (k : Int) + 1 = (L : Int) := by omega
  have Z1 : IntKind.i64.wrap ((k : Int) + 1) = (L : Int) := by rw [IntWalk.i64_in _ ⟨by omega, by omega⟩]; omega
  have Z1b : IntKind.i64.wrap (L : Int) = (L : Int) := IntWalk.i64_in _ ⟨by omega, by omega⟩
  obtain ⟨H, hH⟩ : ∃ H : Nat, H = L + 4 := ⟨_, rfl⟩
  have Z3 : IntKind.i64.wrap ((L : Int) + 4) = (H : Int) := by rw [IntWalk.i64_in _ ⟨by omega, by omega⟩]; omega
  have p0 : (0 : Int) ≤ (L : Int) := by omega
  have p1 : (L : Int) ≤ (H : Int) := by omega
  have p2 : (H : Int) ≤ (c : Int) := by omega
  have p3 : (0 : Int) ≤ (H : Int) := by omega
  have p4 : ¬ (L = c) := by omega
  have p5 : ¬ (c = L) := by omega
  have p6 : (c == L) = false := by rw [beq_eq_false_iff_ne]; omega
  have p7 : (L == c) = false := by rw [beq_eq_false_iff_ne]; omega
  have HHL : Hid (H - L = 4) := by show _ = _; omega
  have hnx2 : nx = (H : Int) := by omega
  have HROW := hid hb0
  have HMEM := hid hm0
  have HPB := hid h.lt
  have HGR := hid hgr
  have HGP := hid hgp
  have HBB := hid hbB
  have HCL := hid hg.cl
  subst hnx2
  clear h hg hk hkn hn hnc hL hnx hb0 hm0 hgr hgp hbB hH
  go_enter Try.func123, Try.ntmps123
  go_upto_region 2 with fail
  go_region_held3 (fun Z => Z.cell? ⟨p, 0, none⟩ = some (.int .i64 (k : Int))) (go_keep) (first | (go_at_call 93; refine (HA.out _).mono ?_; rintro e w6 ⟨rfl, rfl⟩) | fail)
  rw [HHL.out]
  have c0 : w.drew.cell? ⟨p, 0, none⟩ = some (.int .i64 k) := c0
  go_upto_region 3 with fail
  go_region_held3 (fun Z => Z.cell? ⟨p, 0, none⟩ = some (.int .i64 (k : Int))) (go_keep) (first | (go_at_call 93; refine (HA.out _).mono ?_; rintro e w6 ⟨rfl, rfl⟩) | fail)
  have HROW2 : Hid (w.drew.drew.heap[p]? = some (.cells (lineS m (.slice (some ⟨gr, 0, none⟩) 24 cr) (.slice a2 m.cells.length c2)) 28 (0, 0))) := HROW.out
  have HMEM2 : Hid (MemO B w.drew.drew p (.slice (some ⟨gr, 0, none⟩) 24 cr) (.slice a2 m.cells.length c2) m) := HMEM.out.heap rfl
  have HB : Hid (Below B w w.drew.drew) := (Below.refl B w).drew.drew
  have y0 : w.drew.drew.cell? ⟨b, off + L, none⟩ = some (.int .i64 ((i0 : Nat) : Int)) := h1
  have y1 : w.drew.drew.cell? ⟨b, off + L + 1, none⟩ = some (.int .i64 ((i1 : Nat) : Int)) := h2
  have y2 : w.drew.drew.cell? ⟨b, off + L + 2, none⟩ = some (.int .i64 ((i2 : Nat) : Int)) := h3
  have y3 : w.drew.drew.cell? ⟨b, off + L + 3, none⟩ = some (.int .i64 x3) := h4
  have HBL : Hid (p < w.drew.drew.heap.size) := HPB.out.2
  clear HROW HMEM HA c0 h0 h1 h2 h3 h4 Z1 Z1b E1 Z3
  have HBS : Hid (B ≤ w.drew.drew.heap.size) := Nat.le_trans HPB.out.1 (Nat.le_of_lt HPB.out.2)
  generalize w.drew.drew = W at *
  have HT : Hid (∀ cc, Calls Try.prog 147 #[.pointer (some ⟨p, 0, none⟩), .slice (some ⟨b, off + L, none⟩) 4 cc] W fun e w' => e = .returned (.int .i64 C) ∧ (C = 0 → RunT B w' p (str m i0 V)) ∧ Below B W w') := fun cc => l10Two_any B p gr cr b (off + L) cc i0 i1 i2 m _ x3 W HROW2.out HMEM2.out HGR.out HBS.out y0 y1 y2 y3 r0 r1 r2 C V hC hV
  clear HROW2 HMEM2 y0 y1 y2 y3 hC hV r0 r1 r2 HBS
  go_upto_region 22 with fail
  go_wp2_with fail
  refine (HT.out _).mono ?_
  rintro e w6 ⟨rfl, hrz, hbz⟩
  have HBZ : Hid (Below B w w6) := HB.out.trans hbz
  have HRZ := hid hrz
  clear hrz hbz HT HB
  by_cases hc0 : C = 0
  case neg =>
    have eC : (C != 0) = true := by simpa using hc0
    have HC0 := hid hc0
    clear hc0 HRZ
    go_wp2_with fail
    go_ret
    exact ⟨rfl, fun h => absurd h HC0.out, HBZ.out⟩
  subst hc0
  have HRZ2 := hid (HRZ.out rfl)
  obtain ⟨svz, cvz, hbz, _⟩ := id HRZ2.out
  have z0 := (RunT.cells hbz).1
  have zf := frozen_of_row _ _ 0 _ _ hbz
  have HF : Hid (RunT B (w6.setCell ⟨p, 0, none⟩ (.int .i64 (H : Int))) p (atP (str m i0 V) (H : Int))) := HRZ2.out.fld (m' := atP (str m i0 V) (H : Int)) 0 _ (fun _ _ => rfl) rfl rfl
  have HPZ := HRZ2.out.lt.1
  clear hbz HRZ HRZ2
  go_wp2_with fail
  go_ret
  first | exact ⟨rfl, fun _ => HF.out, HBZ.out.setCell HPZ _⟩ | exact ⟨rfl, HF.out, HBZ.out.setCell HPZ _⟩
end Go.Proofs.Ytcikofhbfncgdaa
