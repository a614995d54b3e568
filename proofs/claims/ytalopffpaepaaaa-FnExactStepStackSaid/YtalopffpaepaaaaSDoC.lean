/-
  spec's l8Do: ops 5.
-/
import Derived.Test.YtalopffpaepaaaaSDo0
namespace Go.Proofs.Ytalopffpaepaaaa
open Go.RowKit
set_option linter.unusedVariables false
attribute [local go_sem ↓] Go.wp_at_zero Go.wp_at_succ

set_option maxHeartbeats 3200000 in
set_option maxRecDepth 100000 in
theorem sdo_5 (B p b off n c k L1 L2 : Nat) (m : SM) (op u v nx : Int) (w : World) (hop : op = 5) (h : RunS B w p m) (hs : m.stk.length ≤ 40) (hk : m.pc = k) (hkn : k < n) (hn : n ≤ 400) (hbB : b < B) (hL1 : L1 = k + 1) (hL2 : L2 = k + 2) (h0 : w.cell? ⟨b, off + k, none⟩ = some (.int .i64 op)) (h1 : w.cell? ⟨b, off + L1, none⟩ = some (.int .i64 u)) (hn1 : L1 < n) (h2 : w.cell? ⟨b, off + L2, none⟩ = some (.int .i64 v)) (hn2 : L2 < n) (hnx : nx = (k : Int) + 1 + argN op) (hl2 : m.cells.length ≤ 80) (hf : 1 < m.stk.length) (hu0 : 0 ≤ u) (hu1 : u ≤ 65535) (hv0 : 0 ≤ v) (hv1 : v ≤ 65535) (C V : Int) (hC : C = itemC m.cells.length u v (tp m 1)) (hV : V = itemV m.cells.length u v (tp m 1)) (M : SM) (hM : M = atP (sto (pop (pop m)) V.toNat (tp m 0)) nx) :
    Calls Try.prog 101 #[.slice (some ⟨b, off, none⟩) n c, .pointer (some ⟨p, 0, none⟩)] w fun e w' => e = .returned (.int .i64 (C)) ∧ (C = 0 → RunS B w' p (M)) ∧ Below B w w' := by
  have HA : Hid (∀ W, Calls Try.prog 88 #[.int .i64 op] W fun e w' => e = .returned (.int .i64 2) ∧ w' = W) := fun W => by
    have := l8Args_any op W
    rwa [show argN op = 2 from by rw [hop]; rfl] at this
  have hT : (op == 1) = false ∧ (op == 2) = false ∧ (op == 3) = false ∧ (op == 4) = false ∧ (op == 5) = true := by subst hop; exact ⟨rfl, rfl, rfl, rfl, rfl⟩
  rw [show argN op = 2 from by rw [hop]; rfl] at hnx
  obtain ⟨sv0, cv0, hb0, _⟩ := id h
  have c0 := (RunS.cells hb0).1
  rw [hk] at c0
  have q0 : (0 : Int) ≤ (k : Int) := by omega
  have q1 : (k : Int) < (n : Int) := by omega
  have E1 : (k : Int) + 1 = (L1 : Int) := by omega
  have E2 : (k : Int) + 2 = (L2 : Int) := by omega
  have Z1 : IntKind.i64.wrap ((k : Int) + 1) = (L1 : Int) := by rw [IntWalk.i64_in _ ⟨by omega, by omega⟩]; omega
  have Z1b : IntKind.i64.wrap (L1 : Int) = (L1 : Int) := IntWalk.i64_in _ ⟨by omega, by omega⟩
  have Z2 : IntKind.i64.wrap ((k : Int) + 2) = (L2 : Int) := by rw [IntWalk.i64_in _ ⟨by omega, by omega⟩]; omega
  have Z2b : IntKind.i64.wrap (L2 : Int) = (L2 : Int) := IntWalk.i64_in _ ⟨by omega, by omega⟩
  have Z3 : IntKind.i64.wrap ((L1 : Int) + 2) = nx := by rw [IntWalk.i64_in _ ⟨by omega, by omega⟩]; omega
  have Z3b : IntKind.i64.wrap nx = nx := IntWalk.i64_in _ ⟨by omega, by omega⟩
  have E3 : (L1 : Int) + 2 = nx := by omega
  have p0 : (0 : Int) ≤ (L1 : Int) := by omega
  have p1 : (L1 : Int) < (n : Int) := by omega
  have p2 : (0 : Int) ≤ (L2 : Int) := by omega
  have p3 : (L2 : Int) < (n : Int) := by omega
  have HR0 : Hid (RunS B w p m) := h
  have HBW : Hid (b < w.heap.size) := by have := h.lt; show b < _; omega
  clear hb0 h hop hkn hn hnx hL1 hL2 hn1 hn2
  obtain ⟨e1, e2, e3, e4, e5⟩ := hT
  go_enter Try.func101, Try.ntmps101
  go_upto_region 3 with fail
  go_cut [7] from 23 (fun x W1 => x = .int .i64 nx ∧ W1 = w.drew)
  case first =>
    go_region_with (go_at_call 88; refine (HA.out _).mono ?_; rintro e w6 ⟨rfl, rfl⟩)
    all_goals
      go_wp2_with fail
      go_meet
      case rel => exact ⟨by simp [*], rfl⟩
  case rest =>
  obtain ⟨rfl, rfl⟩ := hcut
  have HR : Hid (RunS B w.drew p m) := HR0.out.heap rfl
  have HB : Hid (Below B w w.drew) := (Below.refl B w).drew
  have x1 : w.drew.cell? ⟨b, off + L1, none⟩ = some (.int .i64 u) := h1
  have x2 : w.drew.cell? ⟨b, off + L2, none⟩ = some (.int .i64 v) := h2
  clear HR0 HA c0 h0 h1 h2
  generalize w.drew = W at *
  have h39 : 0 < (pop m).stk.length := by rw [pop_len]; omega
  have h38 : (pop m).stk.length ≤ 40 := by rw [pop_len]; omega
  have HTP : Hid (tp (pop m) 0 = tp m 1) := tp_pop m hf
  have HP2 : Hid (∀ W, RunS B W p (pop m) → Calls Try.prog 115 #[.pointer (some ⟨p, 0, none⟩)] W fun e w' => e = .returned (.int .i64 (tp m 1)) ∧ RunS B w' p (pop (pop m)) ∧ Below B W w') := fun W hr => by
    have := l8Pop_any B p (pop m) W hr h39 h38
    rwa [HTP.out] at this
  go_upto_region 20 with (go_at_call 115; refine (l8Pop_any B p m _ HR.out (by omega) hs).mono ?_; rintro e w2 ⟨rfl, hr2, hb2⟩)
  go_upto_region 21 with (go_at_call 115; refine (HP2.out _ hr2).mono ?_; rintro e w3 ⟨rfl, hr, hb3⟩)
  have hb := hb2.trans hb3
  have HR3 : Hid (RunS B w3 p (pop (pop m))) := hr
  have yu : w3.cell? ⟨b, off + L1, none⟩ = some (.int .i64 u) := (hb.cell (p := ⟨b, off + L1, none⟩) hbB).trans x1
  have yv : w3.cell? ⟨b, off + L2, none⟩ = some (.int .i64 v) := (hb.cell (p := ⟨b, off + L2, none⟩) hbB).trans x2
  have HB3 : Hid (Below B w w3) := HB.out.trans hb
  clear hr hr2 hb hb2 hb3 HR HB HP2 HTP
  have HROW : Hid (∀ W, W.heap = w3.heap → Calls Try.prog 116 #[.pointer (some ⟨p, 0, none⟩), .int .i64 u, .int .i64 v, .int .i64 (tp m 1)] W fun e w' => e = .returned (.tuple #[.int .i64 (itemV m.cells.length u v (tp m 1)), .int .i64 (itemC m.cells.length u v (tp m 1))]) ∧ w' = W) := fun W e => by
    obtain ⟨sv, cv, hbl, hm⟩ := HR3.out.heap e
    exact l8Row_any p (pop (pop m)) sv cv u v (tp m 1) W hbl (own_row hm.cs) hl2 hu0 hu1 hv0 hv1
  have HIV : Hid (itemC m.cells.length u v (tp m 1) = 0 → 0 ≤ itemV m.cells.length u v (tp m 1) ∧ itemV m.cells.length u v (tp m 1) < m.cells.length) := item_in _ _ _ _ hu0
  rw [← hC, ← hV] at HROW HIV
  have HM : Hid (M = atP (sto (pop (pop m)) V.toNat (tp m 0)) nx) := hM
  clear hC hV hM
  go_cut [14, 15] from 23 (fun s10 s11 W1 => s10 = .int .i64 V ∧ s11 = .int .i64 C ∧ W1 = w3.drew)
  case first =>
    go_region_with (go_at_call 116; refine (HROW.out _ (by rfl)).mono ?_; rintro e w6 ⟨rfl, rfl⟩)
    all_goals
      go_wp2_with fail
      go_meet
      case rel => exact ⟨rfl, rfl, rfl⟩
  case rest =>
  obtain ⟨rfl, rfl, rfl⟩ := hcut
  have HR4 : Hid (RunS B w3.drew p (pop (pop m))) := HR3.out.heap rfl
  have HB4 : Hid (Below B w w3.drew) := HB3.out.drew
  clear HR3 HB3 HROW yu yv
  generalize w3.drew = w4 at *
  by_cases hC : C = 0
  · subst hC
    obtain ⟨t, hVt⟩ := Int.eq_ofNat_of_zero_le (HIV.out rfl).1
    subst hVt
    have ht : t < m.cells.length := by have := (HIV.out rfl).2; omega
    rw [Int.toNat_natCast] at HM
    obtain ⟨sv, cv, hbl, hm⟩ := id HR4.out
    obtain ⟨ac, c2, rfl⟩ := own_shape hm.cs
    obtain ⟨gc, hgc⟩ : ∃ gc, ac = some ⟨gc, 0, none⟩ := by
      rcases hm.cs.2 with ⟨_, q⟩ | ⟨gc, q2, cur, q, _⟩
      · have : m.cells.length = 0 := q
        omega
      · simp at q; exact ⟨gc, q.1⟩
    subst hgc
    have y2 := (RunS.cells hbl).2.2.1
    obtain ⟨y, hy⟩ : ∃ y, w4.cell? ⟨gc, t, none⟩ = some y := by
      rw [hm.cs.cellAt t (by rw [Nat.mul_one]; exact ht)]; exact ⟨_, List.getElem?_eq_getElem (by rw [List.length_map]; exact ht)⟩
    have hfr := hm.cs.frozenAt t
    have HRZ0 : Hid (RunS B (w4.setCell ⟨gc, t, none⟩ (.int .i64 (tp m 0))) p (sto (pop (pop m)) t (tp m 0))) := RunS.put (hbl := hbl) hm t (tp m 0)
    have HBZ0 : Hid (Below B w (w4.setCell ⟨gc, t, none⟩ (.int .i64 (tp m 0)))) := HB4.out.setCell (hm.lt.2 gc rfl) _
    have e9 : (pop (pop m)).cells.length = m.cells.length := rfl
    rw [e9] at y2
    clear hbl hm e9 HR4 HB4 HIV
    generalize m.cells.length = nc at *
    have t0 : (0 : Int) ≤ (t : Int) := by omega
    have t1 : (t : Int) < (nc : Int) := by omega
    clear ht
    go_upto_region 52 with fail
    generalize w4.setCell ⟨gc, t, none⟩ (.int .i64 (tp m 0)) = w7 at *
    have HRZ : Hid (RunS B w7 p (sto (pop (pop m)) t (tp m 0))) := HRZ0
    have HBZ : Hid (Below B w w7) := HBZ0
    clear HRZ0 HBZ0
    obtain ⟨svz, cvz, hbz, _⟩ := id HRZ.out
    have z0 := (RunS.cells hbz).1
    have zf := frozen_of_row _ _ 0 _ _ hbz
    have HF : Hid (RunS B (w7.setCell ⟨p, 0, none⟩ (.int .i64 nx)) p (atP (sto (pop (pop m)) t (tp m 0)) nx)) := HRZ.out.fld (m' := atP (sto (pop (pop m)) t (tp m 0)) nx) 0 _ (fun _ _ => rfl) rfl rfl
    have HPB := HRZ.out.lt.1
    clear hbz
    go_wp2_with fail
    go_ret
    exact ⟨rfl, by first | (rw [HM.out]; exact HF.out) | (rw [HM.out]; exact fun _ => HF.out) | exact fun _ => (by rw [HM.out]; exact HF.out), HBZ.out.setCell HPB _⟩

  · have eC : (C != 0) = true := by simpa using hC
    have HNC : Hid (¬ C = 0) := hC
    have eD : decide (C = 0) = false := decide_eq_false hC
    clear hC
    go_wp2_with fail
    go_ret
    exact ⟨rfl, by first | trivial | exact fun h => absurd h HNC.out, HB4.out⟩

end Go.Proofs.Ytalopffpaepaaaa
