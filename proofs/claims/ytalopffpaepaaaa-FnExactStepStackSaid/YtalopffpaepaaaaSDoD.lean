/-
  spec's l8Do: ops 6, 10.
-/
import Derived.Test.YtalopffpaepaaaaSDo0
namespace Go.Proofs.Ytalopffpaepaaaa
open Go.RowKit
set_option linter.unusedVariables false
attribute [local go_sem ↓] Go.wp_at_zero Go.wp_at_succ

set_option maxHeartbeats 3200000 in
set_option maxRecDepth 100000 in
theorem sdo_6 (B p b off n c k L1 L2 : Nat) (m : SM) (op u v nx : Int) (w : World) (hop : op = 6) (h : RunS B w p m) (hs : m.stk.length ≤ 40) (hk : m.pc = k) (hkn : k < n) (hn : n ≤ 400) (hbB : b < B) (hL1 : L1 = k + 1) (hL2 : L2 = k + 2) (h0 : w.cell? ⟨b, off + k, none⟩ = some (.int .i64 op)) (h1 : w.cell? ⟨b, off + L1, none⟩ = some (.int .i64 u)) (hn1 : L1 < n) (hnx : nx = (k : Int) + 1 + argN op) (hf : 1 < m.stk.length) (D V : Int) (hD0 : D = twoC u (tp m 0)) (hV : V = binV u (tp m 1) (tp m 0)) (M : SM) (hM : M = atP (psh (pop (pop m)) V) nx) :
    Calls Try.prog 101 #[.slice (some ⟨b, off, none⟩) n c, .pointer (some ⟨p, 0, none⟩)] w fun e w' => e = .returned (.int .i64 (D)) ∧ (D = 0 → RunS B w' p (M)) ∧ Below B w w' := by
  have HA : Hid (∀ W, Calls Try.prog 88 #[.int .i64 op] W fun e w' => e = .returned (.int .i64 1) ∧ w' = W) := fun W => by
    have := l8Args_any op W
    rwa [show argN op = 1 from by rw [hop]; rfl] at this
  have hT : (op == 1) = false ∧ (op == 2) = false ∧ (op == 3) = false ∧ (op == 4) = false ∧ (op == 5) = false ∧ (op == 6) = true := by subst hop; exact ⟨rfl, rfl, rfl, rfl, rfl, rfl⟩
  rw [show argN op = 1 from by rw [hop]; rfl] at hnx
  obtain ⟨sv0, cv0, hb0, _⟩ := id h
  have c0 := (RunS.cells hb0).1
  rw [hk] at c0
  have q0 : (0 : Int) ≤ (k : Int) := by omega
  have q1 : (k : Int) < (n : Int) := by omega
  have E1 : (k : Int) + 1 = (L1 : Int) := by omega
  have E2 : (k : Int) + 2 = (L2 : Int) := by omega
  have Z1 : IntKind.i64.wrap ((k : Int) + 1) = (L1 : Int) := by rw [IntWalk.i64_in _ ⟨by omega, by omega⟩]; omega
  have Z1b : IntKind.i64.wrap (L1 : Int) = (L1 : Int) := IntWalk.i64_in _ ⟨by omega, by omega⟩
  have Z2 : IntKind.i64.wrap ((k : Int) + 2) = (L2 : Int) := by rw [IntWalk.i64_in _ ⟨by omega, by omega⟩]; omega
  have Z2b : IntKind.i64.wrap (L2 : Int) = (L2 : Int) := IntWalk.i64_in _ ⟨by omega, by omega⟩
  have Z3 : IntKind.i64.wrap ((L1 : Int) + 1) = nx := by rw [IntWalk.i64_in _ ⟨by omega, by omega⟩]; omega
  have Z3b : IntKind.i64.wrap nx = nx := IntWalk.i64_in _ ⟨by omega, by omega⟩
  have E3 : (L1 : Int) + 1 = nx := by omega
  have p0 : (0 : Int) ≤ (L1 : Int) := by omega
  have p1 : (L1 : Int) < (n : Int) := by omega
  have HR0 : Hid (RunS B w p m) := h
  have HBW : Hid (b < w.heap.size) := by have := h.lt; show b < _; omega
  clear hb0 h hop hkn hn hnx hL1 hL2 hn1
  obtain ⟨e1, e2, e3, e4, e5, e6⟩ := hT
  go_enter Try.func101, Try.ntmps101
  go_upto_region 3 with fail
  go_cut [7] from 23 (fun x W1 => x = .int .i64 nx ∧ W1 = w.drew)
  case first =>
    go_region_with (go_at_call 88; refine (HA.out _).mono ?_; rintro e w6 ⟨rfl, rfl⟩)
    all_goals
      go_wp2_with fail
      go_meet
      case rel => exact ⟨by simp [*], rfl⟩
  case rest =>
  obtain ⟨rfl, rfl⟩ := hcut
  have HR : Hid (RunS B w.drew p m) := HR0.out.heap rfl
  have HB : Hid (Below B w w.drew) := (Below.refl B w).drew
  have x1 : w.drew.cell? ⟨b, off + L1, none⟩ = some (.int .i64 u) := h1
  clear HR0 HA c0 h0 h1
  generalize w.drew = W at *
  have h39 : 0 < (pop m).stk.length := by rw [pop_len]; omega
  have h38 : (pop m).stk.length ≤ 40 := by rw [pop_len]; omega
  have h37 : (pop (pop m)).stk.length ≤ 40 := by rw [pop_len]; omega
  have HTP : Hid (tp (pop m) 0 = tp m 1) := tp_pop m hf
  have HP2 : Hid (∀ W, RunS B W p (pop m) → Calls Try.prog 115 #[.pointer (some ⟨p, 0, none⟩)] W fun e w' => e = .returned (.int .i64 (tp m 1)) ∧ RunS B w' p (pop (pop m)) ∧ Below B W w') := fun W hr => by
    have := l8Pop_any B p (pop m) W hr h39 h38
    rwa [HTP.out] at this
  go_upto_region 27 with (go_at_call 115; refine (l8Pop_any B p m _ HR.out (by omega) hs).mono ?_; rintro e w2 ⟨rfl, hr2, hb2⟩)
  go_upto_region 28 with (go_at_call 115; refine (HP2.out _ hr2).mono ?_; rintro e w3 ⟨rfl, hr, hb3⟩)
  have hb := hb2.trans hb3
  have HR3 : Hid (RunS B w3 p (pop (pop m))) := hr
  have yu : w3.cell? ⟨b, off + L1, none⟩ = some (.int .i64 u) := (hb.cell (p := ⟨b, off + L1, none⟩) hbB).trans x1
  have HB3 : Hid (Below B w w3) := HB.out.trans hb
  have HBI : Hid (∀ W, Calls Try.prog 117 #[.int .i64 u, .int .i64 (tp m 1), .int .i64 (tp m 0)] W fun e w' => e = .returned (.tuple #[.int .i64 (binV u (tp m 1) (tp m 0)), .int .i64 (binC u (tp m 0))]) ∧ w' = W) := fun W => l2_any u (tp m 1) (tp m 0) W
  have HTC : Hid (twoC u (tp m 0) = if binC u (tp m 0) = 3 then 1 else binC u (tp m 0)) := rfl
  clear hr hr2 hb hb2 hb3 HR HB HP2 HTP
  rw [← hD0] at HTC
  rw [← hV] at HBI
  have HM : Hid (M = atP (psh (pop (pop m)) V) nx) := hM
  clear hD0 hV hM
  generalize binC u (tp m 0) = C at *
  by_cases h3 : C = 3
  · subst h3
    have hD : D = 1 := HTC.out
    subst hD
    go_wp2_with (go_at_call 117; refine (HBI.out _).mono ?_; rintro e w6 ⟨rfl, rfl⟩)
    go_ret
    exact ⟨rfl, by first | trivial | exact fun h => absurd h (by decide), HB3.out⟩
  have hD : D = C := HTC.out.trans (if_neg h3)
  subst hD
  have e3 : (D == 3) = false := by simpa using h3
  by_cases hC : D = 0
  · subst hC
    go_upto_region 52 with (first | (go_at_call 117; refine (HBI.out _).mono ?_; rintro e w6 ⟨rfl, rfl⟩) | (go_at_call 114; refine (l8Push_any B p (pop (pop m)) V _ HR3.out h37).mono ?_; rintro e w7 ⟨rfl, hr, hb⟩))
    have HRZ : Hid (RunS B w7 p (psh (pop (pop m)) V)) := hr
    have HBZ : Hid (Below B w w7) := HB3.out.trans hb
    obtain ⟨svz, cvz, hbz, _⟩ := id HRZ.out
    have z0 := (RunS.cells hbz).1
    have zf := frozen_of_row _ _ 0 _ _ hbz
    have HF : Hid (RunS B (w7.setCell ⟨p, 0, none⟩ (.int .i64 nx)) p (atP (psh (pop (pop m)) V) nx)) := HRZ.out.fld (m' := atP (psh (pop (pop m)) V) nx) 0 _ (fun _ _ => rfl) rfl rfl
    have HPB := HRZ.out.lt.1
    clear hbz
    go_wp2_with fail
    go_ret
    exact ⟨rfl, by first | (rw [HM.out]; exact HF.out) | (rw [HM.out]; exact fun _ => HF.out) | exact fun _ => (by rw [HM.out]; exact HF.out), HBZ.out.setCell HPB _⟩

  · have eC : (D != 0) = true := by simpa using hC
    have HNC : Hid (¬ D = 0) := hC
    clear hC h3
    go_wp2_with (go_at_call 117; refine (HBI.out _).mono ?_; rintro e w6 ⟨rfl, rfl⟩)
    go_ret
    exact ⟨rfl, by first | trivial | exact fun h => absurd h HNC.out, HB3.out⟩


set_option maxHeartbeats 3200000 in
set_option maxRecDepth 100000 in
theorem sdo_10 (B p b off n c k L1 L2 : Nat) (m : SM) (op u v nx : Int) (w : World) (hop : op = 10) (h : RunS B w p m) (hs : m.stk.length ≤ 40) (hk : m.pc = k) (hkn : k < n) (hn : n ≤ 400) (hbB : b < B) (hL1 : L1 = k + 1) (hL2 : L2 = k + 2) (h0 : w.cell? ⟨b, off + k, none⟩ = some (.int .i64 op)) (h1 : w.cell? ⟨b, off + L1, none⟩ = some (.int .i64 u)) (hn1 : L1 < n) (hnx : nx = (k : Int) + 1 + argN op) :
    Calls Try.prog 101 #[.slice (some ⟨b, off, none⟩) n c, .pointer (some ⟨p, 0, none⟩)] w fun e w' => e = .returned (.int .i64 (0)) ∧ (0 = 0 → RunS B w' p (atP m u)) ∧ Below B w w' := by
  have HA : Hid (∀ W, Calls Try.prog 88 #[.int .i64 op] W fun e w' => e = .returned (.int .i64 1) ∧ w' = W) := fun W => by
    have := l8Args_any op W
    rwa [show argN op = 1 from by rw [hop]; rfl] at this
  have hT : (op == 1) = false ∧ (op == 2) = false ∧ (op == 3) = false ∧ (op == 4) = false ∧ (op == 5) = false ∧ (op == 6) = false ∧ (op == 7) = false ∧ (op == 8) = false ∧ (op == 9) = false ∧ (op == 10) = true := by subst hop; exact ⟨rfl, rfl, rfl, rfl, rfl, rfl, rfl, rfl, rfl, rfl⟩
  rw [show argN op = 1 from by rw [hop]; rfl] at hnx
  obtain ⟨sv0, cv0, hb0, _⟩ := id h
  have c0 := (RunS.cells hb0).1
  rw [hk] at c0
  have q0 : (0 : Int) ≤ (k : Int) := by omega
  have q1 : (k : Int) < (n : Int) := by omega
  have E1 : (k : Int) + 1 = (L1 : Int) := by omega
  have E2 : (k : Int) + 2 = (L2 : Int) := by omega
  have Z1 : IntKind.i64.wrap ((k : Int) + 1) = (L1 : Int) := by rw [IntWalk.i64_in _ ⟨by omega, by omega⟩]; omega
  have Z1b : IntKind.i64.wrap (L1 : Int) = (L1 : Int) := IntWalk.i64_in _ ⟨by omega, by omega⟩
  have Z2 : IntKind.i64.wrap ((k : Int) + 2) = (L2 : Int) := by rw [IntWalk.i64_in _ ⟨by omega, by omega⟩]; omega
  have Z2b : IntKind.i64.wrap (L2 : Int) = (L2 : Int) := IntWalk.i64_in _ ⟨by omega, by omega⟩
  have Z3 : IntKind.i64.wrap ((L1 : Int) + 1) = nx := by rw [IntWalk.i64_in _ ⟨by omega, by omega⟩]; omega
  have Z3b : IntKind.i64.wrap nx = nx := IntWalk.i64_in _ ⟨by omega, by omega⟩
  have E3 : (L1 : Int) + 1 = nx := by omega
  have p0 : (0 : Int) ≤ (L1 : Int) := by omega
  have p1 : (L1 : Int) < (n : Int) := by omega
  have HR0 : Hid (RunS B w p m) := h
  have HBW : Hid (b < w.heap.size) := by have := h.lt; show b < _; omega
  clear hb0 h hop hkn hn hnx hL1 hL2 hn1
  obtain ⟨e1, e2, e3, e4, e5, e6, e7, e8, e9, e10⟩ := hT
  go_enter Try.func101, Try.ntmps101
  go_upto_region 3 with fail
  go_cut [7] from 23 (fun x W1 => x = .int .i64 nx ∧ W1 = w.drew)
  case first =>
    go_region_with (go_at_call 88; refine (HA.out _).mono ?_; rintro e w6 ⟨rfl, rfl⟩)
    all_goals
      go_wp2_with fail
      go_meet
      case rel => exact ⟨by simp [*], rfl⟩
  case rest =>
  obtain ⟨rfl, rfl⟩ := hcut
  have HR : Hid (RunS B w.drew p m) := HR0.out.heap rfl
  have HB : Hid (Below B w w.drew) := (Below.refl B w).drew
  have x1 : w.drew.cell? ⟨b, off + L1, none⟩ = some (.int .i64 u) := h1
  clear HR0 HA c0 h0 h1
  generalize w.drew = W at *
  have HRZ : Hid (RunS B W p m) := HR.out
  have HBZ : Hid (Below B w W) := HB.out
  go_upto_region 52 with fail
  obtain ⟨svz, cvz, hbz, _⟩ := id HRZ.out
  have z0 := (RunS.cells hbz).1
  have zf := frozen_of_row _ _ 0 _ _ hbz
  have HF : Hid (RunS B (W.setCell ⟨p, 0, none⟩ (.int .i64 u)) p (atP m u)) := HRZ.out.fld (m' := atP m u) 0 _ (fun _ _ => rfl) rfl rfl
  have HPB := HRZ.out.lt.1
  clear hbz
  go_wp2_with fail
  go_ret
  exact ⟨rfl, by first | exact HF.out | exact fun _ => HF.out, HBZ.out.setCell HPB _⟩

end Go.Proofs.Ytalopffpaepaaaa
