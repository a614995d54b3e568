/-
  spec's l8Do: ops 1, 2, 3.
-/
import Derived.Test.YtalopffpaepaaaaSDo0
namespace Go.Proofs.Ytalopffpaepaaaa
open Go.RowKit
set_option linter.unusedVariables false
attribute [local go_sem ↓] Go.wp_at_zero Go.wp_at_succ

set_option maxHeartbeats 3200000 in
set_option maxRecDepth 100000 in
theorem sdo_1 (B p b off n c k L1 L2 : Nat) (m : SM) (op u v nx : Int) (w : World) (hop : op = 1) (h : RunS B w p m) (hs : m.stk.length ≤ 40) (hk : m.pc = k) (hkn : k < n) (hn : n ≤ 400) (hbB : b < B) (hL1 : L1 = k + 1) (hL2 : L2 = k + 2) (h0 : w.cell? ⟨b, off + k, none⟩ = some (.int .i64 op)) (h1 : w.cell? ⟨b, off + L1, none⟩ = some (.int .i64 u)) (hn1 : L1 < n) (hnx : nx = (k : Int) + 1 + argN op) :
    Calls Try.prog 101 #[.slice (some ⟨b, off, none⟩) n c, .pointer (some ⟨p, 0, none⟩)] w fun e w' => e = .returned (.int .i64 (0)) ∧ (0 = 0 → RunS B w' p (atP (psh m u) nx)) ∧ Below B w w' := by
  have HA : Hid (∀ W, Calls Try.prog 88 #[.int .i64 op] W fun e w' => e = .returned (.int .i64 1) ∧ w' = W) := fun W => by
    have := l8Args_any op W
    rwa [show argN op = 1 from by rw [hop]; rfl] at this
  have hT : (op == 1) = true := by subst hop; exact rfl
  rw [show argN op = 1 from by rw [hop]; rfl] at hnx
  obtain ⟨sv0, cv0, hb0, _⟩ := id h
  have c0 := (RunS.cells hb0).1
  rw [hk] at c0
  have q0 : (0 : Int) ≤ (k : Int) := by omega
  have q1 : (k : Int) < (n : Int) := by omega
  have E1 : (k : Int) + 1 = (L1 : Int) := by omega
  have E2 : (k : Int) + 2 = (L2 : Int) := by omega
  have Z1 : IntKind.i64.wrap ((k : Int) + 1) = (L1 : Int) := by rw [IntWalk.i64_in _ ⟨by omega, by omega⟩]; omega
  have Z1b : IntKind.i64.wrap (L1 : Int) = (L1 : Int) := IntWalk.i64_in _ ⟨by omega, by omega⟩
  have Z2 : IntKind.i64.wrap ((k : Int) + 2) = (L2 : Int) := by rw [IntWalk.i64_in _ ⟨by omega, by omega⟩]; omega
  have Z2b : IntKind.i64.wrap (L2 : Int) = (L2 : Int) := IntWalk.i64_in _ ⟨by omega, by omega⟩
  have Z3 : IntKind.i64.wrap ((L1 : Int) + 1) = nx := by rw [IntWalk.i64_in _ ⟨by omega, by omega⟩]; omega
  have Z3b : IntKind.i64.wrap nx = nx := IntWalk.i64_in _ ⟨by omega, by omega⟩
  have E3 : (L1 : Int) + 1 = nx := by omega
  have p0 : (0 : Int) ≤ (L1 : Int) := by omega
  have p1 : (L1 : Int) < (n : Int) := by omega
  have HR0 : Hid (RunS B w p m) := h
  have HBW : Hid (b < w.heap.size) := by have := h.lt; show b < _; omega
  clear hb0 h hop hkn hn hnx hL1 hL2 hn1
  have e1 := hT
  go_enter Try.func101, Try.ntmps101
  go_upto_region 3 with fail
  go_cut [7] from 23 (fun x W1 => x = .int .i64 nx ∧ W1 = w.drew)
  case first =>
    go_region_with (go_at_call 88; refine (HA.out _).mono ?_; rintro e w6 ⟨rfl, rfl⟩)
    all_goals
      go_wp2_with fail
      go_meet
      case rel => exact ⟨by simp [*], rfl⟩
  case rest =>
  obtain ⟨rfl, rfl⟩ := hcut
  have HR : Hid (RunS B w.drew p m) := HR0.out.heap rfl
  have HB : Hid (Below B w w.drew) := (Below.refl B w).drew
  have x1 : w.drew.cell? ⟨b, off + L1, none⟩ = some (.int .i64 u) := h1
  clear HR0 HA c0 h0 h1
  generalize w.drew = W at *
  go_upto_region 52 with (go_at_call 114; refine (l8Push_any B p m u _ HR.out hs).mono ?_; rintro e w3 ⟨rfl, hr, hb⟩)
  have HRZ : Hid (RunS B w3 p (psh m u)) := hr
  have HBZ : Hid (Below B w w3) := HB.out.trans hb
  obtain ⟨svz, cvz, hbz, _⟩ := id HRZ.out
  have z0 := (RunS.cells hbz).1
  have zf := frozen_of_row _ _ 0 _ _ hbz
  have HF : Hid (RunS B (w3.setCell ⟨p, 0, none⟩ (.int .i64 nx)) p (atP (psh m u) nx)) := HRZ.out.fld (m' := atP (psh m u) nx) 0 _ (fun _ _ => rfl) rfl rfl
  have HPB := HRZ.out.lt.1
  clear hbz
  go_wp2_with fail
  go_ret
  exact ⟨rfl, by first | exact HF.out | exact fun _ => HF.out, HBZ.out.setCell HPB _⟩


set_option maxHeartbeats 3200000 in
set_option maxRecDepth 100000 in
theorem sdo_2 (B p b off n c k L1 L2 : Nat) (m : SM) (op u v nx : Int) (w : World) (hop : op = 2) (h : RunS B w p m) (hs : m.stk.length ≤ 40) (hk : m.pc = k) (hkn : k < n) (hn : n ≤ 400) (hbB : b < B) (hL1 : L1 = k + 1) (hL2 : L2 = k + 2) (h0 : w.cell? ⟨b, off + k, none⟩ = some (.int .i64 op)) (h1 : w.cell? ⟨b, off + L1, none⟩ = some (.int .i64 u)) (hn1 : L1 < n) (hnx : nx = (k : Int) + 1 + argN op) (t : Nat) (hut : u = t) (ht : t < m.cells.length) (hl2 : m.cells.length ≤ 80) (x : Int) (hx : m.cells.getD t 0 = x) :
    Calls Try.prog 101 #[.slice (some ⟨b, off, none⟩) n c, .pointer (some ⟨p, 0, none⟩)] w fun e w' => e = .returned (.int .i64 (0)) ∧ (0 = 0 → RunS B w' p (atP (psh m x) nx)) ∧ Below B w w' := by
  have HA : Hid (∀ W, Calls Try.prog 88 #[.int .i64 op] W fun e w' => e = .returned (.int .i64 1) ∧ w' = W) := fun W => by
    have := l8Args_any op W
    rwa [show argN op = 1 from by rw [hop]; rfl] at this
  have hT : (op == 1) = false ∧ (op == 2) = true := by subst hop; exact ⟨rfl, rfl⟩
  rw [show argN op = 1 from by rw [hop]; rfl] at hnx
  obtain ⟨sv0, cv0, hb0, _⟩ := id h
  have c0 := (RunS.cells hb0).1
  rw [hk] at c0
  have q0 : (0 : Int) ≤ (k : Int) := by omega
  have q1 : (k : Int) < (n : Int) := by omega
  have E1 : (k : Int) + 1 = (L1 : Int) := by omega
  have E2 : (k : Int) + 2 = (L2 : Int) := by omega
  have Z1 : IntKind.i64.wrap ((k : Int) + 1) = (L1 : Int) := by rw [IntWalk.i64_in _ ⟨by omega, by omega⟩]; omega
  have Z1b : IntKind.i64.wrap (L1 : Int) = (L1 : Int) := IntWalk.i64_in _ ⟨by omega, by omega⟩
  have Z2 : IntKind.i64.wrap ((k : Int) + 2) = (L2 : Int) := by rw [IntWalk.i64_in _ ⟨by omega, by omega⟩]; omega
  have Z2b : IntKind.i64.wrap (L2 : Int) = (L2 : Int) := IntWalk.i64_in _ ⟨by omega, by omega⟩
  have Z3 : IntKind.i64.wrap ((L1 : Int) + 1) = nx := by rw [IntWalk.i64_in _ ⟨by omega, by omega⟩]; omega
  have Z3b : IntKind.i64.wrap nx = nx := IntWalk.i64_in _ ⟨by omega, by omega⟩
  have E3 : (L1 : Int) + 1 = nx := by omega
  have p0 : (0 : Int) ≤ (L1 : Int) := by omega
  have p1 : (L1 : Int) < (n : Int) := by omega
  have HR0 : Hid (RunS B w p m) := h
  have HBW : Hid (b < w.heap.size) := by have := h.lt; show b < _; omega
  clear hb0 h hop hkn hn hnx hL1 hL2 hn1
  obtain ⟨e1, e2⟩ := hT
  go_enter Try.func101, Try.ntmps101
  go_upto_region 3 with fail
  go_cut [7] from 23 (fun x W1 => x = .int .i64 nx ∧ W1 = w.drew)
  case first =>
    go_region_with (go_at_call 88; refine (HA.out _).mono ?_; rintro e w6 ⟨rfl, rfl⟩)
    all_goals
      go_wp2_with fail
      go_meet
      case rel => exact ⟨by simp [*], rfl⟩
  case rest =>
  obtain ⟨rfl, rfl⟩ := hcut
  have HR : Hid (RunS B w.drew p m) := HR0.out.heap rfl
  have HB : Hid (Below B w w.drew) := (Below.refl B w).drew
  have x1 : w.drew.cell? ⟨b, off + L1, none⟩ = some (.int .i64 u) := h1
  clear HR0 HA c0 h0 h1
  generalize w.drew = W at *
  obtain ⟨sv, cv, hb, hm⟩ := id HR.out
  obtain ⟨ac, c2, rfl⟩ := own_shape hm.cs
  have hnn := (nums_of_own hm.cs).2
  rcases hnn with hnn | ⟨gc, oc, rfl, hcc⟩
  · rw [hnn] at ht; simp at ht
  have y2 := (RunS.cells hb).2.2.1
  have yt := hcc t ht
  subst hut
  rw [hx] at yt
  clear hx hb hm hcc
  generalize m.cells.length = nc at *
  have t0 : (0 : Int) ≤ (t : Int) := by omega
  have t1 : (t : Int) < (nc : Int) := by omega
  clear ht
  go_upto_region 8 with fail
  go_region_with (go_at_call 114; refine (l8Push_any B p m x _ (HR.out.heap (by rfl)) hs).mono ?_; rintro e w3 ⟨rfl, hr, hb⟩)
  all_goals
    have HRZ : Hid (RunS B w3 p (psh m x)) := hr
    have HBZ : Hid (Below B w w3) := HB.out.drew.trans hb
    clear hr hb HR HB
    obtain ⟨svz, cvz, hbz, _⟩ := id HRZ.out
    have z0 := (RunS.cells hbz).1
    have zf := frozen_of_row _ _ 0 _ _ hbz
    have HF : Hid (RunS B (w3.setCell ⟨p, 0, none⟩ (.int .i64 nx)) p (atP (psh m x) nx)) := HRZ.out.fld (m' := atP (psh m x) nx) 0 _ (fun _ _ => rfl) rfl rfl
    have HPB := HRZ.out.lt.1
    clear hbz
    go_wp2_with fail
    go_ret
    exact ⟨rfl, by first | exact HF.out | exact fun _ => HF.out, HBZ.out.setCell HPB _⟩


set_option maxHeartbeats 3200000 in
set_option maxRecDepth 100000 in
theorem sdo_3 (B p b off n c k L1 L2 : Nat) (m : SM) (op u v nx : Int) (w : World) (hop : op = 3) (h : RunS B w p m) (hs : m.stk.length ≤ 40) (hk : m.pc = k) (hkn : k < n) (hn : n ≤ 400) (hbB : b < B) (hL1 : L1 = k + 1) (hL2 : L2 = k + 2) (h0 : w.cell? ⟨b, off + k, none⟩ = some (.int .i64 op)) (h1 : w.cell? ⟨b, off + L1, none⟩ = some (.int .i64 u)) (hn1 : L1 < n) (hnx : nx = (k : Int) + 1 + argN op) (t : Nat) (hut : u = t) (ht : t < m.cells.length) (hl2 : m.cells.length ≤ 80) (hf : 0 < m.stk.length) :
    Calls Try.prog 101 #[.slice (some ⟨b, off, none⟩) n c, .pointer (some ⟨p, 0, none⟩)] w fun e w' => e = .returned (.int .i64 (0)) ∧ (0 = 0 → RunS B w' p (atP (sto (pop m) t (tp m 0)) nx)) ∧ Below B w w' := by
  have HA : Hid (∀ W, Calls Try.prog 88 #[.int .i64 op] W fun e w' => e = .returned (.int .i64 1) ∧ w' = W) := fun W => by
    have := l8Args_any op W
    rwa [show argN op = 1 from by rw [hop]; rfl] at this
  have hT : (op == 1) = false ∧ (op == 2) = false ∧ (op == 3) = true := by subst hop; exact ⟨rfl, rfl, rfl⟩
  rw [show argN op = 1 from by rw [hop]; rfl] at hnx
  obtain ⟨sv0, cv0, hb0, _⟩ := id h
  have c0 := (RunS.cells hb0).1
  rw [hk] at c0
  have q0 : (0 : Int) ≤ (k : Int) := by omega
  have q1 : (k : Int) < (n : Int) := by omega
  have E1 : (k : Int) + 1 = (L1 : Int) := by omega
  have E2 : (k : Int) + 2 = (L2 : Int) := by omega
  have Z1 : IntKind.i64.wrap ((k : Int) + 1) = (L1 : Int) := by rw [IntWalk.i64_in _ ⟨by omega, by omega⟩]; omega
  have Z1b : IntKind.i64.wrap (L1 : Int) = (L1 : Int) := IntWalk.i64_in _ ⟨by omega, by omega⟩
  have Z2 : IntKind.i64.wrap ((k : Int) + 2) = (L2 : Int) := by rw [IntWalk.i64_in _ ⟨by omega, by omega⟩]; omega
  have Z2b : IntKind.i64.wrap (L2 : Int) = (L2 : Int) := IntWalk.i64_in _ ⟨by omega, by omega⟩
  have Z3 : IntKind.i64.wrap ((L1 : Int) + 1) = nx := by rw [IntWalk.i64_in _ ⟨by omega, by omega⟩]; omega
  have Z3b : IntKind.i64.wrap nx = nx := IntWalk.i64_in _ ⟨by omega, by omega⟩
  have E3 : (L1 : Int) + 1 = nx := by omega
  have p0 : (0 : Int) ≤ (L1 : Int) := by omega
  have p1 : (L1 : Int) < (n : Int) := by omega
  have HR0 : Hid (RunS B w p m) := h
  have HBW : Hid (b < w.heap.size) := by have := h.lt; show b < _; omega
  clear hb0 h hop hkn hn hnx hL1 hL2 hn1
  obtain ⟨e1, e2, e3⟩ := hT
  go_enter Try.func101, Try.ntmps101
  go_upto_region 3 with fail
  go_cut [7] from 23 (fun x W1 => x = .int .i64 nx ∧ W1 = w.drew)
  case first =>
    go_region_with (go_at_call 88; refine (HA.out _).mono ?_; rintro e w6 ⟨rfl, rfl⟩)
    all_goals
      go_wp2_with fail
      go_meet
      case rel => exact ⟨by simp [*], rfl⟩
  case rest =>
  obtain ⟨rfl, rfl⟩ := hcut
  have HR : Hid (RunS B w.drew p m) := HR0.out.heap rfl
  have HB : Hid (Below B w w.drew) := (Below.refl B w).drew
  have x1 : w.drew.cell? ⟨b, off + L1, none⟩ = some (.int .i64 u) := h1
  clear HR0 HA c0 h0 h1
  generalize w.drew = W at *
  subst hut
  go_upto_region 11 with (go_at_call 115; refine (l8Pop_any B p m _ HR.out hf hs).mono ?_; rintro e w3 ⟨rfl, hr, hb⟩)
  obtain ⟨sv, cv, hbl, hm⟩ := id hr
  obtain ⟨ac, c2, rfl⟩ := own_shape hm.cs
  obtain ⟨gc, hgc⟩ : ∃ gc, ac = some ⟨gc, 0, none⟩ := by
    rcases hm.cs.2 with ⟨_, q⟩ | ⟨gc, q2, cur, q, _⟩
    · have : m.cells.length = 0 := q
      omega
    · simp at q; exact ⟨gc, q.1⟩
  subst hgc
  have y2 := (RunS.cells hbl).2.2.1
  obtain ⟨y, hy⟩ : ∃ y, w3.cell? ⟨gc, t, none⟩ = some y := by
    rw [hm.cs.cellAt t (by rw [Nat.mul_one]; exact ht)]; exact ⟨_, List.getElem?_eq_getElem (by rw [List.length_map]; exact ht)⟩
  have hfr := hm.cs.frozenAt t
  have HS3 : Hid (∀ W2 : World, W2.heap = w3.heap → RunS B (W2.setCell ⟨gc, t, none⟩ (.int .i64 (tp m 0))) p (sto (pop m) t (tp m 0))) := fun W2 e => RunS.put (hbl := by rw [e]; exact hbl) (hm.heap e) t (tp m 0)
  have HGB : Hid (B ≤ gc) := hm.lt.2 gc rfl
  have yu : w3.cell? ⟨b, off + L1, none⟩ = some (.int .i64 (t : Int)) := (hb.cell (p := ⟨b, off + L1, none⟩) hbB).trans x1
  have HB3 : Hid (Below B w w3) := HB.out.trans hb
  have e9 : (pop m).cells.length = m.cells.length := rfl
  rw [e9] at y2
  clear hbl hm hr hb e9 HR HB
  generalize m.cells.length = nc at *
  have t0 : (0 : Int) ≤ (t : Int) := by omega
  have t1 : (t : Int) < (nc : Int) := by omega
  clear ht
  go_region
  have HRZ0 : Hid (RunS B (w3.setCell ⟨gc, t, none⟩ (.int .i64 (tp m 0))).drew p (sto (pop m) t (tp m 0))) := (HS3.out w3 rfl).heap rfl
  have HBZ0 : Hid (Below B w (w3.setCell ⟨gc, t, none⟩ (.int .i64 (tp m 0))).drew) := (HB3.out.setCell HGB.out _).drew
  clear HS3 y2 hy hfr yu
  first
    | generalize (w3.setCell ⟨gc, t, none⟩ (.int .i64 (tp m 0))).drew = w5 at *
  have HRZ : Hid (RunS B w5 p (sto (pop m) t (tp m 0))) := HRZ0
  have HBZ : Hid (Below B w w5) := HBZ0
  clear HRZ0 HBZ0
  obtain ⟨svz, cvz, hbz, _⟩ := id HRZ.out
  have z0 := (RunS.cells hbz).1
  have zf := frozen_of_row _ _ 0 _ _ hbz
  have HF : Hid (RunS B (w5.setCell ⟨p, 0, none⟩ (.int .i64 nx)) p (atP (sto (pop m) t (tp m 0)) nx)) := HRZ.out.fld (m' := atP (sto (pop m) t (tp m 0)) nx) 0 _ (fun _ _ => rfl) rfl rfl
  have HPB := HRZ.out.lt.1
  clear hbz
  go_wp2_with fail
  go_ret
  exact ⟨rfl, by first | exact HF.out | exact fun _ => HF.out, HBZ.out.setCell HPB _⟩

end Go.Proofs.Ytalopffpaepaaaa
