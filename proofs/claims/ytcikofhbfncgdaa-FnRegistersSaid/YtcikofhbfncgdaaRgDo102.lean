/-
  spec's l10Do: op 2.
-/
import Derived.Test.YtcikofhbfncgdaaInvM
import Derived.Test.YtcikofhbfncgdaaSBin
import Derived.Test.YtcikofhbfncgdaaRgHas
import Derived.Test.YtcikofhbfncgdaaDrawG
import Derived.Test.YtcikofhbfncgdaaWords0
import Derived.Test.YtcikofhbfncgdaaStkMem
import Derived.Deep.Cut
import Derived.Deep.DrawnRows
import Derived.Deep.QuietTactic
import Derived.BigQuiet
namespace Go.Proofs.Ytcikofhbfncgdaa
open Go.RowKit
set_option linter.unusedVariables false

abbrev resS (c v : Int) : Value := .agg #[.int .i64 c, .int .i64 v]
set_option maxHeartbeats 800000 in
theorem specInv_any (op a b : Int) (w : World) : Calls Try.prog 164 #[.int .i64 op, .int .i64 a, .int .i64 b] w fun e w' => e = .returned (resS (invC op b) (invV op a b)) ∧ Below w.heap.size w w' := by
  have hl := l2_any op (cm a) (cm b)
  by_cases hc : binC op (cm b) = 0
  · have hv : invV op a b = cm (binV op (cm a) (cm b)) := if_pos hc
    have hC : invC op b = 0 := hc
    rw [hv, hC]
    rw [hc] at hl
    have HL : Hid (∀ w, Calls Try.prog 156 #[.int .i64 op, .int .i64 (cm a), .int .i64 (cm b)] w fun e w' => e = .returned (.tuple #[.int .i64 (binV op (cm a) (cm b)), .int .i64 0]) ∧ w' = w) := hl
    clear hc hv hC hl
    generalize binV op (cm a) (cm b) = V at *
    have h1 := cm_lo V
    have h2 := cm_hi V
    go_enter Try.func164, Try.ntmps164
    go_wp2_with (first | (go_at_call 124; refine (specComplement _ _).mono ?_; rintro e w' ⟨rfl, rfl⟩) | (go_at_call 156; refine (HL.out _).mono ?_; rintro e w' ⟨rfl, rfl⟩))
    go_returns
    exact ⟨rfl, by go_grown⟩
  · have hv : invV op a b = 0 := if_neg hc
    have hC : invC op b = binC op (cm b) := rfl
    rw [hv, hC]
    have HL : Hid (∀ w, Calls Try.prog 156 #[.int .i64 op, .int .i64 (cm a), .int .i64 (cm b)] w fun e w' => e = .returned (.tuple #[.int .i64 (binV op (cm a) (cm b)), .int .i64 (binC op (cm b))]) ∧ w' = w) := hl
    have hnb : (binC op (cm b) != 0) = true := by simpa using hc
    clear hc hv hC hl
    generalize binC op (cm b) = C at *
    generalize binV op (cm a) (cm b) = V at *
    go_enter Try.func164, Try.ntmps164
    go_wp2_with (first | (go_at_call 124; refine (specComplement _ _).mono ?_; rintro e w' ⟨rfl, rfl⟩) | (go_at_call 156; refine (HL.out _).mono ?_; rintro e w' ⟨rfl, rfl⟩))
    go_returns
    exact ⟨rfl, by go_grown⟩
end Go.Proofs.Ytcikofhbfncgdaa
namespace Go.Proofs.Ytcikofhbfncgdaa
open Go.RowKit
set_option linter.unusedVariables false
attribute [local go_sem ↓] Go.wp_at_zero Go.wp_at_succ

/-- the row of the registers lies in a block -/
theorem RunT.rows {B p : Nat} {w : World} {m : SM} (h : RunT B w p m) (hr : m.stk.length = 24) : ∃ gr cr a2 c2, w.heap[p]? = some (.cells (lineS m (.slice (some ⟨gr, 0, none⟩) 24 cr) (.slice a2 m.cells.length c2)) 28 (0, 0)) ∧ MemO B w p (.slice (some ⟨gr, 0, none⟩) 24 cr) (.slice a2 m.cells.length c2) m ∧ B ≤ gr ∧ gr ≠ p := by
  obtain ⟨sv, cv, hb, hm⟩ := h
  obtain ⟨a1, c1, rfl⟩ := own_shape hm.ss
  obtain ⟨a2, c2, rfl⟩ := own_shape hm.cs
  obtain ⟨gr, hgr⟩ : ∃ gr, a1 = some ⟨gr, 0, none⟩ := by
    rcases hm.ss.2 with ⟨_, q⟩ | ⟨gc, q2, cur, q, _⟩
    · have : m.stk.length = 0 := q
      omega
    · simp at q; exact ⟨gc, q.1⟩
  subst hgr
  rw [hr] at hb hm
  exact ⟨gr, c1, a2, c2, hb, hm, hm.lt.1 gr rfl, fun e => hm.d1 (by rw [← e]; rfl)⟩
/-- a register's cell -/
theorem MemO.rcell {B p gr cr : Nat} {w : World} {cv : Value} {m : SM} (h : MemO B w p (.slice (some ⟨gr, 0, none⟩) 24 cr) cv m) {i : Nat} (hi : i < 24) : w.cell? ⟨gr, i, none⟩ = some (.int .i64 (m.stk.getD i 0)) ∧ w.frozen? ⟨gr, i, none⟩ = false := by
  have hl : 24 = m.stk.length := own_len h.ss
  have hss := h.ss
  unfold Own at hss
  rw [← hl] at hss
  refine ⟨?_, hss.frozenAt i⟩
  rw [hss.cellAt i (by rw [Nat.mul_one]; omega), List.getElem?_map, List.getElem?_eq_getElem (by omega), List.getD_eq_getElem?_getD, List.getElem?_eq_getElem (by omega)]
  rfl
/-- a cell's cell -/
theorem MemO.ccell {B p n c2 : Nat} {a2 : Option Addr} {w : World} {sv : Value} {m : SM} (h : MemO B w p sv (.slice a2 n c2) m) {i : Nat} (hi : i < m.cells.length) : ∃ gc, a2 = some ⟨gc, 0, none⟩ ∧ w.cell? ⟨gc, i, none⟩ = some (.int .i64 (m.cells.getD i 0)) ∧ w.frozen? ⟨gc, i, none⟩ = false ∧ B ≤ gc := by
  have hn := own_len h.cs
  subst hn
  obtain ⟨gc, hgc⟩ : ∃ gc, a2 = some ⟨gc, 0, none⟩ := by
    rcases h.cs.2 with ⟨_, q⟩ | ⟨gc, q2, cur, q, _⟩
    · have : m.cells.length = 0 := q
      omega
    · simp at q; exact ⟨gc, q.1⟩
  subst hgc
  refine ⟨gc, rfl, ?_, h.cs.frozenAt i, h.lt.2 gc rfl⟩
  rw [h.cs.cellAt i (by rw [Nat.mul_one]; omega), List.getElem?_map, List.getElem?_eq_getElem (by omega), List.getD_eq_getElem?_getD, List.getElem?_eq_getElem (by omega)]
  rfl
/-- a word is stored into a register -/
theorem RunT.reg {B p gr cr i : Nat} {w : World} {cv : Value} {m : SM} (hb : w.heap[p]? = some (.cells (lineS m (.slice (some ⟨gr, 0, none⟩) 24 cr) cv) 28 (0, 0))) (hm : MemO B w p (.slice (some ⟨gr, 0, none⟩) 24 cr) cv m) (x : Int) : RunT B (w.setCell ⟨gr, i, none⟩ (.int .i64 x)) p (str m i x) := by
  have hgp : p ≠ gr := fun e => hm.d1 (by rw [← e]; rfl)
  have hb2 : (w.setCell ⟨gr, i, none⟩ (.int .i64 x)).heap[p]? = w.heap[p]? := heap_setCell_other _ _ _ _ hgp
  have := MemO.reg (k := i) hm x
  exact ⟨_, cv, hb2.trans hb, this⟩
/-- a word is stored into a cell -/
theorem RunT.cel {B p gc n c2 i : Nat} {w : World} {sv : Value} {m : SM} (hb : w.heap[p]? = some (.cells (lineS m sv (.slice (some ⟨gc, 0, none⟩) n c2)) 28 (0, 0))) (hm : MemO B w p sv (.slice (some ⟨gc, 0, none⟩) n c2) m) (x : Int) : RunT B (w.setCell ⟨gc, i, none⟩ (.int .i64 x)) p (stc m i x) := by
  have hgp : p ≠ gc := fun e => hm.d2 (by rw [← e]; rfl)
  have hb2 : (w.setCell ⟨gc, i, none⟩ (.int .i64 x)).heap[p]? = w.heap[p]? := heap_setCell_other _ _ _ _ hgp
  have := MemO.put (k := i) hm x
  exact ⟨sv, _, hb2.trans hb, this⟩

theorem last7 {A B C D E F G : Prop} (h : A ∧ B ∧ C ∧ D ∧ E ∧ F ∧ G) : G := h.2.2.2.2.2.2
def sigR (m : SM) (k : Int) : SM := { m with sig := sgn m.sig k }
def doneR (m : SM) : SM := { m with done := true }
theorem set_self : ∀ (l : List Int) (i : Nat), l.set i (l.getD i 0) = l
  | [], _ => rfl
  | x :: l, 0 => rfl
  | x :: l, i + 1 => by
    show x :: l.set i ((x :: l).getD (i + 1) 0) = x :: l
    rw [show (x :: l).getD (i + 1) 0 = l.getD i 0 from by simp [List.getD_eq_getElem?_getD], set_self l i]
theorem str_self (m : SM) (i : Nat) : str m i (m.stk.getD i 0) = m := by
  unfold str
  rw [Int.toNat_natCast, set_self]
set_option maxHeartbeats 1600000 in
theorem l10Row_any (p : Nat) (m : SM) (sv cv : Value) (f s i : Int) (w : World) (hp : w.heap[p]? = some (.cells (lineS m sv cv) 28 (0, 0))) (hc : RowV w cv m.cells) (hl : m.cells.length ≤ 80) (hf0 : 0 ≤ f) (hf1 : f ≤ 65535) (hs0 : 0 ≤ s) (hs1 : s ≤ 65535) :
    Calls Try.prog 146 #[.pointer (some ⟨p, 0, none⟩), .int .i64 f, .int .i64 s, .int .i64 i] w fun e w' => e = .returned (.tuple #[.int .i64 (itV m.cells.length f s (cm i)), .int .i64 (itC m.cells.length f s (cm i))]) ∧ w' = w := by
  have HCM : Hid (∀ W, Calls Try.prog 124 #[.int .i64 i] W fun e w' => e = .returned (.int .i64 (cm i)) ∧ w' = W) := specComplement i
  generalize cm i = j at *
  have HS : Hid (∀ W, Calls Try.prog 163 #[.int .i64 j] W fun e w' => e = .returned (.int .i64 (sg j)) ∧ w' = W) := specSignedOf j
  obtain ⟨a, c, rfl, _, _⟩ := hc
  have c2 := (RunT.cells hp).2.2.1
  have h1 := sg_lo j
  have h2 := sg_hi j
  have HE : Hid ((itC m.cells.length f s j = if inB (sg j) 0 (s - 1) then (if f + sg j < m.cells.length then 0 else 1) else 3) ∧ (itV m.cells.length f s j = if itC m.cells.length f s j = 0 then f + sg j else 0)) := ⟨rfl, rfl⟩
  generalize itC m.cells.length f s j = C at *
  generalize itV m.cells.length f s j = V at *
  generalize m.cells.length = n at *
  generalize sg j = k at *
  have HI : Hid (∀ W, Calls Try.prog 71 #[.int .i64 k, .int .i64 0, .int .i64 (s - 1)] W fun e w' => e = .returned (.bool (inB k 0 (s - 1))) ∧ w' = W) := l1In_any k 0 (s - 1)
  clear hp
  cases hq : inB k 0 (s - 1)
  · have eC : C = 3 := by rw [HE.out.1, hq]; rfl
    have eV : V = 0 := by rw [HE.out.2, eC]; rfl
    rw [hq] at HI
    subst eC eV
    clear HE hq
    go_enter Try.func146, Try.ntmps146
    go_wp2_with (first | (go_at_call 124; refine (HCM.out _).mono ?_; rintro e w1 ⟨rfl, rfl⟩) | (go_at_call 163; refine (HS.out _).mono ?_; rintro e w1 ⟨rfl, rfl⟩) | (go_at_call 71; refine (HI.out _).mono ?_; rintro e w1 ⟨rfl, rfl⟩))
    go_returns
    exact ⟨rfl, rfl⟩
  · have hk := (inB_iff.1 hq).1
    rw [hq] at HI
    by_cases hlt : f + k < n
    · have eC : C = 0 := by rw [HE.out.1, hq, if_pos rfl, if_pos hlt]
      have eV : V = f + k := by rw [HE.out.2, eC]; rfl
      subst eC eV
      clear HE hq
      go_enter Try.func146, Try.ntmps146
      go_wp2_with (first | (go_at_call 124; refine (HCM.out _).mono ?_; rintro e w1 ⟨rfl, rfl⟩) | (go_at_call 163; refine (HS.out _).mono ?_; rintro e w1 ⟨rfl, rfl⟩) | (go_at_call 71; refine (HI.out _).mono ?_; rintro e w1 ⟨rfl, rfl⟩))
      go_returns
      exact ⟨rfl, rfl⟩
    · have eC : C = 1 := by rw [HE.out.1, hq, if_pos rfl, if_neg hlt]
      have eV : V = 0 := by rw [HE.out.2, eC]; rfl
      subst eC eV
      clear HE hq
      go_enter Try.func146, Try.ntmps146
      go_wp2_with (first | (go_at_call 124; refine (HCM.out _).mono ?_; rintro e w1 ⟨rfl, rfl⟩) | (go_at_call 163; refine (HS.out _).mono ?_; rintro e w1 ⟨rfl, rfl⟩) | (go_at_call 71; refine (HI.out _).mono ?_; rintro e w1 ⟨rfl, rfl⟩))
      go_returns
      exact ⟨rfl, rfl⟩
end Go.Proofs.Ytcikofhbfncgdaa
namespace Go.Proofs.Ytcikofhbfncgdaa
open Go.RowKit
set_option linter.unusedVariables false
attribute [local go_sem ↓] Go.wp_at_zero Go.wp_at_succ

set_option maxHeartbeats 3200000 in
set_option maxRecDepth 100000 in
theorem rdo_1 (B p b off n c k L i0 : Nat) (m : SM) (x1 nx : Int) (w : World) (h : RunT B w p m) (hg : RGood m) (hk : m.pc = k) (hkn : k + 2 < n) (hn : n ≤ 400) (hnc : n ≤ c) (hbB : b < B) (hL : L = k + 1) (hnx : nx = (k : Int) + 1 + 2) (h0 : w.cell? ⟨b, off + k, none⟩ = some (.int .i64 1)) (h1 : w.cell? ⟨b, off + L, none⟩ = some (.int .i64 ((i0 : Nat) : Int))) (h2 : w.cell? ⟨b, off + L + 1, none⟩ = some (.int .i64 x1)) (r0 : i0 < 24) :
    Calls Try.prog 123 #[.slice (some ⟨b, off, none⟩) n c, .pointer (some ⟨p, 0, none⟩)] w fun e w' => e = .returned (.int .i64 0) ∧ (0 = 0 → RunT B w' p (atP (str m i0 x1) nx)) ∧ Below B w w' := by
  have HA : Hid (∀ W, Calls Try.prog 93 #[.int .i64 1] W fun e w' => e = .returned (.int .i64 2) ∧ w' = W) := fun W => l10Args_any 1 W
  obtain ⟨gr, cr, a2, c2, hb0, hm0, hgr, hgp⟩ := h.rows hg.rl
  obtain ⟨c0, -⟩ := RunT.cells hb0
  rw [hk] at c0
  have q0 : (0 : Int) ≤ (k : Int) := by omega
  have q1 : (k : Int) < (n : Int) := by omega
  have E1 : (k : Int) + 1 = (L : Int) := by omega
  have Z1 : IntKind.i64.wrap ((k : Int) + 1) = (L : Int) := by rw [IntWalk.i64_in _ ⟨by omega, by omega⟩]; omega
  have Z1b : IntKind.i64.wrap (L : Int) = (L : Int) := IntWalk.i64_in _ ⟨by omega, by omega⟩
  obtain ⟨H, hH⟩ : ∃ H : Nat, H = L + 2 := ⟨_, rfl⟩
  have Z3 : IntKind.i64.wrap ((L : Int) + 2) = (H : Int) := by rw [IntWalk.i64_in _ ⟨by omega, by omega⟩]; omega
  have p0 : (0 : Int) ≤ (L : Int) := by omega
  have p1 : (L : Int) ≤ (H : Int) := by omega
  have p2 : (H : Int) ≤ (c : Int) := by omega
  have p3 : (0 : Int) ≤ (H : Int) := by omega
  have p4 : ¬ (L = c) := by omega
  have p5 : ¬ (c = L) := by omega
  have p6 : (c == L) = false := by rw [beq_eq_false_iff_ne]; omega
  have p7 : (L == c) = false := by rw [beq_eq_false_iff_ne]; omega
  have HHL : Hid (H - L = 2) := by show _ = _; omega
  have hnx2 : nx = (H : Int) := by omega
  have HROW := hid hb0
  have HMEM := hid hm0
  have HPB := hid h.lt
  have HGR := hid hgr
  have HGP := hid hgp
  have HBB := hid hbB
  have HCL := hid hg.cl
  subst hnx2
  clear h hg hk hkn hn hnc hL hnx hb0 hm0 hgr hgp hbB hH
  go_enter Try.func123, Try.ntmps123
  go_upto_region 2 with fail
  go_region_held3 (fun Z => Z.cell? ⟨p, 0, none⟩ = some (.int .i64 (k : Int))) (go_keep) (first | (go_at_call 93; refine (HA.out _).mono ?_; rintro e w6 ⟨rfl, rfl⟩) | fail)
  rw [HHL.out]
  have c0 : w.drew.cell? ⟨p, 0, none⟩ = some (.int .i64 k) := c0
  go_upto_region 3 with fail
  go_region_held3 (fun Z => Z.cell? ⟨p, 0, none⟩ = some (.int .i64 (k : Int))) (go_keep) (first | (go_at_call 93; refine (HA.out _).mono ?_; rintro e w6 ⟨rfl, rfl⟩) | fail)
  have HROW2 : Hid (w.drew.drew.heap[p]? = some (.cells (lineS m (.slice (some ⟨gr, 0, none⟩) 24 cr) (.slice a2 m.cells.length c2)) 28 (0, 0))) := HROW.out
  have HMEM2 : Hid (MemO B w.drew.drew p (.slice (some ⟨gr, 0, none⟩) 24 cr) (.slice a2 m.cells.length c2) m) := HMEM.out.heap rfl
  have HB : Hid (Below B w w.drew.drew) := (Below.refl B w).drew.drew
  have y0 : w.drew.drew.cell? ⟨b, off + L, none⟩ = some (.int .i64 ((i0 : Nat) : Int)) := h1
  have y1 : w.drew.drew.cell? ⟨b, off + L + 1, none⟩ = some (.int .i64 x1) := h2
  have HBL : Hid (p < w.drew.drew.heap.size) := HPB.out.2
  clear HROW HMEM HA c0 h0 h1 h2 Z1 Z1b E1 Z3
  generalize w.drew.drew = W at *
  obtain ⟨-, d1, d2, d3, -, -, -⟩ := RunT.cells HROW2.out
  have ri0 : ((i0 : Nat) : Int) < 24 := by omega
  have rz0 : (0 : Int) ≤ ((i0 : Nat) : Int) := by omega
  obtain ⟨rc0, rf0⟩ := HMEM2.out.rcell r0
  go_upto_region 6 with fail
  go_region
  have HRZ0 : Hid (RunT B ((W.setCell ⟨gr, i0, none⟩ (.int .i64 x1)).drew) p (str m i0 x1)) := (RunT.reg HROW2.out HMEM2.out x1).heap rfl
  have HBZ0 : Hid (Below B w ((W.setCell ⟨gr, i0, none⟩ (.int .i64 x1)).drew)) := (HB.out.setCell (p := ⟨gr, i0, none⟩) HGR.out _).drew
  clear HROW2 HMEM2 HB rc0 rf0 y0 y1 d1 d2 d3
  generalize (W.setCell ⟨gr, i0, none⟩ (.int .i64 x1)).drew = WZ at *
  have HRZ := HRZ0
  have HBZ := HBZ0
  obtain ⟨svz, cvz, hbz, _⟩ := id HRZ.out
  have z0 := (RunT.cells hbz).1
  have zf := frozen_of_row _ _ 0 _ _ hbz
  have HF : Hid (RunT B (WZ.setCell ⟨p, 0, none⟩ (.int .i64 (H : Int))) p (atP (str m i0 x1) (H : Int))) := HRZ.out.fld (m' := atP (str m i0 x1) (H : Int)) 0 _ (fun _ _ => rfl) rfl rfl
  have HPZ := HRZ.out.lt.1
  clear hbz
  go_wp2_with fail
  go_ret
  first | exact ⟨rfl, fun _ => HF.out, HBZ.out.setCell HPZ _⟩ | exact ⟨rfl, HF.out, HBZ.out.setCell HPZ _⟩
end Go.Proofs.Ytcikofhbfncgdaa
namespace Go.Proofs.Ytcikofhbfncgdaa
open Go.RowKit
set_option linter.unusedVariables false
attribute [local go_sem ↓] Go.wp_at_zero Go.wp_at_succ

set_option maxHeartbeats 3200000 in
set_option maxRecDepth 100000 in
theorem rdo_2 (B p b off n c k L i0 i1 : Nat) (m : SM) (nx : Int) (w : World) (h : RunT B w p m) (hg : RGood m) (hk : m.pc = k) (hkn : k + 2 < n) (hn : n ≤ 400) (hnc : n ≤ c) (hbB : b < B) (hL : L = k + 1) (hnx : nx = (k : Int) + 1 + 2) (h0 : w.cell? ⟨b, off + k, none⟩ = some (.int .i64 2)) (h1 : w.cell? ⟨b, off + L, none⟩ = some (.int .i64 ((i0 : Nat) : Int))) (h2 : w.cell? ⟨b, off + L + 1, none⟩ = some (.int .i64 ((i1 : Nat) : Int))) (r0 : i0 < 24) (r1 : i1 < m.cells.length) :
    Calls Try.prog 123 #[.slice (some ⟨b, off, none⟩) n c, .pointer (some ⟨p, 0, none⟩)] w fun e w' => e = .returned (.int .i64 0) ∧ (0 = 0 → RunT B w' p (atP (str m i0 (m.cells.getD i1 0)) nx)) ∧ Below B w w' := by
  have HA : Hid (∀ W, Calls Try.prog 93 #[.int .i64 2] W fun e w' => e = .returned (.int .i64 2) ∧ w' = W) := fun W => l10Args_any 2 W
  obtain ⟨gr, cr, a2, c2, hb0, hm0, hgr, hgp⟩ := h.rows hg.rl
  obtain ⟨c0, -⟩ := RunT.cells hb0
  rw [hk] at c0
  have q0 : (0 : Int) ≤ (k : Int) := by omega
  have q1 : (k : Int) < (n : Int) := by omega
  have E1 : (k : Int) + 1 = (L : Int) := by omega
  have Z1 : IntKind.i64.wrap ((k : Int) + 1) = (L : Int) := by rw [IntWalk.i64_in _ ⟨by omega, by omega⟩]; omega
  have Z1b : IntKind.i64.wrap (L : Int) = (L : Int) := IntWalk.i64_in _ ⟨by omega, by omega⟩
  obtain ⟨H, hH⟩ : ∃ H : Nat, H = L + 2 := ⟨_, rfl⟩
  have Z3 : IntKind.i64.wrap ((L : Int) + 2) = (H : Int) := by rw [IntWalk.i64_in _ ⟨by omega, by omega⟩]; omega
  have p0 : (0 : Int) ≤ (L : Int) := by omega
  have p1 : (L : Int) ≤ (H : Int) := by omega
  have p2 : (H : Int) ≤ (c : Int) := by omega
  have p3 : (0 : Int) ≤ (H : Int) := by omega
  have p4 : ¬ (L = c) := by omega
  have p5 : ¬ (c = L) := by omega
  have p6 : (c == L) = false := by rw [beq_eq_false_iff_ne]; omega
  have p7 : (L == c) = false := by rw [beq_eq_false_iff_ne]; omega
  have HHL : Hid (H - L = 2) := by show _ = _; omega
  have hnx2 : nx = (H : Int) := by omega
  have HROW := hid hb0
  have HMEM := hid hm0
  have HPB := hid h.lt
  have HGR := hid hgr
  have HGP := hid hgp
  have HBB := hid hbB
  have HCL := hid hg.cl
  subst hnx2
  generalize hzz : m.cells.getD i1 0 = z
  have HZZ := hid hzz
  clear hzz
  clear h hg hk hkn hn hnc hL hnx hb0 hm0 hgr hgp hbB hH
  go_enter Try.func123, Try.ntmps123
  go_upto_region 2 with fail
  go_region_held3 (fun Z => Z.cell? ⟨p, 0, none⟩ = some (.int .i64 (k : Int))) (go_keep) (first | (go_at_call 93; refine (HA.out _).mono ?_; rintro e w6 ⟨rfl, rfl⟩) | fail)
  rw [HHL.out]
  have c0 : w.drew.cell? ⟨p, 0, none⟩ = some (.int .i64 k) := c0
  go_upto_region 3 with fail
  go_region_held3 (fun Z => Z.cell? ⟨p, 0, none⟩ = some (.int .i64 (k : Int))) (go_keep) (first | (go_at_call 93; refine (HA.out _).mono ?_; rintro e w6 ⟨rfl, rfl⟩) | fail)
  have HROW2 : Hid (w.drew.drew.heap[p]? = some (.cells (lineS m (.slice (some ⟨gr, 0, none⟩) 24 cr) (.slice a2 m.cells.length c2)) 28 (0, 0))) := HROW.out
  have HMEM2 : Hid (MemO B w.drew.drew p (.slice (some ⟨gr, 0, none⟩) 24 cr) (.slice a2 m.cells.length c2) m) := HMEM.out.heap rfl
  have HB : Hid (Below B w w.drew.drew) := (Below.refl B w).drew.drew
  have y0 : w.drew.drew.cell? ⟨b, off + L, none⟩ = some (.int .i64 ((i0 : Nat) : Int)) := h1
  have y1 : w.drew.drew.cell? ⟨b, off + L + 1, none⟩ = some (.int .i64 ((i1 : Nat) : Int)) := h2
  have HBL : Hid (p < w.drew.drew.heap.size) := HPB.out.2
  clear HROW HMEM HA c0 h0 h1 h2 Z1 Z1b E1 Z3
  generalize w.drew.drew = W at *
  obtain ⟨-, d1, d2, d3, -, -, -⟩ := RunT.cells HROW2.out
  have ri0 : ((i0 : Nat) : Int) < 24 := by omega
  have rz0 : (0 : Int) ≤ ((i0 : Nat) : Int) := by omega
  obtain ⟨rc0, rf0⟩ := HMEM2.out.rcell r0
  have rj1 : ((i1 : Nat) : Int) < (m.cells.length : Int) := by omega
  have rz1 : (0 : Int) ≤ ((i1 : Nat) : Int) := by omega
  obtain ⟨gc, hgc, cc1, cf1, hgcB⟩ := HMEM2.out.ccell r1
  have HGC := hid hgcB
  have HA2 := hid hgc
  subst hgc
  generalize hnc2 : m.cells.length = nc at *
  rw [HZZ.out] at cc1
  clear HZZ
  generalize m.stk.getD i0 0 = z0 at *
  clear r1
  go_upto_region 8 with fail
  go_region
  have HRZ0 : Hid (RunT B ((W.setCell ⟨gr, i0, none⟩ (.int .i64 z)).drew) p (str m i0 z)) := (RunT.reg HROW2.out HMEM2.out _).heap rfl
  have HBZ0 : Hid (Below B w ((W.setCell ⟨gr, i0, none⟩ (.int .i64 z)).drew)) := (HB.out.setCell (p := ⟨gr, i0, none⟩) HGR.out _).drew
  clear HROW2 HMEM2 HB rc0 rf0 y0 y1 d1 d2 d3 cc1 cf1
  generalize (W.setCell ⟨gr, i0, none⟩ (.int .i64 z)).drew = WZ at *
  have HRZ := HRZ0
  have HBZ := HBZ0
  obtain ⟨svz, cvz, hbz, _⟩ := id HRZ.out
  have z0 := (RunT.cells hbz).1
  have zf := frozen_of_row _ _ 0 _ _ hbz
  have HF : Hid (RunT B (WZ.setCell ⟨p, 0, none⟩ (.int .i64 (H : Int))) p (atP (str m i0 z) (H : Int))) := HRZ.out.fld (m' := atP (str m i0 z) (H : Int)) 0 _ (fun _ _ => rfl) rfl rfl
  have HPZ := HRZ.out.lt.1
  clear hbz
  go_wp2_with fail
  go_ret
  first | exact ⟨rfl, fun _ => HF.out, HBZ.out.setCell HPZ _⟩ | exact ⟨rfl, HF.out, HBZ.out.setCell HPZ _⟩
end Go.Proofs.Ytcikofhbfncgdaa
