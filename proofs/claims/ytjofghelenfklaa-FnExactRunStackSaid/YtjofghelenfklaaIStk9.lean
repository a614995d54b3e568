/-
  impl's step: the instruction, what is told, what is done: by contracts alone.
-/
import Derived.Test.YtjofghelenfklaaIStk4
import Derived.Test.YtjofghelenfklaaIStk5
import Derived.Test.YtjofghelenfklaaIStk6
import Derived.Test.YtjofghelenfklaaIStk7
import Derived.Test.YtjofghelenfklaaIDoA
import Derived.Test.YtjofghelenfklaaIDoB
import Derived.Test.YtjofghelenfklaaIDoC
import Derived.Test.YtjofghelenfklaaIDoD
import Derived.Test.YtjofghelenfklaaIDoE
namespace Go.Proofs.Ytjofghelenfklaa
open Go.RowKit
set_option linter.unusedVariables false

theorem instr_n (a : Option Addr) (zs : List Int) (c k : Nat) (w : World) (hn : Nums w a zs) (hl : zs.length ≤ 400) (hk : k ≤ 65535) (hr : readyB zs k = false) :
    Calls Try.prog 108 #[.slice a zs.length c, .int .i64 k, argsF] w fun e w' => e = .returned (.tuple #[oneZ, .bool false]) ∧ Below w.heap.size w w' := by
  by_cases hlt : k < zs.length
  · rcases hn with hn | ⟨b, off, rfl, hcc⟩
    · rw [hn] at hlt; simp at hlt
    refine instr_no2 b off zs.length c k (zs.getD k 0) w hlt hl (hcc k hlt) ?_
    unfold readyB at hr
    rw [decide_eq_true (by omega : (k : Int) < zs.length), Bool.true_and, Int.toNat_natCast] at hr
    cases hq : inB (zs.getD k 0) 1 13
    · exact .inl rfl
    · rw [hq, Bool.true_and] at hr
      exact .inr ⟨rfl, by have := of_decide_eq_false hr; omega⟩
  · exact instr_no1 a zs.length c k w (by omega) hk hl
theorem instr_r (B : Nat) (a : Option Addr) (zs : List Int) (c k : Nat) (w : World) (hn : Nums w a zs) (hB : ∀ b off, a = some ⟨b, off, none⟩ → b < B) (hl : zs.length ≤ 400) (hc : zs.length ≤ c) (hr : readyB zs k = true) (hBw : B ≤ w.heap.size) :
    Calls Try.prog 108 #[.slice a zs.length c, .int .i64 k, argsF] w fun e w' => ∃ wv, e = .returned (.tuple #[oneV (zs.getD k 0) wv ((k : Int) + 1 + argN (zs.getD k 0)), .bool true]) ∧ WordsV B w' wv (zs.getD k 0) (zs.getD (k + 1) 0) (zs.getD (k + 2) 0) ∧ Below w.heap.size w w' := by
  have hq := ready_of hr
  simp only [Int.toNat_natCast] at hq
  obtain ⟨h1, h2, h3, h4⟩ := hq
  have hA := argN_lo (zs.getD k 0)
  obtain ⟨A, hAn⟩ := Int.eq_ofNat_of_zero_le hA.1
  rcases hn with hn | ⟨b, off, rfl, hcc⟩
  · rw [hn] at h1; simp at h1; omega
  refine (instr_yes b off zs.length c k A (zs.getD k 0) w (by omega) hl hc (hcc k (by omega)) (inB_iff.2 ⟨h2, h3⟩) hAn (by omega)).mono ?_
  rintro e w' ⟨a2, c2, rfl, ha2, hb⟩
  refine ⟨_, by rw [hAn], ⟨a2, c2, by rw [hAn]; rfl, fun h => ⟨b, off + (k + 1), ha2 (by omega), hB b off rfl, ?_, fun h2 => ?_⟩⟩, hb⟩
  · exact (hb.cell (p := ⟨b, off + (k + 1), none⟩) (by have := hB b off rfl; show b < _; omega)).trans (hcc (k + 1) (by omega))
  · exact (hb.cell (p := ⟨b, off + (k + 1) + 1, none⟩) (by have := hB b off rfl; show b < _; omega)).trans (hcc (k + 2) (by omega))

set_option maxHeartbeats 1600000 in
set_option maxRecDepth 100000 in
theorem told_no (p : Nat) (op nx : Int) (n c : Nat) (a : Option Addr) (w : World) (hop : op < 2 ∨ 6 < op) :
    Calls Try.prog 119 #[.pointer (some ⟨p, 0, none⟩), oneV op (.slice a n c) nx] w fun e w' => e = .returned (ir 0 0) ∧ Below w.heap.size w w' := by
  have hT : (op == 2) = false ∧ (op == 3) = false ∧ (op == 4) = false ∧ (op == 5) = false ∧ (op == 6) = false := by
    refine ⟨?_, ?_, ?_, ?_, ?_⟩ <;> (rw [beq_eq_false_iff_ne]; omega)
  clear hop
  obtain ⟨e2, e3, e4, e5, e6⟩ := hT
  go_enter Try.func119, Try.ntmps119
  go_wp2_with fail
  refine bodyPost_ret (v := ir 0 0) (by simp [results, Try.results119, go_sem]) rfl ⟨rfl, ?_⟩
  go_grown

theorem told_any (B p : Nat) (m : SM) (op u v nx : Int) (wv : Value) (w : World) (h : RunI B w p m) (hg : Good m) (h1 : 1 ≤ op) (h13 : op ≤ 13) (hf : fitsB m.stk.length op = true) (hw : WordsV B w wv op u v) (hu0 : 0 ≤ u) (hu1 : u ≤ 65535) (hv0 : 0 ≤ v) (hv1 : v ≤ 65535) :
    Calls Try.prog 119 #[.pointer (some ⟨p, 0, none⟩), oneV op wv nx] w fun e w' => e = .returned (ir (toldC op u v m) (toldV op u v m)) ∧ Below w.heap.size w w' := by
  have hF := (fits_of hf).1
  by_cases h23 : op = 2 ∨ op = 3
  · exact told_23 B p m op u v nx wv w h23 h hg.cl hw hu0
  by_cases h4 : op = 4
  · have eC : toldC op u v m = itemC m.cells.length u v (tp m 0) := by unfold toldC; rw [if_neg h23, if_pos h4]
    have eV : toldV op u v m = itemV m.cells.length u v (tp m 0) := by unfold toldV; rw [if_neg h23, if_pos h4]
    rw [eC, eV]
    exact told_4 B p m op u v nx wv w h4 h hg.cl hg.sl (by subst h4; have : tkN 4 = 1 := rfl; omega) hw hu0 hu1 hv0 hv1
  by_cases h5 : op = 5
  · have eC : toldC op u v m = itemC m.cells.length u v (tp m 1) := by unfold toldC; rw [if_neg h23, if_neg h4, if_pos h5]
    have eV : toldV op u v m = itemV m.cells.length u v (tp m 1) := by unfold toldV; rw [if_neg h23, if_neg h4, if_pos h5]
    rw [eC, eV]
    exact told_5 B p m op u v nx wv w h5 h hg.cl hg.sl (by subst h5; have : tkN 5 = 2 := rfl; omega) hw hu0 hu1 hv0 hv1
  by_cases h6 : op = 6
  · have eC : toldC op u v m = twoC u (tp m 0) := by unfold toldC; rw [if_neg h23, if_neg h4, if_neg h5, if_pos h6]
    have eV : toldV op u v m = binV u (tp m 1) (tp m 0) := by unfold toldV; rw [if_neg h23, if_neg h4, if_neg h5, if_pos h6]
    rw [eC, eV]
    exact told_6 B p m op u v nx wv w h6 h hg.cl hg.sl (by subst h6; have : tkN 6 = 2 := rfl; omega) hw
  have eC : toldC op u v m = 0 := by unfold toldC; rw [if_neg h23, if_neg h4, if_neg h5, if_neg h6]
  have eV : toldV op u v m = 0 := by unfold toldV; rw [if_neg h23, if_neg h4, if_neg h5, if_neg h6]
  rw [eC, eV]
  obtain ⟨a, c, rfl, _⟩ := hw
  exact told_no p op nx _ c a w (by omega)

theorem do_any (B p : Nat) (m : SM) (op u v nx : Int) (t : Nat) (wv : Value) (w : World) (h : RunI B w p m) (hg : Good m) (h1 : 1 ≤ op) (h13 : op ≤ 13) (hf : fitsB m.stk.length op = true) (ht : op = 2 ∨ op = 3 ∨ op = 4 ∨ op = 5 → t < m.cells.length) (hw : WordsV B w wv op u v) :
    Calls Try.prog 120 #[.pointer (some ⟨p, 0, none⟩), oneV op wv nx, .int .i64 t] w fun e w' => e = .returned (.tuple #[]) ∧ RunI B w' p (doM op u t m) ∧ Below B w w' := by
  have hF := (fits_of hf).1
  have hop : op = 1 ∨ op = 2 ∨ op = 3 ∨ op = 4 ∨ op = 5 ∨ op = 6 ∨ op = 7 ∨ op = 8 ∨ op = 9 ∨ op = 10 ∨ op = 11 ∨ op = 12 ∨ op = 13 := by omega
  rcases hop with e | e | e | e | e | e | e | e | e | e | e | e | e
  · exact do_1 B p m op u v nx t wv w e h hg.cl hg.sl hw
  · exact do_2 B p m op u v nx t wv w e h hg.cl hg.sl (ht (by omega)) hw
  · exact do_3 B p m op u v nx t wv w e h hg.cl hg.sl (ht (by omega)) (by subst e; have : tkN 3 = 1 := rfl; omega) hw
  · exact do_4 B p m op u v nx t wv w e h hg.cl hg.sl (ht (by omega)) (by subst e; have : tkN 4 = 1 := rfl; omega) hw
  · exact do_5 B p m op u v nx t wv w e h hg.cl hg.sl (ht (by omega)) (by subst e; have : tkN 5 = 2 := rfl; omega) hw
  · exact do_6 B p m op u v nx t wv w e h hg.cl hg.sl (by subst e; have : tkN 6 = 2 := rfl; omega) hw
  · exact do_7 B p m op u v nx t wv w e h hg.cl hg.sl (by subst e; have : tkN 7 = 1 := rfl; omega) hw
  · exact do_8 B p m op u v nx t wv w e h hg.cl hg.sl (by subst e; have : tkN 8 = 1 := rfl; omega) hw
  · exact do_9 B p m op u v nx t wv w e h hg.cl hg.sl (by subst e; have : tkN 9 = 1 := rfl; omega) hw
  · exact do_10 B p m op u v nx t wv w e h hg.cl hg.sl hw
  · exact do_11 B p m op u v nx t wv w e h hg.cl hg.sl (by subst e; have : tkN 11 = 1 := rfl; omega) hw
  · exact do_12 B p m op u v nx t wv w e h hg.cl hg.sl hw
  · exact do_13 B p m op u v nx t wv w e h hg.cl hg.sl hw
end Go.Proofs.Ytjofghelenfklaa
