/-
  impl's StepStack.
-/
import Derived.Test.YtalopffpaepaaaaIStk4
import Derived.Test.YtalopffpaepaaaaIStk5
import Derived.Test.YtalopffpaepaaaaIStk6
import Derived.Test.YtalopffpaepaaaaIStk7
import Derived.Test.YtalopffpaepaaaaIDoA
import Derived.Test.YtalopffpaepaaaaIDoB
import Derived.Test.YtalopffpaepaaaaIDoC
import Derived.Test.YtalopffpaepaaaaIDoD
import Derived.Test.YtalopffpaepaaaaIDoE
import Derived.Test.YtalopffpaepaaaaStkGo
import Derived.Test.YtalopffpaepaaaaIStk1
import Derived.Deep.Cut
import Derived.Deep.DrawnRows
import Derived.Deep.QuietTactic
import Derived.Lib.SliceRun
import Derived.Test.YtalopffpaepaaaaStkRun
import Derived.Test.YtalopffpaepaaaaStkRes
namespace Go.Proofs.Ytalopffpaepaaaa
open Go.RowKit
set_option linter.unusedVariables false

theorem instr_n (a : Option Addr) (zs : List Int) (c k : Nat) (w : World) (hn : Nums w a zs) (hl : zs.length ≤ 400) (hk : k ≤ 65535) (hr : readyB zs k = false) :
    Calls Try.prog 92 #[.slice a zs.length c, .int .i64 k, argsF] w fun e w' => e = .returned (.tuple #[oneZ, .bool false]) ∧ Below w.heap.size w w' := by
  by_cases hlt : k < zs.length
  · rcases hn with hn | ⟨b, off, rfl, hcc⟩
    · rw [hn] at hlt; simp at hlt
    refine instr_no2 b off zs.length c k (zs.getD k 0) w hlt hl (hcc k hlt) ?_
    unfold readyB at hr
    rw [decide_eq_true (by omega : (k : Int) < zs.length), Bool.true_and, Int.toNat_natCast] at hr
    cases hq : inB (zs.getD k 0) 1 13
    · exact .inl rfl
    · rw [hq, Bool.true_and] at hr
      exact .inr ⟨rfl, by have := of_decide_eq_false hr; omega⟩
  · exact instr_no1 a zs.length c k w (by omega) hk hl
theorem instr_r (B : Nat) (a : Option Addr) (zs : List Int) (c k : Nat) (w : World) (hn : Nums w a zs) (hB : ∀ b off, a = some ⟨b, off, none⟩ → b < B) (hl : zs.length ≤ 400) (hc : zs.length ≤ c) (hr : readyB zs k = true) (hBw : B ≤ w.heap.size) :
    Calls Try.prog 92 #[.slice a zs.length c, .int .i64 k, argsF] w fun e w' => ∃ wv, e = .returned (.tuple #[oneV (zs.getD k 0) wv ((k : Int) + 1 + argN (zs.getD k 0)), .bool true]) ∧ WordsV B w' wv (zs.getD k 0) (zs.getD (k + 1) 0) (zs.getD (k + 2) 0) ∧ Below w.heap.size w w' := by
  have hq := ready_of hr
  simp only [Int.toNat_natCast] at hq
  obtain ⟨h1, h2, h3, h4⟩ := hq
  have hA := argN_lo (zs.getD k 0)
  obtain ⟨A, hAn⟩ := Int.eq_ofNat_of_zero_le hA.1
  rcases hn with hn | ⟨b, off, rfl, hcc⟩
  · rw [hn] at h1; simp at h1; omega
  refine (instr_yes b off zs.length c k A (zs.getD k 0) w (by omega) hl hc (hcc k (by omega)) (inB_iff.2 ⟨h2, h3⟩) hAn (by omega)).mono ?_
  rintro e w' ⟨a2, c2, rfl, ha2, hb⟩
  refine ⟨_, by rw [hAn], ⟨a2, c2, by rw [hAn]; rfl, fun h => ⟨b, off + (k + 1), ha2 (by omega), hB b off rfl, ?_, fun h2 => ?_⟩⟩, hb⟩
  · exact (hb.cell (p := ⟨b, off + (k + 1), none⟩) (by have := hB b off rfl; show b < _; omega)).trans (hcc (k + 1) (by omega))
  · exact (hb.cell (p := ⟨b, off + (k + 1) + 1, none⟩) (by have := hB b off rfl; show b < _; omega)).trans (hcc (k + 2) (by omega))

set_option maxHeartbeats 1600000 in
set_option maxRecDepth 100000 in
theorem told_no (p : Nat) (op nx : Int) (n c : Nat) (a : Option Addr) (w : World) (hop : op < 2 ∨ 6 < op) :
    Calls Try.prog 96 #[.pointer (some ⟨p, 0, none⟩), oneV op (.slice a n c) nx] w fun e w' => e = .returned (ir 0 0) ∧ Below w.heap.size w w' := by
  have hT : (op == 2) = false ∧ (op == 3) = false ∧ (op == 4) = false ∧ (op == 5) = false ∧ (op == 6) = false := by
    refine ⟨?_, ?_, ?_, ?_, ?_⟩ <;> (rw [beq_eq_false_iff_ne]; omega)
  clear hop
  obtain ⟨e2, e3, e4, e5, e6⟩ := hT
  go_enter Try.func96, Try.ntmps96
  go_wp2_with fail
  refine bodyPost_ret (v := ir 0 0) (by simp [results, Try.results96, go_sem]) rfl ⟨rfl, ?_⟩
  go_grown

theorem told_any (B p : Nat) (m : SM) (op u v nx : Int) (wv : Value) (w : World) (h : RunI B w p m) (hg : Good m) (h1 : 1 ≤ op) (h13 : op ≤ 13) (hf : fitsB m.stk.length op = true) (hw : WordsV B w wv op u v) (hu0 : 0 ≤ u) (hu1 : u ≤ 65535) (hv0 : 0 ≤ v) (hv1 : v ≤ 65535) :
    Calls Try.prog 96 #[.pointer (some ⟨p, 0, none⟩), oneV op wv nx] w fun e w' => e = .returned (ir (toldC op u v m) (toldV op u v m)) ∧ Below w.heap.size w w' := by
  have hF := (fits_of hf).1
  by_cases h23 : op = 2 ∨ op = 3
  · exact told_23 B p m op u v nx wv w h23 h hg.cl hw hu0
  by_cases h4 : op = 4
  · have eC : toldC op u v m = itemC m.cells.length u v (tp m 0) := by unfold toldC; rw [if_neg h23, if_pos h4]
    have eV : toldV op u v m = itemV m.cells.length u v (tp m 0) := by unfold toldV; rw [if_neg h23, if_pos h4]
    rw [eC, eV]
    exact told_4 B p m op u v nx wv w h4 h hg.cl hg.sl (by subst h4; have : tkN 4 = 1 := rfl; omega) hw hu0 hu1 hv0 hv1
  by_cases h5 : op = 5
  · have eC : toldC op u v m = itemC m.cells.length u v (tp m 1) := by unfold toldC; rw [if_neg h23, if_neg h4, if_pos h5]
    have eV : toldV op u v m = itemV m.cells.length u v (tp m 1) := by unfold toldV; rw [if_neg h23, if_neg h4, if_pos h5]
    rw [eC, eV]
    exact told_5 B p m op u v nx wv w h5 h hg.cl hg.sl (by subst h5; have : tkN 5 = 2 := rfl; omega) hw hu0 hu1 hv0 hv1
  by_cases h6 : op = 6
  · have eC : toldC op u v m = twoC u (tp m 0) := by unfold toldC; rw [if_neg h23, if_neg h4, if_neg h5, if_pos h6]
    have eV : toldV op u v m = binV u (tp m 1) (tp m 0) := by unfold toldV; rw [if_neg h23, if_neg h4, if_neg h5, if_pos h6]
    rw [eC, eV]
    exact told_6 B p m op u v nx wv w h6 h hg.cl hg.sl (by subst h6; have : tkN 6 = 2 := rfl; omega) hw
  have eC : toldC op u v m = 0 := by unfold toldC; rw [if_neg h23, if_neg h4, if_neg h5, if_neg h6]
  have eV : toldV op u v m = 0 := by unfold toldV; rw [if_neg h23, if_neg h4, if_neg h5, if_neg h6]
  rw [eC, eV]
  obtain ⟨a, c, rfl, _⟩ := hw
  exact told_no p op nx _ c a w (by omega)

theorem do_any (B p : Nat) (m : SM) (op u v nx : Int) (t : Nat) (wv : Value) (w : World) (h : RunI B w p m) (hg : Good m) (h1 : 1 ≤ op) (h13 : op ≤ 13) (hf : fitsB m.stk.length op = true) (ht : op = 2 ∨ op = 3 ∨ op = 4 ∨ op = 5 → t < m.cells.length) (hw : WordsV B w wv op u v) :
    Calls Try.prog 97 #[.pointer (some ⟨p, 0, none⟩), oneV op wv nx, .int .i64 t] w fun e w' => e = .returned (.tuple #[]) ∧ RunI B w' p (doM op u t m) ∧ Below B w w' := by
  have hF := (fits_of hf).1
  have hop : op = 1 ∨ op = 2 ∨ op = 3 ∨ op = 4 ∨ op = 5 ∨ op = 6 ∨ op = 7 ∨ op = 8 ∨ op = 9 ∨ op = 10 ∨ op = 11 ∨ op = 12 ∨ op = 13 := by omega
  rcases hop with e | e | e | e | e | e | e | e | e | e | e | e | e
  · exact do_1 B p m op u v nx t wv w e h hg.cl hg.sl hw
  · exact do_2 B p m op u v nx t wv w e h hg.cl hg.sl (ht (by omega)) hw
  · exact do_3 B p m op u v nx t wv w e h hg.cl hg.sl (ht (by omega)) (by subst e; have : tkN 3 = 1 := rfl; omega) hw
  · exact do_4 B p m op u v nx t wv w e h hg.cl hg.sl (ht (by omega)) (by subst e; have : tkN 4 = 1 := rfl; omega) hw
  · exact do_5 B p m op u v nx t wv w e h hg.cl hg.sl (ht (by omega)) (by subst e; have : tkN 5 = 2 := rfl; omega) hw
  · exact do_6 B p m op u v nx t wv w e h hg.cl hg.sl (by subst e; have : tkN 6 = 2 := rfl; omega) hw
  · exact do_7 B p m op u v nx t wv w e h hg.cl hg.sl (by subst e; have : tkN 7 = 1 := rfl; omega) hw
  · exact do_8 B p m op u v nx t wv w e h hg.cl hg.sl (by subst e; have : tkN 8 = 1 := rfl; omega) hw
  · exact do_9 B p m op u v nx t wv w e h hg.cl hg.sl (by subst e; have : tkN 9 = 1 := rfl; omega) hw
  · exact do_10 B p m op u v nx t wv w e h hg.cl hg.sl hw
  · exact do_11 B p m op u v nx t wv w e h hg.cl hg.sl (by subst e; have : tkN 11 = 1 := rfl; omega) hw
  · exact do_12 B p m op u v nx t wv w e h hg.cl hg.sl hw
  · exact do_13 B p m op u v nx t wv w e h hg.cl hg.sl hw
end Go.Proofs.Ytalopffpaepaaaa
namespace Go.Proofs.Ytalopffpaepaaaa
open Go.RowKit
set_option linter.unusedVariables false
attribute [local go_sem ↓] Go.wp_at_zero Go.wp_at_succ

/-- Used is one more -/
theorem used_fld {B p : Nat} {w : World} {m : SM} (h : RunI B w p m) (x : Int) (hx : x = if m.used + 1 ≤ 1000000 then m.used + 1 else 1000000) : RunI B (w.setCell ⟨p, 4, none⟩ (.int .i64 x)) p (usedM m) := by
  subst hx
  exact h.fld (m' := usedM m) 4 _ (fun _ _ => rfl) rfl rfl

set_option maxHeartbeats 1600000 in
set_option maxRecDepth 100000 in
theorem step_no (B p k : Nat) (m : SM) (zs : List Int) (a : Option Addr) (c : Nat) (w : World) (h : RunI B w p m) (hg : Good m) (hk : m.pc = k) (hn : Nums w a zs) (hB : ∀ b off, a = some ⟨b, off, none⟩ → b < B) (hl : zs.length ≤ 400) (hr : readyB zs k = false) :
    Calls Try.prog 56 #[.pointer (some ⟨p, 0, none⟩), .slice a zs.length c] w fun e w' => e = .returned (.tuple #[]) ∧ RunI B w' p (trp (usedM m) 1) ∧ Below B w w' := by
  have hpw := h.lt
  have u0 := hg.used0
  have u1 := hg.used1
  obtain ⟨sv, cv, hb, hm⟩ := id h
  have c4 := (RunI.cells (B := B) hb).2.2.2.2.1
  have f4 := frozen_of_row _ _ 4 _ _ hb
  have HN : Hid (∀ W, Below B w W → Nums W a zs) := fun W hbw => by
    rcases hn with hn | ⟨b, off, rfl, hcc⟩
    · exact .inl hn
    · exact .inr ⟨b, off, rfl, fun i hi => (hbw.cell (p := ⟨b, off + i, none⟩) (hB b off rfl)).trans (hcc i hi)⟩
  have HR : Hid (RunI B w p m) := h
  have HI : Hid (∀ W, Nums W a zs → Calls Try.prog 92 #[.slice a zs.length c, .int .i64 k, argsF] W fun e w' => e = .returned (.tuple #[oneZ, .bool false]) ∧ Below W.heap.size W w') := fun W hn => instr_n a zs c k W hn hl (by have := hg.pc1; omega) hr
  clear hb hm h hg hn hB hl hr
  go_enter Try.func56, Try.ntmps56
  go_upto_region 1 with fail
  have HR1 : Hid (RunI B (w.setCell ⟨p, 4, none⟩ (.int .i64 (if 1000000 < m.used + 1 then 1000000 else m.used + 1))) p (usedM m)) := used_fld HR.out _ (by split <;> split <;> omega)
  have HB1 : Hid (Below B w (w.setCell ⟨p, 4, none⟩ (.int .i64 (if 1000000 < m.used + 1 then 1000000 else m.used + 1)))) := (Below.refl _ _).setCell hpw.1 _
  clear c4 f4
  generalize w.setCell ⟨p, 4, none⟩ (.int .i64 (if 1000000 < m.used + 1 then 1000000 else m.used + 1)) = W1 at *
  generalize (if 1000000 < m.used + 1 then (1000000 : Int) else m.used + 1) = xu at *
  have hpw1 := HR1.out.lt
  have HP1 : Hid (B ≤ p ∧ p < W1.heap.size) := hpw1
  obtain ⟨sv1, cv1, hb1, _⟩ := id HR1.out
  have c2 := (RunI.cells (B := B) hb1).2.2.1
  rw [show (usedM m).pc = (k : Int) from hk] at c2
  clear hb1 hpw hpw1 HR u0 u1
  clear hk
  go_upto_region 3 with (go_at_call 92; refine (HI.out _ (HN.out _ HB1.out)).mono ?_; rintro e w2 ⟨rfl, hb2⟩)
  have b2 := (Below.refl w2.heap.size w2).alloc (Nat.le_refl _) (.cells #[.int .i64 0, .slice none 0 0, .int .i64 0] 113)
  have HR3 : Hid (RunI B (w2.alloc (.cells #[.int .i64 0, .slice none 0 0, .int .i64 0] 113)) p (usedM m)) := (HR1.out.kept hb2).kept b2
  have HB3 : Hid (Below B w (w2.alloc (.cells #[.int .i64 0, .slice none 0 0, .int .i64 0] 113))) := (HB1.out.trans (hb2.mono (by have := HP1.out; omega))).trans (b2.mono (by have := HP1.out; have := hb2.size; omega))
  clear b2 hb2 HR1 HB1 HI HN c2
  generalize w2.alloc (.cells #[.int .i64 0, .slice none 0 0, .int .i64 0] 113) = W3 at *
  obtain ⟨sv3, cv3, hb3, _⟩ := id HR3.out
  have c5 := (RunI.cells (B := B) hb3).2.2.2.2.2.1
  have f5 := frozen_of_row _ _ 5 _ _ hb3
  clear hb3
  go_wp2_with fail
  refine bodyPost_ret (v := .tuple #[]) (by simp [results, Try.results56, go_sem]) rfl ⟨rfl, HR3.out.fld (m' := trp (usedM m) 1) 5 _ (fun _ _ => rfl) rfl rfl, HB3.out.setCell HR3.out.lt.1 _⟩

set_option maxHeartbeats 3200000 in
set_option maxRecDepth 100000 in
theorem step_yes (B p k : Nat) (m : SM) (zs : List Int) (a : Option Addr) (c : Nat) (w : World) (h : RunI B w p m) (hg : Good m) (hk : m.pc = k) (hn : Nums w a zs) (hB : ∀ b off, a = some ⟨b, off, none⟩ → b < B) (hl : zs.length ≤ 400) (hc : zs.length ≤ c) (hw : wordsB zs = true) (hr : readyB zs k = true) :
    Calls Try.prog 56 #[.pointer (some ⟨p, 0, none⟩), .slice a zs.length c] w fun e w' => e = .returned (.tuple #[]) ∧ RunI B w' p (goM (zs.getD k 0) (zs.getD (k + 1) 0) (zs.getD (k + 2) 0) ((k : Int) + 1 + argN (zs.getD k 0)) m) ∧ Below B w w' := by
  have hpw := h.lt
  have u0 := hg.used0
  have u1 := hg.used1
  obtain ⟨sv, cv, hb, hm⟩ := id h
  have c4 := (RunI.cells (B := B) hb).2.2.2.2.1
  have f4 := frozen_of_row _ _ 4 _ _ hb
  have HN : Hid (∀ W, Below B w W → Nums W a zs) := fun W hbw => by
    rcases hn with hn | ⟨b, off, rfl, hcc⟩
    · exact .inl hn
    · exact .inr ⟨b, off, rfl, fun i hi => (hbw.cell (p := ⟨b, off + i, none⟩) (hB b off rfl)).trans (hcc i hi)⟩
  have HR : Hid (RunI B w p m) := h
  have HI : Hid (∀ W, Nums W a zs → B ≤ W.heap.size → Calls Try.prog 92 #[.slice a zs.length c, .int .i64 k, argsF] W fun e w' => ∃ wv, e = .returned (.tuple #[oneV (zs.getD k 0) wv ((k : Int) + 1 + argN (zs.getD k 0)), .bool true]) ∧ WordsV B w' wv (zs.getD k 0) (zs.getD (k + 1) 0) (zs.getD (k + 2) 0) ∧ Below W.heap.size W w') := fun W hn hBw => instr_r B a zs c k W hn hB hl hc hr hBw
  have hq := ready_of hr
  simp only [Int.toNat_natCast] at hq
  have HQ : Hid (1 ≤ zs.getD k 0 ∧ zs.getD k 0 ≤ 13) := ⟨hq.2.1, hq.2.2.1⟩
  have hW : ∀ i, 0 ≤ zs.getD i 0 ∧ zs.getD i 0 ≤ 65535 := fun i => by
    by_cases hi : i < zs.length
    · exact wordsB_get hw hi
    · rw [List.getD_eq_getElem?_getD, List.getElem?_eq_none (by omega)]; simp
  have HWU : Hid (0 ≤ zs.getD (k + 1) 0 ∧ zs.getD (k + 1) 0 ≤ 65535 ∧ 0 ≤ zs.getD (k + 2) 0 ∧ zs.getD (k + 2) 0 ≤ 65535) := ⟨(hW _).1, (hW _).2, (hW _).1, (hW _).2⟩
  have HNX : Hid (0 ≤ (k : Int) + 1 + argN (zs.getD k 0) ∧ (k : Int) + 1 + argN (zs.getD k 0) ≤ 65535) := ⟨by have := argN_lo (zs.getD k 0); omega, by have := argN_lo (zs.getD k 0); omega⟩
  have HG : Hid (Good m) := hg
  clear hb hm h hg hn hB hl hr hc hw hq hW
  generalize zs.getD k 0 = op at *
  generalize zs.getD (k + 1) 0 = u at *
  generalize zs.getD (k + 2) 0 = v at *
  obtain ⟨nx, hnx⟩ : ∃ nx, nx = (k : Int) + 1 + argN op := ⟨_, rfl⟩
  rw [← hnx] at HI HNX ⊢
  clear hnx
  go_enter Try.func56, Try.ntmps56
  go_upto_region 1 with fail
  have HR1 : Hid (RunI B (w.setCell ⟨p, 4, none⟩ (.int .i64 (if 1000000 < m.used + 1 then 1000000 else m.used + 1))) p (usedM m)) := used_fld HR.out _ (by split <;> split <;> omega)
  have HB1 : Hid (Below B w (w.setCell ⟨p, 4, none⟩ (.int .i64 (if 1000000 < m.used + 1 then 1000000 else m.used + 1)))) := (Below.refl _ _).setCell hpw.1 _
  clear c4 f4
  generalize w.setCell ⟨p, 4, none⟩ (.int .i64 (if 1000000 < m.used + 1 then 1000000 else m.used + 1)) = W1 at *
  generalize (if 1000000 < m.used + 1 then (1000000 : Int) else m.used + 1) = xu at *
  have hpw1 := HR1.out.lt
  have HP1 : Hid (B ≤ p ∧ p < W1.heap.size) := hpw1
  obtain ⟨sv1, cv1, hb1, _⟩ := id HR1.out
  have c2 := (RunI.cells (B := B) hb1).2.2.1
  rw [show (usedM m).pc = (k : Int) from hk] at c2
  clear hb1 hpw hpw1 HR u0 u1
  clear hk
  go_upto_region 4 with (go_at_call 92; refine (HI.out _ (HN.out _ HB1.out) (by have := HP1.out; omega)).mono ?_; rintro e w2 ⟨wv, rfl, hwv, hb2⟩; obtain ⟨aw, cw, rfl, hwx⟩ := hwv)
  have a2 := heap_alloc_new w2 (.cells #[.int .i64 op, .slice aw (argN op).toNat cw, .int .i64 nx] 113)
  have b2 := (Below.refl w2.heap.size w2).alloc (Nat.le_refl _) (.cells #[.int .i64 op, .slice aw (argN op).toNat cw, .int .i64 nx] 113)
  have hz2 := hb2.size
  have HW2 : Hid (WordsV B (w2.alloc (.cells #[.int .i64 op, .slice aw (argN op).toNat cw, .int .i64 nx] 113)) (.slice aw (argN op).toNat cw) op u v) := WordsV.kept ⟨aw, cw, rfl, hwx⟩ (b2.mono (by have := HP1.out; omega))
  have HR2 : Hid (RunI B (w2.alloc (.cells #[.int .i64 op, .slice aw (argN op).toNat cw, .int .i64 nx] 113)) p (usedM m)) := (HR1.out.kept hb2).kept b2
  have HB2 : Hid (Below B w (w2.alloc (.cells #[.int .i64 op, .slice aw (argN op).toNat cw, .int .i64 nx] 113))) := (HB1.out.trans (hb2.mono (by have := HP1.out; omega))).trans (b2.mono (by have := HP1.out; omega))
  have HA2 : Hid _ := a2
  have HP2 : Hid (B ≤ w2.heap.size) := by have := HP1.out; show B ≤ _; omega
  have HO : Hid (OpOf op (opV (bs (opNm op)) (argN op) (tkN op) (gvN op))) := stackOp_any op HQ.out.1 HQ.out.2
  have HFI : Hid (∀ W, RunI B W p (usedM m) → Calls Try.prog 95 #[.pointer (some ⟨p, 0, none⟩), .int .i64 (tkN op), .int .i64 (gvN op)] W fun e w' => e = .returned (.bool (fitsB m.stk.length op)) ∧ w' = W) := fun W hr => ifits_any B p (usedM m) op W hr HG.out.sl
  clear a2 b2 hz2 hb2 hwx HR1 HB1 HP1 HI HN c2
  generalize w2.alloc (.cells #[.int .i64 op, .slice aw (argN op).toNat cw, .int .i64 nx] 113) = W2 at *
  generalize hQ : w2.heap.size = q at *
  clear hQ
  generalize (argN op).toNat = na at *
  generalize tkN op = tk at *
  generalize gvN op = gv at *
  generalize argN op = an at *
  generalize bs (opNm op) = nm at *
  have hy0 := cell_of_row _ _ 0 _ _ _ HA2.out
  simp at hy0
  go_upto_region 5 with (go_at_call 94; refine (HO.out _).mono ?_; rintro e w3 ⟨rfl, hb3⟩)
  have a3 := heap_alloc_new w3 (.cells #[.string nm, .int .i64 an, .int .i64 tk, .int .i64 gv] 118)
  have b3 := (Below.refl w3.heap.size w3).alloc (Nat.le_refl _) (.cells #[.string nm, .int .i64 an, .int .i64 tk, .int .i64 gv] 118)
  have hq2 := (Array.getElem?_eq_some_iff.1 HA2.out).1
  have hz3 := hb3.size
  have HW3 : Hid (WordsV B (w3.alloc (.cells #[.string nm, .int .i64 an, .int .i64 tk, .int .i64 gv] 118)) (.slice aw na cw) op u v) := (HW2.out.kept (hb3.mono (by have := HP2.out; omega))).kept (b3.mono (by have := HP2.out; omega))
  have HR3 : Hid (RunI B (w3.alloc (.cells #[.string nm, .int .i64 an, .int .i64 tk, .int .i64 gv] 118)) p (usedM m)) := (HR2.out.kept hb3).kept b3
  have HB3 : Hid (Below B w (w3.alloc (.cells #[.string nm, .int .i64 an, .int .i64 tk, .int .i64 gv] 118))) := (HB2.out.trans (hb3.mono (by have := HP2.out; omega))).trans (b3.mono (by have := HP2.out; omega))
  have HA3 : Hid ((w3.alloc (.cells #[.string nm, .int .i64 an, .int .i64 tk, .int .i64 gv] 118)).heap[q]? = some (.cells #[.int .i64 op, .slice aw na cw, .int .i64 nx] 113 (0, 0))) := blk8 (blk8 HA2.out hb3) b3
  clear b3 hq2 hz3 hb3 hy0 HW2 HR2 HB2 HA2 HO
  generalize w3.alloc (.cells #[.string nm, .int .i64 an, .int .i64 tk, .int .i64 gv] 118) = W3 at *
  generalize w3.heap.size = q3 at *
  have d2 := cell_of_row _ _ 2 _ _ _ a3
  have d3 := cell_of_row _ _ 3 _ _ _ a3
  simp at d2 d3
  clear a3
  go_cut [42] from 43 (fun x W4 => x = .bool (!fitsB m.stk.length op) ∧ W4 = W3.drew)
  case first =>
    go_region_with (go_at_call 95; refine (HFI.out _ (HR3.out.heap (by rfl))).mono ?_; rintro e w4 ⟨rfl, rfl⟩)
    all_goals
      go_wp2_with fail
      go_meet
      case rel => exact ⟨rfl, rfl⟩
  case rest =>
    obtain ⟨rfl, rfl⟩ := hcut
    have HR4 : Hid (RunI B W3.drew p (usedM m)) := HR3.out.heap rfl
    have HW4 : Hid (WordsV B W3.drew (.slice aw na cw) op u v) := HW3.out.kept (Below.refl B W3).drew
    have HB4 : Hid (Below B w W3.drew) := HB3.out.drew
    have HA4 : Hid (W3.drew.heap[q]? = some (.cells #[.int .i64 op, .slice aw na cw, .int .i64 nx] 113 (0, 0))) := HA3.out
    clear HFI HR3 HW3 HB3 HA3 d2 d3
    generalize W3.drew = W4 at *
    cases hf : fitsB m.stk.length op
    · have HGM : Hid (goM op u v nx m = trp (usedM m) 1) := if_pos hf
      obtain ⟨sv4, cv4, hb4, _⟩ := id HR4.out
      have c5 := (RunI.cells (B := B) hb4).2.2.2.2.2.1
      have f5 := frozen_of_row _ _ 5 _ _ hb4
      clear hb4 hf
      go_wp2_with fail
      refine bodyPost_ret (v := .tuple #[]) (by simp [results, Try.results56, go_sem]) rfl ⟨rfl, ?_, HB4.out.setCell HR4.out.lt.1 _⟩
      rw [HGM.out]
      exact HR4.out.fld (m' := trp (usedM m) 1) 5 _ (fun _ _ => rfl) rfl rfl
    · have HT : Hid (Calls Try.prog 96 #[.pointer (some ⟨p, 0, none⟩), oneV op (.slice aw na cw) nx] W4 fun e w' => e = .returned (ir (toldC op u v m) (toldV op u v m)) ∧ Below W4.heap.size W4 w') := told_any B p (usedM m) op u v nx _ W4 HR4.out (usedM_good HG.out) HQ.out.1 HQ.out.2 hf HW4.out HWU.out.1 HWU.out.2.1 HWU.out.2.2.1 HWU.out.2.2.2
      have HGM : Hid (goM op u v nx m = if toldC op u v m ≠ 0 then trp (usedM m) (toldC op u v m) else doM op u (toldV op u v m) (atP (usedM m) nx)) := if_neg (by rw [hf]; simp)
      have HF : Hid (fitsB m.stk.length op = true) := hf
      have hTC := toldC_lo op u v m
      have HV : Hid (toldC op u v m = 0 → 0 ≤ toldV op u v m ∧ toldV op u v m ≤ 65535 ∧ (op = 2 ∨ op = 3 ∨ op = 4 ∨ op = 5 → toldV op u v m < m.cells.length)) := fun h => toldV_lo HG.out h HWU.out.1
      generalize toldC op u v m = C at *
      generalize toldV op u v m = V at *
      have y0 := cell_of_row _ _ 0 _ _ _ HA4.out
      have y1 := cell_of_row _ _ 1 _ _ _ HA4.out
      have y2 := cell_of_row _ _ 2 _ _ _ HA4.out
      simp at y0 y1 y2
      have HTC : Hid (0 ≤ C ∧ C ≤ 10) := hTC
      clear hf hTC
      go_upto_region 8 with (go_at_call 96; refine HT.out.mono ?_; rintro e w5 ⟨rfl, hb5⟩)
      have a5 := heap_alloc_new w5 (.cells #[.int .i64 C, .int .i64 V] 31)
      have b5 := (Below.refl w5.heap.size w5).alloc (Nat.le_refl _) (.cells #[.int .i64 C, .int .i64 V] 31)
      have hq5 := (Array.getElem?_eq_some_iff.1 HA4.out).1
      have hz5 := hb5.size
      have HW5 : Hid (WordsV B (w5.alloc (.cells #[.int .i64 C, .int .i64 V] 31)) (.slice aw na cw) op u v) := (HW4.out.kept (hb5.mono (by have := HP2.out; omega))).kept (b5.mono (by have := HP2.out; omega))
      have HR5 : Hid (RunI B (w5.alloc (.cells #[.int .i64 C, .int .i64 V] 31)) p (usedM m)) := (HR4.out.kept hb5).kept b5
      have HB5 : Hid (Below B w (w5.alloc (.cells #[.int .i64 C, .int .i64 V] 31))) := (HB4.out.trans (hb5.mono (by have := HP2.out; omega))).trans (b5.mono (by have := HP2.out; omega))
      have HA5 : Hid ((w5.alloc (.cells #[.int .i64 C, .int .i64 V] 31)).heap[q]? = some (.cells #[.int .i64 op, .slice aw na cw, .int .i64 nx] 113 (0, 0))) := blk8 (blk8 HA4.out hb5) b5
      have HPQ : Hid (p < w5.heap.size ∧ q ≠ p ∧ w5.heap.size ≠ p) := by
        have hp4 := HR4.out.lt.2
        refine ⟨by omega, fun e => ?_, by omega⟩
        obtain ⟨sv5, cv5, hb, _⟩ := HR4.out
        have hA := HA4.out
        rw [e, hb] at hA
        simp at hA
      clear b5 hq5 hz5 hb5 y0 y1 y2 HW4 HR4 HB4 HA4 HT
      generalize w5.alloc (.cells #[.int .i64 C, .int .i64 V] 31) = W5 at *
      generalize w5.heap.size = q5 at *
      have z0 := cell_of_row _ _ 0 _ _ _ a5
      have z1 := cell_of_row _ _ 1 _ _ _ a5
      simp at z0 z1
      have HA6 : Hid (W5.heap[q5]? = _) := a5
      clear a5
      obtain ⟨sv4, cv4, hb4, _⟩ := id HR5.out
      by_cases hC : C = 0
      · have HGM2 : Hid (goM op u v nx m = doM op u V (atP (usedM m) nx)) := HGM.out.trans (if_neg (by rw [hC]; simp))
        obtain ⟨t, ht⟩ := Int.eq_ofNat_of_zero_le (HV.out hC).1
        have HV2 : Hid (op = 2 ∨ op = 3 ∨ op = 4 ∨ op = 5 → t < m.cells.length) := fun h => by have := (HV.out hC).2.2 h; omega
        subst hC
        rw [ht] at HGM2 z1
        clear HV HGM
        have c2 := (RunI.cells (B := B) hb4).2.2.1
        have f2 := frozen_of_row _ _ 2 _ _ hb4
        have x2 := cell_of_row _ _ 2 _ _ _ HA5.out
        simp at x2
        clear hb4
        go_upto_region 11 with fail
        have HR6 : Hid (RunI B (W5.setCell ⟨p, 2, none⟩ (.int .i64 nx)) p (atP (usedM m) nx)) := HR5.out.fld (m' := atP (usedM m) nx) 2 _ (fun _ _ => rfl) rfl rfl
        have HB6 : Hid (Below B w (W5.setCell ⟨p, 2, none⟩ (.int .i64 nx))) := HB5.out.setCell HR5.out.lt.1 _
        have HW6 : Hid (WordsV B (W5.setCell ⟨p, 2, none⟩ (.int .i64 nx)) (.slice aw na cw) op u v) := HW5.out.kept ((Below.refl B W5).setCell HR5.out.lt.1 _)
        have HA7 : (W5.setCell ⟨p, 2, none⟩ (.int .i64 nx)).heap[q]? = _ := (heap_setCell_other W5 ⟨p, 2, none⟩ q (.int .i64 nx) HPQ.out.2.1).trans HA5.out
        have HA8 : (W5.setCell ⟨p, 2, none⟩ (.int .i64 nx)).heap[q5]? = _ := (heap_setCell_other W5 ⟨p, 2, none⟩ q5 (.int .i64 nx) HPQ.out.2.2).trans HA6.out
        clear HR5 HB5 HW5 HA5 HA6 z0 z1 c2 f2 x2
        generalize W5.setCell ⟨p, 2, none⟩ (.int .i64 nx) = W6 at *
        rw [ht] at HA8
        have y0 := cell_of_row _ _ 0 _ _ _ HA7
        have y1 := cell_of_row _ _ 1 _ _ _ HA7
        have y2 := cell_of_row _ _ 2 _ _ _ HA7
        have y3 := cell_of_row _ _ 1 _ _ _ HA8
        simp at y0 y1 y2 y3
        clear HA7 HA8
        have HD : Hid (Calls Try.prog 97 #[.pointer (some ⟨p, 0, none⟩), oneV op (.slice aw na cw) nx, .int .i64 t] W6 fun e w' => e = .returned (.tuple #[]) ∧ RunI B w' p (doM op u t (atP (usedM m) nx)) ∧ Below B W6 w') := do_any B p (atP (usedM m) nx) op u v nx t _ W6 HR6.out (pc_good (usedM_good HG.out) HNX.out.1 HNX.out.2) HQ.out.1 HQ.out.2 HF.out HV2.out HW6.out
        go_wp2_with (go_at_call 97; refine HD.out.mono ?_; rintro e w7 ⟨rfl, hr7, hb7⟩)
        go_end0
        exact ⟨rfl, by rw [HGM2.out]; exact hr7, HB6.out.trans hb7⟩
      · have HGM2 : Hid (goM op u v nx m = trp (usedM m) C) := HGM.out.trans (if_pos hC)
        have c5 := (RunI.cells (B := B) hb4).2.2.2.2.2.1
        have f5 := frozen_of_row _ _ 5 _ _ hb4
        have eC : (C != 0) = true := by simpa using hC
        have eD : decide (C = 0) = false := decide_eq_false hC
        clear hb4 HGM HV
        go_wp2_with fail
        refine bodyPost_ret (v := .tuple #[]) (by simp [results, Try.results56, go_sem]) rfl ⟨rfl, ?_, HB5.out.setCell HR5.out.lt.1 _⟩
        rw [HGM2.out]
        exact HR5.out.fld (m' := trp (usedM m) C) 5 _ (fun _ _ => rfl) rfl rfl

theorem istep_any (B p : Nat) (m : SM) (zs : List Int) (a : Option Addr) (c : Nat) (w : World) (h : RunI B w p m) (hg : Good m) (hn : Nums w a zs) (hB : ∀ b off, a = some ⟨b, off, none⟩ → b < B) (hl : zs.length ≤ 400) (hc : zs.length ≤ c) (hw : wordsB zs = true) :
    Calls Try.prog 56 #[.pointer (some ⟨p, 0, none⟩), .slice a zs.length c] w fun e w' => e = .returned (.tuple #[]) ∧ RunI B w' p (stepL zs m) ∧ Below B w w' := by
  obtain ⟨k, hk⟩ := Int.eq_ofNat_of_zero_le hg.pc0
  cases hr : readyB zs k
  · have e : stepL zs m = trp (usedM m) 1 := by unfold stepL; rw [hk, if_pos hr]; rfl
    rw [e]
    exact step_no B p k m zs a c w h hg hk hn hB hl hr
  · have e : stepL zs m = goM (zs.getD k 0) (zs.getD (k + 1) 0) (zs.getD (k + 2) 0) ((k : Int) + 1 + argN (zs.getD k 0)) m := by
      unfold stepL
      rw [hk, if_neg (by rw [hr]; simp), Int.toNat_natCast]
      rfl
    rw [e]
    exact step_yes B p k m zs a c w h hg hk hn hB hl hc hw hr
end Go.Proofs.Ytalopffpaepaaaa
namespace Go.Proofs.Ytalopffpaepaaaa
open Go.RowKit
set_option linter.unusedVariables false
attribute [local go_sem ↓] Go.wp_at_zero Go.wp_at_succ

abbrev machV (m : SM) (sv cv : Value) : Value := .agg #[.int .i64 m.pc, sv, cv, .int .i64 m.sig, .int .i64 m.used, .int .i64 m.trap, .bool m.done]

set_option maxHeartbeats 1600000 in
set_option maxRecDepth 100000 in
theorem clone_any (v : Value) (zs : List Int) (w : World) (h : RowV w v zs) (hl : zs.length ≤ 1048576) :
    Calls Try.prog 91 #[v] w fun e w' => ∃ v', e = .returned v' ∧ Own w' w.heap.size v' zs ∧ Below w.heap.size w w' := by
  obtain ⟨a, c, rfl, hn, hc⟩ := h
  have q22 : ∀ (w : World) (a : Option Addr) (n c n' c' : Nat), (binOp .eql 24 (.slice a n c) (.slice none n' c')).run Try.prog w = .ok (.bool a.isNone) w := fun w a n c n' c' => Lib.run_eql_slice_nil w _ _ a n c n' c' Try.underlying24
  cases a with
  | none =>
    have hz := rowZ hn rfl
    have hc0 := hc rfl
    subst hz hc0
    clear hl hn hc
    go_enter Try.func91, Try.ntmps91
    go_wp2
    go_ret
    exact ⟨_, rfl, World.ownsRow_nil _ _ _ _, Below.refl _ _⟩
  | some ad =>
    have hA := (Below.refl w.heap.size w).alloc (Nat.le_refl _) (.cells #[] 2)
    have HN : Hid (Nums (w.alloc (.cells #[] 2)) (some ad) zs) := hn.below hA
    have HO : Hid (Own (w.alloc (.cells #[] 2)) w.heap.size (.slice (some ⟨w.heap.size, 0, none⟩) 0 0) []) := own_new w _ (Nat.le_refl _)
    have HA : Hid (Below w.heap.size w (w.alloc (.cells #[] 2))) := hA
    have HL : Hid (zs.length ≤ 1048576) := hl
    clear hA hn hc hl
    generalize hZ : zs.length = L at *
    go_enter Try.func91, Try.ntmps91
    go_wp2_with (at_builtin; refine wpList_append_nums rfl _ _ rfl w.heap.size _ [] zs (by rfl) HO.out (some ad) c (by rw [hZ]; rfl) HN.out (by simp) (by simp) (by have := HL.out; simp; omega) (by simp) ?_)
    intro v' w2 ho hg hv
    obtain ⟨a2, c2, rfl⟩ := own_shape ho.out
    have HB : Hid (Below w.heap.size w w2) := HA.out.grown hg.out (by simp) (fun k hk => by simp [Value.ownBlock] at hk; omega)
    clear hg hv
    have HO2 : Hid (Own w2 w.heap.size (.slice a2 zs.length c2) zs) := ho.out
    clear ho
    go_wp2_with fail
    go_ret
    exact ⟨_, rfl, HO2.out, HB.out⟩

theorem new_run (B : Nat) (ws wc : World) (m : SM) (vs vc : Value) (hs : Own ws B vs m.stk) (hc : Own wc ws.heap.size vc m.cells) (hb : Below ws.heap.size ws wc) (hB : B ≤ ws.heap.size) : RunI B (wc.alloc (.cells (lineI m vs vc) 90)) wc.heap.size m := by
  have h1 := own_kept hs hb
  have hz := hb.size
  refine ⟨vs, vc, heap_alloc_new _ _, h1.alloc _, own_mono (hc.alloc _) hB, by omega, fun e => ?_, fun e => ?_, fun g hg e => ?_⟩
  · have := (h1.lt _ e).2; omega
  · have := (hc.lt _ e).2; omega
  · have := (hs.lt _ hg).2; have := (hc.lt _ e).1; omega
theorem new_run2 (B : Nat) (ws wc : World) (m : SM) (vs vc : Value) (hc : Own wc B vc m.cells) (hs : Own ws wc.heap.size vs m.stk) (hb : Below wc.heap.size wc ws) (hB : B ≤ wc.heap.size) : RunI B (ws.alloc (.cells (lineI m vs vc) 90)) ws.heap.size m := by
  have h1 := own_kept hc hb
  have hz := hb.size
  refine ⟨vs, vc, heap_alloc_new _ _, own_mono (hs.alloc _) hB, h1.alloc _, by omega, fun e => ?_, fun e => ?_, fun g hg e => ?_⟩
  · have := (hs.lt _ e).2; omega
  · have := (h1.lt _ e).2; omega
  · have := (hc.lt _ e).2; have := (hs.lt _ hg).1; omega

set_option maxHeartbeats 1600000 in
theorem imachine_any (B p : Nat) (m : SM) (w : World) (h : RunI B w p m) (hB : B ≤ w.heap.size) :
    Calls Try.prog 57 #[.pointer (some ⟨p, 0, none⟩)] w fun e w' => ∃ sv cv, e = .returned (machV m sv cv) ∧ Own w' B sv m.stk ∧ Own w' B cv m.cells ∧ (∀ g, sv.ownBlock = some g → cv.ownBlock ≠ some g) ∧ Below w.heap.size w w' := by
  have hpw := h.lt
  obtain ⟨sv, cv, hb, hm⟩ := h
  obtain ⟨a1, k1, rfl⟩ := own_shape hm.ss
  obtain ⟨a2, k2, rfl⟩ := own_shape hm.cs
  have hF : Hid (∀ w', Below w.heap.size w w' → Own w' B (.slice a1 m.stk.length k1) m.stk ∧ Own w' B (.slice a2 m.cells.length k2) m.cells ∧ (∀ g, (Value.slice a1 m.stk.length k1).ownBlock = some g → (Value.slice a2 m.cells.length k2).ownBlock ≠ some g)) := fun w' hb => ⟨own_kept hm.ss hb, own_kept hm.cs hb, hm.d3⟩
  obtain ⟨c0, c1, c2, c3, c4, c5, c6⟩ := RunI.cells (B := B) hb
  clear hm hb
  have n0 := World.new_ne w ⟨p, 0, none⟩ c0
  generalize hn1 : m.stk.length = l1 at *
  generalize hn2 : m.cells.length = l2 at *
  have a3 := heap_alloc_new w (.cells #[.int .i64 0, .slice none 0 0, .slice none 0 0, .int .i64 0, .int .i64 0, .int .i64 0, .bool false] 36)
  have b3 := (Below.refl w.heap.size w).alloc (Nat.le_refl _) (.cells #[.int .i64 0, .slice none 0 0, .slice none 0 0, .int .i64 0, .int .i64 0, .int .i64 0, .bool false] 36)
  have d0 := (b3.cell (p := ⟨p, 0, none⟩) hpw.2).trans c0
  have d1 := (b3.cell (p := ⟨p, 1, none⟩) hpw.2).trans c1
  have d2 := (b3.cell (p := ⟨p, 2, none⟩) hpw.2).trans c2
  have d3 := (b3.cell (p := ⟨p, 3, none⟩) hpw.2).trans c3
  have d4 := (b3.cell (p := ⟨p, 4, none⟩) hpw.2).trans c4
  have d5 := (b3.cell (p := ⟨p, 5, none⟩) hpw.2).trans c5
  have d6 := (b3.cell (p := ⟨p, 6, none⟩) hpw.2).trans c6
  clear c0 c1 c2 c3 c4 c5 c6
  go_enter Try.func57, Try.ntmps57
  go_wp2_with fail
  generalize w.alloc (.cells #[.int .i64 0, .slice none 0 0, .slice none 0 0, .int .i64 0, .int .i64 0, .int .i64 0, .bool false] 36) = W at *
  have e0 := cell_of_row _ _ 0 _ _ _ a3
  have e1 := cell_of_row _ _ 1 _ _ _ a3
  have e2 := cell_of_row _ _ 2 _ _ _ a3
  have e3 := cell_of_row _ _ 3 _ _ _ a3
  have e4 := cell_of_row _ _ 4 _ _ _ a3
  have e5 := cell_of_row _ _ 5 _ _ _ a3
  have e6 := cell_of_row _ _ 6 _ _ _ a3
  have f0 := frozen_of_row _ _ 0 _ _ a3
  have f1 := frozen_of_row _ _ 1 _ _ a3
  have f2 := frozen_of_row _ _ 2 _ _ a3
  have f3 := frozen_of_row _ _ 3 _ _ a3
  have f4 := frozen_of_row _ _ 4 _ _ a3
  have f5 := frozen_of_row _ _ 5 _ _ a3
  have f6 := frozen_of_row _ _ 6 _ _ a3
  simp at e0 e1 e2 e3 e4 e5 e6
  have HB : Hid (Below w.heap.size w W) := b3
  have n1 : w.heap.size ≠ p := by omega
  have n2 : p ≠ w.heap.size := by omega
  clear a3 b3
  go_region_held3 (fun Z => Z.cell? ⟨p, 0, none⟩ = some (.slice a1 l1 k1) ∧ Z.cell? ⟨p, 1, none⟩ = some (.slice a2 l2 k2) ∧ Z.cell? ⟨p, 2, none⟩ = some (.int .i64 m.pc) ∧ Z.cell? ⟨p, 3, none⟩ = some (.int .i64 m.sig) ∧ Z.cell? ⟨p, 4, none⟩ = some (.int .i64 m.used) ∧ Z.cell? ⟨p, 5, none⟩ = some (.int .i64 m.trap) ∧ Z.cell? ⟨p, 6, none⟩ = some (.bool m.done)) (first | go_keep | (simp [go_sem, *]; done)) (fail)
  have HE : Hid _ := ((((((HB.out.setCell (p := ⟨w.heap.size, 0, none⟩) (Nat.le_refl _) (.int .i64 m.pc)).setCell (p := ⟨w.heap.size, 1, none⟩) (Nat.le_refl _) (.slice a1 l1 k1)).setCell (p := ⟨w.heap.size, 2, none⟩) (Nat.le_refl _) (.slice a2 l2 k2)).setCell (p := ⟨w.heap.size, 3, none⟩) (Nat.le_refl _) (.int .i64 m.sig)).setCell (p := ⟨w.heap.size, 4, none⟩) (Nat.le_refl _) (.int .i64 m.used)).setCell (p := ⟨w.heap.size, 5, none⟩) (Nat.le_refl _) (.int .i64 m.trap)).setCell (p := ⟨w.heap.size, 6, none⟩) (Nat.le_refl _) (.bool m.done)
  go_wp2_with fail
  have HE2 := HE.out.drew
  refine bodyPost_ret (v := machV m (.slice a1 l1 k1) (.slice a2 l2 k2)) (by simp [results, Try.results57, go_sem, e0, e1, e2, e3, e4, e5, e6]) rfl ⟨_, _, rfl, (hF.out _ HE2).1, (hF.out _ HE2).2.1, (hF.out _ HE2).2.2, HE2⟩

theorem last8 {A B C D E F G H : Prop} (h : A ∧ B ∧ C ∧ D ∧ E ∧ F ∧ G ∧ H) : H := h.2.2.2.2.2.2.2
theorem below_alloc8 {W Z : World} (h : Below W.heap.size W Z) (o : Obj) : Below W.heap.size W (Z.alloc o) := h.alloc h.size o
set_option maxHeartbeats 1600000 in
theorem newRun_any (m : SM) (sv cv : Value) (w : World) (hs : RowV w sv m.stk) (hc : RowV w cv m.cells) (hl1 : m.stk.length ≤ 1048576) (hl2 : m.cells.length ≤ 1048576) :
    Calls Try.prog 54 #[machV m sv cv] w fun e w' => ∃ g, e = .returned (.pointer (some ⟨g, 0, none⟩)) ∧ RunI w.heap.size w' g m ∧ Below w.heap.size w w' := by
  have hA := (Below.refl w.heap.size w).alloc (Nat.le_refl _) (.cells (lineS m sv cv) 36)
  have a0 := heap_alloc_new w (.cells (lineS m sv cv) 36)
  obtain ⟨b1, k1, rfl, hn1, hk1⟩ := hs
  obtain ⟨b2, k2, rfl, hn2, hk2⟩ := hc
  have HX : Hid (∀ W, W = w.alloc (.cells (lineS m (.slice b1 m.stk.length k1) (.slice b2 m.cells.length k2)) 36) → Below w.heap.size w W ∧ w.heap.size < W.heap.size ∧ ∀ Z, Below W.heap.size W Z →
      Z.cell? ⟨w.heap.size, 0, none⟩ = some (.int .i64 m.pc) ∧ Z.cell? ⟨w.heap.size, 1, none⟩ = some (.slice b1 m.stk.length k1) ∧ Z.cell? ⟨w.heap.size, 2, none⟩ = some (.slice b2 m.cells.length k2) ∧ Z.cell? ⟨w.heap.size, 3, none⟩ = some (.int .i64 m.sig) ∧ Z.cell? ⟨w.heap.size, 4, none⟩ = some (.int .i64 m.used) ∧ Z.cell? ⟨w.heap.size, 5, none⟩ = some (.int .i64 m.trap) ∧ Z.cell? ⟨w.heap.size, 6, none⟩ = some (.bool m.done) ∧ Below W.heap.size W Z) := fun W e => by
    subst e
    refine ⟨hA, by simp, fun Z hz => ?_⟩
    have a1 := blk8 a0 hz
    exact ⟨cell_of_row _ _ 0 _ _ _ a1, cell_of_row _ _ 1 _ _ _ a1, cell_of_row _ _ 2 _ _ _ a1, cell_of_row _ _ 3 _ _ _ a1, cell_of_row _ _ 4 _ _ _ a1, cell_of_row _ _ 5 _ _ _ a1, cell_of_row _ _ 6 _ _ _ a1, hz⟩
  have HCS : Hid (∀ W, Below w.heap.size w W → Calls Try.prog 91 #[.slice b1 m.stk.length k1] W fun e w' => ∃ a' c', e = .returned (.slice a' m.stk.length c') ∧ Own w' W.heap.size (.slice a' m.stk.length c') m.stk ∧ Below W.heap.size W w') := fun W hb => (clone_any _ m.stk W (RowV.below ⟨b1, k1, rfl, hn1, hk1⟩ hb) hl1).mono fun e w' ⟨v', h1, h2, h3⟩ => by
    obtain ⟨a', c', rfl⟩ := own_shape h2
    exact ⟨a', c', h1, h2, h3⟩
  have HCC : Hid (∀ W, Below w.heap.size w W → Calls Try.prog 91 #[.slice b2 m.cells.length k2] W fun e w' => ∃ a' c', e = .returned (.slice a' m.cells.length c') ∧ Own w' W.heap.size (.slice a' m.cells.length c') m.cells ∧ Below W.heap.size W w') := fun W hb => (clone_any _ m.cells W (RowV.below ⟨b2, k2, rfl, hn2, hk2⟩ hb) hl2).mono fun e w' ⟨v', h1, h2, h3⟩ => by
    obtain ⟨a', c', rfl⟩ := own_shape h2
    exact ⟨a', c', h1, h2, h3⟩
  have HN : Hid (∀ (B : Nat) (ws wc : World) (vs vc : Value), Own ws B vs m.stk → Own wc ws.heap.size vc m.cells → Below ws.heap.size ws wc → B ≤ ws.heap.size → RunI B (wc.alloc (.cells (lineI m vs vc) 90)) wc.heap.size m) := fun B ws wc vs vc => new_run B ws wc m vs vc
  have HN2 : Hid (∀ (B : Nat) (ws wc : World) (vs vc : Value), Own wc B vc m.cells → Own ws wc.heap.size vs m.stk → Below wc.heap.size wc ws → B ≤ wc.heap.size → RunI B (ws.alloc (.cells (lineI m vs vc) 90)) ws.heap.size m) := fun B ws wc vs vc => new_run2 B ws wc m vs vc
  clear hA a0 hn1 hn2 hk1 hk2 hl1 hl2
  generalize hL1 : m.stk.length = l1 at *
  generalize hL2 : m.cells.length = l2 at *
  go_enter Try.func54, Try.ntmps54
  go_upto_region 1 with fail
  have hX := HX.out _ rfl
  generalize w.alloc (.cells (lineS m (.slice b1 l1 k1) (.slice b2 l2 k2)) 36) = W at *
  obtain ⟨x1, x2, x3⟩ := hX
  have HB : Hid (Below w.heap.size w W) := x1
  have HK : Hid _ := x3
  have HK0 : Hid (Below W.heap.size W W) := Below.refl _ _
  clear x1 x2 x3 HX
  go_cut [2] from 3 (fun v W1 => ∃ g, v = .pointer (some ⟨g, 0, none⟩) ∧ Hid (RunI w.heap.size W1 g m) ∧ Hid (Below w.heap.size w W1))
  case first =>
    go_region_held3 (fun Z => Z.cell? ⟨w.heap.size, 0, none⟩ = some (.int .i64 m.pc) ∧ Z.cell? ⟨w.heap.size, 1, none⟩ = some (.slice b1 l1 k1) ∧ Z.cell? ⟨w.heap.size, 2, none⟩ = some (.slice b2 l2 k2) ∧ Z.cell? ⟨w.heap.size, 3, none⟩ = some (.int .i64 m.sig) ∧ Z.cell? ⟨w.heap.size, 4, none⟩ = some (.int .i64 m.used) ∧ Z.cell? ⟨w.heap.size, 5, none⟩ = some (.int .i64 m.trap) ∧ Z.cell? ⟨w.heap.size, 6, none⟩ = some (.bool m.done) ∧ Below W.heap.size W Z)
      ((refine HK.out _ ?_; repeat' first | assumption | exact HK0.out | exact last8 (by assumption) | refine Below.drew ?_ | refine below_alloc8 ?_ _))
      (first | (with_reducible show Calls _ _ #[.slice b1 l1 k1] _ _; refine (HCS.out _ (HB.out.trans (Below.mono (B := W.heap.size) (last8 (by assumption)) HB.out.size))).mono ?_; rintro e ws ⟨ax, cx, rfl, hs, hbs⟩; have hbs2 : Below W.heap.size W ws := Below.trans (last8 (by assumption)) (hbs.mono (Below.size (last8 (by assumption))))) | (with_reducible show Calls _ _ #[.slice b2 l2 k2] _ _; refine (HCC.out _ (HB.out.trans (Below.mono (B := W.heap.size) (last8 (by assumption)) HB.out.size))).mono ?_; rintro e wq ⟨aq, cq, rfl, hq, hbq⟩; have hbq2 : Below W.heap.size W wq := Below.trans (last8 (by assumption)) (hbq.mono (Below.size (last8 (by assumption))))))
    all_goals
      go_wp2_with fail
      go_meet
      case rel =>
        have hz : w.heap.size ≤ W.heap.size := HB.out.size
        have hz1 : W.heap.size ≤ ws.heap.size := hbs2.size
        have hz2 : W.heap.size ≤ wq.heap.size := hbq2.size
        refine ⟨_, rfl, ?_, HB.out.trans (Below.mono (B := W.heap.size) (last8 (by assumption)) hz)⟩
        first
          | exact HN.out _ ws wq _ _ (own_mono hs hz) hq hbq (by omega)
          | exact HN2.out _ ws wq _ _ (own_mono hq hz) hs hbs (by omega)
  case rest =>
    obtain ⟨g, rfl, h1, h2⟩ := hcut
    go_wp2_with fail
    go_ret
    exact ⟨_, rfl, h1.out, h2.out⟩
end Go.Proofs.Ytalopffpaepaaaa
namespace Go.Proofs.Ytalopffpaepaaaa
open Go.RowKit
set_option linter.unusedVariables false

theorem words_two (a b : Int) : wordsB [a, b] = (inB a 0 65535 && inB b 0 65535) := by simp [wordsB]
set_option maxHeartbeats 3200000 in
set_option maxRecDepth 100000 in
theorem istkFault_any (m : SM) (sv cv : Value) (w : World) (hs : RowV w sv m.stk) (hc : RowV w cv m.cells) (hl1 : m.stk.length ≤ 1048576) (hl2 : m.cells.length ≤ 1048576) :
    Calls Try.prog 17 #[machV m sv cv] w fun e w' => e = .returned (.int .i64 (smF m)) ∧ Below w.heap.size w w' := by
  obtain ⟨a1, k1, rfl, hn1, _⟩ := hs
  obtain ⟨a2, k2, rfl, hn2, _⟩ := hc
  have hAL : Hid (∀ W, W = ((w.alloc (.cells (lineS m (.slice a1 m.stk.length k1) (.slice a2 m.cells.length k2)) 36)).alloc (.cells #[.int .i64 m.pc, .int .i64 m.sig] 2)).alloc (.cells #[.slice (some ⟨w.heap.size + 1, 0, none⟩) 2 2, .slice a1 m.stk.length k1, .slice a2 m.cells.length k2] 24) →
      Calls Try.prog 61 #[.slice (some ⟨w.heap.size + 2, 0, none⟩) 3 3] W (fun e w' => e = .returned (.bool (wordsB [m.pc, m.sig] && wordsB m.stk && wordsB m.cells)) ∧ w' = W) ∧ Below w.heap.size w W ∧ W.heap[w.heap.size]? = some (.cells (lineS m (.slice a1 m.stk.length k1) (.slice a2 m.cells.length k2)) 36 (0, 0))) := fun W e => by
    subst e
    have x1 := heap_alloc_new w (.cells (lineS m (.slice a1 m.stk.length k1) (.slice a2 m.cells.length k2)) 36)
    have y1 := (Below.refl w.heap.size w).alloc (Nat.le_refl _) (.cells (lineS m (.slice a1 m.stk.length k1) (.slice a2 m.cells.length k2)) 36)
    have s1 : (w.alloc (.cells (lineS m (.slice a1 m.stk.length k1) (.slice a2 m.cells.length k2)) 36)).heap.size = w.heap.size + 1 := by simp
    generalize w.alloc (.cells (lineS m (.slice a1 m.stk.length k1) (.slice a2 m.cells.length k2)) 36) = W1 at *
    have x2 := heap_alloc_new W1 (.cells #[.int .i64 m.pc, .int .i64 m.sig] 2)
    have y2 := (Below.refl W1.heap.size W1).alloc (Nat.le_refl _) (.cells #[.int .i64 m.pc, .int .i64 m.sig] 2)
    have s2 : (W1.alloc (.cells #[.int .i64 m.pc, .int .i64 m.sig] 2)).heap.size = w.heap.size + 2 := by simp [s1]
    generalize W1.alloc (.cells #[.int .i64 m.pc, .int .i64 m.sig] 2) = W2 at *
    have x3 := heap_alloc_new W2 (.cells #[.slice (some ⟨w.heap.size + 1, 0, none⟩) 2 2, .slice a1 m.stk.length k1, .slice a2 m.cells.length k2] 24)
    have y3 := (Below.refl W2.heap.size W2).alloc (Nat.le_refl _) (.cells #[.slice (some ⟨w.heap.size + 1, 0, none⟩) 2 2, .slice a1 m.stk.length k1, .slice a2 m.cells.length k2] 24)
    generalize W2.alloc (.cells #[.slice (some ⟨w.heap.size + 1, 0, none⟩) 2 2, .slice a1 m.stk.length k1, .slice a2 m.cells.length k2] 24) = W3 at *
    rw [s1] at x2
    rw [s2] at x3
    have B3 : Below w.heap.size w W3 := (y1.trans (y2.mono (by omega))).trans (y3.mono (by omega))
    refine ⟨?_, B3, blk8 (blk8 x1 y2) y3⟩
    have hx2 := blk8 x2 y3
    have := allWords_any (w.heap.size + 2) 3 3 (fun i => if i = 0 then some ⟨w.heap.size + 1, 0, none⟩ else if i = 1 then a1 else a2) (fun i => if i = 0 then [m.pc, m.sig] else if i = 1 then m.stk else m.cells) (fun i => if i = 0 then 2 else if i = 1 then k1 else k2) W3 (by omega)
      (fun i hi => by
        have h : i = 0 ∨ i = 1 ∨ i = 2 := by omega
        rcases h with rfl | rfl | rfl
        · exact cell_of_row _ _ 0 _ _ _ x3
        · exact cell_of_row _ _ 1 _ _ _ x3
        · exact cell_of_row _ _ 2 _ _ _ x3)
      (fun i hi => by
        have h : i = 0 ∨ i = 1 ∨ i = 2 := by omega
        rcases h with rfl | rfl | rfl
        · show 2 ≤ _; omega
        · show m.stk.length ≤ _; omega
        · show m.cells.length ≤ _; omega)
      (fun i hi => by
        have h : i = 0 ∨ i = 1 ∨ i = 2 := by omega
        rcases h with rfl | rfl | rfl
        · refine .inr ⟨_, 0, rfl, fun j hj => ?_⟩
          have hj2 : j = 0 ∨ j = 1 := by
            have : j < 2 := hj
            omega
          rcases hj2 with rfl | rfl
          · exact cell_of_row _ _ 0 _ _ _ hx2
          · exact cell_of_row _ _ 1 _ _ _ hx2
        · exact hn1.below B3
        · exact hn2.below B3)
    rw [allB_three] at this
    exact this
  have hF : Hid (smFit m = ((wordsB [m.pc, m.sig] && wordsB m.stk && wordsB m.cells) && inB m.used 0 1000000 && inB m.trap 0 10)) := by
    show smFit m = _
    unfold smFit
    rw [words_two]
  have HS : Hid (smF m = if smFit m then (if 40 < m.stk.length ∨ 80 < m.cells.length then 2 else 0) else 3) := rfl
  have HU : Hid (∀ W, Calls Try.prog 38 #[.int .i64 m.used, .int .i64 0, .int .i64 1000000] W fun e w' => e = .returned (.bool (inB m.used 0 1000000)) ∧ w' = W) := within_any m.used 0 1000000
  have HT : Hid (∀ W, Calls Try.prog 38 #[.int .i64 m.trap, .int .i64 0, .int .i64 10] W fun e w' => e = .returned (.bool (inB m.trap 0 10)) ∧ w' = W) := within_any m.trap 0 10
  clear hn1 hn2
  generalize (wordsB [m.pc, m.sig] && wordsB m.stk && wordsB m.cells) = q at *
  generalize inB m.used 0 1000000 = qu at *
  generalize inB m.trap 0 10 = qt at *
  go_enter Try.func17, Try.ntmps17
  go_upto_region 1 with fail
  go_cut [26] from 3 (fun x W1 => x = .bool (!(q && qu && qt)) ∧ Hid (Below w.heap.size w W1 ∧ W1.heap[w.heap.size]? = some (.cells (lineS m (.slice a1 m.stk.length k1) (.slice a2 m.cells.length k2)) 36 (0, 0))))
  case first =>
    clear HS hF
    cases q <;> cases qu <;> cases qt
    all_goals
      go_wp2_with (first | (go_at_call 61; refine ((hAL.out _ rfl).1).mono ?_; rintro e w4 ⟨rfl, rfl⟩) | (with_reducible show Calls _ _ #[_, _, .int .i64 1000000] _ _; refine (HU.out _).mono ?_; rintro e w4 ⟨rfl, rfl⟩) | (with_reducible show Calls _ _ #[_, _, .int .i64 10] _ _; refine (HT.out _).mono ?_; rintro e w4 ⟨rfl, rfl⟩))
      go_meet
      case rel => exact ⟨rfl, (hAL.out _ rfl).2⟩
  case rest =>
    obtain ⟨rfl, hw⟩ := hcut
    have c1 := cell_of_row _ _ 1 _ _ _ hw.out.2
    have c2 := cell_of_row _ _ 2 _ _ _ hw.out.2
    simp at c1 c2
    have HB : Hid (Below w.heap.size w wc) := hw.out.1
    clear hw hAL HU HT
    cases hb : (q && qu && qt)
    · have E : Hid (smF m = 3) := by unfold Hid; rw [HS.out, hF.out, hb]; rfl
      clear HS hF hb
      go_wp2_with fail
      go_ret
      exact ⟨by rw [E.out]; rfl, HB.out⟩
    · have E : Hid (smF m = if 40 < m.stk.length ∨ 80 < m.cells.length then 2 else 0) := by unfold Hid; rw [HS.out, hF.out, hb]; rfl
      clear HS hF hb
      generalize m.stk.length = l1 at *
      generalize m.cells.length = l2 at *
      by_cases h1 : 40 < l1
      · go_wp2_with fail
        go_ret
        exact ⟨by rw [E.out, if_pos (.inl h1)]; rfl, HB.out⟩
      · by_cases h2 : 80 < l2
        · go_wp2_with fail
          go_ret
          exact ⟨by rw [E.out, if_pos (.inr h2)]; rfl, HB.out⟩
        · go_wp2_with fail
          go_ret
          exact ⟨by rw [E.out, if_neg (by omega)]; rfl, HB.out⟩
end Go.Proofs.Ytalopffpaepaaaa
namespace Go.Proofs.Ytalopffpaepaaaa
open Go.RowKit
set_option linter.unusedVariables false
theorem hidK {p : Prop} (h : p) : Hid p := h
attribute [local go_sem ↓] Go.wp_at_zero Go.wp_at_succ

set_option maxHeartbeats 6400000 in
set_option maxRecDepth 100000 in
theorem iStep_any (a : Option Addr) (zs : List Int) (c : Nat) (m : SM) (sv cv : Value) (w : World) (hn : Nums w a zs) (hab : ∀ b off, a = some ⟨b, off, none⟩ → b < w.heap.size) (hl : zs.length ≤ 1048576) (hzc : zs.length ≤ c) (hs : RowV w sv m.stk) (hc : RowV w cv m.cells) (hl1 : m.stk.length ≤ 1048576) (hl2 : m.cells.length ≤ 1048576) :
    Calls Try.prog 16 #[.slice a zs.length c, machV m sv cv] w fun e w' => ResR w w' e (stepC zs m) (stepR zs m) := by
  have hX : Hid (∀ W, W = (w.alloc (.cells (lineS m sv cv) 36)).alloc (.cells zero8 38) →
      Below w.heap.size w W ∧ W.heap[w.heap.size]? = some (.cells (lineS m sv cv) 36 (0, 0)) ∧ W.heap[w.heap.size + 1]? = some (.cells zero8 38 (0, 0)) ∧ W.heap.size = w.heap.size + 2) := fun W e => by
    subst e
    have x1 := heap_alloc_new w (.cells (lineS m sv cv) 36)
    have y1 := (Below.refl w.heap.size w).alloc (Nat.le_refl _) (.cells (lineS m sv cv) 36)
    have s1 : (w.alloc (.cells (lineS m sv cv) 36)).heap.size = w.heap.size + 1 := by simp
    generalize w.alloc (.cells (lineS m sv cv) 36) = W1 at *
    have x2 := heap_alloc_new W1 (.cells zero8 38)
    have y2 := (Below.refl W1.heap.size W1).alloc (Nat.le_refl _) (.cells zero8 38)
    rw [s1] at x2
    exact ⟨y1.trans (y2.mono (by omega)), blk8 x1 y2, x2, by simp [s1]⟩
  have HCW : Hid (∀ W, Below w.heap.size w W → Calls Try.prog 52 #[.slice a zs.length c] W fun e w' => e = .returned (.int .i64 (fault zs)) ∧ Below W.heap.size W w') := fun W h => implFault_any a zs c W (by omega) (hn.below h)
  have HCF : Hid (∀ W, Below w.heap.size w W → Calls Try.prog 17 #[machV m sv cv] W fun e w' => e = .returned (.int .i64 (smF m)) ∧ Below W.heap.size W w') := fun W h => istkFault_any m sv cv W (hs.below h) (hc.below h) hl1 hl2
  have HCN : Hid (∀ W, Below w.heap.size w W → Calls Try.prog 54 #[machV m sv cv] W fun e w' => ∃ g, e = .returned (.pointer (some ⟨g, 0, none⟩)) ∧ RunI W.heap.size w' g m ∧ Below W.heap.size W w') := fun W h => newRun_any m sv cv W (hs.below h) (hc.below h) hl1 hl2
  have HCS : Hid (fault zs = 0 → smF m = 0 → ∀ (B g : Nat) (W : World), Below w.heap.size w W → w.heap.size ≤ B → RunI B W g m → Calls Try.prog 56 #[.pointer (some ⟨g, 0, none⟩), .slice a zs.length c] W fun e w' => e = .returned (.tuple #[]) ∧ RunI B w' g (stepL zs m) ∧ Below B W w') := fun h1 h2 B g W hb hB hr =>
    istep_any B g m zs a c W hr (good_of h2) (hn.below hb) (fun b off hab2 => by have := hab b off hab2; omega) (fault_good h1).2 hzc (fault_good h1).1
  have HR : Hid ((fault zs ≠ 0 → stepC zs m = fault zs ∧ stepR zs m = zeroM) ∧ (fault zs = 0 → smF m ≠ 0 → stepC zs m = smF m ∧ stepR zs m = zeroM) ∧ (fault zs = 0 → smF m = 0 → stepC zs m = 0 ∧ stepR zs m = stepM zs m)) := by
    refine ⟨fun h => ?_, fun h h2 => ?_, fun h h2 => ?_⟩
    · have e : stepC zs m = fault zs := if_neg h
      exact ⟨e, by unfold stepR; rw [e, if_neg h]⟩
    · have e : stepC zs m = smF m := if_pos h
      exact ⟨e, by unfold stepR; rw [e, if_neg h2]⟩
    · have e : stepC zs m = 0 := (if_pos h).trans h2
      exact ⟨e, by unfold stepR; rw [e, if_pos rfl]⟩
  have HM : Hid ((goes m = true → stepM zs m = stepL zs m) ∧ (goes m = false → stepM zs m = m)) := ⟨fun h => if_pos h, fun h => if_neg (by rw [h]; simp)⟩
  have hsh : ∃ x y n, sv = .slice x n y := by obtain ⟨x, y, e, _⟩ := hs; exact ⟨x, y, _, e⟩
  have hch : ∃ x y n, cv = .slice x n y := by obtain ⟨x, y, e, _⟩ := hc; exact ⟨x, y, _, e⟩
  clear hn hl hs hc hl1 hl2 hab hzc
  obtain ⟨xs, ys, ns, rfl⟩ := hsh
  obtain ⟨xc, yc, nc, rfl⟩ := hch
  generalize fault zs = fz at *
  generalize smF m = F at *
  generalize stepM zs m = M at *
  generalize stepL zs m = ML at *
  generalize stepC zs m = C at *
  generalize stepR zs m = R at *
  generalize zs.length = L at *
  go_enter Try.func16, Try.ntmps16
  go_upto_region 1 with fail
  have hXX := hX.out _ rfl
  generalize (w.alloc (.cells (lineS m (.slice xs ns ys) (.slice xc nc yc)) 36)).alloc (.cells zero8 38) = W at *
  obtain ⟨x1, x2, x3, x4⟩ := hXX
  have HB : Hid (Below w.heap.size w W) := x1
  have HA : Hid (W.heap[w.heap.size]? = _) := x2
  have HZ : Hid (W.heap[w.heap.size + 1]? = _) := x3
  have HS : Hid (W.heap.size = w.heap.size + 2) := x4
  clear x1 x2 x3 x4 hX
  go_upto_region 2 with (go_at_call 52; refine (HCW.out W HB.out).mono ?_; rintro e w1 ⟨rfl, hb1⟩)
  have HB1 : Hid (Below w.heap.size w w1) := HB.out.trans (hb1.mono HB.out.size)
  have HA1 : Hid (w1.heap[w.heap.size]? = some (.cells (lineS m (.slice xs ns ys) (.slice xc nc yc)) 36 (0, 0))) := blk8 HA.out hb1
  have HZ1 : Hid (w1.heap[w.heap.size + 1]? = some (.cells zero8 38 (0, 0))) := blk8 HZ.out hb1
  clear hb1 HCW HB HA HZ HS
  by_cases hz : fz = 0
  case neg =>
    have hR := HR.out.1 hz
    obtain ⟨rfl, rfl⟩ := hR
    have e0 : (C != 0) = true := by simpa using hz
    have HF : Hid _ := res_code w w1 (w.heap.size + 1) C (by omega) HB1.out
    have g0 := cell_of_row _ _ 0 _ _ _ HZ1.out
    have g1 := cell_of_row _ _ 1 _ _ _ HZ1.out
    have g2 := cell_of_row _ _ 2 _ _ _ HZ1.out
    have g3 := cell_of_row _ _ 3 _ _ _ HZ1.out
    have g4 := cell_of_row _ _ 4 _ _ _ HZ1.out
    have g5 := cell_of_row _ _ 5 _ _ _ HZ1.out
    have g6 := cell_of_row _ _ 6 _ _ _ HZ1.out
    have g7 := cell_of_row _ _ 7 _ _ _ HZ1.out
    have f0 := frozen_of_row _ _ 0 _ _ HZ1.out
    have f1 := frozen_of_row _ _ 1 _ _ HZ1.out
    have f2 := frozen_of_row _ _ 2 _ _ HZ1.out
    have f3 := frozen_of_row _ _ 3 _ _ HZ1.out
    have f4 := frozen_of_row _ _ 4 _ _ HZ1.out
    have f5 := frozen_of_row _ _ 5 _ _ HZ1.out
    have f6 := frozen_of_row _ _ 6 _ _ HZ1.out
    have f7 := frozen_of_row _ _ 7 _ _ HZ1.out
    simp at g0 g1 g2 g3 g4 g5 g6 g7
    clear hz HCF HCN HCS HR HM HA1 HZ1
    go_wp2_with fail
    refine bodyPost_ret (v := codeV C) (by simp [results, Try.results16, go_sem, g0, g1, g2, g3, g4, g5, g6, g7]; try rfl) rfl ?_
    exact HF.out
  subst hz
  obtain ⟨d0, d1, d2, d3, d4, d5, d6⟩ := lineS_cells HA1.out
  go_upto_region 5 with (go_at_call 17; refine (HCF.out w1 HB1.out).mono ?_; rintro e w2 ⟨rfl, hb2⟩)
  have HB2 : Hid (Below w.heap.size w w2) := HB1.out.trans (hb2.mono HB1.out.size)
  have HA2 : Hid (w2.heap[w.heap.size]? = some (.cells (lineS m (.slice xs ns ys) (.slice xc nc yc)) 36 (0, 0))) := blk8 HA1.out hb2
  have HZ2 : Hid (w2.heap[w.heap.size + 1]? = some (.cells zero8 38 (0, 0))) := blk8 HZ1.out hb2
  clear hb2 HCF HB1 HA1 HZ1 d0 d1 d2 d3 d4 d5 d6
  by_cases hf : F = 0
  case neg =>
    have hR := HR.out.2.1 (by first | rfl | trivial) hf
    obtain ⟨rfl, rfl⟩ := hR
    have e0 : (C != 0) = true := by simpa using hf
    have HF : Hid _ := res_code w w2 (w.heap.size + 1) C (by omega) HB2.out
    have g0 := cell_of_row _ _ 0 _ _ _ HZ2.out
    have g1 := cell_of_row _ _ 1 _ _ _ HZ2.out
    have g2 := cell_of_row _ _ 2 _ _ _ HZ2.out
    have g3 := cell_of_row _ _ 3 _ _ _ HZ2.out
    have g4 := cell_of_row _ _ 4 _ _ _ HZ2.out
    have g5 := cell_of_row _ _ 5 _ _ _ HZ2.out
    have g6 := cell_of_row _ _ 6 _ _ _ HZ2.out
    have g7 := cell_of_row _ _ 7 _ _ _ HZ2.out
    have f0 := frozen_of_row _ _ 0 _ _ HZ2.out
    have f1 := frozen_of_row _ _ 1 _ _ HZ2.out
    have f2 := frozen_of_row _ _ 2 _ _ HZ2.out
    have f3 := frozen_of_row _ _ 3 _ _ HZ2.out
    have f4 := frozen_of_row _ _ 4 _ _ HZ2.out
    have f5 := frozen_of_row _ _ 5 _ _ HZ2.out
    have f6 := frozen_of_row _ _ 6 _ _ HZ2.out
    have f7 := frozen_of_row _ _ 7 _ _ HZ2.out
    simp at g0 g1 g2 g3 g4 g5 g6 g7
    clear hf HCN HCS HR HM HA2 HZ2
    go_wp2_with fail
    refine bodyPost_ret (v := codeV C) (by simp [results, Try.results16, go_sem, g0, g1, g2, g3, g4, g5, g6, g7]; try rfl) rfl ?_
    exact HF.out
  subst hf
  have hR := HR.out.2.2 (by first | rfl | trivial) (by first | rfl | trivial)
  obtain ⟨rfl, rfl⟩ := hR
  obtain ⟨d0, d1, d2, d3, d4, d5, d6⟩ := lineS_cells HA2.out
  go_upto_region 8 with (go_at_call 54; refine (HCN.out w2 HB2.out).mono ?_; rintro e w3 ⟨g, rfl, hr3, hb3⟩)
  have HB3 : Hid (Below w.heap.size w w3) := HB2.out.trans (hb3.mono HB2.out.size)
  have HZ3 : Hid (w3.heap[w.heap.size + 1]? = some (.cells zero8 38 (0, 0))) := blk8 HZ2.out hb3
  have HR3 : Hid (RunI w2.heap.size w3 g m) := hr3
  have HS3 : Hid (w2.heap.size ≤ w3.heap.size) := hb3.size
  have HS2 : Hid (w.heap.size + 1 < w2.heap.size) := (Array.getElem?_eq_some_iff.1 HZ2.out).1
  clear hr3 hb3 HCN HB2 HA2 HZ2 d0 d1 d2 d3 d4 d5 d6 HR
  cases hgo : goes m
  · have hRm := HM.out.2 hgo
    subst hRm
    go_wp2_with fail
    refine (goesOn_any w2.heap.size g R w3 HR3.out).mono ?_
    rintro e W5 ⟨rfl, hW5⟩
    rw [hgo]
    have hW6 := hW5.symm
    clear hW5
    subst hW6
    have HR5 := hidK HR3.out
    have HB5 := hidK HB3.out
    have HZ5 := hidK HZ3.out
    clear HR3 HB3 HZ3 HCS HM hgo
    go_wp2_with fail
    refine (imachine_any w2.heap.size g R w3 HR5.out HS3.out).mono ?_
    rintro e w6 ⟨s6, c6, rfl, o1, o2, o3, b6⟩
    obtain ⟨q1, t1, rfl⟩ := own_shape o1
    obtain ⟨q2, t2, rfl⟩ := own_shape o2
    have HB6 : Hid (Below w.heap.size w w6) := HB5.out.trans (b6.mono HB5.out.size)
    have HZ6 := blk8 HZ5.out b6
    have HF := hidK (res_mach w w6 (w.heap.size + 1) w2.heap.size R _ _ (by omega) HS2.out o1 o2 o3 HB6.out)
    have g0 := cell_of_row _ _ 0 _ _ _ HZ6
    have g1 := cell_of_row _ _ 1 _ _ _ HZ6
    have g2 := cell_of_row _ _ 2 _ _ _ HZ6
    have g3 := cell_of_row _ _ 3 _ _ _ HZ6
    have g4 := cell_of_row _ _ 4 _ _ _ HZ6
    have g5 := cell_of_row _ _ 5 _ _ _ HZ6
    have g6 := cell_of_row _ _ 6 _ _ _ HZ6
    have g7 := cell_of_row _ _ 7 _ _ _ HZ6
    have f0 := frozen_of_row _ _ 0 _ _ HZ6
    have f1 := frozen_of_row _ _ 1 _ _ HZ6
    have f2 := frozen_of_row _ _ 2 _ _ HZ6
    have f3 := frozen_of_row _ _ 3 _ _ HZ6
    have f4 := frozen_of_row _ _ 4 _ _ HZ6
    have f5 := frozen_of_row _ _ 5 _ _ HZ6
    have f6 := frozen_of_row _ _ 6 _ _ HZ6
    have f7 := frozen_of_row _ _ 7 _ _ HZ6
    simp at g0 g1 g2 g3 g4 g5 g6 g7
    clear HB5 HZ5 HR5 o1 o2 o3 b6 HZ6 HB6 HS2
    generalize hq1 : R.stk.length = l1 at *
    generalize hq2 : R.cells.length = l2 at *
    generalize hdn : R.done = dn at *
    go_wp2_with fail
    refine bodyPost_ret (v := .agg #[.int .i64 0, .int .i64 R.pc, .slice q1 l1 t1, .slice q2 l2 t2, .int .i64 R.sig, .int .i64 R.used, .int .i64 R.trap, .bool dn]) (by simp [results, Try.results16, go_sem, g0, g1, g2, g3, g4, g5, g6, g7]; try rfl) rfl ?_
    subst hdn
    exact HF.out
  · have hRm := HM.out.1 hgo
    subst hRm
    go_wp2_with fail
    refine (goesOn_any w2.heap.size g m w3 HR3.out).mono ?_
    rintro e W4 ⟨rfl, hW5⟩
    rw [hgo]
    have hW6 := hW5.symm
    clear hW5
    subst hW6
    go_wp2_with fail
    have hle : w.heap.size ≤ w2.heap.size := by have := HS2.out; omega
    have hcs := HCS.out (by first | rfl | trivial) (by first | rfl | trivial) w2.heap.size g w3 HB3.out hle HR3.out
    refine hcs.mono ?_
    clear hcs
    rintro e W5 ⟨rfl, hr5, hb5⟩
    have HR5 := hidK hr5
    have HS5 : Hid (w2.heap.size ≤ W5.heap.size) := by have := hb5.size; have := HS3.out; show _ ≤ _; omega
    have HB5 : Hid (Below w.heap.size w W5) := HB3.out.trans (hb5.mono (by have := HS2.out; omega))
    have HZ5 : Hid (W5.heap[w.heap.size + 1]? = some (.cells zero8 38 (0, 0))) := (hb5.block _ HS2.out).trans HZ3.out
    clear HR3 HB3 HZ3 HCS HM hgo hr5 hb5
    go_wp2_with fail
    refine (imachine_any w2.heap.size g R W5 HR5.out HS5.out).mono ?_
    rintro e w6 ⟨s6, c6, rfl, o1, o2, o3, b6⟩
    obtain ⟨q1, t1, rfl⟩ := own_shape o1
    obtain ⟨q2, t2, rfl⟩ := own_shape o2
    have HB6 : Hid (Below w.heap.size w w6) := HB5.out.trans (b6.mono HB5.out.size)
    have HZ6 := blk8 HZ5.out b6
    have HF := hidK (res_mach w w6 (w.heap.size + 1) w2.heap.size R _ _ (by omega) HS2.out o1 o2 o3 HB6.out)
    have g0 := cell_of_row _ _ 0 _ _ _ HZ6
    have g1 := cell_of_row _ _ 1 _ _ _ HZ6
    have g2 := cell_of_row _ _ 2 _ _ _ HZ6
    have g3 := cell_of_row _ _ 3 _ _ _ HZ6
    have g4 := cell_of_row _ _ 4 _ _ _ HZ6
    have g5 := cell_of_row _ _ 5 _ _ _ HZ6
    have g6 := cell_of_row _ _ 6 _ _ _ HZ6
    have g7 := cell_of_row _ _ 7 _ _ _ HZ6
    have f0 := frozen_of_row _ _ 0 _ _ HZ6
    have f1 := frozen_of_row _ _ 1 _ _ HZ6
    have f2 := frozen_of_row _ _ 2 _ _ HZ6
    have f3 := frozen_of_row _ _ 3 _ _ HZ6
    have f4 := frozen_of_row _ _ 4 _ _ HZ6
    have f5 := frozen_of_row _ _ 5 _ _ HZ6
    have f6 := frozen_of_row _ _ 6 _ _ HZ6
    have f7 := frozen_of_row _ _ 7 _ _ HZ6
    simp at g0 g1 g2 g3 g4 g5 g6 g7
    clear HB5 HZ5 HR5 o1 o2 o3 b6 HZ6 HB6 HS2
    generalize hq1 : R.stk.length = l1 at *
    generalize hq2 : R.cells.length = l2 at *
    generalize hdn : R.done = dn at *
    go_wp2_with fail
    refine bodyPost_ret (v := .agg #[.int .i64 0, .int .i64 R.pc, .slice q1 l1 t1, .slice q2 l2 t2, .int .i64 R.sig, .int .i64 R.used, .int .i64 R.trap, .bool dn]) (by simp [results, Try.results16, go_sem, g0, g1, g2, g3, g4, g5, g6, g7]; try rfl) rfl ?_
    subst hdn
    exact HF.out
end Go.Proofs.Ytalopffpaepaaaa
