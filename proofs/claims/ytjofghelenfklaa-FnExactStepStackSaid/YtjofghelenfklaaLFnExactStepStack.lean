/-
  The Go function laws.FnExactStepStack answers true at every input and leaves its arguments as they were. No condition.
-/
import Derived.Test.YtjofghelenfklaaSStk1
import Derived.Deep.RegionHeld3
import Derived.Test.YtjofghelenfklaaReck0
import Derived.Test.YtjofghelenfklaaStkGo
import Derived.Deep.QuietTactic
import Derived.Test.YtjofghelenfklaaStkSole
import Derived.Test.YtjofghelenfklaaStkRun
import Derived.Test.YtjofghelenfklaaWords0
import Derived.Test.YtjofghelenfklaaStkRes
import Derived.Test.YtjofghelenfklaaStkVar3
import Derived.Test.YtjofghelenfklaaIStk13
import Derived.Deep.Cut
namespace Go.Proofs.Ytjofghelenfklaa
open Go.RowKit
set_option linter.unusedVariables false
attribute [local go_sem ↓] Go.wp_at_zero Go.wp_at_succ

theorem RunS.lt {B p : Nat} {w : World} {m : SM} (h : RunS B w p m) : B ≤ p ∧ p < w.heap.size := by
  obtain ⟨sv, cv, hb, hm⟩ := h
  exact ⟨hm.pB, (Array.getElem?_eq_some_iff.1 hb).1⟩
theorem RunS.cut1 {B p n c : Nat} {w w' : World} {a : Option Addr} {m : SM} {cv : Value} (hb : w.heap[p]? = some (.cells (lineS m (.slice a n c) cv) 39 (0, 0))) (hm : MemO B w p (.slice a n c) cv m) (h0 : 0 < n) (hw : w'.heap = w.heap) : RunS B (w'.setCell ⟨p, 1, none⟩ (.slice a (n - 1) c)) p (pop m) := by
  have hn := own_len hm.ss
  subst hn
  have hlt := (Array.getElem?_eq_some_iff.1 hb).1
  have hob : (Value.slice a (m.stk.length - 1) c).ownBlock = (Value.slice a m.stk.length c).ownBlock := by cases a <;> rfl
  refine ⟨_, cv, ?_, MemO.stk (m' := pop m) hm (w' := w') ?_ (fun g _ _ => by rw [hw]) (.inl hob) hlt rfl _ _⟩
  · have := heap_setCell_same w' p 1 _ _ (.slice a (m.stk.length - 1) c) (by rw [hw]; exact hb)
    exact this
  · exact own_other (own_cut hm.ss h0) (fun g _ => by rw [hw])

set_option maxHeartbeats 1600000 in
theorem l8Pop_any (B p : Nat) (m : SM) (w : World) (h : RunS B w p m) (h0 : 0 < m.stk.length) (hl : m.stk.length ≤ 40) :
    Calls Try.prog 154 #[.pointer (some ⟨p, 0, none⟩)] w fun e w' => e = .returned (.int .i64 (tp m 0)) ∧ RunS B w' p (pop m) ∧ Below B w w' := by
  obtain ⟨hpB, hpw⟩ := h.lt
  obtain ⟨sv, cv, hb, hm⟩ := h
  obtain ⟨a, c, rfl⟩ := own_shape hm.ss
  have hnn := (nums_of_own hm.ss).2
  rcases hnn with hn | ⟨b, off, rfl, hcc⟩
  · rw [hn] at h0; simp at h0
  have hcell := hcc (m.stk.length - 1) (by omega)
  have hT : Hid (tp m 0 = m.stk.getD (m.stk.length - 1) 0) := rfl
  have c1 := (RunS.cells hb).2.1
  have f1 := frozen_of_row _ _ 1 _ _ hb
  have HX : Hid (∀ w' : World, w'.heap = w.heap → RunS B (w'.setCell ⟨p, 1, none⟩ (.slice (some ⟨b, off, none⟩) (m.stk.length - 1) c)) p (pop m)) := fun w' hw => RunS.cut1 hb hm h0 hw
  have HPB : Hid (B ≤ p) := hpB
  have hcap : m.stk.length ≤ c := by
    rcases hm.ss.2 with ⟨h1, h2⟩ | ⟨g, c2, cur, h1, _, _, h3, _⟩
    · omega
    · simp at h1; omega
  rw [← hT.out] at hcell
  clear hb hm hcc hT hpw hpB
  generalize m.stk.length = n at *
  obtain ⟨k, hk⟩ : ∃ k, k = n - 1 := ⟨_, rfl⟩
  rw [← hk] at HX hcell
  have q0 : (0 : Int) ≤ (k : Int) := by omega
  have q1 : (k : Int) < (n : Int) := by omega
  have q2 : (k : Int) ≤ (c : Int) := by omega
  have e1 : (n : Int) - 1 = (k : Int) := by omega
  have h1n : (1 : Int) ≤ (n : Int) := by omega
  have hn40 : (n : Int) ≤ 40 := by omega
  clear hk h0 hl
  go_enter Try.func154, Try.ntmps154
  go_wp2_with fail
  go_ret
  exact ⟨rfl, HX.out w rfl, (Below.refl _ _).setCell HPB.out _⟩

set_option maxHeartbeats 1600000 in
theorem l8Push_any (B p : Nat) (m : SM) (x : Int) (w : World) (h : RunS B w p m) (hl : m.stk.length ≤ 40) :
    Calls Try.prog 153 #[.pointer (some ⟨p, 0, none⟩), .int .i64 x] w fun e w' => e = .returned (.tuple #[]) ∧ RunS B w' p (psh m x) ∧ Below B w w' := by
  obtain ⟨hpB, hpw⟩ := h.lt
  obtain ⟨sv, cv, hb, hm⟩ := h
  have HPB : Hid (B ≤ p ∧ p < w.heap.size) := ⟨hpB, hpw⟩
  have hA := (Below.refl w.heap.size w).alloc (Nat.le_refl _) (.cells #[.int .i64 x] 2)
  have hO := own_kept hm.ss hA
  have hN : Nums (w.alloc (.cells #[.int .i64 x] 2)) (some ⟨w.heap.size, 0, none⟩) [x] := .inr ⟨_, 0, rfl, fun i hi => by
    have : i = 0 := by simpa using hi
    subst this
    exact cell_of_row _ _ 0 _ _ _ (heap_alloc_new w _)⟩
  have c0 := (RunS.cells hb).2.1
  have f0 := frozen_of_row _ _ 1 _ _ hb
  have HB0 : Hid (w.heap[p]? = some (.cells (lineS m sv cv) 39 (0, 0))) := hb
  have HM : Hid (MemO B w p sv cv m) := hm
  have HA : Hid (Below w.heap.size w (w.alloc (.cells #[.int .i64 x] 2))) := hA
  have HO : Hid (Own (w.alloc (.cells #[.int .i64 x] 2)) B sv m.stk) := hO
  have HN : Hid (Nums (w.alloc (.cells #[.int .i64 x] 2)) (some ⟨w.heap.size, 0, none⟩) [x]) := hN
  clear hb hm hA hO hN hpB hpw
  go_enter Try.func153, Try.ntmps153
  go_wp2_with (at_builtin; refine wpList_append_nums rfl _ _ rfl B _ m.stk [x] (by rfl) HO.out (some ⟨w.heap.size, 0, none⟩) 1 (by rfl) HN.out (by simp) (by simp) (by simp; omega) (by have := HPB.out; simp; omega) ?_)
  intro v' w2 ho hg hv
  obtain ⟨a2, c2, rfl⟩ := own_shape ho.out
  have hW : Hid (∀ i, (w2.setCell ⟨p, i, none⟩ (.slice a2 (m.stk ++ [x]).length c2)).heap[p]? = some (.cells ((lineS m sv cv).setIfInBounds i (.slice a2 (m.stk ++ [x]).length c2)) 39 (0, 0)) ∧ MemO B (w2.setCell ⟨p, i, none⟩ (.slice a2 (m.stk ++ [x]).length c2)) p (.slice a2 (m.stk ++ [x]).length c2) cv (psh m x)) := fun i => by
    have hG := MemO.grown HM.out HB0.out HA.out (by have := HPB.out; omega) hg.out
    refine ⟨heap_setCell_same w2 p i _ _ (.slice a2 (m.stk ++ [x]).length c2) hG.1, MemO.stk (m' := psh m x) HM.out (w' := w2) ho.out (fun g hg2 hne => ?_) ?_ HPB.out.2 rfl _ _⟩
    · rw [hg.out.block g (by have := HA.out.size; omega) hne, HA.out.block g hg2]
    · rcases hv.out with h | h
      · exact .inl h
      · exact .inr ⟨_, by simp, h⟩
  rw [show (m.stk ++ [x]).length = m.stk.length + 1 from by simp] at hW
  have hG := MemO.grown HM.out HB0.out HA.out (by have := HPB.out; omega) hg.out
  have hw0 := (RunS.cells hG.1).2.1
  have hf0 := frozen_of_row _ _ 1 _ _ hG.1
  have HB2 : Hid (Below B w w2) := hG.2
  clear hG hg ho hv c0 f0
  go_wp2_with fail
  go_end0
  exact ⟨rfl, ⟨_, cv, (hW.out 1).1, (hW.out 1).2⟩, HB2.out.setCell (by have := HPB.out; simp; omega) _⟩

set_option maxHeartbeats 1600000 in
theorem l8Row_any (p : Nat) (m : SM) (sv cv : Value) (f s i : Int) (w : World) (hp : w.heap[p]? = some (.cells (lineS m sv cv) 39 (0, 0))) (hc : RowV w cv m.cells) (hl : m.cells.length ≤ 80) (hf0 : 0 ≤ f) (hf1 : f ≤ 65535) (hs0 : 0 ≤ s) (hs1 : s ≤ 65535) :
    Calls Try.prog 155 #[.pointer (some ⟨p, 0, none⟩), .int .i64 f, .int .i64 s, .int .i64 i] w fun e w' => e = .returned (.tuple #[.int .i64 (itemV m.cells.length f s i), .int .i64 (itemC m.cells.length f s i)]) ∧ w' = w := by
  have HS : Hid (∀ W, Calls Try.prog 163 #[.int .i64 i] W fun e w' => e = .returned (.int .i64 (sg i)) ∧ w' = W) := specSignedOf i
  obtain ⟨a, c, rfl, _, _⟩ := hc
  have c2 := (RunS.cells hp).2.2.1
  have h1 := sg_lo i
  have h2 := sg_hi i
  have HE : Hid ((itemC m.cells.length f s i = if inB (sg i) 0 (s - 1) then (if f + sg i < m.cells.length then 0 else 1) else 3) ∧ (itemV m.cells.length f s i = if itemC m.cells.length f s i = 0 then f + sg i else 0)) := ⟨rfl, rfl⟩
  generalize itemC m.cells.length f s i = C at *
  generalize itemV m.cells.length f s i = V at *
  generalize m.cells.length = n at *
  generalize sg i = k at *
  have HI : Hid (∀ W, Calls Try.prog 71 #[.int .i64 k, .int .i64 0, .int .i64 (s - 1)] W fun e w' => e = .returned (.bool (inB k 0 (s - 1))) ∧ w' = W) := l1In_any k 0 (s - 1)
  clear hp
  cases hq : inB k 0 (s - 1)
  · have eC : C = 3 := by rw [HE.out.1, hq]; rfl
    have eV : V = 0 := by rw [HE.out.2, eC]; rfl
    rw [hq] at HI
    subst eC eV
    clear HE hq
    go_enter Try.func155, Try.ntmps155
    go_wp2_with (first | (go_at_call 163; refine (HS.out _).mono ?_; rintro e w1 ⟨rfl, rfl⟩) | (go_at_call 71; refine (HI.out _).mono ?_; rintro e w1 ⟨rfl, rfl⟩))
    go_returns
    exact ⟨rfl, rfl⟩
  · have hk := (inB_iff.1 hq).1
    rw [hq] at HI
    by_cases hlt : f + k < n
    · have eC : C = 0 := by rw [HE.out.1, hq, if_pos rfl, if_pos hlt]
      have eV : V = f + k := by rw [HE.out.2, eC]; rfl
      subst eC eV
      clear HE hq
      go_enter Try.func155, Try.ntmps155
      go_wp2_with (first | (go_at_call 163; refine (HS.out _).mono ?_; rintro e w1 ⟨rfl, rfl⟩) | (go_at_call 71; refine (HI.out _).mono ?_; rintro e w1 ⟨rfl, rfl⟩))
      go_returns
      exact ⟨rfl, rfl⟩
    · have eC : C = 1 := by rw [HE.out.1, hq, if_pos rfl, if_neg hlt]
      have eV : V = 0 := by rw [HE.out.2, eC]; rfl
      subst eC eV
      clear HE hq
      go_enter Try.func155, Try.ntmps155
      go_wp2_with (first | (go_at_call 163; refine (HS.out _).mono ?_; rintro e w1 ⟨rfl, rfl⟩) | (go_at_call 71; refine (HI.out _).mono ?_; rintro e w1 ⟨rfl, rfl⟩))
      go_returns
      exact ⟨rfl, rfl⟩

set_option maxHeartbeats 1600000 in
theorem l8Takes_any (op : Int) (w : World) (h1 : 1 ≤ op) (h13 : op ≤ 13) : Calls Try.prog 152 #[.int .i64 op] w fun e w' => e = .returned (.tuple #[.int .i64 (tkN op), .int .i64 (gvN op)]) ∧ w' = w := by
  have hop : op = 1 ∨ op = 2 ∨ op = 3 ∨ op = 4 ∨ op = 5 ∨ op = 6 ∨ op = 7 ∨ op = 8 ∨ op = 9 ∨ op = 10 ∨ op = 11 ∨ op = 12 ∨ op = 13 := by omega
  rcases hop with rfl | rfl | rfl | rfl | rfl | rfl | rfl | rfl | rfl | rfl | rfl | rfl | rfl
  all_goals
    go_enter Try.func152, Try.ntmps152
    go_wp2
    go_returns
    exact ⟨rfl, rfl⟩
end Go.Proofs.Ytjofghelenfklaa
namespace Go.Proofs.Ytjofghelenfklaa
open Go.RowKit
set_option linter.unusedVariables false

theorem tup64 {a b : Int} (h : a = b) : Ending.returned (.tuple #[.int .i64 a, .int .i64 0]) = Ending.returned (.tuple #[.int .i64 b, .int .i64 0]) := by rw [h]
theorem wd_w64 (x : Int) : wd (wrap64 x) = wd x := by unfold wd wrap64; omega
theorem w64and (a b : Nat) (ha : a < 65536) (hb : b < 65536) : bits .and .i64 (a : Int) (b : Int) = ((a &&& b : Nat) : Int) := by
  have hx : a &&& b < 2 ^ 16 := Nat.and_lt_two_pow _ (by omega)
  have h1 : (BitVec.ofInt 64 (a : Int)).toNat = a := by
    rw [BitVec.ofInt_natCast, BitVec.toNat_ofNat]; exact Nat.mod_eq_of_lt (by omega)
  have h2 : (BitVec.ofInt 64 (b : Int)).toNat = b := by
    rw [BitVec.ofInt_natCast, BitVec.toNat_ofNat]; exact Nat.mod_eq_of_lt (by omega)
  show IntKind.i64.wrap ((BitVec.ofInt 64 (a : Int) &&& BitVec.ofInt 64 (b : Int)).toNat : Int) = _
  rw [BitVec.toNat_and, h1, h2, IntKind.wrap_i64]
  omega
theorem w64or (a b : Nat) (ha : a < 65536) (hb : b < 65536) : bits .or .i64 (a : Int) (b : Int) = ((a ||| b : Nat) : Int) := by
  have hx : a ||| b < 2 ^ 16 := Nat.or_lt_two_pow (by omega) (by omega)
  have h1 : (BitVec.ofInt 64 (a : Int)).toNat = a := by
    rw [BitVec.ofInt_natCast, BitVec.toNat_ofNat]; exact Nat.mod_eq_of_lt (by omega)
  have h2 : (BitVec.ofInt 64 (b : Int)).toNat = b := by
    rw [BitVec.ofInt_natCast, BitVec.toNat_ofNat]; exact Nat.mod_eq_of_lt (by omega)
  show IntKind.i64.wrap ((BitVec.ofInt 64 (a : Int) ||| BitVec.ofInt 64 (b : Int)).toNat : Int) = _
  rw [BitVec.toNat_or, h1, h2, IntKind.wrap_i64]
  omega
theorem w64xor (a b : Nat) (ha : a < 65536) (hb : b < 65536) : bits .xor .i64 (a : Int) (b : Int) = ((a ^^^ b : Nat) : Int) := by
  have hx : a ^^^ b < 2 ^ 16 := Nat.xor_lt_two_pow (by omega) (by omega)
  have h1 : (BitVec.ofInt 64 (a : Int)).toNat = a := by
    rw [BitVec.ofInt_natCast, BitVec.toNat_ofNat]; exact Nat.mod_eq_of_lt (by omega)
  have h2 : (BitVec.ofInt 64 (b : Int)).toNat = b := by
    rw [BitVec.ofInt_natCast, BitVec.toNat_ofNat]; exact Nat.mod_eq_of_lt (by omega)
  show IntKind.i64.wrap ((BitVec.ofInt 64 (a : Int) ^^^ BitVec.ofInt 64 (b : Int)).toNat : Int) = _
  rw [BitVec.toNat_xor, h1, h2, IntKind.wrap_i64]
  omega
theorem b64_and (a b : Int) : bits .and .i64 (wd a) (wd b) = (((wd a).toNat &&& (wd b).toNat : Nat) : Int) := by
  have h1 := wd_lo a; have h2 := wd_hi a; have h3 := wd_lo b; have h4 := wd_hi b
  obtain ⟨m, hm⟩ := Int.eq_ofNat_of_zero_le h1
  obtain ⟨n, hn⟩ := Int.eq_ofNat_of_zero_le h3
  rw [hm, hn, w64and m n (by omega) (by omega)]; rfl
theorem b64_or (a b : Int) : bits .or .i64 (wd a) (wd b) = (((wd a).toNat ||| (wd b).toNat : Nat) : Int) := by
  have h1 := wd_lo a; have h2 := wd_hi a; have h3 := wd_lo b; have h4 := wd_hi b
  obtain ⟨m, hm⟩ := Int.eq_ofNat_of_zero_le h1
  obtain ⟨n, hn⟩ := Int.eq_ofNat_of_zero_le h3
  rw [hm, hn, w64or m n (by omega) (by omega)]; rfl
theorem b64_xor (a b : Int) : bits .xor .i64 (wd a) (wd b) = (((wd a).toNat ^^^ (wd b).toNat : Nat) : Int) := by
  have h1 := wd_lo a; have h2 := wd_hi a; have h3 := wd_lo b; have h4 := wd_hi b
  obtain ⟨m, hm⟩ := Int.eq_ofNat_of_zero_le h1
  obtain ⟨n, hn⟩ := Int.eq_ofNat_of_zero_le h3
  rw [hm, hn, w64xor m n (by omega) (by omega)]; rfl
set_option maxHeartbeats 400000 in
theorem l2_1 (a b : Int) (w : World) : Calls Try.prog 156 #[.int .i64 1, .int .i64 a, .int .i64 b] w fun e w' => e = .returned (.tuple #[.int .i64 (binW 1 a b), .int .i64 0]) ∧ w' = w := by
  have h1 := sg_lo a; have h2 := sg_hi a; have h3 := sg_lo b; have h4 := sg_hi b
  go_enter Try.func156, Try.ntmps156
  go_wp2_with (first | (go_at_call 163; refine (specSignedOf _ _).mono ?_; rintro e w' ⟨rfl, rfl⟩) | (go_at_call 151; refine (specWordOf _ _).mono ?_; rintro e w' ⟨rfl, rfl⟩) | (go_at_call 165; refine (l2Bit_any _ _).mono ?_; rintro e w' ⟨rfl, rfl⟩))
  go_ret2
  refine ⟨tup64 ?_, rfl⟩
  rw [sg_add]; rfl
set_option maxHeartbeats 400000 in
theorem l2_2 (a b : Int) (w : World) : Calls Try.prog 156 #[.int .i64 2, .int .i64 a, .int .i64 b] w fun e w' => e = .returned (.tuple #[.int .i64 (binW 2 a b), .int .i64 0]) ∧ w' = w := by
  have h1 := sg_lo a; have h2 := sg_hi a; have h3 := sg_lo b; have h4 := sg_hi b
  go_enter Try.func156, Try.ntmps156
  go_wp2_with (first | (go_at_call 163; refine (specSignedOf _ _).mono ?_; rintro e w' ⟨rfl, rfl⟩) | (go_at_call 151; refine (specWordOf _ _).mono ?_; rintro e w' ⟨rfl, rfl⟩) | (go_at_call 165; refine (l2Bit_any _ _).mono ?_; rintro e w' ⟨rfl, rfl⟩))
  go_ret2
  refine ⟨tup64 ?_, rfl⟩
  rw [sg_sub]; rfl
set_option maxHeartbeats 400000 in
theorem l2_3 (a b : Int) (w : World) : Calls Try.prog 156 #[.int .i64 3, .int .i64 a, .int .i64 b] w fun e w' => e = .returned (.tuple #[.int .i64 (binW 3 a b), .int .i64 0]) ∧ w' = w := by
  have h1 := sg_lo a; have h2 := sg_hi a; have h3 := sg_lo b; have h4 := sg_hi b
  go_enter Try.func156, Try.ntmps156
  go_wp2_with (first | (go_at_call 163; refine (specSignedOf _ _).mono ?_; rintro e w' ⟨rfl, rfl⟩) | (go_at_call 151; refine (specWordOf _ _).mono ?_; rintro e w' ⟨rfl, rfl⟩) | (go_at_call 165; refine (l2Bit_any _ _).mono ?_; rintro e w' ⟨rfl, rfl⟩))
  go_ret2
  refine ⟨tup64 ?_, rfl⟩
  rw [wd_w64, sg_mul]; rfl
set_option maxHeartbeats 400000 in
theorem l2_4 (a b : Int) (w : World) (hz : wd b ≠ 0) : Calls Try.prog 156 #[.int .i64 4, .int .i64 a, .int .i64 b] w fun e w' => e = .returned (.tuple #[.int .i64 (binW 4 a b), .int .i64 0]) ∧ w' = w := by
  have h1 := sg_lo a; have h2 := sg_hi a; have h3 := sg_lo b; have h4 := sg_hi b
  have hb : (sg b == 0) = false := by rw [beq_eq_false_iff_ne]; intro e; exact hz ((sg_zero b).1 e)
  have hb' : sg b ≠ 0 := by intro e; exact hz ((sg_zero b).1 e)
  clear hz
  go_enter Try.func156, Try.ntmps156
  go_wp2_with (first | (go_at_call 163; refine (specSignedOf _ _).mono ?_; rintro e w' ⟨rfl, rfl⟩) | (go_at_call 151; refine (specWordOf _ _).mono ?_; rintro e w' ⟨rfl, rfl⟩) | (go_at_call 165; refine (l2Bit_any _ _).mono ?_; rintro e w' ⟨rfl, rfl⟩))
  go_ret2
  refine ⟨tup64 ?_, rfl⟩
  rw [wd_w64]; rfl
set_option maxHeartbeats 400000 in
theorem l2_5 (a b : Int) (w : World) (hz : wd b ≠ 0) : Calls Try.prog 156 #[.int .i64 5, .int .i64 a, .int .i64 b] w fun e w' => e = .returned (.tuple #[.int .i64 (binW 5 a b), .int .i64 0]) ∧ w' = w := by
  have h1 := sg_lo a; have h2 := sg_hi a; have h3 := sg_lo b; have h4 := sg_hi b
  have hb : (sg b == 0) = false := by rw [beq_eq_false_iff_ne]; intro e; exact hz ((sg_zero b).1 e)
  have hb' : sg b ≠ 0 := by intro e; exact hz ((sg_zero b).1 e)
  clear hz
  go_enter Try.func156, Try.ntmps156
  go_wp2_with (first | (go_at_call 163; refine (specSignedOf _ _).mono ?_; rintro e w' ⟨rfl, rfl⟩) | (go_at_call 151; refine (specWordOf _ _).mono ?_; rintro e w' ⟨rfl, rfl⟩) | (go_at_call 165; refine (l2Bit_any _ _).mono ?_; rintro e w' ⟨rfl, rfl⟩))
  go_ret2
  refine ⟨tup64 ?_, rfl⟩
  first | rfl | (rw [wd_w64]; rfl)
set_option maxHeartbeats 400000 in
theorem l2_6 (a b : Int) (w : World) : Calls Try.prog 156 #[.int .i64 6, .int .i64 a, .int .i64 b] w fun e w' => e = .returned (.tuple #[.int .i64 (binW 6 a b), .int .i64 0]) ∧ w' = w := by
  have h1 := wd_lo a; have h2 := wd_hi a; have h3 := wd_lo b; have h4 := wd_hi b
  go_enter Try.func156, Try.ntmps156
  go_wp2_with (first | (go_at_call 163; refine (specSignedOf _ _).mono ?_; rintro e w' ⟨rfl, rfl⟩) | (go_at_call 151; refine (specWordOf _ _).mono ?_; rintro e w' ⟨rfl, rfl⟩) | (go_at_call 165; refine (l2Bit_any _ _).mono ?_; rintro e w' ⟨rfl, rfl⟩))
  go_ret2
  refine ⟨tup64 ?_, rfl⟩
  rw [b64_and]; rfl
set_option maxHeartbeats 400000 in
theorem l2_7 (a b : Int) (w : World) : Calls Try.prog 156 #[.int .i64 7, .int .i64 a, .int .i64 b] w fun e w' => e = .returned (.tuple #[.int .i64 (binW 7 a b), .int .i64 0]) ∧ w' = w := by
  have h1 := wd_lo a; have h2 := wd_hi a; have h3 := wd_lo b; have h4 := wd_hi b
  go_enter Try.func156, Try.ntmps156
  go_wp2_with (first | (go_at_call 163; refine (specSignedOf _ _).mono ?_; rintro e w' ⟨rfl, rfl⟩) | (go_at_call 151; refine (specWordOf _ _).mono ?_; rintro e w' ⟨rfl, rfl⟩) | (go_at_call 165; refine (l2Bit_any _ _).mono ?_; rintro e w' ⟨rfl, rfl⟩))
  go_ret2
  refine ⟨tup64 ?_, rfl⟩
  rw [b64_or]; rfl
set_option maxHeartbeats 400000 in
theorem l2_8 (a b : Int) (w : World) : Calls Try.prog 156 #[.int .i64 8, .int .i64 a, .int .i64 b] w fun e w' => e = .returned (.tuple #[.int .i64 (binW 8 a b), .int .i64 0]) ∧ w' = w := by
  have h1 := wd_lo a; have h2 := wd_hi a; have h3 := wd_lo b; have h4 := wd_hi b
  go_enter Try.func156, Try.ntmps156
  go_wp2_with (first | (go_at_call 163; refine (specSignedOf _ _).mono ?_; rintro e w' ⟨rfl, rfl⟩) | (go_at_call 151; refine (specWordOf _ _).mono ?_; rintro e w' ⟨rfl, rfl⟩) | (go_at_call 165; refine (l2Bit_any _ _).mono ?_; rintro e w' ⟨rfl, rfl⟩))
  go_ret2
  refine ⟨tup64 ?_, rfl⟩
  rw [b64_xor]; rfl
set_option maxHeartbeats 400000 in
theorem l2_9 (a b : Int) (w : World) : Calls Try.prog 156 #[.int .i64 9, .int .i64 a, .int .i64 b] w fun e w' => e = .returned (.tuple #[.int .i64 (binW 9 a b), .int .i64 0]) ∧ w' = w := by
  have h1 := sg_lo a; have h2 := sg_hi a; have h3 := sg_lo b; have h4 := sg_hi b
  go_enter Try.func156, Try.ntmps156
  go_wp2_with (first | (go_at_call 163; refine (specSignedOf _ _).mono ?_; rintro e w' ⟨rfl, rfl⟩) | (go_at_call 151; refine (specWordOf _ _).mono ?_; rintro e w' ⟨rfl, rfl⟩) | (go_at_call 165; refine (l2Bit_any _ _).mono ?_; rintro e w' ⟨rfl, rfl⟩))
  · go_ret2
    refine ⟨tup64 ?_, rfl⟩
    exact (if_pos h).symm
  · go_ret2
    refine ⟨tup64 ?_, rfl⟩
    exact (if_neg (Int.not_lt.2 h)).symm
set_option maxHeartbeats 400000 in
theorem l2_10 (a b : Int) (w : World) : Calls Try.prog 156 #[.int .i64 10, .int .i64 a, .int .i64 b] w fun e w' => e = .returned (.tuple #[.int .i64 (binW 10 a b), .int .i64 0]) ∧ w' = w := by
  have h1 := sg_lo a; have h2 := sg_hi a; have h3 := sg_lo b; have h4 := sg_hi b
  go_enter Try.func156, Try.ntmps156
  go_wp2_with (first | (go_at_call 163; refine (specSignedOf _ _).mono ?_; rintro e w' ⟨rfl, rfl⟩) | (go_at_call 151; refine (specWordOf _ _).mono ?_; rintro e w' ⟨rfl, rfl⟩) | (go_at_call 165; refine (l2Bit_any _ _).mono ?_; rintro e w' ⟨rfl, rfl⟩))
  · go_ret2
    refine ⟨tup64 ?_, rfl⟩
    exact (if_pos ((sg_same a b).1 h)).symm
  · go_ret2
    refine ⟨tup64 ?_, rfl⟩
    exact (if_neg (fun e => h ((sg_same a b).2 e))).symm

set_option maxHeartbeats 400000 in
theorem l2_out (op a b : Int) (w : World) (h : op < 1 ∨ 10 < op) : Calls Try.prog 156 #[.int .i64 op, .int .i64 a, .int .i64 b] w fun e w' => e = .returned (.tuple #[.int .i64 0, .int .i64 3]) ∧ w' = w := by
  have e1 : (op == 1) = false := by simp; omega
  have e2 : (op == 2) = false := by simp; omega
  have e3 : (op == 3) = false := by simp; omega
  have e4 : (op == 4) = false := by simp; omega
  have e5 : (op == 5) = false := by simp; omega
  have e6 : (op == 6) = false := by simp; omega
  have e7 : (op == 7) = false := by simp; omega
  have e8 : (op == 8) = false := by simp; omega
  have e9 : (op == 9) = false := by simp; omega
  have e10 : (op == 10) = false := by simp; omega
  clear h
  go_enter Try.func156, Try.ntmps156
  go_wp2_with (first | (go_at_call 163; refine (specSignedOf _ _).mono ?_; rintro e w' ⟨rfl, rfl⟩) | (go_at_call 151; refine (specWordOf _ _).mono ?_; rintro e w' ⟨rfl, rfl⟩))
  go_ret2
  exact ⟨rfl, rfl⟩
set_option maxHeartbeats 400000 in
theorem l2_zero (op a b : Int) (w : World) (h : op = 4 ∨ op = 5) (hz : wd b = 0) : Calls Try.prog 156 #[.int .i64 op, .int .i64 a, .int .i64 b] w fun e w' => e = .returned (.tuple #[.int .i64 0, .int .i64 4]) ∧ w' = w := by
  have hb : (sg b == 0) = true := by rw [(sg_zero b).2 hz]; rfl
  clear hz
  rcases h with rfl | rfl
  all_goals
    go_enter Try.func156, Try.ntmps156
    go_wp2_with (first | (go_at_call 163; refine (specSignedOf _ _).mono ?_; rintro e w' ⟨rfl, rfl⟩) | (go_at_call 151; refine (specWordOf _ _).mono ?_; rintro e w' ⟨rfl, rfl⟩))
    go_ret2
    exact ⟨rfl, rfl⟩
theorem l2_any (op a b : Int) (w : World) : Calls Try.prog 156 #[.int .i64 op, .int .i64 a, .int .i64 b] w fun e w' => e = .returned (.tuple #[.int .i64 (binV op a b), .int .i64 (binC op b)]) ∧ w' = w := by
  by_cases h : op < 1 ∨ 10 < op
  · have hc : binC op b = 3 := if_pos h
    rw [binV, hc]
    exact l2_out op a b w h
  by_cases hz : (op = 4 ∨ op = 5) ∧ wd b = 0
  · have hc : binC op b = 4 := by unfold binC; rw [if_neg h, if_pos hz]
    rw [binV, hc]
    exact l2_zero op a b w hz.1 hz.2
  have hc : binC op b = 0 := by unfold binC; rw [if_neg h, if_neg hz]
  rw [binV, hc, if_pos rfl]
  have hop : op = 1 ∨ op = 2 ∨ op = 3 ∨ op = 4 ∨ op = 5 ∨ op = 6 ∨ op = 7 ∨ op = 8 ∨ op = 9 ∨ op = 10 := by omega
  rcases hop with rfl | rfl | rfl | rfl | rfl | rfl | rfl | rfl | rfl | rfl
  · exact l2_1 a b w
  · exact l2_2 a b w
  · exact l2_3 a b w
  · exact l2_4 a b w (fun e => hz ⟨.inl rfl, e⟩)
  · exact l2_5 a b w (fun e => hz ⟨.inr rfl, e⟩)
  · exact l2_6 a b w
  · exact l2_7 a b w
  · exact l2_8 a b w
  · exact l2_9 a b w
  · exact l2_10 a b w
end Go.Proofs.Ytjofghelenfklaa
namespace Go.Proofs.Ytjofghelenfklaa
open Go.RowKit
set_option linter.unusedVariables false

/-- a word is stored into the cells of spec's machine -/
theorem RunS.put {B p gc n c : Nat} {w : World} {m : SM} {sv : Value} {hbl : w.heap[p]? = some (.cells (lineS m sv (.slice (some ⟨gc, 0, none⟩) n c)) 39 (0, 0))} (hm : MemO B w p sv (.slice (some ⟨gc, 0, none⟩) n c) m) (t : Nat) (x : Int) : RunS B (w.setCell ⟨gc, t, none⟩ (.int .i64 x)) p (sto m t x) := by
  have hgp : p ≠ gc := fun e => hm.d2 (by rw [← e]; rfl)
  have hb2 : (w.setCell ⟨gc, t, none⟩ (.int .i64 x)).heap[p]? = w.heap[p]? := heap_setCell_other _ _ _ _ hgp
  exact ⟨sv, _, hb2.trans hbl, MemO.put hm x⟩
theorem item_in (n : Nat) (f s i : Int) (hf : 0 ≤ f) : itemC n f s i = 0 → 0 ≤ itemV n f s i ∧ itemV n f s i < n := fun hi => by
  unfold itemV
  rw [if_pos hi]
  unfold itemC at hi
  split at hi
  · rename_i hb
    have := (inB_iff.1 hb).1
    split at hi
    · omega
    · omega
  · omega
def lst (x : Int) : Int := b01 (decide (x ≠ 0))
set_option maxHeartbeats 800000 in
theorem sLeast_any (n : Int) (w : World) : Calls Try.prog 157 #[.int .i64 n] w fun e w' => e = .returned (.int .i64 (lst n)) ∧ w' = w := by
  have HB : Hid (∀ (b : Bool) (w : World), Calls Try.prog 165 #[.bool b] w fun e w' => e = .returned (.int .i64 (b01 b)) ∧ w' = w) := fun b w => l2Bit_any b w
  by_cases h : n = 0
  · subst h
    go_enter Try.func157, Try.ntmps157
    go_wp2_with fail
    refine (HB.out _ _).mono ?_
    rintro e w2 ⟨rfl, rfl⟩
    go_wp2_with fail
    go_ret
    exact ⟨rfl, rfl⟩
  · have e1 : (n != 0) = true := by simpa using h
    have e2 : Hid (lst n = 1) := by show b01 (decide (n ≠ 0)) = 1; rw [decide_eq_true h]; rfl
    go_enter Try.func157, Try.ntmps157
    go_wp2_with fail
    refine (HB.out _ _).mono ?_
    rintro e w2 ⟨rfl, rfl⟩
    go_wp2_with fail
    go_ret
    exact ⟨by rw [e2.out]; rfl, rfl⟩
end Go.Proofs.Ytjofghelenfklaa
namespace Go.Proofs.Ytjofghelenfklaa
open Go.RowKit
set_option linter.unusedVariables false
attribute [local go_sem ↓] Go.wp_at_zero Go.wp_at_succ

set_option maxHeartbeats 3200000 in
theorem l8Copy_any (m : SM) (sv cv : Value) (w : World) (hs : RowV w sv m.stk) (hc : RowV w cv m.cells) (hl1 : m.stk.length ≤ 1048576) (hl2 : m.cells.length ≤ 1048576) :
    Calls Try.prog 100 #[machVs m sv cv] w fun e w' => ∃ sv' cv', e = .returned (machVs m sv' cv') ∧ Own w' w.heap.size sv' m.stk ∧ Own w' w.heap.size cv' m.cells ∧ (∀ g, sv'.ownBlock = some g → cv'.ownBlock ≠ some g) ∧ Below w.heap.size w w' := by
  obtain ⟨b1, k1, rfl, hn1, hk1⟩ := hs
  obtain ⟨b2, k2, rfl, hn2, hk2⟩ := hc
  have HN1 : Hid (∀ W, Below w.heap.size w W → Nums W b1 m.stk) := fun W h => hn1.below h
  have HN2 : Hid (∀ W, Below w.heap.size w W → Nums W b2 m.cells) := fun W h => hn2.below h
  have HZ1 : Hid ((b1 = none → k1 = 0) ∧ (b1 = none → m.stk = [])) := ⟨hk1, rowZ hn1⟩
  have HZ2 : Hid ((b2 = none → k2 = 0) ∧ (b2 = none → m.cells = [])) := ⟨hk2, rowZ hn2⟩
  have HL : Hid (m.stk.length ≤ 1048576 ∧ m.cells.length ≤ 1048576) := ⟨hl1, hl2⟩
  have hX : Hid (∀ W, W = (w.alloc (.cells (lineS m (.slice b1 m.stk.length k1) (.slice b2 m.cells.length k2)) 39)).alloc (.cells #[.int .i64 0, .slice none 0 0, .slice none 0 0, .int .i64 0, .int .i64 0, .int .i64 0, .bool false] 39) →
      Below w.heap.size w W ∧ W.heap.size = w.heap.size + 2 ∧ W.heap[w.heap.size]? = some (.cells (lineS m (.slice b1 m.stk.length k1) (.slice b2 m.cells.length k2)) 39 (0, 0)) ∧ W.heap[w.heap.size + 1]? = some (.cells #[.int .i64 0, .slice none 0 0, .slice none 0 0, .int .i64 0, .int .i64 0, .int .i64 0, .bool false] 39 (0, 0))) := fun W e => by
    subst e
    have a1 := heap_alloc_new w (.cells (lineS m (.slice b1 m.stk.length k1) (.slice b2 m.cells.length k2)) 39)
    have y1 := (Below.refl w.heap.size w).alloc (Nat.le_refl _) (.cells (lineS m (.slice b1 m.stk.length k1) (.slice b2 m.cells.length k2)) 39)
    have s1 : (w.alloc (.cells (lineS m (.slice b1 m.stk.length k1) (.slice b2 m.cells.length k2)) 39)).heap.size = w.heap.size + 1 := by simp
    generalize w.alloc (.cells (lineS m (.slice b1 m.stk.length k1) (.slice b2 m.cells.length k2)) 39) = W1 at *
    have a2 := heap_alloc_new W1 (.cells #[.int .i64 0, .slice none 0 0, .slice none 0 0, .int .i64 0, .int .i64 0, .int .i64 0, .bool false] 39)
    have y2 := (Below.refl W1.heap.size W1).alloc (Nat.le_refl _) (.cells #[.int .i64 0, .slice none 0 0, .slice none 0 0, .int .i64 0, .int .i64 0, .int .i64 0, .bool false] 39)
    rw [s1] at a2
    exact ⟨y1.trans (y2.mono (by omega)), by simp [s1], blk8 a1 y2, a2⟩
  clear hn1 hn2 hk1 hk2 hl1 hl2
  generalize hL1 : m.stk.length = l1 at *
  generalize hL2 : m.cells.length = l2 at *
  go_enter Try.func100, Try.ntmps100
  go_upto_region 1 with fail
  have hXX := hX.out _ rfl
  generalize (w.alloc (.cells (lineS m (.slice b1 l1 k1) (.slice b2 l2 k2)) 39)).alloc (.cells #[.int .i64 0, .slice none 0 0, .slice none 0 0, .int .i64 0, .int .i64 0, .int .i64 0, .bool false] 39) = W at *
  obtain ⟨x1, x2, x3, x4⟩ := hXX
  have HB0 : Hid (Below w.heap.size w W) := x1
  have HS0 : Hid (W.heap.size = w.heap.size + 2) := x2
  have HA0 : Hid (W.heap[w.heap.size]? = _) := x3
  have HR0 : Hid (W.heap[w.heap.size + 1]? = _) := x4
  have c1 := (RunS.cells x3).2.1
  have hA := (Below.refl W.heap.size W).alloc (Nat.le_refl _) (.cells #[] 2)
  have HA : Hid (Below W.heap.size W (W.alloc (.cells #[] 2))) := hA
  have HO : Hid (Own (W.alloc (.cells #[] 2)) W.heap.size (.slice (some ⟨W.heap.size, 0, none⟩) 0 0) []) := own_new W _ (Nat.le_refl _)
  have HN : Hid (Nums (W.alloc (.cells #[] 2)) b1 m.stk) := HN1.out _ (x1.trans (hA.mono (by omega)))
  have c1a : (W.alloc (.cells #[] 2)).cell? ⟨w.heap.size, 1, none⟩ = some (.slice b1 l1 k1) := (hA.cell (p := ⟨w.heap.size, 1, none⟩) (by show w.heap.size < W.heap.size; omega)).trans c1
  clear x1 x2 x3 x4 hA hX c1
  go_wp2_with (at_builtin; refine wpList_append_nums rfl _ _ rfl W.heap.size _ [] m.stk (by rfl) HO.out b1 k1 (by rw [hL1]; rfl) HN.out HZ1.out.1 HZ1.out.2 (by have := HL.out; simp; omega) (by simp) ?_)
  intro v' w2 ho hg hv
  obtain ⟨a2, q2, rfl⟩ := own_shape ho.out
  try simp only [List.nil_append] at ho
  try simp only [List.nil_append] at hv
  try simp only [List.nil_append]
  try rw [hL1] at ho
  try rw [hL1] at hv
  try rw [hL1]
  have hz2 : W.heap.size + 1 ≤ w2.heap.size := by have := hg.out.size; simp at this; omega
  have HB2 : Hid (Below W.heap.size W w2) := HA.out.grown hg.out (by simp) (fun k hk => by simp [Value.ownBlock] at hk; omega)
  have HO2 : Hid (Own w2 W.heap.size (.slice a2 l1 q2) m.stk) := ho.out
  have HA2 : Hid (w2.heap[w.heap.size]? = some (.cells (lineS m (.slice b1 l1 k1) (.slice b2 l2 k2)) 39 (0, 0))) := blk8 HA0.out HB2.out
  have HR2 : Hid (w2.heap[w.heap.size + 1]? = some (.cells #[.int .i64 0, .slice none 0 0, .slice none 0 0, .int .i64 0, .int .i64 0, .int .i64 0, .bool false] 39 (0, 0))) := blk8 HR0.out HB2.out
  have d1 := (RunS.cells HA2.out).2.1
  have f1 := frozen_of_row _ _ 1 _ _ HA2.out
  have HZ : Hid (W.heap.size + 1 ≤ w2.heap.size) := hz2
  clear ho hg hv hz2 HA HO HN c1a HA0 HR0
  go_upto_region 2 with fail
  have HA3 : Hid ((w2.setCell ⟨w.heap.size, 1, none⟩ (.slice a2 l1 q2)).heap[w.heap.size]? = some (.cells (lineS m (.slice a2 l1 q2) (.slice b2 l2 k2)) 39 (0, 0))) := heap_setCell_same w2 w.heap.size 1 _ _ (.slice a2 l1 q2) HA2.out
  have HR3 : Hid ((w2.setCell ⟨w.heap.size, 1, none⟩ (.slice a2 l1 q2)).heap[w.heap.size + 1]? = some (.cells #[.int .i64 0, .slice none 0 0, .slice none 0 0, .int .i64 0, .int .i64 0, .int .i64 0, .bool false] 39 (0, 0))) := (heap_setCell_other w2 _ (w.heap.size + 1) _ (by simp)).trans HR2.out
  have HB3 : Hid (Below w.heap.size w (w2.setCell ⟨w.heap.size, 1, none⟩ (.slice a2 l1 q2))) := (HB0.out.trans (HB2.out.mono (by have := HS0.out; omega))).setCell (Nat.le_refl _) _
  have HO3 : Hid (Own (w2.setCell ⟨w.heap.size, 1, none⟩ (.slice a2 l1 q2)) W.heap.size (.slice a2 l1 q2) m.stk) := own_other HO2.out (fun g hg => heap_setCell_other _ _ _ _ (by have := (HO2.out.lt g hg).1; have := HS0.out; show g ≠ w.heap.size; omega))
  have HS3 : Hid (w.heap.size + 2 ≤ (w2.setCell ⟨w.heap.size, 1, none⟩ (.slice a2 l1 q2)).heap.size) := by have := HZ.out; have := HS0.out; show _ ≤ _; simp; omega
  clear HA2 HR2 HB2 HO2 HZ d1 f1
  generalize w2.setCell ⟨w.heap.size, 1, none⟩ (.slice a2 l1 q2) = W3 at *
  have c2 := (RunS.cells HA3.out).2.2.1
  have hA := (Below.refl W3.heap.size W3).alloc (Nat.le_refl _) (.cells #[] 2)
  have HA : Hid (Below W3.heap.size W3 (W3.alloc (.cells #[] 2))) := hA
  have HO : Hid (Own (W3.alloc (.cells #[] 2)) W3.heap.size (.slice (some ⟨W3.heap.size, 0, none⟩) 0 0) []) := own_new W3 _ (Nat.le_refl _)
  have HN : Hid (Nums (W3.alloc (.cells #[] 2)) b2 m.cells) := HN2.out _ (HB3.out.trans (hA.mono HB3.out.size))
  have c2a : (W3.alloc (.cells #[] 2)).cell? ⟨w.heap.size, 2, none⟩ = some (.slice b2 l2 k2) := (hA.cell (p := ⟨w.heap.size, 2, none⟩) (by have := HS3.out; show w.heap.size < W3.heap.size; omega)).trans c2
  clear hA c2
  go_wp2_with (at_builtin; refine wpList_append_nums rfl _ _ rfl W3.heap.size _ [] m.cells (by rfl) HO.out b2 k2 (by rw [hL2]; rfl) HN.out HZ2.out.1 HZ2.out.2 (by have := HL.out; simp; omega) (by simp) ?_)
  intro v' w4 ho hg hv
  obtain ⟨a4, q4, rfl⟩ := own_shape ho.out
  try simp only [List.nil_append] at ho
  try simp only [List.nil_append] at hv
  try simp only [List.nil_append]
  try rw [hL2] at ho
  try rw [hL2] at hv
  try rw [hL2]
  have HB4 : Hid (Below W3.heap.size W3 w4) := HA.out.grown hg.out (by simp) (fun k hk => by simp [Value.ownBlock] at hk; omega)
  have HO4 : Hid (Own w4 W3.heap.size (.slice a4 l2 q4) m.cells) := ho.out
  have HA4 : Hid (w4.heap[w.heap.size]? = some (.cells (lineS m (.slice a2 l1 q2) (.slice b2 l2 k2)) 39 (0, 0))) := blk8 HA3.out HB4.out
  have HR4 : Hid (w4.heap[w.heap.size + 1]? = some (.cells #[.int .i64 0, .slice none 0 0, .slice none 0 0, .int .i64 0, .int .i64 0, .int .i64 0, .bool false] 39 (0, 0))) := blk8 HR3.out HB4.out
  have HS4 : Hid (Own w4 W.heap.size (.slice a2 l1 q2) m.stk) := own_kept HO3.out HB4.out
  have f2 := frozen_of_row _ _ 2 _ _ HA4.out
  have d2 := (RunS.cells HA4.out).2.2.1
  clear ho hg hv HA HO HN c2a HR3 HA3
  go_upto_region 3 with fail
  have HA5 : Hid ((w4.setCell ⟨w.heap.size, 2, none⟩ (.slice a4 l2 q4)).heap[w.heap.size]? = some (.cells (lineS m (.slice a2 l1 q2) (.slice a4 l2 q4)) 39 (0, 0))) := heap_setCell_same w4 w.heap.size 2 _ _ (.slice a4 l2 q4) HA4.out
  have HR5 : Hid ((w4.setCell ⟨w.heap.size, 2, none⟩ (.slice a4 l2 q4)).heap[w.heap.size + 1]? = some (.cells #[.int .i64 0, .slice none 0 0, .slice none 0 0, .int .i64 0, .int .i64 0, .int .i64 0, .bool false] 39 (0, 0))) := (heap_setCell_other w4 _ (w.heap.size + 1) _ (by simp)).trans HR4.out
  have HB5 : Hid (Below w.heap.size w (w4.setCell ⟨w.heap.size, 2, none⟩ (.slice a4 l2 q4))) := (HB3.out.trans (HB4.out.mono HB3.out.size)).setCell (Nat.le_refl _) _
  have HO5 : Hid (Own (w4.setCell ⟨w.heap.size, 2, none⟩ (.slice a4 l2 q4)) (w.heap.size + 2) (.slice a2 l1 q2) m.stk) := own_mono (own_other HS4.out (fun g hg => heap_setCell_other _ _ _ _ (by have := (HS4.out.lt g hg).1; have := HS0.out; show g ≠ w.heap.size; omega))) (by have := HS0.out; omega)
  have HC5 : Hid (Own (w4.setCell ⟨w.heap.size, 2, none⟩ (.slice a4 l2 q4)) (w.heap.size + 2) (.slice a4 l2 q4) m.cells) := own_mono (own_other HO4.out (fun g hg => heap_setCell_other _ _ _ _ (by have := (HO4.out.lt g hg).1; have := HS3.out; show g ≠ w.heap.size; omega))) HS3.out
  have HD : Hid (∀ g, (Value.slice a2 l1 q2).ownBlock = some g → (Value.slice a4 l2 q4).ownBlock ≠ some g) := fun g hg e => by
    have := (HO3.out.lt g hg).2
    have := (HO4.out.lt g e).1
    omega
  clear HA4 HR4 HB4 HO4 HS4 HO3 HB3 f2 d2 HS3
  generalize w4.setCell ⟨w.heap.size, 2, none⟩ (.slice a4 l2 q4) = W5 at *
  obtain ⟨e0, e1, e2, e3, e4, e5, e6⟩ := RunS.cells HA5.out
  have g0 := cell_of_row _ _ 0 _ _ _ HR5.out
  have g1 := cell_of_row _ _ 1 _ _ _ HR5.out
  have g2 := cell_of_row _ _ 2 _ _ _ HR5.out
  have g3 := cell_of_row _ _ 3 _ _ _ HR5.out
  have g4 := cell_of_row _ _ 4 _ _ _ HR5.out
  have g5 := cell_of_row _ _ 5 _ _ _ HR5.out
  have g6 := cell_of_row _ _ 6 _ _ _ HR5.out
  have f0 := frozen_of_row _ _ 0 _ _ HR5.out
  have f1 := frozen_of_row _ _ 1 _ _ HR5.out
  have f2 := frozen_of_row _ _ 2 _ _ HR5.out
  have f3 := frozen_of_row _ _ 3 _ _ HR5.out
  have f4 := frozen_of_row _ _ 4 _ _ HR5.out
  have f5 := frozen_of_row _ _ 5 _ _ HR5.out
  have f6 := frozen_of_row _ _ 6 _ _ HR5.out
  simp at g0 g1 g2 g3 g4 g5 g6
  clear HA5 HR5
  have HE : Hid _ := (((((((Sole1.refl (w.heap.size + 1) W5).set 0 (.int .i64 m.pc)).set 1 (.slice a2 l1 q2)).set 2 (.slice a4 l2 q4)).set 3 (.int .i64 m.sig)).set 4 (.int .i64 m.used)).set 5 (.int .i64 m.trap)).set 6 (.bool m.done)
  go_wp2_with fail
  refine bodyPost_ret (v := machVs m (.slice a2 l1 q2) (.slice a4 l2 q4)) (by simp [results, Try.results100, go_sem, g0, g1, g2, g3, g4, g5, g6]) rfl ⟨_, _, rfl, ?_, ?_, HD.out, HB5.out.trans (HE.out.bel.mono (by omega))⟩
  · exact own_mono (own_other HO5.out (fun g hg => HE.out.oth g (by have := (HO5.out.lt g hg).1; omega))) (by omega)
  · exact own_mono (own_other HC5.out (fun g hg => HE.out.oth g (by have := (HC5.out.lt g hg).1; omega))) (by omega)
end Go.Proofs.Ytjofghelenfklaa
namespace Go.Proofs.Ytjofghelenfklaa
open Go.RowKit
set_option linter.unusedVariables false
attribute [local go_sem ↓] Go.wp_at_zero Go.wp_at_succ

/-- what l8Ready answers -/
def rdyL (zs : List Int) (k : Nat) (m : SM) : Bool :=
  readyB zs k && fitsB m.stk.length (zs.getD k 0) && (if zs.getD k 0 = 2 ∨ zs.getD k 0 = 3 then decide (zs.getD (k + 1) 0 < m.cells.length) else true)

set_option maxHeartbeats 3200000 in
set_option maxRecDepth 100000 in
theorem ready_end (a : Option Addr) (n c k p : Nat) (w : World) (hk : n ≤ k) (c0 : w.cell? ⟨p, 0, none⟩ = some (.int .i64 k)) :
    Calls Try.prog 125 #[.slice a n c, .pointer (some ⟨p, 0, none⟩)] w fun e w' => e = .returned (.bool false) ∧ Below w.heap.size w w' := by
  have h1 : decide ((n : Int) ≤ (k : Int)) = true := decide_eq_true (by omega)
  go_enter Try.func125, Try.ntmps125
  go_wp2_with fail
  go_ret
  exact ⟨rfl, Below.refl _ _⟩

set_option maxHeartbeats 3200000 in
set_option maxRecDepth 100000 in
theorem ready_op (b off n c k p : Nat) (op : Int) (w : World) (hk : k < n) (c0 : w.cell? ⟨p, 0, none⟩ = some (.int .i64 k)) (h0 : w.cell? ⟨b, off + k, none⟩ = some (.int .i64 op)) (hop : inB op 1 13 = false) :
    Calls Try.prog 125 #[.slice (some ⟨b, off, none⟩) n c, .pointer (some ⟨p, 0, none⟩)] w fun e w' => e = .returned (.bool false) ∧ Below w.heap.size w w' := by
  have h1 : decide ((n : Int) ≤ (k : Int)) = false := decide_eq_false (by omega)
  have q0 : (0 : Int) ≤ (k : Int) := by omega
  have q1 : (k : Int) < (n : Int) := by omega
  have HI : Hid (∀ W, Calls Try.prog 71 #[.int .i64 op, .int .i64 1, .int .i64 13] W fun e w' => e = .returned (.bool false) ∧ w' = W) := fun W => by have := l1In_any op 1 13 W; rwa [hop] at this
  clear hk hop
  go_enter Try.func125, Try.ntmps125
  go_wp2_with (go_at_call 71; refine (HI.out _).mono ?_; rintro e w1 ⟨rfl, rfl⟩)
  go_ret
  exact ⟨rfl, Below.refl _ _⟩

set_option maxHeartbeats 6400000 in
set_option maxRecDepth 100000 in
theorem ready_on (b off n c k p : Nat) (m : SM) (sv cv : Value) (op u : Int) (w : World) (hk : k < n) (hn : n ≤ 400) (hp : w.heap[p]? = some (.cells (lineS m sv cv) 39 (0, 0))) (hpc : m.pc = k) (hs : RowV w sv m.stk) (hc : RowV w cv m.cells) (hsl : m.stk.length ≤ 40) (hcl : m.cells.length ≤ 80) (h0 : w.cell? ⟨b, off + k, none⟩ = some (.int .i64 op)) (hop : inB op 1 13 = true) (h1 : 1 ≤ argN op → k + 1 < n → w.cell? ⟨b, off + (k + 1), none⟩ = some (.int .i64 u)) (R : Bool)
    (hR : R = (decide (k + argN op < n) && fitsB m.stk.length op && (if op = 2 ∨ op = 3 then decide (u < m.cells.length) else true))) :
    Calls Try.prog 125 #[.slice (some ⟨b, off, none⟩) n c, .pointer (some ⟨p, 0, none⟩)] w fun e w' => e = .returned (.bool R) ∧ Below w.heap.size w w' := by
  have e1 : decide ((n : Int) ≤ (k : Int)) = false := decide_eq_false (by omega)
  have q0 : (0 : Int) ≤ (k : Int) := by omega
  have q1 : (k : Int) < (n : Int) := by omega
  obtain ⟨a1, k1, rfl, _, _⟩ := hs
  obtain ⟨a2, k2, rfl, _, _⟩ := hc
  have HP : Hid (w.heap[p]? = _) := hp
  have c0 := (RunS.cells hp).1
  rw [hpc] at c0
  have HI : Hid (∀ W, Calls Try.prog 71 #[.int .i64 op, .int .i64 1, .int .i64 13] W fun e w' => e = .returned (.bool true) ∧ w' = W) := fun W => by have := l1In_any op 1 13 W; rwa [hop] at this
  have HA : Hid (∀ W, Calls Try.prog 113 #[.int .i64 op] W fun e w' => e = .returned (.int .i64 (argN op)) ∧ w' = W) := l8Args_any op
  have HT : Hid (∀ W, Calls Try.prog 152 #[.int .i64 op] W fun e w' => e = .returned (.tuple #[.int .i64 (tkN op), .int .i64 (gvN op)]) ∧ w' = W) := fun W => l8Takes_any op W (inB_iff.1 hop).1 (inB_iff.1 hop).2
  have hA := argN_lo op
  have ht := tkN_lo op
  have hg := gvN_lo op
  have HF : Hid (fitsB m.stk.length op = (decide (tkN op ≤ m.stk.length) && decide (m.stk.length - tkN op + gvN op ≤ 40))) := rfl
  have HA1 : Hid (op = 2 ∨ op = 3 → argN op = 1) := fun h => by rcases h with rfl | rfl <;> rfl
  have H1 : Hid (1 ≤ argN op → k + 1 < n → w.cell? ⟨b, off + (k + 1), none⟩ = some (.int .i64 u)) := h1
  have HR : Hid (R = (decide (k + argN op < n) && fitsB m.stk.length op && (if op = 2 ∨ op = 3 then decide (u < m.cells.length) else true))) := hR
  have HH0 : Hid (w.cell? ⟨b, off + k, none⟩ = some (.int .i64 op)) := h0
  have HPC : Hid (m.pc = k) := hpc
  clear hop h1 hR hp hpc
  generalize hS : m.stk.length = ls at *
  generalize hC : m.cells.length = lc at *
  generalize fitsB ls op = FB at *
  generalize argN op = A at *
  generalize tkN op = tk at *
  generalize gvN op = gv at *
  obtain ⟨A0, A1⟩ := hA
  obtain ⟨t0, t1⟩ := ht
  obtain ⟨g0, g1⟩ := hg
  have Z1 : IntKind.i64.wrap ((k : Int) + A) = (k : Int) + A := IntWalk.i64_in _ ⟨by omega, by omega⟩
  have HN : Hid (n ≤ 400 ∧ k < n) := ⟨hn, hk⟩
  clear hn hk
  go_enter Try.func125, Try.ntmps125
  go_upto_region 5 with (go_at_call 71; refine (HI.out _).mono ?_; rintro e w1 ⟨rfl, hw1⟩; have hw2 := hw1.symm; clear hw1; subst hw2)
  go_cut [43] from 9 (fun x W1 => x = .bool (decide ((n : Int) ≤ (k : Int) + A)) ∧ W1 = w.drew)
  case first =>
    go_region_with (go_at_call 113; refine (HA.out _).mono ?_; rintro e w6 ⟨rfl, rfl⟩)
    all_goals
      go_wp2_with fail
      go_meet
      case rel => exact ⟨rfl, rfl⟩
  case rest =>
  obtain ⟨rfl, rfl⟩ := hcut
  have HB : Hid (Below w.heap.size w w.drew) := (Below.refl _ _).drew
  have HP2 : Hid (w.drew.heap[p]? = some (.cells (lineS m (.slice a1 ls k1) (.slice a2 lc k2)) 39 (0, 0))) := HP.out
  have H12 : Hid (1 ≤ A → k + 1 < n → w.drew.cell? ⟨b, off + (k + 1), none⟩ = some (.int .i64 u)) := H1.out
  clear HP H1 c0 h0 Z1 HI HA HH0
  generalize w.drew = W at *
  obtain ⟨d0, d1, d2, _⟩ := RunS.cells HP2.out
  rw [HPC.out] at d0
  by_cases hA : (n : Int) ≤ (k : Int) + A
  · have hb : decide ((n : Int) ≤ (k : Int) + A) = true := decide_eq_true hA
    have E : Hid (R = false) := by unfold Hid; rw [HR.out, decide_eq_false (by omega : ¬ (k : Int) + A < n)]; rfl
    rw [hb]
    clear HR hA hb
    go_wp2_with fail
    go_ret
    exact ⟨by rw [E.out]; rfl, HB.out⟩
  have hb : decide ((n : Int) ≤ (k : Int) + A) = false := decide_eq_false hA
  rw [decide_eq_true (by omega : (k : Int) + A < n), Bool.true_and] at HR
  rw [hb]
  have HKA : Hid ((k : Int) + A < n) := by show _ < _; omega
  clear hb hA
  by_cases hf1 : tk ≤ ls
  case neg =>
    have E : Hid (R = false) := by unfold Hid; rw [HR.out, HF.out, decide_eq_false hf1]; rfl
    clear HR HF
    go_wp2_with (go_at_call 152; refine (HT.out _).mono ?_; rintro e w6 ⟨rfl, rfl⟩)
    go_ret
    exact ⟨by rw [E.out]; rfl, HB.out⟩
  by_cases hf2 : ls - tk + gv ≤ 40
  case neg =>
    have E : Hid (R = false) := by unfold Hid; rw [HR.out, HF.out, decide_eq_false hf2, Bool.and_false]; rfl
    clear HR HF
    go_wp2_with (go_at_call 152; refine (HT.out _).mono ?_; rintro e w6 ⟨rfl, rfl⟩)
    go_ret
    exact ⟨by rw [E.out]; rfl, HB.out⟩
  rw [decide_eq_true hf1, decide_eq_true hf2] at HF
  have hFB : FB = true := HF.out
  rw [hFB, Bool.true_and] at HR
  clear HF hFB
  by_cases hop : op = 2 ∨ op = 3
  · have hA1 := HA1.out hop
    subst hA1
    have hcu := H12.out (by omega) (by have := HKA.out; omega)
    rw [if_pos hop] at HR
    have hT : (op == 2) = true ∨ ((op == 2) = false ∧ (op == 3) = true) := by
      rcases hop with rfl | rfl
      · exact .inl rfl
      · exact .inr ⟨rfl, rfl⟩
    obtain ⟨L, hL⟩ : ∃ L : Nat, L = k + 1 := ⟨_, rfl⟩
    rw [← hL] at hcu
    have Z1 : IntKind.i64.wrap ((k : Int) + 1) = (L : Int) := by have := HN.out; rw [IntWalk.i64_in _ ⟨by omega, by omega⟩]; omega
    have l0 : (0 : Int) ≤ (L : Int) := by omega
    have l1 : (L : Int) < (n : Int) := by have := HKA.out; omega
    clear hop hL HA1 H12
    rcases hT with e2 | ⟨e2, e3⟩
    all_goals
      go_upto_region 11 with (go_at_call 152; refine (HT.out _).mono ?_; rintro e w6 ⟨rfl, rfl⟩)
      go_region_held3 (fun Z => Z.cell? ⟨p, 0, none⟩ = some (.int .i64 k) ∧ Z.cell? ⟨p, 2, none⟩ = some (.slice a2 lc k2) ∧ Z.cell? ⟨b, off + L, none⟩ = some (.int .i64 u)) (go_keep) (fail)
      go_wp2_with fail
      go_ret
      exact ⟨by rw [HR.out]; rfl, HB.out.drew⟩
  · rw [if_neg hop] at HR
    have hT : (op == 2) = false ∧ (op == 3) = false := by
      refine ⟨?_, ?_⟩ <;> (rw [beq_eq_false_iff_ne]; omega)
    obtain ⟨e2, e3⟩ := hT
    have e4 : decide (op = 2) = false := decide_eq_false (by omega)
    have e5 : decide (op = 3) = false := decide_eq_false (by omega)
    clear hop
    go_wp2_with (go_at_call 152; refine (HT.out _).mono ?_; rintro e w6 ⟨rfl, rfl⟩)
    go_ret
    exact ⟨by rw [HR.out]; rfl, HB.out⟩

theorem l8Ready_any (a : Option Addr) (zs : List Int) (c k p : Nat) (m : SM) (sv cv : Value) (w : World) (hz : Nums w a zs) (hl : zs.length ≤ 400) (hp : w.heap[p]? = some (.cells (lineS m sv cv) 39 (0, 0))) (hpc : m.pc = k) (hs : RowV w sv m.stk) (hc : RowV w cv m.cells) (hsl : m.stk.length ≤ 40) (hcl : m.cells.length ≤ 80) :
    Calls Try.prog 125 #[.slice a zs.length c, .pointer (some ⟨p, 0, none⟩)] w fun e w' => e = .returned (.bool (rdyL zs k m)) ∧ Below w.heap.size w w' := by
  have c0 := (RunS.cells hp).1
  rw [hpc] at c0
  by_cases hk : k < zs.length
  · rcases hz with hz | ⟨b, off, rfl, hcc⟩
    · rw [hz] at hk; simp at hk
    have h0 := hcc k hk
    cases hop : inB (zs.getD k 0) 1 13
    · have e : rdyL zs k m = false := by unfold rdyL readyB; rw [Int.toNat_natCast, hop]; simp
      rw [e]
      exact ready_op b off zs.length c k p (zs.getD k 0) w hk c0 h0 hop
    · refine ready_on b off zs.length c k p m sv cv (zs.getD k 0) (zs.getD (k + 1) 0) w hk hl hp hpc hs hc hsl hcl h0 hop (fun _ h => hcc (k + 1) h) (rdyL zs k m) ?_
      unfold rdyL readyB
      rw [Int.toNat_natCast, hop, decide_eq_true (by omega : (k : Int) < zs.length), Bool.true_and, Bool.true_and]
  · have e : rdyL zs k m = false := by unfold rdyL readyB; rw [decide_eq_false (by omega : ¬ (k : Int) < zs.length)]; simp
    rw [e]
    exact ready_end a zs.length c k p w (by omega) c0
end Go.Proofs.Ytjofghelenfklaa
namespace Go.Proofs.Ytjofghelenfklaa
open Go.RowKit
set_option linter.unusedVariables false
attribute [local go_sem ↓] Go.wp_at_zero Go.wp_at_succ

set_option maxHeartbeats 3200000 in
set_option maxRecDepth 100000 in
theorem sdo_1 (B p b off n c k L1 L2 : Nat) (m : SM) (op u v nx : Int) (w : World) (hop : op = 1) (h : RunS B w p m) (hs : m.stk.length ≤ 40) (hk : m.pc = k) (hkn : k < n) (hn : n ≤ 400) (hbB : b < B) (hL1 : L1 = k + 1) (hL2 : L2 = k + 2) (h0 : w.cell? ⟨b, off + k, none⟩ = some (.int .i64 op)) (h1 : w.cell? ⟨b, off + L1, none⟩ = some (.int .i64 u)) (hn1 : L1 < n) (hnx : nx = (k : Int) + 1 + argN op) :
    Calls Try.prog 126 #[.slice (some ⟨b, off, none⟩) n c, .pointer (some ⟨p, 0, none⟩)] w fun e w' => e = .returned (.int .i64 (0)) ∧ (0 = 0 → RunS B w' p (atP (psh m u) nx)) ∧ Below B w w' := by
  have HA : Hid (∀ W, Calls Try.prog 113 #[.int .i64 op] W fun e w' => e = .returned (.int .i64 1) ∧ w' = W) := fun W => by
    have := l8Args_any op W
    rwa [show argN op = 1 from by rw [hop]; rfl] at this
  have hT : (op == 1) = true := by subst hop; exact rfl
  rw [show argN op = 1 from by rw [hop]; rfl] at hnx
  obtain ⟨sv0, cv0, hb0, _⟩ := id h
  have c0 := (RunS.cells hb0).1
  rw [hk] at c0
  have q0 : (0 : Int) ≤ (k : Int) := by omega
  have q1 : (k : Int) < (n : Int) := by omega
  have E1 : (k : Int) + 1 = (L1 : Int) := by omega
  have E2 : (k : Int) + 2 = (L2 : Int) := by omega
  have Z1 : IntKind.i64.wrap ((k : Int) + 1) = (L1 : Int) := by rw [IntWalk.i64_in _ ⟨by omega, by omega⟩]; omega
  have Z1b : IntKind.i64.wrap (L1 : Int) = (L1 : Int) := IntWalk.i64_in _ ⟨by omega, by omega⟩
  have Z2 : IntKind.i64.wrap ((k : Int) + 2) = (L2 : Int) := by rw [IntWalk.i64_in _ ⟨by omega, by omega⟩]; omega
  have Z2b : IntKind.i64.wrap (L2 : Int) = (L2 : Int) := IntWalk.i64_in _ ⟨by omega, by omega⟩
  have Z3 : IntKind.i64.wrap ((L1 : Int) + 1) = nx := by rw [IntWalk.i64_in _ ⟨by omega, by omega⟩]; omega
  have Z3b : IntKind.i64.wrap nx = nx := IntWalk.i64_in _ ⟨by omega, by omega⟩
  have E3 : (L1 : Int) + 1 = nx := by omega
  have p0 : (0 : Int) ≤ (L1 : Int) := by omega
  have p1 : (L1 : Int) < (n : Int) := by omega
  have HR0 : Hid (RunS B w p m) := h
  have HBW : Hid (b < w.heap.size) := by have := h.lt; show b < _; omega
  clear hb0 h hop hkn hn hnx hL1 hL2 hn1
  have e1 := hT
  go_enter Try.func126, Try.ntmps126
  go_upto_region 3 with fail
  go_cut [7] from 23 (fun x W1 => x = .int .i64 nx ∧ W1 = w.drew)
  case first =>
    go_region_with (go_at_call 113; refine (HA.out _).mono ?_; rintro e w6 ⟨rfl, rfl⟩)
    all_goals
      go_wp2_with fail
      go_meet
      case rel => exact ⟨by simp [*], rfl⟩
  case rest =>
  obtain ⟨rfl, rfl⟩ := hcut
  have HR : Hid (RunS B w.drew p m) := HR0.out.heap rfl
  have HB : Hid (Below B w w.drew) := (Below.refl B w).drew
  have x1 : w.drew.cell? ⟨b, off + L1, none⟩ = some (.int .i64 u) := h1
  clear HR0 HA c0 h0 h1
  generalize w.drew = W at *
  go_upto_region 52 with (go_at_call 153; refine (l8Push_any B p m u _ HR.out hs).mono ?_; rintro e w3 ⟨rfl, hr, hb⟩)
  have HRZ : Hid (RunS B w3 p (psh m u)) := hr
  have HBZ : Hid (Below B w w3) := HB.out.trans hb
  obtain ⟨svz, cvz, hbz, _⟩ := id HRZ.out
  have z0 := (RunS.cells hbz).1
  have zf := frozen_of_row _ _ 0 _ _ hbz
  have HF : Hid (RunS B (w3.setCell ⟨p, 0, none⟩ (.int .i64 nx)) p (atP (psh m u) nx)) := HRZ.out.fld (m' := atP (psh m u) nx) 0 _ (fun _ _ => rfl) rfl rfl
  have HPB := HRZ.out.lt.1
  clear hbz
  go_wp2_with fail
  go_ret
  exact ⟨rfl, by first | exact HF.out | exact fun _ => HF.out, HBZ.out.setCell HPB _⟩


set_option maxHeartbeats 3200000 in
set_option maxRecDepth 100000 in
theorem sdo_2 (B p b off n c k L1 L2 : Nat) (m : SM) (op u v nx : Int) (w : World) (hop : op = 2) (h : RunS B w p m) (hs : m.stk.length ≤ 40) (hk : m.pc = k) (hkn : k < n) (hn : n ≤ 400) (hbB : b < B) (hL1 : L1 = k + 1) (hL2 : L2 = k + 2) (h0 : w.cell? ⟨b, off + k, none⟩ = some (.int .i64 op)) (h1 : w.cell? ⟨b, off + L1, none⟩ = some (.int .i64 u)) (hn1 : L1 < n) (hnx : nx = (k : Int) + 1 + argN op) (t : Nat) (hut : u = t) (ht : t < m.cells.length) (hl2 : m.cells.length ≤ 80) (x : Int) (hx : m.cells.getD t 0 = x) :
    Calls Try.prog 126 #[.slice (some ⟨b, off, none⟩) n c, .pointer (some ⟨p, 0, none⟩)] w fun e w' => e = .returned (.int .i64 (0)) ∧ (0 = 0 → RunS B w' p (atP (psh m x) nx)) ∧ Below B w w' := by
  have HA : Hid (∀ W, Calls Try.prog 113 #[.int .i64 op] W fun e w' => e = .returned (.int .i64 1) ∧ w' = W) := fun W => by
    have := l8Args_any op W
    rwa [show argN op = 1 from by rw [hop]; rfl] at this
  have hT : (op == 1) = false ∧ (op == 2) = true := by subst hop; exact ⟨rfl, rfl⟩
  rw [show argN op = 1 from by rw [hop]; rfl] at hnx
  obtain ⟨sv0, cv0, hb0, _⟩ := id h
  have c0 := (RunS.cells hb0).1
  rw [hk] at c0
  have q0 : (0 : Int) ≤ (k : Int) := by omega
  have q1 : (k : Int) < (n : Int) := by omega
  have E1 : (k : Int) + 1 = (L1 : Int) := by omega
  have E2 : (k : Int) + 2 = (L2 : Int) := by omega
  have Z1 : IntKind.i64.wrap ((k : Int) + 1) = (L1 : Int) := by rw [IntWalk.i64_in _ ⟨by omega, by omega⟩]; omega
  have Z1b : IntKind.i64.wrap (L1 : Int) = (L1 : Int) := IntWalk.i64_in _ ⟨by omega, by omega⟩
  have Z2 : IntKind.i64.wrap ((k : Int) + 2) = (L2 : Int) := by rw [IntWalk.i64_in _ ⟨by omega, by omega⟩]; omega
  have Z2b : IntKind.i64.wrap (L2 : Int) = (L2 : Int) := IntWalk.i64_in _ ⟨by omega, by omega⟩
  have Z3 : IntKind.i64.wrap ((L1 : Int) + 1) = nx := by rw [IntWalk.i64_in _ ⟨by omega, by omega⟩]; omega
  have Z3b : IntKind.i64.wrap nx = nx := IntWalk.i64_in _ ⟨by omega, by omega⟩
  have E3 : (L1 : Int) + 1 = nx := by omega
  have p0 : (0 : Int) ≤ (L1 : Int) := by omega
  have p1 : (L1 : Int) < (n : Int) := by omega
  have HR0 : Hid (RunS B w p m) := h
  have HBW : Hid (b < w.heap.size) := by have := h.lt; show b < _; omega
  clear hb0 h hop hkn hn hnx hL1 hL2 hn1
  obtain ⟨e1, e2⟩ := hT
  go_enter Try.func126, Try.ntmps126
  go_upto_region 3 with fail
  go_cut [7] from 23 (fun x W1 => x = .int .i64 nx ∧ W1 = w.drew)
  case first =>
    go_region_with (go_at_call 113; refine (HA.out _).mono ?_; rintro e w6 ⟨rfl, rfl⟩)
    all_goals
      go_wp2_with fail
      go_meet
      case rel => exact ⟨by simp [*], rfl⟩
  case rest =>
  obtain ⟨rfl, rfl⟩ := hcut
  have HR : Hid (RunS B w.drew p m) := HR0.out.heap rfl
  have HB : Hid (Below B w w.drew) := (Below.refl B w).drew
  have x1 : w.drew.cell? ⟨b, off + L1, none⟩ = some (.int .i64 u) := h1
  clear HR0 HA c0 h0 h1
  generalize w.drew = W at *
  obtain ⟨sv, cv, hb, hm⟩ := id HR.out
  obtain ⟨ac, c2, rfl⟩ := own_shape hm.cs
  have hnn := (nums_of_own hm.cs).2
  rcases hnn with hnn | ⟨gc, oc, rfl, hcc⟩
  · rw [hnn] at ht; simp at ht
  have y2 := (RunS.cells hb).2.2.1
  have yt := hcc t ht
  subst hut
  rw [hx] at yt
  clear hx hb hm hcc
  generalize m.cells.length = nc at *
  have t0 : (0 : Int) ≤ (t : Int) := by omega
  have t1 : (t : Int) < (nc : Int) := by omega
  clear ht
  go_upto_region 8 with fail
  go_region_with (go_at_call 153; refine (l8Push_any B p m x _ (HR.out.heap (by rfl)) hs).mono ?_; rintro e w3 ⟨rfl, hr, hb⟩)
  all_goals
    have HRZ : Hid (RunS B w3 p (psh m x)) := hr
    have HBZ : Hid (Below B w w3) := HB.out.drew.trans hb
    clear hr hb HR HB
    obtain ⟨svz, cvz, hbz, _⟩ := id HRZ.out
    have z0 := (RunS.cells hbz).1
    have zf := frozen_of_row _ _ 0 _ _ hbz
    have HF : Hid (RunS B (w3.setCell ⟨p, 0, none⟩ (.int .i64 nx)) p (atP (psh m x) nx)) := HRZ.out.fld (m' := atP (psh m x) nx) 0 _ (fun _ _ => rfl) rfl rfl
    have HPB := HRZ.out.lt.1
    clear hbz
    go_wp2_with fail
    go_ret
    exact ⟨rfl, by first | exact HF.out | exact fun _ => HF.out, HBZ.out.setCell HPB _⟩


set_option maxHeartbeats 3200000 in
set_option maxRecDepth 100000 in
theorem sdo_3 (B p b off n c k L1 L2 : Nat) (m : SM) (op u v nx : Int) (w : World) (hop : op = 3) (h : RunS B w p m) (hs : m.stk.length ≤ 40) (hk : m.pc = k) (hkn : k < n) (hn : n ≤ 400) (hbB : b < B) (hL1 : L1 = k + 1) (hL2 : L2 = k + 2) (h0 : w.cell? ⟨b, off + k, none⟩ = some (.int .i64 op)) (h1 : w.cell? ⟨b, off + L1, none⟩ = some (.int .i64 u)) (hn1 : L1 < n) (hnx : nx = (k : Int) + 1 + argN op) (t : Nat) (hut : u = t) (ht : t < m.cells.length) (hl2 : m.cells.length ≤ 80) (hf : 0 < m.stk.length) :
    Calls Try.prog 126 #[.slice (some ⟨b, off, none⟩) n c, .pointer (some ⟨p, 0, none⟩)] w fun e w' => e = .returned (.int .i64 (0)) ∧ (0 = 0 → RunS B w' p (atP (sto (pop m) t (tp m 0)) nx)) ∧ Below B w w' := by
  have HA : Hid (∀ W, Calls Try.prog 113 #[.int .i64 op] W fun e w' => e = .returned (.int .i64 1) ∧ w' = W) := fun W => by
    have := l8Args_any op W
    rwa [show argN op = 1 from by rw [hop]; rfl] at this
  have hT : (op == 1) = false ∧ (op == 2) = false ∧ (op == 3) = true := by subst hop; exact ⟨rfl, rfl, rfl⟩
  rw [show argN op = 1 from by rw [hop]; rfl] at hnx
  obtain ⟨sv0, cv0, hb0, _⟩ := id h
  have c0 := (RunS.cells hb0).1
  rw [hk] at c0
  have q0 : (0 : Int) ≤ (k : Int) := by omega
  have q1 : (k : Int) < (n : Int) := by omega
  have E1 : (k : Int) + 1 = (L1 : Int) := by omega
  have E2 : (k : Int) + 2 = (L2 : Int) := by omega
  have Z1 : IntKind.i64.wrap ((k : Int) + 1) = (L1 : Int) := by rw [IntWalk.i64_in _ ⟨by omega, by omega⟩]; omega
  have Z1b : IntKind.i64.wrap (L1 : Int) = (L1 : Int) := IntWalk.i64_in _ ⟨by omega, by omega⟩
  have Z2 : IntKind.i64.wrap ((k : Int) + 2) = (L2 : Int) := by rw [IntWalk.i64_in _ ⟨by omega, by omega⟩]; omega
  have Z2b : IntKind.i64.wrap (L2 : Int) = (L2 : Int) := IntWalk.i64_in _ ⟨by omega, by omega⟩
  have Z3 : IntKind.i64.wrap ((L1 : Int) + 1) = nx := by rw [IntWalk.i64_in _ ⟨by omega, by omega⟩]; omega
  have Z3b : IntKind.i64.wrap nx = nx := IntWalk.i64_in _ ⟨by omega, by omega⟩
  have E3 : (L1 : Int) + 1 = nx := by omega
  have p0 : (0 : Int) ≤ (L1 : Int) := by omega
  have p1 : (L1 : Int) < (n : Int) := by omega
  have HR0 : Hid (RunS B w p m) := h
  have HBW : Hid (b < w.heap.size) := by have := h.lt; show b < _; omega
  clear hb0 h hop hkn hn hnx hL1 hL2 hn1
  obtain ⟨e1, e2, e3⟩ := hT
  go_enter Try.func126, Try.ntmps126
  go_upto_region 3 with fail
  go_cut [7] from 23 (fun x W1 => x = .int .i64 nx ∧ W1 = w.drew)
  case first =>
    go_region_with (go_at_call 113; refine (HA.out _).mono ?_; rintro e w6 ⟨rfl, rfl⟩)
    all_goals
      go_wp2_with fail
      go_meet
      case rel => exact ⟨by simp [*], rfl⟩
  case rest =>
  obtain ⟨rfl, rfl⟩ := hcut
  have HR : Hid (RunS B w.drew p m) := HR0.out.heap rfl
  have HB : Hid (Below B w w.drew) := (Below.refl B w).drew
  have x1 : w.drew.cell? ⟨b, off + L1, none⟩ = some (.int .i64 u) := h1
  clear HR0 HA c0 h0 h1
  generalize w.drew = W at *
  subst hut
  go_upto_region 11 with (go_at_call 154; refine (l8Pop_any B p m _ HR.out hf hs).mono ?_; rintro e w3 ⟨rfl, hr, hb⟩)
  obtain ⟨sv, cv, hbl, hm⟩ := id hr
  obtain ⟨ac, c2, rfl⟩ := own_shape hm.cs
  obtain ⟨gc, hgc⟩ : ∃ gc, ac = some ⟨gc, 0, none⟩ := by
    rcases hm.cs.2 with ⟨_, q⟩ | ⟨gc, q2, cur, q, _⟩
    · have : m.cells.length = 0 := q
      omega
    · simp at q; exact ⟨gc, q.1⟩
  subst hgc
  have y2 := (RunS.cells hbl).2.2.1
  obtain ⟨y, hy⟩ : ∃ y, w3.cell? ⟨gc, t, none⟩ = some y := by
    rw [hm.cs.cellAt t (by rw [Nat.mul_one]; exact ht)]; exact ⟨_, List.getElem?_eq_getElem (by rw [List.length_map]; exact ht)⟩
  have hfr := hm.cs.frozenAt t
  have HS3 : Hid (∀ W2 : World, W2.heap = w3.heap → RunS B (W2.setCell ⟨gc, t, none⟩ (.int .i64 (tp m 0))) p (sto (pop m) t (tp m 0))) := fun W2 e => RunS.put (hbl := by rw [e]; exact hbl) (hm.heap e) t (tp m 0)
  have HGB : Hid (B ≤ gc) := hm.lt.2 gc rfl
  have yu : w3.cell? ⟨b, off + L1, none⟩ = some (.int .i64 (t : Int)) := (hb.cell (p := ⟨b, off + L1, none⟩) hbB).trans x1
  have HB3 : Hid (Below B w w3) := HB.out.trans hb
  have e9 : (pop m).cells.length = m.cells.length := rfl
  rw [e9] at y2
  clear hbl hm hr hb e9 HR HB
  generalize m.cells.length = nc at *
  have t0 : (0 : Int) ≤ (t : Int) := by omega
  have t1 : (t : Int) < (nc : Int) := by omega
  clear ht
  go_region
  have HRZ0 : Hid (RunS B (w3.setCell ⟨gc, t, none⟩ (.int .i64 (tp m 0))).drew p (sto (pop m) t (tp m 0))) := (HS3.out w3 rfl).heap rfl
  have HBZ0 : Hid (Below B w (w3.setCell ⟨gc, t, none⟩ (.int .i64 (tp m 0))).drew) := (HB3.out.setCell HGB.out _).drew
  clear HS3 y2 hy hfr yu
  first
    | generalize (w3.setCell ⟨gc, t, none⟩ (.int .i64 (tp m 0))).drew = w5 at *
  have HRZ : Hid (RunS B w5 p (sto (pop m) t (tp m 0))) := HRZ0
  have HBZ : Hid (Below B w w5) := HBZ0
  clear HRZ0 HBZ0
  obtain ⟨svz, cvz, hbz, _⟩ := id HRZ.out
  have z0 := (RunS.cells hbz).1
  have zf := frozen_of_row _ _ 0 _ _ hbz
  have HF : Hid (RunS B (w5.setCell ⟨p, 0, none⟩ (.int .i64 nx)) p (atP (sto (pop m) t (tp m 0)) nx)) := HRZ.out.fld (m' := atP (sto (pop m) t (tp m 0)) nx) 0 _ (fun _ _ => rfl) rfl rfl
  have HPB := HRZ.out.lt.1
  clear hbz
  go_wp2_with fail
  go_ret
  exact ⟨rfl, by first | exact HF.out | exact fun _ => HF.out, HBZ.out.setCell HPB _⟩

end Go.Proofs.Ytjofghelenfklaa
namespace Go.Proofs.Ytjofghelenfklaa
open Go.RowKit
set_option linter.unusedVariables false
attribute [local go_sem ↓] Go.wp_at_zero Go.wp_at_succ

set_option maxHeartbeats 3200000 in
set_option maxRecDepth 100000 in
theorem sdo_4 (B p b off n c k L1 L2 : Nat) (m : SM) (op u v nx : Int) (w : World) (hop : op = 4) (h : RunS B w p m) (hs : m.stk.length ≤ 40) (hk : m.pc = k) (hkn : k < n) (hn : n ≤ 400) (hbB : b < B) (hL1 : L1 = k + 1) (hL2 : L2 = k + 2) (h0 : w.cell? ⟨b, off + k, none⟩ = some (.int .i64 op)) (h1 : w.cell? ⟨b, off + L1, none⟩ = some (.int .i64 u)) (hn1 : L1 < n) (h2 : w.cell? ⟨b, off + L2, none⟩ = some (.int .i64 v)) (hn2 : L2 < n) (hnx : nx = (k : Int) + 1 + argN op) (hl2 : m.cells.length ≤ 80) (hf : 0 < m.stk.length) (hu0 : 0 ≤ u) (hu1 : u ≤ 65535) (hv0 : 0 ≤ v) (hv1 : v ≤ 65535) (C V : Int) (hC : C = itemC m.cells.length u v (tp m 0)) (hV : V = itemV m.cells.length u v (tp m 0)) (M : SM) (hM : M = atP (psh (pop m) (m.cells.getD V.toNat 0)) nx) :
    Calls Try.prog 126 #[.slice (some ⟨b, off, none⟩) n c, .pointer (some ⟨p, 0, none⟩)] w fun e w' => e = .returned (.int .i64 (C)) ∧ (C = 0 → RunS B w' p (M)) ∧ Below B w w' := by
  have HA : Hid (∀ W, Calls Try.prog 113 #[.int .i64 op] W fun e w' => e = .returned (.int .i64 2) ∧ w' = W) := fun W => by
    have := l8Args_any op W
    rwa [show argN op = 2 from by rw [hop]; rfl] at this
  have hT : (op == 1) = false ∧ (op == 2) = false ∧ (op == 3) = false ∧ (op == 4) = true := by subst hop; exact ⟨rfl, rfl, rfl, rfl⟩
  rw [show argN op = 2 from by rw [hop]; rfl] at hnx
  obtain ⟨sv0, cv0, hb0, _⟩ := id h
  have c0 := (RunS.cells hb0).1
  rw [hk] at c0
  have q0 : (0 : Int) ≤ (k : Int) := by omega
  have q1 : (k : Int) < (n : Int) := by omega
  have E1 : (k : Int) + 1 = (L1 : Int) := by omega
  have E2 : (k : Int) + 2 = (L2 : Int) := by omega
  have Z1 : IntKind.i64.wrap ((k : Int) + 1) = (L1 : Int) := by rw [IntWalk.i64_in _ ⟨by omega, by omega⟩]; omega
  have Z1b : IntKind.i64.wrap (L1 : Int) = (L1 : Int) := IntWalk.i64_in _ ⟨by omega, by omega⟩
  have Z2 : IntKind.i64.wrap ((k : Int) + 2) = (L2 : Int) := by rw [IntWalk.i64_in _ ⟨by omega, by omega⟩]; omega
  have Z2b : IntKind.i64.wrap (L2 : Int) = (L2 : Int) := IntWalk.i64_in _ ⟨by omega, by omega⟩
  have Z3 : IntKind.i64.wrap ((L1 : Int) + 2) = nx := by rw [IntWalk.i64_in _ ⟨by omega, by omega⟩]; omega
  have Z3b : IntKind.i64.wrap nx = nx := IntWalk.i64_in _ ⟨by omega, by omega⟩
  have E3 : (L1 : Int) + 2 = nx := by omega
  have p0 : (0 : Int) ≤ (L1 : Int) := by omega
  have p1 : (L1 : Int) < (n : Int) := by omega
  have p2 : (0 : Int) ≤ (L2 : Int) := by omega
  have p3 : (L2 : Int) < (n : Int) := by omega
  have HR0 : Hid (RunS B w p m) := h
  have HBW : Hid (b < w.heap.size) := by have := h.lt; show b < _; omega
  clear hb0 h hop hkn hn hnx hL1 hL2 hn1 hn2
  obtain ⟨e1, e2, e3, e4⟩ := hT
  go_enter Try.func126, Try.ntmps126
  go_upto_region 3 with fail
  go_cut [7] from 23 (fun x W1 => x = .int .i64 nx ∧ W1 = w.drew)
  case first =>
    go_region_with (go_at_call 113; refine (HA.out _).mono ?_; rintro e w6 ⟨rfl, rfl⟩)
    all_goals
      go_wp2_with fail
      go_meet
      case rel => exact ⟨by simp [*], rfl⟩
  case rest =>
  obtain ⟨rfl, rfl⟩ := hcut
  have HR : Hid (RunS B w.drew p m) := HR0.out.heap rfl
  have HB : Hid (Below B w w.drew) := (Below.refl B w).drew
  have x1 : w.drew.cell? ⟨b, off + L1, none⟩ = some (.int .i64 u) := h1
  have x2 : w.drew.cell? ⟨b, off + L2, none⟩ = some (.int .i64 v) := h2
  clear HR0 HA c0 h0 h1 h2
  generalize w.drew = W at *
  go_upto_region 14 with (go_at_call 154; refine (l8Pop_any B p m _ HR.out hf hs).mono ?_; rintro e w3 ⟨rfl, hr, hb⟩)
  have HR3 : Hid (RunS B w3 p (pop m)) := hr
  have yu : w3.cell? ⟨b, off + L1, none⟩ = some (.int .i64 u) := (hb.cell (p := ⟨b, off + L1, none⟩) hbB).trans x1
  have yv : w3.cell? ⟨b, off + L2, none⟩ = some (.int .i64 v) := (hb.cell (p := ⟨b, off + L2, none⟩) hbB).trans x2
  have HB3 : Hid (Below B w w3) := HB.out.trans hb
  clear hr hb HR HB
  have HROW : Hid (∀ W, W.heap = w3.heap → Calls Try.prog 155 #[.pointer (some ⟨p, 0, none⟩), .int .i64 u, .int .i64 v, .int .i64 (tp m 0)] W fun e w' => e = .returned (.tuple #[.int .i64 (itemV m.cells.length u v (tp m 0)), .int .i64 (itemC m.cells.length u v (tp m 0))]) ∧ w' = W) := fun W e => by
    obtain ⟨sv, cv, hbl, hm⟩ := HR3.out.heap e
    exact l8Row_any p (pop m) sv cv u v (tp m 0) W hbl (own_row hm.cs) hl2 hu0 hu1 hv0 hv1
  have HIV : Hid (itemC m.cells.length u v (tp m 0) = 0 → 0 ≤ itemV m.cells.length u v (tp m 0) ∧ itemV m.cells.length u v (tp m 0) < m.cells.length) := item_in _ _ _ _ hu0
  have h39 : (pop m).stk.length ≤ 40 := by rw [pop_len]; omega
  rw [← hC, ← hV] at HROW HIV
  have HM : Hid (M = atP (psh (pop m) (m.cells.getD V.toNat 0)) nx) := hM
  clear hC hV hM
  go_cut [10, 11] from 23 (fun s10 s11 W1 => s10 = .int .i64 V ∧ s11 = .int .i64 C ∧ W1 = w3.drew)
  case first =>
    go_region_with (go_at_call 155; refine (HROW.out _ (by rfl)).mono ?_; rintro e w6 ⟨rfl, rfl⟩)
    all_goals
      go_wp2_with fail
      go_meet
      case rel => exact ⟨rfl, rfl, rfl⟩
  case rest =>
  obtain ⟨rfl, rfl, rfl⟩ := hcut
  have HR4 : Hid (RunS B w3.drew p (pop m)) := HR3.out.heap rfl
  have HB4 : Hid (Below B w w3.drew) := HB3.out.drew
  clear HR3 HB3 HROW yu yv
  generalize w3.drew = w4 at *
  by_cases hC : C = 0
  · subst hC
    obtain ⟨t, hVt⟩ := Int.eq_ofNat_of_zero_le (HIV.out rfl).1
    subst hVt
    have ht : t < m.cells.length := by have := (HIV.out rfl).2; omega
    rw [Int.toNat_natCast] at HM
    obtain ⟨sv, cv, hbl, hm⟩ := id HR4.out
    obtain ⟨ac, c2, rfl⟩ := own_shape hm.cs
    have hnn := (nums_of_own hm.cs).2
    rcases hnn with hnn | ⟨gc, oc, rfl, hcc⟩
    · have e9 : (pop m).cells = m.cells := rfl
      rw [e9] at hnn; rw [hnn] at ht; simp at ht
    have y2 := (RunS.cells hbl).2.2.1
    have yt := hcc t ht
    have e9 : (pop m).cells = m.cells := rfl
    rw [e9] at y2 yt
    generalize m.cells.getD t 0 = x at *
    clear hbl hm hcc e9 HIV
    generalize m.cells.length = nc at *
    have t0 : (0 : Int) ≤ (t : Int) := by omega
    have t1 : (t : Int) < (nc : Int) := by omega
    clear ht
    go_upto_region 52 with (go_at_call 153; refine (l8Push_any B p (pop m) x _ HR4.out h39).mono ?_; rintro e w7 ⟨rfl, hr, hb⟩)
    have HRZ : Hid (RunS B w7 p (psh (pop m) x)) := hr
    have HBZ : Hid (Below B w w7) := HB4.out.trans hb
    obtain ⟨svz, cvz, hbz, _⟩ := id HRZ.out
    have z0 := (RunS.cells hbz).1
    have zf := frozen_of_row _ _ 0 _ _ hbz
    have HF : Hid (RunS B (w7.setCell ⟨p, 0, none⟩ (.int .i64 nx)) p (atP (psh (pop m) x) nx)) := HRZ.out.fld (m' := atP (psh (pop m) x) nx) 0 _ (fun _ _ => rfl) rfl rfl
    have HPB := HRZ.out.lt.1
    clear hbz
    go_wp2_with fail
    go_ret
    exact ⟨rfl, by first | (rw [HM.out]; exact HF.out) | (rw [HM.out]; exact fun _ => HF.out) | exact fun _ => (by rw [HM.out]; exact HF.out), HBZ.out.setCell HPB _⟩

  · have eC : (C != 0) = true := by simpa using hC
    have HNC : Hid (¬ C = 0) := hC
    have eD : decide (C = 0) = false := decide_eq_false hC
    clear hC
    go_wp2_with fail
    go_ret
    exact ⟨rfl, by first | trivial | exact fun h => absurd h HNC.out, HB4.out⟩

end Go.Proofs.Ytjofghelenfklaa
namespace Go.Proofs.Ytjofghelenfklaa
open Go.RowKit
set_option linter.unusedVariables false
attribute [local go_sem ↓] Go.wp_at_zero Go.wp_at_succ

set_option maxHeartbeats 3200000 in
set_option maxRecDepth 100000 in
theorem sdo_5 (B p b off n c k L1 L2 : Nat) (m : SM) (op u v nx : Int) (w : World) (hop : op = 5) (h : RunS B w p m) (hs : m.stk.length ≤ 40) (hk : m.pc = k) (hkn : k < n) (hn : n ≤ 400) (hbB : b < B) (hL1 : L1 = k + 1) (hL2 : L2 = k + 2) (h0 : w.cell? ⟨b, off + k, none⟩ = some (.int .i64 op)) (h1 : w.cell? ⟨b, off + L1, none⟩ = some (.int .i64 u)) (hn1 : L1 < n) (h2 : w.cell? ⟨b, off + L2, none⟩ = some (.int .i64 v)) (hn2 : L2 < n) (hnx : nx = (k : Int) + 1 + argN op) (hl2 : m.cells.length ≤ 80) (hf : 1 < m.stk.length) (hu0 : 0 ≤ u) (hu1 : u ≤ 65535) (hv0 : 0 ≤ v) (hv1 : v ≤ 65535) (C V : Int) (hC : C = itemC m.cells.length u v (tp m 1)) (hV : V = itemV m.cells.length u v (tp m 1)) (M : SM) (hM : M = atP (sto (pop (pop m)) V.toNat (tp m 0)) nx) :
    Calls Try.prog 126 #[.slice (some ⟨b, off, none⟩) n c, .pointer (some ⟨p, 0, none⟩)] w fun e w' => e = .returned (.int .i64 (C)) ∧ (C = 0 → RunS B w' p (M)) ∧ Below B w w' := by
  have HA : Hid (∀ W, Calls Try.prog 113 #[.int .i64 op] W fun e w' => e = .returned (.int .i64 2) ∧ w' = W) := fun W => by
    have := l8Args_any op W
    rwa [show argN op = 2 from by rw [hop]; rfl] at this
  have hT : (op == 1) = false ∧ (op == 2) = false ∧ (op == 3) = false ∧ (op == 4) = false ∧ (op == 5) = true := by subst hop; exact ⟨rfl, rfl, rfl, rfl, rfl⟩
  rw [show argN op = 2 from by rw [hop]; rfl] at hnx
  obtain ⟨sv0, cv0, hb0, _⟩ := id h
  have c0 := (RunS.cells hb0).1
  rw [hk] at c0
  have q0 : (0 : Int) ≤ (k : Int) := by omega
  have q1 : (k : Int) < (n : Int) := by omega
  have E1 : (k : Int) + 1 = (L1 : Int) := by omega
  have E2 : (k : Int) + 2 = (L2 : Int) := by omega
  have Z1 : IntKind.i64.wrap ((k : Int) + 1) = (L1 : Int) := by rw [IntWalk.i64_in _ ⟨by omega, by omega⟩]; omega
  have Z1b : IntKind.i64.wrap (L1 : Int) = (L1 : Int) := IntWalk.i64_in _ ⟨by omega, by omega⟩
  have Z2 : IntKind.i64.wrap ((k : Int) + 2) = (L2 : Int) := by rw [IntWalk.i64_in _ ⟨by omega, by omega⟩]; omega
  have Z2b : IntKind.i64.wrap (L2 : Int) = (L2 : Int) := IntWalk.i64_in _ ⟨by omega, by omega⟩
  have Z3 : IntKind.i64.wrap ((L1 : Int) + 2) = nx := by rw [IntWalk.i64_in _ ⟨by omega, by omega⟩]; omega
  have Z3b : IntKind.i64.wrap nx = nx := IntWalk.i64_in _ ⟨by omega, by omega⟩
  have E3 : (L1 : Int) + 2 = nx := by omega
  have p0 : (0 : Int) ≤ (L1 : Int) := by omega
  have p1 : (L1 : Int) < (n : Int) := by omega
  have p2 : (0 : Int) ≤ (L2 : Int) := by omega
  have p3 : (L2 : Int) < (n : Int) := by omega
  have HR0 : Hid (RunS B w p m) := h
  have HBW : Hid (b < w.heap.size) := by have := h.lt; show b < _; omega
  clear hb0 h hop hkn hn hnx hL1 hL2 hn1 hn2
  obtain ⟨e1, e2, e3, e4, e5⟩ := hT
  go_enter Try.func126, Try.ntmps126
  go_upto_region 3 with fail
  go_cut [7] from 23 (fun x W1 => x = .int .i64 nx ∧ W1 = w.drew)
  case first =>
    go_region_with (go_at_call 113; refine (HA.out _).mono ?_; rintro e w6 ⟨rfl, rfl⟩)
    all_goals
      go_wp2_with fail
      go_meet
      case rel => exact ⟨by simp [*], rfl⟩
  case rest =>
  obtain ⟨rfl, rfl⟩ := hcut
  have HR : Hid (RunS B w.drew p m) := HR0.out.heap rfl
  have HB : Hid (Below B w w.drew) := (Below.refl B w).drew
  have x1 : w.drew.cell? ⟨b, off + L1, none⟩ = some (.int .i64 u) := h1
  have x2 : w.drew.cell? ⟨b, off + L2, none⟩ = some (.int .i64 v) := h2
  clear HR0 HA c0 h0 h1 h2
  generalize w.drew = W at *
  have h39 : 0 < (pop m).stk.length := by rw [pop_len]; omega
  have h38 : (pop m).stk.length ≤ 40 := by rw [pop_len]; omega
  have HTP : Hid (tp (pop m) 0 = tp m 1) := tp_pop m hf
  have HP2 : Hid (∀ W, RunS B W p (pop m) → Calls Try.prog 154 #[.pointer (some ⟨p, 0, none⟩)] W fun e w' => e = .returned (.int .i64 (tp m 1)) ∧ RunS B w' p (pop (pop m)) ∧ Below B W w') := fun W hr => by
    have := l8Pop_any B p (pop m) W hr h39 h38
    rwa [HTP.out] at this
  go_upto_region 20 with (go_at_call 154; refine (l8Pop_any B p m _ HR.out (by omega) hs).mono ?_; rintro e w2 ⟨rfl, hr2, hb2⟩)
  go_upto_region 21 with (go_at_call 154; refine (HP2.out _ hr2).mono ?_; rintro e w3 ⟨rfl, hr, hb3⟩)
  have hb := hb2.trans hb3
  have HR3 : Hid (RunS B w3 p (pop (pop m))) := hr
  have yu : w3.cell? ⟨b, off + L1, none⟩ = some (.int .i64 u) := (hb.cell (p := ⟨b, off + L1, none⟩) hbB).trans x1
  have yv : w3.cell? ⟨b, off + L2, none⟩ = some (.int .i64 v) := (hb.cell (p := ⟨b, off + L2, none⟩) hbB).trans x2
  have HB3 : Hid (Below B w w3) := HB.out.trans hb
  clear hr hr2 hb hb2 hb3 HR HB HP2 HTP
  have HROW : Hid (∀ W, W.heap = w3.heap → Calls Try.prog 155 #[.pointer (some ⟨p, 0, none⟩), .int .i64 u, .int .i64 v, .int .i64 (tp m 1)] W fun e w' => e = .returned (.tuple #[.int .i64 (itemV m.cells.length u v (tp m 1)), .int .i64 (itemC m.cells.length u v (tp m 1))]) ∧ w' = W) := fun W e => by
    obtain ⟨sv, cv, hbl, hm⟩ := HR3.out.heap e
    exact l8Row_any p (pop (pop m)) sv cv u v (tp m 1) W hbl (own_row hm.cs) hl2 hu0 hu1 hv0 hv1
  have HIV : Hid (itemC m.cells.length u v (tp m 1) = 0 → 0 ≤ itemV m.cells.length u v (tp m 1) ∧ itemV m.cells.length u v (tp m 1) < m.cells.length) := item_in _ _ _ _ hu0
  rw [← hC, ← hV] at HROW HIV
  have HM : Hid (M = atP (sto (pop (pop m)) V.toNat (tp m 0)) nx) := hM
  clear hC hV hM
  go_cut [14, 15] from 23 (fun s10 s11 W1 => s10 = .int .i64 V ∧ s11 = .int .i64 C ∧ W1 = w3.drew)
  case first =>
    go_region_with (go_at_call 155; refine (HROW.out _ (by rfl)).mono ?_; rintro e w6 ⟨rfl, rfl⟩)
    all_goals
      go_wp2_with fail
      go_meet
      case rel => exact ⟨rfl, rfl, rfl⟩
  case rest =>
  obtain ⟨rfl, rfl, rfl⟩ := hcut
  have HR4 : Hid (RunS B w3.drew p (pop (pop m))) := HR3.out.heap rfl
  have HB4 : Hid (Below B w w3.drew) := HB3.out.drew
  clear HR3 HB3 HROW yu yv
  generalize w3.drew = w4 at *
  by_cases hC : C = 0
  · subst hC
    obtain ⟨t, hVt⟩ := Int.eq_ofNat_of_zero_le (HIV.out rfl).1
    subst hVt
    have ht : t < m.cells.length := by have := (HIV.out rfl).2; omega
    rw [Int.toNat_natCast] at HM
    obtain ⟨sv, cv, hbl, hm⟩ := id HR4.out
    obtain ⟨ac, c2, rfl⟩ := own_shape hm.cs
    obtain ⟨gc, hgc⟩ : ∃ gc, ac = some ⟨gc, 0, none⟩ := by
      rcases hm.cs.2 with ⟨_, q⟩ | ⟨gc, q2, cur, q, _⟩
      · have : m.cells.length = 0 := q
        omega
      · simp at q; exact ⟨gc, q.1⟩
    subst hgc
    have y2 := (RunS.cells hbl).2.2.1
    obtain ⟨y, hy⟩ : ∃ y, w4.cell? ⟨gc, t, none⟩ = some y := by
      rw [hm.cs.cellAt t (by rw [Nat.mul_one]; exact ht)]; exact ⟨_, List.getElem?_eq_getElem (by rw [List.length_map]; exact ht)⟩
    have hfr := hm.cs.frozenAt t
    have HRZ0 : Hid (RunS B (w4.setCell ⟨gc, t, none⟩ (.int .i64 (tp m 0))) p (sto (pop (pop m)) t (tp m 0))) := RunS.put (hbl := hbl) hm t (tp m 0)
    have HBZ0 : Hid (Below B w (w4.setCell ⟨gc, t, none⟩ (.int .i64 (tp m 0)))) := HB4.out.setCell (hm.lt.2 gc rfl) _
    have e9 : (pop (pop m)).cells.length = m.cells.length := rfl
    rw [e9] at y2
    clear hbl hm e9 HR4 HB4 HIV
    generalize m.cells.length = nc at *
    have t0 : (0 : Int) ≤ (t : Int) := by omega
    have t1 : (t : Int) < (nc : Int) := by omega
    clear ht
    go_upto_region 52 with fail
    generalize w4.setCell ⟨gc, t, none⟩ (.int .i64 (tp m 0)) = w7 at *
    have HRZ : Hid (RunS B w7 p (sto (pop (pop m)) t (tp m 0))) := HRZ0
    have HBZ : Hid (Below B w w7) := HBZ0
    clear HRZ0 HBZ0
    obtain ⟨svz, cvz, hbz, _⟩ := id HRZ.out
    have z0 := (RunS.cells hbz).1
    have zf := frozen_of_row _ _ 0 _ _ hbz
    have HF : Hid (RunS B (w7.setCell ⟨p, 0, none⟩ (.int .i64 nx)) p (atP (sto (pop (pop m)) t (tp m 0)) nx)) := HRZ.out.fld (m' := atP (sto (pop (pop m)) t (tp m 0)) nx) 0 _ (fun _ _ => rfl) rfl rfl
    have HPB := HRZ.out.lt.1
    clear hbz
    go_wp2_with fail
    go_ret
    exact ⟨rfl, by first | (rw [HM.out]; exact HF.out) | (rw [HM.out]; exact fun _ => HF.out) | exact fun _ => (by rw [HM.out]; exact HF.out), HBZ.out.setCell HPB _⟩

  · have eC : (C != 0) = true := by simpa using hC
    have HNC : Hid (¬ C = 0) := hC
    have eD : decide (C = 0) = false := decide_eq_false hC
    clear hC
    go_wp2_with fail
    go_ret
    exact ⟨rfl, by first | trivial | exact fun h => absurd h HNC.out, HB4.out⟩

end Go.Proofs.Ytjofghelenfklaa
namespace Go.Proofs.Ytjofghelenfklaa
open Go.RowKit
set_option linter.unusedVariables false
attribute [local go_sem ↓] Go.wp_at_zero Go.wp_at_succ

set_option maxHeartbeats 3200000 in
set_option maxRecDepth 100000 in
theorem sdo_6 (B p b off n c k L1 L2 : Nat) (m : SM) (op u v nx : Int) (w : World) (hop : op = 6) (h : RunS B w p m) (hs : m.stk.length ≤ 40) (hk : m.pc = k) (hkn : k < n) (hn : n ≤ 400) (hbB : b < B) (hL1 : L1 = k + 1) (hL2 : L2 = k + 2) (h0 : w.cell? ⟨b, off + k, none⟩ = some (.int .i64 op)) (h1 : w.cell? ⟨b, off + L1, none⟩ = some (.int .i64 u)) (hn1 : L1 < n) (hnx : nx = (k : Int) + 1 + argN op) (hf : 1 < m.stk.length) (D V : Int) (hD0 : D = twoC u (tp m 0)) (hV : V = binV u (tp m 1) (tp m 0)) (M : SM) (hM : M = atP (psh (pop (pop m)) V) nx) :
    Calls Try.prog 126 #[.slice (some ⟨b, off, none⟩) n c, .pointer (some ⟨p, 0, none⟩)] w fun e w' => e = .returned (.int .i64 (D)) ∧ (D = 0 → RunS B w' p (M)) ∧ Below B w w' := by
  have HA : Hid (∀ W, Calls Try.prog 113 #[.int .i64 op] W fun e w' => e = .returned (.int .i64 1) ∧ w' = W) := fun W => by
    have := l8Args_any op W
    rwa [show argN op = 1 from by rw [hop]; rfl] at this
  have hT : (op == 1) = false ∧ (op == 2) = false ∧ (op == 3) = false ∧ (op == 4) = false ∧ (op == 5) = false ∧ (op == 6) = true := by subst hop; exact ⟨rfl, rfl, rfl, rfl, rfl, rfl⟩
  rw [show argN op = 1 from by rw [hop]; rfl] at hnx
  obtain ⟨sv0, cv0, hb0, _⟩ := id h
  have c0 := (RunS.cells hb0).1
  rw [hk] at c0
  have q0 : (0 : Int) ≤ (k : Int) := by omega
  have q1 : (k : Int) < (n : Int) := by omega
  have E1 : (k : Int) + 1 = (L1 : Int) := by omega
  have E2 : (k : Int) + 2 = (L2 : Int) := by omega
  have Z1 : IntKind.i64.wrap ((k : Int) + 1) = (L1 : Int) := by rw [IntWalk.i64_in _ ⟨by omega, by omega⟩]; omega
  have Z1b : IntKind.i64.wrap (L1 : Int) = (L1 : Int) := IntWalk.i64_in _ ⟨by omega, by omega⟩
  have Z2 : IntKind.i64.wrap ((k : Int) + 2) = (L2 : Int) := by rw [IntWalk.i64_in _ ⟨by omega, by omega⟩]; omega
  have Z2b : IntKind.i64.wrap (L2 : Int) = (L2 : Int) := IntWalk.i64_in _ ⟨by omega, by omega⟩
  have Z3 : IntKind.i64.wrap ((L1 : Int) + 1) = nx := by rw [IntWalk.i64_in _ ⟨by omega, by omega⟩]; omega
  have Z3b : IntKind.i64.wrap nx = nx := IntWalk.i64_in _ ⟨by omega, by omega⟩
  have E3 : (L1 : Int) + 1 = nx := by omega
  have p0 : (0 : Int) ≤ (L1 : Int) := by omega
  have p1 : (L1 : Int) < (n : Int) := by omega
  have HR0 : Hid (RunS B w p m) := h
  have HBW : Hid (b < w.heap.size) := by have := h.lt; show b < _; omega
  clear hb0 h hop hkn hn hnx hL1 hL2 hn1
  obtain ⟨e1, e2, e3, e4, e5, e6⟩ := hT
  go_enter Try.func126, Try.ntmps126
  go_upto_region 3 with fail
  go_cut [7] from 23 (fun x W1 => x = .int .i64 nx ∧ W1 = w.drew)
  case first =>
    go_region_with (go_at_call 113; refine (HA.out _).mono ?_; rintro e w6 ⟨rfl, rfl⟩)
    all_goals
      go_wp2_with fail
      go_meet
      case rel => exact ⟨by simp [*], rfl⟩
  case rest =>
  obtain ⟨rfl, rfl⟩ := hcut
  have HR : Hid (RunS B w.drew p m) := HR0.out.heap rfl
  have HB : Hid (Below B w w.drew) := (Below.refl B w).drew
  have x1 : w.drew.cell? ⟨b, off + L1, none⟩ = some (.int .i64 u) := h1
  clear HR0 HA c0 h0 h1
  generalize w.drew = W at *
  have h39 : 0 < (pop m).stk.length := by rw [pop_len]; omega
  have h38 : (pop m).stk.length ≤ 40 := by rw [pop_len]; omega
  have h37 : (pop (pop m)).stk.length ≤ 40 := by rw [pop_len]; omega
  have HTP : Hid (tp (pop m) 0 = tp m 1) := tp_pop m hf
  have HP2 : Hid (∀ W, RunS B W p (pop m) → Calls Try.prog 154 #[.pointer (some ⟨p, 0, none⟩)] W fun e w' => e = .returned (.int .i64 (tp m 1)) ∧ RunS B w' p (pop (pop m)) ∧ Below B W w') := fun W hr => by
    have := l8Pop_any B p (pop m) W hr h39 h38
    rwa [HTP.out] at this
  go_upto_region 27 with (go_at_call 154; refine (l8Pop_any B p m _ HR.out (by omega) hs).mono ?_; rintro e w2 ⟨rfl, hr2, hb2⟩)
  go_upto_region 28 with (go_at_call 154; refine (HP2.out _ hr2).mono ?_; rintro e w3 ⟨rfl, hr, hb3⟩)
  have hb := hb2.trans hb3
  have HR3 : Hid (RunS B w3 p (pop (pop m))) := hr
  have yu : w3.cell? ⟨b, off + L1, none⟩ = some (.int .i64 u) := (hb.cell (p := ⟨b, off + L1, none⟩) hbB).trans x1
  have HB3 : Hid (Below B w w3) := HB.out.trans hb
  have HBI : Hid (∀ W, Calls Try.prog 156 #[.int .i64 u, .int .i64 (tp m 1), .int .i64 (tp m 0)] W fun e w' => e = .returned (.tuple #[.int .i64 (binV u (tp m 1) (tp m 0)), .int .i64 (binC u (tp m 0))]) ∧ w' = W) := fun W => l2_any u (tp m 1) (tp m 0) W
  have HTC : Hid (twoC u (tp m 0) = if binC u (tp m 0) = 3 then 1 else binC u (tp m 0)) := rfl
  clear hr hr2 hb hb2 hb3 HR HB HP2 HTP
  rw [← hD0] at HTC
  rw [← hV] at HBI
  have HM : Hid (M = atP (psh (pop (pop m)) V) nx) := hM
  clear hD0 hV hM
  generalize binC u (tp m 0) = C at *
  by_cases h3 : C = 3
  · subst h3
    have hD : D = 1 := HTC.out
    subst hD
    go_wp2_with (go_at_call 156; refine (HBI.out _).mono ?_; rintro e w6 ⟨rfl, rfl⟩)
    go_ret
    exact ⟨rfl, by first | trivial | exact fun h => absurd h (by decide), HB3.out⟩
  have hD : D = C := HTC.out.trans (if_neg h3)
  subst hD
  have e3 : (D == 3) = false := by simpa using h3
  by_cases hC : D = 0
  · subst hC
    go_upto_region 52 with (first | (go_at_call 156; refine (HBI.out _).mono ?_; rintro e w6 ⟨rfl, rfl⟩) | (go_at_call 153; refine (l8Push_any B p (pop (pop m)) V _ HR3.out h37).mono ?_; rintro e w7 ⟨rfl, hr, hb⟩))
    have HRZ : Hid (RunS B w7 p (psh (pop (pop m)) V)) := hr
    have HBZ : Hid (Below B w w7) := HB3.out.trans hb
    obtain ⟨svz, cvz, hbz, _⟩ := id HRZ.out
    have z0 := (RunS.cells hbz).1
    have zf := frozen_of_row _ _ 0 _ _ hbz
    have HF : Hid (RunS B (w7.setCell ⟨p, 0, none⟩ (.int .i64 nx)) p (atP (psh (pop (pop m)) V) nx)) := HRZ.out.fld (m' := atP (psh (pop (pop m)) V) nx) 0 _ (fun _ _ => rfl) rfl rfl
    have HPB := HRZ.out.lt.1
    clear hbz
    go_wp2_with fail
    go_ret
    exact ⟨rfl, by first | (rw [HM.out]; exact HF.out) | (rw [HM.out]; exact fun _ => HF.out) | exact fun _ => (by rw [HM.out]; exact HF.out), HBZ.out.setCell HPB _⟩

  · have eC : (D != 0) = true := by simpa using hC
    have HNC : Hid (¬ D = 0) := hC
    clear hC h3
    go_wp2_with (go_at_call 156; refine (HBI.out _).mono ?_; rintro e w6 ⟨rfl, rfl⟩)
    go_ret
    exact ⟨rfl, by first | trivial | exact fun h => absurd h HNC.out, HB3.out⟩


set_option maxHeartbeats 3200000 in
set_option maxRecDepth 100000 in
theorem sdo_10 (B p b off n c k L1 L2 : Nat) (m : SM) (op u v nx : Int) (w : World) (hop : op = 10) (h : RunS B w p m) (hs : m.stk.length ≤ 40) (hk : m.pc = k) (hkn : k < n) (hn : n ≤ 400) (hbB : b < B) (hL1 : L1 = k + 1) (hL2 : L2 = k + 2) (h0 : w.cell? ⟨b, off + k, none⟩ = some (.int .i64 op)) (h1 : w.cell? ⟨b, off + L1, none⟩ = some (.int .i64 u)) (hn1 : L1 < n) (hnx : nx = (k : Int) + 1 + argN op) :
    Calls Try.prog 126 #[.slice (some ⟨b, off, none⟩) n c, .pointer (some ⟨p, 0, none⟩)] w fun e w' => e = .returned (.int .i64 (0)) ∧ (0 = 0 → RunS B w' p (atP m u)) ∧ Below B w w' := by
  have HA : Hid (∀ W, Calls Try.prog 113 #[.int .i64 op] W fun e w' => e = .returned (.int .i64 1) ∧ w' = W) := fun W => by
    have := l8Args_any op W
    rwa [show argN op = 1 from by rw [hop]; rfl] at this
  have hT : (op == 1) = false ∧ (op == 2) = false ∧ (op == 3) = false ∧ (op == 4) = false ∧ (op == 5) = false ∧ (op == 6) = false ∧ (op == 7) = false ∧ (op == 8) = false ∧ (op == 9) = false ∧ (op == 10) = true := by subst hop; exact ⟨rfl, rfl, rfl, rfl, rfl, rfl, rfl, rfl, rfl, rfl⟩
  rw [show argN op = 1 from by rw [hop]; rfl] at hnx
  obtain ⟨sv0, cv0, hb0, _⟩ := id h
  have c0 := (RunS.cells hb0).1
  rw [hk] at c0
  have q0 : (0 : Int) ≤ (k : Int) := by omega
  have q1 : (k : Int) < (n : Int) := by omega
  have E1 : (k : Int) + 1 = (L1 : Int) := by omega
  have E2 : (k : Int) + 2 = (L2 : Int) := by omega
  have Z1 : IntKind.i64.wrap ((k : Int) + 1) = (L1 : Int) := by rw [IntWalk.i64_in _ ⟨by omega, by omega⟩]; omega
  have Z1b : IntKind.i64.wrap (L1 : Int) = (L1 : Int) := IntWalk.i64_in _ ⟨by omega, by omega⟩
  have Z2 : IntKind.i64.wrap ((k : Int) + 2) = (L2 : Int) := by rw [IntWalk.i64_in _ ⟨by omega, by omega⟩]; omega
  have Z2b : IntKind.i64.wrap (L2 : Int) = (L2 : Int) := IntWalk.i64_in _ ⟨by omega, by omega⟩
  have Z3 : IntKind.i64.wrap ((L1 : Int) + 1) = nx := by rw [IntWalk.i64_in _ ⟨by omega, by omega⟩]; omega
  have Z3b : IntKind.i64.wrap nx = nx := IntWalk.i64_in _ ⟨by omega, by omega⟩
  have E3 : (L1 : Int) + 1 = nx := by omega
  have p0 : (0 : Int) ≤ (L1 : Int) := by omega
  have p1 : (L1 : Int) < (n : Int) := by omega
  have HR0 : Hid (RunS B w p m) := h
  have HBW : Hid (b < w.heap.size) := by have := h.lt; show b < _; omega
  clear hb0 h hop hkn hn hnx hL1 hL2 hn1
  obtain ⟨e1, e2, e3, e4, e5, e6, e7, e8, e9, e10⟩ := hT
  go_enter Try.func126, Try.ntmps126
  go_upto_region 3 with fail
  go_cut [7] from 23 (fun x W1 => x = .int .i64 nx ∧ W1 = w.drew)
  case first =>
    go_region_with (go_at_call 113; refine (HA.out _).mono ?_; rintro e w6 ⟨rfl, rfl⟩)
    all_goals
      go_wp2_with fail
      go_meet
      case rel => exact ⟨by simp [*], rfl⟩
  case rest =>
  obtain ⟨rfl, rfl⟩ := hcut
  have HR : Hid (RunS B w.drew p m) := HR0.out.heap rfl
  have HB : Hid (Below B w w.drew) := (Below.refl B w).drew
  have x1 : w.drew.cell? ⟨b, off + L1, none⟩ = some (.int .i64 u) := h1
  clear HR0 HA c0 h0 h1
  generalize w.drew = W at *
  have HRZ : Hid (RunS B W p m) := HR.out
  have HBZ : Hid (Below B w W) := HB.out
  go_upto_region 52 with fail
  obtain ⟨svz, cvz, hbz, _⟩ := id HRZ.out
  have z0 := (RunS.cells hbz).1
  have zf := frozen_of_row _ _ 0 _ _ hbz
  have HF : Hid (RunS B (W.setCell ⟨p, 0, none⟩ (.int .i64 u)) p (atP m u)) := HRZ.out.fld (m' := atP m u) 0 _ (fun _ _ => rfl) rfl rfl
  have HPB := HRZ.out.lt.1
  clear hbz
  go_wp2_with fail
  go_ret
  exact ⟨rfl, by first | exact HF.out | exact fun _ => HF.out, HBZ.out.setCell HPB _⟩

end Go.Proofs.Ytjofghelenfklaa
namespace Go.Proofs.Ytjofghelenfklaa
open Go.RowKit
set_option linter.unusedVariables false
attribute [local go_sem ↓] Go.wp_at_zero Go.wp_at_succ

set_option maxHeartbeats 3200000 in
set_option maxRecDepth 100000 in
theorem sdo_7 (B p b off n c k L1 L2 : Nat) (m : SM) (op u v nx : Int) (w : World) (hop : op = 7) (h : RunS B w p m) (hs : m.stk.length ≤ 40) (hk : m.pc = k) (hkn : k < n) (hn : n ≤ 400) (hbB : b < B) (hL1 : L1 = k + 1) (hL2 : L2 = k + 2) (h0 : w.cell? ⟨b, off + k, none⟩ = some (.int .i64 op)) (hnx : nx = (k : Int) + 1 + argN op) (hf : 0 < m.stk.length) :
    Calls Try.prog 126 #[.slice (some ⟨b, off, none⟩) n c, .pointer (some ⟨p, 0, none⟩)] w fun e w' => e = .returned (.int .i64 (0)) ∧ (0 = 0 → RunS B w' p (atP (psh (pop m) (wd (-(tp m 0)))) nx)) ∧ Below B w w' := by
  have HA : Hid (∀ W, Calls Try.prog 113 #[.int .i64 op] W fun e w' => e = .returned (.int .i64 0) ∧ w' = W) := fun W => by
    have := l8Args_any op W
    rwa [show argN op = 0 from by rw [hop]; rfl] at this
  have hT : (op == 1) = false ∧ (op == 2) = false ∧ (op == 3) = false ∧ (op == 4) = false ∧ (op == 5) = false ∧ (op == 6) = false ∧ (op == 7) = true := by subst hop; exact ⟨rfl, rfl, rfl, rfl, rfl, rfl, rfl⟩
  rw [show argN op = 0 from by rw [hop]; rfl] at hnx
  obtain ⟨sv0, cv0, hb0, _⟩ := id h
  have c0 := (RunS.cells hb0).1
  rw [hk] at c0
  have q0 : (0 : Int) ≤ (k : Int) := by omega
  have q1 : (k : Int) < (n : Int) := by omega
  have E1 : (k : Int) + 1 = (L1 : Int) := by omega
  have E2 : (k : Int) + 2 = (L2 : Int) := by omega
  have Z1 : IntKind.i64.wrap ((k : Int) + 1) = (L1 : Int) := by rw [IntWalk.i64_in _ ⟨by omega, by omega⟩]; omega
  have Z1b : IntKind.i64.wrap (L1 : Int) = (L1 : Int) := IntWalk.i64_in _ ⟨by omega, by omega⟩
  have Z2 : IntKind.i64.wrap ((k : Int) + 2) = (L2 : Int) := by rw [IntWalk.i64_in _ ⟨by omega, by omega⟩]; omega
  have Z2b : IntKind.i64.wrap (L2 : Int) = (L2 : Int) := IntWalk.i64_in _ ⟨by omega, by omega⟩
  have Z3 : IntKind.i64.wrap ((L1 : Int) + 0) = nx := by rw [IntWalk.i64_in _ ⟨by omega, by omega⟩]; omega
  have Z3b : IntKind.i64.wrap nx = nx := IntWalk.i64_in _ ⟨by omega, by omega⟩
  have E3 : (L1 : Int) = nx := by omega
  have HR0 : Hid (RunS B w p m) := h
  have HBW : Hid (b < w.heap.size) := by have := h.lt; show b < _; omega
  clear hb0 h hop hkn hn hnx hL1 hL2
  obtain ⟨e1, e2, e3, e4, e5, e6, e7⟩ := hT
  go_enter Try.func126, Try.ntmps126
  go_upto_region 3 with fail
  go_cut [7] from 23 (fun x W1 => x = .int .i64 nx ∧ W1 = w.drew)
  case first =>
    go_region_with (go_at_call 113; refine (HA.out _).mono ?_; rintro e w6 ⟨rfl, rfl⟩)
    all_goals
      go_wp2_with fail
      go_meet
      case rel => exact ⟨by simp [*], rfl⟩
  case rest =>
  obtain ⟨rfl, rfl⟩ := hcut
  have HR : Hid (RunS B w.drew p m) := HR0.out.heap rfl
  have HB : Hid (Below B w w.drew) := (Below.refl B w).drew
  clear HR0 HA c0 h0
  generalize w.drew = W at *
  have h39 : (pop m).stk.length ≤ 40 := by rw [pop_len]; omega
  go_upto_region 36 with (go_at_call 154; refine (l8Pop_any B p m _ HR.out hf hs).mono ?_; rintro e w3 ⟨rfl, hr3, hb3⟩)
  go_upto_region 52 with (first | (go_at_call 148; refine (specNegOf _ _).mono ?_; rintro e w6 ⟨rfl, rfl⟩) | (go_at_call 153; refine (l8Push_any B p (pop m) (wd (-(tp m 0))) _ hr3 h39).mono ?_; rintro e w7 ⟨rfl, hr, hb⟩))
  have HRZ : Hid (RunS B w7 p (psh (pop m) (wd (-(tp m 0))))) := hr
  have HBZ : Hid (Below B w w7) := (HB.out.trans hb3).trans hb
  obtain ⟨svz, cvz, hbz, _⟩ := id HRZ.out
  have z0 := (RunS.cells hbz).1
  have zf := frozen_of_row _ _ 0 _ _ hbz
  have HF : Hid (RunS B (w7.setCell ⟨p, 0, none⟩ (.int .i64 nx)) p (atP (psh (pop m) (wd (-(tp m 0)))) nx)) := HRZ.out.fld (m' := atP (psh (pop m) (wd (-(tp m 0)))) nx) 0 _ (fun _ _ => rfl) rfl rfl
  have HPB := HRZ.out.lt.1
  clear hbz
  go_wp2_with fail
  go_ret
  exact ⟨rfl, by first | exact HF.out | exact fun _ => HF.out, HBZ.out.setCell HPB _⟩


set_option maxHeartbeats 3200000 in
set_option maxRecDepth 100000 in
theorem sdo_8 (B p b off n c k L1 L2 : Nat) (m : SM) (op u v nx : Int) (w : World) (hop : op = 8) (h : RunS B w p m) (hs : m.stk.length ≤ 40) (hk : m.pc = k) (hkn : k < n) (hn : n ≤ 400) (hbB : b < B) (hL1 : L1 = k + 1) (hL2 : L2 = k + 2) (h0 : w.cell? ⟨b, off + k, none⟩ = some (.int .i64 op)) (hnx : nx = (k : Int) + 1 + argN op) (hf : 0 < m.stk.length) :
    Calls Try.prog 126 #[.slice (some ⟨b, off, none⟩) n c, .pointer (some ⟨p, 0, none⟩)] w fun e w' => e = .returned (.int .i64 (0)) ∧ (0 = 0 → RunS B w' p (atP (psh (pop m) (nt (tp m 0))) nx)) ∧ Below B w w' := by
  have HA : Hid (∀ W, Calls Try.prog 113 #[.int .i64 op] W fun e w' => e = .returned (.int .i64 0) ∧ w' = W) := fun W => by
    have := l8Args_any op W
    rwa [show argN op = 0 from by rw [hop]; rfl] at this
  have hT : (op == 1) = false ∧ (op == 2) = false ∧ (op == 3) = false ∧ (op == 4) = false ∧ (op == 5) = false ∧ (op == 6) = false ∧ (op == 7) = false ∧ (op == 8) = true := by subst hop; exact ⟨rfl, rfl, rfl, rfl, rfl, rfl, rfl, rfl⟩
  rw [show argN op = 0 from by rw [hop]; rfl] at hnx
  obtain ⟨sv0, cv0, hb0, _⟩ := id h
  have c0 := (RunS.cells hb0).1
  rw [hk] at c0
  have q0 : (0 : Int) ≤ (k : Int) := by omega
  have q1 : (k : Int) < (n : Int) := by omega
  have E1 : (k : Int) + 1 = (L1 : Int) := by omega
  have E2 : (k : Int) + 2 = (L2 : Int) := by omega
  have Z1 : IntKind.i64.wrap ((k : Int) + 1) = (L1 : Int) := by rw [IntWalk.i64_in _ ⟨by omega, by omega⟩]; omega
  have Z1b : IntKind.i64.wrap (L1 : Int) = (L1 : Int) := IntWalk.i64_in _ ⟨by omega, by omega⟩
  have Z2 : IntKind.i64.wrap ((k : Int) + 2) = (L2 : Int) := by rw [IntWalk.i64_in _ ⟨by omega, by omega⟩]; omega
  have Z2b : IntKind.i64.wrap (L2 : Int) = (L2 : Int) := IntWalk.i64_in _ ⟨by omega, by omega⟩
  have Z3 : IntKind.i64.wrap ((L1 : Int) + 0) = nx := by rw [IntWalk.i64_in _ ⟨by omega, by omega⟩]; omega
  have Z3b : IntKind.i64.wrap nx = nx := IntWalk.i64_in _ ⟨by omega, by omega⟩
  have E3 : (L1 : Int) = nx := by omega
  have HR0 : Hid (RunS B w p m) := h
  have HBW : Hid (b < w.heap.size) := by have := h.lt; show b < _; omega
  clear hb0 h hop hkn hn hnx hL1 hL2
  obtain ⟨e1, e2, e3, e4, e5, e6, e7, e8⟩ := hT
  go_enter Try.func126, Try.ntmps126
  go_upto_region 3 with fail
  go_cut [7] from 23 (fun x W1 => x = .int .i64 nx ∧ W1 = w.drew)
  case first =>
    go_region_with (go_at_call 113; refine (HA.out _).mono ?_; rintro e w6 ⟨rfl, rfl⟩)
    all_goals
      go_wp2_with fail
      go_meet
      case rel => exact ⟨by simp [*], rfl⟩
  case rest =>
  obtain ⟨rfl, rfl⟩ := hcut
  have HR : Hid (RunS B w.drew p m) := HR0.out.heap rfl
  have HB : Hid (Below B w w.drew) := (Below.refl B w).drew
  clear HR0 HA c0 h0
  generalize w.drew = W at *
  have h39 : (pop m).stk.length ≤ 40 := by rw [pop_len]; omega
  go_upto_region 39 with (go_at_call 154; refine (l8Pop_any B p m _ HR.out hf hs).mono ?_; rintro e w3 ⟨rfl, hr3, hb3⟩)
  go_upto_region 52 with (first | (go_at_call 149; refine (specNotOf _ _).mono ?_; rintro e w6 ⟨rfl, rfl⟩) | (go_at_call 153; refine (l8Push_any B p (pop m) (nt (tp m 0)) _ hr3 h39).mono ?_; rintro e w7 ⟨rfl, hr, hb⟩))
  have HRZ : Hid (RunS B w7 p (psh (pop m) (nt (tp m 0)))) := hr
  have HBZ : Hid (Below B w w7) := (HB.out.trans hb3).trans hb
  obtain ⟨svz, cvz, hbz, _⟩ := id HRZ.out
  have z0 := (RunS.cells hbz).1
  have zf := frozen_of_row _ _ 0 _ _ hbz
  have HF : Hid (RunS B (w7.setCell ⟨p, 0, none⟩ (.int .i64 nx)) p (atP (psh (pop m) (nt (tp m 0))) nx)) := HRZ.out.fld (m' := atP (psh (pop m) (nt (tp m 0))) nx) 0 _ (fun _ _ => rfl) rfl rfl
  have HPB := HRZ.out.lt.1
  clear hbz
  go_wp2_with fail
  go_ret
  exact ⟨rfl, by first | exact HF.out | exact fun _ => HF.out, HBZ.out.setCell HPB _⟩


set_option maxHeartbeats 3200000 in
set_option maxRecDepth 100000 in
theorem sdo_9 (B p b off n c k L1 L2 : Nat) (m : SM) (op u v nx : Int) (w : World) (hop : op = 9) (h : RunS B w p m) (hs : m.stk.length ≤ 40) (hk : m.pc = k) (hkn : k < n) (hn : n ≤ 400) (hbB : b < B) (hL1 : L1 = k + 1) (hL2 : L2 = k + 2) (h0 : w.cell? ⟨b, off + k, none⟩ = some (.int .i64 op)) (hnx : nx = (k : Int) + 1 + argN op) (hf : 0 < m.stk.length) :
    Calls Try.prog 126 #[.slice (some ⟨b, off, none⟩) n c, .pointer (some ⟨p, 0, none⟩)] w fun e w' => e = .returned (.int .i64 (0)) ∧ (0 = 0 → RunS B w' p (atP (psh (pop m) (lst (tp m 0))) nx)) ∧ Below B w w' := by
  have HA : Hid (∀ W, Calls Try.prog 113 #[.int .i64 op] W fun e w' => e = .returned (.int .i64 0) ∧ w' = W) := fun W => by
    have := l8Args_any op W
    rwa [show argN op = 0 from by rw [hop]; rfl] at this
  have hT : (op == 1) = false ∧ (op == 2) = false ∧ (op == 3) = false ∧ (op == 4) = false ∧ (op == 5) = false ∧ (op == 6) = false ∧ (op == 7) = false ∧ (op == 8) = false ∧ (op == 9) = true := by subst hop; exact ⟨rfl, rfl, rfl, rfl, rfl, rfl, rfl, rfl, rfl⟩
  rw [show argN op = 0 from by rw [hop]; rfl] at hnx
  obtain ⟨sv0, cv0, hb0, _⟩ := id h
  have c0 := (RunS.cells hb0).1
  rw [hk] at c0
  have q0 : (0 : Int) ≤ (k : Int) := by omega
  have q1 : (k : Int) < (n : Int) := by omega
  have E1 : (k : Int) + 1 = (L1 : Int) := by omega
  have E2 : (k : Int) + 2 = (L2 : Int) := by omega
  have Z1 : IntKind.i64.wrap ((k : Int) + 1) = (L1 : Int) := by rw [IntWalk.i64_in _ ⟨by omega, by omega⟩]; omega
  have Z1b : IntKind.i64.wrap (L1 : Int) = (L1 : Int) := IntWalk.i64_in _ ⟨by omega, by omega⟩
  have Z2 : IntKind.i64.wrap ((k : Int) + 2) = (L2 : Int) := by rw [IntWalk.i64_in _ ⟨by omega, by omega⟩]; omega
  have Z2b : IntKind.i64.wrap (L2 : Int) = (L2 : Int) := IntWalk.i64_in _ ⟨by omega, by omega⟩
  have Z3 : IntKind.i64.wrap ((L1 : Int) + 0) = nx := by rw [IntWalk.i64_in _ ⟨by omega, by omega⟩]; omega
  have Z3b : IntKind.i64.wrap nx = nx := IntWalk.i64_in _ ⟨by omega, by omega⟩
  have E3 : (L1 : Int) = nx := by omega
  have HR0 : Hid (RunS B w p m) := h
  have HBW : Hid (b < w.heap.size) := by have := h.lt; show b < _; omega
  clear hb0 h hop hkn hn hnx hL1 hL2
  obtain ⟨e1, e2, e3, e4, e5, e6, e7, e8, e9⟩ := hT
  go_enter Try.func126, Try.ntmps126
  go_upto_region 3 with fail
  go_cut [7] from 23 (fun x W1 => x = .int .i64 nx ∧ W1 = w.drew)
  case first =>
    go_region_with (go_at_call 113; refine (HA.out _).mono ?_; rintro e w6 ⟨rfl, rfl⟩)
    all_goals
      go_wp2_with fail
      go_meet
      case rel => exact ⟨by simp [*], rfl⟩
  case rest =>
  obtain ⟨rfl, rfl⟩ := hcut
  have HR : Hid (RunS B w.drew p m) := HR0.out.heap rfl
  have HB : Hid (Below B w w.drew) := (Below.refl B w).drew
  clear HR0 HA c0 h0
  generalize w.drew = W at *
  have h39 : (pop m).stk.length ≤ 40 := by rw [pop_len]; omega
  go_upto_region 42 with (go_at_call 154; refine (l8Pop_any B p m _ HR.out hf hs).mono ?_; rintro e w3 ⟨rfl, hr3, hb3⟩)
  go_upto_region 52 with (first | (go_at_call 157; refine (sLeast_any _ _).mono ?_; rintro e w6 ⟨rfl, rfl⟩) | (go_at_call 153; refine (l8Push_any B p (pop m) (lst (tp m 0)) _ hr3 h39).mono ?_; rintro e w7 ⟨rfl, hr, hb⟩))
  have HRZ : Hid (RunS B w7 p (psh (pop m) (lst (tp m 0)))) := hr
  have HBZ : Hid (Below B w w7) := (HB.out.trans hb3).trans hb
  obtain ⟨svz, cvz, hbz, _⟩ := id HRZ.out
  have z0 := (RunS.cells hbz).1
  have zf := frozen_of_row _ _ 0 _ _ hbz
  have HF : Hid (RunS B (w7.setCell ⟨p, 0, none⟩ (.int .i64 nx)) p (atP (psh (pop m) (lst (tp m 0))) nx)) := HRZ.out.fld (m' := atP (psh (pop m) (lst (tp m 0))) nx) 0 _ (fun _ _ => rfl) rfl rfl
  have HPB := HRZ.out.lt.1
  clear hbz
  go_wp2_with fail
  go_ret
  exact ⟨rfl, by first | exact HF.out | exact fun _ => HF.out, HBZ.out.setCell HPB _⟩

end Go.Proofs.Ytjofghelenfklaa
namespace Go.Proofs.Ytjofghelenfklaa
open Go.RowKit
set_option linter.unusedVariables false
attribute [local go_sem ↓] Go.wp_at_zero Go.wp_at_succ

set_option maxHeartbeats 3200000 in
set_option maxRecDepth 100000 in
theorem sdo_11 (B p b off n c k L1 L2 : Nat) (m : SM) (op u v nx : Int) (w : World) (hop : op = 11) (h : RunS B w p m) (hs : m.stk.length ≤ 40) (hk : m.pc = k) (hkn : k < n) (hn : n ≤ 400) (hbB : b < B) (hL1 : L1 = k + 1) (hL2 : L2 = k + 2) (h0 : w.cell? ⟨b, off + k, none⟩ = some (.int .i64 op)) (h1 : w.cell? ⟨b, off + L1, none⟩ = some (.int .i64 u)) (hn1 : L1 < n) (hnx : nx = (k : Int) + 1 + argN op) (hf : 0 < m.stk.length) (M : SM) (hM : M = atP (pop m) (if tp m 0 = 0 then u else nx)) :
    Calls Try.prog 126 #[.slice (some ⟨b, off, none⟩) n c, .pointer (some ⟨p, 0, none⟩)] w fun e w' => e = .returned (.int .i64 (0)) ∧ (0 = 0 → RunS B w' p (M)) ∧ Below B w w' := by
  have HA : Hid (∀ W, Calls Try.prog 113 #[.int .i64 op] W fun e w' => e = .returned (.int .i64 1) ∧ w' = W) := fun W => by
    have := l8Args_any op W
    rwa [show argN op = 1 from by rw [hop]; rfl] at this
  have hT : (op == 1) = false ∧ (op == 2) = false ∧ (op == 3) = false ∧ (op == 4) = false ∧ (op == 5) = false ∧ (op == 6) = false ∧ (op == 7) = false ∧ (op == 8) = false ∧ (op == 9) = false ∧ (op == 10) = false ∧ (op == 11) = true := by subst hop; exact ⟨rfl, rfl, rfl, rfl, rfl, rfl, rfl, rfl, rfl, rfl, rfl⟩
  rw [show argN op = 1 from by rw [hop]; rfl] at hnx
  obtain ⟨sv0, cv0, hb0, _⟩ := id h
  have c0 := (RunS.cells hb0).1
  rw [hk] at c0
  have q0 : (0 : Int) ≤ (k : Int) := by omega
  have q1 : (k : Int) < (n : Int) := by omega
  have E1 : (k : Int) + 1 = (L1 : Int) := by omega
  have E2 : (k : Int) + 2 = (L2 : Int) := by omega
  have Z1 : IntKind.i64.wrap ((k : Int) + 1) = (L1 : Int) := by rw [IntWalk.i64_in _ ⟨by omega, by omega⟩]; omega
  have Z1b : IntKind.i64.wrap (L1 : Int) = (L1 : Int) := IntWalk.i64_in _ ⟨by omega, by omega⟩
  have Z2 : IntKind.i64.wrap ((k : Int) + 2) = (L2 : Int) := by rw [IntWalk.i64_in _ ⟨by omega, by omega⟩]; omega
  have Z2b : IntKind.i64.wrap (L2 : Int) = (L2 : Int) := IntWalk.i64_in _ ⟨by omega, by omega⟩
  have Z3 : IntKind.i64.wrap ((L1 : Int) + 1) = nx := by rw [IntWalk.i64_in _ ⟨by omega, by omega⟩]; omega
  have Z3b : IntKind.i64.wrap nx = nx := IntWalk.i64_in _ ⟨by omega, by omega⟩
  have E3 : (L1 : Int) + 1 = nx := by omega
  have p0 : (0 : Int) ≤ (L1 : Int) := by omega
  have p1 : (L1 : Int) < (n : Int) := by omega
  have HR0 : Hid (RunS B w p m) := h
  have HBW : Hid (b < w.heap.size) := by have := h.lt; show b < _; omega
  clear hb0 h hop hkn hn hnx hL1 hL2 hn1
  obtain ⟨e1, e2, e3, e4, e5, e6, e7, e8, e9, e10, e11⟩ := hT
  go_enter Try.func126, Try.ntmps126
  go_upto_region 3 with fail
  go_cut [7] from 23 (fun x W1 => x = .int .i64 nx ∧ W1 = w.drew)
  case first =>
    go_region_with (go_at_call 113; refine (HA.out _).mono ?_; rintro e w6 ⟨rfl, rfl⟩)
    all_goals
      go_wp2_with fail
      go_meet
      case rel => exact ⟨by simp [*], rfl⟩
  case rest =>
  obtain ⟨rfl, rfl⟩ := hcut
  have HR : Hid (RunS B w.drew p m) := HR0.out.heap rfl
  have HB : Hid (Below B w w.drew) := (Below.refl B w).drew
  have x1 : w.drew.cell? ⟨b, off + L1, none⟩ = some (.int .i64 u) := h1
  clear HR0 HA c0 h0 h1
  generalize w.drew = W at *
  go_upto_if 206 with (go_at_call 154; refine (l8Pop_any B p m _ HR.out hf hs).mono ?_; rintro e w3 ⟨rfl, hr, hb⟩)
  have HRZ : Hid (RunS B w3 p (pop m)) := hr
  have yu : w3.cell? ⟨b, off + L1, none⟩ = some (.int .i64 u) := (hb.cell (p := ⟨b, off + L1, none⟩) hbB).trans x1
  have HBZ : Hid (Below B w w3) := HB.out.trans hb
  clear hr hb HR HB
  by_cases hz : tp m 0 = 0
  · have HM : Hid (M = atP (pop m) u) := by unfold Hid; rw [hM, if_pos hz]
    have e0 : (tp m 0 == 0) = true := by rw [hz]; rfl
    clear hM hz
    go_upto_region 52 with fail
    obtain ⟨svz, cvz, hbz, _⟩ := id HRZ.out
    have z0 := (RunS.cells hbz).1
    have zf := frozen_of_row _ _ 0 _ _ hbz
    have HF : Hid (RunS B (w3.setCell ⟨p, 0, none⟩ (.int .i64 u)) p (atP (pop m) u)) := HRZ.out.fld (m' := atP (pop m) u) 0 _ (fun _ _ => rfl) rfl rfl
    have HPB := HRZ.out.lt.1
    clear hbz
    go_wp2_with fail
    go_ret
    exact ⟨rfl, by first | (rw [HM.out]; exact HF.out) | (rw [HM.out]; exact fun _ => HF.out) | exact fun _ => (by rw [HM.out]; exact HF.out), HBZ.out.setCell HPB _⟩

  · have HM : Hid (M = atP (pop m) nx) := by unfold Hid; rw [hM, if_neg hz]
    have e0 : (tp m 0 == 0) = false := by simpa using hz
    clear hM hz
    go_upto_region 52 with fail
    obtain ⟨svz, cvz, hbz, _⟩ := id HRZ.out
    have z0 := (RunS.cells hbz).1
    have zf := frozen_of_row _ _ 0 _ _ hbz
    have HF : Hid (RunS B (w3.setCell ⟨p, 0, none⟩ (.int .i64 nx)) p (atP (pop m) nx)) := HRZ.out.fld (m' := atP (pop m) nx) 0 _ (fun _ _ => rfl) rfl rfl
    have HPB := HRZ.out.lt.1
    clear hbz
    go_wp2_with fail
    go_ret
    exact ⟨rfl, by first | (rw [HM.out]; exact HF.out) | (rw [HM.out]; exact fun _ => HF.out) | exact fun _ => (by rw [HM.out]; exact HF.out), HBZ.out.setCell HPB _⟩


set_option maxHeartbeats 3200000 in
set_option maxRecDepth 100000 in
theorem sdo_12 (B p b off n c k L1 L2 : Nat) (m : SM) (op u v nx : Int) (w : World) (hop : op = 12) (h : RunS B w p m) (hs : m.stk.length ≤ 40) (hk : m.pc = k) (hkn : k < n) (hn : n ≤ 400) (hbB : b < B) (hL1 : L1 = k + 1) (hL2 : L2 = k + 2) (h0 : w.cell? ⟨b, off + k, none⟩ = some (.int .i64 op)) (h1 : w.cell? ⟨b, off + L1, none⟩ = some (.int .i64 u)) (hn1 : L1 < n) (hnx : nx = (k : Int) + 1 + argN op) :
    Calls Try.prog 126 #[.slice (some ⟨b, off, none⟩) n c, .pointer (some ⟨p, 0, none⟩)] w fun e w' => e = .returned (.int .i64 (0)) ∧ (0 = 0 → RunS B w' p (atP { m with sig := sgn m.sig u } nx)) ∧ Below B w w' := by
  have HA : Hid (∀ W, Calls Try.prog 113 #[.int .i64 op] W fun e w' => e = .returned (.int .i64 1) ∧ w' = W) := fun W => by
    have := l8Args_any op W
    rwa [show argN op = 1 from by rw [hop]; rfl] at this
  have hT : (op == 1) = false ∧ (op == 2) = false ∧ (op == 3) = false ∧ (op == 4) = false ∧ (op == 5) = false ∧ (op == 6) = false ∧ (op == 7) = false ∧ (op == 8) = false ∧ (op == 9) = false ∧ (op == 10) = false ∧ (op == 11) = false ∧ (op == 12) = true := by subst hop; exact ⟨rfl, rfl, rfl, rfl, rfl, rfl, rfl, rfl, rfl, rfl, rfl, rfl⟩
  rw [show argN op = 1 from by rw [hop]; rfl] at hnx
  obtain ⟨sv0, cv0, hb0, _⟩ := id h
  have c0 := (RunS.cells hb0).1
  rw [hk] at c0
  have q0 : (0 : Int) ≤ (k : Int) := by omega
  have q1 : (k : Int) < (n : Int) := by omega
  have E1 : (k : Int) + 1 = (L1 : Int) := by omega
  have E2 : (k : Int) + 2 = (L2 : Int) := by omega
  have Z1 : IntKind.i64.wrap ((k : Int) + 1) = (L1 : Int) := by rw [IntWalk.i64_in _ ⟨by omega, by omega⟩]; omega
  have Z1b : IntKind.i64.wrap (L1 : Int) = (L1 : Int) := IntWalk.i64_in _ ⟨by omega, by omega⟩
  have Z2 : IntKind.i64.wrap ((k : Int) + 2) = (L2 : Int) := by rw [IntWalk.i64_in _ ⟨by omega, by omega⟩]; omega
  have Z2b : IntKind.i64.wrap (L2 : Int) = (L2 : Int) := IntWalk.i64_in _ ⟨by omega, by omega⟩
  have Z3 : IntKind.i64.wrap ((L1 : Int) + 1) = nx := by rw [IntWalk.i64_in _ ⟨by omega, by omega⟩]; omega
  have Z3b : IntKind.i64.wrap nx = nx := IntWalk.i64_in _ ⟨by omega, by omega⟩
  have E3 : (L1 : Int) + 1 = nx := by omega
  have p0 : (0 : Int) ≤ (L1 : Int) := by omega
  have p1 : (L1 : Int) < (n : Int) := by omega
  have HR0 : Hid (RunS B w p m) := h
  have HBW : Hid (b < w.heap.size) := by have := h.lt; show b < _; omega
  clear hb0 h hop hkn hn hnx hL1 hL2 hn1
  obtain ⟨e1, e2, e3, e4, e5, e6, e7, e8, e9, e10, e11, e12⟩ := hT
  go_enter Try.func126, Try.ntmps126
  go_upto_region 3 with fail
  go_cut [7] from 23 (fun x W1 => x = .int .i64 nx ∧ W1 = w.drew)
  case first =>
    go_region_with (go_at_call 113; refine (HA.out _).mono ?_; rintro e w6 ⟨rfl, rfl⟩)
    all_goals
      go_wp2_with fail
      go_meet
      case rel => exact ⟨by simp [*], rfl⟩
  case rest =>
  obtain ⟨rfl, rfl⟩ := hcut
  have HR : Hid (RunS B w.drew p m) := HR0.out.heap rfl
  have HB : Hid (Below B w w.drew) := (Below.refl B w).drew
  have x1 : w.drew.cell? ⟨b, off + L1, none⟩ = some (.int .i64 u) := h1
  clear HR0 HA c0 h0 h1
  generalize w.drew = W at *
  go_upto_region 49 with fail
  have HFS : Hid (∀ W2 : World, W2.heap = W.heap → RunS B (W2.setCell ⟨p, 3, none⟩ (.int .i64 (sgn m.sig u))) p { m with sig := sgn m.sig u }) := fun W2 e => (HR.out.heap e).fld (m' := { m with sig := sgn m.sig u }) 3 _ (fun _ _ => rfl) rfl rfl
  obtain ⟨sv, cv, hbl, _⟩ := id HR.out
  have y3 := (RunS.cells hbl).2.2.2.1
  have yf := frozen_of_row _ _ 3 _ _ hbl
  have HPB0 := HR.out.lt.1
  clear hbl
  have HRZ0 : Hid (RunS B (W.setCell ⟨p, 3, none⟩ (.int .i64 (sgn m.sig u))).drew p { m with sig := sgn m.sig u }) := (HFS.out W rfl).heap rfl
  have HBZ0 : Hid (Below B w (W.setCell ⟨p, 3, none⟩ (.int .i64 (sgn m.sig u))).drew) := (HB.out.setCell HPB0 _).drew
  go_region_with (go_at_call 150; refine (specSignOf _ _ _).mono ?_; rintro e w3 ⟨rfl, rfl⟩)
  all_goals
    clear HFS y3 yf HR HB
    generalize (W.setCell ⟨p, 3, none⟩ (.int .i64 (sgn m.sig u))).drew = wc at *
    have HRZ : Hid (RunS B wc p { m with sig := sgn m.sig u }) := HRZ0
    have HBZ : Hid (Below B w wc) := HBZ0
    clear HRZ0 HBZ0
    go_upto_region 52 with fail
    obtain ⟨svz, cvz, hbz, _⟩ := id HRZ.out
    have z0 := (RunS.cells hbz).1
    have zf := frozen_of_row _ _ 0 _ _ hbz
    have HF : Hid (RunS B (wc.setCell ⟨p, 0, none⟩ (.int .i64 nx)) p (atP { m with sig := sgn m.sig u } nx)) := HRZ.out.fld (m' := atP { m with sig := sgn m.sig u } nx) 0 _ (fun _ _ => rfl) rfl rfl
    have HPB := HRZ.out.lt.1
    clear hbz
    go_wp2_with fail
    go_ret
    exact ⟨rfl, by first | exact HF.out | exact fun _ => HF.out, HBZ.out.setCell HPB _⟩


set_option maxHeartbeats 3200000 in
set_option maxRecDepth 100000 in
theorem sdo_13 (B p b off n c k L1 L2 : Nat) (m : SM) (op u v nx : Int) (w : World) (hop : op = 13) (h : RunS B w p m) (hs : m.stk.length ≤ 40) (hk : m.pc = k) (hkn : k < n) (hn : n ≤ 400) (hbB : b < B) (hL1 : L1 = k + 1) (hL2 : L2 = k + 2) (h0 : w.cell? ⟨b, off + k, none⟩ = some (.int .i64 op)) (hnx : nx = (k : Int) + 1 + argN op) :
    Calls Try.prog 126 #[.slice (some ⟨b, off, none⟩) n c, .pointer (some ⟨p, 0, none⟩)] w fun e w' => e = .returned (.int .i64 (0)) ∧ (0 = 0 → RunS B w' p (atP { m with done := true } nx)) ∧ Below B w w' := by
  have HA : Hid (∀ W, Calls Try.prog 113 #[.int .i64 op] W fun e w' => e = .returned (.int .i64 0) ∧ w' = W) := fun W => by
    have := l8Args_any op W
    rwa [show argN op = 0 from by rw [hop]; rfl] at this
  have hT : (op == 1) = false ∧ (op == 2) = false ∧ (op == 3) = false ∧ (op == 4) = false ∧ (op == 5) = false ∧ (op == 6) = false ∧ (op == 7) = false ∧ (op == 8) = false ∧ (op == 9) = false ∧ (op == 10) = false ∧ (op == 11) = false ∧ (op == 12) = false ∧ (op == 13) = true := by subst hop; exact ⟨rfl, rfl, rfl, rfl, rfl, rfl, rfl, rfl, rfl, rfl, rfl, rfl, rfl⟩
  rw [show argN op = 0 from by rw [hop]; rfl] at hnx
  obtain ⟨sv0, cv0, hb0, _⟩ := id h
  have c0 := (RunS.cells hb0).1
  rw [hk] at c0
  have q0 : (0 : Int) ≤ (k : Int) := by omega
  have q1 : (k : Int) < (n : Int) := by omega
  have E1 : (k : Int) + 1 = (L1 : Int) := by omega
  have E2 : (k : Int) + 2 = (L2 : Int) := by omega
  have Z1 : IntKind.i64.wrap ((k : Int) + 1) = (L1 : Int) := by rw [IntWalk.i64_in _ ⟨by omega, by omega⟩]; omega
  have Z1b : IntKind.i64.wrap (L1 : Int) = (L1 : Int) := IntWalk.i64_in _ ⟨by omega, by omega⟩
  have Z2 : IntKind.i64.wrap ((k : Int) + 2) = (L2 : Int) := by rw [IntWalk.i64_in _ ⟨by omega, by omega⟩]; omega
  have Z2b : IntKind.i64.wrap (L2 : Int) = (L2 : Int) := IntWalk.i64_in _ ⟨by omega, by omega⟩
  have Z3 : IntKind.i64.wrap ((L1 : Int) + 0) = nx := by rw [IntWalk.i64_in _ ⟨by omega, by omega⟩]; omega
  have Z3b : IntKind.i64.wrap nx = nx := IntWalk.i64_in _ ⟨by omega, by omega⟩
  have E3 : (L1 : Int) = nx := by omega
  have HR0 : Hid (RunS B w p m) := h
  have HBW : Hid (b < w.heap.size) := by have := h.lt; show b < _; omega
  clear hb0 h hop hkn hn hnx hL1 hL2
  obtain ⟨e1, e2, e3, e4, e5, e6, e7, e8, e9, e10, e11, e12, e13⟩ := hT
  go_enter Try.func126, Try.ntmps126
  go_upto_region 3 with fail
  go_cut [7] from 23 (fun x W1 => x = .int .i64 nx ∧ W1 = w.drew)
  case first =>
    go_region_with (go_at_call 113; refine (HA.out _).mono ?_; rintro e w6 ⟨rfl, rfl⟩)
    all_goals
      go_wp2_with fail
      go_meet
      case rel => exact ⟨by simp [*], rfl⟩
  case rest =>
  obtain ⟨rfl, rfl⟩ := hcut
  have HR : Hid (RunS B w.drew p m) := HR0.out.heap rfl
  have HB : Hid (Below B w w.drew) := (Below.refl B w).drew
  clear HR0 HA c0 h0
  generalize w.drew = W at *
  obtain ⟨sv, cv, hbl, _⟩ := id HR.out
  have y6 := (RunS.cells hbl).2.2.2.2.2.2
  have yf := frozen_of_row _ _ 6 _ _ hbl
  have HRZ0 : Hid (RunS B (W.setCell ⟨p, 6, none⟩ (.bool true)) p { m with done := true }) := HR.out.fld (m' := { m with done := true }) 6 _ (fun _ _ => rfl) rfl rfl
  have HBZ0 : Hid (Below B w (W.setCell ⟨p, 6, none⟩ (.bool true))) := HB.out.setCell HR.out.lt.1 _
  clear hbl
  go_upto_region 52 with fail
  clear y6 yf
  generalize W.setCell ⟨p, 6, none⟩ (.bool true) = w5 at *
  have HRZ : Hid (RunS B w5 p { m with done := true }) := HRZ0
  have HBZ : Hid (Below B w w5) := HBZ0
  clear HRZ0 HBZ0 HR HB
  obtain ⟨svz, cvz, hbz, _⟩ := id HRZ.out
  have z0 := (RunS.cells hbz).1
  have zf := frozen_of_row _ _ 0 _ _ hbz
  have HF : Hid (RunS B (w5.setCell ⟨p, 0, none⟩ (.int .i64 nx)) p (atP { m with done := true } nx)) := HRZ.out.fld (m' := atP { m with done := true } nx) 0 _ (fun _ _ => rfl) rfl rfl
  have HPB := HRZ.out.lt.1
  clear hbz
  go_wp2_with fail
  go_ret
  exact ⟨rfl, by first | exact HF.out | exact fun _ => HF.out, HBZ.out.setCell HPB _⟩

end Go.Proofs.Ytjofghelenfklaa
namespace Go.Proofs.Ytjofghelenfklaa
open Go.RowKit
set_option linter.unusedVariables false

theorem rdy_no {zs : List Int} {k : Nat} {m : SM} (hk : m.pc = k) (h : rdyL zs k m = false) (hw : ∀ i, 0 ≤ zs.getD i 0) : stepL zs m = trp (usedM m) 1 := by
  unfold rdyL at h
  unfold stepL
  rw [hk, Int.toNat_natCast]
  by_cases h1 : readyB zs k = false
  · rw [if_pos h1]; rfl
  rw [if_neg h1]
  rw [Bool.not_eq_false] at h1
  rw [h1, Bool.true_and] at h
  by_cases h2 : fitsB m.stk.length (zs.getD k 0) = false
  · rw [if_pos h2]; rfl
  rw [if_neg h2]
  rw [Bool.not_eq_false] at h2
  rw [h2, Bool.true_and] at h
  by_cases h3 : zs.getD k 0 = 2 ∨ zs.getD k 0 = 3
  · rw [if_pos h3] at h
    have e : toldC (zs.getD k 0) (zs.getD (k + 1) 0) (zs.getD (k + 2) 0) m = 1 := by
      unfold toldC cellC
      rw [if_pos h3, if_neg (of_decide_eq_false h)]
    rw [if_pos (by rw [e]; simp), e]; rfl
  · rw [if_neg h3] at h; cases h
theorem rdy_yes {zs : List Int} {k : Nat} {m : SM} (hk : m.pc = k) (h : rdyL zs k m = true) :
    k < zs.length ∧ 1 ≤ zs.getD k 0 ∧ zs.getD k 0 ≤ 13 ∧ k + argN (zs.getD k 0) < zs.length ∧ fitsB m.stk.length (zs.getD k 0) = true ∧ (zs.getD k 0 = 2 ∨ zs.getD k 0 = 3 → zs.getD (k + 1) 0 < m.cells.length) ∧
    stepL zs m = if toldC (zs.getD k 0) (zs.getD (k + 1) 0) (zs.getD (k + 2) 0) m ≠ 0 then trp (usedM m) (toldC (zs.getD k 0) (zs.getD (k + 1) 0) (zs.getD (k + 2) 0) m) else doM (zs.getD k 0) (zs.getD (k + 1) 0) (toldV (zs.getD k 0) (zs.getD (k + 1) 0) (zs.getD (k + 2) 0) m) (atP (usedM m) ((k : Int) + 1 + argN (zs.getD k 0))) := by
  unfold rdyL at h
  simp only [Bool.and_eq_true] at h
  obtain ⟨⟨h1, h2⟩, h3⟩ := h
  have hq := ready_of h1
  simp only [Int.toNat_natCast] at hq
  refine ⟨by omega, hq.2.1, hq.2.2.1, hq.2.2.2, h2, fun h => ?_, ?_⟩
  · rw [if_pos h] at h3; exact of_decide_eq_true h3
  · unfold stepL
    rw [hk, Int.toNat_natCast, if_neg (by rw [h1]; simp), if_neg (by rw [h2]; simp)]
    rfl

theorem l8Do_any (B p k c : Nat) (a : Option Addr) (zs : List Int) (m : SM) (w : World) (h : RunS B w p m) (hg : Good m) (hk : m.pc = k) (hz : Nums w a zs) (hB : ∀ b off, a = some ⟨b, off, none⟩ → b < B) (hl : zs.length ≤ 400) (hw : wordsB zs = true) (hr : rdyL zs k m = true) :
    Calls Try.prog 126 #[.slice a zs.length c, .pointer (some ⟨p, 0, none⟩)] w fun e w' => e = .returned (.int .i64 (toldC (zs.getD k 0) (zs.getD (k + 1) 0) (zs.getD (k + 2) 0) m)) ∧ (toldC (zs.getD k 0) (zs.getD (k + 1) 0) (zs.getD (k + 2) 0) m = 0 → RunS B w' p (doM (zs.getD k 0) (zs.getD (k + 1) 0) (toldV (zs.getD k 0) (zs.getD (k + 1) 0) (zs.getD (k + 2) 0) m) (atP m ((k : Int) + 1 + argN (zs.getD k 0))))) ∧ Below B w w' := by
  obtain ⟨r1, r2, r3, r4, r5, r6, _⟩ := rdy_yes hk hr
  have hF := (fits_of r5).1
  have hW : ∀ i, 0 ≤ zs.getD i 0 ∧ zs.getD i 0 ≤ 65535 := fun i => by
    by_cases hi : i < zs.length
    · exact wordsB_get hw hi
    · rw [List.getD_eq_getElem?_getD, List.getElem?_eq_none (by omega)]; simp
  rcases hz with hz | ⟨b, off, rfl, hcc⟩
  · rw [hz] at r1; simp at r1
  have hb := hB b off rfl
  have h0 := hcc k r1
  have hu := hW (k + 1)
  have hv := hW (k + 2)
  have c1 : 1 ≤ argN (zs.getD k 0) → k + 1 < zs.length := fun h => by omega
  have c2 : argN (zs.getD k 0) = 2 → k + 2 < zs.length := fun h => by omega
  have d1 : 1 ≤ argN (zs.getD k 0) → w.cell? ⟨b, off + (k + 1), none⟩ = some (.int .i64 (zs.getD (k + 1) 0)) := fun h => hcc _ (c1 h)
  have d2 : argN (zs.getD k 0) = 2 → w.cell? ⟨b, off + (k + 2), none⟩ = some (.int .i64 (zs.getD (k + 2) 0)) := fun h => hcc _ (c2 h)
  clear hW hcc hr hw
  generalize zs.getD k 0 = op at *
  generalize zs.getD (k + 1) 0 = u at *
  generalize zs.getD (k + 2) 0 = v at *
  generalize zs.length = n at *
  have hop : op = 1 ∨ op = 2 ∨ op = 3 ∨ op = 4 ∨ op = 5 ∨ op = 6 ∨ op = 7 ∨ op = 8 ∨ op = 9 ∨ op = 10 ∨ op = 11 ∨ op = 12 ∨ op = 13 := by omega
  rcases hop with e | e | e | e | e | e | e | e | e | e | e | e | e <;> subst e
  · exact (sdo_1 B p b off n c k (k + 1) (k + 2) m 1 u v _ w rfl h hg.sl hk r1 hl hb rfl rfl h0 (d1 (by decide)) (c1 (by decide)) rfl).mono fun e w' h => ⟨h.1, fun _ => h.2.1 rfl, h.2.2⟩
  · obtain ⟨t, ht⟩ := Int.eq_ofNat_of_zero_le hu.1
    subst ht
    have hlt := r6 (.inl rfl)
    have eC : toldC 2 (t : Int) v m = 0 := by show (if (t : Int) < m.cells.length then (0 : Int) else 1) = 0; rw [if_pos hlt]
    have eV : toldV 2 (t : Int) v m = t := by show (if (t : Int) < m.cells.length then (t : Int) else 0) = t; rw [if_pos hlt]
    rw [eC, eV]
    exact (sdo_2 B p b off n c k (k + 1) (k + 2) m 2 t v _ w rfl h hg.sl hk r1 hl hb rfl rfl h0 (d1 (by decide)) (c1 (by decide)) rfl t rfl (by omega) hg.cl _ rfl).mono fun e w' h => ⟨h.1, fun _ => h.2.1 rfl, h.2.2⟩
  · obtain ⟨t, ht⟩ := Int.eq_ofNat_of_zero_le hu.1
    subst ht
    have hlt := r6 (.inr rfl)
    have eC : toldC 3 (t : Int) v m = 0 := by show (if (t : Int) < m.cells.length then (0 : Int) else 1) = 0; rw [if_pos hlt]
    have eV : toldV 3 (t : Int) v m = t := by show (if (t : Int) < m.cells.length then (t : Int) else 0) = t; rw [if_pos hlt]
    rw [eC, eV]
    exact (sdo_3 B p b off n c k (k + 1) (k + 2) m 3 t v _ w rfl h hg.sl hk r1 hl hb rfl rfl h0 (d1 (by decide)) (c1 (by decide)) rfl t rfl (by omega) hg.cl (by have : tkN 3 = 1 := rfl; omega)).mono fun e w' h => ⟨h.1, fun _ => h.2.1 rfl, h.2.2⟩
  · exact sdo_4 B p b off n c k (k + 1) (k + 2) m 4 u v _ w rfl h hg.sl hk r1 hl hb rfl rfl h0 (d1 (by decide)) (c1 (by decide)) (d2 rfl) (c2 rfl) rfl hg.cl (by have : tkN 4 = 1 := rfl; omega) hu.1 hu.2 hv.1 hv.2 _ _ rfl rfl _ rfl
  · exact sdo_5 B p b off n c k (k + 1) (k + 2) m 5 u v _ w rfl h hg.sl hk r1 hl hb rfl rfl h0 (d1 (by decide)) (c1 (by decide)) (d2 rfl) (c2 rfl) rfl hg.cl (by have : tkN 5 = 2 := rfl; omega) hu.1 hu.2 hv.1 hv.2 _ _ rfl rfl _ rfl
  · exact sdo_6 B p b off n c k (k + 1) (k + 2) m 6 u v _ w rfl h hg.sl hk r1 hl hb rfl rfl h0 (d1 (by decide)) (c1 (by decide)) rfl (by have : tkN 6 = 2 := rfl; omega) _ _ rfl rfl _ rfl
  · exact (sdo_7 B p b off n c k (k + 1) (k + 2) m 7 u v _ w rfl h hg.sl hk r1 hl hb rfl rfl h0 rfl (by have : tkN 7 = 1 := rfl; omega)).mono fun e w' h => ⟨h.1, fun _ => h.2.1 rfl, h.2.2⟩
  · exact (sdo_8 B p b off n c k (k + 1) (k + 2) m 8 u v _ w rfl h hg.sl hk r1 hl hb rfl rfl h0 rfl (by have : tkN 8 = 1 := rfl; omega)).mono fun e w' h => ⟨h.1, fun _ => h.2.1 rfl, h.2.2⟩
  · exact (sdo_9 B p b off n c k (k + 1) (k + 2) m 9 u v _ w rfl h hg.sl hk r1 hl hb rfl rfl h0 rfl (by have : tkN 9 = 1 := rfl; omega)).mono fun e w' h => ⟨h.1, fun _ => h.2.1 rfl, h.2.2⟩
  · exact (sdo_10 B p b off n c k (k + 1) (k + 2) m 10 u v _ w rfl h hg.sl hk r1 hl hb rfl rfl h0 (d1 (by decide)) (c1 (by decide)) rfl).mono fun e w' h => ⟨h.1, fun _ => h.2.1 rfl, h.2.2⟩
  · exact (sdo_11 B p b off n c k (k + 1) (k + 2) m 11 u v _ w rfl h hg.sl hk r1 hl hb rfl rfl h0 (d1 (by decide)) (c1 (by decide)) rfl (by have : tkN 11 = 1 := rfl; omega) _ rfl).mono fun e w' h => ⟨h.1, fun _ => h.2.1 rfl, h.2.2⟩
  · exact (sdo_12 B p b off n c k (k + 1) (k + 2) m 12 u v _ w rfl h hg.sl hk r1 hl hb rfl rfl h0 (d1 (by decide)) (c1 (by decide)) rfl).mono fun e w' h => ⟨h.1, fun _ => h.2.1 rfl, h.2.2⟩
  · exact (sdo_13 B p b off n c k (k + 1) (k + 2) m 13 u v _ w rfl h hg.sl hk r1 hl hb rfl rfl h0 rfl).mono fun e w' h => ⟨h.1, fun _ => h.2.1 rfl, h.2.2⟩

set_option maxHeartbeats 400000 in
theorem lmin_used (x : Int) (w : World) (h0 : 0 ≤ x) (h1 : x ≤ 1000001) : Calls Try.prog 121 #[.int .i64 1000000, .int .i64 x] w fun e w' => e = .returned (.int .i64 (if x ≤ 1000000 then x else 1000000)) ∧ w' = w := by
  by_cases h : x ≤ 1000000
  · rw [if_pos h]
    by_cases he : x < 1000000
    · have h2 : decide ((1000000 : Int) < x) = false := decide_eq_false (by omega)
      have h3 : decide (x < 1000000) = true := decide_eq_true he
      have h4 : decide ((1000000 : Int) ≤ x) = false := decide_eq_false (by omega)
      clear h h0 h1 he
      go_enter Try.func121, Try.ntmps121
      go_wp2
      go_ret
      exact ⟨rfl, rfl⟩
    · have : x = 1000000 := by omega
      subst this
      go_enter Try.func121, Try.ntmps121
      go_wp2
      go_ret
      exact ⟨rfl, rfl⟩
  · have : x = 1000001 := by omega
    subst this
    go_enter Try.func121, Try.ntmps121
    go_wp2
    go_ret
    exact ⟨rfl, rfl⟩
end Go.Proofs.Ytjofghelenfklaa
namespace Go.Proofs.Ytjofghelenfklaa
open Go.RowKit
set_option linter.unusedVariables false
attribute [local go_sem ↓] Go.wp_at_zero Go.wp_at_succ

/-- a machine by value that a call made, in blocks from B on -/
def MachR (B : Nat) (w w' : World) (e : Ending) (m : SM) : Prop := ∃ sv cv, e = .returned (machVs m sv cv) ∧ Own w' B sv m.stk ∧ Own w' B cv m.cells ∧ (∀ g, sv.ownBlock = some g → cv.ownBlock ≠ some g) ∧ Below w.heap.size w w'
abbrev zeroLine : Array Value := #[.int .i64 0, .slice none 0 0, .slice none 0 0, .int .i64 0, .int .i64 0, .int .i64 0, .bool false]

/-- the result's block filled with a machine -/
theorem fill7 (r : Nat) (W : World) (m : SM) (sv cv : Value) : Sole1 r W (((((((W.setCell ⟨r, 0, none⟩ (.int .i64 m.pc)).setCell ⟨r, 1, none⟩ sv).setCell ⟨r, 2, none⟩ cv).setCell ⟨r, 3, none⟩ (.int .i64 m.sig)).setCell ⟨r, 4, none⟩ (.int .i64 m.used)).setCell ⟨r, 5, none⟩ (.int .i64 m.trap)).setCell ⟨r, 6, none⟩ (.bool m.done)) :=
  (((((((Sole1.refl r W).set 0 (.int .i64 m.pc)).set 1 sv).set 2 cv).set 3 (.int .i64 m.sig)).set 4 (.int .i64 m.used)).set 5 (.int .i64 m.trap)).set 6 (.bool m.done)
set_option maxHeartbeats 3200000 in
set_option maxRecDepth 100000 in
theorem lstep_stop (B : Nat) (m : SM) (sv cv : Value) (a : Option Addr) (zs : List Int) (c : Nat) (w : World) (hs : Own w B sv m.stk) (hc : Own w B cv m.cells) (hd : ∀ g, sv.ownBlock = some g → cv.ownBlock ≠ some g) (hB : B ≤ w.heap.size) (hgo : goes m = false) :
    Calls Try.prog 99 #[.slice a zs.length c, machVs m sv cv] w fun e w' => MachR B w w' e m := by
  obtain ⟨a1, k1, rfl⟩ := own_shape hs
  obtain ⟨a2, k2, rfl⟩ := own_shape hc
  have hX : Hid (∀ W, W = (w.alloc (.cells (lineS m (.slice a1 m.stk.length k1) (.slice a2 m.cells.length k2)) 39)).alloc (.cells zeroLine 39) →
      Below w.heap.size w W ∧ W.heap[w.heap.size]? = some (.cells (lineS m (.slice a1 m.stk.length k1) (.slice a2 m.cells.length k2)) 39 (0, 0)) ∧ W.heap[w.heap.size + 1]? = some (.cells zeroLine 39 (0, 0))) := fun W e => by
    subst e
    have x1 := heap_alloc_new w (.cells (lineS m (.slice a1 m.stk.length k1) (.slice a2 m.cells.length k2)) 39)
    have y1 := (Below.refl w.heap.size w).alloc (Nat.le_refl _) (.cells (lineS m (.slice a1 m.stk.length k1) (.slice a2 m.cells.length k2)) 39)
    have s1 : (w.alloc (.cells (lineS m (.slice a1 m.stk.length k1) (.slice a2 m.cells.length k2)) 39)).heap.size = w.heap.size + 1 := by simp
    generalize w.alloc (.cells (lineS m (.slice a1 m.stk.length k1) (.slice a2 m.cells.length k2)) 39) = W1 at *
    have x2 := heap_alloc_new W1 (.cells zeroLine 39)
    have y2 := (Below.refl W1.heap.size W1).alloc (Nat.le_refl _) (.cells zeroLine 39)
    rw [s1] at x2
    exact ⟨y1.trans (y2.mono (by omega)), blk8 x1 y2, x2⟩
  have HS : Hid (Own w B (.slice a1 m.stk.length k1) m.stk) := hs
  have HC : Hid (Own w B (.slice a2 m.cells.length k2) m.cells) := hc
  have HD : Hid (∀ g, (Value.slice a1 m.stk.length k1).ownBlock = some g → (Value.slice a2 m.cells.length k2).ownBlock ≠ some g) := hd
  have hT : m.done = true ∨ (m.done = false ∧ (m.trap != 0) = true) := by
    unfold goes at hgo
    cases hq : m.done
    · right; refine ⟨rfl, ?_⟩
      rw [hq] at hgo
      simpa using hgo
    · exact .inl rfl
  clear hs hc hd hgo
  generalize hL1 : m.stk.length = l1 at *
  generalize hL2 : m.cells.length = l2 at *
  go_enter Try.func99, Try.ntmps99
  go_upto_region 1 with fail
  have hXX := hX.out _ rfl
  generalize (w.alloc (.cells (lineS m (.slice a1 l1 k1) (.slice a2 l2 k2)) 39)).alloc (.cells zeroLine 39) = W at *
  obtain ⟨x1, x2, x3⟩ := hXX
  have HB : Hid (Below w.heap.size w W) := x1
  obtain ⟨e0, e1, e2, e3, e4, e5, e6⟩ := RunS.cells x2
  have g0 := cell_of_row _ _ 0 _ _ _ x3
  have g1 := cell_of_row _ _ 1 _ _ _ x3
  have g2 := cell_of_row _ _ 2 _ _ _ x3
  have g3 := cell_of_row _ _ 3 _ _ _ x3
  have g4 := cell_of_row _ _ 4 _ _ _ x3
  have g5 := cell_of_row _ _ 5 _ _ _ x3
  have g6 := cell_of_row _ _ 6 _ _ _ x3
  have f0 := frozen_of_row _ _ 0 _ _ x3
  have f1 := frozen_of_row _ _ 1 _ _ x3
  have f2 := frozen_of_row _ _ 2 _ _ x3
  have f3 := frozen_of_row _ _ 3 _ _ x3
  have f4 := frozen_of_row _ _ 4 _ _ x3
  have f5 := frozen_of_row _ _ 5 _ _ x3
  have f6 := frozen_of_row _ _ 6 _ _ x3
  simp at g0 g1 g2 g3 g4 g5 g6
  clear x1 x2 x3 hX
  have HE : Hid _ := fill7 (w.heap.size + 1) W m (.slice a1 l1 k1) (.slice a2 l2 k2)
  have HF : Hid (MachR B w (((((((W.setCell ⟨w.heap.size + 1, 0, none⟩ (.int .i64 m.pc)).setCell ⟨w.heap.size + 1, 1, none⟩ (.slice a1 l1 k1)).setCell ⟨w.heap.size + 1, 2, none⟩ (.slice a2 l2 k2)).setCell ⟨w.heap.size + 1, 3, none⟩ (.int .i64 m.sig)).setCell ⟨w.heap.size + 1, 4, none⟩ (.int .i64 m.used)).setCell ⟨w.heap.size + 1, 5, none⟩ (.int .i64 m.trap)).setCell ⟨w.heap.size + 1, 6, none⟩ (.bool m.done)) (.returned (machVs m (.slice a1 l1 k1) (.slice a2 l2 k2))) m) :=
    ⟨_, _, rfl, own_sole (own_kept HS.out HB.out) HE.out (fun e => by have := (HS.out.lt _ e).2; omega), own_sole (own_kept HC.out HB.out) HE.out (fun e => by have := (HC.out.lt _ e).2; omega), HD.out, HB.out.trans (HE.out.bel.mono (by omega))⟩
  clear HE HS HC HD HB
  generalize hdn : m.done = dn at *
  have hm : machVs m (.slice a1 l1 k1) (.slice a2 l2 k2) = .agg #[.int .i64 m.pc, .slice a1 l1 k1, .slice a2 l2 k2, .int .i64 m.sig, .int .i64 m.used, .int .i64 m.trap, .bool dn] := by rw [← hdn]
  have HM : Hid _ := hm
  clear hm hdn
  rcases hT with hT | ⟨hT, hT2⟩
  all_goals
    subst hT
    go_wp2_with fail
    refine bodyPost_ret (v := .agg #[.int .i64 m.pc, .slice a1 l1 k1, .slice a2 l2 k2, .int .i64 m.sig, .int .i64 m.used, .int .i64 m.trap, .bool _]) (by simp [results, Try.results99, go_sem, g0, g1, g2, g3, g4, g5, g6]; rfl) rfl ?_
    have := HF.out
    rw [HM.out] at this
    exact this
end Go.Proofs.Ytjofghelenfklaa
namespace Go.Proofs.Ytjofghelenfklaa
open Go.RowKit
set_option linter.unusedVariables false
attribute [local go_sem ↓] Go.wp_at_zero Go.wp_at_succ

set_option maxHeartbeats 6400000 in
set_option maxRecDepth 100000 in
theorem lstep_go (B0 B k : Nat) (m R : SM) (sv cv : Value) (a : Option Addr) (zs : List Int) (c : Nat) (w : World) (hs : Own w B0 sv m.stk) (hc : Own w B0 cv m.cells) (hB : B ≤ w.heap.size) (hgo : goes m = true) (hg : Good m) (hk : m.pc = k) (hz : Nums w a zs) (hl : zs.length ≤ 400) (hw : wordsB zs = true)
    (hR1 : rdyL zs k m = false → R = trp (usedM m) 1)
    (hR2 : rdyL zs k m = true → toldC (zs.getD k 0) (zs.getD (k + 1) 0) (zs.getD (k + 2) 0) m ≠ 0 → R = trp (usedM m) (toldC (zs.getD k 0) (zs.getD (k + 1) 0) (zs.getD (k + 2) 0) m))
    (hR3 : rdyL zs k m = true → toldC (zs.getD k 0) (zs.getD (k + 1) 0) (zs.getD (k + 2) 0) m = 0 → R = doM (zs.getD k 0) (zs.getD (k + 1) 0) (toldV (zs.getD k 0) (zs.getD (k + 1) 0) (zs.getD (k + 2) 0) m) (atP (usedM m) ((k : Int) + 1 + argN (zs.getD k 0)))) :
    Calls Try.prog 99 #[.slice a zs.length c, machVs m sv cv] w fun e w' => MachR B w w' e R := by
  obtain ⟨a1, k1, rfl⟩ := own_shape hs
  obtain ⟨a2, k2, rfl⟩ := own_shape hc
  have hX : Hid (∀ W, W = (w.alloc (.cells (lineS m (.slice a1 m.stk.length k1) (.slice a2 m.cells.length k2)) 39)).alloc (.cells zeroLine 39) →
      Below w.heap.size w W ∧ W.heap[w.heap.size]? = some (.cells (lineS m (.slice a1 m.stk.length k1) (.slice a2 m.cells.length k2)) 39 (0, 0)) ∧ W.heap[w.heap.size + 1]? = some (.cells zeroLine 39 (0, 0)) ∧ W.heap.size = w.heap.size + 2) := fun W e => by
    subst e
    have x1 := heap_alloc_new w (.cells (lineS m (.slice a1 m.stk.length k1) (.slice a2 m.cells.length k2)) 39)
    have y1 := (Below.refl w.heap.size w).alloc (Nat.le_refl _) (.cells (lineS m (.slice a1 m.stk.length k1) (.slice a2 m.cells.length k2)) 39)
    have s1 : (w.alloc (.cells (lineS m (.slice a1 m.stk.length k1) (.slice a2 m.cells.length k2)) 39)).heap.size = w.heap.size + 1 := by simp
    generalize w.alloc (.cells (lineS m (.slice a1 m.stk.length k1) (.slice a2 m.cells.length k2)) 39) = W1 at *
    have x2 := heap_alloc_new W1 (.cells zeroLine 39)
    have y2 := (Below.refl W1.heap.size W1).alloc (Nat.le_refl _) (.cells zeroLine 39)
    rw [s1] at x2
    exact ⟨y1.trans (y2.mono (by omega)), blk8 x1 y2, x2, by simp [s1]⟩
  have HCPY : Hid (∀ W, Below w.heap.size w W → Calls Try.prog 100 #[machVs m (.slice a1 m.stk.length k1) (.slice a2 m.cells.length k2)] W fun e w' => ∃ a' k' b' j', e = .returned (machVs m (.slice a' m.stk.length k') (.slice b' m.cells.length j')) ∧ Own w' W.heap.size (.slice a' m.stk.length k') m.stk ∧ Own w' W.heap.size (.slice b' m.cells.length j') m.cells ∧ (∀ g, (Value.slice a' m.stk.length k').ownBlock = some g → (Value.slice b' m.cells.length j').ownBlock ≠ some g) ∧ Below W.heap.size W w') := fun W hb => by
    refine (l8Copy_any m _ _ W ((own_row hs).below hb) ((own_row hc).below hb) (by have := hg.sl; omega) (by have := hg.cl; omega)).mono ?_
    rintro e w' ⟨s', c', h1, h2, h3, h4, h5⟩
    obtain ⟨a', k', rfl⟩ := own_shape h2
    obtain ⟨b', j', rfl⟩ := own_shape h3
    exact ⟨a', k', b', j', h1, h2, h3, h4, h5⟩
  have HMIN : Hid (∀ W, Calls Try.prog 121 #[.int .i64 1000000, .int .i64 (m.used + 1)] W fun e w' => e = .returned (.int .i64 (usedM m).used) ∧ w' = W) := fun W => lmin_used (m.used + 1) W (by have := hg.used0; omega) (by have := hg.used1; omega)
  have HRDY : Hid (∀ W, Below w.heap.size w W → W.heap[w.heap.size]? = some (.cells (lineS m (.slice a1 m.stk.length k1) (.slice a2 m.cells.length k2)) 39 (0, 0)) → Calls Try.prog 125 #[.slice a zs.length c, .pointer (some ⟨w.heap.size, 0, none⟩)] W fun e w' => e = .returned (.bool (rdyL zs k m)) ∧ Below W.heap.size W w') := fun W hb hr => l8Ready_any a zs c k w.heap.size m _ _ W (hz.below hb) hl hr hk ((own_row hs).below hb) ((own_row hc).below hb) hg.sl hg.cl
  have HDO : Hid (rdyL zs k m = true → ∀ (Bq p : Nat) (W : World), w.heap.size ≤ Bq → Below w.heap.size w W → RunS Bq W p (usedM m) → Calls Try.prog 126 #[.slice a zs.length c, .pointer (some ⟨p, 0, none⟩)] W fun e w' => e = .returned (.int .i64 (toldC (zs.getD k 0) (zs.getD (k + 1) 0) (zs.getD (k + 2) 0) m)) ∧ (toldC (zs.getD k 0) (zs.getD (k + 1) 0) (zs.getD (k + 2) 0) m = 0 → RunS Bq w' p (doM (zs.getD k 0) (zs.getD (k + 1) 0) (toldV (zs.getD k 0) (zs.getD (k + 1) 0) (zs.getD (k + 2) 0) m) (atP (usedM m) ((k : Int) + 1 + argN (zs.getD k 0))))) ∧ Below Bq W w') := fun hr Bq p W hq hb hrs => by
    have hlt := (rdy_yes hk hr).1
    refine l8Do_any Bq p k c a zs (usedM m) W hrs (usedM_good hg) hk (hz.below hb) (fun b off hab => ?_) hl hw hr
    rcases hz with hz | ⟨b2, o2, h2, hcc⟩
    · rw [hz] at hlt; simp at hlt
    · have h3 := hab.symm.trans h2
      have h4 := Option.some.inj h3
      have h5 := World.block_lt_of_cell? _ _ (hcc k hlt)
      have h6 : b = b2 := congrArg Addr.block h4
      show b < Bq
      have h7 : b2 < w.heap.size := h5
      omega
  have u0 := hg.used0
  have u1 := hg.used1
  have hGT : m.done = false ∧ m.trap = 0 := by
    unfold goes at hgo
    simpa using hgo
  have HRR : Hid ((rdyL zs k m = false → R = trp (usedM m) 1) ∧ (rdyL zs k m = true → toldC (zs.getD k 0) (zs.getD (k + 1) 0) (zs.getD (k + 2) 0) m ≠ 0 → R = trp (usedM m) (toldC (zs.getD k 0) (zs.getD (k + 1) 0) (zs.getD (k + 2) 0) m)) ∧ (rdyL zs k m = true → toldC (zs.getD k 0) (zs.getD (k + 1) 0) (zs.getD (k + 2) 0) m = 0 → R = doM (zs.getD k 0) (zs.getD (k + 1) 0) (toldV (zs.getD k 0) (zs.getD (k + 1) 0) (zs.getD (k + 2) 0) m) (atP (usedM m) ((k : Int) + 1 + argN (zs.getD k 0))))) := ⟨hR1, hR2, hR3⟩
  clear hs hc hgo hg hk hz hl hw hR1 hR2 hR3
  generalize toldC (zs.getD k 0) (zs.getD (k + 1) 0) (zs.getD (k + 2) 0) m = C at *
  generalize doM (zs.getD k 0) (zs.getD (k + 1) 0) (toldV (zs.getD k 0) (zs.getD (k + 1) 0) (zs.getD (k + 2) 0) m) (atP (usedM m) ((k : Int) + 1 + argN (zs.getD k 0))) = DM at *
  generalize rdyL zs k m = rd at *
  generalize zs.length = nz at *
  generalize hL1 : m.stk.length = l1 at *
  generalize hL2 : m.cells.length = l2 at *
  have HGT : Hid (m.done = false ∧ m.trap = 0) := hGT
  clear hGT
  go_enter Try.func99, Try.ntmps99
  go_upto_region 1 with fail
  have hXX := hX.out _ rfl
  generalize (w.alloc (.cells (lineS m (.slice a1 l1 k1) (.slice a2 l2 k2)) 39)).alloc (.cells zeroLine 39) = W at *
  obtain ⟨x1, x2, x3, x4⟩ := hXX
  have HB : Hid (Below w.heap.size w W) := x1
  have HA : Hid (W.heap[w.heap.size]? = some (.cells (lineS m (.slice a1 l1 k1) (.slice a2 l2 k2)) 39 (0, 0))) := x2
  have HZ : Hid (W.heap[w.heap.size + 1]? = some (.cells zeroLine 39 (0, 0))) := x3
  have HS : Hid (W.heap.size = w.heap.size + 2) := x4
  obtain ⟨d0, d1, d2, d3, d4, d5, d6⟩ := RunS.cells x2
  clear x1 x2 x3 x4 hX
  obtain ⟨hdn, htr⟩ := HGT.out
  have ht2 : (m.trap != 0) = false := by rw [htr]; rfl
  clear htr
  go_upto_region 3 with fail
  clear hdn ht2
  go_upto_region 4 with (go_at_call 121; refine (HMIN.out _).mono ?_; rintro e w3 ⟨rfl, hw3⟩; have hw4 := hw3.symm; clear hw3; subst hw4)
  go_upto_region 5 with (go_at_call 100; refine (HCPY.out _ HB.out).mono ?_; rintro e w4 ⟨s6, n6, c6, j6, rfl, ho1, ho2, ho3, hb4⟩)
  have y6 := heap_alloc_new w4 (.cells (lineS m (.slice s6 l1 n6) (.slice c6 l2 j6)) 39)
  have z6 := (Below.refl w4.heap.size w4).alloc (Nat.le_refl _) (.cells (lineS m (.slice s6 l1 n6) (.slice c6 l2 j6)) 39)
  have hz4 := hb4.size
  have HR6 : Hid (RunS W.heap.size (w4.alloc (.cells (lineS m (.slice s6 l1 n6) (.slice c6 l2 j6)) 39)) w4.heap.size m) := ⟨_, _, y6, ho1.alloc _, ho2.alloc _, hz4, fun e => by have := (ho1.lt _ e).2; omega, fun e => by have := (ho2.lt _ e).2; omega, ho3⟩
  have HB6 : Hid (Below W.heap.size W (w4.alloc (.cells (lineS m (.slice s6 l1 n6) (.slice c6 l2 j6)) 39))) := hb4.trans (z6.mono hz4)
  have HQ6 : Hid (W.heap.size ≤ w4.heap.size) := hz4
  clear z6 ho1 ho2 ho3 hb4 hz4 d0 d1 d2 d3 d4 d5 d6
  generalize w4.alloc (.cells (lineS m (.slice s6 l1 n6) (.slice c6 l2 j6)) 39) = W6 at *
  generalize w4.heap.size = q6 at *
  have u4 := (RunS.cells y6).2.2.2.2.1
  have uf := frozen_of_row _ _ 4 _ _ y6
  clear y6
  go_upto_region 6 with fail
  have HR7 : Hid (RunS W.heap.size (W6.setCell ⟨q6, 4, none⟩ (.int .i64 (usedM m).used)) q6 (usedM m)) := HR6.out.fld (m' := usedM m) 4 _ (fun _ _ => rfl) rfl rfl
  have HB7 : Hid (Below W.heap.size W (W6.setCell ⟨q6, 4, none⟩ (.int .i64 (usedM m).used))) := HB6.out.setCell HQ6.out _
  clear HR6 HB6 u4 uf
  generalize W6.setCell ⟨q6, 4, none⟩ (.int .i64 (usedM m).used) = W7 at *
  have HA7 : Hid (W7.heap[w.heap.size]? = some (.cells (lineS m (.slice a1 l1 k1) (.slice a2 l2 k2)) 39 (0, 0))) := blk8 HA.out HB7.out
  have HZ7 : Hid (W7.heap[w.heap.size + 1]? = some (.cells zeroLine 39 (0, 0))) := blk8 HZ.out HB7.out
  have HBW7 : Hid (Below w.heap.size w W7) := HB.out.trans (HB7.out.mono (by have := HS.out; omega))
  have HC7 : Hid (Calls Try.prog 125 #[.slice a nz c, .pointer (some ⟨w.heap.size, 0, none⟩)] W7 fun e w' => e = .returned (.bool rd) ∧ Below W7.heap.size W7 w') := HRDY.out W7 HBW7.out HA7.out
  clear HRDY HMIN HA HZ HB7 HB
  cases rd
  · have hRR := HRR.out.1 (by first | rfl | trivial)
    have HRQ : Hid (R = trp (usedM m) 1) := hRR
    clear HRR hRR HDO HCPY
    go_upto_region 7 with (go_at_call 125; refine HC7.out.mono ?_; rintro e w8 ⟨rfl, hb8⟩)
    have HR8 : Hid (RunS W.heap.size w8 q6 (usedM m)) := HR7.out.kept hb8
    have HZ8 : Hid (w8.heap[w.heap.size + 1]? = some (.cells zeroLine 39 (0, 0))) := blk8 HZ7.out hb8
    have HB8 : Hid (Below w.heap.size w w8) := HBW7.out.trans (hb8.mono HBW7.out.size)
    obtain ⟨se8, ce8, hrow8, _⟩ := id HR8.out
    have v5 := (RunS.cells hrow8).2.2.2.2.2.1
    have vf := frozen_of_row _ _ 5 _ _ hrow8
    clear hb8 hrow8 HR7 HZ7 HBW7 HC7 HA7
    go_upto_region 8 with fail
    have HRZ : Hid (RunS W.heap.size (w8.setCell ⟨q6, 5, none⟩ (.int .i64 1)) q6 R) := by
      unfold Hid; rw [HRQ.out]; exact HR8.out.fld (m' := trp (usedM m) 1) 5 _ (fun _ _ => rfl) rfl rfl
    have HZR : Hid ((w8.setCell ⟨q6, 5, none⟩ (.int .i64 1)).heap[w.heap.size + 1]? = some (.cells zeroLine 39 (0, 0))) := (heap_setCell_other w8 _ (w.heap.size + 1) _ (by have := HQ6.out; have := HS.out; show w.heap.size + 1 ≠ q6; omega)).trans HZ8.out
    have HBZ : Hid (Below w.heap.size w (w8.setCell ⟨q6, 5, none⟩ (.int .i64 1))) := HB8.out.setCell (by have := HQ6.out; have := HS.out; show w.heap.size ≤ q6; omega) _
    have HBq : Hid (w.heap.size + 2 ≤ W.heap.size) := by have := HS.out; show _ ≤ _; omega
    clear HR8 HZ8 HB8 v5 vf
    generalize w8.setCell ⟨q6, 5, none⟩ (.int .i64 1) = Z at *
    obtain ⟨se, ce, hrow, hmem⟩ := id HRZ.out
    obtain ⟨ae, ke, rfl⟩ := own_shape hmem.ss
    obtain ⟨be, je, rfl⟩ := own_shape hmem.cs
    obtain ⟨e0, e1, e2, e3, e4, e5, e6⟩ := RunS.cells hrow
    have g0 := cell_of_row _ _ 0 _ _ _ HZR.out
    have g1 := cell_of_row _ _ 1 _ _ _ HZR.out
    have g2 := cell_of_row _ _ 2 _ _ _ HZR.out
    have g3 := cell_of_row _ _ 3 _ _ _ HZR.out
    have g4 := cell_of_row _ _ 4 _ _ _ HZR.out
    have g5 := cell_of_row _ _ 5 _ _ _ HZR.out
    have g6 := cell_of_row _ _ 6 _ _ _ HZR.out
    have f0 := frozen_of_row _ _ 0 _ _ HZR.out
    have f1 := frozen_of_row _ _ 1 _ _ HZR.out
    have f2 := frozen_of_row _ _ 2 _ _ HZR.out
    have f3 := frozen_of_row _ _ 3 _ _ HZR.out
    have f4 := frozen_of_row _ _ 4 _ _ HZR.out
    have f5 := frozen_of_row _ _ 5 _ _ HZR.out
    have f6 := frozen_of_row _ _ 6 _ _ HZR.out
    simp at g0 g1 g2 g3 g4 g5 g6
    have HE : Hid _ := fill7 (w.heap.size + 1) Z R (.slice ae R.stk.length ke) (.slice be R.cells.length je)
    have HF : Hid (MachR B w (((((((Z.setCell ⟨w.heap.size + 1, 0, none⟩ (.int .i64 R.pc)).setCell ⟨w.heap.size + 1, 1, none⟩ (.slice ae R.stk.length ke)).setCell ⟨w.heap.size + 1, 2, none⟩ (.slice be R.cells.length je)).setCell ⟨w.heap.size + 1, 3, none⟩ (.int .i64 R.sig)).setCell ⟨w.heap.size + 1, 4, none⟩ (.int .i64 R.used)).setCell ⟨w.heap.size + 1, 5, none⟩ (.int .i64 R.trap)).setCell ⟨w.heap.size + 1, 6, none⟩ (.bool R.done)) (.returned (machVs R (.slice ae R.stk.length ke) (.slice be R.cells.length je))) R) :=
      ⟨_, _, rfl, own_mono (own_sole hmem.ss HE.out (fun e => by have := (hmem.ss.lt _ e).1; have := HBq.out; omega)) (by have := HBq.out; omega), own_mono (own_sole hmem.cs HE.out (fun e => by have := (hmem.cs.lt _ e).1; have := HBq.out; omega)) (by have := HBq.out; omega), hmem.d3, HBZ.out.trans (HE.out.bel.mono (by omega))⟩
    clear HE hrow hmem HRZ HZR HBZ HBq
    generalize R.stk.length = le at *
    generalize R.cells.length = he at *
    go_wp2_with fail
    refine bodyPost_ret (v := .agg #[.int .i64 R.pc, .slice ae le ke, .slice be he je, .int .i64 R.sig, .int .i64 R.used, .int .i64 R.trap, .bool R.done]) (by simp [results, Try.results99, go_sem, g0, g1, g2, g3, g4, g5, g6]) rfl ?_
    exact HF.out
  · go_upto_region 9 with (go_at_call 125; refine HC7.out.mono ?_; rintro e w8 ⟨rfl, hb8⟩)
    have HR8 : Hid (RunS W.heap.size w8 q6 (usedM m)) := HR7.out.kept hb8
    have HZ8 : Hid (w8.heap[w.heap.size + 1]? = some (.cells zeroLine 39 (0, 0))) := blk8 HZ7.out hb8
    have HA8 := blk8 HA7.out hb8
    have HB8 : Hid (Below w.heap.size w w8) := HBW7.out.trans (hb8.mono HBW7.out.size)
    have HS8 : Hid (W.heap.size ≤ w8.heap.size) := by have := HR8.out.lt; show _ ≤ _; omega
    obtain ⟨d0, d1, d2, d3, d4, d5, d6⟩ := RunS.cells HA8
    clear hb8 HR7 HZ7 HBW7 HC7 HA7 HA8
    go_upto_region 10 with (go_at_call 100; refine (HCPY.out _ HB8.out).mono ?_; rintro e w9 ⟨s7, n7, c7, j7, rfl, ho1, ho2, ho3, hb9⟩)
    have y9 := heap_alloc_new w9 (.cells (lineS m (.slice s7 l1 n7) (.slice c7 l2 j7)) 39)
    have z9 := (Below.refl w9.heap.size w9).alloc (Nat.le_refl _) (.cells (lineS m (.slice s7 l1 n7) (.slice c7 l2 j7)) 39)
    have hz9 := hb9.size
    have HR9 : Hid (RunS w8.heap.size (w9.alloc (.cells (lineS m (.slice s7 l1 n7) (.slice c7 l2 j7)) 39)) w9.heap.size m) := ⟨_, _, y9, ho1.alloc _, ho2.alloc _, hz9, fun e => by have := (ho1.lt _ e).2; omega, fun e => by have := (ho2.lt _ e).2; omega, ho3⟩
    have HB9 : Hid (Below w8.heap.size w8 (w9.alloc (.cells (lineS m (.slice s7 l1 n7) (.slice c7 l2 j7)) 39))) := hb9.trans (z9.mono hz9)
    have HQ9 : Hid (w8.heap.size ≤ w9.heap.size) := hz9
    clear z9 ho1 ho2 ho3 hb9 hz9 d0 d1 d2 d3 d4 d5 d6
    generalize w9.alloc (.cells (lineS m (.slice s7 l1 n7) (.slice c7 l2 j7)) 39) = W9 at *
    generalize w9.heap.size = q9 at *
    have u4 := (RunS.cells y9).2.2.2.2.1
    have uf := frozen_of_row _ _ 4 _ _ y9
    clear y9
    go_upto_region 11 with fail
    have HR10 : Hid (RunS w8.heap.size (W9.setCell ⟨q9, 4, none⟩ (.int .i64 (usedM m).used)) q9 (usedM m)) := HR9.out.fld (m' := usedM m) 4 _ (fun _ _ => rfl) rfl rfl
    have HB10 : Hid (Below w8.heap.size w8 (W9.setCell ⟨q9, 4, none⟩ (.int .i64 (usedM m).used))) := HB9.out.setCell HQ9.out _
    clear HR9 HB9 u4 uf
    generalize W9.setCell ⟨q9, 4, none⟩ (.int .i64 (usedM m).used) = W10 at *
    have HBW10 : Hid (Below w.heap.size w W10) := HB8.out.trans (HB10.out.mono HB8.out.size)
    have HD10 : Hid (Calls Try.prog 126 #[.slice a nz c, .pointer (some ⟨q9, 0, none⟩)] W10 fun e w' => e = .returned (.int .i64 C) ∧ (C = 0 → RunS w8.heap.size w' q9 DM) ∧ Below w8.heap.size W10 w') := HDO.out (by first | rfl | trivial) w8.heap.size q9 W10 HB8.out.size HBW10.out HR10.out
    have HR11 : Hid (RunS W.heap.size W10 q6 (usedM m)) := HR8.out.kept HB10.out
    have HZ11 : Hid (W10.heap[w.heap.size + 1]? = some (.cells zeroLine 39 (0, 0))) := blk8 HZ8.out HB10.out
    have HS10 : Hid (q6 < w8.heap.size ∧ w.heap.size + 1 < w8.heap.size) := ⟨HR8.out.lt.2, (Array.getElem?_eq_some_iff.1 HZ8.out).1⟩
    clear HDO HCPY HR10
    by_cases hC : C = 0
    · have hRR := HRR.out.2.2 (by first | rfl | trivial) hC
      have HRQ : Hid (R = DM) := hRR
      have HC0 : Hid (C = 0) := hC
      have eC : (C != 0) = false := by rw [hC]; rfl
      clear HRR hRR hC
      go_upto_region 15 with (go_at_call 126; refine HD10.out.mono ?_; rintro e Z ⟨rfl, hrz, hbz⟩)
      have HRZ : Hid (RunS w8.heap.size Z q9 R) := by unfold Hid; rw [HRQ.out]; exact hrz HC0.out
      have HZR : Hid (Z.heap[w.heap.size + 1]? = some (.cells zeroLine 39 (0, 0))) := (hbz.block _ HS10.out.2).trans HZ11.out
      have HBZ : Hid (Below w.heap.size w Z) := HBW10.out.trans (hbz.mono HB8.out.size)
      have HBq : Hid (w.heap.size + 2 ≤ w8.heap.size) := by have := HS10.out; show _ ≤ _; omega
      clear hrz hbz HD10 HR11 HZ11 HBW10 HB10 HR8 HZ8
      obtain ⟨se, ce, hrow, hmem⟩ := id HRZ.out
      obtain ⟨ae, ke, rfl⟩ := own_shape hmem.ss
      obtain ⟨be, je, rfl⟩ := own_shape hmem.cs
      obtain ⟨e0, e1, e2, e3, e4, e5, e6⟩ := RunS.cells hrow
      have g0 := cell_of_row _ _ 0 _ _ _ HZR.out
      have g1 := cell_of_row _ _ 1 _ _ _ HZR.out
      have g2 := cell_of_row _ _ 2 _ _ _ HZR.out
      have g3 := cell_of_row _ _ 3 _ _ _ HZR.out
      have g4 := cell_of_row _ _ 4 _ _ _ HZR.out
      have g5 := cell_of_row _ _ 5 _ _ _ HZR.out
      have g6 := cell_of_row _ _ 6 _ _ _ HZR.out
      have f0 := frozen_of_row _ _ 0 _ _ HZR.out
      have f1 := frozen_of_row _ _ 1 _ _ HZR.out
      have f2 := frozen_of_row _ _ 2 _ _ HZR.out
      have f3 := frozen_of_row _ _ 3 _ _ HZR.out
      have f4 := frozen_of_row _ _ 4 _ _ HZR.out
      have f5 := frozen_of_row _ _ 5 _ _ HZR.out
      have f6 := frozen_of_row _ _ 6 _ _ HZR.out
      simp at g0 g1 g2 g3 g4 g5 g6
      have HE : Hid _ := fill7 (w.heap.size + 1) Z R (.slice ae R.stk.length ke) (.slice be R.cells.length je)
      have HF : Hid (MachR B w (((((((Z.setCell ⟨w.heap.size + 1, 0, none⟩ (.int .i64 R.pc)).setCell ⟨w.heap.size + 1, 1, none⟩ (.slice ae R.stk.length ke)).setCell ⟨w.heap.size + 1, 2, none⟩ (.slice be R.cells.length je)).setCell ⟨w.heap.size + 1, 3, none⟩ (.int .i64 R.sig)).setCell ⟨w.heap.size + 1, 4, none⟩ (.int .i64 R.used)).setCell ⟨w.heap.size + 1, 5, none⟩ (.int .i64 R.trap)).setCell ⟨w.heap.size + 1, 6, none⟩ (.bool R.done)) (.returned (machVs R (.slice ae R.stk.length ke) (.slice be R.cells.length je))) R) :=
        ⟨_, _, rfl, own_mono (own_sole hmem.ss HE.out (fun e => by have := (hmem.ss.lt _ e).1; have := HBq.out; omega)) (by have := HBq.out; omega), own_mono (own_sole hmem.cs HE.out (fun e => by have := (hmem.cs.lt _ e).1; have := HBq.out; omega)) (by have := HBq.out; omega), hmem.d3, HBZ.out.trans (HE.out.bel.mono (by omega))⟩
      clear HE hrow hmem HRZ HZR HBZ HBq
      generalize R.stk.length = le at *
      generalize R.cells.length = he at *
      go_wp2_with fail
      refine bodyPost_ret (v := .agg #[.int .i64 R.pc, .slice ae le ke, .slice be he je, .int .i64 R.sig, .int .i64 R.used, .int .i64 R.trap, .bool R.done]) (by simp [results, Try.results99, go_sem, g0, g1, g2, g3, g4, g5, g6]) rfl ?_
      exact HF.out
    · have hRR := HRR.out.2.1 (by first | rfl | trivial) hC
      have HRQ : Hid (R = trp (usedM m) C) := hRR
      have eC : (C != 0) = true := by simpa using hC
      clear HRR hRR hC
      go_upto_region 13 with (go_at_call 126; refine HD10.out.mono ?_; rintro e w12 ⟨rfl, _, hbz⟩)
      have HR12 : Hid (RunS W.heap.size w12 q6 (usedM m)) := by
        obtain ⟨s8, c8, hl8, hm8⟩ := HR8.out
        refine RunS.kept (w := w8) ⟨s8, c8, hl8, hm8⟩ ?_
        exact HB10.out.trans hbz
      have HZ12 : Hid (w12.heap[w.heap.size + 1]? = some (.cells zeroLine 39 (0, 0))) := (hbz.block _ HS10.out.2).trans HZ11.out
      have HBW12 : Hid (Below w.heap.size w w12) := HBW10.out.trans (hbz.mono HB8.out.size)
      obtain ⟨se8, ce8, hrow8, _⟩ := id HR12.out
      have v5 := (RunS.cells hrow8).2.2.2.2.2.1
      have vf := frozen_of_row _ _ 5 _ _ hrow8
      clear hrow8 hbz HD10 HR11 HZ11 HBW10 HB10 HR8 HZ8
      go_upto_region 14 with fail
      have HRZ : Hid (RunS W.heap.size (w12.setCell ⟨q6, 5, none⟩ (.int .i64 C)) q6 R) := by
        unfold Hid; rw [HRQ.out]; exact HR12.out.fld (m' := trp (usedM m) C) 5 _ (fun _ _ => rfl) rfl rfl
      have HZR : Hid ((w12.setCell ⟨q6, 5, none⟩ (.int .i64 C)).heap[w.heap.size + 1]? = some (.cells zeroLine 39 (0, 0))) := (heap_setCell_other w12 _ (w.heap.size + 1) _ (by have := HQ6.out; have := HS.out; show w.heap.size + 1 ≠ q6; omega)).trans HZ12.out
      have HBZ : Hid (Below w.heap.size w (w12.setCell ⟨q6, 5, none⟩ (.int .i64 C))) := HBW12.out.setCell (by have := HQ6.out; have := HS.out; show w.heap.size ≤ q6; omega) _
      have HBq : Hid (w.heap.size + 2 ≤ W.heap.size) := by have := HS.out; show _ ≤ _; omega
      clear HR12 HZ12 HBW12 v5 vf
      generalize w12.setCell ⟨q6, 5, none⟩ (.int .i64 C) = Z at *
      obtain ⟨se, ce, hrow, hmem⟩ := id HRZ.out
      obtain ⟨ae, ke, rfl⟩ := own_shape hmem.ss
      obtain ⟨be, je, rfl⟩ := own_shape hmem.cs
      obtain ⟨e0, e1, e2, e3, e4, e5, e6⟩ := RunS.cells hrow
      have g0 := cell_of_row _ _ 0 _ _ _ HZR.out
      have g1 := cell_of_row _ _ 1 _ _ _ HZR.out
      have g2 := cell_of_row _ _ 2 _ _ _ HZR.out
      have g3 := cell_of_row _ _ 3 _ _ _ HZR.out
      have g4 := cell_of_row _ _ 4 _ _ _ HZR.out
      have g5 := cell_of_row _ _ 5 _ _ _ HZR.out
      have g6 := cell_of_row _ _ 6 _ _ _ HZR.out
      have f0 := frozen_of_row _ _ 0 _ _ HZR.out
      have f1 := frozen_of_row _ _ 1 _ _ HZR.out
      have f2 := frozen_of_row _ _ 2 _ _ HZR.out
      have f3 := frozen_of_row _ _ 3 _ _ HZR.out
      have f4 := frozen_of_row _ _ 4 _ _ HZR.out
      have f5 := frozen_of_row _ _ 5 _ _ HZR.out
      have f6 := frozen_of_row _ _ 6 _ _ HZR.out
      simp at g0 g1 g2 g3 g4 g5 g6
      have HE : Hid _ := fill7 (w.heap.size + 1) Z R (.slice ae R.stk.length ke) (.slice be R.cells.length je)
      have HF : Hid (MachR B w (((((((Z.setCell ⟨w.heap.size + 1, 0, none⟩ (.int .i64 R.pc)).setCell ⟨w.heap.size + 1, 1, none⟩ (.slice ae R.stk.length ke)).setCell ⟨w.heap.size + 1, 2, none⟩ (.slice be R.cells.length je)).setCell ⟨w.heap.size + 1, 3, none⟩ (.int .i64 R.sig)).setCell ⟨w.heap.size + 1, 4, none⟩ (.int .i64 R.used)).setCell ⟨w.heap.size + 1, 5, none⟩ (.int .i64 R.trap)).setCell ⟨w.heap.size + 1, 6, none⟩ (.bool R.done)) (.returned (machVs R (.slice ae R.stk.length ke) (.slice be R.cells.length je))) R) :=
        ⟨_, _, rfl, own_mono (own_sole hmem.ss HE.out (fun e => by have := (hmem.ss.lt _ e).1; have := HBq.out; omega)) (by have := HBq.out; omega), own_mono (own_sole hmem.cs HE.out (fun e => by have := (hmem.cs.lt _ e).1; have := HBq.out; omega)) (by have := HBq.out; omega), hmem.d3, HBZ.out.trans (HE.out.bel.mono (by omega))⟩
      clear HE hrow hmem HRZ HZR HBZ HBq
      generalize R.stk.length = le at *
      generalize R.cells.length = he at *
      go_wp2_with fail
      refine bodyPost_ret (v := .agg #[.int .i64 R.pc, .slice ae le ke, .slice be he je, .int .i64 R.sig, .int .i64 R.used, .int .i64 R.trap, .bool R.done]) (by simp [results, Try.results99, go_sem, g0, g1, g2, g3, g4, g5, g6]) rfl ?_
      exact HF.out
end Go.Proofs.Ytjofghelenfklaa
namespace Go.Proofs.Ytjofghelenfklaa
open Go.RowKit
set_option maxHeartbeats 400000 in
theorem sFault_any (a : Option Addr) (zs : List Int) (cap : Nat) (w : World) (hlen : zs.length ≤ 9223372036854775807) (hn : Nums w a zs) :
    Calls Try.prog 26 #[.slice a zs.length cap] w fun e w' => e = .returned (.int .i64 (fault zs)) ∧ w' = w := by
  by_cases h4 : 400 < zs.length
  · rw [fault_many h4]
    go_enter Try.func26, Try.ntmps26
    go_wp2
    go_ret
    exact ⟨rfl, rfl⟩
  · go_enter Try.func26, Try.ntmps26
    go_wp2
    go_loop [3] (fun i => ∃ k : Nat, k ≤ zs.length ∧ i = .int .i64 k ∧ ∀ j, j < k → 0 ≤ zs.getD j 0 ∧ zs.getD j 0 ≤ 65535) (fun i => zs.length - (intOf i).toNat)
    case atStart => exact ⟨0, Nat.zero_le _, rfl, fun j hj => by omega⟩
    case round =>
      obtain ⟨k, hk, rfl, ho⟩ := hrel
      have HO : Hid _ := ho
      clear ho
      by_cases hlt : k < zs.length
      · rcases hn with hn | ⟨b, off, rfl, hc⟩
        · subst hn; simp at hlt
        have hcell := hc k hlt
        clear hc
        obtain ⟨z, hz⟩ : ∃ z, z = zs.getD k 0 := ⟨_, rfl⟩
        rw [← hz] at hcell
        have HZ : Hid _ := hz
        clear hz
        by_cases h5 : 0 ≤ z ∧ z ≤ 65535
        · obtain ⟨h5, h6⟩ := h5
          go_wp2_with (go_at_call 82; refine (l1Word_yes _ _ h5 h6).mono ?_; rintro e w' ⟨rfl, rfl⟩)
          go_round
          case rel =>
            refine ⟨k + 1, by omega, by go_num, fun j hj => ?_⟩
            by_cases hjk : j = k
            · subst hjk; rw [← HZ.out]; exact ⟨h5, h6⟩
            · exact HO.out j (by omega)
          case measure => simp [intOf]; omega
        · have h6 : z < 0 ∨ 65535 < z := by omega
          have H6 : Hid _ := h6
          clear h6 h5
          go_wp2_with (go_at_call 82; refine (l1Word_no _ _ H6.out).mono ?_; rintro e w' ⟨rfl, rfl⟩)
          go_ret
          have hf := fault_bad (zs := zs) (by omega) k hlt (by rw [← HZ.out]; exact H6.out)
          exact ⟨by rw [hf]; rfl, rfl⟩
      · have hk2 : k = zs.length := by omega
        subst hk2
        go_wp2
        go_ret
        have hf := fault_ok (zs := zs) (by omega) HO.out
        exact ⟨by rw [hf]; rfl, rfl⟩
end Go.Proofs.Ytjofghelenfklaa
namespace Go.Proofs.Ytjofghelenfklaa
open Go.RowKit
set_option linter.unusedVariables false
attribute [local go_sem ↓] Go.wp_at_zero Go.wp_at_succ

theorem l8Step_go (B0 : Nat) (m : SM) (sv cv : Value) (a : Option Addr) (zs : List Int) (c : Nat) (w : World) (hs : Own w B0 sv m.stk) (hc : Own w B0 cv m.cells) (hgo : goes m = true) (hg : Good m) (hz : Nums w a zs) (hl : zs.length ≤ 400) (hw : wordsB zs = true) :
    Calls Try.prog 99 #[.slice a zs.length c, machVs m sv cv] w fun e w' => MachR w.heap.size w w' e (stepL zs m) := by
  obtain ⟨k, hk⟩ := Int.eq_ofNat_of_zero_le hg.pc0
  refine lstep_go B0 w.heap.size k m _ sv cv a zs c w hs hc (Nat.le_refl _) hgo hg hk hz hl hw (fun h => rdy_no hk h (fun i => ?_)) (fun h h2 => ?_) (fun h h2 => ?_)
  · by_cases hi : i < zs.length
    · exact (wordsB_get hw hi).1
    · rw [List.getD_eq_getElem?_getD, List.getElem?_eq_none (by omega)]; simp
  · rw [(rdy_yes hk h).2.2.2.2.2.2, if_pos h2]
  · rw [(rdy_yes hk h).2.2.2.2.2.2, if_neg (by rw [h2]; simp)]

theorem l8Step_any (B : Nat) (m : SM) (sv cv : Value) (a : Option Addr) (zs : List Int) (c : Nat) (w : World) (hs : Own w B sv m.stk) (hc : Own w B cv m.cells) (hd : ∀ g, sv.ownBlock = some g → cv.ownBlock ≠ some g) (hB : B ≤ w.heap.size) (hg : Good m) (hz : Nums w a zs) (hl : zs.length ≤ 400) (hw : wordsB zs = true) :
    Calls Try.prog 99 #[.slice a zs.length c, machVs m sv cv] w fun e w' => MachR B w w' e (stepM zs m) := by
  cases hgo : goes m
  · have e : stepM zs m = m := by unfold stepM; rw [if_neg (by rw [hgo]; simp)]
    rw [e]
    exact lstep_stop B m sv cv a zs c w hs hc hd hB hgo
  · have e : stepM zs m = stepL zs m := by unfold stepM; rw [if_pos hgo]
    rw [e]
    refine (l8Step_go B m sv cv a zs c w hs hc hgo hg hz hl hw).mono ?_
    rintro e w' ⟨s', c', h1, h2, h3, h4, h5⟩
    exact ⟨s', c', h1, own_mono h2 hB, own_mono h3 hB, h4, h5⟩

set_option maxHeartbeats 6400000 in
set_option maxRecDepth 100000 in
theorem sStep_any (a : Option Addr) (zs : List Int) (c : Nat) (m : SM) (sv cv : Value) (w : World) (hn : Nums w a zs) (hl : zs.length ≤ 1048576) (hs : RowV w sv m.stk) (hc : RowV w cv m.cells) (hl1 : m.stk.length ≤ 1048576) (hl2 : m.cells.length ≤ 1048576) :
    Calls Try.prog 58 #[.slice a zs.length c, machVs m sv cv] w fun e w' => ResR w w' e (stepC zs m) (stepR zs m) := by
  have hX : Hid (∀ W, W = (w.alloc (.cells (lineS m sv cv) 39)).alloc (.cells zero8 41) →
      Below w.heap.size w W ∧ W.heap[w.heap.size]? = some (.cells (lineS m sv cv) 39 (0, 0)) ∧ W.heap[w.heap.size + 1]? = some (.cells zero8 41 (0, 0)) ∧ W.heap.size = w.heap.size + 2) := fun W e => by
    subst e
    have x1 := heap_alloc_new w (.cells (lineS m sv cv) 39)
    have y1 := (Below.refl w.heap.size w).alloc (Nat.le_refl _) (.cells (lineS m sv cv) 39)
    have s1 : (w.alloc (.cells (lineS m sv cv) 39)).heap.size = w.heap.size + 1 := by simp
    generalize w.alloc (.cells (lineS m sv cv) 39) = W1 at *
    have x2 := heap_alloc_new W1 (.cells zero8 41)
    have y2 := (Below.refl W1.heap.size W1).alloc (Nat.le_refl _) (.cells zero8 41)
    rw [s1] at x2
    exact ⟨y1.trans (y2.mono (by omega)), blk8 x1 y2, x2, by simp [s1]⟩
  have HCW : Hid (∀ W, Below w.heap.size w W → Calls Try.prog 26 #[.slice a zs.length c] W fun e w' => e = .returned (.int .i64 (fault zs)) ∧ w' = W) := fun W h => sFault_any a zs c W (by omega) (hn.below h)
  have HCF : Hid (∀ W, Below w.heap.size w W → W.heap[w.heap.size]? = some (.cells (lineS m sv cv) 39 (0, 0)) → Calls Try.prog 83 #[.pointer (some ⟨w.heap.size, 0, none⟩)] W fun e w' => e = .returned (.int .i64 (smF m)) ∧ w' = W) := fun W h hr => l8Fault_any w.heap.size m sv cv W hr (hs.below h) (hc.below h) hl1 hl2
  have HCC : Hid (∀ W, Below w.heap.size w W → Calls Try.prog 100 #[machVs m sv cv] W fun e w' => ∃ sv' cv', e = .returned (machVs m sv' cv') ∧ Own w' W.heap.size sv' m.stk ∧ Own w' W.heap.size cv' m.cells ∧ (∀ g, sv'.ownBlock = some g → cv'.ownBlock ≠ some g) ∧ Below W.heap.size W w') := fun W h => l8Copy_any m sv cv W (hs.below h) (hc.below h) hl1 hl2
  have HCS : Hid (fault zs = 0 → smF m = 0 → ∀ (B : Nat) (W : World) (s c2 : Value), Below w.heap.size w W → Own W B s m.stk → Own W B c2 m.cells → (∀ g, s.ownBlock = some g → c2.ownBlock ≠ some g) → B ≤ W.heap.size → Calls Try.prog 99 #[.slice a zs.length c, machVs m s c2] W fun e w' => ∃ x1 y1 x2 y2, e = .returned (machVs (stepM zs m) (.slice x1 (stepM zs m).stk.length y1) (.slice x2 (stepM zs m).cells.length y2)) ∧ Own w' B (.slice x1 (stepM zs m).stk.length y1) (stepM zs m).stk ∧ Own w' B (.slice x2 (stepM zs m).cells.length y2) (stepM zs m).cells ∧ (∀ g, (Value.slice x1 (stepM zs m).stk.length y1).ownBlock = some g → (Value.slice x2 (stepM zs m).cells.length y2).ownBlock ≠ some g) ∧ Below W.heap.size W w') := fun h1 h2 B W s c2 hb o1 o2 o3 hB => by
    refine (l8Step_any B m s c2 a zs c W o1 o2 o3 hB (good_of h2) (hn.below hb) (fault_good h1).2 (fault_good h1).1).mono ?_
    rintro e w' ⟨s3, c3, h3, h4, h5, h6, h7⟩
    obtain ⟨x1, y1, rfl⟩ := own_shape h4
    obtain ⟨x2, y2, rfl⟩ := own_shape h5
    exact ⟨x1, y1, x2, y2, h3, h4, h5, h6, h7⟩
  have HR : Hid ((fault zs ≠ 0 → stepC zs m = fault zs ∧ stepR zs m = zeroM) ∧ (fault zs = 0 → smF m ≠ 0 → stepC zs m = smF m ∧ stepR zs m = zeroM) ∧ (fault zs = 0 → smF m = 0 → stepC zs m = 0 ∧ stepR zs m = stepM zs m)) := by
    refine ⟨fun h => ?_, fun h h2 => ?_, fun h h2 => ?_⟩
    · have e : stepC zs m = fault zs := if_neg h
      exact ⟨e, by unfold stepR; rw [e, if_neg h]⟩
    · have e : stepC zs m = smF m := if_pos h
      exact ⟨e, by unfold stepR; rw [e, if_neg h2]⟩
    · have e : stepC zs m = 0 := (if_pos h).trans h2
      exact ⟨e, by unfold stepR; rw [e, if_pos rfl]⟩
  have hsh : ∃ x y n, sv = .slice x n y := by obtain ⟨x, y, e, _⟩ := hs; exact ⟨x, y, _, e⟩
  have hch : ∃ x y n, cv = .slice x n y := by obtain ⟨x, y, e, _⟩ := hc; exact ⟨x, y, _, e⟩
  clear hn hl hs hc hl1 hl2
  obtain ⟨xs, ys, ns, rfl⟩ := hsh
  obtain ⟨xc, yc, nc, rfl⟩ := hch
  generalize fault zs = fz at *
  generalize smF m = F at *
  generalize stepM zs m = M at *
  generalize stepC zs m = C at *
  generalize stepR zs m = R at *
  generalize zs.length = L at *
  generalize hM1 : M.stk.length = l1 at *
  generalize hM2 : M.cells.length = l2 at *
  go_enter Try.func58, Try.ntmps58
  go_upto_region 1 with fail
  have hXX := hX.out _ rfl
  generalize (w.alloc (.cells (lineS m (.slice xs ns ys) (.slice xc nc yc)) 39)).alloc (.cells zero8 41) = W at *
  obtain ⟨x1, x2, x3, x4⟩ := hXX
  have HB : Hid (Below w.heap.size w W) := x1
  have HA : Hid (W.heap[w.heap.size]? = _) := x2
  have HZ : Hid (W.heap[w.heap.size + 1]? = _) := x3
  have HS : Hid (W.heap.size = w.heap.size + 2) := x4
  clear x1 x2 x3 x4 hX
  have g0 := cell_of_row _ _ 0 _ _ _ HZ.out
  have g1 := cell_of_row _ _ 1 _ _ _ HZ.out
  have g2 := cell_of_row _ _ 2 _ _ _ HZ.out
  have g3 := cell_of_row _ _ 3 _ _ _ HZ.out
  have g4 := cell_of_row _ _ 4 _ _ _ HZ.out
  have g5 := cell_of_row _ _ 5 _ _ _ HZ.out
  have g6 := cell_of_row _ _ 6 _ _ _ HZ.out
  have g7 := cell_of_row _ _ 7 _ _ _ HZ.out
  have f0 := frozen_of_row _ _ 0 _ _ HZ.out
  have f1 := frozen_of_row _ _ 1 _ _ HZ.out
  have f2 := frozen_of_row _ _ 2 _ _ HZ.out
  have f3 := frozen_of_row _ _ 3 _ _ HZ.out
  have f4 := frozen_of_row _ _ 4 _ _ HZ.out
  have f5 := frozen_of_row _ _ 5 _ _ HZ.out
  have f6 := frozen_of_row _ _ 6 _ _ HZ.out
  have f7 := frozen_of_row _ _ 7 _ _ HZ.out
  simp at g0 g1 g2 g3 g4 g5 g6 g7
  by_cases hz : fz = 0
  case neg =>
    have hR := HR.out.1 hz
    obtain ⟨rfl, rfl⟩ := hR
    have e0 : (C != 0) = true := by simpa using hz
    have HF : Hid _ := res_code w W (w.heap.size + 1) C (by omega) HB.out
    clear hz HCF HCC HCS HR HA HZ
    go_wp2_with (go_at_call 26; refine (HCW.out W HB.out).mono ?_; rintro e w5 ⟨rfl, hw5⟩; have hw6 := hw5.symm; clear hw5; subst hw6)
    refine bodyPost_ret (v := codeV C) (by simp [results, Try.results58, go_sem, g0, g1, g2, g3, g4, g5, g6, g7]; try rfl) rfl ?_
    exact HF.out
  subst hz
  by_cases hf : F = 0
  case neg =>
    have hR := HR.out.2.1 (by first | rfl | trivial) hf
    obtain ⟨rfl, rfl⟩ := hR
    have e0 : (C != 0) = true := by simpa using hf
    have HF : Hid _ := res_code w W (w.heap.size + 1) C (by omega) HB.out
    clear hf HCC HCS HR HZ
    go_wp2_with (first | (go_at_call 26; refine (HCW.out W HB.out).mono ?_; rintro e w5 ⟨rfl, hw5⟩; have hw6 := hw5.symm; clear hw5; subst hw6) | (go_at_call 83; refine (HCF.out W HB.out HA.out).mono ?_; rintro e w5 ⟨rfl, hw5⟩; have hw6 := hw5.symm; clear hw5; subst hw6))
    refine bodyPost_ret (v := codeV C) (by simp [results, Try.results58, go_sem, g0, g1, g2, g3, g4, g5, g6, g7]; try rfl) rfl ?_
    exact HF.out
  subst hf
  have hR := HR.out.2.2 (by first | rfl | trivial) (by first | rfl | trivial)
  obtain ⟨rfl, rfl⟩ := hR
  obtain ⟨d0, d1, d2, d3, d4, d5, d6⟩ := RunS.cells HA.out
  clear g0 g1 g2 g3 g4 g5 g6 g7 f0 f1 f2 f3 f4 f5 f6 f7 HR
  go_upto_region 7 with (first | (go_at_call 26; refine (HCW.out W HB.out).mono ?_; rintro e w5 ⟨rfl, hw5⟩; have hw6 := hw5.symm; clear hw5; subst hw6) | (go_at_call 83; refine (HCF.out W HB.out HA.out).mono ?_; rintro e w5 ⟨rfl, hw5⟩; have hw6 := hw5.symm; clear hw5; subst hw6))
  clear HCW HCF
  go_wp2_with fail
  refine (HCC.out W HB.out).mono ?_
  rintro e w3 ⟨s3, c3, rfl, o1, o2, o3, b3⟩
  have HB3 : Hid (Below w.heap.size w w3) := HB.out.trans (b3.mono HB.out.size)
  have HO : Hid (Own w3 W.heap.size s3 m.stk ∧ Own w3 W.heap.size c3 m.cells ∧ (∀ g, s3.ownBlock = some g → c3.ownBlock ≠ some g) ∧ W.heap.size ≤ w3.heap.size) := ⟨o1, o2, o3, b3.size⟩
  have HZ3 : Hid _ := blk8 HZ.out b3
  have HWS : Hid (w.heap.size + 1 < W.heap.size) := by have := HS.out; show _ < _; omega
  clear HCC o1 o2 o3 b3 HZ HA d0 d1 d2 d3 d4 d5 d6 HB
  go_wp2_with fail
  refine (HCS.out (by first | rfl | trivial) (by first | rfl | trivial) W.heap.size w3 s3 c3 HB3.out HO.out.1 HO.out.2.1 HO.out.2.2.1 HO.out.2.2.2).mono ?_
  rintro e w4 ⟨x1, y1, x2, y2, rfl, o1, o2, o3, b4⟩
  have HB4 : Hid (Below w.heap.size w w4) := HB3.out.trans (b4.mono HB3.out.size)
  have HZ4 := blk8 HZ3.out b4
  have HF : Hid _ := res_mach w w4 (w.heap.size + 1) W.heap.size R _ _ (by omega) HWS.out (by rw [← hM1] at o1; exact o1) (by rw [← hM2] at o2; exact o2) (by rw [← hM1, ← hM2] at o3; exact o3) HB4.out
  have g0 := cell_of_row _ _ 0 _ _ _ HZ4
  have g1 := cell_of_row _ _ 1 _ _ _ HZ4
  have g2 := cell_of_row _ _ 2 _ _ _ HZ4
  have g3 := cell_of_row _ _ 3 _ _ _ HZ4
  have g4 := cell_of_row _ _ 4 _ _ _ HZ4
  have g5 := cell_of_row _ _ 5 _ _ _ HZ4
  have g6 := cell_of_row _ _ 6 _ _ _ HZ4
  have g7 := cell_of_row _ _ 7 _ _ _ HZ4
  have f0 := frozen_of_row _ _ 0 _ _ HZ4
  have f1 := frozen_of_row _ _ 1 _ _ HZ4
  have f2 := frozen_of_row _ _ 2 _ _ HZ4
  have f3 := frozen_of_row _ _ 3 _ _ HZ4
  have f4 := frozen_of_row _ _ 4 _ _ HZ4
  have f5 := frozen_of_row _ _ 5 _ _ HZ4
  have f6 := frozen_of_row _ _ 6 _ _ HZ4
  have f7 := frozen_of_row _ _ 7 _ _ HZ4
  simp at g0 g1 g2 g3 g4 g5 g6 g7
  rw [hM1, hM2] at HF
  clear HCS HO o1 o2 o3 b4 HZ3 HZ4 HB3 HB4
  go_wp2_with fail
  refine bodyPost_ret (v := .agg #[.int .i64 0, .int .i64 R.pc, .slice x1 l1 y1, .slice x2 l2 y2, .int .i64 R.sig, .int .i64 R.used, .int .i64 R.trap, .bool R.done]) (by simp [results, Try.results58, go_sem, g0, g1, g2, g3, g4, g5, g6, g7]; try rfl) rfl ?_
  exact HF.out
end Go.Proofs.Ytjofghelenfklaa
namespace Go.Proofs.Ytjofghelenfklaa
open Go.RowKit
set_option linter.unusedVariables false

theorem step_small (zs : List Int) (m : SM) : (stepR zs m).stk.length ≤ 1000 ∧ (stepR zs m).cells.length ≤ 1000 := by
  unfold stepR
  by_cases h : stepC zs m = 0
  · rw [if_pos h]
    have hf : fault zs = 0 := by
      by_cases hf : fault zs = 0
      · exact hf
      · unfold stepC at h; rw [if_neg hf] at h; exact absurd h hf
    have hm : smF m = 0 := by unfold stepC at h; rw [if_pos hf] at h; exact h
    have hg := fault_good hf
    have := stepM_good (good_of hm) hg.1 hg.2
    exact ⟨by have := this.sl; omega, by have := this.cl; omega⟩
  · rw [if_neg h]
    exact ⟨by simp [zeroM], by simp [zeroM]⟩

set_option maxHeartbeats 6400000 in
set_option maxRecDepth 100000 in
theorem fnExactStepStack_walk (a0 : Option Addr) (len0 cap0 : Nat) (z0 : List Int) (sv1 cv1 : Value) (m1 : SM) (w : World) (w0 : IsRow .i64 w a0 len0 cap0 z0) (w1 : IsMach w sv1 cv1 m1) :
    Calls Try.prog 13 #[.slice a0 len0 cap0, .agg #[.int .i64 m1.pc, sv1, cv1, .int .i64 m1.sig, .int .i64 m1.used, .int .i64 m1.trap, .bool m1.done]] w fun e w' => e = .returned (.bool true) ∧ Below w.heap.size w w' := by
  obtain ⟨hl, hn⟩ := nums_of_row w0
  obtain ⟨zs, hzs⟩ : ∃ zs, zs = z0.take len0 := ⟨_, rfl⟩
  rw [← hzs] at hl hn
  subst hl
  clear hzs w0
  obtain ⟨hs, hc, hsl, hcl⟩ := w1
  have HRS : Hid (∀ W, Below w.heap.size w W → RowV W sv1 m1.stk ∧ RowV W cv1 m1.cells) := fun W hb => ⟨hs.below hb, hc.below hb⟩
  obtain ⟨a1, k1, rfl, _⟩ := hs
  obtain ⟨a2, k2, rfl, _⟩ := hc
  have hA := heap_alloc_new w (.cells (lineL m1 (.slice a1 m1.stk.length k1) (.slice a2 m1.cells.length k2)) 67)
  have hB : Below w.heap.size w (w.alloc (.cells (lineL m1 (.slice a1 m1.stk.length k1) (.slice a2 m1.cells.length k2)) 67)) := (Below.refl _ _).alloc (Nat.le_refl _) _
  by_cases hbig : 1048576 < zs.length
  · have HB : Hid _ := hB
    clear hB hA hsl hcl
    go_enter Try.func13, Try.ntmps13
    go_wp2
    go_ret
    exact ⟨rfl, HB.out⟩
  have hzl : zs.length ≤ 1048576 := by omega
  clear hbig
  have HSZ : Hid (∀ W, Calls Try.prog 50 #[machL m1 (.slice a1 m1.stk.length k1) (.slice a2 m1.cells.length k2), .int .i64 1048576] W fun e w' => ∃ r : Int, e = .returned (.int .i64 r) ∧ (0 ≤ r → m1.stk.length ≤ 1048576 ∧ m1.cells.length ≤ 1048576 ∧ r ≤ 1048576) ∧ Below W.heap.size W w') := fun W => szMach_any m1 a1 a2 k1 k2 1048576 (by omega) (by omega) hsl hcl W
  have HTO : Hid (∀ W, Below w.heap.size w W → Calls Try.prog 35 #[.slice a0 zs.length cap0] W fun e w' => e = .returned (.slice (some ⟨W.heap.size, 0, none⟩) zs.length zs.length) ∧ Own w' W.heap.size (.slice (some ⟨W.heap.size, 0, none⟩) zs.length zs.length) zs ∧ Below W.heap.size W w') := fun W h => copy_any a0 zs cap0 W hzl (hn.below h)
  clear hsl hcl
  go_enter Try.func13, Try.ntmps13
  go_upto_region 4 with fail
  generalize w.alloc (.cells (lineL m1 (.slice a1 m1.stk.length k1) (.slice a2 m1.cells.length k2)) 67) = W at *
  obtain ⟨c0, c1, c2, c3, c4, c5, c6⟩ := row7 hA
  go_wp2_with fail
  refine (HSZ.out _).mono ?_
  rintro e w1 ⟨r, rfl, hr, hb⟩
  have HA : Hid (w1.heap[w.heap.size]? = some (.cells (lineL m1 (.slice a1 m1.stk.length k1) (.slice a2 m1.cells.length k2)) 67 (0, 0))) := blk8 hA hb
  have HB : Hid (Below w.heap.size w w1) := hB.trans (hb.mono hB.size)
  clear hb hA hB c0 c1 c2 c3 c4 c5 c6 HSZ
  by_cases h0 : 0 ≤ r
  · obtain ⟨hz1, hz2, _⟩ := hr h0
    have HCC : Hid (∀ W, Below w1.heap.size w1 W → W.cell? ⟨w.heap.size, 0, none⟩ = some (.int .i64 m1.pc) ∧ W.cell? ⟨w.heap.size, 1, none⟩ = some (.slice a1 m1.stk.length k1) ∧ W.cell? ⟨w.heap.size, 2, none⟩ = some (.slice a2 m1.cells.length k2) ∧ W.cell? ⟨w.heap.size, 3, none⟩ = some (.int .i64 m1.sig) ∧ W.cell? ⟨w.heap.size, 4, none⟩ = some (.int .i64 m1.used) ∧ W.cell? ⟨w.heap.size, 5, none⟩ = some (.int .i64 m1.trap) ∧ W.cell? ⟨w.heap.size, 6, none⟩ = some (.bool m1.done)) := fun W hb => row7 (blk8 HA.out hb)
    have HT : Hid (Trio 35 52 58 w (.slice a0 zs.length cap0) (machL m1 (.slice a1 m1.stk.length k1) (.slice a2 m1.cells.length k2)) zs m1 (stepC zs m1) (stepR zs m1)) :=
      ⟨fun W h => (HTO.out W h).mono fun e w' h => ⟨_, h.1, (nums_of_own h.2.1).2, (own_lt h.2.1 rfl).2, h.2.2⟩,
       fun W h => (toMach_any m1 _ _ W (HRS.out W h).1 (HRS.out W h).2 hz1 hz2).mono fun e w' ⟨g1, g2, _, he, h1, h2, hb⟩ => ⟨_, _, he, own_row h1, own_row h2, hb⟩,
       fun p g sv cv W hp h1 _ h2 h3 => (sStep_any (some ⟨g, 0, none⟩) zs zs.length m1 sv cv W h1 hzl h2 h3 hz1 hz2).mono fun e w' h => h.g hp,
       fun g sv cv W h1 _ h2 h3 => (sStep_any (some ⟨g, 0, none⟩) zs zs.length m1 sv cv W h1 hzl h2 h3 hz1 hz2).mono fun e w' h => h.s⟩
    have HI0 : Hid (∀ (g : Nat) (sv cv : Value) W, Nums W (some ⟨g, 0, none⟩) zs → g < W.heap.size → RowV W sv m1.stk → RowV W cv m1.cells → Calls Try.prog 30 #[.slice (some ⟨g, 0, none⟩) zs.length zs.length, machL m1 sv cv] W fun e w' => ResR W w' e (stepC zs m1) (stepR zs m1)) := fun g sv cv W h1 hg h2 h3 => iStep_any (some ⟨g, 0, none⟩) zs zs.length m1 sv cv W h1 (fun b off e => by have := Option.some.inj e; have := congrArg Addr.block this; simp at this; omega) hzl (Nat.le_refl _) h2 h3 hz1 hz2
    have HU : Hid (Trio 35 52 30 w (.slice a0 zs.length cap0) (machL m1 (.slice a1 m1.stk.length k1) (.slice a2 m1.cells.length k2)) zs m1 (stepC zs m1) (stepR zs m1)) :=
      ⟨HT.out.t, HT.out.m, fun p g sv cv W hp h1 hg h2 h3 => (HI0.out g sv cv W h1 hg h2 h3).mono fun e w' h => h.g hp,
       fun g sv cv W h1 hg h2 h3 => (HI0.out g sv cv W h1 hg h2 h3).mono fun e w' h => h.s⟩
    have HIM : Hid (∀ (g : Nat) (sv cv : Value) W, Nums W (some ⟨g, 0, none⟩) zs → g < W.heap.size → RowV W sv m1.stk → RowV W cv m1.cells → Calls Try.prog 30 #[.slice (some ⟨g, 0, none⟩) zs.length zs.length, machL m1 sv cv] W fun e w' => ResS W w' e (stepC zs m1) (stepR zs m1)) := fun g sv cv W h1 hg h2 h3 => (HI0.out g sv cv W h1 hg h2 h3).mono fun e w' h => h.s
    have HTM : Hid (∀ W, Below w.heap.size w W → Calls Try.prog 52 #[machL m1 (.slice a1 m1.stk.length k1) (.slice a2 m1.cells.length k2)] W fun e w' => ∃ g1 g2, e = .returned (machL m1 (.slice (some ⟨g1, 0, none⟩) m1.stk.length m1.stk.length) (.slice (some ⟨g2, 0, none⟩) m1.cells.length m1.cells.length)) ∧ Below W.heap.size W w' ∧ VarM (w'.alloc (.cells (lineL m1 (.slice (some ⟨g1, 0, none⟩) m1.stk.length m1.stk.length) (.slice (some ⟨g2, 0, none⟩) m1.cells.length m1.cells.length)) 39)) W.heap.size w'.heap.size m1 (some ⟨g1, 0, none⟩) (some ⟨g2, 0, none⟩) m1.stk.length m1.cells.length) := fun W hW =>
      (toMach_any m1 _ _ W (HRS.out W hW).1 (HRS.out W hW).2 hz1 hz2).mono fun e w' ⟨g1, g2, hne, he, h1, h2, hb⟩ => ⟨g1, g2, he, hb, heap_alloc_new _ _, own_kept h1 ((Below.refl _ _).alloc (Nat.le_refl _) _), own_kept h2 ((Below.refl _ _).alloc (Nat.le_refl _) _), fun g e1 e2 => hne (by have := Option.some.inj e1; have := Option.some.inj e2; simp_all), fun g e => own_lt h1 (by simp [Option.some.inj e]), fun g e => own_lt h2 (by simp [Option.some.inj e])⟩
    clear HRS
    have HEM : Hid (∀ sv cv sv' cv' W, RowV W sv m1.stk → RowV W cv m1.cells → RowV W sv' m1.stk → RowV W cv' m1.cells → Calls Try.prog 54 #[machL m1 sv cv, machL m1 sv' cv'] W fun e w' => e = .returned (.bool true) ∧ Below W.heap.size W w') := fun sv cv sv' cv' W h1 h2 h3 h4 => eqMach_any m1 sv cv sv' cv' W h1 h2 h3 h4 hz1 hz2
    clear HI0
    obtain ⟨hm1, hm2⟩ := step_small zs m1
    generalize stepC zs m1 = C at *
    generalize stepR zs m1 = M at *
    have HEN : Hid (∀ (a b : Option Addr) (W : World), Nums W a zs → Nums W b zs → Calls Try.prog 37 #[.slice a zs.length zs.length, .slice b zs.length zs.length] W fun e w' => e = .returned (.bool true) ∧ Below W.heap.size W w') := fun a b W h1 h2 => eqNums_any a b zs _ _ W (by omega) h1 h2
    have HER : Hid (∀ (a1 a2 b1 b2 : Option Addr) (c1 c2 d1 d2 : Nat) (W : World), RowV W (.slice a1 M.stk.length c1) M.stk ∧ RowV W (.slice a2 M.cells.length c2) M.cells → RowV W (.slice b1 M.stk.length d1) M.stk ∧ RowV W (.slice b2 M.cells.length d2) M.cells → Calls Try.prog 55 #[resV C M (.slice a1 M.stk.length c1) (.slice a2 M.cells.length c2), resV C M (.slice b1 M.stk.length d1) (.slice b2 M.cells.length d2)] W fun e w' => e = .returned (.bool true) ∧ Below W.heap.size W w') := fun a1 a2 b1 b2 c1 c2 d1 d2 W h1 h2 => eqRes8_any C M _ _ _ _ W h1.1 h1.2 h2.1 h2.2 (by omega) (by omega)
    have HMK : Hid (∀ (W : World) (g : Nat), Own W g (.slice (some ⟨g, 0, none⟩) zs.length zs.length) zs → Calls Try.prog 38 #[.slice (some ⟨g, 0, none⟩) zs.length zs.length, .int .i64 1] W fun e w' => e = .returned (.int .i64 (1 + zs.length)) ∧ Below g W w' ∧ w'.heap.size = W.heap.size ∧ (∀ q, q ≠ g → w'.heap[q]? = W.heap[q]?)) := fun W g h => (mark_any _ zs _ g 1 W hzl (by omega) (by omega) h).mono fun e w' h => ⟨h.1, h.2.2.1, h.2.2.2.1, fun q hq => h.2.2.2.2 q (fun e => hq (by have := Option.some.inj e; have := congrArg Addr.block this; exact this.symm))⟩
    have HMM : Hid (∀ (s1 s2 : Option Addr) (t1 t2 D y : Nat) (W : World), D ≤ W.heap.size → VarM W D y m1 s1 s2 t1 t2 → Calls Try.prog 59 #[machL m1 (.slice s1 m1.stk.length t1) (.slice s2 m1.cells.length t2), .int .i64 (1 + zs.length)] W fun e w' => e = .returned (.int .i64 (1 + zs.length + m1.stk.length + m1.cells.length)) ∧ Marked D W w' (1 + zs.length) s1 s2 m1.stk.length m1.cells.length) := fun s1 s2 t1 t2 D y W hB h => markMach_any m1 s1 s2 t1 t2 D (1 + zs.length) W h.s h.c h.d hB hz1 hz2 (by omega) (by omega)
    have HMR : Hid (∀ (a1 a2 : Option Addr) (c1 c2 B p : Nat) (W : World), B ≤ W.heap.size → Var8 W B p C M a1 a2 c1 c2 → Calls Try.prog 56 #[resV C M (.slice a1 M.stk.length c1) (.slice a2 M.cells.length c2), .int .i64 1] W fun e w' => e = .returned (.int .i64 (1 + M.stk.length + M.cells.length)) ∧ Marked B W w' 1 a1 a2 M.stk.length M.cells.length) := fun a1 a2 c1 c2 B p W hB h => markRes8_any C M a1 a2 c1 c2 B 1 W h.s h.c h.d hB hm1 hm2 (by omega) (by omega)
    have HHD : Hid (∀ (a1 a2 : Option Addr) (c1 c2 : Nat) (W : World), Nums W a1 (marks 1 M.stk.length) → Nums W a2 (marks (1 + M.stk.length) M.cells.length) → Calls Try.prog 57 #[resV C M (.slice a1 M.stk.length c1) (.slice a2 M.cells.length c2), .int .i64 1] W fun e w' => e = .returned (.int .i64 (1 + M.stk.length + M.cells.length)) ∧ Below W.heap.size W w') := fun a1 a2 c1 c2 W h1 h2 => heldRes8_any C M a1 a2 _ _ c1 c2 1 W h1 h2 hm1 hm2 (by omega) (by omega)
    have HNN : Hid (¬ ((1 : Int) + zs.length + m1.stk.length + m1.cells.length < 0)) := by unfold Hid; omega
    have HNM : Hid (¬ ((1 : Int) + M.stk.length + M.cells.length < 0)) := by unfold Hid; omega
    have HIMS : Hid (∀ (sv cv : Value) (g : Nat) W, Own W g (.slice (some ⟨g, 0, none⟩) zs.length zs.length) zs → RowV W sv m1.stk → RowV W cv m1.cells → Calls Try.prog 30 #[.slice (some ⟨g, 0, none⟩) zs.length zs.length, machL m1 sv cv] W fun e w' => ResS W w' e C M) := fun sv cv g W h h2 h3 => HIM.out g sv cv W (nums_of_own h).2 (own_lt h rfl).2 h2 h3
    clear hr hn hz1 hz2 hm1 hm2 HIM
    obtain ⟨c0, c1, c2, c3, c4, c5, c6⟩ := HCC.out _ (Below.refl _ _)
    go_upto_region 7 with fail
    go_cut [6] from 22 (fun x W' => Hid (∃ (p B E : Nat) (b1 b2 : Option Addr) (d1 d2 : Nat), x = .pointer (some ⟨p, 0, none⟩) ∧ VarE W' B E p C M b1 b2 d1 d2 ∧ E ≤ W'.heap.size ∧ Below w1.heap.size w1 W' ∧ w1.heap.size ≤ p))
    case first =>
      rename_i J K1 hJ hK
      have hS0 : Below w1.heap.size w1 w1 := Below.refl _ _
      go_region_held3 (fun W => Below w1.heap.size w1 W ∧ W.cell? ⟨w.heap.size, 0, none⟩ = some (.int .i64 m1.pc) ∧ W.cell? ⟨w.heap.size, 1, none⟩ = some (.slice a1 m1.stk.length k1) ∧ W.cell? ⟨w.heap.size, 2, none⟩ = some (.slice a2 m1.cells.length k2) ∧ W.cell? ⟨w.heap.size, 3, none⟩ = some (.int .i64 m1.sig) ∧ W.cell? ⟨w.heap.size, 4, none⟩ = some (.int .i64 m1.used) ∧ W.cell? ⟨w.heap.size, 5, none⟩ = some (.int .i64 m1.trap) ∧ W.cell? ⟨w.heap.size, 6, none⟩ = some (.bool m1.done)) (first | (with_reducible exact ⟨by assumption, HCC.out _ (by assumption)⟩) | (with_reducible exact ⟨HBB.out, HCC.out _ HBB.out⟩) | (with_reducible exact ⟨hS0.drew, HCC.out _ hS0.drew⟩) | (with_reducible exact ⟨(below_al hS0).drew, HCC.out _ (below_al hS0).drew⟩) | (with_reducible exact ⟨below_al hD5, HCC.out _ (below_al hD5)⟩) | (with_reducible exact ⟨below_al hD4, HCC.out _ (below_al hD4)⟩) | (with_reducible exact ⟨below_al hD3, HCC.out _ (below_al hD3)⟩) | fail) (first | (go_at_call 35; refine (HT.out.t _ (HB.out.trans (Below.mono (And.left (by with_reducible assumption)) HB.out.size))).mono ?_; rintro e w3 ⟨g3, rfl, hn3, hl3, hb⟩; have hD3 : Below w1.heap.size w1 w3 := step_below (And.left (by with_reducible assumption)) hb; have HN3 := hid hn3; have HL3 := hid hl3; (try (have HZ3 := hid (blk8 (al_drew _ _) hb))); clear hb hn3 hl3) | (go_at_call 52; refine (HT.out.m _ (HB.out.trans (Below.mono (And.left (by with_reducible assumption)) HB.out.size))).mono ?_; rintro e w4 ⟨sv, cv, rfl, hr1, hr2, hb⟩; have hD4 : Below w1.heap.size w1 w4 := step_below (And.left (by with_reducible assumption)) hb; (first | (have HN4 := hid (HN3.out.below hb); have HL4 := hid (Nat.lt_of_lt_of_le HL3.out hb.size)) | (have HN4 := hid (HN3.out.below (back hb)); have HL4 := hid (Nat.lt_of_lt_of_le HL3.out (back hb).size))); (first | (have HZ4 := hid (blk8 HZ3.out hb)) | (have HZ4 := hid (blk8 (heap_alloc_new _ _) hb)) | skip); have HR4 := hid hr1; have HS4 := hid hr2; clear hb hr1 hr2) | (go_at_call 58; (first | (have hz := HZ4.out; refine (HT.out.g _ _ _ _ _ hz HN4.out HL4.out HR4.out HS4.out).mono ?_; rintro e w5 ⟨b1, b2, d1, d2, rfl, hrow, hb, hv, hbb⟩; have hD5 : Below w1.heap.size w1 w5 := step_below hD4 hb; have HBB := hid (Below.trans hD5 (hbb.mono (by first | exact Nat.le_refl _ | exact hD3.size | exact hD4.size))); have HV := hid hv; have HVE := hid hbb.size; obtain ⟨t0, t1, t2, t3, t4, t5, t6, t7⟩ := cl8 hrow; obtain ⟨f0, f1, f2, f3, f4, f5, f6, f7⟩ := fl8 hrow; clear hb hv hrow hbb) | ((with_reducible show Calls _ _ _ (World.alloc w4 _) _); refine (HT.out.g _ _ _ _ _ (heap_alloc_new _ _) (HN4.out.below ((Below.refl _ _).alloc (Nat.le_refl _) _)) (Nat.lt_of_lt_of_le HL4.out (Below.size ((Below.refl _ _).alloc (Nat.le_refl _) _))) (HR4.out.below ((Below.refl _ _).alloc (Nat.le_refl _) _)) (HS4.out.below ((Below.refl _ _).alloc (Nat.le_refl _) _))).mono ?_; rintro e w5 ⟨b1, b2, d1, d2, rfl, hrow, hb, hv, hbb⟩; have hD5 : Below w1.heap.size w1 w5 := step_below (below_al hD4) hb; have HBB := hid (Below.trans hD5 (hbb.mono (by first | exact Nat.le_refl _ | exact hD3.size | exact hD4.size))); have HV := hid hv; have HVE := hid hbb.size; obtain ⟨t0, t1, t2, t3, t4, t5, t6, t7⟩ := cl8 hrow; obtain ⟨f0, f1, f2, f3, f4, f5, f6, f7⟩ := fl8 hrow; clear hb hv hrow hbb) | (refine (HT.out.q _ _ _ _ HN4.out HL4.out HR4.out HS4.out).mono ?_; rintro e w5 ⟨b1, b2, d1, d2, rfl, hb, hv⟩; have hD5 : Below w1.heap.size w1 w5 := step_below hD4 hb; have HV := hid hv; clear hb hv))))
      all_goals
        refine hK _ _ (Met.intro (hJ _ _ ?_))
        (repeat apply Exists.intro)
        refine ⟨?rel, rfl⟩
        case rel => first | exact ⟨_, _, _, b1, b2, d1, d2, rfl, HV.out, HVE.out, HBB.out, by first | exact Nat.le_refl _ | exact hD3.size | exact hD4.size⟩ | exact ⟨_, _, _, b1, b2, d1, d2, rfl, HV.out.e, by simp, below_al hD5, hD5.size⟩
    case rest =>
      obtain ⟨p, B, E, b1, b2, d1, d2, rfl, hv2, he2, hb2, hp2⟩ := hcut.out
      have HA2 := hid (blk8 HA.out hb2)
      have HV2 := hid hv2
      have HE2 : Hid (w.heap.size < E ∧ E ≤ wc.heap.size) := ⟨by have k := (Array.getElem?_eq_some_iff.1 HA.out).1; have k2 := hv2.pE; omega, he2⟩
      have HB2 := hid (HB.out.trans (hb2.mono HB.out.size))
      clear hcut hv2 he2 hb2 hp2 HCC HA HB c0 c1 c2 c3 c4 c5 c6
      go_wp2_with fail
      refine (HTO.out _ HB2.out).mono ?_
      rintro e w3 ⟨rfl, ho3, hb⟩
      have HV3 := hid (HV2.out.below hb)
      have HA3 := hid (blk8 HA2.out hb)
      have HB3 := hid (HB2.out.trans (hb.mono HB2.out.size))
      have HXL : Hid (w.heap.size < E ∧ E ≤ wc.heap.size ∧ wc.heap.size < w3.heap.size) := ⟨HE2.out.1, HE2.out.2, (own_lt ho3 rfl).2⟩
      have HX3 := hid ho3
      clear ho3 hb HV2 HA2 HB2 HE2
      generalize wc.heap.size = x at *
      obtain ⟨c0, c1, c2, c3, c4, c5, c6⟩ := row7 HA3.out
      go_wp2_with fail
      refine (HTM.out _ HB3.out).mono ?_
      rintro e w4 ⟨g1, g2, rfl, hb, hv⟩
      have hb4 := hb.trans ((Below.refl _ _).alloc hb.size (.cells (lineL m1 (.slice (some ⟨g1, 0, none⟩) m1.stk.length m1.stk.length) (.slice (some ⟨g2, 0, none⟩) m1.cells.length m1.cells.length)) 39))
      have HW5 : Hid (StepW w (w4.alloc (.cells (lineL m1 (.slice (some ⟨g1, 0, none⟩) m1.stk.length m1.stk.length) (.slice (some ⟨g2, 0, none⟩) m1.cells.length m1.cells.length)) 39)) (lineL m1 (.slice a1 m1.stk.length k1) (.slice a2 m1.cells.length k2)) zs m1 C M B E p x w3.heap.size w4.heap.size b1 b2 (some ⟨g1, 0, none⟩) (some ⟨g2, 0, none⟩) d1 d2 m1.stk.length m1.cells.length) :=
        ⟨blk8 HA3.out hb4, HV3.out.below hb4, own_kept HX3.out hb4, hv, HB3.out.trans (hb4.mono HB3.out.size), HXL.out.1, HXL.out.2.1, HXL.out.2.2, hb.size, hv.lt⟩
      clear hb hv hb4 HV3 HA3 HB3 HXL HX3 c0 c1 c2 c3 c4 c5 c6 HTM
      go_upto_region 10 with fail
      generalize w4.alloc (.cells (lineL m1 (.slice (some ⟨g1, 0, none⟩) m1.stk.length m1.stk.length) (.slice (some ⟨g2, 0, none⟩) m1.cells.length m1.cells.length)) 39) = W5 at *
      generalize w4.heap.size = y at *
      generalize w3.heap.size = D at *
      obtain ⟨s1, hs1⟩ : ∃ s, s = (some ⟨g1, 0, none⟩ : Option Addr) := ⟨_, rfl⟩
      obtain ⟨s2, hs2⟩ : ∃ s, s = (some ⟨g2, 0, none⟩ : Option Addr) := ⟨_, rfl⟩
      rw [← hs1, ← hs2] at HW5
      clear hs1 hs2
      obtain ⟨c0, c1, c2, c3, c4, c5, c6⟩ := row7 HW5.out.mo.row
      go_wp2_with fail
      refine (HIMS.out _ _ _ _ HW5.out.xo (own_row HW5.out.mo.s) (own_row HW5.out.mo.c)).mono ?_
      rintro e w6 ⟨f1, f2, i1, i2, rfl, hb, hv⟩
      have hb6 := hb.trans ((Below.refl _ _).alloc hb.size (.cells (line8 C M (.slice f1 M.stk.length i1) (.slice f2 M.cells.length i2)) 41))
      have HW6 := hid (HW5.out.below hb6)
      have HU6 := hid hv
      have HQ : Hid (y < W5.heap.size ∧ W5.heap.size ≤ w6.heap.size) := ⟨HW5.out.l.2.2.2.2, hb.size⟩
      clear hb hv hb6 HW5 c0 c1 c2 c3 c4 c5 c6 HIMS
      go_upto_region 11 with fail
      generalize w6.alloc (.cells (line8 C M (.slice f1 M.stk.length i1) (.slice f2 M.cells.length i2)) 41) = W6 at *
      generalize w6.heap.size = q at *
      generalize W5.heap.size = G at *
      obtain ⟨v0, v1, v2, v3, v4, v5, v6, v7⟩ := row8 HW6.out.v.row
      obtain ⟨u0, u1, u2, u3, u4, u5, u6, u7⟩ := row8 HU6.out.row
      go_wp2_with fail
      refine (HER.out _ _ _ _ _ _ _ _ _ HU6.out.rows HW6.out.v.rows).mono ?_
      rintro e w7 ⟨rfl, hb⟩
      have HW7 := hid (HW6.out.below hb)
      have HU7 := hid (HU6.out.below hb)
      clear hb HW6 HU6 v0 v1 v2 v3 v4 v5 v6 v7 u0 u1 u2 u3 u4 u5 u6 u7
      go_wp2_with fail
      refine (HTO.out _ HW7.out.b).mono ?_
      rintro e w8 ⟨rfl, ho, hb⟩
      have HW8 := hid (HW7.out.below hb)
      have HU8 := hid (HU7.out.below hb)
      have HN8 := hid (nums_of_own ho).2
      clear hb ho HW7 HU7
      go_wp2_with fail
      refine (HEN.out _ _ _ (nums_of_own HW8.out.xo).2 HN8.out).mono ?_
      rintro e w9 ⟨rfl, hb⟩
      have HW9 := hid (HW8.out.below hb)
      have HU9 := hid (HU8.out.below hb)
      clear hb HW8 HU8 HN8 HEN HTO
      have HC9 : Hid (∀ W, Below w9.heap.size w9 W → (W.cell? ⟨w.heap.size, 0, none⟩ = some (.int .i64 m1.pc) ∧ W.cell? ⟨w.heap.size, 1, none⟩ = some (.slice a1 m1.stk.length k1) ∧ W.cell? ⟨w.heap.size, 2, none⟩ = some (.slice a2 m1.cells.length k2) ∧ W.cell? ⟨w.heap.size, 3, none⟩ = some (.int .i64 m1.sig) ∧ W.cell? ⟨w.heap.size, 4, none⟩ = some (.int .i64 m1.used) ∧ W.cell? ⟨w.heap.size, 5, none⟩ = some (.int .i64 m1.trap) ∧ W.cell? ⟨w.heap.size, 6, none⟩ = some (.bool m1.done)) ∧ (W.cell? ⟨y, 0, none⟩ = some (.int .i64 m1.pc) ∧ W.cell? ⟨y, 1, none⟩ = some (.slice s1 m1.stk.length m1.stk.length) ∧ W.cell? ⟨y, 2, none⟩ = some (.slice s2 m1.cells.length m1.cells.length) ∧ W.cell? ⟨y, 3, none⟩ = some (.int .i64 m1.sig) ∧ W.cell? ⟨y, 4, none⟩ = some (.int .i64 m1.used) ∧ W.cell? ⟨y, 5, none⟩ = some (.int .i64 m1.trap) ∧ W.cell? ⟨y, 6, none⟩ = some (.bool m1.done))) := fun W hb => ⟨row7 (blk8 HW9.out.a hb), row7 (blk8 HW9.out.mo.row hb)⟩
      have hS0 : Below w9.heap.size w9 w9 := Below.refl _ _
      obtain ⟨⟨c0, c1, c2, c3, c4, c5, c6⟩, m0, m1', m2, m3, m4, m5, m6⟩ := HC9.out _ hS0
      go_upto_region 15 with fail
      go_region_held3 (fun W => Below w9.heap.size w9 W ∧ (W.cell? ⟨w.heap.size, 0, none⟩ = some (.int .i64 m1.pc) ∧ W.cell? ⟨w.heap.size, 1, none⟩ = some (.slice a1 m1.stk.length k1) ∧ W.cell? ⟨w.heap.size, 2, none⟩ = some (.slice a2 m1.cells.length k2) ∧ W.cell? ⟨w.heap.size, 3, none⟩ = some (.int .i64 m1.sig) ∧ W.cell? ⟨w.heap.size, 4, none⟩ = some (.int .i64 m1.used) ∧ W.cell? ⟨w.heap.size, 5, none⟩ = some (.int .i64 m1.trap) ∧ W.cell? ⟨w.heap.size, 6, none⟩ = some (.bool m1.done)) ∧ (W.cell? ⟨y, 0, none⟩ = some (.int .i64 m1.pc) ∧ W.cell? ⟨y, 1, none⟩ = some (.slice s1 m1.stk.length m1.stk.length) ∧ W.cell? ⟨y, 2, none⟩ = some (.slice s2 m1.cells.length m1.cells.length) ∧ W.cell? ⟨y, 3, none⟩ = some (.int .i64 m1.sig) ∧ W.cell? ⟨y, 4, none⟩ = some (.int .i64 m1.used) ∧ W.cell? ⟨y, 5, none⟩ = some (.int .i64 m1.trap) ∧ W.cell? ⟨y, 6, none⟩ = some (.bool m1.done))) (first | (with_reducible exact ⟨by assumption, HC9.out _ (by assumption)⟩) | (with_reducible exact ⟨hS0.drew, HC9.out _ hS0.drew⟩) | fail) (first | (go_at_call 52; refine (HT.out.m _ (HW9.out.b.trans (Below.mono (And.left (by with_reducible assumption)) HW9.out.b.size))).mono ?_; rintro e wa ⟨sv, cv, rfl, hr1, hr2, hb⟩; have hD3 : Below w9.heap.size w9 wa := step_below (And.left (by with_reducible assumption)) hb; have HR3 := hid hr1; have HS3 := hid hr2; clear hb hr1 hr2) | (go_at_call 54; refine (HEM.out _ _ _ _ _ ((own_row HW9.out.mo.s).below hD3) ((own_row HW9.out.mo.c).below hD3) HR3.out HS3.out).mono ?_; rintro e wb ⟨rfl, hb⟩; have hD4 : Below w9.heap.size w9 wb := step_below hD3 hb; clear hb) | fail)
      have HW10 := hid (HW9.out.below hD4)
      have HU10 := hid (HU9.out.below hD4)
      clear hD3 hD4 hS0 HC9 HW9 HU9 HR3 HS3 HEM c0 c1 c2 c3 c4 c5 c6 m0 m1' m2 m3 m4 m5 m6
      go_wp2_with fail
      refine (HMK.out _ _ HW10.out.xo).mono ?_
      rintro e w11 ⟨rfl, hb, hz, hoth⟩
      have HL : Hid (w.heap.size < E ∧ E ≤ x ∧ x < D ∧ D ≤ y ∧ y < G ∧ G ≤ q ∧ q < w11.heap.size ∧ w.heap.size ≤ w11.heap.size) := by
        have k := HW10.out.l
        have k2 := HU10.out.lt
        have k3 := HW10.out.b.size
        have k4 := HQ.out
        exact ⟨k.1, k.2.1, k.2.2.1, k.2.2.2.1, k4.1, k4.2, by omega, by omega⟩
      have HA11 := hid ((hoth _ (by have := HL.out; omega)).trans HW10.out.a)
      have HV11 := hid (HW10.out.v.keepE (W' := w11) fun g hg => hoth g (by have := HL.out; omega))
      have HM11 := hid (HW10.out.mo.keep (hoth _ (by have := HL.out; omega)) fun g h1 h2 => hoth g (by have := HL.out; omega))
      have HU11 := hid (HU10.out.keep (hoth _ (by have := HL.out; omega)) (fun g hg => hoth g (by have := HU10.out.b1 g hg; have := HL.out; omega)) (fun g hg => hoth g (by have := HU10.out.b2 g hg; have := HL.out; omega)))
      have HB11 := hid (HW10.out.b.trans (hb.mono (by have := HL.out; omega)))
      clear hb hz hoth HW10 HU10 HQ HMK
      obtain ⟨c0, c1, c2, c3, c4, c5, c6⟩ := row7 HM11.out.row
      go_wp2_with fail
      refine (HMM.out _ _ _ _ _ _ _ (by have := HL.out; omega) HM11.out).mono ?_
      rintro e w12 ⟨rfl, _, _, hb, hz, hoth⟩
      have HO : ∀ g, g < w11.heap.size → (g < D ∨ y ≤ g) → w12.heap[g]? = w11.heap[g]? := fun g hg h => hoth g hg (fun e => by have := HM11.out.b1 g e; omega) (fun e => by have := HM11.out.b2 g e; omega)
      have HZ12 : Hid (StepZ w w12 (lineL m1 (.slice a1 m1.stk.length k1) (.slice a2 m1.cells.length k2)) C M B E p G q b1 b2 f1 f2 d1 d2 i1 i2) :=
        ⟨(HO _ (by have := HL.out; omega) (by have := HL.out; omega)).trans HA11.out, HV11.out.keepE fun g hg => HO g (by have := HL.out; omega) (by have := HL.out; omega),
         HU11.out.keep (HO _ (by have := HL.out; omega) (by have := HL.out; omega)) (fun g hg => HO g (by have := HU11.out.b1 g hg; have := HL.out; omega) (by have := HU11.out.b1 g hg; have := HL.out; omega)) (fun g hg => HO g (by have := HU11.out.b2 g hg; have := HL.out; omega) (by have := HU11.out.b2 g hg; have := HL.out; omega)),
         HB11.out.trans (hb.mono (by have := HL.out; omega)), by have := HL.out; omega⟩
      clear hb hz hoth HO HA11 HV11 HM11 HU11 HB11 HL HMM c0 c1 c2 c3 c4 c5 c6
      obtain ⟨v0, v1, v2, v3, v4, v5, v6, v7⟩ := row8 HZ12.out.v.row
      obtain ⟨u0, u1, u2, u3, u4, u5, u6, u7⟩ := row8 HZ12.out.u.row
      have hkd : decide ((1 : Int) + zs.length + m1.stk.length + m1.cells.length < 0) = false := decide_eq_false (by have := HNN.out; omega)
      go_wp2_with fail
      refine (HER.out _ _ _ _ _ _ _ _ _ HZ12.out.u.rows HZ12.out.v.rows).mono ?_
      rintro e w13 ⟨rfl, hb⟩
      have HZ13 := hid (HZ12.out.below hb)
      clear hb hkd HZ12 v0 v1 v2 v3 v4 v5 v6 v7 u0 u1 u2 u3 u4 u5 u6 u7
      obtain ⟨u0, u1, u2, u3, u4, u5, u6, u7⟩ := row8 HZ13.out.u.row
      go_wp2_with fail
      refine (HMR.out _ _ _ _ _ _ _ (by have := HZ13.out.l; omega) HZ13.out.u).mono ?_
      rintro e w14 ⟨rfl, hn1, hn2, hb, hz, hoth⟩
      have HO : ∀ g, g < w13.heap.size → (g < G ∨ q ≤ g) → w14.heap[g]? = w13.heap[g]? := fun g hg h => hoth g hg (fun e => by have := HZ13.out.u.b1 g e; omega) (fun e => by have := HZ13.out.u.b2 g e; omega)
      have HN14 : Hid (StepN w w14 (lineL m1 (.slice a1 m1.stk.length k1) (.slice a2 m1.cells.length k2)) C M B E p q b1 b2 f1 f2 d1 d2 i1 i2) :=
        ⟨(HO _ (by have := HZ13.out.l; omega) (by have := HZ13.out.l; omega)).trans HZ13.out.a, HZ13.out.v.keepE fun g hg => HO g (by have := HZ13.out.l; omega) (by have := HZ13.out.l; omega),
         (HO _ (by have := HZ13.out.l; omega) (by have := HZ13.out.l; omega)).trans HZ13.out.u.row, hn1, hn2, HZ13.out.b.trans (hb.mono (by have := HZ13.out.l; omega))⟩
      clear hb hz hoth HO HZ13 hn1 hn2 HMR u0 u1 u2 u3 u4 u5 u6 u7
      obtain ⟨u0, u1, u2, u3, u4, u5, u6, u7⟩ := row8 HN14.out.u
      go_wp2_with fail
      refine (HHD.out _ _ _ _ _ HN14.out.n1 HN14.out.n2).mono ?_
      rintro e w15 ⟨rfl, hb⟩
      have HN15 := hid (HN14.out.below hb)
      have HB15 := hid HN15.out.b
      have HCC : Hid (∀ W, Below w15.heap.size w15 W → W.cell? ⟨w.heap.size, 0, none⟩ = some (.int .i64 m1.pc) ∧ W.cell? ⟨w.heap.size, 1, none⟩ = some (.slice a1 m1.stk.length k1) ∧ W.cell? ⟨w.heap.size, 2, none⟩ = some (.slice a2 m1.cells.length k2) ∧ W.cell? ⟨w.heap.size, 3, none⟩ = some (.int .i64 m1.sig) ∧ W.cell? ⟨w.heap.size, 4, none⟩ = some (.int .i64 m1.used) ∧ W.cell? ⟨w.heap.size, 5, none⟩ = some (.int .i64 m1.trap) ∧ W.cell? ⟨w.heap.size, 6, none⟩ = some (.bool m1.done)) := fun W hb => row7 (blk8 HN15.out.a hb)
      clear hb HN14 u0 u1 u2 u3 u4 u5 u6 u7
      have hkd : decide ((1 : Int) + M.stk.length + M.cells.length < 0) = false := decide_eq_false (by have := HNM.out; omega)
      obtain ⟨c0, c1, c2, c3, c4, c5, c6⟩ := HCC.out _ (Below.refl _ _)
      go_upto_region 30 with fail
      clear hkd
      go_cut [13] from 73 (fun x W' => Hid (∃ (p B E : Nat) (b1 b2 : Option Addr) (d1 d2 : Nat), x = .pointer (some ⟨p, 0, none⟩) ∧ VarE W' B E p C M b1 b2 d1 d2 ∧ E ≤ W'.heap.size ∧ Below w15.heap.size w15 W' ∧ w15.heap.size ≤ p))
      case first =>
        rename_i J K1 hJ hK
        have hS0 : Below w15.heap.size w15 w15 := Below.refl _ _
        go_region_held3 (fun W => Below w15.heap.size w15 W ∧ W.cell? ⟨w.heap.size, 0, none⟩ = some (.int .i64 m1.pc) ∧ W.cell? ⟨w.heap.size, 1, none⟩ = some (.slice a1 m1.stk.length k1) ∧ W.cell? ⟨w.heap.size, 2, none⟩ = some (.slice a2 m1.cells.length k2) ∧ W.cell? ⟨w.heap.size, 3, none⟩ = some (.int .i64 m1.sig) ∧ W.cell? ⟨w.heap.size, 4, none⟩ = some (.int .i64 m1.used) ∧ W.cell? ⟨w.heap.size, 5, none⟩ = some (.int .i64 m1.trap) ∧ W.cell? ⟨w.heap.size, 6, none⟩ = some (.bool m1.done)) (first | (with_reducible exact ⟨by assumption, HCC.out _ (by assumption)⟩) | (with_reducible exact ⟨HBB.out, HCC.out _ HBB.out⟩) | (with_reducible exact ⟨hS0.drew, HCC.out _ hS0.drew⟩) | (with_reducible exact ⟨(below_al hS0).drew, HCC.out _ (below_al hS0).drew⟩) | (with_reducible exact ⟨below_al hD5, HCC.out _ (below_al hD5)⟩) | (with_reducible exact ⟨below_al hD4, HCC.out _ (below_al hD4)⟩) | (with_reducible exact ⟨below_al hD3, HCC.out _ (below_al hD3)⟩) | fail) (first | (go_at_call 35; refine (HU.out.t _ (HB15.out.trans (Below.mono (And.left (by with_reducible assumption)) HB15.out.size))).mono ?_; rintro e w3 ⟨g3, rfl, hn3, hl3, hb⟩; have hD3 : Below w15.heap.size w15 w3 := step_below (And.left (by with_reducible assumption)) hb; have HN3 := hid hn3; have HL3 := hid hl3; (try (have HZ3 := hid (blk8 (al_drew _ _) hb))); clear hb hn3 hl3) | (go_at_call 52; refine (HU.out.m _ (HB15.out.trans (Below.mono (And.left (by with_reducible assumption)) HB15.out.size))).mono ?_; rintro e w4 ⟨sv, cv, rfl, hr1, hr2, hb⟩; have hD4 : Below w15.heap.size w15 w4 := step_below (And.left (by with_reducible assumption)) hb; (first | (have HN4 := hid (HN3.out.below hb); have HL4 := hid (Nat.lt_of_lt_of_le HL3.out hb.size)) | (have HN4 := hid (HN3.out.below (back hb)); have HL4 := hid (Nat.lt_of_lt_of_le HL3.out (back hb).size))); (first | (have HZ4 := hid (blk8 HZ3.out hb)) | (have HZ4 := hid (blk8 (heap_alloc_new _ _) hb)) | skip); have HR4 := hid hr1; have HS4 := hid hr2; clear hb hr1 hr2) | (go_at_call 30; (first | (have hz := HZ4.out; refine (HU.out.g _ _ _ _ _ hz HN4.out HL4.out HR4.out HS4.out).mono ?_; rintro e w5 ⟨b1, b2, d1, d2, rfl, hrow, hb, hv, hbb⟩; have hD5 : Below w15.heap.size w15 w5 := step_below hD4 hb; have HBB := hid (Below.trans hD5 (hbb.mono (by first | exact Nat.le_refl _ | exact hD3.size | exact hD4.size))); have HV := hid hv; have HVE := hid hbb.size; obtain ⟨t0, t1, t2, t3, t4, t5, t6, t7⟩ := cl8 hrow; obtain ⟨f0, f1, f2, f3, f4, f5, f6, f7⟩ := fl8 hrow; clear hb hv hrow hbb) | ((with_reducible show Calls _ _ _ (World.alloc w4 _) _); refine (HU.out.g _ _ _ _ _ (heap_alloc_new _ _) (HN4.out.below ((Below.refl _ _).alloc (Nat.le_refl _) _)) (Nat.lt_of_lt_of_le HL4.out (Below.size ((Below.refl _ _).alloc (Nat.le_refl _) _))) (HR4.out.below ((Below.refl _ _).alloc (Nat.le_refl _) _)) (HS4.out.below ((Below.refl _ _).alloc (Nat.le_refl _) _))).mono ?_; rintro e w5 ⟨b1, b2, d1, d2, rfl, hrow, hb, hv, hbb⟩; have hD5 : Below w15.heap.size w15 w5 := step_below (below_al hD4) hb; have HBB := hid (Below.trans hD5 (hbb.mono (by first | exact Nat.le_refl _ | exact hD3.size | exact hD4.size))); have HV := hid hv; have HVE := hid hbb.size; obtain ⟨t0, t1, t2, t3, t4, t5, t6, t7⟩ := cl8 hrow; obtain ⟨f0, f1, f2, f3, f4, f5, f6, f7⟩ := fl8 hrow; clear hb hv hrow hbb) | (refine (HU.out.q _ _ _ _ HN4.out HL4.out HR4.out HS4.out).mono ?_; rintro e w5 ⟨b1, b2, d1, d2, rfl, hb, hv⟩; have hD5 : Below w15.heap.size w15 w5 := step_below hD4 hb; have HV := hid hv; clear hb hv))))
        all_goals
          refine hK _ _ (Met.intro (hJ _ _ ?_))
          (repeat apply Exists.intro)
          refine ⟨?rel, rfl⟩
          case rel => first | exact ⟨_, _, _, b1, b2, d1, d2, rfl, HV.out, HVE.out, HBB.out, by first | exact Nat.le_refl _ | exact hD3.size | exact hD4.size⟩ | exact ⟨_, _, _, b1, b2, d1, d2, rfl, HV.out.e, by simp, below_al hD5, hD5.size⟩
      case rest =>
        obtain ⟨p2, B2, E2, e1, e2, j1, j2, rfl, hv2, _, hb2, _⟩ := hcut.out
        have HN16 := hid (HN15.out.below hb2)
        have HH16 := hid hv2
        clear hcut hv2 hb2 HCC HN15 HB15 HU HT c0 c1 c2 c3 c4 c5 c6
        obtain ⟨v0, v1, v2, v3, v4, v5, v6, v7⟩ := row8 HN16.out.v.row
        obtain ⟨u0, u1, u2, u3, u4, u5, u6, u7⟩ := row8 HH16.out.row
        go_wp2_with fail
        refine (HER.out _ _ _ _ _ _ _ _ _ HH16.out.rows HN16.out.v.rows).mono ?_
        rintro e w17 ⟨rfl, hb⟩
        have HN17 := hid (HN16.out.below hb)
        clear hb HN16 HH16 v0 v1 v2 v3 v4 v5 v6 v7 u0 u1 u2 u3 u4 u5 u6 u7
        obtain ⟨u0, u1, u2, u3, u4, u5, u6, u7⟩ := row8 HN17.out.u
        go_wp2_with fail
        refine (HHD.out _ _ _ _ _ HN17.out.n1 HN17.out.n2).mono ?_
        rintro e w18 ⟨rfl, hb⟩
        have HB18 := hid (HN17.out.below hb).b
        clear hb HN17 u0 u1 u2 u3 u4 u5 u6 u7
        go_wp2_with fail
        go_ret
        exact ⟨rfl, HB18.out⟩
  · clear HTO
    go_wp2_with fail
    go_ret
    exact ⟨rfl, HB.out⟩
end Go.Proofs.Ytjofghelenfklaa
