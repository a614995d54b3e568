/-
  spec's l8Do: what every op begins with.
-/
import Derived.Test.YtjofghelenfklaaSStk1
import Derived.Deep.RegionHeld3
import Derived.Test.YtjofghelenfklaaReck0
import Derived.Test.YtjofghelenfklaaStkGo
import Derived.Deep.QuietTactic
namespace Go.Proofs.Ytjofghelenfklaa
open Go.RowKit
set_option linter.unusedVariables false
attribute [local go_sem ↓] Go.wp_at_zero Go.wp_at_succ

theorem RunS.lt {B p : Nat} {w : World} {m : SM} (h : RunS B w p m) : B ≤ p ∧ p < w.heap.size := by
  obtain ⟨sv, cv, hb, hm⟩ := h
  exact ⟨hm.pB, (Array.getElem?_eq_some_iff.1 hb).1⟩
theorem RunS.cut1 {B p n c : Nat} {w w' : World} {a : Option Addr} {m : SM} {cv : Value} (hb : w.heap[p]? = some (.cells (lineS m (.slice a n c) cv) 39 (0, 0))) (hm : MemO B w p (.slice a n c) cv m) (h0 : 0 < n) (hw : w'.heap = w.heap) : RunS B (w'.setCell ⟨p, 1, none⟩ (.slice a (n - 1) c)) p (pop m) := by
  have hn := own_len hm.ss
  subst hn
  have hlt := (Array.getElem?_eq_some_iff.1 hb).1
  have hob : (Value.slice a (m.stk.length - 1) c).ownBlock = (Value.slice a m.stk.length c).ownBlock := by cases a <;> rfl
  refine ⟨_, cv, ?_, MemO.stk (m' := pop m) hm (w' := w') ?_ (fun g _ _ => by rw [hw]) (.inl hob) hlt rfl _ _⟩
  · have := heap_setCell_same w' p 1 _ _ (.slice a (m.stk.length - 1) c) (by rw [hw]; exact hb)
    exact this
  · exact own_other (own_cut hm.ss h0) (fun g _ => by rw [hw])

set_option maxHeartbeats 1600000 in
theorem l8Pop_any (B p : Nat) (m : SM) (w : World) (h : RunS B w p m) (h0 : 0 < m.stk.length) (hl : m.stk.length ≤ 40) :
    Calls Try.prog 154 #[.pointer (some ⟨p, 0, none⟩)] w fun e w' => e = .returned (.int .i64 (tp m 0)) ∧ RunS B w' p (pop m) ∧ Below B w w' := by
  obtain ⟨hpB, hpw⟩ := h.lt
  obtain ⟨sv, cv, hb, hm⟩ := h
  obtain ⟨a, c, rfl⟩ := own_shape hm.ss
  have hnn := (nums_of_own hm.ss).2
  rcases hnn with hn | ⟨b, off, rfl, hcc⟩
  · rw [hn] at h0; simp at h0
  have hcell := hcc (m.stk.length - 1) (by omega)
  have hT : Hid (tp m 0 = m.stk.getD (m.stk.length - 1) 0) := rfl
  have c1 := (RunS.cells hb).2.1
  have f1 := frozen_of_row _ _ 1 _ _ hb
  have HX : Hid (∀ w' : World, w'.heap = w.heap → RunS B (w'.setCell ⟨p, 1, none⟩ (.slice (some ⟨b, off, none⟩) (m.stk.length - 1) c)) p (pop m)) := fun w' hw => RunS.cut1 hb hm h0 hw
  have HPB : Hid (B ≤ p) := hpB
  have hcap : m.stk.length ≤ c := by
    rcases hm.ss.2 with ⟨h1, h2⟩ | ⟨g, c2, cur, h1, _, _, h3, _⟩
    · omega
    · simp at h1; omega
  rw [← hT.out] at hcell
  clear hb hm hcc hT hpw hpB
  generalize m.stk.length = n at *
  obtain ⟨k, hk⟩ : ∃ k, k = n - 1 := ⟨_, rfl⟩
  rw [← hk] at HX hcell
  have q0 : (0 : Int) ≤ (k : Int) := by omega
  have q1 : (k : Int) < (n : Int) := by omega
  have q2 : (k : Int) ≤ (c : Int) := by omega
  have e1 : (n : Int) - 1 = (k : Int) := by omega
  have h1n : (1 : Int) ≤ (n : Int) := by omega
  have hn40 : (n : Int) ≤ 40 := by omega
  clear hk h0 hl
  go_enter Try.func154, Try.ntmps154
  go_wp2_with fail
  go_ret
  exact ⟨rfl, HX.out w rfl, (Below.refl _ _).setCell HPB.out _⟩

set_option maxHeartbeats 1600000 in
theorem l8Push_any (B p : Nat) (m : SM) (x : Int) (w : World) (h : RunS B w p m) (hl : m.stk.length ≤ 40) :
    Calls Try.prog 153 #[.pointer (some ⟨p, 0, none⟩), .int .i64 x] w fun e w' => e = .returned (.tuple #[]) ∧ RunS B w' p (psh m x) ∧ Below B w w' := by
  obtain ⟨hpB, hpw⟩ := h.lt
  obtain ⟨sv, cv, hb, hm⟩ := h
  have HPB : Hid (B ≤ p ∧ p < w.heap.size) := ⟨hpB, hpw⟩
  have hA := (Below.refl w.heap.size w).alloc (Nat.le_refl _) (.cells #[.int .i64 x] 2)
  have hO := own_kept hm.ss hA
  have hN : Nums (w.alloc (.cells #[.int .i64 x] 2)) (some ⟨w.heap.size, 0, none⟩) [x] := .inr ⟨_, 0, rfl, fun i hi => by
    have : i = 0 := by simpa using hi
    subst this
    exact cell_of_row _ _ 0 _ _ _ (heap_alloc_new w _)⟩
  have c0 := (RunS.cells hb).2.1
  have f0 := frozen_of_row _ _ 1 _ _ hb
  have HB0 : Hid (w.heap[p]? = some (.cells (lineS m sv cv) 39 (0, 0))) := hb
  have HM : Hid (MemO B w p sv cv m) := hm
  have HA : Hid (Below w.heap.size w (w.alloc (.cells #[.int .i64 x] 2))) := hA
  have HO : Hid (Own (w.alloc (.cells #[.int .i64 x] 2)) B sv m.stk) := hO
  have HN : Hid (Nums (w.alloc (.cells #[.int .i64 x] 2)) (some ⟨w.heap.size, 0, none⟩) [x]) := hN
  clear hb hm hA hO hN hpB hpw
  go_enter Try.func153, Try.ntmps153
  go_wp2_with (at_builtin; refine wpList_append_nums rfl _ _ rfl B _ m.stk [x] (by rfl) HO.out (some ⟨w.heap.size, 0, none⟩) 1 (by rfl) HN.out (by simp) (by simp) (by simp; omega) (by have := HPB.out; simp; omega) ?_)
  intro v' w2 ho hg hv
  obtain ⟨a2, c2, rfl⟩ := own_shape ho.out
  have hW : Hid (∀ i, (w2.setCell ⟨p, i, none⟩ (.slice a2 (m.stk ++ [x]).length c2)).heap[p]? = some (.cells ((lineS m sv cv).setIfInBounds i (.slice a2 (m.stk ++ [x]).length c2)) 39 (0, 0)) ∧ MemO B (w2.setCell ⟨p, i, none⟩ (.slice a2 (m.stk ++ [x]).length c2)) p (.slice a2 (m.stk ++ [x]).length c2) cv (psh m x)) := fun i => by
    have hG := MemO.grown HM.out HB0.out HA.out (by have := HPB.out; omega) hg.out
    refine ⟨heap_setCell_same w2 p i _ _ (.slice a2 (m.stk ++ [x]).length c2) hG.1, MemO.stk (m' := psh m x) HM.out (w' := w2) ho.out (fun g hg2 hne => ?_) ?_ HPB.out.2 rfl _ _⟩
    · rw [hg.out.block g (by have := HA.out.size; omega) hne, HA.out.block g hg2]
    · rcases hv.out with h | h
      · exact .inl h
      · exact .inr ⟨_, by simp, h⟩
  rw [show (m.stk ++ [x]).length = m.stk.length + 1 from by simp] at hW
  have hG := MemO.grown HM.out HB0.out HA.out (by have := HPB.out; omega) hg.out
  have hw0 := (RunS.cells hG.1).2.1
  have hf0 := frozen_of_row _ _ 1 _ _ hG.1
  have HB2 : Hid (Below B w w2) := hG.2
  clear hG hg ho hv c0 f0
  go_wp2_with fail
  go_end0
  exact ⟨rfl, ⟨_, cv, (hW.out 1).1, (hW.out 1).2⟩, HB2.out.setCell (by have := HPB.out; simp; omega) _⟩

set_option maxHeartbeats 1600000 in
theorem l8Row_any (p : Nat) (m : SM) (sv cv : Value) (f s i : Int) (w : World) (hp : w.heap[p]? = some (.cells (lineS m sv cv) 39 (0, 0))) (hc : RowV w cv m.cells) (hl : m.cells.length ≤ 80) (hf0 : 0 ≤ f) (hf1 : f ≤ 65535) (hs0 : 0 ≤ s) (hs1 : s ≤ 65535) :
    Calls Try.prog 155 #[.pointer (some ⟨p, 0, none⟩), .int .i64 f, .int .i64 s, .int .i64 i] w fun e w' => e = .returned (.tuple #[.int .i64 (itemV m.cells.length f s i), .int .i64 (itemC m.cells.length f s i)]) ∧ w' = w := by
  have HS : Hid (∀ W, Calls Try.prog 163 #[.int .i64 i] W fun e w' => e = .returned (.int .i64 (sg i)) ∧ w' = W) := specSignedOf i
  obtain ⟨a, c, rfl, _, _⟩ := hc
  have c2 := (RunS.cells hp).2.2.1
  have h1 := sg_lo i
  have h2 := sg_hi i
  have HE : Hid ((itemC m.cells.length f s i = if inB (sg i) 0 (s - 1) then (if f + sg i < m.cells.length then 0 else 1) else 3) ∧ (itemV m.cells.length f s i = if itemC m.cells.length f s i = 0 then f + sg i else 0)) := ⟨rfl, rfl⟩
  generalize itemC m.cells.length f s i = C at *
  generalize itemV m.cells.length f s i = V at *
  generalize m.cells.length = n at *
  generalize sg i = k at *
  have HI : Hid (∀ W, Calls Try.prog 71 #[.int .i64 k, .int .i64 0, .int .i64 (s - 1)] W fun e w' => e = .returned (.bool (inB k 0 (s - 1))) ∧ w' = W) := l1In_any k 0 (s - 1)
  clear hp
  cases hq : inB k 0 (s - 1)
  · have eC : C = 3 := by rw [HE.out.1, hq]; rfl
    have eV : V = 0 := by rw [HE.out.2, eC]; rfl
    rw [hq] at HI
    subst eC eV
    clear HE hq
    go_enter Try.func155, Try.ntmps155
    go_wp2_with (first | (go_at_call 163; refine (HS.out _).mono ?_; rintro e w1 ⟨rfl, rfl⟩) | (go_at_call 71; refine (HI.out _).mono ?_; rintro e w1 ⟨rfl, rfl⟩))
    go_returns
    exact ⟨rfl, rfl⟩
  · have hk := (inB_iff.1 hq).1
    rw [hq] at HI
    by_cases hlt : f + k < n
    · have eC : C = 0 := by rw [HE.out.1, hq, if_pos rfl, if_pos hlt]
      have eV : V = f + k := by rw [HE.out.2, eC]; rfl
      subst eC eV
      clear HE hq
      go_enter Try.func155, Try.ntmps155
      go_wp2_with (first | (go_at_call 163; refine (HS.out _).mono ?_; rintro e w1 ⟨rfl, rfl⟩) | (go_at_call 71; refine (HI.out _).mono ?_; rintro e w1 ⟨rfl, rfl⟩))
      go_returns
      exact ⟨rfl, rfl⟩
    · have eC : C = 1 := by rw [HE.out.1, hq, if_pos rfl, if_neg hlt]
      have eV : V = 0 := by rw [HE.out.2, eC]; rfl
      subst eC eV
      clear HE hq
      go_enter Try.func155, Try.ntmps155
      go_wp2_with (first | (go_at_call 163; refine (HS.out _).mono ?_; rintro e w1 ⟨rfl, rfl⟩) | (go_at_call 71; refine (HI.out _).mono ?_; rintro e w1 ⟨rfl, rfl⟩))
      go_returns
      exact ⟨rfl, rfl⟩

set_option maxHeartbeats 1600000 in
theorem l8Takes_any (op : Int) (w : World) (h1 : 1 ≤ op) (h13 : op ≤ 13) : Calls Try.prog 152 #[.int .i64 op] w fun e w' => e = .returned (.tuple #[.int .i64 (tkN op), .int .i64 (gvN op)]) ∧ w' = w := by
  have hop : op = 1 ∨ op = 2 ∨ op = 3 ∨ op = 4 ∨ op = 5 ∨ op = 6 ∨ op = 7 ∨ op = 8 ∨ op = 9 ∨ op = 10 ∨ op = 11 ∨ op = 12 ∨ op = 13 := by omega
  rcases hop with rfl | rfl | rfl | rfl | rfl | rfl | rfl | rfl | rfl | rfl | rfl | rfl | rfl
  all_goals
    go_enter Try.func152, Try.ntmps152
    go_wp2
    go_returns
    exact ⟨rfl, rfl⟩
end Go.Proofs.Ytjofghelenfklaa
namespace Go.Proofs.Ytjofghelenfklaa
open Go.RowKit
set_option linter.unusedVariables false

theorem tup64 {a b : Int} (h : a = b) : Ending.returned (.tuple #[.int .i64 a, .int .i64 0]) = Ending.returned (.tuple #[.int .i64 b, .int .i64 0]) := by rw [h]
theorem wd_w64 (x : Int) : wd (wrap64 x) = wd x := by unfold wd wrap64; omega
theorem w64and (a b : Nat) (ha : a < 65536) (hb : b < 65536) : bits .and .i64 (a : Int) (b : Int) = ((a &&& b : Nat) : Int) := by
  have hx : a &&& b < 2 ^ 16 := Nat.and_lt_two_pow _ (by omega)
  have h1 : (BitVec.ofInt 64 (a : Int)).toNat = a := by
    rw [BitVec.ofInt_natCast, BitVec.toNat_ofNat]; exact Nat.mod_eq_of_lt (by omega)
  have h2 : (BitVec.ofInt 64 (b : Int)).toNat = b := by
    rw [BitVec.ofInt_natCast, BitVec.toNat_ofNat]; exact Nat.mod_eq_of_lt (by omega)
  show IntKind.i64.wrap ((BitVec.ofInt 64 (a : Int) &&& BitVec.ofInt 64 (b : Int)).toNat : Int) = _
  rw [BitVec.toNat_and, h1, h2, IntKind.wrap_i64]
  omega
theorem w64or (a b : Nat) (ha : a < 65536) (hb : b < 65536) : bits .or .i64 (a : Int) (b : Int) = ((a ||| b : Nat) : Int) := by
  have hx : a ||| b < 2 ^ 16 := Nat.or_lt_two_pow (by omega) (by omega)
  have h1 : (BitVec.ofInt 64 (a : Int)).toNat = a := by
    rw [BitVec.ofInt_natCast, BitVec.toNat_ofNat]; exact Nat.mod_eq_of_lt (by omega)
  have h2 : (BitVec.ofInt 64 (b : Int)).toNat = b := by
    rw [BitVec.ofInt_natCast, BitVec.toNat_ofNat]; exact Nat.mod_eq_of_lt (by omega)
  show IntKind.i64.wrap ((BitVec.ofInt 64 (a : Int) ||| BitVec.ofInt 64 (b : Int)).toNat : Int) = _
  rw [BitVec.toNat_or, h1, h2, IntKind.wrap_i64]
  omega
theorem w64xor (a b : Nat) (ha : a < 65536) (hb : b < 65536) : bits .xor .i64 (a : Int) (b : Int) = ((a ^^^ b : Nat) : Int) := by
  have hx : a ^^^ b < 2 ^ 16 := Nat.xor_lt_two_pow (by omega) (by omega)
  have h1 : (BitVec.ofInt 64 (a : Int)).toNat = a := by
    rw [BitVec.ofInt_natCast, BitVec.toNat_ofNat]; exact Nat.mod_eq_of_lt (by omega)
  have h2 : (BitVec.ofInt 64 (b : Int)).toNat = b := by
    rw [BitVec.ofInt_natCast, BitVec.toNat_ofNat]; exact Nat.mod_eq_of_lt (by omega)
  show IntKind.i64.wrap ((BitVec.ofInt 64 (a : Int) ^^^ BitVec.ofInt 64 (b : Int)).toNat : Int) = _
  rw [BitVec.toNat_xor, h1, h2, IntKind.wrap_i64]
  omega
theorem b64_and (a b : Int) : bits .and .i64 (wd a) (wd b) = (((wd a).toNat &&& (wd b).toNat : Nat) : Int) := by
  have h1 := wd_lo a; have h2 := wd_hi a; have h3 := wd_lo b; have h4 := wd_hi b
  obtain ⟨m, hm⟩ := Int.eq_ofNat_of_zero_le h1
  obtain ⟨n, hn⟩ := Int.eq_ofNat_of_zero_le h3
  rw [hm, hn, w64and m n (by omega) (by omega)]; rfl
theorem b64_or (a b : Int) : bits .or .i64 (wd a) (wd b) = (((wd a).toNat ||| (wd b).toNat : Nat) : Int) := by
  have h1 := wd_lo a; have h2 := wd_hi a; have h3 := wd_lo b; have h4 := wd_hi b
  obtain ⟨m, hm⟩ := Int.eq_ofNat_of_zero_le h1
  obtain ⟨n, hn⟩ := Int.eq_ofNat_of_zero_le h3
  rw [hm, hn, w64or m n (by omega) (by omega)]; rfl
theorem b64_xor (a b : Int) : bits .xor .i64 (wd a) (wd b) = (((wd a).toNat ^^^ (wd b).toNat : Nat) : Int) := by
  have h1 := wd_lo a; have h2 := wd_hi a; have h3 := wd_lo b; have h4 := wd_hi b
  obtain ⟨m, hm⟩ := Int.eq_ofNat_of_zero_le h1
  obtain ⟨n, hn⟩ := Int.eq_ofNat_of_zero_le h3
  rw [hm, hn, w64xor m n (by omega) (by omega)]; rfl
set_option maxHeartbeats 400000 in
theorem l2_1 (a b : Int) (w : World) : Calls Try.prog 156 #[.int .i64 1, .int .i64 a, .int .i64 b] w fun e w' => e = .returned (.tuple #[.int .i64 (binW 1 a b), .int .i64 0]) ∧ w' = w := by
  have h1 := sg_lo a; have h2 := sg_hi a; have h3 := sg_lo b; have h4 := sg_hi b
  go_enter Try.func156, Try.ntmps156
  go_wp2_with (first | (go_at_call 163; refine (specSignedOf _ _).mono ?_; rintro e w' ⟨rfl, rfl⟩) | (go_at_call 151; refine (specWordOf _ _).mono ?_; rintro e w' ⟨rfl, rfl⟩) | (go_at_call 165; refine (l2Bit_any _ _).mono ?_; rintro e w' ⟨rfl, rfl⟩))
  go_ret2
  refine ⟨tup64 ?_, rfl⟩
  rw [sg_add]; rfl
set_option maxHeartbeats 400000 in
theorem l2_2 (a b : Int) (w : World) : Calls Try.prog 156 #[.int .i64 2, .int .i64 a, .int .i64 b] w fun e w' => e = .returned (.tuple #[.int .i64 (binW 2 a b), .int .i64 0]) ∧ w' = w := by
  have h1 := sg_lo a; have h2 := sg_hi a; have h3 := sg_lo b; have h4 := sg_hi b
  go_enter Try.func156, Try.ntmps156
  go_wp2_with (first | (go_at_call 163; refine (specSignedOf _ _).mono ?_; rintro e w' ⟨rfl, rfl⟩) | (go_at_call 151; refine (specWordOf _ _).mono ?_; rintro e w' ⟨rfl, rfl⟩) | (go_at_call 165; refine (l2Bit_any _ _).mono ?_; rintro e w' ⟨rfl, rfl⟩))
  go_ret2
  refine ⟨tup64 ?_, rfl⟩
  rw [sg_sub]; rfl
set_option maxHeartbeats 400000 in
theorem l2_3 (a b : Int) (w : World) : Calls Try.prog 156 #[.int .i64 3, .int .i64 a, .int .i64 b] w fun e w' => e = .returned (.tuple #[.int .i64 (binW 3 a b), .int .i64 0]) ∧ w' = w := by
  have h1 := sg_lo a; have h2 := sg_hi a; have h3 := sg_lo b; have h4 := sg_hi b
  go_enter Try.func156, Try.ntmps156
  go_wp2_with (first | (go_at_call 163; refine (specSignedOf _ _).mono ?_; rintro e w' ⟨rfl, rfl⟩) | (go_at_call 151; refine (specWordOf _ _).mono ?_; rintro e w' ⟨rfl, rfl⟩) | (go_at_call 165; refine (l2Bit_any _ _).mono ?_; rintro e w' ⟨rfl, rfl⟩))
  go_ret2
  refine ⟨tup64 ?_, rfl⟩
  rw [wd_w64, sg_mul]; rfl
set_option maxHeartbeats 400000 in
theorem l2_4 (a b : Int) (w : World) (hz : wd b ≠ 0) : Calls Try.prog 156 #[.int .i64 4, .int .i64 a, .int .i64 b] w fun e w' => e = .returned (.tuple #[.int .i64 (binW 4 a b), .int .i64 0]) ∧ w' = w := by
  have h1 := sg_lo a; have h2 := sg_hi a; have h3 := sg_lo b; have h4 := sg_hi b
  have hb : (sg b == 0) = false := by rw [beq_eq_false_iff_ne]; intro e; exact hz ((sg_zero b).1 e)
  have hb' : sg b ≠ 0 := by intro e; exact hz ((sg_zero b).1 e)
  clear hz
  go_enter Try.func156, Try.ntmps156
  go_wp2_with (first | (go_at_call 163; refine (specSignedOf _ _).mono ?_; rintro e w' ⟨rfl, rfl⟩) | (go_at_call 151; refine (specWordOf _ _).mono ?_; rintro e w' ⟨rfl, rfl⟩) | (go_at_call 165; refine (l2Bit_any _ _).mono ?_; rintro e w' ⟨rfl, rfl⟩))
  go_ret2
  refine ⟨tup64 ?_, rfl⟩
  rw [wd_w64]; rfl
set_option maxHeartbeats 400000 in
theorem l2_5 (a b : Int) (w : World) (hz : wd b ≠ 0) : Calls Try.prog 156 #[.int .i64 5, .int .i64 a, .int .i64 b] w fun e w' => e = .returned (.tuple #[.int .i64 (binW 5 a b), .int .i64 0]) ∧ w' = w := by
  have h1 := sg_lo a; have h2 := sg_hi a; have h3 := sg_lo b; have h4 := sg_hi b
  have hb : (sg b == 0) = false := by rw [beq_eq_false_iff_ne]; intro e; exact hz ((sg_zero b).1 e)
  have hb' : sg b ≠ 0 := by intro e; exact hz ((sg_zero b).1 e)
  clear hz
  go_enter Try.func156, Try.ntmps156
  go_wp2_with (first | (go_at_call 163; refine (specSignedOf _ _).mono ?_; rintro e w' ⟨rfl, rfl⟩) | (go_at_call 151; refine (specWordOf _ _).mono ?_; rintro e w' ⟨rfl, rfl⟩) | (go_at_call 165; refine (l2Bit_any _ _).mono ?_; rintro e w' ⟨rfl, rfl⟩))
  go_ret2
  refine ⟨tup64 ?_, rfl⟩
  first | rfl | (rw [wd_w64]; rfl)
set_option maxHeartbeats 400000 in
theorem l2_6 (a b : Int) (w : World) : Calls Try.prog 156 #[.int .i64 6, .int .i64 a, .int .i64 b] w fun e w' => e = .returned (.tuple #[.int .i64 (binW 6 a b), .int .i64 0]) ∧ w' = w := by
  have h1 := wd_lo a; have h2 := wd_hi a; have h3 := wd_lo b; have h4 := wd_hi b
  go_enter Try.func156, Try.ntmps156
  go_wp2_with (first | (go_at_call 163; refine (specSignedOf _ _).mono ?_; rintro e w' ⟨rfl, rfl⟩) | (go_at_call 151; refine (specWordOf _ _).mono ?_; rintro e w' ⟨rfl, rfl⟩) | (go_at_call 165; refine (l2Bit_any _ _).mono ?_; rintro e w' ⟨rfl, rfl⟩))
  go_ret2
  refine ⟨tup64 ?_, rfl⟩
  rw [b64_and]; rfl
set_option maxHeartbeats 400000 in
theorem l2_7 (a b : Int) (w : World) : Calls Try.prog 156 #[.int .i64 7, .int .i64 a, .int .i64 b] w fun e w' => e = .returned (.tuple #[.int .i64 (binW 7 a b), .int .i64 0]) ∧ w' = w := by
  have h1 := wd_lo a; have h2 := wd_hi a; have h3 := wd_lo b; have h4 := wd_hi b
  go_enter Try.func156, Try.ntmps156
  go_wp2_with (first | (go_at_call 163; refine (specSignedOf _ _).mono ?_; rintro e w' ⟨rfl, rfl⟩) | (go_at_call 151; refine (specWordOf _ _).mono ?_; rintro e w' ⟨rfl, rfl⟩) | (go_at_call 165; refine (l2Bit_any _ _).mono ?_; rintro e w' ⟨rfl, rfl⟩))
  go_ret2
  refine ⟨tup64 ?_, rfl⟩
  rw [b64_or]; rfl
set_option maxHeartbeats 400000 in
theorem l2_8 (a b : Int) (w : World) : Calls Try.prog 156 #[.int .i64 8, .int .i64 a, .int .i64 b] w fun e w' => e = .returned (.tuple #[.int .i64 (binW 8 a b), .int .i64 0]) ∧ w' = w := by
  have h1 := wd_lo a; have h2 := wd_hi a; have h3 := wd_lo b; have h4 := wd_hi b
  go_enter Try.func156, Try.ntmps156
  go_wp2_with (first | (go_at_call 163; refine (specSignedOf _ _).mono ?_; rintro e w' ⟨rfl, rfl⟩) | (go_at_call 151; refine (specWordOf _ _).mono ?_; rintro e w' ⟨rfl, rfl⟩) | (go_at_call 165; refine (l2Bit_any _ _).mono ?_; rintro e w' ⟨rfl, rfl⟩))
  go_ret2
  refine ⟨tup64 ?_, rfl⟩
  rw [b64_xor]; rfl
set_option maxHeartbeats 400000 in
theorem l2_9 (a b : Int) (w : World) : Calls Try.prog 156 #[.int .i64 9, .int .i64 a, .int .i64 b] w fun e w' => e = .returned (.tuple #[.int .i64 (binW 9 a b), .int .i64 0]) ∧ w' = w := by
  have h1 := sg_lo a; have h2 := sg_hi a; have h3 := sg_lo b; have h4 := sg_hi b
  go_enter Try.func156, Try.ntmps156
  go_wp2_with (first | (go_at_call 163; refine (specSignedOf _ _).mono ?_; rintro e w' ⟨rfl, rfl⟩) | (go_at_call 151; refine (specWordOf _ _).mono ?_; rintro e w' ⟨rfl, rfl⟩) | (go_at_call 165; refine (l2Bit_any _ _).mono ?_; rintro e w' ⟨rfl, rfl⟩))
  · go_ret2
    refine ⟨tup64 ?_, rfl⟩
    exact (if_pos h).symm
  · go_ret2
    refine ⟨tup64 ?_, rfl⟩
    exact (if_neg (Int.not_lt.2 h)).symm
set_option maxHeartbeats 400000 in
theorem l2_10 (a b : Int) (w : World) : Calls Try.prog 156 #[.int .i64 10, .int .i64 a, .int .i64 b] w fun e w' => e = .returned (.tuple #[.int .i64 (binW 10 a b), .int .i64 0]) ∧ w' = w := by
  have h1 := sg_lo a; have h2 := sg_hi a; have h3 := sg_lo b; have h4 := sg_hi b
  go_enter Try.func156, Try.ntmps156
  go_wp2_with (first | (go_at_call 163; refine (specSignedOf _ _).mono ?_; rintro e w' ⟨rfl, rfl⟩) | (go_at_call 151; refine (specWordOf _ _).mono ?_; rintro e w' ⟨rfl, rfl⟩) | (go_at_call 165; refine (l2Bit_any _ _).mono ?_; rintro e w' ⟨rfl, rfl⟩))
  · go_ret2
    refine ⟨tup64 ?_, rfl⟩
    exact (if_pos ((sg_same a b).1 h)).symm
  · go_ret2
    refine ⟨tup64 ?_, rfl⟩
    exact (if_neg (fun e => h ((sg_same a b).2 e))).symm

set_option maxHeartbeats 400000 in
theorem l2_out (op a b : Int) (w : World) (h : op < 1 ∨ 10 < op) : Calls Try.prog 156 #[.int .i64 op, .int .i64 a, .int .i64 b] w fun e w' => e = .returned (.tuple #[.int .i64 0, .int .i64 3]) ∧ w' = w := by
  have e1 : (op == 1) = false := by simp; omega
  have e2 : (op == 2) = false := by simp; omega
  have e3 : (op == 3) = false := by simp; omega
  have e4 : (op == 4) = false := by simp; omega
  have e5 : (op == 5) = false := by simp; omega
  have e6 : (op == 6) = false := by simp; omega
  have e7 : (op == 7) = false := by simp; omega
  have e8 : (op == 8) = false := by simp; omega
  have e9 : (op == 9) = false := by simp; omega
  have e10 : (op == 10) = false := by simp; omega
  clear h
  go_enter Try.func156, Try.ntmps156
  go_wp2_with (first | (go_at_call 163; refine (specSignedOf _ _).mono ?_; rintro e w' ⟨rfl, rfl⟩) | (go_at_call 151; refine (specWordOf _ _).mono ?_; rintro e w' ⟨rfl, rfl⟩))
  go_ret2
  exact ⟨rfl, rfl⟩
set_option maxHeartbeats 400000 in
theorem l2_zero (op a b : Int) (w : World) (h : op = 4 ∨ op = 5) (hz : wd b = 0) : Calls Try.prog 156 #[.int .i64 op, .int .i64 a, .int .i64 b] w fun e w' => e = .returned (.tuple #[.int .i64 0, .int .i64 4]) ∧ w' = w := by
  have hb : (sg b == 0) = true := by rw [(sg_zero b).2 hz]; rfl
  clear hz
  rcases h with rfl | rfl
  all_goals
    go_enter Try.func156, Try.ntmps156
    go_wp2_with (first | (go_at_call 163; refine (specSignedOf _ _).mono ?_; rintro e w' ⟨rfl, rfl⟩) | (go_at_call 151; refine (specWordOf _ _).mono ?_; rintro e w' ⟨rfl, rfl⟩))
    go_ret2
    exact ⟨rfl, rfl⟩
theorem l2_any (op a b : Int) (w : World) : Calls Try.prog 156 #[.int .i64 op, .int .i64 a, .int .i64 b] w fun e w' => e = .returned (.tuple #[.int .i64 (binV op a b), .int .i64 (binC op b)]) ∧ w' = w := by
  by_cases h : op < 1 ∨ 10 < op
  · have hc : binC op b = 3 := if_pos h
    rw [binV, hc]
    exact l2_out op a b w h
  by_cases hz : (op = 4 ∨ op = 5) ∧ wd b = 0
  · have hc : binC op b = 4 := by unfold binC; rw [if_neg h, if_pos hz]
    rw [binV, hc]
    exact l2_zero op a b w hz.1 hz.2
  have hc : binC op b = 0 := by unfold binC; rw [if_neg h, if_neg hz]
  rw [binV, hc, if_pos rfl]
  have hop : op = 1 ∨ op = 2 ∨ op = 3 ∨ op = 4 ∨ op = 5 ∨ op = 6 ∨ op = 7 ∨ op = 8 ∨ op = 9 ∨ op = 10 := by omega
  rcases hop with rfl | rfl | rfl | rfl | rfl | rfl | rfl | rfl | rfl | rfl
  · exact l2_1 a b w
  · exact l2_2 a b w
  · exact l2_3 a b w
  · exact l2_4 a b w (fun e => hz ⟨.inl rfl, e⟩)
  · exact l2_5 a b w (fun e => hz ⟨.inr rfl, e⟩)
  · exact l2_6 a b w
  · exact l2_7 a b w
  · exact l2_8 a b w
  · exact l2_9 a b w
  · exact l2_10 a b w
end Go.Proofs.Ytjofghelenfklaa
namespace Go.Proofs.Ytjofghelenfklaa
open Go.RowKit
set_option linter.unusedVariables false

/-- a word is stored into the cells of spec's machine -/
theorem RunS.put {B p gc n c : Nat} {w : World} {m : SM} {sv : Value} {hbl : w.heap[p]? = some (.cells (lineS m sv (.slice (some ⟨gc, 0, none⟩) n c)) 39 (0, 0))} (hm : MemO B w p sv (.slice (some ⟨gc, 0, none⟩) n c) m) (t : Nat) (x : Int) : RunS B (w.setCell ⟨gc, t, none⟩ (.int .i64 x)) p (sto m t x) := by
  have hgp : p ≠ gc := fun e => hm.d2 (by rw [← e]; rfl)
  have hb2 : (w.setCell ⟨gc, t, none⟩ (.int .i64 x)).heap[p]? = w.heap[p]? := heap_setCell_other _ _ _ _ hgp
  exact ⟨sv, _, hb2.trans hbl, MemO.put hm x⟩
theorem item_in (n : Nat) (f s i : Int) (hf : 0 ≤ f) : itemC n f s i = 0 → 0 ≤ itemV n f s i ∧ itemV n f s i < n := fun hi => by
  unfold itemV
  rw [if_pos hi]
  unfold itemC at hi
  split at hi
  · rename_i hb
    have := (inB_iff.1 hb).1
    split at hi
    · omega
    · omega
  · omega
def lst (x : Int) : Int := b01 (decide (x ≠ 0))
set_option maxHeartbeats 800000 in
theorem sLeast_any (n : Int) (w : World) : Calls Try.prog 157 #[.int .i64 n] w fun e w' => e = .returned (.int .i64 (lst n)) ∧ w' = w := by
  have HB : Hid (∀ (b : Bool) (w : World), Calls Try.prog 165 #[.bool b] w fun e w' => e = .returned (.int .i64 (b01 b)) ∧ w' = w) := fun b w => l2Bit_any b w
  by_cases h : n = 0
  · subst h
    go_enter Try.func157, Try.ntmps157
    go_wp2_with fail
    refine (HB.out _ _).mono ?_
    rintro e w2 ⟨rfl, rfl⟩
    go_wp2_with fail
    go_ret
    exact ⟨rfl, rfl⟩
  · have e1 : (n != 0) = true := by simpa using h
    have e2 : Hid (lst n = 1) := by show b01 (decide (n ≠ 0)) = 1; rw [decide_eq_true h]; rfl
    go_enter Try.func157, Try.ntmps157
    go_wp2_with fail
    refine (HB.out _ _).mono ?_
    rintro e w2 ⟨rfl, rfl⟩
    go_wp2_with fail
    go_ret
    exact ⟨by rw [e2.out]; rfl, rfl⟩
end Go.Proofs.Ytjofghelenfklaa
