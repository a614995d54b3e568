/-
  impl's step.
-/
import Derived.Test.YtcikofhbfncgdaaIStk9
import Derived.Test.YtcikofhbfncgdaaIPrg
import Derived.Test.YtcikofhbfncgdaaInvM
namespace Go.Proofs.Ytcikofhbfncgdaa
open Go.RowKit
set_option linter.unusedVariables false
attribute [local go_sem ↓] Go.wp_at_zero Go.wp_at_succ

/-- Used is one more -/
theorem used_fld {B p : Nat} {w : World} {m : SM} (h : RunI B w p m) (x : Int) (hx : x = if m.used + 1 ≤ 1000000 then m.used + 1 else 1000000) : RunI B (w.setCell ⟨p, 4, none⟩ (.int .i64 x)) p (usedM m) := by
  subst hx
  exact h.fld (m' := usedM m) 4 _ (fun _ _ => rfl) rfl rfl

set_option maxHeartbeats 1600000 in
set_option maxRecDepth 100000 in
theorem step_no (B p k : Nat) (m : SM) (zs : List Int) (a : Option Addr) (c : Nat) (w : World) (h : RunI B w p m) (hg : Good m) (hk : m.pc = k) (hn : Nums w a zs) (hB : ∀ b off, a = some ⟨b, off, none⟩ → b < B) (hl : zs.length ≤ 400) (hr : readyB zs k = false) :
    Calls Try.prog 87 #[.pointer (some ⟨p, 0, none⟩), .slice a zs.length c] w fun e w' => e = .returned (.tuple #[]) ∧ RunI B w' p (trp (usedM m) 1) ∧ Below B w w' := by
  have hpw := h.lt
  have u0 := hg.used0
  have u1 := hg.used1
  obtain ⟨sv, cv, hb, hm⟩ := id h
  have c4 := (RunI.cells (B := B) hb).2.2.2.2.1
  have f4 := frozen_of_row _ _ 4 _ _ hb
  have HCT : Hid (Calls Try.prog 107 #[.pointer (some ⟨p, 2, none⟩)] w fun e w' => e = .returned (.tuple #[]) ∧ w' = w.setCell ⟨p, 4, none⟩ (.int .i64 (if m.used + 1 ≤ 1000000 then m.used + 1 else 1000000))) := pcount_any p 2 m.used w u0 u1 c4 f4
  have HN : Hid (∀ W, Below B w W → Nums W a zs) := fun W hbw => by
    rcases hn with hn | ⟨b, off, rfl, hcc⟩
    · exact .inl hn
    · exact .inr ⟨b, off, rfl, fun i hi => (hbw.cell (p := ⟨b, off + i, none⟩) (hB b off rfl)).trans (hcc i hi)⟩
  have HR : Hid (RunI B w p m) := h
  have HI : Hid (∀ W, Nums W a zs → Calls Try.prog 108 #[.slice a zs.length c, .int .i64 k, argsF] W fun e w' => e = .returned (.tuple #[oneZ, .bool false]) ∧ Below W.heap.size W w') := fun W hn => instr_n a zs c k W hn hl (by have := hg.pc1; omega) hr
  clear hb hm h hg hn hB hl hr
  go_enter Try.func87, Try.ntmps87
  go_upto_region 1 with (go_at_call 107; refine HCT.out.mono ?_; rintro e wz ⟨rfl, rfl⟩)
  have HR1 : Hid (RunI B (w.setCell ⟨p, 4, none⟩ (.int .i64 (if m.used + 1 ≤ 1000000 then m.used + 1 else 1000000))) p (usedM m)) := used_fld HR.out _ rfl
  have HB1 : Hid (Below B w (w.setCell ⟨p, 4, none⟩ (.int .i64 (if m.used + 1 ≤ 1000000 then m.used + 1 else 1000000)))) := (Below.refl _ _).setCell hpw.1 _
  clear c4 f4 HCT
  generalize w.setCell ⟨p, 4, none⟩ (.int .i64 (if m.used + 1 ≤ 1000000 then m.used + 1 else 1000000)) = W1 at *
  generalize (if m.used + 1 ≤ 1000000 then m.used + 1 else (1000000 : Int)) = xu at *
  have hpw1 := HR1.out.lt
  have HP1 : Hid (B ≤ p ∧ p < W1.heap.size) := hpw1
  obtain ⟨sv1, cv1, hb1, _⟩ := id HR1.out
  have c2 := (RunI.cells (B := B) hb1).2.2.1
  rw [show (usedM m).pc = (k : Int) from hk] at c2
  clear hb1 hpw hpw1 HR u0 u1
  clear hk
  go_upto_region 3 with (go_at_call 108; refine (HI.out _ (HN.out _ HB1.out)).mono ?_; rintro e w2 ⟨rfl, hb2⟩)
  have b2 := (Below.refl w2.heap.size w2).alloc (Nat.le_refl _) (.cells #[.int .i64 0, .slice none 0 0, .int .i64 0] 130)
  have HR3 : Hid (RunI B (w2.alloc (.cells #[.int .i64 0, .slice none 0 0, .int .i64 0] 130)) p (usedM m)) := (HR1.out.kept hb2).kept b2
  have HB3 : Hid (Below B w (w2.alloc (.cells #[.int .i64 0, .slice none 0 0, .int .i64 0] 130))) := (HB1.out.trans (hb2.mono (by have := HP1.out; omega))).trans (b2.mono (by have := HP1.out; have := hb2.size; omega))
  clear b2 hb2 HR1 HB1 HI HN c2
  generalize w2.alloc (.cells #[.int .i64 0, .slice none 0 0, .int .i64 0] 130) = W3 at *
  obtain ⟨sv3, cv3, hb3, _⟩ := id HR3.out
  have c5 := (RunI.cells (B := B) hb3).2.2.2.2.2.1
  have f5 := frozen_of_row _ _ 5 _ _ hb3
  clear hb3
  go_wp2_with fail
  refine bodyPost_ret (v := .tuple #[]) (by simp [results, Try.results87, go_sem]) rfl ⟨rfl, HR3.out.fld (m' := trp (usedM m) 1) 5 _ (fun _ _ => rfl) rfl rfl, HB3.out.setCell HR3.out.lt.1 _⟩

set_option maxHeartbeats 3200000 in
set_option maxRecDepth 100000 in
theorem step_yes (B p k : Nat) (m : SM) (zs : List Int) (a : Option Addr) (c : Nat) (w : World) (h : RunI B w p m) (hg : Good m) (hk : m.pc = k) (hn : Nums w a zs) (hB : ∀ b off, a = some ⟨b, off, none⟩ → b < B) (hl : zs.length ≤ 400) (hc : zs.length ≤ c) (hw : wordsB zs = true) (hr : readyB zs k = true) :
    Calls Try.prog 87 #[.pointer (some ⟨p, 0, none⟩), .slice a zs.length c] w fun e w' => e = .returned (.tuple #[]) ∧ RunI B w' p (goM (zs.getD k 0) (zs.getD (k + 1) 0) (zs.getD (k + 2) 0) ((k : Int) + 1 + argN (zs.getD k 0)) m) ∧ Below B w w' := by
  have hpw := h.lt
  have u0 := hg.used0
  have u1 := hg.used1
  obtain ⟨sv, cv, hb, hm⟩ := id h
  have c4 := (RunI.cells (B := B) hb).2.2.2.2.1
  have f4 := frozen_of_row _ _ 4 _ _ hb
  have HCT : Hid (Calls Try.prog 107 #[.pointer (some ⟨p, 2, none⟩)] w fun e w' => e = .returned (.tuple #[]) ∧ w' = w.setCell ⟨p, 4, none⟩ (.int .i64 (if m.used + 1 ≤ 1000000 then m.used + 1 else 1000000))) := pcount_any p 2 m.used w u0 u1 c4 f4
  have HN : Hid (∀ W, Below B w W → Nums W a zs) := fun W hbw => by
    rcases hn with hn | ⟨b, off, rfl, hcc⟩
    · exact .inl hn
    · exact .inr ⟨b, off, rfl, fun i hi => (hbw.cell (p := ⟨b, off + i, none⟩) (hB b off rfl)).trans (hcc i hi)⟩
  have HR : Hid (RunI B w p m) := h
  have HI : Hid (∀ W, Nums W a zs → B ≤ W.heap.size → Calls Try.prog 108 #[.slice a zs.length c, .int .i64 k, argsF] W fun e w' => ∃ wv, e = .returned (.tuple #[oneV (zs.getD k 0) wv ((k : Int) + 1 + argN (zs.getD k 0)), .bool true]) ∧ WordsV B w' wv (zs.getD k 0) (zs.getD (k + 1) 0) (zs.getD (k + 2) 0) ∧ Below W.heap.size W w') := fun W hn hBw => instr_r B a zs c k W hn hB hl hc hr hBw
  have hq := ready_of hr
  simp only [Int.toNat_natCast] at hq
  have HQ : Hid (1 ≤ zs.getD k 0 ∧ zs.getD k 0 ≤ 13) := ⟨hq.2.1, hq.2.2.1⟩
  have hW : ∀ i, 0 ≤ zs.getD i 0 ∧ zs.getD i 0 ≤ 65535 := fun i => by
    by_cases hi : i < zs.length
    · exact wordsB_get hw hi
    · rw [List.getD_eq_getElem?_getD, List.getElem?_eq_none (by omega)]; simp
  have HWU : Hid (0 ≤ zs.getD (k + 1) 0 ∧ zs.getD (k + 1) 0 ≤ 65535 ∧ 0 ≤ zs.getD (k + 2) 0 ∧ zs.getD (k + 2) 0 ≤ 65535) := ⟨(hW _).1, (hW _).2, (hW _).1, (hW _).2⟩
  have HNX : Hid (0 ≤ (k : Int) + 1 + argN (zs.getD k 0) ∧ (k : Int) + 1 + argN (zs.getD k 0) ≤ 65535) := ⟨by have := argN_lo (zs.getD k 0); omega, by have := argN_lo (zs.getD k 0); omega⟩
  have HG : Hid (Good m) := hg
  clear hb hm h hg hn hB hl hr hc hw hq hW
  generalize zs.getD k 0 = op at *
  generalize zs.getD (k + 1) 0 = u at *
  generalize zs.getD (k + 2) 0 = v at *
  obtain ⟨nx, hnx⟩ : ∃ nx, nx = (k : Int) + 1 + argN op := ⟨_, rfl⟩
  rw [← hnx] at HI HNX ⊢
  clear hnx
  go_enter Try.func87, Try.ntmps87
  go_upto_region 1 with (go_at_call 107; refine HCT.out.mono ?_; rintro e wz ⟨rfl, rfl⟩)
  have HR1 : Hid (RunI B (w.setCell ⟨p, 4, none⟩ (.int .i64 (if m.used + 1 ≤ 1000000 then m.used + 1 else 1000000))) p (usedM m)) := used_fld HR.out _ rfl
  have HB1 : Hid (Below B w (w.setCell ⟨p, 4, none⟩ (.int .i64 (if m.used + 1 ≤ 1000000 then m.used + 1 else 1000000)))) := (Below.refl _ _).setCell hpw.1 _
  clear c4 f4 HCT
  generalize w.setCell ⟨p, 4, none⟩ (.int .i64 (if m.used + 1 ≤ 1000000 then m.used + 1 else 1000000)) = W1 at *
  generalize (if m.used + 1 ≤ 1000000 then m.used + 1 else (1000000 : Int)) = xu at *
  have hpw1 := HR1.out.lt
  have HP1 : Hid (B ≤ p ∧ p < W1.heap.size) := hpw1
  obtain ⟨sv1, cv1, hb1, _⟩ := id HR1.out
  have c2 := (RunI.cells (B := B) hb1).2.2.1
  rw [show (usedM m).pc = (k : Int) from hk] at c2
  clear hb1 hpw hpw1 HR u0 u1
  clear hk
  go_upto_region 4 with (go_at_call 108; refine (HI.out _ (HN.out _ HB1.out) (by have := HP1.out; omega)).mono ?_; rintro e w2 ⟨wv, rfl, hwv, hb2⟩; obtain ⟨aw, cw, rfl, hwx⟩ := hwv)
  have a2 := heap_alloc_new w2 (.cells #[.int .i64 op, .slice aw (argN op).toNat cw, .int .i64 nx] 130)
  have b2 := (Below.refl w2.heap.size w2).alloc (Nat.le_refl _) (.cells #[.int .i64 op, .slice aw (argN op).toNat cw, .int .i64 nx] 130)
  have hz2 := hb2.size
  have HW2 : Hid (WordsV B (w2.alloc (.cells #[.int .i64 op, .slice aw (argN op).toNat cw, .int .i64 nx] 130)) (.slice aw (argN op).toNat cw) op u v) := WordsV.kept ⟨aw, cw, rfl, hwx⟩ (b2.mono (by have := HP1.out; omega))
  have HR2 : Hid (RunI B (w2.alloc (.cells #[.int .i64 op, .slice aw (argN op).toNat cw, .int .i64 nx] 130)) p (usedM m)) := (HR1.out.kept hb2).kept b2
  have HB2 : Hid (Below B w (w2.alloc (.cells #[.int .i64 op, .slice aw (argN op).toNat cw, .int .i64 nx] 130))) := (HB1.out.trans (hb2.mono (by have := HP1.out; omega))).trans (b2.mono (by have := HP1.out; omega))
  have HA2 : Hid _ := a2
  have HP2 : Hid (B ≤ w2.heap.size) := by have := HP1.out; show B ≤ _; omega
  have HO : Hid (OpOf op (opV (bs (opNm op)) (argN op) (tkN op) (gvN op))) := stackOp_any op HQ.out.1 HQ.out.2
  have HFI : Hid (∀ W, RunI B W p (usedM m) → Calls Try.prog 118 #[.pointer (some ⟨p, 0, none⟩), .int .i64 (tkN op), .int .i64 (gvN op)] W fun e w' => e = .returned (.bool (fitsB m.stk.length op)) ∧ w' = W) := fun W hr => ifits_any B p (usedM m) op W hr HG.out.sl
  clear a2 b2 hz2 hb2 hwx HR1 HB1 HP1 HI HN c2
  generalize w2.alloc (.cells #[.int .i64 op, .slice aw (argN op).toNat cw, .int .i64 nx] 130) = W2 at *
  generalize hQ : w2.heap.size = q at *
  clear hQ
  generalize (argN op).toNat = na at *
  generalize tkN op = tk at *
  generalize gvN op = gv at *
  generalize argN op = an at *
  generalize bs (opNm op) = nm at *
  have hy0 := cell_of_row _ _ 0 _ _ _ HA2.out
  simp at hy0
  go_upto_region 5 with (go_at_call 117; refine (HO.out _).mono ?_; rintro e w3 ⟨rfl, hb3⟩)
  have a3 := heap_alloc_new w3 (.cells #[.string nm, .int .i64 an, .int .i64 tk, .int .i64 gv] 142)
  have b3 := (Below.refl w3.heap.size w3).alloc (Nat.le_refl _) (.cells #[.string nm, .int .i64 an, .int .i64 tk, .int .i64 gv] 142)
  have hq2 := (Array.getElem?_eq_some_iff.1 HA2.out).1
  have hz3 := hb3.size
  have HW3 : Hid (WordsV B (w3.alloc (.cells #[.string nm, .int .i64 an, .int .i64 tk, .int .i64 gv] 142)) (.slice aw na cw) op u v) := (HW2.out.kept (hb3.mono (by have := HP2.out; omega))).kept (b3.mono (by have := HP2.out; omega))
  have HR3 : Hid (RunI B (w3.alloc (.cells #[.string nm, .int .i64 an, .int .i64 tk, .int .i64 gv] 142)) p (usedM m)) := (HR2.out.kept hb3).kept b3
  have HB3 : Hid (Below B w (w3.alloc (.cells #[.string nm, .int .i64 an, .int .i64 tk, .int .i64 gv] 142))) := (HB2.out.trans (hb3.mono (by have := HP2.out; omega))).trans (b3.mono (by have := HP2.out; omega))
  have HA3 : Hid ((w3.alloc (.cells #[.string nm, .int .i64 an, .int .i64 tk, .int .i64 gv] 142)).heap[q]? = some (.cells #[.int .i64 op, .slice aw na cw, .int .i64 nx] 130 (0, 0))) := blk8 (blk8 HA2.out hb3) b3
  clear b3 hq2 hz3 hb3 hy0 HW2 HR2 HB2 HA2 HO
  generalize w3.alloc (.cells #[.string nm, .int .i64 an, .int .i64 tk, .int .i64 gv] 142) = W3 at *
  generalize w3.heap.size = q3 at *
  have d2 := cell_of_row _ _ 2 _ _ _ a3
  have d3 := cell_of_row _ _ 3 _ _ _ a3
  simp at d2 d3
  clear a3
  go_cut [39] from 40 (fun x W4 => x = .bool (!fitsB m.stk.length op) ∧ W4 = W3.drew)
  case first =>
    go_region_with (go_at_call 118; refine (HFI.out _ (HR3.out.heap (by rfl))).mono ?_; rintro e w4 ⟨rfl, rfl⟩)
    all_goals
      go_wp2_with fail
      go_meet
      case rel => exact ⟨rfl, rfl⟩
  case rest =>
    obtain ⟨rfl, rfl⟩ := hcut
    have HR4 : Hid (RunI B W3.drew p (usedM m)) := HR3.out.heap rfl
    have HW4 : Hid (WordsV B W3.drew (.slice aw na cw) op u v) := HW3.out.kept (Below.refl B W3).drew
    have HB4 : Hid (Below B w W3.drew) := HB3.out.drew
    have HA4 : Hid (W3.drew.heap[q]? = some (.cells #[.int .i64 op, .slice aw na cw, .int .i64 nx] 130 (0, 0))) := HA3.out
    clear HFI HR3 HW3 HB3 HA3 d2 d3
    generalize W3.drew = W4 at *
    cases hf : fitsB m.stk.length op
    · have HGM : Hid (goM op u v nx m = trp (usedM m) 1) := if_pos hf
      obtain ⟨sv4, cv4, hb4, _⟩ := id HR4.out
      have c5 := (RunI.cells (B := B) hb4).2.2.2.2.2.1
      have f5 := frozen_of_row _ _ 5 _ _ hb4
      clear hb4 hf
      go_wp2_with fail
      refine bodyPost_ret (v := .tuple #[]) (by simp [results, Try.results87, go_sem]) rfl ⟨rfl, ?_, HB4.out.setCell HR4.out.lt.1 _⟩
      rw [HGM.out]
      exact HR4.out.fld (m' := trp (usedM m) 1) 5 _ (fun _ _ => rfl) rfl rfl
    · have HT : Hid (Calls Try.prog 119 #[.pointer (some ⟨p, 0, none⟩), oneV op (.slice aw na cw) nx] W4 fun e w' => e = .returned (ir (toldC op u v m) (toldV op u v m)) ∧ Below W4.heap.size W4 w') := told_any B p (usedM m) op u v nx _ W4 HR4.out (usedM_good HG.out) HQ.out.1 HQ.out.2 hf HW4.out HWU.out.1 HWU.out.2.1 HWU.out.2.2.1 HWU.out.2.2.2
      have HGM : Hid (goM op u v nx m = if toldC op u v m ≠ 0 then trp (usedM m) (toldC op u v m) else doM op u (toldV op u v m) (atP (usedM m) nx)) := if_neg (by rw [hf]; simp)
      have HF : Hid (fitsB m.stk.length op = true) := hf
      have hTC := toldC_lo op u v m
      have HV : Hid (toldC op u v m = 0 → 0 ≤ toldV op u v m ∧ toldV op u v m ≤ 65535 ∧ (op = 2 ∨ op = 3 ∨ op = 4 ∨ op = 5 → toldV op u v m < m.cells.length)) := fun h => toldV_lo HG.out h HWU.out.1
      generalize toldC op u v m = C at *
      generalize toldV op u v m = V at *
      have y0 := cell_of_row _ _ 0 _ _ _ HA4.out
      have y1 := cell_of_row _ _ 1 _ _ _ HA4.out
      have y2 := cell_of_row _ _ 2 _ _ _ HA4.out
      simp at y0 y1 y2
      have HTC : Hid (0 ≤ C ∧ C ≤ 10) := hTC
      clear hf hTC
      go_upto_region 8 with (go_at_call 119; refine HT.out.mono ?_; rintro e w5 ⟨rfl, hb5⟩)
      have a5 := heap_alloc_new w5 (.cells #[.int .i64 C, .int .i64 V] 61)
      have b5 := (Below.refl w5.heap.size w5).alloc (Nat.le_refl _) (.cells #[.int .i64 C, .int .i64 V] 61)
      have hq5 := (Array.getElem?_eq_some_iff.1 HA4.out).1
      have hz5 := hb5.size
      have HW5 : Hid (WordsV B (w5.alloc (.cells #[.int .i64 C, .int .i64 V] 61)) (.slice aw na cw) op u v) := (HW4.out.kept (hb5.mono (by have := HP2.out; omega))).kept (b5.mono (by have := HP2.out; omega))
      have HR5 : Hid (RunI B (w5.alloc (.cells #[.int .i64 C, .int .i64 V] 61)) p (usedM m)) := (HR4.out.kept hb5).kept b5
      have HB5 : Hid (Below B w (w5.alloc (.cells #[.int .i64 C, .int .i64 V] 61))) := (HB4.out.trans (hb5.mono (by have := HP2.out; omega))).trans (b5.mono (by have := HP2.out; omega))
      have HA5 : Hid ((w5.alloc (.cells #[.int .i64 C, .int .i64 V] 61)).heap[q]? = some (.cells #[.int .i64 op, .slice aw na cw, .int .i64 nx] 130 (0, 0))) := blk8 (blk8 HA4.out hb5) b5
      have HPQ : Hid (p < w5.heap.size ∧ q ≠ p ∧ w5.heap.size ≠ p) := by
        have hp4 := HR4.out.lt.2
        refine ⟨by omega, fun e => ?_, by omega⟩
        obtain ⟨sv5, cv5, hb, _⟩ := HR4.out
        have hA := HA4.out
        rw [e, hb] at hA
        simp at hA
      clear b5 hq5 hz5 hb5 y0 y1 y2 HW4 HR4 HB4 HA4 HT
      generalize w5.alloc (.cells #[.int .i64 C, .int .i64 V] 61) = W5 at *
      generalize w5.heap.size = q5 at *
      have z0 := cell_of_row _ _ 0 _ _ _ a5
      have z1 := cell_of_row _ _ 1 _ _ _ a5
      simp at z0 z1
      have HA6 : Hid (W5.heap[q5]? = _) := a5
      clear a5
      obtain ⟨sv4, cv4, hb4, _⟩ := id HR5.out
      by_cases hC : C = 0
      · have HGM2 : Hid (goM op u v nx m = doM op u V (atP (usedM m) nx)) := HGM.out.trans (if_neg (by rw [hC]; simp))
        obtain ⟨t, ht⟩ := Int.eq_ofNat_of_zero_le (HV.out hC).1
        have HV2 : Hid (op = 2 ∨ op = 3 ∨ op = 4 ∨ op = 5 → t < m.cells.length) := fun h => by have := (HV.out hC).2.2 h; omega
        subst hC
        rw [ht] at HGM2 z1
        clear HV HGM
        have c2 := (RunI.cells (B := B) hb4).2.2.1
        have f2 := frozen_of_row _ _ 2 _ _ hb4
        have x2 := cell_of_row _ _ 2 _ _ _ HA5.out
        simp at x2
        clear hb4
        go_upto_region 11 with fail
        have HR6 : Hid (RunI B (W5.setCell ⟨p, 2, none⟩ (.int .i64 nx)) p (atP (usedM m) nx)) := HR5.out.fld (m' := atP (usedM m) nx) 2 _ (fun _ _ => rfl) rfl rfl
        have HB6 : Hid (Below B w (W5.setCell ⟨p, 2, none⟩ (.int .i64 nx))) := HB5.out.setCell HR5.out.lt.1 _
        have HW6 : Hid (WordsV B (W5.setCell ⟨p, 2, none⟩ (.int .i64 nx)) (.slice aw na cw) op u v) := HW5.out.kept ((Below.refl B W5).setCell HR5.out.lt.1 _)
        have HA7 : (W5.setCell ⟨p, 2, none⟩ (.int .i64 nx)).heap[q]? = _ := (heap_setCell_other W5 ⟨p, 2, none⟩ q (.int .i64 nx) HPQ.out.2.1).trans HA5.out
        have HA8 : (W5.setCell ⟨p, 2, none⟩ (.int .i64 nx)).heap[q5]? = _ := (heap_setCell_other W5 ⟨p, 2, none⟩ q5 (.int .i64 nx) HPQ.out.2.2).trans HA6.out
        clear HR5 HB5 HW5 HA5 HA6 z0 z1 c2 f2 x2
        generalize W5.setCell ⟨p, 2, none⟩ (.int .i64 nx) = W6 at *
        rw [ht] at HA8
        have y0 := cell_of_row _ _ 0 _ _ _ HA7
        have y1 := cell_of_row _ _ 1 _ _ _ HA7
        have y2 := cell_of_row _ _ 2 _ _ _ HA7
        have y3 := cell_of_row _ _ 1 _ _ _ HA8
        simp at y0 y1 y2 y3
        clear HA7 HA8
        have HD : Hid (Calls Try.prog 120 #[.pointer (some ⟨p, 0, none⟩), oneV op (.slice aw na cw) nx, .int .i64 t] W6 fun e w' => e = .returned (.tuple #[]) ∧ RunI B w' p (doM op u t (atP (usedM m) nx)) ∧ Below B W6 w') := do_any B p (atP (usedM m) nx) op u v nx t _ W6 HR6.out (pc_good (usedM_good HG.out) HNX.out.1 HNX.out.2) HQ.out.1 HQ.out.2 HF.out HV2.out HW6.out
        go_wp2_with (go_at_call 120; refine HD.out.mono ?_; rintro e w7 ⟨rfl, hr7, hb7⟩)
        go_end0
        exact ⟨rfl, by rw [HGM2.out]; exact hr7, HB6.out.trans hb7⟩
      · have HGM2 : Hid (goM op u v nx m = trp (usedM m) C) := HGM.out.trans (if_pos hC)
        have c5 := (RunI.cells (B := B) hb4).2.2.2.2.2.1
        have f5 := frozen_of_row _ _ 5 _ _ hb4
        have eC : (C != 0) = true := by simpa using hC
        have eD : decide (C = 0) = false := decide_eq_false hC
        clear hb4 HGM HV
        go_wp2_with fail
        refine bodyPost_ret (v := .tuple #[]) (by simp [results, Try.results87, go_sem]) rfl ⟨rfl, ?_, HB5.out.setCell HR5.out.lt.1 _⟩
        rw [HGM2.out]
        exact HR5.out.fld (m' := trp (usedM m) C) 5 _ (fun _ _ => rfl) rfl rfl

theorem istep_any (B p : Nat) (m : SM) (zs : List Int) (a : Option Addr) (c : Nat) (w : World) (h : RunI B w p m) (hg : Good m) (hn : Nums w a zs) (hB : ∀ b off, a = some ⟨b, off, none⟩ → b < B) (hl : zs.length ≤ 400) (hc : zs.length ≤ c) (hw : wordsB zs = true) :
    Calls Try.prog 87 #[.pointer (some ⟨p, 0, none⟩), .slice a zs.length c] w fun e w' => e = .returned (.tuple #[]) ∧ RunI B w' p (stepL zs m) ∧ Below B w w' := by
  obtain ⟨k, hk⟩ := Int.eq_ofNat_of_zero_le hg.pc0
  cases hr : readyB zs k
  · have e : stepL zs m = trp (usedM m) 1 := by unfold stepL; rw [hk, if_pos hr]; rfl
    rw [e]
    exact step_no B p k m zs a c w h hg hk hn hB hl hr
  · have e : stepL zs m = goM (zs.getD k 0) (zs.getD (k + 1) 0) (zs.getD (k + 2) 0) ((k : Int) + 1 + argN (zs.getD k 0)) m := by
      unfold stepL
      rw [hk, if_neg (by rw [hr]; simp), Int.toNat_natCast]
      rfl
    rw [e]
    exact step_yes B p k m zs a c w h hg hk hn hB hl hc hw hr
end Go.Proofs.Ytcikofhbfncgdaa
