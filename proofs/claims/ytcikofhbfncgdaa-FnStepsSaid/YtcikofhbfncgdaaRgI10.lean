/-
  impl's step of the register run.
-/
import Derived.Test.YtcikofhbfncgdaaRgI9
import Derived.Test.YtcikofhbfncgdaaIPrg
namespace Go.Proofs.Ytcikofhbfncgdaa
open Go.RowKit
set_option linter.unusedVariables false
variable {Ks : Kept}
attribute [local go_sem ↓] Go.wp_at_zero Go.wp_at_succ

/-- what every way of a step begins with -/
structure StR (B : Nat) (w W : World) (p : Nat) (m : SM) (a : Option Addr) (zs : List Int) : Prop where
  run : RunJ Ks B W p m
  b : Below B w W
  n : Nums W a zs
theorem nums_kept {B : Nat} {w W : World} {a : Option Addr} {zs : List Int} (hn : Nums w a zs) (hB : ∀ b off, a = some ⟨b, off, none⟩ → b < B) (hb : Below B w W) : Nums W a zs := by
  rcases hn with hn | ⟨b, off, rfl, hcc⟩
  · exact .inl hn
  · exact .inr ⟨b, off, rfl, fun i hi => (hb.cell (p := ⟨b, off + i, none⟩) (hB b off rfl)).trans (hcc i hi)⟩

set_option maxHeartbeats 3200000 in
set_option maxRecDepth 100000 in
theorem stepR_no (B p k : Nat) (m : SM) (zs : List Int) (a : Option Addr) (c : Nat) (w : World) (h : RunJ Ks B w p m) (hg : RGood m) (hk : m.pc = k) (hn : Nums w a zs) (hB : ∀ b off, a = some ⟨b, off, none⟩ → b < B) (hl : zs.length ≤ 400) (hr : readyR zs k = false) :
    Calls Try.prog 74 #[.pointer (some ⟨p, 0, none⟩), .slice a zs.length c] w fun e w' => e = .returned (.tuple #[]) ∧ RunJ Ks B w' p (trp (usedM m) 1) ∧ Below B w w' := by
  have hpw := h.lt
  have u0 := hg.used0
  have u1 := hg.used1
  obtain ⟨cv, hb, -⟩ := id h
  have c3 := hb.cells.2.2.2.1
  have f3 := hb.froz 3
  have HCT : Hid (Calls Try.prog 107 #[.pointer (some ⟨p, 1, none⟩)] w fun e w' => e = .returned (.tuple #[]) ∧ w' = w.setCell ⟨p, 3, none⟩ (.int .i64 (usedM m).used)) := pcount_any p 1 m.used w u0 u1 c3 f3
  have HN : Hid (∀ W, Below B w W → Nums W a zs) := fun W hb => nums_kept hn hB hb
  have HI : Hid (∀ W, Nums W a zs → Calls Try.prog 108 #[.slice a zs.length c, .int .i64 k, argsRF] W fun e w' => e = .returned (.tuple #[oneZR, .bool false]) ∧ Below W.heap.size W w') := fun W hn => instrR_n a zs c k W hn hl (by have := hg.pc1; omega) hr
  have HR1 : Hid (RunJ Ks B (w.setCell ⟨p, 3, none⟩ (.int .i64 (usedM m).used)) p (usedM m)) := h.used _
  have HB1 : Hid (Below B w (w.setCell ⟨p, 3, none⟩ (.int .i64 (usedM m).used))) := (Below.refl _ _).setCell hpw.1 _
  have HPC : Hid ((usedM m).pc = (k : Int)) := hk
  clear hb h hg hn hB hl hr hk u0 u1 hpw c3 f3
  go_enter Try.func74, Try.ntmps74
  go_upto_region 1 with (go_at_call 107; refine HCT.out.mono ?_; rintro e wz ⟨rfl, rfl⟩)
  clear HCT
  generalize w.setCell ⟨p, 3, none⟩ (.int .i64 (usedM m).used) = W1 at *
  have HP1 : Hid (B ≤ p ∧ p < W1.heap.size) := HR1.out.lt
  obtain ⟨cv1, hb1, -⟩ := id HR1.out
  have c1 := hb1.cells.2.1
  rw [HPC.out] at c1
  clear hb1 HPC
  go_upto_region 2 with (go_at_call 108; refine (HI.out _ (HN.out _ HB1.out)).mono ?_; rintro e w2 ⟨rfl, hb2⟩)
  have b2 := (Below.refl w2.heap.size w2).alloc (Nat.le_refl _) (.cells #[.int .i64 0, .slice none 0 0, .int .i64 0] 130)
  have HR3 : Hid (RunJ Ks B (w2.alloc (.cells #[.int .i64 0, .slice none 0 0, .int .i64 0] 130)) p (usedM m)) := (HR1.out.kept hb2).kept b2
  have HB3 : Hid (Below B w (w2.alloc (.cells #[.int .i64 0, .slice none 0 0, .int .i64 0] 130))) := (HB1.out.trans (hb2.mono (by have := HP1.out; omega))).trans (b2.mono (by have := HP1.out; have := hb2.size; omega))
  clear b2 hb2 HR1 HB1 HI HN c1
  generalize w2.alloc (.cells #[.int .i64 0, .slice none 0 0, .int .i64 0] 130) = W3 at *
  obtain ⟨cv3, hb3, -⟩ := id HR3.out
  have c4 := hb3.cells.2.2.2.2.1
  have f4 := hb3.froz 4
  clear hb3
  go_wp2_with fail
  refine bodyPost_ret (v := .tuple #[]) (by simp [results, Try.results74, go_sem]) rfl ⟨rfl, HR3.out.trap 1, HB3.out.setCell HR3.out.lt.1 _⟩

set_option maxHeartbeats 6400000 in
set_option maxRecDepth 100000 in
theorem stepR_yes (B p k : Nat) (m : SM) (zs : List Int) (a : Option Addr) (c : Nat) (w : World) (h : RunJ Ks B w p m) (hg : RGood m) (hk : m.pc = k) (hn : Nums w a zs) (hB : ∀ b off, a = some ⟨b, off, none⟩ → b < B) (hl : zs.length ≤ 400) (hc : zs.length ≤ c) (hw : wordsB zs = true) (hr : readyR zs k = true) :
    Calls Try.prog 74 #[.pointer (some ⟨p, 0, none⟩), .slice a zs.length c] w fun e w' => e = .returned (.tuple #[]) ∧ RunJ Ks B w' p (goR (zs.getD k 0) (zs.getD (k + 1) 0) (zs.getD (k + 2) 0) (zs.getD (k + 3) 0) (zs.getD (k + 4) 0) ((k : Int) + 1 + argR (zs.getD k 0)) m) ∧ Below B w w' := by
  have hpw := h.lt
  have u0 := hg.used0
  have u1 := hg.used1
  obtain ⟨cv, hb, -⟩ := id h
  have c3 := hb.cells.2.2.2.1
  have f3 := hb.froz 3
  have HCT : Hid (Calls Try.prog 107 #[.pointer (some ⟨p, 1, none⟩)] w fun e w' => e = .returned (.tuple #[]) ∧ w' = w.setCell ⟨p, 3, none⟩ (.int .i64 (usedM m).used)) := pcount_any p 1 m.used w u0 u1 c3 f3
  have HN : Hid (∀ W, Below B w W → Nums W a zs) := fun W hb => nums_kept hn hB hb
  have HR1 : Hid (RunJ Ks B (w.setCell ⟨p, 3, none⟩ (.int .i64 (usedM m).used)) p (usedM m)) := h.used _
  have HB1 : Hid (Below B w (w.setCell ⟨p, 3, none⟩ (.int .i64 (usedM m).used))) := (Below.refl _ _).setCell hpw.1 _
  have HPC : Hid ((usedM m).pc = (k : Int)) := hk
  have hq := readyR_of hr
  simp only [Int.toNat_natCast] at hq
  have HQ : Hid (1 ≤ zs.getD k 0 ∧ zs.getD k 0 ≤ 13) := ⟨hq.2.1, hq.2.2.1⟩
  have HNX : Hid (0 ≤ (k : Int) + 1 + argR (zs.getD k 0) ∧ (k : Int) + 1 + argR (zs.getD k 0) ≤ 65535) := ⟨by have := argR_lo (zs.getD k 0); omega, by have := argR_lo (zs.getD k 0); omega⟩
  have HG : Hid (RGood (usedM m)) := usedR_good hg
  have HCLN : Hid ((usedM m).cells.length = m.cells.length) := rfl
  obtain ⟨f, hf⟩ : ∃ f : Nat → Int, f = fun i => zs.getD (k + 1 + i) 0 := ⟨_, rfl⟩
  have HWD : Hid (∀ i, 0 ≤ f i ∧ f i ≤ 65535) := fun i => by rw [hf]; exact code_word hw _
  have HI : Hid (∀ W, Nums W a zs → B ≤ W.heap.size → Calls Try.prog 108 #[.slice a zs.length c, .int .i64 k, argsRF] W fun e w' => ∃ wv, e = .returned (.tuple #[oneV (zs.getD k 0) wv ((k : Int) + 1 + argR (zs.getD k 0)), .bool true]) ∧ WordsR B w' wv (zs.getD k 0) f ∧ Below W.heap.size W w') := fun W hn hBw => by rw [hf]; exact instrR_r B a zs c k W hn hB hl hc hr hBw
  have hf0 : zs.getD (k + 1) 0 = f 0 := by rw [hf]
  have hf1 : zs.getD (k + 2) 0 = f 1 := by rw [hf]
  have hf2 : zs.getD (k + 3) 0 = f 2 := by rw [hf]
  have hf3 : zs.getD (k + 4) 0 = f 3 := by rw [hf]
  rw [hf0, hf1, hf2, hf3]
  clear hf hf0 hf1 hf2 hf3 hb h hn hB hl hr hc hw hq hk u0 u1 hpw c3 f3 hg
  generalize zs.getD k 0 = op at *
  obtain ⟨nx, hnx⟩ : ∃ nx, nx = (k : Int) + 1 + argR op := ⟨_, rfl⟩
  rw [← hnx] at HI HNX ⊢
  clear hnx
  have HGR : Hid ((hasR op (f 0) (f 1) (f 2) m.cells.length = false → goR op (f 0) (f 1) (f 2) (f 3) nx m = trp (usedM m) 1) ∧ (hasR op (f 0) (f 1) (f 2) m.cells.length = true → toldRC op (f 0) (f 1) (f 2) (f 3) (usedM m) ≠ 0 → goR op (f 0) (f 1) (f 2) (f 3) nx m = trp (usedM m) (toldRC op (f 0) (f 1) (f 2) (f 3) (usedM m))) ∧ (hasR op (f 0) (f 1) (f 2) m.cells.length = true → toldRC op (f 0) (f 1) (f 2) (f 3) (usedM m) = 0 → goR op (f 0) (f 1) (f 2) (f 3) nx m = doR op (f 0) (f 1) (toldRV op (f 0) (f 1) (f 2) (f 3) (usedM m)) (atP (usedM m) nx))) :=
    ⟨fun h => if_pos h, fun h h2 => (if_neg (by rw [h]; simp)).trans (if_pos h2), fun h h2 => (if_neg (by rw [h]; simp)).trans (if_neg (by intro h3; exact h3 h2))⟩
  obtain ⟨G, hG⟩ : ∃ G, G = goR op (f 0) (f 1) (f 2) (f 3) nx m := ⟨_, rfl⟩
  rw [← hG] at HGR ⊢
  clear hG
  rw [← HCLN.out] at HGR
  clear HCLN
  generalize usedM m = M at *
  have HHA : Hid (∀ (W : World) (wv : Value), RunJ Ks B W p M → WordsR B W wv op f → Calls Try.prog 109 #[.pointer (some ⟨p, 0, none⟩), oneV op wv nx] W fun e w' => e = .returned (.bool (hasR op (f 0) (f 1) (f 2) M.cells.length)) ∧ Below W.heap.size W w') := fun W wv h1 h2 => has_any B p M op nx wv f W h1 HG.out.cl HQ.out.1 HQ.out.2 h2 (fun i => (HWD.out i).1)
  have HTO : Hid (hasR op (f 0) (f 1) (f 2) M.cells.length = true → ∀ (W : World) (wv : Value), RunJ Ks B W p M → WordsR B W wv op f → Calls Try.prog 110 #[.pointer (some ⟨p, 0, none⟩), oneV op wv nx] W fun e w' => e = .returned (ir (toldRC op (f 0) (f 1) (f 2) (f 3) M) (toldRV op (f 0) (f 1) (f 2) (f 3) M)) ∧ Below W.heap.size W w') := fun hh W wv h1 h2 => rtold_any B p M op nx wv f W h1 HG.out HQ.out.1 HQ.out.2 hh h2 HWD.out
  have HTL : Hid (toldRC op (f 0) (f 1) (f 2) (f 3) M = 0 → 0 ≤ toldRV op (f 0) (f 1) (f 2) (f 3) M ∧ toldRV op (f 0) (f 1) (f 2) (f 3) M ≤ 65535 ∧ (op = 4 ∨ op = 5 → toldRV op (f 0) (f 1) (f 2) (f 3) M < M.cells.length)) := fun h => toldRV_lo HG.out h (HWD.out 2).1
  have HDO : Hid (hasR op (f 0) (f 1) (f 2) M.cells.length = true → ∀ (t : Nat) (W : World) (wv : Value), (op = 4 ∨ op = 5 → t < M.cells.length) → RunJ Ks B W p (atP M nx) → WordsR B W wv op f → Calls Try.prog 111 #[.pointer (some ⟨p, 0, none⟩), oneV op wv nx, .int .i64 t] W fun e w' => e = .returned (.tuple #[]) ∧ RunJ Ks B w' p (doR op (f 0) (f 1) t (atP M nx)) ∧ Below B W w') := fun hh t W wv ht h1 h2 => rdo_any B p (atP M nx) op nx t wv f W h1 (atP_good HG.out HNX.out.1 HNX.out.2) HQ.out.1 HQ.out.2 hh ht h2 HWD.out
  have htc := toldRC_lo op (f 0) (f 1) (f 2) (f 3) M
  have HTC := hid htc
  clear htc HWD HG
  generalize hasR op (f 0) (f 1) (f 2) M.cells.length = hs at *
  generalize toldRC op (f 0) (f 1) (f 2) (f 3) M = C at *
  generalize toldRV op (f 0) (f 1) (f 2) (f 3) M = V at *
  go_enter Try.func74, Try.ntmps74
  go_upto_region 1 with (go_at_call 107; refine HCT.out.mono ?_; rintro e wz ⟨rfl, rfl⟩)
  clear HCT
  generalize w.setCell ⟨p, 3, none⟩ (.int .i64 M.used) = W1 at *
  have HP1 : Hid (B ≤ p ∧ p < W1.heap.size) := HR1.out.lt
  obtain ⟨cv1, hb1, -⟩ := id HR1.out
  have c1 := hb1.cells.2.1
  rw [HPC.out] at c1
  clear hb1 HPC
  go_upto_region 2 with (go_at_call 108; refine (HI.out _ (HN.out _ HB1.out) (by have := HP1.out; omega)).mono ?_; rintro e w2 ⟨wv, rfl, hwv, hb2⟩; obtain ⟨aw, cw, rfl, hwx⟩ := hwv)
  have a2 := heap_alloc_new w2 (.cells #[.int .i64 op, .slice aw (argR op).toNat cw, .int .i64 nx] 130)
  have b2 := (Below.refl w2.heap.size w2).alloc (Nat.le_refl _) (.cells #[.int .i64 op, .slice aw (argR op).toNat cw, .int .i64 nx] 130)
  have hz2 := hb2.size
  have HW2 : Hid (WordsR B (w2.alloc (.cells #[.int .i64 op, .slice aw (argR op).toNat cw, .int .i64 nx] 130)) (.slice aw (argR op).toNat cw) op f) := WordsR.kept ⟨aw, cw, rfl, hwx⟩ (b2.mono (by have := HP1.out; omega))
  have HR2 : Hid (RunJ Ks B (w2.alloc (.cells #[.int .i64 op, .slice aw (argR op).toNat cw, .int .i64 nx] 130)) p M) := (HR1.out.kept hb2).kept b2
  have HB2 : Hid (Below B w (w2.alloc (.cells #[.int .i64 op, .slice aw (argR op).toNat cw, .int .i64 nx] 130))) := (HB1.out.trans (hb2.mono (by have := HP1.out; omega))).trans (b2.mono (by have := HP1.out; omega))
  have HA2 := hid a2
  have HP2 : Hid (B ≤ w2.heap.size) := by have := HP1.out; show B ≤ _; omega
  clear a2 b2 hz2 hb2 hwx HR1 HB1 HP1 HI HN c1
  generalize (argR op).toNat = na at *
  generalize w2.alloc (.cells #[.int .i64 op, .slice aw na cw, .int .i64 nx] 130) = W2 at *
  generalize hQ : w2.heap.size = q at *
  clear hQ
  obtain ⟨y0, y1, y2⟩ := cl3 HA2.out
  go_wp2_with fail
  refine (HHA.out _ _ HR2.out HW2.out).mono ?_
  rintro e w3 ⟨rfl, hb3⟩
  have hz3 := (Array.getElem?_eq_some_iff.1 HA2.out).1
  have HW3 := hid (HW2.out.kept (hb3.mono (by have := HP2.out; omega)))
  have HR3 := hid (HR2.out.kept hb3)
  have HB3 := hid (HB2.out.trans (hb3.mono (by have := HP2.out; omega)))
  have HA3 := hid (blk8 HA2.out hb3)
  clear hb3 hz3 y0 y1 y2 HW2 HR2 HB2 HA2 HHA
  cases hs
  · have hGR := HGR.out.1 rfl
    have HG1 := hid hGR
    obtain ⟨cv4, hb4, -⟩ := id HR3.out
    have c4 := hb4.cells.2.2.2.2.1
    have f4 := hb4.froz 4
    clear hb4 hGR HGR
    go_wp2_with fail
    refine bodyPost_ret (v := .tuple #[]) (by simp [results, Try.results74, go_sem]) rfl ⟨rfl, ?_, HB3.out.setCell HR3.out.lt.1 _⟩
    rw [HG1.out]
    exact HR3.out.trap 1
  · have hz3 := (Array.getElem?_eq_some_iff.1 HA3.out).1
    obtain ⟨y0, y1, y2⟩ := cl3 HA3.out
    go_wp2_with fail
    refine (HTO.out (by first | rfl | trivial) _ _ HR3.out HW3.out).mono ?_
    rintro e w5 ⟨rfl, hb5⟩
    have a5 := heap_alloc_new w5 (.cells #[.int .i64 C, .int .i64 V] 61)
    have b5 := (Below.refl w5.heap.size w5).alloc (Nat.le_refl _) (.cells #[.int .i64 C, .int .i64 V] 61)
    have hz5 := hb5.size
    have HW5 : Hid (WordsR B (w5.alloc (.cells #[.int .i64 C, .int .i64 V] 61)) (.slice aw na cw) op f) := (HW3.out.kept (hb5.mono (by have := HP2.out; omega))).kept (b5.mono (by have := HP2.out; omega))
    have HR5 : Hid (RunJ Ks B (w5.alloc (.cells #[.int .i64 C, .int .i64 V] 61)) p M) := (HR3.out.kept hb5).kept b5
    have HB5 : Hid (Below B w (w5.alloc (.cells #[.int .i64 C, .int .i64 V] 61))) := (HB3.out.trans (hb5.mono (by have := HP2.out; omega))).trans (b5.mono (by have := HP2.out; omega))
    have HA5 : Hid ((w5.alloc (.cells #[.int .i64 C, .int .i64 V] 61)).heap[q]? = some (.cells #[.int .i64 op, .slice aw na cw, .int .i64 nx] 130 (0, 0))) := blk8 (blk8 HA3.out hb5) b5
    have HPQ : Hid (q ≠ p ∧ w5.heap.size ≠ p) := by
      have hp4 := HR3.out.lt.2
      refine ⟨fun e => ?_, by omega⟩
      obtain ⟨cv5, hb, -⟩ := HR3.out
      have hA := HA3.out
      rw [e, hb.row] at hA
      simp at hA
    have HA6 := hid a5
    clear a5 b5 hz3 hz5 hb5 y0 y1 y2 HW3 HR3 HB3 HA3 HTO
    go_upto_region 5 with fail
    generalize w5.alloc (.cells #[.int .i64 C, .int .i64 V] 61) = W5 at *
    generalize w5.heap.size = q5 at *
    have z0 := cell_of_row _ _ 0 _ _ _ HA6.out
    have z1 := cell_of_row _ _ 1 _ _ _ HA6.out
    simp at z0 z1
    obtain ⟨cv4, hb4, -⟩ := id HR5.out
    by_cases hC : C = 0
    · have HGM2 : Hid (G = doR op (f 0) (f 1) V (atP M nx)) := HGR.out.2.2 (by first | rfl | trivial) hC
      obtain ⟨t, ht⟩ := Int.eq_ofNat_of_zero_le (HTL.out hC).1
      have HV2 : Hid (op = 4 ∨ op = 5 → t < M.cells.length) := fun h => by have := (HTL.out hC).2.2 h; omega
      subst hC
      rw [ht] at HGM2 z1
      clear HTL HGR HTC
      have c1 := hb4.cells.2.1
      have f1 := hb4.froz 1
      have x2 := cell_of_row _ _ 2 _ _ _ HA5.out
      simp at x2
      clear hb4
      go_upto_region 8 with fail
      have HR6 : Hid (RunJ Ks B (W5.setCell ⟨p, 1, none⟩ (.int .i64 nx)) p (atP M nx)) := HR5.out.pc nx
      have HB6 : Hid (Below B w (W5.setCell ⟨p, 1, none⟩ (.int .i64 nx))) := HB5.out.setCell HR5.out.lt.1 _
      have HW6 : Hid (WordsR B (W5.setCell ⟨p, 1, none⟩ (.int .i64 nx)) (.slice aw na cw) op f) := HW5.out.kept ((Below.refl B W5).setCell HR5.out.lt.1 _)
      have HA7 : (W5.setCell ⟨p, 1, none⟩ (.int .i64 nx)).heap[q]? = _ := (heap_setCell_other W5 ⟨p, 1, none⟩ q (.int .i64 nx) HPQ.out.1).trans HA5.out
      have HA8 : (W5.setCell ⟨p, 1, none⟩ (.int .i64 nx)).heap[q5]? = _ := (heap_setCell_other W5 ⟨p, 1, none⟩ q5 (.int .i64 nx) HPQ.out.2).trans HA6.out
      clear HR5 HB5 HW5 HA5 HA6 z0 z1 c1 f1 x2
      generalize W5.setCell ⟨p, 1, none⟩ (.int .i64 nx) = W6 at *
      rw [ht] at HA8
      obtain ⟨y0, y1, y2⟩ := cl3 HA7
      have y3 := cell_of_row _ _ 1 _ _ _ HA8
      simp at y3
      clear HA7 HA8
      go_wp2_with fail
      refine (HDO.out (by first | rfl | trivial) t W6 _ HV2.out HR6.out HW6.out).mono ?_
      rintro e w7 ⟨rfl, hr7, hb7⟩
      go_wp2_with fail
      go_end0
      exact ⟨rfl, by rw [HGM2.out]; exact hr7, HB6.out.trans hb7⟩
    · have HGM2 : Hid (G = trp M C) := HGR.out.2.1 (by first | rfl | trivial) hC
      have c4 := hb4.cells.2.2.2.2.1
      have f4 := hb4.froz 4
      have eC : (C != 0) = true := by simpa using hC
      have eD : decide (C = 0) = false := decide_eq_false hC
      clear hb4 HGR HTL
      go_wp2_with fail
      refine bodyPost_ret (v := .tuple #[]) (by simp [results, Try.results74, go_sem]) rfl ⟨rfl, ?_, HB5.out.setCell HR5.out.lt.1 _⟩
      rw [HGM2.out]
      exact HR5.out.trap C

theorem istepR_any (B p : Nat) (m : SM) (zs : List Int) (a : Option Addr) (c : Nat) (w : World) (h : RunJ Ks B w p m) (hg : RGood m) (hn : Nums w a zs) (hB : ∀ b off, a = some ⟨b, off, none⟩ → b < B) (hl : zs.length ≤ 400) (hc : zs.length ≤ c) (hw : wordsB zs = true) :
    Calls Try.prog 74 #[.pointer (some ⟨p, 0, none⟩), .slice a zs.length c] w fun e w' => e = .returned (.tuple #[]) ∧ RunJ Ks B w' p (stepRL zs m) ∧ Below B w w' := by
  obtain ⟨k, hk⟩ := Int.eq_ofNat_of_zero_le hg.pc0
  cases hr : readyR zs k
  · have e : stepRL zs m = trp (usedM m) 1 := by unfold stepRL; rw [hk, if_pos hr]
    rw [e]
    exact stepR_no B p k m zs a c w h hg hk hn hB hl hr
  · have e : stepRL zs m = goR (zs.getD k 0) (zs.getD (k + 1) 0) (zs.getD (k + 2) 0) (zs.getD (k + 3) 0) (zs.getD (k + 4) 0) ((k : Int) + 1 + argR (zs.getD k 0)) m := by
      unfold stepRL
      rw [hk, if_neg (by rw [hr]; simp), Int.toNat_natCast]
    rw [e]
    exact stepR_yes B p k m zs a c w h hg hk hn hB hl hc hw hr
end Go.Proofs.Ytcikofhbfncgdaa
