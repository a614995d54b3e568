/-
  impl's register run: has: the registers and the cells that an instruction names are there.
-/
import Derived.Test.YtcikofhbfncgdaaReck1
import Derived.Test.YtcikofhbfncgdaaInvM
import Derived.Test.YtcikofhbfncgdaaIStk3
import Derived.Test.YtcikofhbfncgdaaRgJ
import Derived.Test.YtcikofhbfncgdaaIDoC
import Derived.Test.YtcikofhbfncgdaaIStk3
import Derived.Test.YtcikofhbfncgdaaRgMem
import Derived.Lib.OthersKept
namespace Go.Proofs.Ytcikofhbfncgdaa
open Go.RowKit
theorem w64_cm (x : Int) : wrap64 (cm x) = cm x := by have := cm_lo x; have := cm_hi x; unfold wrap64; omega
theorem xor_all (x : Int) : bits .xor .u16 IntKind.u16.max (wd x) = cm x := by
  have h1 := wd_lo x
  have h2 := wd_hi x
  have h3 : cm x = 65535 - wd x := rfl
  obtain ⟨n, hn⟩ := Int.eq_ofNat_of_zero_le h1
  rw [h3, hn, show IntKind.u16.max = ((65535 : Nat) : Int) from by rfl]
  rw [u16_xor_nat 65535 n (by omega) (by omega)]
  have e := both_or 65535 n
  have hl : 65535 ||| n < 2 ^ 16 := Nat.or_lt_two_pow (by omega) (by omega)
  have hg : 65535 ≤ 65535 ||| n := Nat.left_le_or
  have ha : 65535 &&& n = n % 2 ^ 16 := by rw [Nat.and_comm]; exact Nat.and_two_pow_sub_one_eq_mod n 16
  omega
set_option maxHeartbeats 400000 in
theorem implComplement (x : Int) (w : World) : Calls Try.prog 75 #[.int .i64 x] w fun e w' => e = .returned (.int .i64 (cm x)) ∧ w' = w := by
  go_enter Try.func75, Try.ntmps75
  go_wp2
  go_ret
  refine ⟨ret64 ?_, rfl⟩
  rw [wrap_wd, xor_all, w64_cm]
set_option maxHeartbeats 400000 in
theorem specComplement (x : Int) (w : World) : Calls Try.prog 124 #[.int .i64 x] w fun e w' => e = .returned (.int .i64 (cm x)) ∧ w' = w := by
  have h1 := wd_lo x
  have h2 := wd_hi x
  go_enter Try.func124, Try.ntmps124
  go_wp2_with fail
  refine (specWordOf _ _).mono ?_
  rintro e w1 ⟨rfl, rfl⟩
  go_wp2
  go_ret
  exact ⟨rfl, rfl⟩
end Go.Proofs.Ytcikofhbfncgdaa
namespace Go.Proofs.Ytcikofhbfncgdaa
open Go.RowKit
set_option linter.unusedVariables false

theorem bin_none (op a b : Int) (h : binC op b ≠ 0) : binV op a b = 0 := if_neg h

set_option maxHeartbeats 800000 in
theorem implInv_any (op a b : Int) (w : World) : Calls Try.prog 131 #[.int .i64 op, .int .i64 a, .int .i64 b] w fun e w' => e = .returned (res (invC op b) (invV op a b)) ∧ Below w.heap.size w w' := by
  by_cases hc : binC op (cm b) = 0
  · have hv : invV op a b = cm (binV op (cm a) (cm b)) := if_pos hc
    have hC : invC op b = 0 := hc
    rw [hv, hC]
    have hres : Hid (∀ w, Calls Try.prog 142 #[.int .i64 op, .int .i64 (cm a), .int .i64 (cm b)] w fun e w' => e = .returned (res 0 (binV op (cm a) (cm b))) ∧ Below w.heap.size w w') := by
      intro w; have h := implBin_any op (cm a) (cm b) w; rw [hc] at h; exact h
    clear hc hv hC
    go_enter Try.func131, Try.ntmps131
    go_wp2_with (first | (go_at_call 75; refine (implComplement _ _).mono ?_; rintro e w' ⟨rfl, rfl⟩) | (go_at_call 142; refine (hres.out _).mono ?_; rintro e w' ⟨rfl, hb⟩; obtain ⟨hc0, hc1, hf0, hf1, hz⟩ := own2 hb; have hB := back hb; clear hb))
    refine bodyPost_ret (v := res 0 (cm (binV op (cm a) (cm b)))) (by simp [results, Try.results131, go_sem, hc0, hc1, hz]) rfl ⟨rfl, ?_⟩
    go_grown
  · have hv : invV op a b = 0 := if_neg hc
    have hC : invC op b = binC op (cm b) := rfl
    rw [hv, hC]
    have hres : Hid (∀ w, Calls Try.prog 142 #[.int .i64 op, .int .i64 (cm a), .int .i64 (cm b)] w fun e w' => e = .returned (res (binC op (cm b)) 0) ∧ Below w.heap.size w w') := by
      intro w; have h := implBin_any op (cm a) (cm b) w; rw [bin_none op (cm a) (cm b) hc] at h; exact h
    have hnb : (binC op (cm b) != 0) = true := by simpa using hc
    clear hc hv hC
    generalize binC op (cm b) = C at *
    go_enter Try.func131, Try.ntmps131
    go_wp2_with (first | (go_at_call 75; refine (implComplement _ _).mono ?_; rintro e w' ⟨rfl, rfl⟩) | (go_at_call 142; refine (hres.out _).mono ?_; rintro e w' ⟨rfl, hb⟩; obtain ⟨hc0, hc1, hf0, hf1, hz⟩ := own2 hb; have hB := back hb; clear hb))
    refine bodyPost_ret (v := res C 0) (by simp [results, Try.results131, go_sem, hc0, hc1, hz]) rfl ⟨rfl, ?_⟩
    go_grown
end Go.Proofs.Ytcikofhbfncgdaa
namespace Go.Proofs.Ytcikofhbfncgdaa
open Go.RowKit
set_option linter.unusedVariables false
variable {Ks : Kept}
attribute [local go_sem ↓] Go.wp_at_zero Go.wp_at_succ

theorem ido_pre (B p n : Nat) (a : Option Addr) (c : Nat) (m : SM) (op nx : Int) (w W : World) (h : RunJ Ks B w p m) (e : W = w.alloc (.cells #[.int .i64 op, .slice a n c, .int .i64 nx] 130)) :
    W.cell? ⟨w.heap.size, 0, none⟩ = some (.int .i64 op) ∧ W.cell? ⟨w.heap.size, 1, none⟩ = some (.slice a n c) ∧ RunJ Ks B W p m ∧ Below B w W ∧ w.heap.size < W.heap.size := by
  have hBp := h.lt
  subst e
  have a1 := heap_alloc_new w (.cells #[.int .i64 op, .slice a n c, .int .i64 nx] 130)
  have b1 := (Below.refl w.heap.size w).alloc (Nat.le_refl _) (.cells #[.int .i64 op, .slice a n c, .int .i64 nx] 130)
  exact ⟨cell_of_row _ _ 0 _ _ _ a1, cell_of_row _ _ 1 _ _ _ a1, h.kept b1, b1.mono (by omega), by simp⟩
theorem wordAt {B b off i : Nat} {w : World} {x : Value} (hb : b < B) (h : w.cell? ⟨b, off + i, none⟩ = some x) : ∀ W, Below B w W → W.cell? ⟨b, off + i, none⟩ = some x := fun W hw => (hw.cell (p := ⟨b, off + i, none⟩) hb).trans h
theorem wordAt0 {B b off : Nat} {w : World} {x : Value} (hb : b < B) (h : w.cell? ⟨b, off, none⟩ = some x) : ∀ W, Below B w W → W.cell? ⟨b, off, none⟩ = some x := fun W hw => (hw.cell (p := ⟨b, off, none⟩) hb).trans h

set_option maxHeartbeats 1600000 in
theorem turned_neg (x : Int) (w : World) : Calls Try.prog 134 #[.func (.func 135) #[] #[], .int .i64 x] w fun e w' => e = .returned (.int .i64 (cm (wd (-(cm x))))) ∧ w' = w := by
  have HC : Hid (∀ x W, Calls Try.prog 75 #[.int .i64 x] W fun e w' => e = .returned (.int .i64 (cm x)) ∧ w' = W) := fun x W => implComplement x W
  have HN : Hid (∀ x W, Calls Try.prog 135 #[.int .i64 x] W fun e w' => e = .returned (.int .i64 (wd (-x))) ∧ w' = W) := fun x W => implNegOf x W
  go_enter Try.func134, Try.ntmps134
  go_wp2_with fail
  refine (HC.out _ _).mono ?_
  rintro e w1 ⟨rfl, rfl⟩
  go_wp2_with fail
  refine (HN.out _ _).mono ?_
  rintro e w1 ⟨rfl, rfl⟩
  go_wp2_with fail
  refine (HC.out _ _).mono ?_
  rintro e w1 ⟨rfl, rfl⟩
  go_wp2_with fail
  go_ret
  exact ⟨rfl, rfl⟩

set_option maxHeartbeats 1600000 in
theorem turned_not (x : Int) (w : World) : Calls Try.prog 134 #[.func (.func 136) #[] #[], .int .i64 x] w fun e w' => e = .returned (.int .i64 (cm (nt (cm x)))) ∧ w' = w := by
  have HC : Hid (∀ x W, Calls Try.prog 75 #[.int .i64 x] W fun e w' => e = .returned (.int .i64 (cm x)) ∧ w' = W) := fun x W => implComplement x W
  have HN : Hid (∀ x W, Calls Try.prog 136 #[.int .i64 x] W fun e w' => e = .returned (.int .i64 (nt x)) ∧ w' = W) := fun x W => implNotOf x W
  go_enter Try.func134, Try.ntmps134
  go_wp2_with fail
  refine (HC.out _ _).mono ?_
  rintro e w1 ⟨rfl, rfl⟩
  go_wp2_with fail
  refine (HN.out _ _).mono ?_
  rintro e w1 ⟨rfl, rfl⟩
  go_wp2_with fail
  refine (HC.out _ _).mono ?_
  rintro e w1 ⟨rfl, rfl⟩
  go_wp2_with fail
  go_ret
  exact ⟨rfl, rfl⟩
end Go.Proofs.Ytcikofhbfncgdaa
namespace Go.Proofs.Ytcikofhbfncgdaa
open Go.RowKit
set_option linter.unusedVariables false
variable {Ks : Kept}

theorem last5 {A B C D E : Prop} (h : A ∧ B ∧ C ∧ D ∧ E) : E := h.2.2.2.2
theorem last6 {A B C D E F : Prop} (h : A ∧ B ∧ C ∧ D ∧ E ∧ F) : F := h.2.2.2.2.2
theorem rtold_keep (B p n : Nat) (a : Option Addr) (c : Nat) (m : SM) (op nx : Int) (w W : World) (h : RunJ Ks B w p m)
    (e : W = (w.alloc (.cells #[.int .i64 op, .slice a n c, .int .i64 nx] 130)).alloc (.cells #[.int .i64 0, .int .i64 0] 61)) :
    Below w.heap.size w W ∧ Keep (w.heap.size + 1) W W ∧ W.cell? ⟨w.heap.size, 0, none⟩ = some (.int .i64 op) ∧ W.cell? ⟨w.heap.size, 1, none⟩ = some (.slice a n c) ∧ ∀ Z, Keep (w.heap.size + 1) W Z → Below w.heap.size w Z ∧ RunJ Ks B Z p m := by
  have hBp := h.lt
  subst e
  have a1 := heap_alloc_new w (.cells #[.int .i64 op, .slice a n c, .int .i64 nx] 130)
  have b1 := (Below.refl w.heap.size w).alloc (Nat.le_refl _) (.cells #[.int .i64 op, .slice a n c, .int .i64 nx] 130)
  have a2 := heap_alloc_new (w.alloc (.cells #[.int .i64 op, .slice a n c, .int .i64 nx] 130)) (.cells #[.int .i64 0, .int .i64 0] 61)
  have b2 := (Below.refl (w.alloc (.cells #[.int .i64 op, .slice a n c, .int .i64 nx] 130)).heap.size (w.alloc (.cells #[.int .i64 op, .slice a n c, .int .i64 nx] 130))).alloc (Nat.le_refl _) (.cells #[.int .i64 0, .int .i64 0] 61)
  have s1 : (w.alloc (.cells #[.int .i64 op, .slice a n c, .int .i64 nx] 130)).heap.size = w.heap.size + 1 := by simp
  rw [s1] at a2
  have b3 := b1.trans (b2.mono (by omega))
  have r1 := blk8 a1 b2
  refine ⟨b3, ⟨Below.refl _ _, 0, 0, a2⟩, cell_of_row _ _ 0 _ _ _ r1, cell_of_row _ _ 1 _ _ _ r1, fun Z hz => ?_⟩
  have b4 := b3.trans (hz.1.mono (by omega))
  exact ⟨b4, h.kept b4⟩
end Go.Proofs.Ytcikofhbfncgdaa
namespace Go.Proofs.Ytcikofhbfncgdaa
open Go.RowKit
set_option linter.unusedVariables false
variable {Ks : Kept}
attribute [local go_sem ↓] Go.wp_at_zero Go.wp_at_succ

/-- the words of an instruction, below block B -/
def WordsR (B : Nat) (w : World) (wv : Value) (op : Int) (f : Nat → Int) : Prop :=
  ∃ a c, wv = .slice a (argR op).toNat c ∧ (1 ≤ argR op → ∃ b off, a = some ⟨b, off, none⟩ ∧ b < B ∧ ∀ i : Nat, (i : Int) < argR op → w.cell? ⟨b, off + i, none⟩ = some (.int .i64 (f i)))
theorem WordsR.kept {B : Nat} {w w' : World} {wv : Value} {op : Int} {f : Nat → Int} (h : WordsR B w wv op f) (hb : Below B w w') : WordsR B w' wv op f := by
  obtain ⟨a, c, rfl, h1⟩ := h
  refine ⟨a, c, rfl, fun h => ?_⟩
  obtain ⟨b, off, e, hlt, h2⟩ := h1 h
  exact ⟨b, off, e, hlt, fun i hi => (hb.cell (p := ⟨b, off + i, none⟩) hlt).trans (h2 i hi)⟩

theorem field_rop (nm ws : ByteArray) (w : World) : (Instr.field 117 (ropV nm ws) 1).run Try.prog w = .ok (.string ws) w := by kernel_rfl
theorem field_ir (c v : Int) (w : World) : (Instr.field 61 (ir c v) 0).run Try.prog w = .ok (.int .i64 c) w := by kernel_rfl

set_option maxHeartbeats 6400000 in
set_option maxRecDepth 100000 in
theorem has_any (B p : Nat) (m : SM) (op nx : Int) (wv : Value) (f : Nat → Int) (w : World) (h : RunJ Ks B w p m) (hl : m.cells.length ≤ 80) (h1 : 1 ≤ op) (h13 : op ≤ 13) (hw : WordsR B w wv op f) (hf : ∀ i, 0 ≤ f i) :
    Calls Try.prog 109 #[.pointer (some ⟨p, 0, none⟩), oneV op wv nx] w fun e w' => e = .returned (.bool (hasR op (f 0) (f 1) (f 2) m.cells.length)) ∧ Below w.heap.size w w' := by
  have hBp := h.lt
  obtain ⟨a, c, rfl, hcells⟩ := hw
  have HO : Hid (ROpOf op (ropV (bs (ropNm op)) (bs (ropWd op)))) := regOp_any op h1 h13
  have hLlen : (ropWd op).length = (argR op).toNat := by have := ropWd_len op; omega
  have hLmem := ropWd_mem h1 h13
  have HF := hid (hasR_ok h1 h13 f m.cells.length)
  have ha := argR_lo op
  obtain ⟨r, hr⟩ : ∃ r, r = hasR op (f 0) (f 1) (f 2) m.cells.length := ⟨_, rfl⟩
  rw [← hr] at HF ⊢
  have HW : Hid (∀ i, i < (ropWd op).length → ∃ b off, a = some ⟨b, off, none⟩ ∧ ∀ W, Below w.heap.size w W → W.cell? ⟨b, off + i, none⟩ = some (.int .i64 (f i))) := fun i hi => by
    obtain ⟨b, off, e, hb, hc⟩ := hcells (by omega)
    exact ⟨b, off, e, fun W hw => (hw.cell (p := ⟨b, off + i, none⟩) (by show b < w.heap.size; omega)).trans (hc i (by omega))⟩
  rw [← hLlen]
  have HCL : Hid (∀ (i : Nat) W, RunJ Ks B W p m → Calls Try.prog 128 #[.pointer (some ⟨p, 0, none⟩), .int .i64 (f i)] W fun e w' => e = .returned (ir (cellC m.cells.length (f i)) (cellV m.cells.length (f i))) ∧ Below W.heap.size W w') := fun i W hr => rcell_any B p m (f i) W hr hl (hf i)
  have hA := heap_alloc_new w (.cells #[.int .i64 op, .slice a (ropWd op).length c, .int .i64 nx] 130)
  have hB : Below w.heap.size w (w.alloc (.cells #[.int .i64 op, .slice a (ropWd op).length c, .int .i64 nx] 130)) := (Below.refl _ _).alloc (Nat.le_refl _) _
  have HJ : Hid (∀ W, Below w.heap.size w W → RunJ Ks B W p m) := fun W hW => h.kept hW
  have HL4 : Hid ((ropWd op).length ≤ 4) := by show _ ≤ 4; omega
  have HLM := hid hLmem
  clear h hcells hLlen hLmem ha hr hBp hl hf
  generalize ropWd op = L at *
  generalize ropNm op = nm at *
  generalize hn : m.cells.length = n at *
  clear hn
  have hfr := field_rop
  have hfi := field_ir
  go_enter Try.func109, Try.ntmps109
  go_upto_region 1 with fail
  generalize w.alloc (.cells #[.int .i64 op, .slice a L.length c, .int .i64 nx] 130) = W at *
  have HA := hid hA
  have HB := hid hB
  have c0 := cell_of_row _ _ 0 _ _ _ hA
  simp at c0
  clear hA hB
  go_wp2_with fail
  refine (HO.out _).mono ?_
  rintro e w3 ⟨rfl, hb3⟩
  have HB3 := hid (HB.out.trans (hb3.mono HB.out.size))
  have HA3 := hid (blk8 HA.out hb3)
  have hI := World.iter_heap w3 (bs L) 0
  have hbI : Below w3.heap.size w3 (w3.iter (bs L) 0) := (Below.refl _ _).alloc (Nat.le_refl _) _
  have HI4 := hid hI
  have HB4 := hid (HB3.out.trans (hbI.mono HB3.out.size))
  have HA4 := hid (blk8 HA3.out hbI)
  have HS4 : Hid (w.heap.size < w3.heap.size) := (Array.getElem?_eq_some_iff.1 HA3.out).1
  clear hb3 HB3 HA3 hI hbI c0 HB HA HO
  go_wp2_with fail
  go_loopw [] (fun wr => ∃ pos : Nat, pos ≤ L.length ∧ wr.heap[w3.heap.size]? = some (.stringIter (bs L) pos) ∧ Hid (∀ i, i < pos → okC (L.getD i 0) (f i) n = true) ∧ Hid (Below w.heap.size w wr) ∧ Hid (wr.heap[w.heap.size]? = some (.cells #[.int .i64 op, .slice a L.length c, .int .i64 nx] 130 (0, 0))))
    (fun wr => L.length - wr.iterPos w3.heap.size)
  case atStart => exact ⟨0, Nat.zero_le _, HI4.out, fun i hi => absurd hi (by omega), HB4, HA4⟩
  case round =>
    clear HI4 HB4 HA4
    obtain ⟨pos, hpos, hit, HOK, HBR, HAR⟩ := hrel
    by_cases hlt : pos < L.length
    · obtain ⟨b, off, rfl, hcell⟩ := HW.out pos hlt
      have HCW := hid hcell
      have y0 := hcell wr HBR.out
      clear hcell
      have hch := HLM.out (L.getD pos 0) (by rw [List.getD_eq_getElem?_getD, List.getElem?_eq_getElem hlt]; exact List.getElem_mem hlt)
      have hci : ch L pos = L.getD pos 0 := rfl
      have c1 := cell_of_row _ _ 1 _ _ _ HAR.out
      simp at c1
      have q0 : (0 : Int) ≤ (pos : Int) := by omega
      have q1 : (pos : Int) < (L.length : Int) := by omega
      have h128 : ((bs L)[pos]'(by rw [bs_size]; exact hlt)).toNat < 128 := by
        rw [bs_get, hci]
        rcases hch with e | e | e <;> rw [e] <;> decide
      have hnx : ∀ ty, (Instr.next (.pointer (some ⟨w3.heap.size, 0, none⟩)) true ty).run Try.prog wr = .ok (.tuple #[.bool true, .int .i64 pos, .int .i32 ((L.getD pos 0).toNat : Int)]) (wr.iterAt w3.heap.size (bs L) (pos + 1)) := fun ty => by
        rw [Lib.run_next_ascii_at wr w3.heap.size (bs L) pos ty hit (by rw [bs_size]; exact hlt) h128, bs_get, hci]
      have hit1 := Lib.iterAt_heap wr w3.heap.size (bs L) pos (pos + 1) hit
      have HB1 := hid (Lib.below_iterAt HBR.out (k := w3.heap.size) (by have := HS4.out; omega) (bs L) (pos + 1))
      have hAx : (wr.iterAt w3.heap.size (bs L) (pos + 1)).heap[w.heap.size]? = _ := (Lib.iterAt_other wr w3.heap.size w.heap.size (bs L) (pos + 1) (by have := HS4.out; omega)).trans HAR.out
      have HA1 := hid hAx
      have c1' := cell_of_row _ _ 1 _ _ _ hAx
      simp at c1'
      have y1 := HCW.out _ HB1.out
      have hmu : wr.iterPos w3.heap.size = pos := by simp [World.iterPos, hit]
      have HIT1 := hid hit1
      have HMU := hid hmu
      have HLT := hid hlt
      generalize wr.iterAt w3.heap.size (bs L) (pos + 1) = W1 at *
      clear y0 c1 hAx h128 hci hit1 hit hmu hlt HAR HBR
      have HNEXT : Hid (okC (L.getD pos 0) (f pos) n = true → ∀ i, i < pos + 1 → okC (L.getD i 0) (f i) n = true) := fun h i hi => by
        rcases Nat.lt_succ_iff_lt_or_eq.1 hi with h2 | rfl
        · exact HOK.out i h2
        · exact h
      have HBAD : Hid (okC (L.getD pos 0) (f pos) n = false → r = false) := fun h => by
        cases hr : r
        · rfl
        · have := HF.out.1 hr pos HLT.out
          rw [h] at this
          cases this
      have hOKC : ∀ ch, Hid (okC ch (f pos) n = if ch = 114 then decide (f pos < 24) else if ch = 99 then decide (f pos < n) else true) := fun _ => rfl
      have HC1 := hid (HCL.out pos)
      generalize f pos = x at *
      rcases hch with e | e | e
      · rw [e] at hnx HNEXT HBAD
        have HK := hOKC 114
        clear hOKC e HC1
        by_cases hx : x < 24
        · have HT : Hid (okC 114 x n = true) := by unfold Hid; rw [HK.out, if_pos rfl]; exact decide_eq_true hx
          have hx2 : ¬ (24 ≤ x) := by omega
          go_wp2_with fail
          go_roundw
          case rel => exact ⟨pos + 1, HLT.out, HIT1.out, HNEXT.out HT.out, HB1, HA1⟩
          case measure =>
            have hmu2 : W1.iterPos w3.heap.size = pos + 1 := by simp [World.iterPos, HIT1.out]
            rw [HMU.out, hmu2]
            have := HLT.out
            omega
        · have HT : Hid (okC 114 x n = false) := by unfold Hid; rw [HK.out, if_pos rfl]; exact decide_eq_false hx
          have hx2 : (24 ≤ x) := by omega
          go_wp2_with fail
          go_ret
          exact ⟨by rw [HBAD.out HT.out]; rfl, HB1.out⟩
      · rw [e] at hnx HNEXT HBAD
        have HK := hOKC 99
        clear hOKC e
        by_cases hx : x < n
        · have HT : Hid (okC 99 x n = true) := by unfold Hid; rw [HK.out, if_neg (by decide), if_pos rfl]; exact decide_eq_true hx
          have hcc : cellC n x = 0 := if_pos hx
          rw [hcc] at HC1
          generalize cellV n x = v at *
          clear hcc hx
          go_wp2_with fail
          refine (HC1.out _ (HJ.out _ HB1.out)).mono ?_
          rintro e w6 ⟨rfl, hb6⟩
          have HB6 := hid (HB1.out.trans (hb6.mono HB1.out.size))
          have HIT6 := hid ((hb6.block _ (Array.getElem?_eq_some_iff.1 HIT1.out).1).trans HIT1.out)
          have HA6 := hid (blk8 HA1.out hb6)
          clear hb6 HC1
          go_wp2_with fail
          go_roundw
          case rel => exact ⟨pos + 1, HLT.out, HIT6.out, HNEXT.out HT.out, HB6, HA6⟩
          case measure =>
            have hmu2 : w6.iterPos w3.heap.size = pos + 1 := by simp [World.iterPos, HIT6.out]
            rw [HMU.out, hmu2]
            have := HLT.out
            omega
        · have HT : Hid (okC 99 x n = false) := by unfold Hid; rw [HK.out, if_neg (by decide), if_pos rfl]; exact decide_eq_false hx
          have hcc : cellC n x = 1 := if_neg hx
          rw [hcc] at HC1
          generalize cellV n x = v at *
          clear hcc hx
          go_wp2_with fail
          refine (HC1.out _ (HJ.out _ HB1.out)).mono ?_
          rintro e w6 ⟨rfl, hb6⟩
          have HB6 := hid (HB1.out.trans (hb6.mono HB1.out.size))
          clear hb6 HC1
          go_wp2_with fail
          go_ret
          exact ⟨by rw [HBAD.out HT.out]; rfl, HB6.out⟩
      · rw [e] at hnx HNEXT
        have HT : Hid (okC 45 x n = true) := by unfold Hid; rw [(hOKC 45).out, if_neg (by decide), if_neg (by decide)]
        clear hOKC e HC1
        go_wp2_with fail
        go_roundw
        case rel => exact ⟨pos + 1, HLT.out, HIT1.out, HNEXT.out HT.out, HB1, HA1⟩
        case measure =>
          have hmu2 : W1.iterPos w3.heap.size = pos + 1 := by simp [World.iterPos, HIT1.out]
          rw [HMU.out, hmu2]
          have := HLT.out
          omega
    · have hnx : ∀ ty, (Instr.next (.pointer (some ⟨w3.heap.size, 0, none⟩)) true ty).run Try.prog wr = _ := fun ty => Lib.run_next_end_at wr w3.heap.size (bs L) pos ty hit (by rw [bs_size]; exact hlt)
      have HR : Hid (r = true) := HF.out.2 (fun i hi => HOK.out i (by omega))
      clear hit
      go_wp2_with fail
      go_ret
      exact ⟨by rw [HR.out]; rfl, HBR.out⟩
end Go.Proofs.Ytcikofhbfncgdaa
