/-
  FnExactNamesOf: its walk from contracts of the two sides.
-/
import Derived.Test.YtbgnmocbpigpmaaMkS
import Derived.Test.YtbgnmocbpigpmaaMkN
import Derived.Test.YtbgnmocbpigpmaaNamesM
namespace Go.Proofs.Ytbgnmocbpigpmaa
open Go.RowKit
set_option linter.unusedVariables false
attribute [local go_sem] bs_size bs_get bs_extract bs_append bs_eq bs_toList

/-- what a walk carries: the argument's box, both answers' boxes, the tree's box, the first answer's row -/
structure NLaw (w W : World) (cs0 csx : Array Value) (g3 g4 g5 : Nat) (C : Int) (a1 a2 : Option Addr) (n c1 c2 : Nat) (N : List (List UInt8)) : Prop where
  box : W.heap[w.heap.size]? = some (.cells cs0 26 (0, 0))
  s6 : W.heap[g3]? = some (.cells #[.int .i64 C, .slice a1 n c1] 45 (0, 0))
  xb : W.heap[g4]? = some (.cells csx 34 (0, 0))
  s8 : W.heap[g5]? = some (.cells #[.int .i64 C, .slice a2 n c2] 45 (0, 0))
  r1 : RowS W a1 N
  bel : Below w.heap.size w W
theorem NLaw.below {w W W' : World} {cs0 csx : Array Value} {g3 g4 g5 : Nat} {C : Int} {a1 a2 : Option Addr} {n c1 c2 : Nat} {N : List (List UInt8)} (h : NLaw w W cs0 csx g3 g4 g5 C a1 a2 n c1 c2 N) (hb : Below W.heap.size W W') : NLaw w W' cs0 csx g3 g4 g5 C a1 a2 n c1 c2 N :=
  ⟨blk h.box hb, blk h.s6 hb, blk h.xb hb, blk h.s8 hb, h.r1.below hb, h.bel.trans (hb.mono h.bel.size)⟩
theorem NLaw.marked {w W W' : World} {cs0 csx : Array Value} {g3 g4 g5 : Nat} {C : Int} {a1 a2 : Option Addr} {n c1 c2 : Nat} {N : List (List UInt8)} {lo hi : Nat} (h : NLaw w W cs0 csx g3 g4 g5 C a1 a2 n c1 c2 N) (hm : Mk lo hi W W') (hp : w.heap.size < lo) (hg3 : g3 < lo) (h4 : hi ≤ g4) (h5 : hi ≤ g5) (hr : ∀ g, a1 = some ⟨g, 0, none⟩ → N ≠ [] → g < lo) : NLaw w W' cs0 csx g3 g4 g5 C a1 a2 n c1 c2 N :=
  ⟨(hm.bel.block _ hp).trans h.box, (hm.bel.block _ hg3).trans h.s6, (hm.out _ h4 (blk_lt h.xb)).trans h.xb, (hm.out _ h5 (blk_lt h.s8)).trans h.s8, h.r1.same fun g e hne => hm.bel.block g (hr g e hne), h.bel.trans (hm.bel.mono (by omega))⟩
theorem NLaw.but {w W W' : World} {cs0 csx : Array Value} {g3 g4 g5 g2 B : Nat} {C : Int} {a1 a2 : Option Addr} {n c1 c2 : Nat} {N : List (List UInt8)} (h : NLaw w W cs0 csx g3 g4 g5 C a1 a2 n c1 c2 N) (hb : Below B W W') (hs : ∀ b, b < W.heap.size → b ≠ g2 → W'.heap[b]? = W.heap[b]?) (hp : w.heap.size < g2) (hg3 : g3 < g2) (h4 : g4 < g2) (h5 : g5 ≠ g2) (hB : w.heap.size ≤ B) (hr : ∀ g, a1 = some ⟨g, 0, none⟩ → N ≠ [] → g < g2 ∧ g < W.heap.size) : NLaw w W' cs0 csx g3 g4 g5 C a1 a2 n c1 c2 N :=
  ⟨(hs _ (blk_lt h.box) (by omega)).trans h.box, (hs _ (blk_lt h.s6) (by omega)).trans h.s6, (hs _ (blk_lt h.xb) (by omega)).trans h.xb, (hs _ (blk_lt h.s8) h5).trans h.s8, h.r1.same fun g e hne => hs g (hr g e hne).2 (by have := (hr g e hne).1; omega), h.bel.trans (hb.mono hB)⟩

set_option maxHeartbeats 12800000 in
set_option maxRecDepth 100000 in
theorem namesOf_law (C : LTree → Int → Int) (L : LTree → Int → List (List UInt8)) (hS : TreeNames 22 C L) (hI : TreeNames 23 C L) (hL : ∀ T k, (L T k).length ≤ T.vars.length) (vv vn vb : Value) (T : LTree) (k : Int) (w : World) (h : IsTree w vv vn vb T) :
    Calls Try.prog 6 #[treeV vv vn vb, .int .i64 k] w fun e w' => e = .returned (.bool true) ∧ Below w.heap.size w w' := by
  obtain ⟨ht, hf⟩ := h
  obtain ⟨av, cv, rfl, _⟩ := id ht.vars
  obtain ⟨an, cn, rfl, _⟩ := id ht.nodes
  obtain ⟨ab, cb, rfl, _⟩ := id ht.body
  have HT : Hid (TreeV 0 w (.slice av T.vars.length cv) (.slice an T.nodes.length cn) (.slice ab T.body.length cb) T) := ht
  have HF : Hid (Fits T) := hf
  have HS : Hid (TreeNames 22 C L) := hS
  have HI : Hid (TreeNames 23 C L) := hI
  have HQ : Hid (∀ (c : Int) (a b : Option Addr) (N : List (List UInt8)) (ca cb : Nat) (w : World), N.length ≤ 1048576 → RowS w a N → RowS w b N → Calls Try.prog 24 #[.agg #[.int .i64 c, .slice a N.length ca], .agg #[.int .i64 c, .slice b N.length cb]] w fun e w' => e = .returned (.bool true) ∧ Below w.heap.size w w') := eqNames_any
  have HLL : Hid ((L T k).length ≤ T.vars.length) := hL T k
  clear ht hf hS hI hL
  go_enter Try.func6, Try.ntmps6
  go_wp2_with fail
  have hA := heap_alloc_new w (.cells #[.slice av T.vars.length cv, .slice an T.nodes.length cn, .slice ab T.body.length cb] 26)
  have hB : Below w.heap.size w (w.alloc (.cells #[.slice av T.vars.length cv, .slice an T.nodes.length cn, .slice ab T.body.length cb] 26)) := (Below.refl _ _).alloc (Nat.le_refl _) _
  generalize w.alloc (.cells #[.slice av T.vars.length cv, .slice an T.nodes.length cn, .slice ab T.body.length cb] 26) = W at *
  refine (szTree_any 0 T _ _ _ _ (HT.out.below hB) HF.out).mono ?_
  rintro e w1 ⟨r, rfl, hr, hb1⟩
  have HA : Hid (w1.heap[w.heap.size]? = some (.cells #[.slice av T.vars.length cv, .slice an T.nodes.length cn, .slice ab T.body.length cb] 26 (0, 0))) := blk hA hb1
  have HB : Hid (Below w.heap.size w w1) := hB.trans (hb1.mono hB.size)
  clear hb1 hA hB
  by_cases h0 : 0 ≤ r
  · have HZ : Hid (Sized 1048576 T) := hr h0
    clear hr
    have a0 := cell_of_row _ _ 0 _ _ _ HA.out
    have a1 := cell_of_row _ _ 1 _ _ _ HA.out
    have a2 := cell_of_row _ _ 2 _ _ _ HA.out
    simp at a0 a1 a2
    go_wp2_with fail
    refine (toTree_any 0 T _ _ _ _ (HT.out.below HB.out) HZ.out).mono ?_
    rintro e w2 ⟨_, _, _, rfl, ht2, hb⟩
    obtain ⟨av2, cv2, rfl, _⟩ := id ht2.vars
    obtain ⟨an2, cn2, rfl, _⟩ := id ht2.nodes
    obtain ⟨ab2, cb2, rfl, _⟩ := id ht2.body
    have hA := blk HA.out hb
    have hB := HB.out.trans (hb.mono HB.out.size)
    clear HA HB hb a0 a1 a2
    have HA : Hid (w2.heap[w.heap.size]? = some (.cells #[.slice av T.vars.length cv, .slice an T.nodes.length cn, .slice ab T.body.length cb] 26 (0, 0))) := hA
    have HB : Hid (Below w.heap.size w w2) := hB
    have HT2 : Hid (TreeV w1.heap.size w2 (.slice av2 T.vars.length cv2) (.slice an2 T.nodes.length cn2) (.slice ab2 T.body.length cb2) T) := ht2
    clear hA hB ht2
    go_wp2_with fail
    refine (HS.out _ _ _ _ T _ _ HT2.out HZ.out).mono ?_
    rintro e w3 ⟨v1, rfl, hown1, hb⟩
    obtain ⟨a1, c1, rfl⟩ := rowE_shape hown1
    have hr1 := RowS.of_own hown1 rfl
    have hlt1 : ∀ g, a1 = some ⟨g, 0, none⟩ → L T k ≠ [] → g < w3.heap.size := fun g e hne => by
      obtain ⟨g', e', hc⟩ := hr1 hne
      rw [e] at e'; simp at e'; subst e'
      cases hN : L T k with
      | nil => exact absurd hN hne
      | cons x r => exact World.block_lt_of_cell? _ _ (hc 0 x (by rw [hN]; rfl))
    have hA := blk HA.out hb
    have hB := HB.out.trans (hb.mono HB.out.size)
    clear HA HB hb HT2 hown1
    have hbx : Below w3.heap.size w3 (w3.alloc (.cells #[.int .i64 (C T k), .slice a1 (L T k).length c1] 45)) := (Below.refl _ _).alloc (Nat.le_refl _) _
    have HG : Hid ((w3.alloc (.cells #[.int .i64 (C T k), .slice a1 (L T k).length c1] 45)).heap[w3.heap.size]? = some (.cells #[.int .i64 (C T k), .slice a1 (L T k).length c1] 45 (0, 0))) := heap_alloc_new w3 _
    have HR1 : Hid (RowS (w3.alloc (.cells #[.int .i64 (C T k), .slice a1 (L T k).length c1] 45)) a1 (L T k)) := hr1.below hbx
    have HL1 : Hid (∀ g, a1 = some ⟨g, 0, none⟩ → L T k ≠ [] → g < w3.heap.size) := hlt1
    have HA : Hid ((w3.alloc (.cells #[.int .i64 (C T k), .slice a1 (L T k).length c1] 45)).heap[w.heap.size]? = some (.cells #[.slice av T.vars.length cv, .slice an T.nodes.length cn, .slice ab T.body.length cb] 26 (0, 0))) := blk hA hbx
    have HB : Hid (Below w.heap.size w (w3.alloc (.cells #[.int .i64 (C T k), .slice a1 (L T k).length c1] 45))) := hB.trans (hbx.mono hB.size)
    have hp3 : w.heap.size < w3.heap.size := blk_lt hA
    have a0' := cell_of_row _ _ 0 _ _ _ HA.out
    have a1' := cell_of_row _ _ 1 _ _ _ HA.out
    have a2' := cell_of_row _ _ 2 _ _ _ HA.out
    simp at a0' a1' a2'
    have hg3 : w3.heap.size < (w3.alloc (.cells #[.int .i64 (C T k), .slice a1 (L T k).length c1] 45)).heap.size := by simp
    clear hA hB hbx hr1 hlt1
    go_wp2_with fail
    generalize w3.alloc (.cells #[.int .i64 (C T k), .slice a1 (L T k).length c1] 45) = W3 at *
    generalize w3.heap.size = g3 at *
    clear a0' a1' a2'
    refine (toTreeF_any 0 T _ _ _ _ (HT.out.below HB.out) HZ.out).mono ?_
    rintro e w4 ⟨_, _, _, rfl, ht4, hb⟩
    obtain ⟨av4, cv4, rfl, _⟩ := id ht4.vars
    obtain ⟨an4, cn4, rfl, _⟩ := id ht4.nodes
    obtain ⟨ab4, cb4, rfl, _⟩ := id ht4.body
    have hA := blk HA.out hb
    have hG := blk HG.out hb
    have hR := HR1.out.below hb
    have hB := HB.out.trans (hb.mono HB.out.size)
    have HT4 : Hid (TreeF W3.heap.size w4 (.slice av4 T.vars.length cv4) (.slice an4 T.nodes.length cn4) (.slice ab4 T.body.length cb4) T) := ht4
    have hlo : W3.heap.size ≤ w4.heap.size := hb.size
    have hbx : Below w4.heap.size w4 (w4.alloc (.cells #[.slice av4 T.vars.length cv4, .slice an4 T.nodes.length cn4, .slice ab4 T.body.length cb4] 34)) := (Below.refl _ _).alloc (Nat.le_refl _) _
    have HX : Hid ((w4.alloc (.cells #[.slice av4 T.vars.length cv4, .slice an4 T.nodes.length cn4, .slice ab4 T.body.length cb4] 34)).heap[w4.heap.size]? = some (.cells #[.slice av4 T.vars.length cv4, .slice an4 T.nodes.length cn4, .slice ab4 T.body.length cb4] 34 (0, 0))) := heap_alloc_new w4 _
    have HA4 : Hid ((w4.alloc (.cells #[.slice av4 T.vars.length cv4, .slice an4 T.nodes.length cn4, .slice ab4 T.body.length cb4] 34)).heap[w.heap.size]? = some (.cells #[.slice av T.vars.length cv, .slice an T.nodes.length cn, .slice ab T.body.length cb] 26 (0, 0))) := blk hA hbx
    have HG4 : Hid ((w4.alloc (.cells #[.slice av4 T.vars.length cv4, .slice an4 T.nodes.length cn4, .slice ab4 T.body.length cb4] 34)).heap[g3]? = some (.cells #[.int .i64 (C T k), .slice a1 (L T k).length c1] 45 (0, 0))) := blk hG hbx
    have HR4 : Hid (RowS (w4.alloc (.cells #[.slice av4 T.vars.length cv4, .slice an4 T.nodes.length cn4, .slice ab4 T.body.length cb4] 34)) a1 (L T k)) := hR.below hbx
    have HB4 : Hid (Below w.heap.size w (w4.alloc (.cells #[.slice av4 T.vars.length cv4, .slice an4 T.nodes.length cn4, .slice ab4 T.body.length cb4] 34))) := hB.trans (hbx.mono hB.size)
    have HBX : Hid (Below w4.heap.size w4 (w4.alloc (.cells #[.slice av4 T.vars.length cv4, .slice an4 T.nodes.length cn4, .slice ab4 T.body.length cb4] 34))) := hbx
    clear hA hG hR hB ht4 hb hbx HA HG HR1 HB
    go_wp2_with fail
    have hlo2 : W3.heap.size ≤ w4.heap.size := hlo
    have hg4 : w4.heap.size < (w4.alloc (.cells #[.slice av4 T.vars.length cv4, .slice an4 T.nodes.length cn4, .slice ab4 T.body.length cb4] 34)).heap.size := by simp
    have HI2 : Hid (∀ (lo : Nat) (vv vn vb : Value) (W : World), TreeV lo W vv vn vb T → Calls Try.prog 23 #[.agg #[vv, vn, vb], .int .i64 k] W fun e w' => ∃ v, e = .returned (.agg #[.int .i64 (C T k), v]) ∧ w'.ownsRow W.heap.size 9 1 v (L T k).length (namC (L T k)) ∧ Below W.heap.size W w') := fun lo vv vn vb W h => HI.out lo vv vn vb T k W h HZ.out
    have hNl : (L T k).length ≤ 1048576 := by have := HLL.out; have := HZ.out.vars; omega
    have hg5 : ∀ w5 : World, True := fun _ => trivial
    clear HS HI HLL hlo hg5
    obtain ⟨N, hN⟩ : ∃ N, N = L T k := ⟨_, rfl⟩
    obtain ⟨c0, hc0⟩ : ∃ c0, c0 = C T k := ⟨_, rfl⟩
    rw [← hN, ← hc0] at HI2
    rw [← hN, ← hc0] at HG4
    rw [← hN] at HR4 HL1 hNl
    rw [← hN, ← hc0]
    clear hN hc0
    generalize w4.alloc (.cells #[.slice av4 T.vars.length cv4, .slice an4 T.nodes.length cn4, .slice ab4 T.body.length cb4] 34) = W5 at *
    obtain ⟨g4, hg4e⟩ : ∃ g4, g4 = w4.heap.size := ⟨_, rfl⟩
    rw [← hg4e] at HX hg4 ⊢
    have HG4E : Hid (g4 = w4.heap.size) := hg4e
    clear hg4e
    refine (HI2.out _ _ _ _ _ (HT4.out.toV.below HBX.out)).mono ?_
    rintro e w5 ⟨v2, rfl, hown2, hb⟩
    obtain ⟨a2, c2, rfl⟩ := rowE_shape hown2
    have hr2 := RowS.of_own hown2 rfl
    obtain ⟨g2, hg2, hmk2⟩ := MarkedS.of_own hown2 1
    have hbx : Below w5.heap.size w5 (w5.alloc (.cells #[.int .i64 c0, .slice a2 N.length c2] 45)) := (Below.refl _ _).alloc (Nat.le_refl _) _
    have hb5 := hb.trans (hbx.mono hb.size)
    have HR2 : Hid (RowS (w5.alloc (.cells #[.int .i64 c0, .slice a2 N.length c2] 45)) a2 N) := hr2.below hbx
    have HM2 : Hid (N.length ≠ 0 → a2 = some ⟨g2, 0, none⟩ ∧ g2 < w5.heap.size ∧ MarkedS (w5.alloc (.cells #[.int .i64 c0, .slice a2 N.length c2] 45)) g2 N.length 1 0) := fun hne => ⟨(hmk2 hne).1, (hmk2 hne).2.1, (hmk2 hne).2.2.below hbx⟩
    have ST6 : Hid (NLaw w (w5.alloc (.cells #[.int .i64 c0, .slice a2 N.length c2] 45)) #[.slice av T.vars.length cv, .slice an T.nodes.length cn, .slice ab T.body.length cb] #[.slice av4 T.vars.length cv4, .slice an4 T.nodes.length cn4, .slice ab4 T.body.length cb4] g3 g4 w5.heap.size c0 a1 a2 N.length c1 c2 N) := ⟨blk HA4.out hb5, blk HG4.out hb5, blk HX.out hb5, heap_alloc_new w5 _, HR4.out.below hb5, HB4.out.trans (hb5.mono HB4.out.size)⟩
    have HBX6 : Hid (Below w4.heap.size w4 (w5.alloc (.cells #[.int .i64 c0, .slice a2 N.length c2] 45))) := HBX.out.trans (hb5.mono HBX.out.size)
    have hW5 : W5.heap.size ≤ w5.heap.size := hb.size
    have hW6 : w5.heap.size < (w5.alloc (.cells #[.int .i64 c0, .slice a2 N.length c2] 45)).heap.size := by simp
    clear hown2 hr2 hmk2 hb hbx hb5 HA4 HG4 HR4 HX HB4 HBX
    have ps0 := cell_of_row _ _ 0 _ _ _ ST6.out.s6
    have ps1 := cell_of_row _ _ 1 _ _ _ ST6.out.s6
    have pe0 := cell_of_row _ _ 0 _ _ _ ST6.out.s8
    have pe1 := cell_of_row _ _ 1 _ _ _ ST6.out.s8
    simp at ps0 ps1 pe0 pe1
    go_wp2_with fail
    generalize w5.alloc (.cells #[.int .i64 c0, .slice a2 N.length c2] 45) = W6 at *
    generalize w5.heap.size = g5 at *
    refine (HQ.out c0 a2 a1 N c2 c1 _ hNl HR2.out ST6.out.r1).mono ?_
    rintro e w6 ⟨rfl, hb⟩
    have ST6b : Hid (NLaw w w6 #[.slice av T.vars.length cv, .slice an T.nodes.length cn, .slice ab T.body.length cb] #[.slice av4 T.vars.length cv4, .slice an4 T.nodes.length cn4, .slice ab4 T.body.length cb4] g3 g4 g5 c0 a1 a2 N.length c1 c2 N) := ST6.out.below hb
    have HR2b : Hid (RowS w6 a2 N) := HR2.out.below hb
    have HM2b : Hid (N.length ≠ 0 → a2 = some ⟨g2, 0, none⟩ ∧ g2 < g5 ∧ MarkedS w6 g2 N.length 1 0) := fun hne => ⟨(HM2.out hne).1, (HM2.out hne).2.1, (HM2.out hne).2.2.below hb⟩
    have HBX7 : Hid (Below w4.heap.size w4 w6) := HBX6.out.trans (hb.mono HBX6.out.size)
    have hW6b : g5 < w6.heap.size := Nat.lt_of_lt_of_le hW6 hb.size
    clear hb ST6 HR2 HM2 HBX6 ps0 ps1 pe0 pe1 hW6
    have pa0 := cell_of_row _ _ 0 _ _ _ ST6b.out.box
    have pa1 := cell_of_row _ _ 1 _ _ _ ST6b.out.box
    have pa2 := cell_of_row _ _ 2 _ _ _ ST6b.out.box
    have px0 := cell_of_row _ _ 0 _ _ _ ST6b.out.xb
    have px1 := cell_of_row _ _ 1 _ _ _ ST6b.out.xb
    have px2 := cell_of_row _ _ 2 _ _ _ ST6b.out.xb
    simp at pa0 pa1 pa2 px0 px1 px2
    have A0 : Hid _ := pa0
    have A1 : Hid _ := pa1
    have A2 : Hid _ := pa2
    have X0 : Hid _ := px0
    have X1 : Hid _ := px1
    have X2 : Hid _ := px2
    have hgA : w.heap.size < w6.heap.size := blk_lt ST6b.out.box
    have hgX : g4 < w6.heap.size := blk_lt ST6b.out.xb
    have HT6 : Hid (TreeV W3.heap.size w6 (.slice av4 T.vars.length cv4) (.slice an4 T.nodes.length cn4) (.slice ab4 T.body.length cb4) T) := HT4.out.toV.below HBX7.out
    have HC : Hid (∀ W, Below w6.heap.size w6 W → Calls Try.prog 14 #[.agg #[.slice av T.vars.length cv, .slice an T.nodes.length cn, .slice ab T.body.length cb]] W fun e w' => ∃ a c a2 c2 a3 c3, e = .returned (treeV (.slice a T.vars.length c) (.slice a2 T.nodes.length c2) (.slice a3 T.body.length c3)) ∧ TreeV W.heap.size w' (.slice a T.vars.length c) (.slice a2 T.nodes.length c2) (.slice a3 T.body.length c3) T ∧ Below W.heap.size W w') := fun W hW =>
      (toTree_any 0 T _ _ _ W (HT.out.below (ST6b.out.bel.trans (hW.mono ST6b.out.bel.size))) HZ.out).mono fun e w' h => by
        obtain ⟨_, _, _, rfl, h1, h2⟩ := h
        obtain ⟨_, _, rfl, _⟩ := id h1.vars
        obtain ⟨_, _, rfl, _⟩ := id h1.nodes
        obtain ⟨_, _, rfl, _⟩ := id h1.body
        exact ⟨_, _, _, _, _, _, rfl, h1, h2⟩
    have HE : Hid (∀ W lo v1 v2 v3, Below w6.heap.size w6 W → TreeV lo W v1 v2 v3 T → Calls Try.prog 17 #[.agg #[.slice av4 T.vars.length cv4, .slice an4 T.nodes.length cn4, .slice ab4 T.body.length cb4], treeV v1 v2 v3] W fun e w' => e = .returned (.bool true) ∧ Below W.heap.size W w') := fun W lo v1 v2 v3 hW h =>
      eqTree_any _ _ T _ _ _ _ _ _ W (HT6.out.below hW) h HZ.out
    go_wp2_with fail
    go_region_held3 (fun W => (W.cell? ⟨w.heap.size, 0, none⟩ = some (.slice av T.vars.length cv) ∧ W.cell? ⟨w.heap.size, 1, none⟩ = some (.slice an T.nodes.length cn) ∧ W.cell? ⟨w.heap.size, 2, none⟩ = some (.slice ab T.body.length cb)) ∧ (W.cell? ⟨g4, 0, none⟩ = some (.slice av4 T.vars.length cv4) ∧ W.cell? ⟨g4, 1, none⟩ = some (.slice an4 T.nodes.length cn4) ∧ W.cell? ⟨g4, 2, none⟩ = some (.slice ab4 T.body.length cb4))) (go_keep) (first | (go_at_call 14; refine (HC.out _ (Below.refl w6.heap.size w6).drew).mono ?_; rintro e w7 ⟨a7, c7, b7, d7, e7, f7, rfl, ht7, hb⟩; have hD : Below w6.heap.size w6 w7 := ((Below.refl w6.heap.size w6).drew).trans (Below.mono hb (Nat.le_refl _)); have pa0 := (hD.cell (p := ⟨w.heap.size, 0, none⟩) hgA).trans A0.out; have pa1 := (hD.cell (p := ⟨w.heap.size, 1, none⟩) hgA).trans A1.out; have pa2 := (hD.cell (p := ⟨w.heap.size, 2, none⟩) hgA).trans A2.out; have px0 := (hD.cell (p := ⟨g4, 0, none⟩) hgX).trans X0.out; have px1 := (hD.cell (p := ⟨g4, 1, none⟩) hgX).trans X1.out; have px2 := (hD.cell (p := ⟨g4, 2, none⟩) hgX).trans X2.out; have HD : Hid (Below w6.heap.size w6 w7) := hD; have HT7 : Hid (TreeV _ w7 _ _ _ T) := ht7; clear hb hD ht7) | (go_at_call 17; refine (HE.out _ _ _ _ _ HD.out HT7.out).mono ?_; rintro e w8 ⟨rfl, hb⟩; have hD : Below w6.heap.size w6 w8 := HD.out.trans (Below.mono hb HD.out.size); have pa0 := (hD.cell (p := ⟨w.heap.size, 0, none⟩) hgA).trans A0.out; have pa1 := (hD.cell (p := ⟨w.heap.size, 1, none⟩) hgA).trans A1.out; have pa2 := (hD.cell (p := ⟨w.heap.size, 2, none⟩) hgA).trans A2.out; have px0 := (hD.cell (p := ⟨g4, 0, none⟩) hgX).trans X0.out; have px1 := (hD.cell (p := ⟨g4, 1, none⟩) hgX).trans X1.out; have px2 := (hD.cell (p := ⟨g4, 2, none⟩) hgX).trans X2.out; have HD8 : Hid (Below w6.heap.size w6 w8) := hD; clear hb hD))
    have ST8 : Hid (NLaw w w8 #[.slice av T.vars.length cv, .slice an T.nodes.length cn, .slice ab T.body.length cb] #[.slice av4 T.vars.length cv4, .slice an4 T.nodes.length cn4, .slice ab4 T.body.length cb4] g3 g4 g5 c0 a1 a2 N.length c1 c2 N) := ST6b.out.below HD8.out
    have HR8 : Hid (RowS w8 a2 N) := HR2b.out.below HD8.out
    have HM8 : Hid (N.length ≠ 0 → a2 = some ⟨g2, 0, none⟩ ∧ g2 < g5 ∧ MarkedS w8 g2 N.length 1 0) := fun hne => ⟨(HM2b.out hne).1, (HM2b.out hne).2.1, (HM2b.out hne).2.2.below HD8.out⟩
    have HBX8 : Hid (Below w4.heap.size w4 w8) := HBX7.out.trans (HD8.out.mono HBX7.out.size)
    have hW8 : g5 < w8.heap.size := Nat.lt_of_lt_of_le hW6b HD8.out.size
    clear ST6b HR2b HM2b HBX7 HC HE HT6 A0 A1 A2 X0 X1 X2 hW6b hgA hgX HD8
    clear pa0 pa1 pa2 px0 px1 px2
    have px0 := cell_of_row _ _ 0 _ _ _ ST8.out.xb
    have px1 := cell_of_row _ _ 1 _ _ _ ST8.out.xb
    have px2 := cell_of_row _ _ 2 _ _ _ ST8.out.xb
    simp at px0 px1 px2
    go_wp2_with fail
    refine (markTree_room W3.heap.size w4.heap.size _ _ _ T w8 w4 HT4.out HZ.out rfl HBX8.out hlo2).mono ?_
    rintro e w9 ⟨m, rfl, hmb, hmk⟩
    have h45 : w4.heap.size ≤ g5 := by have := HG4E.out; omega
    have ST9 : Hid (NLaw w w9 #[.slice av T.vars.length cv, .slice an T.nodes.length cn, .slice ab T.body.length cb] #[.slice av4 T.vars.length cv4, .slice an4 T.nodes.length cn4, .slice ab4 T.body.length cb4] g3 g4 g5 c0 a1 a2 N.length c1 c2 N) := ST8.out.marked hmk (by omega) hg3 (by have := HG4E.out; omega) h45 (fun g e hne => by have := HL1.out g e hne; omega)
    have HM9 : Hid (N.length ≠ 0 → a2 = some ⟨g2, 0, none⟩ ∧ g2 < g5 ∧ MarkedS w9 g2 N.length 1 0) := fun hne => ⟨(HM8.out hne).1, (HM8.out hne).2.1, (HM8.out hne).2.2.same (hmk.out g2 (by have := HG4E.out; omega) (by have := (HM8.out hne).2.1; omega))⟩
    have HR9 : Hid (RowS w9 a2 N) := HR8.out.same fun g e hne => by
      have hn0 : N.length ≠ 0 := fun h => hne (List.length_eq_zero_iff.1 h)
      have h1 := HM8.out hn0
      rw [h1.1] at e; simp at e; subst e
      exact hmk.out g2 (by have := HG4E.out; omega) (by have := h1.2.1; omega)
    have hW9 : g5 < w9.heap.size := blk_lt ST9.out.s8
    have hm0 : (0 : Int) ≤ (m : Int) := by omega
    clear hmk ST8 HR8 HM8 HBX8 HT4 px0 px1 px2 hW8
    have ps0 := cell_of_row _ _ 0 _ _ _ ST9.out.s6
    have ps1 := cell_of_row _ _ 1 _ _ _ ST9.out.s6
    have pe0 := cell_of_row _ _ 0 _ _ _ ST9.out.s8
    have pe1 := cell_of_row _ _ 1 _ _ _ ST9.out.s8
    simp at ps0 ps1 pe0 pe1
    go_wp2_with fail
    refine (HQ.out c0 a2 a1 N c2 c1 _ hNl HR9.out ST9.out.r1).mono ?_
    rintro e w10 ⟨rfl, hb⟩
    have ST10 : Hid (NLaw w w10 #[.slice av T.vars.length cv, .slice an T.nodes.length cn, .slice ab T.body.length cb] #[.slice av4 T.vars.length cv4, .slice an4 T.nodes.length cn4, .slice ab4 T.body.length cb4] g3 g4 g5 c0 a1 a2 N.length c1 c2 N) := ST9.out.below hb
    have HM10 : Hid (N.length ≠ 0 → a2 = some ⟨g2, 0, none⟩ ∧ g2 < g5 ∧ MarkedS w10 g2 N.length 1 0) := fun hne => ⟨(HM9.out hne).1, (HM9.out hne).2.1, (HM9.out hne).2.2.below hb⟩
    have hW10 : g5 < w10.heap.size := blk_lt ST10.out.s8
    clear hb ST9 HM9 HR9 ps0 ps1 pe0 pe1 hm0 hmb
    have pe0 := cell_of_row _ _ 0 _ _ _ ST10.out.s8
    have pe1 := cell_of_row _ _ 1 _ _ _ ST10.out.s8
    simp at pe0 pe1
    go_wp2_with fail
    obtain ⟨gm, hgm1, hgm2, hgm3⟩ : ∃ gm, W5.heap.size ≤ gm ∧ gm ≠ g5 ∧ (N.length ≠ 0 → gm = g2) := by
      by_cases hn0 : N.length = 0
      · exact ⟨g5 + 1, by omega, by omega, fun h => absurd hn0 h⟩
      · exact ⟨g2, hg2, by have := (HM10.out hn0).2.1; omega, fun _ => rfl⟩
    have HAE : Hid (N.length ≠ 0 → a2 = some ⟨gm, 0, none⟩) := fun hne => by rw [hgm3 hne]; exact (HM10.out hne).1
    have hmm10 : N.length ≠ 0 → MarkedS w10 gm N.length 1 0 := fun hne => by rw [hgm3 hne]; exact (HM10.out hne).2.2
    refine (markNames_any c0 gm N.length c2 W5.heap.size w10 hNl hgm1 hmm10 a2 HAE.out (by omega)).mono ?_
    rintro e w11 ⟨rfl, hmk, hb, hrs⟩
    have hg4e := HG4E.out
    have ST11 : Hid (NLaw w w11 #[.slice av T.vars.length cv, .slice an T.nodes.length cn, .slice ab T.body.length cb] #[.slice av4 T.vars.length cv4, .slice an4 T.nodes.length cn4, .slice ab4 T.body.length cb4] g3 g4 g5 c0 a1 a2 N.length c1 c2 N) := ST10.out.but hb hrs (by omega) (by omega) (by omega) (Ne.symm hgm2) (by omega) (fun g e hne => by have := HL1.out g e hne; exact ⟨by omega, by omega⟩)
    have HM11 : Hid (N.length ≠ 0 → MarkedS w11 gm N.length 1 N.length) := hmk
    obtain ⟨q, hqe⟩ : ∃ q, q = 1 + N.length := ⟨_, rfl⟩
    have HQE : Hid (q = 1 + N.length) := hqe
    have hq0 : (0 : Int) ≤ (q : Int) := by omega
    rw [← hqe]
    clear hb hrs hmk hmm10 ST10 HM10 pe0 pe1 hqe hg4e hg2 hgm1 hgm2 hgm3
    have pe0 := cell_of_row _ _ 0 _ _ _ ST11.out.s8
    have pe1 := cell_of_row _ _ 1 _ _ _ ST11.out.s8
    simp at pe0 pe1
    go_wp2_with fail
    refine (heldNames_any c0 gm N.length c2 w11 hNl HM11.out a2 HAE.out).mono ?_
    rintro e w12 ⟨rfl, hb⟩
    have ST12 : Hid (NLaw w w12 #[.slice av T.vars.length cv, .slice an T.nodes.length cn, .slice ab T.body.length cb] #[.slice av4 T.vars.length cv4, .slice an4 T.nodes.length cn4, .slice ab4 T.body.length cb4] g3 g4 g5 c0 a1 a2 N.length c1 c2 N) := ST11.out.below hb
    have HM12 : Hid (N.length ≠ 0 → MarkedS w12 gm N.length 1 N.length) := fun hne => (HM11.out hne).below hb
    rw [← HQE.out]
    clear hb ST11 HM11 pe0 pe1
    have pa0 := cell_of_row _ _ 0 _ _ _ ST12.out.box
    have pa1 := cell_of_row _ _ 1 _ _ _ ST12.out.box
    have pa2 := cell_of_row _ _ 2 _ _ _ ST12.out.box
    simp at pa0 pa1 pa2
    go_wp2_with fail
    refine (toTree_any 0 T _ _ _ _ (HT.out.below ST12.out.bel) HZ.out).mono ?_
    rintro e w13 ⟨_, _, _, rfl, ht13, hb⟩
    obtain ⟨av13, cv13, rfl, _⟩ := id ht13.vars
    obtain ⟨an13, cn13, rfl, _⟩ := id ht13.nodes
    obtain ⟨ab13, cb13, rfl, _⟩ := id ht13.body
    have ST13 : Hid (NLaw w w13 #[.slice av T.vars.length cv, .slice an T.nodes.length cn, .slice ab T.body.length cb] #[.slice av4 T.vars.length cv4, .slice an4 T.nodes.length cn4, .slice ab4 T.body.length cb4] g3 g4 g5 c0 a1 a2 N.length c1 c2 N) := ST12.out.below hb
    have HM13 : Hid (N.length ≠ 0 → MarkedS w13 gm N.length 1 N.length) := fun hne => (HM12.out hne).below hb
    have HT13 : Hid (TreeV w12.heap.size w13 (.slice av13 T.vars.length cv13) (.slice an13 T.nodes.length cn13) (.slice ab13 T.body.length cb13) T) := ht13
    clear hb ht13 ST12 HM12 pa0 pa1 pa2
    go_wp2_with fail
    refine (HI2.out _ _ _ _ _ HT13.out).mono ?_
    rintro e w14 ⟨v3, rfl, hown3, hb⟩
    obtain ⟨a3, c3, rfl⟩ := rowE_shape hown3
    have hr3 := RowS.of_own hown3 rfl
    have hbx : Below w14.heap.size w14 (w14.alloc (.cells #[.int .i64 c0, .slice a3 N.length c3] 45)) := (Below.refl _ _).alloc (Nat.le_refl _) _
    have hb5 := hb.trans (hbx.mono hb.size)
    have HR3 : Hid (RowS (w14.alloc (.cells #[.int .i64 c0, .slice a3 N.length c3] 45)) a3 N) := hr3.below hbx
    have H12 : Hid ((w14.alloc (.cells #[.int .i64 c0, .slice a3 N.length c3] 45)).heap[w14.heap.size]? = some (.cells #[.int .i64 c0, .slice a3 N.length c3] 45 (0, 0))) := heap_alloc_new w14 _
    have ST14 : Hid (NLaw w (w14.alloc (.cells #[.int .i64 c0, .slice a3 N.length c3] 45)) #[.slice av T.vars.length cv, .slice an T.nodes.length cn, .slice ab T.body.length cb] #[.slice av4 T.vars.length cv4, .slice an4 T.nodes.length cn4, .slice ab4 T.body.length cb4] g3 g4 g5 c0 a1 a2 N.length c1 c2 N) := ST13.out.below hb5
    have HM14 : Hid (N.length ≠ 0 → MarkedS (w14.alloc (.cells #[.int .i64 c0, .slice a3 N.length c3] 45)) gm N.length 1 N.length) := fun hne => (HM13.out hne).below hb5
    have pt0 := cell_of_row _ _ 0 _ _ _ H12.out
    have pt1 := cell_of_row _ _ 1 _ _ _ H12.out
    simp at pt0 pt1
    clear hown3 hr3 hb hbx hb5 ST13 HM13 HT13 HI2
    have ps0 := cell_of_row _ _ 0 _ _ _ ST14.out.s6
    have ps1 := cell_of_row _ _ 1 _ _ _ ST14.out.s6
    simp at ps0 ps1
    go_wp2_with fail
    generalize w14.alloc (.cells #[.int .i64 c0, .slice a3 N.length c3] 45) = W14 at *
    refine (HQ.out c0 a3 a1 N c3 c1 _ hNl HR3.out ST14.out.r1).mono ?_
    rintro e w15 ⟨rfl, hb⟩
    have ST15 : Hid (NLaw w w15 #[.slice av T.vars.length cv, .slice an T.nodes.length cn, .slice ab T.body.length cb] #[.slice av4 T.vars.length cv4, .slice an4 T.nodes.length cn4, .slice ab4 T.body.length cb4] g3 g4 g5 c0 a1 a2 N.length c1 c2 N) := ST14.out.below hb
    have HM15 : Hid (N.length ≠ 0 → MarkedS w15 gm N.length 1 N.length) := fun hne => (HM14.out hne).below hb
    clear hb ST14 HM14 ps0 ps1 pt0 pt1 H12 HR3
    have pe0 := cell_of_row _ _ 0 _ _ _ ST15.out.s8
    have pe1 := cell_of_row _ _ 1 _ _ _ ST15.out.s8
    simp at pe0 pe1
    go_wp2_with fail
    refine (heldNames_any c0 gm N.length c2 w15 hNl HM15.out a2 HAE.out).mono ?_
    rintro e w16 ⟨rfl, hb⟩
    have HB16 : Hid (Below w.heap.size w w16) := ST15.out.bel.trans (hb.mono ST15.out.bel.size)
    rw [← HQE.out]
    clear hb ST15 HM15 pe0 pe1
    go_wp2_with fail
    go_ret
    exact ⟨rfl, HB16.out⟩
  · go_wp2_with fail
    go_ret
    exact ⟨rfl, HB.out⟩
end Go.Proofs.Ytbgnmocbpigpmaa
