/-
  The Go function laws.FnExactStateFault answers true at every input and writes nothing that was there. No condition beside the laid variable errors.errorType.
-/
import Derived.Test.YtepjaoapjpmjkaaGreatDoorIStF
import Derived.Test.YtepjaoapjpmjkaaGreatDoorIStF
import Derived.Test.YtepjaoapjpmjkaaGreatDoorTreeVar
import Derived.Test.YtepjaoapjpmjkaaGreatDoorOpenTree
import Derived.Test.YtepjaoapjpmjkaaGreatDoorTreeTo3
namespace Go.Proofs.YtepjaoapjpmjkaaGreatDoor
open Go.RowKit
set_option linter.unusedVariables false
attribute [local go_sem] bs_size bs_get bs_extract bs_append bs_eq bs_toList
set_option maxHeartbeats 6400000 in
set_option maxRecDepth 100000 in
theorem stateFault_law (vv vn vb : Value) (T : LTree) (a : Option Addr) (zs : List Int) (cap : Nat) (w : World) (h : IsTree w vv vn vb T) (hn : Nums w a zs) (hl : zs.length ≤ 9223372036854775807) (hE : ErrT w) :
  Calls Tryz.prog 6 #[treeV vv vn vb, .agg #[.slice a zs.length cap]] w fun e w' => e = .returned (.bool true) ∧ Below w.heap.size w w' := by
 obtain ⟨ht, hf⟩ := h
 have HET : Hid (∀ W, Below w.heap.size w W → ErrT W) := fun W hb => hE.kept hb
 have HNW : Hid (∀ W, Below w.heap.size w W → Nums W a zs) := fun W hb => hn.below hb
 have HSZ : Hid (∀ (left : Int) (W : World), 0 ≤ left → left ≤ 1048576 → Calls Tryz.prog 22 #[.agg #[.slice a zs.length cap], .int .i64 left] W fun e w' => ∃ r : Int, e = .returned (.int .i64 r) ∧ (0 ≤ r → zs.length ≤ 1048576) ∧ Below W.heap.size W w') := fun left W h0 h1 => szState_any a zs.length cap left h0 h1 hl W
 obtain ⟨av, cv, rfl, _⟩ := id ht.vars
 obtain ⟨an, cn, rfl, _⟩ := id ht.nodes
 obtain ⟨ab, cb, rfl, _⟩ := id ht.body
 have HT := hid ht
 have HF : Hid (Fits T) := hf
 have hA := heap_alloc_new w (.cells #[.slice av T.vars.length cv, .slice an T.nodes.length cn, .slice ab T.body.length cb] 26)
 have hB : Below w.heap.size w (w.alloc (.cells #[.slice av T.vars.length cv, .slice an T.nodes.length cn, .slice ab T.body.length cb] 26)) := (Below.refl _ _).alloc (Nat.le_refl _) _
 have hZ : (w.alloc (.cells #[.slice av T.vars.length cv, .slice an T.nodes.length cn, .slice ab T.body.length cb] 26)).heap.size = w.heap.size + 1 := by simp
 have hA2 := heap_alloc_new (w.alloc (.cells #[.slice av T.vars.length cv, .slice an T.nodes.length cn, .slice ab T.body.length cb] 26)) (.cells #[.slice a zs.length cap] 52)
 have hB2 : Below (w.alloc (.cells #[.slice av T.vars.length cv, .slice an T.nodes.length cn, .slice ab T.body.length cb] 26)).heap.size (w.alloc (.cells #[.slice av T.vars.length cv, .slice an T.nodes.length cn, .slice ab T.body.length cb] 26)) _ := (Below.refl _ _).alloc (Nat.le_refl _) (.cells #[.slice a zs.length cap] 52)
 have hA1 := blk hA hB2
 have hB3 := hB.trans (hB2.mono (by omega))
 rw [hZ] at hA2
 clear hA hB hB2 hZ ht hf hn hl hE
 go_enter Tryz.func6, Tryz.ntmps6
 go_wp2_with fail
 generalize ((w.alloc (.cells #[.slice av T.vars.length cv, .slice an T.nodes.length cn, .slice ab T.body.length cb] 26)).alloc (.cells #[.slice a zs.length cap] 52)) = W at *
 refine (szTreeLe_any 0 T _ _ _ _ (HT.out.below hB3) HF.out).mono ?_
 rintro e w1 ⟨r, rfl, hr, hb1⟩
 have HA : Hid (w1.heap[w.heap.size]? = some (.cells #[.slice av T.vars.length cv, .slice an T.nodes.length cn, .slice ab T.body.length cb] 26 (0, 0))) := blk hA1 hb1
 have HA2 : Hid (w1.heap[w.heap.size + 1]? = some (.cells #[.slice a zs.length cap] 52 (0, 0))) := blk hA2 hb1
 have HB : Hid (Below w.heap.size w w1) := hB3.trans (hb1.mono hB3.size)
 clear hb1 hA1 hA2 hB3
 by_cases h0 : 0 ≤ r
 ·obtain ⟨hz1, hr1⟩ := hr h0
  have HZ : Hid (Sized 1048576 T) := hz1
  clear hr hz1
  have s0 := cell_of_row _ _ 0 _ _ _ HA2.out
  simp at s0
  go_wp2_with fail
  refine (HSZ.out r _ h0 hr1).mono ?_
  rintro e w1b ⟨r2, rfl, hr2, hb⟩
  have HAb : Hid (w1b.heap[w.heap.size]? = some (.cells #[.slice av T.vars.length cv, .slice an T.nodes.length cn, .slice ab T.body.length cb] 26 (0, 0))) := blk HA.out hb
  have HA2b : Hid (w1b.heap[w.heap.size + 1]? = some (.cells #[.slice a zs.length cap] 52 (0, 0))) := blk HA2.out hb
  have HBb : Hid (Below w.heap.size w w1b) := HB.out.trans (hb.mono HB.out.size)
  clear hb HA HA2 HB s0 h0 hr1 HSZ
  by_cases h0 : 0 ≤ r2
  ·have HZ2 : Hid (zs.length ≤ 1048576) := hr2 h0
   clear hr2
   have HTO : Hid (∀ W, Below w.heap.size w W → Calls Tryz.prog 9 #[.agg #[.slice av T.vars.length cv, .slice an T.nodes.length cn, .slice ab T.body.length cb]] W fun e w' => ∃ a c a2 c2 a3 c3, e = .returned (treeV (.slice a T.vars.length c) (.slice a2 T.nodes.length c2) (.slice a3 T.body.length c3)) ∧ TreeV W.heap.size w' (.slice a T.vars.length c) (.slice a2 T.nodes.length c2) (.slice a3 T.body.length c3) T ∧ Below W.heap.size W w') := fun W hW =>
    (toTree_any 0 T _ _ _ W (HT.out.below hW) HZ.out).mono fun e w' h => by
     obtain ⟨_, _, _, rfl, h1, h2⟩ := h
     obtain ⟨_, _, rfl, _⟩ := id h1.vars
     obtain ⟨_, _, rfl, _⟩ := id h1.nodes
     obtain ⟨_, _, rfl, _⟩ := id h1.body
     exact ⟨_, _, _, _, _, _, rfl, h1, h2⟩
   have HSO : Hid (∀ W, Below w.heap.size w W → Calls Tryz.prog 24 #[.agg #[.slice a zs.length cap]] W fun e w' => ∃ a2 c2, e = .returned (.agg #[.slice a2 zs.length c2]) ∧ Nums w' a2 zs ∧ Below W.heap.size W w') := fun W hW => toState_any a zs cap W HZ2.out (HNW.out W hW)
   obtain ⟨a0, a1, a2⟩ := cl3 HAb.out
   have s0 := cell_of_row _ _ 0 _ _ _ HA2b.out
   simp at a0 a1 a2 s0
   have HSP : Hid (∀ (lo : Nat) (v1 v2 v3 : Value) (b : Option Addr) (c : Nat) (W : World), TreeV lo W v1 v2 v3 T → Nums W b zs → Calls Tryz.prog 23 #[treeV v1 v2 v3, .agg #[.slice b zs.length c]] W fun e w' => e = .returned (.int .i64 (staF T zs)) ∧ Below W.heap.size W w') := fun lo v1 v2 v3 b c W h1 h2 => specStateFault lo v1 v2 v3 T b zs c W h1 HZ.out h2 HZ2.out
   have HIM : Hid (∀ (lo : Nat) (v1 v2 v3 : Value) (b : Option Addr) (c : Nat) (W : World), TreeV lo W v1 v2 v3 T → Nums W b zs → ErrT W → Calls Tryz.prog 25 #[treeV v1 v2 v3, .agg #[.slice b zs.length c]] W fun e w' => e = .returned (.int .i64 (staF T zs)) ∧ Below W.heap.size W w') := fun lo v1 v2 v3 b c W h1 h2 h3 => implStateFault lo v1 v2 v3 T b zs c W h1 HZ.out h2 HZ2.out h3
   generalize staF T zs = R at *
   go_upto_region 8 with fail
   have HC1 : Hid (∀ W, Below w1b.heap.size w1b W → (W.heap[w.heap.size]? = some (.cells #[.slice av T.vars.length cv, .slice an T.nodes.length cn, .slice ab T.body.length cb] 26 (0, 0)) ∧ W.heap[w.heap.size + 1]? = some (.cells #[.slice a zs.length cap] 52 (0, 0))) ∧ (W.cell? ⟨w.heap.size, 0, none⟩ = some (.slice av T.vars.length cv) ∧ W.cell? ⟨w.heap.size, 1, none⟩ = some (.slice an T.nodes.length cn) ∧ W.cell? ⟨w.heap.size, 2, none⟩ = some (.slice ab T.body.length cb)) ∧ W.cell? ⟨w.heap.size + 1, 0, none⟩ = some (.slice a zs.length cap)) := fun W hb =>
    ⟨⟨blk HAb.out hb, blk HA2b.out hb⟩, ⟨cell_of_row _ _ 0 _ _ _ (blk HAb.out hb), cell_of_row _ _ 1 _ _ _ (blk HAb.out hb), cell_of_row _ _ 2 _ _ _ (blk HAb.out hb)⟩, cell_of_row _ _ 0 _ _ _ (blk HA2b.out hb)⟩
   go_region_held3 (fun W => (W.cell? ⟨w.heap.size, 0, none⟩ = some (.slice av T.vars.length cv) ∧ W.cell? ⟨w.heap.size, 1, none⟩ = some (.slice an T.nodes.length cn) ∧ W.cell? ⟨w.heap.size, 2, none⟩ = some (.slice ab T.body.length cb)) ∧ W.cell? ⟨w.heap.size + 1, 0, none⟩ = some (.slice a zs.length cap)) (go_keep) (first | (go_at_call 9; refine (HTO.out _ HBb.out.drew).mono ?_; rintro e w7 ⟨a7, c7, b7, d7, e7, f7, rfl, ht7, hb⟩; have HD : Hid (Below w1b.heap.size w1b w7) := (Below.refl w1b.heap.size w1b).drew.trans (Below.mono hb (Nat.le_refl _)); obtain ⟨_, ⟨a0, a1, a2⟩, s0⟩ := HC1.out _ HD.out; have HT7 : Hid (TreeV _ w7 _ _ _ T) := ht7; clear hb ht7) | (go_at_call 24; refine (HSO.out _ (HBb.out.trans (HD.out.mono HBb.out.size))).mono ?_; rintro e w8 ⟨a8, c8, rfl, hn8, hb⟩; have HE : Hid (Below w1b.heap.size w1b w8) := HD.out.trans (Below.mono hb HD.out.size); obtain ⟨_, ⟨a0, a1, a2⟩, s0⟩ := HC1.out _ HE.out; have HT8 : Hid (TreeV _ w8 _ _ _ T) := HT7.out.below hb; have HN8 : Hid (Nums w8 a8 zs) := hn8; clear hb hn8) | (go_at_call 23; refine (HSP.out _ _ _ _ _ _ _ HT8.out HN8.out).mono ?_; rintro e w9 ⟨rfl, hb⟩; have HG : Hid (Below w1b.heap.size w1b w9) := HE.out.trans (Below.mono hb HE.out.size); obtain ⟨_, ⟨a0, a1, a2⟩, s0⟩ := HC1.out _ HG.out; clear hb))
   have hA9 := (HC1.out _ HG.out).1
   have HA9 : Hid (w9.heap[w.heap.size]? = some (.cells #[.slice av T.vars.length cv, .slice an T.nodes.length cn, .slice ab T.body.length cb] 26 (0, 0))) := hA9.1
   have HS9 : Hid (w9.heap[w.heap.size + 1]? = some (.cells #[.slice a zs.length cap] 52 (0, 0))) := hA9.2
   have HB9 : Hid (Below w.heap.size w w9) := HBb.out.trans (HG.out.mono HBb.out.size)
   clear HC1 HAb HA2b HBb HD HE HG HT7 HT8 HN8 hA9 HSP
   go_wp2_with fail
   refine (HTO.out _ HB9.out).mono ?_
   rintro e w10 ⟨a10, c10, b10, d10, e10, f10, rfl, ht, hb⟩
   have hA := blk HA9.out hb
   have hS := blk HS9.out hb
   have hB := HB9.out.trans (hb.mono HB9.out.size)
   have hbx : Below w10.heap.size w10 (w10.alloc (.cells #[.slice a10 T.vars.length c10, .slice b10 T.nodes.length d10, .slice e10 T.body.length f10] 34)) := (Below.refl _ _).alloc (Nat.le_refl _) _
   have HX : Hid ((w10.alloc (.cells #[.slice a10 T.vars.length c10, .slice b10 T.nodes.length d10, .slice e10 T.body.length f10] 34)).heap[w10.heap.size]? = some (.cells #[.slice a10 T.vars.length c10, .slice b10 T.nodes.length d10, .slice e10 T.body.length f10] 34 (0, 0))) := heap_alloc_new w10 _
   have HA11 : Hid ((w10.alloc (.cells #[.slice a10 T.vars.length c10, .slice b10 T.nodes.length d10, .slice e10 T.body.length f10] 34)).heap[w.heap.size]? = some (.cells #[.slice av T.vars.length cv, .slice an T.nodes.length cn, .slice ab T.body.length cb] 26 (0, 0))) := blk hA hbx
   have HS11 : Hid ((w10.alloc (.cells #[.slice a10 T.vars.length c10, .slice b10 T.nodes.length d10, .slice e10 T.body.length f10] 34)).heap[w.heap.size + 1]? = some (.cells #[.slice a zs.length cap] 52 (0, 0))) := blk hS hbx
   have HB11 : Hid (Below w.heap.size w (w10.alloc (.cells #[.slice a10 T.vars.length c10, .slice b10 T.nodes.length d10, .slice e10 T.body.length f10] 34))) := hB.trans (hbx.mono hB.size)
   have HT11 : Hid (TreeV w9.heap.size (w10.alloc (.cells #[.slice a10 T.vars.length c10, .slice b10 T.nodes.length d10, .slice e10 T.body.length f10] 34)) (.slice a10 T.vars.length c10) (.slice b10 T.nodes.length d10) (.slice e10 T.body.length f10) T) := ht.below hbx
   clear a0 a1 a2 s0 ht hb hA hS hB hbx HA9 HS9 HB9
   go_upto_region 10 with fail
   generalize w10.alloc (.cells #[.slice a10 T.vars.length c10, .slice b10 T.nodes.length d10, .slice e10 T.body.length f10] 34) = W11 at *
   generalize w10.heap.size = g11 at *
   have s0 := cell_of_row _ _ 0 _ _ _ HS11.out
   simp at s0
   go_wp2_with fail
   refine (HSO.out _ HB11.out).mono ?_
   rintro e w12 ⟨a12, c12, rfl, hn, hb⟩
   have hX := blk HX.out hb
   have hA := blk HA11.out hb
   have hS := blk HS11.out hb
   have hB := HB11.out.trans (hb.mono HB11.out.size)
   have hT := HT11.out.below hb
   have hbx : Below w12.heap.size w12 (w12.alloc (.cells #[.slice a12 zs.length c12] 45)) := (Below.refl _ _).alloc (Nat.le_refl _) _
   have HY : Hid ((w12.alloc (.cells #[.slice a12 zs.length c12] 45)).heap[w12.heap.size]? = some (.cells #[.slice a12 zs.length c12] 45 (0, 0))) := heap_alloc_new w12 _
   have HX13 : Hid ((w12.alloc (.cells #[.slice a12 zs.length c12] 45)).heap[g11]? = some (.cells #[.slice a10 T.vars.length c10, .slice b10 T.nodes.length d10, .slice e10 T.body.length f10] 34 (0, 0))) := blk hX hbx
   have HA13 : Hid ((w12.alloc (.cells #[.slice a12 zs.length c12] 45)).heap[w.heap.size]? = some (.cells #[.slice av T.vars.length cv, .slice an T.nodes.length cn, .slice ab T.body.length cb] 26 (0, 0))) := blk hA hbx
   have HS13 : Hid ((w12.alloc (.cells #[.slice a12 zs.length c12] 45)).heap[w.heap.size + 1]? = some (.cells #[.slice a zs.length cap] 52 (0, 0))) := blk hS hbx
   have HB13 : Hid (Below w.heap.size w (w12.alloc (.cells #[.slice a12 zs.length c12] 45))) := hB.trans (hbx.mono hB.size)
   have HT13 : Hid (TreeV w9.heap.size (w12.alloc (.cells #[.slice a12 zs.length c12] 45)) (.slice a10 T.vars.length c10) (.slice b10 T.nodes.length d10) (.slice e10 T.body.length f10) T) := hT.below hbx
   have HN13 : Hid (Nums (w12.alloc (.cells #[.slice a12 zs.length c12] 45)) a12 zs) := hn.below hbx
   clear s0 hn hb hX hA hS hB hT hbx HX HA11 HS11 HB11 HT11
   go_upto_region 11 with fail
   generalize w12.alloc (.cells #[.slice a12 zs.length c12] 45) = W13 at *
   generalize w12.heap.size = g13 at *
   obtain ⟨x0, x1, x2⟩ := cl3 HX13.out
   have y0 := cell_of_row _ _ 0 _ _ _ HY.out
   simp at x0 x1 x2 y0
   go_wp2_with fail
   refine (HIM.out _ _ _ _ _ _ _ HT13.out HN13.out (HET.out _ HB13.out)).mono ?_
   rintro e w14 ⟨rfl, hb⟩
   have HX14 : Hid (w14.heap[g11]? = some (.cells #[.slice a10 T.vars.length c10, .slice b10 T.nodes.length d10, .slice e10 T.body.length f10] 34 (0, 0))) := blk HX13.out hb
   have HY14 : Hid (w14.heap[g13]? = some (.cells #[.slice a12 zs.length c12] 45 (0, 0))) := blk HY.out hb
   have HA14 : Hid (w14.heap[w.heap.size]? = some (.cells #[.slice av T.vars.length cv, .slice an T.nodes.length cn, .slice ab T.body.length cb] 26 (0, 0))) := blk HA13.out hb
   have HS14 : Hid (w14.heap[w.heap.size + 1]? = some (.cells #[.slice a zs.length cap] 52 (0, 0))) := blk HS13.out hb
   have HB14 : Hid (Below w.heap.size w w14) := HB13.out.trans (hb.mono HB13.out.size)
   have HT14 : Hid (TreeV w9.heap.size w14 (.slice a10 T.vars.length c10) (.slice b10 T.nodes.length d10) (.slice e10 T.body.length f10) T) := HT13.out.below hb
   have HN14 : Hid (Nums w14 a12 zs) := HN13.out.below hb
   clear x0 x1 x2 y0 hb HX13 HY HA13 HS13 HB13 HT13 HN13 HIM HET
   have HC1 : Hid (∀ W, Below w14.heap.size w14 W → (W.cell? ⟨w.heap.size, 0, none⟩ = some (.slice av T.vars.length cv) ∧ W.cell? ⟨w.heap.size, 1, none⟩ = some (.slice an T.nodes.length cn) ∧ W.cell? ⟨w.heap.size, 2, none⟩ = some (.slice ab T.body.length cb)) ∧ (W.cell? ⟨g11, 0, none⟩ = some (.slice a10 T.vars.length c10) ∧ W.cell? ⟨g11, 1, none⟩ = some (.slice b10 T.nodes.length d10) ∧ W.cell? ⟨g11, 2, none⟩ = some (.slice e10 T.body.length f10))) := fun W hb =>
    ⟨⟨cell_of_row _ _ 0 _ _ _ (blk HA14.out hb), cell_of_row _ _ 1 _ _ _ (blk HA14.out hb), cell_of_row _ _ 2 _ _ _ (blk HA14.out hb)⟩, cell_of_row _ _ 0 _ _ _ (blk HX14.out hb), cell_of_row _ _ 1 _ _ _ (blk HX14.out hb), cell_of_row _ _ 2 _ _ _ (blk HX14.out hb)⟩
   have HC2 : Hid (∀ W, Below w14.heap.size w14 W → W.cell? ⟨w.heap.size + 1, 0, none⟩ = some (.slice a zs.length cap) ∧ W.cell? ⟨g13, 0, none⟩ = some (.slice a12 zs.length c12)) := fun W hb =>
    ⟨cell_of_row _ _ 0 _ _ _ (blk HS14.out hb), cell_of_row _ _ 0 _ _ _ (blk HY14.out hb)⟩
   have HTE : Hid (∀ W lo v1 v2 v3, Below w14.heap.size w14 W → TreeV lo W v1 v2 v3 T → Calls Tryz.prog 12 #[.agg #[.slice a10 T.vars.length c10, .slice b10 T.nodes.length d10, .slice e10 T.body.length f10], treeV v1 v2 v3] W fun e w' => e = .returned (.bool true) ∧ Below W.heap.size W w') := fun W lo v1 v2 v3 hW h =>
    eqTree_any _ _ T _ _ _ _ _ _ W (HT14.out.below hW) h HZ.out
   have HSE : Hid (∀ W b c, Below w14.heap.size w14 W → Nums W b zs → Calls Tryz.prog 26 #[.agg #[.slice a12 zs.length c12], .agg #[.slice b zs.length c]] W fun e w' => e = .returned (.bool true) ∧ Below W.heap.size W w') := fun W b c hW h =>
    eqState_any _ _ zs _ _ W HZ2.out (HN14.out.below hW) h
   clear HX14 HY14 HA14 HS14 HT14 HN14
   obtain ⟨⟨a0, a1, a2⟩, x0, x1, x2⟩ := HC1.out _ (Below.refl _ _)
   go_upto_region 14 with fail
   go_region_held3 (fun W => (W.cell? ⟨w.heap.size, 0, none⟩ = some (.slice av T.vars.length cv) ∧ W.cell? ⟨w.heap.size, 1, none⟩ = some (.slice an T.nodes.length cn) ∧ W.cell? ⟨w.heap.size, 2, none⟩ = some (.slice ab T.body.length cb)) ∧ (W.cell? ⟨g11, 0, none⟩ = some (.slice a10 T.vars.length c10) ∧ W.cell? ⟨g11, 1, none⟩ = some (.slice b10 T.nodes.length d10) ∧ W.cell? ⟨g11, 2, none⟩ = some (.slice e10 T.body.length f10))) (go_keep) (first | (go_at_call 9; refine (HTO.out _ HB14.out.drew).mono ?_; rintro e w7 ⟨a7, c7, b7, d7, e7, f7, rfl, ht7, hb⟩; have HD : Hid (Below w14.heap.size w14 w7) := (Below.refl w14.heap.size w14).drew.trans (Below.mono hb (Nat.le_refl _)); obtain ⟨⟨a0, a1, a2⟩, x0, x1, x2⟩ := HC1.out _ HD.out; have HT7 : Hid (TreeV _ w7 _ _ _ T) := ht7; clear hb ht7) | (go_at_call 12; refine (HTE.out _ _ _ _ _ HD.out HT7.out).mono ?_; rintro e w8 ⟨rfl, hb⟩; have HE : Hid (Below w14.heap.size w14 w8) := HD.out.trans (Below.mono hb HD.out.size); obtain ⟨⟨a0, a1, a2⟩, x0, x1, x2⟩ := HC1.out _ HE.out; clear hb))
   clear HC1 HTE HTO a0 a1 a2 x0 x1 x2 HD HT7
   obtain ⟨s0, y0⟩ := HC2.out _ HE.out
   go_upto_region 16 with fail
   have HB8 : Hid (Below w.heap.size w w8) := HB14.out.trans (HE.out.mono HB14.out.size)
   go_region_held3 (fun W => W.cell? ⟨w.heap.size + 1, 0, none⟩ = some (.slice a zs.length cap) ∧ W.cell? ⟨g13, 0, none⟩ = some (.slice a12 zs.length c12)) (go_keep) (first | (go_at_call 24; refine (HSO.out _ HB8.out.drew).mono ?_; rintro e w17 ⟨a17, c17, rfl, hn17, hb⟩; have HD : Hid (Below w14.heap.size w14 w17) := HE.out.drew.trans (Below.mono hb HE.out.drew.size); obtain ⟨s0, y0⟩ := HC2.out _ HD.out; have HN17 : Hid (Nums w17 a17 zs) := hn17; clear hb hn17) | (go_at_call 26; refine (HSE.out _ _ _ HD.out HN17.out).mono ?_; rintro e w18 ⟨rfl, hb⟩; have HG : Hid (Below w14.heap.size w14 w18) := HD.out.trans (Below.mono hb HD.out.size); obtain ⟨s0, y0⟩ := HC2.out _ HG.out; clear hb))
   have HBB : Hid (Below w.heap.size w w18) := HB14.out.trans (HG.out.mono HB14.out.size)
   go_wp2
   go_ret
   exact ⟨rfl, HBB.out⟩
  ·go_wp2_with fail
   go_ret
   exact ⟨rfl, HBb.out⟩
 ·clear HSZ
  go_wp2_with fail
  go_ret
  exact ⟨rfl, HB.out⟩
end Go.Proofs.YtepjaoapjpmjkaaGreatDoor
namespace Go.Proofs.YtepjaoapjpmjkaaGreatDoor
open Go.RowKit Go.ChangeShapes Go.WideShapes Go.Deep Go.Lib Go.Joins
set_option linter.unusedVariables false
def IsSt (w : World) (a : Option Addr) (zs : List Int) : Prop := Nums w a zs ∧ zs.length ≤ 9223372036854775807
theorem cellsState : Tryz.prog.cellsOf 52 = 1 := by kernel_rfl
section
variable {H : Type} {enc : TypeId × Value → H} {W : World}
theorem one_of {α : Type} {cs : Array α} (h : cs.size = 1) : ∃ c, cs = #[c] := by
 obtain ⟨l⟩ := cs
 cases l with
 | nil => simp at h
 | cons c l => cases l with
  | nil => exact ⟨c, rfl⟩
  | cons d l => simp at h
set_option maxRecDepth 100000 in
theorem open_state {base : Nat} {v : Value} {d : DataW H} {p : List MemPlace} (hv : Value.okWide Tryz.prog W .any base 52 v) (h : DataW.Trod enc Tryz.prog W 0 (fun _ => true) true 52 v d p) :
  ∃ (a : Option Addr) (zs : List Int) (c : Nat), v = .agg #[.slice a zs.length c] ∧ IsSt W a zs := by
 obtain ⟨cs, rfl, hsz⟩ := okWide_struct Tryz.underlying52 hv
 obtain ⟨c0, rfl⟩ := one_of (hsz.trans cellsState)
 obtain ⟨fuel, hf⟩ := h
 obtain ⟨y0, n, hx, _, h0⟩ := trod_struct1 Tryz.underlying52 hf
 have h1 : DataW.trod enc Tryz.prog W 0 (fun _ => true) true n 24 [c0] = some y0 := by simpa [Value.cells, cellsInts] using h0
 obtain ⟨xs, hxs, lx⟩ := open_intsV h1
 obtain ⟨a, c, rfl, _⟩ := id hxs
 exact ⟨a, xs, c, rfl, nums_of_ints hxs, lx⟩
end
end Go.Proofs.YtepjaoapjpmjkaaGreatDoor
namespace Go.Proofs.YtepjaoapjpmjkaaGreatDoor
open Go.RowKit
set_option linter.unusedVariables false
theorem fnExactStateFault_walk (vv0 vn0 vb0 : Value) (T0 : LTree) (a1 : Option Addr) (z1 : List Int) (cap1 : Nat) (w : World) (w0 : IsTree w vv0 vn0 vb0 T0) (w1 : IsSt w a1 z1) (hE : ErrT w) :
  Calls Tryz.prog 6 #[treeV vv0 vn0 vb0, .agg #[.slice a1 z1.length cap1]] w fun e w' => e = .returned (.bool true) ∧ Below w.heap.size w w' :=
 stateFault_law vv0 vn0 vb0 T0 a1 z1 cap1 w w0 w1.1 w1.2 hE
end Go.Proofs.YtepjaoapjpmjkaaGreatDoor
