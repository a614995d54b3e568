/-
  The Go function laws.FnExactStartState answers true at every input and writes nothing that was there. No condition beside the laid variable errors.errorType.
-/
import Derived.Test.YtepjaoapjpmjkaaGreatDoorIStS
import Derived.Test.YtepjaoapjpmjkaaGreatDoorIStS
import Derived.Test.YtepjaoapjpmjkaaGreatDoorMkN
import Derived.Test.YtepjaoapjpmjkaaGreatDoorTF4
import Derived.Test.YtepjaoapjpmjkaaGreatDoorTreeSz
import Derived.Test.YtepjaoapjpmjkaaGreatDoorOpenTree
namespace Go.Proofs.YtepjaoapjpmjkaaGreatDoor
open Go.RowKit
set_option linter.unusedVariables false
attribute [local go_sem] bs_size bs_get bs_extract bs_append bs_eq bs_toList
structure ScA (W : World) (B p : Nat) (c : Int) (zs : List Int) (a : Option Addr) (k : Nat) : Prop where
 row : W.heap[p]? = some (.cells (scanL c 0 (.slice a zs.length k) (.slice none 0 0)) 47 (0, 0))
 o : Own W B (.slice a zs.length k) zs
 b1 : ∀ g, a = some ⟨g, 0, none⟩ → B ≤ g ∧ g < p
theorem ScA.new {w W : World} {c : Int} {zs : List Int} {a : Option Addr} {k : Nat} (h : Own W w.heap.size (.slice a zs.length k) zs) : ScA (W.alloc (.cells (scanL c 0 (.slice a zs.length k) (.slice none 0 0)) 47)) w.heap.size W.heap.size c zs a k :=
 ⟨heap_alloc_new _ _, own_kept h ((Below.refl _ _).alloc (Nat.le_refl _) _), fun g hg => own_lt h hg⟩
theorem ScA.lt {W : World} {B p : Nat} {c : Int} {zs : List Int} {a : Option Addr} {k : Nat} (h : ScA W B p c zs a k) : p < W.heap.size := blk_lt h.row
theorem ScA.below {W W' : World} {B p : Nat} {c : Int} {zs : List Int} {a : Option Addr} {k : Nat} (h : ScA W B p c zs a k) (hb : Below W.heap.size W W') : ScA W' B p c zs a k := ⟨blk h.row hb, own_kept h.o hb, h.b1⟩
theorem ScA.keep {W W' : World} {B p : Nat} {c : Int} {zs : List Int} {a : Option Addr} {k : Nat} (h : ScA W B p c zs a k) (h1 : ∀ g, B ≤ g → g ≤ p → W'.heap[g]? = W.heap[g]?) (hB : B ≤ p) : ScA W' B p c zs a k :=
 ⟨(h1 p hB (Nat.le_refl _)).trans h.row, own_other h.o (fun g hg => have k := h.b1 g (own_at h.o hg); h1 g k.1 (Nat.le_of_lt k.2)), h.b1⟩
theorem ScA.nums {W : World} {B p : Nat} {c : Int} {zs : List Int} {a : Option Addr} {k : Nat} (h : ScA W B p c zs a k) : Nums W a zs := (nums_of_own h.o).2
structure ScL (w W : World) (L LX : Array Value) (c : Int) (zs : List Int) (B p x D q : Nat) (a1 a2 : Option Addr) (k1 k2 : Nat) : Prop where
 box : W.heap[w.heap.size]? = some (.cells L 26 (0, 0))
 v : ScA W B p c zs a1 k1
 xb : W.heap[x]? = some (.cells LX 34 (0, 0))
 u : ScA W D q c zs a2 k2
 b : Below w.heap.size w W
 l : w.heap.size < p ∧ B ≤ p ∧ p < x ∧ x < D ∧ D ≤ q ∧ q < W.heap.size
theorem ScL.below {w W W' : World} {L LX : Array Value} {c : Int} {zs : List Int} {B p x D q : Nat} {a1 a2 : Option Addr} {k1 k2 : Nat} (h : ScL w W L LX c zs B p x D q a1 a2 k1 k2) (hb : Below W.heap.size W W') : ScL w W' L LX c zs B p x D q a1 a2 k1 k2 :=
 ⟨blk h.box hb, h.v.below hb, blk h.xb hb, h.u.below hb, bel_on h.b hb, by have := h.l; have := hb.size; omega⟩
theorem ScL.marked {w W W' : World} {L LX : Array Value} {c : Int} {zs : List Int} {B p x D q lo : Nat} {a1 a2 : Option Addr} {k1 k2 : Nat} (h : ScL w W L LX c zs B p x D q a1 a2 k1 k2) (hm : Mk lo x W W') (hlo : p < lo) : ScL w W' L LX c zs B p x D q a1 a2 k1 k2 := by
 have hl := h.l
 have hz := hm.bel.size
 exact ⟨(hm.bel.block _ (by omega)).trans h.box, h.v.keep (fun g h1 h2 => hm.bel.block g (by omega)) hl.2.1, (hm.out _ (Nat.le_refl _) (by omega)).trans h.xb, h.u.keep (fun g h1 h2 => hm.out g (by omega) (by omega)) hl.2.2.2.2.1, h.b.trans (hm.bel.mono (by omega)), by omega⟩
structure ScN (w W : World) (L : Array Value) (c : Int) (zs : List Int) (B p q : Nat) (a1 a2 : Option Addr) (k1 k2 : Nat) : Prop where
 box : W.heap[w.heap.size]? = some (.cells L 26 (0, 0))
 v : ScA W B p c zs a1 k1
 u : W.heap[q]? = some (.cells (scanL c 0 (.slice a2 zs.length k2) (.slice none 0 0)) 47 (0, 0))
 n : Nums W a2 (marks 1 zs.length)
 b : Below w.heap.size w W
theorem ScN.below {w W W' : World} {L : Array Value} {c : Int} {zs : List Int} {B p q : Nat} {a1 a2 : Option Addr} {k1 k2 : Nat} (h : ScN w W L c zs B p q a1 a2 k1 k2) (hb : Below W.heap.size W W') : ScN w W' L c zs B p q a1 a2 k1 k2 :=
 ⟨blk h.box hb, h.v.below hb, blk h.u hb, h.n.below hb, bel_on h.b hb⟩
theorem ScL.own {w W W' : World} {L LX : Array Value} {c : Int} {zs : List Int} {B p x D q : Nat} {a1 a2 : Option Addr} {k1 k2 : Nat} (h : ScL w W L LX c zs B p x D q a1 a2 k1 k2) (hm : MarkR D W W' 1 a2 none zs.length 0) : ScN w W' L c zs B p q a1 a2 k1 k2 := by
 obtain ⟨n1, _, hb, hz, hoth⟩ := hm
 have hl := h.l
 have HO : ∀ g, g < W.heap.size → (g < D ∨ q ≤ g) → W'.heap[g]? = W.heap[g]? := fun g hg k => hoth g hg (fun e => by have := h.u.b1 g e; omega) (fun e => by cases e)
 exact ⟨(HO _ (by omega) (by omega)).trans h.box, h.v.keep (fun g h1 h2 => HO g (by omega) (by omega)) hl.2.1, (HO _ (by omega) (by omega)).trans h.u.row, n1, h.b.trans (hb.mono (by omega))⟩
set_option maxHeartbeats 6400000 in
set_option maxRecDepth 100000 in
theorem startState_law (vv vn vb : Value) (T : LTree) (w : World) (h : IsTree w vv vn vb T) (hE : ErrT w) :
  Calls Tryz.prog 5 #[treeV vv vn vb] w fun e w' => e = .returned (.bool true) ∧ Below w.heap.size w w' := by
 obtain ⟨ht, hf⟩ := h
 obtain ⟨av, cv, rfl, _⟩ := id ht.vars
 obtain ⟨an, cn, rfl, _⟩ := id ht.nodes
 obtain ⟨ab, cb, rfl, _⟩ := id ht.body
 have HT := hid ht
 have HF := hid hf
 have HET : Hid (∀ W, Below w.heap.size w W → ErrT W) := fun W hb => hE.kept hb
 have hA := heap_alloc_new w (.cells #[.slice av T.vars.length cv, .slice an T.nodes.length cn, .slice ab T.body.length cb] 26)
 have hB := (Below.refl w.heap.size w).alloc (Nat.le_refl _) (.cells #[.slice av T.vars.length cv, .slice an T.nodes.length cn, .slice ab T.body.length cb] 26)
 clear ht hf hE
 go_enter Tryz.func5, Tryz.ntmps5
 go_wp2_with fail
 generalize w.alloc (.cells #[.slice av T.vars.length cv, .slice an T.nodes.length cn, .slice ab T.body.length cb] 26) = W at *
 refine (szTree_any 0 T _ _ _ _ (HT.out.below hB) HF.out).mono ?_
 rintro e w1 ⟨r, rfl, hr, hb1⟩
 have HA := hid (blk hA hb1)
 have HB := hid (bel_on hB hb1)
 clear hb1 hA hB
 by_cases h0 : 0 ≤ r
 ·have hz := hr h0
  have HTO : Hid (∀ W, Below w.heap.size w W → Calls Tryz.prog 9 #[.agg #[.slice av T.vars.length cv, .slice an T.nodes.length cn, .slice ab T.body.length cb]] W fun e w' => ∃ a c a2 c2 a3 c3, e = .returned (treeV (.slice a T.vars.length c) (.slice a2 T.nodes.length c2) (.slice a3 T.body.length c3)) ∧ TreeV W.heap.size w' (.slice a T.vars.length c) (.slice a2 T.nodes.length c2) (.slice a3 T.body.length c3) T ∧ Below W.heap.size W w') := fun W hW =>
   (toTree_any 0 T _ _ _ W (HT.out.below hW) hz).mono fun e w' h => by
    obtain ⟨_, _, _, rfl, h1, h2⟩ := h
    obtain ⟨_, _, rfl, _⟩ := id h1.vars
    obtain ⟨_, _, rfl, _⟩ := id h1.nodes
    obtain ⟨_, _, rfl, _⟩ := id h1.body
    exact ⟨_, _, _, _, _, _, rfl, h1, h2⟩
  have HTF : Hid (∀ W, Below w.heap.size w W → Calls Tryz.prog 9 #[.agg #[.slice av T.vars.length cv, .slice an T.nodes.length cn, .slice ab T.body.length cb]] W fun e w' => ∃ a c a2 c2 a3 c3, e = .returned (treeV (.slice a T.vars.length c) (.slice a2 T.nodes.length c2) (.slice a3 T.body.length c3)) ∧ TreeF W.heap.size w' (.slice a T.vars.length c) (.slice a2 T.nodes.length c2) (.slice a3 T.body.length c3) T ∧ Below W.heap.size W w') := fun W hW =>
   (toTreeF_any 0 T _ _ _ W (HT.out.below hW) hz).mono fun e w' h => by
    obtain ⟨_, _, _, rfl, h1, h2⟩ := h
    obtain ⟨_, _, rfl, _⟩ := id h1.vars
    obtain ⟨_, _, rfl, _⟩ := id h1.nodes
    obtain ⟨_, _, rfl, _⟩ := id h1.body
    exact ⟨_, _, _, _, _, _, rfl, h1, h2⟩
  have HSP : Hid (∀ (lo : Nat) (vv vn vb : Value) (W : World), TreeV lo W vv vn vb T → Calls Tryz.prog 16 #[treeV vv vn vb] W fun e w' => ∃ a k, e = .returned (scanV (chkT T).1.1 0 (.slice a (List.replicate (staN T) (0 : Int)).length k) (.slice none 0 0)) ∧ Own w' W.heap.size (.slice a (List.replicate (staN T) (0 : Int)).length k) (List.replicate (staN T) 0) ∧ Below W.heap.size W w') := fun lo vv vn vb W h => (specStartState lo vv vn vb T W h hz).mono fun e w' h => by
   obtain ⟨v, rfl, h1, h2⟩ := h
   obtain ⟨a, k, rfl⟩ := own_shape h1
   exact ⟨a, k, rfl, h1, h2⟩
  have HIM : Hid (∀ (lo : Nat) (vv vn vb : Value) (W : World), Below w.heap.size w W → TreeV lo W vv vn vb T → Calls Tryz.prog 17 #[treeV vv vn vb] W fun e w' => ∃ a k, e = .returned (scanV (chkT T).1.1 0 (.slice a (List.replicate (staN T) (0 : Int)).length k) (.slice none 0 0)) ∧ Own w' W.heap.size (.slice a (List.replicate (staN T) (0 : Int)).length k) (List.replicate (staN T) 0) ∧ Below W.heap.size W w') := fun lo vv vn vb W hb h => (implStartState lo vv vn vb T W h hz (HET.out W hb)).mono fun e w' h => by
   obtain ⟨v, rfl, h1, h2⟩ := h
   obtain ⟨a, k, rfl⟩ := own_shape h1
   exact ⟨a, k, rfl, h1, h2⟩
  have HEQ : Hid (∀ (l1 l2 : Nat) (u1 u2 u3 v1 v2 v3 : Value) (W : World), TreeV l1 W u1 u2 u3 T → TreeV l2 W v1 v2 v3 T → Calls Tryz.prog 12 #[treeV u1 u2 u3, treeV v1 v2 v3] W fun e w' => e = .returned (.bool true) ∧ Below W.heap.size W w') := fun l1 l2 u1 u2 u3 v1 v2 v3 W h1 h2 => eqTree_any _ _ T _ _ _ _ _ _ W h1 h2 hz
  have HMT : Hid (∀ (lo hi : Nat) (v1 v2 v3 : Value) (U W : World), TreeF lo U v1 v2 v3 T → U.heap.size = hi → Below U.heap.size U W → lo ≤ hi → Calls Tryz.prog 19 #[treeV v1 v2 v3, .int .i64 1] W fun e w' => ∃ m : Nat, e = .returned (.int .i64 (m : Int)) ∧ m ≤ 100000000000000 ∧ Mk lo hi W w') := fun lo hi v1 v2 v3 U W h1 h2 h3 h4 => markTree_room lo hi v1 v2 v3 T W U h1 hz h2 h3 h4
  have hzl : (List.replicate (staN T) (0 : Int)).length ≤ 1048576 := by
   rw [List.length_replicate]
   unfold staN
   split
   ·rename_i h; have := chk_cells h; omega
   ·omega
  generalize List.replicate (staN T) (0 : Int) = zs at *
  generalize (chkT T).1.1 = c at *
  have HES : Hid (∀ (a b : Option Addr) (ca cb : Nat) (W : World), Nums W a zs → Nums W b zs → Calls Tryz.prog 18 #[scanV c 0 (.slice a zs.length ca) (.slice none 0 0), scanV c 0 (.slice b zs.length cb) (.slice none 0 0)] W fun e w' => e = .returned (.bool true) ∧ Below W.heap.size W w') := fun a b ca cb W h1 h2 => eqScan_any c 0 zs [] a b none none ca cb 0 0 W hzl (by simp) h1 h2 (.inl rfl) (.inl rfl)
  have HMS : Hid (∀ (a : Option Addr) (k B p : Nat) (W : World), B ≤ W.heap.size → ScA W B p c zs a k → Calls Tryz.prog 20 #[scanV c 0 (.slice a zs.length k) (.slice none 0 0), .int .i64 1] W fun e w' => e = .returned (.int .i64 (1 + zs.length)) ∧ MarkR B W w' 1 a none zs.length 0) := fun a k B p W hB h => (markScan_any c 0 zs [] a none k 0 B 1 W h.o (World.ownsRow_nil _ _ _ _) (fun g _ => by simp) hB hzl (by simp) (by omega) (by omega)).mono fun e w' h => ⟨by rw [h.1]; simp, h.2⟩
  have HHD : Hid (∀ (a : Option Addr) (k : Nat) (W : World), Nums W a (marks 1 zs.length) → Calls Tryz.prog 21 #[scanV c 0 (.slice a zs.length k) (.slice none 0 0), .int .i64 1] W fun e w' => e = .returned (.int .i64 (1 + zs.length)) ∧ Below W.heap.size W w') := fun a k W h => (heldScan_any c 0 zs.length 0 a none k 0 1 W h (.inl rfl) hzl (by omega) (by omega) (by omega)).mono fun e w' h => ⟨by rw [h.1]; simp, h.2⟩
  have HNM : Hid (0 ≤ (1 : Int) + zs.length) := by unfold Hid; omega
  clear hz hr hzl HT HF HET
  obtain ⟨a0, a1, a2⟩ := cl3 HA.out
  go_wp2_with fail
  refine (HTO.out _ HB.out).mono ?_
  rintro e w2 ⟨p1, p2, p3, p4, p5, p6, rfl, ht2, hb⟩
  have HA2 := hid (blk HA.out hb)
  have HB2 := hid (bel_on HB.out hb)
  have HT2 := hid ht2
  clear ht2 hb HA HB a0 a1 a2
  go_wp2_with fail
  refine (HSP.out _ _ _ _ _ HT2.out).mono ?_
  rintro e w3 ⟨a1, k1, rfl, ho, hb⟩
  have hb3 := hb.trans ((Below.refl _ _).alloc hb.size (.cells (scanL c 0 (.slice a1 zs.length k1) (.slice none 0 0)) 47))
  have HA3 := hid (blk HA2.out hb3)
  have HB3 := hid (bel_on HB2.out hb3)
  have HV3 := hid (ScA.new (c := c) ho)
  have HP : Hid (w.heap.size < w3.heap.size ∧ w2.heap.size ≤ w3.heap.size ∧ w3.heap.size < (w3.alloc (.cells (scanL c 0 (.slice a1 zs.length k1) (.slice none 0 0)) 47)).heap.size) := ⟨blk_lt (blk HA2.out hb), hb.size, by simp⟩
  clear ho hb hb3 HA2 HB2 HT2 HSP
  go_upto_region 6 with fail
  generalize w3.alloc (.cells (scanL c 0 (.slice a1 zs.length k1) (.slice none 0 0)) 47) = W3 at *
  generalize w3.heap.size = p at *
  generalize w2.heap.size = B at *
  obtain ⟨x0, x1, x2⟩ := cl3 HA3.out
  go_wp2_with fail
  refine (HTF.out _ HB3.out).mono ?_
  rintro e w4 ⟨p1, p2, p3, p4, p5, p6, rfl, ht4, hb⟩
  have hb4 := hb.trans ((Below.refl _ _).alloc hb.size (.cells #[.slice p1 T.vars.length p2, .slice p3 T.nodes.length p4, .slice p5 T.body.length p6] 34))
  have HX4 := hid (heap_alloc_new w4 (.cells #[.slice p1 T.vars.length p2, .slice p3 T.nodes.length p4, .slice p5 T.body.length p6] 34))
  have HA4 := hid (blk HA3.out hb4)
  have HV4 := hid (HV3.out.below hb4)
  have HB4 := hid (bel_on HB3.out hb4)
  have HF4 := hid ht4
  have HK4 : Hid (Below w4.heap.size w4 (w4.alloc (.cells #[.slice p1 T.vars.length p2, .slice p3 T.nodes.length p4, .slice p5 T.body.length p6] 34))) := (Below.refl _ _).alloc (Nat.le_refl _) _
  have HQ : Hid (w.heap.size < p ∧ B ≤ p ∧ p < W3.heap.size ∧ W3.heap.size ≤ w4.heap.size ∧ w4.heap.size < (w4.alloc (.cells #[.slice p1 T.vars.length p2, .slice p3 T.nodes.length p4, .slice p5 T.body.length p6] 34)).heap.size) := ⟨HP.out.1, HP.out.2.1, HP.out.2.2, hb.size, by simp⟩
  clear ht4 hb hb4 HA3 HV3 HB3 HP HTF x0 x1 x2
  go_upto_region 7 with fail
  generalize w4.alloc (.cells #[.slice p1 T.vars.length p2, .slice p3 T.nodes.length p4, .slice p5 T.body.length p6] 34) = W4 at *
  obtain ⟨x0, x1, x2⟩ := cl3 HX4.out
  go_wp2_with fail
  refine (HIM.out _ _ _ _ _ HB4.out (HF4.out.toV.below HK4.out)).mono ?_
  rintro e w5 ⟨a2, k2, rfl, ho, hb⟩
  have hb5 := hb.trans ((Below.refl _ _).alloc hb.size (.cells (scanL c 0 (.slice a2 zs.length k2) (.slice none 0 0)) 47))
  have HL5 : Hid (ScL w (w5.alloc (.cells (scanL c 0 (.slice a2 zs.length k2) (.slice none 0 0)) 47)) #[.slice av T.vars.length cv, .slice an T.nodes.length cn, .slice ab T.body.length cb] #[.slice p1 T.vars.length p2, .slice p3 T.nodes.length p4, .slice p5 T.body.length p6] c zs B p w4.heap.size W4.heap.size w5.heap.size a1 a2 k1 k2) :=
   ⟨blk HA4.out hb5, HV4.out.below hb5, blk HX4.out hb5, ScA.new ho, bel_on HB4.out hb5, HQ.out.1, HQ.out.2.1, by have := HQ.out; omega, HQ.out.2.2.2.2, hb.size, by simp⟩
  have HK5 := hid (HK4.out.trans (hb5.mono HK4.out.size))
  clear ho hb hb5 HA4 HV4 HX4 HB4 HK4 x0 x1 x2
  go_upto_region 8 with fail
  generalize w5.alloc (.cells (scanL c 0 (.slice a2 zs.length k2) (.slice none 0 0)) 47) = W5 at *
  generalize w5.heap.size = q at *
  generalize W4.heap.size = D at *
  obtain ⟨v0, v1, v2, v3⟩ := cl4 HL5.out.v.row
  obtain ⟨u0, u1, u2, u3⟩ := cl4 HL5.out.u.row
  go_wp2_with fail
  refine (HES.out _ _ _ _ _ HL5.out.u.nums HL5.out.v.nums).mono ?_
  rintro e w6 ⟨rfl, hb⟩
  have HL6 := hid (HL5.out.below hb)
  have HK6 := hid (bel_on HK5.out hb)
  clear hb HL5 HK5 v0 v1 v2 v3 u0 u1 u2 u3
  have hS0 : Below w6.heap.size w6 w6 := Below.refl _ _
  have HC6 : Hid (∀ W, Below w6.heap.size w6 W → (W.cell? ⟨w.heap.size, 0, none⟩ = some (.slice av T.vars.length cv) ∧ W.cell? ⟨w.heap.size, 1, none⟩ = some (.slice an T.nodes.length cn) ∧ W.cell? ⟨w.heap.size, 2, none⟩ = some (.slice ab T.body.length cb)) ∧ (W.cell? ⟨w4.heap.size, 0, none⟩ = some (.slice p1 T.vars.length p2) ∧ W.cell? ⟨w4.heap.size, 1, none⟩ = some (.slice p3 T.nodes.length p4) ∧ W.cell? ⟨w4.heap.size, 2, none⟩ = some (.slice p5 T.body.length p6))) := fun W hb => ⟨cl3 (blk HL6.out.box hb), cl3 (blk HL6.out.xb hb)⟩
  obtain ⟨⟨x0, x1, x2⟩, y0, y1, y2⟩ := HC6.out _ hS0
  go_upto_region 10 with fail
  go_region_held3 (fun W => Below w6.heap.size w6 W ∧ (W.cell? ⟨w.heap.size, 0, none⟩ = some (.slice av T.vars.length cv) ∧ W.cell? ⟨w.heap.size, 1, none⟩ = some (.slice an T.nodes.length cn) ∧ W.cell? ⟨w.heap.size, 2, none⟩ = some (.slice ab T.body.length cb)) ∧ (W.cell? ⟨w4.heap.size, 0, none⟩ = some (.slice p1 T.vars.length p2) ∧ W.cell? ⟨w4.heap.size, 1, none⟩ = some (.slice p3 T.nodes.length p4) ∧ W.cell? ⟨w4.heap.size, 2, none⟩ = some (.slice p5 T.body.length p6))) (first | (with_reducible exact ⟨by assumption, HC6.out _ (by assumption)⟩) | (with_reducible exact ⟨hS0.drew, HC6.out _ hS0.drew⟩) | fail) (first | (go_at_call 9; refine (HTO.out _ (HL6.out.b.trans (Below.mono (And.left (by with_reducible assumption)) HL6.out.b.size))).mono ?_; rintro e wa ⟨q1, q2, q3, q4, q5, q6, rfl, ht7, hb⟩; have hD3 : Below w6.heap.size w6 wa := bel_on (And.left (by with_reducible assumption)) hb; have HT7 := hid ht7; clear hb ht7) | (go_at_call 12; refine (HEQ.out _ _ _ _ _ _ _ _ _ ((HF4.out.toV.below HK6.out).below hD3) HT7.out).mono ?_; rintro e wb ⟨rfl, hb⟩; have hD4 : Below w6.heap.size w6 wb := bel_on hD3 hb; clear hb) | fail)
  have HL7 := hid (HL6.out.below hD4)
  have HK7 := hid (bel_on HK6.out hD4)
  clear hD3 hD4 hS0 HC6 HL6 HK6 HT7 HEQ x0 x1 x2 y0 y1 y2
  obtain ⟨y0, y1, y2⟩ := cl3 HL7.out.xb
  go_wp2_with fail
  refine (HMT.out _ _ _ _ _ _ _ HF4.out rfl HK7.out HQ.out.2.2.2.1).mono ?_
  rintro e w8 ⟨m, rfl, hm0, hmk⟩
  have HL8 := hid (HL7.out.marked hmk HQ.out.2.2.1)
  have hmm : (0 : Int) ≤ (m : Int) := by omega
  have hmd : decide ((m : Int) < 0) = false := decide_eq_false (by omega)
  clear hm0 hmk HL7 HK7 HF4 HMT y0 y1 y2
  obtain ⟨v0, v1, v2, v3⟩ := cl4 HL8.out.v.row
  obtain ⟨u0, u1, u2, u3⟩ := cl4 HL8.out.u.row
  go_wp2_with fail
  refine (HES.out _ _ _ _ _ HL8.out.u.nums HL8.out.v.nums).mono ?_
  rintro e w9 ⟨rfl, hb⟩
  have HL9 := hid (HL8.out.below hb)
  clear hb HL8 hmm hmd v0 v1 v2 v3 u0 u1 u2 u3
  obtain ⟨u0, u1, u2, u3⟩ := cl4 HL9.out.u.row
  go_wp2_with fail
  refine (HMS.out _ _ _ _ _ (by have := HL9.out.l; omega) HL9.out.u).mono ?_
  rintro e w10 ⟨rfl, hm⟩
  have HN10 := hid (HL9.out.own hm)
  clear hm HL9 HMS u0 u1 u2 u3
  obtain ⟨u0, u1, u2, u3⟩ := cl4 HN10.out.u
  go_wp2_with fail
  refine (HHD.out _ _ _ HN10.out.n).mono ?_
  rintro e w11 ⟨rfl, hb⟩
  have HN11 := hid (HN10.out.below hb)
  clear hb HN10 u0 u1 u2 u3
  have hkd : decide ((1 : Int) + zs.length < 0) = false := decide_eq_false (by have := HNM.out; omega)
  obtain ⟨x0, x1, x2⟩ := cl3 HN11.out.box
  go_upto_region 24 with fail
  clear hkd
  go_wp2_with fail
  refine (HTO.out _ HN11.out.b).mono ?_
  rintro e w12 ⟨r1, r2, r3, r4, r5, r6, rfl, ht12, hb⟩
  have HN12 := hid (HN11.out.below hb)
  have HT12 := hid ht12
  clear hb ht12 HN11 x0 x1 x2
  go_wp2_with fail
  refine (HIM.out _ _ _ _ _ HN12.out.b HT12.out).mono ?_
  rintro e w13 ⟨a3, k3, rfl, ho, hb⟩
  have hb13 := hb.trans ((Below.refl _ _).alloc hb.size (.cells (scanL c 0 (.slice a3 zs.length k3) (.slice none 0 0)) 47))
  have HN13 := hid (HN12.out.below hb13)
  have HH13 := hid (ScA.new (c := c) ho)
  clear ho hb hb13 HN12 HT12
  go_upto_region 25 with fail
  generalize w13.alloc (.cells (scanL c 0 (.slice a3 zs.length k3) (.slice none 0 0)) 47) = W13 at *
  generalize w13.heap.size = q2 at *
  obtain ⟨v0, v1, v2, v3⟩ := cl4 HN13.out.v.row
  obtain ⟨u0, u1, u2, u3⟩ := cl4 HH13.out.row
  go_wp2_with fail
  refine (HES.out _ _ _ _ _ HH13.out.nums HN13.out.v.nums).mono ?_
  rintro e w14 ⟨rfl, hb⟩
  have HN14 := hid (HN13.out.below hb)
  clear hb HN13 HH13 v0 v1 v2 v3 u0 u1 u2 u3
  obtain ⟨u0, u1, u2, u3⟩ := cl4 HN14.out.u
  go_wp2_with fail
  refine (HHD.out _ _ _ HN14.out.n).mono ?_
  rintro e w15 ⟨rfl, hb⟩
  have HB15 := hid (HN14.out.below hb).b
  clear hb HN14 u0 u1 u2 u3
  go_wp2_with fail
  go_ret
  exact ⟨rfl, HB15.out⟩
 ·go_wp2_with fail
  go_ret
  exact ⟨rfl, HB.out⟩
end Go.Proofs.YtepjaoapjpmjkaaGreatDoor
namespace Go.Proofs.YtepjaoapjpmjkaaGreatDoor
open Go.RowKit
set_option linter.unusedVariables false
theorem fnExactStartState_walk (vv0 vn0 vb0 : Value) (T0 : LTree) (w : World) (w0 : IsTree w vv0 vn0 vb0 T0) (hE : ErrT w) :
  Calls Tryz.prog 5 #[treeV vv0 vn0 vb0] w fun e w' => e = .returned (.bool true) ∧ Below w.heap.size w w' :=
 startState_law vv0 vn0 vb0 T0 w w0 hE
end Go.Proofs.YtepjaoapjpmjkaaGreatDoor
