/-
  The Go function laws.FnExactOutsOf answers true at every input and writes nothing that was there. No condition beside the laid variable errors.errorType.
-/
import Derived.Test.YteeklmgkhacbcaaGreatDoorStr
import Derived.Test.YteeklmgkhacbcaaGreatDoorOutsI
import Derived.Test.YteeklmgkhacbcaaGreatDoorStMark
import Derived.Test.YteeklmgkhacbcaaGreatDoorMrkA
import Derived.Test.YteeklmgkhacbcaaGreatDoorTF4
import Derived.Test.YteeklmgkhacbcaaGreatDoorTreeVar
import Derived.Deep.Cut
import Derived.Test.YteeklmgkhacbcaaGreatDoorOpenTree
import Derived.Test.YteeklmgkhacbcaaGreatDoorTreeSz
namespace Go.Proofs.YteeklmgkhacbcaaGreatDoor
open Go.RowKit
set_option linter.unusedVariables false
attribute [local go_sem] bs_size bs_get bs_extract bs_append bs_eq bs_toList
theorem step_belowO {a b c : World} (h : Below a.heap.size a b) (hb : Below b.heap.size b c) : Below a.heap.size a c := h.trans (hb.mono h.size)
theorem al_drewO (w : World) (o : Obj) : ((w.alloc o).drew).heap[w.heap.size]? = some o := heap_alloc_new w o
theorem below_alO {a b : World} {o : Obj} (h : Below a.heap.size a b) : Below a.heap.size a (b.alloc o) := h.alloc h.size o
structure OuV (W : World) (lo E p : Nat) (c : Int) (zs : List Int) (a : Option Addr) (k : Nat) : Prop where
 row : W.heap[p]? = some (.cells #[.int .i64 c, .slice a zs.length k] 32 (0, 0))
 o : Own W lo (.slice a zs.length k) zs
 b1 : ∀ g, a = some ⟨g, 0, none⟩ → lo ≤ g ∧ g < E
 l : lo ≤ p ∧ p < E
theorem OuV.keep {W W' : World} {lo E p : Nat} {c : Int} {zs : List Int} {a : Option Addr} {k : Nat} (h : OuV W lo E p c zs a k) (h1 : ∀ g, lo ≤ g → g < E → W'.heap[g]? = W.heap[g]?) : OuV W' lo E p c zs a k :=
 ⟨(h1 p h.l.1 h.l.2).trans h.row, own_other h.o (fun g hg => have k := h.b1 g (own_at h.o hg); h1 g k.1 k.2), h.b1, h.l⟩
theorem OuV.nums {W : World} {lo E p : Nat} {c : Int} {zs : List Int} {a : Option Addr} {k : Nat} (h : OuV W lo E p c zs a k) : Nums W a zs := (nums_of_own h.o).2
theorem belset {a b : World} (h : Below a.heap.size a b) {p : Nat} {u v : Value} (hp : a.heap.size ≤ p) : Below a.heap.size a ((b.setCell ⟨p, 0, none⟩ u).setCell ⟨p, 1, none⟩ v) := (h.setCell hp u).setCell hp v
theorem OuV.stored {Z : World} {B p : Nat} {c : Int} {zs : List Int} {a : Option Addr} {k : Nat} (hz : Z.heap[p]? = some (.cells #[.int .i64 0, .slice none 0 0] 32 (0, 0))) (ho : Own Z B (.slice a zs.length k) zs) (hp : p < B) : OuV ((Z.setCell ⟨p, 0, none⟩ (.int .i64 c)).setCell ⟨p, 1, none⟩ (.slice a zs.length k)) p Z.heap.size p c zs a k := by
 have h1 := heap_setCell_same Z p 0 _ _ (.int .i64 c) hz
 have h2 := heap_setCell_same _ p 1 _ _ (.slice a zs.length k) h1
 exact ⟨h2, own_mono (ownsRow_setCell_below (ownsRow_setCell_below ho (a := ⟨p, 0, none⟩) hp _) (a := ⟨p, 1, none⟩) hp _) (by omega), fun g hg => by have := own_lt ho hg; omega, Nat.le_refl _, blk_lt hz⟩
theorem OuV.made {Z : World} {B : Nat} {c : Int} {zs : List Int} {a : Option Addr} {k : Nat} (ho : Own Z B (.slice a zs.length k) zs) (hB : B ≤ Z.heap.size) : OuV (Z.alloc (.cells #[.int .i64 c, .slice a zs.length k] 32)) B (Z.heap.size + 1) Z.heap.size c zs a k :=
 ⟨heap_alloc_new _ _, own_kept ho ((Below.refl _ _).alloc (Nat.le_refl _) _), fun g hg => by have := own_lt ho hg; omega, hB, by omega⟩
structure OuL (w W : World) (L : Array Value) (s : Value) (lo E p : Nat) (c : Int) (zs : List Int) (a : Option Addr) (k : Nat) : Prop where
 tb : W.heap[w.heap.size]? = some (.cells L 26 (0, 0))
 sb : W.heap[w.heap.size + 1]? = some (.cells #[s] 28 (0, 0))
 v : OuV W lo E p c zs a k
 b : Below w.heap.size w W
 l : w.heap.size + 1 < lo ∧ E ≤ W.heap.size
theorem OuL.keep {w W W' : World} {L : Array Value} {s : Value} {lo E p : Nat} {c : Int} {zs : List Int} {a : Option Addr} {k : Nat} (h : OuL w W L s lo E p c zs a k) (hb : Below E W W') : OuL w W' L s lo E p c zs a k := by
 have hv := h.v.l
 have hl := h.l
 exact ⟨(hb.block _ (by omega)).trans h.tb, (hb.block _ (by omega)).trans h.sb, h.v.keep (fun g _ h2 => hb.block g h2), h.b.trans (hb.mono (by omega)), hl.1, Nat.le_trans hl.2 hb.size⟩
theorem OuL.below {w W W' : World} {L : Array Value} {s : Value} {lo E p : Nat} {c : Int} {zs : List Int} {a : Option Addr} {k : Nat} (h : OuL w W L s lo E p c zs a k) (hb : Below W.heap.size W W') : OuL w W' L s lo E p c zs a k := h.keep (hb.mono h.l.2)
theorem two_args (w : World) (x y z d : Value) (T1 T2 : TypeId) : let W := (w.alloc (.cells #[x, y, z] T1)).alloc (.cells #[d] T2)
  W.heap[w.heap.size]? = some (.cells #[x, y, z] T1 (0, 0)) ∧ W.heap[w.heap.size + 1]? = some (.cells #[d] T2 (0, 0)) ∧ Below w.heap.size w W := by
 intro W
 have h1 := heap_alloc_new w (.cells #[x, y, z] T1)
 have b1 : Below w.heap.size w (w.alloc (.cells #[x, y, z] T1)) := (Below.refl _ _).alloc (Nat.le_refl _) _
 have s1 : (w.alloc (.cells #[x, y, z] T1)).heap.size = w.heap.size + 1 := by simp
 have h2 := heap_alloc_new (w.alloc (.cells #[x, y, z] T1)) (.cells #[d] T2)
 have b2 : Below (w.alloc (.cells #[x, y, z] T1)).heap.size (w.alloc (.cells #[x, y, z] T1)) W := (Below.refl _ _).alloc (Nat.le_refl _) _
 rw [s1] at h2
 exact ⟨blk h1 b2, h2, b1.trans (b2.mono (by omega))⟩
theorem outsL_len (T : LTree) (cs : List Int) : (outsL T cs).length ≤ 1048576 := by
 unfold outsL
 split
 ·next h =>
  obtain ⟨hG, _⟩ := sta_zero h
  have h1 := outsV_len (cs := cs) (hG.sizes 0) _ (Nat.le_refl _)
  have h2 := hG.all_len 0
  omega
 ·simp
set_option maxHeartbeats 6400000 in
set_option maxRecDepth 100000 in
theorem outsOf_law (vv vn vb : Value) (T : LTree) (a : Option Addr) (cs : List Int) (cap : Nat) (w : World) (h : IsTree w vv vn vb T) (hn : Nums w a cs) (hl : cs.length ≤ 9223372036854775807) (hE : ErrT w) :
  Calls Tryz.prog 4 #[treeV vv vn vb, .agg #[.slice a cs.length cap]] w fun e w' => e = .returned (.bool true) ∧ Below w.heap.size w w' := by
 obtain ⟨ht, hf⟩ := h
 have HET : Hid (∀ W, Below w.heap.size w W → ErrT W) := fun W hb => hE.kept hb
 have HNW : Hid (∀ W, Below w.heap.size w W → Nums W a cs) := fun W hb => hn.below hb
 have HSZ : Hid (∀ (left : Int) (W : World), 0 ≤ left → left ≤ 1048576 → Calls Tryz.prog 6 #[.agg #[.slice a cs.length cap], .int .i64 left] W fun e w' => ∃ r : Int, e = .returned (.int .i64 r) ∧ (0 ≤ r → cs.length ≤ 1048576) ∧ Below W.heap.size W w') := fun left W h0 h1 => szStateO_any a cs.length cap left h0 h1 hl W
 obtain ⟨av, cv, rfl, _⟩ := id ht.vars
 obtain ⟨an, cn, rfl, _⟩ := id ht.nodes
 obtain ⟨ab, cb, rfl, _⟩ := id ht.body
 have HT := hid ht
 have HF : Hid (Fits T) := hf
 obtain ⟨hA1, hA2, hB3⟩ := two_args w (.slice av T.vars.length cv) (.slice an T.nodes.length cn) (.slice ab T.body.length cb) (.slice a cs.length cap) 26 28
 clear ht hf hn hl hE
 go_enter Tryz.func4, Tryz.ntmps4
 go_wp2_with fail
 generalize ((w.alloc (.cells #[.slice av T.vars.length cv, .slice an T.nodes.length cn, .slice ab T.body.length cb] 26)).alloc (.cells #[.slice a cs.length cap] 28)) = W at *
 refine (szTreeLe_any 0 T _ _ _ _ (HT.out.below hB3) HF.out).mono ?_
 rintro e w1 ⟨r, rfl, hr, hb1⟩
 have HA := hid (blk hA1 hb1)
 have HA2 := hid (blk hA2 hb1)
 have HB : Hid (Below w.heap.size w w1) := hB3.trans (hb1.mono hB3.size)
 clear hb1 hA1 hA2 hB3
 by_cases h0 : 0 ≤ r
 ·obtain ⟨hz1, hr1⟩ := hr h0
  have HZ : Hid (Sized 1048576 T) := hz1
  clear hr hz1
  have s0 := cell_of_row _ _ 0 _ _ _ HA2.out
  simp at s0
  go_wp2_with fail
  refine (HSZ.out r _ h0 hr1).mono ?_
  rintro e w1b ⟨r2, rfl, hr2, hb⟩
  have HAb := hid (blk HA.out hb)
  have HA2b := hid (blk HA2.out hb)
  have HBb : Hid (Below w.heap.size w w1b) := HB.out.trans (hb.mono HB.out.size)
  clear hb HA HA2 HB s0 h0 hr1 HSZ
  by_cases h0 : 0 ≤ r2
  ·have HZ2 : Hid (cs.length ≤ 1048576) := hr2 h0
   clear hr2
   have HTO : Hid (∀ W, Below w.heap.size w W → Calls Tryz.prog 8 #[.agg #[.slice av T.vars.length cv, .slice an T.nodes.length cn, .slice ab T.body.length cb]] W fun e w' => ∃ a c a2 c2 a3 c3, e = .returned (treeV (.slice a T.vars.length c) (.slice a2 T.nodes.length c2) (.slice a3 T.body.length c3)) ∧ TreeV W.heap.size w' (.slice a T.vars.length c) (.slice a2 T.nodes.length c2) (.slice a3 T.body.length c3) T ∧ Below W.heap.size W w') := fun W hW =>
    (toTree_any 0 T _ _ _ W (HT.out.below hW) HZ.out).mono fun e w' h => by
     obtain ⟨_, _, _, rfl, h1, h2⟩ := h
     obtain ⟨_, _, rfl, _⟩ := id h1.vars
     obtain ⟨_, _, rfl, _⟩ := id h1.nodes
     obtain ⟨_, _, rfl, _⟩ := id h1.body
     exact ⟨_, _, _, _, _, _, rfl, h1, h2⟩
   have HTF : Hid (∀ W, Below w.heap.size w W → Calls Tryz.prog 8 #[.agg #[.slice av T.vars.length cv, .slice an T.nodes.length cn, .slice ab T.body.length cb]] W fun e w' => ∃ a c a2 c2 a3 c3, e = .returned (treeV (.slice a T.vars.length c) (.slice a2 T.nodes.length c2) (.slice a3 T.body.length c3)) ∧ TreeF W.heap.size w' (.slice a T.vars.length c) (.slice a2 T.nodes.length c2) (.slice a3 T.body.length c3) T ∧ Below W.heap.size W w') := fun W hW =>
    (toTreeF_any 0 T _ _ _ W (HT.out.below hW) HZ.out).mono fun e w' h => by
     obtain ⟨_, _, _, rfl, h1, h2⟩ := h
     obtain ⟨_, _, rfl, _⟩ := id h1.vars
     obtain ⟨_, _, rfl, _⟩ := id h1.nodes
     obtain ⟨_, _, rfl, _⟩ := id h1.body
     exact ⟨_, _, _, _, _, _, rfl, h1, h2⟩
   have HSO : Hid (∀ W, Below w.heap.size w W → Calls Tryz.prog 9 #[.agg #[.slice a cs.length cap]] W fun e w' => ∃ a2 c2, e = .returned (.agg #[.slice a2 cs.length c2]) ∧ cs.length ≤ c2 ∧ Own w' W.heap.size (.slice a2 cs.length c2) cs ∧ Below W.heap.size W w') := fun W hW => toStateC_any a cs cap W HZ2.out (HNW.out W hW)
   have HSP : Hid (∀ (lo : Nat) (v1 v2 v3 : Value) (b : Option Addr) (d : Nat) (W : World), Below w.heap.size w W → TreeV lo W v1 v2 v3 T → Nums W b cs → cs.length ≤ d → Calls Tryz.prog 21 #[treeV v1 v2 v3, .agg #[.slice b cs.length d]] W fun e w' => ∃ a1 k1, e = .returned (resL (staF T cs) (.slice a1 (outsL T cs).length k1)) ∧ Own w' W.heap.size (.slice a1 (outsL T cs).length k1) (outsL T cs) ∧ Below W.heap.size W w') := fun lo v1 v2 v3 b d W _ h1 h2 _ => (specOutsOf lo v1 v2 v3 T b cs d W h1 HZ.out h2 HZ2.out).mono fun e w' h => by
    obtain ⟨v, rfl, h1, h2⟩ := h
    obtain ⟨a, k, rfl⟩ := own_shape h1
    exact ⟨a, k, rfl, h1, h2⟩
   have HIM : Hid (∀ (lo : Nat) (v1 v2 v3 : Value) (b : Option Addr) (d : Nat) (W : World), Below w.heap.size w W → TreeV lo W v1 v2 v3 T → Nums W b cs → cs.length ≤ d → Calls Tryz.prog 22 #[treeV v1 v2 v3, .agg #[.slice b cs.length d]] W fun e w' => ∃ a1 k1, e = .returned (resL (staF T cs) (.slice a1 (outsL T cs).length k1)) ∧ Own w' W.heap.size (.slice a1 (outsL T cs).length k1) (outsL T cs) ∧ Below W.heap.size W w') := fun lo v1 v2 v3 b d W hb h1 h2 h3 => (implOutsOf lo v1 v2 v3 T b cs d W h1 HZ.out h2 HZ2.out h3 (HET.out W hb)).mono fun e w' h => by
    obtain ⟨v, rfl, h1, h2⟩ := h
    obtain ⟨a, k, rfl⟩ := own_shape h1
    exact ⟨a, k, rfl, h1, h2⟩
   have hzl : (outsL T cs).length ≤ 1048576 := outsL_len T cs
   have HEQ : Hid (∀ (l1 l2 : Nat) (u1 u2 u3 v1 v2 v3 : Value) (W : World), TreeV l1 W u1 u2 u3 T → TreeV l2 W v1 v2 v3 T → Calls Tryz.prog 13 #[treeV u1 u2 u3, treeV v1 v2 v3] W fun e w' => e = .returned (.bool true) ∧ Below W.heap.size W w') := fun l1 l2 u1 u2 u3 v1 v2 v3 W h1 h2 => eqTree_any _ _ T _ _ _ _ _ _ W h1 h2 HZ.out
   have HES0 : Hid (∀ (b1 b2 : Option Addr) (c1 c2 : Nat) (W : World), Nums W b1 cs → Nums W b2 cs → Calls Tryz.prog 14 #[.agg #[.slice b1 cs.length c1], .agg #[.slice b2 cs.length c2]] W fun e w' => e = .returned (.bool true) ∧ Below W.heap.size W w') := fun b1 b2 c1 c2 W h1 h2 => eqStateO_any b1 b2 cs c1 c2 W HZ2.out h1 h2
   have HMT : Hid (∀ (lo hi : Nat) (v1 v2 v3 : Value) (U W : World), TreeF lo U v1 v2 v3 T → U.heap.size = hi → Below U.heap.size U W → lo ≤ hi → Calls Tryz.prog 16 #[treeV v1 v2 v3, .int .i64 1] W fun e w' => ∃ m : Nat, e = .returned (.int .i64 (m : Int)) ∧ m ≤ 100000000000000 ∧ Mk lo hi W w') := fun lo hi v1 v2 v3 U W h1 h2 h3 h4 => markTree_room lo hi v1 v2 v3 T W U h1 HZ.out h2 h3 h4
   generalize outsL T cs = zs at *
   generalize staF T cs = c at *
   have HES : Hid (∀ (a b : Option Addr) (ca cb : Nat) (W : World), Nums W a zs → Nums W b zs → Calls Tryz.prog 12 #[resL c (.slice a zs.length ca), resL c (.slice b zs.length cb)] W fun e w' => e = .returned (.bool true) ∧ Below W.heap.size W w') := fun a b ca cb W h1 h2 => eqIR_any c a b zs ca cb W hzl h1 h2
   have HMS : Hid (∀ (a : Option Addr) (k B p : Nat) (W : World), B ≤ W.heap.size → MkA W B p c zs a k → Calls Tryz.prog 19 #[resL c (.slice a zs.length k), .int .i64 1] W fun e w' => e = .returned (.int .i64 (1 + zs.length)) ∧ MarkR1 B W w' a zs.length) := fun a k B p W hB h => (markIR_any c a zs k B 1 W hzl (by omega) (by omega) hB h.o).mono fun e w' h => ⟨h.1, marks_nums h.2.1, h.2.2.1, h.2.2.2.1, h.2.2.2.2⟩
   have HHD : Hid (∀ (a : Option Addr) (k : Nat) (W : World), Nums W a (marks 1 zs.length) → Calls Tryz.prog 20 #[resL c (.slice a zs.length k), .int .i64 1] W fun e w' => e = .returned (.int .i64 (1 + zs.length)) ∧ Below W.heap.size W w') := fun a k W h => heldIR_any c a zs.length k 1 W hzl (by omega) (by omega) h
   have HNM : Hid (0 ≤ (1 : Int) + zs.length) := by unfold Hid; omega
   have HCC : Hid (∀ W, Below w1b.heap.size w1b W → (W.cell? ⟨w.heap.size, 0, none⟩ = some (.slice av T.vars.length cv) ∧ W.cell? ⟨w.heap.size, 1, none⟩ = some (.slice an T.nodes.length cn) ∧ W.cell? ⟨w.heap.size, 2, none⟩ = some (.slice ab T.body.length cb)) ∧ W.cell? ⟨w.heap.size + 1, 0, none⟩ = some (.slice a cs.length cap)) := fun W hb => ⟨cl3 (blk HAb.out hb), cl1 (blk HA2b.out hb)⟩
   obtain ⟨⟨z0, z1, z2⟩, s0⟩ := HCC.out _ (Below.refl _ _)
   clear hzl HT HF HET HNW
   go_upto_region 8 with fail
   go_cut [6] from 24 (fun x W' => Hid (∃ (lo E p : Nat) (a1 : Option Addr) (k1 : Nat), x = .pointer (some ⟨p, 0, none⟩) ∧ OuV W' lo E p c zs a1 k1 ∧ w1b.heap.size ≤ lo ∧ E ≤ W'.heap.size ∧ Below w1b.heap.size w1b W'))
   case first =>
    rename_i J K1 hJ hK
    have hS0 : Below w1b.heap.size w1b w1b := Below.refl _ _
    go_region_held3 (fun W => Below w1b.heap.size w1b W ∧ (W.cell? ⟨w.heap.size, 0, none⟩ = some (.slice av T.vars.length cv) ∧ W.cell? ⟨w.heap.size, 1, none⟩ = some (.slice an T.nodes.length cn) ∧ W.cell? ⟨w.heap.size, 2, none⟩ = some (.slice ab T.body.length cb)) ∧ W.cell? ⟨w.heap.size + 1, 0, none⟩ = some (.slice a cs.length cap)) (first | (with_reducible exact ⟨by assumption, HCC.out _ (by assumption)⟩) | (with_reducible exact ⟨HBB.out, HCC.out _ HBB.out⟩) | (with_reducible exact ⟨hS0.drew, HCC.out _ hS0.drew⟩) | (with_reducible exact ⟨(below_alO hS0).drew, HCC.out _ (below_alO hS0).drew⟩) | (with_reducible exact ⟨below_alO hD5, HCC.out _ (below_alO hD5)⟩) | (with_reducible exact ⟨below_alO hD4, HCC.out _ (below_alO hD4)⟩) | (with_reducible exact ⟨below_alO hD3, HCC.out _ (below_alO hD3)⟩) | (with_reducible exact ⟨belset hD5 hD4.size, HCC.out _ (belset hD5 hD4.size)⟩) | (with_reducible exact ⟨belset hD5 hD3.size, HCC.out _ (belset hD5 hD3.size)⟩) | (with_reducible exact ⟨belset hD5 (Nat.le_refl _), HCC.out _ (belset hD5 (Nat.le_refl _))⟩) | (with_reducible exact ⟨belset (below_alO hD5) hD5.size, HCC.out _ (belset (below_alO hD5) hD5.size)⟩) | fail) (first | (go_at_call 8; refine (HTO.out _ (HBb.out.trans (Below.mono (And.left (by with_reducible assumption)) HBb.out.size))).mono ?_; rintro e w3 ⟨q1, q2, q3, q4, q5, q6, rfl, ht3, hb⟩; have hD3 : Below w1b.heap.size w1b w3 := step_belowO (And.left (by with_reducible assumption)) hb; have HT3 := hid ht3; (try (have HZ3 := hid (blk (al_drewO _ _) hb))); clear hb ht3) | (go_at_call 9; refine (HSO.out _ (HBb.out.trans (Below.mono (And.left (by with_reducible assumption)) HBb.out.size))).mono ?_; rintro e w4 ⟨b4, d4, rfl, hc4, ho4, hb⟩; have hD4 : Below w1b.heap.size w1b w4 := step_belowO (And.left (by with_reducible assumption)) hb; (first | (have HT4 := hid (HT3.out.below hb)) | (have HT4 := hid (HT3.out.below (back hb)))); (first | (have HZ4 := hid (blk HZ3.out hb)) | (have HZ4 := hid (blk (heap_alloc_new _ _) hb)) | skip); have HO4 := hid ho4; have HC4 := hid hc4; clear hb ho4 hc4) | (go_at_call 21; (first | (have hz := HZ4.out; refine (HSP.out _ _ _ _ _ _ _ (HBb.out.trans (hD4.mono HBb.out.size)) HT4.out (nums_of_own HO4.out).2 HC4.out).mono ?_; rintro e w5 ⟨a1, k1, rfl, ho, hb⟩; have hD5 : Below w1b.heap.size w1b w5 := step_belowO hD4 hb; have HBB := hid hD5; have HV := hid ho; have HVE := hid hb.size; obtain ⟨t0, t1⟩ := cl2 (blk hz hb); obtain ⟨f0, f1⟩ := fl2 (blk hz hb); have HZ5 := hid (blk hz hb); clear hb ho) | ((with_reducible show Calls _ _ _ (World.alloc w4 _) _); refine (HSP.out _ _ _ _ _ _ _ (HBb.out.trans ((below_alO hD4).mono HBb.out.size)) (HT4.out.below ((Below.refl _ _).alloc (Nat.le_refl _) _)) ((nums_of_own HO4.out).2.below ((Below.refl _ _).alloc (Nat.le_refl _) _)) HC4.out).mono ?_; rintro e w5 ⟨a1, k1, rfl, ho, hb⟩; have hD5 : Below w1b.heap.size w1b w5 := step_belowO (below_alO hD4) hb; have HBB := hid hD5; have HV := hid ho; have HVE := hid hb.size; obtain ⟨t0, t1⟩ := cl2 (blk (heap_alloc_new _ _) hb); obtain ⟨f0, f1⟩ := fl2 (blk (heap_alloc_new _ _) hb); have HZ5 := hid (blk (heap_alloc_new _ _) hb); clear hb ho) | (refine (HSP.out _ _ _ _ _ _ _ (HBb.out.trans (hD4.mono HBb.out.size)) HT4.out (nums_of_own HO4.out).2 HC4.out).mono ?_; rintro e w5 ⟨a1, k1, rfl, ho, hb⟩; have hD5 : Below w1b.heap.size w1b w5 := step_belowO hD4 hb; have HBB := hid hD5; have HV := hid ho; have HVE := hid hb.size; clear hb ho))) | fail)
    all_goals
     refine hK _ _ (Met.intro (hJ _ _ ?_))
     (repeat apply Exists.intro)
     refine ⟨?rel, rfl⟩
     case rel => first | exact ⟨_, _, _, _, _, rfl, OuV.stored HZ5.out HV.out (blk_lt HZ4.out), hD4.size, by simp, belset hD5 hD4.size⟩ | exact ⟨_, _, _, _, _, rfl, OuV.stored HZ5.out HV.out (blk_lt HZ4.out), hD3.size, by simp, belset hD5 hD3.size⟩ | exact ⟨_, _, _, _, _, rfl, OuV.stored HZ5.out HV.out (blk_lt HZ4.out), Nat.le_refl _, by simp, belset hD5 (Nat.le_refl _)⟩ | exact ⟨_, _, _, _, _, rfl, OuV.stored HZ5.out HV.out (by simp), hD4.size, by simp, belset hD5 hD4.size⟩ | exact ⟨_, _, _, _, _, rfl, OuV.made HV.out HVE.out, hD4.size, by simp, below_alO hD5⟩
   case rest =>
    obtain ⟨lo, E, p, a1, k1, rfl, hv2, hlo, hE2, hb2⟩ := hcut.out
    rename World => wc
    have HL2 : Hid (OuL w wc #[.slice av T.vars.length cv, .slice an T.nodes.length cn, .slice ab T.body.length cb] (.slice a cs.length cap) lo E p c zs a1 k1) := ⟨blk HAb.out hb2, blk HA2b.out hb2, hv2, bel_onM HBb.out hb2, by have := blk_lt HA2b.out; omega, hE2⟩
    clear hcut hv2 hlo hE2 hb2 HCC HAb HA2b HBb HSP z0 z1 z2 s0
    obtain ⟨x0, x1, x2⟩ := cl3 HL2.out.tb
    go_wp2_with fail
    refine (HTF.out _ HL2.out.b).mono ?_
    rintro e w4 ⟨p1, p2, p3, p4, p5, p6, rfl, ht4, hb⟩
    have hb4 := hb.trans ((Below.refl _ _).alloc hb.size (.cells #[.slice p1 T.vars.length p2, .slice p3 T.nodes.length p4, .slice p5 T.body.length p6] 37))
    have HX4 := hid (heap_alloc_new w4 (.cells #[.slice p1 T.vars.length p2, .slice p3 T.nodes.length p4, .slice p5 T.body.length p6] 37))
    have HL4 := hid (HL2.out.below hb4)
    have HF4 := hid ht4
    have HK4 : Hid (Below w4.heap.size w4 (w4.alloc (.cells #[.slice p1 T.vars.length p2, .slice p3 T.nodes.length p4, .slice p5 T.body.length p6] 37))) := (Below.refl _ _).alloc (Nat.le_refl _) _
    have HQ4 : Hid (E ≤ wc.heap.size ∧ wc.heap.size ≤ w4.heap.size ∧ w4.heap.size < (w4.alloc (.cells #[.slice p1 T.vars.length p2, .slice p3 T.nodes.length p4, .slice p5 T.body.length p6] 37)).heap.size) := ⟨HL2.out.l.2, hb.size, by simp⟩
    clear ht4 hb hb4 HL2 HTF x0 x1 x2
    go_upto_region 10 with fail
    generalize w4.alloc (.cells #[.slice p1 T.vars.length p2, .slice p3 T.nodes.length p4, .slice p5 T.body.length p6] 37) = W4 at *
    have s0 := cl1 HL4.out.sb
    go_wp2_with fail
    refine (HSO.out _ HL4.out.b).mono ?_
    rintro e w5 ⟨a12, c12, rfl, hc12, ho12, hb⟩
    have hb5 := hb.trans ((Below.refl _ _).alloc hb.size (.cells #[.slice a12 cs.length c12] 39))
    have HY5 := hid (heap_alloc_new w5 (.cells #[.slice a12 cs.length c12] 39))
    have HX5 := hid (blk HX4.out hb5)
    have HL5 := hid (HL4.out.below hb5)
    have HK5 := hid (HK4.out.trans (hb5.mono HK4.out.size))
    have HO5 : Hid (Own (w5.alloc (.cells #[.slice a12 cs.length c12] 39)) W4.heap.size (.slice a12 cs.length c12) cs) := own_kept ho12 ((Below.refl _ _).alloc (Nat.le_refl _) _)
    have HAT : Hid (∀ g, a12 = some ⟨g, 0, none⟩ → W4.heap.size ≤ g ∧ g < w5.heap.size) := fun g hg => own_lt ho12 hg
    have HC12 := hid hc12
    have HQ5 : Hid (W4.heap.size ≤ w5.heap.size ∧ w5.heap.size < (w5.alloc (.cells #[.slice a12 cs.length c12] 39)).heap.size) := ⟨hb.size, by simp⟩
    clear hc12 ho12 hb hb5 HX4 HL4 HK4 s0
    go_upto_region 11 with fail
    generalize w5.alloc (.cells #[.slice a12 cs.length c12] 39) = W5 at *
    obtain ⟨x0, x1, x2⟩ := cl3 HX5.out
    have y0 := cl1 HY5.out
    go_wp2_with fail
    refine (HIM.out _ _ _ _ _ _ _ HL5.out.b (HF4.out.toV.below HK5.out) (nums_of_own HO5.out).2 HC12.out).mono ?_
    rintro e w6 ⟨a2, k2, rfl, ho, hb⟩
    have hb6 := hb.trans ((Below.refl _ _).alloc hb.size (.cells #[.int .i64 c, (.slice a2 zs.length k2)] 32))
    have HU6 := hid (MkA.new (c := c) ho)
    have HQ6 : Hid (W5.heap.size ≤ w6.heap.size) := hb.size
    have HL6 := hid (HL5.out.below hb6)
    have HX6 := hid (blk HX5.out hb6)
    have HY6 := hid (blk HY5.out hb6)
    have HO6 := hid (own_kept HO5.out hb6)
    have HK6 := hid (HK5.out.trans (hb6.mono HK5.out.size))
    clear ho hb hb6 HL5 HX5 HY5 HO5 HK5 x0 x1 x2 y0
    go_upto_region 12 with fail
    generalize w6.alloc (.cells #[.int .i64 c, (.slice a2 zs.length k2)] 32) = W6 at *
    generalize w6.heap.size = q at *
    generalize W5.heap.size = D at *
    obtain ⟨v0, v1⟩ := cl2 HL6.out.v.row
    obtain ⟨u0, u1⟩ := cl2 HU6.out.row
    go_wp2_with fail
    refine (HES.out _ _ _ _ _ HU6.out.nums HL6.out.v.nums).mono ?_
    rintro e w7 ⟨rfl, hb⟩
    have HL7 := hid (HL6.out.below hb)
    have HU7 := hid (HU6.out.below hb)
    have HX7 := hid (blk HX6.out hb)
    have HY7 := hid (blk HY6.out hb)
    have HO7 := hid (own_kept HO6.out hb)
    have HK7 := hid (bel_onM HK6.out hb)
    clear hb HL6 HU6 HX6 HY6 HO6 HK6 v0 v1 u0 u1
    have hS0 : Below w7.heap.size w7 w7 := Below.refl _ _
    have HC6 : Hid (∀ W, Below w7.heap.size w7 W → (W.cell? ⟨w.heap.size, 0, none⟩ = some (.slice av T.vars.length cv) ∧ W.cell? ⟨w.heap.size, 1, none⟩ = some (.slice an T.nodes.length cn) ∧ W.cell? ⟨w.heap.size, 2, none⟩ = some (.slice ab T.body.length cb)) ∧ (W.cell? ⟨w4.heap.size, 0, none⟩ = some (.slice p1 T.vars.length p2) ∧ W.cell? ⟨w4.heap.size, 1, none⟩ = some (.slice p3 T.nodes.length p4) ∧ W.cell? ⟨w4.heap.size, 2, none⟩ = some (.slice p5 T.body.length p6))) := fun W hb => ⟨cl3 (blk HL7.out.tb hb), cl3 (blk HX7.out hb)⟩
    obtain ⟨⟨x0, x1, x2⟩, y0, y1, y2⟩ := HC6.out _ hS0
    go_upto_region 14 with fail
    go_region_held3 (fun W => Below w7.heap.size w7 W ∧ (W.cell? ⟨w.heap.size, 0, none⟩ = some (.slice av T.vars.length cv) ∧ W.cell? ⟨w.heap.size, 1, none⟩ = some (.slice an T.nodes.length cn) ∧ W.cell? ⟨w.heap.size, 2, none⟩ = some (.slice ab T.body.length cb)) ∧ (W.cell? ⟨w4.heap.size, 0, none⟩ = some (.slice p1 T.vars.length p2) ∧ W.cell? ⟨w4.heap.size, 1, none⟩ = some (.slice p3 T.nodes.length p4) ∧ W.cell? ⟨w4.heap.size, 2, none⟩ = some (.slice p5 T.body.length p6))) (first | (with_reducible exact ⟨by assumption, HC6.out _ (by assumption)⟩) | (with_reducible exact ⟨hS0.drew, HC6.out _ hS0.drew⟩) | fail) (first | (go_at_call 8; refine (HTO.out _ (HL7.out.b.trans (Below.mono (And.left (by with_reducible assumption)) HL7.out.b.size))).mono ?_; rintro e wa ⟨q1, q2, q3, q4, q5, q6, rfl, ht7, hb⟩; have hD3 : Below w7.heap.size w7 wa := bel_onM (And.left (by with_reducible assumption)) hb; have HT7 := hid ht7; clear hb ht7) | (go_at_call 13; refine (HEQ.out _ _ _ _ _ _ _ _ _ ((HF4.out.toV.below HK7.out).below hD3) HT7.out).mono ?_; rintro e wb ⟨rfl, hb⟩; have hD4 : Below w7.heap.size w7 wb := bel_onM hD3 hb; clear hb) | fail)
    rename World => w8
    have HL8 := hid (HL7.out.below hD4)
    have HU8 := hid (HU7.out.below hD4)
    have HX8 := hid (blk HX7.out hD4)
    have HY8 := hid (blk HY7.out hD4)
    have HO8 := hid (own_kept HO7.out hD4)
    have HK8 := hid (bel_onM HK7.out hD4)
    clear hD3 hD4 hS0 HC6 HL7 HU7 HX7 HY7 HO7 HK7 HT7 HEQ x0 x1 x2 y0 y1 y2
    have hS0 : Below w8.heap.size w8 w8 := Below.refl _ _
    have HC8 : Hid (∀ W, Below w8.heap.size w8 W → W.cell? ⟨w.heap.size + 1, 0, none⟩ = some (.slice a cs.length cap) ∧ W.cell? ⟨w5.heap.size, 0, none⟩ = some (.slice a12 cs.length c12)) := fun W hb => ⟨cl1 (blk HL8.out.sb hb), cl1 (blk HY8.out hb)⟩
    obtain ⟨s0, y0⟩ := HC8.out _ hS0
    go_upto_region 16 with fail
    go_region_held3 (fun W => Below w8.heap.size w8 W ∧ W.cell? ⟨w.heap.size + 1, 0, none⟩ = some (.slice a cs.length cap) ∧ W.cell? ⟨w5.heap.size, 0, none⟩ = some (.slice a12 cs.length c12)) (first | (with_reducible exact ⟨by assumption, HC8.out _ (by assumption)⟩) | (with_reducible exact ⟨hS0.drew, HC8.out _ hS0.drew⟩) | fail) (first | (go_at_call 9; refine (HSO.out _ (HL8.out.b.trans (Below.mono (And.left (by with_reducible assumption)) HL8.out.b.size))).mono ?_; rintro e wa ⟨b7, d7, rfl, _, ho7, hb⟩; have hD3 : Below w8.heap.size w8 wa := bel_onM (And.left (by with_reducible assumption)) hb; have HN7 := hid (nums_of_own ho7).2; clear hb ho7) | (go_at_call 14; refine (HES0.out _ _ _ _ _ (((nums_of_own HO8.out).2).below hD3) HN7.out).mono ?_; rintro e wb ⟨rfl, hb⟩; have hD4 : Below w8.heap.size w8 wb := bel_onM hD3 hb; clear hb) | fail)
    rename World => w9
    have HL9 := hid (HL8.out.below hD4)
    have HU9 := hid (HU8.out.below hD4)
    have HX9 := hid (blk HX8.out hD4)
    have HY9 := hid (blk HY8.out hD4)
    have HO9 := hid (own_kept HO8.out hD4)
    have HK9 := hid (bel_onM HK8.out hD4)
    clear hD3 hD4 hS0 HC8 HL8 HU8 HX8 HY8 HO8 HK8 HN7 HES0 s0 y0
    obtain ⟨y0, y1, y2⟩ := cl3 HX9.out
    go_wp2_with fail
    refine (HMT.out _ _ _ _ _ _ _ HF4.out rfl HK9.out HQ4.out.2.1).mono ?_
    rintro e w10 ⟨m, rfl, hm0, hmk⟩
    have HL10 := hid (HL9.out.keep (hmk.bel.mono HQ4.out.1))
    have hq9 : q < w9.heap.size := blk_lt HU9.out.row
    have hy9 : w5.heap.size < w9.heap.size := blk_lt HY9.out
    have HU10 := hid (HU9.out.keep (fun g h1 h2 => hmk.out g (by have := HQ4.out; have := HQ5.out; omega) (by omega)) HQ6.out)
    have HY10 := hid ((hmk.out _ (by have := HQ4.out; have := HQ5.out; omega) hy9).trans HY9.out)
    have HO10 := hid (own_other HO9.out (fun g hg => hmk.out g (by have := HAT.out g (own_at HO9.out hg); have := HQ4.out; omega) (by have := HAT.out g (own_at HO9.out hg); omega)))
    have HWZ : Hid (W4.heap.size ≤ w10.heap.size) := by have h1 := hmk.bel.size; have h2 := HQ5.out; unfold Hid; omega
    have hmm : (0 : Int) ≤ (m : Int) := by omega
    have hmu : (m : Int) ≤ 100000000000000 := by omega
    clear hm0 hmk HL9 HU9 HX9 HY9 HO9 HK9 HF4 HMT y0 y1 y2 hq9 hy9
    have y0 := cl1 HY10.out
    go_wp2_with fail
    refine (markStateO_any cs a12 c12 _ _ _ HO10.out HWZ.out HZ2.out hmm hmu).mono ?_
    rintro e w11 ⟨rfl, ho11, hb11, hz11, hoth⟩
    have HOT : ∀ g, g < w10.heap.size → (g < W4.heap.size ∨ w5.heap.size ≤ g) → w11.heap[g]? = w10.heap[g]? := fun g hg k => hoth g hg (fun e => by have := HAT.out g e; omega)
    have hq10 : q < w10.heap.size := blk_lt HU10.out.row
    have HL11 := hid (HL10.out.keep (hb11.mono (by have := HQ4.out; omega)))
    have HU11 := hid (HU10.out.keep (fun g h1 h2 => HOT g (by omega) (by have := HQ5.out; omega)) HQ6.out)
    clear ho11 hb11 hz11 hoth HOT hq10 HL10 HU10 HY10 HO10 HWZ y0
    have hkd : decide ((m : Int) + cs.length < 0) = false := decide_eq_false (by omega)
    obtain ⟨v0, v1⟩ := cl2 HL11.out.v.row
    obtain ⟨u0, u1⟩ := cl2 HU11.out.row
    go_wp2_with fail
    refine (HES.out _ _ _ _ _ HU11.out.nums HL11.out.v.nums).mono ?_
    rintro e w12 ⟨rfl, hb⟩
    have HL12 := hid (HL11.out.below hb)
    have HU12 := hid (HU11.out.below hb)
    clear hb HL11 HU11 hmm hmu hkd v0 v1 u0 u1
    obtain ⟨u0, u1⟩ := cl2 HU12.out.row
    go_wp2_with fail
    refine (HMS.out _ _ _ _ _ (by have := blk_lt HU12.out.row; have := HQ6.out; omega) HU12.out).mono ?_
    rintro e w13 ⟨rfl, hm⟩
    obtain ⟨n1, hbm, hzm, hoth⟩ := hm
    have HL13 := hid (HL12.out.keep (hbm.mono (by have := HQ4.out; have := HQ5.out; omega)))
    have UR13 := hid ((hoth q (blk_lt HU12.out.row) (fun e => by have := HU12.out.b1 q e; omega)).trans HU12.out.row)
    have N13 := hid n1
    clear n1 hbm hzm hoth HL12 HU12 HMS u0 u1
    obtain ⟨u0, u1⟩ := cl2 UR13.out
    go_wp2_with fail
    refine (HHD.out _ _ _ N13.out).mono ?_
    rintro e w14 ⟨rfl, hb⟩
    have HL14 := hid (HL13.out.below hb)
    have UR14 := hid (blk UR13.out hb)
    have N14 : Hid (Nums w14 a2 (marks 1 zs.length)) := N13.out.below hb
    have HB14 := hid HL14.out.b
    clear hb HL13 UR13 N13 u0 u1
    have hkd : decide ((1 : Int) + zs.length < 0) = false := decide_eq_false (by have := HNM.out; omega)
    have HCC : Hid (∀ W, Below w14.heap.size w14 W → (W.cell? ⟨w.heap.size, 0, none⟩ = some (.slice av T.vars.length cv) ∧ W.cell? ⟨w.heap.size, 1, none⟩ = some (.slice an T.nodes.length cn) ∧ W.cell? ⟨w.heap.size, 2, none⟩ = some (.slice ab T.body.length cb)) ∧ W.cell? ⟨w.heap.size + 1, 0, none⟩ = some (.slice a cs.length cap)) := fun W hb => ⟨cl3 (blk HL14.out.tb hb), cl1 (blk HL14.out.sb hb)⟩
    obtain ⟨⟨z0, z1, z2⟩, s0⟩ := HCC.out _ (Below.refl _ _)
    go_upto_region 31 with fail
    clear hkd
    go_cut [13] from 75 (fun x W' => Hid (∃ (lo E p : Nat) (a1 : Option Addr) (k1 : Nat), x = .pointer (some ⟨p, 0, none⟩) ∧ OuV W' lo E p c zs a1 k1 ∧ w14.heap.size ≤ lo ∧ E ≤ W'.heap.size ∧ Below w14.heap.size w14 W'))
    case first =>
     rename_i J K1 hJ hK
     have hS0 : Below w14.heap.size w14 w14 := Below.refl _ _
     go_region_held3 (fun W => Below w14.heap.size w14 W ∧ (W.cell? ⟨w.heap.size, 0, none⟩ = some (.slice av T.vars.length cv) ∧ W.cell? ⟨w.heap.size, 1, none⟩ = some (.slice an T.nodes.length cn) ∧ W.cell? ⟨w.heap.size, 2, none⟩ = some (.slice ab T.body.length cb)) ∧ W.cell? ⟨w.heap.size + 1, 0, none⟩ = some (.slice a cs.length cap)) (first | (with_reducible exact ⟨by assumption, HCC.out _ (by assumption)⟩) | (with_reducible exact ⟨HBB.out, HCC.out _ HBB.out⟩) | (with_reducible exact ⟨hS0.drew, HCC.out _ hS0.drew⟩) | (with_reducible exact ⟨(below_alO hS0).drew, HCC.out _ (below_alO hS0).drew⟩) | (with_reducible exact ⟨below_alO hD5, HCC.out _ (below_alO hD5)⟩) | (with_reducible exact ⟨below_alO hD4, HCC.out _ (below_alO hD4)⟩) | (with_reducible exact ⟨below_alO hD3, HCC.out _ (below_alO hD3)⟩) | (with_reducible exact ⟨belset hD5 hD4.size, HCC.out _ (belset hD5 hD4.size)⟩) | (with_reducible exact ⟨belset hD5 hD3.size, HCC.out _ (belset hD5 hD3.size)⟩) | (with_reducible exact ⟨belset hD5 (Nat.le_refl _), HCC.out _ (belset hD5 (Nat.le_refl _))⟩) | (with_reducible exact ⟨belset (below_alO hD5) hD5.size, HCC.out _ (belset (below_alO hD5) hD5.size)⟩) | fail) (first | (go_at_call 8; refine (HTO.out _ (HB14.out.trans (Below.mono (And.left (by with_reducible assumption)) HB14.out.size))).mono ?_; rintro e w3 ⟨q1, q2, q3, q4, q5, q6, rfl, ht3, hb⟩; have hD3 : Below w14.heap.size w14 w3 := step_belowO (And.left (by with_reducible assumption)) hb; have HT3 := hid ht3; (try (have HZ3 := hid (blk (al_drewO _ _) hb))); clear hb ht3) | (go_at_call 9; refine (HSO.out _ (HB14.out.trans (Below.mono (And.left (by with_reducible assumption)) HB14.out.size))).mono ?_; rintro e w4 ⟨b4, d4, rfl, hc4, ho4, hb⟩; have hD4 : Below w14.heap.size w14 w4 := step_belowO (And.left (by with_reducible assumption)) hb; (first | (have HT4 := hid (HT3.out.below hb)) | (have HT4 := hid (HT3.out.below (back hb)))); (first | (have HZ4 := hid (blk HZ3.out hb)) | (have HZ4 := hid (blk (heap_alloc_new _ _) hb)) | skip); have HO4 := hid ho4; have HC4 := hid hc4; clear hb ho4 hc4) | (go_at_call 22; (first | (have hz := HZ4.out; refine (HIM.out _ _ _ _ _ _ _ (HB14.out.trans (hD4.mono HB14.out.size)) HT4.out (nums_of_own HO4.out).2 HC4.out).mono ?_; rintro e w5 ⟨a1, k1, rfl, ho, hb⟩; have hD5 : Below w14.heap.size w14 w5 := step_belowO hD4 hb; have HBB := hid hD5; have HV := hid ho; have HVE := hid hb.size; obtain ⟨t0, t1⟩ := cl2 (blk hz hb); obtain ⟨f0, f1⟩ := fl2 (blk hz hb); have HZ5 := hid (blk hz hb); clear hb ho) | ((with_reducible show Calls _ _ _ (World.alloc w4 _) _); refine (HIM.out _ _ _ _ _ _ _ (HB14.out.trans ((below_alO hD4).mono HB14.out.size)) (HT4.out.below ((Below.refl _ _).alloc (Nat.le_refl _) _)) ((nums_of_own HO4.out).2.below ((Below.refl _ _).alloc (Nat.le_refl _) _)) HC4.out).mono ?_; rintro e w5 ⟨a1, k1, rfl, ho, hb⟩; have hD5 : Below w14.heap.size w14 w5 := step_belowO (below_alO hD4) hb; have HBB := hid hD5; have HV := hid ho; have HVE := hid hb.size; obtain ⟨t0, t1⟩ := cl2 (blk (heap_alloc_new _ _) hb); obtain ⟨f0, f1⟩ := fl2 (blk (heap_alloc_new _ _) hb); have HZ5 := hid (blk (heap_alloc_new _ _) hb); clear hb ho) | (refine (HIM.out _ _ _ _ _ _ _ (HB14.out.trans (hD4.mono HB14.out.size)) HT4.out (nums_of_own HO4.out).2 HC4.out).mono ?_; rintro e w5 ⟨a1, k1, rfl, ho, hb⟩; have hD5 : Below w14.heap.size w14 w5 := step_belowO hD4 hb; have HBB := hid hD5; have HV := hid ho; have HVE := hid hb.size; clear hb ho))) | fail)
     all_goals
      refine hK _ _ (Met.intro (hJ _ _ ?_))
      (repeat apply Exists.intro)
      refine ⟨?rel, rfl⟩
      case rel => first | exact ⟨_, _, _, _, _, rfl, OuV.stored HZ5.out HV.out (blk_lt HZ4.out), hD4.size, by simp, belset hD5 hD4.size⟩ | exact ⟨_, _, _, _, _, rfl, OuV.stored HZ5.out HV.out (blk_lt HZ4.out), hD3.size, by simp, belset hD5 hD3.size⟩ | exact ⟨_, _, _, _, _, rfl, OuV.stored HZ5.out HV.out (blk_lt HZ4.out), Nat.le_refl _, by simp, belset hD5 (Nat.le_refl _)⟩ | exact ⟨_, _, _, _, _, rfl, OuV.stored HZ5.out HV.out (by simp), hD4.size, by simp, belset hD5 hD4.size⟩ | exact ⟨_, _, _, _, _, rfl, OuV.made HV.out HVE.out, hD4.size, by simp, below_alO hD5⟩
    case rest =>
     obtain ⟨lo2, E2, pp, a3, k3, rfl, hv2, _, _, hb2⟩ := hcut.out
     rename World => wd
     have HL15 := hid (HL14.out.below hb2)
     have UR15 := hid (blk UR14.out hb2)
     have N15 : Hid (Nums wd a2 (marks 1 zs.length)) := N14.out.below hb2
     have HV15 := hid hv2
     clear hcut hv2 hb2 HCC HL14 UR14 N14 HIM z0 z1 z2 s0
     obtain ⟨v0, v1⟩ := cl2 HL15.out.v.row
     obtain ⟨u0, u1⟩ := cl2 HV15.out.row
     go_wp2_with fail
     refine (HES.out _ _ _ _ _ HV15.out.nums HL15.out.v.nums).mono ?_
     rintro e w16 ⟨rfl, hb⟩
     have UR16 := hid (blk UR15.out hb)
     have N16 : Hid (Nums w16 a2 (marks 1 zs.length)) := N15.out.below hb
     have HB16 := hid (HL15.out.below hb).b
     clear hb HL15 UR15 N15 HV15 v0 v1 u0 u1
     obtain ⟨u0, u1⟩ := cl2 UR16.out
     go_wp2_with fail
     refine (HHD.out _ _ _ N16.out).mono ?_
     rintro e w17 ⟨rfl, hb⟩
     have HB17 := hid (bel_onM HB16.out hb)
     clear hb UR16 N16 u0 u1
     go_wp2_with fail
     go_ret
     exact ⟨rfl, HB17.out⟩
  ·go_wp2_with fail
   go_ret
   exact ⟨rfl, HBb.out⟩
 ·go_wp2_with fail
  go_ret
  exact ⟨rfl, HB.out⟩
end Go.Proofs.YteeklmgkhacbcaaGreatDoor
namespace Go.Proofs.YteeklmgkhacbcaaGreatDoor
open Go.RowKit Go.ChangeShapes Go.WideShapes Go.Deep Go.Lib Go.Joins
set_option linter.unusedVariables false
def IsSt (w : World) (a : Option Addr) (zs : List Int) : Prop := Nums w a zs ∧ zs.length ≤ 9223372036854775807
theorem cellsState : Tryz.prog.cellsOf 28 = 1 := by kernel_rfl
section
variable {H : Type} {enc : TypeId × Value → H} {W : World}
theorem one_of {α : Type} {cs : Array α} (h : cs.size = 1) : ∃ c, cs = #[c] := by
 obtain ⟨l⟩ := cs
 cases l with
 | nil => simp at h
 | cons c l => cases l with
  | nil => exact ⟨c, rfl⟩
  | cons d l => simp at h
set_option maxRecDepth 100000 in
theorem open_state {base : Nat} {v : Value} {d : DataW H} {p : List MemPlace} (hv : Value.okWide Tryz.prog W .any base 28 v) (h : DataW.Trod enc Tryz.prog W 0 (fun _ => true) true 28 v d p) :
  ∃ (a : Option Addr) (zs : List Int) (c : Nat), v = .agg #[.slice a zs.length c] ∧ IsSt W a zs := by
 obtain ⟨cs, rfl, hsz⟩ := okWide_struct Tryz.underlying28 hv
 obtain ⟨c0, rfl⟩ := one_of (hsz.trans cellsState)
 obtain ⟨fuel, hf⟩ := h
 obtain ⟨y0, n, hx, _, h0⟩ := trod_struct1 Tryz.underlying28 hf
 have h1 : DataW.trod enc Tryz.prog W 0 (fun _ => true) true n 24 [c0] = some y0 := by simpa [Value.cells, cellsInts] using h0
 obtain ⟨xs, hxs, lx⟩ := open_intsV h1
 obtain ⟨a, c, rfl, _⟩ := id hxs
 exact ⟨a, xs, c, rfl, nums_of_ints hxs, lx⟩
end
end Go.Proofs.YteeklmgkhacbcaaGreatDoor
namespace Go.Proofs.YteeklmgkhacbcaaGreatDoor
open Go.RowKit
set_option linter.unusedVariables false
theorem fnExactOutsOf_walk (vv0 vn0 vb0 : Value) (T0 : LTree) (a1 : Option Addr) (z1 : List Int) (cap1 : Nat) (w : World) (w0 : IsTree w vv0 vn0 vb0 T0) (w1 : IsSt w a1 z1) (hE : ErrT w) :
  Calls Tryz.prog 4 #[treeV vv0 vn0 vb0, .agg #[.slice a1 z1.length cap1]] w fun e w' => e = .returned (.bool true) ∧ Below w.heap.size w w' :=
 outsOf_law vv0 vn0 vb0 T0 a1 z1 cap1 w w0 w1.1 w1.2 hE
end Go.Proofs.YteeklmgkhacbcaaGreatDoor
