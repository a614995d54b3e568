/-
  The two blocks at the start of a function of a tree that answers a number beside a code.
-/
import Derived.Test.YtbgnmocbpigpmaaSRgtA
import Derived.Test.YtbgnmocbpigpmaaSRgtB
import Derived.Test.YtbgnmocbpigpmaaSRgtC
import Derived.Test.YtbgnmocbpigpmaaSFault
import Derived.Test.YtbgnmocbpigpmaaTreeC
namespace Go.Proofs.Ytbgnmocbpigpmaa
open Go.RowKit
set_option linter.unusedVariables false
attribute [local go_sem] bs_size bs_get bs_extract bs_append bs_eq bs_toList

set_option maxHeartbeats 3200000 in
set_option maxRecDepth 100000 in
theorem rgt0 (R : Bool) (p at_ : Nat) (b o cn : Nat) (nn : Nat) (K op : Int) (name : List UInt8) (num far : Int) (kids thn els : List Int) (a a2 a3 : Option Addr) (c c2 c3 : Nat) (w : World) (hK : inB K 1 11 = false) (hR : R = false)
    (hat : at_ < nn) (hp1 : w.cell? ⟨p, 1, none⟩ = some (.slice (some ⟨b, o, none⟩) nn cn))
    (hc : NodeCells w b (o + at_ * 8) ⟨K, op, name, num, far, kids, thn, els⟩ (.slice a kids.length c) (.slice a2 thn.length c2) (.slice a3 els.length c3)) :
    Calls Try.prog 102 #[.pointer (some ⟨p, 0, none⟩), .int .i64 at_] w fun e w' => e = .returned (.bool R) ∧ Below w.heap.size w w' := by
  obtain ⟨d0, d1, d2, d3, d4, d5, d6, d7⟩ := hc
  have HW0 : Hid (∀ w, Calls Try.prog 46 #[.int .i64 K, .int .i64 1, .int .i64 11] w fun e w' => e = .returned (.bool false) ∧ w' = w) := fun w => by have h := l1In_any K 1 11 w; rwa [hK] at h
  have HR : Hid (R = false) := hR
  have hI0 : (0 : Int) ≤ (at_ : Int) := by omega
  have hI1 : (at_ : Int) < (nn : Int) := by omega
  clear hK hR
  simp only at d0 d1 d2 d3 d4 d5 d6 d7
  go_enter Try.func102, Try.ntmps102
  go_wp2_with fail
  have hB : Below w.heap.size w (w.alloc (.cells #[.int .i64 K, .int .i64 op, .string (bs name), .int .i64 num, .int .i64 far, .slice a kids.length c, .slice a2 thn.length c2, .slice a3 els.length c3] 99)) := (Below.refl _ _).alloc (Nat.le_refl _) _
  generalize w.alloc (.cells #[.int .i64 K, .int .i64 op, .string (bs name), .int .i64 num, .int .i64 far, .slice a kids.length c, .slice a2 thn.length c2, .slice a3 els.length c3] 99) = W at *
  refine (HW0.out _).mono ?_
  rintro e w1 ⟨rfl, rfl⟩
  go_wp2_with fail
  go_ret
  exact ⟨by rw [HR.out]; rfl, hB⟩

set_option maxHeartbeats 3200000 in
theorem l4Right_any (lo p : Nat) (vv vn vb : Value) (T : LTree) (k : Nat) (w : World) (h : TreeP lo w p vv vn vb T) (hS : Sized 1048576 T) (hn : T.nodes.length ≤ 200) (hk : k < T.nodes.length) :
    Calls Try.prog 102 #[.pointer (some ⟨p, 0, none⟩), .int .i64 k] w fun e w' => e = .returned (.bool (rightB T.nodes k)) ∧ Below w.heap.size w w' := by
  obtain ⟨an, cn, rfl, _, hhn⟩ := id h.tree.nodes
  obtain ⟨b, o, rfl, _, hc2⟩ := hhn (by intro e; rw [e] at hk; simp at hk)
  obtain ⟨y, hy⟩ : ∃ y, T.nodes[k]? = some y := ⟨T.nodes[k], List.getElem?_eq_getElem hk⟩
  obtain ⟨vk, vt, ve, hcs, hvs⟩ := hc2 k y hy
  have hsz := hS.node y (List.mem_of_getElem? hy)
  have hgd : T.nodes.getD k default = y := by rw [List.getD_eq_getElem?_getD, hy]; rfl
  have hR : ∀ (v : Value) (l : List Int) (e : Bool), IntsV lo w v l → l.length ≤ 1048576 → ∀ W, Below w.heap.size w W → Calls Try.prog 103 #[.pointer (some ⟨p, 0, none⟩), .int .i64 k, v, .bool e] W fun e' w' => e' = .returned (.bool (refsB T.nodes k l e)) ∧ Below W.heap.size W w' :=
    fun v l e hv hl W hb => l4Refs_any lo p _ _ _ v T k l e lo W (h.below hb) (by omega) hn (hv.below hb) hl
  have h1 := hR vk y.kids true hvs.kids hsz.2.1
  have h2 := hR vt y.thn false hvs.thn hsz.2.2.1
  have h3 := hR ve y.els false hvs.els hsz.2.2.2
  have hO : rightB T.nodes k = (ownB y && refsB T.nodes k y.kids true && refsB T.nodes k y.thn false && refsB T.nodes k y.els false) := by rw [rightB_eq, hgd]
  obtain ⟨ak, ck, rfl, _⟩ := id hvs.kids
  obtain ⟨at2, ct, rfl, _⟩ := id hvs.thn
  obtain ⟨ae, ce, rfl, _⟩ := id hvs.els
  obtain ⟨K, op, name, num, far, kids, thn, els⟩ := y
  have hcs2 := hcs
  obtain ⟨d0, d1, d2, d3, d4, d5, d6, d7⟩ := hcs
  by_cases hK : inB K 1 11 = true
  · have hh := inB_iff.1 hK
    have : K = 1 ∨ K = 2 ∨ K = 3 ∨ K = 4 ∨ K = 5 ∨ K = 6 ∨ K = 7 ∨ K = 8 ∨ K = 9 ∨ K = 10 ∨ K = 11 := by omega
    rcases this with rfl | rfl | rfl | rfl | rfl | rfl | rfl | rfl | rfl | rfl | rfl
    · exact rgt1 _ p k b o cn T.nodes.length vv vb op name num far kids thn els ak at2 ae ck ct ce w hsz.1 hsz.2.1 hsz.2.2.1 hsz.2.2.2 _ _ _ (by rw [hO, ownK1]) hk h.c1 d0 d1 d2 d3 d4 d5 d6 d7 h1 h2 h3
    · exact rgt2 _ p k b o cn T.nodes.length vv vb op name num far kids thn els ak at2 ae ck ct ce w hsz.1 hsz.2.1 hsz.2.2.1 hsz.2.2.2 _ _ _ (by rw [hO, ownK2]) hk h.c1 d0 d1 d2 d3 d4 d5 d6 d7 h1 h2 h3
    · exact rgt3 _ p k b o cn T.nodes.length vv vb op name num far kids thn els ak at2 ae ck ct ce w hsz.1 hsz.2.1 hsz.2.2.1 hsz.2.2.2 _ _ _ (by rw [hO, ownK3]) hk h.c1 d0 d1 d2 d3 d4 d5 d6 d7 h1 h2 h3
    · exact rgt4 _ p k b o cn T.nodes.length vv vb op name num far kids thn els ak at2 ae ck ct ce w hsz.1 hsz.2.1 hsz.2.2.1 hsz.2.2.2 _ _ _ (by rw [hO, ownK4]) hk h.c1 d0 d1 d2 d3 d4 d5 d6 d7 h1 h2 h3
    · exact rgt5 _ p k b o cn T.nodes.length vv vb op name num far kids thn els ak at2 ae ck ct ce w hsz.1 hsz.2.1 hsz.2.2.1 hsz.2.2.2 _ _ _ (by rw [hO, ownK5]) hk h.c1 d0 d1 d2 d3 d4 d5 d6 d7 h1 h2 h3
    · exact rgt6 _ p k b o cn T.nodes.length vv vb op name num far kids thn els ak at2 ae ck ct ce w hsz.1 hsz.2.1 hsz.2.2.1 hsz.2.2.2 _ _ _ (by rw [hO, ownK6]) hk h.c1 d0 d1 d2 d3 d4 d5 d6 d7 h1 h2 h3
    · exact rgt7 _ p k b o cn T.nodes.length vv vb op name num far kids thn els ak at2 ae ck ct ce w hsz.1 hsz.2.1 hsz.2.2.1 hsz.2.2.2 _ _ _ (by rw [hO, ownK7]) hk h.c1 d0 d1 d2 d3 d4 d5 d6 d7 h1 h2 h3
    · exact rgt8 _ p k b o cn T.nodes.length vv vb op name num far kids thn els ak at2 ae ck ct ce w hsz.1 hsz.2.1 hsz.2.2.1 hsz.2.2.2 _ _ _ (by rw [hO, ownK8]) hk h.c1 d0 d1 d2 d3 d4 d5 d6 d7 h1 h2 h3
    · exact rgt9 _ p k b o cn T.nodes.length vv vb op name num far kids thn els ak at2 ae ck ct ce w hsz.1 hsz.2.1 hsz.2.2.1 hsz.2.2.2 _ _ _ (by rw [hO, ownK9]) hk h.c1 d0 d1 d2 d3 d4 d5 d6 d7 h1 h2 h3
    · exact rgt10 _ p k b o cn T.nodes.length vv vb op name num far kids thn els ak at2 ae ck ct ce w hsz.1 hsz.2.1 hsz.2.2.1 hsz.2.2.2 _ _ _ (by rw [hO, ownK10]) hk h.c1 d0 d1 d2 d3 d4 d5 d6 d7 h1 h2 h3
    · exact rgt11 _ p k b o cn T.nodes.length vv vb op name num far kids thn els ak at2 ae ck ct ce w hsz.1 hsz.2.1 hsz.2.2.1 hsz.2.2.2 _ _ _ (by rw [hO, ownK11]) hk h.c1 d0 d1 d2 d3 d4 d5 d6 d7 h1 h2 h3
  · have hK : inB K 1 11 = false := by simpa using hK
    exact rgt0 _ p k b o cn T.nodes.length K op name num far kids thn els ak at2 ae ck ct ce w hK (by rw [hO]; unfold ownB; simp only [hK, Bool.false_and]) hk h.c1 hcs2

end Go.Proofs.Ytbgnmocbpigpmaa
namespace Go.Proofs.Ytbgnmocbpigpmaa
open Go.RowKit
set_option linter.unusedVariables false
attribute [local go_sem] bs_size bs_get bs_extract bs_append bs_eq bs_toList

set_option maxHeartbeats 800000 in
theorem eqIntRes_any (a b : Int) (w : World) : Calls Try.prog 16 #[.agg #[.int .i64 a, .int .i64 b], .agg #[.int .i64 a, .int .i64 b]] w fun e w' => e = .returned (.bool true) ∧ Below w.heap.size w w' := by
  go_enter Try.func16, Try.ntmps16
  go_wp2
  go_ret
  exact ⟨rfl, by go_grown⟩
/-- a function of a tree and a number that answers a code and a value -/
def TreeAt (f : FuncId) (C V : LTree → Int → Int) : Prop := ∀ (lo : Nat) (vv vn vb : Value) (T : LTree) (k : Int) (w : World), TreeV lo w vv vn vb T → Sized 1048576 T →
  Calls Try.prog f #[treeV vv vn vb, .int .i64 k] w fun e w' => e = .returned (.agg #[.int .i64 (C T k), .int .i64 (V T k)]) ∧ Below w.heap.size w w'
/-- a function of a tree and a text that answers a code and a value -/
def TreeNamed (f : FuncId) (C V : LTree → List UInt8 → Int) : Prop := ∀ (lo : Nat) (vv vn vb : Value) (T : LTree) (nm : List UInt8) (w : World), TreeV lo w vv vn vb T → Sized 1048576 T → nm.length ≤ 1048576 →
  Calls Try.prog f #[treeV vv vn vb, .string (bs nm)] w fun e w' => e = .returned (.agg #[.int .i64 (C T nm), .int .i64 (V T nm)]) ∧ Below w.heap.size w w'

end Go.Proofs.Ytbgnmocbpigpmaa
namespace Go.Proofs.Ytbgnmocbpigpmaa
open Go.RowKit
set_option linter.unusedVariables false

theorem two_start (w : World) (vv vn vb : Value) (T1 T2 : TypeId) : let W := ((w.alloc (.cells #[vv, vn, vb] T1)).alloc (.cells #[.int .i64 0, .int .i64 0] T2))
    W.heap[w.heap.size]? = some (.cells #[vv, vn, vb] T1 (0, 0)) ∧ W.heap[w.heap.size + 1]? = some (.cells #[.int .i64 0, .int .i64 0] T2 (0, 0)) ∧ Below w.heap.size w W := by
  intro W
  have hA := heap_alloc_new w (.cells #[vv, vn, vb] T1)
  have hB : Below w.heap.size w (w.alloc (.cells #[vv, vn, vb] T1)) := (Below.refl _ _).alloc (Nat.le_refl _) _
  have hZ : (w.alloc (.cells #[vv, vn, vb] T1)).heap.size = w.heap.size + 1 := by simp
  have hA2 := heap_alloc_new (w.alloc (.cells #[vv, vn, vb] T1)) (.cells #[.int .i64 0, .int .i64 0] T2)
  have hB2 : Below (w.alloc (.cells #[vv, vn, vb] T1)).heap.size (w.alloc (.cells #[vv, vn, vb] T1)) W := (Below.refl _ _).alloc (Nat.le_refl _) _
  rw [hZ] at hA2
  exact ⟨blk hA hB2, hA2, hB.trans (hB2.mono (by omega))⟩
end Go.Proofs.Ytbgnmocbpigpmaa
