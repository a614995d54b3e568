/-
  The two blocks at the start of a function of a tree that answers three numbers.
-/
import Derived.Test.YtepjaoapjpmjkaaGreatDoorSTypA
import Derived.Test.YtepjaoapjpmjkaaGreatDoorSTypD
import Derived.Test.YtepjaoapjpmjkaaGreatDoorSTypD
import Derived.Test.YtepjaoapjpmjkaaGreatDoorSTypF
import Derived.Test.YtepjaoapjpmjkaaGreatDoorSTypF
import Derived.Test.YtepjaoapjpmjkaaGreatDoorRowE
namespace Go.Proofs.YtepjaoapjpmjkaaGreatDoor
open Go.RowKit
set_option linter.unusedVariables false
attribute [local go_sem] bs_size bs_get bs_extract bs_append bs_eq bs_toList
set_option maxHeartbeats 6400000 in
set_option maxRecDepth 100000 in
theorem l5Type_item (lo : Nat) (W0 : World) (kp p cA : Nat) (vv vn vb : Value) (aA : Option Addr) (T : LTree) (V : List LVar) (vl : Value) (f x : Nat) (hE : ChkE lo W0 p kp vv vn vb aA T V) (hx : x < T.nodes.length) (IH : ∀ y, y < x → TypeC W0 kp p cA aA T V vl f y ∨ exprN (nodeOf T.nodes (y : Int)) = false) (hX : Kin T.nodes) (hk : (nodeOf T.nodes (x : Int)).kind = 3) :
  TypeC W0 kp p cA aA T V vl (f + 1) x := by
 intro W st hC
 obtain ⟨y, hy⟩ : ∃ y, (nodeOf T.nodes (x : Int)).kids = [y] := by
  have h := own_kids (hE.good.node x _ (node_get hx)).1 (by unfold exprN; rw [hk]; rfl)
  rw [hk] at h
  simp at h
  exact List.length_eq_one_iff.1 h
 obtain ⟨yn, rfl, hyx, hT⟩ : ∃ yn : Nat, y = (yn : Int) ∧ yn < x ∧ TypeC W0 kp p cA aA T V vl f yn := by
  have h1 := (hE.good.node x _ (node_get hx)).2.1 y (by rw [hy]; simp)
  have h2 := hX x _ (node_get hx) y (by rw [hy]; simp)
  refine ⟨y.toNat, by omega, by omega, ?_⟩
  rcases IH y.toNat (by omega) with h | h
  ·exact h
  ·rw [Int.toNat_of_nonneg h1.1, h2] at h; cases h
 have HR : Hid (typeF V T.vars.length T.nodes (f + 1) (x : Int) st = ((nameF V T.vars.length (nodeOf T.nodes (x : Int)).name true (x : Int) st).1, mustW (nodeOf T.nodes (yn : Int)) (yn : Int) 1 (typeF V T.vars.length T.nodes f (yn : Int) (nameF V T.vars.length (nodeOf T.nodes (x : Int)).name true (x : Int) st).2))) := by unfold Hid; rw [typeF]; simp only [hk, hy]; rfl
 have HMU : Hid (∀ (W' : World) (s : Met), Chk W0 W' kp p aA V.length cA vl s → Calls Tryz.prog 68 #[.pointer (some ⟨kp, 0, none⟩), .int .i64 (yn : Int), .int .i64 1] W' fun e w' => e = .returned (.tuple #[]) ∧ Chk W0 w' kp p aA V.length cA vl (mustW (nodeOf T.nodes (yn : Int)) (yn : Int) 1 (typeF V T.vars.length T.nodes f (yn : Int) s)) ∧ Sole kp W' w') := fun W' s h => l5Must_any lo W0 W' kp p cA vv vn vb aA T V vl s yn 1 f hE h (by omega) hT
 have HNM : Hid (∀ W', Chk W0 W' kp p aA V.length cA vl st → Calls Tryz.prog 67 #[.pointer (some ⟨kp, 0, none⟩), .int .i64 (x : Int), .bool true] W' fun e w' => e = .returned (.int .i64 (nameF V T.vars.length (nodeOf T.nodes (x : Int)).name true (x : Int) st).1) ∧ Chk W0 w' kp p aA V.length cA vl (nameF V T.vars.length (nodeOf T.nodes (x : Int)).name true (x : Int) st).2 ∧ Sole kp W' w') := fun W' h => l5Name_any lo W0 W' kp p cA vv vn vb aA T V vl st x true hE h hx
 obtain ⟨bn, on, cn, rfl, q1, vk, vt, ve, hnc, hkd, _, ⟨a2, l2, c2, rfl⟩, ⟨a3, l3, c3, rfl⟩⟩ := hE.node hC.bel x hx
 obtain ⟨bk, ok, ck, rfl, hbk, hkc⟩ := kids_at hkd (by rw [hy]; simp)
 have ky0 := hkc 0 (yn : Int) (by rw [hy]; rfl)
 rw [hy] at hnc
 simp only [List.length_singleton] at hnc
 have k0 := cell_of_row _ _ 0 _ _ _ hC.row
 simp at k0
 have hkl := blk_lt hC.row
 have hnl := hE.good.nodes
 have hW0 := hC.bel.size
 have HKY : Hid (∀ W', Sole kp W W' → W'.cell? ⟨bk, ok, none⟩ = some (.int .i64 (yn : Int))) := fun W' h => Chk.sole hC.bel hE.low h hbk ky0
 have ky : W.cell? ⟨bk, ok, none⟩ = some (.int .i64 (yn : Int)) := HKY.out W (Sole.refl _ _)
 have hbkW : bk < W.heap.size := by omega
 have HCA : Hid (∀ o, Chk W0 (W.alloc o) kp p aA V.length cA vl st ∧ Sole kp W (W.alloc o)) := fun o =>
  have hb : Below W.heap.size W (W.alloc o) := (Below.refl _ _).alloc (Nat.le_refl _) _
  ⟨hC.below hb, hb.sole⟩
 have hx0 : (0 : Int) ≤ (x : Int) := by omega
 have hx1 : (x : Int) < (T.nodes.length : Int) := by omega
 clear IH hT hX hE hC hkc ky0 hkd
 generalize typeF V T.vars.length T.nodes (f + 1) (x : Int) st = Z at HR ⊢
 generalize nameF V T.vars.length (nodeOf T.nodes (x : Int)).name true (x : Int) st = Y at HR HNM
 obtain ⟨g, st2⟩ := Y
 generalize nodeOf T.nodes (x : Int) = n at *
 obtain ⟨d0, d1, d2, d3, d4, d5, d6, d7⟩ := hnc
 rw [hk] at d0
 clear hk hy
 go_enter Tryz.func34, Tryz.ntmps34
 go_wp2_with fail
 generalize hW5 : W.alloc (.cells #[.int .i64 3, .int .i64 n.op, .string (bs n.name), .int .i64 n.num, .int .i64 n.far, .slice (some ⟨bk, ok, none⟩) 1 ck, .slice a2 l2 c2, .slice a3 l3 c3] 66) = W5
 have hA := heap_alloc_new W (.cells #[.int .i64 3, .int .i64 n.op, .string (bs n.name), .int .i64 n.num, .int .i64 n.far, .slice (some ⟨bk, ok, none⟩) 1 ck, .slice a2 l2 c2, .slice a3 l3 c3] 66)
 rw [hW5] at hA
 have hC5 := HCA.out (.cells #[.int .i64 3, .int .i64 n.op, .string (bs n.name), .int .i64 n.num, .int .i64 n.far, .slice (some ⟨bk, ok, none⟩) 1 ck, .slice a2 l2 c2, .slice a3 l3 c3] 66)
 rw [hW5] at hC5
 have n5 : W5.cell? ⟨W.heap.size, 5, none⟩ = some (.slice (some ⟨bk, ok, none⟩) 1 ck) := cell_of_row _ _ 5 _ _ _ hA
 clear hW5 hA
 refine (HNM.out _ hC5.1).mono ?_
 rintro e w2 ⟨rfl, hc2, hs2⟩
 have HC2 : Hid (Chk W0 w2 kp p aA V.length cA vl st2 ∧ Sole kp W w2) := ⟨hc2, hC5.2.trans hs2⟩
 have n5' : w2.cell? ⟨W.heap.size, 5, none⟩ = some (.slice (some ⟨bk, ok, none⟩) 1 ck) := hs2.cell (p := ⟨W.heap.size, 5, none⟩) (by simp; omega) n5
 have ky2 : w2.cell? ⟨bk, ok, none⟩ = some (.int .i64 (yn : Int)) := HKY.out w2 HC2.out.2
 clear hc2 hs2 hC5 n5 ky HNM d0 d1 d2 d3 d4 d5 d6 d7 q1 k0
 go_wp2_with fail
 refine (HMU.out _ _ HC2.out.1).mono ?_
 rintro e w3 ⟨rfl, hc3, hs3⟩
 have HC3 : Hid (Chk W0 w3 kp p aA V.length cA vl (mustW (nodeOf T.nodes (yn : Int)) (yn : Int) 1 (typeF V T.vars.length T.nodes f (yn : Int) st2)) ∧ Sole kp W w3) := ⟨hc3, HC2.out.2.trans hs3⟩
 clear hc3 hs3
 go_wp2_with fail
 go_ret
 exact ⟨by rw [HR.out]; rfl, by rw [HR.out]; exact HC3.out.1, HC3.out.2⟩
end Go.Proofs.YtepjaoapjpmjkaaGreatDoor
namespace Go.Proofs.YtepjaoapjpmjkaaGreatDoor
open Go.RowKit
set_option linter.unusedVariables false
theorem l5Type_all (lo : Nat) (W0 : World) (kp p cA : Nat) (vv vn vb : Value) (aA : Option Addr) (T : LTree) (V : List LVar) (vl : Value) (hE : ChkE lo W0 p kp vv vn vb aA T V) (hX : Kin T.nodes) :
  ∀ (f x : Nat), x < f → x < T.nodes.length → exprN (nodeOf T.nodes (x : Int)) = true → TypeC W0 kp p cA aA T V vl f x := by
 intro f
 induction f with
 | zero => intro x h; omega
 | succ f ih =>
  intro x hf hx he
  have IH : ∀ y, y < x → TypeC W0 kp p cA aA T V vl f y ∨ exprN (nodeOf T.nodes (y : Int)) = false := fun y hy => by
   cases hq : exprN (nodeOf T.nodes (y : Int)) with
   | true => exact .inl (ih y (by omega) (by omega) hq)
   | false => exact .inr rfl
  rcases own_kids (hE.good.node x _ (node_get hx)).1 he with (h | h) | ⟨h | h | h, _⟩ | ⟨h, _⟩
  ·exact l5Type_num lo W0 kp p cA vv vn vb aA T V vl f x hE hx h
  ·exact l5Type_name lo W0 kp p cA vv vn vb aA T V vl f x hE hx h
  ·exact l5Type_item lo W0 kp p cA vv vn vb aA T V vl f x hE hx IH hX h
  ·exact l5Type_neg lo W0 kp p cA vv vn vb aA T V vl f x hE hx IH hX h
  ·exact l5Type_not lo W0 kp p cA vv vn vb aA T V vl f x hE hx IH hX h
  ·by_cases h1 : 6 ≤ (nodeOf T.nodes (x : Int)).op ∧ (nodeOf T.nodes (x : Int)).op ≤ 8
   ·exact l5Type_opB lo W0 kp p cA vv vn vb aA T V vl f x hE hx IH hX h h1
   by_cases h2 : (nodeOf T.nodes (x : Int)).op = 10
   ·exact l5Type_opS lo W0 kp p cA vv vn vb aA T V vl f x hE hx IH hX h h2
   ·exact l5Type_opI lo W0 kp p cA vv vn vb aA T V vl f x hE hx IH hX h ⟨h2, h1⟩
abbrev typeT (V : List LVar) (T : LTree) (x : Int) (st : Met) : Int × Met := typeF V T.vars.length T.nodes T.nodes.length x st
theorem l5Type_any (lo : Nat) (W0 : World) (kp p cA : Nat) (vv vn vb : Value) (aA : Option Addr) (T : LTree) (V : List LVar) (vl : Value) (hE : ChkE lo W0 p kp vv vn vb aA T V) (hX : Kin T.nodes) (x : Nat) (hx : x < T.nodes.length) (he : exprN (nodeOf T.nodes (x : Int)) = true) : TypeC W0 kp p cA aA T V vl T.nodes.length x :=
 l5Type_all lo W0 kp p cA vv vn vb aA T V vl hE hX _ x hx hx he
theorem l5Must_all (lo : Nat) (W0 W : World) (kp p cA : Nat) (vv vn vb : Value) (aA : Option Addr) (T : LTree) (V : List LVar) (vl : Value) (st : Met) (y : Nat) (want : Int) (hE : ChkE lo W0 p kp vv vn vb aA T V) (hX : Kin T.nodes) (hC : Chk W0 W kp p aA V.length cA vl st) (hy : y < T.nodes.length) (he : exprN (nodeOf T.nodes (y : Int)) = true) :
  Calls Tryz.prog 68 #[.pointer (some ⟨kp, 0, none⟩), .int .i64 (y : Int), .int .i64 want] W fun e w' => e = .returned (.tuple #[]) ∧ Chk W0 w' kp p aA V.length cA vl (mustW (nodeOf T.nodes (y : Int)) (y : Int) want (typeT V T (y : Int) st)) ∧ Sole kp W w' :=
 l5Must_any lo W0 W kp p cA vv vn vb aA T V vl st y want _ hE hC hy (l5Type_any lo W0 kp p cA vv vn vb aA T V vl hE hX y hy he)
end Go.Proofs.YtepjaoapjpmjkaaGreatDoor
namespace Go.Proofs.YtepjaoapjpmjkaaGreatDoor
open Go.RowKit
set_option linter.unusedVariables false
theorem three_start (w : World) (vv vn vb : Value) (T1 T2 : TypeId) : let W := ((w.alloc (.cells #[vv, vn, vb] T1)).alloc (.cells #[.int .i64 0, .int .i64 0, .int .i64 0] T2))
  W.heap[w.heap.size]? = some (.cells #[vv, vn, vb] T1 (0, 0)) ∧ W.heap[w.heap.size + 1]? = some (.cells #[.int .i64 0, .int .i64 0, .int .i64 0] T2 (0, 0)) ∧ Below w.heap.size w W := by
 intro W
 have hA := heap_alloc_new w (.cells #[vv, vn, vb] T1)
 have hB : Below w.heap.size w (w.alloc (.cells #[vv, vn, vb] T1)) := (Below.refl _ _).alloc (Nat.le_refl _) _
 have hZ : (w.alloc (.cells #[vv, vn, vb] T1)).heap.size = w.heap.size + 1 := by simp
 have hA2 := heap_alloc_new (w.alloc (.cells #[vv, vn, vb] T1)) (.cells #[.int .i64 0, .int .i64 0, .int .i64 0] T2)
 have hB2 : Below (w.alloc (.cells #[vv, vn, vb] T1)).heap.size (w.alloc (.cells #[vv, vn, vb] T1)) W := (Below.refl _ _).alloc (Nat.le_refl _) _
 rw [hZ] at hA2
 exact ⟨blk hA hB2, hA2, hB.trans (hB2.mono (by omega))⟩
end Go.Proofs.YtepjaoapjpmjkaaGreatDoor
