/-
  The Go function laws.FnExactTypeOf answers true at every input and writes nothing that was there, where the variable errors.errorType holds the handle of the type error, as the program's text lays it. No other condition.
-/
import Derived.Test.YtdnhmpemkpjcaaaGreatDoorSTypA
import Derived.Test.YtdnhmpemkpjcaaaGreatDoorSTypC
import Derived.Test.YtdnhmpemkpjcaaaGreatDoorSTypD
import Derived.Test.YtdnhmpemkpjcaaaGreatDoorSTypE
import Derived.Test.YtdnhmpemkpjcaaaGreatDoorOwn
import Derived.Test.YtdnhmpemkpjcaaaGreatDoorTreeWants
import Derived.Test.YtdnhmpemkpjcaaaGreatDoorSWord
import Derived.Test.YtdnhmpemkpjcaaaGreatDoorSRgtA
import Derived.Test.YtdnhmpemkpjcaaaGreatDoorSRgtB
import Derived.Test.YtdnhmpemkpjcaaaGreatDoorSFault
import Derived.Test.YtdnhmpemkpjcaaaGreatDoorTreeC
import Derived.Test.YtdnhmpemkpjcaaaGreatDoorTyBr
import Derived.Test.YtdnhmpemkpjcaaaGreatDoorINew
import Derived.Test.YtdnhmpemkpjcaaaGreatDoorIMisfit
import Derived.Test.YtdnhmpemkpjcaaaGreatDoorIFault
namespace Go.Proofs.YtdnhmpemkpjcaaaGreatDoor
open Go.RowKit
set_option linter.unusedVariables false
attribute [local go_sem] bs_size bs_get bs_extract bs_append bs_eq bs_toList

set_option maxHeartbeats 6400000 in
set_option maxRecDepth 100000 in
theorem l5Type_item (lo : Nat) (W0 : World) (kp p cA : Nat) (vv vn vb : Value) (aA : Option Addr) (T : LTree) (V : List LVar) (vl : Value) (f x : Nat) (hE : ChkE lo W0 p kp vv vn vb aA T V) (hx : x < T.nodes.length) (IH : ∀ y, y < x → TypeC W0 kp p cA aA T V vl f y ∨ exprN (nodeOf T.nodes (y : Int)) = false) (hX : Kin T.nodes) (hk : (nodeOf T.nodes (x : Int)).kind = 3) :
    TypeC W0 kp p cA aA T V vl (f + 1) x := by
  intro W st hC
  obtain ⟨y, hy⟩ : ∃ y, (nodeOf T.nodes (x : Int)).kids = [y] := by
    have h := own_kids (hE.good.node x _ (node_get hx)).1 (by unfold exprN; rw [hk]; rfl)
    rw [hk] at h
    simp at h
    exact List.length_eq_one_iff.1 h
  obtain ⟨yn, rfl, hyx, hT⟩ : ∃ yn : Nat, y = (yn : Int) ∧ yn < x ∧ TypeC W0 kp p cA aA T V vl f yn := by
    have h1 := (hE.good.node x _ (node_get hx)).2.1 y (by rw [hy]; simp)
    have h2 := hX x _ (node_get hx) y (by rw [hy]; simp)
    refine ⟨y.toNat, by omega, by omega, ?_⟩
    rcases IH y.toNat (by omega) with h | h
    · exact h
    · rw [Int.toNat_of_nonneg h1.1, h2] at h; cases h
  have HR : Hid (typeF V T.vars.length T.nodes (f + 1) (x : Int) st = ((nameF V T.vars.length (nodeOf T.nodes (x : Int)).name true (x : Int) st).1, mustW (nodeOf T.nodes (yn : Int)) (yn : Int) 1 (typeF V T.vars.length T.nodes f (yn : Int) (nameF V T.vars.length (nodeOf T.nodes (x : Int)).name true (x : Int) st).2))) := by unfold Hid; rw [typeF]; simp only [hk, hy]; rfl
  have HMU : Hid (∀ (W' : World) (s : Met), Chk W0 W' kp p aA V.length cA vl s → Calls Tryz.prog 127 #[.pointer (some ⟨kp, 0, none⟩), .int .i64 (yn : Int), .int .i64 1] W' fun e w' => e = .returned (.tuple #[]) ∧ Chk W0 w' kp p aA V.length cA vl (mustW (nodeOf T.nodes (yn : Int)) (yn : Int) 1 (typeF V T.vars.length T.nodes f (yn : Int) s)) ∧ Sole kp W' w') := fun W' s h => l5Must_any lo W0 W' kp p cA vv vn vb aA T V vl s yn 1 f hE h (by omega) hT
  have HNM : Hid (∀ W', Chk W0 W' kp p aA V.length cA vl st → Calls Tryz.prog 126 #[.pointer (some ⟨kp, 0, none⟩), .int .i64 (x : Int), .bool true] W' fun e w' => e = .returned (.int .i64 (nameF V T.vars.length (nodeOf T.nodes (x : Int)).name true (x : Int) st).1) ∧ Chk W0 w' kp p aA V.length cA vl (nameF V T.vars.length (nodeOf T.nodes (x : Int)).name true (x : Int) st).2 ∧ Sole kp W' w') := fun W' h => l5Name_any lo W0 W' kp p cA vv vn vb aA T V vl st x true hE h hx
  obtain ⟨bn, on, cn, rfl, q1, vk, vt, ve, hnc, hkd, _, ⟨a2, l2, c2, rfl⟩, ⟨a3, l3, c3, rfl⟩⟩ := hE.node hC.bel x hx
  obtain ⟨bk, ok, ck, rfl, hbk, hkc⟩ := kids_at hkd (by rw [hy]; simp)
  have ky0 := hkc 0 (yn : Int) (by rw [hy]; rfl)
  rw [hy] at hnc
  simp only [List.length_singleton] at hnc
  have k0 := cell_of_row _ _ 0 _ _ _ hC.row
  simp at k0
  have hkl := blk_lt hC.row
  have hnl := hE.good.nodes
  have hW0 := hC.bel.size
  have HKY : Hid (∀ W', Sole kp W W' → W'.cell? ⟨bk, ok, none⟩ = some (.int .i64 (yn : Int))) := fun W' h => Chk.sole hC.bel hE.low h hbk ky0
  have ky : W.cell? ⟨bk, ok, none⟩ = some (.int .i64 (yn : Int)) := HKY.out W (Sole.refl _ _)
  have hbkW : bk < W.heap.size := by omega
  have HCA : Hid (∀ o, Chk W0 (W.alloc o) kp p aA V.length cA vl st ∧ Sole kp W (W.alloc o)) := fun o =>
    have hb : Below W.heap.size W (W.alloc o) := (Below.refl _ _).alloc (Nat.le_refl _) _
    ⟨hC.below hb, hb.sole⟩
  have hx0 : (0 : Int) ≤ (x : Int) := by omega
  have hx1 : (x : Int) < (T.nodes.length : Int) := by omega
  clear IH hT hX hE hC hkc ky0 hkd
  generalize typeF V T.vars.length T.nodes (f + 1) (x : Int) st = Z at HR ⊢
  generalize nameF V T.vars.length (nodeOf T.nodes (x : Int)).name true (x : Int) st = Y at HR HNM
  obtain ⟨g, st2⟩ := Y
  generalize nodeOf T.nodes (x : Int) = n at *
  obtain ⟨d0, d1, d2, d3, d4, d5, d6, d7⟩ := hnc
  rw [hk] at d0
  clear hk hy
  go_enter Tryz.func66, Tryz.ntmps66
  go_wp2_with fail
  generalize hW5 : W.alloc (.cells #[.int .i64 3, .int .i64 n.op, .string (bs n.name), .int .i64 n.num, .int .i64 n.far, .slice (some ⟨bk, ok, none⟩) 1 ck, .slice a2 l2 c2, .slice a3 l3 c3] 111) = W5
  have hA := heap_alloc_new W (.cells #[.int .i64 3, .int .i64 n.op, .string (bs n.name), .int .i64 n.num, .int .i64 n.far, .slice (some ⟨bk, ok, none⟩) 1 ck, .slice a2 l2 c2, .slice a3 l3 c3] 111)
  rw [hW5] at hA
  have hC5 := HCA.out (.cells #[.int .i64 3, .int .i64 n.op, .string (bs n.name), .int .i64 n.num, .int .i64 n.far, .slice (some ⟨bk, ok, none⟩) 1 ck, .slice a2 l2 c2, .slice a3 l3 c3] 111)
  rw [hW5] at hC5
  have n5 : W5.cell? ⟨W.heap.size, 5, none⟩ = some (.slice (some ⟨bk, ok, none⟩) 1 ck) := cell_of_row _ _ 5 _ _ _ hA
  clear hW5 hA
  refine (HNM.out _ hC5.1).mono ?_
  rintro e w2 ⟨rfl, hc2, hs2⟩
  have HC2 : Hid (Chk W0 w2 kp p aA V.length cA vl st2 ∧ Sole kp W w2) := ⟨hc2, hC5.2.trans hs2⟩
  have n5' : w2.cell? ⟨W.heap.size, 5, none⟩ = some (.slice (some ⟨bk, ok, none⟩) 1 ck) := hs2.cell (p := ⟨W.heap.size, 5, none⟩) (by simp; omega) n5
  have ky2 : w2.cell? ⟨bk, ok, none⟩ = some (.int .i64 (yn : Int)) := HKY.out w2 HC2.out.2
  clear hc2 hs2 hC5 n5 ky HNM d0 d1 d2 d3 d4 d5 d6 d7 q1 k0
  go_wp2_with fail
  refine (HMU.out _ _ HC2.out.1).mono ?_
  rintro e w3 ⟨rfl, hc3, hs3⟩
  have HC3 : Hid (Chk W0 w3 kp p aA V.length cA vl (mustW (nodeOf T.nodes (yn : Int)) (yn : Int) 1 (typeF V T.vars.length T.nodes f (yn : Int) st2)) ∧ Sole kp W w3) := ⟨hc3, HC2.out.2.trans hs3⟩
  clear hc3 hs3
  go_wp2_with fail
  go_ret
  exact ⟨by rw [HR.out]; rfl, by rw [HR.out]; exact HC3.out.1, HC3.out.2⟩
end Go.Proofs.YtdnhmpemkpjcaaaGreatDoor
namespace Go.Proofs.YtdnhmpemkpjcaaaGreatDoor
open Go.RowKit
set_option linter.unusedVariables false
attribute [local go_sem] bs_size bs_get bs_extract bs_append bs_eq bs_toList

set_option maxHeartbeats 6400000 in
set_option maxRecDepth 100000 in
theorem l5Type_opI (lo : Nat) (W0 : World) (kp p cA : Nat) (vv vn vb : Value) (aA : Option Addr) (T : LTree) (V : List LVar) (vl : Value) (f x : Nat) (hE : ChkE lo W0 p kp vv vn vb aA T V) (hx : x < T.nodes.length) (IH : ∀ y, y < x → TypeC W0 kp p cA aA T V vl f y ∨ exprN (nodeOf T.nodes (y : Int)) = false) (hX : Kin T.nodes) (hk : (nodeOf T.nodes (x : Int)).kind = 6) (hop : (nodeOf T.nodes (x : Int)).op ≠ 10 ∧ ¬ (6 ≤ (nodeOf T.nodes (x : Int)).op ∧ (nodeOf T.nodes (x : Int)).op ≤ 8)) :
    TypeC W0 kp p cA aA T V vl (f + 1) x := by
  intro W st hC
  obtain ⟨y1, y2, hy⟩ : ∃ y1 y2, (nodeOf T.nodes (x : Int)).kids = [y1, y2] := by
    have h := own_kids (hE.good.node x _ (node_get hx)).1 (by unfold exprN; rw [hk]; rfl)
    rw [hk] at h
    simp at h
    obtain ⟨h, _⟩ := h
    match hl : (nodeOf T.nodes (x : Int)).kids, h with
    | [a, b], _ => exact ⟨a, b, rfl⟩
  have kid : ∀ y ∈ (nodeOf T.nodes (x : Int)).kids, ∃ yn : Nat, y = (yn : Int) ∧ yn < x ∧ TypeC W0 kp p cA aA T V vl f yn := fun y hm => by
    have h1 := (hE.good.node x _ (node_get hx)).2.1 y hm
    have h2 := hX x _ (node_get hx) y hm
    refine ⟨y.toNat, by omega, by omega, ?_⟩
    rcases IH y.toNat (by omega) with h | h
    · exact h
    · rw [Int.toNat_of_nonneg h1.1, h2] at h; cases h
  obtain ⟨y1, rfl, hyx1, hT1⟩ := kid y1 (by rw [hy]; simp)
  obtain ⟨y2, rfl, hyx2, hT2⟩ := kid y2 (by rw [hy]; simp)
  have hw : wantF V T.nodes (nodeOf T.nodes (x : Int)) = 1 := by unfold wantF; rw [if_neg hop.1, if_neg hop.2]
  have HR : Hid (typeF V T.vars.length T.nodes (f + 1) (x : Int) st = (if (nodeOf T.nodes (x : Int)).op ≤ 5 then 1 else 2, mustW (nodeOf T.nodes (y2 : Int)) (y2 : Int) 1 (typeF V T.vars.length T.nodes f (y2 : Int) (mustW (nodeOf T.nodes (y1 : Int)) (y1 : Int) 1 (typeF V T.vars.length T.nodes f (y1 : Int) st))))) := by unfold Hid; rw [typeF]; simp only [hk, hy, hw]; rfl
  have HM1 : Hid (∀ (W' : World) (s : Met), Chk W0 W' kp p aA V.length cA vl s → Calls Tryz.prog 127 #[.pointer (some ⟨kp, 0, none⟩), .int .i64 (y1 : Int), .int .i64 1] W' fun e w' => e = .returned (.tuple #[]) ∧ Chk W0 w' kp p aA V.length cA vl (mustW (nodeOf T.nodes (y1 : Int)) (y1 : Int) 1 (typeF V T.vars.length T.nodes f (y1 : Int) s)) ∧ Sole kp W' w') := fun W' s h => l5Must_any lo W0 W' kp p cA vv vn vb aA T V vl s y1 1 f hE h (by omega) hT1
  have HM2 : Hid (∀ (W' : World) (s : Met), Chk W0 W' kp p aA V.length cA vl s → Calls Tryz.prog 127 #[.pointer (some ⟨kp, 0, none⟩), .int .i64 (y2 : Int), .int .i64 1] W' fun e w' => e = .returned (.tuple #[]) ∧ Chk W0 w' kp p aA V.length cA vl (mustW (nodeOf T.nodes (y2 : Int)) (y2 : Int) 1 (typeF V T.vars.length T.nodes f (y2 : Int) s)) ∧ Sole kp W' w') := fun W' s h => l5Must_any lo W0 W' kp p cA vv vn vb aA T V vl s y2 1 f hE h (by omega) hT2
  obtain ⟨bn, on, cn, rfl, q1, vk, vt, ve, hnc, hkd, _, ⟨a2, l2, c2, rfl⟩, ⟨a3, l3, c3, rfl⟩⟩ := hE.node hC.bel x hx
  obtain ⟨bk, ok, ck, rfl, hbk, hkc⟩ := kids_at hkd (by rw [hy]; simp)
  have ky1 := hkc 0 (y1 : Int) (by rw [hy]; rfl)
  have ky2 := hkc 1 (y2 : Int) (by rw [hy]; rfl)
  rw [hy] at hnc
  simp only [List.length_cons, List.length_nil, Nat.zero_add, Nat.reduceAdd] at hnc
  have k0 := cell_of_row _ _ 0 _ _ _ hC.row
  simp at k0
  have hkl := blk_lt hC.row
  have hnl := hE.good.nodes
  have hW0 := hC.bel.size
  have HK1 : Hid (∀ W', Sole kp W W' → W'.cell? ⟨bk, ok, none⟩ = some (.int .i64 (y1 : Int))) := fun W' h => Chk.sole hC.bel hE.low h hbk ky1
  have HK2 : Hid (∀ W', Sole kp W W' → W'.cell? ⟨bk, ok + 1, none⟩ = some (.int .i64 (y2 : Int))) := fun W' h => Chk.sole hC.bel hE.low h hbk ky2
  have hbkW : bk < W.heap.size := by omega
  have HCA : Hid (∀ o, Chk W0 (W.alloc o) kp p aA V.length cA vl st ∧ Sole kp W (W.alloc o)) := fun o =>
    have hb : Below W.heap.size W (W.alloc o) := (Below.refl _ _).alloc (Nat.le_refl _) _
    ⟨hC.below hb, hb.sole⟩
  have hx0 : (0 : Int) ≤ (x : Int) := by omega
  have hx1 : (x : Int) < (T.nodes.length : Int) := by omega
  clear IH hT1 hT2 kid hX hE hC hkc ky1 ky2 hkd hw hW0 hyx1 hyx2 hbk
  generalize typeF V T.vars.length T.nodes (f + 1) (x : Int) st = Z at HR ⊢
  generalize nodeOf T.nodes (x : Int) = n at *
  obtain ⟨d0, d1, d2, d3, d4, d5, d6, d7⟩ := hnc
  obtain ⟨O, hO⟩ : ∃ O, n.op = O := ⟨_, rfl⟩
  rw [hO] at d1 HR hop
  rw [hk] at d0
  clear hk hy hO
  have hq : inB O 6 8 = false := inB_no.2 hop.2
  have ho1 : (O == 10) = false := by simp; exact hop.1
  have ho2 : decide (O = 10) = false := decide_eq_false hop.1
  have HIN : Hid (∀ w, Calls Tryz.prog 64 #[.int .i64 O, .int .i64 6, .int .i64 8] w fun e w' => e = .returned (.bool false) ∧ w' = w) := fun w => by rw [← hq]; exact l1In_any _ _ _ w
  clear hq
  go_enter Tryz.func66, Tryz.ntmps66
  go_wp2_with fail
  generalize hW5 : W.alloc (.cells #[.int .i64 6, .int .i64 O, .string (bs n.name), .int .i64 n.num, .int .i64 n.far, .slice (some ⟨bk, ok, none⟩) 2 ck, .slice a2 l2 c2, .slice a3 l3 c3] 111) = W5
  have hA := heap_alloc_new W (.cells #[.int .i64 6, .int .i64 O, .string (bs n.name), .int .i64 n.num, .int .i64 n.far, .slice (some ⟨bk, ok, none⟩) 2 ck, .slice a2 l2 c2, .slice a3 l3 c3] 111)
  rw [hW5] at hA
  have hC5 := HCA.out (.cells #[.int .i64 6, .int .i64 O, .string (bs n.name), .int .i64 n.num, .int .i64 n.far, .slice (some ⟨bk, ok, none⟩) 2 ck, .slice a2 l2 c2, .slice a3 l3 c3] 111)
  rw [hW5] at hC5
  have n1 : W5.cell? ⟨W.heap.size, 1, none⟩ = some (.int .i64 O) := cell_of_row _ _ 1 _ _ _ hA
  have n5 : W5.cell? ⟨W.heap.size, 5, none⟩ = some (.slice (some ⟨bk, ok, none⟩) 2 ck) := cell_of_row _ _ 5 _ _ _ hA
  have hs5 := blk_lt hA
  have hne : W.heap.size ≠ kp := by omega
  have ky1 := HK1.out W5 hC5.2
  have ky2 := HK2.out W5 hC5.2
  have hbk5 : bk < W5.heap.size := by omega
  have HC5 : Hid (Chk W0 W5 kp p aA V.length cA vl st ∧ Sole kp W W5) := hC5
  clear hW5 hA hC5 d0 d1 d2 d3 d4 d5 d6 d7 q1 k0 HCA
  refine (HIN.out _).mono ?_
  rintro e w' ⟨rfl, rfl⟩
  clear HIN
  go_wp2_with fail
  refine (HM1.out _ _ HC5.out.1).mono ?_
  rintro e w3 ⟨rfl, hc3, hs3⟩
  have HC3 : Hid (Chk W0 w3 kp p aA V.length cA vl (mustW (nodeOf T.nodes (y1 : Int)) (y1 : Int) 1 (typeF V T.vars.length T.nodes f (y1 : Int) st)) ∧ Sole kp W w3) := ⟨hc3, HC5.out.2.trans hs3⟩
  have l1 : w3.cell? ⟨W.heap.size, 1, none⟩ = some (.int .i64 O) := hs3.cell (p := ⟨W.heap.size, 1, none⟩) hne n1
  have l5 : w3.cell? ⟨W.heap.size, 5, none⟩ = some (.slice (some ⟨bk, ok, none⟩) 2 ck) := hs3.cell (p := ⟨W.heap.size, 5, none⟩) hne n5
  have lk := HK2.out w3 HC3.out.2
  clear hc3 hs3 n1 n5 HC5 HM1 HK1 ky1 ky2
  go_wp2_with fail
  refine (HM2.out _ _ HC3.out.1).mono ?_
  rintro e w4 ⟨rfl, hc4, hs4⟩
  have HC4 : Hid (Chk W0 w4 kp p aA V.length cA vl (mustW (nodeOf T.nodes (y2 : Int)) (y2 : Int) 1 (typeF V T.vars.length T.nodes f (y2 : Int) (mustW (nodeOf T.nodes (y1 : Int)) (y1 : Int) 1 (typeF V T.vars.length T.nodes f (y1 : Int) st)))) ∧ Sole kp W w4) := ⟨hc4, HC3.out.2.trans hs4⟩
  have r1 : w4.cell? ⟨W.heap.size, 1, none⟩ = some (.int .i64 O) := hs4.cell (p := ⟨W.heap.size, 1, none⟩) hne l1
  clear hc4 hs4 l1 l5 lk HC3 HM2 HK2
  clear ho1 ho2 hop
  by_cases h5 : O ≤ 5
  · rw [if_pos h5] at HR
    have h6 : decide (O ≤ 5) = true := decide_eq_true h5
    go_wp2_with fail
    go_ret
    exact ⟨by rw [HR.out]; rfl, by rw [HR.out]; exact HC4.out.1, HC4.out.2⟩
  · rw [if_neg h5] at HR
    have h6 : decide (O ≤ 5) = false := decide_eq_false h5
    go_wp2_with fail
    go_ret
    exact ⟨by rw [HR.out]; rfl, by rw [HR.out]; exact HC4.out.1, HC4.out.2⟩
end Go.Proofs.YtdnhmpemkpjcaaaGreatDoor
namespace Go.Proofs.YtdnhmpemkpjcaaaGreatDoor
open Go.RowKit
set_option linter.unusedVariables false

theorem l5Type_all (lo : Nat) (W0 : World) (kp p cA : Nat) (vv vn vb : Value) (aA : Option Addr) (T : LTree) (V : List LVar) (vl : Value) (hE : ChkE lo W0 p kp vv vn vb aA T V) (hX : Kin T.nodes) :
    ∀ (f x : Nat), x < f → x < T.nodes.length → exprN (nodeOf T.nodes (x : Int)) = true → TypeC W0 kp p cA aA T V vl f x := by
  intro f
  induction f with
  | zero => intro x h; omega
  | succ f ih =>
    intro x hf hx he
    have IH : ∀ y, y < x → TypeC W0 kp p cA aA T V vl f y ∨ exprN (nodeOf T.nodes (y : Int)) = false := fun y hy => by
      cases hq : exprN (nodeOf T.nodes (y : Int)) with
      | true => exact .inl (ih y (by omega) (by omega) hq)
      | false => exact .inr rfl
    rcases own_kids (hE.good.node x _ (node_get hx)).1 he with (h | h) | ⟨h | h | h, _⟩ | ⟨h, _⟩
    · exact l5Type_num lo W0 kp p cA vv vn vb aA T V vl f x hE hx h
    · exact l5Type_name lo W0 kp p cA vv vn vb aA T V vl f x hE hx h
    · exact l5Type_item lo W0 kp p cA vv vn vb aA T V vl f x hE hx IH hX h
    · exact l5Type_neg lo W0 kp p cA vv vn vb aA T V vl f x hE hx IH hX h
    · exact l5Type_not lo W0 kp p cA vv vn vb aA T V vl f x hE hx IH hX h
    · by_cases h1 : 6 ≤ (nodeOf T.nodes (x : Int)).op ∧ (nodeOf T.nodes (x : Int)).op ≤ 8
      · exact l5Type_opB lo W0 kp p cA vv vn vb aA T V vl f x hE hx IH hX h h1
      by_cases h2 : (nodeOf T.nodes (x : Int)).op = 10
      · exact l5Type_opS lo W0 kp p cA vv vn vb aA T V vl f x hE hx IH hX h h2
      · exact l5Type_opI lo W0 kp p cA vv vn vb aA T V vl f x hE hx IH hX h ⟨h2, h1⟩

/-- the type of a place, with fuel for all places -/
abbrev typeT (V : List LVar) (T : LTree) (x : Int) (st : Met) : Int × Met := typeF V T.vars.length T.nodes T.nodes.length x st
theorem l5Type_any (lo : Nat) (W0 : World) (kp p cA : Nat) (vv vn vb : Value) (aA : Option Addr) (T : LTree) (V : List LVar) (vl : Value) (hE : ChkE lo W0 p kp vv vn vb aA T V) (hX : Kin T.nodes) (x : Nat) (hx : x < T.nodes.length) (he : exprN (nodeOf T.nodes (x : Int)) = true) : TypeC W0 kp p cA aA T V vl T.nodes.length x :=
  l5Type_all lo W0 kp p cA vv vn vb aA T V vl hE hX _ x hx hx he
theorem l5Must_all (lo : Nat) (W0 W : World) (kp p cA : Nat) (vv vn vb : Value) (aA : Option Addr) (T : LTree) (V : List LVar) (vl : Value) (st : Met) (y : Nat) (want : Int) (hE : ChkE lo W0 p kp vv vn vb aA T V) (hX : Kin T.nodes) (hC : Chk W0 W kp p aA V.length cA vl st) (hy : y < T.nodes.length) (he : exprN (nodeOf T.nodes (y : Int)) = true) :
    Calls Tryz.prog 127 #[.pointer (some ⟨kp, 0, none⟩), .int .i64 (y : Int), .int .i64 want] W fun e w' => e = .returned (.tuple #[]) ∧ Chk W0 w' kp p aA V.length cA vl (mustW (nodeOf T.nodes (y : Int)) (y : Int) want (typeT V T (y : Int) st)) ∧ Sole kp W w' :=
  l5Must_any lo W0 W kp p cA vv vn vb aA T V vl st y want _ hE hC hy (l5Type_any lo W0 kp p cA vv vn vb aA T V vl hE hX y hy he)
end Go.Proofs.YtdnhmpemkpjcaaaGreatDoor
namespace Go.Proofs.YtdnhmpemkpjcaaaGreatDoor
open Go.RowKit
set_option linter.unusedVariables false
attribute [local go_sem] bs_size bs_get bs_extract bs_append bs_eq bs_toList

/-- a type, and a code and a node -/
def tyoR (r : Int × Met) : Int × Met := if r.2.1 = 0 then (r.1, (0, 0)) else (0, r.2)
def tyoT (T : LTree) (k : Int) : Int × Met :=
  if faultL T ≠ 0 then (0, (faultL T, -1)) else if (inB k 0 ((T.nodes.length : Int) - 1) && exprN (nodeOf T.nodes k)) = false then (0, (3, -1)) else tyoR (typeT (allL 3 T) T k (0, 0))
theorem Sole.below {g B : Nat} {a b : World} (h : Sole g a b) (hB : B ≤ g) (hs : B ≤ a.heap.size) : Below B a b :=
  ⟨h.bel.os, h.bel.tape, h.bel.output, h.bel.size, fun k hk => h.rest k (by omega) (by omega)⟩
theorem three_start (w : World) (vv vn vb : Value) (T1 T2 : TypeId) : let W := ((w.alloc (.cells #[vv, vn, vb] T1)).alloc (.cells #[.int .i64 0, .int .i64 0, .int .i64 0] T2))
    W.heap[w.heap.size]? = some (.cells #[vv, vn, vb] T1 (0, 0)) ∧ W.heap[w.heap.size + 1]? = some (.cells #[.int .i64 0, .int .i64 0, .int .i64 0] T2 (0, 0)) ∧ Below w.heap.size w W := by
  intro W
  have hA := heap_alloc_new w (.cells #[vv, vn, vb] T1)
  have hB : Below w.heap.size w (w.alloc (.cells #[vv, vn, vb] T1)) := (Below.refl _ _).alloc (Nat.le_refl _) _
  have hZ : (w.alloc (.cells #[vv, vn, vb] T1)).heap.size = w.heap.size + 1 := by simp
  have hA2 := heap_alloc_new (w.alloc (.cells #[vv, vn, vb] T1)) (.cells #[.int .i64 0, .int .i64 0, .int .i64 0] T2)
  have hB2 : Below (w.alloc (.cells #[vv, vn, vb] T1)).heap.size (w.alloc (.cells #[vv, vn, vb] T1)) W := (Below.refl _ _).alloc (Nat.le_refl _) _
  rw [hZ] at hA2
  exact ⟨blk hA hB2, hA2, hB.trans (hB2.mono (by omega))⟩

theorem node_at {lo p cn j : Nat} {W : World} {vv vb : Value} {an : Option Addr} {T : LTree} (h : TreeP lo W p vv (.slice an T.nodes.length cn) vb T) (hj : j < T.nodes.length) :
    ∃ bn on, an = some ⟨bn, on, none⟩ ∧ ∃ vk vt ve, NodeCells W bn (on + j * 8) (nodeOf T.nodes (j : Int)) vk vt ve ∧ (∃ a l c, vk = .slice a l c) ∧ (∃ a l c, vt = .slice a l c) ∧ (∃ a l c, ve = .slice a l c) := by
  obtain ⟨an', cn', e, _, hh⟩ := id h.tree.nodes
  injection e with e1 e2 e3
  subst e1
  obtain ⟨bn, on, rfl, _, hc⟩ := hh (by intro e; rw [e] at hj; simp at hj)
  obtain ⟨vk, vt, ve, h1, h2⟩ := hc j _ (node_get hj)
  obtain ⟨a1, c1, e1, _⟩ := id h2.kids
  obtain ⟨a2, c2, e2, _⟩ := id h2.thn
  obtain ⟨a3, c3, e3, _⟩ := id h2.els
  exact ⟨bn, on, rfl, vk, vt, ve, h1, ⟨_, _, _, e1⟩, ⟨_, _, _, e2⟩, ⟨_, _, _, e3⟩⟩

set_option maxHeartbeats 6400000 in
set_option maxRecDepth 100000 in
theorem specTypeOf_of (lo : Nat) (vv vn vb : Value) (T : LTree) (k : Int) (w : World) (h : TreeV lo w vv vn vb T)
    (HFP : ∀ (p : Nat) (w' : World), TreeP lo w' p vv vn vb T → Calls Tryz.prog 55 #[.pointer (some ⟨p, 0, none⟩)] w' fun e w2 => e = .returned (.int .i64 (faultL T)) ∧ Below w'.heap.size w' w2) :
    Calls Tryz.prog 18 #[.agg #[vv, vn, vb], .int .i64 k] w fun e w' => e = .returned (.agg #[.int .i64 (tyoT T k).2.1, .int .i64 (tyoT T k).2.2, .int .i64 (tyoT T k).1]) ∧ Below w.heap.size w w' := by
  have HF : Hid (∀ (p : Nat) (w' : World), TreeP lo w' p vv vn vb T → Calls Tryz.prog 55 #[.pointer (some ⟨p, 0, none⟩)] w' fun e w2 => e = .returned (.int .i64 (faultL T)) ∧ Below w'.heap.size w' w2) := HFP
  have HD : Hid (∀ (p : Nat) (w' : World), TreeP lo w' p vv vn vb T → faultL T = 0 → Calls Tryz.prog 57 #[.pointer (some ⟨p, 0, none⟩)] w' fun e w2 => ∃ v, e = .returned v ∧ w2.ownsRow w'.heap.size 38 4 v (allL 3 T).length (varCells (allL 3 T)) ∧ Below w'.heap.size w' w2) := fun p w' hp h0 => l5All_any lo p vv vn vb T w' hp (good_of h0)
  obtain ⟨av, cv, rfl, _⟩ := id h.vars
  obtain ⟨an, cn, rfl, _⟩ := id h.nodes
  obtain ⟨ab, cb, rfl, _⟩ := id h.body
  have HTY : Hid (∀ (W0 : World) (kp p cA : Nat) (aA : Option Addr) (vl : Value) (j : Nat), TreeP lo W0 p (.slice av T.vars.length cv) (.slice an T.nodes.length cn) (.slice ab T.body.length cb) T → RowV W0 aA (allL 3 T) → W0.heap.size ≤ kp → faultL T = 0 → j < T.nodes.length → exprN (nodeOf T.nodes (j : Int)) = true → TypeC W0 kp p cA aA T (allL 3 T) vl T.nodes.length j) :=
    fun W0 kp p cA aA vl j h1 h2 h3 h4 h5 h6 => l5Type_any lo W0 kp p cA _ _ _ aA T (allL 3 T) vl ⟨h1, h2, (good_of h4).all_len 3, h3, good_of h4⟩ (kin_of h4) j h5 h6
  have HT : Hid (TreeV lo w (.slice av T.vars.length cv) (.slice an T.nodes.length cn) (.slice ab T.body.length cb) T) := h
  have HC : Hid (tyoT T k = if faultL T ≠ 0 then (0, (faultL T, -1)) else if (inB k 0 ((T.nodes.length : Int) - 1) && exprN (nodeOf T.nodes k)) = false then (0, (3, -1)) else tyoR (typeT (allL 3 T) T k (0, 0))) := rfl
  have HGD : Hid (faultL T = 0 → T.nodes.length ≤ 200) := fun h => (good_of h).nodes
  clear h HFP
  obtain ⟨q, hq⟩ : ∃ q, inB k 0 ((T.nodes.length : Int) - 1) = q := ⟨_, rfl⟩
  have hI : Hid (∀ w, Calls Tryz.prog 64 #[.int .i64 k, .int .i64 0, .int .i64 ((T.nodes.length : Int) - 1)] w fun e w' => e = .returned (.bool q) ∧ w' = w) := fun w => by have h := l1In_any k 0 ((T.nodes.length : Int) - 1) w; rwa [hq] at h
  obtain ⟨R, hR⟩ : ∃ R, R = tyoT T k := ⟨_, rfl⟩
  rw [← hR] at HC ⊢
  clear hR
  go_enter Tryz.func18, Tryz.ntmps18
  go_wp2_with fail
  obtain ⟨hA, hA2, hB⟩ := three_start w (.slice av T.vars.length cv) (.slice an T.nodes.length cn) (.slice ab T.body.length cb) 28 50
  generalize ((w.alloc (.cells #[.slice av T.vars.length cv, .slice an T.nodes.length cn, .slice ab T.body.length cb] 28)).alloc (.cells #[.int .i64 0, .int .i64 0, .int .i64 0] 50)) = W at *
  refine (HF.out _ _ ⟨cell_of_row _ _ 0 _ _ _ hA, cell_of_row _ _ 1 _ _ _ hA, cell_of_row _ _ 2 _ _ _ hA, HT.out.below hB⟩).mono ?_
  rintro e w2 ⟨rfl, hb⟩
  have HA : Hid (w2.heap[w.heap.size]? = some (.cells #[.slice av T.vars.length cv, .slice an T.nodes.length cn, .slice ab T.body.length cb] 28 (0, 0))) := blk hA hb
  have HA2 : Hid (w2.heap[w.heap.size + 1]? = some (.cells #[.int .i64 0, .int .i64 0, .int .i64 0] 50 (0, 0))) := blk hA2 hb
  have HB : Hid (Below w.heap.size w w2) := hB.trans (hb.mono hB.size)
  clear hA hA2 hB hb HF
  have p1 : w2.cell? ⟨w.heap.size, 1, none⟩ = some (.slice an T.nodes.length cn) := cell_of_row _ _ 1 _ _ _ HA.out
  have r0 := cell_of_row _ _ 0 _ _ _ HA2.out
  have r1 := cell_of_row _ _ 1 _ _ _ HA2.out
  have r2 := cell_of_row _ _ 2 _ _ _ HA2.out
  have f0 := frozen_of_row _ _ 0 _ _ HA2.out
  have f1 := frozen_of_row _ _ 1 _ _ HA2.out
  have f2 := frozen_of_row _ _ 2 _ _ HA2.out
  simp at r0 r1 r2 f0 f1 f2
  obtain ⟨F, hF⟩ : ∃ F, faultL T = F := ⟨_, rfl⟩
  rw [hF]
  by_cases hz : F = 0
  · subst hz
    have hfs : (0 : Int) = 0 := rfl
    have hnl := HGD.out hF
    cases q with
    | false =>
      have HCV : Hid (R = (0, (3, -1))) := by unfold Hid; rw [HC.out, hF, hq, if_neg (by simp), Bool.false_and, if_pos rfl]
      clear hF hq HC hfs HTY HD HGD
      go_wp2_with fail
      refine (hI.out _).mono ?_
      rintro e w3 ⟨rfl, rfl⟩
      go_wp2_with fail
      refine bodyPost_ret (v := .agg #[.int .i64 3, .int .i64 (-1), .int .i64 0]) (by simp [results, Tryz.results18, go_sem, r0, r1, r2]) rfl ⟨by rw [HCV.out], ((HB.out.setCell (by simp) _).setCell (by simp) _).setCell (by simp) _⟩
    | true =>
      have hq2 := inB_iff.1 hq
      obtain ⟨j, rfl⟩ : ∃ j : Nat, k = j := ⟨k.toNat, by omega⟩
      have hj : j < T.nodes.length := by omega
      have HTP : Hid (TreeP lo w2 w.heap.size (.slice av T.vars.length cv) (.slice an T.nodes.length cn) (.slice ab T.body.length cb) T) := ⟨cell_of_row _ _ 0 _ _ _ HA.out, cell_of_row _ _ 1 _ _ _ HA.out, cell_of_row _ _ 2 _ _ _ HA.out, HT.out.below HB.out⟩
      have HC1 : Hid (R = if exprN (nodeOf T.nodes (j : Int)) = false then (0, (3, -1)) else tyoR (typeT (allL 3 T) T (j : Int) (0, 0))) := by unfold Hid; rw [HC.out, hF, hq, if_neg (by simp), Bool.true_and]
      have HDC : Hid (∀ W', Below w2.heap.size w2 W' → Calls Tryz.prog 57 #[.pointer (some ⟨w.heap.size, 0, none⟩)] W' fun e w3 => ∃ v, e = .returned v ∧ w3.ownsRow W'.heap.size 38 4 v (allL 3 T).length (varCells (allL 3 T)) ∧ Below W'.heap.size W' w3) := fun W' hW => HD.out _ _ (HTP.out.below hW) hF
      have HFZ : Hid (faultL T = 0) := hF
      obtain ⟨bn, on, rfl, vk, vt, ve, ⟨d0, d1, d2, d3, d4, d5, d6, d7⟩, ⟨a, l, c, rfl⟩, ⟨a2, l2, c2, rfl⟩, ⟨a3, l3, c3, rfl⟩⟩ := node_at HTP.out hj
      obtain ⟨n, hn⟩ : ∃ n, n = nodeOf T.nodes (j : Int) := ⟨_, rfl⟩
      rw [← hn] at d0 d1 d2 d3 d4 HC1
      have HNN : Hid (n = nodeOf T.nodes (j : Int)) := hn
      have HEX : Hid (∀ w', Calls Tryz.prog 65 #[nodeV n (.slice a l c) (.slice a2 l2 c2) (.slice a3 l3 c3)] w' fun e w2 => e = .returned (.bool (exprN n)) ∧ Below w'.heap.size w' w2) := fun w' => l4Expr_any n _ _ _ w' ⟨_, _, _, rfl⟩ ⟨_, _, _, rfl⟩ ⟨_, _, _, rfl⟩
      obtain ⟨q3, hq3⟩ : ∃ q3, exprN n = q3 := ⟨_, rfl⟩
      have HQ3 : Hid (exprN (nodeOf T.nodes (j : Int)) = q3) := by unfold Hid; rw [← hn]; exact hq3
      rw [hq3] at HEX HC1
      have hj0 : (0 : Int) ≤ (j : Int) := by omega
      have hj1 : (j : Int) < (T.nodes.length : Int) := by omega
      clear hF hq hq2 HC HD HGD hfs hn hq3
      cases q3 with
      | false =>
        have HCV : Hid (R = (0, (3, -1))) := by unfold Hid; rw [HC1.out, if_pos rfl]
        clear HC1 HDC HTY HTP
        go_wp2_with fail
        refine (hI.out _).mono ?_
        rintro e w3 ⟨rfl, rfl⟩
        go_wp2_with fail
        refine (HEX.out _).mono ?_
        rintro e w4 ⟨rfl, hb⟩
        have hA4 := blk HA2.out hb
        have HB4 : Hid (Below w.heap.size w w4) := HB.out.trans (hb.mono HB.out.size)
        clear hb r0 r1 r2 f0 f1 f2 p1
        have r0 := cell_of_row _ _ 0 _ _ _ hA4
        have r1 := cell_of_row _ _ 1 _ _ _ hA4
        have r2 := cell_of_row _ _ 2 _ _ _ hA4
        have f0 := frozen_of_row _ _ 0 _ _ hA4
        have f1 := frozen_of_row _ _ 1 _ _ hA4
        have f2 := frozen_of_row _ _ 2 _ _ hA4
        simp at r0 r1 r2 f0 f1 f2
        go_wp2_with fail
        refine bodyPost_ret (v := .agg #[.int .i64 3, .int .i64 (-1), .int .i64 0]) (by simp [results, Tryz.results18, go_sem, r0, r1, r2]) rfl ⟨by rw [HCV.out], ((HB4.out.setCell (by simp) _).setCell (by simp) _).setCell (by simp) _⟩
      | true =>
        obtain ⟨⟨g, s1, s2⟩, hr⟩ : ∃ r, r = typeF (allL 3 T) T.vars.length T.nodes T.nodes.length (j : Int) (0, 0) := ⟨_, rfl⟩
        have HCV : Hid (R = tyoR (g, (s1, s2))) := by unfold Hid; rw [HC1.out, if_neg (by simp)]; unfold typeT; rw [← hr]
        have HRR : Hid ((g, (s1, s2)) = typeF (allL 3 T) T.vars.length T.nodes T.nodes.length (j : Int) (0, 0)) := hr
        clear hr
        clear HC1
        go_wp2_with fail
        refine (hI.out _).mono ?_
        rintro e w3 ⟨rfl, rfl⟩
        go_wp2_with fail
        refine (HEX.out _).mono ?_
        rintro e w4 ⟨rfl, hb⟩
        have HB3 : Hid (Below w3.heap.size w3 w4) := hb
        clear hb r0 r1 r2 f0 f1 f2 p1 d0 d1 d2 d3 d4 d5 d6 d7 HEX hI
        go_wp2_with fail
        refine (HDC.out _ HB3.out).mono ?_
        rintro e w5 ⟨v, rfl, hown, hb5⟩
        obtain ⟨ad, cp, rfl⟩ := rowE_shape hown
        have HRV : Hid (RowV w5 ad (allL 3 T)) := RowV.of_own hown rfl
        have HB5 : Hid (Below w3.heap.size w3 w5) := HB3.out.trans (hb5.mono HB3.out.size)
        clear hown hb5 HDC
        have HA5 : Hid (w5.heap[w.heap.size + 1]? = some (.cells #[.int .i64 0, .int .i64 0, .int .i64 0] 50 (0, 0))) := blk HA2.out HB5.out
        have hl5 := blk_lt HA5.out
        have HX : Hid (∀ (vl : Value) (W' : World), Chk w5 W' w5.heap.size w.heap.size ad (allL 3 T).length cp vl (0, 0) → Calls Tryz.prog 66 #[.pointer (some ⟨w5.heap.size, 0, none⟩), .int .i64 (j : Int)] W' fun e w' => e = .returned (.int .i64 g) ∧ Chk w5 w' w5.heap.size w.heap.size ad (allL 3 T).length cp vl (s1, s2) ∧ Sole w5.heap.size W' w') := fun vl W' h => by
          have := HTY.out w5 w5.heap.size w.heap.size cp ad vl j (HTP.out.below HB5.out) HRV.out (Nat.le_refl _) HFZ.out hj HQ3.out W' (0, 0) h
          rw [← HRR.out] at this
          exact this
        clear HTY HRR HRV
        go_wp2_with fail
        refine (HX.out _ _ ⟨(Below.refl _ _).alloc (Nat.le_refl _) _, heap_alloc_new _ _⟩).mono ?_
        rintro e w7 ⟨rfl, hc7, hs7⟩
        have hA7 := (hs7.rest (w.heap.size + 1) (by simp; omega) (by omega)).trans ((Below.heap_alloc _ _ _ hl5).trans HA5.out)
        have hsz := HB.out.size
        have HB7 : Hid (Below w.heap.size w w7) := by
          have h1 : Below w.heap.size w w5 := HB.out.trans (HB5.out.mono HB.out.size)
          exact (h1.alloc (by omega) _).trans (hs7.below (by omega) (by simp; omega))
        have k3 := cell_of_row _ _ 3 _ _ _ hc7.row
        have k4 := cell_of_row _ _ 4 _ _ _ hc7.row
        have hkl := blk_lt hc7.row
        have r0 := cell_of_row _ _ 0 _ _ _ hA7
        have r1 := cell_of_row _ _ 1 _ _ _ hA7
        have r2 := cell_of_row _ _ 2 _ _ _ hA7
        have f0 := frozen_of_row _ _ 0 _ _ hA7
        have f1 := frozen_of_row _ _ 1 _ _ hA7
        have f2 := frozen_of_row _ _ 2 _ _ hA7
        simp at r0 r1 r2 f0 f1 f2 k3 k4
        clear hc7 hs7 hA7 HX hsz
        by_cases hs : s1 = 0
        · subst hs
          have HCW : Hid (R = (g, (0, 0))) := by unfold Hid; rw [HCV.out]; rfl
          clear HCV
          go_wp2_with fail
          refine bodyPost_ret (v := .agg #[.int .i64 0, .int .i64 0, .int .i64 g]) (by simp [results, Tryz.results18, go_sem, r0, r1, r2]) rfl ⟨by rw [HCW.out], ((HB7.out.setCell (by simp) _).setCell (by simp) _).setCell (by simp) _⟩
        · have HCW : Hid (R = (0, (s1, s2))) := by unfold Hid; rw [HCV.out]; unfold tyoR; rw [if_neg hs]
          have hs1 : (s1 == 0) = false := by simpa using hs
          have hs2 : decide (s1 = 0) = false := decide_eq_false hs
          clear HCV
          go_wp2_with fail
          refine bodyPost_ret (v := .agg #[.int .i64 s1, .int .i64 s2, .int .i64 0]) (by simp [results, Tryz.results18, go_sem, r0, r1, r2]) rfl ⟨by rw [HCW.out], ((HB7.out.setCell (by simp) _).setCell (by simp) _).setCell (by simp) _⟩
  · have HCV : Hid (R = (0, (F, -1))) := by unfold Hid; rw [HC.out, hF, if_pos hz]
    have hz1 : (F == 0) = false := by simpa using hz
    have hz2 : decide (F = 0) = false := decide_eq_false hz
    clear HC hF hq hI HTY HD HGD
    go_wp2_with fail
    refine bodyPost_ret (v := .agg #[.int .i64 F, .int .i64 (-1), .int .i64 0]) (by simp [results, Tryz.results18, go_sem, r0, r1, r2]) rfl ⟨by rw [HCV.out], ((HB.out.setCell (by simp) _).setCell (by simp) _).setCell (by simp) _⟩
end Go.Proofs.YtdnhmpemkpjcaaaGreatDoor
namespace Go.Proofs.YtdnhmpemkpjcaaaGreatDoor
open Go.RowKit
set_option linter.unusedVariables false
attribute [local go_sem] bs_size bs_get bs_extract bs_append bs_eq bs_toList

set_option maxHeartbeats 6400000 in
set_option maxRecDepth 100000 in
theorem rgt9 (R : Bool) (p at_ : Nat) (b o cn : Nat) (nn : Nat) (vv vb : Value) (op : Int) (name : List UInt8) (num far : Int) (kids thn els : List Int) (a a2 a3 : Option Addr) (c c2 c3 : Nat) (w : World) (hl : name.length ≤ 1048576) (hk1 : kids.length ≤ 1048576) (hk2 : thn.length ≤ 1048576) (hk3 : els.length ≤ 1048576)
    (r1 r2 r3 : Bool) (hO : R = ((decide (op = 0) && name.isEmpty && decide (num = 0) && decide (far = 0) && decide (1 ≤ kids.length ∧ kids.length ≤ 1)) && r1 && r2 && r3)) (hat : at_ < nn) (hp1 : w.cell? ⟨p, 1, none⟩ = some (.slice (some ⟨b, o, none⟩) nn cn))
    (hc0 : w.cell? ⟨b, o + at_ * 8, none⟩ = some (.int .i64 9))
    (hc1 : w.cell? ⟨b, o + at_ * 8 + 1, none⟩ = some (.int .i64 op))
    (hc2 : w.cell? ⟨b, o + at_ * 8 + 2, none⟩ = some (.string (bs name)))
    (hc3 : w.cell? ⟨b, o + at_ * 8 + 3, none⟩ = some (.int .i64 num))
    (hc4 : w.cell? ⟨b, o + at_ * 8 + 4, none⟩ = some (.int .i64 far))
    (hc5 : w.cell? ⟨b, o + at_ * 8 + 5, none⟩ = some (.slice a kids.length c))
    (hc6 : w.cell? ⟨b, o + at_ * 8 + 6, none⟩ = some (.slice a2 thn.length c2))
    (hc7 : w.cell? ⟨b, o + at_ * 8 + 7, none⟩ = some (.slice a3 els.length c3))
    (hR1 : ∀ W, Below w.heap.size w W → Calls Tryz.prog 119 #[.pointer (some ⟨p, 0, none⟩), .int .i64 at_, .slice a kids.length c, .bool true] W fun e w' => e = .returned (.bool r1) ∧ Below W.heap.size W w')
    (hR2 : ∀ W, Below w.heap.size w W → Calls Tryz.prog 119 #[.pointer (some ⟨p, 0, none⟩), .int .i64 at_, .slice a2 thn.length c2, .bool false] W fun e w' => e = .returned (.bool r2) ∧ Below W.heap.size W w')
    (hR3 : ∀ W, Below w.heap.size w W → Calls Tryz.prog 119 #[.pointer (some ⟨p, 0, none⟩), .int .i64 at_, .slice a3 els.length c3, .bool false] W fun e w' => e = .returned (.bool r3) ∧ Below W.heap.size W w') :
    Calls Tryz.prog 118 #[.pointer (some ⟨p, 0, none⟩), .int .i64 at_] w fun e w' => e = .returned (.bool R) ∧ Below w.heap.size w w' := by
  have HO : Hid (R = ((decide (op = 0) && name.isEmpty && decide (num = 0) && decide (far = 0) && decide (1 ≤ kids.length ∧ kids.length ≤ 1)) && r1 && r2 && r3)) := hO
  have HR1 : Hid (∀ W, Below w.heap.size w W → Calls Tryz.prog 119 #[.pointer (some ⟨p, 0, none⟩), .int .i64 at_, .slice a kids.length c, .bool true] W fun e w' => e = .returned (.bool r1) ∧ Below W.heap.size W w') := hR1
  have HR2 : Hid (∀ W, Below w.heap.size w W → Calls Tryz.prog 119 #[.pointer (some ⟨p, 0, none⟩), .int .i64 at_, .slice a2 thn.length c2, .bool false] W fun e w' => e = .returned (.bool r2) ∧ Below W.heap.size W w') := hR2
  have HR3 : Hid (∀ W, Below w.heap.size w W → Calls Tryz.prog 119 #[.pointer (some ⟨p, 0, none⟩), .int .i64 at_, .slice a3 els.length c3, .bool false] W fun e w' => e = .returned (.bool r3) ∧ Below W.heap.size W w') := hR3
  have hI0 : (0 : Int) ≤ (at_ : Int) := by omega
  have hI1 : (at_ : Int) < (nn : Int) := by omega
  clear hO hR1 hR2 hR3
  go_enter Tryz.func118, Tryz.ntmps118
  go_wp2_with fail
  have hA := heap_alloc_new w (.cells #[.int .i64 9, .int .i64 op, .string (bs name), .int .i64 num, .int .i64 far, .slice a kids.length c, .slice a2 thn.length c2, .slice a3 els.length c3] 111)
  have hB : Below w.heap.size w (w.alloc (.cells #[.int .i64 9, .int .i64 op, .string (bs name), .int .i64 num, .int .i64 far, .slice a kids.length c, .slice a2 thn.length c2, .slice a3 els.length c3] 111)) := (Below.refl _ _).alloc (Nat.le_refl _) _
  generalize w.alloc (.cells #[.int .i64 9, .int .i64 op, .string (bs name), .int .i64 num, .int .i64 far, .slice a kids.length c, .slice a2 thn.length c2, .slice a3 els.length c3] 111) = W at *
  have d0 : W.cell? ⟨w.heap.size, 0, none⟩ = some (.int .i64 9) := cell_of_row _ _ 0 _ _ _ hA
  have d1 : W.cell? ⟨w.heap.size, 1, none⟩ = some (.int .i64 op) := cell_of_row _ _ 1 _ _ _ hA
  have d2 : W.cell? ⟨w.heap.size, 2, none⟩ = some (.string (bs name)) := cell_of_row _ _ 2 _ _ _ hA
  have d3 : W.cell? ⟨w.heap.size, 3, none⟩ = some (.int .i64 num) := cell_of_row _ _ 3 _ _ _ hA
  have d4 : W.cell? ⟨w.heap.size, 4, none⟩ = some (.int .i64 far) := cell_of_row _ _ 4 _ _ _ hA
  have d5 : W.cell? ⟨w.heap.size, 5, none⟩ = some (.slice a kids.length c) := cell_of_row _ _ 5 _ _ _ hA
  have d6 : W.cell? ⟨w.heap.size, 6, none⟩ = some (.slice a2 thn.length c2) := cell_of_row _ _ 6 _ _ _ hA
  have d7 : W.cell? ⟨w.heap.size, 7, none⟩ = some (.slice a3 els.length c3) := cell_of_row _ _ 7 _ _ _ hA
  have HB : Hid (Below w.heap.size w W) := hB
  have HA : Hid (W.heap[w.heap.size]? = some (.cells #[.int .i64 9, .int .i64 op, .string (bs name), .int .i64 num, .int .i64 far, .slice a kids.length c, .slice a2 thn.length c2, .slice a3 els.length c3] 111 (0, 0))) := hA
  clear hA hB hp1 hc0 hc1 hc2 hc3 hc4 hc5 hc6 hc7
  refine (l1In_any 9 1 11 _).mono ?_
  rintro e w1 ⟨rfl, rfl⟩
  have e1 : inB 9 1 11 = true := by decide
  rw [e1]
  clear e1
  go_wp2_with fail
  refine (l4Wants_any (⟨9, op, name, num, far, kids, thn, els⟩ : LNode) _ _ _ _ ⟨_, _, _, rfl⟩ ⟨_, _, _, rfl⟩ ⟨_, _, _, rfl⟩).mono ?_
  rintro e w2 ⟨rfl, hb⟩
  have e1 : wantsN 9 = (false, 1, false) := by decide
  simp only [wantsV, e1]
  clear e1
  have hA := blk HA.out hb
  have hB := HB.out.trans (hb.mono HB.out.size)
  clear HA HB hb d0 d1 d2 d3 d4 d5 d6 d7
  have HA : Hid (w2.heap[w.heap.size]? = some (.cells #[.int .i64 9, .int .i64 op, .string (bs name), .int .i64 num, .int .i64 far, .slice a kids.length c, .slice a2 thn.length c2, .slice a3 els.length c3] 111 (0, 0))) := hA
  have HB : Hid (Below w.heap.size w w2) := hB
  have d0 : w2.cell? ⟨w.heap.size, 0, none⟩ = some (.int .i64 9) := cell_of_row _ _ 0 _ _ _ hA
  have d1 : w2.cell? ⟨w.heap.size, 1, none⟩ = some (.int .i64 op) := cell_of_row _ _ 1 _ _ _ hA
  have d2 : w2.cell? ⟨w.heap.size, 2, none⟩ = some (.string (bs name)) := cell_of_row _ _ 2 _ _ _ hA
  have d3 : w2.cell? ⟨w.heap.size, 3, none⟩ = some (.int .i64 num) := cell_of_row _ _ 3 _ _ _ hA
  have d4 : w2.cell? ⟨w.heap.size, 4, none⟩ = some (.int .i64 far) := cell_of_row _ _ 4 _ _ _ hA
  have d5 : w2.cell? ⟨w.heap.size, 5, none⟩ = some (.slice a kids.length c) := cell_of_row _ _ 5 _ _ _ hA
  have d6 : w2.cell? ⟨w.heap.size, 6, none⟩ = some (.slice a2 thn.length c2) := cell_of_row _ _ 6 _ _ _ hA
  have d7 : w2.cell? ⟨w.heap.size, 7, none⟩ = some (.slice a3 els.length c3) := cell_of_row _ _ 7 _ _ _ hA
  clear hA hB
  go_wp2_with fail
  (try (rename_i kk hkk; simp only [List.append_eq, List.cons_append, List.nil_append] at hkk))
  refine (isName_any name _ (by omega)).mono ?_
  rintro e w3 ⟨rfl, hb⟩
  have hA := blk HA.out hb
  have hB := HB.out.trans (hb.mono HB.out.size)
  clear HA HB hb d0 d1 d2 d3 d4 d5 d6 d7
  have HA : Hid (w3.heap[w.heap.size]? = some (.cells #[.int .i64 9, .int .i64 op, .string (bs name), .int .i64 num, .int .i64 far, .slice a kids.length c, .slice a2 thn.length c2, .slice a3 els.length c3] 111 (0, 0))) := hA
  have HB : Hid (Below w.heap.size w w3) := hB
  have d0 : w3.cell? ⟨w.heap.size, 0, none⟩ = some (.int .i64 9) := cell_of_row _ _ 0 _ _ _ hA
  have d1 : w3.cell? ⟨w.heap.size, 1, none⟩ = some (.int .i64 op) := cell_of_row _ _ 1 _ _ _ hA
  have d2 : w3.cell? ⟨w.heap.size, 2, none⟩ = some (.string (bs name)) := cell_of_row _ _ 2 _ _ _ hA
  have d3 : w3.cell? ⟨w.heap.size, 3, none⟩ = some (.int .i64 num) := cell_of_row _ _ 3 _ _ _ hA
  have d4 : w3.cell? ⟨w.heap.size, 4, none⟩ = some (.int .i64 far) := cell_of_row _ _ 4 _ _ _ hA
  have d5 : w3.cell? ⟨w.heap.size, 5, none⟩ = some (.slice a kids.length c) := cell_of_row _ _ 5 _ _ _ hA
  have d6 : w3.cell? ⟨w.heap.size, 6, none⟩ = some (.slice a2 thn.length c2) := cell_of_row _ _ 6 _ _ _ hA
  have d7 : w3.cell? ⟨w.heap.size, 7, none⟩ = some (.slice a3 els.length c3) := cell_of_row _ _ 7 _ _ _ hA
  clear hA hB
  obtain ⟨qn, hqn⟩ : ∃ q, isNameL name = q := ⟨_, rfl⟩
  rw [hqn]
  by_cases qname : name = []
  · have e1 : qn = false := by rw [← hqn, qname]; exact isNameL_nil
    subst e1
    (try simp only [])
    by_cases qk : kids.length = 1
    · have hz1 : (((kids.length : Nat) : Int) == 1) = true := by rw [beq_iff_eq]; omega
      have hz2 : decide (((kids.length : Nat) : Int) = 1) = true := decide_eq_true (by omega)
      have hz6 : (((kids.length : Nat) : Int) != 1) = false := by rw [bne_eq_false_iff_eq]; omega
      have QK : Hid (kids.length = 1) := qk
      clear qk
      by_cases qnum : num = 0
      · skip
        by_cases qfar : far = 0
        · skip
          by_cases qop : op = 0
          · skip
            go_wp2_with fail
            (try (rename_i kk hkk; simp only [List.append_eq, List.cons_append, List.nil_append] at hkk))
            refine (HR1.out _ HB.out).mono ?_
            rintro e w4 ⟨rfl, hb⟩
            have hA := blk HA.out hb
            have hB := HB.out.trans (hb.mono HB.out.size)
            clear HA HB hb d0 d1 d2 d3 d4 d5 d6 d7
            have HA : Hid (w4.heap[w.heap.size]? = some (.cells #[.int .i64 9, .int .i64 op, .string (bs name), .int .i64 num, .int .i64 far, .slice a kids.length c, .slice a2 thn.length c2, .slice a3 els.length c3] 111 (0, 0))) := hA
            have HB : Hid (Below w.heap.size w w4) := hB
            have d0 : w4.cell? ⟨w.heap.size, 0, none⟩ = some (.int .i64 9) := cell_of_row _ _ 0 _ _ _ hA
            have d1 : w4.cell? ⟨w.heap.size, 1, none⟩ = some (.int .i64 op) := cell_of_row _ _ 1 _ _ _ hA
            have d2 : w4.cell? ⟨w.heap.size, 2, none⟩ = some (.string (bs name)) := cell_of_row _ _ 2 _ _ _ hA
            have d3 : w4.cell? ⟨w.heap.size, 3, none⟩ = some (.int .i64 num) := cell_of_row _ _ 3 _ _ _ hA
            have d4 : w4.cell? ⟨w.heap.size, 4, none⟩ = some (.int .i64 far) := cell_of_row _ _ 4 _ _ _ hA
            have d5 : w4.cell? ⟨w.heap.size, 5, none⟩ = some (.slice a kids.length c) := cell_of_row _ _ 5 _ _ _ hA
            have d6 : w4.cell? ⟨w.heap.size, 6, none⟩ = some (.slice a2 thn.length c2) := cell_of_row _ _ 6 _ _ _ hA
            have d7 : w4.cell? ⟨w.heap.size, 7, none⟩ = some (.slice a3 els.length c3) := cell_of_row _ _ 7 _ _ _ hA
            clear hA hB
            cases r1 with
            | false =>
              (try simp only [])
              have HE : Hid (R = false) := by unfold Hid; rw [HO.out]; simp []
              clear HO
              go_wp2_with fail
              go_ret
              exact ⟨by rw [HE.out]; rfl, HB.out⟩
            | true =>
              (try simp only [])
              go_wp2_with fail
              refine (HR2.out _ HB.out).mono ?_
              rintro e w5 ⟨rfl, hb⟩
              have hA := blk HA.out hb
              have hB := HB.out.trans (hb.mono HB.out.size)
              clear HA HB hb d0 d1 d2 d3 d4 d5 d6 d7
              have HA : Hid (w5.heap[w.heap.size]? = some (.cells #[.int .i64 9, .int .i64 op, .string (bs name), .int .i64 num, .int .i64 far, .slice a kids.length c, .slice a2 thn.length c2, .slice a3 els.length c3] 111 (0, 0))) := hA
              have HB : Hid (Below w.heap.size w w5) := hB
              have d0 : w5.cell? ⟨w.heap.size, 0, none⟩ = some (.int .i64 9) := cell_of_row _ _ 0 _ _ _ hA
              have d1 : w5.cell? ⟨w.heap.size, 1, none⟩ = some (.int .i64 op) := cell_of_row _ _ 1 _ _ _ hA
              have d2 : w5.cell? ⟨w.heap.size, 2, none⟩ = some (.string (bs name)) := cell_of_row _ _ 2 _ _ _ hA
              have d3 : w5.cell? ⟨w.heap.size, 3, none⟩ = some (.int .i64 num) := cell_of_row _ _ 3 _ _ _ hA
              have d4 : w5.cell? ⟨w.heap.size, 4, none⟩ = some (.int .i64 far) := cell_of_row _ _ 4 _ _ _ hA
              have d5 : w5.cell? ⟨w.heap.size, 5, none⟩ = some (.slice a kids.length c) := cell_of_row _ _ 5 _ _ _ hA
              have d6 : w5.cell? ⟨w.heap.size, 6, none⟩ = some (.slice a2 thn.length c2) := cell_of_row _ _ 6 _ _ _ hA
              have d7 : w5.cell? ⟨w.heap.size, 7, none⟩ = some (.slice a3 els.length c3) := cell_of_row _ _ 7 _ _ _ hA
              clear hA hB
              cases r2 with
              | false =>
                (try simp only [])
                have HE : Hid (R = false) := by unfold Hid; rw [HO.out]; simp []
                clear HO
                go_wp2_with fail
                go_ret
                exact ⟨by rw [HE.out]; rfl, HB.out⟩
              | true =>
                (try simp only [])
                go_wp2_with fail
                refine (HR3.out _ HB.out).mono ?_
                rintro e w6 ⟨rfl, hb⟩
                have hA := blk HA.out hb
                have hB := HB.out.trans (hb.mono HB.out.size)
                clear HA HB hb d0 d1 d2 d3 d4 d5 d6 d7
                have HA : Hid (w6.heap[w.heap.size]? = some (.cells #[.int .i64 9, .int .i64 op, .string (bs name), .int .i64 num, .int .i64 far, .slice a kids.length c, .slice a2 thn.length c2, .slice a3 els.length c3] 111 (0, 0))) := hA
                have HB : Hid (Below w.heap.size w w6) := hB
                have d0 : w6.cell? ⟨w.heap.size, 0, none⟩ = some (.int .i64 9) := cell_of_row _ _ 0 _ _ _ hA
                have d1 : w6.cell? ⟨w.heap.size, 1, none⟩ = some (.int .i64 op) := cell_of_row _ _ 1 _ _ _ hA
                have d2 : w6.cell? ⟨w.heap.size, 2, none⟩ = some (.string (bs name)) := cell_of_row _ _ 2 _ _ _ hA
                have d3 : w6.cell? ⟨w.heap.size, 3, none⟩ = some (.int .i64 num) := cell_of_row _ _ 3 _ _ _ hA
                have d4 : w6.cell? ⟨w.heap.size, 4, none⟩ = some (.int .i64 far) := cell_of_row _ _ 4 _ _ _ hA
                have d5 : w6.cell? ⟨w.heap.size, 5, none⟩ = some (.slice a kids.length c) := cell_of_row _ _ 5 _ _ _ hA
                have d6 : w6.cell? ⟨w.heap.size, 6, none⟩ = some (.slice a2 thn.length c2) := cell_of_row _ _ 6 _ _ _ hA
                have d7 : w6.cell? ⟨w.heap.size, 7, none⟩ = some (.slice a3 els.length c3) := cell_of_row _ _ 7 _ _ _ hA
                clear hA hB
                have HE : Hid (R = r3) := by unfold Hid; rw [HO.out]; simp [qname, QK.out, qnum, qfar, qop]
                clear HO
                go_wp2_with fail
                go_ret
                exact ⟨by rw [HE.out]; rfl, HB.out⟩
          · have hz1 : (op == 0) = false := by simpa using qop
            have hz2 : decide (op = 0) = false := decide_eq_false qop
            have HE : Hid (R = false) := by unfold Hid; rw [HO.out]; simp [qop]
            clear HO
            go_wp2_with fail
            go_ret
            exact ⟨by rw [HE.out]; rfl, HB.out⟩
        · have hz1 : (far == 0) = false := by simpa using qfar
          have hz2 : decide (far = 0) = false := decide_eq_false qfar
          have HE : Hid (R = false) := by unfold Hid; rw [HO.out]; simp [qfar]
          clear HO
          go_wp2_with fail
          go_ret
          exact ⟨by rw [HE.out]; rfl, HB.out⟩
      · have hz1 : (num == 0) = false := by simpa using qnum
        have hz2 : decide (num = 0) = false := decide_eq_false qnum
        have HE : Hid (R = false) := by unfold Hid; rw [HO.out]; simp [qnum]
        clear HO
        go_wp2_with fail
        go_ret
        exact ⟨by rw [HE.out]; rfl, HB.out⟩
    · have hz1 : (((kids.length : Nat) : Int) == 1) = false := by rw [beq_eq_false_iff_ne]; omega
      have hz2 : decide (((kids.length : Nat) : Int) = 1) = false := decide_eq_false (by omega)
      have hz6 : (((kids.length : Nat) : Int) != 1) = true := by rw [bne_iff_ne]; omega
      have QK : Hid (¬ (1 ≤ kids.length ∧ kids.length ≤ 1)) := by unfold Hid; omega
      clear qk
      have HE : Hid (R = false) := by unfold Hid; rw [HO.out]; simp [QK.out]
      clear HO
      go_wp2_with fail
      go_ret
      exact ⟨by rw [HE.out]; rfl, HB.out⟩
  · have hz1 : (name == []) = false := by simpa using qname
    have hz2 : decide (name = []) = false := decide_eq_false qname
    cases qn with
    | false =>
      (try simp only [])
      have HE : Hid (R = false) := by unfold Hid; rw [HO.out]; simp [qname]
      clear HO
      go_wp2_with fail
      go_ret
      exact ⟨by rw [HE.out]; rfl, HB.out⟩
    | true =>
      (try simp only [])
      have HE : Hid (R = false) := by unfold Hid; rw [HO.out]; simp [qname]
      clear HO
      go_wp2_with fail
      go_ret
      exact ⟨by rw [HE.out]; rfl, HB.out⟩
set_option maxHeartbeats 6400000 in
set_option maxRecDepth 100000 in
theorem rgt10 (R : Bool) (p at_ : Nat) (b o cn : Nat) (nn : Nat) (vv vb : Value) (op : Int) (name : List UInt8) (num far : Int) (kids thn els : List Int) (a a2 a3 : Option Addr) (c c2 c3 : Nat) (w : World) (hl : name.length ≤ 1048576) (hk1 : kids.length ≤ 1048576) (hk2 : thn.length ≤ 1048576) (hk3 : els.length ≤ 1048576)
    (r1 r2 r3 : Bool) (hO : R = ((decide (op = 0) && isNameL name && inB num 0 65535 && inB far 0 65535 && kids.isEmpty && els.isEmpty) && r1 && r2 && r3)) (hat : at_ < nn) (hp1 : w.cell? ⟨p, 1, none⟩ = some (.slice (some ⟨b, o, none⟩) nn cn))
    (hc0 : w.cell? ⟨b, o + at_ * 8, none⟩ = some (.int .i64 10))
    (hc1 : w.cell? ⟨b, o + at_ * 8 + 1, none⟩ = some (.int .i64 op))
    (hc2 : w.cell? ⟨b, o + at_ * 8 + 2, none⟩ = some (.string (bs name)))
    (hc3 : w.cell? ⟨b, o + at_ * 8 + 3, none⟩ = some (.int .i64 num))
    (hc4 : w.cell? ⟨b, o + at_ * 8 + 4, none⟩ = some (.int .i64 far))
    (hc5 : w.cell? ⟨b, o + at_ * 8 + 5, none⟩ = some (.slice a kids.length c))
    (hc6 : w.cell? ⟨b, o + at_ * 8 + 6, none⟩ = some (.slice a2 thn.length c2))
    (hc7 : w.cell? ⟨b, o + at_ * 8 + 7, none⟩ = some (.slice a3 els.length c3))
    (hR1 : ∀ W, Below w.heap.size w W → Calls Tryz.prog 119 #[.pointer (some ⟨p, 0, none⟩), .int .i64 at_, .slice a kids.length c, .bool true] W fun e w' => e = .returned (.bool r1) ∧ Below W.heap.size W w')
    (hR2 : ∀ W, Below w.heap.size w W → Calls Tryz.prog 119 #[.pointer (some ⟨p, 0, none⟩), .int .i64 at_, .slice a2 thn.length c2, .bool false] W fun e w' => e = .returned (.bool r2) ∧ Below W.heap.size W w')
    (hR3 : ∀ W, Below w.heap.size w W → Calls Tryz.prog 119 #[.pointer (some ⟨p, 0, none⟩), .int .i64 at_, .slice a3 els.length c3, .bool false] W fun e w' => e = .returned (.bool r3) ∧ Below W.heap.size W w') :
    Calls Tryz.prog 118 #[.pointer (some ⟨p, 0, none⟩), .int .i64 at_] w fun e w' => e = .returned (.bool R) ∧ Below w.heap.size w w' := by
  have HO : Hid (R = ((decide (op = 0) && isNameL name && inB num 0 65535 && inB far 0 65535 && kids.isEmpty && els.isEmpty) && r1 && r2 && r3)) := hO
  have HR1 : Hid (∀ W, Below w.heap.size w W → Calls Tryz.prog 119 #[.pointer (some ⟨p, 0, none⟩), .int .i64 at_, .slice a kids.length c, .bool true] W fun e w' => e = .returned (.bool r1) ∧ Below W.heap.size W w') := hR1
  have HR2 : Hid (∀ W, Below w.heap.size w W → Calls Tryz.prog 119 #[.pointer (some ⟨p, 0, none⟩), .int .i64 at_, .slice a2 thn.length c2, .bool false] W fun e w' => e = .returned (.bool r2) ∧ Below W.heap.size W w') := hR2
  have HR3 : Hid (∀ W, Below w.heap.size w W → Calls Tryz.prog 119 #[.pointer (some ⟨p, 0, none⟩), .int .i64 at_, .slice a3 els.length c3, .bool false] W fun e w' => e = .returned (.bool r3) ∧ Below W.heap.size W w') := hR3
  have hI0 : (0 : Int) ≤ (at_ : Int) := by omega
  have hI1 : (at_ : Int) < (nn : Int) := by omega
  clear hO hR1 hR2 hR3
  go_enter Tryz.func118, Tryz.ntmps118
  go_wp2_with fail
  have hA := heap_alloc_new w (.cells #[.int .i64 10, .int .i64 op, .string (bs name), .int .i64 num, .int .i64 far, .slice a kids.length c, .slice a2 thn.length c2, .slice a3 els.length c3] 111)
  have hB : Below w.heap.size w (w.alloc (.cells #[.int .i64 10, .int .i64 op, .string (bs name), .int .i64 num, .int .i64 far, .slice a kids.length c, .slice a2 thn.length c2, .slice a3 els.length c3] 111)) := (Below.refl _ _).alloc (Nat.le_refl _) _
  generalize w.alloc (.cells #[.int .i64 10, .int .i64 op, .string (bs name), .int .i64 num, .int .i64 far, .slice a kids.length c, .slice a2 thn.length c2, .slice a3 els.length c3] 111) = W at *
  have d0 : W.cell? ⟨w.heap.size, 0, none⟩ = some (.int .i64 10) := cell_of_row _ _ 0 _ _ _ hA
  have d1 : W.cell? ⟨w.heap.size, 1, none⟩ = some (.int .i64 op) := cell_of_row _ _ 1 _ _ _ hA
  have d2 : W.cell? ⟨w.heap.size, 2, none⟩ = some (.string (bs name)) := cell_of_row _ _ 2 _ _ _ hA
  have d3 : W.cell? ⟨w.heap.size, 3, none⟩ = some (.int .i64 num) := cell_of_row _ _ 3 _ _ _ hA
  have d4 : W.cell? ⟨w.heap.size, 4, none⟩ = some (.int .i64 far) := cell_of_row _ _ 4 _ _ _ hA
  have d5 : W.cell? ⟨w.heap.size, 5, none⟩ = some (.slice a kids.length c) := cell_of_row _ _ 5 _ _ _ hA
  have d6 : W.cell? ⟨w.heap.size, 6, none⟩ = some (.slice a2 thn.length c2) := cell_of_row _ _ 6 _ _ _ hA
  have d7 : W.cell? ⟨w.heap.size, 7, none⟩ = some (.slice a3 els.length c3) := cell_of_row _ _ 7 _ _ _ hA
  have HB : Hid (Below w.heap.size w W) := hB
  have HA : Hid (W.heap[w.heap.size]? = some (.cells #[.int .i64 10, .int .i64 op, .string (bs name), .int .i64 num, .int .i64 far, .slice a kids.length c, .slice a2 thn.length c2, .slice a3 els.length c3] 111 (0, 0))) := hA
  clear hA hB hp1 hc0 hc1 hc2 hc3 hc4 hc5 hc6 hc7
  refine (l1In_any 10 1 11 _).mono ?_
  rintro e w1 ⟨rfl, rfl⟩
  have e1 : inB 10 1 11 = true := by decide
  rw [e1]
  clear e1
  go_wp2_with fail
  refine (l4Wants_any (⟨10, op, name, num, far, kids, thn, els⟩ : LNode) _ _ _ _ ⟨_, _, _, rfl⟩ ⟨_, _, _, rfl⟩ ⟨_, _, _, rfl⟩).mono ?_
  rintro e w2 ⟨rfl, hb⟩
  have e1 : wantsN 10 = (true, 0, true) := by decide
  simp only [wantsV, e1]
  clear e1
  have hA := blk HA.out hb
  have hB := HB.out.trans (hb.mono HB.out.size)
  clear HA HB hb d0 d1 d2 d3 d4 d5 d6 d7
  have HA : Hid (w2.heap[w.heap.size]? = some (.cells #[.int .i64 10, .int .i64 op, .string (bs name), .int .i64 num, .int .i64 far, .slice a kids.length c, .slice a2 thn.length c2, .slice a3 els.length c3] 111 (0, 0))) := hA
  have HB : Hid (Below w.heap.size w w2) := hB
  have d0 : w2.cell? ⟨w.heap.size, 0, none⟩ = some (.int .i64 10) := cell_of_row _ _ 0 _ _ _ hA
  have d1 : w2.cell? ⟨w.heap.size, 1, none⟩ = some (.int .i64 op) := cell_of_row _ _ 1 _ _ _ hA
  have d2 : w2.cell? ⟨w.heap.size, 2, none⟩ = some (.string (bs name)) := cell_of_row _ _ 2 _ _ _ hA
  have d3 : w2.cell? ⟨w.heap.size, 3, none⟩ = some (.int .i64 num) := cell_of_row _ _ 3 _ _ _ hA
  have d4 : w2.cell? ⟨w.heap.size, 4, none⟩ = some (.int .i64 far) := cell_of_row _ _ 4 _ _ _ hA
  have d5 : w2.cell? ⟨w.heap.size, 5, none⟩ = some (.slice a kids.length c) := cell_of_row _ _ 5 _ _ _ hA
  have d6 : w2.cell? ⟨w.heap.size, 6, none⟩ = some (.slice a2 thn.length c2) := cell_of_row _ _ 6 _ _ _ hA
  have d7 : w2.cell? ⟨w.heap.size, 7, none⟩ = some (.slice a3 els.length c3) := cell_of_row _ _ 7 _ _ _ hA
  clear hA hB
  go_wp2_with fail
  (try (rename_i kk hkk; simp only [List.append_eq, List.cons_append, List.nil_append] at hkk))
  refine (isName_any name _ (by omega)).mono ?_
  rintro e w3 ⟨rfl, hb⟩
  have hA := blk HA.out hb
  have hB := HB.out.trans (hb.mono HB.out.size)
  clear HA HB hb d0 d1 d2 d3 d4 d5 d6 d7
  have HA : Hid (w3.heap[w.heap.size]? = some (.cells #[.int .i64 10, .int .i64 op, .string (bs name), .int .i64 num, .int .i64 far, .slice a kids.length c, .slice a2 thn.length c2, .slice a3 els.length c3] 111 (0, 0))) := hA
  have HB : Hid (Below w.heap.size w w3) := hB
  have d0 : w3.cell? ⟨w.heap.size, 0, none⟩ = some (.int .i64 10) := cell_of_row _ _ 0 _ _ _ hA
  have d1 : w3.cell? ⟨w.heap.size, 1, none⟩ = some (.int .i64 op) := cell_of_row _ _ 1 _ _ _ hA
  have d2 : w3.cell? ⟨w.heap.size, 2, none⟩ = some (.string (bs name)) := cell_of_row _ _ 2 _ _ _ hA
  have d3 : w3.cell? ⟨w.heap.size, 3, none⟩ = some (.int .i64 num) := cell_of_row _ _ 3 _ _ _ hA
  have d4 : w3.cell? ⟨w.heap.size, 4, none⟩ = some (.int .i64 far) := cell_of_row _ _ 4 _ _ _ hA
  have d5 : w3.cell? ⟨w.heap.size, 5, none⟩ = some (.slice a kids.length c) := cell_of_row _ _ 5 _ _ _ hA
  have d6 : w3.cell? ⟨w.heap.size, 6, none⟩ = some (.slice a2 thn.length c2) := cell_of_row _ _ 6 _ _ _ hA
  have d7 : w3.cell? ⟨w.heap.size, 7, none⟩ = some (.slice a3 els.length c3) := cell_of_row _ _ 7 _ _ _ hA
  clear hA hB
  obtain ⟨qn, hqn⟩ : ∃ q, isNameL name = q := ⟨_, rfl⟩
  rw [hqn]
  cases qn with
  | false =>
    (try simp only [])
    have HE : Hid (R = false) := by unfold Hid; rw [HO.out]; simp [hqn]
    clear HO
    go_wp2_with fail
    go_ret
    exact ⟨by rw [HE.out]; rfl, HB.out⟩
  | true =>
    (try simp only [])
    by_cases qk : kids.length = 0
    · have hz1 : (((kids.length : Nat) : Int) == 0) = true := by rw [beq_iff_eq]; omega
      have hz2 : decide (((kids.length : Nat) : Int) = 0) = true := decide_eq_true (by omega)
      have hz6 : (((kids.length : Nat) : Int) != 0) = false := by rw [bne_eq_false_iff_eq]; omega
      have QK : Hid (kids = []) := List.length_eq_zero_iff.1 qk
      clear qk
      go_wp2_with fail
      (try (rename_i kk hkk; simp only [List.append_eq, List.cons_append, List.nil_append] at hkk))
      refine (l1Word_any num _).mono ?_
      rintro e w' ⟨rfl, rfl⟩
      obtain ⟨q, qnum⟩ : ∃ q, inB num 0 65535 = q := ⟨_, rfl⟩
      rw [qnum]
      cases q with
      | false =>
        (try simp only [])
        have HE : Hid (R = false) := by unfold Hid; rw [HO.out]; simp [qnum]
        clear HO
        go_wp2_with fail
        go_ret
        exact ⟨by rw [HE.out]; rfl, HB.out⟩
      | true =>
        (try simp only [])
        go_wp2_with fail
        (try (rename_i kk hkk; simp only [List.append_eq, List.cons_append, List.nil_append] at hkk))
        refine (l1Word_any far _).mono ?_
        rintro e w' ⟨rfl, rfl⟩
        obtain ⟨q, qfar⟩ : ∃ q, inB far 0 65535 = q := ⟨_, rfl⟩
        rw [qfar]
        cases q with
        | false =>
          (try simp only [])
          have HE : Hid (R = false) := by unfold Hid; rw [HO.out]; simp [qfar]
          clear HO
          go_wp2_with fail
          go_ret
          exact ⟨by rw [HE.out]; rfl, HB.out⟩
        | true =>
          (try simp only [])
          by_cases qop : op = 0
          · skip
            by_cases qels : els = []
            · rw [qels] at HR3
              simp only [List.length_nil] at HR3
              go_wp2_with fail
              (try (rename_i kk hkk; simp only [List.append_eq, List.cons_append, List.nil_append] at hkk))
              refine (HR1.out _ HB.out).mono ?_
              rintro e w4 ⟨rfl, hb⟩
              have hA := blk HA.out hb
              have hB := HB.out.trans (hb.mono HB.out.size)
              clear HA HB hb d0 d1 d2 d3 d4 d5 d6 d7
              have HA : Hid (w4.heap[w.heap.size]? = some (.cells #[.int .i64 10, .int .i64 op, .string (bs name), .int .i64 num, .int .i64 far, .slice a kids.length c, .slice a2 thn.length c2, .slice a3 els.length c3] 111 (0, 0))) := hA
              have HB : Hid (Below w.heap.size w w4) := hB
              have d0 : w4.cell? ⟨w.heap.size, 0, none⟩ = some (.int .i64 10) := cell_of_row _ _ 0 _ _ _ hA
              have d1 : w4.cell? ⟨w.heap.size, 1, none⟩ = some (.int .i64 op) := cell_of_row _ _ 1 _ _ _ hA
              have d2 : w4.cell? ⟨w.heap.size, 2, none⟩ = some (.string (bs name)) := cell_of_row _ _ 2 _ _ _ hA
              have d3 : w4.cell? ⟨w.heap.size, 3, none⟩ = some (.int .i64 num) := cell_of_row _ _ 3 _ _ _ hA
              have d4 : w4.cell? ⟨w.heap.size, 4, none⟩ = some (.int .i64 far) := cell_of_row _ _ 4 _ _ _ hA
              have d5 : w4.cell? ⟨w.heap.size, 5, none⟩ = some (.slice a kids.length c) := cell_of_row _ _ 5 _ _ _ hA
              have d6 : w4.cell? ⟨w.heap.size, 6, none⟩ = some (.slice a2 thn.length c2) := cell_of_row _ _ 6 _ _ _ hA
              have d7 : w4.cell? ⟨w.heap.size, 7, none⟩ = some (.slice a3 els.length c3) := cell_of_row _ _ 7 _ _ _ hA
              clear hA hB
              cases r1 with
              | false =>
                (try simp only [])
                have HE : Hid (R = false) := by unfold Hid; rw [HO.out]; simp []
                clear HO
                go_wp2_with fail
                go_ret
                exact ⟨by rw [HE.out]; rfl, HB.out⟩
              | true =>
                (try simp only [])
                go_wp2_with fail
                refine (HR2.out _ HB.out).mono ?_
                rintro e w5 ⟨rfl, hb⟩
                have hA := blk HA.out hb
                have hB := HB.out.trans (hb.mono HB.out.size)
                clear HA HB hb d0 d1 d2 d3 d4 d5 d6 d7
                have HA : Hid (w5.heap[w.heap.size]? = some (.cells #[.int .i64 10, .int .i64 op, .string (bs name), .int .i64 num, .int .i64 far, .slice a kids.length c, .slice a2 thn.length c2, .slice a3 els.length c3] 111 (0, 0))) := hA
                have HB : Hid (Below w.heap.size w w5) := hB
                have d0 : w5.cell? ⟨w.heap.size, 0, none⟩ = some (.int .i64 10) := cell_of_row _ _ 0 _ _ _ hA
                have d1 : w5.cell? ⟨w.heap.size, 1, none⟩ = some (.int .i64 op) := cell_of_row _ _ 1 _ _ _ hA
                have d2 : w5.cell? ⟨w.heap.size, 2, none⟩ = some (.string (bs name)) := cell_of_row _ _ 2 _ _ _ hA
                have d3 : w5.cell? ⟨w.heap.size, 3, none⟩ = some (.int .i64 num) := cell_of_row _ _ 3 _ _ _ hA
                have d4 : w5.cell? ⟨w.heap.size, 4, none⟩ = some (.int .i64 far) := cell_of_row _ _ 4 _ _ _ hA
                have d5 : w5.cell? ⟨w.heap.size, 5, none⟩ = some (.slice a kids.length c) := cell_of_row _ _ 5 _ _ _ hA
                have d6 : w5.cell? ⟨w.heap.size, 6, none⟩ = some (.slice a2 thn.length c2) := cell_of_row _ _ 6 _ _ _ hA
                have d7 : w5.cell? ⟨w.heap.size, 7, none⟩ = some (.slice a3 els.length c3) := cell_of_row _ _ 7 _ _ _ hA
                clear hA hB
                cases r2 with
                | false =>
                  (try simp only [])
                  have HE : Hid (R = false) := by unfold Hid; rw [HO.out]; simp []
                  clear HO
                  go_wp2_with fail
                  go_ret
                  exact ⟨by rw [HE.out]; rfl, HB.out⟩
                | true =>
                  (try simp only [])
                  go_wp2_with fail
                  refine (HR3.out _ HB.out).mono ?_
                  rintro e w6 ⟨rfl, hb⟩
                  have hA := blk HA.out hb
                  have hB := HB.out.trans (hb.mono HB.out.size)
                  clear HA HB hb d0 d1 d2 d3 d4 d5 d6 d7
                  have HA : Hid (w6.heap[w.heap.size]? = some (.cells #[.int .i64 10, .int .i64 op, .string (bs name), .int .i64 num, .int .i64 far, .slice a kids.length c, .slice a2 thn.length c2, .slice a3 els.length c3] 111 (0, 0))) := hA
                  have HB : Hid (Below w.heap.size w w6) := hB
                  have d0 : w6.cell? ⟨w.heap.size, 0, none⟩ = some (.int .i64 10) := cell_of_row _ _ 0 _ _ _ hA
                  have d1 : w6.cell? ⟨w.heap.size, 1, none⟩ = some (.int .i64 op) := cell_of_row _ _ 1 _ _ _ hA
                  have d2 : w6.cell? ⟨w.heap.size, 2, none⟩ = some (.string (bs name)) := cell_of_row _ _ 2 _ _ _ hA
                  have d3 : w6.cell? ⟨w.heap.size, 3, none⟩ = some (.int .i64 num) := cell_of_row _ _ 3 _ _ _ hA
                  have d4 : w6.cell? ⟨w.heap.size, 4, none⟩ = some (.int .i64 far) := cell_of_row _ _ 4 _ _ _ hA
                  have d5 : w6.cell? ⟨w.heap.size, 5, none⟩ = some (.slice a kids.length c) := cell_of_row _ _ 5 _ _ _ hA
                  have d6 : w6.cell? ⟨w.heap.size, 6, none⟩ = some (.slice a2 thn.length c2) := cell_of_row _ _ 6 _ _ _ hA
                  have d7 : w6.cell? ⟨w.heap.size, 7, none⟩ = some (.slice a3 els.length c3) := cell_of_row _ _ 7 _ _ _ hA
                  clear hA hB
                  have HE : Hid (R = r3) := by unfold Hid; rw [HO.out]; simp [hqn, QK.out, qnum, qfar, qop, qels]
                  clear HO
                  go_wp2_with fail
                  go_ret
                  exact ⟨by rw [HE.out]; rfl, HB.out⟩
            · have hz : 0 < els.length := List.length_pos_iff.2 qels
              have hz3 : decide ((0 : Int) < ((els.length : Nat) : Int)) = true := decide_eq_true (by omega)
              have HE : Hid (R = false) := by unfold Hid; rw [HO.out]; simp [qels]
              clear HO
              go_wp2_with fail
              go_ret
              exact ⟨by rw [HE.out]; rfl, HB.out⟩
          · have hz1 : (op == 0) = false := by simpa using qop
            have hz2 : decide (op = 0) = false := decide_eq_false qop
            have HE : Hid (R = false) := by unfold Hid; rw [HO.out]; simp [qop]
            clear HO
            go_wp2_with fail
            go_ret
            exact ⟨by rw [HE.out]; rfl, HB.out⟩
    · have hz1 : (((kids.length : Nat) : Int) == 0) = false := by rw [beq_eq_false_iff_ne]; omega
      have hz2 : decide (((kids.length : Nat) : Int) = 0) = false := decide_eq_false (by omega)
      have hz6 : (((kids.length : Nat) : Int) != 0) = true := by rw [bne_iff_ne]; omega
      have QK : Hid (¬ (kids = [])) := by unfold Hid; rintro rfl; exact qk rfl
      clear qk
      have HE : Hid (R = false) := by unfold Hid; rw [HO.out]; simp [QK.out]
      clear HO
      go_wp2_with fail
      go_ret
      exact ⟨by rw [HE.out]; rfl, HB.out⟩
set_option maxHeartbeats 6400000 in
set_option maxRecDepth 100000 in
theorem rgt11 (R : Bool) (p at_ : Nat) (b o cn : Nat) (nn : Nat) (vv vb : Value) (op : Int) (name : List UInt8) (num far : Int) (kids thn els : List Int) (a a2 a3 : Option Addr) (c c2 c3 : Nat) (w : World) (hl : name.length ≤ 1048576) (hk1 : kids.length ≤ 1048576) (hk2 : thn.length ≤ 1048576) (hk3 : els.length ≤ 1048576)
    (r1 r2 r3 : Bool) (hO : R = ((inB op 1 4 && isNameL name && decide (num = 0) && decide (far = 0) && decide (1 ≤ kids.length ∧ kids.length ≤ 3) && thn.isEmpty && els.isEmpty) && r1 && r2 && r3)) (hat : at_ < nn) (hp1 : w.cell? ⟨p, 1, none⟩ = some (.slice (some ⟨b, o, none⟩) nn cn))
    (hc0 : w.cell? ⟨b, o + at_ * 8, none⟩ = some (.int .i64 11))
    (hc1 : w.cell? ⟨b, o + at_ * 8 + 1, none⟩ = some (.int .i64 op))
    (hc2 : w.cell? ⟨b, o + at_ * 8 + 2, none⟩ = some (.string (bs name)))
    (hc3 : w.cell? ⟨b, o + at_ * 8 + 3, none⟩ = some (.int .i64 num))
    (hc4 : w.cell? ⟨b, o + at_ * 8 + 4, none⟩ = some (.int .i64 far))
    (hc5 : w.cell? ⟨b, o + at_ * 8 + 5, none⟩ = some (.slice a kids.length c))
    (hc6 : w.cell? ⟨b, o + at_ * 8 + 6, none⟩ = some (.slice a2 thn.length c2))
    (hc7 : w.cell? ⟨b, o + at_ * 8 + 7, none⟩ = some (.slice a3 els.length c3))
    (hR1 : ∀ W, Below w.heap.size w W → Calls Tryz.prog 119 #[.pointer (some ⟨p, 0, none⟩), .int .i64 at_, .slice a kids.length c, .bool true] W fun e w' => e = .returned (.bool r1) ∧ Below W.heap.size W w')
    (hR2 : ∀ W, Below w.heap.size w W → Calls Tryz.prog 119 #[.pointer (some ⟨p, 0, none⟩), .int .i64 at_, .slice a2 thn.length c2, .bool false] W fun e w' => e = .returned (.bool r2) ∧ Below W.heap.size W w')
    (hR3 : ∀ W, Below w.heap.size w W → Calls Tryz.prog 119 #[.pointer (some ⟨p, 0, none⟩), .int .i64 at_, .slice a3 els.length c3, .bool false] W fun e w' => e = .returned (.bool r3) ∧ Below W.heap.size W w') :
    Calls Tryz.prog 118 #[.pointer (some ⟨p, 0, none⟩), .int .i64 at_] w fun e w' => e = .returned (.bool R) ∧ Below w.heap.size w w' := by
  have HO : Hid (R = ((inB op 1 4 && isNameL name && decide (num = 0) && decide (far = 0) && decide (1 ≤ kids.length ∧ kids.length ≤ 3) && thn.isEmpty && els.isEmpty) && r1 && r2 && r3)) := hO
  have HR1 : Hid (∀ W, Below w.heap.size w W → Calls Tryz.prog 119 #[.pointer (some ⟨p, 0, none⟩), .int .i64 at_, .slice a kids.length c, .bool true] W fun e w' => e = .returned (.bool r1) ∧ Below W.heap.size W w') := hR1
  have HR2 : Hid (∀ W, Below w.heap.size w W → Calls Tryz.prog 119 #[.pointer (some ⟨p, 0, none⟩), .int .i64 at_, .slice a2 thn.length c2, .bool false] W fun e w' => e = .returned (.bool r2) ∧ Below W.heap.size W w') := hR2
  have HR3 : Hid (∀ W, Below w.heap.size w W → Calls Tryz.prog 119 #[.pointer (some ⟨p, 0, none⟩), .int .i64 at_, .slice a3 els.length c3, .bool false] W fun e w' => e = .returned (.bool r3) ∧ Below W.heap.size W w') := hR3
  have hI0 : (0 : Int) ≤ (at_ : Int) := by omega
  have hI1 : (at_ : Int) < (nn : Int) := by omega
  clear hO hR1 hR2 hR3
  go_enter Tryz.func118, Tryz.ntmps118
  go_wp2_with fail
  have hA := heap_alloc_new w (.cells #[.int .i64 11, .int .i64 op, .string (bs name), .int .i64 num, .int .i64 far, .slice a kids.length c, .slice a2 thn.length c2, .slice a3 els.length c3] 111)
  have hB : Below w.heap.size w (w.alloc (.cells #[.int .i64 11, .int .i64 op, .string (bs name), .int .i64 num, .int .i64 far, .slice a kids.length c, .slice a2 thn.length c2, .slice a3 els.length c3] 111)) := (Below.refl _ _).alloc (Nat.le_refl _) _
  generalize w.alloc (.cells #[.int .i64 11, .int .i64 op, .string (bs name), .int .i64 num, .int .i64 far, .slice a kids.length c, .slice a2 thn.length c2, .slice a3 els.length c3] 111) = W at *
  have d0 : W.cell? ⟨w.heap.size, 0, none⟩ = some (.int .i64 11) := cell_of_row _ _ 0 _ _ _ hA
  have d1 : W.cell? ⟨w.heap.size, 1, none⟩ = some (.int .i64 op) := cell_of_row _ _ 1 _ _ _ hA
  have d2 : W.cell? ⟨w.heap.size, 2, none⟩ = some (.string (bs name)) := cell_of_row _ _ 2 _ _ _ hA
  have d3 : W.cell? ⟨w.heap.size, 3, none⟩ = some (.int .i64 num) := cell_of_row _ _ 3 _ _ _ hA
  have d4 : W.cell? ⟨w.heap.size, 4, none⟩ = some (.int .i64 far) := cell_of_row _ _ 4 _ _ _ hA
  have d5 : W.cell? ⟨w.heap.size, 5, none⟩ = some (.slice a kids.length c) := cell_of_row _ _ 5 _ _ _ hA
  have d6 : W.cell? ⟨w.heap.size, 6, none⟩ = some (.slice a2 thn.length c2) := cell_of_row _ _ 6 _ _ _ hA
  have d7 : W.cell? ⟨w.heap.size, 7, none⟩ = some (.slice a3 els.length c3) := cell_of_row _ _ 7 _ _ _ hA
  have HB : Hid (Below w.heap.size w W) := hB
  have HA : Hid (W.heap[w.heap.size]? = some (.cells #[.int .i64 11, .int .i64 op, .string (bs name), .int .i64 num, .int .i64 far, .slice a kids.length c, .slice a2 thn.length c2, .slice a3 els.length c3] 111 (0, 0))) := hA
  clear hA hB hp1 hc0 hc1 hc2 hc3 hc4 hc5 hc6 hc7
  refine (l1In_any 11 1 11 _).mono ?_
  rintro e w1 ⟨rfl, rfl⟩
  have e1 : inB 11 1 11 = true := by decide
  rw [e1]
  clear e1
  go_wp2_with fail
  refine (l4Wants_any (⟨11, op, name, num, far, kids, thn, els⟩ : LNode) _ _ _ _ ⟨_, _, _, rfl⟩ ⟨_, _, _, rfl⟩ ⟨_, _, _, rfl⟩).mono ?_
  rintro e w2 ⟨rfl, hb⟩
  have e1 : wantsN 11 = (true, -1, false) := by decide
  simp only [wantsV, e1]
  clear e1
  have hA := blk HA.out hb
  have hB := HB.out.trans (hb.mono HB.out.size)
  clear HA HB hb d0 d1 d2 d3 d4 d5 d6 d7
  have HA : Hid (w2.heap[w.heap.size]? = some (.cells #[.int .i64 11, .int .i64 op, .string (bs name), .int .i64 num, .int .i64 far, .slice a kids.length c, .slice a2 thn.length c2, .slice a3 els.length c3] 111 (0, 0))) := hA
  have HB : Hid (Below w.heap.size w w2) := hB
  have d0 : w2.cell? ⟨w.heap.size, 0, none⟩ = some (.int .i64 11) := cell_of_row _ _ 0 _ _ _ hA
  have d1 : w2.cell? ⟨w.heap.size, 1, none⟩ = some (.int .i64 op) := cell_of_row _ _ 1 _ _ _ hA
  have d2 : w2.cell? ⟨w.heap.size, 2, none⟩ = some (.string (bs name)) := cell_of_row _ _ 2 _ _ _ hA
  have d3 : w2.cell? ⟨w.heap.size, 3, none⟩ = some (.int .i64 num) := cell_of_row _ _ 3 _ _ _ hA
  have d4 : w2.cell? ⟨w.heap.size, 4, none⟩ = some (.int .i64 far) := cell_of_row _ _ 4 _ _ _ hA
  have d5 : w2.cell? ⟨w.heap.size, 5, none⟩ = some (.slice a kids.length c) := cell_of_row _ _ 5 _ _ _ hA
  have d6 : w2.cell? ⟨w.heap.size, 6, none⟩ = some (.slice a2 thn.length c2) := cell_of_row _ _ 6 _ _ _ hA
  have d7 : w2.cell? ⟨w.heap.size, 7, none⟩ = some (.slice a3 els.length c3) := cell_of_row _ _ 7 _ _ _ hA
  clear hA hB
  go_wp2_with fail
  (try (rename_i kk hkk; simp only [List.append_eq, List.cons_append, List.nil_append] at hkk))
  refine (isName_any name _ (by omega)).mono ?_
  rintro e w3 ⟨rfl, hb⟩
  have hA := blk HA.out hb
  have hB := HB.out.trans (hb.mono HB.out.size)
  clear HA HB hb d0 d1 d2 d3 d4 d5 d6 d7
  have HA : Hid (w3.heap[w.heap.size]? = some (.cells #[.int .i64 11, .int .i64 op, .string (bs name), .int .i64 num, .int .i64 far, .slice a kids.length c, .slice a2 thn.length c2, .slice a3 els.length c3] 111 (0, 0))) := hA
  have HB : Hid (Below w.heap.size w w3) := hB
  have d0 : w3.cell? ⟨w.heap.size, 0, none⟩ = some (.int .i64 11) := cell_of_row _ _ 0 _ _ _ hA
  have d1 : w3.cell? ⟨w.heap.size, 1, none⟩ = some (.int .i64 op) := cell_of_row _ _ 1 _ _ _ hA
  have d2 : w3.cell? ⟨w.heap.size, 2, none⟩ = some (.string (bs name)) := cell_of_row _ _ 2 _ _ _ hA
  have d3 : w3.cell? ⟨w.heap.size, 3, none⟩ = some (.int .i64 num) := cell_of_row _ _ 3 _ _ _ hA
  have d4 : w3.cell? ⟨w.heap.size, 4, none⟩ = some (.int .i64 far) := cell_of_row _ _ 4 _ _ _ hA
  have d5 : w3.cell? ⟨w.heap.size, 5, none⟩ = some (.slice a kids.length c) := cell_of_row _ _ 5 _ _ _ hA
  have d6 : w3.cell? ⟨w.heap.size, 6, none⟩ = some (.slice a2 thn.length c2) := cell_of_row _ _ 6 _ _ _ hA
  have d7 : w3.cell? ⟨w.heap.size, 7, none⟩ = some (.slice a3 els.length c3) := cell_of_row _ _ 7 _ _ _ hA
  clear hA hB
  obtain ⟨qn, hqn⟩ : ∃ q, isNameL name = q := ⟨_, rfl⟩
  rw [hqn]
  cases qn with
  | false =>
    (try simp only [])
    have HE : Hid (R = false) := by unfold Hid; rw [HO.out]; simp [hqn]
    clear HO
    go_wp2_with fail
    go_ret
    exact ⟨by rw [HE.out]; rfl, HB.out⟩
  | true =>
    (try simp only [])
    go_wp2_with fail
    (try (rename_i kk hkk; simp only [List.append_eq, List.cons_append, List.nil_append] at hkk))
    refine (l1In_any (kids.length : Int) 1 3 _).mono ?_
    rintro e w' ⟨rfl, rfl⟩
    obtain ⟨q, qk⟩ : ∃ q, inB (kids.length : Int) 1 3 = q := ⟨_, rfl⟩
    rw [qk]
    cases q with
    | false =>
      (try simp only [])
      have QK : Hid (¬ (1 ≤ kids.length ∧ kids.length ≤ 3)) := by unfold Hid; have := inB_no.1 qk; omega
      have HE : Hid (R = false) := by unfold Hid; rw [HO.out]; simp [QK.out]
      clear HO
      go_wp2_with fail
      go_ret
      exact ⟨by rw [HE.out]; rfl, HB.out⟩
    | true =>
      (try simp only [])
      have QK : Hid (1 ≤ kids.length ∧ kids.length ≤ 3) := by unfold Hid; have := inB_iff.1 qk; omega
      by_cases qnum : num = 0
      · skip
        by_cases qfar : far = 0
        · skip
          go_wp2_with fail
          (try (rename_i kk hkk; simp only [List.append_eq, List.cons_append, List.nil_append] at hkk))
          refine (l1In_any op 1 4 _).mono ?_
          rintro e w' ⟨rfl, rfl⟩
          obtain ⟨q, qop⟩ : ∃ q, inB op 1 4 = q := ⟨_, rfl⟩
          rw [qop]
          cases q with
          | false =>
            (try simp only [])
            have HE : Hid (R = false) := by unfold Hid; rw [HO.out]; simp [qop]
            clear HO
            go_wp2_with fail
            go_ret
            exact ⟨by rw [HE.out]; rfl, HB.out⟩
          | true =>
            (try simp only [])
            by_cases qels : els = []
            · rw [qels] at HR3
              simp only [List.length_nil] at HR3
              by_cases qthn : thn = []
              · rw [qthn] at HR2
                simp only [List.length_nil] at HR2
                go_wp2_with fail
                (try (rename_i kk hkk; simp only [List.append_eq, List.cons_append, List.nil_append] at hkk))
                refine (HR1.out _ HB.out).mono ?_
                rintro e w4 ⟨rfl, hb⟩
                have hA := blk HA.out hb
                have hB := HB.out.trans (hb.mono HB.out.size)
                clear HA HB hb d0 d1 d2 d3 d4 d5 d6 d7
                have HA : Hid (w4.heap[w.heap.size]? = some (.cells #[.int .i64 11, .int .i64 op, .string (bs name), .int .i64 num, .int .i64 far, .slice a kids.length c, .slice a2 thn.length c2, .slice a3 els.length c3] 111 (0, 0))) := hA
                have HB : Hid (Below w.heap.size w w4) := hB
                have d0 : w4.cell? ⟨w.heap.size, 0, none⟩ = some (.int .i64 11) := cell_of_row _ _ 0 _ _ _ hA
                have d1 : w4.cell? ⟨w.heap.size, 1, none⟩ = some (.int .i64 op) := cell_of_row _ _ 1 _ _ _ hA
                have d2 : w4.cell? ⟨w.heap.size, 2, none⟩ = some (.string (bs name)) := cell_of_row _ _ 2 _ _ _ hA
                have d3 : w4.cell? ⟨w.heap.size, 3, none⟩ = some (.int .i64 num) := cell_of_row _ _ 3 _ _ _ hA
                have d4 : w4.cell? ⟨w.heap.size, 4, none⟩ = some (.int .i64 far) := cell_of_row _ _ 4 _ _ _ hA
                have d5 : w4.cell? ⟨w.heap.size, 5, none⟩ = some (.slice a kids.length c) := cell_of_row _ _ 5 _ _ _ hA
                have d6 : w4.cell? ⟨w.heap.size, 6, none⟩ = some (.slice a2 thn.length c2) := cell_of_row _ _ 6 _ _ _ hA
                have d7 : w4.cell? ⟨w.heap.size, 7, none⟩ = some (.slice a3 els.length c3) := cell_of_row _ _ 7 _ _ _ hA
                clear hA hB
                cases r1 with
                | false =>
                  (try simp only [])
                  have HE : Hid (R = false) := by unfold Hid; rw [HO.out]; simp []
                  clear HO
                  go_wp2_with fail
                  go_ret
                  exact ⟨by rw [HE.out]; rfl, HB.out⟩
                | true =>
                  (try simp only [])
                  go_wp2_with fail
                  refine (HR2.out _ HB.out).mono ?_
                  rintro e w5 ⟨rfl, hb⟩
                  have hA := blk HA.out hb
                  have hB := HB.out.trans (hb.mono HB.out.size)
                  clear HA HB hb d0 d1 d2 d3 d4 d5 d6 d7
                  have HA : Hid (w5.heap[w.heap.size]? = some (.cells #[.int .i64 11, .int .i64 op, .string (bs name), .int .i64 num, .int .i64 far, .slice a kids.length c, .slice a2 thn.length c2, .slice a3 els.length c3] 111 (0, 0))) := hA
                  have HB : Hid (Below w.heap.size w w5) := hB
                  have d0 : w5.cell? ⟨w.heap.size, 0, none⟩ = some (.int .i64 11) := cell_of_row _ _ 0 _ _ _ hA
                  have d1 : w5.cell? ⟨w.heap.size, 1, none⟩ = some (.int .i64 op) := cell_of_row _ _ 1 _ _ _ hA
                  have d2 : w5.cell? ⟨w.heap.size, 2, none⟩ = some (.string (bs name)) := cell_of_row _ _ 2 _ _ _ hA
                  have d3 : w5.cell? ⟨w.heap.size, 3, none⟩ = some (.int .i64 num) := cell_of_row _ _ 3 _ _ _ hA
                  have d4 : w5.cell? ⟨w.heap.size, 4, none⟩ = some (.int .i64 far) := cell_of_row _ _ 4 _ _ _ hA
                  have d5 : w5.cell? ⟨w.heap.size, 5, none⟩ = some (.slice a kids.length c) := cell_of_row _ _ 5 _ _ _ hA
                  have d6 : w5.cell? ⟨w.heap.size, 6, none⟩ = some (.slice a2 thn.length c2) := cell_of_row _ _ 6 _ _ _ hA
                  have d7 : w5.cell? ⟨w.heap.size, 7, none⟩ = some (.slice a3 els.length c3) := cell_of_row _ _ 7 _ _ _ hA
                  clear hA hB
                  cases r2 with
                  | false =>
                    (try simp only [])
                    have HE : Hid (R = false) := by unfold Hid; rw [HO.out]; simp []
                    clear HO
                    go_wp2_with fail
                    go_ret
                    exact ⟨by rw [HE.out]; rfl, HB.out⟩
                  | true =>
                    (try simp only [])
                    go_wp2_with fail
                    refine (HR3.out _ HB.out).mono ?_
                    rintro e w6 ⟨rfl, hb⟩
                    have hA := blk HA.out hb
                    have hB := HB.out.trans (hb.mono HB.out.size)
                    clear HA HB hb d0 d1 d2 d3 d4 d5 d6 d7
                    have HA : Hid (w6.heap[w.heap.size]? = some (.cells #[.int .i64 11, .int .i64 op, .string (bs name), .int .i64 num, .int .i64 far, .slice a kids.length c, .slice a2 thn.length c2, .slice a3 els.length c3] 111 (0, 0))) := hA
                    have HB : Hid (Below w.heap.size w w6) := hB
                    have d0 : w6.cell? ⟨w.heap.size, 0, none⟩ = some (.int .i64 11) := cell_of_row _ _ 0 _ _ _ hA
                    have d1 : w6.cell? ⟨w.heap.size, 1, none⟩ = some (.int .i64 op) := cell_of_row _ _ 1 _ _ _ hA
                    have d2 : w6.cell? ⟨w.heap.size, 2, none⟩ = some (.string (bs name)) := cell_of_row _ _ 2 _ _ _ hA
                    have d3 : w6.cell? ⟨w.heap.size, 3, none⟩ = some (.int .i64 num) := cell_of_row _ _ 3 _ _ _ hA
                    have d4 : w6.cell? ⟨w.heap.size, 4, none⟩ = some (.int .i64 far) := cell_of_row _ _ 4 _ _ _ hA
                    have d5 : w6.cell? ⟨w.heap.size, 5, none⟩ = some (.slice a kids.length c) := cell_of_row _ _ 5 _ _ _ hA
                    have d6 : w6.cell? ⟨w.heap.size, 6, none⟩ = some (.slice a2 thn.length c2) := cell_of_row _ _ 6 _ _ _ hA
                    have d7 : w6.cell? ⟨w.heap.size, 7, none⟩ = some (.slice a3 els.length c3) := cell_of_row _ _ 7 _ _ _ hA
                    clear hA hB
                    have HE : Hid (R = r3) := by unfold Hid; rw [HO.out]; simp [hqn, QK.out, qnum, qfar, qop, qels, qthn]
                    clear HO
                    go_wp2_with fail
                    go_ret
                    exact ⟨by rw [HE.out]; rfl, HB.out⟩
              · have hz : 0 < thn.length := List.length_pos_iff.2 qthn
                have hz3 : decide ((0 : Int) < ((thn.length : Nat) : Int)) = true := decide_eq_true (by omega)
                have HE : Hid (R = false) := by unfold Hid; rw [HO.out]; simp [qthn]
                clear HO
                go_wp2_with fail
                go_ret
                exact ⟨by rw [HE.out]; rfl, HB.out⟩
            · have hz : 0 < els.length := List.length_pos_iff.2 qels
              have hz3 : decide ((0 : Int) < ((els.length : Nat) : Int)) = true := decide_eq_true (by omega)
              have HE : Hid (R = false) := by unfold Hid; rw [HO.out]; simp [qels]
              clear HO
              go_wp2_with fail
              go_ret
              exact ⟨by rw [HE.out]; rfl, HB.out⟩
        · have hz1 : (far == 0) = false := by simpa using qfar
          have hz2 : decide (far = 0) = false := decide_eq_false qfar
          have HE : Hid (R = false) := by unfold Hid; rw [HO.out]; simp [qfar]
          clear HO
          go_wp2_with fail
          go_ret
          exact ⟨by rw [HE.out]; rfl, HB.out⟩
      · have hz1 : (num == 0) = false := by simpa using qnum
        have hz2 : decide (num = 0) = false := decide_eq_false qnum
        have HE : Hid (R = false) := by unfold Hid; rw [HO.out]; simp [qnum]
        clear HO
        go_wp2_with fail
        go_ret
        exact ⟨by rw [HE.out]; rfl, HB.out⟩
end Go.Proofs.YtdnhmpemkpjcaaaGreatDoor
namespace Go.Proofs.YtdnhmpemkpjcaaaGreatDoor
open Go.RowKit
set_option linter.unusedVariables false
attribute [local go_sem] bs_size bs_get bs_extract bs_append bs_eq bs_toList

set_option maxHeartbeats 3200000 in
set_option maxRecDepth 100000 in
theorem rgt0 (R : Bool) (p at_ : Nat) (b o cn : Nat) (nn : Nat) (K op : Int) (name : List UInt8) (num far : Int) (kids thn els : List Int) (a a2 a3 : Option Addr) (c c2 c3 : Nat) (w : World) (hK : inB K 1 11 = false) (hR : R = false)
    (hat : at_ < nn) (hp1 : w.cell? ⟨p, 1, none⟩ = some (.slice (some ⟨b, o, none⟩) nn cn))
    (hc : NodeCells w b (o + at_ * 8) ⟨K, op, name, num, far, kids, thn, els⟩ (.slice a kids.length c) (.slice a2 thn.length c2) (.slice a3 els.length c3)) :
    Calls Tryz.prog 118 #[.pointer (some ⟨p, 0, none⟩), .int .i64 at_] w fun e w' => e = .returned (.bool R) ∧ Below w.heap.size w w' := by
  obtain ⟨d0, d1, d2, d3, d4, d5, d6, d7⟩ := hc
  have HW0 : Hid (∀ w, Calls Tryz.prog 64 #[.int .i64 K, .int .i64 1, .int .i64 11] w fun e w' => e = .returned (.bool false) ∧ w' = w) := fun w => by have h := l1In_any K 1 11 w; rwa [hK] at h
  have HR : Hid (R = false) := hR
  have hI0 : (0 : Int) ≤ (at_ : Int) := by omega
  have hI1 : (at_ : Int) < (nn : Int) := by omega
  clear hK hR
  simp only at d0 d1 d2 d3 d4 d5 d6 d7
  go_enter Tryz.func118, Tryz.ntmps118
  go_wp2_with fail
  have hB : Below w.heap.size w (w.alloc (.cells #[.int .i64 K, .int .i64 op, .string (bs name), .int .i64 num, .int .i64 far, .slice a kids.length c, .slice a2 thn.length c2, .slice a3 els.length c3] 111)) := (Below.refl _ _).alloc (Nat.le_refl _) _
  generalize w.alloc (.cells #[.int .i64 K, .int .i64 op, .string (bs name), .int .i64 num, .int .i64 far, .slice a kids.length c, .slice a2 thn.length c2, .slice a3 els.length c3] 111) = W at *
  refine (HW0.out _).mono ?_
  rintro e w1 ⟨rfl, rfl⟩
  go_wp2_with fail
  go_ret
  exact ⟨by rw [HR.out]; rfl, hB⟩

set_option maxHeartbeats 3200000 in
theorem l4Right_any (lo p : Nat) (vv vn vb : Value) (T : LTree) (k : Nat) (w : World) (h : TreeP lo w p vv vn vb T) (hS : Sized 1048576 T) (hn : T.nodes.length ≤ 200) (hk : k < T.nodes.length) :
    Calls Tryz.prog 118 #[.pointer (some ⟨p, 0, none⟩), .int .i64 k] w fun e w' => e = .returned (.bool (rightB T.nodes k)) ∧ Below w.heap.size w w' := by
  obtain ⟨an, cn, rfl, _, hhn⟩ := id h.tree.nodes
  obtain ⟨b, o, rfl, _, hc2⟩ := hhn (by intro e; rw [e] at hk; simp at hk)
  obtain ⟨y, hy⟩ : ∃ y, T.nodes[k]? = some y := ⟨T.nodes[k], List.getElem?_eq_getElem hk⟩
  obtain ⟨vk, vt, ve, hcs, hvs⟩ := hc2 k y hy
  have hsz := hS.node y (List.mem_of_getElem? hy)
  have hgd : T.nodes.getD k default = y := by rw [List.getD_eq_getElem?_getD, hy]; rfl
  have hR : ∀ (v : Value) (l : List Int) (e : Bool), IntsV lo w v l → l.length ≤ 1048576 → ∀ W, Below w.heap.size w W → Calls Tryz.prog 119 #[.pointer (some ⟨p, 0, none⟩), .int .i64 k, v, .bool e] W fun e' w' => e' = .returned (.bool (refsB T.nodes k l e)) ∧ Below W.heap.size W w' :=
    fun v l e hv hl W hb => l4Refs_any lo p _ _ _ v T k l e lo W (h.below hb) (by omega) hn (hv.below hb) hl
  have h1 := hR vk y.kids true hvs.kids hsz.2.1
  have h2 := hR vt y.thn false hvs.thn hsz.2.2.1
  have h3 := hR ve y.els false hvs.els hsz.2.2.2
  have hO : rightB T.nodes k = (ownB y && refsB T.nodes k y.kids true && refsB T.nodes k y.thn false && refsB T.nodes k y.els false) := by rw [rightB_eq, hgd]
  obtain ⟨ak, ck, rfl, _⟩ := id hvs.kids
  obtain ⟨at2, ct, rfl, _⟩ := id hvs.thn
  obtain ⟨ae, ce, rfl, _⟩ := id hvs.els
  obtain ⟨K, op, name, num, far, kids, thn, els⟩ := y
  have hcs2 := hcs
  obtain ⟨d0, d1, d2, d3, d4, d5, d6, d7⟩ := hcs
  by_cases hK : inB K 1 11 = true
  · have hh := inB_iff.1 hK
    have : K = 1 ∨ K = 2 ∨ K = 3 ∨ K = 4 ∨ K = 5 ∨ K = 6 ∨ K = 7 ∨ K = 8 ∨ K = 9 ∨ K = 10 ∨ K = 11 := by omega
    rcases this with rfl | rfl | rfl | rfl | rfl | rfl | rfl | rfl | rfl | rfl | rfl
    · exact rgt1 _ p k b o cn T.nodes.length vv vb op name num far kids thn els ak at2 ae ck ct ce w hsz.1 hsz.2.1 hsz.2.2.1 hsz.2.2.2 _ _ _ (by rw [hO, ownK1]) hk h.c1 d0 d1 d2 d3 d4 d5 d6 d7 h1 h2 h3
    · exact rgt2 _ p k b o cn T.nodes.length vv vb op name num far kids thn els ak at2 ae ck ct ce w hsz.1 hsz.2.1 hsz.2.2.1 hsz.2.2.2 _ _ _ (by rw [hO, ownK2]) hk h.c1 d0 d1 d2 d3 d4 d5 d6 d7 h1 h2 h3
    · exact rgt3 _ p k b o cn T.nodes.length vv vb op name num far kids thn els ak at2 ae ck ct ce w hsz.1 hsz.2.1 hsz.2.2.1 hsz.2.2.2 _ _ _ (by rw [hO, ownK3]) hk h.c1 d0 d1 d2 d3 d4 d5 d6 d7 h1 h2 h3
    · exact rgt4 _ p k b o cn T.nodes.length vv vb op name num far kids thn els ak at2 ae ck ct ce w hsz.1 hsz.2.1 hsz.2.2.1 hsz.2.2.2 _ _ _ (by rw [hO, ownK4]) hk h.c1 d0 d1 d2 d3 d4 d5 d6 d7 h1 h2 h3
    · exact rgt5 _ p k b o cn T.nodes.length vv vb op name num far kids thn els ak at2 ae ck ct ce w hsz.1 hsz.2.1 hsz.2.2.1 hsz.2.2.2 _ _ _ (by rw [hO, ownK5]) hk h.c1 d0 d1 d2 d3 d4 d5 d6 d7 h1 h2 h3
    · exact rgt6 _ p k b o cn T.nodes.length vv vb op name num far kids thn els ak at2 ae ck ct ce w hsz.1 hsz.2.1 hsz.2.2.1 hsz.2.2.2 _ _ _ (by rw [hO, ownK6]) hk h.c1 d0 d1 d2 d3 d4 d5 d6 d7 h1 h2 h3
    · exact rgt7 _ p k b o cn T.nodes.length vv vb op name num far kids thn els ak at2 ae ck ct ce w hsz.1 hsz.2.1 hsz.2.2.1 hsz.2.2.2 _ _ _ (by rw [hO, ownK7]) hk h.c1 d0 d1 d2 d3 d4 d5 d6 d7 h1 h2 h3
    · exact rgt8 _ p k b o cn T.nodes.length vv vb op name num far kids thn els ak at2 ae ck ct ce w hsz.1 hsz.2.1 hsz.2.2.1 hsz.2.2.2 _ _ _ (by rw [hO, ownK8]) hk h.c1 d0 d1 d2 d3 d4 d5 d6 d7 h1 h2 h3
    · exact rgt9 _ p k b o cn T.nodes.length vv vb op name num far kids thn els ak at2 ae ck ct ce w hsz.1 hsz.2.1 hsz.2.2.1 hsz.2.2.2 _ _ _ (by rw [hO, ownK9]) hk h.c1 d0 d1 d2 d3 d4 d5 d6 d7 h1 h2 h3
    · exact rgt10 _ p k b o cn T.nodes.length vv vb op name num far kids thn els ak at2 ae ck ct ce w hsz.1 hsz.2.1 hsz.2.2.1 hsz.2.2.2 _ _ _ (by rw [hO, ownK10]) hk h.c1 d0 d1 d2 d3 d4 d5 d6 d7 h1 h2 h3
    · exact rgt11 _ p k b o cn T.nodes.length vv vb op name num far kids thn els ak at2 ae ck ct ce w hsz.1 hsz.2.1 hsz.2.2.1 hsz.2.2.2 _ _ _ (by rw [hO, ownK11]) hk h.c1 d0 d1 d2 d3 d4 d5 d6 d7 h1 h2 h3
  · have hK : inB K 1 11 = false := by simpa using hK
    exact rgt0 _ p k b o cn T.nodes.length K op name num far kids thn els ak at2 ae ck ct ce w hK (by rw [hO]; unfold ownB; simp only [hK, Bool.false_and]) hk h.c1 hcs2

end Go.Proofs.YtdnhmpemkpjcaaaGreatDoor
namespace Go.Proofs.YtdnhmpemkpjcaaaGreatDoor
open Go.RowKit
set_option linter.unusedVariables false

/-- a function of a tree and a number that answers a code, a node and a type -/
def TreeAt3 (f : FuncId) (R : LTree → Int → Int × Met) : Prop := ∀ (lo : Nat) (vv vn vb : Value) (T : LTree) (k : Int) (w : World), TreeV lo w vv vn vb T → Sized 1048576 T →
  Calls Tryz.prog f #[treeV vv vn vb, .int .i64 k] w fun e w' => e = .returned (.agg #[.int .i64 (R T k).2.1, .int .i64 (R T k).2.2, .int .i64 (R T k).1]) ∧ Below w.heap.size w w'
theorem specTypeOf : TreeAt3 18 tyoT := fun lo vv vn vb T k w h hS =>
  specTypeOf_of lo vv vn vb T k w h (fun p w' hp => l4Fault_any lo p vv vn vb T w' hp hS (fun hn k W hb hk => l4Right_any lo p vv vn vb T k W (hp.below hb) hS hn hk))
end Go.Proofs.YtdnhmpemkpjcaaaGreatDoor
namespace Go.Proofs.YtdnhmpemkpjcaaaGreatDoor
open Go.RowKit
set_option linter.unusedVariables false
attribute [local go_sem] bs_size bs_get bs_extract bs_append bs_eq bs_toList

/-- what impl's typeOf tells of an expression, as spec's check has it -/
theorem tyo_expr {T : LTree} {j : Nat} (h0 : faultL T = 0) (hj : j < T.nodes.length) (he : exprN (nodeOf T.nodes (j : Int)) = true) :
    ∃ f, T.nodes.length = f + 1 ∧ tyoR (typeT (allL 3 T) T (j : Int) (0, 0)) = if (metT (allL 0 T) T (f + 1) (j : Int)).1 = 0 then (plainT (allL 0 T) (nodeOf T.nodes (j : Int)), (0, 0)) else (0, metT (allL 0 T) T (f + 1) (j : Int)) := by
  obtain ⟨f, hf⟩ : ∃ f, T.nodes.length = f + 1 := ⟨T.nodes.length - 1, by omega⟩
  refine ⟨f, hf, ?_⟩
  unfold typeT metT
  rw [typeF_kind, hf]
  unfold tyoR
  by_cases hz : (typeF (allL 0 T) T.vars.length T.nodes (f + 1) (j : Int) (0, 0)).2.1 = 0
  · rw [if_pos hz, if_pos hz, typeF_plain f (j : Int) 0 (expr_to he) hz]
  · rw [if_neg hz, if_neg hz]

theorem three_alloc {w : World} {b : Nat} {T : TypeId} {a0 a1 a2 : Value} (x y z : Value) (o : Obj) (h : w.heap[b]? = some (.cells #[a0, a1, a2] T (0, 0))) : ((((w.setCell ⟨b, 0, none⟩ x).setCell ⟨b, 1, none⟩ y).setCell ⟨b, 2, none⟩ z).alloc o).heap[b]? = some (.cells #[x, y, z] T (0, 0)) := by
  rw [Below.heap_alloc _ _ _ (by have := blk_lt h; simp; omega)]
  rw [heap_setCell_same _ _ _ _ _ _ (heap_setCell_same _ _ _ _ _ _ (heap_setCell_same _ _ _ _ _ _ h))]
  rfl

/-- a function of a tree and a number that answers a code, a node and a type; the variable errors.errorType is laid -/
def TreeAt3G (f : FuncId) (R : LTree → Int → Int × Met) : Prop := ∀ (lo : Nat) (vv vn vb : Value) (T : LTree) (k : Int) (w : World), TreeV lo w vv vn vb T → Sized 1048576 T → ErrT w →
  Calls Tryz.prog f #[treeV vv vn vb, .int .i64 k] w fun e w' => e = .returned (.agg #[.int .i64 (R T k).2.1, .int .i64 (R T k).2.2, .int .i64 (R T k).1]) ∧ Below w.heap.size w w'

set_option maxHeartbeats 6400000 in
set_option maxRecDepth 100000 in
theorem implTypeOf : TreeAt3G 20 tyoT := by
  intro lo vv vn vb T k w h hS hE
  have hlen := hS.nodes
  obtain ⟨av, cv, rfl, _⟩ := id h.vars
  obtain ⟨an, cn, rfl, _⟩ := id h.nodes
  obtain ⟨ab, cb, rfl, _⟩ := id h.body
  have HF : Hid (∀ (w' : World), Below w.heap.size w w' → Calls Tryz.prog 49 #[treeV (.slice av T.vars.length cv) (.slice an T.nodes.length cn) (.slice ab T.body.length cb)] w' fun e w2 => e = .returned (.int .i64 (faultL T)) ∧ Below w'.heap.size w' w2) := fun w' hb =>
    implTreeFault lo _ _ _ T w' (h.below hb) hS
  have HNC : Hid (∀ (w' : World), Below w.heap.size w w' → faultL T = 0 → Calls Tryz.prog 72 #[.agg #[.slice av T.vars.length cv, .slice an T.nodes.length cn, .slice ab T.body.length cb]] w' fun e w2 => (∃ cp mp, e = .returned (.pointer (some ⟨cp, 0, none⟩)) ∧ CkE lo w2 cp mp (.slice an T.nodes.length cn) (.slice none 0 0) T (allL 0 T)) ∧ Below w'.heap.size w' w2) := fun w' hb h0 =>
    newChecker_any lo _ _ _ T w' (h.below hb) (good_of h0)
  have HTY : Hid (faultL T = 0 → ∀ (cp mp j : Nat), j < T.nodes.length → exprN (nodeOf T.nodes (j : Int)) = true → ∀ f, T.nodes.length = f + 1 → ITypeC lo cp mp (.slice an T.nodes.length cn) (.slice none 0 0) T (allL 0 T) (f + 1) j) := fun h0 cp mp j hj he f hf =>
    typeOf_all lo cp mp _ _ T (allL 0 T) (types_ok (good_of h0) 0) (fits_of h0) (names_small hS) j hj (expr_to he) f (by omega)
  have HT : Hid (TreeV lo w (.slice av T.vars.length cv) (.slice an T.nodes.length cn) (.slice ab T.body.length cb) T) := h
  have HER : Hid (∀ w', Below w.heap.size w w' → ErrT w') := fun w' hb => hE.kept hb
  have HC : Hid (tyoT T k = if faultL T ≠ 0 then (0, (faultL T, -1)) else if (inB k 0 ((T.nodes.length : Int) - 1) && exprN (nodeOf T.nodes k)) = false then (0, (3, -1)) else tyoR (typeT (allL 3 T) T k (0, 0))) := rfl
  have HGD : Hid (faultL T = 0 → T.nodes.length ≤ 200) := fun h => (good_of h).nodes
  clear h hS hE
  obtain ⟨q, hq⟩ : ∃ q, inB k 0 ((T.nodes.length : Int) - 1) = q := ⟨_, rfl⟩
  have hI : Hid (∀ w, Calls Tryz.prog 70 #[.slice an T.nodes.length cn, .int .i64 k] w fun e w' => e = .returned (.bool q) ∧ w' = w) := fun w => by have h := isPlace_any an T.nodes.length cn k w (by omega); rwa [hq] at h
  obtain ⟨R, hR⟩ : ∃ R, R = tyoT T k := ⟨_, rfl⟩
  rw [← hR] at HC ⊢
  clear hR
  go_enter Tryz.func20, Tryz.ntmps20
  go_wp2_with fail
  obtain ⟨hA, hA2, hB⟩ := three_start w (.slice av T.vars.length cv) (.slice an T.nodes.length cn) (.slice ab T.body.length cb) 28 50
  generalize ((w.alloc (.cells #[.slice av T.vars.length cv, .slice an T.nodes.length cn, .slice ab T.body.length cb] 28)).alloc (.cells #[.int .i64 0, .int .i64 0, .int .i64 0] 50)) = W at *
  refine (HF.out _ hB).mono ?_
  rintro e w2 ⟨rfl, hb⟩
  have HA : Hid (w2.heap[w.heap.size]? = some (.cells #[.slice av T.vars.length cv, .slice an T.nodes.length cn, .slice ab T.body.length cb] 28 (0, 0))) := blk hA hb
  have HA2 : Hid (w2.heap[w.heap.size + 1]? = some (.cells #[.int .i64 0, .int .i64 0, .int .i64 0] 50 (0, 0))) := blk hA2 hb
  have HB : Hid (Below w.heap.size w w2) := hB.trans (hb.mono hB.size)
  clear hA hA2 hB hb HF
  have p1 : w2.cell? ⟨w.heap.size, 1, none⟩ = some (.slice an T.nodes.length cn) := cell_of_row _ _ 1 _ _ _ HA.out
  have r0 := cell_of_row _ _ 0 _ _ _ HA2.out
  have r1 := cell_of_row _ _ 1 _ _ _ HA2.out
  have r2 := cell_of_row _ _ 2 _ _ _ HA2.out
  have f0 := frozen_of_row _ _ 0 _ _ HA2.out
  have f1 := frozen_of_row _ _ 1 _ _ HA2.out
  have f2 := frozen_of_row _ _ 2 _ _ HA2.out
  simp at r0 r1 r2 f0 f1 f2
  obtain ⟨F, hF⟩ : ∃ F, faultL T = F := ⟨_, rfl⟩
  rw [hF]
  by_cases hz : F = 0
  · subst hz
    have hnl := HGD.out hF
    cases q with
    | false =>
      have HCV : Hid (R = (0, (3, -1))) := by unfold Hid; rw [HC.out, hF, hq, if_neg (by simp), Bool.false_and, if_pos rfl]
      clear hF hq HC HTY HNC HGD
      go_wp2_with fail
      refine (hI.out _).mono ?_
      rintro e w3 ⟨rfl, rfl⟩
      go_wp2_with fail
      refine bodyPost_ret (v := .agg #[.int .i64 3, .int .i64 (-1), .int .i64 0]) (by simp [results, Tryz.results20, go_sem, r0, r1, r2]) rfl ⟨by rw [HCV.out], ((HB.out.setCell (by simp) _).setCell (by simp) _).setCell (by simp) _⟩
    | true =>
      have hq2 := inB_iff.1 hq
      obtain ⟨j, rfl⟩ : ∃ j : Nat, k = j := ⟨k.toNat, by omega⟩
      have hj : j < T.nodes.length := by omega
      have HTP : Hid (TreeP lo w2 w.heap.size (.slice av T.vars.length cv) (.slice an T.nodes.length cn) (.slice ab T.body.length cb) T) := ⟨cell_of_row _ _ 0 _ _ _ HA.out, cell_of_row _ _ 1 _ _ _ HA.out, cell_of_row _ _ 2 _ _ _ HA.out, HT.out.below HB.out⟩
      have HC1 : Hid (R = if exprN (nodeOf T.nodes (j : Int)) = false then (0, (3, -1)) else tyoR (typeT (allL 3 T) T (j : Int) (0, 0))) := by unfold Hid; rw [HC.out, hF, hq, if_neg (by simp), Bool.true_and]
      have HFZ : Hid (faultL T = 0) := hF
      obtain ⟨bn, on, rfl, vk, vt, ve, ⟨d0, d1, d2, d3, d4, d5, d6, d7⟩, _⟩ := node_at HTP.out hj
      have HEX : Hid (∀ w', Calls Tryz.prog 71 #[.int .i64 (nodeOf T.nodes (j : Int)).kind] w' fun e w2 => e = .returned (.bool (exprN (nodeOf T.nodes (j : Int)))) ∧ w2 = w') := fun w' => isExpression_any _ w'
      have HEN : Hid (∀ w', Below w2.heap.size w2 w' → Calls Tryz.prog 72 #[.agg #[.slice av T.vars.length cv, .slice (some ⟨bn, on, none⟩) T.nodes.length cn, .slice ab T.body.length cb]] w' fun e w3 => (∃ cp mp, e = .returned (.pointer (some ⟨cp, 0, none⟩)) ∧ CkE lo w3 cp mp (.slice (some ⟨bn, on, none⟩) T.nodes.length cn) (.slice none 0 0) T (allL 0 T)) ∧ Below w'.heap.size w' w3) := fun w' hb => HNC.out w' (HB.out.trans (hb.mono HB.out.size)) hF
      obtain ⟨K, hK⟩ : ∃ K, K = (nodeOf T.nodes (j : Int)).kind := ⟨_, rfl⟩
      rw [← hK] at d0 HEX
      obtain ⟨q3, hq3⟩ : ∃ q3, exprN (nodeOf T.nodes (j : Int)) = q3 := ⟨_, rfl⟩
      have HQ3 : Hid (exprN (nodeOf T.nodes (j : Int)) = q3) := hq3
      rw [hq3] at HEX HC1
      have hj0 : (0 : Int) ≤ (j : Int) := by omega
      have hj1 : (j : Int) < (T.nodes.length : Int) := by omega
      have HA0 : w2.cell? ⟨w.heap.size, 0, none⟩ = some (.slice av T.vars.length cv) := cell_of_row _ _ 0 _ _ _ HA.out
      have HA3 : w2.cell? ⟨w.heap.size, 2, none⟩ = some (.slice ab T.body.length cb) := cell_of_row _ _ 2 _ _ _ HA.out
      clear hF hq hq2 HC HGD hq3 hK d1 d2 d3 d4 d5 d6 d7 HNC HTP
      cases q3 with
      | false =>
        have HCV : Hid (R = (0, (3, -1))) := by unfold Hid; rw [HC1.out, if_pos rfl]
        clear HC1 HTY HEN
        go_wp2_with fail
        refine (hI.out _).mono ?_
        rintro e w3 ⟨rfl, rfl⟩
        go_wp2_with fail
        refine (HEX.out _).mono ?_
        rintro e w4 ⟨rfl, rfl⟩
        go_wp2_with fail
        refine bodyPost_ret (v := .agg #[.int .i64 3, .int .i64 (-1), .int .i64 0]) (by simp [results, Tryz.results20, go_sem, r0, r1, r2]) rfl ⟨by rw [HCV.out], ((HB.out.setCell (by simp) _).setCell (by simp) _).setCell (by simp) _⟩
      | true =>
        obtain ⟨f, hf, htyo⟩ := tyo_expr HFZ.out hj HQ3.out
        have HCV : Hid (R = if (metT (allL 0 T) T (f + 1) (j : Int)).1 = 0 then (plainT (allL 0 T) (nodeOf T.nodes (j : Int)), (0, 0)) else (0, metT (allL 0 T) T (f + 1) (j : Int))) := by unfold Hid; rw [HC1.out, if_neg (by simp), htyo]
        have HTC : Hid (∀ (cp mp : Nat) (W : World), CkE lo W cp mp (.slice (some ⟨bn, on, none⟩) T.nodes.length cn) (.slice none 0 0) T (allL 0 T) → Calls Tryz.prog 73 #[.pointer (some ⟨cp, 0, none⟩), .int .i64 (j : Int)] W fun e w' => e = .returned (.tuple #[.int .i64 (if (metT (allL 0 T) T (f + 1) (j : Int)).1 = 0 then plainT (allL 0 T) (nodeOf T.nodes (j : Int)) else 0), errV (metT (allL 0 T) T (f + 1) (j : Int))]) ∧ Below W.heap.size W w') := fun cp mp W hW => HTY.out HFZ.out cp mp j hj HQ3.out f hf W hW
        clear HC1 htyo hf HTY HFZ HQ3
        generalize plainT (allL 0 T) (nodeOf T.nodes (j : Int)) = g at *
        generalize metT (allL 0 T) T (f + 1) (j : Int) = m at *
        obtain ⟨s1, s2⟩ := m
        go_wp2_with fail
        refine (hI.out _).mono ?_
        rintro e w3 ⟨rfl, rfl⟩
        go_wp2_with fail
        refine (HEX.out _).mono ?_
        rintro e w4 ⟨rfl, rfl⟩
        clear d0 hI HEX
        go_wp2_with fail
        refine (HEN.out _ (Below.refl _ _)).mono ?_
        rintro e w5 ⟨⟨cp, mp, rfl, hck⟩, hb5⟩
        have HB5 : Hid (Below w.heap.size w w5) := HB.out.trans (hb5.mono HB.out.size)
        have HA5 : Hid (w5.heap[w.heap.size + 1]? = some (.cells #[.int .i64 0, .int .i64 0, .int .i64 0] 50 (0, 0))) := blk HA2.out hb5
        have HT5 := HTC.out cp mp w5 hck
        clear hb5 hck HEN HTC p1 r0 r1 r2 f0 f1 f2 HA0 HA3 HB HA2
        by_cases hs : s1 = 0
        · subst hs
          have HCW : Hid (R = (g, (0, 0))) := by unfold Hid; rw [HCV.out, if_pos rfl]
          rw [if_pos rfl, errV_zero rfl] at HT5
          have HTY : Hid (Calls Tryz.prog 73 #[.pointer (some ⟨cp, 0, none⟩), .int .i64 (j : Int)] w5 fun e w' => e = .returned (.tuple #[.int .i64 g, .nilIface]) ∧ Below w5.heap.size w5 w') := HT5
          clear HT5 HCV
          go_wp2_with fail
          refine HTY.out.mono ?_
          rintro e w6 ⟨rfl, hb6⟩
          have HB6 : Hid (Below w.heap.size w w6) := HB5.out.trans (hb6.mono HB5.out.size)
          have HA6 : Hid (w6.heap[w.heap.size + 1]? = some (.cells #[.int .i64 0, .int .i64 0, .int .i64 0] 50 (0, 0))) := blk HA5.out hb6
          clear hb6 HTY HB5 HA5
          go_wp2_with fail
          refine (misfit_nil _).mono ?_
          rintro e w7 ⟨rfl, hb7⟩
          have HB7 : Hid (Below w.heap.size w w7) := HB6.out.trans (hb7.mono HB6.out.size)
          have hA7 := blk HA6.out hb7
          have hl7 := blk_lt hA7
          have r0 := cell_of_row _ _ 0 _ _ _ hA7
          have r1 := cell_of_row _ _ 1 _ _ _ hA7
          have r2 := cell_of_row _ _ 2 _ _ _ hA7
          have f0 := frozen_of_row _ _ 0 _ _ hA7
          have f1 := frozen_of_row _ _ 1 _ _ hA7
          have f2 := frozen_of_row _ _ 2 _ _ hA7
          simp at r0 r1 r2 f0 f1 f2
          have hZ := three_alloc (.int .i64 0) (.int .i64 0) (.int .i64 g) (.cells #[.int .i64 0, .int .i64 0] 89) hA7
          have z0 := cell_of_row _ _ 0 _ _ _ hZ
          have z1 := cell_of_row _ _ 1 _ _ _ hZ
          have z2 := cell_of_row _ _ 2 _ _ _ hZ
          simp at z0 z1 z2
          clear hb7 HB6 HA6 hA7 hZ
          go_wp2_with fail
          refine bodyPost_ret (v := .agg #[.int .i64 0, .int .i64 0, .int .i64 g]) (by simp [results, Tryz.results20, go_sem, z0, z1, z2]) rfl ⟨by rw [HCW.out], ?_⟩
          have hsz := HB7.out.size
          exact (((HB7.out.setCell (by simp) _).setCell (by simp) _).setCell (by simp) _).alloc (by simp; omega) _
        · have HCW : Hid (R = (0, (s1, s2))) := by unfold Hid; rw [HCV.out, if_neg hs]
          rw [if_neg hs, errV_met hs] at HT5
          have HTY : Hid (Calls Tryz.prog 73 #[.pointer (some ⟨cp, 0, none⟩), .int .i64 (j : Int)] w5 fun e w' => e = .returned (.tuple #[.int .i64 0, .iface 89 (.agg #[.int .i64 s1, .int .i64 s2])]) ∧ Below w5.heap.size w5 w') := HT5
          clear HT5 HCV
          go_wp2_with fail
          refine HTY.out.mono ?_
          rintro e w6 ⟨rfl, hb6⟩
          have HB6 : Hid (Below w.heap.size w w6) := HB5.out.trans (hb6.mono HB5.out.size)
          have HA6 : Hid (w6.heap[w.heap.size + 1]? = some (.cells #[.int .i64 0, .int .i64 0, .int .i64 0] 50 (0, 0))) := blk HA5.out hb6
          clear hb6 HTY HB5 HA5
          go_wp2_with fail
          refine (misfit_hit s1 s2 _ (HER.out _ HB6.out)).mono ?_
          rintro e w7 ⟨rfl, hb7⟩
          have HB7 : Hid (Below w.heap.size w w7) := HB6.out.trans (hb7.mono HB6.out.size)
          have hA7 := blk HA6.out hb7
          have hl7 := blk_lt hA7
          have r0 := cell_of_row _ _ 0 _ _ _ hA7
          have r1 := cell_of_row _ _ 1 _ _ _ hA7
          have r2 := cell_of_row _ _ 2 _ _ _ hA7
          have f0 := frozen_of_row _ _ 0 _ _ hA7
          have f1 := frozen_of_row _ _ 1 _ _ hA7
          have f2 := frozen_of_row _ _ 2 _ _ hA7
          simp at r0 r1 r2 f0 f1 f2
          have hZ := three_alloc (.int .i64 s1) (.int .i64 s2) (.int .i64 0) (.cells #[.int .i64 s1, .int .i64 s2] 89) hA7
          have z0 := cell_of_row _ _ 0 _ _ _ hZ
          have z1 := cell_of_row _ _ 1 _ _ _ hZ
          have z2 := cell_of_row _ _ 2 _ _ _ hZ
          simp at z0 z1 z2
          clear hb7 HB6 HA6 hA7 hZ
          go_wp2_with fail
          refine bodyPost_ret (v := .agg #[.int .i64 s1, .int .i64 s2, .int .i64 0]) (by simp [results, Tryz.results20, go_sem, z0, z1, z2]) rfl ⟨by rw [HCW.out], ?_⟩
          have hsz := HB7.out.size
          exact (((HB7.out.setCell (by simp) _).setCell (by simp) _).setCell (by simp) _).alloc (by simp; omega) _
  · have HCV : Hid (R = (0, (F, -1))) := by unfold Hid; rw [HC.out, hF, if_pos hz]
    have hz1 : (F == 0) = false := by simpa using hz
    have hz2 : decide (F = 0) = false := decide_eq_false hz
    clear HC hF hq hI HTY HNC HGD
    go_wp2_with fail
    refine bodyPost_ret (v := .agg #[.int .i64 F, .int .i64 (-1), .int .i64 0]) (by simp [results, Tryz.results20, go_sem, r0, r1, r2]) rfl ⟨by rw [HCV.out], ((HB.out.setCell (by simp) _).setCell (by simp) _).setCell (by simp) _⟩
end Go.Proofs.YtdnhmpemkpjcaaaGreatDoor
namespace Go.Proofs.YtdnhmpemkpjcaaaGreatDoor
open Go.RowKit
set_option linter.unusedVariables false
attribute [local go_sem] bs_size bs_get bs_extract bs_append bs_eq bs_toList

set_option maxHeartbeats 800000 in
theorem eqTypeRes_any (a b c : Int) (w : World) : Calls Tryz.prog 21 #[.agg #[.int .i64 a, .int .i64 b, .int .i64 c], .agg #[.int .i64 a, .int .i64 b, .int .i64 c]] w fun e w' => e = .returned (.bool true) ∧ Below w.heap.size w w' := by
  go_enter Tryz.func21, Tryz.ntmps21
  go_wp2
  go_ret
  exact ⟨rfl, by go_grown⟩

set_option maxHeartbeats 6400000 in
set_option maxRecDepth 100000 in
theorem typeOf_law (R : LTree → Int → Int × Met) (hS : TreeAt3 18 R) (hI : TreeAt3G 20 R) (vv vn vb : Value) (T : LTree) (k : Int) (w : World) (h : IsTree w vv vn vb T) (hE : ErrT w) :
    Calls Tryz.prog 4 #[treeV vv vn vb, .int .i64 k] w fun e w' => e = .returned (.bool true) ∧ Below w.heap.size w w' := by
  obtain ⟨ht, hf⟩ := h
  obtain ⟨av, cv, rfl, _⟩ := id ht.vars
  obtain ⟨an, cn, rfl, _⟩ := id ht.nodes
  obtain ⟨ab, cb, rfl, _⟩ := id ht.body
  have HT : Hid (TreeV 0 w (.slice av T.vars.length cv) (.slice an T.nodes.length cn) (.slice ab T.body.length cb) T) := ht
  have HF : Hid (Fits T) := hf
  have HS : Hid (TreeAt3 18 R) := hS
  have HI : Hid (TreeAt3G 20 R) := hI
  have HER : Hid (∀ w', Below w.heap.size w w' → ErrT w') := fun w' hb => hE.kept hb
  have HQ : Hid (∀ (a b c : Int) (w : World), Calls Tryz.prog 21 #[.agg #[.int .i64 a, .int .i64 b, .int .i64 c], .agg #[.int .i64 a, .int .i64 b, .int .i64 c]] w fun e w' => e = .returned (.bool true) ∧ Below w.heap.size w w') := eqTypeRes_any
  clear ht hf hS hI hE
  go_enter Tryz.func4, Tryz.ntmps4
  go_wp2_with fail
  have hA := heap_alloc_new w (.cells #[.slice av T.vars.length cv, .slice an T.nodes.length cn, .slice ab T.body.length cb] 47)
  have hB : Below w.heap.size w (w.alloc (.cells #[.slice av T.vars.length cv, .slice an T.nodes.length cn, .slice ab T.body.length cb] 47)) := (Below.refl _ _).alloc (Nat.le_refl _) _
  generalize w.alloc (.cells #[.slice av T.vars.length cv, .slice an T.nodes.length cn, .slice ab T.body.length cb] 47) = W at *
  refine (szTree_any 0 T _ _ _ _ (HT.out.below hB) HF.out).mono ?_
  rintro e w1 ⟨r, rfl, hr, hb1⟩
  have HA : Hid (w1.heap[w.heap.size]? = some (.cells #[.slice av T.vars.length cv, .slice an T.nodes.length cn, .slice ab T.body.length cb] 47 (0, 0))) := blk hA hb1
  have HB : Hid (Below w.heap.size w w1) := hB.trans (hb1.mono hB.size)
  clear hb1 hA hB
  by_cases h0 : 0 ≤ r
  · have HZ : Hid (Sized 1048576 T) := hr h0
    clear hr
    have a0 := cell_of_row _ _ 0 _ _ _ HA.out
    have a1 := cell_of_row _ _ 1 _ _ _ HA.out
    have a2 := cell_of_row _ _ 2 _ _ _ HA.out
    simp at a0 a1 a2
    go_wp2_with fail
    refine (toTree_any 0 T _ _ _ _ (HT.out.below HB.out) HZ.out).mono ?_
    rintro e w2 ⟨_, _, _, rfl, ht2, hb⟩
    obtain ⟨av2, cv2, rfl, _⟩ := id ht2.vars
    obtain ⟨an2, cn2, rfl, _⟩ := id ht2.nodes
    obtain ⟨ab2, cb2, rfl, _⟩ := id ht2.body
    have hA := blk HA.out hb
    have hB := HB.out.trans (hb.mono HB.out.size)
    clear HA HB hb a0 a1 a2
    have HA : Hid _ := hA
    have HB : Hid (Below w.heap.size w w2) := hB
    have HT2 : Hid (TreeV w1.heap.size w2 (.slice av2 T.vars.length cv2) (.slice an2 T.nodes.length cn2) (.slice ab2 T.body.length cb2) T) := ht2
    clear hA hB ht2
    go_wp2_with fail
    refine (HS.out _ _ _ _ T _ _ HT2.out HZ.out).mono ?_
    rintro e w3 ⟨rfl, hb⟩
    have hA := blk HA.out hb
    have hB := HB.out.trans (hb.mono HB.out.size)
    clear HA HB hb HT2
    have HA : Hid _ := hA
    have HB : Hid (Below w.heap.size w w3) := hB
    clear hA hB
    have hbx : Below w3.heap.size w3 (w3.alloc (.cells #[.int .i64 (R T k).2.1, .int .i64 (R T k).2.2, .int .i64 (R T k).1] 50)) := (Below.refl _ _).alloc (Nat.le_refl _) _
    have HG : Hid _ := heap_alloc_new w3 (.cells #[.int .i64 (R T k).2.1, .int .i64 (R T k).2.2, .int .i64 (R T k).1] 50)
    have hA := blk HA.out hbx
    have a0 := cell_of_row _ _ 0 _ _ _ hA
    have a1 := cell_of_row _ _ 1 _ _ _ hA
    have a2 := cell_of_row _ _ 2 _ _ _ hA
    simp at a0 a1 a2
    have hB := HB.out.trans (hbx.mono HB.out.size)
    clear HA HB hbx
    have HA : Hid _ := hA
    have HB : Hid _ := hB
    clear hA hB
    go_wp2_with fail
    have hA := HA.out
    have hB := HB.out
    have hG := HG.out
    clear HA HB HG a0 a1 a2
    generalize w3.alloc (.cells #[.int .i64 (R T k).2.1, .int .i64 (R T k).2.2, .int .i64 (R T k).1] 50) = W3 at *
    generalize w3.heap.size = g3 at *
    refine (toTree_any 0 T _ _ _ _ (HT.out.below hB) HZ.out).mono ?_
    rintro e w4 ⟨_, _, _, rfl, ht4, hb⟩
    obtain ⟨av4, cv4, rfl, _⟩ := id ht4.vars
    obtain ⟨an4, cn4, rfl, _⟩ := id ht4.nodes
    obtain ⟨ab4, cb4, rfl, _⟩ := id ht4.body
    have HA : Hid _ := blk hA hb
    have HG : Hid _ := blk hG hb
    have HB : Hid (Below w.heap.size w w4) := hB.trans (hb.mono hB.size)
    have HT4 : Hid (TreeV W3.heap.size w4 (.slice av4 T.vars.length cv4) (.slice an4 T.nodes.length cn4) (.slice ab4 T.body.length cb4) T) := ht4
    clear hA hB ht4 hG hb
    go_wp2_with fail
    have hbx : Below w4.heap.size w4 (w4.alloc (.cells #[.slice av4 T.vars.length cv4, .slice an4 T.nodes.length cn4, .slice ab4 T.body.length cb4] 28)) := (Below.refl _ _).alloc (Nat.le_refl _) _
    have hX := heap_alloc_new w4 (.cells #[.slice av4 T.vars.length cv4, .slice an4 T.nodes.length cn4, .slice ab4 T.body.length cb4] 28)
    have hA := blk HA.out hbx
    have hG := blk HG.out hbx
    have hB := HB.out.trans (hbx.mono HB.out.size)
    have hT4 := HT4.out.below hbx
    clear HA HB HG HT4 hbx
    generalize w4.alloc (.cells #[.slice av4 T.vars.length cv4, .slice an4 T.nodes.length cn4, .slice ab4 T.body.length cb4] 28) = W5 at *
    generalize w4.heap.size = g4 at *
    refine (HI.out _ _ _ _ T _ _ hT4 HZ.out (HER.out _ hB)).mono ?_
    rintro e w5 ⟨rfl, hb⟩
    have hA5 := blk hA hb
    have hG5 := blk hG hb
    have hX5 := blk hX hb
    have hB5 := hB.trans (hb.mono hB.size)
    have hT5 := hT4.below hb
    clear hb hB hT4 hA hX hG
    have hbx : Below w5.heap.size w5 (w5.alloc (.cells #[.int .i64 (R T k).2.1, .int .i64 (R T k).2.2, .int .i64 (R T k).1] 50)) := (Below.refl _ _).alloc (Nat.le_refl _) _
    have hH := heap_alloc_new w5 (.cells #[.int .i64 (R T k).2.1, .int .i64 (R T k).2.2, .int .i64 (R T k).1] 50)
    have HA : Hid _ := blk hA5 hbx
    have HG : Hid _ := blk hG5 hbx
    have HX : Hid _ := blk hX5 hbx
    have HH : Hid _ := hH
    have HB : Hid _ := hB5.trans (hbx.mono hB5.size)
    have HT5 : Hid _ := hT5.below hbx
    have b0 := cell_of_row _ _ 0 _ _ _ HG.out
    have b1 := cell_of_row _ _ 1 _ _ _ HG.out
    have b2 := cell_of_row _ _ 2 _ _ _ HG.out
    have d0 := cell_of_row _ _ 0 _ _ _ HH.out
    have d1 := cell_of_row _ _ 1 _ _ _ HH.out
    have d2 := cell_of_row _ _ 2 _ _ _ HH.out
    simp at b0 b1 b2 d0 d1 d2
    clear hA5 hG5 hX5 hH hB5 hT5 hbx
    go_wp2_with fail
    generalize w5.alloc (.cells #[.int .i64 (R T k).2.1, .int .i64 (R T k).2.2, .int .i64 (R T k).1] 50) = W6 at *
    refine (HQ.out _ _ _ _).mono ?_
    rintro e w6 ⟨rfl, hb⟩
    have hA6 := blk HA.out hb
    have hX6 := blk HX.out hb
    have hB6 := HB.out.trans (hb.mono HB.out.size)
    have hT6 := HT5.out.below hb
    clear HA HG HX HH HB HT5 b0 b1 b2 d0 d1 d2 hb
    have HB : Hid (Below w.heap.size w w6) := hB6
    have HT6 : Hid (TreeV W3.heap.size w6 (.slice av4 T.vars.length cv4) (.slice an4 T.nodes.length cn4) (.slice ab4 T.body.length cb4) T) := hT6
    clear hB6 hT6
    have hgA : w.heap.size < w6.heap.size := blk_lt hA6
    have hgX : g4 < w6.heap.size := blk_lt hX6
    have a0 := cell_of_row _ _ 0 _ _ _ hA6
    have a1 := cell_of_row _ _ 1 _ _ _ hA6
    have a2 := cell_of_row _ _ 2 _ _ _ hA6
    simp at a0 a1 a2
    have x0 := cell_of_row _ _ 0 _ _ _ hX6
    have x1 := cell_of_row _ _ 1 _ _ _ hX6
    have x2 := cell_of_row _ _ 2 _ _ _ hX6
    simp at x0 x1 x2
    clear hA6 hX6
    have A0 : Hid _ := a0
    have X0 : Hid _ := x0
    have A1 : Hid _ := a1
    have X1 : Hid _ := x1
    have A2 : Hid _ := a2
    have X2 : Hid _ := x2
    have HC : Hid (∀ W, Below w6.heap.size w6 W → Calls Tryz.prog 19 #[.agg #[.slice av T.vars.length cv, .slice an T.nodes.length cn, .slice ab T.body.length cb]] W fun e w' => ∃ a c a2 c2 a3 c3, e = .returned (treeV (.slice a T.vars.length c) (.slice a2 T.nodes.length c2) (.slice a3 T.body.length c3)) ∧ TreeV W.heap.size w' (.slice a T.vars.length c) (.slice a2 T.nodes.length c2) (.slice a3 T.body.length c3) T ∧ Below W.heap.size W w') := fun W hW =>
      (toTree_any 0 T _ _ _ W (HT.out.below (HB.out.trans (hW.mono HB.out.size))) HZ.out).mono fun e w' h => by
        obtain ⟨_, _, _, rfl, h1, h2⟩ := h
        obtain ⟨_, _, rfl, _⟩ := id h1.vars
        obtain ⟨_, _, rfl, _⟩ := id h1.nodes
        obtain ⟨_, _, rfl, _⟩ := id h1.body
        exact ⟨_, _, _, _, _, _, rfl, h1, h2⟩
    have HE : Hid (∀ W lo v1 v2 v3, Below w6.heap.size w6 W → TreeV lo W v1 v2 v3 T → Calls Tryz.prog 22 #[.agg #[.slice av4 T.vars.length cv4, .slice an4 T.nodes.length cn4, .slice ab4 T.body.length cb4], treeV v1 v2 v3] W fun e w' => e = .returned (.bool true) ∧ Below W.heap.size W w') := fun W lo v1 v2 v3 hW h =>
      eqTree_any _ _ T _ _ _ _ _ _ W (HT6.out.below hW) h HZ.out
    go_wp2_with fail
    go_region_held3 (fun W => (W.cell? ⟨w.heap.size, 0, none⟩ = some (.slice av T.vars.length cv) ∧ W.cell? ⟨w.heap.size, 1, none⟩ = some (.slice an T.nodes.length cn) ∧ W.cell? ⟨w.heap.size, 2, none⟩ = some (.slice ab T.body.length cb)) ∧ (W.cell? ⟨g4, 0, none⟩ = some (.slice av4 T.vars.length cv4) ∧ W.cell? ⟨g4, 1, none⟩ = some (.slice an4 T.nodes.length cn4) ∧ W.cell? ⟨g4, 2, none⟩ = some (.slice ab4 T.body.length cb4))) (go_keep) (first | (go_at_call 19; refine (HC.out _ (Below.refl w6.heap.size w6).drew).mono ?_; rintro e w7 ⟨a7, c7, b7, d7, e7, f7, rfl, ht7, hb⟩; have hD : Below w6.heap.size w6 w7 := ((Below.refl w6.heap.size w6).drew).trans (Below.mono hb (Nat.le_refl _)); have a0 := (hD.cell (p := ⟨w.heap.size, 0, none⟩) hgA).trans A0.out; have a1 := (hD.cell (p := ⟨w.heap.size, 1, none⟩) hgA).trans A1.out; have a2 := (hD.cell (p := ⟨w.heap.size, 2, none⟩) hgA).trans A2.out; have x0 := (hD.cell (p := ⟨g4, 0, none⟩) hgX).trans X0.out; have x1 := (hD.cell (p := ⟨g4, 1, none⟩) hgX).trans X1.out; have x2 := (hD.cell (p := ⟨g4, 2, none⟩) hgX).trans X2.out; have HD : Hid (Below w6.heap.size w6 w7) := hD; have HT7 : Hid (TreeV _ w7 _ _ _ T) := ht7; clear hb hD ht7) | (go_at_call 22; refine (HE.out _ _ _ _ _ HD.out HT7.out).mono ?_; rintro e w8 ⟨rfl, hb⟩; have hD : Below w6.heap.size w6 w8 := HD.out.trans (Below.mono hb HD.out.size); have a0 := (hD.cell (p := ⟨w.heap.size, 0, none⟩) hgA).trans A0.out; have a1 := (hD.cell (p := ⟨w.heap.size, 1, none⟩) hgA).trans A1.out; have a2 := (hD.cell (p := ⟨w.heap.size, 2, none⟩) hgA).trans A2.out; have x0 := (hD.cell (p := ⟨g4, 0, none⟩) hgX).trans X0.out; have x1 := (hD.cell (p := ⟨g4, 1, none⟩) hgX).trans X1.out; have x2 := (hD.cell (p := ⟨g4, 2, none⟩) hgX).trans X2.out; have hBB := HB.out.trans (hD.mono HB.out.size); clear hb))
    go_wp2
    go_ret
    exact ⟨rfl, hBB⟩
  · go_wp2_with fail
    go_ret
    exact ⟨rfl, HB.out⟩

end Go.Proofs.YtdnhmpemkpjcaaaGreatDoor
namespace Go.Proofs.YtdnhmpemkpjcaaaGreatDoor
open Go.RowKit
set_option linter.unusedVariables false

theorem fnExactTypeOf_walk (vv0 vn0 vb0 : Value) (T0 : LTree) (a1 : Int) (w : World) (w0 : IsTree w vv0 vn0 vb0 T0) (w1 : (Lit.int .i64 a1).wf = true) (hE : ErrT w) :
    Calls Tryz.prog 4 #[treeV vv0 vn0 vb0, .int .i64 a1] w fun e w' => e = .returned (.bool true) ∧ Below w.heap.size w w' :=
  typeOf_law tyoT specTypeOf implTypeOf vv0 vn0 vb0 T0 a1 w w0 hE
end Go.Proofs.YtdnhmpemkpjcaaaGreatDoor
