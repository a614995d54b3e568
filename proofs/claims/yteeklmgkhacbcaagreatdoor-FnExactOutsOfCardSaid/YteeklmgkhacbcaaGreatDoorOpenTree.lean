/-
  How a tree that comes in is read.
-/
import Derived.Test.YteeklmgkhacbcaaGreatDoorSTypE
import Derived.Test.YteeklmgkhacbcaaGreatDoorTreeMath
import Derived.Lib.SmallJoins
import Derived.Deep.Slices
import Derived.ChangeOld
import Derived.ShutString
namespace Go.Proofs.YteeklmgkhacbcaaGreatDoor
open Go.RowKit
set_option linter.unusedVariables false
attribute [local go_sem] bs_size bs_get bs_extract bs_append bs_eq bs_toList
set_option maxHeartbeats 6400000 in
set_option maxRecDepth 100000 in
theorem l5Type_opI (lo : Nat) (W0 : World) (kp p cA : Nat) (vv vn vb : Value) (aA : Option Addr) (T : LTree) (V : List LVar) (vl : Value) (f x : Nat) (hE : ChkE lo W0 p kp vv vn vb aA T V) (hx : x < T.nodes.length) (IH : ∀ y, y < x → TypeC W0 kp p cA aA T V vl f y ∨ exprN (nodeOf T.nodes (y : Int)) = false) (hX : Kin T.nodes) (hk : (nodeOf T.nodes (x : Int)).kind = 6) (hop : (nodeOf T.nodes (x : Int)).op ≠ 10 ∧ ¬ (6 ≤ (nodeOf T.nodes (x : Int)).op ∧ (nodeOf T.nodes (x : Int)).op ≤ 8)) :
    TypeC W0 kp p cA aA T V vl (f + 1) x := by
  intro W st hC
  obtain ⟨y1, y2, hy⟩ : ∃ y1 y2, (nodeOf T.nodes (x : Int)).kids = [y1, y2] := by
    have h := own_kids (hE.good.node x _ (node_get hx)).1 (by unfold exprN; rw [hk]; rfl)
    rw [hk] at h
    simp at h
    obtain ⟨h, _⟩ := h
    match hl : (nodeOf T.nodes (x : Int)).kids, h with
    | [a, b], _ => exact ⟨a, b, rfl⟩
  have kid : ∀ y ∈ (nodeOf T.nodes (x : Int)).kids, ∃ yn : Nat, y = (yn : Int) ∧ yn < x ∧ TypeC W0 kp p cA aA T V vl f yn := fun y hm => by
    have h1 := (hE.good.node x _ (node_get hx)).2.1 y hm
    have h2 := hX x _ (node_get hx) y hm
    refine ⟨y.toNat, by omega, by omega, ?_⟩
    rcases IH y.toNat (by omega) with h | h
    · exact h
    · rw [Int.toNat_of_nonneg h1.1, h2] at h; cases h
  obtain ⟨y1, rfl, hyx1, hT1⟩ := kid y1 (by rw [hy]; simp)
  obtain ⟨y2, rfl, hyx2, hT2⟩ := kid y2 (by rw [hy]; simp)
  have hw : wantF V T.nodes (nodeOf T.nodes (x : Int)) = 1 := by unfold wantF; rw [if_neg hop.1, if_neg hop.2]
  have HR : Hid (typeF V T.vars.length T.nodes (f + 1) (x : Int) st = (if (nodeOf T.nodes (x : Int)).op ≤ 5 then 1 else 2, mustW (nodeOf T.nodes (y2 : Int)) (y2 : Int) 1 (typeF V T.vars.length T.nodes f (y2 : Int) (mustW (nodeOf T.nodes (y1 : Int)) (y1 : Int) 1 (typeF V T.vars.length T.nodes f (y1 : Int) st))))) := by unfold Hid; rw [typeF]; simp only [hk, hy, hw]; rfl
  have HM1 : Hid (∀ (W' : World) (s : Met), Chk W0 W' kp p aA V.length cA vl s → Calls Tryz.prog 88 #[.pointer (some ⟨kp, 0, none⟩), .int .i64 (y1 : Int), .int .i64 1] W' fun e w' => e = .returned (.tuple #[]) ∧ Chk W0 w' kp p aA V.length cA vl (mustW (nodeOf T.nodes (y1 : Int)) (y1 : Int) 1 (typeF V T.vars.length T.nodes f (y1 : Int) s)) ∧ Sole kp W' w') := fun W' s h => l5Must_any lo W0 W' kp p cA vv vn vb aA T V vl s y1 1 f hE h (by omega) hT1
  have HM2 : Hid (∀ (W' : World) (s : Met), Chk W0 W' kp p aA V.length cA vl s → Calls Tryz.prog 88 #[.pointer (some ⟨kp, 0, none⟩), .int .i64 (y2 : Int), .int .i64 1] W' fun e w' => e = .returned (.tuple #[]) ∧ Chk W0 w' kp p aA V.length cA vl (mustW (nodeOf T.nodes (y2 : Int)) (y2 : Int) 1 (typeF V T.vars.length T.nodes f (y2 : Int) s)) ∧ Sole kp W' w') := fun W' s h => l5Must_any lo W0 W' kp p cA vv vn vb aA T V vl s y2 1 f hE h (by omega) hT2
  obtain ⟨bn, on, cn, rfl, q1, vk, vt, ve, hnc, hkd, _, ⟨a2, l2, c2, rfl⟩, ⟨a3, l3, c3, rfl⟩⟩ := hE.node hC.bel x hx
  obtain ⟨bk, ok, ck, rfl, hbk, hkc⟩ := kids_at hkd (by rw [hy]; simp)
  have ky1 := hkc 0 (y1 : Int) (by rw [hy]; rfl)
  have ky2 := hkc 1 (y2 : Int) (by rw [hy]; rfl)
  rw [hy] at hnc
  simp only [List.length_cons, List.length_nil, Nat.zero_add, Nat.reduceAdd] at hnc
  have k0 := cell_of_row _ _ 0 _ _ _ hC.row
  simp at k0
  have hkl := blk_lt hC.row
  have hnl := hE.good.nodes
  have hW0 := hC.bel.size
  have HK1 : Hid (∀ W', Sole kp W W' → W'.cell? ⟨bk, ok, none⟩ = some (.int .i64 (y1 : Int))) := fun W' h => Chk.sole hC.bel hE.low h hbk ky1
  have HK2 : Hid (∀ W', Sole kp W W' → W'.cell? ⟨bk, ok + 1, none⟩ = some (.int .i64 (y2 : Int))) := fun W' h => Chk.sole hC.bel hE.low h hbk ky2
  have hbkW : bk < W.heap.size := by omega
  have HCA : Hid (∀ o, Chk W0 (W.alloc o) kp p aA V.length cA vl st ∧ Sole kp W (W.alloc o)) := fun o =>
    have hb : Below W.heap.size W (W.alloc o) := (Below.refl _ _).alloc (Nat.le_refl _) _
    ⟨hC.below hb, hb.sole⟩
  have hx0 : (0 : Int) ≤ (x : Int) := by omega
  have hx1 : (x : Int) < (T.nodes.length : Int) := by omega
  clear IH hT1 hT2 kid hX hE hC hkc ky1 ky2 hkd hw hW0 hyx1 hyx2 hbk
  generalize typeF V T.vars.length T.nodes (f + 1) (x : Int) st = Z at HR ⊢
  generalize nodeOf T.nodes (x : Int) = n at *
  obtain ⟨d0, d1, d2, d3, d4, d5, d6, d7⟩ := hnc
  obtain ⟨O, hO⟩ : ∃ O, n.op = O := ⟨_, rfl⟩
  rw [hO] at d1 HR hop
  rw [hk] at d0
  clear hk hy hO
  have hq : inB O 6 8 = false := inB_no.2 hop.2
  have ho1 : (O == 10) = false := by simp; exact hop.1
  have ho2 : decide (O = 10) = false := decide_eq_false hop.1
  have HIN : Hid (∀ w, Calls Tryz.prog 81 #[.int .i64 O, .int .i64 6, .int .i64 8] w fun e w' => e = .returned (.bool false) ∧ w' = w) := fun w => by rw [← hq]; exact l1In_any _ _ _ w
  clear hq
  go_enter Tryz.func116, Tryz.ntmps116
  go_wp2_with fail
  generalize hW5 : W.alloc (.cells #[.int .i64 6, .int .i64 O, .string (bs n.name), .int .i64 n.num, .int .i64 n.far, .slice (some ⟨bk, ok, none⟩) 2 ck, .slice a2 l2 c2, .slice a3 l3 c3] 88) = W5
  have hA := heap_alloc_new W (.cells #[.int .i64 6, .int .i64 O, .string (bs n.name), .int .i64 n.num, .int .i64 n.far, .slice (some ⟨bk, ok, none⟩) 2 ck, .slice a2 l2 c2, .slice a3 l3 c3] 88)
  rw [hW5] at hA
  have hC5 := HCA.out (.cells #[.int .i64 6, .int .i64 O, .string (bs n.name), .int .i64 n.num, .int .i64 n.far, .slice (some ⟨bk, ok, none⟩) 2 ck, .slice a2 l2 c2, .slice a3 l3 c3] 88)
  rw [hW5] at hC5
  obtain ⟨-, n1, -, -, -, n5⟩ := cl6 hA
  have hs5 := blk_lt hA
  have hne : W.heap.size ≠ kp := by omega
  have ky1 := HK1.out W5 hC5.2
  have ky2 := HK2.out W5 hC5.2
  have hbk5 : bk < W5.heap.size := by omega
  have HC5 := hid hC5
  clear hW5 hA hC5 d0 d1 d2 d3 d4 d5 d6 d7 q1 k0 HCA
  refine (HIN.out _).mono ?_
  rintro e w' ⟨rfl, rfl⟩
  clear HIN
  go_wp2_with fail
  refine (HM1.out _ _ HC5.out.1).mono ?_
  rintro e w3 ⟨rfl, hc3, hs3⟩
  have HC3 : Hid (Chk W0 w3 kp p aA V.length cA vl (mustW (nodeOf T.nodes (y1 : Int)) (y1 : Int) 1 (typeF V T.vars.length T.nodes f (y1 : Int) st)) ∧ Sole kp W w3) := ⟨hc3, HC5.out.2.trans hs3⟩
  have l1 : w3.cell? ⟨W.heap.size, 1, none⟩ = some (.int .i64 O) := hs3.cell (p := ⟨W.heap.size, 1, none⟩) hne n1
  have l5 : w3.cell? ⟨W.heap.size, 5, none⟩ = some (.slice (some ⟨bk, ok, none⟩) 2 ck) := hs3.cell (p := ⟨W.heap.size, 5, none⟩) hne n5
  have lk := HK2.out w3 HC3.out.2
  clear hc3 hs3 n1 n5 HC5 HM1 HK1 ky1 ky2
  go_wp2_with fail
  refine (HM2.out _ _ HC3.out.1).mono ?_
  rintro e w4 ⟨rfl, hc4, hs4⟩
  have HC4 : Hid (Chk W0 w4 kp p aA V.length cA vl (mustW (nodeOf T.nodes (y2 : Int)) (y2 : Int) 1 (typeF V T.vars.length T.nodes f (y2 : Int) (mustW (nodeOf T.nodes (y1 : Int)) (y1 : Int) 1 (typeF V T.vars.length T.nodes f (y1 : Int) st)))) ∧ Sole kp W w4) := ⟨hc4, HC3.out.2.trans hs4⟩
  have r1 : w4.cell? ⟨W.heap.size, 1, none⟩ = some (.int .i64 O) := hs4.cell (p := ⟨W.heap.size, 1, none⟩) hne l1
  clear hc4 hs4 l1 l5 lk HC3 HM2 HK2
  clear ho1 ho2 hop
  by_cases h5 : O ≤ 5
  · rw [if_pos h5] at HR
    have h6 : decide (O ≤ 5) = true := decide_eq_true h5
    go_wp2_with fail
    go_ret
    exact ⟨by rw [HR.out]; rfl, by rw [HR.out]; exact HC4.out.1, HC4.out.2⟩
  · rw [if_neg h5] at HR
    have h6 : decide (O ≤ 5) = false := decide_eq_false h5
    go_wp2_with fail
    go_ret
    exact ⟨by rw [HR.out]; rfl, by rw [HR.out]; exact HC4.out.1, HC4.out.2⟩
set_option maxHeartbeats 6400000 in
set_option maxRecDepth 100000 in
theorem l5Type_item (lo : Nat) (W0 : World) (kp p cA : Nat) (vv vn vb : Value) (aA : Option Addr) (T : LTree) (V : List LVar) (vl : Value) (f x : Nat) (hE : ChkE lo W0 p kp vv vn vb aA T V) (hx : x < T.nodes.length) (IH : ∀ y, y < x → TypeC W0 kp p cA aA T V vl f y ∨ exprN (nodeOf T.nodes (y : Int)) = false) (hX : Kin T.nodes) (hk : (nodeOf T.nodes (x : Int)).kind = 3) :
    TypeC W0 kp p cA aA T V vl (f + 1) x := by
  intro W st hC
  obtain ⟨y, hy⟩ : ∃ y, (nodeOf T.nodes (x : Int)).kids = [y] := by
    have h := own_kids (hE.good.node x _ (node_get hx)).1 (by unfold exprN; rw [hk]; rfl)
    rw [hk] at h
    simp at h
    exact List.length_eq_one_iff.1 h
  obtain ⟨yn, rfl, hyx, hT⟩ : ∃ yn : Nat, y = (yn : Int) ∧ yn < x ∧ TypeC W0 kp p cA aA T V vl f yn := by
    have h1 := (hE.good.node x _ (node_get hx)).2.1 y (by rw [hy]; simp)
    have h2 := hX x _ (node_get hx) y (by rw [hy]; simp)
    refine ⟨y.toNat, by omega, by omega, ?_⟩
    rcases IH y.toNat (by omega) with h | h
    · exact h
    · rw [Int.toNat_of_nonneg h1.1, h2] at h; cases h
  have HR : Hid (typeF V T.vars.length T.nodes (f + 1) (x : Int) st = ((nameF V T.vars.length (nodeOf T.nodes (x : Int)).name true (x : Int) st).1, mustW (nodeOf T.nodes (yn : Int)) (yn : Int) 1 (typeF V T.vars.length T.nodes f (yn : Int) (nameF V T.vars.length (nodeOf T.nodes (x : Int)).name true (x : Int) st).2))) := by unfold Hid; rw [typeF]; simp only [hk, hy]; rfl
  have HMU : Hid (∀ (W' : World) (s : Met), Chk W0 W' kp p aA V.length cA vl s → Calls Tryz.prog 88 #[.pointer (some ⟨kp, 0, none⟩), .int .i64 (yn : Int), .int .i64 1] W' fun e w' => e = .returned (.tuple #[]) ∧ Chk W0 w' kp p aA V.length cA vl (mustW (nodeOf T.nodes (yn : Int)) (yn : Int) 1 (typeF V T.vars.length T.nodes f (yn : Int) s)) ∧ Sole kp W' w') := fun W' s h => l5Must_any lo W0 W' kp p cA vv vn vb aA T V vl s yn 1 f hE h (by omega) hT
  have HNM : Hid (∀ W', Chk W0 W' kp p aA V.length cA vl st → Calls Tryz.prog 135 #[.pointer (some ⟨kp, 0, none⟩), .int .i64 (x : Int), .bool true] W' fun e w' => e = .returned (.int .i64 (nameF V T.vars.length (nodeOf T.nodes (x : Int)).name true (x : Int) st).1) ∧ Chk W0 w' kp p aA V.length cA vl (nameF V T.vars.length (nodeOf T.nodes (x : Int)).name true (x : Int) st).2 ∧ Sole kp W' w') := fun W' h => l5Name_any lo W0 W' kp p cA vv vn vb aA T V vl st x true hE h hx
  obtain ⟨bn, on, cn, rfl, q1, vk, vt, ve, hnc, hkd, _, ⟨a2, l2, c2, rfl⟩, ⟨a3, l3, c3, rfl⟩⟩ := hE.node hC.bel x hx
  obtain ⟨bk, ok, ck, rfl, hbk, hkc⟩ := kids_at hkd (by rw [hy]; simp)
  have ky0 := hkc 0 (yn : Int) (by rw [hy]; rfl)
  rw [hy] at hnc
  simp only [List.length_singleton] at hnc
  have k0 := cell_of_row _ _ 0 _ _ _ hC.row
  simp at k0
  have hkl := blk_lt hC.row
  have hnl := hE.good.nodes
  have hW0 := hC.bel.size
  have HKY : Hid (∀ W', Sole kp W W' → W'.cell? ⟨bk, ok, none⟩ = some (.int .i64 (yn : Int))) := fun W' h => Chk.sole hC.bel hE.low h hbk ky0
  have ky : W.cell? ⟨bk, ok, none⟩ = some (.int .i64 (yn : Int)) := HKY.out W (Sole.refl _ _)
  have hbkW : bk < W.heap.size := by omega
  have HCA : Hid (∀ o, Chk W0 (W.alloc o) kp p aA V.length cA vl st ∧ Sole kp W (W.alloc o)) := fun o =>
    have hb : Below W.heap.size W (W.alloc o) := (Below.refl _ _).alloc (Nat.le_refl _) _
    ⟨hC.below hb, hb.sole⟩
  have hx0 : (0 : Int) ≤ (x : Int) := by omega
  have hx1 : (x : Int) < (T.nodes.length : Int) := by omega
  clear IH hT hX hE hC hkc ky0 hkd
  generalize typeF V T.vars.length T.nodes (f + 1) (x : Int) st = Z at HR ⊢
  generalize nameF V T.vars.length (nodeOf T.nodes (x : Int)).name true (x : Int) st = Y at HR HNM
  obtain ⟨g, st2⟩ := Y
  generalize nodeOf T.nodes (x : Int) = n at *
  obtain ⟨d0, d1, d2, d3, d4, d5, d6, d7⟩ := hnc
  rw [hk] at d0
  clear hk hy
  go_enter Tryz.func116, Tryz.ntmps116
  go_wp2_with fail
  generalize hW5 : W.alloc (.cells #[.int .i64 3, .int .i64 n.op, .string (bs n.name), .int .i64 n.num, .int .i64 n.far, .slice (some ⟨bk, ok, none⟩) 1 ck, .slice a2 l2 c2, .slice a3 l3 c3] 88) = W5
  have hA := heap_alloc_new W (.cells #[.int .i64 3, .int .i64 n.op, .string (bs n.name), .int .i64 n.num, .int .i64 n.far, .slice (some ⟨bk, ok, none⟩) 1 ck, .slice a2 l2 c2, .slice a3 l3 c3] 88)
  rw [hW5] at hA
  have hC5 := HCA.out (.cells #[.int .i64 3, .int .i64 n.op, .string (bs n.name), .int .i64 n.num, .int .i64 n.far, .slice (some ⟨bk, ok, none⟩) 1 ck, .slice a2 l2 c2, .slice a3 l3 c3] 88)
  rw [hW5] at hC5
  have n5 : W5.cell? ⟨W.heap.size, 5, none⟩ = some (.slice (some ⟨bk, ok, none⟩) 1 ck) := cell_of_row _ _ 5 _ _ _ hA
  clear hW5 hA
  refine (HNM.out _ hC5.1).mono ?_
  rintro e w2 ⟨rfl, hc2, hs2⟩
  have HC2 : Hid (Chk W0 w2 kp p aA V.length cA vl st2 ∧ Sole kp W w2) := ⟨hc2, hC5.2.trans hs2⟩
  have n5' : w2.cell? ⟨W.heap.size, 5, none⟩ = some (.slice (some ⟨bk, ok, none⟩) 1 ck) := hs2.cell (p := ⟨W.heap.size, 5, none⟩) (by simp; omega) n5
  have ky2 : w2.cell? ⟨bk, ok, none⟩ = some (.int .i64 (yn : Int)) := HKY.out w2 HC2.out.2
  clear hc2 hs2 hC5 n5 ky HNM d0 d1 d2 d3 d4 d5 d6 d7 q1 k0
  go_wp2_with fail
  refine (HMU.out _ _ HC2.out.1).mono ?_
  rintro e w3 ⟨rfl, hc3, hs3⟩
  have HC3 : Hid (Chk W0 w3 kp p aA V.length cA vl (mustW (nodeOf T.nodes (yn : Int)) (yn : Int) 1 (typeF V T.vars.length T.nodes f (yn : Int) st2)) ∧ Sole kp W w3) := ⟨hc3, HC2.out.2.trans hs3⟩
  clear hc3 hs3
  go_wp2_with fail
  go_ret
  exact ⟨by rw [HR.out]; rfl, by rw [HR.out]; exact HC3.out.1, HC3.out.2⟩
end Go.Proofs.YteeklmgkhacbcaaGreatDoor
namespace Go.Proofs.YteeklmgkhacbcaaGreatDoor
open Go.RowKit
set_option linter.unusedVariables false
theorem l5Type_all (lo : Nat) (W0 : World) (kp p cA : Nat) (vv vn vb : Value) (aA : Option Addr) (T : LTree) (V : List LVar) (vl : Value) (hE : ChkE lo W0 p kp vv vn vb aA T V) (hX : Kin T.nodes) :
    ∀ (f x : Nat), x < f → x < T.nodes.length → exprN (nodeOf T.nodes (x : Int)) = true → TypeC W0 kp p cA aA T V vl f x := by
  intro f
  induction f with
  | zero => intro x h; omega
  | succ f ih =>
    intro x hf hx he
    have IH : ∀ y, y < x → TypeC W0 kp p cA aA T V vl f y ∨ exprN (nodeOf T.nodes (y : Int)) = false := fun y hy => by
      cases hq : exprN (nodeOf T.nodes (y : Int)) with
      | true => exact .inl (ih y (by omega) (by omega) hq)
      | false => exact .inr rfl
    rcases own_kids (hE.good.node x _ (node_get hx)).1 he with (h | h) | ⟨h | h | h, _⟩ | ⟨h, _⟩
    · exact l5Type_num lo W0 kp p cA vv vn vb aA T V vl f x hE hx h
    · exact l5Type_name lo W0 kp p cA vv vn vb aA T V vl f x hE hx h
    · exact l5Type_item lo W0 kp p cA vv vn vb aA T V vl f x hE hx IH hX h
    · exact l5Type_neg lo W0 kp p cA vv vn vb aA T V vl f x hE hx IH hX h
    · exact l5Type_not lo W0 kp p cA vv vn vb aA T V vl f x hE hx IH hX h
    · by_cases h1 : 6 ≤ (nodeOf T.nodes (x : Int)).op ∧ (nodeOf T.nodes (x : Int)).op ≤ 8
      · exact l5Type_opB lo W0 kp p cA vv vn vb aA T V vl f x hE hx IH hX h h1
      by_cases h2 : (nodeOf T.nodes (x : Int)).op = 10
      · exact l5Type_opS lo W0 kp p cA vv vn vb aA T V vl f x hE hx IH hX h h2
      · exact l5Type_opI lo W0 kp p cA vv vn vb aA T V vl f x hE hx IH hX h ⟨h2, h1⟩
abbrev typeT (V : List LVar) (T : LTree) (x : Int) (st : Met) : Int × Met := typeF V T.vars.length T.nodes T.nodes.length x st
theorem l5Type_any (lo : Nat) (W0 : World) (kp p cA : Nat) (vv vn vb : Value) (aA : Option Addr) (T : LTree) (V : List LVar) (vl : Value) (hE : ChkE lo W0 p kp vv vn vb aA T V) (hX : Kin T.nodes) (x : Nat) (hx : x < T.nodes.length) (he : exprN (nodeOf T.nodes (x : Int)) = true) : TypeC W0 kp p cA aA T V vl T.nodes.length x :=
  l5Type_all lo W0 kp p cA vv vn vb aA T V vl hE hX _ x hx hx he
theorem l5Must_all (lo : Nat) (W0 W : World) (kp p cA : Nat) (vv vn vb : Value) (aA : Option Addr) (T : LTree) (V : List LVar) (vl : Value) (st : Met) (y : Nat) (want : Int) (hE : ChkE lo W0 p kp vv vn vb aA T V) (hX : Kin T.nodes) (hC : Chk W0 W kp p aA V.length cA vl st) (hy : y < T.nodes.length) (he : exprN (nodeOf T.nodes (y : Int)) = true) :
    Calls Tryz.prog 88 #[.pointer (some ⟨kp, 0, none⟩), .int .i64 (y : Int), .int .i64 want] W fun e w' => e = .returned (.tuple #[]) ∧ Chk W0 w' kp p aA V.length cA vl (mustW (nodeOf T.nodes (y : Int)) (y : Int) want (typeT V T (y : Int) st)) ∧ Sole kp W w' :=
  l5Must_any lo W0 W kp p cA vv vn vb aA T V vl st y want _ hE hC hy (l5Type_any lo W0 kp p cA vv vn vb aA T V vl hE hX y hy he)
end Go.Proofs.YteeklmgkhacbcaaGreatDoor
namespace Go.Proofs.YteeklmgkhacbcaaGreatDoor
open Go.RowKit Go.ChangeShapes Go.WideShapes Go.Deep Go.Lib Go.Joins
set_option linter.unusedVariables false
theorem cellsNode : Tryz.prog.cellsOf 75 = 8 := by kernel_rfl
theorem cellsVar : Tryz.prog.cellsOf 72 = 4 := by kernel_rfl
theorem cellsTree : Tryz.prog.cellsOf 26 = 3 := by kernel_rfl
theorem cellsInt : Tryz.prog.cellsOf 2 = 1 := by kernel_rfl
theorem cellsStr : Tryz.prog.cellsOf 9 = 1 := by kernel_rfl
theorem cellsInts : Tryz.prog.cellsOf 24 = 1 := by kernel_rfl
section
variable {H : Type} {enc : TypeId × Value → H} {W : World}
theorem add_none (b o i : Nat) : (⟨b, o, none⟩ : Addr).add i = ⟨b, o + i, none⟩ := by
  unfold Addr.add
  split
  · rename_i h; first | (subst h; rfl) | (have h := of_decide_eq_true h; subst h; rfl) | (have := eq_of_beq h; subst this; rfl)
  · rfl
theorem open_intsV {fuel : Nat} {v : Value} {y : DataW H × List MemPlace} (h : DataW.trod enc Tryz.prog W 0 (fun _ => true) true fuel 24 [v] = some y) : ∃ xs, IntsV 0 W v xs ∧ xs.length ≤ 9223372036854775807 := by
  rcases open_ints Tryz.underlying24 Tryz.underlying2 (by kernel_rfl) h with ⟨hcs, _⟩ | ⟨a, len, cap, zs, hcs, _, hl, hm, hz, _, hcell, _⟩
  · simp at hcs
    subst hcs
    exact ⟨[], ⟨none, 0, rfl, Nat.le_refl _, fun h => absurd rfl h⟩, by simp⟩
  · simp at hcs
    subst hcs
    have hz : zs.length = cap := by simpa using hz
    have hlen : (zs.take len).length = len := by simp; omega
    refine ⟨zs.take len, ⟨some a, cap, by rw [hlen], by omega, fun hn => ?_⟩, by unfold maxLen at hm; omega⟩
    have h0 : 0 < len := by rcases Nat.eq_zero_or_pos len with e | e; · subst e; simp at hn
                            · exact e
    obtain ⟨b, o, spot⟩ := a
    have hs : spot = none := by simpa [Addr.add] using World.cell?_spot (hcell 0 (by omega))
    subst hs
    refine ⟨b, o, rfl, Nat.zero_le _, fun i x hx => ?_⟩
    have hi : i < len := by have := (List.getElem?_eq_some_iff.1 hx).1; omega
    have hx2 : zs[i]? = some x := by rw [List.getElem?_take] at hx; simpa [hi] using hx
    have := hcell i (by omega)
    rw [List.getD_eq_getElem?_getD, hx2, add_none] at this
    exact this
theorem gather {α : Type} [Inhabited α] {P : Nat → α → Prop} {n : Nat} (h : ∀ i, i < n → ∃ x, P i x) : ∃ xs : List α, xs.length = n ∧ ∀ i x, xs[i]? = some x → P i x := by
  classical
  refine ⟨(List.range n).map fun i => if hi : i < n then Classical.choose (h i hi) else default, by simp, fun i x hx => ?_⟩
  have hi : i < n := by have := (List.getElem?_eq_some_iff.1 hx).1; simpa using this
  have hy : (Classical.choose (h i hi)) = x := by simpa [hi] using hx
  rw [← hy]
  exact Classical.choose_spec (h i hi)
theorem range4 {f : Nat → Option Value} {cs : List Value} (h : (List.range 4).mapM f = some cs) : ∃ c0 c1 c2 c3, cs = [c0, c1, c2, c3] ∧ f 0 = some c0 ∧ f 1 = some c1 ∧ f 2 = some c2 ∧ f 3 = some c3 := by
  rw [show List.range 4 = [0, 1, 2, 3] from rfl] at h
  cases h0 : f 0 <;> cases h1 : f 1 <;> cases h2 : f 2 <;> cases h3 : f 3 <;> simp [h0, h1, h2, h3] at h
  exact ⟨_, _, _, _, h.symm, rfl, rfl, rfl, rfl⟩
theorem mapM_get {f : Nat → Option Value} : ∀ (l : List Nat) (cs : List Value), List.mapM f l = some cs → ∀ (i k : Nat), l[i]? = some k → ∃ c : Value, cs[i]? = some c ∧ f k = some c := by
  intro l
  induction l with
  | nil => intro cs h i k hk; simp at hk
  | cons a l ih =>
    intro cs h i k hk
    rw [List.mapM_cons] at h
    cases ha : f a with
    | none => simp [ha] at h
    | some c =>
      cases hl : l.mapM f with
      | none => simp [ha, hl] at h
      | some cs' =>
        simp [ha, hl] at h
        subst h
        cases i with
        | zero => simp at hk; subst hk; exact ⟨c, rfl, ha⟩
        | succ i => simpa using ih cs' hl i k (by simpa using hk)
theorem list8 {α : Type} {cs : List α} (h : cs.length = 8) : ∃ c0 c1 c2 c3 c4 c5 c6 c7, cs = [c0, c1, c2, c3, c4, c5, c6, c7] := by
  match cs, h with
  | [c0, c1, c2, c3, c4, c5, c6, c7], _ => exact ⟨c0, c1, c2, c3, c4, c5, c6, c7, rfl⟩
set_option maxRecDepth 100000 in
theorem open_varsV {fuel : Nat} {v : Value} {y : DataW H × List MemPlace} (h : DataW.trod enc Tryz.prog W 0 (fun _ => true) true fuel 22 [v] = some y) : ∃ xs, VarsV 0 W v xs ∧ xs.length ≤ 9223372036854775807 ∧ ∀ x ∈ xs, x.name.length ≤ 9223372036854775807 := by
  rcases open_slice Tryz.underlying22 h with ⟨hcs, _⟩ | ⟨a, len, cap, m, n, D, Pl, hcs, hb, hl, hm, hmm, _, hall⟩
  · simp at hcs
    subst hcs
    exact ⟨[], ⟨none, 0, rfl, Nat.le_refl _, fun h => absurd rfl h⟩, by simp, fun x hx => by cases hx⟩
  · simp at hcs
    subst hcs
    have hmm : m = cap := by simpa using hmm
    subst hmm
    have key : ∀ i, i < len → ∃ x : LVar, (W.cell? (a.add (i * 4)) = some (.string (bs x.name)) ∧ W.cell? ((a.add (i * 4)).add 1) = some (.int .i64 x.kind) ∧ W.cell? ((a.add (i * 4)).add 2) = some (.int .i64 x.type) ∧ W.cell? ((a.add (i * 4)).add 3) = some (.int .i64 x.size)) ∧ x.name.length ≤ 9223372036854775807 := by
      intro i hi
      obtain ⟨cs', h1, h2⟩ := hall i (by omega)
      rw [cellsVar] at h1
      unfold World.cells? at h1
      rw [if_pos (Nat.zero_le _)] at h1
      obtain ⟨c0, c1, c2, c3, rfl, g0, g1, g2, g3⟩ := range4 h1
      obtain ⟨y0, y1, y2, y3, n', hx, _, k0, k1, k2, k3⟩ := trod_struct4 Tryz.underlying72 h2
      rw [cellsStr] at k0
      rw [cellsInt] at k1 k2 k3
      obtain ⟨t, e0, _, ht⟩ := DataW.trod_string Tryz.underlying9 k0
      obtain ⟨k, e1, _, _⟩ := DataW.trod_int Tryz.underlying2 k1
      obtain ⟨m', e2, _, _⟩ := DataW.trod_int Tryz.underlying2 k2
      obtain ⟨q, e3, _, _⟩ := DataW.trod_int Tryz.underlying2 k3
      simp at e0 e1 e2 e3
      subst e0 e1 e2 e3
      refine ⟨⟨t.data.toList, k, m', q⟩, ⟨?_, g1, g2, g3⟩, ?_⟩
      · rw [← bs_of]; simpa [Addr.add] using g0
      · show t.data.toList.length ≤ _
        rw [Array.length_toList]
        unfold maxLen at ht
        exact Nat.le_trans ht (by omega)
    obtain ⟨xs, hxl, hxs⟩ := gather key
    refine ⟨xs, ⟨some a, m, by rw [hxl], by omega, fun hn => ?_⟩, by unfold maxLen at hm; omega, fun x hx => ?_⟩
    · have h0 : 0 < len := by rcases Nat.eq_zero_or_pos len with e | e; · rw [e] at hxl; exact absurd (List.eq_nil_of_length_eq_zero hxl) hn
                              · exact e
      obtain ⟨b, o, spot⟩ := a
      obtain ⟨x0, ⟨q0, _⟩, _⟩ := key 0 h0
      have hs : spot = none := by simpa [Addr.add] using World.cell?_spot q0
      subst hs
      refine ⟨b, o, rfl, Nat.zero_le _, fun i x hx => ?_⟩
      obtain ⟨⟨q0, q1, q2, q3⟩, _⟩ := hxs i x hx
      simp only [add_none] at q0 q1 q2 q3
      exact ⟨q0, q1, q2, q3⟩
    · obtain ⟨i, hi, rfl⟩ := List.getElem_of_mem hx
      exact (hxs i _ (List.getElem?_eq_getElem hi)).2
theorem trod_struct8 {P : Program} {w : World} {base : Nat} {spare : Nat → Bool} {held : Bool} {t : TypeId} {f0 f1 f2 f3 f4 f5 f6 f7 : Field} {fuel : Nat} {cs : List Value} {x : DataW H × List MemPlace} (ht : P.underlying t = some (.struct #[f0, f1, f2, f3, f4, f5, f6, f7])) (h : DataW.trod enc P w base spare held fuel t cs = some x) :
    ∃ y0 y1 y2 y3 y4 y5 y6 y7 n, cs.length = P.cellsOf t ∧ DataW.trod enc P w base spare held n f0.type ((cs.drop f0.offset).take (P.cellsOf f0.type)) = some y0 ∧
      DataW.trod enc P w base spare held n f1.type ((cs.drop f1.offset).take (P.cellsOf f1.type)) = some y1 ∧ DataW.trod enc P w base spare held n f2.type ((cs.drop f2.offset).take (P.cellsOf f2.type)) = some y2 ∧
      DataW.trod enc P w base spare held n f3.type ((cs.drop f3.offset).take (P.cellsOf f3.type)) = some y3 ∧ DataW.trod enc P w base spare held n f4.type ((cs.drop f4.offset).take (P.cellsOf f4.type)) = some y4 ∧
      DataW.trod enc P w base spare held n f5.type ((cs.drop f5.offset).take (P.cellsOf f5.type)) = some y5 ∧ DataW.trod enc P w base spare held n f6.type ((cs.drop f6.offset).take (P.cellsOf f6.type)) = some y6 ∧
      DataW.trod enc P w base spare held n f7.type ((cs.drop f7.offset).take (P.cellsOf f7.type)) = some y7 := by
  obtain ⟨xs, n, _, rfl, hl, hlen, hf⟩ := DataW.trod_struct ht h
  match xs, hlen with
  | [y0, y1, y2, y3, y4, y5, y6, y7], _ => exact ⟨y0, y1, y2, y3, y4, y5, y6, y7, n, hl, by simpa using hf 0 f0 rfl, by simpa using hf 1 f1 rfl, by simpa using hf 2 f2 rfl, by simpa using hf 3 f3 rfl, by simpa using hf 4 f4 rfl, by simpa using hf 5 f5 rfl, by simpa using hf 6 f6 rfl, by simpa using hf 7 f7 rfl⟩
def NodeFit (n : LNode) : Prop := n.name.length ≤ 9223372036854775807 ∧ n.kids.length ≤ 9223372036854775807 ∧ n.thn.length ≤ 9223372036854775807 ∧ n.els.length ≤ 9223372036854775807
set_option maxRecDepth 100000 in
theorem open_nodesV {fuel : Nat} {v : Value} {y : DataW H × List MemPlace} (h : DataW.trod enc Tryz.prog W 0 (fun _ => true) true fuel 23 [v] = some y) : ∃ xs, NodesV 0 W v xs ∧ xs.length ≤ 9223372036854775807 ∧ ∀ x ∈ xs, NodeFit x := by
  rcases open_slice Tryz.underlying23 h with ⟨hcs, _⟩ | ⟨a, len, cap, m, n, D, Pl, hcs, hb, hl, hm, hmm, _, hall⟩
  · simp at hcs
    subst hcs
    exact ⟨[], ⟨none, 0, rfl, Nat.le_refl _, fun h => absurd rfl h⟩, by simp, fun x hx => by cases hx⟩
  · simp at hcs
    subst hcs
    have hmm : m = cap := by simpa using hmm
    subst hmm
    have key : ∀ i, i < len → ∃ x : LNode, (∃ vk vt ve, (W.cell? ((a.add (i * 8)).add 0) = some (.int .i64 x.kind) ∧ W.cell? ((a.add (i * 8)).add 1) = some (.int .i64 x.op) ∧ W.cell? ((a.add (i * 8)).add 2) = some (.string (bs x.name)) ∧ W.cell? ((a.add (i * 8)).add 3) = some (.int .i64 x.num) ∧ W.cell? ((a.add (i * 8)).add 4) = some (.int .i64 x.far) ∧ W.cell? ((a.add (i * 8)).add 5) = some vk ∧ W.cell? ((a.add (i * 8)).add 6) = some vt ∧ W.cell? ((a.add (i * 8)).add 7) = some ve) ∧ NodeVals 0 W x vk vt ve) ∧ NodeFit x := by
      intro i hi
      obtain ⟨cs', h1, h2⟩ := hall i (by omega)
      rw [cellsNode] at h1
      unfold World.cells? at h1
      rw [if_pos (Nat.zero_le _)] at h1
      obtain ⟨y0, y1, y2, y3, y4, y5, y6, y7, n', hln, k0, k1, k2, k3, k4, k5, k6, k7⟩ := trod_struct8 Tryz.underlying75 h2
      rw [cellsNode] at hln
      obtain ⟨c0, c1, c2, c3, c4, c5, c6, c7, rfl⟩ := list8 hln
      have g : ∀ (j : Nat) (c : Value), [c0, c1, c2, c3, c4, c5, c6, c7][j]? = some c → W.cell? ((a.add (i * 8)).add j) = some c := fun j c hc => by
        have hj : j < 8 := by have := (List.getElem?_eq_some_iff.1 hc).1; simpa using this
        obtain ⟨c', e1, e2⟩ := mapM_get _ _ h1 j j (by rw [List.getElem?_range hj])
        rw [hc] at e1
        cases e1
        exact e2
      rw [cellsInt] at k0 k1 k3 k4
      rw [cellsStr] at k2
      rw [cellsInts] at k5 k6 k7
      obtain ⟨z0, e0, _, _⟩ := DataW.trod_int Tryz.underlying2 k0
      obtain ⟨z1, e1, _, _⟩ := DataW.trod_int Tryz.underlying2 k1
      obtain ⟨t, e2, _, ht⟩ := DataW.trod_string Tryz.underlying9 k2
      obtain ⟨z3, e3, _, _⟩ := DataW.trod_int Tryz.underlying2 k3
      obtain ⟨z4, e4, _, _⟩ := DataW.trod_int Tryz.underlying2 k4
      simp at e0 e1 e2 e3 e4 k5 k6 k7
      subst e0 e1 e2 e3 e4
      obtain ⟨ks, hks, lks⟩ := open_intsV k5
      obtain ⟨ts, hts, lts⟩ := open_intsV k6
      obtain ⟨es, hes, les⟩ := open_intsV k7
      refine ⟨⟨z0, z1, t.data.toList, z3, z4, ks, ts, es⟩, ⟨c5, c6, c7, ⟨g 0 _ rfl, g 1 _ rfl, by rw [← bs_of]; exact g 2 _ rfl, g 3 _ rfl, g 4 _ rfl, g 5 _ rfl, g 6 _ rfl, g 7 _ rfl⟩, hks, hts, hes⟩, ?_, lks, lts, les⟩
      show t.data.toList.length ≤ _
      rw [Array.length_toList]
      unfold maxLen at ht
      exact Nat.le_trans ht (by omega)
    obtain ⟨xs, hxl, hxs⟩ := gather key
    refine ⟨xs, ⟨some a, m, by rw [hxl], by omega, fun hn => ?_⟩, by unfold maxLen at hm; omega, fun x hx => ?_⟩
    · have h0 : 0 < len := by rcases Nat.eq_zero_or_pos len with e | e; · rw [e] at hxl; exact absurd (List.eq_nil_of_length_eq_zero hxl) hn
                              · exact e
      obtain ⟨b, o, spot⟩ := a
      obtain ⟨x0, ⟨_, _, _, ⟨q0, _⟩, _⟩, _⟩ := key 0 h0
      have hs : spot = none := by simpa [Addr.add] using World.cell?_spot q0
      subst hs
      refine ⟨b, o, rfl, Nat.zero_le _, fun i x hx => ?_⟩
      obtain ⟨⟨vk, vt, ve, ⟨q0, q1, q2, q3, q4, q5, q6, q7⟩, hv⟩, _⟩ := hxs i x hx
      simp only [add_none, Nat.add_zero] at q0 q1 q2 q3 q4 q5 q6 q7
      exact ⟨vk, vt, ve, ⟨q0, q1, q2, q3, q4, q5, q6, q7⟩, hv⟩
    · obtain ⟨i, hi, rfl⟩ := List.getElem_of_mem hx
      exact (hxs i _ (List.getElem?_eq_getElem hi)).2
structure IsTree (w : World) (vv vn vb : Value) (T : LTree) : Prop where
  tree : TreeV 0 w vv vn vb T
  fits : Sized 9223372036854775807 T
set_option maxRecDepth 100000 in
theorem open_tree {base : Nat} {v : Value} {d : DataW H} {p : List MemPlace} (hv : Value.okWide Tryz.prog W .any base 26 v) (h : DataW.Trod enc Tryz.prog W 0 (fun _ => true) true 26 v d p) :
    ∃ (vv vn vb : Value) (T : LTree), v = treeV vv vn vb ∧ IsTree W vv vn vb T := by
  obtain ⟨v0, v1, v2, y0, y1, y2, n, rfl, _, _, h0, h1, h2⟩ := open_agg3 Tryz.underlying26 (by kernel_rfl) cellsTree hv h
  obtain ⟨vs, hvs, lv, nv⟩ := open_varsV h0
  obtain ⟨ns, hns, ln, nn⟩ := open_nodesV h1
  obtain ⟨bs, hbs, lb⟩ := open_intsV h2
  exact ⟨v0, v1, v2, ⟨vs, ns, bs⟩, rfl, ⟨hvs, hns, hbs⟩, lv, ln, lb, nv, nn⟩
end
end Go.Proofs.YteeklmgkhacbcaaGreatDoor
