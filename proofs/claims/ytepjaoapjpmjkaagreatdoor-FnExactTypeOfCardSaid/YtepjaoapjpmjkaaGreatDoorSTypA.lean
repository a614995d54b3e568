/-
  spec.l5Type: a number, a name, an item.
-/
import Derived.Test.YtepjaoapjpmjkaaGreatDoorSBool
namespace Go.Proofs.YtepjaoapjpmjkaaGreatDoor
open Go.RowKit
set_option linter.unusedVariables false
attribute [local go_sem] bs_size bs_get bs_extract bs_append bs_eq bs_toList
def TypeC (W0 : World) (kp p cA : Nat) (aA : Option Addr) (T : LTree) (V : List LVar) (vl : Value) (f : Nat) (y : Nat) : Prop := ∀ (W : World) (st : Met), Chk W0 W kp p aA V.length cA vl st →
 Calls Tryz.prog 34 #[.pointer (some ⟨kp, 0, none⟩), .int .i64 (y : Int)] W fun e w' => e = .returned (.int .i64 (typeF V T.vars.length T.nodes f (y : Int) st).1) ∧ Chk W0 w' kp p aA V.length cA vl (typeF V T.vars.length T.nodes f (y : Int) st).2 ∧ Sole kp W w'
set_option maxHeartbeats 6400000 in
set_option maxRecDepth 100000 in
theorem l5Must_any (lo : Nat) (W0 W : World) (kp p cA : Nat) (vv vn vb : Value) (aA : Option Addr) (T : LTree) (V : List LVar) (vl : Value) (st : Met) (y : Nat) (want : Int) (f : Nat) (hE : ChkE lo W0 p kp vv vn vb aA T V) (hC : Chk W0 W kp p aA V.length cA vl st) (hy : y < T.nodes.length) (hT : TypeC W0 kp p cA aA T V vl f y) :
  Calls Tryz.prog 68 #[.pointer (some ⟨kp, 0, none⟩), .int .i64 (y : Int), .int .i64 want] W fun e w' => e = .returned (.tuple #[]) ∧ Chk W0 w' kp p aA V.length cA vl (mustW (nodeOf T.nodes (y : Int)) (y : Int) want (typeF V T.vars.length T.nodes f (y : Int) st)) ∧ Sole kp W w' := by
 have HT := hT W st hC
 obtain ⟨⟨g, s1, s2⟩, hr⟩ : ∃ r, r = typeF V T.vars.length T.nodes f (y : Int) st := ⟨_, rfl⟩
 rw [← hr] at HT ⊢
 clear hr
 have HTC : Hid (Calls Tryz.prog 34 #[.pointer (some ⟨kp, 0, none⟩), .int .i64 (y : Int)] W fun e w' => e = .returned (.int .i64 g) ∧ Chk W0 w' kp p aA V.length cA vl (s1, s2) ∧ Sole kp W w') := HT
 have HE := hid hE
 have hnl := hE.good.nodes
 have hkW := blk_lt hC.row
 obtain ⟨n, hn⟩ : ∃ n, n = nodeOf T.nodes (y : Int) := ⟨_, rfl⟩
 rw [← hn]
 have HNN := hid hn
 clear HT hT hE hC hn
 go_enter Tryz.func68, Tryz.ntmps68
 go_wp2_with fail
 refine HTC.out.mono ?_
 rintro e w1 ⟨rfl, hc1, hb1⟩
 obtain ⟨bn, on, cn, rfl, q1, vk, vt, ve, hnc, _, ⟨a, l, c, rfl⟩, ⟨a2, l2, c2, rfl⟩, ⟨a3, l3, c3, rfl⟩⟩ := HE.out.node hc1.bel y hy
 obtain ⟨k0, -, -, k3⟩ := cl4 hc1.row
 have hkl := blk_lt hc1.row
 have hlow := HE.out.low
 have HSTOP : Hid (∀ (c : Int) (W' : World), Chk W0 W' kp p aA V.length cA vl (s1, s2) → Calls Tryz.prog 108 #[.pointer (some ⟨kp, 0, none⟩), .int .i64 c, .int .i64 (y : Int)] W' fun e w' => e = .returned (.tuple #[]) ∧ Chk W0 w' kp p aA V.length cA vl (metAt (s1, s2) c (y : Int)) ∧ Sole kp W' w') := fun c W' h => l5Stop_any W0 W' kp p V.length cA aA vl (s1, s2) c (y : Int) h hlow
 have HCA : Hid (∀ o, Chk W0 (w1.alloc o) kp p aA V.length cA vl (s1, s2) ∧ Sole kp W (w1.alloc o)) := fun o =>
  have hb : Below w1.heap.size w1 (w1.alloc o) := (Below.refl _ _).alloc (Nat.le_refl _) _
  ⟨hc1.below hb, hb1.trans hb.sole⟩
 rw [← HNN.out] at hnc
 obtain ⟨d0, d1, d2, d3, d4, d5, d6, d7⟩ := hnc
 have HM : Hid (mustW n (y : Int) want (g, s1, s2) = if want = 2 ∧ n.kind = 1 ∧ n.num ≤ 1 then (s1, s2) else if s1 = 0 ∧ g ≠ want then metAt (s1, s2) 8 (y : Int) else (s1, s2)) := rfl
 have hy0 : (0 : Int) ≤ (y : Int) := by omega
 have hy1 : (y : Int) < (T.nodes.length : Int) := by omega
 obtain ⟨K, hK⟩ : ∃ K, K = n.kind := ⟨_, rfl⟩
 rw [← hK] at d0 HM
 clear hK hc1 hb1 HTC HE hkW
 by_cases hA : want = 2 ∧ K = 1 ∧ n.num ≤ 1
 ·obtain ⟨rfl, rfl, hnum⟩ := hA
  have HR : Hid (mustW n (y : Int) 2 (g, s1, s2) = (s1, s2)) := by unfold Hid; rw [HM.out, if_pos ⟨rfl, rfl, hnum⟩]
  have hnum2 : decide (n.num ≤ 1) = true := decide_eq_true hnum
  clear HM HSTOP
  go_wp2_with fail
  first | go_ret | (refine bodyPost_ret (v := .tuple #[]) (by simp [results, Tryz.results68, go_sem]) rfl ?_)
  exact ⟨rfl, by rw [HR.out]; exact (HCA.out _).1, (HCA.out _).2⟩
 ·have HM2 : Hid (mustW n (y : Int) want (g, s1, s2) = if s1 = 0 ∧ g ≠ want then metAt (s1, s2) 8 (y : Int) else (s1, s2)) := by unfold Hid; rw [HM.out, if_neg hA]
  have hcases : want ≠ 2 ∨ (want = 2 ∧ K ≠ 1) ∨ (want = 2 ∧ K = 1 ∧ 1 < n.num) := by omega
  clear HM hA
  have rest : ∀ (P : Prop), True := fun _ => trivial
  by_cases hB : s1 = 0 ∧ g ≠ want
  ·obtain ⟨rfl, hgw⟩ := hB
   have HR : Hid (mustW n (y : Int) want (g, 0, s2) = metAt (0, s2) 8 (y : Int)) := by unfold Hid; rw [HM2.out, if_pos ⟨rfl, hgw⟩]
   have hgw1 : (g == want) = false := by simpa using hgw
   have hgw2 : decide (g = want) = false := decide_eq_false hgw
   clear HM2 rest
   rcases hcases with h | ⟨rfl, h⟩ | ⟨rfl, rfl, h⟩
   ·have h1 : (want == 2) = false := by simpa using h
    have h2 : decide (want = 2) = false := decide_eq_false h
    go_wp2_with fail
    refine (HSTOP.out 8 _ (HCA.out _).1).mono ?_
    rintro e w2 ⟨rfl, hc2, hb2⟩
    have HC2 : Hid (Chk W0 w2 kp p aA V.length cA vl (metAt (0, s2) 8 (y : Int)) ∧ Sole kp W w2) := ⟨hc2, (HCA.out _).2.trans hb2⟩
    clear hc2 hb2
    go_wp2_with fail
    go_end0
    exact ⟨rfl, by rw [HR.out]; exact HC2.out.1, HC2.out.2⟩
   ·have h1 : (K == 1) = false := by simpa using h
    have h2 : decide (K = 1) = false := decide_eq_false h
    go_wp2_with fail
    refine (HSTOP.out 8 _ (HCA.out _).1).mono ?_
    rintro e w2 ⟨rfl, hc2, hb2⟩
    have HC2 : Hid (Chk W0 w2 kp p aA V.length cA vl (metAt (0, s2) 8 (y : Int)) ∧ Sole kp W w2) := ⟨hc2, (HCA.out _).2.trans hb2⟩
    clear hc2 hb2
    go_wp2_with fail
    go_end0
    exact ⟨rfl, by rw [HR.out]; exact HC2.out.1, HC2.out.2⟩
   ·go_wp2_with fail
    refine (HSTOP.out 8 _ (HCA.out _).1).mono ?_
    rintro e w2 ⟨rfl, hc2, hb2⟩
    have HC2 : Hid (Chk W0 w2 kp p aA V.length cA vl (metAt (0, s2) 8 (y : Int)) ∧ Sole kp W w2) := ⟨hc2, (HCA.out _).2.trans hb2⟩
    clear hc2 hb2
    go_wp2_with fail
    go_end0
    exact ⟨rfl, by rw [HR.out]; exact HC2.out.1, HC2.out.2⟩
  ·have HR : Hid (mustW n (y : Int) want (g, s1, s2) = (s1, s2)) := by unfold Hid; rw [HM2.out, if_neg hB]
   have hcase2 : s1 ≠ 0 ∨ (s1 = 0 ∧ g = want) := by
    by_cases h : s1 = 0
    ·exact .inr ⟨h, Classical.byContradiction fun h2 => hB ⟨h, h2⟩⟩
    ·exact .inl h
   clear HM2 hB rest HSTOP
   rcases hcases with h | ⟨rfl, h⟩ | ⟨rfl, rfl, h⟩ <;> rcases hcase2 with h3 | ⟨rfl, rfl⟩
   ·have h1 : (want == 2) = false := by simpa using h
    have h2 : decide (want = 2) = false := decide_eq_false h
    have h4 : (s1 == 0) = false := by simpa using h3
    have h5 : decide (s1 = 0) = false := decide_eq_false h3
    go_wp2_with fail
    go_end0
    exact ⟨rfl, by rw [HR.out]; exact (HCA.out _).1, (HCA.out _).2⟩
   ·have h1 : (g == 2) = false := by simpa using h
    have h2 : decide (g = 2) = false := decide_eq_false h
    go_wp2_with fail
    go_end0
    exact ⟨rfl, by rw [HR.out]; exact (HCA.out _).1, (HCA.out _).2⟩
   ·have h1 : (K == 1) = false := by simpa using h
    have h2 : decide (K = 1) = false := decide_eq_false h
    have h4 : (s1 == 0) = false := by simpa using h3
    have h5 : decide (s1 = 0) = false := decide_eq_false h3
    go_wp2_with fail
    go_end0
    exact ⟨rfl, by rw [HR.out]; exact (HCA.out _).1, (HCA.out _).2⟩
   ·have h1 : (K == 1) = false := by simpa using h
    have h2 : decide (K = 1) = false := decide_eq_false h
    go_wp2_with fail
    go_end0
    exact ⟨rfl, by rw [HR.out]; exact (HCA.out _).1, (HCA.out _).2⟩
   ·have h4 : (s1 == 0) = false := by simpa using h3
    have h5 : decide (s1 = 0) = false := decide_eq_false h3
    go_wp2_with fail
    go_end0
    exact ⟨rfl, by rw [HR.out]; exact (HCA.out _).1, (HCA.out _).2⟩
   ·go_wp2_with fail
    go_end0
    exact ⟨rfl, by rw [HR.out]; exact (HCA.out _).1, (HCA.out _).2⟩
end Go.Proofs.YtepjaoapjpmjkaaGreatDoor
namespace Go.Proofs.YtepjaoapjpmjkaaGreatDoor
open Go.RowKit
set_option linter.unusedVariables false
attribute [local go_sem] bs_size bs_get bs_extract bs_append bs_eq bs_toList
def Kin (N : List LNode) : Prop := ∀ (k : Nat) (n : LNode), N[k]? = some n → ∀ x ∈ n.kids, exprN (nodeOf N x) = true
theorem kin_of {T : LTree} (h : faultL T = 0) : Kin T.nodes := fun k n hk x hx => by
 obtain ⟨_, _, _, h4, _⟩ := fault_zero h
 have h1 := List.all_eq_true.1 (right_at h4 hk).2.1 x hx
 unfold refB at h1
 simp only [Bool.and_eq_true] at h1
 have h2 := h1.2
 unfold nodeOf
 revert h2
 cases exprN (T.nodes.getD x.toNat default) <;> simp
theorem node_get {N : List LNode} {x : Nat} (h : x < N.length) : N[x]? = some (nodeOf N (x : Int)) := by
 unfold nodeOf; rw [Int.toNat_natCast, List.getD_eq_getElem?_getD, List.getElem?_eq_getElem h]; rfl
theorem own_kids {n : LNode} (h : ownB n = true) (he : exprN n = true) : (n.kind = 1 ∨ n.kind = 2) ∨ ((n.kind = 3 ∨ n.kind = 4 ∨ n.kind = 5) ∧ n.kids.length = 1) ∨ (n.kind = 6 ∧ n.kids.length = 2 ∧ 1 ≤ n.op ∧ n.op ≤ 10) := by
 have hk := inB_iff.1 he
 unfold ownB at h
 simp only [Bool.and_eq_true] at h
 obtain ⟨⟨⟨⟨⟨⟨⟨_, _⟩, _⟩, hl⟩, _⟩, _⟩, ho⟩, _⟩ := h.1
 have hc : n.kind = 1 ∨ n.kind = 2 ∨ n.kind = 3 ∨ n.kind = 4 ∨ n.kind = 5 ∨ n.kind = 6 := by omega
 rcases hc with e | e | e | e | e | e <;> rw [e] at hl ho <;> simp [wantsN] at hl ho
 ·exact .inl (.inl e)
 ·exact .inl (.inr e)
 ·exact .inr (.inl ⟨.inl e, by omega⟩)
 ·exact .inr (.inl ⟨.inr (.inl e), by omega⟩)
 ·exact .inr (.inl ⟨.inr (.inr e), by omega⟩)
 ·have := inB_iff.1 ho
  exact .inr (.inr ⟨e, by omega, this.1, this.2⟩)
theorem kids_at {lo : Nat} {W : World} {vk : Value} {kids : List Int} (h : IntsV lo W vk kids) (hne : kids ≠ []) : ∃ b o c, vk = .slice (some ⟨b, o, none⟩) kids.length c ∧ b < W.heap.size ∧ ∀ (i : Nat) (y : Int), kids[i]? = some y → W.cell? ⟨b, o + i, none⟩ = some (.int .i64 y) := by
 obtain ⟨a, c, e, _, hh⟩ := h
 obtain ⟨b, o, rfl, _, hc⟩ := hh hne
 obtain ⟨y, r, rfl⟩ := List.exists_cons_of_ne_nil hne
 exact ⟨b, o, c, e, World.block_lt_of_cell? _ _ (hc 0 y rfl), hc⟩
theorem Chk.sole {W0 W W' : World} {kp : Nat} (h : Below W0.heap.size W0 W) (hl : W0.heap.size ≤ kp) (hs : Sole kp W W') {b o : Nat} {u : Value} (hb : b < W0.heap.size) (hc : W0.cell? ⟨b, o, none⟩ = some u) : W'.cell? ⟨b, o, none⟩ = some u :=
 hs.cell (p := ⟨b, o, none⟩) (by simp; omega) ((h.cell (p := ⟨b, o, none⟩) hb).trans hc)
set_option maxHeartbeats 6400000 in
set_option maxRecDepth 100000 in
theorem l5Type_num (lo : Nat) (W0 : World) (kp p cA : Nat) (vv vn vb : Value) (aA : Option Addr) (T : LTree) (V : List LVar) (vl : Value) (f x : Nat) (hE : ChkE lo W0 p kp vv vn vb aA T V) (hx : x < T.nodes.length) (hk : (nodeOf T.nodes (x : Int)).kind = 1) :
  TypeC W0 kp p cA aA T V vl (f + 1) x := by
 intro W st hC
 have HR : Hid (typeF V T.vars.length T.nodes (f + 1) (x : Int) st = (1, st)) := by unfold Hid; rw [typeF]; simp only [hk]; rfl
 obtain ⟨bn, on, cn, rfl, q1, vk, vt, ve, hnc, hkd, ⟨a, l, c, rfl⟩, ⟨a2, l2, c2, rfl⟩, ⟨a3, l3, c3, rfl⟩⟩ := hE.node hC.bel x hx
 have k0 := cell_of_row _ _ 0 _ _ _ hC.row
 simp at k0
 have hkl := blk_lt hC.row
 have hnl := hE.good.nodes
 have HCA : Hid (∀ o, Chk W0 (W.alloc o) kp p aA V.length cA vl st ∧ Sole kp W (W.alloc o)) := fun o =>
  have hb : Below W.heap.size W (W.alloc o) := (Below.refl _ _).alloc (Nat.le_refl _) _
  ⟨hC.below hb, hb.sole⟩
 generalize typeF V T.vars.length T.nodes (f + 1) (x : Int) st = Z at HR ⊢
 generalize nodeOf T.nodes (x : Int) = n at *
 obtain ⟨d0, d1, d2, d3, d4, d5, d6, d7⟩ := hnc
 rw [hk] at d0
 have hx0 : (0 : Int) ≤ (x : Int) := by omega
 have hx1 : (x : Int) < (T.nodes.length : Int) := by omega
 clear hE hC hkd hk
 go_enter Tryz.func34, Tryz.ntmps34
 go_wp2_with fail
 go_ret
 exact ⟨by rw [HR.out]; rfl, by rw [HR.out]; exact (HCA.out _).1, (HCA.out _).2⟩
set_option maxHeartbeats 6400000 in
set_option maxRecDepth 100000 in
theorem l5Type_name (lo : Nat) (W0 : World) (kp p cA : Nat) (vv vn vb : Value) (aA : Option Addr) (T : LTree) (V : List LVar) (vl : Value) (f x : Nat) (hE : ChkE lo W0 p kp vv vn vb aA T V) (hx : x < T.nodes.length) (hk : (nodeOf T.nodes (x : Int)).kind = 2) :
  TypeC W0 kp p cA aA T V vl (f + 1) x := by
 intro W st hC
 have HR : Hid (typeF V T.vars.length T.nodes (f + 1) (x : Int) st = nameF V T.vars.length (nodeOf T.nodes (x : Int)).name false (x : Int) st) := by unfold Hid; rw [typeF]; simp only [hk]; rfl
 have HNM : Hid (∀ W', Chk W0 W' kp p aA V.length cA vl st → Calls Tryz.prog 67 #[.pointer (some ⟨kp, 0, none⟩), .int .i64 (x : Int), .bool false] W' fun e w' => e = .returned (.int .i64 (nameF V T.vars.length (nodeOf T.nodes (x : Int)).name false (x : Int) st).1) ∧ Chk W0 w' kp p aA V.length cA vl (nameF V T.vars.length (nodeOf T.nodes (x : Int)).name false (x : Int) st).2 ∧ Sole kp W' w') := fun W' h => l5Name_any lo W0 W' kp p cA vv vn vb aA T V vl st x false hE h hx
 obtain ⟨bn, on, cn, rfl, q1, vk, vt, ve, hnc, hkd, ⟨a, l, c, rfl⟩, ⟨a2, l2, c2, rfl⟩, ⟨a3, l3, c3, rfl⟩⟩ := hE.node hC.bel x hx
 have k0 := cell_of_row _ _ 0 _ _ _ hC.row
 simp at k0
 have hkl := blk_lt hC.row
 have hnl := hE.good.nodes
 have HCA : Hid (∀ o, Chk W0 (W.alloc o) kp p aA V.length cA vl st ∧ Sole kp W (W.alloc o)) := fun o =>
  have hb : Below W.heap.size W (W.alloc o) := (Below.refl _ _).alloc (Nat.le_refl _) _
  ⟨hC.below hb, hb.sole⟩
 generalize typeF V T.vars.length T.nodes (f + 1) (x : Int) st = Z at HR ⊢
 generalize nameF V T.vars.length (nodeOf T.nodes (x : Int)).name false (x : Int) st = Y at HR HNM
 generalize nodeOf T.nodes (x : Int) = n at *
 obtain ⟨g, st2⟩ := Y
 obtain ⟨d0, d1, d2, d3, d4, d5, d6, d7⟩ := hnc
 rw [hk] at d0
 have hx0 : (0 : Int) ≤ (x : Int) := by omega
 have hx1 : (x : Int) < (T.nodes.length : Int) := by omega
 clear hE hC hkd hk
 go_enter Tryz.func34, Tryz.ntmps34
 go_wp2_with fail
 refine (HNM.out _ (HCA.out _).1).mono ?_
 rintro e w2 ⟨rfl, hc2, hs2⟩
 have HC2 : Hid (Chk W0 w2 kp p aA V.length cA vl st2 ∧ Sole kp W w2) := ⟨hc2, (HCA.out _).2.trans hs2⟩
 clear hc2 hs2
 go_wp2_with fail
 go_ret
 exact ⟨by rw [HR.out]; rfl, by rw [HR.out]; exact HC2.out.1, HC2.out.2⟩
end Go.Proofs.YtepjaoapjpmjkaaGreatDoor
