/-
  spec.l5Target.
-/
import Derived.Test.YtepjaoapjpmjkaaGreatDoorTreeVar
import Derived.Test.YtepjaoapjpmjkaaGreatDoorTreeVar
namespace Go.Proofs.YtepjaoapjpmjkaaGreatDoor
open Go.RowKit
set_option linter.unusedVariables false
attribute [local go_sem] bs_size bs_get bs_extract bs_append bs_eq bs_toList
theorem Sole.grown {g : Nat} {w w' : World} (h : Sole g w w') : w.grownBy w' (some g) :=
 ⟨h.bel.os, h.bel.tape, h.bel.output, h.bel.size, fun k hk hne => h.rest k hk (fun e => hne (by rw [e]))⟩
theorem LoopO.sole {W W' : World} {B kp : Nat} {vl : Value} {L : List (List UInt8)} (h : LoopO W B vl L) (hs : Sole kp W W') (hk : kp < B) : LoopO W' B vl L :=
 World.ownsRow.kept h hs.grown (by
  cases hv : vl.ownBlock with
  | none => exact .inl rfl
  | some g => exact .inr (fun e => by injection e with e; have := (World.ownsRow.lt h g hv).1; omega))
theorem target_none {VS : List LVar} {loop : List (List UInt8)} {nm : List UInt8} {row : Bool} {x : Int} {st : Met} (h : varFrom nm VS 0 < 0) : targetF VS loop nm row x st = (0, metAt st 4 x) := by unfold targetF; rw [if_pos h]
theorem target_some {VS : List LVar} {loop : List (List UInt8)} {nm : List UInt8} {row : Bool} {x : Int} {st : Met} {i : Nat} {v : LVar} (h : varFrom nm VS 0 = i) (hv : VS[i]? = some v) :
  targetF VS loop nm row x st = (v.type, if v.kind = 1 ∨ nm ∈ loop then metAt (if decide (0 < v.size) ≠ row then metAt st 1 x else st) 10 x else (if decide (0 < v.size) ≠ row then metAt st 1 x else st)) := by
 have e : VS.getD ((i : Int)).toNat default = v := by rw [Int.toNat_natCast, List.getD_eq_getElem?_getD, hv]; rfl
 unfold targetF; rw [h, if_neg (by omega), e]
set_option maxHeartbeats 12800000 in
set_option maxRecDepth 100000 in
theorem l5Target_any (lo : Nat) (W0 W : World) (kp p cA B : Nat) (vv vn vb : Value) (aA : Option Addr) (T : LTree) (V : List LVar) (vl : Value) (st : Met) (L : List (List UInt8)) (j : Nat) (row : Bool) (hE : ChkE lo W0 p kp vv vn vb aA T V) (hC : Chk W0 W kp p aA V.length cA vl st) (hL : LoopO W B vl L) (hkB : kp < B) (hLl : L.length ≤ 1048576) (hj : j < T.nodes.length) :
  Calls Tryz.prog 126 #[.pointer (some ⟨kp, 0, none⟩), .int .i64 (j : Int), .bool row] W fun e w' => e = .returned (.int .i64 (targetF T.vars L (nodeOf T.nodes (j : Int)).name row (j : Int) st).1) ∧ Chk W0 w' kp p aA V.length cA vl (targetF T.vars L (nodeOf T.nodes (j : Int)).name row (j : Int) st).2 ∧ Sole kp W w' := by
 obtain ⟨bn, on, cn, rfl, q1, vk, vt, ve, hnc, _, ⟨a5, l5, c5, rfl⟩, ⟨a6, l6, c6, rfl⟩, ⟨a7, l7, c7, rfl⟩⟩ := hE.node hC.bel j hj
 have k0 := cell_of_row _ _ 0 _ _ _ hC.row
 simp at k0
 have hkW := blk_lt hC.row
 have hnl := hE.good.nodes
 have hvl := hE.good.vars
 obtain ⟨av, cv, rfl, _, hvv⟩ := id hE.tree.tree.vars
 have hpw : p < W0.heap.size := World.block_lt_of_cell? _ _ hE.tree.c0
 have hlow := hE.low
 have hW0 := hC.bel.size
 have HSTOP : Hid (∀ (c : Int) (s : Met) (W' : World), Chk W0 W' kp p aA V.length cA vl s → Calls Tryz.prog 108 #[.pointer (some ⟨kp, 0, none⟩), .int .i64 c, .int .i64 (j : Int)] W' fun e w' => e = .returned (.tuple #[]) ∧ Chk W0 w' kp p aA V.length cA vl (metAt s c (j : Int)) ∧ Sole kp W' w') := fun c s W' h => l5Stop_any W0 W' kp p V.length cA aA vl s c (j : Int) h hlow
 obtain ⟨nm, hnm⟩ : ∃ nm, nm = (nodeOf T.nodes (j : Int)).name := ⟨_, rfl⟩
 obtain ⟨d0, d1, d2, d3, d4, d5, d6, d7⟩ := hnc
 rw [← hnm] at d2 ⊢
 generalize nodeOf T.nodes (j : Int) = n at *
 have HLO : Hid (∀ W', Sole kp W W' → LoopO W' B vl L) := fun W' h => hL.sole h hkB
 have HINL : Hid (∀ (s : Met) (W' : World), Chk W0 W' kp p aA V.length cA vl s → LoopO W' B vl L → Calls Tryz.prog 140 #[.pointer (some ⟨kp, 0, none⟩), .string (bs nm)] W' fun e w' => e = .returned (.bool (decide (nm ∈ L))) ∧ w' = W') := fun s W' h h2 => l5InLoop_any W0 W' kp p V.length cA B aA vl s L nm h h2 hLl
 have HVA : Hid (∀ W', Below W0.heap.size W0 W' → Calls Tryz.prog 139 #[.pointer (some ⟨p, 0, none⟩), .string (bs nm)] W' fun e w' => e = .returned (.int .i64 (varFrom nm T.vars 0)) ∧ w' = W') := fun W' hb => l4Var_any lo p _ _ _ T nm W' (hE.tree.below hb) hvl
 have HQ0 : Hid (∀ W', Below W0.heap.size W0 W' → W'.cell? ⟨p, 0, none⟩ = some (.slice av T.vars.length cv)) := fun W' hb => (hb.cell (p := ⟨p, 0, none⟩) hpw).trans hE.tree.c0
 have HVV : Hid (∀ W', Below W0.heap.size W0 W' → T.vars ≠ [] → ∃ b o, av = some ⟨b, o, none⟩ ∧ ∀ (i : Nat) (x : LVar), T.vars[i]? = some x → VarAt W' b (o + i * 4) x) := fun W' hb hne => by
  obtain ⟨b, o, e, _, hc⟩ := hvv hne
  exact ⟨b, o, e, fun i x hx => (hc i x hx).keep (lo := 0) (Keeps.of_below hb) (Nat.zero_le _)⟩
 have HVO := varFrom_or nm T.vars 0
 have HCA : Hid (∀ o, Chk W0 (W.alloc o) kp p aA V.length cA vl st ∧ Sole kp W (W.alloc o)) := fun o =>
  have hb : Below W.heap.size W (W.alloc o) := (Below.refl _ _).alloc (Nat.le_refl _) _
  ⟨hC.below hb, hb.sole⟩
 obtain ⟨X, hX⟩ : ∃ X, varFrom nm T.vars 0 = X := ⟨_, rfl⟩
 have HXX := hid hX
 rw [hX] at HVA HVO
 have hj0 : (0 : Int) ≤ (j : Int) := by omega
 have hj1 : (j : Int) < (T.nodes.length : Int) := by omega
 have hpW : p < W.heap.size := by omega
 clear hC hE hL hX hvv hnm
 go_enter Tryz.func126, Tryz.ntmps126
 go_wp2_with fail
 have hA := heap_alloc_new W (.cells #[.int .i64 n.kind, .int .i64 n.op, .string (bs nm), .int .i64 n.num, .int .i64 n.far, .slice a5 l5 c5, .slice a6 l6 c6, .slice a7 l7 c7] 66)
 have hC5 := HCA.out (.cells #[.int .i64 n.kind, .int .i64 n.op, .string (bs nm), .int .i64 n.num, .int .i64 n.far, .slice a5 l5 c5, .slice a6 l6 c6, .slice a7 l7 c7] 66)
 generalize hW5 : W.alloc (.cells #[.int .i64 n.kind, .int .i64 n.op, .string (bs nm), .int .i64 n.num, .int .i64 n.far, .slice a5 l5 c5, .slice a6 l6 c6, .slice a7 l7 c7] 66) = W5
 rw [hW5] at hA hC5
 have n2 : W5.cell? ⟨W.heap.size, 2, none⟩ = some (.string (bs nm)) := cell_of_row _ _ 2 _ _ _ hA
 have k0 : W5.cell? ⟨kp, 0, none⟩ = some (.pointer (some ⟨p, 0, none⟩)) := by have := cell_of_row _ _ 0 _ _ _ hC5.1.row; simpa using this
 have HA : Hid (W5.drew.cell? ⟨W.heap.size, 2, none⟩ = some (.string (bs nm))) := n2
 have HC : Hid (Chk W0 W5.drew kp p aA V.length cA vl st ∧ Sole kp W W5.drew) := ⟨⟨hC5.1.bel.drew, hC5.1.row⟩, hC5.2.trans (((Below.refl W5.heap.size W5).drew).sole)⟩
 have HB5 : Hid (Below W0.heap.size W0 W5.drew) := hC5.1.bel.drew
 have hsz5 : W.heap.size < W5.heap.size := blk_lt hA
 clear hA hC5 hW5 d0 d1 d2 d3 d4 d5 d6 d7 q1
 go_region_held3 (fun Z => Z.cell? ⟨kp, 0, none⟩ = some (.pointer (some ⟨p, 0, none⟩)) ∧ Z.cell? ⟨W.heap.size, 2, none⟩ = some (.string (bs nm))) (go_keep) (first | (go_at_call 139; refine (HVA.out _ HB5.out).mono ?_; rintro e w2 ⟨rfl, rfl⟩))
 have hsz6 : W.heap.size < W5.drew.heap.size := hsz5
 clear n2 k0 hsz5 HVA
 generalize W5.drew = Wd at *
 rcases HVO with hX1 | ⟨i, rfl, hi⟩
 ·have hXn : X < 0 := by omega
  have HR : Hid (targetF T.vars L nm row (j : Int) st = (0, metAt st 4 (j : Int))) := target_none (by rw [HXX.out]; exact hXn)
  clear hX1 HVV
  go_wp2_with fail
  refine (HSTOP.out 4 st _ HC.out.1).mono ?_
  rintro e w2 ⟨rfl, hc2, hb2⟩
  have HC2 : Hid (Chk W0 w2 kp p aA V.length cA vl (metAt st 4 (j : Int)) ∧ Sole kp W w2) := ⟨hc2, HC.out.2.trans hb2⟩
  clear hc2 hb2
  go_wp2_with fail
  go_ret
  exact ⟨by rw [HR.out]; rfl, by rw [HR.out]; exact HC2.out.1, HC2.out.2⟩
 ·have hiV : i < T.vars.length := by omega
  obtain ⟨v, hv⟩ : ∃ v, T.vars[i]? = some v := ⟨T.vars[i], List.getElem?_eq_getElem hiV⟩
  have HT : Hid (targetF T.vars L nm row (j : Int) st = (v.type, if v.kind = 1 ∨ nm ∈ L then metAt (if decide (0 < v.size) ≠ row then metAt st 1 (j : Int) else st) 10 (j : Int) else (if decide (0 < v.size) ≠ row then metAt st 1 (j : Int) else st))) := target_some HXX.out hv
  obtain ⟨b, o, rfl, hcs⟩ := HVV.out Wd HC.out.1.bel (by intro e; rw [e] at hiV; simp at hiV)
  obtain ⟨c0, c1, c2, c3⟩ := hcs i v hv
  have q0 := HQ0.out Wd HC.out.1.bel
  have k0 : Wd.cell? ⟨kp, 0, none⟩ = some (.pointer (some ⟨p, 0, none⟩)) := by have := cell_of_row _ _ 0 _ _ _ HC.out.1.row; simpa using this
  have n2 : Wd.cell? ⟨W.heap.size, 2, none⟩ = some (.string (bs nm)) := HA.out
  have hi0 : (0 : Int) ≤ (i : Int) := by omega
  have hi1 : (i : Int) < (T.vars.length : Int) := by omega
  have hkd := blk_lt HC.out.1.row
  have HV8 : Hid (∀ o8, Chk W0 (Wd.alloc o8) kp p aA V.length cA vl st ∧ Sole kp W (Wd.alloc o8)) := fun o8 =>
   have hb : Below Wd.heap.size Wd (Wd.alloc o8) := (Below.refl _ _).alloc (Nat.le_refl _) _
   ⟨HC.out.1.below hb, HC.out.2.trans hb.sole⟩
  have hVb : Wd.heap.size ≠ kp := by omega
  have hnW : W.heap.size ≠ kp := by omega
  generalize v.kind = K at *
  generalize v.type = Ty at *
  generalize v.size = Sz at *
  generalize v.name = nv at *
  have HA8 : Hid ((Wd.alloc (.cells #[.string (bs nv), .int .i64 K, .int .i64 Ty, .int .i64 Sz] 108)).heap[Wd.heap.size]? = some (.cells #[.string (bs nv), .int .i64 K, .int .i64 Ty, .int .i64 Sz] 108 (0, 0))) := heap_alloc_new Wd _
  have HN8 : Hid ((Wd.alloc (.cells #[.string (bs nv), .int .i64 K, .int .i64 Ty, .int .i64 Sz] 108)).cell? ⟨W.heap.size, 2, none⟩ = some (.string (bs nm))) := (World.cell?_of_block (a := ⟨W.heap.size, 2, none⟩) (Below.heap_alloc Wd _ W.heap.size hsz6)).trans n2
  obtain ⟨q, hq⟩ : ∃ q, decide (nm ∈ L) = q := ⟨_, rfl⟩
  rw [hq] at HINL
  have HQ : Hid (decide (nm ∈ L) = q) := hq
  clear hcs HVV hv hq HXX HQ0 HC HA hi
  cases row with
  | false =>
   by_cases hs : 0 < Sz
   ·by_cases hk : K = 1
    ·subst hk
     have HR : Hid (targetF T.vars L nm false (j : Int) st = (Ty, metAt (metAt st 1 (j : Int)) 10 (j : Int))) := by
      unfold Hid
      rw [HT.out, if_pos (Or.inl rfl), decide_eq_true hs, if_pos (by decide)]
     clear HT
     go_wp2_with fail
     have H8 := HV8.out (.cells #[.string (bs nv), .int .i64 1, .int .i64 Ty, .int .i64 Sz] 108)
     have hA8 := HA8.out
     have hN8 := HN8.out
     clear HV8 HA8 HN8 c0 c1 c2 c3 q0 k0 n2
     generalize Wd.alloc (.cells #[.string (bs nv), .int .i64 1, .int .i64 Ty, .int .i64 Sz] 108) = W8 at *
     generalize Wd.heap.size = gv at *
     refine (HSTOP.out 1 st _ H8.1).mono ?_
     rintro e w9 ⟨rfl, hc9, hs9⟩
     have hA9 := (hs9.rest gv (blk_lt hA8) hVb).trans hA8
     have hN9 := hs9.cell (p := ⟨W.heap.size, 2, none⟩) hnW hN8
     clear hA8 hN8
     have hA8 := hA9
     have hN8 := hN9
     have H9 : Chk W0 w9 kp p aA V.length cA vl (metAt st 1 (j : Int)) ∧ Sole kp W w9 := ⟨hc9, H8.2.trans hs9⟩
     clear hA9 hN9 H8 hc9 hs9
     have H8 := H9
     clear H9
     have v1 : w9.cell? ⟨gv, 1, none⟩ = some (.int .i64 1) := by have := cell_of_row _ _ 1 _ _ _ hA8; simpa using this
     have v2 : w9.cell? ⟨gv, 2, none⟩ = some (.int .i64 Ty) := by have := cell_of_row _ _ 2 _ _ _ hA8; simpa using this
     clear hA8
     have HH : Hid (Chk W0 w9 kp p aA V.length cA vl (metAt st 1 (j : Int)) ∧ Sole kp W w9) := H8
     clear H8
     go_wp2_with fail
     refine (HSTOP.out 10 _ _ HH.out.1).mono ?_
     rintro e w11 ⟨rfl, hc11, hs11⟩
     have v2 := hs11.cell (p := ⟨gv, 2, none⟩) hVb v2
     have HH2 : Hid (Chk W0 w11 kp p aA V.length cA vl (metAt (metAt st 1 (j : Int)) 10 (j : Int)) ∧ Sole kp W w11) := ⟨hc11, HH.out.2.trans hs11⟩
     clear hc11 hs11 HH v1
     go_wp2_with fail
     go_ret
     exact ⟨by rw [HR.out]; rfl, by rw [HR.out]; exact HH2.out.1, HH2.out.2⟩
    ·cases q with
     | true =>
      have hmem : nm ∈ L := of_decide_eq_true HQ.out
      have HR : Hid (targetF T.vars L nm false (j : Int) st = (Ty, metAt (metAt st 1 (j : Int)) 10 (j : Int))) := by
       unfold Hid
       rw [HT.out, if_pos (Or.inr hmem), decide_eq_true hs, if_pos (by decide)]
      clear HT
      have hk1 : (K == 1) = false := by simpa using hk
      have hk2 : decide (K = 1) = false := decide_eq_false hk
      go_wp2_with fail
      have H8 := HV8.out (.cells #[.string (bs nv), .int .i64 K, .int .i64 Ty, .int .i64 Sz] 108)
      have hA8 := HA8.out
      have hN8 := HN8.out
      clear HV8 HA8 HN8 c0 c1 c2 c3 q0 k0 n2
      generalize Wd.alloc (.cells #[.string (bs nv), .int .i64 K, .int .i64 Ty, .int .i64 Sz] 108) = W8 at *
      generalize Wd.heap.size = gv at *
      refine (HSTOP.out 1 st _ H8.1).mono ?_
      rintro e w9 ⟨rfl, hc9, hs9⟩
      have hA9 := (hs9.rest gv (blk_lt hA8) hVb).trans hA8
      have hN9 := hs9.cell (p := ⟨W.heap.size, 2, none⟩) hnW hN8
      clear hA8 hN8
      have hA8 := hA9
      have hN8 := hN9
      have H9 : Chk W0 w9 kp p aA V.length cA vl (metAt st 1 (j : Int)) ∧ Sole kp W w9 := ⟨hc9, H8.2.trans hs9⟩
      clear hA9 hN9 H8 hc9 hs9
      have H8 := H9
      clear H9
      have v1 : w9.cell? ⟨gv, 1, none⟩ = some (.int .i64 K) := by have := cell_of_row _ _ 1 _ _ _ hA8; simpa using this
      have v2 : w9.cell? ⟨gv, 2, none⟩ = some (.int .i64 Ty) := by have := cell_of_row _ _ 2 _ _ _ hA8; simpa using this
      clear hA8
      have HH : Hid (Chk W0 w9 kp p aA V.length cA vl (metAt st 1 (j : Int)) ∧ Sole kp W w9) := H8
      clear H8
      go_wp2_with fail
      refine (HINL.out _ _ HH.out.1 (HLO.out _ HH.out.2)).mono ?_
      rintro e w10 ⟨rfl, rfl⟩
      go_wp2_with fail
      refine (HSTOP.out 10 _ _ HH.out.1).mono ?_
      rintro e w11 ⟨rfl, hc11, hs11⟩
      have v2 := hs11.cell (p := ⟨gv, 2, none⟩) hVb v2
      have HH2 : Hid (Chk W0 w11 kp p aA V.length cA vl (metAt (metAt st 1 (j : Int)) 10 (j : Int)) ∧ Sole kp W w11) := ⟨hc11, HH.out.2.trans hs11⟩
      clear hc11 hs11 HH v1
      go_wp2_with fail
      go_ret
      exact ⟨by rw [HR.out]; rfl, by rw [HR.out]; exact HH2.out.1, HH2.out.2⟩
     | false =>
      have hmem : ¬ nm ∈ L := of_decide_eq_false HQ.out
      have HR : Hid (targetF T.vars L nm false (j : Int) st = (Ty, metAt st 1 (j : Int))) := by
       unfold Hid
       rw [HT.out, if_neg (fun h => h.elim hk hmem), decide_eq_true hs, if_pos (by decide)]
      clear HT
      have hk1 : (K == 1) = false := by simpa using hk
      have hk2 : decide (K = 1) = false := decide_eq_false hk
      go_wp2_with fail
      have H8 := HV8.out (.cells #[.string (bs nv), .int .i64 K, .int .i64 Ty, .int .i64 Sz] 108)
      have hA8 := HA8.out
      have hN8 := HN8.out
      clear HV8 HA8 HN8 c0 c1 c2 c3 q0 k0 n2
      generalize Wd.alloc (.cells #[.string (bs nv), .int .i64 K, .int .i64 Ty, .int .i64 Sz] 108) = W8 at *
      generalize Wd.heap.size = gv at *
      refine (HSTOP.out 1 st _ H8.1).mono ?_
      rintro e w9 ⟨rfl, hc9, hs9⟩
      have hA9 := (hs9.rest gv (blk_lt hA8) hVb).trans hA8
      have hN9 := hs9.cell (p := ⟨W.heap.size, 2, none⟩) hnW hN8
      clear hA8 hN8
      have hA8 := hA9
      have hN8 := hN9
      have H9 : Chk W0 w9 kp p aA V.length cA vl (metAt st 1 (j : Int)) ∧ Sole kp W w9 := ⟨hc9, H8.2.trans hs9⟩
      clear hA9 hN9 H8 hc9 hs9
      have H8 := H9
      clear H9
      have v1 : w9.cell? ⟨gv, 1, none⟩ = some (.int .i64 K) := by have := cell_of_row _ _ 1 _ _ _ hA8; simpa using this
      have v2 : w9.cell? ⟨gv, 2, none⟩ = some (.int .i64 Ty) := by have := cell_of_row _ _ 2 _ _ _ hA8; simpa using this
      clear hA8
      have HH : Hid (Chk W0 w9 kp p aA V.length cA vl (metAt st 1 (j : Int)) ∧ Sole kp W w9) := H8
      clear H8
      go_wp2_with fail
      refine (HINL.out _ _ HH.out.1 (HLO.out _ HH.out.2)).mono ?_
      rintro e w10 ⟨rfl, rfl⟩
      go_wp2_with fail
      go_ret
      exact ⟨by rw [HR.out]; rfl, by rw [HR.out]; exact HH.out.1, HH.out.2⟩
   ·by_cases hk : K = 1
    ·subst hk
     have HR : Hid (targetF T.vars L nm false (j : Int) st = (Ty, metAt (st) 10 (j : Int))) := by
      unfold Hid
      rw [HT.out, if_pos (Or.inl rfl), decide_eq_false hs, if_neg (by decide)]
     clear HT
     go_wp2_with fail
     have H8 := HV8.out (.cells #[.string (bs nv), .int .i64 1, .int .i64 Ty, .int .i64 Sz] 108)
     have hA8 := HA8.out
     have hN8 := HN8.out
     clear HV8 HA8 HN8 c0 c1 c2 c3 q0 k0 n2
     generalize Wd.alloc (.cells #[.string (bs nv), .int .i64 1, .int .i64 Ty, .int .i64 Sz] 108) = W8 at *
     generalize Wd.heap.size = gv at *
     have v1 : W8.cell? ⟨gv, 1, none⟩ = some (.int .i64 1) := by have := cell_of_row _ _ 1 _ _ _ hA8; simpa using this
     have v2 : W8.cell? ⟨gv, 2, none⟩ = some (.int .i64 Ty) := by have := cell_of_row _ _ 2 _ _ _ hA8; simpa using this
     clear hA8
     have HH : Hid (Chk W0 W8 kp p aA V.length cA vl st ∧ Sole kp W W8) := H8
     clear H8
     refine (HSTOP.out 10 _ _ HH.out.1).mono ?_
     rintro e w11 ⟨rfl, hc11, hs11⟩
     have v2 := hs11.cell (p := ⟨gv, 2, none⟩) hVb v2
     have HH2 : Hid (Chk W0 w11 kp p aA V.length cA vl (metAt (st) 10 (j : Int)) ∧ Sole kp W w11) := ⟨hc11, HH.out.2.trans hs11⟩
     clear hc11 hs11 HH v1
     go_wp2_with fail
     go_ret
     exact ⟨by rw [HR.out]; rfl, by rw [HR.out]; exact HH2.out.1, HH2.out.2⟩
    ·cases q with
     | true =>
      have hmem : nm ∈ L := of_decide_eq_true HQ.out
      have HR : Hid (targetF T.vars L nm false (j : Int) st = (Ty, metAt (st) 10 (j : Int))) := by
       unfold Hid
       rw [HT.out, if_pos (Or.inr hmem), decide_eq_false hs, if_neg (by decide)]
      clear HT
      have hk1 : (K == 1) = false := by simpa using hk
      have hk2 : decide (K = 1) = false := decide_eq_false hk
      go_wp2_with fail
      have H8 := HV8.out (.cells #[.string (bs nv), .int .i64 K, .int .i64 Ty, .int .i64 Sz] 108)
      have hA8 := HA8.out
      have hN8 := HN8.out
      clear HV8 HA8 HN8 c0 c1 c2 c3 q0 k0 n2
      generalize Wd.alloc (.cells #[.string (bs nv), .int .i64 K, .int .i64 Ty, .int .i64 Sz] 108) = W8 at *
      generalize Wd.heap.size = gv at *
      have v1 : W8.cell? ⟨gv, 1, none⟩ = some (.int .i64 K) := by have := cell_of_row _ _ 1 _ _ _ hA8; simpa using this
      have v2 : W8.cell? ⟨gv, 2, none⟩ = some (.int .i64 Ty) := by have := cell_of_row _ _ 2 _ _ _ hA8; simpa using this
      clear hA8
      have HH : Hid (Chk W0 W8 kp p aA V.length cA vl st ∧ Sole kp W W8) := H8
      clear H8
      refine (HINL.out _ _ HH.out.1 (HLO.out _ HH.out.2)).mono ?_
      rintro e w10 ⟨rfl, rfl⟩
      go_wp2_with fail
      refine (HSTOP.out 10 _ _ HH.out.1).mono ?_
      rintro e w11 ⟨rfl, hc11, hs11⟩
      have v2 := hs11.cell (p := ⟨gv, 2, none⟩) hVb v2
      have HH2 : Hid (Chk W0 w11 kp p aA V.length cA vl (metAt (st) 10 (j : Int)) ∧ Sole kp W w11) := ⟨hc11, HH.out.2.trans hs11⟩
      clear hc11 hs11 HH v1
      go_wp2_with fail
      go_ret
      exact ⟨by rw [HR.out]; rfl, by rw [HR.out]; exact HH2.out.1, HH2.out.2⟩
     | false =>
      have hmem : ¬ nm ∈ L := of_decide_eq_false HQ.out
      have HR : Hid (targetF T.vars L nm false (j : Int) st = (Ty, st)) := by
       unfold Hid
       rw [HT.out, if_neg (fun h => h.elim hk hmem), decide_eq_false hs, if_neg (by decide)]
      clear HT
      have hk1 : (K == 1) = false := by simpa using hk
      have hk2 : decide (K = 1) = false := decide_eq_false hk
      go_wp2_with fail
      have H8 := HV8.out (.cells #[.string (bs nv), .int .i64 K, .int .i64 Ty, .int .i64 Sz] 108)
      have hA8 := HA8.out
      have hN8 := HN8.out
      clear HV8 HA8 HN8 c0 c1 c2 c3 q0 k0 n2
      generalize Wd.alloc (.cells #[.string (bs nv), .int .i64 K, .int .i64 Ty, .int .i64 Sz] 108) = W8 at *
      generalize Wd.heap.size = gv at *
      have v1 : W8.cell? ⟨gv, 1, none⟩ = some (.int .i64 K) := by have := cell_of_row _ _ 1 _ _ _ hA8; simpa using this
      have v2 : W8.cell? ⟨gv, 2, none⟩ = some (.int .i64 Ty) := by have := cell_of_row _ _ 2 _ _ _ hA8; simpa using this
      clear hA8
      have HH : Hid (Chk W0 W8 kp p aA V.length cA vl st ∧ Sole kp W W8) := H8
      clear H8
      refine (HINL.out _ _ HH.out.1 (HLO.out _ HH.out.2)).mono ?_
      rintro e w10 ⟨rfl, rfl⟩
      go_wp2_with fail
      go_ret
      exact ⟨by rw [HR.out]; rfl, by rw [HR.out]; exact HH.out.1, HH.out.2⟩
  | true =>
   by_cases hs : 0 < Sz
   ·by_cases hk : K = 1
    ·subst hk
     have HR : Hid (targetF T.vars L nm true (j : Int) st = (Ty, metAt (st) 10 (j : Int))) := by
      unfold Hid
      rw [HT.out, if_pos (Or.inl rfl), decide_eq_true hs, if_neg (by decide)]
     clear HT
     go_wp2_with fail
     have H8 := HV8.out (.cells #[.string (bs nv), .int .i64 1, .int .i64 Ty, .int .i64 Sz] 108)
     have hA8 := HA8.out
     have hN8 := HN8.out
     clear HV8 HA8 HN8 c0 c1 c2 c3 q0 k0 n2
     generalize Wd.alloc (.cells #[.string (bs nv), .int .i64 1, .int .i64 Ty, .int .i64 Sz] 108) = W8 at *
     generalize Wd.heap.size = gv at *
     have v1 : W8.cell? ⟨gv, 1, none⟩ = some (.int .i64 1) := by have := cell_of_row _ _ 1 _ _ _ hA8; simpa using this
     have v2 : W8.cell? ⟨gv, 2, none⟩ = some (.int .i64 Ty) := by have := cell_of_row _ _ 2 _ _ _ hA8; simpa using this
     clear hA8
     have HH : Hid (Chk W0 W8 kp p aA V.length cA vl st ∧ Sole kp W W8) := H8
     clear H8
     refine (HSTOP.out 10 _ _ HH.out.1).mono ?_
     rintro e w11 ⟨rfl, hc11, hs11⟩
     have v2 := hs11.cell (p := ⟨gv, 2, none⟩) hVb v2
     have HH2 : Hid (Chk W0 w11 kp p aA V.length cA vl (metAt (st) 10 (j : Int)) ∧ Sole kp W w11) := ⟨hc11, HH.out.2.trans hs11⟩
     clear hc11 hs11 HH v1
     go_wp2_with fail
     go_ret
     exact ⟨by rw [HR.out]; rfl, by rw [HR.out]; exact HH2.out.1, HH2.out.2⟩
    ·cases q with
     | true =>
      have hmem : nm ∈ L := of_decide_eq_true HQ.out
      have HR : Hid (targetF T.vars L nm true (j : Int) st = (Ty, metAt (st) 10 (j : Int))) := by
       unfold Hid
       rw [HT.out, if_pos (Or.inr hmem), decide_eq_true hs, if_neg (by decide)]
      clear HT
      have hk1 : (K == 1) = false := by simpa using hk
      have hk2 : decide (K = 1) = false := decide_eq_false hk
      go_wp2_with fail
      have H8 := HV8.out (.cells #[.string (bs nv), .int .i64 K, .int .i64 Ty, .int .i64 Sz] 108)
      have hA8 := HA8.out
      have hN8 := HN8.out
      clear HV8 HA8 HN8 c0 c1 c2 c3 q0 k0 n2
      generalize Wd.alloc (.cells #[.string (bs nv), .int .i64 K, .int .i64 Ty, .int .i64 Sz] 108) = W8 at *
      generalize Wd.heap.size = gv at *
      have v1 : W8.cell? ⟨gv, 1, none⟩ = some (.int .i64 K) := by have := cell_of_row _ _ 1 _ _ _ hA8; simpa using this
      have v2 : W8.cell? ⟨gv, 2, none⟩ = some (.int .i64 Ty) := by have := cell_of_row _ _ 2 _ _ _ hA8; simpa using this
      clear hA8
      have HH : Hid (Chk W0 W8 kp p aA V.length cA vl st ∧ Sole kp W W8) := H8
      clear H8
      refine (HINL.out _ _ HH.out.1 (HLO.out _ HH.out.2)).mono ?_
      rintro e w10 ⟨rfl, rfl⟩
      go_wp2_with fail
      refine (HSTOP.out 10 _ _ HH.out.1).mono ?_
      rintro e w11 ⟨rfl, hc11, hs11⟩
      have v2 := hs11.cell (p := ⟨gv, 2, none⟩) hVb v2
      have HH2 : Hid (Chk W0 w11 kp p aA V.length cA vl (metAt (st) 10 (j : Int)) ∧ Sole kp W w11) := ⟨hc11, HH.out.2.trans hs11⟩
      clear hc11 hs11 HH v1
      go_wp2_with fail
      go_ret
      exact ⟨by rw [HR.out]; rfl, by rw [HR.out]; exact HH2.out.1, HH2.out.2⟩
     | false =>
      have hmem : ¬ nm ∈ L := of_decide_eq_false HQ.out
      have HR : Hid (targetF T.vars L nm true (j : Int) st = (Ty, st)) := by
       unfold Hid
       rw [HT.out, if_neg (fun h => h.elim hk hmem), decide_eq_true hs, if_neg (by decide)]
      clear HT
      have hk1 : (K == 1) = false := by simpa using hk
      have hk2 : decide (K = 1) = false := decide_eq_false hk
      go_wp2_with fail
      have H8 := HV8.out (.cells #[.string (bs nv), .int .i64 K, .int .i64 Ty, .int .i64 Sz] 108)
      have hA8 := HA8.out
      have hN8 := HN8.out
      clear HV8 HA8 HN8 c0 c1 c2 c3 q0 k0 n2
      generalize Wd.alloc (.cells #[.string (bs nv), .int .i64 K, .int .i64 Ty, .int .i64 Sz] 108) = W8 at *
      generalize Wd.heap.size = gv at *
      have v1 : W8.cell? ⟨gv, 1, none⟩ = some (.int .i64 K) := by have := cell_of_row _ _ 1 _ _ _ hA8; simpa using this
      have v2 : W8.cell? ⟨gv, 2, none⟩ = some (.int .i64 Ty) := by have := cell_of_row _ _ 2 _ _ _ hA8; simpa using this
      clear hA8
      have HH : Hid (Chk W0 W8 kp p aA V.length cA vl st ∧ Sole kp W W8) := H8
      clear H8
      refine (HINL.out _ _ HH.out.1 (HLO.out _ HH.out.2)).mono ?_
      rintro e w10 ⟨rfl, rfl⟩
      go_wp2_with fail
      go_ret
      exact ⟨by rw [HR.out]; rfl, by rw [HR.out]; exact HH.out.1, HH.out.2⟩
   ·by_cases hk : K = 1
    ·subst hk
     have HR : Hid (targetF T.vars L nm true (j : Int) st = (Ty, metAt (metAt st 1 (j : Int)) 10 (j : Int))) := by
      unfold Hid
      rw [HT.out, if_pos (Or.inl rfl), decide_eq_false hs, if_pos (by decide)]
     clear HT
     go_wp2_with fail
     have H8 := HV8.out (.cells #[.string (bs nv), .int .i64 1, .int .i64 Ty, .int .i64 Sz] 108)
     have hA8 := HA8.out
     have hN8 := HN8.out
     clear HV8 HA8 HN8 c0 c1 c2 c3 q0 k0 n2
     generalize Wd.alloc (.cells #[.string (bs nv), .int .i64 1, .int .i64 Ty, .int .i64 Sz] 108) = W8 at *
     generalize Wd.heap.size = gv at *
     refine (HSTOP.out 1 st _ H8.1).mono ?_
     rintro e w9 ⟨rfl, hc9, hs9⟩
     have hA9 := (hs9.rest gv (blk_lt hA8) hVb).trans hA8
     have hN9 := hs9.cell (p := ⟨W.heap.size, 2, none⟩) hnW hN8
     clear hA8 hN8
     have hA8 := hA9
     have hN8 := hN9
     have H9 : Chk W0 w9 kp p aA V.length cA vl (metAt st 1 (j : Int)) ∧ Sole kp W w9 := ⟨hc9, H8.2.trans hs9⟩
     clear hA9 hN9 H8 hc9 hs9
     have H8 := H9
     clear H9
     have v1 : w9.cell? ⟨gv, 1, none⟩ = some (.int .i64 1) := by have := cell_of_row _ _ 1 _ _ _ hA8; simpa using this
     have v2 : w9.cell? ⟨gv, 2, none⟩ = some (.int .i64 Ty) := by have := cell_of_row _ _ 2 _ _ _ hA8; simpa using this
     clear hA8
     have HH : Hid (Chk W0 w9 kp p aA V.length cA vl (metAt st 1 (j : Int)) ∧ Sole kp W w9) := H8
     clear H8
     go_wp2_with fail
     refine (HSTOP.out 10 _ _ HH.out.1).mono ?_
     rintro e w11 ⟨rfl, hc11, hs11⟩
     have v2 := hs11.cell (p := ⟨gv, 2, none⟩) hVb v2
     have HH2 : Hid (Chk W0 w11 kp p aA V.length cA vl (metAt (metAt st 1 (j : Int)) 10 (j : Int)) ∧ Sole kp W w11) := ⟨hc11, HH.out.2.trans hs11⟩
     clear hc11 hs11 HH v1
     go_wp2_with fail
     go_ret
     exact ⟨by rw [HR.out]; rfl, by rw [HR.out]; exact HH2.out.1, HH2.out.2⟩
    ·cases q with
     | true =>
      have hmem : nm ∈ L := of_decide_eq_true HQ.out
      have HR : Hid (targetF T.vars L nm true (j : Int) st = (Ty, metAt (metAt st 1 (j : Int)) 10 (j : Int))) := by
       unfold Hid
       rw [HT.out, if_pos (Or.inr hmem), decide_eq_false hs, if_pos (by decide)]
      clear HT
      have hk1 : (K == 1) = false := by simpa using hk
      have hk2 : decide (K = 1) = false := decide_eq_false hk
      go_wp2_with fail
      have H8 := HV8.out (.cells #[.string (bs nv), .int .i64 K, .int .i64 Ty, .int .i64 Sz] 108)
      have hA8 := HA8.out
      have hN8 := HN8.out
      clear HV8 HA8 HN8 c0 c1 c2 c3 q0 k0 n2
      generalize Wd.alloc (.cells #[.string (bs nv), .int .i64 K, .int .i64 Ty, .int .i64 Sz] 108) = W8 at *
      generalize Wd.heap.size = gv at *
      refine (HSTOP.out 1 st _ H8.1).mono ?_
      rintro e w9 ⟨rfl, hc9, hs9⟩
      have hA9 := (hs9.rest gv (blk_lt hA8) hVb).trans hA8
      have hN9 := hs9.cell (p := ⟨W.heap.size, 2, none⟩) hnW hN8
      clear hA8 hN8
      have hA8 := hA9
      have hN8 := hN9
      have H9 : Chk W0 w9 kp p aA V.length cA vl (metAt st 1 (j : Int)) ∧ Sole kp W w9 := ⟨hc9, H8.2.trans hs9⟩
      clear hA9 hN9 H8 hc9 hs9
      have H8 := H9
      clear H9
      have v1 : w9.cell? ⟨gv, 1, none⟩ = some (.int .i64 K) := by have := cell_of_row _ _ 1 _ _ _ hA8; simpa using this
      have v2 : w9.cell? ⟨gv, 2, none⟩ = some (.int .i64 Ty) := by have := cell_of_row _ _ 2 _ _ _ hA8; simpa using this
      clear hA8
      have HH : Hid (Chk W0 w9 kp p aA V.length cA vl (metAt st 1 (j : Int)) ∧ Sole kp W w9) := H8
      clear H8
      go_wp2_with fail
      refine (HINL.out _ _ HH.out.1 (HLO.out _ HH.out.2)).mono ?_
      rintro e w10 ⟨rfl, rfl⟩
      go_wp2_with fail
      refine (HSTOP.out 10 _ _ HH.out.1).mono ?_
      rintro e w11 ⟨rfl, hc11, hs11⟩
      have v2 := hs11.cell (p := ⟨gv, 2, none⟩) hVb v2
      have HH2 : Hid (Chk W0 w11 kp p aA V.length cA vl (metAt (metAt st 1 (j : Int)) 10 (j : Int)) ∧ Sole kp W w11) := ⟨hc11, HH.out.2.trans hs11⟩
      clear hc11 hs11 HH v1
      go_wp2_with fail
      go_ret
      exact ⟨by rw [HR.out]; rfl, by rw [HR.out]; exact HH2.out.1, HH2.out.2⟩
     | false =>
      have hmem : ¬ nm ∈ L := of_decide_eq_false HQ.out
      have HR : Hid (targetF T.vars L nm true (j : Int) st = (Ty, metAt st 1 (j : Int))) := by
       unfold Hid
       rw [HT.out, if_neg (fun h => h.elim hk hmem), decide_eq_false hs, if_pos (by decide)]
      clear HT
      have hk1 : (K == 1) = false := by simpa using hk
      have hk2 : decide (K = 1) = false := decide_eq_false hk
      go_wp2_with fail
      have H8 := HV8.out (.cells #[.string (bs nv), .int .i64 K, .int .i64 Ty, .int .i64 Sz] 108)
      have hA8 := HA8.out
      have hN8 := HN8.out
      clear HV8 HA8 HN8 c0 c1 c2 c3 q0 k0 n2
      generalize Wd.alloc (.cells #[.string (bs nv), .int .i64 K, .int .i64 Ty, .int .i64 Sz] 108) = W8 at *
      generalize Wd.heap.size = gv at *
      refine (HSTOP.out 1 st _ H8.1).mono ?_
      rintro e w9 ⟨rfl, hc9, hs9⟩
      have hA9 := (hs9.rest gv (blk_lt hA8) hVb).trans hA8
      have hN9 := hs9.cell (p := ⟨W.heap.size, 2, none⟩) hnW hN8
      clear hA8 hN8
      have hA8 := hA9
      have hN8 := hN9
      have H9 : Chk W0 w9 kp p aA V.length cA vl (metAt st 1 (j : Int)) ∧ Sole kp W w9 := ⟨hc9, H8.2.trans hs9⟩
      clear hA9 hN9 H8 hc9 hs9
      have H8 := H9
      clear H9
      have v1 : w9.cell? ⟨gv, 1, none⟩ = some (.int .i64 K) := by have := cell_of_row _ _ 1 _ _ _ hA8; simpa using this
      have v2 : w9.cell? ⟨gv, 2, none⟩ = some (.int .i64 Ty) := by have := cell_of_row _ _ 2 _ _ _ hA8; simpa using this
      clear hA8
      have HH : Hid (Chk W0 w9 kp p aA V.length cA vl (metAt st 1 (j : Int)) ∧ Sole kp W w9) := H8
      clear H8
      go_wp2_with fail
      refine (HINL.out _ _ HH.out.1 (HLO.out _ HH.out.2)).mono ?_
      rintro e w10 ⟨rfl, rfl⟩
      go_wp2_with fail
      go_ret
      exact ⟨by rw [HR.out]; rfl, by rw [HR.out]; exact HH.out.1, HH.out.2⟩
end Go.Proofs.YtepjaoapjpmjkaaGreatDoor
