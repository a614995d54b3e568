/-
  impl.TreeFault.
-/
import Derived.Test.YtcecfmdjicjngaaGreatDoorIOnce
import Derived.Test.YtcecfmdjicjngaaGreatDoorIIn
import Derived.Deep.WholeRow
import Derived.Test.YtcecfmdjicjngaaGreatDoorOwn
import Derived.Test.YtcecfmdjicjngaaGreatDoorILex
import Derived.Test.YtcecfmdjicjngaaGreatDoorIDeep
import Derived.Test.YtcecfmdjicjngaaGreatDoorSFault
import Derived.Test.YtcecfmdjicjngaaGreatDoorTreeC
namespace Go.Proofs.YtcecfmdjicjngaaGreatDoor
open Go.RowKit
set_option linter.unusedVariables false
attribute [local go_sem] bs_size bs_get bs_extract bs_append bs_eq bs_toList
def kindAt (N : List LNode) (x : Int) : Int := (N.getD x.toNat default).kind
def statB (N : List LNode) (m : Nat) (l : List Int) : Bool := l.all (fun x => inB x 0 ((m : Int) - 1) && inB (kindAt N x) 7 11)
def kidsB (N : List LNode) (m : Nat) (l : List Int) : Bool := l.all (fun x => inB x 0 ((m : Int) - 1) && inB (kindAt N x) 1 6)
def Kinds (w : World) (a : Option Addr) (N : List LNode) (m : Nat) : Prop := 0 < m → ∃ b o, a = some ⟨b, o, none⟩ ∧ ∀ (i : Nat) (x : LNode), i < m → N[i]? = some x → w.cell? ⟨b, o + i * 8, none⟩ = some (.int .i64 x.kind)
set_option maxHeartbeats 3200000 in
set_option maxRecDepth 100000 in
theorem areStatements_any (N : List LNode) (m : Nat) (a2 : Option Addr) (c2 : Nat) (v : Value) (l : List Int) (hi : Nat) (w : World) (hm : m ≤ N.length) (hm1 : m ≤ 1048576) (hK : Kinds w a2 N m) (hv : IntsB hi w v l) (hl : l.length ≤ 1048576) :
  Calls Tryz.prog 87 #[.slice a2 m c2, v] w fun e w' => e = .returned (.bool (statB N m l)) ∧ w' = w := by
 obtain ⟨a, cp, rfl, hh⟩ := hv
 have HH := hid hh
 have HK := hid hK
 have HP : Hid (∀ (z : Int) (w : World), Calls Tryz.prog 78 #[.slice a2 m c2, .int .i64 z] w fun e w' => e = .returned (.bool (inB z 0 ((m : Int) - 1))) ∧ w' = w) := fun z w => isPlace_any a2 m c2 z w (by omega)
 have HX : Hid (∀ (z : Int) (w : World), Calls Tryz.prog 129 #[.int .i64 z] w fun e w' => e = .returned (.bool (inB z 7 11)) ∧ w' = w) := isStatement_any
 have HM : Hid (m ≤ N.length) := hm
 clear hh hK hm
 go_enter Tryz.func87, Tryz.ntmps87
 go_wp2
 go_loopw [9] (fun i wr => ∃ k : Nat, k ≤ l.length ∧ i = .int .i64 k ∧ (∀ j x, j < k → l[j]? = some x → (inB x 0 ((m : Int) - 1) && inB (kindAt N x) 7 11) = true) ∧ SameW wr w) (fun i _ => l.length - (intOf i).toNat)
 case atStart => exact ⟨0, by omega, rfl, by omega, rfl⟩
 case round =>
  obtain ⟨k, hk, rfl, hall, hw⟩ := hrel
  have HALL := hid hall
  have HW : Hid (SameW wr w) := hw
  clear hall
  by_cases hlt : k < l.length
  ·obtain ⟨x, hx⟩ : ∃ x, l[k]? = some x := ⟨l[k], List.getElem?_eq_getElem hlt⟩
   obtain ⟨b, o, rfl, _, hc1⟩ := HH.out (by intro e; rw [e] at hlt; simp at hlt)
   have c0 : wr.cell? ⟨b, o + k, none⟩ = _ := (congrArg (fun W => World.cell? W ⟨b, o + k, none⟩) hw).trans (hc1 k x hx)
   have hk0 : (0 : Int) ≤ (k : Int) := by omega
   have hk1 : (k : Int) < (l.length : Int) := by omega
   have HL : Hid (l[k]? = some x) := hx
   clear hx hc1
   obtain ⟨q, hq⟩ : ∃ q, inB x 0 ((m : Int) - 1) = q := ⟨_, rfl⟩
   cases q with
   | false =>
    have hI : Hid (∀ w, Calls Tryz.prog 78 #[.slice a2 m c2, .int .i64 x] w fun e w' => e = .returned (.bool false) ∧ w' = w) := fun w => by have h := HP.out x w; rwa [hq] at h
    have e : statB N m l = false := List.all_eq_false.2 ⟨x, List.mem_of_getElem? HL.out, by simp [hq]⟩
    have He : Hid _ := e
    clear e hq hw
    go_wp2_with fail
    refine (hI.out _).mono ?_
    rintro e w1 ⟨rfl, rfl⟩
    go_wp2_with fail
    go_ret
    exact ⟨by rw [He.out]; rfl, HW.out⟩
   | true =>
    have hq2 := inB_iff.1 hq
    obtain ⟨j, rfl⟩ : ∃ j : Nat, x = j := ⟨x.toNat, by omega⟩
    have hjm : j < m := by omega
    obtain ⟨y, hy⟩ : ∃ y, N[j]? = some y := ⟨N[j]'(by have := HM.out; omega), List.getElem?_eq_getElem _⟩
    obtain ⟨g2, o2, rfl, hc2⟩ := HK.out (by omega)
    have d0 : wr.cell? ⟨g2, o2 + j * 8, none⟩ = _ := (congrArg (fun W => World.cell? W ⟨g2, o2 + j * 8, none⟩) hw).trans (hc2 j y hjm hy)
    have hkd : kindAt N (j : Int) = y.kind := by
     have : N.getD ((j : Int)).toNat default = y := by simp [hy]
     unfold kindAt; rw [this]
    have HR : Hid ((inB (j : Int) 0 ((m : Int) - 1) && inB (kindAt N (j : Int)) 7 11) = inB y.kind 7 11) := by unfold Hid; rw [hq, hkd]; rfl
    have hj0 : (0 : Int) ≤ (j : Int) := by omega
    have hj1 : (j : Int) < (m : Int) := by omega
    have hI : Hid (∀ w, Calls Tryz.prog 78 #[.slice (some ⟨g2, o2, none⟩) m c2, .int .i64 (j : Int)] w fun e w' => e = .returned (.bool true) ∧ w' = w) := fun w => by have h := HP.out (j : Int) w; rwa [hq] at h
    clear hq hq2 hy hc2 hkd hw
    obtain ⟨qe, hqe⟩ : ∃ q, inB y.kind 7 11 = q := ⟨_, rfl⟩
    have hE : Hid (∀ w, Calls Tryz.prog 129 #[.int .i64 y.kind] w fun e w' => e = .returned (.bool qe) ∧ w' = w) := fun w => by have h := HX.out y.kind w; rwa [hqe] at h
    cases qe
    ·have e : statB N m l = false := List.all_eq_false.2 ⟨(j : Int), List.mem_of_getElem? HL.out, by rw [HR.out, hqe]; decide⟩
     have He : Hid _ := e
     clear e
     go_wp2_with fail
     refine (hI.out _).mono ?_
     rintro e w1 ⟨rfl, rfl⟩
     go_wp2_with fail
     refine (hE.out _).mono ?_
     rintro e w1 ⟨rfl, rfl⟩
     go_wp2_with fail
     go_ret
     exact ⟨by rw [He.out]; rfl, HW.out⟩
    ·go_wp2_with fail
     refine (hI.out _).mono ?_
     rintro e w1 ⟨rfl, rfl⟩
     go_wp2_with fail
     refine (hE.out _).mono ?_
     rintro e w1 ⟨rfl, rfl⟩
     go_wp2_with fail
     go_roundw
     case rel => exact ⟨k + 1, by omega, by go_num, fun i x hi hx => by
       rcases Nat.lt_succ_iff_lt_or_eq.1 hi with h | rfl
       ·exact HALL.out i x h hx
       ·have := hx.symm.trans HL.out
        cases this
        rw [HR.out, hqe], HW.out⟩
     case measure => simp [intOf]; omega
  ·have hke : k = l.length := by omega
   have e : statB N m l = true := List.all_eq_true.2 (fun x hx => by
    obtain ⟨j, hj, rfl⟩ := List.getElem_of_mem hx
    exact HALL.out j _ (by omega) (List.getElem?_eq_getElem hj))
   have He : Hid _ := e
   clear e hke hw
   go_wp2
   go_ret
   exact ⟨by rw [He.out]; rfl, HW.out⟩
end Go.Proofs.YtcecfmdjicjngaaGreatDoor
namespace Go.Proofs.YtcecfmdjicjngaaGreatDoor
open Go.RowKit
set_option linter.unusedVariables false
attribute [local go_sem] bs_size bs_get bs_extract bs_append bs_eq bs_toList
theorem wpList_build {P : Program} (w : World) {ops : Array Oper} {rest : List Oper} {o : Oper} {a : Act} {Q : Exit → Act → World → Prop}
  (hg : o.guard = none) (t : TypeId) (parts : Array (Nat × Operand)) (hop : o.op = Op.build t parts) (V : Value) (args : Array (Nat × Value)) (hargs : parts.map (fun (i, x) => (i, a.eval x)) = args)
  (hrun : (Instr.build t args).run P w = .ok V w) (hK : wpList P ops Q rest (a.put o.dst V) w) : wpList P ops Q (o :: rest) a w := by
 refine wpList_plain hg fun K hK' => ?_
 unfold Oper.wp
 simp [execOp, hop, hargs, hrun, Result.andThen]
 exact hK' _ _ hK
abbrev shapeV (mo : Int) (nm nu fa : Bool) (le mt : Int) (th el : Bool) : Value := .agg #[.int .i64 mo, .bool nm, .bool nu, .bool fa, .int .i64 le, .int .i64 mt, .bool th, .bool el]
abbrev Shape (k : Int) (v : Value) : Prop := ∀ w : World, Calls Tryz.prog 154 #[.int .i64 k] w fun e w' => e = .returned v ∧ Below w.heap.size w w'
abbrev zerosA : Array Value := #[.int .i64 0, .bool false, .bool false, .bool false, .int .i64 0, .int .i64 0, .bool false, .bool false, .int .i64 0, .bool false, .bool false, .bool false, .int .i64 0, .int .i64 0, .bool false, .bool false, .int .i64 0, .bool false, .bool false, .bool false, .int .i64 0, .int .i64 0, .bool false, .bool false, .int .i64 0, .bool false, .bool false, .bool false, .int .i64 0, .int .i64 0, .bool false, .bool false, .int .i64 0, .bool false, .bool false, .bool false, .int .i64 0, .int .i64 0, .bool false, .bool false, .int .i64 0, .bool false, .bool false, .bool false, .int .i64 0, .int .i64 0, .bool false, .bool false, .int .i64 0, .bool false, .bool false, .bool false, .int .i64 0, .int .i64 0, .bool false, .bool false, .int .i64 0, .bool false, .bool false, .bool false, .int .i64 0, .int .i64 0, .bool false, .bool false, .int .i64 0, .bool false, .bool false, .bool false, .int .i64 0, .int .i64 0, .bool false, .bool false, .int .i64 0, .bool false, .bool false, .bool false, .int .i64 0, .int .i64 0, .bool false, .bool false, .int .i64 0, .bool false, .bool false, .bool false, .int .i64 0, .int .i64 0, .bool false, .bool false, .int .i64 0, .bool false, .bool false, .bool false, .int .i64 0, .int .i64 0, .bool false, .bool false]
abbrev shapesA : Array Value := #[.int .i64 0, .bool false, .bool false, .bool false, .int .i64 0, .int .i64 0, .bool false, .bool false, .int .i64 0, .bool false, .bool true, .bool false, .int .i64 0, .int .i64 0, .bool false, .bool false, .int .i64 0, .bool true, .bool false, .bool false, .int .i64 0, .int .i64 0, .bool false, .bool false, .int .i64 0, .bool true, .bool false, .bool false, .int .i64 1, .int .i64 1, .bool false, .bool false, .int .i64 0, .bool false, .bool false, .bool false, .int .i64 1, .int .i64 1, .bool false, .bool false, .int .i64 0, .bool false, .bool false, .bool false, .int .i64 1, .int .i64 1, .bool false, .bool false, .int .i64 10, .bool false, .bool false, .bool false, .int .i64 2, .int .i64 2, .bool false, .bool false, .int .i64 0, .bool true, .bool false, .bool false, .int .i64 1, .int .i64 1, .bool false, .bool false, .int .i64 0, .bool true, .bool false, .bool false, .int .i64 2, .int .i64 2, .bool false, .bool false, .int .i64 0, .bool false, .bool false, .bool false, .int .i64 1, .int .i64 1, .bool true, .bool true, .int .i64 0, .bool true, .bool true, .bool true, .int .i64 0, .int .i64 0, .bool true, .bool false, .int .i64 4, .bool true, .bool false, .bool false, .int .i64 1, .int .i64 3, .bool false, .bool false]
theorem zero12 (W : World) : (zeroValue 268).run Tryz.prog W = .ok (.agg zerosA) W := by kernel_rfl
theorem build12 (W : World) : (Instr.build 268 #[(1, .agg #[.int .i64 0, .bool false, .bool true, .bool false, .int .i64 0, .int .i64 0, .bool false, .bool false]), (2, .agg #[.int .i64 0, .bool true, .bool false, .bool false, .int .i64 0, .int .i64 0, .bool false, .bool false]), (3, .agg #[.int .i64 0, .bool true, .bool false, .bool false, .int .i64 1, .int .i64 1, .bool false, .bool false]), (4, .agg #[.int .i64 0, .bool false, .bool false, .bool false, .int .i64 1, .int .i64 1, .bool false, .bool false]), (5, .agg #[.int .i64 0, .bool false, .bool false, .bool false, .int .i64 1, .int .i64 1, .bool false, .bool false]), (6, .agg #[.int .i64 10, .bool false, .bool false, .bool false, .int .i64 2, .int .i64 2, .bool false, .bool false]), (7, .agg #[.int .i64 0, .bool true, .bool false, .bool false, .int .i64 1, .int .i64 1, .bool false, .bool false]), (8, .agg #[.int .i64 0, .bool true, .bool false, .bool false, .int .i64 2, .int .i64 2, .bool false, .bool false]), (9, .agg #[.int .i64 0, .bool false, .bool false, .bool false, .int .i64 1, .int .i64 1, .bool true, .bool true]), (10, .agg #[.int .i64 0, .bool true, .bool true, .bool true, .int .i64 0, .int .i64 0, .bool true, .bool false]), (11, .agg #[.int .i64 4, .bool true, .bool false, .bool false, .int .i64 1, .int .i64 3, .bool false, .bool false])]).run Tryz.prog W = .ok (.agg shapesA) W := by kernel_rfl
theorem store12 (w : World) : (storeCells ⟨w.heap.size, 0, none⟩ shapesA.toList 0).run Tryz.prog (w.alloc (.cells zerosA 268)) = .ok () (w.alloc (.cells shapesA 268)) :=
 run_storeCells_new w 268 zerosA shapesA (by kernel_rfl) (by rfl) (by decide +kernel)
theorem store12' (w : World) (o : Obj) : (storeCells ⟨w.heap.size + 1, 0, none⟩ shapesA.toList 0).run Tryz.prog ((w.alloc o).alloc (.cells zerosA 268)) = .ok () ((w.alloc o).alloc (.cells shapesA 268)) := by
 have := store12 (w.alloc o)
 simpa using this
set_option maxHeartbeats 1600000 in
set_option maxRecDepth 100000 in
theorem shape_k (k : Nat) (v : Value) (hk0 : (0 : Int) ≤ (k : Int)) (hk1 : (k : Int) < 12) (mo : Int) (nm nu fa : Bool) (le mt : Int) (th el : Bool) (hv : ∀ j u, #[Value.int .i64 mo, .bool nm, .bool nu, .bool fa, .int .i64 le, .int .i64 mt, .bool th, .bool el][j]? = some u → shapesA[k * 8 + j]? = some u) :
  Shape k (shapeV mo nm nu fa le mt th el) := by
 intro w
 have hz := zero12
 have hb := build12
 have hst := store12'
 have hs : shapesA.size = 96 := rfl
 have hs0 : zerosA.size = 96 := rfl
 generalize shapesA = A at *
 generalize zerosA = Z at *
 have hc : ∀ j u, #[Value.int .i64 mo, .bool nm, .bool nu, .bool fa, .int .i64 le, .int .i64 mt, .bool th, .bool el][j]? = some u → ((w.alloc (.cells #[.int .i64 0, .bool false, .bool false, .bool false, .int .i64 0, .int .i64 0, .bool false, .bool false] 200)).alloc (.cells A 268)).cell? ⟨w.heap.size + 1, k * 8 + j, none⟩ = some u := fun j u hj => by
  have e := heap_alloc_new (w.alloc (.cells #[.int .i64 0, .bool false, .bool false, .bool false, .int .i64 0, .int .i64 0, .bool false, .bool false] 200)) (.cells A 268)
  rw [show (w.alloc (.cells #[.int .i64 0, .bool false, .bool false, .bool false, .int .i64 0, .int .i64 0, .bool false, .bool false] 200)).heap.size = w.heap.size + 1 from by simp] at e
  rw [cell_of_row _ _ _ _ _ _ e]
  exact hv j u hj
 have c0 := hc 0 _ rfl
 have c1 := hc 1 _ rfl
 have c2 := hc 2 _ rfl
 have c3 := hc 3 _ rfl
 have c4 := hc 4 _ rfl
 have c5 := hc 5 _ rfl
 have c6 := hc 6 _ rfl
 have c7 := hc 7 _ rfl
 clear hc hv
 simp only [Nat.add_zero] at c0
 go_enter Tryz.func154, Tryz.ntmps154
 go_wp2_with (show Go.wpList _ _ _ (Go.Oper.mk _ (Go.Op.build 268 _) _ _ _ _ :: _) _ _; refine wpList_build _ rfl 268 _ rfl (.agg A) _ (by simp [go_sem]) (hb _) ?_)
 have e1 := heap_alloc_new w (.cells #[.int .i64 mo, .bool nm, .bool nu, .bool fa, .int .i64 le, .int .i64 mt, .bool th, .bool el] 200)
 have e2 : ((w.alloc (.cells #[.int .i64 mo, .bool nm, .bool nu, .bool fa, .int .i64 le, .int .i64 mt, .bool th, .bool el] 200)).alloc (.cells A 268)).heap[w.heap.size]? = _ := (Below.heap_alloc _ _ _ (by simp)).trans e1
 have hB : Below w.heap.size w ((w.alloc (.cells #[.int .i64 mo, .bool nm, .bool nu, .bool fa, .int .i64 le, .int .i64 mt, .bool th, .bool el] 200)).alloc (.cells A 268)) := ((Below.refl _ _).alloc (Nat.le_refl _) _).alloc (by simp) _
 generalize ((w.alloc (.cells #[.int .i64 mo, .bool nm, .bool nu, .bool fa, .int .i64 le, .int .i64 mt, .bool th, .bool el] 200)).alloc (.cells A 268)) = W at *
 obtain ⟨r0, r1, r2, r3, r4, r5, r6, r7⟩ := cl8 e2
 refine bodyPost_ret (v := shapeV mo nm nu fa le mt th el) (by simp [results, Tryz.results154, go_sem, r0, r1, r2, r3, r4, r5, r6, r7]) rfl ⟨rfl, hB⟩
theorem sh1 : Shape 1 (shapeV 0 false true false 0 0 false false) := shape_k 1 (.bool false) (by omega) (by omega) 0 false true false 0 0 false false (fun j u h => by
 match j, h with
 | 0, h => exact h
 | 1, h => exact h
 | 2, h => exact h
 | 3, h => exact h
 | 4, h => exact h
 | 5, h => exact h
 | 6, h => exact h
 | 7, h => exact h
 | j + 8, h => simp at h)
theorem sh2 : Shape 2 (shapeV 0 true false false 0 0 false false) := shape_k 2 (.bool false) (by omega) (by omega) 0 true false false 0 0 false false (fun j u h => by
 match j, h with
 | 0, h => exact h
 | 1, h => exact h
 | 2, h => exact h
 | 3, h => exact h
 | 4, h => exact h
 | 5, h => exact h
 | 6, h => exact h
 | 7, h => exact h
 | j + 8, h => simp at h)
theorem sh3 : Shape 3 (shapeV 0 true false false 1 1 false false) := shape_k 3 (.bool false) (by omega) (by omega) 0 true false false 1 1 false false (fun j u h => by
 match j, h with
 | 0, h => exact h
 | 1, h => exact h
 | 2, h => exact h
 | 3, h => exact h
 | 4, h => exact h
 | 5, h => exact h
 | 6, h => exact h
 | 7, h => exact h
 | j + 8, h => simp at h)
theorem sh4 : Shape 4 (shapeV 0 false false false 1 1 false false) := shape_k 4 (.bool false) (by omega) (by omega) 0 false false false 1 1 false false (fun j u h => by
 match j, h with
 | 0, h => exact h
 | 1, h => exact h
 | 2, h => exact h
 | 3, h => exact h
 | 4, h => exact h
 | 5, h => exact h
 | 6, h => exact h
 | 7, h => exact h
 | j + 8, h => simp at h)
theorem sh5 : Shape 5 (shapeV 0 false false false 1 1 false false) := shape_k 5 (.bool false) (by omega) (by omega) 0 false false false 1 1 false false (fun j u h => by
 match j, h with
 | 0, h => exact h
 | 1, h => exact h
 | 2, h => exact h
 | 3, h => exact h
 | 4, h => exact h
 | 5, h => exact h
 | 6, h => exact h
 | 7, h => exact h
 | j + 8, h => simp at h)
theorem sh6 : Shape 6 (shapeV 10 false false false 2 2 false false) := shape_k 6 (.bool false) (by omega) (by omega) 10 false false false 2 2 false false (fun j u h => by
 match j, h with
 | 0, h => exact h
 | 1, h => exact h
 | 2, h => exact h
 | 3, h => exact h
 | 4, h => exact h
 | 5, h => exact h
 | 6, h => exact h
 | 7, h => exact h
 | j + 8, h => simp at h)
theorem sh7 : Shape 7 (shapeV 0 true false false 1 1 false false) := shape_k 7 (.bool false) (by omega) (by omega) 0 true false false 1 1 false false (fun j u h => by
 match j, h with
 | 0, h => exact h
 | 1, h => exact h
 | 2, h => exact h
 | 3, h => exact h
 | 4, h => exact h
 | 5, h => exact h
 | 6, h => exact h
 | 7, h => exact h
 | j + 8, h => simp at h)
theorem sh8 : Shape 8 (shapeV 0 true false false 2 2 false false) := shape_k 8 (.bool false) (by omega) (by omega) 0 true false false 2 2 false false (fun j u h => by
 match j, h with
 | 0, h => exact h
 | 1, h => exact h
 | 2, h => exact h
 | 3, h => exact h
 | 4, h => exact h
 | 5, h => exact h
 | 6, h => exact h
 | 7, h => exact h
 | j + 8, h => simp at h)
theorem sh9 : Shape 9 (shapeV 0 false false false 1 1 true true) := shape_k 9 (.bool false) (by omega) (by omega) 0 false false false 1 1 true true (fun j u h => by
 match j, h with
 | 0, h => exact h
 | 1, h => exact h
 | 2, h => exact h
 | 3, h => exact h
 | 4, h => exact h
 | 5, h => exact h
 | 6, h => exact h
 | 7, h => exact h
 | j + 8, h => simp at h)
theorem sh10 : Shape 10 (shapeV 0 true true true 0 0 true false) := shape_k 10 (.bool false) (by omega) (by omega) 0 true true true 0 0 true false (fun j u h => by
 match j, h with
 | 0, h => exact h
 | 1, h => exact h
 | 2, h => exact h
 | 3, h => exact h
 | 4, h => exact h
 | 5, h => exact h
 | 6, h => exact h
 | 7, h => exact h
 | j + 8, h => simp at h)
theorem sh11 : Shape 11 (shapeV 4 true false false 1 3 false false) := shape_k 11 (.bool false) (by omega) (by omega) 4 true false false 1 3 false false (fun j u h => by
 match j, h with
 | 0, h => exact h
 | 1, h => exact h
 | 2, h => exact h
 | 3, h => exact h
 | 4, h => exact h
 | 5, h => exact h
 | 6, h => exact h
 | 7, h => exact h
 | j + 8, h => simp at h)
end Go.Proofs.YtcecfmdjicjngaaGreatDoor
namespace Go.Proofs.YtcecfmdjicjngaaGreatDoor
open Go.RowKit
set_option linter.unusedVariables false
attribute [local go_sem] bs_size bs_get bs_extract bs_append bs_eq bs_toList
set_option maxHeartbeats 6400000 in
set_option maxRecDepth 100000 in
theorem has1 (K : Int) (R : Bool) (op : Int) (name : List UInt8) (num far : Int) (kids thn els : List Int) (a a2 a3 : Option Addr) (c c2 c3 : Nat) (w : World) (hl : name.length ≤ 1048576) (hk1 : kids.length ≤ 1048576) (hk2 : thn.length ≤ 1048576) (hk3 : els.length ≤ 1048576)
  (hO : R = (decide (op = 0) && name.isEmpty && inB num 0 65535 && decide (far = 0) && kids.isEmpty && thn.isEmpty && els.isEmpty)) (hS : Shape K (shapeV 0 false true false 0 0 false false)) (hK : inB K 1 11 = true) :
  Calls Tryz.prog 85 #[.agg #[.int .i64 K, .int .i64 op, .string (bs name), .int .i64 num, .int .i64 far, .slice a kids.length c, .slice a2 thn.length c2, .slice a3 els.length c3]] w fun e w' => e = .returned (.bool R) ∧ Below w.heap.size w w' := by
 have HN : Hid (∀ w, Calls Tryz.prog 83 #[.string (bs name)] w fun e w' => e = .returned (.bool (isNameL name)) ∧ w' = w) := fun w => iIsName_any name w (by omega)
 have HW0 : Hid (∀ w, Calls Tryz.prog 84 #[.int .i64 K, .int .i64 1, .int .i64 11] w fun e w' => e = .returned (.bool true) ∧ w' = w) := fun w => by have h := within_any K 1 11 w; rwa [hK] at h
 have HS := hid hS
 have HO := hid hO
 clear hl hO hS hK
 go_enter Tryz.func85, Tryz.ntmps85
 go_wp2_with fail
 have hA := heap_alloc_new w (.cells #[.int .i64 K, .int .i64 op, .string (bs name), .int .i64 num, .int .i64 far, .slice a kids.length c, .slice a2 thn.length c2, .slice a3 els.length c3] 40)
 have hB : Below w.heap.size w (w.alloc (.cells #[.int .i64 K, .int .i64 op, .string (bs name), .int .i64 num, .int .i64 far, .slice a kids.length c, .slice a2 thn.length c2, .slice a3 els.length c3] 40)) := (Below.refl _ _).alloc (Nat.le_refl _) _
 generalize w.alloc (.cells #[.int .i64 K, .int .i64 op, .string (bs name), .int .i64 num, .int .i64 far, .slice a kids.length c, .slice a2 thn.length c2, .slice a3 els.length c3] 40) = W at *
 have k0 : W.cell? ⟨w.heap.size, 0, none⟩ = some (.int .i64 K) := cell_of_row _ _ 0 _ _ _ hA
 refine (HW0.out _).mono ?_
 rintro e w1 ⟨rfl, rfl⟩
 go_wp2_with fail
 refine (HS.out _).mono ?_
 rintro e w2 ⟨rfl, hb⟩
 have hA2 := blk hA hb
 have HB : Hid (Below w.heap.size w w2) := hB.trans (hb.mono hB.size)
 obtain ⟨d0, d1, d2, d3, d4, d5, d6, d7⟩ := cl8 hA2
 have hwl : w.heap.size < w2.heap.size := World.block_lt_of_cell? _ _ d0
 clear hA hB k0 hb hA2 HW0 HS
 go_wp2_with fail
 have hA3 := heap_alloc_new w2 (.cells #[.int .i64 0, .bool false, .bool true, .bool false, .int .i64 0, .int .i64 0, .bool false, .bool false] 200)
 have hB3 : Below w2.heap.size w2 (w2.alloc (.cells #[.int .i64 0, .bool false, .bool true, .bool false, .int .i64 0, .int .i64 0, .bool false, .bool false] 200)) := (Below.refl _ _).alloc (Nat.le_refl _) _
 generalize w2.alloc (.cells #[.int .i64 0, .bool false, .bool true, .bool false, .int .i64 0, .int .i64 0, .bool false, .bool false] 200) = W3 at *
 replace d0 : W3.cell? ⟨w.heap.size, 0, none⟩ = some (.int .i64 K) := (hB3.cell (p := ⟨w.heap.size, 0, none⟩) hwl).trans d0
 replace d1 : W3.cell? ⟨w.heap.size, 1, none⟩ = some (.int .i64 op) := (hB3.cell (p := ⟨w.heap.size, 1, none⟩) hwl).trans d1
 replace d2 : W3.cell? ⟨w.heap.size, 2, none⟩ = some (.string (bs name)) := (hB3.cell (p := ⟨w.heap.size, 2, none⟩) hwl).trans d2
 replace d3 : W3.cell? ⟨w.heap.size, 3, none⟩ = some (.int .i64 num) := (hB3.cell (p := ⟨w.heap.size, 3, none⟩) hwl).trans d3
 replace d4 : W3.cell? ⟨w.heap.size, 4, none⟩ = some (.int .i64 far) := (hB3.cell (p := ⟨w.heap.size, 4, none⟩) hwl).trans d4
 replace d5 : W3.cell? ⟨w.heap.size, 5, none⟩ = some (.slice a kids.length c) := (hB3.cell (p := ⟨w.heap.size, 5, none⟩) hwl).trans d5
 replace d6 : W3.cell? ⟨w.heap.size, 6, none⟩ = some (.slice a2 thn.length c2) := (hB3.cell (p := ⟨w.heap.size, 6, none⟩) hwl).trans d6
 replace d7 : W3.cell? ⟨w.heap.size, 7, none⟩ = some (.slice a3 els.length c3) := (hB3.cell (p := ⟨w.heap.size, 7, none⟩) hwl).trans d7
 obtain ⟨s0, s1, s2, s3, s4, s5, s6, s7⟩ := cl8 hA3
 replace HB : Hid (Below w.heap.size w W3) := HB.out.trans (hB3.mono HB.out.size)
 clear hA3 hB3 hwl
 generalize w2.heap.size = g2 at *
 by_cases qop : op = 0
 ·subst qop
  have hC : Hid (∀ w, Calls Tryz.prog 84 #[.int .i64 0, .int .i64 0, .int .i64 0] w fun e w' => e = .returned (.bool true) ∧ w' = w) := fun w => by have h := within_any 0 0 0 w; rwa [show inB 0 0 0 = true from by decide] at h
  skip
  refine (hC.out _).mono ?_
  rintro e w' ⟨rfl, rfl⟩
  clear hC
  simp only []; rename_i kk hkk; simp only [List.append_eq, List.cons_append, List.nil_append] at hkk
  by_cases qname : name = []
  ·subst qname
   obtain ⟨q, qnum⟩ : ∃ q, inB num 0 65535 = q := ⟨_, rfl⟩
   have hC : Hid (∀ w, Calls Tryz.prog 155 #[.int .i64 num] w fun e w' => e = .returned (.bool q) ∧ w' = w) := fun w => by have h := fitsWord_any num w; rwa [qnum] at h
   cases q with
   | true =>
    go_wp2_with fail
    refine (hC.out _).mono ?_
    rintro e w' ⟨rfl, rfl⟩
    clear hC
    skip
    by_cases qfar : far = 0
    ·subst qfar
     by_cases qkids : kids = []
     ·subst qkids
      by_cases qthn : thn = []
      ·subst qthn
       by_cases qels : els = []
       ·subst qels
        have HE : Hid (R = true) := by unfold Hid; rw [HO.out]; simp [qnum]
        clear HO
        go_wp2_with fail
        go_ret
        exact ⟨by rw [HE.out]; rfl, HB.out⟩
       ·have hz : 0 < els.length := List.length_pos_iff.2 qels
        have hz3 : (((els.length : Nat) : Int) == 0) = false := by rw [beq_eq_false_iff_ne]; omega
        have hz4 : decide (((els.length : Nat) : Int) = 0) = false := decide_eq_false (by omega)
        have HE : Hid (R = false) := by unfold Hid; rw [HO.out]; simp [qels]
        clear HO
        go_wp2_with fail
        go_ret
        exact ⟨by rw [HE.out]; rfl, HB.out⟩
      ·have hz : 0 < thn.length := List.length_pos_iff.2 qthn
       have hz3 : (((thn.length : Nat) : Int) == 0) = false := by rw [beq_eq_false_iff_ne]; omega
       have hz4 : decide (((thn.length : Nat) : Int) = 0) = false := decide_eq_false (by omega)
       have HE : Hid (R = false) := by unfold Hid; rw [HO.out]; simp [qthn]
       clear HO
       go_wp2_with fail
       go_ret
       exact ⟨by rw [HE.out]; rfl, HB.out⟩
     ·have hz : 0 < kids.length := List.length_pos_iff.2 qkids
      have hz3 : (((kids.length : Nat) : Int) == 0) = false := by rw [beq_eq_false_iff_ne]; omega
      have hz4 : decide (((kids.length : Nat) : Int) = 0) = false := decide_eq_false (by omega)
      have hz5 : decide (((kids.length : Nat) : Int) ≤ 0) = false := decide_eq_false (by omega)
      have HE : Hid (R = false) := by unfold Hid; rw [HO.out]; simp [qkids]
      clear HO
      go_wp2_with fail
      go_ret
      exact ⟨by rw [HE.out]; rfl, HB.out⟩
    ·have hz1 : (far == 0) = false := by simpa using qfar
     have hz2 : decide (far = 0) = false := decide_eq_false qfar
     have HE : Hid (R = false) := by unfold Hid; rw [HO.out]; simp [qfar]
     clear HO
     go_wp2_with fail
     go_ret
     exact ⟨by rw [HE.out]; rfl, HB.out⟩
   | false =>
    have hz : num ≠ 0 := by rintro rfl; simp [inB] at qnum
    have hz1 : (num == 0) = false := by simpa using hz
    have hz2 : decide (num = 0) = false := decide_eq_false hz
    go_wp2_with fail
    refine (hC.out _).mono ?_
    rintro e w' ⟨rfl, rfl⟩
    clear hC
    skip
    have HE : Hid (R = false) := by unfold Hid; rw [HO.out]; simp [qnum]
    clear HO
    go_wp2_with fail
    go_ret
    exact ⟨by rw [HE.out]; rfl, HB.out⟩
  ·have hz1 : (name == []) = false := by simpa using qname
   have hz2 : decide (name = []) = false := decide_eq_false qname
   have HE : Hid (R = false) := by unfold Hid; rw [HO.out]; simp [qname]
   clear HO
   go_wp2_with fail
   go_ret
   exact ⟨by rw [HE.out]; rfl, HB.out⟩
 ·have hC : Hid (∀ w, Calls Tryz.prog 84 #[.int .i64 op, .int .i64 0, .int .i64 0] w fun e w' => e = .returned (.bool false) ∧ w' = w) := fun w => by have h := within_any op 0 0 w; rwa [show inB op 0 0 = false from inB_no.2 (by omega)] at h
  skip
  refine (hC.out _).mono ?_
  rintro e w' ⟨rfl, rfl⟩
  clear hC
  simp only []; rename_i kk hkk; simp only [List.append_eq, List.cons_append, List.nil_append] at hkk
  have HE : Hid (R = false) := by unfold Hid; rw [HO.out]; simp [qop]
  clear HO
  go_wp2_with fail
  go_ret
  exact ⟨by rw [HE.out]; rfl, HB.out⟩
set_option maxHeartbeats 6400000 in
set_option maxRecDepth 100000 in
theorem has2 (K : Int) (R : Bool) (op : Int) (name : List UInt8) (num far : Int) (kids thn els : List Int) (a a2 a3 : Option Addr) (c c2 c3 : Nat) (w : World) (hl : name.length ≤ 1048576) (hk1 : kids.length ≤ 1048576) (hk2 : thn.length ≤ 1048576) (hk3 : els.length ≤ 1048576)
  (hO : R = (decide (op = 0) && isNameL name && decide (num = 0) && decide (far = 0) && kids.isEmpty && thn.isEmpty && els.isEmpty)) (hS : Shape K (shapeV 0 true false false 0 0 false false)) (hK : inB K 1 11 = true) :
  Calls Tryz.prog 85 #[.agg #[.int .i64 K, .int .i64 op, .string (bs name), .int .i64 num, .int .i64 far, .slice a kids.length c, .slice a2 thn.length c2, .slice a3 els.length c3]] w fun e w' => e = .returned (.bool R) ∧ Below w.heap.size w w' := by
 have HN : Hid (∀ w, Calls Tryz.prog 83 #[.string (bs name)] w fun e w' => e = .returned (.bool (isNameL name)) ∧ w' = w) := fun w => iIsName_any name w (by omega)
 have HW0 : Hid (∀ w, Calls Tryz.prog 84 #[.int .i64 K, .int .i64 1, .int .i64 11] w fun e w' => e = .returned (.bool true) ∧ w' = w) := fun w => by have h := within_any K 1 11 w; rwa [hK] at h
 have HS := hid hS
 have HO := hid hO
 clear hl hO hS hK
 go_enter Tryz.func85, Tryz.ntmps85
 go_wp2_with fail
 have hA := heap_alloc_new w (.cells #[.int .i64 K, .int .i64 op, .string (bs name), .int .i64 num, .int .i64 far, .slice a kids.length c, .slice a2 thn.length c2, .slice a3 els.length c3] 40)
 have hB : Below w.heap.size w (w.alloc (.cells #[.int .i64 K, .int .i64 op, .string (bs name), .int .i64 num, .int .i64 far, .slice a kids.length c, .slice a2 thn.length c2, .slice a3 els.length c3] 40)) := (Below.refl _ _).alloc (Nat.le_refl _) _
 generalize w.alloc (.cells #[.int .i64 K, .int .i64 op, .string (bs name), .int .i64 num, .int .i64 far, .slice a kids.length c, .slice a2 thn.length c2, .slice a3 els.length c3] 40) = W at *
 have k0 : W.cell? ⟨w.heap.size, 0, none⟩ = some (.int .i64 K) := cell_of_row _ _ 0 _ _ _ hA
 refine (HW0.out _).mono ?_
 rintro e w1 ⟨rfl, rfl⟩
 go_wp2_with fail
 refine (HS.out _).mono ?_
 rintro e w2 ⟨rfl, hb⟩
 have hA2 := blk hA hb
 have HB : Hid (Below w.heap.size w w2) := hB.trans (hb.mono hB.size)
 obtain ⟨d0, d1, d2, d3, d4, d5, d6, d7⟩ := cl8 hA2
 have hwl : w.heap.size < w2.heap.size := World.block_lt_of_cell? _ _ d0
 clear hA hB k0 hb hA2 HW0 HS
 go_wp2_with fail
 have hA3 := heap_alloc_new w2 (.cells #[.int .i64 0, .bool true, .bool false, .bool false, .int .i64 0, .int .i64 0, .bool false, .bool false] 200)
 have hB3 : Below w2.heap.size w2 (w2.alloc (.cells #[.int .i64 0, .bool true, .bool false, .bool false, .int .i64 0, .int .i64 0, .bool false, .bool false] 200)) := (Below.refl _ _).alloc (Nat.le_refl _) _
 generalize w2.alloc (.cells #[.int .i64 0, .bool true, .bool false, .bool false, .int .i64 0, .int .i64 0, .bool false, .bool false] 200) = W3 at *
 replace d0 : W3.cell? ⟨w.heap.size, 0, none⟩ = some (.int .i64 K) := (hB3.cell (p := ⟨w.heap.size, 0, none⟩) hwl).trans d0
 replace d1 : W3.cell? ⟨w.heap.size, 1, none⟩ = some (.int .i64 op) := (hB3.cell (p := ⟨w.heap.size, 1, none⟩) hwl).trans d1
 replace d2 : W3.cell? ⟨w.heap.size, 2, none⟩ = some (.string (bs name)) := (hB3.cell (p := ⟨w.heap.size, 2, none⟩) hwl).trans d2
 replace d3 : W3.cell? ⟨w.heap.size, 3, none⟩ = some (.int .i64 num) := (hB3.cell (p := ⟨w.heap.size, 3, none⟩) hwl).trans d3
 replace d4 : W3.cell? ⟨w.heap.size, 4, none⟩ = some (.int .i64 far) := (hB3.cell (p := ⟨w.heap.size, 4, none⟩) hwl).trans d4
 replace d5 : W3.cell? ⟨w.heap.size, 5, none⟩ = some (.slice a kids.length c) := (hB3.cell (p := ⟨w.heap.size, 5, none⟩) hwl).trans d5
 replace d6 : W3.cell? ⟨w.heap.size, 6, none⟩ = some (.slice a2 thn.length c2) := (hB3.cell (p := ⟨w.heap.size, 6, none⟩) hwl).trans d6
 replace d7 : W3.cell? ⟨w.heap.size, 7, none⟩ = some (.slice a3 els.length c3) := (hB3.cell (p := ⟨w.heap.size, 7, none⟩) hwl).trans d7
 obtain ⟨s0, s1, s2, s3, s4, s5, s6, s7⟩ := cl8 hA3
 replace HB : Hid (Below w.heap.size w W3) := HB.out.trans (hB3.mono HB.out.size)
 clear hA3 hB3 hwl
 generalize w2.heap.size = g2 at *
 by_cases qop : op = 0
 ·subst qop
  have hC : Hid (∀ w, Calls Tryz.prog 84 #[.int .i64 0, .int .i64 0, .int .i64 0] w fun e w' => e = .returned (.bool true) ∧ w' = w) := fun w => by have h := within_any 0 0 0 w; rwa [show inB 0 0 0 = true from by decide] at h
  skip
  refine (hC.out _).mono ?_
  rintro e w' ⟨rfl, rfl⟩
  clear hC
  simp only []; rename_i kk hkk; simp only [List.append_eq, List.cons_append, List.nil_append] at hkk
  obtain ⟨q, qname⟩ : ∃ q, isNameL name = q := ⟨_, rfl⟩
  have hC : Hid (∀ w, Calls Tryz.prog 83 #[.string (bs name)] w fun e w' => e = .returned (.bool q) ∧ w' = w) := fun w => by have h := HN.out w; rwa [qname] at h
  cases q with
  | true =>
   go_wp2_with fail
   refine (hC.out _).mono ?_
   rintro e w' ⟨rfl, rfl⟩
   clear hC
   skip
   by_cases qnum : num = 0
   ·subst qnum
    by_cases qfar : far = 0
    ·subst qfar
     by_cases qkids : kids = []
     ·subst qkids
      by_cases qthn : thn = []
      ·subst qthn
       by_cases qels : els = []
       ·subst qels
        have HE : Hid (R = true) := by unfold Hid; rw [HO.out]; simp [qname]
        clear HO
        go_wp2_with fail
        go_ret
        exact ⟨by rw [HE.out]; rfl, HB.out⟩
       ·have hz : 0 < els.length := List.length_pos_iff.2 qels
        have hz3 : (((els.length : Nat) : Int) == 0) = false := by rw [beq_eq_false_iff_ne]; omega
        have hz4 : decide (((els.length : Nat) : Int) = 0) = false := decide_eq_false (by omega)
        have HE : Hid (R = false) := by unfold Hid; rw [HO.out]; simp [qels]
        clear HO
        go_wp2_with fail
        go_ret
        exact ⟨by rw [HE.out]; rfl, HB.out⟩
      ·have hz : 0 < thn.length := List.length_pos_iff.2 qthn
       have hz3 : (((thn.length : Nat) : Int) == 0) = false := by rw [beq_eq_false_iff_ne]; omega
       have hz4 : decide (((thn.length : Nat) : Int) = 0) = false := decide_eq_false (by omega)
       have HE : Hid (R = false) := by unfold Hid; rw [HO.out]; simp [qthn]
       clear HO
       go_wp2_with fail
       go_ret
       exact ⟨by rw [HE.out]; rfl, HB.out⟩
     ·have hz : 0 < kids.length := List.length_pos_iff.2 qkids
      have hz3 : (((kids.length : Nat) : Int) == 0) = false := by rw [beq_eq_false_iff_ne]; omega
      have hz4 : decide (((kids.length : Nat) : Int) = 0) = false := decide_eq_false (by omega)
      have hz5 : decide (((kids.length : Nat) : Int) ≤ 0) = false := decide_eq_false (by omega)
      have HE : Hid (R = false) := by unfold Hid; rw [HO.out]; simp [qkids]
      clear HO
      go_wp2_with fail
      go_ret
      exact ⟨by rw [HE.out]; rfl, HB.out⟩
    ·have hz1 : (far == 0) = false := by simpa using qfar
     have hz2 : decide (far = 0) = false := decide_eq_false qfar
     have HE : Hid (R = false) := by unfold Hid; rw [HO.out]; simp [qfar]
     clear HO
     go_wp2_with fail
     go_ret
     exact ⟨by rw [HE.out]; rfl, HB.out⟩
   ·have hz1 : (num == 0) = false := by simpa using qnum
    have hz2 : decide (num = 0) = false := decide_eq_false qnum
    have HE : Hid (R = false) := by unfold Hid; rw [HO.out]; simp [qnum]
    clear HO
    go_wp2_with fail
    go_ret
    exact ⟨by rw [HE.out]; rfl, HB.out⟩
  | false =>
   go_wp2_with fail
   refine (hC.out _).mono ?_
   rintro e w' ⟨rfl, rfl⟩
   clear hC
   skip
   have HE : Hid (R = false) := by unfold Hid; rw [HO.out]; simp [qname]
   clear HO
   go_wp2_with fail
   go_ret
   exact ⟨by rw [HE.out]; rfl, HB.out⟩
 ·have hC : Hid (∀ w, Calls Tryz.prog 84 #[.int .i64 op, .int .i64 0, .int .i64 0] w fun e w' => e = .returned (.bool false) ∧ w' = w) := fun w => by have h := within_any op 0 0 w; rwa [show inB op 0 0 = false from inB_no.2 (by omega)] at h
  skip
  refine (hC.out _).mono ?_
  rintro e w' ⟨rfl, rfl⟩
  clear hC
  simp only []; rename_i kk hkk; simp only [List.append_eq, List.cons_append, List.nil_append] at hkk
  have HE : Hid (R = false) := by unfold Hid; rw [HO.out]; simp [qop]
  clear HO
  go_wp2_with fail
  go_ret
  exact ⟨by rw [HE.out]; rfl, HB.out⟩
set_option maxHeartbeats 6400000 in
set_option maxRecDepth 100000 in
theorem has3 (K : Int) (R : Bool) (op : Int) (name : List UInt8) (num far : Int) (kids thn els : List Int) (a a2 a3 : Option Addr) (c c2 c3 : Nat) (w : World) (hl : name.length ≤ 1048576) (hk1 : kids.length ≤ 1048576) (hk2 : thn.length ≤ 1048576) (hk3 : els.length ≤ 1048576)
  (hO : R = (decide (op = 0) && isNameL name && decide (num = 0) && decide (far = 0) && decide (1 ≤ kids.length ∧ kids.length ≤ 1) && thn.isEmpty && els.isEmpty)) (hS : Shape K (shapeV 0 true false false 1 1 false false)) (hK : inB K 1 11 = true) :
  Calls Tryz.prog 85 #[.agg #[.int .i64 K, .int .i64 op, .string (bs name), .int .i64 num, .int .i64 far, .slice a kids.length c, .slice a2 thn.length c2, .slice a3 els.length c3]] w fun e w' => e = .returned (.bool R) ∧ Below w.heap.size w w' := by
 have HN : Hid (∀ w, Calls Tryz.prog 83 #[.string (bs name)] w fun e w' => e = .returned (.bool (isNameL name)) ∧ w' = w) := fun w => iIsName_any name w (by omega)
 have HW0 : Hid (∀ w, Calls Tryz.prog 84 #[.int .i64 K, .int .i64 1, .int .i64 11] w fun e w' => e = .returned (.bool true) ∧ w' = w) := fun w => by have h := within_any K 1 11 w; rwa [hK] at h
 have HS := hid hS
 have HO := hid hO
 clear hl hO hS hK
 go_enter Tryz.func85, Tryz.ntmps85
 go_wp2_with fail
 have hA := heap_alloc_new w (.cells #[.int .i64 K, .int .i64 op, .string (bs name), .int .i64 num, .int .i64 far, .slice a kids.length c, .slice a2 thn.length c2, .slice a3 els.length c3] 40)
 have hB : Below w.heap.size w (w.alloc (.cells #[.int .i64 K, .int .i64 op, .string (bs name), .int .i64 num, .int .i64 far, .slice a kids.length c, .slice a2 thn.length c2, .slice a3 els.length c3] 40)) := (Below.refl _ _).alloc (Nat.le_refl _) _
 generalize w.alloc (.cells #[.int .i64 K, .int .i64 op, .string (bs name), .int .i64 num, .int .i64 far, .slice a kids.length c, .slice a2 thn.length c2, .slice a3 els.length c3] 40) = W at *
 have k0 : W.cell? ⟨w.heap.size, 0, none⟩ = some (.int .i64 K) := cell_of_row _ _ 0 _ _ _ hA
 refine (HW0.out _).mono ?_
 rintro e w1 ⟨rfl, rfl⟩
 go_wp2_with fail
 refine (HS.out _).mono ?_
 rintro e w2 ⟨rfl, hb⟩
 have hA2 := blk hA hb
 have HB : Hid (Below w.heap.size w w2) := hB.trans (hb.mono hB.size)
 obtain ⟨d0, d1, d2, d3, d4, d5, d6, d7⟩ := cl8 hA2
 have hwl : w.heap.size < w2.heap.size := World.block_lt_of_cell? _ _ d0
 clear hA hB k0 hb hA2 HW0 HS
 go_wp2_with fail
 have hA3 := heap_alloc_new w2 (.cells #[.int .i64 0, .bool true, .bool false, .bool false, .int .i64 1, .int .i64 1, .bool false, .bool false] 200)
 have hB3 : Below w2.heap.size w2 (w2.alloc (.cells #[.int .i64 0, .bool true, .bool false, .bool false, .int .i64 1, .int .i64 1, .bool false, .bool false] 200)) := (Below.refl _ _).alloc (Nat.le_refl _) _
 generalize w2.alloc (.cells #[.int .i64 0, .bool true, .bool false, .bool false, .int .i64 1, .int .i64 1, .bool false, .bool false] 200) = W3 at *
 replace d0 : W3.cell? ⟨w.heap.size, 0, none⟩ = some (.int .i64 K) := (hB3.cell (p := ⟨w.heap.size, 0, none⟩) hwl).trans d0
 replace d1 : W3.cell? ⟨w.heap.size, 1, none⟩ = some (.int .i64 op) := (hB3.cell (p := ⟨w.heap.size, 1, none⟩) hwl).trans d1
 replace d2 : W3.cell? ⟨w.heap.size, 2, none⟩ = some (.string (bs name)) := (hB3.cell (p := ⟨w.heap.size, 2, none⟩) hwl).trans d2
 replace d3 : W3.cell? ⟨w.heap.size, 3, none⟩ = some (.int .i64 num) := (hB3.cell (p := ⟨w.heap.size, 3, none⟩) hwl).trans d3
 replace d4 : W3.cell? ⟨w.heap.size, 4, none⟩ = some (.int .i64 far) := (hB3.cell (p := ⟨w.heap.size, 4, none⟩) hwl).trans d4
 replace d5 : W3.cell? ⟨w.heap.size, 5, none⟩ = some (.slice a kids.length c) := (hB3.cell (p := ⟨w.heap.size, 5, none⟩) hwl).trans d5
 replace d6 : W3.cell? ⟨w.heap.size, 6, none⟩ = some (.slice a2 thn.length c2) := (hB3.cell (p := ⟨w.heap.size, 6, none⟩) hwl).trans d6
 replace d7 : W3.cell? ⟨w.heap.size, 7, none⟩ = some (.slice a3 els.length c3) := (hB3.cell (p := ⟨w.heap.size, 7, none⟩) hwl).trans d7
 obtain ⟨s0, s1, s2, s3, s4, s5, s6, s7⟩ := cl8 hA3
 replace HB : Hid (Below w.heap.size w W3) := HB.out.trans (hB3.mono HB.out.size)
 clear hA3 hB3 hwl
 generalize w2.heap.size = g2 at *
 by_cases qop : op = 0
 ·subst qop
  have hC : Hid (∀ w, Calls Tryz.prog 84 #[.int .i64 0, .int .i64 0, .int .i64 0] w fun e w' => e = .returned (.bool true) ∧ w' = w) := fun w => by have h := within_any 0 0 0 w; rwa [show inB 0 0 0 = true from by decide] at h
  skip
  refine (hC.out _).mono ?_
  rintro e w' ⟨rfl, rfl⟩
  clear hC
  simp only []; rename_i kk hkk; simp only [List.append_eq, List.cons_append, List.nil_append] at hkk
  obtain ⟨q, qname⟩ : ∃ q, isNameL name = q := ⟨_, rfl⟩
  have hC : Hid (∀ w, Calls Tryz.prog 83 #[.string (bs name)] w fun e w' => e = .returned (.bool q) ∧ w' = w) := fun w => by have h := HN.out w; rwa [qname] at h
  cases q with
  | true =>
   go_wp2_with fail
   refine (hC.out _).mono ?_
   rintro e w' ⟨rfl, rfl⟩
   clear hC
   skip
   by_cases qnum : num = 0
   ·subst qnum
    by_cases qfar : far = 0
    ·subst qfar
     by_cases qk : 1 ≤ kids.length ∧ kids.length ≤ 1
     ·have qk1 := qk.1
      have qk2 := qk.2
      have hz5 : decide ((1 : Int) ≤ ((kids.length : Nat) : Int)) = true := decide_eq_true (by omega)
      have hz6 : decide (((kids.length : Nat) : Int) ≤ 1) = true := decide_eq_true (by omega)
      have QK : Hid (1 ≤ kids.length ∧ kids.length ≤ 1) := qk
      clear qk qk1 qk2
      by_cases qthn : thn = []
      ·subst qthn
       by_cases qels : els = []
       ·subst qels
        have HE : Hid (R = true) := by unfold Hid; rw [HO.out]; simp [qname, QK.out]
        clear HO
        go_wp2_with fail
        go_ret
        exact ⟨by rw [HE.out]; rfl, HB.out⟩
       ·have hz : 0 < els.length := List.length_pos_iff.2 qels
        have hz3 : (((els.length : Nat) : Int) == 0) = false := by rw [beq_eq_false_iff_ne]; omega
        have hz4 : decide (((els.length : Nat) : Int) = 0) = false := decide_eq_false (by omega)
        have HE : Hid (R = false) := by unfold Hid; rw [HO.out]; simp [qels]
        clear HO
        go_wp2_with fail
        go_ret
        exact ⟨by rw [HE.out]; rfl, HB.out⟩
      ·have hz : 0 < thn.length := List.length_pos_iff.2 qthn
       have hz3 : (((thn.length : Nat) : Int) == 0) = false := by rw [beq_eq_false_iff_ne]; omega
       have hz4 : decide (((thn.length : Nat) : Int) = 0) = false := decide_eq_false (by omega)
       have HE : Hid (R = false) := by unfold Hid; rw [HO.out]; simp [qthn]
       clear HO
       go_wp2_with fail
       go_ret
       exact ⟨by rw [HE.out]; rfl, HB.out⟩
     ·by_cases qk1 : kids.length < 1
      ·have hz5 : decide ((1 : Int) ≤ ((kids.length : Nat) : Int)) = false := decide_eq_false (by omega)
       have HE : Hid (R = false) := by unfold Hid; rw [HO.out]; simp [qk]
       clear HO
       go_wp2_with fail
       go_ret
       exact ⟨by rw [HE.out]; rfl, HB.out⟩
      ·have qk2 : 1 < kids.length := by omega
       have hz5 : decide ((1 : Int) ≤ ((kids.length : Nat) : Int)) = true := decide_eq_true (by omega)
       have hz6 : decide (((kids.length : Nat) : Int) ≤ 1) = false := decide_eq_false (by omega)
       have HE : Hid (R = false) := by unfold Hid; rw [HO.out]; simp [qk]
       clear HO
       go_wp2_with fail
       go_ret
       exact ⟨by rw [HE.out]; rfl, HB.out⟩
    ·have hz1 : (far == 0) = false := by simpa using qfar
     have hz2 : decide (far = 0) = false := decide_eq_false qfar
     have HE : Hid (R = false) := by unfold Hid; rw [HO.out]; simp [qfar]
     clear HO
     go_wp2_with fail
     go_ret
     exact ⟨by rw [HE.out]; rfl, HB.out⟩
   ·have hz1 : (num == 0) = false := by simpa using qnum
    have hz2 : decide (num = 0) = false := decide_eq_false qnum
    have HE : Hid (R = false) := by unfold Hid; rw [HO.out]; simp [qnum]
    clear HO
    go_wp2_with fail
    go_ret
    exact ⟨by rw [HE.out]; rfl, HB.out⟩
  | false =>
   go_wp2_with fail
   refine (hC.out _).mono ?_
   rintro e w' ⟨rfl, rfl⟩
   clear hC
   skip
   have HE : Hid (R = false) := by unfold Hid; rw [HO.out]; simp [qname]
   clear HO
   go_wp2_with fail
   go_ret
   exact ⟨by rw [HE.out]; rfl, HB.out⟩
 ·have hC : Hid (∀ w, Calls Tryz.prog 84 #[.int .i64 op, .int .i64 0, .int .i64 0] w fun e w' => e = .returned (.bool false) ∧ w' = w) := fun w => by have h := within_any op 0 0 w; rwa [show inB op 0 0 = false from inB_no.2 (by omega)] at h
  skip
  refine (hC.out _).mono ?_
  rintro e w' ⟨rfl, rfl⟩
  clear hC
  simp only []; rename_i kk hkk; simp only [List.append_eq, List.cons_append, List.nil_append] at hkk
  have HE : Hid (R = false) := by unfold Hid; rw [HO.out]; simp [qop]
  clear HO
  go_wp2_with fail
  go_ret
  exact ⟨by rw [HE.out]; rfl, HB.out⟩
end Go.Proofs.YtcecfmdjicjngaaGreatDoor
namespace Go.Proofs.YtcecfmdjicjngaaGreatDoor
open Go.RowKit
set_option linter.unusedVariables false
attribute [local go_sem] bs_size bs_get bs_extract bs_append bs_eq bs_toList
set_option maxHeartbeats 6400000 in
set_option maxRecDepth 100000 in
theorem has4 (K : Int) (R : Bool) (op : Int) (name : List UInt8) (num far : Int) (kids thn els : List Int) (a a2 a3 : Option Addr) (c c2 c3 : Nat) (w : World) (hl : name.length ≤ 1048576) (hk1 : kids.length ≤ 1048576) (hk2 : thn.length ≤ 1048576) (hk3 : els.length ≤ 1048576)
  (hO : R = (decide (op = 0) && name.isEmpty && decide (num = 0) && decide (far = 0) && decide (1 ≤ kids.length ∧ kids.length ≤ 1) && thn.isEmpty && els.isEmpty)) (hS : Shape K (shapeV 0 false false false 1 1 false false)) (hK : inB K 1 11 = true) :
  Calls Tryz.prog 85 #[.agg #[.int .i64 K, .int .i64 op, .string (bs name), .int .i64 num, .int .i64 far, .slice a kids.length c, .slice a2 thn.length c2, .slice a3 els.length c3]] w fun e w' => e = .returned (.bool R) ∧ Below w.heap.size w w' := by
 have HN : Hid (∀ w, Calls Tryz.prog 83 #[.string (bs name)] w fun e w' => e = .returned (.bool (isNameL name)) ∧ w' = w) := fun w => iIsName_any name w (by omega)
 have HW0 : Hid (∀ w, Calls Tryz.prog 84 #[.int .i64 K, .int .i64 1, .int .i64 11] w fun e w' => e = .returned (.bool true) ∧ w' = w) := fun w => by have h := within_any K 1 11 w; rwa [hK] at h
 have HS := hid hS
 have HO := hid hO
 clear hl hO hS hK
 go_enter Tryz.func85, Tryz.ntmps85
 go_wp2_with fail
 have hA := heap_alloc_new w (.cells #[.int .i64 K, .int .i64 op, .string (bs name), .int .i64 num, .int .i64 far, .slice a kids.length c, .slice a2 thn.length c2, .slice a3 els.length c3] 40)
 have hB : Below w.heap.size w (w.alloc (.cells #[.int .i64 K, .int .i64 op, .string (bs name), .int .i64 num, .int .i64 far, .slice a kids.length c, .slice a2 thn.length c2, .slice a3 els.length c3] 40)) := (Below.refl _ _).alloc (Nat.le_refl _) _
 generalize w.alloc (.cells #[.int .i64 K, .int .i64 op, .string (bs name), .int .i64 num, .int .i64 far, .slice a kids.length c, .slice a2 thn.length c2, .slice a3 els.length c3] 40) = W at *
 have k0 : W.cell? ⟨w.heap.size, 0, none⟩ = some (.int .i64 K) := cell_of_row _ _ 0 _ _ _ hA
 refine (HW0.out _).mono ?_
 rintro e w1 ⟨rfl, rfl⟩
 go_wp2_with fail
 refine (HS.out _).mono ?_
 rintro e w2 ⟨rfl, hb⟩
 have hA2 := blk hA hb
 have HB : Hid (Below w.heap.size w w2) := hB.trans (hb.mono hB.size)
 obtain ⟨d0, d1, d2, d3, d4, d5, d6, d7⟩ := cl8 hA2
 have hwl : w.heap.size < w2.heap.size := World.block_lt_of_cell? _ _ d0
 clear hA hB k0 hb hA2 HW0 HS
 go_wp2_with fail
 have hA3 := heap_alloc_new w2 (.cells #[.int .i64 0, .bool false, .bool false, .bool false, .int .i64 1, .int .i64 1, .bool false, .bool false] 200)
 have hB3 : Below w2.heap.size w2 (w2.alloc (.cells #[.int .i64 0, .bool false, .bool false, .bool false, .int .i64 1, .int .i64 1, .bool false, .bool false] 200)) := (Below.refl _ _).alloc (Nat.le_refl _) _
 generalize w2.alloc (.cells #[.int .i64 0, .bool false, .bool false, .bool false, .int .i64 1, .int .i64 1, .bool false, .bool false] 200) = W3 at *
 replace d0 : W3.cell? ⟨w.heap.size, 0, none⟩ = some (.int .i64 K) := (hB3.cell (p := ⟨w.heap.size, 0, none⟩) hwl).trans d0
 replace d1 : W3.cell? ⟨w.heap.size, 1, none⟩ = some (.int .i64 op) := (hB3.cell (p := ⟨w.heap.size, 1, none⟩) hwl).trans d1
 replace d2 : W3.cell? ⟨w.heap.size, 2, none⟩ = some (.string (bs name)) := (hB3.cell (p := ⟨w.heap.size, 2, none⟩) hwl).trans d2
 replace d3 : W3.cell? ⟨w.heap.size, 3, none⟩ = some (.int .i64 num) := (hB3.cell (p := ⟨w.heap.size, 3, none⟩) hwl).trans d3
 replace d4 : W3.cell? ⟨w.heap.size, 4, none⟩ = some (.int .i64 far) := (hB3.cell (p := ⟨w.heap.size, 4, none⟩) hwl).trans d4
 replace d5 : W3.cell? ⟨w.heap.size, 5, none⟩ = some (.slice a kids.length c) := (hB3.cell (p := ⟨w.heap.size, 5, none⟩) hwl).trans d5
 replace d6 : W3.cell? ⟨w.heap.size, 6, none⟩ = some (.slice a2 thn.length c2) := (hB3.cell (p := ⟨w.heap.size, 6, none⟩) hwl).trans d6
 replace d7 : W3.cell? ⟨w.heap.size, 7, none⟩ = some (.slice a3 els.length c3) := (hB3.cell (p := ⟨w.heap.size, 7, none⟩) hwl).trans d7
 obtain ⟨s0, s1, s2, s3, s4, s5, s6, s7⟩ := cl8 hA3
 replace HB : Hid (Below w.heap.size w W3) := HB.out.trans (hB3.mono HB.out.size)
 clear hA3 hB3 hwl
 generalize w2.heap.size = g2 at *
 by_cases qop : op = 0
 ·subst qop
  have hC : Hid (∀ w, Calls Tryz.prog 84 #[.int .i64 0, .int .i64 0, .int .i64 0] w fun e w' => e = .returned (.bool true) ∧ w' = w) := fun w => by have h := within_any 0 0 0 w; rwa [show inB 0 0 0 = true from by decide] at h
  skip
  refine (hC.out _).mono ?_
  rintro e w' ⟨rfl, rfl⟩
  clear hC
  simp only []; rename_i kk hkk; simp only [List.append_eq, List.cons_append, List.nil_append] at hkk
  by_cases qname : name = []
  ·subst qname
   by_cases qnum : num = 0
   ·subst qnum
    by_cases qfar : far = 0
    ·subst qfar
     by_cases qk : 1 ≤ kids.length ∧ kids.length ≤ 1
     ·have qk1 := qk.1
      have qk2 := qk.2
      have hz5 : decide ((1 : Int) ≤ ((kids.length : Nat) : Int)) = true := decide_eq_true (by omega)
      have hz6 : decide (((kids.length : Nat) : Int) ≤ 1) = true := decide_eq_true (by omega)
      have QK : Hid (1 ≤ kids.length ∧ kids.length ≤ 1) := qk
      clear qk qk1 qk2
      by_cases qthn : thn = []
      ·subst qthn
       by_cases qels : els = []
       ·subst qels
        have HE : Hid (R = true) := by unfold Hid; rw [HO.out]; simp [QK.out]
        clear HO
        go_wp2_with fail
        go_ret
        exact ⟨by rw [HE.out]; rfl, HB.out⟩
       ·have hz : 0 < els.length := List.length_pos_iff.2 qels
        have hz3 : (((els.length : Nat) : Int) == 0) = false := by rw [beq_eq_false_iff_ne]; omega
        have hz4 : decide (((els.length : Nat) : Int) = 0) = false := decide_eq_false (by omega)
        have HE : Hid (R = false) := by unfold Hid; rw [HO.out]; simp [qels]
        clear HO
        go_wp2_with fail
        go_ret
        exact ⟨by rw [HE.out]; rfl, HB.out⟩
      ·have hz : 0 < thn.length := List.length_pos_iff.2 qthn
       have hz3 : (((thn.length : Nat) : Int) == 0) = false := by rw [beq_eq_false_iff_ne]; omega
       have hz4 : decide (((thn.length : Nat) : Int) = 0) = false := decide_eq_false (by omega)
       have HE : Hid (R = false) := by unfold Hid; rw [HO.out]; simp [qthn]
       clear HO
       go_wp2_with fail
       go_ret
       exact ⟨by rw [HE.out]; rfl, HB.out⟩
     ·by_cases qk1 : kids.length < 1
      ·have hz5 : decide ((1 : Int) ≤ ((kids.length : Nat) : Int)) = false := decide_eq_false (by omega)
       have HE : Hid (R = false) := by unfold Hid; rw [HO.out]; simp [qk]
       clear HO
       go_wp2_with fail
       go_ret
       exact ⟨by rw [HE.out]; rfl, HB.out⟩
      ·have qk2 : 1 < kids.length := by omega
       have hz5 : decide ((1 : Int) ≤ ((kids.length : Nat) : Int)) = true := decide_eq_true (by omega)
       have hz6 : decide (((kids.length : Nat) : Int) ≤ 1) = false := decide_eq_false (by omega)
       have HE : Hid (R = false) := by unfold Hid; rw [HO.out]; simp [qk]
       clear HO
       go_wp2_with fail
       go_ret
       exact ⟨by rw [HE.out]; rfl, HB.out⟩
    ·have hz1 : (far == 0) = false := by simpa using qfar
     have hz2 : decide (far = 0) = false := decide_eq_false qfar
     have HE : Hid (R = false) := by unfold Hid; rw [HO.out]; simp [qfar]
     clear HO
     go_wp2_with fail
     go_ret
     exact ⟨by rw [HE.out]; rfl, HB.out⟩
   ·have hz1 : (num == 0) = false := by simpa using qnum
    have hz2 : decide (num = 0) = false := decide_eq_false qnum
    have HE : Hid (R = false) := by unfold Hid; rw [HO.out]; simp [qnum]
    clear HO
    go_wp2_with fail
    go_ret
    exact ⟨by rw [HE.out]; rfl, HB.out⟩
  ·have hz1 : (name == []) = false := by simpa using qname
   have hz2 : decide (name = []) = false := decide_eq_false qname
   have HE : Hid (R = false) := by unfold Hid; rw [HO.out]; simp [qname]
   clear HO
   go_wp2_with fail
   go_ret
   exact ⟨by rw [HE.out]; rfl, HB.out⟩
 ·have hC : Hid (∀ w, Calls Tryz.prog 84 #[.int .i64 op, .int .i64 0, .int .i64 0] w fun e w' => e = .returned (.bool false) ∧ w' = w) := fun w => by have h := within_any op 0 0 w; rwa [show inB op 0 0 = false from inB_no.2 (by omega)] at h
  skip
  refine (hC.out _).mono ?_
  rintro e w' ⟨rfl, rfl⟩
  clear hC
  simp only []; rename_i kk hkk; simp only [List.append_eq, List.cons_append, List.nil_append] at hkk
  have HE : Hid (R = false) := by unfold Hid; rw [HO.out]; simp [qop]
  clear HO
  go_wp2_with fail
  go_ret
  exact ⟨by rw [HE.out]; rfl, HB.out⟩
set_option maxHeartbeats 6400000 in
set_option maxRecDepth 100000 in
theorem has6 (K : Int) (R : Bool) (op : Int) (name : List UInt8) (num far : Int) (kids thn els : List Int) (a a2 a3 : Option Addr) (c c2 c3 : Nat) (w : World) (hl : name.length ≤ 1048576) (hk1 : kids.length ≤ 1048576) (hk2 : thn.length ≤ 1048576) (hk3 : els.length ≤ 1048576)
  (hO : R = (inB op 1 10 && name.isEmpty && decide (num = 0) && decide (far = 0) && decide (2 ≤ kids.length ∧ kids.length ≤ 2) && thn.isEmpty && els.isEmpty)) (hS : Shape K (shapeV 10 false false false 2 2 false false)) (hK : inB K 1 11 = true) :
  Calls Tryz.prog 85 #[.agg #[.int .i64 K, .int .i64 op, .string (bs name), .int .i64 num, .int .i64 far, .slice a kids.length c, .slice a2 thn.length c2, .slice a3 els.length c3]] w fun e w' => e = .returned (.bool R) ∧ Below w.heap.size w w' := by
 have HN : Hid (∀ w, Calls Tryz.prog 83 #[.string (bs name)] w fun e w' => e = .returned (.bool (isNameL name)) ∧ w' = w) := fun w => iIsName_any name w (by omega)
 have HW0 : Hid (∀ w, Calls Tryz.prog 84 #[.int .i64 K, .int .i64 1, .int .i64 11] w fun e w' => e = .returned (.bool true) ∧ w' = w) := fun w => by have h := within_any K 1 11 w; rwa [hK] at h
 have HS := hid hS
 have HO := hid hO
 clear hl hO hS hK
 go_enter Tryz.func85, Tryz.ntmps85
 go_wp2_with fail
 have hA := heap_alloc_new w (.cells #[.int .i64 K, .int .i64 op, .string (bs name), .int .i64 num, .int .i64 far, .slice a kids.length c, .slice a2 thn.length c2, .slice a3 els.length c3] 40)
 have hB : Below w.heap.size w (w.alloc (.cells #[.int .i64 K, .int .i64 op, .string (bs name), .int .i64 num, .int .i64 far, .slice a kids.length c, .slice a2 thn.length c2, .slice a3 els.length c3] 40)) := (Below.refl _ _).alloc (Nat.le_refl _) _
 generalize w.alloc (.cells #[.int .i64 K, .int .i64 op, .string (bs name), .int .i64 num, .int .i64 far, .slice a kids.length c, .slice a2 thn.length c2, .slice a3 els.length c3] 40) = W at *
 have k0 : W.cell? ⟨w.heap.size, 0, none⟩ = some (.int .i64 K) := cell_of_row _ _ 0 _ _ _ hA
 refine (HW0.out _).mono ?_
 rintro e w1 ⟨rfl, rfl⟩
 go_wp2_with fail
 refine (HS.out _).mono ?_
 rintro e w2 ⟨rfl, hb⟩
 have hA2 := blk hA hb
 have HB : Hid (Below w.heap.size w w2) := hB.trans (hb.mono hB.size)
 obtain ⟨d0, d1, d2, d3, d4, d5, d6, d7⟩ := cl8 hA2
 have hwl : w.heap.size < w2.heap.size := World.block_lt_of_cell? _ _ d0
 clear hA hB k0 hb hA2 HW0 HS
 go_wp2_with fail
 have hA3 := heap_alloc_new w2 (.cells #[.int .i64 10, .bool false, .bool false, .bool false, .int .i64 2, .int .i64 2, .bool false, .bool false] 200)
 have hB3 : Below w2.heap.size w2 (w2.alloc (.cells #[.int .i64 10, .bool false, .bool false, .bool false, .int .i64 2, .int .i64 2, .bool false, .bool false] 200)) := (Below.refl _ _).alloc (Nat.le_refl _) _
 generalize w2.alloc (.cells #[.int .i64 10, .bool false, .bool false, .bool false, .int .i64 2, .int .i64 2, .bool false, .bool false] 200) = W3 at *
 replace d0 : W3.cell? ⟨w.heap.size, 0, none⟩ = some (.int .i64 K) := (hB3.cell (p := ⟨w.heap.size, 0, none⟩) hwl).trans d0
 replace d1 : W3.cell? ⟨w.heap.size, 1, none⟩ = some (.int .i64 op) := (hB3.cell (p := ⟨w.heap.size, 1, none⟩) hwl).trans d1
 replace d2 : W3.cell? ⟨w.heap.size, 2, none⟩ = some (.string (bs name)) := (hB3.cell (p := ⟨w.heap.size, 2, none⟩) hwl).trans d2
 replace d3 : W3.cell? ⟨w.heap.size, 3, none⟩ = some (.int .i64 num) := (hB3.cell (p := ⟨w.heap.size, 3, none⟩) hwl).trans d3
 replace d4 : W3.cell? ⟨w.heap.size, 4, none⟩ = some (.int .i64 far) := (hB3.cell (p := ⟨w.heap.size, 4, none⟩) hwl).trans d4
 replace d5 : W3.cell? ⟨w.heap.size, 5, none⟩ = some (.slice a kids.length c) := (hB3.cell (p := ⟨w.heap.size, 5, none⟩) hwl).trans d5
 replace d6 : W3.cell? ⟨w.heap.size, 6, none⟩ = some (.slice a2 thn.length c2) := (hB3.cell (p := ⟨w.heap.size, 6, none⟩) hwl).trans d6
 replace d7 : W3.cell? ⟨w.heap.size, 7, none⟩ = some (.slice a3 els.length c3) := (hB3.cell (p := ⟨w.heap.size, 7, none⟩) hwl).trans d7
 obtain ⟨s0, s1, s2, s3, s4, s5, s6, s7⟩ := cl8 hA3
 replace HB : Hid (Below w.heap.size w W3) := HB.out.trans (hB3.mono HB.out.size)
 clear hA3 hB3 hwl
 generalize w2.heap.size = g2 at *
 obtain ⟨q, qop⟩ : ∃ q, inB op 1 10 = q := ⟨_, rfl⟩
 have hC : Hid (∀ w, Calls Tryz.prog 84 #[.int .i64 op, .int .i64 1, .int .i64 10] w fun e w' => e = .returned (.bool q) ∧ w' = w) := fun w => by have h := within_any op 1 10 w; rwa [qop] at h
 cases q with
 | true =>
  skip
  refine (hC.out _).mono ?_
  rintro e w' ⟨rfl, rfl⟩
  clear hC
  simp only []; rename_i kk hkk; simp only [List.append_eq, List.cons_append, List.nil_append] at hkk
  by_cases qname : name = []
  ·subst qname
   by_cases qnum : num = 0
   ·subst qnum
    by_cases qfar : far = 0
    ·subst qfar
     by_cases qk : 2 ≤ kids.length ∧ kids.length ≤ 2
     ·have qk1 := qk.1
      have qk2 := qk.2
      have hz5 : decide ((2 : Int) ≤ ((kids.length : Nat) : Int)) = true := decide_eq_true (by omega)
      have hz6 : decide (((kids.length : Nat) : Int) ≤ 2) = true := decide_eq_true (by omega)
      have QK : Hid (2 ≤ kids.length ∧ kids.length ≤ 2) := qk
      clear qk qk1 qk2
      by_cases qthn : thn = []
      ·subst qthn
       by_cases qels : els = []
       ·subst qels
        have HE : Hid (R = true) := by unfold Hid; rw [HO.out]; simp [qop, QK.out]
        clear HO
        go_wp2_with fail
        go_ret
        exact ⟨by rw [HE.out]; rfl, HB.out⟩
       ·have hz : 0 < els.length := List.length_pos_iff.2 qels
        have hz3 : (((els.length : Nat) : Int) == 0) = false := by rw [beq_eq_false_iff_ne]; omega
        have hz4 : decide (((els.length : Nat) : Int) = 0) = false := decide_eq_false (by omega)
        have HE : Hid (R = false) := by unfold Hid; rw [HO.out]; simp [qels]
        clear HO
        go_wp2_with fail
        go_ret
        exact ⟨by rw [HE.out]; rfl, HB.out⟩
      ·have hz : 0 < thn.length := List.length_pos_iff.2 qthn
       have hz3 : (((thn.length : Nat) : Int) == 0) = false := by rw [beq_eq_false_iff_ne]; omega
       have hz4 : decide (((thn.length : Nat) : Int) = 0) = false := decide_eq_false (by omega)
       have HE : Hid (R = false) := by unfold Hid; rw [HO.out]; simp [qthn]
       clear HO
       go_wp2_with fail
       go_ret
       exact ⟨by rw [HE.out]; rfl, HB.out⟩
     ·by_cases qk1 : kids.length < 2
      ·have hz5 : decide ((2 : Int) ≤ ((kids.length : Nat) : Int)) = false := decide_eq_false (by omega)
       have HE : Hid (R = false) := by unfold Hid; rw [HO.out]; simp [qk]
       clear HO
       go_wp2_with fail
       go_ret
       exact ⟨by rw [HE.out]; rfl, HB.out⟩
      ·have qk2 : 2 < kids.length := by omega
       have hz5 : decide ((2 : Int) ≤ ((kids.length : Nat) : Int)) = true := decide_eq_true (by omega)
       have hz6 : decide (((kids.length : Nat) : Int) ≤ 2) = false := decide_eq_false (by omega)
       have HE : Hid (R = false) := by unfold Hid; rw [HO.out]; simp [qk]
       clear HO
       go_wp2_with fail
       go_ret
       exact ⟨by rw [HE.out]; rfl, HB.out⟩
    ·have hz1 : (far == 0) = false := by simpa using qfar
     have hz2 : decide (far = 0) = false := decide_eq_false qfar
     have HE : Hid (R = false) := by unfold Hid; rw [HO.out]; simp [qfar]
     clear HO
     go_wp2_with fail
     go_ret
     exact ⟨by rw [HE.out]; rfl, HB.out⟩
   ·have hz1 : (num == 0) = false := by simpa using qnum
    have hz2 : decide (num = 0) = false := decide_eq_false qnum
    have HE : Hid (R = false) := by unfold Hid; rw [HO.out]; simp [qnum]
    clear HO
    go_wp2_with fail
    go_ret
    exact ⟨by rw [HE.out]; rfl, HB.out⟩
  ·have hz1 : (name == []) = false := by simpa using qname
   have hz2 : decide (name = []) = false := decide_eq_false qname
   have HE : Hid (R = false) := by unfold Hid; rw [HO.out]; simp [qname]
   clear HO
   go_wp2_with fail
   go_ret
   exact ⟨by rw [HE.out]; rfl, HB.out⟩
 | false =>
  skip
  refine (hC.out _).mono ?_
  rintro e w' ⟨rfl, rfl⟩
  clear hC
  simp only []; rename_i kk hkk; simp only [List.append_eq, List.cons_append, List.nil_append] at hkk
  have HE : Hid (R = false) := by unfold Hid; rw [HO.out]; simp [qop]
  clear HO
  go_wp2_with fail
  go_ret
  exact ⟨by rw [HE.out]; rfl, HB.out⟩
set_option maxHeartbeats 6400000 in
set_option maxRecDepth 100000 in
theorem has8 (K : Int) (R : Bool) (op : Int) (name : List UInt8) (num far : Int) (kids thn els : List Int) (a a2 a3 : Option Addr) (c c2 c3 : Nat) (w : World) (hl : name.length ≤ 1048576) (hk1 : kids.length ≤ 1048576) (hk2 : thn.length ≤ 1048576) (hk3 : els.length ≤ 1048576)
  (hO : R = (decide (op = 0) && isNameL name && decide (num = 0) && decide (far = 0) && decide (2 ≤ kids.length ∧ kids.length ≤ 2) && thn.isEmpty && els.isEmpty)) (hS : Shape K (shapeV 0 true false false 2 2 false false)) (hK : inB K 1 11 = true) :
  Calls Tryz.prog 85 #[.agg #[.int .i64 K, .int .i64 op, .string (bs name), .int .i64 num, .int .i64 far, .slice a kids.length c, .slice a2 thn.length c2, .slice a3 els.length c3]] w fun e w' => e = .returned (.bool R) ∧ Below w.heap.size w w' := by
 have HN : Hid (∀ w, Calls Tryz.prog 83 #[.string (bs name)] w fun e w' => e = .returned (.bool (isNameL name)) ∧ w' = w) := fun w => iIsName_any name w (by omega)
 have HW0 : Hid (∀ w, Calls Tryz.prog 84 #[.int .i64 K, .int .i64 1, .int .i64 11] w fun e w' => e = .returned (.bool true) ∧ w' = w) := fun w => by have h := within_any K 1 11 w; rwa [hK] at h
 have HS := hid hS
 have HO := hid hO
 clear hl hO hS hK
 go_enter Tryz.func85, Tryz.ntmps85
 go_wp2_with fail
 have hA := heap_alloc_new w (.cells #[.int .i64 K, .int .i64 op, .string (bs name), .int .i64 num, .int .i64 far, .slice a kids.length c, .slice a2 thn.length c2, .slice a3 els.length c3] 40)
 have hB : Below w.heap.size w (w.alloc (.cells #[.int .i64 K, .int .i64 op, .string (bs name), .int .i64 num, .int .i64 far, .slice a kids.length c, .slice a2 thn.length c2, .slice a3 els.length c3] 40)) := (Below.refl _ _).alloc (Nat.le_refl _) _
 generalize w.alloc (.cells #[.int .i64 K, .int .i64 op, .string (bs name), .int .i64 num, .int .i64 far, .slice a kids.length c, .slice a2 thn.length c2, .slice a3 els.length c3] 40) = W at *
 have k0 : W.cell? ⟨w.heap.size, 0, none⟩ = some (.int .i64 K) := cell_of_row _ _ 0 _ _ _ hA
 refine (HW0.out _).mono ?_
 rintro e w1 ⟨rfl, rfl⟩
 go_wp2_with fail
 refine (HS.out _).mono ?_
 rintro e w2 ⟨rfl, hb⟩
 have hA2 := blk hA hb
 have HB : Hid (Below w.heap.size w w2) := hB.trans (hb.mono hB.size)
 obtain ⟨d0, d1, d2, d3, d4, d5, d6, d7⟩ := cl8 hA2
 have hwl : w.heap.size < w2.heap.size := World.block_lt_of_cell? _ _ d0
 clear hA hB k0 hb hA2 HW0 HS
 go_wp2_with fail
 have hA3 := heap_alloc_new w2 (.cells #[.int .i64 0, .bool true, .bool false, .bool false, .int .i64 2, .int .i64 2, .bool false, .bool false] 200)
 have hB3 : Below w2.heap.size w2 (w2.alloc (.cells #[.int .i64 0, .bool true, .bool false, .bool false, .int .i64 2, .int .i64 2, .bool false, .bool false] 200)) := (Below.refl _ _).alloc (Nat.le_refl _) _
 generalize w2.alloc (.cells #[.int .i64 0, .bool true, .bool false, .bool false, .int .i64 2, .int .i64 2, .bool false, .bool false] 200) = W3 at *
 replace d0 : W3.cell? ⟨w.heap.size, 0, none⟩ = some (.int .i64 K) := (hB3.cell (p := ⟨w.heap.size, 0, none⟩) hwl).trans d0
 replace d1 : W3.cell? ⟨w.heap.size, 1, none⟩ = some (.int .i64 op) := (hB3.cell (p := ⟨w.heap.size, 1, none⟩) hwl).trans d1
 replace d2 : W3.cell? ⟨w.heap.size, 2, none⟩ = some (.string (bs name)) := (hB3.cell (p := ⟨w.heap.size, 2, none⟩) hwl).trans d2
 replace d3 : W3.cell? ⟨w.heap.size, 3, none⟩ = some (.int .i64 num) := (hB3.cell (p := ⟨w.heap.size, 3, none⟩) hwl).trans d3
 replace d4 : W3.cell? ⟨w.heap.size, 4, none⟩ = some (.int .i64 far) := (hB3.cell (p := ⟨w.heap.size, 4, none⟩) hwl).trans d4
 replace d5 : W3.cell? ⟨w.heap.size, 5, none⟩ = some (.slice a kids.length c) := (hB3.cell (p := ⟨w.heap.size, 5, none⟩) hwl).trans d5
 replace d6 : W3.cell? ⟨w.heap.size, 6, none⟩ = some (.slice a2 thn.length c2) := (hB3.cell (p := ⟨w.heap.size, 6, none⟩) hwl).trans d6
 replace d7 : W3.cell? ⟨w.heap.size, 7, none⟩ = some (.slice a3 els.length c3) := (hB3.cell (p := ⟨w.heap.size, 7, none⟩) hwl).trans d7
 obtain ⟨s0, s1, s2, s3, s4, s5, s6, s7⟩ := cl8 hA3
 replace HB : Hid (Below w.heap.size w W3) := HB.out.trans (hB3.mono HB.out.size)
 clear hA3 hB3 hwl
 generalize w2.heap.size = g2 at *
 by_cases qop : op = 0
 ·subst qop
  have hC : Hid (∀ w, Calls Tryz.prog 84 #[.int .i64 0, .int .i64 0, .int .i64 0] w fun e w' => e = .returned (.bool true) ∧ w' = w) := fun w => by have h := within_any 0 0 0 w; rwa [show inB 0 0 0 = true from by decide] at h
  skip
  refine (hC.out _).mono ?_
  rintro e w' ⟨rfl, rfl⟩
  clear hC
  simp only []; rename_i kk hkk; simp only [List.append_eq, List.cons_append, List.nil_append] at hkk
  obtain ⟨q, qname⟩ : ∃ q, isNameL name = q := ⟨_, rfl⟩
  have hC : Hid (∀ w, Calls Tryz.prog 83 #[.string (bs name)] w fun e w' => e = .returned (.bool q) ∧ w' = w) := fun w => by have h := HN.out w; rwa [qname] at h
  cases q with
  | true =>
   go_wp2_with fail
   refine (hC.out _).mono ?_
   rintro e w' ⟨rfl, rfl⟩
   clear hC
   skip
   by_cases qnum : num = 0
   ·subst qnum
    by_cases qfar : far = 0
    ·subst qfar
     by_cases qk : 2 ≤ kids.length ∧ kids.length ≤ 2
     ·have qk1 := qk.1
      have qk2 := qk.2
      have hz5 : decide ((2 : Int) ≤ ((kids.length : Nat) : Int)) = true := decide_eq_true (by omega)
      have hz6 : decide (((kids.length : Nat) : Int) ≤ 2) = true := decide_eq_true (by omega)
      have QK : Hid (2 ≤ kids.length ∧ kids.length ≤ 2) := qk
      clear qk qk1 qk2
      by_cases qthn : thn = []
      ·subst qthn
       by_cases qels : els = []
       ·subst qels
        have HE : Hid (R = true) := by unfold Hid; rw [HO.out]; simp [qname, QK.out]
        clear HO
        go_wp2_with fail
        go_ret
        exact ⟨by rw [HE.out]; rfl, HB.out⟩
       ·have hz : 0 < els.length := List.length_pos_iff.2 qels
        have hz3 : (((els.length : Nat) : Int) == 0) = false := by rw [beq_eq_false_iff_ne]; omega
        have hz4 : decide (((els.length : Nat) : Int) = 0) = false := decide_eq_false (by omega)
        have HE : Hid (R = false) := by unfold Hid; rw [HO.out]; simp [qels]
        clear HO
        go_wp2_with fail
        go_ret
        exact ⟨by rw [HE.out]; rfl, HB.out⟩
      ·have hz : 0 < thn.length := List.length_pos_iff.2 qthn
       have hz3 : (((thn.length : Nat) : Int) == 0) = false := by rw [beq_eq_false_iff_ne]; omega
       have hz4 : decide (((thn.length : Nat) : Int) = 0) = false := decide_eq_false (by omega)
       have HE : Hid (R = false) := by unfold Hid; rw [HO.out]; simp [qthn]
       clear HO
       go_wp2_with fail
       go_ret
       exact ⟨by rw [HE.out]; rfl, HB.out⟩
     ·by_cases qk1 : kids.length < 2
      ·have hz5 : decide ((2 : Int) ≤ ((kids.length : Nat) : Int)) = false := decide_eq_false (by omega)
       have HE : Hid (R = false) := by unfold Hid; rw [HO.out]; simp [qk]
       clear HO
       go_wp2_with fail
       go_ret
       exact ⟨by rw [HE.out]; rfl, HB.out⟩
      ·have qk2 : 2 < kids.length := by omega
       have hz5 : decide ((2 : Int) ≤ ((kids.length : Nat) : Int)) = true := decide_eq_true (by omega)
       have hz6 : decide (((kids.length : Nat) : Int) ≤ 2) = false := decide_eq_false (by omega)
       have HE : Hid (R = false) := by unfold Hid; rw [HO.out]; simp [qk]
       clear HO
       go_wp2_with fail
       go_ret
       exact ⟨by rw [HE.out]; rfl, HB.out⟩
    ·have hz1 : (far == 0) = false := by simpa using qfar
     have hz2 : decide (far = 0) = false := decide_eq_false qfar
     have HE : Hid (R = false) := by unfold Hid; rw [HO.out]; simp [qfar]
     clear HO
     go_wp2_with fail
     go_ret
     exact ⟨by rw [HE.out]; rfl, HB.out⟩
   ·have hz1 : (num == 0) = false := by simpa using qnum
    have hz2 : decide (num = 0) = false := decide_eq_false qnum
    have HE : Hid (R = false) := by unfold Hid; rw [HO.out]; simp [qnum]
    clear HO
    go_wp2_with fail
    go_ret
    exact ⟨by rw [HE.out]; rfl, HB.out⟩
  | false =>
   go_wp2_with fail
   refine (hC.out _).mono ?_
   rintro e w' ⟨rfl, rfl⟩
   clear hC
   skip
   have HE : Hid (R = false) := by unfold Hid; rw [HO.out]; simp [qname]
   clear HO
   go_wp2_with fail
   go_ret
   exact ⟨by rw [HE.out]; rfl, HB.out⟩
 ·have hC : Hid (∀ w, Calls Tryz.prog 84 #[.int .i64 op, .int .i64 0, .int .i64 0] w fun e w' => e = .returned (.bool false) ∧ w' = w) := fun w => by have h := within_any op 0 0 w; rwa [show inB op 0 0 = false from inB_no.2 (by omega)] at h
  skip
  refine (hC.out _).mono ?_
  rintro e w' ⟨rfl, rfl⟩
  clear hC
  simp only []; rename_i kk hkk; simp only [List.append_eq, List.cons_append, List.nil_append] at hkk
  have HE : Hid (R = false) := by unfold Hid; rw [HO.out]; simp [qop]
  clear HO
  go_wp2_with fail
  go_ret
  exact ⟨by rw [HE.out]; rfl, HB.out⟩
end Go.Proofs.YtcecfmdjicjngaaGreatDoor
namespace Go.Proofs.YtcecfmdjicjngaaGreatDoor
open Go.RowKit
set_option linter.unusedVariables false
attribute [local go_sem] bs_size bs_get bs_extract bs_append bs_eq bs_toList
set_option maxHeartbeats 6400000 in
set_option maxRecDepth 100000 in
theorem has9 (K : Int) (R : Bool) (op : Int) (name : List UInt8) (num far : Int) (kids thn els : List Int) (a a2 a3 : Option Addr) (c c2 c3 : Nat) (w : World) (hl : name.length ≤ 1048576) (hk1 : kids.length ≤ 1048576) (hk2 : thn.length ≤ 1048576) (hk3 : els.length ≤ 1048576)
  (hO : R = (decide (op = 0) && name.isEmpty && decide (num = 0) && decide (far = 0) && decide (1 ≤ kids.length ∧ kids.length ≤ 1))) (hS : Shape K (shapeV 0 false false false 1 1 true true)) (hK : inB K 1 11 = true) :
  Calls Tryz.prog 85 #[.agg #[.int .i64 K, .int .i64 op, .string (bs name), .int .i64 num, .int .i64 far, .slice a kids.length c, .slice a2 thn.length c2, .slice a3 els.length c3]] w fun e w' => e = .returned (.bool R) ∧ Below w.heap.size w w' := by
 have HN : Hid (∀ w, Calls Tryz.prog 83 #[.string (bs name)] w fun e w' => e = .returned (.bool (isNameL name)) ∧ w' = w) := fun w => iIsName_any name w (by omega)
 have HW0 : Hid (∀ w, Calls Tryz.prog 84 #[.int .i64 K, .int .i64 1, .int .i64 11] w fun e w' => e = .returned (.bool true) ∧ w' = w) := fun w => by have h := within_any K 1 11 w; rwa [hK] at h
 have HS := hid hS
 have HO := hid hO
 clear hl hO hS hK
 go_enter Tryz.func85, Tryz.ntmps85
 go_wp2_with fail
 have hA := heap_alloc_new w (.cells #[.int .i64 K, .int .i64 op, .string (bs name), .int .i64 num, .int .i64 far, .slice a kids.length c, .slice a2 thn.length c2, .slice a3 els.length c3] 40)
 have hB : Below w.heap.size w (w.alloc (.cells #[.int .i64 K, .int .i64 op, .string (bs name), .int .i64 num, .int .i64 far, .slice a kids.length c, .slice a2 thn.length c2, .slice a3 els.length c3] 40)) := (Below.refl _ _).alloc (Nat.le_refl _) _
 generalize w.alloc (.cells #[.int .i64 K, .int .i64 op, .string (bs name), .int .i64 num, .int .i64 far, .slice a kids.length c, .slice a2 thn.length c2, .slice a3 els.length c3] 40) = W at *
 have k0 : W.cell? ⟨w.heap.size, 0, none⟩ = some (.int .i64 K) := cell_of_row _ _ 0 _ _ _ hA
 refine (HW0.out _).mono ?_
 rintro e w1 ⟨rfl, rfl⟩
 go_wp2_with fail
 refine (HS.out _).mono ?_
 rintro e w2 ⟨rfl, hb⟩
 have hA2 := blk hA hb
 have HB : Hid (Below w.heap.size w w2) := hB.trans (hb.mono hB.size)
 obtain ⟨d0, d1, d2, d3, d4, d5, d6, d7⟩ := cl8 hA2
 have hwl : w.heap.size < w2.heap.size := World.block_lt_of_cell? _ _ d0
 clear hA hB k0 hb hA2 HW0 HS
 go_wp2_with fail
 have hA3 := heap_alloc_new w2 (.cells #[.int .i64 0, .bool false, .bool false, .bool false, .int .i64 1, .int .i64 1, .bool true, .bool true] 200)
 have hB3 : Below w2.heap.size w2 (w2.alloc (.cells #[.int .i64 0, .bool false, .bool false, .bool false, .int .i64 1, .int .i64 1, .bool true, .bool true] 200)) := (Below.refl _ _).alloc (Nat.le_refl _) _
 generalize w2.alloc (.cells #[.int .i64 0, .bool false, .bool false, .bool false, .int .i64 1, .int .i64 1, .bool true, .bool true] 200) = W3 at *
 replace d0 : W3.cell? ⟨w.heap.size, 0, none⟩ = some (.int .i64 K) := (hB3.cell (p := ⟨w.heap.size, 0, none⟩) hwl).trans d0
 replace d1 : W3.cell? ⟨w.heap.size, 1, none⟩ = some (.int .i64 op) := (hB3.cell (p := ⟨w.heap.size, 1, none⟩) hwl).trans d1
 replace d2 : W3.cell? ⟨w.heap.size, 2, none⟩ = some (.string (bs name)) := (hB3.cell (p := ⟨w.heap.size, 2, none⟩) hwl).trans d2
 replace d3 : W3.cell? ⟨w.heap.size, 3, none⟩ = some (.int .i64 num) := (hB3.cell (p := ⟨w.heap.size, 3, none⟩) hwl).trans d3
 replace d4 : W3.cell? ⟨w.heap.size, 4, none⟩ = some (.int .i64 far) := (hB3.cell (p := ⟨w.heap.size, 4, none⟩) hwl).trans d4
 replace d5 : W3.cell? ⟨w.heap.size, 5, none⟩ = some (.slice a kids.length c) := (hB3.cell (p := ⟨w.heap.size, 5, none⟩) hwl).trans d5
 replace d6 : W3.cell? ⟨w.heap.size, 6, none⟩ = some (.slice a2 thn.length c2) := (hB3.cell (p := ⟨w.heap.size, 6, none⟩) hwl).trans d6
 replace d7 : W3.cell? ⟨w.heap.size, 7, none⟩ = some (.slice a3 els.length c3) := (hB3.cell (p := ⟨w.heap.size, 7, none⟩) hwl).trans d7
 obtain ⟨s0, s1, s2, s3, s4, s5, s6, s7⟩ := cl8 hA3
 replace HB : Hid (Below w.heap.size w W3) := HB.out.trans (hB3.mono HB.out.size)
 clear hA3 hB3 hwl
 generalize w2.heap.size = g2 at *
 by_cases qop : op = 0
 ·subst qop
  have hC : Hid (∀ w, Calls Tryz.prog 84 #[.int .i64 0, .int .i64 0, .int .i64 0] w fun e w' => e = .returned (.bool true) ∧ w' = w) := fun w => by have h := within_any 0 0 0 w; rwa [show inB 0 0 0 = true from by decide] at h
  skip
  refine (hC.out _).mono ?_
  rintro e w' ⟨rfl, rfl⟩
  clear hC
  simp only []; rename_i kk hkk; simp only [List.append_eq, List.cons_append, List.nil_append] at hkk
  by_cases qname : name = []
  ·subst qname
   by_cases qnum : num = 0
   ·subst qnum
    by_cases qfar : far = 0
    ·subst qfar
     by_cases qk : 1 ≤ kids.length ∧ kids.length ≤ 1
     ·have qk1 := qk.1
      have qk2 := qk.2
      have hz5 : decide ((1 : Int) ≤ ((kids.length : Nat) : Int)) = true := decide_eq_true (by omega)
      have hz6 : decide (((kids.length : Nat) : Int) ≤ 1) = true := decide_eq_true (by omega)
      have QK : Hid (1 ≤ kids.length ∧ kids.length ≤ 1) := qk
      clear qk qk1 qk2
      have HE : Hid (R = true) := by unfold Hid; rw [HO.out]; simp [QK.out]
      clear HO
      go_wp2_with fail
      go_ret
      exact ⟨by rw [HE.out]; rfl, HB.out⟩
     ·by_cases qk1 : kids.length < 1
      ·have hz5 : decide ((1 : Int) ≤ ((kids.length : Nat) : Int)) = false := decide_eq_false (by omega)
       have HE : Hid (R = false) := by unfold Hid; rw [HO.out]; simp [qk]
       clear HO
       go_wp2_with fail
       go_ret
       exact ⟨by rw [HE.out]; rfl, HB.out⟩
      ·have qk2 : 1 < kids.length := by omega
       have hz5 : decide ((1 : Int) ≤ ((kids.length : Nat) : Int)) = true := decide_eq_true (by omega)
       have hz6 : decide (((kids.length : Nat) : Int) ≤ 1) = false := decide_eq_false (by omega)
       have HE : Hid (R = false) := by unfold Hid; rw [HO.out]; simp [qk]
       clear HO
       go_wp2_with fail
       go_ret
       exact ⟨by rw [HE.out]; rfl, HB.out⟩
    ·have hz1 : (far == 0) = false := by simpa using qfar
     have hz2 : decide (far = 0) = false := decide_eq_false qfar
     have HE : Hid (R = false) := by unfold Hid; rw [HO.out]; simp [qfar]
     clear HO
     go_wp2_with fail
     go_ret
     exact ⟨by rw [HE.out]; rfl, HB.out⟩
   ·have hz1 : (num == 0) = false := by simpa using qnum
    have hz2 : decide (num = 0) = false := decide_eq_false qnum
    have HE : Hid (R = false) := by unfold Hid; rw [HO.out]; simp [qnum]
    clear HO
    go_wp2_with fail
    go_ret
    exact ⟨by rw [HE.out]; rfl, HB.out⟩
  ·have hz1 : (name == []) = false := by simpa using qname
   have hz2 : decide (name = []) = false := decide_eq_false qname
   have HE : Hid (R = false) := by unfold Hid; rw [HO.out]; simp [qname]
   clear HO
   go_wp2_with fail
   go_ret
   exact ⟨by rw [HE.out]; rfl, HB.out⟩
 ·have hC : Hid (∀ w, Calls Tryz.prog 84 #[.int .i64 op, .int .i64 0, .int .i64 0] w fun e w' => e = .returned (.bool false) ∧ w' = w) := fun w => by have h := within_any op 0 0 w; rwa [show inB op 0 0 = false from inB_no.2 (by omega)] at h
  skip
  refine (hC.out _).mono ?_
  rintro e w' ⟨rfl, rfl⟩
  clear hC
  simp only []; rename_i kk hkk; simp only [List.append_eq, List.cons_append, List.nil_append] at hkk
  have HE : Hid (R = false) := by unfold Hid; rw [HO.out]; simp [qop]
  clear HO
  go_wp2_with fail
  go_ret
  exact ⟨by rw [HE.out]; rfl, HB.out⟩
set_option maxHeartbeats 6400000 in
set_option maxRecDepth 100000 in
theorem has10 (K : Int) (R : Bool) (op : Int) (name : List UInt8) (num far : Int) (kids thn els : List Int) (a a2 a3 : Option Addr) (c c2 c3 : Nat) (w : World) (hl : name.length ≤ 1048576) (hk1 : kids.length ≤ 1048576) (hk2 : thn.length ≤ 1048576) (hk3 : els.length ≤ 1048576)
  (hO : R = (decide (op = 0) && isNameL name && inB num 0 65535 && inB far 0 65535 && kids.isEmpty && els.isEmpty)) (hS : Shape K (shapeV 0 true true true 0 0 true false)) (hK : inB K 1 11 = true) :
  Calls Tryz.prog 85 #[.agg #[.int .i64 K, .int .i64 op, .string (bs name), .int .i64 num, .int .i64 far, .slice a kids.length c, .slice a2 thn.length c2, .slice a3 els.length c3]] w fun e w' => e = .returned (.bool R) ∧ Below w.heap.size w w' := by
 have HN : Hid (∀ w, Calls Tryz.prog 83 #[.string (bs name)] w fun e w' => e = .returned (.bool (isNameL name)) ∧ w' = w) := fun w => iIsName_any name w (by omega)
 have HW0 : Hid (∀ w, Calls Tryz.prog 84 #[.int .i64 K, .int .i64 1, .int .i64 11] w fun e w' => e = .returned (.bool true) ∧ w' = w) := fun w => by have h := within_any K 1 11 w; rwa [hK] at h
 have HS := hid hS
 have HO := hid hO
 clear hl hO hS hK
 go_enter Tryz.func85, Tryz.ntmps85
 go_wp2_with fail
 have hA := heap_alloc_new w (.cells #[.int .i64 K, .int .i64 op, .string (bs name), .int .i64 num, .int .i64 far, .slice a kids.length c, .slice a2 thn.length c2, .slice a3 els.length c3] 40)
 have hB : Below w.heap.size w (w.alloc (.cells #[.int .i64 K, .int .i64 op, .string (bs name), .int .i64 num, .int .i64 far, .slice a kids.length c, .slice a2 thn.length c2, .slice a3 els.length c3] 40)) := (Below.refl _ _).alloc (Nat.le_refl _) _
 generalize w.alloc (.cells #[.int .i64 K, .int .i64 op, .string (bs name), .int .i64 num, .int .i64 far, .slice a kids.length c, .slice a2 thn.length c2, .slice a3 els.length c3] 40) = W at *
 have k0 : W.cell? ⟨w.heap.size, 0, none⟩ = some (.int .i64 K) := cell_of_row _ _ 0 _ _ _ hA
 refine (HW0.out _).mono ?_
 rintro e w1 ⟨rfl, rfl⟩
 go_wp2_with fail
 refine (HS.out _).mono ?_
 rintro e w2 ⟨rfl, hb⟩
 have hA2 := blk hA hb
 have HB : Hid (Below w.heap.size w w2) := hB.trans (hb.mono hB.size)
 obtain ⟨d0, d1, d2, d3, d4, d5, d6, d7⟩ := cl8 hA2
 have hwl : w.heap.size < w2.heap.size := World.block_lt_of_cell? _ _ d0
 clear hA hB k0 hb hA2 HW0 HS
 go_wp2_with fail
 have hA3 := heap_alloc_new w2 (.cells #[.int .i64 0, .bool true, .bool true, .bool true, .int .i64 0, .int .i64 0, .bool true, .bool false] 200)
 have hB3 : Below w2.heap.size w2 (w2.alloc (.cells #[.int .i64 0, .bool true, .bool true, .bool true, .int .i64 0, .int .i64 0, .bool true, .bool false] 200)) := (Below.refl _ _).alloc (Nat.le_refl _) _
 generalize w2.alloc (.cells #[.int .i64 0, .bool true, .bool true, .bool true, .int .i64 0, .int .i64 0, .bool true, .bool false] 200) = W3 at *
 replace d0 : W3.cell? ⟨w.heap.size, 0, none⟩ = some (.int .i64 K) := (hB3.cell (p := ⟨w.heap.size, 0, none⟩) hwl).trans d0
 replace d1 : W3.cell? ⟨w.heap.size, 1, none⟩ = some (.int .i64 op) := (hB3.cell (p := ⟨w.heap.size, 1, none⟩) hwl).trans d1
 replace d2 : W3.cell? ⟨w.heap.size, 2, none⟩ = some (.string (bs name)) := (hB3.cell (p := ⟨w.heap.size, 2, none⟩) hwl).trans d2
 replace d3 : W3.cell? ⟨w.heap.size, 3, none⟩ = some (.int .i64 num) := (hB3.cell (p := ⟨w.heap.size, 3, none⟩) hwl).trans d3
 replace d4 : W3.cell? ⟨w.heap.size, 4, none⟩ = some (.int .i64 far) := (hB3.cell (p := ⟨w.heap.size, 4, none⟩) hwl).trans d4
 replace d5 : W3.cell? ⟨w.heap.size, 5, none⟩ = some (.slice a kids.length c) := (hB3.cell (p := ⟨w.heap.size, 5, none⟩) hwl).trans d5
 replace d6 : W3.cell? ⟨w.heap.size, 6, none⟩ = some (.slice a2 thn.length c2) := (hB3.cell (p := ⟨w.heap.size, 6, none⟩) hwl).trans d6
 replace d7 : W3.cell? ⟨w.heap.size, 7, none⟩ = some (.slice a3 els.length c3) := (hB3.cell (p := ⟨w.heap.size, 7, none⟩) hwl).trans d7
 obtain ⟨s0, s1, s2, s3, s4, s5, s6, s7⟩ := cl8 hA3
 replace HB : Hid (Below w.heap.size w W3) := HB.out.trans (hB3.mono HB.out.size)
 clear hA3 hB3 hwl
 generalize w2.heap.size = g2 at *
 by_cases qop : op = 0
 ·subst qop
  have hC : Hid (∀ w, Calls Tryz.prog 84 #[.int .i64 0, .int .i64 0, .int .i64 0] w fun e w' => e = .returned (.bool true) ∧ w' = w) := fun w => by have h := within_any 0 0 0 w; rwa [show inB 0 0 0 = true from by decide] at h
  skip
  refine (hC.out _).mono ?_
  rintro e w' ⟨rfl, rfl⟩
  clear hC
  simp only []; rename_i kk hkk; simp only [List.append_eq, List.cons_append, List.nil_append] at hkk
  obtain ⟨q, qname⟩ : ∃ q, isNameL name = q := ⟨_, rfl⟩
  have hC : Hid (∀ w, Calls Tryz.prog 83 #[.string (bs name)] w fun e w' => e = .returned (.bool q) ∧ w' = w) := fun w => by have h := HN.out w; rwa [qname] at h
  cases q with
  | true =>
   go_wp2_with fail
   refine (hC.out _).mono ?_
   rintro e w' ⟨rfl, rfl⟩
   clear hC
   skip
   obtain ⟨q, qnum⟩ : ∃ q, inB num 0 65535 = q := ⟨_, rfl⟩
   have hC : Hid (∀ w, Calls Tryz.prog 155 #[.int .i64 num] w fun e w' => e = .returned (.bool q) ∧ w' = w) := fun w => by have h := fitsWord_any num w; rwa [qnum] at h
   cases q with
   | true =>
    go_wp2_with fail
    refine (hC.out _).mono ?_
    rintro e w' ⟨rfl, rfl⟩
    clear hC
    skip
    obtain ⟨q, qfar⟩ : ∃ q, inB far 0 65535 = q := ⟨_, rfl⟩
    have hC : Hid (∀ w, Calls Tryz.prog 155 #[.int .i64 far] w fun e w' => e = .returned (.bool q) ∧ w' = w) := fun w => by have h := fitsWord_any far w; rwa [qfar] at h
    cases q with
    | true =>
     go_wp2_with fail
     refine (hC.out _).mono ?_
     rintro e w' ⟨rfl, rfl⟩
     clear hC
     skip
     by_cases qkids : kids = []
     ·subst qkids
      by_cases qels : els = []
      ·subst qels
       have HE : Hid (R = true) := by unfold Hid; rw [HO.out]; simp [qname, qnum, qfar]
       clear HO
       go_wp2_with fail
       go_ret
       exact ⟨by rw [HE.out]; rfl, HB.out⟩
      ·have hz : 0 < els.length := List.length_pos_iff.2 qels
       have hz3 : (((els.length : Nat) : Int) == 0) = false := by rw [beq_eq_false_iff_ne]; omega
       have hz4 : decide (((els.length : Nat) : Int) = 0) = false := decide_eq_false (by omega)
       have HE : Hid (R = false) := by unfold Hid; rw [HO.out]; simp [qels]
       clear HO
       go_wp2_with fail
       go_ret
       exact ⟨by rw [HE.out]; rfl, HB.out⟩
     ·have hz : 0 < kids.length := List.length_pos_iff.2 qkids
      have hz3 : (((kids.length : Nat) : Int) == 0) = false := by rw [beq_eq_false_iff_ne]; omega
      have hz4 : decide (((kids.length : Nat) : Int) = 0) = false := decide_eq_false (by omega)
      have hz5 : decide (((kids.length : Nat) : Int) ≤ 0) = false := decide_eq_false (by omega)
      have HE : Hid (R = false) := by unfold Hid; rw [HO.out]; simp [qkids]
      clear HO
      go_wp2_with fail
      go_ret
      exact ⟨by rw [HE.out]; rfl, HB.out⟩
    | false =>
     have hz : far ≠ 0 := by rintro rfl; simp [inB] at qfar
     have hz1 : (far == 0) = false := by simpa using hz
     have hz2 : decide (far = 0) = false := decide_eq_false hz
     go_wp2_with fail
     refine (hC.out _).mono ?_
     rintro e w' ⟨rfl, rfl⟩
     clear hC
     skip
     have HE : Hid (R = false) := by unfold Hid; rw [HO.out]; simp [qfar]
     clear HO
     go_wp2_with fail
     go_ret
     exact ⟨by rw [HE.out]; rfl, HB.out⟩
   | false =>
    have hz : num ≠ 0 := by rintro rfl; simp [inB] at qnum
    have hz1 : (num == 0) = false := by simpa using hz
    have hz2 : decide (num = 0) = false := decide_eq_false hz
    go_wp2_with fail
    refine (hC.out _).mono ?_
    rintro e w' ⟨rfl, rfl⟩
    clear hC
    skip
    have HE : Hid (R = false) := by unfold Hid; rw [HO.out]; simp [qnum]
    clear HO
    go_wp2_with fail
    go_ret
    exact ⟨by rw [HE.out]; rfl, HB.out⟩
  | false =>
   go_wp2_with fail
   refine (hC.out _).mono ?_
   rintro e w' ⟨rfl, rfl⟩
   clear hC
   skip
   have HE : Hid (R = false) := by unfold Hid; rw [HO.out]; simp [qname]
   clear HO
   go_wp2_with fail
   go_ret
   exact ⟨by rw [HE.out]; rfl, HB.out⟩
 ·have hC : Hid (∀ w, Calls Tryz.prog 84 #[.int .i64 op, .int .i64 0, .int .i64 0] w fun e w' => e = .returned (.bool false) ∧ w' = w) := fun w => by have h := within_any op 0 0 w; rwa [show inB op 0 0 = false from inB_no.2 (by omega)] at h
  skip
  refine (hC.out _).mono ?_
  rintro e w' ⟨rfl, rfl⟩
  clear hC
  simp only []; rename_i kk hkk; simp only [List.append_eq, List.cons_append, List.nil_append] at hkk
  have HE : Hid (R = false) := by unfold Hid; rw [HO.out]; simp [qop]
  clear HO
  go_wp2_with fail
  go_ret
  exact ⟨by rw [HE.out]; rfl, HB.out⟩
set_option maxHeartbeats 6400000 in
set_option maxRecDepth 100000 in
theorem has11 (K : Int) (R : Bool) (op : Int) (name : List UInt8) (num far : Int) (kids thn els : List Int) (a a2 a3 : Option Addr) (c c2 c3 : Nat) (w : World) (hl : name.length ≤ 1048576) (hk1 : kids.length ≤ 1048576) (hk2 : thn.length ≤ 1048576) (hk3 : els.length ≤ 1048576)
  (hO : R = (inB op 1 4 && isNameL name && decide (num = 0) && decide (far = 0) && decide (1 ≤ kids.length ∧ kids.length ≤ 3) && thn.isEmpty && els.isEmpty)) (hS : Shape K (shapeV 4 true false false 1 3 false false)) (hK : inB K 1 11 = true) :
  Calls Tryz.prog 85 #[.agg #[.int .i64 K, .int .i64 op, .string (bs name), .int .i64 num, .int .i64 far, .slice a kids.length c, .slice a2 thn.length c2, .slice a3 els.length c3]] w fun e w' => e = .returned (.bool R) ∧ Below w.heap.size w w' := by
 have HN : Hid (∀ w, Calls Tryz.prog 83 #[.string (bs name)] w fun e w' => e = .returned (.bool (isNameL name)) ∧ w' = w) := fun w => iIsName_any name w (by omega)
 have HW0 : Hid (∀ w, Calls Tryz.prog 84 #[.int .i64 K, .int .i64 1, .int .i64 11] w fun e w' => e = .returned (.bool true) ∧ w' = w) := fun w => by have h := within_any K 1 11 w; rwa [hK] at h
 have HS := hid hS
 have HO := hid hO
 clear hl hO hS hK
 go_enter Tryz.func85, Tryz.ntmps85
 go_wp2_with fail
 have hA := heap_alloc_new w (.cells #[.int .i64 K, .int .i64 op, .string (bs name), .int .i64 num, .int .i64 far, .slice a kids.length c, .slice a2 thn.length c2, .slice a3 els.length c3] 40)
 have hB : Below w.heap.size w (w.alloc (.cells #[.int .i64 K, .int .i64 op, .string (bs name), .int .i64 num, .int .i64 far, .slice a kids.length c, .slice a2 thn.length c2, .slice a3 els.length c3] 40)) := (Below.refl _ _).alloc (Nat.le_refl _) _
 generalize w.alloc (.cells #[.int .i64 K, .int .i64 op, .string (bs name), .int .i64 num, .int .i64 far, .slice a kids.length c, .slice a2 thn.length c2, .slice a3 els.length c3] 40) = W at *
 have k0 : W.cell? ⟨w.heap.size, 0, none⟩ = some (.int .i64 K) := cell_of_row _ _ 0 _ _ _ hA
 refine (HW0.out _).mono ?_
 rintro e w1 ⟨rfl, rfl⟩
 go_wp2_with fail
 refine (HS.out _).mono ?_
 rintro e w2 ⟨rfl, hb⟩
 have hA2 := blk hA hb
 have HB : Hid (Below w.heap.size w w2) := hB.trans (hb.mono hB.size)
 obtain ⟨d0, d1, d2, d3, d4, d5, d6, d7⟩ := cl8 hA2
 have hwl : w.heap.size < w2.heap.size := World.block_lt_of_cell? _ _ d0
 clear hA hB k0 hb hA2 HW0 HS
 go_wp2_with fail
 have hA3 := heap_alloc_new w2 (.cells #[.int .i64 4, .bool true, .bool false, .bool false, .int .i64 1, .int .i64 3, .bool false, .bool false] 200)
 have hB3 : Below w2.heap.size w2 (w2.alloc (.cells #[.int .i64 4, .bool true, .bool false, .bool false, .int .i64 1, .int .i64 3, .bool false, .bool false] 200)) := (Below.refl _ _).alloc (Nat.le_refl _) _
 generalize w2.alloc (.cells #[.int .i64 4, .bool true, .bool false, .bool false, .int .i64 1, .int .i64 3, .bool false, .bool false] 200) = W3 at *
 replace d0 : W3.cell? ⟨w.heap.size, 0, none⟩ = some (.int .i64 K) := (hB3.cell (p := ⟨w.heap.size, 0, none⟩) hwl).trans d0
 replace d1 : W3.cell? ⟨w.heap.size, 1, none⟩ = some (.int .i64 op) := (hB3.cell (p := ⟨w.heap.size, 1, none⟩) hwl).trans d1
 replace d2 : W3.cell? ⟨w.heap.size, 2, none⟩ = some (.string (bs name)) := (hB3.cell (p := ⟨w.heap.size, 2, none⟩) hwl).trans d2
 replace d3 : W3.cell? ⟨w.heap.size, 3, none⟩ = some (.int .i64 num) := (hB3.cell (p := ⟨w.heap.size, 3, none⟩) hwl).trans d3
 replace d4 : W3.cell? ⟨w.heap.size, 4, none⟩ = some (.int .i64 far) := (hB3.cell (p := ⟨w.heap.size, 4, none⟩) hwl).trans d4
 replace d5 : W3.cell? ⟨w.heap.size, 5, none⟩ = some (.slice a kids.length c) := (hB3.cell (p := ⟨w.heap.size, 5, none⟩) hwl).trans d5
 replace d6 : W3.cell? ⟨w.heap.size, 6, none⟩ = some (.slice a2 thn.length c2) := (hB3.cell (p := ⟨w.heap.size, 6, none⟩) hwl).trans d6
 replace d7 : W3.cell? ⟨w.heap.size, 7, none⟩ = some (.slice a3 els.length c3) := (hB3.cell (p := ⟨w.heap.size, 7, none⟩) hwl).trans d7
 obtain ⟨s0, s1, s2, s3, s4, s5, s6, s7⟩ := cl8 hA3
 replace HB : Hid (Below w.heap.size w W3) := HB.out.trans (hB3.mono HB.out.size)
 clear hA3 hB3 hwl
 generalize w2.heap.size = g2 at *
 obtain ⟨q, qop⟩ : ∃ q, inB op 1 4 = q := ⟨_, rfl⟩
 have hC : Hid (∀ w, Calls Tryz.prog 84 #[.int .i64 op, .int .i64 1, .int .i64 4] w fun e w' => e = .returned (.bool q) ∧ w' = w) := fun w => by have h := within_any op 1 4 w; rwa [qop] at h
 cases q with
 | true =>
  skip
  refine (hC.out _).mono ?_
  rintro e w' ⟨rfl, rfl⟩
  clear hC
  simp only []; rename_i kk hkk; simp only [List.append_eq, List.cons_append, List.nil_append] at hkk
  obtain ⟨q, qname⟩ : ∃ q, isNameL name = q := ⟨_, rfl⟩
  have hC : Hid (∀ w, Calls Tryz.prog 83 #[.string (bs name)] w fun e w' => e = .returned (.bool q) ∧ w' = w) := fun w => by have h := HN.out w; rwa [qname] at h
  cases q with
  | true =>
   go_wp2_with fail
   refine (hC.out _).mono ?_
   rintro e w' ⟨rfl, rfl⟩
   clear hC
   skip
   by_cases qnum : num = 0
   ·subst qnum
    by_cases qfar : far = 0
    ·subst qfar
     by_cases qk : 1 ≤ kids.length ∧ kids.length ≤ 3
     ·have qk1 := qk.1
      have qk2 := qk.2
      have hz5 : decide ((1 : Int) ≤ ((kids.length : Nat) : Int)) = true := decide_eq_true (by omega)
      have hz6 : decide (((kids.length : Nat) : Int) ≤ 3) = true := decide_eq_true (by omega)
      have QK : Hid (1 ≤ kids.length ∧ kids.length ≤ 3) := qk
      clear qk qk1 qk2
      by_cases qthn : thn = []
      ·subst qthn
       by_cases qels : els = []
       ·subst qels
        have HE : Hid (R = true) := by unfold Hid; rw [HO.out]; simp [qop, qname, QK.out]
        clear HO
        go_wp2_with fail
        go_ret
        exact ⟨by rw [HE.out]; rfl, HB.out⟩
       ·have hz : 0 < els.length := List.length_pos_iff.2 qels
        have hz3 : (((els.length : Nat) : Int) == 0) = false := by rw [beq_eq_false_iff_ne]; omega
        have hz4 : decide (((els.length : Nat) : Int) = 0) = false := decide_eq_false (by omega)
        have HE : Hid (R = false) := by unfold Hid; rw [HO.out]; simp [qels]
        clear HO
        go_wp2_with fail
        go_ret
        exact ⟨by rw [HE.out]; rfl, HB.out⟩
      ·have hz : 0 < thn.length := List.length_pos_iff.2 qthn
       have hz3 : (((thn.length : Nat) : Int) == 0) = false := by rw [beq_eq_false_iff_ne]; omega
       have hz4 : decide (((thn.length : Nat) : Int) = 0) = false := decide_eq_false (by omega)
       have HE : Hid (R = false) := by unfold Hid; rw [HO.out]; simp [qthn]
       clear HO
       go_wp2_with fail
       go_ret
       exact ⟨by rw [HE.out]; rfl, HB.out⟩
     ·by_cases qk1 : kids.length < 1
      ·have hz5 : decide ((1 : Int) ≤ ((kids.length : Nat) : Int)) = false := decide_eq_false (by omega)
       have HE : Hid (R = false) := by unfold Hid; rw [HO.out]; simp [qk]
       clear HO
       go_wp2_with fail
       go_ret
       exact ⟨by rw [HE.out]; rfl, HB.out⟩
      ·have qk2 : 3 < kids.length := by omega
       have hz5 : decide ((1 : Int) ≤ ((kids.length : Nat) : Int)) = true := decide_eq_true (by omega)
       have hz6 : decide (((kids.length : Nat) : Int) ≤ 3) = false := decide_eq_false (by omega)
       have HE : Hid (R = false) := by unfold Hid; rw [HO.out]; simp [qk]
       clear HO
       go_wp2_with fail
       go_ret
       exact ⟨by rw [HE.out]; rfl, HB.out⟩
    ·have hz1 : (far == 0) = false := by simpa using qfar
     have hz2 : decide (far = 0) = false := decide_eq_false qfar
     have HE : Hid (R = false) := by unfold Hid; rw [HO.out]; simp [qfar]
     clear HO
     go_wp2_with fail
     go_ret
     exact ⟨by rw [HE.out]; rfl, HB.out⟩
   ·have hz1 : (num == 0) = false := by simpa using qnum
    have hz2 : decide (num = 0) = false := decide_eq_false qnum
    have HE : Hid (R = false) := by unfold Hid; rw [HO.out]; simp [qnum]
    clear HO
    go_wp2_with fail
    go_ret
    exact ⟨by rw [HE.out]; rfl, HB.out⟩
  | false =>
   go_wp2_with fail
   refine (hC.out _).mono ?_
   rintro e w' ⟨rfl, rfl⟩
   clear hC
   skip
   have HE : Hid (R = false) := by unfold Hid; rw [HO.out]; simp [qname]
   clear HO
   go_wp2_with fail
   go_ret
   exact ⟨by rw [HE.out]; rfl, HB.out⟩
 | false =>
  skip
  refine (hC.out _).mono ?_
  rintro e w' ⟨rfl, rfl⟩
  clear hC
  simp only []; rename_i kk hkk; simp only [List.append_eq, List.cons_append, List.nil_append] at hkk
  have HE : Hid (R = false) := by unfold Hid; rw [HO.out]; simp [qop]
  clear HO
  go_wp2_with fail
  go_ret
  exact ⟨by rw [HE.out]; rfl, HB.out⟩
end Go.Proofs.YtcecfmdjicjngaaGreatDoor
namespace Go.Proofs.YtcecfmdjicjngaaGreatDoor
open Go.RowKit
set_option linter.unusedVariables false
attribute [local go_sem] bs_size bs_get bs_extract bs_append bs_eq bs_toList
set_option maxHeartbeats 1600000 in
theorem hasShape_any (n : LNode) (a a2 a3 : Option Addr) (c c2 c3 : Nat) (w : World) (hl : n.name.length ≤ 1048576) (hk1 : n.kids.length ≤ 1048576) (hk2 : n.thn.length ≤ 1048576) (hk3 : n.els.length ≤ 1048576) :
  Calls Tryz.prog 85 #[nodeV n (.slice a n.kids.length c) (.slice a2 n.thn.length c2) (.slice a3 n.els.length c3)] w fun e w' => e = .returned (.bool (ownB n)) ∧ Below w.heap.size w w' := by
 obtain ⟨K, op, name, num, far, kids, thn, els⟩ := n
 by_cases hK : inB K 1 11 = true
 ·have h := inB_iff.1 hK
  have : K = 1 ∨ K = 2 ∨ K = 3 ∨ K = 4 ∨ K = 5 ∨ K = 6 ∨ K = 7 ∨ K = 8 ∨ K = 9 ∨ K = 10 ∨ K = 11 := by omega
  rcases this with rfl | rfl | rfl | rfl | rfl | rfl | rfl | rfl | rfl | rfl | rfl
  ·exact has1 1 _ op name num far kids thn els a a2 a3 c c2 c3 w hl hk1 hk2 hk3 (ownK1 op name num far kids thn els) sh1 hK
  ·exact has2 2 _ op name num far kids thn els a a2 a3 c c2 c3 w hl hk1 hk2 hk3 (ownK2 op name num far kids thn els) sh2 hK
  ·exact has3 3 _ op name num far kids thn els a a2 a3 c c2 c3 w hl hk1 hk2 hk3 (ownK3 op name num far kids thn els) sh3 hK
  ·exact has4 4 _ op name num far kids thn els a a2 a3 c c2 c3 w hl hk1 hk2 hk3 (ownK4 op name num far kids thn els) sh4 hK
  ·exact has4 5 _ op name num far kids thn els a a2 a3 c c2 c3 w hl hk1 hk2 hk3 (ownK5 op name num far kids thn els) sh5 hK
  ·exact has6 6 _ op name num far kids thn els a a2 a3 c c2 c3 w hl hk1 hk2 hk3 (ownK6 op name num far kids thn els) sh6 hK
  ·exact has3 7 _ op name num far kids thn els a a2 a3 c c2 c3 w hl hk1 hk2 hk3 (ownK7 op name num far kids thn els) sh7 hK
  ·exact has8 8 _ op name num far kids thn els a a2 a3 c c2 c3 w hl hk1 hk2 hk3 (ownK8 op name num far kids thn els) sh8 hK
  ·exact has9 9 _ op name num far kids thn els a a2 a3 c c2 c3 w hl hk1 hk2 hk3 (ownK9 op name num far kids thn els) sh9 hK
  ·exact has10 10 _ op name num far kids thn els a a2 a3 c c2 c3 w hl hk1 hk2 hk3 (ownK10 op name num far kids thn els) sh10 hK
  ·exact has11 11 _ op name num far kids thn els a a2 a3 c c2 c3 w hl hk1 hk2 hk3 (ownK11 op name num far kids thn els) sh11 hK
 ·have hK : inB K 1 11 = false := by simpa using hK
  have HE : Hid (ownB ⟨K, op, name, num, far, kids, thn, els⟩ = false) := by unfold Hid ownB; simp only [hK, Bool.false_and]
  have HW0 : Hid (∀ w, Calls Tryz.prog 84 #[.int .i64 K, .int .i64 1, .int .i64 11] w fun e w' => e = .returned (.bool false) ∧ w' = w) := fun w => by have h := within_any K 1 11 w; rwa [hK] at h
  generalize ownB ⟨K, op, name, num, far, kids, thn, els⟩ = R at *
  clear hK
  go_enter Tryz.func85, Tryz.ntmps85
  go_wp2_with fail
  have hA := heap_alloc_new w (.cells #[.int .i64 K, .int .i64 op, .string (bs name), .int .i64 num, .int .i64 far, .slice a kids.length c, .slice a2 thn.length c2, .slice a3 els.length c3] 40)
  have hB : Below w.heap.size w (w.alloc (.cells #[.int .i64 K, .int .i64 op, .string (bs name), .int .i64 num, .int .i64 far, .slice a kids.length c, .slice a2 thn.length c2, .slice a3 els.length c3] 40)) := (Below.refl _ _).alloc (Nat.le_refl _) _
  generalize w.alloc (.cells #[.int .i64 K, .int .i64 op, .string (bs name), .int .i64 num, .int .i64 far, .slice a kids.length c, .slice a2 thn.length c2, .slice a3 els.length c3] 40) = W at *
  refine (HW0.out _).mono ?_
  rintro e w1 ⟨rfl, rfl⟩
  go_wp2_with fail
  go_ret
  exact ⟨by rw [HE.out]; rfl, hB⟩
end Go.Proofs.YtcecfmdjicjngaaGreatDoor
namespace Go.Proofs.YtcecfmdjicjngaaGreatDoor
open Go.RowKit
set_option linter.unusedVariables false
attribute [local go_sem] bs_size bs_get bs_extract bs_append bs_eq bs_toList
def partsB (N : List LNode) (m : Nat) (n : LNode) : Bool := kidsB N m n.kids && statB N m n.thn && statB N m n.els
set_option maxHeartbeats 6400000 in
set_option maxRecDepth 100000 in
theorem hasParts_any (N : List LNode) (m : Nat) (a2 : Option Addr) (c2 : Nat) (n : LNode) (vk vt ve : Value) (w : World) (hm : m ≤ N.length) (hm1 : m ≤ 1048576) (hK : Kinds w a2 N m)
  (hv1 : IntsB w.heap.size w vk n.kids) (hv2 : IntsB w.heap.size w vt n.thn) (hv3 : IntsB w.heap.size w ve n.els) (hl1 : n.kids.length ≤ 1048576) (hl2 : n.thn.length ≤ 1048576) (hl3 : n.els.length ≤ 1048576) :
  Calls Tryz.prog 86 #[.slice a2 m c2, nodeV n vk vt ve] w fun e w' => e = .returned (.bool (partsB N m n)) ∧ Below w.heap.size w w' := by
 have HV2 := hid hv2
 have HV3 := hid hv3
 have HKI : Hid (Kinds w a2 N m) := hK
 obtain ⟨a, cp, rfl, hh⟩ := hv1
 obtain ⟨at2, ct, rfl, _⟩ := id hv2
 obtain ⟨ae, ce, rfl, _⟩ := id hv3
 have HH := hid hh
 have HK := hid hK
 have HP : Hid (∀ (z : Int) (w : World), Calls Tryz.prog 78 #[.slice a2 m c2, .int .i64 z] w fun e w' => e = .returned (.bool (inB z 0 ((m : Int) - 1))) ∧ w' = w) := fun z w => isPlace_any a2 m c2 z w (by omega)
 have HX : Hid (∀ (z : Int) (w : World), Calls Tryz.prog 80 #[.int .i64 z] w fun e w' => e = .returned (.bool (inB z 1 6)) ∧ w' = w) := isExpression_any
 have HM : Hid (m ≤ N.length) := hm
 clear hh hK hm hv2 hv3
 go_enter Tryz.func86, Tryz.ntmps86
 go_wp2
 have hA := heap_alloc_new w (.cells #[.int .i64 n.kind, .int .i64 n.op, .string (bs n.name), .int .i64 n.num, .int .i64 n.far, .slice a n.kids.length cp, .slice at2 n.thn.length ct, .slice ae n.els.length ce] 40)
 have hB : Below w.heap.size w (w.alloc (.cells #[.int .i64 n.kind, .int .i64 n.op, .string (bs n.name), .int .i64 n.num, .int .i64 n.far, .slice a n.kids.length cp, .slice at2 n.thn.length ct, .slice ae n.els.length ce] 40)) := (Below.refl _ _).alloc (Nat.le_refl _) _
 generalize w.alloc (.cells #[.int .i64 n.kind, .int .i64 n.op, .string (bs n.name), .int .i64 n.num, .int .i64 n.far, .slice a n.kids.length cp, .slice at2 n.thn.length ct, .slice ae n.els.length ce] 40) = W at *
 obtain ⟨-, -, -, -, -, -, e6, e7⟩ := cl8 hA
 have HE6 : Hid (W.cell? ⟨w.heap.size, 6, none⟩ = some (.slice at2 n.thn.length ct)) := e6
 have HE7 : Hid (W.cell? ⟨w.heap.size, 7, none⟩ = some (.slice ae n.els.length ce)) := e7
 have HB := hid hB
 have HS : ∀ (v : Value) (l : List Int), IntsB w.heap.size w v l → l.length ≤ 1048576 → ∀ W1, SameW W1 W → Calls Tryz.prog 87 #[.slice a2 m c2, v] W1 fun e w' => e = .returned (.bool (statB N m l)) ∧ w' = W1 := fun v l hv hl W1 hW => by
  have hW : W1 = W := hW
  subst hW
  refine areStatements_any N m a2 c2 v l w.heap.size W1 HM.out hm1 ?_ (hv.keep (fun q hq => hB.block q hq) (Nat.le_refl _)) hl
  intro h0
  obtain ⟨b, o, e, hc⟩ := HKI.out h0
  exact ⟨b, o, e, fun i x hi hx => by have := hc i x hi hx; exact (hB.cell (p := ⟨b, o + i * 8, none⟩) (World.block_lt_of_cell? _ _ this)).trans this⟩
 have HS1 : Hid (∀ W1, SameW W1 W → Calls Tryz.prog 87 #[.slice a2 m c2, .slice at2 n.thn.length ct] W1 fun e w' => e = .returned (.bool (statB N m n.thn)) ∧ w' = W1) := HS _ _ HV2.out hl2
 have HS2 : Hid (∀ W1, SameW W1 W → Calls Tryz.prog 87 #[.slice a2 m c2, .slice ae n.els.length ce] W1 fun e w' => e = .returned (.bool (statB N m n.els)) ∧ w' = W1) := HS _ _ HV3.out hl3
 clear hA hB HS e6 e7
 go_loopw [10] (fun i wr => ∃ k : Nat, k ≤ n.kids.length ∧ i = .int .i64 k ∧ (∀ j x, j < k → n.kids[j]? = some x → (inB x 0 ((m : Int) - 1) && inB (kindAt N x) 1 6) = true) ∧ SameW wr W) (fun i _ => n.kids.length - (intOf i).toNat)
 case atStart => exact ⟨0, by omega, rfl, by omega, rfl⟩
 case round =>
  obtain ⟨k, hk, rfl, hall, hw⟩ := hrel
  have HALL := hid hall
  have HW : Hid (SameW wr W) := hw
  have HBW : Hid (Below w.heap.size w wr) := by unfold Hid; have : wr = W := hw; rw [this]; exact HB.out
  clear hall
  by_cases hlt : k < n.kids.length
  ·obtain ⟨x, hx⟩ : ∃ x, n.kids[k]? = some x := ⟨n.kids[k], List.getElem?_eq_getElem hlt⟩
   obtain ⟨b, o, rfl, _, hc1⟩ := HH.out (by intro e; rw [e] at hlt; simp at hlt)
   have c0 := (HBW.out.cell (p := ⟨b, o + k, none⟩) (World.block_lt_of_cell? _ _ (hc1 k x hx))).trans (hc1 k x hx)
   have hk0 : (0 : Int) ≤ (k : Int) := by omega
   have hk1 : (k : Int) < (n.kids.length : Int) := by omega
   have HL : Hid (n.kids[k]? = some x) := hx
   clear hx hc1
   obtain ⟨q, hq⟩ : ∃ q, inB x 0 ((m : Int) - 1) = q := ⟨_, rfl⟩
   cases q with
   | false =>
    have hI : Hid (∀ w, Calls Tryz.prog 78 #[.slice a2 m c2, .int .i64 x] w fun e w' => e = .returned (.bool false) ∧ w' = w) := fun w => by have h := HP.out x w; rwa [hq] at h
    have e : kidsB N m n.kids = false := List.all_eq_false.2 ⟨x, List.mem_of_getElem? HL.out, by simp [hq]⟩
    have He : Hid (partsB N m n = false) := by unfold Hid partsB; rw [e]; rfl
    clear e hq hw
    go_wp2_with fail
    refine (hI.out _).mono ?_
    rintro e w1 ⟨rfl, rfl⟩
    go_wp2_with fail
    go_ret
    exact ⟨by rw [He.out]; rfl, HBW.out⟩
   | true =>
    have hq2 := inB_iff.1 hq
    obtain ⟨j, rfl⟩ : ∃ j : Nat, x = j := ⟨x.toNat, by omega⟩
    have hjm : j < m := by omega
    obtain ⟨y, hy⟩ : ∃ y, N[j]? = some y := ⟨N[j]'(by have := HM.out; omega), List.getElem?_eq_getElem _⟩
    obtain ⟨g2, o2, rfl, hc2⟩ := HK.out (by omega)
    have d0 := (HBW.out.cell (p := ⟨g2, o2 + j * 8, none⟩) (World.block_lt_of_cell? _ _ (hc2 j y hjm hy))).trans (hc2 j y hjm hy)
    have hkd : kindAt N (j : Int) = y.kind := by
     have : N.getD ((j : Int)).toNat default = y := by simp [hy]
     unfold kindAt; rw [this]
    have HR : Hid ((inB (j : Int) 0 ((m : Int) - 1) && inB (kindAt N (j : Int)) 1 6) = inB y.kind 1 6) := by unfold Hid; rw [hq, hkd]; rfl
    have hj0 : (0 : Int) ≤ (j : Int) := by omega
    have hj1 : (j : Int) < (m : Int) := by omega
    have hI : Hid (∀ w, Calls Tryz.prog 78 #[.slice (some ⟨g2, o2, none⟩) m c2, .int .i64 (j : Int)] w fun e w' => e = .returned (.bool true) ∧ w' = w) := fun w => by have h := HP.out (j : Int) w; rwa [hq] at h
    clear hq hq2 hy hc2 hkd hw
    obtain ⟨qe, hqe⟩ : ∃ q, inB y.kind 1 6 = q := ⟨_, rfl⟩
    have hE : Hid (∀ w, Calls Tryz.prog 80 #[.int .i64 y.kind] w fun e w' => e = .returned (.bool qe) ∧ w' = w) := fun w => by have h := HX.out y.kind w; rwa [hqe] at h
    cases qe
    ·have e : kidsB N m n.kids = false := List.all_eq_false.2 ⟨(j : Int), List.mem_of_getElem? HL.out, by rw [HR.out, hqe]; decide⟩
     have He : Hid (partsB N m n = false) := by unfold Hid partsB; rw [e]; rfl
     clear e
     go_wp2_with fail
     refine (hI.out _).mono ?_
     rintro e w1 ⟨rfl, rfl⟩
     go_wp2_with fail
     refine (hE.out _).mono ?_
     rintro e w1 ⟨rfl, rfl⟩
     go_wp2_with fail
     go_ret
     exact ⟨by rw [He.out]; rfl, HBW.out⟩
    ·go_wp2_with fail
     refine (hI.out _).mono ?_
     rintro e w1 ⟨rfl, rfl⟩
     go_wp2_with fail
     refine (hE.out _).mono ?_
     rintro e w1 ⟨rfl, rfl⟩
     go_wp2_with fail
     go_roundw
     case rel => exact ⟨k + 1, by omega, by go_num, fun i x hi hx => by
       rcases Nat.lt_succ_iff_lt_or_eq.1 hi with h | rfl
       ·exact HALL.out i x h hx
       ·have := hx.symm.trans HL.out
        cases this
        rw [HR.out, hqe], HW.out⟩
     case measure => simp [intOf]; omega
  ·have hke : k = n.kids.length := by omega
   have e : kidsB N m n.kids = true := List.all_eq_true.2 (fun x hx => by
    obtain ⟨j, hj, rfl⟩ := List.getElem_of_mem hx
    exact HALL.out j _ (by omega) (List.getElem?_eq_getElem hj))
   have He : Hid (partsB N m n = (statB N m n.thn && statB N m n.els)) := by unfold Hid partsB; rw [e]; rfl
   have e6 : wr.cell? ⟨w.heap.size, 6, none⟩ = some (.slice at2 n.thn.length ct) := by have : wr = W := hw; rw [this]; exact HE6.out
   have e7 : wr.cell? ⟨w.heap.size, 7, none⟩ = some (.slice ae n.els.length ce) := by have : wr = W := hw; rw [this]; exact HE7.out
   clear e hke hw
   generalize statB N m n.thn = q1 at *
   generalize statB N m n.els = q2 at *
   cases q1
   ·go_wp2_with fail
    refine (HS1.out _ (by exact HW.out)).mono ?_
    rintro e w1 ⟨rfl, rfl⟩
    go_wp2_with fail
    go_ret
    exact ⟨by rw [He.out]; rfl, HBW.out⟩
   ·go_wp2_with fail
    refine (HS1.out _ (by exact HW.out)).mono ?_
    rintro e w1 ⟨rfl, rfl⟩
    go_wp2_with fail
    refine (HS2.out _ (by exact HW.out)).mono ?_
    rintro e w1 ⟨rfl, rfl⟩
    go_wp2_with fail
    go_ret
    exact ⟨by rw [He.out]; cases q2 <;> rfl, HBW.out⟩
end Go.Proofs.YtcecfmdjicjngaaGreatDoor
namespace Go.Proofs.YtcecfmdjicjngaaGreatDoor
open Go.RowKit
set_option linter.unusedVariables false
attribute [local go_sem] bs_size bs_get bs_extract bs_append bs_eq bs_toList
theorem own_kind {n : LNode} (h : ownB n = true) : inB n.kind 1 11 = true := by
 unfold ownB at h
 simp only [Bool.and_eq_true] at h
 exact h.1.1.1.1.1.1.1.1
theorem stat_refs {N : List LNode} {m : Nat} (hk : ∀ j, j < m → inB (kindAt N (j : Int)) 1 11 = true) (l : List Int) : statB N m l = refsB N m l false := by
 unfold statB refsB
 congr 1
 funext x
 unfold refB
 cases hx : inB x 0 ((m : Int) - 1) with
 | false => rfl
 | true =>
  have := inB_iff.1 hx
  obtain ⟨j, rfl⟩ : ∃ j : Nat, x = j := ⟨x.toNat, by omega⟩
  have h := inB_iff.1 (hk j (by omega))
  simp only [Bool.true_and]
  show inB (kindAt N (j : Int)) 7 11 = (inB (kindAt N (j : Int)) 1 6 == false)
  generalize kindAt N (j : Int) = K at *
  by_cases hK : K ≤ 6
  ·rw [show inB K 7 11 = false from inB_no.2 (by omega), show inB K 1 6 = true from inB_iff.2 (by omega)]; rfl
  ·rw [show inB K 7 11 = true from inB_iff.2 (by omega), show inB K 1 6 = false from inB_no.2 (by omega)]; rfl
theorem kids_refs (N : List LNode) (m : Nat) (l : List Int) : kidsB N m l = refsB N m l true := by
 unfold kidsB refsB
 congr 1
 funext x
 unfold refB
 cases hx : inB x 0 ((m : Int) - 1) with
 | false => rfl
 | true =>
  simp only [Bool.true_and]
  show inB (kindAt N x) 1 6 = (inB (kindAt N x) 1 6 == true)
  cases inB (kindAt N x) 1 6 <;> rfl
theorem right_parts {N : List LNode} {m : Nat} (hk : ∀ j, j < m → inB (kindAt N (j : Int)) 1 11 = true) : rightB N m = (ownB (N.getD m default) && partsB N m (N.getD m default)) := by
 rw [rightB_eq, partsB, kids_refs, stat_refs hk, stat_refs hk]
 simp only [Bool.and_assoc]
theorem kinds_of_rights {N : List LNode} {m : Nat} (h : ∀ j, j < m → rightB N j = true) : ∀ j, j < m → inB (kindAt N (j : Int)) 1 11 = true := fun j hj => by
 have := h j hj
 rw [rightB_eq] at this
 simp only [Bool.and_eq_true] at this
 exact own_kind this.1.1.1
theorem slice_preN (b o k n c : Nat) (h : k ≤ n) (hc : n ≤ c) (W : World) : (Instr.slice 25 (.slice (some ⟨b, o, none⟩) n c) none (some (.int .i64 (k : Int))) none).run Tryz.prog W = .ok (.slice (some ⟨b, o, none⟩) k c) W := by
 have hu := Tryz.underlying25
 have hkc : k ≤ c := Nat.le_trans h hc
 simp [go_sem, hu, hkc]
theorem kinds_of_nodes {lo : Nat} {w : World} {a : Option Addr} {c : Nat} {N : List LNode} (h : NodesV lo w (.slice a N.length c) N) (m : Nat) (hm : m ≤ N.length) : Kinds w a N m := fun h0 => by
 obtain ⟨_, _, he, _, hh⟩ := h
 cases he
 obtain ⟨b, o, e, _, hc⟩ := hh (by rintro rfl; simp at hm; omega)
 refine ⟨b, o, e, fun i x hi hx => ?_⟩
 obtain ⟨_, _, _, hcs, _⟩ := hc i x hx
 exact hcs.c0
set_option maxHeartbeats 12800000 in
set_option maxRecDepth 100000 in
theorem implTreeFault : TreeInt 21 faultL := by
 intro lo vv vn vb T w h hS
 obtain ⟨av, cv, rfl, _, hhv⟩ := id h.vars
 obtain ⟨an, cn, rfl, hcn, hhn⟩ := id h.nodes
 obtain ⟨ab, cb, rfl, _⟩ := id h.body
 have HT : Hid (TreeV lo w (.slice av T.vars.length cv) (.slice an T.nodes.length cn) (.slice ab T.body.length cb) T) := h
 have hlv := hS.vars
 have hln := hS.nodes
 have HS : Hid (Sized 1048576 T) := hS
 have HV : Hid (T.vars ≠ [] → ∃ b o, av = some ⟨b, o, none⟩ ∧ lo ≤ b ∧ ∀ (i : Nat) (x : LVar), T.vars[i]? = some x → VarAt w b (o + i * 4) x) := hhv
 have HN : Hid (T.nodes ≠ [] → ∃ b o, an = some ⟨b, o, none⟩ ∧ lo ≤ b ∧ ∀ (i : Nat) (x : LNode), T.nodes[i]? = some x → NodeAt lo w b (o + i * 8) x) := hhn
 obtain ⟨F, hF⟩ : ∃ F, F = faultL T := ⟨_, rfl⟩
 rw [← hF]
 have HF : Hid (F = if 24 < T.vars.length ∨ 200 < T.nodes.length then 2 else if varsB T.vars ≠ 0 then varsB T.vars else if rightsB T.nodes = false then 1 else if refsB T.nodes T.nodes.length T.body false = false then 1 else if (countsL T).all (fun c => decide (c = 1)) = false then 1 else if (depthsF T.nodes T.nodes.length).all (fun d => decide (d ≤ 20)) = false then 9 else 0) := hF
 clear h hhv hhn hS hF
 by_cases hv : 24 < T.vars.length
 ·have HE : Hid (F = 2) := by unfold Hid; rw [HF.out, if_pos (Or.inl hv)]
  have hb1 : decide ((24 : Int) < ((T.vars.length : Nat) : Int)) = true := decide_eq_true (by omega)
  clear HF
  go_enter Tryz.func21, Tryz.ntmps21
  go_wp2
  go_ret
  exact ⟨by rw [HE.out]; rfl, by go_grown⟩
 by_cases hn2 : 200 < T.nodes.length
 ·have HE : Hid (F = 2) := by unfold Hid; rw [HF.out, if_pos (Or.inr hn2)]
  have hb1 : decide ((24 : Int) < ((T.vars.length : Nat) : Int)) = false := decide_eq_false (by omega)
  have hb2 : decide ((200 : Int) < ((T.nodes.length : Nat) : Int)) = true := decide_eq_true (by omega)
  clear HF hv hn2
  go_enter Tryz.func21, Tryz.ntmps21
  go_wp2
  go_ret
  exact ⟨by rw [HE.out]; rfl, by go_grown⟩
 have hb1 : decide ((24 : Int) < ((T.vars.length : Nat) : Int)) = false := decide_eq_false (by omega)
 have hb2 : decide ((200 : Int) < ((T.nodes.length : Nat) : Int)) = false := decide_eq_false (by omega)
 have HF : Hid (F = if varsB T.vars ≠ 0 then varsB T.vars else if rightsB T.nodes = false then 1 else if refsB T.nodes T.nodes.length T.body false = false then 1 else if (countsL T).all (fun c => decide (c = 1)) = false then 1 else if (depthsF T.nodes T.nodes.length).all (fun d => decide (d ≤ 20)) = false then 9 else 0) := by
  unfold Hid; rw [HF.out, if_neg (by omega)]
 have HN200 : Hid (T.nodes.length ≤ 200) := by unfold Hid; omega
 clear hv hn2
 go_enter Tryz.func21, Tryz.ntmps21
 go_wp2
 clear hb1 hb2
 have hA := heap_alloc_new w (.cells #[.slice av T.vars.length cv, .slice an T.nodes.length cn, .slice ab T.body.length cb] 28)
 have hB : Below w.heap.size w (w.alloc (.cells #[.slice av T.vars.length cv, .slice an T.nodes.length cn, .slice ab T.body.length cb] 28)) := (Below.refl _ _).alloc (Nat.le_refl _) _
 generalize w.alloc (.cells #[.slice av T.vars.length cv, .slice an T.nodes.length cn, .slice ab T.body.length cb] 28) = W0 at *
 have HA : Hid (W0.heap[w.heap.size]? = some (.cells #[.slice av T.vars.length cv, .slice an T.nodes.length cn, .slice ab T.body.length cb] 28 (0, 0))) := hA
 have HB0 : Hid (Below w.heap.size w W0) := hB
 have hw0 : w.heap.size < W0.heap.size := (Array.getElem?_eq_some_iff.1 hA).1
 clear hA hB
 go_loopw [19] (fun i wr => ∃ k : Nat, k ≤ T.vars.length ∧ i = .int .i64 k ∧ varsB T.vars = varsB (T.vars.drop k) ∧ Below W0.heap.size W0 wr) (fun i _ => T.vars.length - (intOf i).toNat)
 case atStart => exact ⟨0, by omega, rfl, rfl, Below.refl _ _⟩
 case round =>
  obtain ⟨k, hk, rfl, hvb, hB⟩ := hrel
  have HVB : Hid (varsB T.vars = varsB (T.vars.drop k)) := hvb
  have HBW : Hid (Below W0.heap.size W0 wr) := hB
  have HB : Hid (Below w.heap.size w wr) := HB0.out.trans (hB.mono HB0.out.size)
  clear hvb
  by_cases hlt : k < T.vars.length
  ·obtain ⟨x, hx⟩ : ∃ x, T.vars[k]? = some x := ⟨T.vars[k], List.getElem?_eq_getElem hlt⟩
   obtain ⟨g, o, rfl, _, hc1⟩ := HV.out (by intro e; rw [e] at hlt; simp at hlt)
   obtain ⟨c0, c1, c2, c3⟩ := (hc1 k x hx).keep (lo := 0) (Keeps.of_below HB.out) (Nat.zero_le _)
   have hnl : x.name.length ≤ 1048576 := HS.out.names x (List.mem_of_getElem? hx)
   have HX : Hid (T.vars[k]? = some x) := hx
   clear hx hc1 hB
   go_wp2_with fail
   have hA := heap_alloc_new wr (.cells #[.string (bs x.name), .int .i64 x.kind, .int .i64 x.type, .int .i64 x.size] 45)
   have hB5 : Below wr.heap.size wr (wr.alloc (.cells #[.string (bs x.name), .int .i64 x.kind, .int .i64 x.type, .int .i64 x.size] 45)) := (Below.refl _ _).alloc (Nat.le_refl _) _
   generalize wr.alloc (.cells #[.string (bs x.name), .int .i64 x.kind, .int .i64 x.type, .int .i64 x.size] 45) = W5 at *
   refine (iIsName_any x.name _ (by omega)).mono ?_
   rintro e w6 ⟨rfl, rfl⟩
   have HB6 : Hid (Below W0.heap.size W0 w6) := HBW.out.trans (hB5.mono HBW.out.size)
   have HB7 : Hid (Below w.heap.size w w6) := HB0.out.trans (HB6.out.mono HB0.out.size)
   obtain ⟨-, d1, d2, d3⟩ := cl4 hA
   clear hA hB5 c0 c1 c2 c3
   have HVX : Hid (varB x = if isNameL x.name then (if inB x.kind 1 3 && inB x.type 1 2 && inB x.size 0 8 then 0 else 3) else 5) := rfl
   generalize isNameL x.name = qn at *
   have HBAD : Hid (varB x ≠ 0 → F = varB x) := fun hne => by
    rw [HF.out, HVB.out, varsB_hit HX.out hne, if_pos hne]
   have HGOOD : Hid (varB x = 0 → varsB T.vars = varsB (T.vars.drop (k + 1))) := fun he => by
    rw [HVB.out, varsB_miss HX.out he]
   cases qn with
   | false =>
    have HE : Hid (F = 5) := by
     have h5 : varB x = 5 := by rw [HVX.out]; rfl
     have := HBAD.out (by rw [h5]; decide)
     unfold Hid; rw [this, h5]
    go_wp2_with fail
    go_ret
    exact ⟨by rw [HE.out]; rfl, HB7.out⟩
   | true =>
    go_wp2_with fail
    refine (within_any x.kind 1 3 _).mono ?_
    rintro e w7 ⟨rfl, rfl⟩
    generalize inB x.kind 1 3 = q1 at *
    cases q1 with
    | false =>
     have HE : Hid (F = 3) := by
      have h5 : varB x = 3 := by rw [HVX.out]; rfl
      have := HBAD.out (by rw [h5]; decide)
      unfold Hid; rw [this, h5]
     go_wp2_with fail
     go_ret
     exact ⟨by rw [HE.out]; rfl, HB7.out⟩
    | true =>
     go_wp2_with fail
     refine (within_any x.type 1 2 _).mono ?_
     rintro e w7 ⟨rfl, rfl⟩
     generalize inB x.type 1 2 = q2 at *
     cases q2 with
     | false =>
      have HE : Hid (F = 3) := by
       have h5 : varB x = 3 := by rw [HVX.out]; rfl
       have := HBAD.out (by rw [h5]; decide)
       unfold Hid; rw [this, h5]
      go_wp2_with fail
      go_ret
      exact ⟨by rw [HE.out]; rfl, HB7.out⟩
     | true =>
      go_wp2_with fail
      refine (within_any x.size 0 8 _).mono ?_
      rintro e w7 ⟨rfl, rfl⟩
      generalize inB x.size 0 8 = q3 at *
      cases q3 with
      | false =>
       have HE : Hid (F = 3) := by
        have h5 : varB x = 3 := by rw [HVX.out]; rfl
        have := HBAD.out (by rw [h5]; decide)
        unfold Hid; rw [this, h5]
       go_wp2_with fail
       go_ret
       exact ⟨by rw [HE.out]; rfl, HB7.out⟩
      | true =>
       have HNX : Hid (varsB T.vars = varsB (T.vars.drop (k + 1))) := HGOOD.out (by rw [HVX.out]; rfl)
       go_wp2_with fail
       go_roundw
       case rel => exact ⟨k + 1, by omega, by go_num, HNX.out, HB6.out⟩
       case measure => simp [intOf]; omega
  ·have hke : k = T.vars.length := by omega
   have hz : varsB T.vars = 0 := by rw [HVB.out, hke, List.drop_length]; rfl
   have HF2 : Hid (F = if rightsB T.nodes = false then 1 else if refsB T.nodes T.nodes.length T.body false = false then 1 else if (countsL T).all (fun c => decide (c = 1)) = false then 1 else if (depthsF T.nodes T.nodes.length).all (fun d => decide (d ≤ 20)) = false then 9 else 0) := by
    unfold Hid; rw [HF.out, if_neg (by simp [hz])]
   have q1 : wr.cell? ⟨w.heap.size, 1, none⟩ = some (.slice an T.nodes.length cn) := (hB.cell (p := ⟨w.heap.size, 1, none⟩) hw0).trans (cell_of_row _ _ 1 _ _ _ HA.out)
   clear HF HVB hz hke HB hB
   generalize hwq : wr = w1 at *
   clear hwq
   go_wp2
   clear q1
   go_loopw [47] (fun i wr => ∃ m : Nat, m ≤ T.nodes.length ∧ i = .int .i64 m ∧ (∀ j, j < m → rightB T.nodes j = true) ∧ Below W0.heap.size W0 wr) (fun i _ => T.nodes.length - (intOf i).toNat)
   case atStart => exact ⟨0, by omega, rfl, by omega, HBW.out⟩
   case round =>
    obtain ⟨m, hm, rfl, hall, hB⟩ := hrel
    have HALL : Hid (∀ j, j < m → rightB T.nodes j = true) := hall
    have HB2 : Hid (Below W0.heap.size W0 wr) := hB
    have HB3 : Hid (Below w.heap.size w wr) := HB0.out.trans (hB.mono HB0.out.size)
    have q0 : wr.cell? ⟨w.heap.size, 0, none⟩ = some (.slice av T.vars.length cv) := (hB.cell (p := ⟨w.heap.size, 0, none⟩) hw0).trans (cell_of_row _ _ 0 _ _ _ HA.out)
    have q1 : wr.cell? ⟨w.heap.size, 1, none⟩ = some (.slice an T.nodes.length cn) := (hB.cell (p := ⟨w.heap.size, 1, none⟩) hw0).trans (cell_of_row _ _ 1 _ _ _ HA.out)
    have q2 : wr.cell? ⟨w.heap.size, 2, none⟩ = some (.slice ab T.body.length cb) := (hB.cell (p := ⟨w.heap.size, 2, none⟩) hw0).trans (cell_of_row _ _ 2 _ _ _ HA.out)
    have hwr : w.heap.size < wr.heap.size := Nat.lt_of_lt_of_le hw0 hB.size
    clear hall hB
    by_cases hlt2 : m < T.nodes.length
    ·obtain ⟨y, hy⟩ : ∃ y, T.nodes[m]? = some y := ⟨T.nodes[m], List.getElem?_eq_getElem hlt2⟩
     obtain ⟨g2, o2, rfl, _, hc2⟩ := HN.out (by intro e; rw [e] at hlt2; simp at hlt2)
     obtain ⟨vk, vt, ve, hcs, hvs⟩ := hc2 m y hy
     obtain ⟨d0, d1, d2, d3, d4, d5, d6, d7⟩ := hcs.keep (lo := 0) (fun g _ hg => HB3.out.block g hg) (Nat.zero_le _)
     have hgw2 : g2 < w.heap.size := World.block_lt_of_cell? _ _ hcs.c0
     obtain ⟨ak, ck, rfl, _⟩ := id hvs.kids
     obtain ⟨at2, ct, rfl, _⟩ := id hvs.thn
     obtain ⟨ae, ce, rfl, _⟩ := id hvs.els
     have hsz := HS.out.node y (List.mem_of_getElem? hy)
     have hgd : T.nodes.getD m default = y := by rw [List.getD_eq_getElem?_getD, hy]; rfl
     have HRB : Hid (rightB T.nodes m = (ownB y && partsB T.nodes m y)) := by unfold Hid; rw [right_parts (kinds_of_rights HALL.out), hgd]
     have HSH : Hid (∀ W, Calls Tryz.prog 85 #[nodeV y (.slice ak y.kids.length ck) (.slice at2 y.thn.length ct) (.slice ae y.els.length ce)] W fun e w' => e = .returned (.bool (ownB y)) ∧ Below W.heap.size W w') := fun W => hasShape_any y ak at2 ae ck ct ce W hsz.1 hsz.2.1 hsz.2.2.1 hsz.2.2.2
     have HPT : Hid (∀ W, Below w.heap.size w W → Calls Tryz.prog 86 #[.slice (some ⟨g2, o2, none⟩) m cn, nodeV y (.slice ak y.kids.length ck) (.slice at2 y.thn.length ct) (.slice ae y.els.length ce)] W fun e w' => e = .returned (.bool (partsB T.nodes m y)) ∧ Below W.heap.size W w') := fun W hb => by
      have hN := HT.out.nodes.below hb
      have hv := hvs.below hb
      exact hasParts_any T.nodes m _ cn y _ _ _ W (by omega) (by omega) (kinds_of_nodes hN m (by omega)) hv.kids.toB hv.thn.toB hv.els.toB hsz.2.1 hsz.2.2.1 hsz.2.2.2
     have hsl : ∀ W, (Instr.slice 25 (.slice (some ⟨g2, o2, none⟩) T.nodes.length cn) none (some (.int .i64 (m : Int))) none).run Tryz.prog W = .ok (.slice (some ⟨g2, o2, none⟩) m cn) W := slice_preN g2 o2 m T.nodes.length cn (by omega) hcn
     have hm0 : (0 : Int) ≤ (m : Int) := by omega
     have hm1 : (m : Int) < (T.nodes.length : Int) := by omega
     have hg2r : g2 < wr.heap.size := Nat.lt_of_lt_of_le hgw2 HB3.out.size
     have HQ1 : Hid (wr.cell? ⟨w.heap.size, 1, none⟩ = some (.slice (some ⟨g2, o2, none⟩) T.nodes.length cn)) := q1
     have HD0 := d0
     have HDC : Hid (NodeCells wr g2 (o2 + m * 8) y (.slice ak y.kids.length ck) (.slice at2 y.thn.length ct) (.slice ae y.els.length ce)) := ⟨d0, d1, d2, d3, d4, d5, d6, d7⟩
     obtain ⟨qo, hqo⟩ : ∃ q, ownB y = q := ⟨_, rfl⟩
     obtain ⟨qp, hqp⟩ : ∃ q, partsB T.nodes m y = q := ⟨_, rfl⟩
     rw [hqo] at HSH HRB
     rw [hqp] at HPT HRB
     clear hy hc2 hcs hvs hgd hsz HD0 hqo hqp q0 q2
     cases qo with
     | false =>
      have HE : Hid (F = 1) := by
       unfold Hid; rw [HF2.out, if_pos]
       exact List.all_eq_false.2 ⟨m, List.mem_range.2 hlt2, by rw [HRB.out]; simp⟩
      go_wp2_with fail
      have HCL : Hid (∀ W, Below wr.heap.size wr W → W.cell? ⟨w.heap.size, 1, none⟩ = some (.slice (some ⟨g2, o2, none⟩) T.nodes.length cn) ∧ NodeCells W g2 (o2 + m * 8) y (.slice ak y.kids.length ck) (.slice at2 y.thn.length ct) (.slice ae y.els.length ce)) := fun W hD =>
       ⟨(hD.cell (p := ⟨w.heap.size, 1, none⟩) hwr).trans HQ1.out, HDC.out.keep (lo := 0) (fun g _ hg => hD.block g hg) (Nat.zero_le _)⟩
      refine wp_region_quiet (C := fun W => Below wr.heap.size wr W) (by kernel_rfl) (by kernel_rfl) ((Below.refl wr.heap.size wr).drew) ?_
      clear d0 d1 d2 d3 d4 d5 d6 d7 q1
      refine wpQuiet_step (fun K hK => ?_)
      go_simp
      refine ⟨_, fun _ _ => rfl, hK _ ?_⟩
      clear hK K
      refine wpQuiet_step (fun K hK => ?_)
      go_simp
      refine ⟨.slice (some ⟨g2, o2, none⟩) T.nodes.length cn, fun W hD => ?_, hK _ ?_⟩
      ·obtain ⟨c1, hc⟩ := HCL.out W hD
       go_simp
      clear hK K
      refine wpQuiet_step (fun K hK => ?_)
      go_simp
      refine ⟨_, fun _ _ => rfl, hK _ ?_⟩
      clear hK K
      refine wpQuiet_step (fun K hK => ?_)
      go_simp
      refine ⟨_, fun _ _ => rfl, hK _ ?_⟩
      clear hK K
      refine wpQuiet_step (fun K hK => ?_)
      go_simp
      refine ⟨nodeV y (.slice ak y.kids.length ck) (.slice at2 y.thn.length ct) (.slice ae y.els.length ce), fun W hD => ?_, hK _ ?_⟩
      ·obtain ⟨c1, hc⟩ := HCL.out W hD
       obtain ⟨e0, e1, e2, e3, e4, e5, e6, e7⟩ := hc
       go_simp
      clear hK K
      refine wpQuiet_step (fun K hK => ?_)
      go_simp
      refine ⟨.bool false, fun W hD => (HSH.out W).mono (fun e w' h => ⟨h.1, hD.trans (Below.mono h.2 hD.size)⟩), hK _ ?_⟩
      clear hK K
      refine wpQuiet_step (fun K hK => ?_)
      go_simp
      refine ⟨.bool true, fun _ _ => rfl, ?_⟩
      apply hK
      clear hK K
      refine wpQuiet_step (fun K hK => ?_)
      go_simp
      refine ⟨.bool true, fun _ _ => rfl, ?_⟩
      apply hK
      clear hK K
      repeat go_big_quiet_skip
      refine wpQuiet_step (fun K hK => ?_)
      go_simp
      refine ⟨.bool true, fun _ _ => rfl, ?_⟩
      apply hK
      clear hK K
      refine wpQuiet_nil ?_
      intro w5 hD
      have HB4 : Hid (Below w.heap.size w w5) := HB3.out.trans (Below.mono hD HB3.out.size)
      clear hD
      go_wp2_with fail
      go_ret
      exact ⟨by rw [HE.out]; rfl, HB4.out⟩
     | true =>
      have HRQ : Hid (rightB T.nodes m = qp) := by unfold Hid; rw [HRB.out]; simp
      clear HRB
      cases qp with
      | false =>
       have HE : Hid (F = 1) := by
        unfold Hid; rw [HF2.out, if_pos]
        exact List.all_eq_false.2 ⟨m, List.mem_range.2 hlt2, by rw [HRQ.out]; simp⟩
       go_wp2_with fail
       go_region_held3 (fun W => W.cell? ⟨w.heap.size, 1, none⟩ = some (.slice (some ⟨g2, o2, none⟩) T.nodes.length cn) ∧ (W.cell? ⟨g2, o2 + m * 8, none⟩ = some (.int .i64 y.kind) ∧ W.cell? ⟨g2, o2 + m * 8 + 1, none⟩ = some (.int .i64 y.op) ∧ W.cell? ⟨g2, o2 + m * 8 + 2, none⟩ = some (.string (bs y.name)) ∧ W.cell? ⟨g2, o2 + m * 8 + 3, none⟩ = some (.int .i64 y.num) ∧ W.cell? ⟨g2, o2 + m * 8 + 4, none⟩ = some (.int .i64 y.far) ∧ W.cell? ⟨g2, o2 + m * 8 + 5, none⟩ = some (.slice ak y.kids.length ck) ∧ W.cell? ⟨g2, o2 + m * 8 + 6, none⟩ = some (.slice at2 y.thn.length ct) ∧ W.cell? ⟨g2, o2 + m * 8 + 7, none⟩ = some (.slice ae y.els.length ce))) (go_keep) (first | (go_at_call 85; refine (HSH.out _).mono ?_; rintro e w2 ⟨rfl, hb⟩; have hD : Below wr.heap.size wr w2 := ((Below.refl wr.heap.size wr).drew).trans (Below.mono hb (Nat.le_refl _)); have q1' := (hD.cell (p := ⟨w.heap.size, 1, none⟩) hwr).trans HQ1.out; obtain ⟨e0, e1, e2, e3, e4, e5, e6, e7⟩ := HDC.out.keep (lo := 0) (w' := w2) (fun g _ hg => hD.block g hg) (Nat.zero_le _); have HB4 : Hid (Below w.heap.size w w2) := HB3.out.trans (hD.mono HB3.out.size); have HC4 : Hid (Below W0.heap.size W0 w2) := HB2.out.trans (hD.mono HB2.out.size); clear hb hD) | (go_at_call 86; refine (HPT.out _ (by exact HB4.out)).mono ?_; rintro e w5 ⟨rfl, hb⟩; have HC5 : Hid (Below W0.heap.size W0 w5) := HC4.out.trans (hb.mono HC4.out.size); have e9 := (hb.cell (p := ⟨w.heap.size, 1, none⟩) (Nat.lt_of_lt_of_le hw0 HC4.out.size)).trans q1'; obtain ⟨f0, f1, f2, f3, f4, f5, f6, f7⟩ := NodeCells.keep (lo := 0) (w' := w5) (⟨e0, e1, e2, e3, e4, e5, e6, e7⟩ : NodeCells w2 g2 (o2 + m * 8) y (.slice ak y.kids.length ck) (.slice at2 y.thn.length ct) (.slice ae y.els.length ce)) (fun g _ hg => hb.block g hg) (Nat.zero_le _); have HB5 : Hid (Below w.heap.size w w5) := HB4.out.trans (hb.mono HB4.out.size); clear hb))
       go_wp2_with fail
       go_ret
       exact ⟨by rw [HE.out]; rfl, HB5.out⟩
      | true =>
       go_wp2_with fail
       go_region_held3 (fun W => W.cell? ⟨w.heap.size, 1, none⟩ = some (.slice (some ⟨g2, o2, none⟩) T.nodes.length cn) ∧ (W.cell? ⟨g2, o2 + m * 8, none⟩ = some (.int .i64 y.kind) ∧ W.cell? ⟨g2, o2 + m * 8 + 1, none⟩ = some (.int .i64 y.op) ∧ W.cell? ⟨g2, o2 + m * 8 + 2, none⟩ = some (.string (bs y.name)) ∧ W.cell? ⟨g2, o2 + m * 8 + 3, none⟩ = some (.int .i64 y.num) ∧ W.cell? ⟨g2, o2 + m * 8 + 4, none⟩ = some (.int .i64 y.far) ∧ W.cell? ⟨g2, o2 + m * 8 + 5, none⟩ = some (.slice ak y.kids.length ck) ∧ W.cell? ⟨g2, o2 + m * 8 + 6, none⟩ = some (.slice at2 y.thn.length ct) ∧ W.cell? ⟨g2, o2 + m * 8 + 7, none⟩ = some (.slice ae y.els.length ce))) (go_keep) (first | (go_at_call 85; refine (HSH.out _).mono ?_; rintro e w2 ⟨rfl, hb⟩; have hD : Below wr.heap.size wr w2 := ((Below.refl wr.heap.size wr).drew).trans (Below.mono hb (Nat.le_refl _)); have q1' := (hD.cell (p := ⟨w.heap.size, 1, none⟩) hwr).trans HQ1.out; obtain ⟨e0, e1, e2, e3, e4, e5, e6, e7⟩ := HDC.out.keep (lo := 0) (w' := w2) (fun g _ hg => hD.block g hg) (Nat.zero_le _); have HB4 : Hid (Below w.heap.size w w2) := HB3.out.trans (hD.mono HB3.out.size); have HC4 : Hid (Below W0.heap.size W0 w2) := HB2.out.trans (hD.mono HB2.out.size); clear hb hD) | (go_at_call 86; refine (HPT.out _ (by exact HB4.out)).mono ?_; rintro e w5 ⟨rfl, hb⟩; have HC5 : Hid (Below W0.heap.size W0 w5) := HC4.out.trans (hb.mono HC4.out.size); have e9 := (hb.cell (p := ⟨w.heap.size, 1, none⟩) (Nat.lt_of_lt_of_le hw0 HC4.out.size)).trans q1'; obtain ⟨f0, f1, f2, f3, f4, f5, f6, f7⟩ := NodeCells.keep (lo := 0) (w' := w5) (⟨e0, e1, e2, e3, e4, e5, e6, e7⟩ : NodeCells w2 g2 (o2 + m * 8) y (.slice ak y.kids.length ck) (.slice at2 y.thn.length ct) (.slice ae y.els.length ce)) (fun g _ hg => hb.block g hg) (Nat.zero_le _); have HB5 : Hid (Below w.heap.size w w5) := HB4.out.trans (hb.mono HB4.out.size); clear hb))
       go_wp2_with fail
       go_roundw
       case rel => exact ⟨m + 1, by omega, by go_num, fun j hj => by
         rcases Nat.lt_succ_iff_lt_or_eq.1 hj with h | rfl
         ·exact HALL.out j h
         ·exact HRQ.out, HC5.out⟩
       case measure => simp [intOf]; omega
    ·have hme : m = T.nodes.length := by omega
     subst hme
     have hrt : rightsB T.nodes = true := List.all_eq_true.2 (fun j hj => HALL.out j (by have := List.mem_range.1 hj; omega))
     have HRT : Hid (rightsB T.nodes = true) := hrt
     have HF3 : Hid (F = if refsB T.nodes T.nodes.length T.body false = false then 1 else if (countsL T).all (fun c => decide (c = 1)) = false then 1 else if (depthsF T.nodes T.nodes.length).all (fun d => decide (d ≤ 20)) = false then 9 else 0) := by
      unfold Hid; rw [HF2.out, if_neg (by simp [hrt])]
     have HST : Hid (Calls Tryz.prog 87 #[.slice an T.nodes.length cn, .slice ab T.body.length cb] wr fun e w' => e = .returned (.bool (refsB T.nodes T.nodes.length T.body false)) ∧ w' = wr) := by
      have hN := HT.out.nodes.below HB3.out
      have h := areStatements_any T.nodes T.nodes.length an cn _ T.body wr.heap.size wr (Nat.le_refl _) hln (kinds_of_nodes hN _ (Nat.le_refl _)) (HT.out.body.below HB3.out).toB HS.out.body
      rw [stat_refs (kinds_of_rights HALL.out)] at h
      exact h
     clear HF2 hrt HALL
     obtain ⟨q, hq⟩ : ∃ q, refsB T.nodes T.nodes.length T.body false = q := ⟨_, rfl⟩
     rw [hq] at HST HF3
     have HQ : Hid (refsB T.nodes T.nodes.length T.body false = q) := hq
     clear hq
     cases q with
     | false =>
      have HE : Hid (F = 1) := by unfold Hid; rw [HF3.out, if_pos rfl]
      go_wp2_with fail
      refine HST.out.mono ?_
      rintro e w5 ⟨rfl, rfl⟩
      go_wp2_with fail
      go_ret
      exact ⟨by rw [HE.out]; rfl, HB3.out⟩
     | true =>
      have HF4 : Hid (F = if (countsL T).all (fun c => decide (c = 1)) = false then 1 else if (depthsF T.nodes T.nodes.length).all (fun d => decide (d ≤ 20)) = false then 9 else 0) := by unfold Hid; rw [HF3.out, if_neg (by decide)]
      have HON : Hid (Calls Tryz.prog 88 #[treeV (.slice av T.vars.length cv) (.slice an T.nodes.length cn) (.slice ab T.body.length cb)] wr fun e w' => e = .returned (.bool ((countsL T).all (fun c => decide (c = 1)))) ∧ Below wr.heap.size wr w') :=
       eachOnce_any lo _ _ _ T wr (HT.out.below HB3.out) HS.out HN200.out (rights_in HRT.out) (refs_in HQ.out)
      obtain ⟨qc, hqc⟩ : ∃ q, (countsL T).all (fun c => decide (c = 1)) = q := ⟨_, rfl⟩
      rw [hqc] at HON HF4
      clear hqc HF3 HQ HRT
      go_wp2_with fail
      refine HST.out.mono ?_
      rintro e w5 ⟨rfl, rfl⟩
      go_wp2_with fail
      refine HON.out.mono ?_
      rintro e w6 ⟨rfl, hb⟩
      have HB6 : Hid (Below w.heap.size w w6) := HB3.out.trans (hb.mono HB3.out.size)
      have q1' := (hb.cell (p := ⟨w.heap.size, 1, none⟩) hwr).trans q1
      clear hb q0 q1 q2 HST HON
      cases qc with
      | false =>
       have HE : Hid (F = 1) := by unfold Hid; rw [HF4.out, if_pos rfl]
       go_wp2_with fail
       go_ret
       exact ⟨by rw [HE.out]; rfl, HB6.out⟩
      | true =>
       have HF5 : Hid (F = if (depthsF T.nodes T.nodes.length).all (fun d => decide (d ≤ 20)) = false then 9 else 0) := by unfold Hid; rw [HF4.out, if_neg (by decide)]
       have HDP : Hid (Calls Tryz.prog 89 #[.slice an T.nodes.length cn] w6 fun e w' => e = .returned (.int .i64 (maxL (depthsF T.nodes T.nodes.length))) ∧ Below w6.heap.size w6 w') :=
        deepest_any lo an cn T.nodes w6 (HT.out.nodes.below HB6.out) hln (fun n hn => (HS.out.node n hn).2)
       have HML := maxL_le (depthsF T.nodes T.nodes.length) 20 (by decide)
       have HML : Hid ((maxL (depthsF T.nodes T.nodes.length) ≤ 20) ↔ ∀ d ∈ depthsF T.nodes T.nodes.length, d ≤ 20) := HML
       generalize depthsF T.nodes T.nodes.length = ds at *
       generalize maxL ds = mx at *
       clear HF4
       go_wp2_with fail
       refine HDP.out.mono ?_
       rintro e w7 ⟨rfl, hb⟩
       have HB7 : Hid (Below w.heap.size w w7) := HB6.out.trans (hb.mono HB6.out.size)
       clear hb HDP q1'
       by_cases hmx : mx ≤ 20
       ·have HE : Hid (F = 0) := by
         unfold Hid; rw [HF5.out, if_neg]
         rw [Bool.not_eq_false]
         exact List.all_eq_true.2 (fun d hd => by simpa using HML.out.1 hmx d hd)
        have hne : decide (20 < mx) = false := decide_eq_false (by omega)
        clear HML HF5
        go_wp2_with fail
        go_ret
        exact ⟨by rw [HE.out]; rfl, HB7.out⟩
       ·have HE : Hid (F = 9) := by
         unfold Hid; rw [HF5.out, if_pos]
         cases hal : ds.all (fun d => decide (d ≤ 20)) with
         | false => rfl
         | true => exact absurd (HML.out.2 (fun d hd => by simpa using List.all_eq_true.1 hal d hd)) hmx
        have hne : decide (20 < mx) = true := decide_eq_true (by omega)
        clear HML HF5
        go_wp2_with fail
        go_ret
        exact ⟨by rw [HE.out]; rfl, HB7.out⟩
end Go.Proofs.YtcecfmdjicjngaaGreatDoor
