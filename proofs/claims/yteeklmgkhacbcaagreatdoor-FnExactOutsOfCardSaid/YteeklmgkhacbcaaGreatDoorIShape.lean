/-
  impl.shapeOf.
-/
import Derived.Test.YteeklmgkhacbcaaGreatDoorAsHit
import Derived.Test.YteeklmgkhacbcaaGreatDoorStr
import Derived.Test.YteeklmgkhacbcaaGreatDoorIDeep
import Derived.Test.YteeklmgkhacbcaaGreatDoorITruth
import Derived.Deep.WholeRow
namespace Go.Proofs.YteeklmgkhacbcaaGreatDoor
open Go.RowKit
set_option linter.unusedVariables false
def ErrT (w : World) : Prop := w.cell? ⟨0, 0, none⟩ = some (.iface 190 (.agg #[.pointer (some ⟨1, 125, none⟩)]))
theorem ErrT.below {w w' : World} {B : Nat} (h : ErrT w) (hb : Below B w w') (hB : 0 < B) : ErrT w' := (hb.cell (p := ⟨0, 0, none⟩) hB).trans h
theorem ErrT.lt {w : World} (h : ErrT w) : 0 < w.heap.size := World.block_lt_of_cell? _ _ h
theorem ErrT.kept {w w' : World} (h : ErrT w) (hb : Below w.heap.size w w') : ErrT w' := h.below hb h.lt
set_option maxHeartbeats 1600000 in
theorem misfit_nil (w : World) : Calls Tryz.prog 75 #[.nilIface] w fun e w' => e = .returned (.tuple #[.agg #[.int .i64 0, .int .i64 0], .bool false]) ∧ Below w.heap.size w w' := by
 go_enter Tryz.func75, Tryz.ntmps75
 go_wp2_with fail
 refine (as_nil _ _).mono ?_
 rintro e w2 ⟨rfl, rfl⟩
 go_wp2_with fail
 refine bodyPost_ret (v := .tuple #[.agg #[.int .i64 0, .int .i64 0], .bool false]) (by simp [results, Tryz.results75, go_sem]) rfl ⟨rfl, by go_grown⟩
set_option maxHeartbeats 1600000 in
theorem misfit_hit (c n : Int) (w : World) (hE : ErrT w) : Calls Tryz.prog 75 #[.iface 121 (.agg #[.int .i64 c, .int .i64 n])] w fun e w' => e = .returned (.tuple #[.agg #[.int .i64 c, .int .i64 n], .bool true]) ∧ Below w.heap.size w w' := by
 have hb : Below w.heap.size w (w.alloc (.cells #[.int .i64 0, .int .i64 0] 121)) := (Below.refl _ _).alloc (Nat.le_refl _) _
 have HG : Hid (ErrT (w.alloc (.cells #[.int .i64 0, .int .i64 0] 121))) := hE.kept hb
 have HT : Hid ((w.alloc (.cells #[.int .i64 0, .int .i64 0] 121)).heap[w.heap.size]? = some (.cells #[.int .i64 0, .int .i64 0] 121 (0, 0))) := heap_alloc_new _ _
 have HB := hid hb
 have HC : Hid (Calls Tryz.prog 102 #[.iface 121 (.agg #[.int .i64 c, .int .i64 n]), .iface 147 (.pointer (some ⟨w.heap.size, 0, none⟩))] (w.alloc (.cells #[.int .i64 0, .int .i64 0] 121)) fun ev w' => ev = .returned (.bool true) ∧ w'.heap[w.heap.size]? = some (.cells #[.int .i64 c, .int .i64 n] 121 (0, 0)) ∧ Below w.heap.size w w') :=
  (as_world c n 0 0 w.heap.size _ HG.out HT.out).mono (fun e w' h => by
   obtain ⟨rfl, rfl⟩ := h
   refine ⟨rfl, ?_, ?_⟩
   ·have e4 : ∀ (A B C D : Obj), ((((((w.alloc (.cells #[.int .i64 0, .int .i64 0] 121)).alloc A).alloc B).alloc C).alloc D)).heap[w.heap.size]? = some (.cells #[.int .i64 0, .int .i64 0] 121 (0, 0)) := fun A B C D => by
     have g1 := (Below.refl (w.heap.size + 1) (w.alloc (.cells #[.int .i64 0, .int .i64 0] 121))).alloc (by simp) A
     have g2 := g1.alloc (by simp) B
     have g3 := g2.alloc (by simp) C
     have g4 := g3.alloc (by simp) D
     exact (g4.block w.heap.size (by omega)).trans HT.out
    rw [heap_setCell_same _ _ _ _ _ _ (heap_setCell_same _ _ _ _ _ _ (e4 _ _ _ _))]
    rfl
   ·have := HB.out.size
    go_grown)
 clear hb HG HT HB hE
 go_enter Tryz.func75, Tryz.ntmps75
 go_wp2_with fail
 refine HC.out.mono ?_
 rintro e w2 ⟨rfl, hh, hb2⟩
 obtain ⟨c0, c1⟩ := cl2 hh
 obtain ⟨f0, f1⟩ := fl2 hh
 clear hh HC
 go_wp2_with fail
 refine bodyPost_ret (v := .tuple #[.agg #[.int .i64 c, .int .i64 n], .bool true]) (by simp [results, Tryz.results75, go_sem, c0, c1]) rfl ⟨rfl, ?_⟩
 go_grown
attribute [local go_sem] bs_size bs_get bs_extract bs_append bs_eq bs_toList
def kindAt (N : List LNode) (x : Int) : Int := (N.getD x.toNat default).kind
def statB (N : List LNode) (m : Nat) (l : List Int) : Bool := l.all (fun x => inB x 0 ((m : Int) - 1) && inB (kindAt N x) 7 11)
def kidsB (N : List LNode) (m : Nat) (l : List Int) : Bool := l.all (fun x => inB x 0 ((m : Int) - 1) && inB (kindAt N x) 1 6)
def Kinds (w : World) (a : Option Addr) (N : List LNode) (m : Nat) : Prop := 0 < m → ∃ b o, a = some ⟨b, o, none⟩ ∧ ∀ (i : Nat) (x : LNode), i < m → N[i]? = some x → w.cell? ⟨b, o + i * 8, none⟩ = some (.int .i64 x.kind)
set_option maxHeartbeats 3200000 in
set_option maxRecDepth 100000 in
theorem areStatements_any (N : List LNode) (m : Nat) (a2 : Option Addr) (c2 : Nat) (v : Value) (l : List Int) (hi : Nat) (w : World) (hm : m ≤ N.length) (hm1 : m ≤ 1048576) (hK : Kinds w a2 N m) (hv : IntsB hi w v l) (hl : l.length ≤ 1048576) :
  Calls Tryz.prog 99 #[.slice a2 m c2, v] w fun e w' => e = .returned (.bool (statB N m l)) ∧ w' = w := by
 obtain ⟨a, cp, rfl, hh⟩ := hv
 have HH := hid hh
 have HK := hid hK
 have HP : Hid (∀ (z : Int) (w : World), Calls Tryz.prog 123 #[.slice a2 m c2, .int .i64 z] w fun e w' => e = .returned (.bool (inB z 0 ((m : Int) - 1))) ∧ w' = w) := fun z w => isPlace_any a2 m c2 z w (by omega)
 have HX : Hid (∀ (z : Int) (w : World), Calls Tryz.prog 124 #[.int .i64 z] w fun e w' => e = .returned (.bool (inB z 7 11)) ∧ w' = w) := isStatement_any
 have HM : Hid (m ≤ N.length) := hm
 clear hh hK hm
 go_enter Tryz.func99, Tryz.ntmps99
 go_wp2
 go_loopw [9] (fun i wr => ∃ k : Nat, k ≤ l.length ∧ i = .int .i64 k ∧ (∀ j x, j < k → l[j]? = some x → (inB x 0 ((m : Int) - 1) && inB (kindAt N x) 7 11) = true) ∧ SameW wr w) (fun i _ => l.length - (intOf i).toNat)
 case atStart => exact ⟨0, by omega, rfl, by omega, rfl⟩
 case round =>
  obtain ⟨k, hk, rfl, hall, hw⟩ := hrel
  have HALL := hid hall
  have HW : Hid (SameW wr w) := hw
  clear hall
  by_cases hlt : k < l.length
  ·obtain ⟨x, hx⟩ : ∃ x, l[k]? = some x := ⟨l[k], List.getElem?_eq_getElem hlt⟩
   obtain ⟨b, o, rfl, _, hc1⟩ := HH.out (by intro e; rw [e] at hlt; simp at hlt)
   have c0 : wr.cell? ⟨b, o + k, none⟩ = _ := (congrArg (fun W => World.cell? W ⟨b, o + k, none⟩) hw).trans (hc1 k x hx)
   have hk0 : (0 : Int) ≤ (k : Int) := by omega
   have hk1 : (k : Int) < (l.length : Int) := by omega
   have HL : Hid (l[k]? = some x) := hx
   clear hx hc1
   obtain ⟨q, hq⟩ : ∃ q, inB x 0 ((m : Int) - 1) = q := ⟨_, rfl⟩
   cases q with
   | false =>
    have hI : Hid (∀ w, Calls Tryz.prog 123 #[.slice a2 m c2, .int .i64 x] w fun e w' => e = .returned (.bool false) ∧ w' = w) := fun w => by have h := HP.out x w; rwa [hq] at h
    have e : statB N m l = false := List.all_eq_false.2 ⟨x, List.mem_of_getElem? HL.out, by simp [hq]⟩
    have He : Hid _ := e
    clear e hq hw
    go_wp2_with fail
    refine (hI.out _).mono ?_
    rintro e w1 ⟨rfl, rfl⟩
    go_wp2_with fail
    go_ret
    exact ⟨by rw [He.out]; rfl, HW.out⟩
   | true =>
    have hq2 := inB_iff.1 hq
    obtain ⟨j, rfl⟩ : ∃ j : Nat, x = j := ⟨x.toNat, by omega⟩
    have hjm : j < m := by omega
    obtain ⟨y, hy⟩ : ∃ y, N[j]? = some y := ⟨N[j]'(by have := HM.out; omega), List.getElem?_eq_getElem _⟩
    obtain ⟨g2, o2, rfl, hc2⟩ := HK.out (by omega)
    have d0 : wr.cell? ⟨g2, o2 + j * 8, none⟩ = _ := (congrArg (fun W => World.cell? W ⟨g2, o2 + j * 8, none⟩) hw).trans (hc2 j y hjm hy)
    have hkd : kindAt N (j : Int) = y.kind := by
     have : N.getD ((j : Int)).toNat default = y := by simp [hy]
     unfold kindAt; rw [this]
    have HR : Hid ((inB (j : Int) 0 ((m : Int) - 1) && inB (kindAt N (j : Int)) 7 11) = inB y.kind 7 11) := by unfold Hid; rw [hq, hkd]; rfl
    have hj0 : (0 : Int) ≤ (j : Int) := by omega
    have hj1 : (j : Int) < (m : Int) := by omega
    have hI : Hid (∀ w, Calls Tryz.prog 123 #[.slice (some ⟨g2, o2, none⟩) m c2, .int .i64 (j : Int)] w fun e w' => e = .returned (.bool true) ∧ w' = w) := fun w => by have h := HP.out (j : Int) w; rwa [hq] at h
    clear hq hq2 hy hc2 hkd hw
    obtain ⟨qe, hqe⟩ : ∃ q, inB y.kind 7 11 = q := ⟨_, rfl⟩
    have hE : Hid (∀ w, Calls Tryz.prog 124 #[.int .i64 y.kind] w fun e w' => e = .returned (.bool qe) ∧ w' = w) := fun w => by have h := HX.out y.kind w; rwa [hqe] at h
    cases qe
    ·have e : statB N m l = false := List.all_eq_false.2 ⟨(j : Int), List.mem_of_getElem? HL.out, by rw [HR.out, hqe]; decide⟩
     have He : Hid _ := e
     clear e
     go_wp2_with fail
     refine (hI.out _).mono ?_
     rintro e w1 ⟨rfl, rfl⟩
     go_wp2_with fail
     refine (hE.out _).mono ?_
     rintro e w1 ⟨rfl, rfl⟩
     go_wp2_with fail
     go_ret
     exact ⟨by rw [He.out]; rfl, HW.out⟩
    ·go_wp2_with fail
     refine (hI.out _).mono ?_
     rintro e w1 ⟨rfl, rfl⟩
     go_wp2_with fail
     refine (hE.out _).mono ?_
     rintro e w1 ⟨rfl, rfl⟩
     go_wp2_with fail
     go_roundw
     case rel => exact ⟨k + 1, by omega, by go_num, fun i x hi hx => by
       rcases Nat.lt_succ_iff_lt_or_eq.1 hi with h | rfl
       ·exact HALL.out i x h hx
       ·have := hx.symm.trans HL.out
        cases this
        rw [HR.out, hqe], HW.out⟩
     case measure => simp [intOf]; omega
  ·have hke : k = l.length := by omega
   have e : statB N m l = true := List.all_eq_true.2 (fun x hx => by
    obtain ⟨j, hj, rfl⟩ := List.getElem_of_mem hx
    exact HALL.out j _ (by omega) (List.getElem?_eq_getElem hj))
   have He : Hid _ := e
   clear e hke hw
   go_wp2
   go_ret
   exact ⟨by rw [He.out]; rfl, HW.out⟩
theorem wpList_build {P : Program} (w : World) {ops : Array Oper} {rest : List Oper} {o : Oper} {a : Act} {Q : Exit → Act → World → Prop}
  (hg : o.guard = none) (t : TypeId) (parts : Array (Nat × Operand)) (hop : o.op = Op.build t parts) (V : Value) (args : Array (Nat × Value)) (hargs : parts.map (fun (i, x) => (i, a.eval x)) = args)
  (hrun : (Instr.build t args).run P w = .ok V w) (hK : wpList P ops Q rest (a.put o.dst V) w) : wpList P ops Q (o :: rest) a w := by
 refine wpList_plain hg fun K hK' => ?_
 unfold Oper.wp
 simp [execOp, hop, hargs, hrun, Result.andThen]
 exact hK' _ _ hK
abbrev shapeV (mo : Int) (nm nu fa : Bool) (le mt : Int) (th el : Bool) : Value := .agg #[.int .i64 mo, .bool nm, .bool nu, .bool fa, .int .i64 le, .int .i64 mt, .bool th, .bool el]
abbrev Shape (k : Int) (v : Value) : Prop := ∀ w : World, Calls Tryz.prog 121 #[.int .i64 k] w fun e w' => e = .returned v ∧ Below w.heap.size w w'
abbrev zerosA : Array Value := #[.int .i64 0, .bool false, .bool false, .bool false, .int .i64 0, .int .i64 0, .bool false, .bool false, .int .i64 0, .bool false, .bool false, .bool false, .int .i64 0, .int .i64 0, .bool false, .bool false, .int .i64 0, .bool false, .bool false, .bool false, .int .i64 0, .int .i64 0, .bool false, .bool false, .int .i64 0, .bool false, .bool false, .bool false, .int .i64 0, .int .i64 0, .bool false, .bool false, .int .i64 0, .bool false, .bool false, .bool false, .int .i64 0, .int .i64 0, .bool false, .bool false, .int .i64 0, .bool false, .bool false, .bool false, .int .i64 0, .int .i64 0, .bool false, .bool false, .int .i64 0, .bool false, .bool false, .bool false, .int .i64 0, .int .i64 0, .bool false, .bool false, .int .i64 0, .bool false, .bool false, .bool false, .int .i64 0, .int .i64 0, .bool false, .bool false, .int .i64 0, .bool false, .bool false, .bool false, .int .i64 0, .int .i64 0, .bool false, .bool false, .int .i64 0, .bool false, .bool false, .bool false, .int .i64 0, .int .i64 0, .bool false, .bool false, .int .i64 0, .bool false, .bool false, .bool false, .int .i64 0, .int .i64 0, .bool false, .bool false, .int .i64 0, .bool false, .bool false, .bool false, .int .i64 0, .int .i64 0, .bool false, .bool false]
abbrev shapesA : Array Value := #[.int .i64 0, .bool false, .bool false, .bool false, .int .i64 0, .int .i64 0, .bool false, .bool false, .int .i64 0, .bool false, .bool true, .bool false, .int .i64 0, .int .i64 0, .bool false, .bool false, .int .i64 0, .bool true, .bool false, .bool false, .int .i64 0, .int .i64 0, .bool false, .bool false, .int .i64 0, .bool true, .bool false, .bool false, .int .i64 1, .int .i64 1, .bool false, .bool false, .int .i64 0, .bool false, .bool false, .bool false, .int .i64 1, .int .i64 1, .bool false, .bool false, .int .i64 0, .bool false, .bool false, .bool false, .int .i64 1, .int .i64 1, .bool false, .bool false, .int .i64 10, .bool false, .bool false, .bool false, .int .i64 2, .int .i64 2, .bool false, .bool false, .int .i64 0, .bool true, .bool false, .bool false, .int .i64 1, .int .i64 1, .bool false, .bool false, .int .i64 0, .bool true, .bool false, .bool false, .int .i64 2, .int .i64 2, .bool false, .bool false, .int .i64 0, .bool false, .bool false, .bool false, .int .i64 1, .int .i64 1, .bool true, .bool true, .int .i64 0, .bool true, .bool true, .bool true, .int .i64 0, .int .i64 0, .bool true, .bool false, .int .i64 4, .bool true, .bool false, .bool false, .int .i64 1, .int .i64 3, .bool false, .bool false]
theorem zero12 (W : World) : (zeroValue 188).run Tryz.prog W = .ok (.agg zerosA) W := by kernel_rfl
theorem build12 (W : World) : (Instr.build 188 #[(1, .agg #[.int .i64 0, .bool false, .bool true, .bool false, .int .i64 0, .int .i64 0, .bool false, .bool false]), (2, .agg #[.int .i64 0, .bool true, .bool false, .bool false, .int .i64 0, .int .i64 0, .bool false, .bool false]), (3, .agg #[.int .i64 0, .bool true, .bool false, .bool false, .int .i64 1, .int .i64 1, .bool false, .bool false]), (4, .agg #[.int .i64 0, .bool false, .bool false, .bool false, .int .i64 1, .int .i64 1, .bool false, .bool false]), (5, .agg #[.int .i64 0, .bool false, .bool false, .bool false, .int .i64 1, .int .i64 1, .bool false, .bool false]), (6, .agg #[.int .i64 10, .bool false, .bool false, .bool false, .int .i64 2, .int .i64 2, .bool false, .bool false]), (7, .agg #[.int .i64 0, .bool true, .bool false, .bool false, .int .i64 1, .int .i64 1, .bool false, .bool false]), (8, .agg #[.int .i64 0, .bool true, .bool false, .bool false, .int .i64 2, .int .i64 2, .bool false, .bool false]), (9, .agg #[.int .i64 0, .bool false, .bool false, .bool false, .int .i64 1, .int .i64 1, .bool true, .bool true]), (10, .agg #[.int .i64 0, .bool true, .bool true, .bool true, .int .i64 0, .int .i64 0, .bool true, .bool false]), (11, .agg #[.int .i64 4, .bool true, .bool false, .bool false, .int .i64 1, .int .i64 3, .bool false, .bool false])]).run Tryz.prog W = .ok (.agg shapesA) W := by kernel_rfl
theorem store12 (w : World) : (storeCells ⟨w.heap.size, 0, none⟩ shapesA.toList 0).run Tryz.prog (w.alloc (.cells zerosA 188)) = .ok () (w.alloc (.cells shapesA 188)) :=
 run_storeCells_new w 188 zerosA shapesA (by kernel_rfl) (by rfl) (by decide +kernel)
theorem store12' (w : World) (o : Obj) : (storeCells ⟨w.heap.size + 1, 0, none⟩ shapesA.toList 0).run Tryz.prog ((w.alloc o).alloc (.cells zerosA 188)) = .ok () ((w.alloc o).alloc (.cells shapesA 188)) := by
 have := store12 (w.alloc o)
 simpa using this
set_option maxHeartbeats 1600000 in
set_option maxRecDepth 100000 in
theorem shape_k (k : Nat) (v : Value) (hk0 : (0 : Int) ≤ (k : Int)) (hk1 : (k : Int) < 12) (mo : Int) (nm nu fa : Bool) (le mt : Int) (th el : Bool) (hv : ∀ j u, #[Value.int .i64 mo, .bool nm, .bool nu, .bool fa, .int .i64 le, .int .i64 mt, .bool th, .bool el][j]? = some u → shapesA[k * 8 + j]? = some u) :
  Shape k (shapeV mo nm nu fa le mt th el) := by
 intro w
 have hz := zero12
 have hb := build12
 have hst := store12'
 have hs : shapesA.size = 96 := rfl
 have hs0 : zerosA.size = 96 := rfl
 generalize shapesA = A at *
 generalize zerosA = Z at *
 have hc : ∀ j u, #[Value.int .i64 mo, .bool nm, .bool nu, .bool fa, .int .i64 le, .int .i64 mt, .bool th, .bool el][j]? = some u → ((w.alloc (.cells #[.int .i64 0, .bool false, .bool false, .bool false, .int .i64 0, .int .i64 0, .bool false, .bool false] 162)).alloc (.cells A 188)).cell? ⟨w.heap.size + 1, k * 8 + j, none⟩ = some u := fun j u hj => by
  have e := heap_alloc_new (w.alloc (.cells #[.int .i64 0, .bool false, .bool false, .bool false, .int .i64 0, .int .i64 0, .bool false, .bool false] 162)) (.cells A 188)
  rw [show (w.alloc (.cells #[.int .i64 0, .bool false, .bool false, .bool false, .int .i64 0, .int .i64 0, .bool false, .bool false] 162)).heap.size = w.heap.size + 1 from by simp] at e
  rw [cell_of_row _ _ _ _ _ _ e]
  exact hv j u hj
 have c0 := hc 0 _ rfl
 have c1 := hc 1 _ rfl
 have c2 := hc 2 _ rfl
 have c3 := hc 3 _ rfl
 have c4 := hc 4 _ rfl
 have c5 := hc 5 _ rfl
 have c6 := hc 6 _ rfl
 have c7 := hc 7 _ rfl
 clear hc hv
 simp only [Nat.add_zero] at c0
 go_enter Tryz.func121, Tryz.ntmps121
 go_wp2_with (show Go.wpList _ _ _ (Go.Oper.mk _ (Go.Op.build 188 _) _ _ _ _ :: _) _ _; refine wpList_build _ rfl 188 _ rfl (.agg A) _ (by simp [go_sem]) (hb _) ?_)
 have e1 := heap_alloc_new w (.cells #[.int .i64 mo, .bool nm, .bool nu, .bool fa, .int .i64 le, .int .i64 mt, .bool th, .bool el] 162)
 have e2 : ((w.alloc (.cells #[.int .i64 mo, .bool nm, .bool nu, .bool fa, .int .i64 le, .int .i64 mt, .bool th, .bool el] 162)).alloc (.cells A 188)).heap[w.heap.size]? = _ := (Below.heap_alloc _ _ _ (by simp)).trans e1
 have hB : Below w.heap.size w ((w.alloc (.cells #[.int .i64 mo, .bool nm, .bool nu, .bool fa, .int .i64 le, .int .i64 mt, .bool th, .bool el] 162)).alloc (.cells A 188)) := ((Below.refl _ _).alloc (Nat.le_refl _) _).alloc (by simp) _
 generalize ((w.alloc (.cells #[.int .i64 mo, .bool nm, .bool nu, .bool fa, .int .i64 le, .int .i64 mt, .bool th, .bool el] 162)).alloc (.cells A 188)) = W at *
 obtain ⟨r0, r1, r2, r3, r4, r5, r6, r7⟩ := cl8 e2
 refine bodyPost_ret (v := shapeV mo nm nu fa le mt th el) (by simp [results, Tryz.results121, go_sem, r0, r1, r2, r3, r4, r5, r6, r7]) rfl ⟨rfl, hB⟩
theorem sh1 : Shape 1 (shapeV 0 false true false 0 0 false false) := shape_k 1 (.bool false) (by omega) (by omega) 0 false true false 0 0 false false (fun j u h => by
 match j, h with
 | 0, h => exact h
 | 1, h => exact h
 | 2, h => exact h
 | 3, h => exact h
 | 4, h => exact h
 | 5, h => exact h
 | 6, h => exact h
 | 7, h => exact h
 | j + 8, h => simp at h)
theorem sh2 : Shape 2 (shapeV 0 true false false 0 0 false false) := shape_k 2 (.bool false) (by omega) (by omega) 0 true false false 0 0 false false (fun j u h => by
 match j, h with
 | 0, h => exact h
 | 1, h => exact h
 | 2, h => exact h
 | 3, h => exact h
 | 4, h => exact h
 | 5, h => exact h
 | 6, h => exact h
 | 7, h => exact h
 | j + 8, h => simp at h)
theorem sh3 : Shape 3 (shapeV 0 true false false 1 1 false false) := shape_k 3 (.bool false) (by omega) (by omega) 0 true false false 1 1 false false (fun j u h => by
 match j, h with
 | 0, h => exact h
 | 1, h => exact h
 | 2, h => exact h
 | 3, h => exact h
 | 4, h => exact h
 | 5, h => exact h
 | 6, h => exact h
 | 7, h => exact h
 | j + 8, h => simp at h)
theorem sh4 : Shape 4 (shapeV 0 false false false 1 1 false false) := shape_k 4 (.bool false) (by omega) (by omega) 0 false false false 1 1 false false (fun j u h => by
 match j, h with
 | 0, h => exact h
 | 1, h => exact h
 | 2, h => exact h
 | 3, h => exact h
 | 4, h => exact h
 | 5, h => exact h
 | 6, h => exact h
 | 7, h => exact h
 | j + 8, h => simp at h)
theorem sh5 : Shape 5 (shapeV 0 false false false 1 1 false false) := shape_k 5 (.bool false) (by omega) (by omega) 0 false false false 1 1 false false (fun j u h => by
 match j, h with
 | 0, h => exact h
 | 1, h => exact h
 | 2, h => exact h
 | 3, h => exact h
 | 4, h => exact h
 | 5, h => exact h
 | 6, h => exact h
 | 7, h => exact h
 | j + 8, h => simp at h)
theorem sh6 : Shape 6 (shapeV 10 false false false 2 2 false false) := shape_k 6 (.bool false) (by omega) (by omega) 10 false false false 2 2 false false (fun j u h => by
 match j, h with
 | 0, h => exact h
 | 1, h => exact h
 | 2, h => exact h
 | 3, h => exact h
 | 4, h => exact h
 | 5, h => exact h
 | 6, h => exact h
 | 7, h => exact h
 | j + 8, h => simp at h)
theorem sh7 : Shape 7 (shapeV 0 true false false 1 1 false false) := shape_k 7 (.bool false) (by omega) (by omega) 0 true false false 1 1 false false (fun j u h => by
 match j, h with
 | 0, h => exact h
 | 1, h => exact h
 | 2, h => exact h
 | 3, h => exact h
 | 4, h => exact h
 | 5, h => exact h
 | 6, h => exact h
 | 7, h => exact h
 | j + 8, h => simp at h)
theorem sh8 : Shape 8 (shapeV 0 true false false 2 2 false false) := shape_k 8 (.bool false) (by omega) (by omega) 0 true false false 2 2 false false (fun j u h => by
 match j, h with
 | 0, h => exact h
 | 1, h => exact h
 | 2, h => exact h
 | 3, h => exact h
 | 4, h => exact h
 | 5, h => exact h
 | 6, h => exact h
 | 7, h => exact h
 | j + 8, h => simp at h)
theorem sh9 : Shape 9 (shapeV 0 false false false 1 1 true true) := shape_k 9 (.bool false) (by omega) (by omega) 0 false false false 1 1 true true (fun j u h => by
 match j, h with
 | 0, h => exact h
 | 1, h => exact h
 | 2, h => exact h
 | 3, h => exact h
 | 4, h => exact h
 | 5, h => exact h
 | 6, h => exact h
 | 7, h => exact h
 | j + 8, h => simp at h)
theorem sh10 : Shape 10 (shapeV 0 true true true 0 0 true false) := shape_k 10 (.bool false) (by omega) (by omega) 0 true true true 0 0 true false (fun j u h => by
 match j, h with
 | 0, h => exact h
 | 1, h => exact h
 | 2, h => exact h
 | 3, h => exact h
 | 4, h => exact h
 | 5, h => exact h
 | 6, h => exact h
 | 7, h => exact h
 | j + 8, h => simp at h)
theorem sh11 : Shape 11 (shapeV 4 true false false 1 3 false false) := shape_k 11 (.bool false) (by omega) (by omega) 4 true false false 1 3 false false (fun j u h => by
 match j, h with
 | 0, h => exact h
 | 1, h => exact h
 | 2, h => exact h
 | 3, h => exact h
 | 4, h => exact h
 | 5, h => exact h
 | 6, h => exact h
 | 7, h => exact h
 | j + 8, h => simp at h)
end Go.Proofs.YteeklmgkhacbcaaGreatDoor
