/-
  impl.countPlaces.
-/
import Derived.Test.YtepjaoapjpmjkaaGreatDoorAsM
import Derived.Test.YtepjaoapjpmjkaaGreatDoorTreeTo
import Derived.Test.YtepjaoapjpmjkaaGreatDoorCheckM
import Derived.Test.YtepjaoapjpmjkaaGreatDoorTreeRefs
namespace Go.Proofs.YtepjaoapjpmjkaaGreatDoor
open Go.RowKit Go.Extern.Stop Go.Stop Go.Extern
set_option linter.unusedVariables false
theorem methodKind (h : Value) (w : World) : (Go.method 236 187 (.agg #[h]) "Kind").run Tryz.prog w = .ok (163, h) w := by kernel_rfl
theorem methodElem (h : Value) (w : World) : (Go.method 236 187 (.agg #[h]) "Elem").run Tryz.prog w = .ok (173, .agg #[h]) w := by kernel_rfl
theorem methodImplements (h : Value) (w : World) : (Go.method 236 187 (.agg #[h]) "Implements").run Tryz.prog w = .ok (174, .agg #[h]) w := by kernel_rfl
theorem methodAssignableTo (h : Value) (w : World) : (Go.method 236 187 (.agg #[h]) "AssignableTo").run Tryz.prog w = .ok (171, .agg #[h]) w := by kernel_rfl
theorem rls (v x : Value) : ReflectliteValue.set #[v, x] = (do
  let (some (dst, a, fl), some (src, b, _)) := (← ReflectliteValue.parts v, ← ReflectliteValue.parts x)
   | unsupported (.noEntry "extern/(internal/reflectlite.Value).Set.zeroValue")
  if fl / ReflectliteValue.flagAddr % 2 == 0 then unsupported (.noEntry "extern/(internal/reflectlite.Value).Set.unaddressable")
  let val ← loadVar src b
  if ← Rtype.directlyAssignable dst src then storeVar dst a val
  else if ← Rtype.implements dst src then
   if (← Rtype.kind src) == 20 then
    match val with
    | .nilIface => unsupported (.noEntry "extern/reflectlite: a nil value of one interface type handed on as a value of another")
    | _ => storeVar dst a val
   else storeVar dst a (.iface src val)
  else panicString ("reflectlite.Set: value of type " ++ (← Rtype.spelt src) ++ " is not assignable to type " ++ (← Rtype.spelt dst))
  pure (.tuple #[])) := rfl
theorem loadM (g : Nat) (c n : Int) (W : World) (h : W.heap[g]? = some (.cells #[.int .i64 c, .int .i64 n] 85 (0, 0))) : (loadVar 85 ⟨g, 0, none⟩).run Tryz.prog W = .ok (.agg #[.int .i64 c, .int .i64 n]) W := by
 obtain ⟨c0, c1⟩ := cl2 h
 simp [loadVar, go_sem, c0, c1]
theorem storeM (g : Nat) (c n x y : Int) (W : World) (h : W.heap[g]? = some (.cells #[.int .i64 x, .int .i64 y] 85 (0, 0))) : (storeVar 85 ⟨g, 0, none⟩ (.agg #[.int .i64 c, .int .i64 n])).run Tryz.prog W = .ok () ((W.setCell ⟨g, 0, none⟩ (.int .i64 c)).setCell ⟨g, 1, none⟩ (.int .i64 n)) := by
 obtain ⟨c0, c1⟩ := cl2 h
 obtain ⟨f0, f1⟩ := fl2 h
 simp [storeVar, go_sem, c0, c1, f0, f1]
theorem heap_last2 (w : World) (o : Obj) (g : Nat) (h : w.heap.size = g) : (w.alloc o).heap[g]? = some o := by subst h; exact heap_alloc_new w o
theorem setM (tg bg : Nat) (c n x y : Int) (W : World) (hb : W.heap[bg]? = some (.cells #[.int .i64 c, .int .i64 n] 85 (0, 0))) (ht : W.heap[tg]? = some (.cells #[.int .i64 x, .int .i64 y] 85 (0, 0))) :
  (ReflectliteValue.set #[.agg #[.pointer (some ⟨1, 85, none⟩), .pointer (some ⟨tg, 0, none⟩), .int .u64 409], .agg #[.pointer (some ⟨1, 85, none⟩), .pointer (some ⟨bg, 0, none⟩), .int .u64 153]]).run Tryz.prog W
   = .ok (.tuple #[]) ((W.setCell ⟨tg, 0, none⟩ (.int .i64 c)).setCell ⟨tg, 1, none⟩ (.int .i64 n)) := by
 rw [rls]
 simp only [Sem.run_bind, partsMa, partsM, Result.andThen]
 simp [ReflectliteValue.flagAddr, loadM bg c n W hb, Result.andThen, directM, storeM tg c n x y W ht]
set_option maxHeartbeats 8000000 in
theorem as_world (c n x y : Int) (g : Nat) (w : World) (hg : w.cell? ⟨0, 0, none⟩ = some (.iface 187 (.agg #[.pointer (some ⟨1, 79, none⟩)]))) (ht : w.heap[g]? = some (.cells #[.int .i64 x, .int .i64 y] 85 (0, 0))) :
  Calls Tryz.prog 85 #[.iface 85 (.agg #[.int .i64 c, .int .i64 n]), .iface 132 (.pointer (some ⟨g, 0, none⟩))] w fun ev w' => ev = .returned (.bool true) ∧ w' = (((((w.alloc (.cells #[.pointer (some ⟨g, 0, none⟩)] 132)).alloc (.cells #[.pointer (some ⟨1, 132, none⟩), .pointer (some ⟨w.heap.size, 0, none⟩), .int .u64 150] 170)).alloc (.cells #[.pointer (some ⟨1, 132, none⟩), .pointer (some ⟨w.heap.size, 0, none⟩), .int .u64 150] 170)).alloc (.cells #[.int .i64 c, .int .i64 n] 85)).setCell ⟨g, 0, none⟩ (.int .i64 c)).setCell ⟨g, 1, none⟩ (.int .i64 n) := by
 have h6 := @run_callFunc_extern Tryz.prog 122 _ (fun args => ReflectliteValue.unpack (args.getD 0 (.tuple #[]))) Tryz.func122 (by kernel_rfl) (by kernel_rfl) (by kernel_rfl) (by kernel_rfl)
 have h7 := @run_callFunc_extern Tryz.prog 123 _ (ReflectliteValue.methodAny (ReflectliteValue.valueError "reflectlite.Value.Type" 0) (fun t _ _ _ => ReflectliteType.toType t)) Tryz.func123 (by kernel_rfl) (by kernel_rfl) (by kernel_rfl) (by kernel_rfl)
 have h8 := @run_callFunc_extern Tryz.prog 124 _ (ReflectliteValue.method (ReflectliteValue.valueError "reflectlite.Value.IsNil" 0) ReflectliteValue.isNil) Tryz.func124 (by kernel_rfl) (by kernel_rfl) (by kernel_rfl) (by kernel_rfl)
 have h27 := @run_callFunc_extern Tryz.prog 163 _ (ReflectliteType.abiMethod fun t => do pure (.int .u8 (← Rtype.kind t))) Tryz.func163 (by kernel_rfl) (by kernel_rfl) (by kernel_rfl) (by kernel_rfl)
 have h37 := @run_callFunc_extern Tryz.prog 173 _ (ReflectliteType.method ReflectliteType.elem) Tryz.func173 (by kernel_rfl) (by kernel_rfl) (by kernel_rfl) (by kernel_rfl)
 have h38 := @run_callFunc_extern Tryz.prog 174 _ (ReflectliteType.relation "Implements" ReflectliteType.implements_) Tryz.func174 (by kernel_rfl) (by kernel_rfl) (by kernel_rfl) (by kernel_rfl)
 have h10 := @run_callFunc_extern Tryz.prog 136 _ ReflectliteType.typeOf Tryz.func136 (by kernel_rfl) (by kernel_rfl) (by kernel_rfl) (by kernel_rfl)
 have h35 := @run_callFunc_extern Tryz.prog 171 _ (ReflectliteType.relation "AssignableTo" ReflectliteType.assignableTo) Tryz.func171 (by kernel_rfl) (by kernel_rfl) (by kernel_rfl) (by kernel_rfl)
 have h11 := @run_callFunc_extern Tryz.prog 137 _ (ReflectliteValue.method (ReflectliteValue.valueError "reflectlite.Value.Elem" 0) ReflectliteValue.elem) Tryz.func137 (by kernel_rfl) (by kernel_rfl) (by kernel_rfl) (by kernel_rfl)
 have h12 := @run_callFunc_extern Tryz.prog 138 _ ReflectliteValue.set Tryz.func138 (by kernel_rfl) (by kernel_rfl) (by kernel_rfl) (by kernel_rfl)
 have tO := typeOfM
 have mA := methodAssignableTo
 have a25 := assignableM
 have v25 := valueOfM
 have f6 := valueOfP
 have f7 := typeP
 have mK := methodKind
 have mE := methodElem
 have mI := methodImplements
 have k27 := kindP
 have k25 := kindM
 have e27 := elemP
 have i25 := implementsM
 have htl : g < w.heap.size := (Array.getElem?_eq_some_iff.1 ht).1
 have hlt : 0 < w.heap.size := World.block_lt_of_cell? _ _ hg
 have b1 : Below w.heap.size w (w.alloc (.cells #[.pointer (some ⟨g, 0, none⟩)] 132)) := (Below.refl _ _).alloc (Nat.le_refl _) _
 have b2 : Below w.heap.size w ((w.alloc (.cells #[.pointer (some ⟨g, 0, none⟩)] 132)).alloc (.cells #[.pointer (some ⟨1, 132, none⟩), .pointer (some ⟨w.heap.size, 0, none⟩), .int .u64 150] 170)) := b1.alloc b1.size _
 have b3 : Below w.heap.size w (((w.alloc (.cells #[.pointer (some ⟨g, 0, none⟩)] 132)).alloc (.cells #[.pointer (some ⟨1, 132, none⟩), .pointer (some ⟨w.heap.size, 0, none⟩), .int .u64 150] 170)).alloc (.cells #[.pointer (some ⟨1, 132, none⟩), .pointer (some ⟨w.heap.size, 0, none⟩), .int .u64 150] 170)) := b2.alloc b2.size _
 have b4 : Below w.heap.size w ((((w.alloc (.cells #[.pointer (some ⟨g, 0, none⟩)] 132)).alloc (.cells #[.pointer (some ⟨1, 132, none⟩), .pointer (some ⟨w.heap.size, 0, none⟩), .int .u64 150] 170)).alloc (.cells #[.pointer (some ⟨1, 132, none⟩), .pointer (some ⟨w.heap.size, 0, none⟩), .int .u64 150] 170)).alloc (.cells #[.int .i64 c, .int .i64 n] 85)) := b3.alloc b3.size _
 have n8 := isNilP ⟨w.heap.size, 0, none⟩ ⟨g, 0, none⟩ ((w.alloc (.cells #[.pointer (some ⟨g, 0, none⟩)] 132)).alloc (.cells #[.pointer (some ⟨1, 132, none⟩), .pointer (some ⟨w.heap.size, 0, none⟩), .int .u64 150] 170)) (by simp)
 have hg2 : ((w.alloc (.cells #[.pointer (some ⟨g, 0, none⟩)] 132)).alloc (.cells #[.pointer (some ⟨1, 132, none⟩), .pointer (some ⟨w.heap.size, 0, none⟩), .int .u64 150] 170)).cell? ⟨0, 0, none⟩ = some (.iface 187 (.agg #[.pointer (some ⟨1, 79, none⟩)])) := (b2.cell (p := ⟨0, 0, none⟩) hlt).trans hg
 have el := elemVP ⟨w.heap.size, 0, none⟩ ⟨g, 0, none⟩ (((w.alloc (.cells #[.pointer (some ⟨g, 0, none⟩)] 132)).alloc (.cells #[.pointer (some ⟨1, 132, none⟩), .pointer (some ⟨w.heap.size, 0, none⟩), .int .u64 150] 170)).alloc (.cells #[.pointer (some ⟨1, 132, none⟩), .pointer (some ⟨w.heap.size, 0, none⟩), .int .u64 150] 170)) (by rw [World.cell?_alloc_lt _ _ ⟨w.heap.size, 0, none⟩ (by simp; omega)]; simp)
 have st := setM g (w.heap.size + 1 + 1 + 1) c n x y ((((w.alloc (.cells #[.pointer (some ⟨g, 0, none⟩)] 132)).alloc (.cells #[.pointer (some ⟨1, 132, none⟩), .pointer (some ⟨w.heap.size, 0, none⟩), .int .u64 150] 170)).alloc (.cells #[.pointer (some ⟨1, 132, none⟩), .pointer (some ⟨w.heap.size, 0, none⟩), .int .u64 150] 170)).alloc (.cells #[.int .i64 c, .int .i64 n] 85))
  (heap_last2 _ _ _ (by simp)) ((b4.block g htl).trans ht)
 clear b1 b2 b3 b4 ht htl hlt
 go_enter Tryz.func85, Tryz.ntmps85
 go_wp2
 refine wp_loop_rounds 1 ?_
 rw [rounds_succ]
 go_wp2
 go_ret
 exact ⟨rfl, rfl⟩
end Go.Proofs.YtepjaoapjpmjkaaGreatDoor
namespace Go.Proofs.YtepjaoapjpmjkaaGreatDoor
open Go.RowKit
set_option linter.unusedVariables false
def ErrT (w : World) : Prop := w.cell? ⟨0, 0, none⟩ = some (.iface 187 (.agg #[.pointer (some ⟨1, 79, none⟩)]))
theorem ErrT.below {w w' : World} {B : Nat} (h : ErrT w) (hb : Below B w w') (hB : 0 < B) : ErrT w' := (hb.cell (p := ⟨0, 0, none⟩) hB).trans h
theorem ErrT.lt {w : World} (h : ErrT w) : 0 < w.heap.size := World.block_lt_of_cell? _ _ h
theorem ErrT.kept {w w' : World} (h : ErrT w) (hb : Below w.heap.size w w') : ErrT w' := h.below hb h.lt
set_option maxHeartbeats 1600000 in
theorem misfit_nil (w : World) : Calls Tryz.prog 42 #[.nilIface] w fun e w' => e = .returned (.tuple #[.agg #[.int .i64 0, .int .i64 0], .bool false]) ∧ Below w.heap.size w w' := by
 go_enter Tryz.func42, Tryz.ntmps42
 go_wp2_with fail
 refine (as_nil _ _).mono ?_
 rintro e w2 ⟨rfl, rfl⟩
 go_wp2_with fail
 refine bodyPost_ret (v := .tuple #[.agg #[.int .i64 0, .int .i64 0], .bool false]) (by simp [results, Tryz.results42, go_sem]) rfl ⟨rfl, by go_grown⟩
set_option maxHeartbeats 1600000 in
theorem misfit_hit (c n : Int) (w : World) (hE : ErrT w) : Calls Tryz.prog 42 #[.iface 85 (.agg #[.int .i64 c, .int .i64 n])] w fun e w' => e = .returned (.tuple #[.agg #[.int .i64 c, .int .i64 n], .bool true]) ∧ Below w.heap.size w w' := by
 have hb : Below w.heap.size w (w.alloc (.cells #[.int .i64 0, .int .i64 0] 85)) := (Below.refl _ _).alloc (Nat.le_refl _) _
 have HG : Hid (ErrT (w.alloc (.cells #[.int .i64 0, .int .i64 0] 85))) := hE.kept hb
 have HT : Hid ((w.alloc (.cells #[.int .i64 0, .int .i64 0] 85)).heap[w.heap.size]? = some (.cells #[.int .i64 0, .int .i64 0] 85 (0, 0))) := heap_alloc_new _ _
 have HB := hid hb
 have HC : Hid (Calls Tryz.prog 85 #[.iface 85 (.agg #[.int .i64 c, .int .i64 n]), .iface 132 (.pointer (some ⟨w.heap.size, 0, none⟩))] (w.alloc (.cells #[.int .i64 0, .int .i64 0] 85)) fun ev w' => ev = .returned (.bool true) ∧ w'.heap[w.heap.size]? = some (.cells #[.int .i64 c, .int .i64 n] 85 (0, 0)) ∧ Below w.heap.size w w') :=
  (as_world c n 0 0 w.heap.size _ HG.out HT.out).mono (fun e w' h => by
   obtain ⟨rfl, rfl⟩ := h
   refine ⟨rfl, ?_, ?_⟩
   ·have e4 : ∀ (A B C D : Obj), ((((((w.alloc (.cells #[.int .i64 0, .int .i64 0] 85)).alloc A).alloc B).alloc C).alloc D)).heap[w.heap.size]? = some (.cells #[.int .i64 0, .int .i64 0] 85 (0, 0)) := fun A B C D => by
     have g1 := (Below.refl (w.heap.size + 1) (w.alloc (.cells #[.int .i64 0, .int .i64 0] 85))).alloc (by simp) A
     have g2 := g1.alloc (by simp) B
     have g3 := g2.alloc (by simp) C
     have g4 := g3.alloc (by simp) D
     exact (g4.block w.heap.size (by omega)).trans HT.out
    rw [heap_setCell_same _ _ _ _ _ _ (heap_setCell_same _ _ _ _ _ _ (e4 _ _ _ _))]
    rfl
   ·have := HB.out.size
    go_grown)
 clear hb HG HT HB hE
 go_enter Tryz.func42, Tryz.ntmps42
 go_wp2_with fail
 refine HC.out.mono ?_
 rintro e w2 ⟨rfl, hh, hb2⟩
 obtain ⟨c0, c1⟩ := cl2 hh
 obtain ⟨f0, f1⟩ := fl2 hh
 clear hh HC
 go_wp2_with fail
 refine bodyPost_ret (v := .tuple #[.agg #[.int .i64 c, .int .i64 n], .bool true]) (by simp [results, Tryz.results42, go_sem, c0, c1]) rfl ⟨rfl, ?_⟩
 go_grown
end Go.Proofs.YtepjaoapjpmjkaaGreatDoor
namespace Go.Proofs.YtepjaoapjpmjkaaGreatDoor
open Go.RowKit
set_option linter.unusedVariables false
def Cnt (w : World) (g : Nat) (T : TypeId) (cs : List Int) : Prop := w.heap[g]? = some (.cells (cs.map (Value.int .i64)).toArray T (0, 0))
def IntsB (hi : Nat) (w : World) (v : Value) (xs : List Int) : Prop :=
 ∃ a c, v = .slice a xs.length c ∧ (xs ≠ [] → ∃ b o, a = some ⟨b, o, none⟩ ∧ b < hi ∧ ∀ (i : Nat) (x : Int), xs[i]? = some x → w.cell? ⟨b, o + i, none⟩ = some (.int .i64 x))
theorem IntsV.toB {lo : Nat} {w : World} {v : Value} {xs : List Int} (h : IntsV lo w v xs) : IntsB w.heap.size w v xs := by
 obtain ⟨a, c, h1, h2, h3⟩ := h
 refine ⟨a, c, h1, fun hn => ?_⟩
 obtain ⟨b, o, e, hl, hc⟩ := h3 hn
 cases xs with
 | nil => exact absurd rfl hn
 | cons x r => exact ⟨b, o, e, World.block_lt_of_cell? _ _ (hc 0 x rfl), hc⟩
structure But (g : Nat) (w w' : World) : Prop where
 below : Below g w w'
 rest : ∀ b, b < w.heap.size → b ≠ g → w'.heap[b]? = w.heap[b]?
theorem But.refl (g : Nat) (w : World) : But g w w := ⟨Below.refl _ _, fun _ _ _ => rfl⟩
theorem But.trans {g : Nat} {a b c : World} (h : But g a b) (k : But g b c) : But g a c :=
 ⟨h.below.trans k.below, fun x hx hne => (k.rest x (Nat.lt_of_lt_of_le hx h.below.size) hne).trans (h.rest x hx hne)⟩
theorem But.cell {g : Nat} {w w' : World} (h : But g w w') {p : Addr} {u : Value} (hne : p.block ≠ g) (hc : w.cell? p = some u) : w'.cell? p = some u := by
 rw [World.cell?_of_block (h.rest p.block (World.block_lt_of_cell? _ _ hc) hne)]; exact hc
theorem But.set {g : Nat} {w w' : World} (h : But g w w') (o : Nat) (u : Value) : But g w (w'.setCell ⟨g, o, none⟩ u) :=
 ⟨h.below.setCell (Nat.le_refl _) _, fun b hb hne => (by
  have := h.rest b hb hne
  rw [← this]
  exact heap_setCell_other _ _ _ _ hne)⟩
theorem Cnt.bumped {w : World} {g : Nat} {T : TypeId} {cs : List Int} (h : Cnt w g T cs) (j : Nat) : Cnt (w.setCell ⟨g, j, none⟩ (.int .i64 (cs.getD j 0 + 1))) g T (bump cs (j : Int)) := by
 have := heap_setCell_same w g j _ _ (.int .i64 (cs.getD j 0 + 1)) h
 unfold Cnt
 rw [this]
 simp [bump, List.map_set]
theorem Cnt.cell {w : World} {g : Nat} {T : TypeId} {cs : List Int} (h : Cnt w g T cs) (j : Nat) (hj : j < cs.length) : w.cell? ⟨g, j, none⟩ = some (.int .i64 (cs.getD j 0)) ∧ w.frozen? ⟨g, j, none⟩ = false := by
 refine ⟨?_, frozen_of_row _ _ _ _ _ h⟩
 rw [cell_of_row _ _ _ _ _ _ h]
 simp [List.getElem?_eq_getElem hj]
abbrev bumpP (ls : List (Value × List Int)) (cs : List Int) : List Int := ls.foldl (fun cs p => bumps cs p.2) cs
theorem bumpP_len (ls : List (Value × List Int)) : ∀ cs : List Int, (bumpP ls cs).length = cs.length := by
 induction ls with
 | nil => intro cs; rfl
 | cons p r ih => intro cs; show (bumpP r (bumps cs p.2)).length = _; rw [ih, bumps_len]
theorem bumpP_take {ls : List (Value × List Int)} {cs : List Int} {k : Nat} {p : Value × List Int} (h : ls[k]? = some p) : bumpP (ls.take (k + 1)) cs = bumps (bumpP (ls.take k) cs) p.2 := by
 obtain ⟨hk, rfl⟩ := List.getElem?_eq_some_iff.1 h
 unfold bumpP; rw [List.take_succ_eq_append_getElem hk, List.foldl_append]; rfl
theorem bumpP_le (B : Int) : ∀ (ls : List (Value × List Int)) {M : Int} {cs : List Int}, CntLe M cs → (∀ p ∈ ls, (p.2.length : Int) ≤ B) → CntLe (M + B * ls.length) (bumpP ls cs) := by
 intro ls
 induction ls with
 | nil => intro M cs h _; simpa using h
 | cons p r ih =>
  intro M cs h hB
  have h1 := hB p (by simp)
  have := ih (cs := bumps cs p.2) ((bumps_le p.2 h).mono (M' := M + B) (by omega)) (fun n hn => hB n (by simp [hn]))
  have e : M + B * ((p :: r).length : Int) = M + B + B * (r.length : Int) := by simp [Int.mul_add]; omega
  rw [e]; exact this
set_option maxHeartbeats 3200000 in
set_option maxRecDepth 100000 in
theorem countPlaces_any (g lb : Nat) (cs : List Int) (ls : List (Value × List Int)) (c c2 : Nat) (w : World) (M B : Int)
  (hg : Cnt w g 3 cs) (hl : ∀ i p, ls[i]? = some p → w.cell? ⟨lb, i, none⟩ = some p.1) (hv : ∀ p ∈ ls, IntsB g w p.1 p.2) (hlb : lb ≠ g)
  (hin : ∀ p ∈ ls, ∀ x ∈ p.2, 0 ≤ x ∧ x < (cs.length : Int)) (hM : CntLe M cs) (hB : ∀ p ∈ ls, (p.2.length : Int) ≤ B) (hB1 : B ≤ 1048576) (h3 : ls.length ≤ 3) (hM0 : 0 ≤ M) (hM1 : M ≤ 10000000000) (hn : cs.length ≤ 200) :
  Calls Tryz.prog 115 #[.slice (some ⟨g, 0, none⟩) cs.length c, .slice (some ⟨lb, 0, none⟩) ls.length c2] w fun e w' => e = .returned (.tuple #[]) ∧ Cnt w' g 3 (bumpP ls cs) ∧ But g w w' := by
 have HG : Hid (Cnt w g 3 cs) := hg
 have HL := hid hl
 have HV := hid hv
 have HI := hid hin
 have HM : Hid (CntLe M cs) := hM
 have HB := hid hB
 have HB1 : Hid (B ≤ 1048576 ∧ 0 ≤ M ∧ M ≤ 10000000000) := ⟨hB1, hM0, hM1⟩
 clear hg hl hv hin hM hB hB1 hM0 hM1
 go_enter Tryz.func115, Tryz.ntmps115
 go_wp2
 go_loopw [10] (fun i wr => ∃ k : Nat, k ≤ ls.length ∧ i = .int .i64 k ∧ Cnt wr g 3 (bumpP (ls.take k) cs) ∧ But g w wr) (fun i _ => ls.length - (intOf i).toNat)
 case atStart => exact ⟨0, by omega, rfl, HG.out, But.refl _ _⟩
 case round =>
  obtain ⟨k, hk, rfl, hcnt, hbut⟩ := hrel
  have HC := hid hcnt
  clear hcnt
  by_cases hlt : k < ls.length
  ·obtain ⟨p, hp⟩ : ∃ p, ls[k]? = some p := ⟨ls[k], List.getElem?_eq_getElem hlt⟩
   obtain ⟨v, l⟩ := p
   have hmem := List.mem_of_getElem? hp
   obtain ⟨a, cp, hv0, hh⟩ := HV.out _ hmem
   change v = .slice a l.length cp at hv0
   subst hv0
   have HP := hid hp
   have HH := hid hh
   have HX : Hid (∀ x ∈ l, 0 ≤ x ∧ x < (cs.length : Int)) := HI.out _ hmem
   have HLB : Hid ((l.length : Int) ≤ B) := HB.out _ hmem
   have HLE : Hid (CntLe (M + B * k) (bumpP (ls.take k) cs)) := by
    have := bumpP_le B (ls.take k) (HM.out) (fun p hp => HB.out p (List.mem_of_mem_take hp))
    have e : (ls.take k).length = k := by simp; omega
    rw [e] at this; exact this
   have c0 := hbut.cell (p := ⟨lb, k, none⟩) hlb (HL.out k _ hp)
   have hll : l.length ≤ 1048576 := by have := HLB.out; have := HB1.out.1; omega
   have HBUT : Hid (But g w wr) := hbut
   have HLN : Hid ((bumpP (ls.take k) cs).length = cs.length) := bumpP_len _ _
   generalize hD : bumpP (ls.take k) cs = D at *
   clear hp hh hmem hbut
   go_wp2
   go_loopw [16] (fun i wi => ∃ j : Nat, j ≤ l.length ∧ i = .int .i64 j ∧ Cnt wi g 3 (bumps D (l.take j)) ∧ But g w wi) (fun i _ => l.length - (intOf i).toNat)
   case atStart => exact ⟨0, by omega, rfl, HC.out, HBUT.out⟩
   case round =>
    obtain ⟨j, hj, rfl, hcnt, hbut⟩ := hrel
    by_cases hjt : j < l.length
    ·obtain ⟨x, hx⟩ : ∃ x, l[j]? = some x := ⟨l[j], List.getElem?_eq_getElem hjt⟩
     obtain ⟨b, o, rfl, hbg, hc1⟩ := HH.out (by intro e; rw [e] at hjt; simp at hjt)
     have hx2 := HX.out x (List.mem_of_getElem? hx)
     obtain ⟨q, rfl⟩ : ∃ q : Nat, x = q := ⟨x.toNat, by omega⟩
     have d0 := hbut.cell (p := ⟨b, o + j, none⟩) (show b ≠ g by omega) (hc1 j _ hx)
     have hqn : q < cs.length := by omega
     have hlen : (bumps D (l.take j)).length = cs.length := by rw [bumps_len]; exact HLN.out
     obtain ⟨d1, d2⟩ := hcnt.cell q (by omega)
     have hle := (bumps_le (l.take j) HLE.out) q
     have hlj : (l.take j).length ≤ l.length := by simp; omega
     have hk3 : k ≤ 3 := by omega
     have hBk : B * (k : Int) ≤ 1048576 * 3 := by
      have h1 := HB1.out.1
      have h2 := HLB.out
      have h3 : B * (k : Int) ≤ 1048576 * (k : Int) := Int.mul_le_mul_of_nonneg_right h1 (by omega)
      omega
     have HCN : Hid (Cnt (wr.setCell ⟨g, q, none⟩ (.int .i64 ((bumps D (l.take j)).getD q 0 + 1))) g 3 (bumps D (l.take (j + 1)))) := by
      rw [bumps_take hx]; exact hcnt.bumped q
     have hz1 : (bumps D (l.take j)).getD q 0 + 1 ≤ 1000000000000 := by have := HB1.out; omega
     have hz0 : 0 ≤ (bumps D (l.take j)).getD q 0 := hle.1
     have HBUT2 : Hid (But g w wr) := hbut
     generalize (bumps D (l.take j)).getD q 0 = z at *
     have hq0 : (0 : Int) ≤ (q : Int) := by omega
     have hq1 : (q : Int) < (cs.length : Int) := by omega
     clear hle hlj hBk hlen hx2 hx hc1 hcnt hbut
     go_wp2
     go_roundw
     case rel => exact ⟨j + 1, by omega, by go_num, HCN.out, HBUT2.out.set _ _⟩
     case measure => simp [intOf]; omega
    ·have hje : j = l.length := by omega
     subst hje
     have HCN : Hid (Cnt wr g 3 (bumpP (ls.take (k + 1)) cs)) := by
      unfold Hid; rw [bumpP_take HP.out, hD]; simpa using hcnt
     have HBUT2 : Hid (But g w wr) := hbut
     clear hcnt hbut hD
     go_wp2
     go_roundw
     case rel => exact ⟨k + 1, by omega, by go_num, HCN.out, HBUT2.out⟩
     case measure => simp [intOf]; omega
  ·have hke : k = ls.length := by omega
   subst hke
   have HCN : Hid (Cnt wr g 3 (bumpP ls cs)) := by unfold Hid; have := HC.out; simpa using this
   have HBUT2 : Hid (But g w wr) := hbut
   clear hbut
   go_wp2
   go_end0
   exact ⟨rfl, HCN.out, HBUT2.out⟩
theorem countPlaces_at (g lb : Nat) (cs : List Int) (ls : List (Value × List Int)) (n m c c2 : Nat) (w : World) (M B : Int) (hn' : n = cs.length) (hm' : m = ls.length)
  (hg : Cnt w g 3 cs) (hl : ∀ i p, ls[i]? = some p → w.cell? ⟨lb, i, none⟩ = some p.1) (hv : ∀ p ∈ ls, IntsB g w p.1 p.2) (hlb : lb ≠ g)
  (hin : ∀ p ∈ ls, ∀ x ∈ p.2, 0 ≤ x ∧ x < (cs.length : Int)) (hM : CntLe M cs) (hB : ∀ p ∈ ls, (p.2.length : Int) ≤ B) (hB1 : B ≤ 1048576) (h3 : ls.length ≤ 3) (hM0 : 0 ≤ M) (hM1 : M ≤ 10000000000) (hn : cs.length ≤ 200) :
  Calls Tryz.prog 115 #[.slice (some ⟨g, 0, none⟩) n c, .slice (some ⟨lb, 0, none⟩) m c2] w fun e w' => e = .returned (.tuple #[]) ∧ Cnt w' g 3 (bumpP ls cs) ∧ But g w w' := by
 subst hn' hm'
 exact countPlaces_any g lb cs ls c c2 w M B hg hl hv hlb hin hM hB hB1 h3 hM0 hM1 hn
end Go.Proofs.YtepjaoapjpmjkaaGreatDoor
