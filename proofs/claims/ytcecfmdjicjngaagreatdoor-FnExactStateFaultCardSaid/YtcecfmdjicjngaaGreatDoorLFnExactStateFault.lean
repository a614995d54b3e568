/-
  The Go function laws.FnExactStateFault answers true at every input and writes nothing that was there. No condition beside the laid variable errors.errorType.
-/
import Derived.Test.YtcecfmdjicjngaaGreatDoorBase
import Derived.LaidEql
import Derived.Stop.Asserts
import Derived.RowKitTokens
import Derived.Test.YtcecfmdjicjngaaGreatDoorOwnI
import Derived.Test.YtcecfmdjicjngaaGreatDoorIShape
import Derived.Test.YtcecfmdjicjngaaGreatDoorIIn
import Derived.Test.YtcecfmdjicjngaaGreatDoorOwn
import Derived.Test.YtcecfmdjicjngaaGreatDoorILex
import Derived.Test.YtcecfmdjicjngaaGreatDoorIHasA
import Derived.Test.YtcecfmdjicjngaaGreatDoorIStat
import Derived.Test.YtcecfmdjicjngaaGreatDoorIDeep
import Derived.Test.YtcecfmdjicjngaaGreatDoorSFault
import Derived.Test.YtcecfmdjicjngaaGreatDoorCheckS
import Derived.Test.YtcecfmdjicjngaaGreatDoorIMay
import Derived.Test.YtcecfmdjicjngaaGreatDoorILex
import Derived.Test.YtcecfmdjicjngaaGreatDoorTyBr
import Derived.Test.YtcecfmdjicjngaaGreatDoorIn
import Derived.Test.YtcecfmdjicjngaaGreatDoorSCells
import Derived.Deep.RegionHeld3
import Derived.Test.YtcecfmdjicjngaaGreatDoorTreeSz
import Derived.Test.YtcecfmdjicjngaaGreatDoorCopy
import Derived.Test.YtcecfmdjicjngaaGreatDoorICells
import Derived.Test.YtcecfmdjicjngaaGreatDoorTreeEq2
import Derived.Test.YtcecfmdjicjngaaGreatDoorOpenSt
namespace Go.Proofs.YtcecfmdjicjngaaGreatDoor
open Go.RowKit Go.Extern.Stop Go.Stop Go.Extern
set_option linter.unusedVariables false
theorem as_nil (t : Value) (w : World) :
  Calls Tryz.prog 141 #[.nilIface, t] w fun e w' => e = .returned (.bool false) ∧ w' = w := by
 go_enter Tryz.func141, Tryz.ntmps141
 go_wp2
 go_ret
 exact ⟨rfl, rfl⟩
theorem valueOfP (t : Addr) (w : World) : (ReflectliteValue.unpack (.iface 186 (.pointer (some t)))).run Tryz.prog w
  = .ok (.agg #[.pointer (some ⟨1, 186, none⟩), .pointer (some ⟨w.heap.size, 0, none⟩), .int .u64 150]) (w.alloc (.cells #[.pointer (some t)] 186)) := by kernel_rfl
theorem typeP (a : Addr) (w : World) : (ReflectliteValue.methodAny (ReflectliteValue.valueError "reflectlite.Value.Type" 0) (fun t _ _ _ => ReflectliteType.toType t) #[.agg #[.pointer (some ⟨1, 186, none⟩), .pointer (some a), .int .u64 150]]).run Tryz.prog w
  = .ok (.iface 293 (.agg #[.pointer (some ⟨1, 186, none⟩)])) w := by kernel_rfl
theorem kindP (w : World) : ((ReflectliteType.abiMethod fun t => (fun a : Nat => Value.int IntKind.u8 (a : Int)) <$> Rtype.kind t) #[.pointer (some ⟨1, 186, none⟩)]).run Tryz.prog w = .ok (.int .u8 22) w := by kernel_rfl
theorem kindM (w : World) : ((ReflectliteType.abiMethod fun t => (fun a : Nat => Value.int IntKind.u8 (a : Int)) <$> Rtype.kind t) #[.pointer (some ⟨1, 107, none⟩)]).run Tryz.prog w = .ok (.int .u8 25) w := by kernel_rfl
theorem rlm (z : Sem Value) (f : TypeId → Addr → Nat → Nat → Sem Value) (v : Value) :
  ReflectliteValue.method z f #[v] = (do match ← ReflectliteValue.parts v with | none => z | some (t, a, fl) => f t a fl (fl % 32)) := rfl
theorem partsP (a : Addr) (w : World) : (ReflectliteValue.parts (.agg #[.pointer (some ⟨1, 186, none⟩), .pointer (some a), .int .u64 150])).run Tryz.prog w = .ok (some (186, a, 150)) w := by kernel_rfl
theorem isNilP (a p : Addr) (W : World) (ha : W.cell? a = some (.pointer (some p))) :
  (ReflectliteValue.method (ReflectliteValue.valueError "reflectlite.Value.IsNil" 0) ReflectliteValue.isNil #[.agg #[.pointer (some ⟨1, 186, none⟩), .pointer (some a), .int .u64 150]]).run Tryz.prog W = .ok (.bool false) W := by
 rw [rlm]
 simp only [Sem.run_bind, partsP, Result.andThen]
 simp [ReflectliteValue.isNil, loadVar, isAgg, underlying, Tryz.underlying186, ha, Result.andThen]
theorem elemP (w : World) : (ReflectliteType.method ReflectliteType.elem #[.agg #[.pointer (some ⟨1, 186, none⟩)]]).run Tryz.prog w = .ok (.iface 293 (.agg #[.pointer (some ⟨1, 107, none⟩)])) w := by kernel_rfl
theorem implementsM (w : World) : (ReflectliteType.relation "Implements" ReflectliteType.implements_ #[.agg #[.pointer (some ⟨1, 107, none⟩)], .iface 293 (.agg #[.pointer (some ⟨1, 111, none⟩)])]).run Tryz.prog w = .ok (.bool true) w := by kernel_rfl
theorem typeOfM (v : Value) (w : World) : (ReflectliteType.typeOf #[.iface 107 v]).run Tryz.prog w = .ok (.iface 293 (.agg #[.pointer (some ⟨1, 107, none⟩)])) w := by kernel_rfl
theorem assignableM (w : World) : (ReflectliteType.relation "AssignableTo" ReflectliteType.assignableTo #[.agg #[.pointer (some ⟨1, 107, none⟩)], .iface 293 (.agg #[.pointer (some ⟨1, 107, none⟩)])]).run Tryz.prog w = .ok (.bool true) w := by kernel_rfl
theorem valueOfM (c n : Int) (w : World) : (ReflectliteValue.unpack (.iface 107 (.agg #[.int .i64 c, .int .i64 n]))).run Tryz.prog w
  = .ok (.agg #[.pointer (some ⟨1, 107, none⟩), .pointer (some ⟨w.heap.size, 0, none⟩), .int .u64 153]) (w.alloc (.cells #[.int .i64 c, .int .i64 n] 107)) := by kernel_rfl
theorem elemOfP (w : World) : (Rtype.elem? 186).run Tryz.prog w = .ok (some 107) w := by kernel_rfl
theorem mkM (p : Addr) (w : World) : (ReflectliteValue.mk 107 p ReflectliteValue.flagAddr).run Tryz.prog w = .ok (.agg #[.pointer (some ⟨1, 107, none⟩), .pointer (some p), .int .u64 409]) w := by kernel_rfl
theorem elemVP (a p : Addr) (W : World) (ha : W.cell? a = some (.pointer (some p))) :
  (ReflectliteValue.method (ReflectliteValue.valueError "reflectlite.Value.Elem" 0) ReflectliteValue.elem #[.agg #[.pointer (some ⟨1, 186, none⟩), .pointer (some a), .int .u64 150]]).run Tryz.prog W
   = .ok (.agg #[.pointer (some ⟨1, 107, none⟩), .pointer (some p), .int .u64 409]) W := by
 rw [rlm]
 simp only [Sem.run_bind, partsP, Result.andThen]
 simp [ReflectliteValue.elem, loadVar, isAgg, underlying, Tryz.underlying186, ha, Result.andThen, elemOfP, mkM]
theorem partsMa (a : Addr) (w : World) : (ReflectliteValue.parts (.agg #[.pointer (some ⟨1, 107, none⟩), .pointer (some a), .int .u64 409])).run Tryz.prog w = .ok (some (107, a, 409)) w := by kernel_rfl
theorem partsM (a : Addr) (w : World) : (ReflectliteValue.parts (.agg #[.pointer (some ⟨1, 107, none⟩), .pointer (some a), .int .u64 153])).run Tryz.prog w = .ok (some (107, a, 153)) w := by kernel_rfl
theorem directM (w : World) : (Rtype.directlyAssignable 107 107).run Tryz.prog w = .ok true w := by kernel_rfl
theorem sizeM (w : World) : (sizeOf 107).run Tryz.prog w = .ok 2 w := by kernel_rfl
end Go.Proofs.YtcecfmdjicjngaaGreatDoor
namespace Go.Proofs.YtcecfmdjicjngaaGreatDoor
open Go.RowKit Go.Extern.Stop Go.Stop Go.Extern
set_option linter.unusedVariables false
theorem methodKind (h : Value) (w : World) : (Go.method 369 293 (.agg #[h]) "Kind").run Tryz.prog w = .ok (328, h) w := by kernel_rfl
theorem methodElem (h : Value) (w : World) : (Go.method 369 293 (.agg #[h]) "Elem").run Tryz.prog w = .ok (338, .agg #[h]) w := by kernel_rfl
theorem methodImplements (h : Value) (w : World) : (Go.method 369 293 (.agg #[h]) "Implements").run Tryz.prog w = .ok (339, .agg #[h]) w := by kernel_rfl
theorem methodAssignableTo (h : Value) (w : World) : (Go.method 369 293 (.agg #[h]) "AssignableTo").run Tryz.prog w = .ok (336, .agg #[h]) w := by kernel_rfl
theorem rls (v x : Value) : ReflectliteValue.set #[v, x] = (do
  let (some (dst, a, fl), some (src, b, _)) := (← ReflectliteValue.parts v, ← ReflectliteValue.parts x)
   | unsupported (.noEntry "extern/(internal/reflectlite.Value).Set.zeroValue")
  if fl / ReflectliteValue.flagAddr % 2 == 0 then unsupported (.noEntry "extern/(internal/reflectlite.Value).Set.unaddressable")
  let val ← loadVar src b
  if ← Rtype.directlyAssignable dst src then storeVar dst a val
  else if ← Rtype.implements dst src then
   if (← Rtype.kind src) == 20 then
    match val with
    | .nilIface => unsupported (.noEntry "extern/reflectlite: a nil value of one interface type handed on as a value of another")
    | _ => storeVar dst a val
   else storeVar dst a (.iface src val)
  else panicString ("reflectlite.Set: value of type " ++ (← Rtype.spelt src) ++ " is not assignable to type " ++ (← Rtype.spelt dst))
  pure (.tuple #[])) := rfl
theorem loadM (g : Nat) (c n : Int) (W : World) (h : W.heap[g]? = some (.cells #[.int .i64 c, .int .i64 n] 107 (0, 0))) : (loadVar 107 ⟨g, 0, none⟩).run Tryz.prog W = .ok (.agg #[.int .i64 c, .int .i64 n]) W := by
 obtain ⟨c0, c1⟩ := cl2 h
 simp [loadVar, go_sem, c0, c1]
theorem storeM (g : Nat) (c n x y : Int) (W : World) (h : W.heap[g]? = some (.cells #[.int .i64 x, .int .i64 y] 107 (0, 0))) : (storeVar 107 ⟨g, 0, none⟩ (.agg #[.int .i64 c, .int .i64 n])).run Tryz.prog W = .ok () ((W.setCell ⟨g, 0, none⟩ (.int .i64 c)).setCell ⟨g, 1, none⟩ (.int .i64 n)) := by
 obtain ⟨c0, c1⟩ := cl2 h
 obtain ⟨f0, f1⟩ := fl2 h
 simp [storeVar, go_sem, c0, c1, f0, f1]
theorem heap_last2 (w : World) (o : Obj) (g : Nat) (h : w.heap.size = g) : (w.alloc o).heap[g]? = some o := by subst h; exact heap_alloc_new w o
theorem setM (tg bg : Nat) (c n x y : Int) (W : World) (hb : W.heap[bg]? = some (.cells #[.int .i64 c, .int .i64 n] 107 (0, 0))) (ht : W.heap[tg]? = some (.cells #[.int .i64 x, .int .i64 y] 107 (0, 0))) :
  (ReflectliteValue.set #[.agg #[.pointer (some ⟨1, 107, none⟩), .pointer (some ⟨tg, 0, none⟩), .int .u64 409], .agg #[.pointer (some ⟨1, 107, none⟩), .pointer (some ⟨bg, 0, none⟩), .int .u64 153]]).run Tryz.prog W
   = .ok (.tuple #[]) ((W.setCell ⟨tg, 0, none⟩ (.int .i64 c)).setCell ⟨tg, 1, none⟩ (.int .i64 n)) := by
 rw [rls]
 simp only [Sem.run_bind, partsMa, partsM, Result.andThen]
 simp [ReflectliteValue.flagAddr, loadM bg c n W hb, Result.andThen, directM, storeM tg c n x y W ht]
set_option maxHeartbeats 8000000 in
theorem as_world (c n x y : Int) (g : Nat) (w : World) (hg : w.cell? ⟨0, 0, none⟩ = some (.iface 293 (.agg #[.pointer (some ⟨1, 111, none⟩)]))) (ht : w.heap[g]? = some (.cells #[.int .i64 x, .int .i64 y] 107 (0, 0))) :
  Calls Tryz.prog 141 #[.iface 107 (.agg #[.int .i64 c, .int .i64 n]), .iface 186 (.pointer (some ⟨g, 0, none⟩))] w fun ev w' => ev = .returned (.bool true) ∧ w' = (((((w.alloc (.cells #[.pointer (some ⟨g, 0, none⟩)] 186)).alloc (.cells #[.pointer (some ⟨1, 186, none⟩), .pointer (some ⟨w.heap.size, 0, none⟩), .int .u64 150] 251)).alloc (.cells #[.pointer (some ⟨1, 186, none⟩), .pointer (some ⟨w.heap.size, 0, none⟩), .int .u64 150] 251)).alloc (.cells #[.int .i64 c, .int .i64 n] 107)).setCell ⟨g, 0, none⟩ (.int .i64 c)).setCell ⟨g, 1, none⟩ (.int .i64 n) := by
 have h6 := @run_callFunc_extern Tryz.prog 206 _ (fun args => ReflectliteValue.unpack (args.getD 0 (.tuple #[]))) Tryz.func206 (by kernel_rfl) (by kernel_rfl) (by kernel_rfl) (by kernel_rfl)
 have h7 := @run_callFunc_extern Tryz.prog 207 _ (ReflectliteValue.methodAny (ReflectliteValue.valueError "reflectlite.Value.Type" 0) (fun t _ _ _ => ReflectliteType.toType t)) Tryz.func207 (by kernel_rfl) (by kernel_rfl) (by kernel_rfl) (by kernel_rfl)
 have h8 := @run_callFunc_extern Tryz.prog 208 _ (ReflectliteValue.method (ReflectliteValue.valueError "reflectlite.Value.IsNil" 0) ReflectliteValue.isNil) Tryz.func208 (by kernel_rfl) (by kernel_rfl) (by kernel_rfl) (by kernel_rfl)
 have h27 := @run_callFunc_extern Tryz.prog 328 _ (ReflectliteType.abiMethod fun t => do pure (.int .u8 (← Rtype.kind t))) Tryz.func328 (by kernel_rfl) (by kernel_rfl) (by kernel_rfl) (by kernel_rfl)
 have h37 := @run_callFunc_extern Tryz.prog 338 _ (ReflectliteType.method ReflectliteType.elem) Tryz.func338 (by kernel_rfl) (by kernel_rfl) (by kernel_rfl) (by kernel_rfl)
 have h38 := @run_callFunc_extern Tryz.prog 339 _ (ReflectliteType.relation "Implements" ReflectliteType.implements_) Tryz.func339 (by kernel_rfl) (by kernel_rfl) (by kernel_rfl) (by kernel_rfl)
 have h10 := @run_callFunc_extern Tryz.prog 251 _ ReflectliteType.typeOf Tryz.func251 (by kernel_rfl) (by kernel_rfl) (by kernel_rfl) (by kernel_rfl)
 have h35 := @run_callFunc_extern Tryz.prog 336 _ (ReflectliteType.relation "AssignableTo" ReflectliteType.assignableTo) Tryz.func336 (by kernel_rfl) (by kernel_rfl) (by kernel_rfl) (by kernel_rfl)
 have h11 := @run_callFunc_extern Tryz.prog 252 _ (ReflectliteValue.method (ReflectliteValue.valueError "reflectlite.Value.Elem" 0) ReflectliteValue.elem) Tryz.func252 (by kernel_rfl) (by kernel_rfl) (by kernel_rfl) (by kernel_rfl)
 have h12 := @run_callFunc_extern Tryz.prog 253 _ ReflectliteValue.set Tryz.func253 (by kernel_rfl) (by kernel_rfl) (by kernel_rfl) (by kernel_rfl)
 have tO := typeOfM
 have mA := methodAssignableTo
 have a25 := assignableM
 have v25 := valueOfM
 have f6 := valueOfP
 have f7 := typeP
 have mK := methodKind
 have mE := methodElem
 have mI := methodImplements
 have k27 := kindP
 have k25 := kindM
 have e27 := elemP
 have i25 := implementsM
 have htl : g < w.heap.size := (Array.getElem?_eq_some_iff.1 ht).1
 have hlt : 0 < w.heap.size := World.block_lt_of_cell? _ _ hg
 have b1 : Below w.heap.size w (w.alloc (.cells #[.pointer (some ⟨g, 0, none⟩)] 186)) := (Below.refl _ _).alloc (Nat.le_refl _) _
 have b2 : Below w.heap.size w ((w.alloc (.cells #[.pointer (some ⟨g, 0, none⟩)] 186)).alloc (.cells #[.pointer (some ⟨1, 186, none⟩), .pointer (some ⟨w.heap.size, 0, none⟩), .int .u64 150] 251)) := b1.alloc b1.size _
 have b3 : Below w.heap.size w (((w.alloc (.cells #[.pointer (some ⟨g, 0, none⟩)] 186)).alloc (.cells #[.pointer (some ⟨1, 186, none⟩), .pointer (some ⟨w.heap.size, 0, none⟩), .int .u64 150] 251)).alloc (.cells #[.pointer (some ⟨1, 186, none⟩), .pointer (some ⟨w.heap.size, 0, none⟩), .int .u64 150] 251)) := b2.alloc b2.size _
 have b4 : Below w.heap.size w ((((w.alloc (.cells #[.pointer (some ⟨g, 0, none⟩)] 186)).alloc (.cells #[.pointer (some ⟨1, 186, none⟩), .pointer (some ⟨w.heap.size, 0, none⟩), .int .u64 150] 251)).alloc (.cells #[.pointer (some ⟨1, 186, none⟩), .pointer (some ⟨w.heap.size, 0, none⟩), .int .u64 150] 251)).alloc (.cells #[.int .i64 c, .int .i64 n] 107)) := b3.alloc b3.size _
 have n8 := isNilP ⟨w.heap.size, 0, none⟩ ⟨g, 0, none⟩ ((w.alloc (.cells #[.pointer (some ⟨g, 0, none⟩)] 186)).alloc (.cells #[.pointer (some ⟨1, 186, none⟩), .pointer (some ⟨w.heap.size, 0, none⟩), .int .u64 150] 251)) (by simp)
 have hg2 : ((w.alloc (.cells #[.pointer (some ⟨g, 0, none⟩)] 186)).alloc (.cells #[.pointer (some ⟨1, 186, none⟩), .pointer (some ⟨w.heap.size, 0, none⟩), .int .u64 150] 251)).cell? ⟨0, 0, none⟩ = some (.iface 293 (.agg #[.pointer (some ⟨1, 111, none⟩)])) := (b2.cell (p := ⟨0, 0, none⟩) hlt).trans hg
 have el := elemVP ⟨w.heap.size, 0, none⟩ ⟨g, 0, none⟩ (((w.alloc (.cells #[.pointer (some ⟨g, 0, none⟩)] 186)).alloc (.cells #[.pointer (some ⟨1, 186, none⟩), .pointer (some ⟨w.heap.size, 0, none⟩), .int .u64 150] 251)).alloc (.cells #[.pointer (some ⟨1, 186, none⟩), .pointer (some ⟨w.heap.size, 0, none⟩), .int .u64 150] 251)) (by rw [World.cell?_alloc_lt _ _ ⟨w.heap.size, 0, none⟩ (by simp; omega)]; simp)
 have st := setM g (w.heap.size + 1 + 1 + 1) c n x y ((((w.alloc (.cells #[.pointer (some ⟨g, 0, none⟩)] 186)).alloc (.cells #[.pointer (some ⟨1, 186, none⟩), .pointer (some ⟨w.heap.size, 0, none⟩), .int .u64 150] 251)).alloc (.cells #[.pointer (some ⟨1, 186, none⟩), .pointer (some ⟨w.heap.size, 0, none⟩), .int .u64 150] 251)).alloc (.cells #[.int .i64 c, .int .i64 n] 107))
  (heap_last2 _ _ _ (by simp)) ((b4.block g htl).trans ht)
 clear b1 b2 b3 b4 ht htl hlt
 go_enter Tryz.func141, Tryz.ntmps141
 go_wp2
 refine wp_loop_rounds 1 ?_
 rw [rounds_succ]
 go_wp2
 go_ret
 exact ⟨rfl, rfl⟩
end Go.Proofs.YtcecfmdjicjngaaGreatDoor
namespace Go.Proofs.YtcecfmdjicjngaaGreatDoor
open Go.RowKit
set_option linter.unusedVariables false
def ErrT (w : World) : Prop := w.cell? ⟨0, 0, none⟩ = some (.iface 293 (.agg #[.pointer (some ⟨1, 111, none⟩)]))
theorem ErrT.below {w w' : World} {B : Nat} (h : ErrT w) (hb : Below B w w') (hB : 0 < B) : ErrT w' := (hb.cell (p := ⟨0, 0, none⟩) hB).trans h
theorem ErrT.lt {w : World} (h : ErrT w) : 0 < w.heap.size := World.block_lt_of_cell? _ _ h
theorem ErrT.kept {w w' : World} (h : ErrT w) (hb : Below w.heap.size w w') : ErrT w' := h.below hb h.lt
set_option maxHeartbeats 1600000 in
theorem misfit_nil (w : World) : Calls Tryz.prog 74 #[.nilIface] w fun e w' => e = .returned (.tuple #[.agg #[.int .i64 0, .int .i64 0], .bool false]) ∧ Below w.heap.size w w' := by
 go_enter Tryz.func74, Tryz.ntmps74
 go_wp2_with fail
 refine (as_nil _ _).mono ?_
 rintro e w2 ⟨rfl, rfl⟩
 go_wp2_with fail
 refine bodyPost_ret (v := .tuple #[.agg #[.int .i64 0, .int .i64 0], .bool false]) (by simp [results, Tryz.results74, go_sem]) rfl ⟨rfl, by go_grown⟩
set_option maxHeartbeats 1600000 in
theorem misfit_hit (c n : Int) (w : World) (hE : ErrT w) : Calls Tryz.prog 74 #[.iface 107 (.agg #[.int .i64 c, .int .i64 n])] w fun e w' => e = .returned (.tuple #[.agg #[.int .i64 c, .int .i64 n], .bool true]) ∧ Below w.heap.size w w' := by
 have hb : Below w.heap.size w (w.alloc (.cells #[.int .i64 0, .int .i64 0] 107)) := (Below.refl _ _).alloc (Nat.le_refl _) _
 have HG : Hid (ErrT (w.alloc (.cells #[.int .i64 0, .int .i64 0] 107))) := hE.kept hb
 have HT : Hid ((w.alloc (.cells #[.int .i64 0, .int .i64 0] 107)).heap[w.heap.size]? = some (.cells #[.int .i64 0, .int .i64 0] 107 (0, 0))) := heap_alloc_new _ _
 have HB := hid hb
 have HC : Hid (Calls Tryz.prog 141 #[.iface 107 (.agg #[.int .i64 c, .int .i64 n]), .iface 186 (.pointer (some ⟨w.heap.size, 0, none⟩))] (w.alloc (.cells #[.int .i64 0, .int .i64 0] 107)) fun ev w' => ev = .returned (.bool true) ∧ w'.heap[w.heap.size]? = some (.cells #[.int .i64 c, .int .i64 n] 107 (0, 0)) ∧ Below w.heap.size w w') :=
  (as_world c n 0 0 w.heap.size _ HG.out HT.out).mono (fun e w' h => by
   obtain ⟨rfl, rfl⟩ := h
   refine ⟨rfl, ?_, ?_⟩
   ·have e4 : ∀ (A B C D : Obj), ((((((w.alloc (.cells #[.int .i64 0, .int .i64 0] 107)).alloc A).alloc B).alloc C).alloc D)).heap[w.heap.size]? = some (.cells #[.int .i64 0, .int .i64 0] 107 (0, 0)) := fun A B C D => by
     have g1 := (Below.refl (w.heap.size + 1) (w.alloc (.cells #[.int .i64 0, .int .i64 0] 107))).alloc (by simp) A
     have g2 := g1.alloc (by simp) B
     have g3 := g2.alloc (by simp) C
     have g4 := g3.alloc (by simp) D
     exact (g4.block w.heap.size (by omega)).trans HT.out
    rw [heap_setCell_same _ _ _ _ _ _ (heap_setCell_same _ _ _ _ _ _ (e4 _ _ _ _))]
    rfl
   ·have := HB.out.size
    go_grown)
 clear hb HG HT HB hE
 go_enter Tryz.func74, Tryz.ntmps74
 go_wp2_with fail
 refine HC.out.mono ?_
 rintro e w2 ⟨rfl, hh, hb2⟩
 obtain ⟨c0, c1⟩ := cl2 hh
 obtain ⟨f0, f1⟩ := fl2 hh
 clear hh HC
 go_wp2_with fail
 refine bodyPost_ret (v := .tuple #[.agg #[.int .i64 c, .int .i64 n], .bool true]) (by simp [results, Tryz.results74, go_sem, c0, c1]) rfl ⟨rfl, ?_⟩
 go_grown
end Go.Proofs.YtcecfmdjicjngaaGreatDoor
namespace Go.Proofs.YtcecfmdjicjngaaGreatDoor
open Go.RowKit
set_option linter.unusedVariables false
attribute [local go_sem] bs_size bs_get bs_extract bs_append bs_eq bs_toList
set_option maxHeartbeats 6400000 in
set_option maxRecDepth 100000 in
theorem has4 (K : Int) (R : Bool) (op : Int) (name : List UInt8) (num far : Int) (kids thn els : List Int) (a a2 a3 : Option Addr) (c c2 c3 : Nat) (w : World) (hl : name.length ≤ 1048576) (hk1 : kids.length ≤ 1048576) (hk2 : thn.length ≤ 1048576) (hk3 : els.length ≤ 1048576)
  (hO : R = (decide (op = 0) && name.isEmpty && decide (num = 0) && decide (far = 0) && decide (1 ≤ kids.length ∧ kids.length ≤ 1) && thn.isEmpty && els.isEmpty)) (hS : Shape K (shapeV 0 false false false 1 1 false false)) (hK : inB K 1 11 = true) :
  Calls Tryz.prog 85 #[.agg #[.int .i64 K, .int .i64 op, .string (bs name), .int .i64 num, .int .i64 far, .slice a kids.length c, .slice a2 thn.length c2, .slice a3 els.length c3]] w fun e w' => e = .returned (.bool R) ∧ Below w.heap.size w w' := by
 have HN : Hid (∀ w, Calls Tryz.prog 83 #[.string (bs name)] w fun e w' => e = .returned (.bool (isNameL name)) ∧ w' = w) := fun w => iIsName_any name w (by omega)
 have HW0 : Hid (∀ w, Calls Tryz.prog 84 #[.int .i64 K, .int .i64 1, .int .i64 11] w fun e w' => e = .returned (.bool true) ∧ w' = w) := fun w => by have h := within_any K 1 11 w; rwa [hK] at h
 have HS := hid hS
 have HO := hid hO
 clear hl hO hS hK
 go_enter Tryz.func85, Tryz.ntmps85
 go_wp2_with fail
 have hA := heap_alloc_new w (.cells #[.int .i64 K, .int .i64 op, .string (bs name), .int .i64 num, .int .i64 far, .slice a kids.length c, .slice a2 thn.length c2, .slice a3 els.length c3] 40)
 have hB : Below w.heap.size w (w.alloc (.cells #[.int .i64 K, .int .i64 op, .string (bs name), .int .i64 num, .int .i64 far, .slice a kids.length c, .slice a2 thn.length c2, .slice a3 els.length c3] 40)) := (Below.refl _ _).alloc (Nat.le_refl _) _
 generalize w.alloc (.cells #[.int .i64 K, .int .i64 op, .string (bs name), .int .i64 num, .int .i64 far, .slice a kids.length c, .slice a2 thn.length c2, .slice a3 els.length c3] 40) = W at *
 have k0 : W.cell? ⟨w.heap.size, 0, none⟩ = some (.int .i64 K) := cell_of_row _ _ 0 _ _ _ hA
 refine (HW0.out _).mono ?_
 rintro e w1 ⟨rfl, rfl⟩
 go_wp2_with fail
 refine (HS.out _).mono ?_
 rintro e w2 ⟨rfl, hb⟩
 have hA2 := blk hA hb
 have HB : Hid (Below w.heap.size w w2) := hB.trans (hb.mono hB.size)
 obtain ⟨d0, d1, d2, d3, d4, d5, d6, d7⟩ := cl8 hA2
 have hwl : w.heap.size < w2.heap.size := World.block_lt_of_cell? _ _ d0
 clear hA hB k0 hb hA2 HW0 HS
 go_wp2_with fail
 have hA3 := heap_alloc_new w2 (.cells #[.int .i64 0, .bool false, .bool false, .bool false, .int .i64 1, .int .i64 1, .bool false, .bool false] 200)
 have hB3 : Below w2.heap.size w2 (w2.alloc (.cells #[.int .i64 0, .bool false, .bool false, .bool false, .int .i64 1, .int .i64 1, .bool false, .bool false] 200)) := (Below.refl _ _).alloc (Nat.le_refl _) _
 generalize w2.alloc (.cells #[.int .i64 0, .bool false, .bool false, .bool false, .int .i64 1, .int .i64 1, .bool false, .bool false] 200) = W3 at *
 replace d0 : W3.cell? ⟨w.heap.size, 0, none⟩ = some (.int .i64 K) := (hB3.cell (p := ⟨w.heap.size, 0, none⟩) hwl).trans d0
 replace d1 : W3.cell? ⟨w.heap.size, 1, none⟩ = some (.int .i64 op) := (hB3.cell (p := ⟨w.heap.size, 1, none⟩) hwl).trans d1
 replace d2 : W3.cell? ⟨w.heap.size, 2, none⟩ = some (.string (bs name)) := (hB3.cell (p := ⟨w.heap.size, 2, none⟩) hwl).trans d2
 replace d3 : W3.cell? ⟨w.heap.size, 3, none⟩ = some (.int .i64 num) := (hB3.cell (p := ⟨w.heap.size, 3, none⟩) hwl).trans d3
 replace d4 : W3.cell? ⟨w.heap.size, 4, none⟩ = some (.int .i64 far) := (hB3.cell (p := ⟨w.heap.size, 4, none⟩) hwl).trans d4
 replace d5 : W3.cell? ⟨w.heap.size, 5, none⟩ = some (.slice a kids.length c) := (hB3.cell (p := ⟨w.heap.size, 5, none⟩) hwl).trans d5
 replace d6 : W3.cell? ⟨w.heap.size, 6, none⟩ = some (.slice a2 thn.length c2) := (hB3.cell (p := ⟨w.heap.size, 6, none⟩) hwl).trans d6
 replace d7 : W3.cell? ⟨w.heap.size, 7, none⟩ = some (.slice a3 els.length c3) := (hB3.cell (p := ⟨w.heap.size, 7, none⟩) hwl).trans d7
 obtain ⟨s0, s1, s2, s3, s4, s5, s6, s7⟩ := cl8 hA3
 replace HB : Hid (Below w.heap.size w W3) := HB.out.trans (hB3.mono HB.out.size)
 clear hA3 hB3 hwl
 generalize w2.heap.size = g2 at *
 by_cases qop : op = 0
 ·subst qop
  have hC : Hid (∀ w, Calls Tryz.prog 84 #[.int .i64 0, .int .i64 0, .int .i64 0] w fun e w' => e = .returned (.bool true) ∧ w' = w) := fun w => by have h := within_any 0 0 0 w; rwa [show inB 0 0 0 = true from by decide] at h
  skip
  refine (hC.out _).mono ?_
  rintro e w' ⟨rfl, rfl⟩
  clear hC
  simp only []; rename_i kk hkk; simp only [List.append_eq, List.cons_append, List.nil_append] at hkk
  by_cases qname : name = []
  ·subst qname
   by_cases qnum : num = 0
   ·subst qnum
    by_cases qfar : far = 0
    ·subst qfar
     by_cases qk : 1 ≤ kids.length ∧ kids.length ≤ 1
     ·have qk1 := qk.1
      have qk2 := qk.2
      have hz5 : decide ((1 : Int) ≤ ((kids.length : Nat) : Int)) = true := decide_eq_true (by omega)
      have hz6 : decide (((kids.length : Nat) : Int) ≤ 1) = true := decide_eq_true (by omega)
      have QK : Hid (1 ≤ kids.length ∧ kids.length ≤ 1) := qk
      clear qk qk1 qk2
      by_cases qthn : thn = []
      ·subst qthn
       by_cases qels : els = []
       ·subst qels
        have HE : Hid (R = true) := by unfold Hid; rw [HO.out]; simp [QK.out]
        clear HO
        go_wp2_with fail
        go_ret
        exact ⟨by rw [HE.out]; rfl, HB.out⟩
       ·have hz : 0 < els.length := List.length_pos_iff.2 qels
        have hz3 : (((els.length : Nat) : Int) == 0) = false := by rw [beq_eq_false_iff_ne]; omega
        have hz4 : decide (((els.length : Nat) : Int) = 0) = false := decide_eq_false (by omega)
        have HE : Hid (R = false) := by unfold Hid; rw [HO.out]; simp [qels]
        clear HO
        go_wp2_with fail
        go_ret
        exact ⟨by rw [HE.out]; rfl, HB.out⟩
      ·have hz : 0 < thn.length := List.length_pos_iff.2 qthn
       have hz3 : (((thn.length : Nat) : Int) == 0) = false := by rw [beq_eq_false_iff_ne]; omega
       have hz4 : decide (((thn.length : Nat) : Int) = 0) = false := decide_eq_false (by omega)
       have HE : Hid (R = false) := by unfold Hid; rw [HO.out]; simp [qthn]
       clear HO
       go_wp2_with fail
       go_ret
       exact ⟨by rw [HE.out]; rfl, HB.out⟩
     ·by_cases qk1 : kids.length < 1
      ·have hz5 : decide ((1 : Int) ≤ ((kids.length : Nat) : Int)) = false := decide_eq_false (by omega)
       have HE : Hid (R = false) := by unfold Hid; rw [HO.out]; simp [qk]
       clear HO
       go_wp2_with fail
       go_ret
       exact ⟨by rw [HE.out]; rfl, HB.out⟩
      ·have qk2 : 1 < kids.length := by omega
       have hz5 : decide ((1 : Int) ≤ ((kids.length : Nat) : Int)) = true := decide_eq_true (by omega)
       have hz6 : decide (((kids.length : Nat) : Int) ≤ 1) = false := decide_eq_false (by omega)
       have HE : Hid (R = false) := by unfold Hid; rw [HO.out]; simp [qk]
       clear HO
       go_wp2_with fail
       go_ret
       exact ⟨by rw [HE.out]; rfl, HB.out⟩
    ·have hz1 : (far == 0) = false := by simpa using qfar
     have hz2 : decide (far = 0) = false := decide_eq_false qfar
     have HE : Hid (R = false) := by unfold Hid; rw [HO.out]; simp [qfar]
     clear HO
     go_wp2_with fail
     go_ret
     exact ⟨by rw [HE.out]; rfl, HB.out⟩
   ·have hz1 : (num == 0) = false := by simpa using qnum
    have hz2 : decide (num = 0) = false := decide_eq_false qnum
    have HE : Hid (R = false) := by unfold Hid; rw [HO.out]; simp [qnum]
    clear HO
    go_wp2_with fail
    go_ret
    exact ⟨by rw [HE.out]; rfl, HB.out⟩
  ·have hz1 : (name == []) = false := by simpa using qname
   have hz2 : decide (name = []) = false := decide_eq_false qname
   have HE : Hid (R = false) := by unfold Hid; rw [HO.out]; simp [qname]
   clear HO
   go_wp2_with fail
   go_ret
   exact ⟨by rw [HE.out]; rfl, HB.out⟩
 ·have hC : Hid (∀ w, Calls Tryz.prog 84 #[.int .i64 op, .int .i64 0, .int .i64 0] w fun e w' => e = .returned (.bool false) ∧ w' = w) := fun w => by have h := within_any op 0 0 w; rwa [show inB op 0 0 = false from inB_no.2 (by omega)] at h
  skip
  refine (hC.out _).mono ?_
  rintro e w' ⟨rfl, rfl⟩
  clear hC
  simp only []; rename_i kk hkk; simp only [List.append_eq, List.cons_append, List.nil_append] at hkk
  have HE : Hid (R = false) := by unfold Hid; rw [HO.out]; simp [qop]
  clear HO
  go_wp2_with fail
  go_ret
  exact ⟨by rw [HE.out]; rfl, HB.out⟩
set_option maxHeartbeats 6400000 in
set_option maxRecDepth 100000 in
theorem has6 (K : Int) (R : Bool) (op : Int) (name : List UInt8) (num far : Int) (kids thn els : List Int) (a a2 a3 : Option Addr) (c c2 c3 : Nat) (w : World) (hl : name.length ≤ 1048576) (hk1 : kids.length ≤ 1048576) (hk2 : thn.length ≤ 1048576) (hk3 : els.length ≤ 1048576)
  (hO : R = (inB op 1 10 && name.isEmpty && decide (num = 0) && decide (far = 0) && decide (2 ≤ kids.length ∧ kids.length ≤ 2) && thn.isEmpty && els.isEmpty)) (hS : Shape K (shapeV 10 false false false 2 2 false false)) (hK : inB K 1 11 = true) :
  Calls Tryz.prog 85 #[.agg #[.int .i64 K, .int .i64 op, .string (bs name), .int .i64 num, .int .i64 far, .slice a kids.length c, .slice a2 thn.length c2, .slice a3 els.length c3]] w fun e w' => e = .returned (.bool R) ∧ Below w.heap.size w w' := by
 have HN : Hid (∀ w, Calls Tryz.prog 83 #[.string (bs name)] w fun e w' => e = .returned (.bool (isNameL name)) ∧ w' = w) := fun w => iIsName_any name w (by omega)
 have HW0 : Hid (∀ w, Calls Tryz.prog 84 #[.int .i64 K, .int .i64 1, .int .i64 11] w fun e w' => e = .returned (.bool true) ∧ w' = w) := fun w => by have h := within_any K 1 11 w; rwa [hK] at h
 have HS := hid hS
 have HO := hid hO
 clear hl hO hS hK
 go_enter Tryz.func85, Tryz.ntmps85
 go_wp2_with fail
 have hA := heap_alloc_new w (.cells #[.int .i64 K, .int .i64 op, .string (bs name), .int .i64 num, .int .i64 far, .slice a kids.length c, .slice a2 thn.length c2, .slice a3 els.length c3] 40)
 have hB : Below w.heap.size w (w.alloc (.cells #[.int .i64 K, .int .i64 op, .string (bs name), .int .i64 num, .int .i64 far, .slice a kids.length c, .slice a2 thn.length c2, .slice a3 els.length c3] 40)) := (Below.refl _ _).alloc (Nat.le_refl _) _
 generalize w.alloc (.cells #[.int .i64 K, .int .i64 op, .string (bs name), .int .i64 num, .int .i64 far, .slice a kids.length c, .slice a2 thn.length c2, .slice a3 els.length c3] 40) = W at *
 have k0 : W.cell? ⟨w.heap.size, 0, none⟩ = some (.int .i64 K) := cell_of_row _ _ 0 _ _ _ hA
 refine (HW0.out _).mono ?_
 rintro e w1 ⟨rfl, rfl⟩
 go_wp2_with fail
 refine (HS.out _).mono ?_
 rintro e w2 ⟨rfl, hb⟩
 have hA2 := blk hA hb
 have HB : Hid (Below w.heap.size w w2) := hB.trans (hb.mono hB.size)
 obtain ⟨d0, d1, d2, d3, d4, d5, d6, d7⟩ := cl8 hA2
 have hwl : w.heap.size < w2.heap.size := World.block_lt_of_cell? _ _ d0
 clear hA hB k0 hb hA2 HW0 HS
 go_wp2_with fail
 have hA3 := heap_alloc_new w2 (.cells #[.int .i64 10, .bool false, .bool false, .bool false, .int .i64 2, .int .i64 2, .bool false, .bool false] 200)
 have hB3 : Below w2.heap.size w2 (w2.alloc (.cells #[.int .i64 10, .bool false, .bool false, .bool false, .int .i64 2, .int .i64 2, .bool false, .bool false] 200)) := (Below.refl _ _).alloc (Nat.le_refl _) _
 generalize w2.alloc (.cells #[.int .i64 10, .bool false, .bool false, .bool false, .int .i64 2, .int .i64 2, .bool false, .bool false] 200) = W3 at *
 replace d0 : W3.cell? ⟨w.heap.size, 0, none⟩ = some (.int .i64 K) := (hB3.cell (p := ⟨w.heap.size, 0, none⟩) hwl).trans d0
 replace d1 : W3.cell? ⟨w.heap.size, 1, none⟩ = some (.int .i64 op) := (hB3.cell (p := ⟨w.heap.size, 1, none⟩) hwl).trans d1
 replace d2 : W3.cell? ⟨w.heap.size, 2, none⟩ = some (.string (bs name)) := (hB3.cell (p := ⟨w.heap.size, 2, none⟩) hwl).trans d2
 replace d3 : W3.cell? ⟨w.heap.size, 3, none⟩ = some (.int .i64 num) := (hB3.cell (p := ⟨w.heap.size, 3, none⟩) hwl).trans d3
 replace d4 : W3.cell? ⟨w.heap.size, 4, none⟩ = some (.int .i64 far) := (hB3.cell (p := ⟨w.heap.size, 4, none⟩) hwl).trans d4
 replace d5 : W3.cell? ⟨w.heap.size, 5, none⟩ = some (.slice a kids.length c) := (hB3.cell (p := ⟨w.heap.size, 5, none⟩) hwl).trans d5
 replace d6 : W3.cell? ⟨w.heap.size, 6, none⟩ = some (.slice a2 thn.length c2) := (hB3.cell (p := ⟨w.heap.size, 6, none⟩) hwl).trans d6
 replace d7 : W3.cell? ⟨w.heap.size, 7, none⟩ = some (.slice a3 els.length c3) := (hB3.cell (p := ⟨w.heap.size, 7, none⟩) hwl).trans d7
 obtain ⟨s0, s1, s2, s3, s4, s5, s6, s7⟩ := cl8 hA3
 replace HB : Hid (Below w.heap.size w W3) := HB.out.trans (hB3.mono HB.out.size)
 clear hA3 hB3 hwl
 generalize w2.heap.size = g2 at *
 obtain ⟨q, qop⟩ : ∃ q, inB op 1 10 = q := ⟨_, rfl⟩
 have hC : Hid (∀ w, Calls Tryz.prog 84 #[.int .i64 op, .int .i64 1, .int .i64 10] w fun e w' => e = .returned (.bool q) ∧ w' = w) := fun w => by have h := within_any op 1 10 w; rwa [qop] at h
 cases q with
 | true =>
  skip
  refine (hC.out _).mono ?_
  rintro e w' ⟨rfl, rfl⟩
  clear hC
  simp only []; rename_i kk hkk; simp only [List.append_eq, List.cons_append, List.nil_append] at hkk
  by_cases qname : name = []
  ·subst qname
   by_cases qnum : num = 0
   ·subst qnum
    by_cases qfar : far = 0
    ·subst qfar
     by_cases qk : 2 ≤ kids.length ∧ kids.length ≤ 2
     ·have qk1 := qk.1
      have qk2 := qk.2
      have hz5 : decide ((2 : Int) ≤ ((kids.length : Nat) : Int)) = true := decide_eq_true (by omega)
      have hz6 : decide (((kids.length : Nat) : Int) ≤ 2) = true := decide_eq_true (by omega)
      have QK : Hid (2 ≤ kids.length ∧ kids.length ≤ 2) := qk
      clear qk qk1 qk2
      by_cases qthn : thn = []
      ·subst qthn
       by_cases qels : els = []
       ·subst qels
        have HE : Hid (R = true) := by unfold Hid; rw [HO.out]; simp [qop, QK.out]
        clear HO
        go_wp2_with fail
        go_ret
        exact ⟨by rw [HE.out]; rfl, HB.out⟩
       ·have hz : 0 < els.length := List.length_pos_iff.2 qels
        have hz3 : (((els.length : Nat) : Int) == 0) = false := by rw [beq_eq_false_iff_ne]; omega
        have hz4 : decide (((els.length : Nat) : Int) = 0) = false := decide_eq_false (by omega)
        have HE : Hid (R = false) := by unfold Hid; rw [HO.out]; simp [qels]
        clear HO
        go_wp2_with fail
        go_ret
        exact ⟨by rw [HE.out]; rfl, HB.out⟩
      ·have hz : 0 < thn.length := List.length_pos_iff.2 qthn
       have hz3 : (((thn.length : Nat) : Int) == 0) = false := by rw [beq_eq_false_iff_ne]; omega
       have hz4 : decide (((thn.length : Nat) : Int) = 0) = false := decide_eq_false (by omega)
       have HE : Hid (R = false) := by unfold Hid; rw [HO.out]; simp [qthn]
       clear HO
       go_wp2_with fail
       go_ret
       exact ⟨by rw [HE.out]; rfl, HB.out⟩
     ·by_cases qk1 : kids.length < 2
      ·have hz5 : decide ((2 : Int) ≤ ((kids.length : Nat) : Int)) = false := decide_eq_false (by omega)
       have HE : Hid (R = false) := by unfold Hid; rw [HO.out]; simp [qk]
       clear HO
       go_wp2_with fail
       go_ret
       exact ⟨by rw [HE.out]; rfl, HB.out⟩
      ·have qk2 : 2 < kids.length := by omega
       have hz5 : decide ((2 : Int) ≤ ((kids.length : Nat) : Int)) = true := decide_eq_true (by omega)
       have hz6 : decide (((kids.length : Nat) : Int) ≤ 2) = false := decide_eq_false (by omega)
       have HE : Hid (R = false) := by unfold Hid; rw [HO.out]; simp [qk]
       clear HO
       go_wp2_with fail
       go_ret
       exact ⟨by rw [HE.out]; rfl, HB.out⟩
    ·have hz1 : (far == 0) = false := by simpa using qfar
     have hz2 : decide (far = 0) = false := decide_eq_false qfar
     have HE : Hid (R = false) := by unfold Hid; rw [HO.out]; simp [qfar]
     clear HO
     go_wp2_with fail
     go_ret
     exact ⟨by rw [HE.out]; rfl, HB.out⟩
   ·have hz1 : (num == 0) = false := by simpa using qnum
    have hz2 : decide (num = 0) = false := decide_eq_false qnum
    have HE : Hid (R = false) := by unfold Hid; rw [HO.out]; simp [qnum]
    clear HO
    go_wp2_with fail
    go_ret
    exact ⟨by rw [HE.out]; rfl, HB.out⟩
  ·have hz1 : (name == []) = false := by simpa using qname
   have hz2 : decide (name = []) = false := decide_eq_false qname
   have HE : Hid (R = false) := by unfold Hid; rw [HO.out]; simp [qname]
   clear HO
   go_wp2_with fail
   go_ret
   exact ⟨by rw [HE.out]; rfl, HB.out⟩
 | false =>
  skip
  refine (hC.out _).mono ?_
  rintro e w' ⟨rfl, rfl⟩
  clear hC
  simp only []; rename_i kk hkk; simp only [List.append_eq, List.cons_append, List.nil_append] at hkk
  have HE : Hid (R = false) := by unfold Hid; rw [HO.out]; simp [qop]
  clear HO
  go_wp2_with fail
  go_ret
  exact ⟨by rw [HE.out]; rfl, HB.out⟩
set_option maxHeartbeats 6400000 in
set_option maxRecDepth 100000 in
theorem has8 (K : Int) (R : Bool) (op : Int) (name : List UInt8) (num far : Int) (kids thn els : List Int) (a a2 a3 : Option Addr) (c c2 c3 : Nat) (w : World) (hl : name.length ≤ 1048576) (hk1 : kids.length ≤ 1048576) (hk2 : thn.length ≤ 1048576) (hk3 : els.length ≤ 1048576)
  (hO : R = (decide (op = 0) && isNameL name && decide (num = 0) && decide (far = 0) && decide (2 ≤ kids.length ∧ kids.length ≤ 2) && thn.isEmpty && els.isEmpty)) (hS : Shape K (shapeV 0 true false false 2 2 false false)) (hK : inB K 1 11 = true) :
  Calls Tryz.prog 85 #[.agg #[.int .i64 K, .int .i64 op, .string (bs name), .int .i64 num, .int .i64 far, .slice a kids.length c, .slice a2 thn.length c2, .slice a3 els.length c3]] w fun e w' => e = .returned (.bool R) ∧ Below w.heap.size w w' := by
 have HN : Hid (∀ w, Calls Tryz.prog 83 #[.string (bs name)] w fun e w' => e = .returned (.bool (isNameL name)) ∧ w' = w) := fun w => iIsName_any name w (by omega)
 have HW0 : Hid (∀ w, Calls Tryz.prog 84 #[.int .i64 K, .int .i64 1, .int .i64 11] w fun e w' => e = .returned (.bool true) ∧ w' = w) := fun w => by have h := within_any K 1 11 w; rwa [hK] at h
 have HS := hid hS
 have HO := hid hO
 clear hl hO hS hK
 go_enter Tryz.func85, Tryz.ntmps85
 go_wp2_with fail
 have hA := heap_alloc_new w (.cells #[.int .i64 K, .int .i64 op, .string (bs name), .int .i64 num, .int .i64 far, .slice a kids.length c, .slice a2 thn.length c2, .slice a3 els.length c3] 40)
 have hB : Below w.heap.size w (w.alloc (.cells #[.int .i64 K, .int .i64 op, .string (bs name), .int .i64 num, .int .i64 far, .slice a kids.length c, .slice a2 thn.length c2, .slice a3 els.length c3] 40)) := (Below.refl _ _).alloc (Nat.le_refl _) _
 generalize w.alloc (.cells #[.int .i64 K, .int .i64 op, .string (bs name), .int .i64 num, .int .i64 far, .slice a kids.length c, .slice a2 thn.length c2, .slice a3 els.length c3] 40) = W at *
 have k0 : W.cell? ⟨w.heap.size, 0, none⟩ = some (.int .i64 K) := cell_of_row _ _ 0 _ _ _ hA
 refine (HW0.out _).mono ?_
 rintro e w1 ⟨rfl, rfl⟩
 go_wp2_with fail
 refine (HS.out _).mono ?_
 rintro e w2 ⟨rfl, hb⟩
 have hA2 := blk hA hb
 have HB : Hid (Below w.heap.size w w2) := hB.trans (hb.mono hB.size)
 obtain ⟨d0, d1, d2, d3, d4, d5, d6, d7⟩ := cl8 hA2
 have hwl : w.heap.size < w2.heap.size := World.block_lt_of_cell? _ _ d0
 clear hA hB k0 hb hA2 HW0 HS
 go_wp2_with fail
 have hA3 := heap_alloc_new w2 (.cells #[.int .i64 0, .bool true, .bool false, .bool false, .int .i64 2, .int .i64 2, .bool false, .bool false] 200)
 have hB3 : Below w2.heap.size w2 (w2.alloc (.cells #[.int .i64 0, .bool true, .bool false, .bool false, .int .i64 2, .int .i64 2, .bool false, .bool false] 200)) := (Below.refl _ _).alloc (Nat.le_refl _) _
 generalize w2.alloc (.cells #[.int .i64 0, .bool true, .bool false, .bool false, .int .i64 2, .int .i64 2, .bool false, .bool false] 200) = W3 at *
 replace d0 : W3.cell? ⟨w.heap.size, 0, none⟩ = some (.int .i64 K) := (hB3.cell (p := ⟨w.heap.size, 0, none⟩) hwl).trans d0
 replace d1 : W3.cell? ⟨w.heap.size, 1, none⟩ = some (.int .i64 op) := (hB3.cell (p := ⟨w.heap.size, 1, none⟩) hwl).trans d1
 replace d2 : W3.cell? ⟨w.heap.size, 2, none⟩ = some (.string (bs name)) := (hB3.cell (p := ⟨w.heap.size, 2, none⟩) hwl).trans d2
 replace d3 : W3.cell? ⟨w.heap.size, 3, none⟩ = some (.int .i64 num) := (hB3.cell (p := ⟨w.heap.size, 3, none⟩) hwl).trans d3
 replace d4 : W3.cell? ⟨w.heap.size, 4, none⟩ = some (.int .i64 far) := (hB3.cell (p := ⟨w.heap.size, 4, none⟩) hwl).trans d4
 replace d5 : W3.cell? ⟨w.heap.size, 5, none⟩ = some (.slice a kids.length c) := (hB3.cell (p := ⟨w.heap.size, 5, none⟩) hwl).trans d5
 replace d6 : W3.cell? ⟨w.heap.size, 6, none⟩ = some (.slice a2 thn.length c2) := (hB3.cell (p := ⟨w.heap.size, 6, none⟩) hwl).trans d6
 replace d7 : W3.cell? ⟨w.heap.size, 7, none⟩ = some (.slice a3 els.length c3) := (hB3.cell (p := ⟨w.heap.size, 7, none⟩) hwl).trans d7
 obtain ⟨s0, s1, s2, s3, s4, s5, s6, s7⟩ := cl8 hA3
 replace HB : Hid (Below w.heap.size w W3) := HB.out.trans (hB3.mono HB.out.size)
 clear hA3 hB3 hwl
 generalize w2.heap.size = g2 at *
 by_cases qop : op = 0
 ·subst qop
  have hC : Hid (∀ w, Calls Tryz.prog 84 #[.int .i64 0, .int .i64 0, .int .i64 0] w fun e w' => e = .returned (.bool true) ∧ w' = w) := fun w => by have h := within_any 0 0 0 w; rwa [show inB 0 0 0 = true from by decide] at h
  skip
  refine (hC.out _).mono ?_
  rintro e w' ⟨rfl, rfl⟩
  clear hC
  simp only []; rename_i kk hkk; simp only [List.append_eq, List.cons_append, List.nil_append] at hkk
  obtain ⟨q, qname⟩ : ∃ q, isNameL name = q := ⟨_, rfl⟩
  have hC : Hid (∀ w, Calls Tryz.prog 83 #[.string (bs name)] w fun e w' => e = .returned (.bool q) ∧ w' = w) := fun w => by have h := HN.out w; rwa [qname] at h
  cases q with
  | true =>
   go_wp2_with fail
   refine (hC.out _).mono ?_
   rintro e w' ⟨rfl, rfl⟩
   clear hC
   skip
   by_cases qnum : num = 0
   ·subst qnum
    by_cases qfar : far = 0
    ·subst qfar
     by_cases qk : 2 ≤ kids.length ∧ kids.length ≤ 2
     ·have qk1 := qk.1
      have qk2 := qk.2
      have hz5 : decide ((2 : Int) ≤ ((kids.length : Nat) : Int)) = true := decide_eq_true (by omega)
      have hz6 : decide (((kids.length : Nat) : Int) ≤ 2) = true := decide_eq_true (by omega)
      have QK : Hid (2 ≤ kids.length ∧ kids.length ≤ 2) := qk
      clear qk qk1 qk2
      by_cases qthn : thn = []
      ·subst qthn
       by_cases qels : els = []
       ·subst qels
        have HE : Hid (R = true) := by unfold Hid; rw [HO.out]; simp [qname, QK.out]
        clear HO
        go_wp2_with fail
        go_ret
        exact ⟨by rw [HE.out]; rfl, HB.out⟩
       ·have hz : 0 < els.length := List.length_pos_iff.2 qels
        have hz3 : (((els.length : Nat) : Int) == 0) = false := by rw [beq_eq_false_iff_ne]; omega
        have hz4 : decide (((els.length : Nat) : Int) = 0) = false := decide_eq_false (by omega)
        have HE : Hid (R = false) := by unfold Hid; rw [HO.out]; simp [qels]
        clear HO
        go_wp2_with fail
        go_ret
        exact ⟨by rw [HE.out]; rfl, HB.out⟩
      ·have hz : 0 < thn.length := List.length_pos_iff.2 qthn
       have hz3 : (((thn.length : Nat) : Int) == 0) = false := by rw [beq_eq_false_iff_ne]; omega
       have hz4 : decide (((thn.length : Nat) : Int) = 0) = false := decide_eq_false (by omega)
       have HE : Hid (R = false) := by unfold Hid; rw [HO.out]; simp [qthn]
       clear HO
       go_wp2_with fail
       go_ret
       exact ⟨by rw [HE.out]; rfl, HB.out⟩
     ·by_cases qk1 : kids.length < 2
      ·have hz5 : decide ((2 : Int) ≤ ((kids.length : Nat) : Int)) = false := decide_eq_false (by omega)
       have HE : Hid (R = false) := by unfold Hid; rw [HO.out]; simp [qk]
       clear HO
       go_wp2_with fail
       go_ret
       exact ⟨by rw [HE.out]; rfl, HB.out⟩
      ·have qk2 : 2 < kids.length := by omega
       have hz5 : decide ((2 : Int) ≤ ((kids.length : Nat) : Int)) = true := decide_eq_true (by omega)
       have hz6 : decide (((kids.length : Nat) : Int) ≤ 2) = false := decide_eq_false (by omega)
       have HE : Hid (R = false) := by unfold Hid; rw [HO.out]; simp [qk]
       clear HO
       go_wp2_with fail
       go_ret
       exact ⟨by rw [HE.out]; rfl, HB.out⟩
    ·have hz1 : (far == 0) = false := by simpa using qfar
     have hz2 : decide (far = 0) = false := decide_eq_false qfar
     have HE : Hid (R = false) := by unfold Hid; rw [HO.out]; simp [qfar]
     clear HO
     go_wp2_with fail
     go_ret
     exact ⟨by rw [HE.out]; rfl, HB.out⟩
   ·have hz1 : (num == 0) = false := by simpa using qnum
    have hz2 : decide (num = 0) = false := decide_eq_false qnum
    have HE : Hid (R = false) := by unfold Hid; rw [HO.out]; simp [qnum]
    clear HO
    go_wp2_with fail
    go_ret
    exact ⟨by rw [HE.out]; rfl, HB.out⟩
  | false =>
   go_wp2_with fail
   refine (hC.out _).mono ?_
   rintro e w' ⟨rfl, rfl⟩
   clear hC
   skip
   have HE : Hid (R = false) := by unfold Hid; rw [HO.out]; simp [qname]
   clear HO
   go_wp2_with fail
   go_ret
   exact ⟨by rw [HE.out]; rfl, HB.out⟩
 ·have hC : Hid (∀ w, Calls Tryz.prog 84 #[.int .i64 op, .int .i64 0, .int .i64 0] w fun e w' => e = .returned (.bool false) ∧ w' = w) := fun w => by have h := within_any op 0 0 w; rwa [show inB op 0 0 = false from inB_no.2 (by omega)] at h
  skip
  refine (hC.out _).mono ?_
  rintro e w' ⟨rfl, rfl⟩
  clear hC
  simp only []; rename_i kk hkk; simp only [List.append_eq, List.cons_append, List.nil_append] at hkk
  have HE : Hid (R = false) := by unfold Hid; rw [HO.out]; simp [qop]
  clear HO
  go_wp2_with fail
  go_ret
  exact ⟨by rw [HE.out]; rfl, HB.out⟩
end Go.Proofs.YtcecfmdjicjngaaGreatDoor
namespace Go.Proofs.YtcecfmdjicjngaaGreatDoor
open Go.RowKit
set_option linter.unusedVariables false
attribute [local go_sem] bs_size bs_get bs_extract bs_append bs_eq bs_toList
set_option maxHeartbeats 6400000 in
set_option maxRecDepth 100000 in
theorem has9 (K : Int) (R : Bool) (op : Int) (name : List UInt8) (num far : Int) (kids thn els : List Int) (a a2 a3 : Option Addr) (c c2 c3 : Nat) (w : World) (hl : name.length ≤ 1048576) (hk1 : kids.length ≤ 1048576) (hk2 : thn.length ≤ 1048576) (hk3 : els.length ≤ 1048576)
  (hO : R = (decide (op = 0) && name.isEmpty && decide (num = 0) && decide (far = 0) && decide (1 ≤ kids.length ∧ kids.length ≤ 1))) (hS : Shape K (shapeV 0 false false false 1 1 true true)) (hK : inB K 1 11 = true) :
  Calls Tryz.prog 85 #[.agg #[.int .i64 K, .int .i64 op, .string (bs name), .int .i64 num, .int .i64 far, .slice a kids.length c, .slice a2 thn.length c2, .slice a3 els.length c3]] w fun e w' => e = .returned (.bool R) ∧ Below w.heap.size w w' := by
 have HN : Hid (∀ w, Calls Tryz.prog 83 #[.string (bs name)] w fun e w' => e = .returned (.bool (isNameL name)) ∧ w' = w) := fun w => iIsName_any name w (by omega)
 have HW0 : Hid (∀ w, Calls Tryz.prog 84 #[.int .i64 K, .int .i64 1, .int .i64 11] w fun e w' => e = .returned (.bool true) ∧ w' = w) := fun w => by have h := within_any K 1 11 w; rwa [hK] at h
 have HS := hid hS
 have HO := hid hO
 clear hl hO hS hK
 go_enter Tryz.func85, Tryz.ntmps85
 go_wp2_with fail
 have hA := heap_alloc_new w (.cells #[.int .i64 K, .int .i64 op, .string (bs name), .int .i64 num, .int .i64 far, .slice a kids.length c, .slice a2 thn.length c2, .slice a3 els.length c3] 40)
 have hB : Below w.heap.size w (w.alloc (.cells #[.int .i64 K, .int .i64 op, .string (bs name), .int .i64 num, .int .i64 far, .slice a kids.length c, .slice a2 thn.length c2, .slice a3 els.length c3] 40)) := (Below.refl _ _).alloc (Nat.le_refl _) _
 generalize w.alloc (.cells #[.int .i64 K, .int .i64 op, .string (bs name), .int .i64 num, .int .i64 far, .slice a kids.length c, .slice a2 thn.length c2, .slice a3 els.length c3] 40) = W at *
 have k0 : W.cell? ⟨w.heap.size, 0, none⟩ = some (.int .i64 K) := cell_of_row _ _ 0 _ _ _ hA
 refine (HW0.out _).mono ?_
 rintro e w1 ⟨rfl, rfl⟩
 go_wp2_with fail
 refine (HS.out _).mono ?_
 rintro e w2 ⟨rfl, hb⟩
 have hA2 := blk hA hb
 have HB : Hid (Below w.heap.size w w2) := hB.trans (hb.mono hB.size)
 obtain ⟨d0, d1, d2, d3, d4, d5, d6, d7⟩ := cl8 hA2
 have hwl : w.heap.size < w2.heap.size := World.block_lt_of_cell? _ _ d0
 clear hA hB k0 hb hA2 HW0 HS
 go_wp2_with fail
 have hA3 := heap_alloc_new w2 (.cells #[.int .i64 0, .bool false, .bool false, .bool false, .int .i64 1, .int .i64 1, .bool true, .bool true] 200)
 have hB3 : Below w2.heap.size w2 (w2.alloc (.cells #[.int .i64 0, .bool false, .bool false, .bool false, .int .i64 1, .int .i64 1, .bool true, .bool true] 200)) := (Below.refl _ _).alloc (Nat.le_refl _) _
 generalize w2.alloc (.cells #[.int .i64 0, .bool false, .bool false, .bool false, .int .i64 1, .int .i64 1, .bool true, .bool true] 200) = W3 at *
 replace d0 : W3.cell? ⟨w.heap.size, 0, none⟩ = some (.int .i64 K) := (hB3.cell (p := ⟨w.heap.size, 0, none⟩) hwl).trans d0
 replace d1 : W3.cell? ⟨w.heap.size, 1, none⟩ = some (.int .i64 op) := (hB3.cell (p := ⟨w.heap.size, 1, none⟩) hwl).trans d1
 replace d2 : W3.cell? ⟨w.heap.size, 2, none⟩ = some (.string (bs name)) := (hB3.cell (p := ⟨w.heap.size, 2, none⟩) hwl).trans d2
 replace d3 : W3.cell? ⟨w.heap.size, 3, none⟩ = some (.int .i64 num) := (hB3.cell (p := ⟨w.heap.size, 3, none⟩) hwl).trans d3
 replace d4 : W3.cell? ⟨w.heap.size, 4, none⟩ = some (.int .i64 far) := (hB3.cell (p := ⟨w.heap.size, 4, none⟩) hwl).trans d4
 replace d5 : W3.cell? ⟨w.heap.size, 5, none⟩ = some (.slice a kids.length c) := (hB3.cell (p := ⟨w.heap.size, 5, none⟩) hwl).trans d5
 replace d6 : W3.cell? ⟨w.heap.size, 6, none⟩ = some (.slice a2 thn.length c2) := (hB3.cell (p := ⟨w.heap.size, 6, none⟩) hwl).trans d6
 replace d7 : W3.cell? ⟨w.heap.size, 7, none⟩ = some (.slice a3 els.length c3) := (hB3.cell (p := ⟨w.heap.size, 7, none⟩) hwl).trans d7
 obtain ⟨s0, s1, s2, s3, s4, s5, s6, s7⟩ := cl8 hA3
 replace HB : Hid (Below w.heap.size w W3) := HB.out.trans (hB3.mono HB.out.size)
 clear hA3 hB3 hwl
 generalize w2.heap.size = g2 at *
 by_cases qop : op = 0
 ·subst qop
  have hC : Hid (∀ w, Calls Tryz.prog 84 #[.int .i64 0, .int .i64 0, .int .i64 0] w fun e w' => e = .returned (.bool true) ∧ w' = w) := fun w => by have h := within_any 0 0 0 w; rwa [show inB 0 0 0 = true from by decide] at h
  skip
  refine (hC.out _).mono ?_
  rintro e w' ⟨rfl, rfl⟩
  clear hC
  simp only []; rename_i kk hkk; simp only [List.append_eq, List.cons_append, List.nil_append] at hkk
  by_cases qname : name = []
  ·subst qname
   by_cases qnum : num = 0
   ·subst qnum
    by_cases qfar : far = 0
    ·subst qfar
     by_cases qk : 1 ≤ kids.length ∧ kids.length ≤ 1
     ·have qk1 := qk.1
      have qk2 := qk.2
      have hz5 : decide ((1 : Int) ≤ ((kids.length : Nat) : Int)) = true := decide_eq_true (by omega)
      have hz6 : decide (((kids.length : Nat) : Int) ≤ 1) = true := decide_eq_true (by omega)
      have QK : Hid (1 ≤ kids.length ∧ kids.length ≤ 1) := qk
      clear qk qk1 qk2
      have HE : Hid (R = true) := by unfold Hid; rw [HO.out]; simp [QK.out]
      clear HO
      go_wp2_with fail
      go_ret
      exact ⟨by rw [HE.out]; rfl, HB.out⟩
     ·by_cases qk1 : kids.length < 1
      ·have hz5 : decide ((1 : Int) ≤ ((kids.length : Nat) : Int)) = false := decide_eq_false (by omega)
       have HE : Hid (R = false) := by unfold Hid; rw [HO.out]; simp [qk]
       clear HO
       go_wp2_with fail
       go_ret
       exact ⟨by rw [HE.out]; rfl, HB.out⟩
      ·have qk2 : 1 < kids.length := by omega
       have hz5 : decide ((1 : Int) ≤ ((kids.length : Nat) : Int)) = true := decide_eq_true (by omega)
       have hz6 : decide (((kids.length : Nat) : Int) ≤ 1) = false := decide_eq_false (by omega)
       have HE : Hid (R = false) := by unfold Hid; rw [HO.out]; simp [qk]
       clear HO
       go_wp2_with fail
       go_ret
       exact ⟨by rw [HE.out]; rfl, HB.out⟩
    ·have hz1 : (far == 0) = false := by simpa using qfar
     have hz2 : decide (far = 0) = false := decide_eq_false qfar
     have HE : Hid (R = false) := by unfold Hid; rw [HO.out]; simp [qfar]
     clear HO
     go_wp2_with fail
     go_ret
     exact ⟨by rw [HE.out]; rfl, HB.out⟩
   ·have hz1 : (num == 0) = false := by simpa using qnum
    have hz2 : decide (num = 0) = false := decide_eq_false qnum
    have HE : Hid (R = false) := by unfold Hid; rw [HO.out]; simp [qnum]
    clear HO
    go_wp2_with fail
    go_ret
    exact ⟨by rw [HE.out]; rfl, HB.out⟩
  ·have hz1 : (name == []) = false := by simpa using qname
   have hz2 : decide (name = []) = false := decide_eq_false qname
   have HE : Hid (R = false) := by unfold Hid; rw [HO.out]; simp [qname]
   clear HO
   go_wp2_with fail
   go_ret
   exact ⟨by rw [HE.out]; rfl, HB.out⟩
 ·have hC : Hid (∀ w, Calls Tryz.prog 84 #[.int .i64 op, .int .i64 0, .int .i64 0] w fun e w' => e = .returned (.bool false) ∧ w' = w) := fun w => by have h := within_any op 0 0 w; rwa [show inB op 0 0 = false from inB_no.2 (by omega)] at h
  skip
  refine (hC.out _).mono ?_
  rintro e w' ⟨rfl, rfl⟩
  clear hC
  simp only []; rename_i kk hkk; simp only [List.append_eq, List.cons_append, List.nil_append] at hkk
  have HE : Hid (R = false) := by unfold Hid; rw [HO.out]; simp [qop]
  clear HO
  go_wp2_with fail
  go_ret
  exact ⟨by rw [HE.out]; rfl, HB.out⟩
set_option maxHeartbeats 6400000 in
set_option maxRecDepth 100000 in
theorem has10 (K : Int) (R : Bool) (op : Int) (name : List UInt8) (num far : Int) (kids thn els : List Int) (a a2 a3 : Option Addr) (c c2 c3 : Nat) (w : World) (hl : name.length ≤ 1048576) (hk1 : kids.length ≤ 1048576) (hk2 : thn.length ≤ 1048576) (hk3 : els.length ≤ 1048576)
  (hO : R = (decide (op = 0) && isNameL name && inB num 0 65535 && inB far 0 65535 && kids.isEmpty && els.isEmpty)) (hS : Shape K (shapeV 0 true true true 0 0 true false)) (hK : inB K 1 11 = true) :
  Calls Tryz.prog 85 #[.agg #[.int .i64 K, .int .i64 op, .string (bs name), .int .i64 num, .int .i64 far, .slice a kids.length c, .slice a2 thn.length c2, .slice a3 els.length c3]] w fun e w' => e = .returned (.bool R) ∧ Below w.heap.size w w' := by
 have HN : Hid (∀ w, Calls Tryz.prog 83 #[.string (bs name)] w fun e w' => e = .returned (.bool (isNameL name)) ∧ w' = w) := fun w => iIsName_any name w (by omega)
 have HW0 : Hid (∀ w, Calls Tryz.prog 84 #[.int .i64 K, .int .i64 1, .int .i64 11] w fun e w' => e = .returned (.bool true) ∧ w' = w) := fun w => by have h := within_any K 1 11 w; rwa [hK] at h
 have HS := hid hS
 have HO := hid hO
 clear hl hO hS hK
 go_enter Tryz.func85, Tryz.ntmps85
 go_wp2_with fail
 have hA := heap_alloc_new w (.cells #[.int .i64 K, .int .i64 op, .string (bs name), .int .i64 num, .int .i64 far, .slice a kids.length c, .slice a2 thn.length c2, .slice a3 els.length c3] 40)
 have hB : Below w.heap.size w (w.alloc (.cells #[.int .i64 K, .int .i64 op, .string (bs name), .int .i64 num, .int .i64 far, .slice a kids.length c, .slice a2 thn.length c2, .slice a3 els.length c3] 40)) := (Below.refl _ _).alloc (Nat.le_refl _) _
 generalize w.alloc (.cells #[.int .i64 K, .int .i64 op, .string (bs name), .int .i64 num, .int .i64 far, .slice a kids.length c, .slice a2 thn.length c2, .slice a3 els.length c3] 40) = W at *
 have k0 : W.cell? ⟨w.heap.size, 0, none⟩ = some (.int .i64 K) := cell_of_row _ _ 0 _ _ _ hA
 refine (HW0.out _).mono ?_
 rintro e w1 ⟨rfl, rfl⟩
 go_wp2_with fail
 refine (HS.out _).mono ?_
 rintro e w2 ⟨rfl, hb⟩
 have hA2 := blk hA hb
 have HB : Hid (Below w.heap.size w w2) := hB.trans (hb.mono hB.size)
 obtain ⟨d0, d1, d2, d3, d4, d5, d6, d7⟩ := cl8 hA2
 have hwl : w.heap.size < w2.heap.size := World.block_lt_of_cell? _ _ d0
 clear hA hB k0 hb hA2 HW0 HS
 go_wp2_with fail
 have hA3 := heap_alloc_new w2 (.cells #[.int .i64 0, .bool true, .bool true, .bool true, .int .i64 0, .int .i64 0, .bool true, .bool false] 200)
 have hB3 : Below w2.heap.size w2 (w2.alloc (.cells #[.int .i64 0, .bool true, .bool true, .bool true, .int .i64 0, .int .i64 0, .bool true, .bool false] 200)) := (Below.refl _ _).alloc (Nat.le_refl _) _
 generalize w2.alloc (.cells #[.int .i64 0, .bool true, .bool true, .bool true, .int .i64 0, .int .i64 0, .bool true, .bool false] 200) = W3 at *
 replace d0 : W3.cell? ⟨w.heap.size, 0, none⟩ = some (.int .i64 K) := (hB3.cell (p := ⟨w.heap.size, 0, none⟩) hwl).trans d0
 replace d1 : W3.cell? ⟨w.heap.size, 1, none⟩ = some (.int .i64 op) := (hB3.cell (p := ⟨w.heap.size, 1, none⟩) hwl).trans d1
 replace d2 : W3.cell? ⟨w.heap.size, 2, none⟩ = some (.string (bs name)) := (hB3.cell (p := ⟨w.heap.size, 2, none⟩) hwl).trans d2
 replace d3 : W3.cell? ⟨w.heap.size, 3, none⟩ = some (.int .i64 num) := (hB3.cell (p := ⟨w.heap.size, 3, none⟩) hwl).trans d3
 replace d4 : W3.cell? ⟨w.heap.size, 4, none⟩ = some (.int .i64 far) := (hB3.cell (p := ⟨w.heap.size, 4, none⟩) hwl).trans d4
 replace d5 : W3.cell? ⟨w.heap.size, 5, none⟩ = some (.slice a kids.length c) := (hB3.cell (p := ⟨w.heap.size, 5, none⟩) hwl).trans d5
 replace d6 : W3.cell? ⟨w.heap.size, 6, none⟩ = some (.slice a2 thn.length c2) := (hB3.cell (p := ⟨w.heap.size, 6, none⟩) hwl).trans d6
 replace d7 : W3.cell? ⟨w.heap.size, 7, none⟩ = some (.slice a3 els.length c3) := (hB3.cell (p := ⟨w.heap.size, 7, none⟩) hwl).trans d7
 obtain ⟨s0, s1, s2, s3, s4, s5, s6, s7⟩ := cl8 hA3
 replace HB : Hid (Below w.heap.size w W3) := HB.out.trans (hB3.mono HB.out.size)
 clear hA3 hB3 hwl
 generalize w2.heap.size = g2 at *
 by_cases qop : op = 0
 ·subst qop
  have hC : Hid (∀ w, Calls Tryz.prog 84 #[.int .i64 0, .int .i64 0, .int .i64 0] w fun e w' => e = .returned (.bool true) ∧ w' = w) := fun w => by have h := within_any 0 0 0 w; rwa [show inB 0 0 0 = true from by decide] at h
  skip
  refine (hC.out _).mono ?_
  rintro e w' ⟨rfl, rfl⟩
  clear hC
  simp only []; rename_i kk hkk; simp only [List.append_eq, List.cons_append, List.nil_append] at hkk
  obtain ⟨q, qname⟩ : ∃ q, isNameL name = q := ⟨_, rfl⟩
  have hC : Hid (∀ w, Calls Tryz.prog 83 #[.string (bs name)] w fun e w' => e = .returned (.bool q) ∧ w' = w) := fun w => by have h := HN.out w; rwa [qname] at h
  cases q with
  | true =>
   go_wp2_with fail
   refine (hC.out _).mono ?_
   rintro e w' ⟨rfl, rfl⟩
   clear hC
   skip
   obtain ⟨q, qnum⟩ : ∃ q, inB num 0 65535 = q := ⟨_, rfl⟩
   have hC : Hid (∀ w, Calls Tryz.prog 155 #[.int .i64 num] w fun e w' => e = .returned (.bool q) ∧ w' = w) := fun w => by have h := fitsWord_any num w; rwa [qnum] at h
   cases q with
   | true =>
    go_wp2_with fail
    refine (hC.out _).mono ?_
    rintro e w' ⟨rfl, rfl⟩
    clear hC
    skip
    obtain ⟨q, qfar⟩ : ∃ q, inB far 0 65535 = q := ⟨_, rfl⟩
    have hC : Hid (∀ w, Calls Tryz.prog 155 #[.int .i64 far] w fun e w' => e = .returned (.bool q) ∧ w' = w) := fun w => by have h := fitsWord_any far w; rwa [qfar] at h
    cases q with
    | true =>
     go_wp2_with fail
     refine (hC.out _).mono ?_
     rintro e w' ⟨rfl, rfl⟩
     clear hC
     skip
     by_cases qkids : kids = []
     ·subst qkids
      by_cases qels : els = []
      ·subst qels
       have HE : Hid (R = true) := by unfold Hid; rw [HO.out]; simp [qname, qnum, qfar]
       clear HO
       go_wp2_with fail
       go_ret
       exact ⟨by rw [HE.out]; rfl, HB.out⟩
      ·have hz : 0 < els.length := List.length_pos_iff.2 qels
       have hz3 : (((els.length : Nat) : Int) == 0) = false := by rw [beq_eq_false_iff_ne]; omega
       have hz4 : decide (((els.length : Nat) : Int) = 0) = false := decide_eq_false (by omega)
       have HE : Hid (R = false) := by unfold Hid; rw [HO.out]; simp [qels]
       clear HO
       go_wp2_with fail
       go_ret
       exact ⟨by rw [HE.out]; rfl, HB.out⟩
     ·have hz : 0 < kids.length := List.length_pos_iff.2 qkids
      have hz3 : (((kids.length : Nat) : Int) == 0) = false := by rw [beq_eq_false_iff_ne]; omega
      have hz4 : decide (((kids.length : Nat) : Int) = 0) = false := decide_eq_false (by omega)
      have hz5 : decide (((kids.length : Nat) : Int) ≤ 0) = false := decide_eq_false (by omega)
      have HE : Hid (R = false) := by unfold Hid; rw [HO.out]; simp [qkids]
      clear HO
      go_wp2_with fail
      go_ret
      exact ⟨by rw [HE.out]; rfl, HB.out⟩
    | false =>
     have hz : far ≠ 0 := by rintro rfl; simp [inB] at qfar
     have hz1 : (far == 0) = false := by simpa using hz
     have hz2 : decide (far = 0) = false := decide_eq_false hz
     go_wp2_with fail
     refine (hC.out _).mono ?_
     rintro e w' ⟨rfl, rfl⟩
     clear hC
     skip
     have HE : Hid (R = false) := by unfold Hid; rw [HO.out]; simp [qfar]
     clear HO
     go_wp2_with fail
     go_ret
     exact ⟨by rw [HE.out]; rfl, HB.out⟩
   | false =>
    have hz : num ≠ 0 := by rintro rfl; simp [inB] at qnum
    have hz1 : (num == 0) = false := by simpa using hz
    have hz2 : decide (num = 0) = false := decide_eq_false hz
    go_wp2_with fail
    refine (hC.out _).mono ?_
    rintro e w' ⟨rfl, rfl⟩
    clear hC
    skip
    have HE : Hid (R = false) := by unfold Hid; rw [HO.out]; simp [qnum]
    clear HO
    go_wp2_with fail
    go_ret
    exact ⟨by rw [HE.out]; rfl, HB.out⟩
  | false =>
   go_wp2_with fail
   refine (hC.out _).mono ?_
   rintro e w' ⟨rfl, rfl⟩
   clear hC
   skip
   have HE : Hid (R = false) := by unfold Hid; rw [HO.out]; simp [qname]
   clear HO
   go_wp2_with fail
   go_ret
   exact ⟨by rw [HE.out]; rfl, HB.out⟩
 ·have hC : Hid (∀ w, Calls Tryz.prog 84 #[.int .i64 op, .int .i64 0, .int .i64 0] w fun e w' => e = .returned (.bool false) ∧ w' = w) := fun w => by have h := within_any op 0 0 w; rwa [show inB op 0 0 = false from inB_no.2 (by omega)] at h
  skip
  refine (hC.out _).mono ?_
  rintro e w' ⟨rfl, rfl⟩
  clear hC
  simp only []; rename_i kk hkk; simp only [List.append_eq, List.cons_append, List.nil_append] at hkk
  have HE : Hid (R = false) := by unfold Hid; rw [HO.out]; simp [qop]
  clear HO
  go_wp2_with fail
  go_ret
  exact ⟨by rw [HE.out]; rfl, HB.out⟩
set_option maxHeartbeats 6400000 in
set_option maxRecDepth 100000 in
theorem has11 (K : Int) (R : Bool) (op : Int) (name : List UInt8) (num far : Int) (kids thn els : List Int) (a a2 a3 : Option Addr) (c c2 c3 : Nat) (w : World) (hl : name.length ≤ 1048576) (hk1 : kids.length ≤ 1048576) (hk2 : thn.length ≤ 1048576) (hk3 : els.length ≤ 1048576)
  (hO : R = (inB op 1 4 && isNameL name && decide (num = 0) && decide (far = 0) && decide (1 ≤ kids.length ∧ kids.length ≤ 3) && thn.isEmpty && els.isEmpty)) (hS : Shape K (shapeV 4 true false false 1 3 false false)) (hK : inB K 1 11 = true) :
  Calls Tryz.prog 85 #[.agg #[.int .i64 K, .int .i64 op, .string (bs name), .int .i64 num, .int .i64 far, .slice a kids.length c, .slice a2 thn.length c2, .slice a3 els.length c3]] w fun e w' => e = .returned (.bool R) ∧ Below w.heap.size w w' := by
 have HN : Hid (∀ w, Calls Tryz.prog 83 #[.string (bs name)] w fun e w' => e = .returned (.bool (isNameL name)) ∧ w' = w) := fun w => iIsName_any name w (by omega)
 have HW0 : Hid (∀ w, Calls Tryz.prog 84 #[.int .i64 K, .int .i64 1, .int .i64 11] w fun e w' => e = .returned (.bool true) ∧ w' = w) := fun w => by have h := within_any K 1 11 w; rwa [hK] at h
 have HS := hid hS
 have HO := hid hO
 clear hl hO hS hK
 go_enter Tryz.func85, Tryz.ntmps85
 go_wp2_with fail
 have hA := heap_alloc_new w (.cells #[.int .i64 K, .int .i64 op, .string (bs name), .int .i64 num, .int .i64 far, .slice a kids.length c, .slice a2 thn.length c2, .slice a3 els.length c3] 40)
 have hB : Below w.heap.size w (w.alloc (.cells #[.int .i64 K, .int .i64 op, .string (bs name), .int .i64 num, .int .i64 far, .slice a kids.length c, .slice a2 thn.length c2, .slice a3 els.length c3] 40)) := (Below.refl _ _).alloc (Nat.le_refl _) _
 generalize w.alloc (.cells #[.int .i64 K, .int .i64 op, .string (bs name), .int .i64 num, .int .i64 far, .slice a kids.length c, .slice a2 thn.length c2, .slice a3 els.length c3] 40) = W at *
 have k0 : W.cell? ⟨w.heap.size, 0, none⟩ = some (.int .i64 K) := cell_of_row _ _ 0 _ _ _ hA
 refine (HW0.out _).mono ?_
 rintro e w1 ⟨rfl, rfl⟩
 go_wp2_with fail
 refine (HS.out _).mono ?_
 rintro e w2 ⟨rfl, hb⟩
 have hA2 := blk hA hb
 have HB : Hid (Below w.heap.size w w2) := hB.trans (hb.mono hB.size)
 obtain ⟨d0, d1, d2, d3, d4, d5, d6, d7⟩ := cl8 hA2
 have hwl : w.heap.size < w2.heap.size := World.block_lt_of_cell? _ _ d0
 clear hA hB k0 hb hA2 HW0 HS
 go_wp2_with fail
 have hA3 := heap_alloc_new w2 (.cells #[.int .i64 4, .bool true, .bool false, .bool false, .int .i64 1, .int .i64 3, .bool false, .bool false] 200)
 have hB3 : Below w2.heap.size w2 (w2.alloc (.cells #[.int .i64 4, .bool true, .bool false, .bool false, .int .i64 1, .int .i64 3, .bool false, .bool false] 200)) := (Below.refl _ _).alloc (Nat.le_refl _) _
 generalize w2.alloc (.cells #[.int .i64 4, .bool true, .bool false, .bool false, .int .i64 1, .int .i64 3, .bool false, .bool false] 200) = W3 at *
 replace d0 : W3.cell? ⟨w.heap.size, 0, none⟩ = some (.int .i64 K) := (hB3.cell (p := ⟨w.heap.size, 0, none⟩) hwl).trans d0
 replace d1 : W3.cell? ⟨w.heap.size, 1, none⟩ = some (.int .i64 op) := (hB3.cell (p := ⟨w.heap.size, 1, none⟩) hwl).trans d1
 replace d2 : W3.cell? ⟨w.heap.size, 2, none⟩ = some (.string (bs name)) := (hB3.cell (p := ⟨w.heap.size, 2, none⟩) hwl).trans d2
 replace d3 : W3.cell? ⟨w.heap.size, 3, none⟩ = some (.int .i64 num) := (hB3.cell (p := ⟨w.heap.size, 3, none⟩) hwl).trans d3
 replace d4 : W3.cell? ⟨w.heap.size, 4, none⟩ = some (.int .i64 far) := (hB3.cell (p := ⟨w.heap.size, 4, none⟩) hwl).trans d4
 replace d5 : W3.cell? ⟨w.heap.size, 5, none⟩ = some (.slice a kids.length c) := (hB3.cell (p := ⟨w.heap.size, 5, none⟩) hwl).trans d5
 replace d6 : W3.cell? ⟨w.heap.size, 6, none⟩ = some (.slice a2 thn.length c2) := (hB3.cell (p := ⟨w.heap.size, 6, none⟩) hwl).trans d6
 replace d7 : W3.cell? ⟨w.heap.size, 7, none⟩ = some (.slice a3 els.length c3) := (hB3.cell (p := ⟨w.heap.size, 7, none⟩) hwl).trans d7
 obtain ⟨s0, s1, s2, s3, s4, s5, s6, s7⟩ := cl8 hA3
 replace HB : Hid (Below w.heap.size w W3) := HB.out.trans (hB3.mono HB.out.size)
 clear hA3 hB3 hwl
 generalize w2.heap.size = g2 at *
 obtain ⟨q, qop⟩ : ∃ q, inB op 1 4 = q := ⟨_, rfl⟩
 have hC : Hid (∀ w, Calls Tryz.prog 84 #[.int .i64 op, .int .i64 1, .int .i64 4] w fun e w' => e = .returned (.bool q) ∧ w' = w) := fun w => by have h := within_any op 1 4 w; rwa [qop] at h
 cases q with
 | true =>
  skip
  refine (hC.out _).mono ?_
  rintro e w' ⟨rfl, rfl⟩
  clear hC
  simp only []; rename_i kk hkk; simp only [List.append_eq, List.cons_append, List.nil_append] at hkk
  obtain ⟨q, qname⟩ : ∃ q, isNameL name = q := ⟨_, rfl⟩
  have hC : Hid (∀ w, Calls Tryz.prog 83 #[.string (bs name)] w fun e w' => e = .returned (.bool q) ∧ w' = w) := fun w => by have h := HN.out w; rwa [qname] at h
  cases q with
  | true =>
   go_wp2_with fail
   refine (hC.out _).mono ?_
   rintro e w' ⟨rfl, rfl⟩
   clear hC
   skip
   by_cases qnum : num = 0
   ·subst qnum
    by_cases qfar : far = 0
    ·subst qfar
     by_cases qk : 1 ≤ kids.length ∧ kids.length ≤ 3
     ·have qk1 := qk.1
      have qk2 := qk.2
      have hz5 : decide ((1 : Int) ≤ ((kids.length : Nat) : Int)) = true := decide_eq_true (by omega)
      have hz6 : decide (((kids.length : Nat) : Int) ≤ 3) = true := decide_eq_true (by omega)
      have QK : Hid (1 ≤ kids.length ∧ kids.length ≤ 3) := qk
      clear qk qk1 qk2
      by_cases qthn : thn = []
      ·subst qthn
       by_cases qels : els = []
       ·subst qels
        have HE : Hid (R = true) := by unfold Hid; rw [HO.out]; simp [qop, qname, QK.out]
        clear HO
        go_wp2_with fail
        go_ret
        exact ⟨by rw [HE.out]; rfl, HB.out⟩
       ·have hz : 0 < els.length := List.length_pos_iff.2 qels
        have hz3 : (((els.length : Nat) : Int) == 0) = false := by rw [beq_eq_false_iff_ne]; omega
        have hz4 : decide (((els.length : Nat) : Int) = 0) = false := decide_eq_false (by omega)
        have HE : Hid (R = false) := by unfold Hid; rw [HO.out]; simp [qels]
        clear HO
        go_wp2_with fail
        go_ret
        exact ⟨by rw [HE.out]; rfl, HB.out⟩
      ·have hz : 0 < thn.length := List.length_pos_iff.2 qthn
       have hz3 : (((thn.length : Nat) : Int) == 0) = false := by rw [beq_eq_false_iff_ne]; omega
       have hz4 : decide (((thn.length : Nat) : Int) = 0) = false := decide_eq_false (by omega)
       have HE : Hid (R = false) := by unfold Hid; rw [HO.out]; simp [qthn]
       clear HO
       go_wp2_with fail
       go_ret
       exact ⟨by rw [HE.out]; rfl, HB.out⟩
     ·by_cases qk1 : kids.length < 1
      ·have hz5 : decide ((1 : Int) ≤ ((kids.length : Nat) : Int)) = false := decide_eq_false (by omega)
       have HE : Hid (R = false) := by unfold Hid; rw [HO.out]; simp [qk]
       clear HO
       go_wp2_with fail
       go_ret
       exact ⟨by rw [HE.out]; rfl, HB.out⟩
      ·have qk2 : 3 < kids.length := by omega
       have hz5 : decide ((1 : Int) ≤ ((kids.length : Nat) : Int)) = true := decide_eq_true (by omega)
       have hz6 : decide (((kids.length : Nat) : Int) ≤ 3) = false := decide_eq_false (by omega)
       have HE : Hid (R = false) := by unfold Hid; rw [HO.out]; simp [qk]
       clear HO
       go_wp2_with fail
       go_ret
       exact ⟨by rw [HE.out]; rfl, HB.out⟩
    ·have hz1 : (far == 0) = false := by simpa using qfar
     have hz2 : decide (far = 0) = false := decide_eq_false qfar
     have HE : Hid (R = false) := by unfold Hid; rw [HO.out]; simp [qfar]
     clear HO
     go_wp2_with fail
     go_ret
     exact ⟨by rw [HE.out]; rfl, HB.out⟩
   ·have hz1 : (num == 0) = false := by simpa using qnum
    have hz2 : decide (num = 0) = false := decide_eq_false qnum
    have HE : Hid (R = false) := by unfold Hid; rw [HO.out]; simp [qnum]
    clear HO
    go_wp2_with fail
    go_ret
    exact ⟨by rw [HE.out]; rfl, HB.out⟩
  | false =>
   go_wp2_with fail
   refine (hC.out _).mono ?_
   rintro e w' ⟨rfl, rfl⟩
   clear hC
   skip
   have HE : Hid (R = false) := by unfold Hid; rw [HO.out]; simp [qname]
   clear HO
   go_wp2_with fail
   go_ret
   exact ⟨by rw [HE.out]; rfl, HB.out⟩
 | false =>
  skip
  refine (hC.out _).mono ?_
  rintro e w' ⟨rfl, rfl⟩
  clear hC
  simp only []; rename_i kk hkk; simp only [List.append_eq, List.cons_append, List.nil_append] at hkk
  have HE : Hid (R = false) := by unfold Hid; rw [HO.out]; simp [qop]
  clear HO
  go_wp2_with fail
  go_ret
  exact ⟨by rw [HE.out]; rfl, HB.out⟩
end Go.Proofs.YtcecfmdjicjngaaGreatDoor
namespace Go.Proofs.YtcecfmdjicjngaaGreatDoor
open Go.RowKit
set_option linter.unusedVariables false
attribute [local go_sem] bs_size bs_get bs_extract bs_append bs_eq bs_toList
set_option maxHeartbeats 1600000 in
theorem hasShape_any (n : LNode) (a a2 a3 : Option Addr) (c c2 c3 : Nat) (w : World) (hl : n.name.length ≤ 1048576) (hk1 : n.kids.length ≤ 1048576) (hk2 : n.thn.length ≤ 1048576) (hk3 : n.els.length ≤ 1048576) :
  Calls Tryz.prog 85 #[nodeV n (.slice a n.kids.length c) (.slice a2 n.thn.length c2) (.slice a3 n.els.length c3)] w fun e w' => e = .returned (.bool (ownB n)) ∧ Below w.heap.size w w' := by
 obtain ⟨K, op, name, num, far, kids, thn, els⟩ := n
 by_cases hK : inB K 1 11 = true
 ·have h := inB_iff.1 hK
  have : K = 1 ∨ K = 2 ∨ K = 3 ∨ K = 4 ∨ K = 5 ∨ K = 6 ∨ K = 7 ∨ K = 8 ∨ K = 9 ∨ K = 10 ∨ K = 11 := by omega
  rcases this with rfl | rfl | rfl | rfl | rfl | rfl | rfl | rfl | rfl | rfl | rfl
  ·exact has1 1 _ op name num far kids thn els a a2 a3 c c2 c3 w hl hk1 hk2 hk3 (ownK1 op name num far kids thn els) sh1 hK
  ·exact has2 2 _ op name num far kids thn els a a2 a3 c c2 c3 w hl hk1 hk2 hk3 (ownK2 op name num far kids thn els) sh2 hK
  ·exact has3 3 _ op name num far kids thn els a a2 a3 c c2 c3 w hl hk1 hk2 hk3 (ownK3 op name num far kids thn els) sh3 hK
  ·exact has4 4 _ op name num far kids thn els a a2 a3 c c2 c3 w hl hk1 hk2 hk3 (ownK4 op name num far kids thn els) sh4 hK
  ·exact has4 5 _ op name num far kids thn els a a2 a3 c c2 c3 w hl hk1 hk2 hk3 (ownK5 op name num far kids thn els) sh5 hK
  ·exact has6 6 _ op name num far kids thn els a a2 a3 c c2 c3 w hl hk1 hk2 hk3 (ownK6 op name num far kids thn els) sh6 hK
  ·exact has3 7 _ op name num far kids thn els a a2 a3 c c2 c3 w hl hk1 hk2 hk3 (ownK7 op name num far kids thn els) sh7 hK
  ·exact has8 8 _ op name num far kids thn els a a2 a3 c c2 c3 w hl hk1 hk2 hk3 (ownK8 op name num far kids thn els) sh8 hK
  ·exact has9 9 _ op name num far kids thn els a a2 a3 c c2 c3 w hl hk1 hk2 hk3 (ownK9 op name num far kids thn els) sh9 hK
  ·exact has10 10 _ op name num far kids thn els a a2 a3 c c2 c3 w hl hk1 hk2 hk3 (ownK10 op name num far kids thn els) sh10 hK
  ·exact has11 11 _ op name num far kids thn els a a2 a3 c c2 c3 w hl hk1 hk2 hk3 (ownK11 op name num far kids thn els) sh11 hK
 ·have hK : inB K 1 11 = false := by simpa using hK
  have HE : Hid (ownB ⟨K, op, name, num, far, kids, thn, els⟩ = false) := by unfold Hid ownB; simp only [hK, Bool.false_and]
  have HW0 : Hid (∀ w, Calls Tryz.prog 84 #[.int .i64 K, .int .i64 1, .int .i64 11] w fun e w' => e = .returned (.bool false) ∧ w' = w) := fun w => by have h := within_any K 1 11 w; rwa [hK] at h
  generalize ownB ⟨K, op, name, num, far, kids, thn, els⟩ = R at *
  clear hK
  go_enter Tryz.func85, Tryz.ntmps85
  go_wp2_with fail
  have hA := heap_alloc_new w (.cells #[.int .i64 K, .int .i64 op, .string (bs name), .int .i64 num, .int .i64 far, .slice a kids.length c, .slice a2 thn.length c2, .slice a3 els.length c3] 40)
  have hB : Below w.heap.size w (w.alloc (.cells #[.int .i64 K, .int .i64 op, .string (bs name), .int .i64 num, .int .i64 far, .slice a kids.length c, .slice a2 thn.length c2, .slice a3 els.length c3] 40)) := (Below.refl _ _).alloc (Nat.le_refl _) _
  generalize w.alloc (.cells #[.int .i64 K, .int .i64 op, .string (bs name), .int .i64 num, .int .i64 far, .slice a kids.length c, .slice a2 thn.length c2, .slice a3 els.length c3] 40) = W at *
  refine (HW0.out _).mono ?_
  rintro e w1 ⟨rfl, rfl⟩
  go_wp2_with fail
  go_ret
  exact ⟨by rw [HE.out]; rfl, hB⟩
end Go.Proofs.YtcecfmdjicjngaaGreatDoor
namespace Go.Proofs.YtcecfmdjicjngaaGreatDoor
open Go.RowKit
set_option linter.unusedVariables false
attribute [local go_sem] bs_size bs_get bs_extract bs_append bs_eq bs_toList
def partsB (N : List LNode) (m : Nat) (n : LNode) : Bool := kidsB N m n.kids && statB N m n.thn && statB N m n.els
set_option maxHeartbeats 6400000 in
set_option maxRecDepth 100000 in
theorem hasParts_any (N : List LNode) (m : Nat) (a2 : Option Addr) (c2 : Nat) (n : LNode) (vk vt ve : Value) (w : World) (hm : m ≤ N.length) (hm1 : m ≤ 1048576) (hK : Kinds w a2 N m)
  (hv1 : IntsB w.heap.size w vk n.kids) (hv2 : IntsB w.heap.size w vt n.thn) (hv3 : IntsB w.heap.size w ve n.els) (hl1 : n.kids.length ≤ 1048576) (hl2 : n.thn.length ≤ 1048576) (hl3 : n.els.length ≤ 1048576) :
  Calls Tryz.prog 86 #[.slice a2 m c2, nodeV n vk vt ve] w fun e w' => e = .returned (.bool (partsB N m n)) ∧ Below w.heap.size w w' := by
 have HV2 := hid hv2
 have HV3 := hid hv3
 have HKI : Hid (Kinds w a2 N m) := hK
 obtain ⟨a, cp, rfl, hh⟩ := hv1
 obtain ⟨at2, ct, rfl, _⟩ := id hv2
 obtain ⟨ae, ce, rfl, _⟩ := id hv3
 have HH := hid hh
 have HK := hid hK
 have HP : Hid (∀ (z : Int) (w : World), Calls Tryz.prog 78 #[.slice a2 m c2, .int .i64 z] w fun e w' => e = .returned (.bool (inB z 0 ((m : Int) - 1))) ∧ w' = w) := fun z w => isPlace_any a2 m c2 z w (by omega)
 have HX : Hid (∀ (z : Int) (w : World), Calls Tryz.prog 80 #[.int .i64 z] w fun e w' => e = .returned (.bool (inB z 1 6)) ∧ w' = w) := isExpression_any
 have HM : Hid (m ≤ N.length) := hm
 clear hh hK hm hv2 hv3
 go_enter Tryz.func86, Tryz.ntmps86
 go_wp2
 have hA := heap_alloc_new w (.cells #[.int .i64 n.kind, .int .i64 n.op, .string (bs n.name), .int .i64 n.num, .int .i64 n.far, .slice a n.kids.length cp, .slice at2 n.thn.length ct, .slice ae n.els.length ce] 40)
 have hB : Below w.heap.size w (w.alloc (.cells #[.int .i64 n.kind, .int .i64 n.op, .string (bs n.name), .int .i64 n.num, .int .i64 n.far, .slice a n.kids.length cp, .slice at2 n.thn.length ct, .slice ae n.els.length ce] 40)) := (Below.refl _ _).alloc (Nat.le_refl _) _
 generalize w.alloc (.cells #[.int .i64 n.kind, .int .i64 n.op, .string (bs n.name), .int .i64 n.num, .int .i64 n.far, .slice a n.kids.length cp, .slice at2 n.thn.length ct, .slice ae n.els.length ce] 40) = W at *
 obtain ⟨-, -, -, -, -, -, e6, e7⟩ := cl8 hA
 have HE6 : Hid (W.cell? ⟨w.heap.size, 6, none⟩ = some (.slice at2 n.thn.length ct)) := e6
 have HE7 : Hid (W.cell? ⟨w.heap.size, 7, none⟩ = some (.slice ae n.els.length ce)) := e7
 have HB := hid hB
 have HS : ∀ (v : Value) (l : List Int), IntsB w.heap.size w v l → l.length ≤ 1048576 → ∀ W1, SameW W1 W → Calls Tryz.prog 87 #[.slice a2 m c2, v] W1 fun e w' => e = .returned (.bool (statB N m l)) ∧ w' = W1 := fun v l hv hl W1 hW => by
  have hW : W1 = W := hW
  subst hW
  refine areStatements_any N m a2 c2 v l w.heap.size W1 HM.out hm1 ?_ (hv.keep (fun q hq => hB.block q hq) (Nat.le_refl _)) hl
  intro h0
  obtain ⟨b, o, e, hc⟩ := HKI.out h0
  exact ⟨b, o, e, fun i x hi hx => by have := hc i x hi hx; exact (hB.cell (p := ⟨b, o + i * 8, none⟩) (World.block_lt_of_cell? _ _ this)).trans this⟩
 have HS1 : Hid (∀ W1, SameW W1 W → Calls Tryz.prog 87 #[.slice a2 m c2, .slice at2 n.thn.length ct] W1 fun e w' => e = .returned (.bool (statB N m n.thn)) ∧ w' = W1) := HS _ _ HV2.out hl2
 have HS2 : Hid (∀ W1, SameW W1 W → Calls Tryz.prog 87 #[.slice a2 m c2, .slice ae n.els.length ce] W1 fun e w' => e = .returned (.bool (statB N m n.els)) ∧ w' = W1) := HS _ _ HV3.out hl3
 clear hA hB HS e6 e7
 go_loopw [10] (fun i wr => ∃ k : Nat, k ≤ n.kids.length ∧ i = .int .i64 k ∧ (∀ j x, j < k → n.kids[j]? = some x → (inB x 0 ((m : Int) - 1) && inB (kindAt N x) 1 6) = true) ∧ SameW wr W) (fun i _ => n.kids.length - (intOf i).toNat)
 case atStart => exact ⟨0, by omega, rfl, by omega, rfl⟩
 case round =>
  obtain ⟨k, hk, rfl, hall, hw⟩ := hrel
  have HALL := hid hall
  have HW : Hid (SameW wr W) := hw
  have HBW : Hid (Below w.heap.size w wr) := by unfold Hid; have : wr = W := hw; rw [this]; exact HB.out
  clear hall
  by_cases hlt : k < n.kids.length
  ·obtain ⟨x, hx⟩ : ∃ x, n.kids[k]? = some x := ⟨n.kids[k], List.getElem?_eq_getElem hlt⟩
   obtain ⟨b, o, rfl, _, hc1⟩ := HH.out (by intro e; rw [e] at hlt; simp at hlt)
   have c0 := (HBW.out.cell (p := ⟨b, o + k, none⟩) (World.block_lt_of_cell? _ _ (hc1 k x hx))).trans (hc1 k x hx)
   have hk0 : (0 : Int) ≤ (k : Int) := by omega
   have hk1 : (k : Int) < (n.kids.length : Int) := by omega
   have HL : Hid (n.kids[k]? = some x) := hx
   clear hx hc1
   obtain ⟨q, hq⟩ : ∃ q, inB x 0 ((m : Int) - 1) = q := ⟨_, rfl⟩
   cases q with
   | false =>
    have hI : Hid (∀ w, Calls Tryz.prog 78 #[.slice a2 m c2, .int .i64 x] w fun e w' => e = .returned (.bool false) ∧ w' = w) := fun w => by have h := HP.out x w; rwa [hq] at h
    have e : kidsB N m n.kids = false := List.all_eq_false.2 ⟨x, List.mem_of_getElem? HL.out, by simp [hq]⟩
    have He : Hid (partsB N m n = false) := by unfold Hid partsB; rw [e]; rfl
    clear e hq hw
    go_wp2_with fail
    refine (hI.out _).mono ?_
    rintro e w1 ⟨rfl, rfl⟩
    go_wp2_with fail
    go_ret
    exact ⟨by rw [He.out]; rfl, HBW.out⟩
   | true =>
    have hq2 := inB_iff.1 hq
    obtain ⟨j, rfl⟩ : ∃ j : Nat, x = j := ⟨x.toNat, by omega⟩
    have hjm : j < m := by omega
    obtain ⟨y, hy⟩ : ∃ y, N[j]? = some y := ⟨N[j]'(by have := HM.out; omega), List.getElem?_eq_getElem _⟩
    obtain ⟨g2, o2, rfl, hc2⟩ := HK.out (by omega)
    have d0 := (HBW.out.cell (p := ⟨g2, o2 + j * 8, none⟩) (World.block_lt_of_cell? _ _ (hc2 j y hjm hy))).trans (hc2 j y hjm hy)
    have hkd : kindAt N (j : Int) = y.kind := by
     have : N.getD ((j : Int)).toNat default = y := by simp [hy]
     unfold kindAt; rw [this]
    have HR : Hid ((inB (j : Int) 0 ((m : Int) - 1) && inB (kindAt N (j : Int)) 1 6) = inB y.kind 1 6) := by unfold Hid; rw [hq, hkd]; rfl
    have hj0 : (0 : Int) ≤ (j : Int) := by omega
    have hj1 : (j : Int) < (m : Int) := by omega
    have hI : Hid (∀ w, Calls Tryz.prog 78 #[.slice (some ⟨g2, o2, none⟩) m c2, .int .i64 (j : Int)] w fun e w' => e = .returned (.bool true) ∧ w' = w) := fun w => by have h := HP.out (j : Int) w; rwa [hq] at h
    clear hq hq2 hy hc2 hkd hw
    obtain ⟨qe, hqe⟩ : ∃ q, inB y.kind 1 6 = q := ⟨_, rfl⟩
    have hE : Hid (∀ w, Calls Tryz.prog 80 #[.int .i64 y.kind] w fun e w' => e = .returned (.bool qe) ∧ w' = w) := fun w => by have h := HX.out y.kind w; rwa [hqe] at h
    cases qe
    ·have e : kidsB N m n.kids = false := List.all_eq_false.2 ⟨(j : Int), List.mem_of_getElem? HL.out, by rw [HR.out, hqe]; decide⟩
     have He : Hid (partsB N m n = false) := by unfold Hid partsB; rw [e]; rfl
     clear e
     go_wp2_with fail
     refine (hI.out _).mono ?_
     rintro e w1 ⟨rfl, rfl⟩
     go_wp2_with fail
     refine (hE.out _).mono ?_
     rintro e w1 ⟨rfl, rfl⟩
     go_wp2_with fail
     go_ret
     exact ⟨by rw [He.out]; rfl, HBW.out⟩
    ·go_wp2_with fail
     refine (hI.out _).mono ?_
     rintro e w1 ⟨rfl, rfl⟩
     go_wp2_with fail
     refine (hE.out _).mono ?_
     rintro e w1 ⟨rfl, rfl⟩
     go_wp2_with fail
     go_roundw
     case rel => exact ⟨k + 1, by omega, by go_num, fun i x hi hx => by
       rcases Nat.lt_succ_iff_lt_or_eq.1 hi with h | rfl
       ·exact HALL.out i x h hx
       ·have := hx.symm.trans HL.out
        cases this
        rw [HR.out, hqe], HW.out⟩
     case measure => simp [intOf]; omega
  ·have hke : k = n.kids.length := by omega
   have e : kidsB N m n.kids = true := List.all_eq_true.2 (fun x hx => by
    obtain ⟨j, hj, rfl⟩ := List.getElem_of_mem hx
    exact HALL.out j _ (by omega) (List.getElem?_eq_getElem hj))
   have He : Hid (partsB N m n = (statB N m n.thn && statB N m n.els)) := by unfold Hid partsB; rw [e]; rfl
   have e6 : wr.cell? ⟨w.heap.size, 6, none⟩ = some (.slice at2 n.thn.length ct) := by have : wr = W := hw; rw [this]; exact HE6.out
   have e7 : wr.cell? ⟨w.heap.size, 7, none⟩ = some (.slice ae n.els.length ce) := by have : wr = W := hw; rw [this]; exact HE7.out
   clear e hke hw
   generalize statB N m n.thn = q1 at *
   generalize statB N m n.els = q2 at *
   cases q1
   ·go_wp2_with fail
    refine (HS1.out _ (by exact HW.out)).mono ?_
    rintro e w1 ⟨rfl, rfl⟩
    go_wp2_with fail
    go_ret
    exact ⟨by rw [He.out]; rfl, HBW.out⟩
   ·go_wp2_with fail
    refine (HS1.out _ (by exact HW.out)).mono ?_
    rintro e w1 ⟨rfl, rfl⟩
    go_wp2_with fail
    refine (HS2.out _ (by exact HW.out)).mono ?_
    rintro e w1 ⟨rfl, rfl⟩
    go_wp2_with fail
    go_ret
    exact ⟨by rw [He.out]; cases q2 <;> rfl, HBW.out⟩
end Go.Proofs.YtcecfmdjicjngaaGreatDoor
namespace Go.Proofs.YtcecfmdjicjngaaGreatDoor
open Go.RowKit
set_option linter.unusedVariables false
attribute [local go_sem] bs_size bs_get bs_extract bs_append bs_eq bs_toList
theorem own_kind {n : LNode} (h : ownB n = true) : inB n.kind 1 11 = true := by
 unfold ownB at h
 simp only [Bool.and_eq_true] at h
 exact h.1.1.1.1.1.1.1.1
theorem stat_refs {N : List LNode} {m : Nat} (hk : ∀ j, j < m → inB (kindAt N (j : Int)) 1 11 = true) (l : List Int) : statB N m l = refsB N m l false := by
 unfold statB refsB
 congr 1
 funext x
 unfold refB
 cases hx : inB x 0 ((m : Int) - 1) with
 | false => rfl
 | true =>
  have := inB_iff.1 hx
  obtain ⟨j, rfl⟩ : ∃ j : Nat, x = j := ⟨x.toNat, by omega⟩
  have h := inB_iff.1 (hk j (by omega))
  simp only [Bool.true_and]
  show inB (kindAt N (j : Int)) 7 11 = (inB (kindAt N (j : Int)) 1 6 == false)
  generalize kindAt N (j : Int) = K at *
  by_cases hK : K ≤ 6
  ·rw [show inB K 7 11 = false from inB_no.2 (by omega), show inB K 1 6 = true from inB_iff.2 (by omega)]; rfl
  ·rw [show inB K 7 11 = true from inB_iff.2 (by omega), show inB K 1 6 = false from inB_no.2 (by omega)]; rfl
theorem kids_refs (N : List LNode) (m : Nat) (l : List Int) : kidsB N m l = refsB N m l true := by
 unfold kidsB refsB
 congr 1
 funext x
 unfold refB
 cases hx : inB x 0 ((m : Int) - 1) with
 | false => rfl
 | true =>
  simp only [Bool.true_and]
  show inB (kindAt N x) 1 6 = (inB (kindAt N x) 1 6 == true)
  cases inB (kindAt N x) 1 6 <;> rfl
theorem right_parts {N : List LNode} {m : Nat} (hk : ∀ j, j < m → inB (kindAt N (j : Int)) 1 11 = true) : rightB N m = (ownB (N.getD m default) && partsB N m (N.getD m default)) := by
 rw [rightB_eq, partsB, kids_refs, stat_refs hk, stat_refs hk]
 simp only [Bool.and_assoc]
theorem kinds_of_rights {N : List LNode} {m : Nat} (h : ∀ j, j < m → rightB N j = true) : ∀ j, j < m → inB (kindAt N (j : Int)) 1 11 = true := fun j hj => by
 have := h j hj
 rw [rightB_eq] at this
 simp only [Bool.and_eq_true] at this
 exact own_kind this.1.1.1
theorem slice_preN (b o k n c : Nat) (h : k ≤ n) (hc : n ≤ c) (W : World) : (Instr.slice 25 (.slice (some ⟨b, o, none⟩) n c) none (some (.int .i64 (k : Int))) none).run Tryz.prog W = .ok (.slice (some ⟨b, o, none⟩) k c) W := by
 have hu := Tryz.underlying25
 have hkc : k ≤ c := Nat.le_trans h hc
 simp [go_sem, hu, hkc]
theorem kinds_of_nodes {lo : Nat} {w : World} {a : Option Addr} {c : Nat} {N : List LNode} (h : NodesV lo w (.slice a N.length c) N) (m : Nat) (hm : m ≤ N.length) : Kinds w a N m := fun h0 => by
 obtain ⟨_, _, he, _, hh⟩ := h
 cases he
 obtain ⟨b, o, e, _, hc⟩ := hh (by rintro rfl; simp at hm; omega)
 refine ⟨b, o, e, fun i x hi hx => ?_⟩
 obtain ⟨_, _, _, hcs, _⟩ := hc i x hx
 exact hcs.c0
set_option maxHeartbeats 12800000 in
set_option maxRecDepth 100000 in
theorem implTreeFault : TreeInt 21 faultL := by
 intro lo vv vn vb T w h hS
 obtain ⟨av, cv, rfl, _, hhv⟩ := id h.vars
 obtain ⟨an, cn, rfl, hcn, hhn⟩ := id h.nodes
 obtain ⟨ab, cb, rfl, _⟩ := id h.body
 have HT : Hid (TreeV lo w (.slice av T.vars.length cv) (.slice an T.nodes.length cn) (.slice ab T.body.length cb) T) := h
 have hlv := hS.vars
 have hln := hS.nodes
 have HS : Hid (Sized 1048576 T) := hS
 have HV : Hid (T.vars ≠ [] → ∃ b o, av = some ⟨b, o, none⟩ ∧ lo ≤ b ∧ ∀ (i : Nat) (x : LVar), T.vars[i]? = some x → VarAt w b (o + i * 4) x) := hhv
 have HN : Hid (T.nodes ≠ [] → ∃ b o, an = some ⟨b, o, none⟩ ∧ lo ≤ b ∧ ∀ (i : Nat) (x : LNode), T.nodes[i]? = some x → NodeAt lo w b (o + i * 8) x) := hhn
 obtain ⟨F, hF⟩ : ∃ F, F = faultL T := ⟨_, rfl⟩
 rw [← hF]
 have HF : Hid (F = if 24 < T.vars.length ∨ 200 < T.nodes.length then 2 else if varsB T.vars ≠ 0 then varsB T.vars else if rightsB T.nodes = false then 1 else if refsB T.nodes T.nodes.length T.body false = false then 1 else if (countsL T).all (fun c => decide (c = 1)) = false then 1 else if (depthsF T.nodes T.nodes.length).all (fun d => decide (d ≤ 20)) = false then 9 else 0) := hF
 clear h hhv hhn hS hF
 by_cases hv : 24 < T.vars.length
 ·have HE : Hid (F = 2) := by unfold Hid; rw [HF.out, if_pos (Or.inl hv)]
  have hb1 : decide ((24 : Int) < ((T.vars.length : Nat) : Int)) = true := decide_eq_true (by omega)
  clear HF
  go_enter Tryz.func21, Tryz.ntmps21
  go_wp2
  go_ret
  exact ⟨by rw [HE.out]; rfl, by go_grown⟩
 by_cases hn2 : 200 < T.nodes.length
 ·have HE : Hid (F = 2) := by unfold Hid; rw [HF.out, if_pos (Or.inr hn2)]
  have hb1 : decide ((24 : Int) < ((T.vars.length : Nat) : Int)) = false := decide_eq_false (by omega)
  have hb2 : decide ((200 : Int) < ((T.nodes.length : Nat) : Int)) = true := decide_eq_true (by omega)
  clear HF hv hn2
  go_enter Tryz.func21, Tryz.ntmps21
  go_wp2
  go_ret
  exact ⟨by rw [HE.out]; rfl, by go_grown⟩
 have hb1 : decide ((24 : Int) < ((T.vars.length : Nat) : Int)) = false := decide_eq_false (by omega)
 have hb2 : decide ((200 : Int) < ((T.nodes.length : Nat) : Int)) = false := decide_eq_false (by omega)
 have HF : Hid (F = if varsB T.vars ≠ 0 then varsB T.vars else if rightsB T.nodes = false then 1 else if refsB T.nodes T.nodes.length T.body false = false then 1 else if (countsL T).all (fun c => decide (c = 1)) = false then 1 else if (depthsF T.nodes T.nodes.length).all (fun d => decide (d ≤ 20)) = false then 9 else 0) := by
  unfold Hid; rw [HF.out, if_neg (by omega)]
 have HN200 : Hid (T.nodes.length ≤ 200) := by unfold Hid; omega
 clear hv hn2
 go_enter Tryz.func21, Tryz.ntmps21
 go_wp2
 clear hb1 hb2
 have hA := heap_alloc_new w (.cells #[.slice av T.vars.length cv, .slice an T.nodes.length cn, .slice ab T.body.length cb] 28)
 have hB : Below w.heap.size w (w.alloc (.cells #[.slice av T.vars.length cv, .slice an T.nodes.length cn, .slice ab T.body.length cb] 28)) := (Below.refl _ _).alloc (Nat.le_refl _) _
 generalize w.alloc (.cells #[.slice av T.vars.length cv, .slice an T.nodes.length cn, .slice ab T.body.length cb] 28) = W0 at *
 have HA : Hid (W0.heap[w.heap.size]? = some (.cells #[.slice av T.vars.length cv, .slice an T.nodes.length cn, .slice ab T.body.length cb] 28 (0, 0))) := hA
 have HB0 : Hid (Below w.heap.size w W0) := hB
 have hw0 : w.heap.size < W0.heap.size := (Array.getElem?_eq_some_iff.1 hA).1
 clear hA hB
 go_loopw [19] (fun i wr => ∃ k : Nat, k ≤ T.vars.length ∧ i = .int .i64 k ∧ varsB T.vars = varsB (T.vars.drop k) ∧ Below W0.heap.size W0 wr) (fun i _ => T.vars.length - (intOf i).toNat)
 case atStart => exact ⟨0, by omega, rfl, rfl, Below.refl _ _⟩
 case round =>
  obtain ⟨k, hk, rfl, hvb, hB⟩ := hrel
  have HVB : Hid (varsB T.vars = varsB (T.vars.drop k)) := hvb
  have HBW : Hid (Below W0.heap.size W0 wr) := hB
  have HB : Hid (Below w.heap.size w wr) := HB0.out.trans (hB.mono HB0.out.size)
  clear hvb
  by_cases hlt : k < T.vars.length
  ·obtain ⟨x, hx⟩ : ∃ x, T.vars[k]? = some x := ⟨T.vars[k], List.getElem?_eq_getElem hlt⟩
   obtain ⟨g, o, rfl, _, hc1⟩ := HV.out (by intro e; rw [e] at hlt; simp at hlt)
   obtain ⟨c0, c1, c2, c3⟩ := (hc1 k x hx).keep (lo := 0) (Keeps.of_below HB.out) (Nat.zero_le _)
   have hnl : x.name.length ≤ 1048576 := HS.out.names x (List.mem_of_getElem? hx)
   have HX : Hid (T.vars[k]? = some x) := hx
   clear hx hc1 hB
   go_wp2_with fail
   have hA := heap_alloc_new wr (.cells #[.string (bs x.name), .int .i64 x.kind, .int .i64 x.type, .int .i64 x.size] 45)
   have hB5 : Below wr.heap.size wr (wr.alloc (.cells #[.string (bs x.name), .int .i64 x.kind, .int .i64 x.type, .int .i64 x.size] 45)) := (Below.refl _ _).alloc (Nat.le_refl _) _
   generalize wr.alloc (.cells #[.string (bs x.name), .int .i64 x.kind, .int .i64 x.type, .int .i64 x.size] 45) = W5 at *
   refine (iIsName_any x.name _ (by omega)).mono ?_
   rintro e w6 ⟨rfl, rfl⟩
   have HB6 : Hid (Below W0.heap.size W0 w6) := HBW.out.trans (hB5.mono HBW.out.size)
   have HB7 : Hid (Below w.heap.size w w6) := HB0.out.trans (HB6.out.mono HB0.out.size)
   obtain ⟨-, d1, d2, d3⟩ := cl4 hA
   clear hA hB5 c0 c1 c2 c3
   have HVX : Hid (varB x = if isNameL x.name then (if inB x.kind 1 3 && inB x.type 1 2 && inB x.size 0 8 then 0 else 3) else 5) := rfl
   generalize isNameL x.name = qn at *
   have HBAD : Hid (varB x ≠ 0 → F = varB x) := fun hne => by
    rw [HF.out, HVB.out, varsB_hit HX.out hne, if_pos hne]
   have HGOOD : Hid (varB x = 0 → varsB T.vars = varsB (T.vars.drop (k + 1))) := fun he => by
    rw [HVB.out, varsB_miss HX.out he]
   cases qn with
   | false =>
    have HE : Hid (F = 5) := by
     have h5 : varB x = 5 := by rw [HVX.out]; rfl
     have := HBAD.out (by rw [h5]; decide)
     unfold Hid; rw [this, h5]
    go_wp2_with fail
    go_ret
    exact ⟨by rw [HE.out]; rfl, HB7.out⟩
   | true =>
    go_wp2_with fail
    refine (within_any x.kind 1 3 _).mono ?_
    rintro e w7 ⟨rfl, rfl⟩
    generalize inB x.kind 1 3 = q1 at *
    cases q1 with
    | false =>
     have HE : Hid (F = 3) := by
      have h5 : varB x = 3 := by rw [HVX.out]; rfl
      have := HBAD.out (by rw [h5]; decide)
      unfold Hid; rw [this, h5]
     go_wp2_with fail
     go_ret
     exact ⟨by rw [HE.out]; rfl, HB7.out⟩
    | true =>
     go_wp2_with fail
     refine (within_any x.type 1 2 _).mono ?_
     rintro e w7 ⟨rfl, rfl⟩
     generalize inB x.type 1 2 = q2 at *
     cases q2 with
     | false =>
      have HE : Hid (F = 3) := by
       have h5 : varB x = 3 := by rw [HVX.out]; rfl
       have := HBAD.out (by rw [h5]; decide)
       unfold Hid; rw [this, h5]
      go_wp2_with fail
      go_ret
      exact ⟨by rw [HE.out]; rfl, HB7.out⟩
     | true =>
      go_wp2_with fail
      refine (within_any x.size 0 8 _).mono ?_
      rintro e w7 ⟨rfl, rfl⟩
      generalize inB x.size 0 8 = q3 at *
      cases q3 with
      | false =>
       have HE : Hid (F = 3) := by
        have h5 : varB x = 3 := by rw [HVX.out]; rfl
        have := HBAD.out (by rw [h5]; decide)
        unfold Hid; rw [this, h5]
       go_wp2_with fail
       go_ret
       exact ⟨by rw [HE.out]; rfl, HB7.out⟩
      | true =>
       have HNX : Hid (varsB T.vars = varsB (T.vars.drop (k + 1))) := HGOOD.out (by rw [HVX.out]; rfl)
       go_wp2_with fail
       go_roundw
       case rel => exact ⟨k + 1, by omega, by go_num, HNX.out, HB6.out⟩
       case measure => simp [intOf]; omega
  ·have hke : k = T.vars.length := by omega
   have hz : varsB T.vars = 0 := by rw [HVB.out, hke, List.drop_length]; rfl
   have HF2 : Hid (F = if rightsB T.nodes = false then 1 else if refsB T.nodes T.nodes.length T.body false = false then 1 else if (countsL T).all (fun c => decide (c = 1)) = false then 1 else if (depthsF T.nodes T.nodes.length).all (fun d => decide (d ≤ 20)) = false then 9 else 0) := by
    unfold Hid; rw [HF.out, if_neg (by simp [hz])]
   have q1 : wr.cell? ⟨w.heap.size, 1, none⟩ = some (.slice an T.nodes.length cn) := (hB.cell (p := ⟨w.heap.size, 1, none⟩) hw0).trans (cell_of_row _ _ 1 _ _ _ HA.out)
   clear HF HVB hz hke HB hB
   generalize hwq : wr = w1 at *
   clear hwq
   go_wp2
   clear q1
   go_loopw [47] (fun i wr => ∃ m : Nat, m ≤ T.nodes.length ∧ i = .int .i64 m ∧ (∀ j, j < m → rightB T.nodes j = true) ∧ Below W0.heap.size W0 wr) (fun i _ => T.nodes.length - (intOf i).toNat)
   case atStart => exact ⟨0, by omega, rfl, by omega, HBW.out⟩
   case round =>
    obtain ⟨m, hm, rfl, hall, hB⟩ := hrel
    have HALL : Hid (∀ j, j < m → rightB T.nodes j = true) := hall
    have HB2 : Hid (Below W0.heap.size W0 wr) := hB
    have HB3 : Hid (Below w.heap.size w wr) := HB0.out.trans (hB.mono HB0.out.size)
    have q0 : wr.cell? ⟨w.heap.size, 0, none⟩ = some (.slice av T.vars.length cv) := (hB.cell (p := ⟨w.heap.size, 0, none⟩) hw0).trans (cell_of_row _ _ 0 _ _ _ HA.out)
    have q1 : wr.cell? ⟨w.heap.size, 1, none⟩ = some (.slice an T.nodes.length cn) := (hB.cell (p := ⟨w.heap.size, 1, none⟩) hw0).trans (cell_of_row _ _ 1 _ _ _ HA.out)
    have q2 : wr.cell? ⟨w.heap.size, 2, none⟩ = some (.slice ab T.body.length cb) := (hB.cell (p := ⟨w.heap.size, 2, none⟩) hw0).trans (cell_of_row _ _ 2 _ _ _ HA.out)
    have hwr : w.heap.size < wr.heap.size := Nat.lt_of_lt_of_le hw0 hB.size
    clear hall hB
    by_cases hlt2 : m < T.nodes.length
    ·obtain ⟨y, hy⟩ : ∃ y, T.nodes[m]? = some y := ⟨T.nodes[m], List.getElem?_eq_getElem hlt2⟩
     obtain ⟨g2, o2, rfl, _, hc2⟩ := HN.out (by intro e; rw [e] at hlt2; simp at hlt2)
     obtain ⟨vk, vt, ve, hcs, hvs⟩ := hc2 m y hy
     obtain ⟨d0, d1, d2, d3, d4, d5, d6, d7⟩ := hcs.keep (lo := 0) (fun g _ hg => HB3.out.block g hg) (Nat.zero_le _)
     have hgw2 : g2 < w.heap.size := World.block_lt_of_cell? _ _ hcs.c0
     obtain ⟨ak, ck, rfl, _⟩ := id hvs.kids
     obtain ⟨at2, ct, rfl, _⟩ := id hvs.thn
     obtain ⟨ae, ce, rfl, _⟩ := id hvs.els
     have hsz := HS.out.node y (List.mem_of_getElem? hy)
     have hgd : T.nodes.getD m default = y := by rw [List.getD_eq_getElem?_getD, hy]; rfl
     have HRB : Hid (rightB T.nodes m = (ownB y && partsB T.nodes m y)) := by unfold Hid; rw [right_parts (kinds_of_rights HALL.out), hgd]
     have HSH : Hid (∀ W, Calls Tryz.prog 85 #[nodeV y (.slice ak y.kids.length ck) (.slice at2 y.thn.length ct) (.slice ae y.els.length ce)] W fun e w' => e = .returned (.bool (ownB y)) ∧ Below W.heap.size W w') := fun W => hasShape_any y ak at2 ae ck ct ce W hsz.1 hsz.2.1 hsz.2.2.1 hsz.2.2.2
     have HPT : Hid (∀ W, Below w.heap.size w W → Calls Tryz.prog 86 #[.slice (some ⟨g2, o2, none⟩) m cn, nodeV y (.slice ak y.kids.length ck) (.slice at2 y.thn.length ct) (.slice ae y.els.length ce)] W fun e w' => e = .returned (.bool (partsB T.nodes m y)) ∧ Below W.heap.size W w') := fun W hb => by
      have hN := HT.out.nodes.below hb
      have hv := hvs.below hb
      exact hasParts_any T.nodes m _ cn y _ _ _ W (by omega) (by omega) (kinds_of_nodes hN m (by omega)) hv.kids.toB hv.thn.toB hv.els.toB hsz.2.1 hsz.2.2.1 hsz.2.2.2
     have hsl : ∀ W, (Instr.slice 25 (.slice (some ⟨g2, o2, none⟩) T.nodes.length cn) none (some (.int .i64 (m : Int))) none).run Tryz.prog W = .ok (.slice (some ⟨g2, o2, none⟩) m cn) W := slice_preN g2 o2 m T.nodes.length cn (by omega) hcn
     have hm0 : (0 : Int) ≤ (m : Int) := by omega
     have hm1 : (m : Int) < (T.nodes.length : Int) := by omega
     have hg2r : g2 < wr.heap.size := Nat.lt_of_lt_of_le hgw2 HB3.out.size
     have HQ1 : Hid (wr.cell? ⟨w.heap.size, 1, none⟩ = some (.slice (some ⟨g2, o2, none⟩) T.nodes.length cn)) := q1
     have HD0 := d0
     have HDC : Hid (NodeCells wr g2 (o2 + m * 8) y (.slice ak y.kids.length ck) (.slice at2 y.thn.length ct) (.slice ae y.els.length ce)) := ⟨d0, d1, d2, d3, d4, d5, d6, d7⟩
     obtain ⟨qo, hqo⟩ : ∃ q, ownB y = q := ⟨_, rfl⟩
     obtain ⟨qp, hqp⟩ : ∃ q, partsB T.nodes m y = q := ⟨_, rfl⟩
     rw [hqo] at HSH HRB
     rw [hqp] at HPT HRB
     clear hy hc2 hcs hvs hgd hsz HD0 hqo hqp q0 q2
     cases qo with
     | false =>
      have HE : Hid (F = 1) := by
       unfold Hid; rw [HF2.out, if_pos]
       exact List.all_eq_false.2 ⟨m, List.mem_range.2 hlt2, by rw [HRB.out]; simp⟩
      go_wp2_with fail
      have HCL : Hid (∀ W, Below wr.heap.size wr W → W.cell? ⟨w.heap.size, 1, none⟩ = some (.slice (some ⟨g2, o2, none⟩) T.nodes.length cn) ∧ NodeCells W g2 (o2 + m * 8) y (.slice ak y.kids.length ck) (.slice at2 y.thn.length ct) (.slice ae y.els.length ce)) := fun W hD =>
       ⟨(hD.cell (p := ⟨w.heap.size, 1, none⟩) hwr).trans HQ1.out, HDC.out.keep (lo := 0) (fun g _ hg => hD.block g hg) (Nat.zero_le _)⟩
      refine wp_region_quiet (C := fun W => Below wr.heap.size wr W) (by kernel_rfl) (by kernel_rfl) ((Below.refl wr.heap.size wr).drew) ?_
      clear d0 d1 d2 d3 d4 d5 d6 d7 q1
      refine wpQuiet_step (fun K hK => ?_)
      go_simp
      refine ⟨_, fun _ _ => rfl, hK _ ?_⟩
      clear hK K
      refine wpQuiet_step (fun K hK => ?_)
      go_simp
      refine ⟨.slice (some ⟨g2, o2, none⟩) T.nodes.length cn, fun W hD => ?_, hK _ ?_⟩
      ·obtain ⟨c1, hc⟩ := HCL.out W hD
       go_simp
      clear hK K
      refine wpQuiet_step (fun K hK => ?_)
      go_simp
      refine ⟨_, fun _ _ => rfl, hK _ ?_⟩
      clear hK K
      refine wpQuiet_step (fun K hK => ?_)
      go_simp
      refine ⟨_, fun _ _ => rfl, hK _ ?_⟩
      clear hK K
      refine wpQuiet_step (fun K hK => ?_)
      go_simp
      refine ⟨nodeV y (.slice ak y.kids.length ck) (.slice at2 y.thn.length ct) (.slice ae y.els.length ce), fun W hD => ?_, hK _ ?_⟩
      ·obtain ⟨c1, hc⟩ := HCL.out W hD
       obtain ⟨e0, e1, e2, e3, e4, e5, e6, e7⟩ := hc
       go_simp
      clear hK K
      refine wpQuiet_step (fun K hK => ?_)
      go_simp
      refine ⟨.bool false, fun W hD => (HSH.out W).mono (fun e w' h => ⟨h.1, hD.trans (Below.mono h.2 hD.size)⟩), hK _ ?_⟩
      clear hK K
      refine wpQuiet_step (fun K hK => ?_)
      go_simp
      refine ⟨.bool true, fun _ _ => rfl, ?_⟩
      apply hK
      clear hK K
      refine wpQuiet_step (fun K hK => ?_)
      go_simp
      refine ⟨.bool true, fun _ _ => rfl, ?_⟩
      apply hK
      clear hK K
      repeat go_big_quiet_skip
      refine wpQuiet_step (fun K hK => ?_)
      go_simp
      refine ⟨.bool true, fun _ _ => rfl, ?_⟩
      apply hK
      clear hK K
      refine wpQuiet_nil ?_
      intro w5 hD
      have HB4 : Hid (Below w.heap.size w w5) := HB3.out.trans (Below.mono hD HB3.out.size)
      clear hD
      go_wp2_with fail
      go_ret
      exact ⟨by rw [HE.out]; rfl, HB4.out⟩
     | true =>
      have HRQ : Hid (rightB T.nodes m = qp) := by unfold Hid; rw [HRB.out]; simp
      clear HRB
      cases qp with
      | false =>
       have HE : Hid (F = 1) := by
        unfold Hid; rw [HF2.out, if_pos]
        exact List.all_eq_false.2 ⟨m, List.mem_range.2 hlt2, by rw [HRQ.out]; simp⟩
       go_wp2_with fail
       go_region_held3 (fun W => W.cell? ⟨w.heap.size, 1, none⟩ = some (.slice (some ⟨g2, o2, none⟩) T.nodes.length cn) ∧ (W.cell? ⟨g2, o2 + m * 8, none⟩ = some (.int .i64 y.kind) ∧ W.cell? ⟨g2, o2 + m * 8 + 1, none⟩ = some (.int .i64 y.op) ∧ W.cell? ⟨g2, o2 + m * 8 + 2, none⟩ = some (.string (bs y.name)) ∧ W.cell? ⟨g2, o2 + m * 8 + 3, none⟩ = some (.int .i64 y.num) ∧ W.cell? ⟨g2, o2 + m * 8 + 4, none⟩ = some (.int .i64 y.far) ∧ W.cell? ⟨g2, o2 + m * 8 + 5, none⟩ = some (.slice ak y.kids.length ck) ∧ W.cell? ⟨g2, o2 + m * 8 + 6, none⟩ = some (.slice at2 y.thn.length ct) ∧ W.cell? ⟨g2, o2 + m * 8 + 7, none⟩ = some (.slice ae y.els.length ce))) (go_keep) (first | (go_at_call 85; refine (HSH.out _).mono ?_; rintro e w2 ⟨rfl, hb⟩; have hD : Below wr.heap.size wr w2 := ((Below.refl wr.heap.size wr).drew).trans (Below.mono hb (Nat.le_refl _)); have q1' := (hD.cell (p := ⟨w.heap.size, 1, none⟩) hwr).trans HQ1.out; obtain ⟨e0, e1, e2, e3, e4, e5, e6, e7⟩ := HDC.out.keep (lo := 0) (w' := w2) (fun g _ hg => hD.block g hg) (Nat.zero_le _); have HB4 : Hid (Below w.heap.size w w2) := HB3.out.trans (hD.mono HB3.out.size); have HC4 : Hid (Below W0.heap.size W0 w2) := HB2.out.trans (hD.mono HB2.out.size); clear hb hD) | (go_at_call 86; refine (HPT.out _ (by exact HB4.out)).mono ?_; rintro e w5 ⟨rfl, hb⟩; have HC5 : Hid (Below W0.heap.size W0 w5) := HC4.out.trans (hb.mono HC4.out.size); have e9 := (hb.cell (p := ⟨w.heap.size, 1, none⟩) (Nat.lt_of_lt_of_le hw0 HC4.out.size)).trans q1'; obtain ⟨f0, f1, f2, f3, f4, f5, f6, f7⟩ := NodeCells.keep (lo := 0) (w' := w5) (⟨e0, e1, e2, e3, e4, e5, e6, e7⟩ : NodeCells w2 g2 (o2 + m * 8) y (.slice ak y.kids.length ck) (.slice at2 y.thn.length ct) (.slice ae y.els.length ce)) (fun g _ hg => hb.block g hg) (Nat.zero_le _); have HB5 : Hid (Below w.heap.size w w5) := HB4.out.trans (hb.mono HB4.out.size); clear hb))
       go_wp2_with fail
       go_ret
       exact ⟨by rw [HE.out]; rfl, HB5.out⟩
      | true =>
       go_wp2_with fail
       go_region_held3 (fun W => W.cell? ⟨w.heap.size, 1, none⟩ = some (.slice (some ⟨g2, o2, none⟩) T.nodes.length cn) ∧ (W.cell? ⟨g2, o2 + m * 8, none⟩ = some (.int .i64 y.kind) ∧ W.cell? ⟨g2, o2 + m * 8 + 1, none⟩ = some (.int .i64 y.op) ∧ W.cell? ⟨g2, o2 + m * 8 + 2, none⟩ = some (.string (bs y.name)) ∧ W.cell? ⟨g2, o2 + m * 8 + 3, none⟩ = some (.int .i64 y.num) ∧ W.cell? ⟨g2, o2 + m * 8 + 4, none⟩ = some (.int .i64 y.far) ∧ W.cell? ⟨g2, o2 + m * 8 + 5, none⟩ = some (.slice ak y.kids.length ck) ∧ W.cell? ⟨g2, o2 + m * 8 + 6, none⟩ = some (.slice at2 y.thn.length ct) ∧ W.cell? ⟨g2, o2 + m * 8 + 7, none⟩ = some (.slice ae y.els.length ce))) (go_keep) (first | (go_at_call 85; refine (HSH.out _).mono ?_; rintro e w2 ⟨rfl, hb⟩; have hD : Below wr.heap.size wr w2 := ((Below.refl wr.heap.size wr).drew).trans (Below.mono hb (Nat.le_refl _)); have q1' := (hD.cell (p := ⟨w.heap.size, 1, none⟩) hwr).trans HQ1.out; obtain ⟨e0, e1, e2, e3, e4, e5, e6, e7⟩ := HDC.out.keep (lo := 0) (w' := w2) (fun g _ hg => hD.block g hg) (Nat.zero_le _); have HB4 : Hid (Below w.heap.size w w2) := HB3.out.trans (hD.mono HB3.out.size); have HC4 : Hid (Below W0.heap.size W0 w2) := HB2.out.trans (hD.mono HB2.out.size); clear hb hD) | (go_at_call 86; refine (HPT.out _ (by exact HB4.out)).mono ?_; rintro e w5 ⟨rfl, hb⟩; have HC5 : Hid (Below W0.heap.size W0 w5) := HC4.out.trans (hb.mono HC4.out.size); have e9 := (hb.cell (p := ⟨w.heap.size, 1, none⟩) (Nat.lt_of_lt_of_le hw0 HC4.out.size)).trans q1'; obtain ⟨f0, f1, f2, f3, f4, f5, f6, f7⟩ := NodeCells.keep (lo := 0) (w' := w5) (⟨e0, e1, e2, e3, e4, e5, e6, e7⟩ : NodeCells w2 g2 (o2 + m * 8) y (.slice ak y.kids.length ck) (.slice at2 y.thn.length ct) (.slice ae y.els.length ce)) (fun g _ hg => hb.block g hg) (Nat.zero_le _); have HB5 : Hid (Below w.heap.size w w5) := HB4.out.trans (hb.mono HB4.out.size); clear hb))
       go_wp2_with fail
       go_roundw
       case rel => exact ⟨m + 1, by omega, by go_num, fun j hj => by
         rcases Nat.lt_succ_iff_lt_or_eq.1 hj with h | rfl
         ·exact HALL.out j h
         ·exact HRQ.out, HC5.out⟩
       case measure => simp [intOf]; omega
    ·have hme : m = T.nodes.length := by omega
     subst hme
     have hrt : rightsB T.nodes = true := List.all_eq_true.2 (fun j hj => HALL.out j (by have := List.mem_range.1 hj; omega))
     have HRT : Hid (rightsB T.nodes = true) := hrt
     have HF3 : Hid (F = if refsB T.nodes T.nodes.length T.body false = false then 1 else if (countsL T).all (fun c => decide (c = 1)) = false then 1 else if (depthsF T.nodes T.nodes.length).all (fun d => decide (d ≤ 20)) = false then 9 else 0) := by
      unfold Hid; rw [HF2.out, if_neg (by simp [hrt])]
     have HST : Hid (Calls Tryz.prog 87 #[.slice an T.nodes.length cn, .slice ab T.body.length cb] wr fun e w' => e = .returned (.bool (refsB T.nodes T.nodes.length T.body false)) ∧ w' = wr) := by
      have hN := HT.out.nodes.below HB3.out
      have h := areStatements_any T.nodes T.nodes.length an cn _ T.body wr.heap.size wr (Nat.le_refl _) hln (kinds_of_nodes hN _ (Nat.le_refl _)) (HT.out.body.below HB3.out).toB HS.out.body
      rw [stat_refs (kinds_of_rights HALL.out)] at h
      exact h
     clear HF2 hrt HALL
     obtain ⟨q, hq⟩ : ∃ q, refsB T.nodes T.nodes.length T.body false = q := ⟨_, rfl⟩
     rw [hq] at HST HF3
     have HQ : Hid (refsB T.nodes T.nodes.length T.body false = q) := hq
     clear hq
     cases q with
     | false =>
      have HE : Hid (F = 1) := by unfold Hid; rw [HF3.out, if_pos rfl]
      go_wp2_with fail
      refine HST.out.mono ?_
      rintro e w5 ⟨rfl, rfl⟩
      go_wp2_with fail
      go_ret
      exact ⟨by rw [HE.out]; rfl, HB3.out⟩
     | true =>
      have HF4 : Hid (F = if (countsL T).all (fun c => decide (c = 1)) = false then 1 else if (depthsF T.nodes T.nodes.length).all (fun d => decide (d ≤ 20)) = false then 9 else 0) := by unfold Hid; rw [HF3.out, if_neg (by decide)]
      have HON : Hid (Calls Tryz.prog 88 #[treeV (.slice av T.vars.length cv) (.slice an T.nodes.length cn) (.slice ab T.body.length cb)] wr fun e w' => e = .returned (.bool ((countsL T).all (fun c => decide (c = 1)))) ∧ Below wr.heap.size wr w') :=
       eachOnce_any lo _ _ _ T wr (HT.out.below HB3.out) HS.out HN200.out (rights_in HRT.out) (refs_in HQ.out)
      obtain ⟨qc, hqc⟩ : ∃ q, (countsL T).all (fun c => decide (c = 1)) = q := ⟨_, rfl⟩
      rw [hqc] at HON HF4
      clear hqc HF3 HQ HRT
      go_wp2_with fail
      refine HST.out.mono ?_
      rintro e w5 ⟨rfl, rfl⟩
      go_wp2_with fail
      refine HON.out.mono ?_
      rintro e w6 ⟨rfl, hb⟩
      have HB6 : Hid (Below w.heap.size w w6) := HB3.out.trans (hb.mono HB3.out.size)
      have q1' := (hb.cell (p := ⟨w.heap.size, 1, none⟩) hwr).trans q1
      clear hb q0 q1 q2 HST HON
      cases qc with
      | false =>
       have HE : Hid (F = 1) := by unfold Hid; rw [HF4.out, if_pos rfl]
       go_wp2_with fail
       go_ret
       exact ⟨by rw [HE.out]; rfl, HB6.out⟩
      | true =>
       have HF5 : Hid (F = if (depthsF T.nodes T.nodes.length).all (fun d => decide (d ≤ 20)) = false then 9 else 0) := by unfold Hid; rw [HF4.out, if_neg (by decide)]
       have HDP : Hid (Calls Tryz.prog 89 #[.slice an T.nodes.length cn] w6 fun e w' => e = .returned (.int .i64 (maxL (depthsF T.nodes T.nodes.length))) ∧ Below w6.heap.size w6 w') :=
        deepest_any lo an cn T.nodes w6 (HT.out.nodes.below HB6.out) hln (fun n hn => (HS.out.node n hn).2)
       have HML := maxL_le (depthsF T.nodes T.nodes.length) 20 (by decide)
       have HML : Hid ((maxL (depthsF T.nodes T.nodes.length) ≤ 20) ↔ ∀ d ∈ depthsF T.nodes T.nodes.length, d ≤ 20) := HML
       generalize depthsF T.nodes T.nodes.length = ds at *
       generalize maxL ds = mx at *
       clear HF4
       go_wp2_with fail
       refine HDP.out.mono ?_
       rintro e w7 ⟨rfl, hb⟩
       have HB7 : Hid (Below w.heap.size w w7) := HB6.out.trans (hb.mono HB6.out.size)
       clear hb HDP q1'
       by_cases hmx : mx ≤ 20
       ·have HE : Hid (F = 0) := by
         unfold Hid; rw [HF5.out, if_neg]
         rw [Bool.not_eq_false]
         exact List.all_eq_true.2 (fun d hd => by simpa using HML.out.1 hmx d hd)
        have hne : decide (20 < mx) = false := decide_eq_false (by omega)
        clear HML HF5
        go_wp2_with fail
        go_ret
        exact ⟨by rw [HE.out]; rfl, HB7.out⟩
       ·have HE : Hid (F = 9) := by
         unfold Hid; rw [HF5.out, if_pos]
         cases hal : ds.all (fun d => decide (d ≤ 20)) with
         | false => rfl
         | true => exact absurd (HML.out.2 (fun d hd => by simpa using List.all_eq_true.1 hal d hd)) hmx
        have hne : decide (20 < mx) = true := decide_eq_true (by omega)
        clear HML HF5
        go_wp2_with fail
        go_ret
        exact ⟨by rw [HE.out]; rfl, HB7.out⟩
end Go.Proofs.YtcecfmdjicjngaaGreatDoor
namespace Go.Proofs.YtcecfmdjicjngaaGreatDoor
open Go.RowKit
set_option linter.unusedVariables false
attribute [local go_sem] bs_size bs_get bs_extract bs_append bs_eq bs_toList
theorem any_name (V W : List LVar) : V.map LVar.name = W.map LVar.name → V.any (fun v => !isNameL v.name) = W.any (fun v => !isNameL v.name) := by
 intro h
 have e : ∀ U : List LVar, U.any (fun v => !isNameL v.name) = (U.map LVar.name).any (fun l => !isNameL l) := fun U => by rw [List.any_map]; rfl
 rw [e, e, h]
theorem names_kind (T : LTree) : namesF (allL 3 T) T.vars.length = namesF (allL 0 T) T.vars.length := by
 unfold namesF
 rw [dup_kind T]
 have : (List.drop T.vars.length (allL 3 T)).any (fun v => !isNameL v.name) = (List.drop T.vars.length (allL 0 T)).any (fun v => !isNameL v.name) := by
  apply any_name
  rw [List.map_drop, List.map_drop, nts_names (allL_nts T)]
 rw [this]
theorem must_kind (T : LTree) : mustT (allL 3 T) T.vars.length T.nodes = mustT (allL 0 T) T.vars.length T.nodes := by
 funext y t st
 unfold mustT
 rw [typeF_kind]
theorem body_kind (T : LTree) : bodyF (allL 3 T) T = bodyF (allL 0 T) T := by unfold bodyF; rw [must_kind]
theorem cells_kind (T : LTree) : cellsL (allL 3 T) = cellsL (allL 0 T) := by
 have h := cellsL_kind T (allL 3 T).length
 rw [List.take_length, allL_len T, List.take_length] at h; exact h
theorem chk_may {T : LTree} (h0 : faultL T = 0) : chkT T = if (mayF T).1 ≠ 0 then (mayF T, 0) else ((0, 0), budT T) := by
 unfold chkT mayF
 rw [if_neg (by simp [h0]), names_kind, body_kind, cells_kind]
 by_cases h1 : namesF (allL 0 T) T.vars.length ≠ 0
 ·rw [if_pos h1, if_pos h1, if_pos h1]
 rw [if_neg h1, if_neg h1]
 by_cases h2 : (bodyF (allL 0 T) T).1 ≠ 0
 ·rw [if_pos h2, if_pos h2, if_pos h2]
 rw [if_neg h2, if_neg h2]
 by_cases h3 : 2000 < budT T ∨ 60 < cellsL (allL 0 T)
 ·rw [if_pos h3, if_pos h3, if_pos (by simp)]
 ·rw [if_neg h3, if_neg h3, if_neg (by simp)]
def Tree3 (f : FuncId) (R : LTree → Met × Int) : Prop := ∀ (lo : Nat) (vv vn vb : Value) (T : LTree) (w : World), TreeV lo w vv vn vb T → Sized 1048576 T →
 Calls Tryz.prog f #[treeV vv vn vb] w fun e w' => e = .returned (.agg #[.int .i64 (R T).1.1, .int .i64 (R T).1.2, .int .i64 (R T).2]) ∧ Below w.heap.size w w'
def Tree3G (f : FuncId) (R : LTree → Met × Int) : Prop := ∀ (lo : Nat) (vv vn vb : Value) (T : LTree) (w : World), TreeV lo w vv vn vb T → Sized 1048576 T → ErrT w →
 Calls Tryz.prog f #[treeV vv vn vb] w fun e w' => e = .returned (.agg #[.int .i64 (R T).1.1, .int .i64 (R T).1.2, .int .i64 (R T).2]) ∧ Below w.heap.size w w'
theorem specCheckTree : Tree3 18 chkT := fun lo vv vn vb T w h hS => specCheckTree_of lo vv vn vb T w h hS
set_option maxHeartbeats 6400000 in
set_option maxRecDepth 100000 in
theorem implCheckTree : Tree3G 17 chkT := by
 intro lo vv vn vb T w h hS hE
 have HF : Hid (∀ (w' : World), Below w.heap.size w w' → Calls Tryz.prog 21 #[treeV vv vn vb] w' fun e w2 => e = .returned (.int .i64 (faultL T)) ∧ Below w'.heap.size w' w2) := fun w' hb => implTreeFault lo _ _ _ T w' (h.below hb) hS
 have HM : Hid (faultL T = 0 → ∀ (w' : World), Below w.heap.size w w' → Calls Tryz.prog 75 #[treeV vv vn vb] w' fun e w2 => e = .returned (errV (mayF T)) ∧ Below w'.heap.size w' w2) := fun h0 w' hb => mayRun_any lo vv vn vb T w' (h.below hb) hS h0
 have HBU : Hid (faultL T = 0 → ∀ (w' : World), Below w.heap.size w w' → Calls Tryz.prog 76 #[treeV vv vn vb] w' fun e w2 => e = .returned (.int .i64 (budT T)) ∧ Below w'.heap.size w' w2) := fun h0 w' hb => budgetOf_any lo vv vn vb T w' (h.below hb) hS (good_of h0)
 have HER : Hid (∀ w', Below w.heap.size w w' → ErrT w') := fun w' hb => hE.kept hb
 obtain ⟨av, cv, rfl, _⟩ := id h.vars
 obtain ⟨an, cn, rfl, _⟩ := id h.nodes
 obtain ⟨ab, cb, rfl, _⟩ := id h.body
 have HCM : Hid (faultL T = 0 → chkT T = if (mayF T).1 ≠ 0 then (mayF T, 0) else ((0, 0), budT T)) := chk_may
 have HC0 : Hid (faultL T ≠ 0 → chkT T = ((faultL T, -1), 0)) := fun h0 => by unfold chkT; rw [if_pos h0]
 clear h hS hE
 obtain ⟨⟨⟨c1, c2⟩, c3⟩, hR⟩ : ∃ R, R = chkT T := ⟨_, rfl⟩
 rw [← hR] at HCM HC0 ⊢
 clear hR
 go_enter Tryz.func17, Tryz.ntmps17
 go_wp2_with fail
 obtain ⟨hA, hA2, hB⟩ := three_start w (.slice av T.vars.length cv) (.slice an T.nodes.length cn) (.slice ab T.body.length cb) 28 31
 generalize ((w.alloc (.cells #[.slice av T.vars.length cv, .slice an T.nodes.length cn, .slice ab T.body.length cb] 28)).alloc (.cells #[.int .i64 0, .int .i64 0, .int .i64 0] 31)) = W at *
 refine (HF.out _ hB).mono ?_
 rintro e w2 ⟨rfl, hb⟩
 have HA : Hid (w2.heap[w.heap.size]? = some (.cells #[.slice av T.vars.length cv, .slice an T.nodes.length cn, .slice ab T.body.length cb] 28 (0, 0))) := blk hA hb
 have HA2 : Hid (w2.heap[w.heap.size + 1]? = some (.cells #[.int .i64 0, .int .i64 0, .int .i64 0] 31 (0, 0))) := blk hA2 hb
 have HB : Hid (Below w.heap.size w w2) := hB.trans (hb.mono hB.size)
 clear hA hA2 hB hb HF
 obtain ⟨F, hF⟩ : ∃ F, faultL T = F := ⟨_, rfl⟩
 rw [hF] at HM HBU HCM HC0 ⊢
 clear hF
 by_cases hz : F = 0
 ·subst hz
  have HCV : Hid (((c1, c2), c3) = if (mayF T).1 ≠ 0 then (mayF T, 0) else ((0, 0), budT T)) := HCM.out rfl
  obtain ⟨p0, p1, p2⟩ := cl3 HA.out
  have HM2 : Hid (∀ (w' : World), Below w.heap.size w w' → Calls Tryz.prog 75 #[treeV (.slice av T.vars.length cv) (.slice an T.nodes.length cn) (.slice ab T.body.length cb)] w' fun e w2 => e = .returned (errV (mayF T)) ∧ Below w'.heap.size w' w2) := HM.out rfl
  have HBU2 : Hid (∀ (w' : World), Below w.heap.size w w' → Calls Tryz.prog 76 #[treeV (.slice av T.vars.length cv) (.slice an T.nodes.length cn) (.slice ab T.body.length cb)] w' fun e w2 => e = .returned (.int .i64 (budT T)) ∧ Below w'.heap.size w' w2) := HBU.out rfl
  clear HCM HC0 HM HBU
  generalize mayF T = m at *
  generalize budT T = bu at *
  obtain ⟨m1, m2⟩ := m
  go_wp2_with fail
  refine (HM2.out _ HB.out).mono ?_
  rintro e w3 ⟨rfl, hb⟩
  have HA3 : Hid (w3.heap[w.heap.size]? = some (.cells #[.slice av T.vars.length cv, .slice an T.nodes.length cn, .slice ab T.body.length cb] 28 (0, 0))) := blk HA.out hb
  have HA4 : Hid (w3.heap[w.heap.size + 1]? = some (.cells #[.int .i64 0, .int .i64 0, .int .i64 0] 31 (0, 0))) := blk HA2.out hb
  have HB3 : Hid (Below w.heap.size w w3) := HB.out.trans (hb.mono HB.out.size)
  clear hb HA HA2 HB p0 p1 p2 HM2
  by_cases hm : m1 = 0
  ·subst hm
   have HCW : Hid (((c1, c2), c3) = ((0, 0), bu)) := by unfold Hid; rw [HCV.out, if_neg (by simp)]
   rw [errV_zero rfl]
   clear HCV
   go_wp2_with fail
   refine (misfit_nil _).mono ?_
   rintro e w4 ⟨rfl, hb⟩
   have hA5 := blk HA3.out hb
   have hA6 := blk HA4.out hb
   have hB4 : Below w.heap.size w w4 := HB3.out.trans (hb.mono HB3.out.size)
   have hbx : Below w4.heap.size w4 (w4.alloc (.cells #[.int .i64 0, .int .i64 0] 107)) := (Below.refl _ _).alloc (Nat.le_refl _) _
   have HA5 : Hid _ := blk hA5 hbx
   have HA6 : Hid _ := blk hA6 hbx
   have HB5 : Hid _ := hB4.trans (hbx.mono hB4.size)
   have hl1 : w.heap.size < w4.heap.size := blk_lt hA5
   have hl2 : w.heap.size + 1 < w4.heap.size := blk_lt hA6
   clear hb hA5 hA6 hB4 hbx HA3 HA4 HB3
   go_upto_region 7 with fail
   generalize w4.alloc (.cells #[.int .i64 0, .int .i64 0] 107) = W5 at *
   obtain ⟨p0, p1, p2⟩ := cl3 HA5.out
   go_wp2_with fail
   refine (HBU2.out _ HB5.out).mono ?_
   rintro e w6 ⟨rfl, hb⟩
   have hA7 := blk HA6.out hb
   have HB6 : Hid (Below w.heap.size w w6) := HB5.out.trans (hb.mono HB5.out.size)
   obtain ⟨r0, r1, r2⟩ := cl3 hA7
   obtain ⟨f0, f1, f2⟩ := fl3 hA7
   clear hA7 hb HA5 HA6 HB5 p0 p1 p2 HBU2
   go_wp2_with fail
   refine bodyPost_ret (v := .agg #[.int .i64 0, .int .i64 0, .int .i64 bu]) (by simp [results, Tryz.results17, go_sem, r0, r1, r2]) rfl ⟨?_, ((HB6.out.setCell (by simp) _).setCell (by simp) _).setCell (by simp) _⟩
   have e := HCW.out
   injection e with e1 e3
   injection e1 with e1 e2
   rw [e1, e2, e3]
  ·have HCW : Hid (((c1, c2), c3) = ((m1, m2), 0)) := by unfold Hid; rw [HCV.out, if_pos hm]
   rw [errV_met hm]
   clear HCV HBU2
   go_wp2_with fail
   refine (misfit_hit m1 m2 _ (HER.out _ HB3.out)).mono ?_
   rintro e w4 ⟨rfl, hb⟩
   have hA6 := blk HA4.out hb
   have hB4 : Below w.heap.size w w4 := HB3.out.trans (hb.mono HB3.out.size)
   have hbx : Below w4.heap.size w4 (w4.alloc (.cells #[.int .i64 m1, .int .i64 m2] 107)) := (Below.refl _ _).alloc (Nat.le_refl _) _
   have HA6 : Hid _ := blk hA6 hbx
   have HB5 : Hid _ := hB4.trans (hbx.mono hB4.size)
   have HV5 : Hid _ := heap_alloc_new w4 (.cells #[.int .i64 m1, .int .i64 m2] 107)
   have hl2 : w.heap.size + 1 < w4.heap.size := blk_lt hA6
   clear hb hA6 hB4 hbx HA3 HA4 HB3 hm
   go_upto_region 6 with fail
   generalize w4.alloc (.cells #[.int .i64 m1, .int .i64 m2] 107) = W5 at *
   generalize w4.heap.size = g4 at *
   obtain ⟨v0, v1⟩ := cl2 HV5.out
   obtain ⟨r0, r1, r2⟩ := cl3 HA6.out
   obtain ⟨f0, f1, f2⟩ := fl3 HA6.out
   go_wp2_with fail
   refine bodyPost_ret (v := .agg #[.int .i64 m1, .int .i64 m2, .int .i64 0]) (by simp [results, Tryz.results17, go_sem, r0, r1, r2]) rfl ⟨?_, ((HB5.out.setCell (by simp) _).setCell (by simp) _).setCell (by simp) _⟩
   have e := HCW.out
   injection e with e1 e3
   injection e1 with e1 e2
   rw [e1, e2, e3]
 ·have hzb : (F == 0) = false := by simpa using hz
  have hzd : decide (F = 0) = false := decide_eq_false hz
  have HCW : Hid (((c1, c2), c3) = ((F, -1), 0)) := HC0.out hz
  obtain ⟨r0, r1, r2⟩ := cl3 HA2.out
  obtain ⟨f0, f1, f2⟩ := fl3 HA2.out
  clear HCM HC0 HM HBU
  go_wp2_with fail
  refine bodyPost_ret (v := .agg #[.int .i64 F, .int .i64 (-1), .int .i64 0]) (by simp [results, Tryz.results17, go_sem, r0, r1, r2]) rfl ⟨?_, ((HB.out.setCell (by simp) _).setCell (by simp) _).setCell (by simp) _⟩
  have e := HCW.out
  injection e with e1 e3
  injection e1 with e1 e2
  rw [e1, e2, e3]
end Go.Proofs.YtcecfmdjicjngaaGreatDoor
namespace Go.Proofs.YtcecfmdjicjngaaGreatDoor
open Go.RowKit
set_option linter.unusedVariables false
def b01 (b : Bool) : Int := if b then 1 else 0
def wordsB (zs : List Int) : Bool := zs.all (fun z => inB z 0 65535)
theorem wordsB_mem {zs : List Int} (h : wordsB zs = true) {z : Int} (hz : z ∈ zs) : 0 ≤ z ∧ z ≤ 65535 := by
 unfold wordsB at h
 rw [List.all_eq_true] at h
 exact inB_iff.1 (h z hz)
theorem wordsB_ok {zs : List Int} (h : ∀ j, j < zs.length → 0 ≤ zs.getD j 0 ∧ zs.getD j 0 ≤ 65535) : wordsB zs = true := by
 unfold wordsB
 rw [List.all_eq_true]
 intro z hz
 obtain ⟨i, hi, rfl⟩ := List.getElem_of_mem hz
 have := h i hi
 rw [List.getD_eq_getElem?_getD, List.getElem?_eq_getElem hi] at this
 exact inB_iff.2 this
theorem wordsB_bad {zs : List Int} (i : Nat) (hi : i < zs.length) (h : zs.getD i 0 < 0 ∨ 65535 < zs.getD i 0) : wordsB zs = false := by
 cases hw : wordsB zs with
 | false => rfl
 | true =>
  have hm : zs.getD i 0 ∈ zs := by rw [List.getD_eq_getElem?_getD, List.getElem?_eq_getElem hi]; simp
  have := wordsB_mem hw hm
  omega
theorem wordsB_get {zs : List Int} (h : wordsB zs = true) {i : Nat} (hi : i < zs.length) : 0 ≤ zs.getD i 0 ∧ zs.getD i 0 ≤ 65535 :=
 wordsB_mem h (by rw [List.getD_eq_getElem?_getD, List.getElem?_eq_getElem hi]; simp)
theorem wordsB_take {zs : List Int} (h : wordsB zs = true) (n : Nat) : wordsB (zs.take n) = true := by
 unfold wordsB at *
 rw [List.all_eq_true] at *
 exact fun z hz => h z (List.mem_of_mem_take hz)
theorem wordsB_snoc {zs : List Int} (h : wordsB zs = true) {z : Int} (h0 : 0 ≤ z) (h1 : z ≤ 65535) : wordsB (zs ++ [z]) = true := by
 unfold wordsB at *
 rw [List.all_append, h]
 simp [inB, h0, h1]
theorem wordsB_set {zs : List Int} (h : wordsB zs = true) {z : Int} (i : Nat) (h0 : 0 ≤ z) (h1 : z ≤ 65535) : wordsB (zs.set i z) = true := by
 unfold wordsB at *
 rw [List.all_eq_true] at *
 intro x hx
 rcases List.mem_or_eq_of_mem_set hx with hx | rfl
 ·exact h x hx
 ·exact inB_iff.2 ⟨h0, h1⟩
def allB (Z : Nat → List Int) (n : Nat) : Bool := (List.range n).all (fun i => wordsB (Z i))
theorem allB_ok {Z : Nat → List Int} {n : Nat} (h : ∀ i, i < n → wordsB (Z i) = true) : allB Z n = true := by
 unfold allB
 rw [List.all_eq_true]
 exact fun i hi => h i (List.mem_range.1 hi)
theorem allB_bad {Z : Nat → List Int} {n : Nat} (i : Nat) (hi : i < n) (h : wordsB (Z i) = false) : allB Z n = false := by
 cases hw : allB Z n with
 | false => rfl
 | true =>
  unfold allB at hw
  rw [List.all_eq_true] at hw
  rw [hw i (List.mem_range.2 hi)] at h
  cases h
theorem allB_one (Z : Nat → List Int) : allB Z 1 = wordsB (Z 0) := by
 unfold allB; simp [List.range_succ]
theorem allB_three (Z : Nat → List Int) : allB Z 3 = (wordsB (Z 0) && wordsB (Z 1) && wordsB (Z 2)) := by
 unfold allB; simp [List.range_succ, Bool.and_assoc]
end Go.Proofs.YtcecfmdjicjngaaGreatDoor
namespace Go.Proofs.YtcecfmdjicjngaaGreatDoor
open Go.RowKit
def isWord (z : Int) : Prop := 0 ≤ z ∧ z ≤ 65535
theorem fitsWord_yes (z : Int) (w : World) (h1 : 0 ≤ z) (h2 : z ≤ 65535) :
  Calls Tryz.prog 155 #[.int .i64 z] w fun e w' => e = .returned (.bool true) ∧ w' = w := by
 go_enter Tryz.func155, Tryz.ntmps155
 go_wp2
 go_ret
 exact ⟨rfl, rfl⟩
theorem fitsWord_no (z : Int) (w : World) (h : z < 0 ∨ 65535 < z) :
  Calls Tryz.prog 155 #[.int .i64 z] w fun e w' => e = .returned (.bool false) ∧ w' = w := by
 rcases h with h | h
 ·have hd : decide (0 ≤ z) = false := decide_eq_false (by omega)
  go_enter Tryz.func155, Tryz.ntmps155
  go_wp2
  go_ret
  exact ⟨rfl, rfl⟩
 ·have h0 : 0 ≤ z := by omega
  have hd : decide (z ≤ 65535) = false := decide_eq_false (by omega)
  go_enter Tryz.func155, Tryz.ntmps155
  go_wp2
  go_ret
  exact ⟨rfl, rfl⟩
theorem l1In_yes (z a b : Int) (w : World) (h1 : a ≤ z) (h2 : z ≤ b) :
  Calls Tryz.prog 161 #[.int .i64 z, .int .i64 a, .int .i64 b] w fun e w' => e = .returned (.bool true) ∧ w' = w := by
 go_enter Tryz.func161, Tryz.ntmps161
 go_wp2
 go_ret
 exact ⟨rfl, rfl⟩
theorem l1In_no (z a b : Int) (w : World) (h : z < a ∨ b < z) :
  Calls Tryz.prog 161 #[.int .i64 z, .int .i64 a, .int .i64 b] w fun e w' => e = .returned (.bool false) ∧ w' = w := by
 by_cases h1 : a ≤ z
 ·have hd : decide (z ≤ b) = false := decide_eq_false (by omega)
  clear h
  go_enter Tryz.func161, Tryz.ntmps161
  go_wp2
  go_ret
  exact ⟨rfl, rfl⟩
 ·have hd : decide (a ≤ z) = false := decide_eq_false (by omega)
  clear h
  go_enter Tryz.func161, Tryz.ntmps161
  go_wp2
  go_ret
  exact ⟨rfl, rfl⟩
theorem l1Word_yes (z : Int) (w : World) (h1 : 0 ≤ z) (h2 : z ≤ 65535) :
  Calls Tryz.prog 225 #[.int .i64 z] w fun e w' => e = .returned (.bool true) ∧ w' = w := by
 go_enter Tryz.func225, Tryz.ntmps225
 go_wp2_with (go_at_call 161; refine (l1In_yes _ _ _ _ h1 h2).mono ?_; rintro e w' ⟨rfl, rfl⟩)
 go_ret
 exact ⟨rfl, rfl⟩
theorem l1Word_no (z : Int) (w : World) (h : z < 0 ∨ 65535 < z) :
  Calls Tryz.prog 225 #[.int .i64 z] w fun e w' => e = .returned (.bool false) ∧ w' = w := by
 go_enter Tryz.func225, Tryz.ntmps225
 go_wp2_with (go_at_call 161; refine (l1In_no _ _ _ _ h).mono ?_; rintro e w' ⟨rfl, rfl⟩)
 go_ret
 exact ⟨rfl, rfl⟩
def fault (zs : List Int) : Int := if 400 < zs.length then 2 else if ∀ z ∈ zs, 0 ≤ z ∧ z ≤ 65535 then 0 else 3
theorem fault_many {zs : List Int} (h : 400 < zs.length) : fault zs = 2 := by rw [fault, if_pos h]
theorem fault_ok {zs : List Int} (h : zs.length ≤ 400) (hz : ∀ i, i < zs.length → 0 ≤ zs.getD i 0 ∧ zs.getD i 0 ≤ 65535) : fault zs = 0 := by
 rw [fault, if_neg (by omega), if_pos]
 intro z hm
 obtain ⟨i, hi, rfl⟩ := List.getElem_of_mem hm
 have := hz i hi
 rw [List.getD_eq_getElem?_getD, List.getElem?_eq_getElem hi] at this
 simpa using this
theorem fault_bad {zs : List Int} (h : zs.length ≤ 400) (i : Nat) (hi : i < zs.length) (hz : zs.getD i 0 < 0 ∨ 65535 < zs.getD i 0) : fault zs = 3 := by
 rw [fault, if_neg (by omega), if_neg]
 intro ha
 have hm : zs.getD i 0 ∈ zs := by
  rw [List.getD_eq_getElem?_getD, List.getElem?_eq_getElem hi]; simp
 have := ha _ hm
 omega
theorem fault_all {zs : List Int} (h : zs.length ≤ 400) : fault zs = if wordsB zs then 0 else 3 := by
 rw [fault, if_neg (by omega)]
 by_cases hw : wordsB zs = true
 ·rw [if_pos (fun z hz => wordsB_mem hw hz), if_pos hw]
 ·rw [if_neg (fun h => hw (by unfold wordsB; rw [List.all_eq_true]; exact fun z hz => inB_iff.2 (h z hz))), if_neg hw]
set_option maxHeartbeats 800000 in
theorem allWords_any (g cap n : Nat) (A : Nat → Option Addr) (Z : Nat → List Int) (C : Nat → Nat) (w : World) (hn8 : n ≤ 8)
  (hg : ∀ i, i < n → w.cell? ⟨g, i, none⟩ = some (.slice (A i) (Z i).length (C i)))
  (hlen : ∀ i, i < n → (Z i).length ≤ 9223372036854775807) (hn : ∀ i, i < n → Nums w (A i) (Z i)) :
  Calls Tryz.prog 185 #[.slice (some ⟨g, 0, none⟩) n cap] w fun e w' => e = .returned (.bool (allB Z n)) ∧ w' = w := by
 go_enter Tryz.func185, Tryz.ntmps185
 go_wp2
 go_loop [4, 9] (fun _ i => ∃ k : Nat, k ≤ n ∧ i = .int .i64 k ∧ ∀ j, j < k → wordsB (Z j) = true) (fun _ i => n - (intOf i).toNat)
 case atStart => exact ⟨0, Nat.zero_le _, rfl, fun j hj => by omega⟩
 case round =>
  obtain ⟨k, hk, rfl, ho⟩ := hrel
  have HO : Hid _ := ho
  clear ho
  by_cases hlt : k < n
  ·have hcell := hg k hlt
   have hl := hlen k hlt
   have hnn := hn k hlt
   have HB : Hid (∀ m, m < (Z k).length → ((Z k).getD m 0 < 0 ∨ 65535 < (Z k).getD m 0) → allB Z n = false) := fun m hm hz => allB_bad k hlt (wordsB_bad m hm hz)
   have HG : Hid (wordsB (Z k) = true → ∀ j, j < k + 1 → wordsB (Z j) = true) := fun hw j hj => by
    by_cases e : j = k
    ·subst e; exact hw
    ·exact HO.out j (by omega)
   generalize hzs : Z k = zs at *
   generalize A k = a at *
   generalize C k = c at *
   clear hg hlen hn hzs HO
   go_wp2
   go_loop [6, 15] (fun _ i => ∃ m : Nat, m ≤ zs.length ∧ i = .int .i64 m ∧ ∀ j, j < m → 0 ≤ zs.getD j 0 ∧ zs.getD j 0 ≤ 65535) (fun _ i => zs.length - (intOf i).toNat)
   case atStart => exact ⟨0, Nat.zero_le _, rfl, fun j hj => by omega⟩
   case round =>
    obtain ⟨m, hm, rfl, ho⟩ := hrel
    have HO : Hid _ := ho
    clear ho
    by_cases hlm : m < zs.length
    ·rcases hnn with hnn | ⟨b, off, rfl, hc⟩
     ·subst hnn; simp at hlm
     have hcell2 := hc m hlm
     clear hc
     obtain ⟨z, hz⟩ : ∃ z, z = zs.getD m 0 := ⟨_, rfl⟩
     rw [← hz] at hcell2
     have HZ : Hid _ := hz
     clear hz
     by_cases h5 : 0 ≤ z ∧ z ≤ 65535
     ·obtain ⟨h5, h6⟩ := h5
      go_wp2_with (go_at_call 155; refine (fitsWord_yes _ _ h5 h6).mono ?_; rintro e w' ⟨rfl, rfl⟩)
      go_round
      case rel =>
       refine ⟨m + 1, by omega, by go_num, fun j hj => ?_⟩
       by_cases hjk : j = m
       ·subst hjk; rw [← HZ.out]; exact ⟨h5, h6⟩
       ·exact HO.out j (by omega)
      case measure => simp [intOf]; omega
     ·have h6 : z < 0 ∨ 65535 < z := by omega
      have H6 : Hid _ := h6
      clear h6 h5
      go_wp2_with (go_at_call 155; refine (fitsWord_no _ _ H6.out).mono ?_; rintro e w' ⟨rfl, rfl⟩)
      go_ret
      exact ⟨by rw [HB.out m hlm (by rw [← HZ.out]; exact H6.out)]; rfl, rfl⟩
    ·have hk2 : m = zs.length := by omega
     subst hk2
     go_wp2
     go_round
     case rel => exact ⟨k + 1, by omega, by go_num, HG.out (wordsB_ok HO.out)⟩
     case measure => simp [intOf]; omega
  ·have hk2 : k = n := by omega
   subst hk2
   go_wp2
   go_ret
   exact ⟨by rw [allB_ok HO.out]; rfl, rfl⟩
set_option maxHeartbeats 400000 in
theorem implFault_any (a : Option Addr) (zs : List Int) (cap : Nat) (w : World) (hlen : zs.length ≤ 9223372036854775807) (hn : Nums w a zs) :
  Calls Tryz.prog 113 #[.slice a zs.length cap] w fun e w' => e = .returned (.int .i64 (fault zs)) ∧ Below w.heap.size w w' := by
 by_cases h4 : 400 < zs.length
 ·rw [fault_many h4]
  go_enter Tryz.func113, Tryz.ntmps113
  go_wp2
  go_ret
  exact ⟨rfl, Below.refl _ _⟩
 ·have HA : Hid (∀ W, Below w.heap.size w W → W.cell? ⟨w.heap.size, 0, none⟩ = some (.slice a zs.length cap) → Calls Tryz.prog 185 #[.slice (some ⟨w.heap.size, 0, none⟩) 1 1] W fun e w' => e = .returned (.bool (wordsB zs)) ∧ w' = W) := fun W hb hc => by
   have := allWords_any w.heap.size 1 1 (fun _ => a) (fun _ => zs) (fun _ => cap) W (by omega) (fun i hi => by rw [show i = 0 from by omega]; exact hc) (fun i hi => hlen) (fun i hi => hn.below hb)
   rw [allB_one] at this
   exact this
  have HF : Hid (fault zs = if wordsB zs then 0 else 3) := fault_all (by omega)
  have hB : Below w.heap.size w (w.alloc (.cells #[.slice a zs.length cap] 26 (0, 0))) := (Below.refl _ _).alloc (Nat.le_refl _) _
  have hC : (w.alloc (.cells #[.slice a zs.length cap] 26 (0, 0))).cell? ⟨w.heap.size, 0, none⟩ = some (.slice a zs.length cap) := by simp [go_sem]
  have HX : Hid (Calls Tryz.prog 185 #[.slice (some ⟨w.heap.size, 0, none⟩) 1 1] (w.alloc (.cells #[.slice a zs.length cap] 26 (0, 0))) fun e w' => e = .returned (.bool (wordsB zs)) ∧ w' = (w.alloc (.cells #[.slice a zs.length cap] 26 (0, 0)))) := HA.out _ hB hC
  have HB : Hid _ := hB
  clear HA hB hC hn
  obtain ⟨q, hq⟩ : ∃ q, q = wordsB zs := ⟨_, rfl⟩
  rw [← hq] at HX HF
  clear hq
  go_enter Tryz.func113, Tryz.ntmps113
  go_wp2_with fail
  refine HX.out.mono ?_
  rintro e w' ⟨rfl, rfl⟩
  clear HX
  cases q
  ·go_wp2_with fail
   go_ret
   exact ⟨by rw [HF.out]; rfl, HB.out⟩
  ·go_wp2_with fail
   go_ret
   exact ⟨by rw [HF.out]; rfl, HB.out⟩
end Go.Proofs.YtcecfmdjicjngaaGreatDoor
namespace Go.Proofs.YtcecfmdjicjngaaGreatDoor
open Go.RowKit
set_option linter.unusedVariables false
def allW (zs : List Int) : Bool := zs.all fun z => decide (0 ≤ z ∧ z ≤ 65535)
theorem allW_iff {zs : List Int} : allW zs = true ↔ ∀ z ∈ zs, 0 ≤ z ∧ z ≤ 65535 := by unfold allW; rw [List.all_eq_true]; simp
theorem allW_ok {zs : List Int} (h : ∀ j, j < zs.length → 0 ≤ zs.getD j 0 ∧ zs.getD j 0 ≤ 65535) : allW zs = true := by
 rw [allW_iff]
 intro z hm
 obtain ⟨i, hi, rfl⟩ := List.getElem_of_mem hm
 have := h i hi
 rw [List.getD_eq_getElem?_getD, List.getElem?_eq_getElem hi] at this
 simpa using this
theorem allW_bad {zs : List Int} (i : Nat) (hi : i < zs.length) (h : zs.getD i 0 < 0 ∨ 65535 < zs.getD i 0) : allW zs = false := by
 cases hw : allW zs with
 | false => rfl
 | true =>
  have hm : zs.getD i 0 ∈ zs := by rw [List.getD_eq_getElem?_getD, List.getElem?_eq_getElem hi]; simp
  have := (allW_iff.1 hw) _ hm
  omega
theorem fault_allW {zs : List Int} (h : zs.length ≤ 400) : fault zs = if allW zs = true then 0 else 3 := by
 unfold fault
 rw [if_neg (by omega)]
 by_cases hw : ∀ z ∈ zs, 0 ≤ z ∧ z ≤ 65535
 ·rw [if_pos hw, if_pos (allW_iff.2 hw)]
 ·rw [if_neg hw, if_neg (fun h => hw (allW_iff.1 h))]
def staF (T : LTree) (zs : List Int) : Int := if (chkT T).1.1 ≠ 0 then (chkT T).1.1 else if (zs.length : Int) ≠ cellsL (allL 0 T) then 1 else if allW zs = true then 0 else 3
theorem chk_good {T : LTree} (h : (chkT T).1.1 = 0) : faultL T = 0 ∧ cellsL (allL 0 T) ≤ 60 := by
 unfold chkT at h
 by_cases h0 : faultL T = 0
 ·rw [if_neg (by simpa using h0)] at h
  refine ⟨h0, ?_⟩
  by_cases h1 : namesF (allL 3 T) T.vars.length = 0
  ·rw [if_neg (by simpa using h1)] at h
   by_cases h2 : (bodyF (allL 3 T) T).1 = 0
   ·rw [if_neg (by simpa using h2)] at h
    by_cases h3 : 2000 < budT T ∨ 60 < cellsL (allL 3 T)
    ·rw [if_pos h3] at h; simp at h
    ·rw [cells_kind] at h3; omega
   ·rw [if_pos h2] at h; exact absurd h h2
  ·rw [if_pos h1] at h; exact absurd h h1
 ·rw [if_pos h0] at h; exact absurd h h0
end Go.Proofs.YtcecfmdjicjngaaGreatDoor
namespace Go.Proofs.YtcecfmdjicjngaaGreatDoor
open Go.RowKit
set_option linter.unusedVariables false
attribute [local go_sem] bs_size bs_get bs_extract bs_append bs_eq bs_toList
set_option maxHeartbeats 800000 in
theorem l6AllW_any (a : Option Addr) (zs : List Int) (cap : Nat) (w : World) (hlen : zs.length ≤ 1048576) (hn : Nums w a zs) :
  Calls Tryz.prog 175 #[.slice a zs.length cap] w fun e w' => e = .returned (.bool (allW zs)) ∧ w' = w := by
 go_enter Tryz.func175, Tryz.ntmps175
 go_wp2
 go_loop [3] (fun i => ∃ k : Nat, k ≤ zs.length ∧ i = .int .i64 k ∧ ∀ j, j < k → 0 ≤ zs.getD j 0 ∧ zs.getD j 0 ≤ 65535) (fun i => zs.length - (intOf i).toNat)
 case atStart => exact ⟨0, Nat.zero_le _, rfl, fun j hj => by omega⟩
 case round =>
  obtain ⟨k, hk, rfl, ho⟩ := hrel
  have HO : Hid _ := ho
  clear ho
  by_cases hlt : k < zs.length
  ·rcases hn with hn | ⟨b, off, rfl, hc⟩
   ·subst hn; simp at hlt
   have hcell := hc k hlt
   clear hc
   obtain ⟨z, hz⟩ : ∃ z, z = zs.getD k 0 := ⟨_, rfl⟩
   rw [← hz] at hcell
   have HZ : Hid _ := hz
   clear hz
   by_cases h5 : 0 ≤ z ∧ z ≤ 65535
   ·obtain ⟨h5, h6⟩ := h5
    go_wp2_with (go_at_call 225; refine (l1Word_yes _ _ h5 h6).mono ?_; rintro e w' ⟨rfl, rfl⟩)
    go_round
    case rel =>
     refine ⟨k + 1, by omega, by go_num, fun j hj => ?_⟩
     by_cases hjk : j = k
     ·subst hjk; rw [← HZ.out]; exact ⟨h5, h6⟩
     ·exact HO.out j (by omega)
    case measure => simp [intOf]; omega
   ·have h6 : z < 0 ∨ 65535 < z := by omega
    have H6 : Hid _ := h6
    clear h6 h5
    go_wp2_with (go_at_call 225; refine (l1Word_no _ _ H6.out).mono ?_; rintro e w' ⟨rfl, rfl⟩)
    go_ret
    have hf := allW_bad k hlt (by rw [← HZ.out]; exact H6.out)
    exact ⟨by rw [hf]; rfl, rfl⟩
  ·have hk2 : k = zs.length := by omega
   subst hk2
   go_wp2
   go_ret
   have hf := allW_ok HO.out
   exact ⟨by rw [hf]; rfl, rfl⟩
set_option maxHeartbeats 6400000 in
set_option maxRecDepth 100000 in
theorem l6Fault_any (lo p q : Nat) (vv vn vb : Value) (T : LTree) (a : Option Addr) (zs : List Int) (cap : Nat) (w : World) (h : TreeP lo w p vv vn vb T) (hS : Sized 1048576 T) (hq : w.cell? ⟨q, 0, none⟩ = some (.slice a zs.length cap)) (hn : Nums w a zs) (hlen : zs.length ≤ 1048576) :
  Calls Tryz.prog 99 #[.pointer (some ⟨p, 0, none⟩), .pointer (some ⟨q, 0, none⟩)] w fun e w' => e = .returned (.int .i64 (staF T zs)) ∧ Below w.heap.size w w' := by
 have HX : Hid (Calls Tryz.prog 77 #[.pointer (some ⟨p, 0, none⟩)] w fun e w' => e = .returned (.agg #[.int .i64 (chkT T).1.1, .int .i64 (chkT T).1.2, .int .i64 (chkT T).2]) ∧ Below w.heap.size w w') := l5Tree_any lo p vv vn vb T w h hS
 have HAL : Hid ((chkT T).1.1 = 0 → ∀ (w' : World), Below w.heap.size w w' → Calls Tryz.prog 94 #[.pointer (some ⟨p, 0, none⟩)] w' fun e w2 => ∃ v, e = .returned v ∧ w2.ownsRow w'.heap.size 45 4 v (allL 3 T).length (varCells (allL 3 T)) ∧ Below w'.heap.size w' w2) := fun h0 w' hb => l5All_any lo p vv vn vb T w' (h.below hb) (good_of (chk_good h0).1)
 have HCE : Hid ((chkT T).1.1 = 0 → ∀ (ad : Option Addr) (c : Nat) (W : World), RowV W ad (allL 3 T) → Calls Tryz.prog 93 #[.slice ad (allL 3 T).length c] W fun e w' => e = .returned (.int .i64 (cellsL (allL 0 T))) ∧ Below W.heap.size W w') := fun h0 ad c W hr => by
  have g := good_of (chk_good h0).1
  have := l5Cells_any (allL 3 T) ad (allL 3 T).length c W (Nat.le_refl _) hr (g.sizes 3) (g.all_len 3)
  rwa [List.take_length, cells_kind] at this
 have HL6 : Hid (∀ W, Below w.heap.size w W → Calls Tryz.prog 175 #[.slice a zs.length cap] W fun e w' => e = .returned (.bool (allW zs)) ∧ w' = W) := fun W hb => l6AllW_any a zs cap W hlen (hn.below hb)
 have HQ : Hid (∀ W, Below w.heap.size w W → W.cell? ⟨q, 0, none⟩ = some (.slice a zs.length cap)) := fun W hb => (hb.cell (p := ⟨q, 0, none⟩) (World.block_lt_of_cell? _ _ hq)).trans hq
 have HST : Hid (staF T zs = if (chkT T).1.1 ≠ 0 then (chkT T).1.1 else if (zs.length : Int) ≠ cellsL (allL 0 T) then 1 else if allW zs = true then 0 else 3) := rfl
 clear h hS hq hn
 generalize staF T zs = R at *
 generalize (chkT T).1.1 = c1 at *
 generalize (chkT T).1.2 = c2 at *
 generalize (chkT T).2 = c3 at *
 generalize cellsL (allL 0 T) = z at *
 generalize allW zs = aw at *
 go_enter Tryz.func99, Tryz.ntmps99
 go_wp2_with fail
 refine HX.out.mono ?_
 rintro e w2 ⟨rfl, hb⟩
 have HB := hid hb
 clear hb HX
 by_cases hc : c1 = 0
 ·subst hc
  have HST2 : Hid (R = if (zs.length : Int) ≠ z then 1 else if aw = true then 0 else 3) := by unfold Hid; rw [HST.out, if_neg (by simp)]
  have HAL2 := HAL.out rfl
  have HCE2 := HCE.out rfl
  clear HST HAL HCE
  have HAL : Hid _ := HAL2
  have HCE : Hid _ := HCE2
  clear HAL2 HCE2
  go_upto_region 4 with fail
  have HB3 : Hid (Below w.heap.size w (w2.alloc (.cells #[.int .i64 0, .int .i64 c2, .int .i64 c3] 31))) := HB.out.alloc HB.out.size _
  generalize w2.alloc (.cells #[.int .i64 0, .int .i64 c2, .int .i64 c3] 31) = W3 at *
  have q0 : W3.cell? ⟨q, 0, none⟩ = some (.slice a zs.length cap) := HQ.out _ HB3.out
  clear HB
  by_cases hz : (zs.length : Int) = z
  ·subst hz
   have HR : Hid (R = if aw = true then 0 else 3) := by unfold Hid; rw [HST2.out, if_neg (by simp)]
   clear HST2
   go_region_held3 (fun W => W.cell? ⟨q, 0, none⟩ = some (.slice a zs.length cap)) (go_keep) (first | (go_at_call 94; refine (HAL.out _ HB3.out.drew).mono ?_; rintro e w7 ⟨v, rfl, hown, hb⟩; obtain ⟨ad, cp, rfl⟩ := rowE_shape hown; have HRV : Hid (RowV w7 ad (allL 3 T)) := RowV.of_own hown rfl; have HD : Hid (Below w.heap.size w w7) := HB3.out.drew.trans (hb.mono HB3.out.drew.size); have q0 := HQ.out _ HD.out; clear hb hown) | (go_at_call 93; refine (HCE.out _ _ _ HRV.out).mono ?_; rintro e w8 ⟨rfl, hb⟩; have HE : Hid (Below w.heap.size w w8) := HD.out.trans (hb.mono HD.out.size); have q0 := HQ.out _ HE.out; clear hb))
   go_wp2_with fail
   refine (HL6.out _ HE.out).mono ?_
   rintro e w9 ⟨rfl, rfl⟩
   cases aw with
   | true =>
    go_wp2_with fail
    go_ret
    exact ⟨by rw [HR.out]; rfl, HE.out⟩
   | false =>
    go_wp2_with fail
    go_ret
    exact ⟨by rw [HR.out]; rfl, HE.out⟩
  ·have hz1 : ((zs.length : Int) == z) = false := by simpa using hz
   have hz2 : decide ((zs.length : Int) = z) = false := decide_eq_false hz
   have HR : Hid (R = 1) := by unfold Hid; rw [HST2.out, if_pos hz]
   clear HST2
   go_region_held3 (fun W => W.cell? ⟨q, 0, none⟩ = some (.slice a zs.length cap)) (go_keep) (first | (go_at_call 94; refine (HAL.out _ HB3.out.drew).mono ?_; rintro e w7 ⟨v, rfl, hown, hb⟩; obtain ⟨ad, cp, rfl⟩ := rowE_shape hown; have HRV : Hid (RowV w7 ad (allL 3 T)) := RowV.of_own hown rfl; have HD : Hid (Below w.heap.size w w7) := HB3.out.drew.trans (hb.mono HB3.out.drew.size); have q0 := HQ.out _ HD.out; clear hb hown) | (go_at_call 93; refine (HCE.out _ _ _ HRV.out).mono ?_; rintro e w8 ⟨rfl, hb⟩; have HE : Hid (Below w.heap.size w w8) := HD.out.trans (hb.mono HD.out.size); have q0 := HQ.out _ HE.out; clear hb))
   go_wp2_with fail
   go_ret
   exact ⟨by rw [HR.out]; rfl, HE.out⟩
 ·have hz1 : (c1 == 0) = false := by simpa using hc
  have hz2 : decide (c1 = 0) = false := decide_eq_false hc
  have HR : Hid (R = c1) := by unfold Hid; rw [HST.out, if_pos hc]
  clear HST HAL HCE HL6 HQ
  go_wp2_with fail
  go_ret
  exact ⟨by rw [HR.out]; rfl, HB.out.alloc HB.out.size _⟩
end Go.Proofs.YtcecfmdjicjngaaGreatDoor
namespace Go.Proofs.YtcecfmdjicjngaaGreatDoor
open Go.RowKit
set_option linter.unusedVariables false
attribute [local go_sem] bs_size bs_get bs_extract bs_append bs_eq bs_toList
set_option maxHeartbeats 6400000 in
theorem szTreeLe_any (lo : Nat) (T : LTree) (vv vn vb : Value) (w : World) (h : TreeV lo w vv vn vb T) (hf : Fits T) :
  Calls Tryz.prog 30 #[treeV vv vn vb, .int .i64 1048576] w fun e w' => ∃ r : Int, e = .returned (.int .i64 r) ∧ (0 ≤ r → Sized 1048576 T ∧ r ≤ 1048576) ∧ Below w.heap.size w w' := by
 obtain ⟨av, cv, rfl, _⟩ := id h.vars
 obtain ⟨an, cn, rfl, _⟩ := id h.nodes
 obtain ⟨ab, cb, rfl, _⟩ := id h.body
 have HV := hid h
 have HF : Hid (Fits T) := hf
 clear h hf
 go_enter Tryz.func30, Tryz.ntmps30
 go_wp2_with fail
 have hA := heap_alloc_new w (.cells #[.slice av T.vars.length cv, .slice an T.nodes.length cn, .slice ab T.body.length cb] 62)
 have hB : Below w.heap.size w (w.alloc (.cells #[.slice av T.vars.length cv, .slice an T.nodes.length cn, .slice ab T.body.length cb] 62)) := (Below.refl _ _).alloc (Nat.le_refl _) _
 generalize w.alloc (.cells #[.slice av T.vars.length cv, .slice an T.nodes.length cn, .slice ab T.body.length cb] 62) = W at *
 refine (szVars_any lo _ _ 1048576 _ (HV.out.below hB).vars (by omega) (by omega) HF.out.vars HF.out.names).mono ?_
 rintro e w0 ⟨L1, rfl, hr, hb⟩
 have hAc := blk hA hb
 have hBc := hB.trans (hb.mono hB.size)
 clear hA hB hb
 have a1 := cell_of_row _ _ 1 _ _ _ hAc
 simp at a1
 have HA : Hid _ := hAc
 have HB : Hid _ := hBc
 clear hAc hBc
 rcases hr with rfl | ⟨k1, m1, z1⟩
 ·go_wp2_with fail
  go_ret
  exact ⟨_, rfl, fun h => absurd h (by omega), HB.out⟩
 have HZ1 : Hid _ := z1
 clear z1
 go_wp2_with fail
 have hA := HA.out
 have hB := HB.out
 clear HA HB a1
 refine (szNodes_any lo _ _ _ _ (HV.out.below hB).nodes k1 (by omega) HF.out.nodes HF.out.node).mono ?_
 rintro e w1 ⟨L2, rfl, hr, hb⟩
 have hAc := blk hA hb
 have hBc := hB.trans (hb.mono hB.size)
 clear hA hB hb
 have a2 := cell_of_row _ _ 2 _ _ _ hAc
 simp at a2
 have HA : Hid _ := hAc
 have HB : Hid _ := hBc
 clear hAc hBc
 rcases hr with rfl | ⟨k2, m2, z2⟩
 ·go_wp2_with fail
  go_ret
  exact ⟨_, rfl, fun h => absurd h (by omega), HB.out⟩
 have HZ2 : Hid _ := z2
 clear z2
 go_wp2_with fail
 have hA := HA.out
 have hB := HB.out
 clear HA HB a2
 refine (szInts_any _ _ _ _ k2 (by omega) HF.out.body _).mono ?_
 rintro e w2 ⟨L3, rfl, hr, hb⟩
 have hAc := blk hA hb
 have hBc := hB.trans (hb.mono hB.size)
 clear hA hB hb
 have HA : Hid _ := hAc
 have HB : Hid _ := hBc
 clear hAc hBc
 rcases hr with rfl | ⟨k3, m3, z3⟩
 ·go_wp2_with fail
  go_ret
  exact ⟨_, rfl, fun h => absurd h (by omega), HB.out⟩
 have HZ3 : Hid _ := z3
 clear z3
 go_wp2_with fail
 go_ret
 exact ⟨_, rfl, fun _ => ⟨⟨HZ1.out.1, HZ2.out.1, HZ3.out, HZ1.out.2, HZ2.out.2⟩, by omega⟩, HB.out⟩
end Go.Proofs.YtcecfmdjicjngaaGreatDoor
namespace Go.Proofs.YtcecfmdjicjngaaGreatDoor
open Go.RowKit
set_option linter.unusedVariables false
attribute [local go_sem] bs_size bs_get bs_extract bs_append bs_eq bs_toList
set_option maxHeartbeats 1600000 in
theorem szState_any (a : Option Addr) (n c : Nat) (left : Int) (h0 : 0 ≤ left) (h1 : left ≤ 1048576) (hl : n ≤ 9223372036854775807) (w : World) :
  Calls Tryz.prog 40 #[.agg #[.slice a n c], .int .i64 left] w fun e w' => ∃ r : Int, e = .returned (.int .i64 r) ∧ (0 ≤ r → n ≤ 1048576) ∧ Below w.heap.size w w' := by
 have HX : Hid (∀ W, Calls Tryz.prog 104 #[.slice a n c, .int .i64 left] W fun e w' => ∃ r : Int, e = .returned (.int .i64 r) ∧ Left left r (n ≤ 1048576) ∧ Below W.heap.size W w') := fun W => szInts_any a n c left h0 h1 hl W
 have hB : Below w.heap.size w (w.alloc (.cells #[.slice a n c] 74)) := (Below.refl _ _).alloc (Nat.le_refl _) _
 clear hl
 go_enter Tryz.func40, Tryz.ntmps40
 go_wp2_with fail
 generalize w.alloc (.cells #[.slice a n c] 74) = W at *
 refine (HX.out _).mono ?_
 rintro e w2 ⟨r, rfl, hr, hb⟩
 have HB : Hid (Below w.heap.size w w2) := hB.trans (hb.mono hB.size)
 clear hB hb HX
 rcases hr with rfl | ⟨k1, m1, z1⟩
 ·go_wp2_with fail
  go_ret
  exact ⟨_, rfl, fun h => absurd h (by omega), HB.out⟩
 ·have HZ1 : Hid _ := z1
  clear z1
  go_wp2_with fail
  go_ret
  exact ⟨_, rfl, fun _ => HZ1.out, HB.out⟩
theorem Nums.set {w : World} {a : Option Addr} {zs : List Int} {p : Addr} {v : Value} (h : Nums w a zs) (hp : ∀ b o, a = some ⟨b, o, none⟩ → p.block ≠ b) : Nums (w.setCell p v) a zs := by
 rcases h with h | ⟨b, o, rfl, hc⟩
 ·exact .inl h
 ·exact .inr ⟨b, o, rfl, fun i hi => (World.cell?_setCell_other _ _ _ _ (fun e => hp b o rfl (by have := congrArg Addr.block e; first | exact this | exact this.symm))).trans (hc i hi)⟩
set_option maxHeartbeats 1600000 in
theorem toState_any (a : Option Addr) (zs : List Int) (cap : Nat) (w : World) (hlen : zs.length ≤ 1048576) (hn : Nums w a zs) :
  Calls Tryz.prog 42 #[.agg #[.slice a zs.length cap]] w fun e w' => ∃ a2 c2, e = .returned (.agg #[.slice a2 zs.length c2]) ∧ Nums w' a2 zs ∧ Below w.heap.size w w' := by
 have HX : Hid (∀ W, Below w.heap.size w W → Calls Tryz.prog 62 #[.slice a zs.length cap] W fun e w' => e = .returned (.slice (some ⟨W.heap.size, 0, none⟩) zs.length zs.length) ∧ Nums w' (some ⟨W.heap.size, 0, none⟩) zs ∧ Below W.heap.size W w') := fun W hb =>
  (copy_any a zs cap W hlen (hn.below hb)).mono fun e w' h => ⟨h.1, (nums_of_own h.2.1).2, h.2.2⟩
 have a1 := heap_alloc_new w (.cells #[.slice a zs.length cap] 74)
 have b1 : Below w.heap.size w (w.alloc (.cells #[.slice a zs.length cap] 74)) := (Below.refl _ _).alloc (Nat.le_refl _) _
 have s1 : (w.alloc (.cells #[.slice a zs.length cap] 74)).heap.size = w.heap.size + 1 := by simp
 clear hn
 go_enter Tryz.func42, Tryz.ntmps42
 go_upto_region 2 with fail
 generalize w.alloc (.cells #[.slice a zs.length cap] 74) = W1 at *
 have a2 := heap_alloc_new W1 (.cells #[.slice none 0 0] 52)
 have b2 : Below W1.heap.size W1 (W1.alloc (.cells #[.slice none 0 0] 52)) := (Below.refl _ _).alloc (Nat.le_refl _) _
 have s2 : (W1.alloc (.cells #[.slice none 0 0] 52)).heap.size = w.heap.size + 2 := by simp; omega
 generalize W1.alloc (.cells #[.slice none 0 0] 52) = W2 at *
 have a3 := heap_alloc_new W2 (.cells #[.slice none 0 0] 52)
 have b3 : Below W2.heap.size W2 (W2.alloc (.cells #[.slice none 0 0] 52)) := (Below.refl _ _).alloc (Nat.le_refl _) _
 have s3 : (W2.alloc (.cells #[.slice none 0 0] 52)).heap.size = w.heap.size + 3 := by simp; omega
 generalize W2.alloc (.cells #[.slice none 0 0] 52) = W3 at *
 rw [s1] at a2
 rw [s2] at a3
 have A1 := blk (blk a1 b2) b3
 have A2 := blk a2 b3
 have B : Below w.heap.size w W3 := (b1.trans (b2.mono (by omega))).trans (b3.mono (by omega))
 have q0 := cell_of_row _ _ 0 _ _ _ A1
 simp at q0
 clear a1 a2 b1 b2 b3 s1 s2 A1
 go_wp2_with fail
 refine (HX.out _ B).mono ?_
 rintro e w4 ⟨rfl, hnn, hb⟩
 have d2 := blk A2 hb
 have d3 := blk a3 hb
 have HB : Hid (Below w.heap.size w w4) := B.trans (hb.mono B.size)
 have HN := hid hnn
 have HS3 : Hid (W3.heap.size = w.heap.size + 3) := s3
 have r0 := cell_of_row _ _ 0 _ _ _ d2
 have f0 := frozen_of_row _ _ 0 _ _ d2
 have r1 := cell_of_row _ _ 0 _ _ _ d3
 have f1 := frozen_of_row _ _ 0 _ _ d3
 simp at r0 r1 f0 f1
 clear a3 A2 B q0 hnn hb d2 d3 s3 HX
 generalize W3.heap.size = g at *
 go_wp2_with fail
 refine bodyPost_ret (v := .agg #[.slice (some ⟨g, 0, none⟩) zs.length zs.length]) (by simp [results, Tryz.results42, go_sem, r0]) rfl ⟨_, _, rfl, ?_, (HB.out.setCell (by simp <;> omega) _).setCell (by simp) _⟩
 exact (HN.out.set (fun b o e => by have := HS3.out; injection e with e; injection e with e; simp; omega)).set (fun b o e => by have := HS3.out; injection e with e; injection e with e; simp; omega)
set_option maxHeartbeats 1600000 in
theorem eqState_any (a b : Option Addr) (zs : List Int) (ca cb : Nat) (w : World) (hlen : zs.length ≤ 1048576) (ha : Nums w a zs) (hb : Nums w b zs) :
  Calls Tryz.prog 44 #[.agg #[.slice a zs.length ca], .agg #[.slice b zs.length cb]] w fun e w' => e = .returned (.bool true) ∧ Below w.heap.size w w' := by
 have HX : Hid (∀ W, Below w.heap.size w W → Calls Tryz.prog 63 #[.slice a zs.length ca, .slice b zs.length cb] W fun e w' => e = .returned (.bool true) ∧ Below W.heap.size W w') := fun W h => eqNums_any a b zs ca cb W (by omega) (ha.below h) (hb.below h)
 clear ha hb
 have b1 : Below w.heap.size w (w.alloc (.cells #[.slice a zs.length ca] 52)) := (Below.refl _ _).alloc (Nat.le_refl _) _
 have HB : Hid (Below w.heap.size w ((w.alloc (.cells #[.slice a zs.length ca] 52)).alloc (.cells #[.slice b zs.length cb] 52))) := b1.alloc b1.size _
 clear b1
 go_enter Tryz.func44, Tryz.ntmps44
 go_wp2_with fail
 refine (HX.out _ HB.out).mono ?_
 rintro e w2 ⟨rfl, hb⟩
 have HB2 : Hid (Below w.heap.size w w2) := HB.out.trans (hb.mono HB.out.size)
 clear hb HX HB
 go_wp2_with fail
 go_ret
 exact ⟨rfl, HB2.out⟩
set_option maxHeartbeats 1600000 in
theorem specStateFault (lo : Nat) (vv vn vb : Value) (T : LTree) (a : Option Addr) (zs : List Int) (cap : Nat) (w : World) (h : TreeV lo w vv vn vb T) (hS : Sized 1048576 T) (hn : Nums w a zs) (hlen : zs.length ≤ 1048576) :
  Calls Tryz.prog 41 #[treeV vv vn vb, .agg #[.slice a zs.length cap]] w fun e w' => e = .returned (.int .i64 (staF T zs)) ∧ Below w.heap.size w w' := by
 have HX : Hid (∀ W, Below w.heap.size w W → W.heap[w.heap.size]? = some (.cells #[vv, vn, vb] 28 (0, 0)) → W.heap[w.heap.size + 1]? = some (.cells #[.slice a zs.length cap] 52 (0, 0)) → Calls Tryz.prog 99 #[.pointer (some ⟨w.heap.size, 0, none⟩), .pointer (some ⟨w.heap.size + 1, 0, none⟩)] W fun e w' => e = .returned (.int .i64 (staF T zs)) ∧ Below W.heap.size W w') := fun W hb h1 h2 =>
  l6Fault_any lo w.heap.size (w.heap.size + 1) vv vn vb T a zs cap W ⟨cell_of_row _ _ 0 _ _ _ h1, cell_of_row _ _ 1 _ _ _ h1, cell_of_row _ _ 2 _ _ _ h1, h.below hb⟩ hS (cell_of_row _ _ 0 _ _ _ h2) (hn.below hb) hlen
 obtain ⟨av, cv, rfl, _⟩ := id h.vars
 obtain ⟨an, cn, rfl, _⟩ := id h.nodes
 obtain ⟨ab, cb, rfl, _⟩ := id h.body
 clear h hS hn
 have hA := heap_alloc_new w (.cells #[.slice av T.vars.length cv, .slice an T.nodes.length cn, .slice ab T.body.length cb] 28)
 have hB : Below w.heap.size w (w.alloc (.cells #[.slice av T.vars.length cv, .slice an T.nodes.length cn, .slice ab T.body.length cb] 28)) := (Below.refl _ _).alloc (Nat.le_refl _) _
 have hZ : (w.alloc (.cells #[.slice av T.vars.length cv, .slice an T.nodes.length cn, .slice ab T.body.length cb] 28)).heap.size = w.heap.size + 1 := by simp
 have hA2 := heap_alloc_new (w.alloc (.cells #[.slice av T.vars.length cv, .slice an T.nodes.length cn, .slice ab T.body.length cb] 28)) (.cells #[.slice a zs.length cap] 52)
 have hB2 : Below (w.alloc (.cells #[.slice av T.vars.length cv, .slice an T.nodes.length cn, .slice ab T.body.length cb] 28)).heap.size (w.alloc (.cells #[.slice av T.vars.length cv, .slice an T.nodes.length cn, .slice ab T.body.length cb] 28)) _ := (Below.refl _ _).alloc (Nat.le_refl _) (.cells #[.slice a zs.length cap] 52)
 have hA1 := blk hA hB2
 have hB3 := hB.trans (hB2.mono (by omega))
 rw [hZ] at hA2
 have HX2 : Hid (Calls Tryz.prog 99 #[.pointer (some ⟨w.heap.size, 0, none⟩), .pointer (some ⟨w.heap.size + 1, 0, none⟩)] ((w.alloc (.cells #[.slice av T.vars.length cv, .slice an T.nodes.length cn, .slice ab T.body.length cb] 28)).alloc (.cells #[.slice a zs.length cap] 52)) fun e w' => e = .returned (.int .i64 (staF T zs)) ∧ Below ((w.alloc (.cells #[.slice av T.vars.length cv, .slice an T.nodes.length cn, .slice ab T.body.length cb] 28)).alloc (.cells #[.slice a zs.length cap] 52)).heap.size ((w.alloc (.cells #[.slice av T.vars.length cv, .slice an T.nodes.length cn, .slice ab T.body.length cb] 28)).alloc (.cells #[.slice a zs.length cap] 52)) w') := HX.out _ hB3 hA1 hA2
 have HB3 : Hid _ := hB3
 clear hA hB hB2 hZ hA1 hA2 HX hB3
 go_enter Tryz.func41, Tryz.ntmps41
 go_wp2_with fail
 generalize ((w.alloc (.cells #[.slice av T.vars.length cv, .slice an T.nodes.length cn, .slice ab T.body.length cb] 28)).alloc (.cells #[.slice a zs.length cap] 52)) = W at *
 refine HX2.out.mono ?_
 rintro e w2 ⟨rfl, hb⟩
 have HB : Hid (Below w.heap.size w w2) := HB3.out.trans (hb.mono HB3.out.size)
 clear hb HB3 HX2
 go_wp2_with fail
 go_ret
 exact ⟨rfl, HB.out⟩
end Go.Proofs.YtcecfmdjicjngaaGreatDoor
namespace Go.Proofs.YtcecfmdjicjngaaGreatDoor
open Go.RowKit
set_option linter.unusedVariables false
theorem two_start (w : World) (vv vn vb : Value) (T1 T2 : TypeId) : let W := ((w.alloc (.cells #[vv, vn, vb] T1)).alloc (.cells #[.int .i64 0, .int .i64 0] T2))
  W.heap[w.heap.size]? = some (.cells #[vv, vn, vb] T1 (0, 0)) ∧ W.heap[w.heap.size + 1]? = some (.cells #[.int .i64 0, .int .i64 0] T2 (0, 0)) ∧ Below w.heap.size w W := by
 intro W
 have hA := heap_alloc_new w (.cells #[vv, vn, vb] T1)
 have hB : Below w.heap.size w (w.alloc (.cells #[vv, vn, vb] T1)) := (Below.refl _ _).alloc (Nat.le_refl _) _
 have hZ : (w.alloc (.cells #[vv, vn, vb] T1)).heap.size = w.heap.size + 1 := by simp
 have hA2 := heap_alloc_new (w.alloc (.cells #[vv, vn, vb] T1)) (.cells #[.int .i64 0, .int .i64 0] T2)
 have hB2 : Below (w.alloc (.cells #[vv, vn, vb] T1)).heap.size (w.alloc (.cells #[vv, vn, vb] T1)) W := (Below.refl _ _).alloc (Nat.le_refl _) _
 rw [hZ] at hA2
 exact ⟨blk hA hB2, hA2, hB.trans (hB2.mono (by omega))⟩
end Go.Proofs.YtcecfmdjicjngaaGreatDoor
namespace Go.Proofs.YtcecfmdjicjngaaGreatDoor
open Go.RowKit
set_option linter.unusedVariables false
attribute [local go_sem] bs_size bs_get bs_extract bs_append bs_eq bs_toList
def TreeNumI (f : FuncId) (C V : LTree → Int) : Prop := ∀ (lo : Nat) (vv vn vb : Value) (T : LTree) (w : World), TreeV lo w vv vn vb T → Sized 1048576 T →
 Calls Tryz.prog f #[treeV vv vn vb] w fun e w' => e = .returned (.agg #[.int .i64 (C T), .int .i64 (V T)]) ∧ Below w.heap.size w w'
def celC (T : LTree) : Int := faultL T
def celV (T : LTree) : Int := if faultL T ≠ 0 then 0 else cellsL (allL 0 T)
set_option maxHeartbeats 6400000 in
set_option maxRecDepth 100000 in
theorem implCellsOf : TreeNumI 22 celC celV := by
 intro lo vv vn vb T w h hS
 obtain ⟨av, cv, rfl, _⟩ := id h.vars
 obtain ⟨an, cn, rfl, _⟩ := id h.nodes
 obtain ⟨ab, cb, rfl, _⟩ := id h.body
 have HF : Hid (∀ (w' : World), Below w.heap.size w w' → Calls Tryz.prog 21 #[treeV (.slice av T.vars.length cv) (.slice an T.nodes.length cn) (.slice ab T.body.length cb)] w' fun e w2 => e = .returned (.int .i64 (faultL T)) ∧ Below w'.heap.size w' w2) := fun w' hb =>
  implTreeFault lo _ _ _ T w' (h.below hb) hS
 have HD : Hid (∀ (w' : World), Below w.heap.size w w' → faultL T = 0 → Calls Tryz.prog 91 #[.agg #[.slice av T.vars.length cv, .slice an T.nodes.length cn, .slice ab T.body.length cb]] w' fun e w2 => ∃ v, e = .returned v ∧ w2.ownsRow w'.heap.size 136 6 v (allL 0 T).length (entC (allL 0 T) T.vars.length (allL 0 T).length) ∧ Below w'.heap.size w' w2) := fun w' hb h0 =>
  variablesOf_any lo _ _ _ T w' (h.below hb) (good_of h0)
 have HSZ : Hid (faultL T = 0 → SizesLe (allL 0 T) ∧ (allL 0 T).length ≤ 624) := fun h => ⟨(good_of h).sizes 0, (good_of h).all_len 0⟩
 have HCC : Hid (∀ (ad : Option Addr) (c : Nat) (w : World), RowE w ad (allL 0 T) T.vars.length → SizesLe (allL 0 T) → (allL 0 T).length ≤ 624 → Calls Tryz.prog 90 #[.slice ad (allL 0 T).length c] w fun e w' => e = .returned (.int .i64 (cellsL (allL 0 T))) ∧ Below w.heap.size w w') := fun ad c w h1 h2 h3 =>
  cellCount_any (allL 0 T) T.vars.length ad (allL 0 T).length c w rfl h1 h2 h3
 have HV : Hid (celV T = if faultL T ≠ 0 then 0 else cellsL (allL 0 T)) := rfl
 have HC : Hid (celC T = faultL T) := rfl
 clear h hS
 go_enter Tryz.func22, Tryz.ntmps22
 go_wp2_with fail
 obtain ⟨hA, hA2, hB⟩ := two_start w (.slice av T.vars.length cv) (.slice an T.nodes.length cn) (.slice ab T.body.length cb) 28 34
 generalize ((w.alloc (.cells #[.slice av T.vars.length cv, .slice an T.nodes.length cn, .slice ab T.body.length cb] 28)).alloc (.cells #[.int .i64 0, .int .i64 0] 34)) = W at *
 refine (HF.out _ hB).mono ?_
 rintro e w2 ⟨rfl, hb⟩
 have HA : Hid (w2.heap[w.heap.size]? = some (.cells #[.slice av T.vars.length cv, .slice an T.nodes.length cn, .slice ab T.body.length cb] 28 (0, 0))) := blk hA hb
 have HA2 : Hid (w2.heap[w.heap.size + 1]? = some (.cells #[.int .i64 0, .int .i64 0] 34 (0, 0))) := blk hA2 hb
 have HB : Hid (Below w.heap.size w w2) := hB.trans (hb.mono hB.size)
 clear hA hA2 hB hb HF
 obtain ⟨F, hF⟩ : ∃ F, faultL T = F := ⟨_, rfl⟩
 rw [hF]
 by_cases hz : F = 0
 ·subst hz
  have HCV : Hid (celC T = 0 ∧ celV T = cellsL (allL 0 T)) := ⟨by rw [HC.out, hF], by rw [HV.out, hF, if_neg (by simp)]⟩
  have HDC : Hid (Calls Tryz.prog 91 #[.agg #[.slice av T.vars.length cv, .slice an T.nodes.length cn, .slice ab T.body.length cb]] w2 fun e w3 => ∃ v, e = .returned v ∧ w3.ownsRow w2.heap.size 136 6 v (allL 0 T).length (entC (allL 0 T) T.vars.length (allL 0 T).length) ∧ Below w2.heap.size w2 w3) := HD.out _ HB.out hF
  have HS2 : Hid (SizesLe (allL 0 T) ∧ (allL 0 T).length ≤ 624) := HSZ.out hF
  obtain ⟨p0, p1, p2⟩ := cl3 HA.out
  clear hF HC HV HD HSZ
  go_wp2_with fail
  refine HDC.out.mono ?_
  rintro e w4 ⟨v, rfl, hown, hb⟩
  obtain ⟨ad, cp, rfl⟩ := rowE_shape hown
  have hRV := RowE.of_own hown rfl
  have HCX : Hid (Calls Tryz.prog 90 #[.slice ad (allL 0 T).length cp] w4 fun e w' => e = .returned (.int .i64 (cellsL (allL 0 T))) ∧ Below w4.heap.size w4 w') := HCC.out ad cp w4 hRV HS2.out.1 HS2.out.2
  have hA2 := blk HA2.out hb
  have HB2 : Hid (Below w.heap.size w w4) := HB.out.trans (hb.mono HB.out.size)
  clear hown hRV hb HCC HS2 HDC p0 p1 p2
  go_wp2_with fail
  refine HCX.out.mono ?_
  rintro e w5 ⟨rfl, hb⟩
  have hA5 := blk hA2 hb
  have HB5 : Hid (Below w.heap.size w w5) := HB2.out.trans (hb.mono HB2.out.size)
  clear hA2 hb
  obtain ⟨r0, r1⟩ := cl2 hA5
  obtain ⟨f0, f1⟩ := fl2 hA5
  clear hA5
  generalize cellsL (allL 0 T) = z at *
  go_wp2_with fail
  refine bodyPost_ret (v := .agg #[.int .i64 0, .int .i64 z]) (by simp [results, Tryz.results22, go_sem, r0, r1]) rfl ⟨by rw [HCV.out.1, HCV.out.2], (HB5.out.setCell (by simp) _).setCell (by simp) _⟩
 ·have HCV : Hid (celC T = F ∧ celV T = 0) := ⟨by rw [HC.out, hF], by rw [HV.out, hF, if_pos hz]⟩
  have hz1 : (F == 0) = false := by simpa using hz
  have hz2 : decide (F = 0) = false := decide_eq_false hz
  obtain ⟨r0, r1⟩ := cl2 HA2.out
  obtain ⟨f0, f1⟩ := fl2 HA2.out
  clear HC HV hF
  go_wp2_with fail
  refine bodyPost_ret (v := .agg #[.int .i64 F, .int .i64 0]) (by simp [results, Tryz.results22, go_sem, r0, r1]) rfl ⟨by rw [HCV.out.1, HCV.out.2], (HB.out.setCell (by simp) _).setCell (by simp) _⟩
end Go.Proofs.YtcecfmdjicjngaaGreatDoor
namespace Go.Proofs.YtcecfmdjicjngaaGreatDoor
open Go.RowKit
set_option linter.unusedVariables false
attribute [local go_sem] bs_size bs_get bs_extract bs_append bs_eq bs_toList
def TreeStG (f : FuncId) (R : LTree → List Int → Int) : Prop := ∀ (lo : Nat) (vv vn vb : Value) (T : LTree) (a : Option Addr) (zs : List Int) (cap : Nat) (w : World), TreeV lo w vv vn vb T → Sized 1048576 T → Nums w a zs → zs.length ≤ 1048576 → ErrT w →
 Calls Tryz.prog f #[treeV vv vn vb, .agg #[.slice a zs.length cap]] w fun e w' => e = .returned (.int .i64 (R T zs)) ∧ Below w.heap.size w w'
theorem fldC (a b c : Int) (w : World) : (Instr.field 31 (.agg #[.int .i64 a, .int .i64 b, .int .i64 c]) 0).run Tryz.prog w = .ok (.int .i64 a) w := by kernel_rfl
theorem fldI (a b : Int) (w : World) : (Instr.field 34 (.agg #[.int .i64 a, .int .i64 b]) 1).run Tryz.prog w = .ok (.int .i64 b) w := by kernel_rfl
set_option maxHeartbeats 6400000 in
set_option maxRecDepth 100000 in
theorem implStateFault : TreeStG 43 staF := by
 intro lo vv vn vb T a zs cap w h hS hn hlen hE
 have HX : Hid (∀ W, Below w.heap.size w W → Calls Tryz.prog 17 #[treeV vv vn vb] W fun e w' => e = .returned (.agg #[.int .i64 (chkT T).1.1, .int .i64 (chkT T).1.2, .int .i64 (chkT T).2]) ∧ Below W.heap.size W w') := fun W hb => implCheckTree lo vv vn vb T W (h.below hb) hS (hE.kept hb)
 have HCE : Hid ((chkT T).1.1 = 0 → ∀ W, Below w.heap.size w W → Calls Tryz.prog 22 #[treeV vv vn vb] W fun e w' => e = .returned (.agg #[.int .i64 0, .int .i64 (cellsL (allL 0 T))]) ∧ Below W.heap.size W w') := fun h0 W hb => by
  have h1 := implCellsOf lo vv vn vb T W (h.below hb) hS
  have e1 : celC T = 0 := (chk_good h0).1
  have e2 : celV T = cellsL (allL 0 T) := by unfold celV; rw [if_neg (by rw [(chk_good h0).1]; simp)]
  rw [e1, e2] at h1
  exact h1
 have HL6 : Hid (∀ W, Below w.heap.size w W → Calls Tryz.prog 113 #[.slice a zs.length cap] W fun e w' => e = .returned (.int .i64 (fault zs)) ∧ Below W.heap.size W w') := fun W hb => implFault_any a zs cap W (by omega) (hn.below hb)
 have HFA : Hid (zs.length ≤ 400 → fault zs = if allW zs = true then 0 else 3) := fault_allW
 have HG : Hid ((chkT T).1.1 = 0 → cellsL (allL 0 T) ≤ 60) := fun h => (chk_good h).2
 have HST : Hid (staF T zs = if (chkT T).1.1 ≠ 0 then (chkT T).1.1 else if (zs.length : Int) ≠ cellsL (allL 0 T) then 1 else if allW zs = true then 0 else 3) := rfl
 obtain ⟨av, cv, rfl, _⟩ := id h.vars
 obtain ⟨an, cn, rfl, _⟩ := id h.nodes
 obtain ⟨ab, cb, rfl, _⟩ := id h.body
 clear h hS hn hE
 generalize staF T zs = R at *
 generalize (chkT T).1.1 = c1 at *
 generalize (chkT T).1.2 = c2 at *
 generalize (chkT T).2 = c3 at *
 generalize cellsL (allL 0 T) = z at *
 generalize allW zs = aw at *
 generalize fault zs = fz at *
 have hA := heap_alloc_new w (.cells #[.slice av T.vars.length cv, .slice an T.nodes.length cn, .slice ab T.body.length cb] 28)
 have hB : Below w.heap.size w (w.alloc (.cells #[.slice av T.vars.length cv, .slice an T.nodes.length cn, .slice ab T.body.length cb] 28)) := (Below.refl _ _).alloc (Nat.le_refl _) _
 have hZ : (w.alloc (.cells #[.slice av T.vars.length cv, .slice an T.nodes.length cn, .slice ab T.body.length cb] 28)).heap.size = w.heap.size + 1 := by simp
 have hA2 := heap_alloc_new (w.alloc (.cells #[.slice av T.vars.length cv, .slice an T.nodes.length cn, .slice ab T.body.length cb] 28)) (.cells #[.slice a zs.length cap] 52)
 have hB2 : Below (w.alloc (.cells #[.slice av T.vars.length cv, .slice an T.nodes.length cn, .slice ab T.body.length cb] 28)).heap.size (w.alloc (.cells #[.slice av T.vars.length cv, .slice an T.nodes.length cn, .slice ab T.body.length cb] 28)) _ := (Below.refl _ _).alloc (Nat.le_refl _) (.cells #[.slice a zs.length cap] 52)
 have hA1 := blk hA hB2
 have hB3 := hB.trans (hB2.mono (by omega))
 rw [hZ] at hA2
 clear hA hB hB2 hZ
 have hfl := fldC
 have hfi := fldI
 go_enter Tryz.func43, Tryz.ntmps43
 go_wp2_with fail
 generalize ((w.alloc (.cells #[.slice av T.vars.length cv, .slice an T.nodes.length cn, .slice ab T.body.length cb] 28)).alloc (.cells #[.slice a zs.length cap] 52)) = W at *
 refine (HX.out _ hB3).mono ?_
 rintro e w2 ⟨rfl, hb⟩
 have HA : Hid (w2.heap[w.heap.size]? = some (.cells #[.slice av T.vars.length cv, .slice an T.nodes.length cn, .slice ab T.body.length cb] 28 (0, 0))) := blk hA1 hb
 have HA2 : Hid (w2.heap[w.heap.size + 1]? = some (.cells #[.slice a zs.length cap] 52 (0, 0))) := blk hA2 hb
 have HB : Hid (Below w.heap.size w w2) := hB3.trans (hb.mono hB3.size)
 clear hA1 hA2 hB3 hb HX
 by_cases hc : c1 = 0
 ·subst hc
  have HR : Hid (R = if (zs.length : Int) ≠ z then 1 else if aw = true then 0 else 3) := by unfold Hid; rw [HST.out, if_neg (by simp)]
  have HCX : Hid (Calls Tryz.prog 22 #[treeV (.slice av T.vars.length cv) (.slice an T.nodes.length cn) (.slice ab T.body.length cb)] w2.drew fun e w' => e = .returned (.agg #[.int .i64 0, .int .i64 z]) ∧ Below w2.drew.heap.size w2.drew w') := HCE.out rfl _ HB.out.drew
  have HZ : Hid (z ≤ 60) := HG.out rfl
  clear HST HCE HG
  have q0 := cell_of_row _ _ 0 _ _ _ HA2.out
  obtain ⟨p0, p1, p2⟩ := cl3 HA.out
  simp at q0 p0 p1 p2
  by_cases hz : (zs.length : Int) = z
  ·subst hz
   have HR2 : Hid (R = if aw = true then 0 else 3) := by unfold Hid; rw [HR.out, if_neg (by simp)]
   have HFB : Hid (R = fz) := by unfold Hid; rw [HR2.out]; exact (HFA.out (by have := HZ.out; omega)).symm
   clear HR HR2 HFA HZ
   go_upto_region 4 with fail
   go_region_held3 (fun W => W.cell? ⟨w.heap.size + 1, 0, none⟩ = some (.slice a zs.length cap) ∧ W.cell? ⟨w.heap.size, 0, none⟩ = some (.slice av T.vars.length cv) ∧ W.cell? ⟨w.heap.size, 1, none⟩ = some (.slice an T.nodes.length cn) ∧ W.cell? ⟨w.heap.size, 2, none⟩ = some (.slice ab T.body.length cb)) (go_keep) (first | (go_at_call 22; refine HCX.out.mono ?_; rintro e w7 ⟨rfl, hb⟩; have HE : Hid (Below w.heap.size w w7) := HB.out.drew.trans (hb.mono HB.out.drew.size); have hx1 := blk HA.out (Below.mono (Below.trans ((Below.refl _ w2).drew) hb) (Nat.le_refl _)); have hx2 := blk HA2.out (Below.mono (Below.trans ((Below.refl _ w2).drew) hb) (Nat.le_refl _)); have q0 := cell_of_row _ _ 0 _ _ _ hx2; have p0 := cell_of_row _ _ 0 _ _ _ hx1; have p1 := cell_of_row _ _ 1 _ _ _ hx1; have p2 := cell_of_row _ _ 2 _ _ _ hx1; simp at q0 p0 p1 p2; clear hb hx1 hx2))
   go_wp2_with fail
   refine (HL6.out _ HE.out).mono ?_
   rintro e w9 ⟨rfl, hb9⟩
   have HE9 := hid (HE.out.trans (hb9.mono HE.out.size))
   clear hb9
   go_wp2_with fail
   go_ret
   exact ⟨by rw [HFB.out]; rfl, HE9.out⟩
  ·have hz1 : ((zs.length : Int) == z) = false := by simpa using hz
   have hz2 : decide ((zs.length : Int) = z) = false := decide_eq_false hz
   have HR2 : Hid (R = 1) := by unfold Hid; rw [HR.out, if_pos hz]
   clear HR HFA HZ
   go_upto_region 4 with fail
   go_region_held3 (fun W => W.cell? ⟨w.heap.size + 1, 0, none⟩ = some (.slice a zs.length cap) ∧ W.cell? ⟨w.heap.size, 0, none⟩ = some (.slice av T.vars.length cv) ∧ W.cell? ⟨w.heap.size, 1, none⟩ = some (.slice an T.nodes.length cn) ∧ W.cell? ⟨w.heap.size, 2, none⟩ = some (.slice ab T.body.length cb)) (go_keep) (first | (go_at_call 22; refine HCX.out.mono ?_; rintro e w7 ⟨rfl, hb⟩; have HE : Hid (Below w.heap.size w w7) := HB.out.drew.trans (hb.mono HB.out.drew.size); have hx1 := blk HA.out (Below.mono (Below.trans ((Below.refl _ w2).drew) hb) (Nat.le_refl _)); have hx2 := blk HA2.out (Below.mono (Below.trans ((Below.refl _ w2).drew) hb) (Nat.le_refl _)); have q0 := cell_of_row _ _ 0 _ _ _ hx2; have p0 := cell_of_row _ _ 0 _ _ _ hx1; have p1 := cell_of_row _ _ 1 _ _ _ hx1; have p2 := cell_of_row _ _ 2 _ _ _ hx1; simp at q0 p0 p1 p2; clear hb hx1 hx2))
   go_wp2_with fail
   go_ret
   exact ⟨by rw [HR2.out]; rfl, HE.out⟩
 ·have hz1 : (c1 == 0) = false := by simpa using hc
  have hz2 : decide (c1 = 0) = false := decide_eq_false hc
  have HR : Hid (R = c1) := by unfold Hid; rw [HST.out, if_pos hc]
  clear HST HCE HL6 HFA HG
  go_wp2_with fail
  go_ret
  exact ⟨by rw [HR.out]; rfl, HB.out⟩
end Go.Proofs.YtcecfmdjicjngaaGreatDoor
namespace Go.Proofs.YtcecfmdjicjngaaGreatDoor
open Go.RowKit
set_option linter.unusedVariables false
attribute [local go_sem] bs_size bs_get bs_extract bs_append bs_eq bs_toList
set_option maxHeartbeats 6400000 in
set_option maxRecDepth 100000 in
theorem stateFault_law (vv vn vb : Value) (T : LTree) (a : Option Addr) (zs : List Int) (cap : Nat) (w : World) (h : IsTree w vv vn vb T) (hn : Nums w a zs) (hl : zs.length ≤ 9223372036854775807) (hE : ErrT w) :
  Calls Tryz.prog 8 #[treeV vv vn vb, .agg #[.slice a zs.length cap]] w fun e w' => e = .returned (.bool true) ∧ Below w.heap.size w w' := by
 obtain ⟨ht, hf⟩ := h
 have HET : Hid (∀ W, Below w.heap.size w W → ErrT W) := fun W hb => hE.kept hb
 have HNW : Hid (∀ W, Below w.heap.size w W → Nums W a zs) := fun W hb => hn.below hb
 have HSZ : Hid (∀ (left : Int) (W : World), 0 ≤ left → left ≤ 1048576 → Calls Tryz.prog 40 #[.agg #[.slice a zs.length cap], .int .i64 left] W fun e w' => ∃ r : Int, e = .returned (.int .i64 r) ∧ (0 ≤ r → zs.length ≤ 1048576) ∧ Below W.heap.size W w') := fun left W h0 h1 => szState_any a zs.length cap left h0 h1 hl W
 obtain ⟨av, cv, rfl, _⟩ := id ht.vars
 obtain ⟨an, cn, rfl, _⟩ := id ht.nodes
 obtain ⟨ab, cb, rfl, _⟩ := id ht.body
 have HT := hid ht
 have HF : Hid (Fits T) := hf
 have hA := heap_alloc_new w (.cells #[.slice av T.vars.length cv, .slice an T.nodes.length cn, .slice ab T.body.length cb] 62)
 have hB : Below w.heap.size w (w.alloc (.cells #[.slice av T.vars.length cv, .slice an T.nodes.length cn, .slice ab T.body.length cb] 62)) := (Below.refl _ _).alloc (Nat.le_refl _) _
 have hZ : (w.alloc (.cells #[.slice av T.vars.length cv, .slice an T.nodes.length cn, .slice ab T.body.length cb] 62)).heap.size = w.heap.size + 1 := by simp
 have hA2 := heap_alloc_new (w.alloc (.cells #[.slice av T.vars.length cv, .slice an T.nodes.length cn, .slice ab T.body.length cb] 62)) (.cells #[.slice a zs.length cap] 74)
 have hB2 : Below (w.alloc (.cells #[.slice av T.vars.length cv, .slice an T.nodes.length cn, .slice ab T.body.length cb] 62)).heap.size (w.alloc (.cells #[.slice av T.vars.length cv, .slice an T.nodes.length cn, .slice ab T.body.length cb] 62)) _ := (Below.refl _ _).alloc (Nat.le_refl _) (.cells #[.slice a zs.length cap] 74)
 have hA1 := blk hA hB2
 have hB3 := hB.trans (hB2.mono (by omega))
 rw [hZ] at hA2
 clear hA hB hB2 hZ ht hf hn hl hE
 go_enter Tryz.func8, Tryz.ntmps8
 go_wp2_with fail
 generalize ((w.alloc (.cells #[.slice av T.vars.length cv, .slice an T.nodes.length cn, .slice ab T.body.length cb] 62)).alloc (.cells #[.slice a zs.length cap] 74)) = W at *
 refine (szTreeLe_any 0 T _ _ _ _ (HT.out.below hB3) HF.out).mono ?_
 rintro e w1 ⟨r, rfl, hr, hb1⟩
 have HA : Hid (w1.heap[w.heap.size]? = some (.cells #[.slice av T.vars.length cv, .slice an T.nodes.length cn, .slice ab T.body.length cb] 62 (0, 0))) := blk hA1 hb1
 have HA2 : Hid (w1.heap[w.heap.size + 1]? = some (.cells #[.slice a zs.length cap] 74 (0, 0))) := blk hA2 hb1
 have HB : Hid (Below w.heap.size w w1) := hB3.trans (hb1.mono hB3.size)
 clear hb1 hA1 hA2 hB3
 by_cases h0 : 0 ≤ r
 ·obtain ⟨hz1, hr1⟩ := hr h0
  have HZ : Hid (Sized 1048576 T) := hz1
  clear hr hz1
  have s0 := cell_of_row _ _ 0 _ _ _ HA2.out
  simp at s0
  go_wp2_with fail
  refine (HSZ.out r _ h0 hr1).mono ?_
  rintro e w1b ⟨r2, rfl, hr2, hb⟩
  have HAb : Hid (w1b.heap[w.heap.size]? = some (.cells #[.slice av T.vars.length cv, .slice an T.nodes.length cn, .slice ab T.body.length cb] 62 (0, 0))) := blk HA.out hb
  have HA2b : Hid (w1b.heap[w.heap.size + 1]? = some (.cells #[.slice a zs.length cap] 74 (0, 0))) := blk HA2.out hb
  have HBb : Hid (Below w.heap.size w w1b) := HB.out.trans (hb.mono HB.out.size)
  clear hb HA HA2 HB s0 h0 hr1 HSZ
  by_cases h0 : 0 ≤ r2
  ·have HZ2 : Hid (zs.length ≤ 1048576) := hr2 h0
   clear hr2
   have HTO : Hid (∀ W, Below w.heap.size w W → Calls Tryz.prog 31 #[.agg #[.slice av T.vars.length cv, .slice an T.nodes.length cn, .slice ab T.body.length cb]] W fun e w' => ∃ a c a2 c2 a3 c3, e = .returned (treeV (.slice a T.vars.length c) (.slice a2 T.nodes.length c2) (.slice a3 T.body.length c3)) ∧ TreeV W.heap.size w' (.slice a T.vars.length c) (.slice a2 T.nodes.length c2) (.slice a3 T.body.length c3) T ∧ Below W.heap.size W w') := fun W hW =>
    (toTree_any 0 T _ _ _ W (HT.out.below hW) HZ.out).mono fun e w' h => by
     obtain ⟨_, _, _, rfl, h1, h2⟩ := h
     obtain ⟨_, _, rfl, _⟩ := id h1.vars
     obtain ⟨_, _, rfl, _⟩ := id h1.nodes
     obtain ⟨_, _, rfl, _⟩ := id h1.body
     exact ⟨_, _, _, _, _, _, rfl, h1, h2⟩
   have HSO : Hid (∀ W, Below w.heap.size w W → Calls Tryz.prog 42 #[.agg #[.slice a zs.length cap]] W fun e w' => ∃ a2 c2, e = .returned (.agg #[.slice a2 zs.length c2]) ∧ Nums w' a2 zs ∧ Below W.heap.size W w') := fun W hW => toState_any a zs cap W HZ2.out (HNW.out W hW)
   obtain ⟨a0, a1, a2⟩ := cl3 HAb.out
   have s0 := cell_of_row _ _ 0 _ _ _ HA2b.out
   simp at a0 a1 a2 s0
   have HSP : Hid (∀ (lo : Nat) (v1 v2 v3 : Value) (b : Option Addr) (c : Nat) (W : World), TreeV lo W v1 v2 v3 T → Nums W b zs → Calls Tryz.prog 41 #[treeV v1 v2 v3, .agg #[.slice b zs.length c]] W fun e w' => e = .returned (.int .i64 (staF T zs)) ∧ Below W.heap.size W w') := fun lo v1 v2 v3 b c W h1 h2 => specStateFault lo v1 v2 v3 T b zs c W h1 HZ.out h2 HZ2.out
   have HIM : Hid (∀ (lo : Nat) (v1 v2 v3 : Value) (b : Option Addr) (c : Nat) (W : World), TreeV lo W v1 v2 v3 T → Nums W b zs → ErrT W → Calls Tryz.prog 43 #[treeV v1 v2 v3, .agg #[.slice b zs.length c]] W fun e w' => e = .returned (.int .i64 (staF T zs)) ∧ Below W.heap.size W w') := fun lo v1 v2 v3 b c W h1 h2 h3 => implStateFault lo v1 v2 v3 T b zs c W h1 HZ.out h2 HZ2.out h3
   generalize staF T zs = R at *
   go_upto_region 8 with fail
   have HC1 : Hid (∀ W, Below w1b.heap.size w1b W → (W.heap[w.heap.size]? = some (.cells #[.slice av T.vars.length cv, .slice an T.nodes.length cn, .slice ab T.body.length cb] 62 (0, 0)) ∧ W.heap[w.heap.size + 1]? = some (.cells #[.slice a zs.length cap] 74 (0, 0))) ∧ (W.cell? ⟨w.heap.size, 0, none⟩ = some (.slice av T.vars.length cv) ∧ W.cell? ⟨w.heap.size, 1, none⟩ = some (.slice an T.nodes.length cn) ∧ W.cell? ⟨w.heap.size, 2, none⟩ = some (.slice ab T.body.length cb)) ∧ W.cell? ⟨w.heap.size + 1, 0, none⟩ = some (.slice a zs.length cap)) := fun W hb =>
    ⟨⟨blk HAb.out hb, blk HA2b.out hb⟩, ⟨cell_of_row _ _ 0 _ _ _ (blk HAb.out hb), cell_of_row _ _ 1 _ _ _ (blk HAb.out hb), cell_of_row _ _ 2 _ _ _ (blk HAb.out hb)⟩, cell_of_row _ _ 0 _ _ _ (blk HA2b.out hb)⟩
   go_region_held3 (fun W => (W.cell? ⟨w.heap.size, 0, none⟩ = some (.slice av T.vars.length cv) ∧ W.cell? ⟨w.heap.size, 1, none⟩ = some (.slice an T.nodes.length cn) ∧ W.cell? ⟨w.heap.size, 2, none⟩ = some (.slice ab T.body.length cb)) ∧ W.cell? ⟨w.heap.size + 1, 0, none⟩ = some (.slice a zs.length cap)) (go_keep) (first | (go_at_call 31; refine (HTO.out _ HBb.out.drew).mono ?_; rintro e w7 ⟨a7, c7, b7, d7, e7, f7, rfl, ht7, hb⟩; have HD : Hid (Below w1b.heap.size w1b w7) := (Below.refl w1b.heap.size w1b).drew.trans (Below.mono hb (Nat.le_refl _)); obtain ⟨_, ⟨a0, a1, a2⟩, s0⟩ := HC1.out _ HD.out; have HT7 : Hid (TreeV _ w7 _ _ _ T) := ht7; clear hb ht7) | (go_at_call 42; refine (HSO.out _ (HBb.out.trans (HD.out.mono HBb.out.size))).mono ?_; rintro e w8 ⟨a8, c8, rfl, hn8, hb⟩; have HE : Hid (Below w1b.heap.size w1b w8) := HD.out.trans (Below.mono hb HD.out.size); obtain ⟨_, ⟨a0, a1, a2⟩, s0⟩ := HC1.out _ HE.out; have HT8 : Hid (TreeV _ w8 _ _ _ T) := HT7.out.below hb; have HN8 : Hid (Nums w8 a8 zs) := hn8; clear hb hn8) | (go_at_call 41; refine (HSP.out _ _ _ _ _ _ _ HT8.out HN8.out).mono ?_; rintro e w9 ⟨rfl, hb⟩; have HG : Hid (Below w1b.heap.size w1b w9) := HE.out.trans (Below.mono hb HE.out.size); obtain ⟨_, ⟨a0, a1, a2⟩, s0⟩ := HC1.out _ HG.out; clear hb))
   have hA9 := (HC1.out _ HG.out).1
   have HA9 : Hid (w9.heap[w.heap.size]? = some (.cells #[.slice av T.vars.length cv, .slice an T.nodes.length cn, .slice ab T.body.length cb] 62 (0, 0))) := hA9.1
   have HS9 : Hid (w9.heap[w.heap.size + 1]? = some (.cells #[.slice a zs.length cap] 74 (0, 0))) := hA9.2
   have HB9 : Hid (Below w.heap.size w w9) := HBb.out.trans (HG.out.mono HBb.out.size)
   clear HC1 HAb HA2b HBb HD HE HG HT7 HT8 HN8 hA9 HSP
   go_wp2_with fail
   refine (HTO.out _ HB9.out).mono ?_
   rintro e w10 ⟨a10, c10, b10, d10, e10, f10, rfl, ht, hb⟩
   have hA := blk HA9.out hb
   have hS := blk HS9.out hb
   have hB := HB9.out.trans (hb.mono HB9.out.size)
   have hbx : Below w10.heap.size w10 (w10.alloc (.cells #[.slice a10 T.vars.length c10, .slice b10 T.nodes.length d10, .slice e10 T.body.length f10] 28)) := (Below.refl _ _).alloc (Nat.le_refl _) _
   have HX : Hid ((w10.alloc (.cells #[.slice a10 T.vars.length c10, .slice b10 T.nodes.length d10, .slice e10 T.body.length f10] 28)).heap[w10.heap.size]? = some (.cells #[.slice a10 T.vars.length c10, .slice b10 T.nodes.length d10, .slice e10 T.body.length f10] 28 (0, 0))) := heap_alloc_new w10 _
   have HA11 : Hid ((w10.alloc (.cells #[.slice a10 T.vars.length c10, .slice b10 T.nodes.length d10, .slice e10 T.body.length f10] 28)).heap[w.heap.size]? = some (.cells #[.slice av T.vars.length cv, .slice an T.nodes.length cn, .slice ab T.body.length cb] 62 (0, 0))) := blk hA hbx
   have HS11 : Hid ((w10.alloc (.cells #[.slice a10 T.vars.length c10, .slice b10 T.nodes.length d10, .slice e10 T.body.length f10] 28)).heap[w.heap.size + 1]? = some (.cells #[.slice a zs.length cap] 74 (0, 0))) := blk hS hbx
   have HB11 : Hid (Below w.heap.size w (w10.alloc (.cells #[.slice a10 T.vars.length c10, .slice b10 T.nodes.length d10, .slice e10 T.body.length f10] 28))) := hB.trans (hbx.mono hB.size)
   have HT11 : Hid (TreeV w9.heap.size (w10.alloc (.cells #[.slice a10 T.vars.length c10, .slice b10 T.nodes.length d10, .slice e10 T.body.length f10] 28)) (.slice a10 T.vars.length c10) (.slice b10 T.nodes.length d10) (.slice e10 T.body.length f10) T) := ht.below hbx
   clear a0 a1 a2 s0 ht hb hA hS hB hbx HA9 HS9 HB9
   go_upto_region 10 with fail
   generalize w10.alloc (.cells #[.slice a10 T.vars.length c10, .slice b10 T.nodes.length d10, .slice e10 T.body.length f10] 28) = W11 at *
   generalize w10.heap.size = g11 at *
   have s0 := cell_of_row _ _ 0 _ _ _ HS11.out
   simp at s0
   go_wp2_with fail
   refine (HSO.out _ HB11.out).mono ?_
   rintro e w12 ⟨a12, c12, rfl, hn, hb⟩
   have hX := blk HX.out hb
   have hA := blk HA11.out hb
   have hS := blk HS11.out hb
   have hB := HB11.out.trans (hb.mono HB11.out.size)
   have hT := HT11.out.below hb
   have hbx : Below w12.heap.size w12 (w12.alloc (.cells #[.slice a12 zs.length c12] 52)) := (Below.refl _ _).alloc (Nat.le_refl _) _
   have HY : Hid ((w12.alloc (.cells #[.slice a12 zs.length c12] 52)).heap[w12.heap.size]? = some (.cells #[.slice a12 zs.length c12] 52 (0, 0))) := heap_alloc_new w12 _
   have HX13 : Hid ((w12.alloc (.cells #[.slice a12 zs.length c12] 52)).heap[g11]? = some (.cells #[.slice a10 T.vars.length c10, .slice b10 T.nodes.length d10, .slice e10 T.body.length f10] 28 (0, 0))) := blk hX hbx
   have HA13 : Hid ((w12.alloc (.cells #[.slice a12 zs.length c12] 52)).heap[w.heap.size]? = some (.cells #[.slice av T.vars.length cv, .slice an T.nodes.length cn, .slice ab T.body.length cb] 62 (0, 0))) := blk hA hbx
   have HS13 : Hid ((w12.alloc (.cells #[.slice a12 zs.length c12] 52)).heap[w.heap.size + 1]? = some (.cells #[.slice a zs.length cap] 74 (0, 0))) := blk hS hbx
   have HB13 : Hid (Below w.heap.size w (w12.alloc (.cells #[.slice a12 zs.length c12] 52))) := hB.trans (hbx.mono hB.size)
   have HT13 : Hid (TreeV w9.heap.size (w12.alloc (.cells #[.slice a12 zs.length c12] 52)) (.slice a10 T.vars.length c10) (.slice b10 T.nodes.length d10) (.slice e10 T.body.length f10) T) := hT.below hbx
   have HN13 : Hid (Nums (w12.alloc (.cells #[.slice a12 zs.length c12] 52)) a12 zs) := hn.below hbx
   clear s0 hn hb hX hA hS hB hT hbx HX HA11 HS11 HB11 HT11
   go_upto_region 11 with fail
   generalize w12.alloc (.cells #[.slice a12 zs.length c12] 52) = W13 at *
   generalize w12.heap.size = g13 at *
   obtain ⟨x0, x1, x2⟩ := cl3 HX13.out
   have y0 := cell_of_row _ _ 0 _ _ _ HY.out
   simp at x0 x1 x2 y0
   go_wp2_with fail
   refine (HIM.out _ _ _ _ _ _ _ HT13.out HN13.out (HET.out _ HB13.out)).mono ?_
   rintro e w14 ⟨rfl, hb⟩
   have HX14 : Hid (w14.heap[g11]? = some (.cells #[.slice a10 T.vars.length c10, .slice b10 T.nodes.length d10, .slice e10 T.body.length f10] 28 (0, 0))) := blk HX13.out hb
   have HY14 : Hid (w14.heap[g13]? = some (.cells #[.slice a12 zs.length c12] 52 (0, 0))) := blk HY.out hb
   have HA14 : Hid (w14.heap[w.heap.size]? = some (.cells #[.slice av T.vars.length cv, .slice an T.nodes.length cn, .slice ab T.body.length cb] 62 (0, 0))) := blk HA13.out hb
   have HS14 : Hid (w14.heap[w.heap.size + 1]? = some (.cells #[.slice a zs.length cap] 74 (0, 0))) := blk HS13.out hb
   have HB14 : Hid (Below w.heap.size w w14) := HB13.out.trans (hb.mono HB13.out.size)
   have HT14 : Hid (TreeV w9.heap.size w14 (.slice a10 T.vars.length c10) (.slice b10 T.nodes.length d10) (.slice e10 T.body.length f10) T) := HT13.out.below hb
   have HN14 : Hid (Nums w14 a12 zs) := HN13.out.below hb
   clear x0 x1 x2 y0 hb HX13 HY HA13 HS13 HB13 HT13 HN13 HIM HET
   have HC1 : Hid (∀ W, Below w14.heap.size w14 W → (W.cell? ⟨w.heap.size, 0, none⟩ = some (.slice av T.vars.length cv) ∧ W.cell? ⟨w.heap.size, 1, none⟩ = some (.slice an T.nodes.length cn) ∧ W.cell? ⟨w.heap.size, 2, none⟩ = some (.slice ab T.body.length cb)) ∧ (W.cell? ⟨g11, 0, none⟩ = some (.slice a10 T.vars.length c10) ∧ W.cell? ⟨g11, 1, none⟩ = some (.slice b10 T.nodes.length d10) ∧ W.cell? ⟨g11, 2, none⟩ = some (.slice e10 T.body.length f10))) := fun W hb =>
    ⟨⟨cell_of_row _ _ 0 _ _ _ (blk HA14.out hb), cell_of_row _ _ 1 _ _ _ (blk HA14.out hb), cell_of_row _ _ 2 _ _ _ (blk HA14.out hb)⟩, cell_of_row _ _ 0 _ _ _ (blk HX14.out hb), cell_of_row _ _ 1 _ _ _ (blk HX14.out hb), cell_of_row _ _ 2 _ _ _ (blk HX14.out hb)⟩
   have HC2 : Hid (∀ W, Below w14.heap.size w14 W → W.cell? ⟨w.heap.size + 1, 0, none⟩ = some (.slice a zs.length cap) ∧ W.cell? ⟨g13, 0, none⟩ = some (.slice a12 zs.length c12)) := fun W hb =>
    ⟨cell_of_row _ _ 0 _ _ _ (blk HS14.out hb), cell_of_row _ _ 0 _ _ _ (blk HY14.out hb)⟩
   have HTE : Hid (∀ W lo v1 v2 v3, Below w14.heap.size w14 W → TreeV lo W v1 v2 v3 T → Calls Tryz.prog 33 #[.agg #[.slice a10 T.vars.length c10, .slice b10 T.nodes.length d10, .slice e10 T.body.length f10], treeV v1 v2 v3] W fun e w' => e = .returned (.bool true) ∧ Below W.heap.size W w') := fun W lo v1 v2 v3 hW h =>
    eqTree_any _ _ T _ _ _ _ _ _ W (HT14.out.below hW) h HZ.out
   have HSE : Hid (∀ W b c, Below w14.heap.size w14 W → Nums W b zs → Calls Tryz.prog 44 #[.agg #[.slice a12 zs.length c12], .agg #[.slice b zs.length c]] W fun e w' => e = .returned (.bool true) ∧ Below W.heap.size W w') := fun W b c hW h =>
    eqState_any _ _ zs _ _ W HZ2.out (HN14.out.below hW) h
   clear HX14 HY14 HA14 HS14 HT14 HN14
   obtain ⟨⟨a0, a1, a2⟩, x0, x1, x2⟩ := HC1.out _ (Below.refl _ _)
   go_upto_region 14 with fail
   go_region_held3 (fun W => (W.cell? ⟨w.heap.size, 0, none⟩ = some (.slice av T.vars.length cv) ∧ W.cell? ⟨w.heap.size, 1, none⟩ = some (.slice an T.nodes.length cn) ∧ W.cell? ⟨w.heap.size, 2, none⟩ = some (.slice ab T.body.length cb)) ∧ (W.cell? ⟨g11, 0, none⟩ = some (.slice a10 T.vars.length c10) ∧ W.cell? ⟨g11, 1, none⟩ = some (.slice b10 T.nodes.length d10) ∧ W.cell? ⟨g11, 2, none⟩ = some (.slice e10 T.body.length f10))) (go_keep) (first | (go_at_call 31; refine (HTO.out _ HB14.out.drew).mono ?_; rintro e w7 ⟨a7, c7, b7, d7, e7, f7, rfl, ht7, hb⟩; have HD : Hid (Below w14.heap.size w14 w7) := (Below.refl w14.heap.size w14).drew.trans (Below.mono hb (Nat.le_refl _)); obtain ⟨⟨a0, a1, a2⟩, x0, x1, x2⟩ := HC1.out _ HD.out; have HT7 : Hid (TreeV _ w7 _ _ _ T) := ht7; clear hb ht7) | (go_at_call 33; refine (HTE.out _ _ _ _ _ HD.out HT7.out).mono ?_; rintro e w8 ⟨rfl, hb⟩; have HE : Hid (Below w14.heap.size w14 w8) := HD.out.trans (Below.mono hb HD.out.size); obtain ⟨⟨a0, a1, a2⟩, x0, x1, x2⟩ := HC1.out _ HE.out; clear hb))
   clear HC1 HTE HTO a0 a1 a2 x0 x1 x2 HD HT7
   obtain ⟨s0, y0⟩ := HC2.out _ HE.out
   go_upto_region 16 with fail
   have HB8 : Hid (Below w.heap.size w w8) := HB14.out.trans (HE.out.mono HB14.out.size)
   go_region_held3 (fun W => W.cell? ⟨w.heap.size + 1, 0, none⟩ = some (.slice a zs.length cap) ∧ W.cell? ⟨g13, 0, none⟩ = some (.slice a12 zs.length c12)) (go_keep) (first | (go_at_call 42; refine (HSO.out _ HB8.out.drew).mono ?_; rintro e w17 ⟨a17, c17, rfl, hn17, hb⟩; have HD : Hid (Below w14.heap.size w14 w17) := HE.out.drew.trans (Below.mono hb HE.out.drew.size); obtain ⟨s0, y0⟩ := HC2.out _ HD.out; have HN17 : Hid (Nums w17 a17 zs) := hn17; clear hb hn17) | (go_at_call 44; refine (HSE.out _ _ _ HD.out HN17.out).mono ?_; rintro e w18 ⟨rfl, hb⟩; have HG : Hid (Below w14.heap.size w14 w18) := HD.out.trans (Below.mono hb HD.out.size); obtain ⟨s0, y0⟩ := HC2.out _ HG.out; clear hb))
   have HBB : Hid (Below w.heap.size w w18) := HB14.out.trans (HG.out.mono HB14.out.size)
   go_wp2
   go_ret
   exact ⟨rfl, HBB.out⟩
  ·go_wp2_with fail
   go_ret
   exact ⟨rfl, HBb.out⟩
 ·clear HSZ
  go_wp2_with fail
  go_ret
  exact ⟨rfl, HB.out⟩
end Go.Proofs.YtcecfmdjicjngaaGreatDoor
namespace Go.Proofs.YtcecfmdjicjngaaGreatDoor
open Go.RowKit
set_option linter.unusedVariables false
theorem fnExactStateFault_walk (vv0 vn0 vb0 : Value) (T0 : LTree) (a1 : Option Addr) (z1 : List Int) (cap1 : Nat) (w : World) (w0 : IsTree w vv0 vn0 vb0 T0) (w1 : IsSt w a1 z1) (hE : ErrT w) :
  Calls Tryz.prog 8 #[treeV vv0 vn0 vb0, .agg #[.slice a1 z1.length cap1]] w fun e w' => e = .returned (.bool true) ∧ Below w.heap.size w w' :=
 stateFault_law vv0 vn0 vb0 T0 a1 z1 cap1 w w0 w1.1 w1.2 hE
end Go.Proofs.YtcecfmdjicjngaaGreatDoor
