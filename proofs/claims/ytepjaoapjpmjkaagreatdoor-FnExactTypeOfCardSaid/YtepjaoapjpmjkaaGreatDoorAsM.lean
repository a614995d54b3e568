/-
  errors.As at the target *impl.misfit: a nil error; an error that is a misfit. (After the kit's worked toy 'toyas'.)
-/
import Derived.Test.YtepjaoapjpmjkaaGreatDoorAppNone
import Derived.Test.YtepjaoapjpmjkaaGreatDoorSTypA
import Derived.Test.YtepjaoapjpmjkaaGreatDoorBase
import Derived.LaidEql
import Derived.Stop.Asserts
import Derived.RowKitTokens
namespace Go.Proofs.YtepjaoapjpmjkaaGreatDoor
open Go.RowKit
set_option linter.unusedVariables false
theorem expr_of {n : LNode} (h : 1 ≤ n.kind ∧ n.kind ≤ 6) : exprN n = true := inB_iff.2 h
theorem expr_to {n : LNode} (h : exprN n = true) : 1 ≤ n.kind ∧ n.kind ≤ 6 := inB_iff.1 h
theorem fits_of {T : LTree} (h : faultL T = 0) : FitsE T := by
 intro x hx hk
 have hG := good_of h
 have hn := hG.node x _ (node_get hx)
 have ho := own_kids hn.1 (expr_of hk)
 refine ⟨fun h6 => ?_, ⟨fun h35 => ?_, fun h6 => ?_⟩, fun y hy => ⟨hn.2.1 y hy, ?_, fun h1 => ?_⟩⟩
 ·rcases ho with h | h | h
  ·omega
  ·omega
  ·exact h.2.2
 ·rcases ho with h | h | h
  ·omega
  ·exact h.2
  ·omega
 ·rcases ho with h | h | h
  ·omega
  ·omega
  ·exact h.2.1
 ·exact expr_to (kin_of h x _ (node_get hx) y hy)
 ·have hy2 := hn.2.1 y hy
  obtain ⟨j, rfl⟩ : ∃ j : Nat, y = j := ⟨y.toNat, by omega⟩
  exact (own_nums (hG.node j _ (node_get (by omega))).1).1.1
theorem ownOf_types (K op : Int) (nm : List UInt8) : ∀ v ∈ ownOf K op nm, v.type = 1 ∨ v.type = 2 := by
 intro v hv; unfold ownOf at hv
 split at hv
 ·simp at hv; rcases hv with rfl | rfl | rfl <;> simp
 split at hv
 ·simp at hv; rcases hv with rfl | rfl <;> simp
 split at hv
 ·simp at hv; rcases hv with rfl | rfl <;> simp
 ·simp at hv; subst hv; simp
theorem types_ok {T : LTree} (h : Good T) (K : Int) : TypesOk (allL K T) := by
 intro i hi
 have hm : (allL K T).getD i default ∈ allL K T := by
  rw [List.getD_eq_getElem?_getD, List.getElem?_eq_getElem hi]; exact List.getElem_mem _
 rcases List.mem_append.1 hm with hv | hv
 ·have := (h.var _ hv).2.2.1; omega
 ·obtain ⟨n, hn, hv⟩ := List.mem_flatMap.1 hv
  unfold ownN at hv
  split at hv
  ·exact ownOf_types _ _ _ _ hv
  ·cases hv
def ntS (v : LVar) : List UInt8 × Int × Int := (v.name, v.type, v.size)
theorem allL_nts (T : LTree) : (allL 3 T).map ntS = (allL 0 T).map ntS := by
 have h2 : ∀ op nm, (ownOf 3 op nm).map ntS = (ownOf 0 op nm).map ntS := by
  intro op nm; unfold ownOf
  split
  ·rfl
  split
  ·rfl
  split <;> rfl
 unfold allL ownsL
 rw [List.map_append, List.map_append, List.map_flatMap, List.map_flatMap]
 congr 2
 funext n
 unfold ownN
 split
 ·exact h2 _ _
 ·rfl
theorem nts_at {V W : List LVar} (h : V.map ntS = W.map ntS) (i : Nat) : (V.getD i default).type = (W.getD i default).type ∧ (V.getD i default).size = (W.getD i default).size ∧ (V.getD i default).name = (W.getD i default).name := by
 have e : ∀ U : List LVar, ntS (U.getD i default) = ((U.map ntS)[i]?).getD (ntS default) := fun U => by
  rw [List.getD_eq_getElem?_getD, List.getElem?_map]; cases U[i]? <;> rfl
 have h1 : ntS (V.getD i default) = ntS (W.getD i default) := by rw [e, e, h]
 unfold ntS at h1
 injection h1 with a b
 injection b with b c
 exact ⟨b, c, a⟩
theorem nts_names {V W : List LVar} (h : V.map ntS = W.map ntS) : V.map LVar.name = W.map LVar.name := by
 have := congrArg (List.map (fun p : List UInt8 × Int × Int => p.1)) h
 rw [List.map_map, List.map_map] at this; exact this
theorem nameF_nts {V W : List LVar} (h : V.map ntS = W.map ntS) (nv : Nat) (nm : List UInt8) (row : Bool) (x : Int) (st : Met) : nameF V nv nm row x st = nameF W nv nm row x st := by
 unfold nameF
 rw [varFrom_names nm V W 0 (nts_names h), (nts_at h _).1, (nts_at h _).2.1]
theorem boolB_nts {V W : List LVar} (h : V.map ntS = W.map ntS) (n : LNode) : boolB V n = boolB W n := by
 unfold boolB
 rw [varFrom_names n.name V W 0 (nts_names h), (nts_at h _).1]
theorem wantF_nts {V W : List LVar} (h : V.map ntS = W.map ntS) (N : List LNode) (n : LNode) : wantF V N n = wantF W N n := by
 unfold wantF sameF
 rw [boolB_nts h]
theorem typeF_nts {V W : List LVar} (h : V.map ntS = W.map ntS) (nv : Nat) (N : List LNode) : ∀ (f : Nat) (x : Int) (st : Met), typeF V nv N f x st = typeF W nv N f x st := by
 intro f
 induction f with
 | zero => intro x st; rfl
 | succ f ih => intro x st; simp only [typeF, nameF_nts h, wantF_nts h, ih]
theorem typeF_kind (T : LTree) (nv : Nat) (N : List LNode) (f : Nat) (x : Int) (st : Met) : typeF (allL 3 T) nv N f x st = typeF (allL 0 T) nv N f x st := typeF_nts (allL_nts T) nv N f x st
theorem names_small {T : LTree} (hS : Sized 1048576 T) : ∀ y : Nat, y < T.nodes.length → (nodeOf T.nodes (y : Int)).name.length ≤ 1048576 := fun y hy => by
 have := hS.node _ (List.mem_of_getElem? (node_get hy)); exact this.1
end Go.Proofs.YtepjaoapjpmjkaaGreatDoor
namespace Go.Proofs.YtepjaoapjpmjkaaGreatDoor
open Go.RowKit
set_option linter.unusedVariables false
attribute [local go_sem] bs_size bs_get bs_extract bs_append bs_eq bs_toList
set_option maxHeartbeats 6400000 in
set_option maxRecDepth 100000 in
theorem newChecker_any (lo : Nat) (vv vn vb : Value) (T : LTree) (w : World) (h : TreeV lo w vv vn vb T) (hG : Good T) :
  Calls Tryz.prog 40 #[.agg #[vv, vn, vb]] w fun e w' => (∃ cp mp, e = .returned (.pointer (some ⟨cp, 0, none⟩)) ∧ CkE lo w' cp mp vn (.slice none 0 0) T (allL 0 T)) ∧ Below w.heap.size w w' := by
 obtain ⟨av, cv, rfl, _⟩ := id h.vars
 obtain ⟨an, cn, rfl, _⟩ := id h.nodes
 obtain ⟨ab, cb, rfl, _⟩ := id h.body
 have HD : Hid (∀ (w' : World), Below w.heap.size w w' → Calls Tryz.prog 82 #[.agg #[.slice av T.vars.length cv, .slice an T.nodes.length cn, .slice ab T.body.length cb]] w' fun e w2 => (∃ ad cp, e = .returned (.slice ad (allL 0 T).length cp) ∧ RowE w2 ad (allL 0 T) T.vars.length) ∧ Below w'.heap.size w' w2) := fun w' hb =>
  (variablesOf_any lo _ _ _ T w' (h.below hb) hG).mono (fun e w2 hh => by
   obtain ⟨v, rfl, hown, hb⟩ := hh
   obtain ⟨ad, cp, rfl⟩ := rowE_shape hown
   exact ⟨⟨ad, cp, rfl, RowE.of_own hown rfl⟩, hb⟩)
 have HBN : Hid (∀ (ad : Option Addr) (c : Nat) (w : World), RowE w ad (allL 0 T) T.vars.length → Calls Tryz.prog 81 #[.slice ad (allL 0 T).length c] w fun e w' => e = .returned (.map (some w.heap.size)) ∧ NamesAt w' w.heap.size (allL 0 T) T.vars.length ∧ Below w.heap.size w w') := fun ad c w h1 =>
  byName_any (allL 0 T) T.vars.length ad (allL 0 T).length c w rfl h1 (hG.all_len 0) (fun x hx => by have := all_names hG 0 x hx; omega)
 have HNO : Hid (∀ w', Below w.heap.size w w' → NodesV lo w' (.slice an T.nodes.length cn) T.nodes) := fun w' hb => (h.below hb).nodes
 have HGG : Hid (Good T ∧ (allL 0 T).length ≤ 624) := ⟨hG, hG.all_len 0⟩
 clear h hG
 generalize (allL 0 T).length = L at *
 go_enter Tryz.func40, Tryz.ntmps40
 go_wp2_with fail
 have hb1 : Below w.heap.size w (w.alloc (.cells #[.slice av T.vars.length cv, .slice an T.nodes.length cn, .slice ab T.body.length cb] 34)) := (Below.refl _ _).alloc (Nat.le_refl _) _
 have hA := heap_alloc_new w (.cells #[.slice av T.vars.length cv, .slice an T.nodes.length cn, .slice ab T.body.length cb] 34)
 generalize hW : w.alloc (.cells #[.slice av T.vars.length cv, .slice an T.nodes.length cn, .slice ab T.body.length cb] 34) = W1 at *
 clear hW
 obtain ⟨p0, p1, p2⟩ := cl3 hA
 have hlt := blk_lt hA
 have HB1 : Hid (Below w.heap.size w W1.drew) := hb1.drew
 clear hA hb1
 go_region_held3 (fun Z => Z.cell? ⟨w.heap.size, 0, none⟩ = some (.slice av T.vars.length cv) ∧ Z.cell? ⟨w.heap.size, 1, none⟩ = some (.slice an T.nodes.length cn) ∧ Z.cell? ⟨w.heap.size, 2, none⟩ = some (.slice ab T.body.length cb)) (go_keep) (first | (go_at_call 82; refine (HD.out _ HB1.out).mono ?_; rintro e w2 ⟨⟨ad, cp, rfl, hrow⟩, hb⟩; have s0 := (hb.cell (p := ⟨w.heap.size, 0, none⟩) hlt).trans p0; have s1 := (hb.cell (p := ⟨w.heap.size, 1, none⟩) hlt).trans p1; have s2 := (hb.cell (p := ⟨w.heap.size, 2, none⟩) hlt).trans p2; have HRW : Hid (RowE w2 ad (allL 0 T) T.vars.length) := hrow; have HB2 : Hid (Below w.heap.size w w2) := HB1.out.trans (hb.mono HB1.out.size); have hl2 : w.heap.size < w2.heap.size := Nat.lt_of_lt_of_le hlt hb.size; clear hb hrow) | (go_at_call 81; refine (HBN.out _ _ _ HRW.out).mono ?_; rintro e w3 ⟨rfl, hmap, hb⟩; have u0 := (hb.cell (p := ⟨w.heap.size, 0, none⟩) hl2).trans s0; have u1 := (hb.cell (p := ⟨w.heap.size, 1, none⟩) hl2).trans s1; have u2 := (hb.cell (p := ⟨w.heap.size, 2, none⟩) hl2).trans s2; have HMAP : Hid (NamesAt w3 w2.heap.size (allL 0 T) T.vars.length) := hmap; have HB3 : Hid (Below w.heap.size w w3) := HB2.out.trans (hb.mono HB2.out.size); clear hb hmap))
 have HB4 : Hid (Below w.heap.size w (w3.alloc (.cells #[.slice an T.nodes.length cn, .map (some w2.heap.size), .slice none 0 0] 128))) := HB3.out.alloc HB3.out.size _
 have HCK : Hid (CkE lo (w3.alloc (.cells #[.slice an T.nodes.length cn, .map (some w2.heap.size), .slice none 0 0] 128)) w3.heap.size w2.heap.size (.slice an T.nodes.length cn) (.slice none 0 0) T (allL 0 T)) := ⟨heap_alloc_new w3 _, HNO.out _ HB4.out, HMAP.out.alloc _, HGG.out.1, HGG.out.1.all_len 0⟩
 clear u0 u1 u2 s0 s1 s2 p0 p1 p2 HD HBN HNO HGG HMAP HRW HB1 HB2 HB3
 go_wp2
 go_ret
 exact ⟨⟨_, _, rfl, HCK.out⟩, HB4.out⟩
end Go.Proofs.YtepjaoapjpmjkaaGreatDoor
namespace Go.Proofs.YtepjaoapjpmjkaaGreatDoor
open Go.RowKit Go.Extern.Stop Go.Stop Go.Extern
set_option linter.unusedVariables false
theorem as_nil (t : Value) (w : World) :
  Calls Tryz.prog 85 #[.nilIface, t] w fun e w' => e = .returned (.bool false) ∧ w' = w := by
 go_enter Tryz.func85, Tryz.ntmps85
 go_wp2
 go_ret
 exact ⟨rfl, rfl⟩
theorem valueOfP (t : Addr) (w : World) : (ReflectliteValue.unpack (.iface 132 (.pointer (some t)))).run Tryz.prog w
  = .ok (.agg #[.pointer (some ⟨1, 132, none⟩), .pointer (some ⟨w.heap.size, 0, none⟩), .int .u64 150]) (w.alloc (.cells #[.pointer (some t)] 132)) := by kernel_rfl
theorem typeP (a : Addr) (w : World) : (ReflectliteValue.methodAny (ReflectliteValue.valueError "reflectlite.Value.Type" 0) (fun t _ _ _ => ReflectliteType.toType t) #[.agg #[.pointer (some ⟨1, 132, none⟩), .pointer (some a), .int .u64 150]]).run Tryz.prog w
  = .ok (.iface 187 (.agg #[.pointer (some ⟨1, 132, none⟩)])) w := by kernel_rfl
theorem kindP (w : World) : ((ReflectliteType.abiMethod fun t => (fun a : Nat => Value.int IntKind.u8 (a : Int)) <$> Rtype.kind t) #[.pointer (some ⟨1, 132, none⟩)]).run Tryz.prog w = .ok (.int .u8 22) w := by kernel_rfl
theorem kindM (w : World) : ((ReflectliteType.abiMethod fun t => (fun a : Nat => Value.int IntKind.u8 (a : Int)) <$> Rtype.kind t) #[.pointer (some ⟨1, 85, none⟩)]).run Tryz.prog w = .ok (.int .u8 25) w := by kernel_rfl
theorem rlm (z : Sem Value) (f : TypeId → Addr → Nat → Nat → Sem Value) (v : Value) :
  ReflectliteValue.method z f #[v] = (do match ← ReflectliteValue.parts v with | none => z | some (t, a, fl) => f t a fl (fl % 32)) := rfl
theorem partsP (a : Addr) (w : World) : (ReflectliteValue.parts (.agg #[.pointer (some ⟨1, 132, none⟩), .pointer (some a), .int .u64 150])).run Tryz.prog w = .ok (some (132, a, 150)) w := by kernel_rfl
theorem isNilP (a p : Addr) (W : World) (ha : W.cell? a = some (.pointer (some p))) :
  (ReflectliteValue.method (ReflectliteValue.valueError "reflectlite.Value.IsNil" 0) ReflectliteValue.isNil #[.agg #[.pointer (some ⟨1, 132, none⟩), .pointer (some a), .int .u64 150]]).run Tryz.prog W = .ok (.bool false) W := by
 rw [rlm]
 simp only [Sem.run_bind, partsP, Result.andThen]
 simp [ReflectliteValue.isNil, loadVar, isAgg, underlying, Tryz.underlying132, ha, Result.andThen]
theorem elemP (w : World) : (ReflectliteType.method ReflectliteType.elem #[.agg #[.pointer (some ⟨1, 132, none⟩)]]).run Tryz.prog w = .ok (.iface 187 (.agg #[.pointer (some ⟨1, 85, none⟩)])) w := by kernel_rfl
theorem implementsM (w : World) : (ReflectliteType.relation "Implements" ReflectliteType.implements_ #[.agg #[.pointer (some ⟨1, 85, none⟩)], .iface 187 (.agg #[.pointer (some ⟨1, 79, none⟩)])]).run Tryz.prog w = .ok (.bool true) w := by kernel_rfl
theorem typeOfM (v : Value) (w : World) : (ReflectliteType.typeOf #[.iface 85 v]).run Tryz.prog w = .ok (.iface 187 (.agg #[.pointer (some ⟨1, 85, none⟩)])) w := by kernel_rfl
theorem assignableM (w : World) : (ReflectliteType.relation "AssignableTo" ReflectliteType.assignableTo #[.agg #[.pointer (some ⟨1, 85, none⟩)], .iface 187 (.agg #[.pointer (some ⟨1, 85, none⟩)])]).run Tryz.prog w = .ok (.bool true) w := by kernel_rfl
theorem valueOfM (c n : Int) (w : World) : (ReflectliteValue.unpack (.iface 85 (.agg #[.int .i64 c, .int .i64 n]))).run Tryz.prog w
  = .ok (.agg #[.pointer (some ⟨1, 85, none⟩), .pointer (some ⟨w.heap.size, 0, none⟩), .int .u64 153]) (w.alloc (.cells #[.int .i64 c, .int .i64 n] 85)) := by kernel_rfl
theorem elemOfP (w : World) : (Rtype.elem? 132).run Tryz.prog w = .ok (some 85) w := by kernel_rfl
theorem mkM (p : Addr) (w : World) : (ReflectliteValue.mk 85 p ReflectliteValue.flagAddr).run Tryz.prog w = .ok (.agg #[.pointer (some ⟨1, 85, none⟩), .pointer (some p), .int .u64 409]) w := by kernel_rfl
theorem elemVP (a p : Addr) (W : World) (ha : W.cell? a = some (.pointer (some p))) :
  (ReflectliteValue.method (ReflectliteValue.valueError "reflectlite.Value.Elem" 0) ReflectliteValue.elem #[.agg #[.pointer (some ⟨1, 132, none⟩), .pointer (some a), .int .u64 150]]).run Tryz.prog W
   = .ok (.agg #[.pointer (some ⟨1, 85, none⟩), .pointer (some p), .int .u64 409]) W := by
 rw [rlm]
 simp only [Sem.run_bind, partsP, Result.andThen]
 simp [ReflectliteValue.elem, loadVar, isAgg, underlying, Tryz.underlying132, ha, Result.andThen, elemOfP, mkM]
theorem partsMa (a : Addr) (w : World) : (ReflectliteValue.parts (.agg #[.pointer (some ⟨1, 85, none⟩), .pointer (some a), .int .u64 409])).run Tryz.prog w = .ok (some (85, a, 409)) w := by kernel_rfl
theorem partsM (a : Addr) (w : World) : (ReflectliteValue.parts (.agg #[.pointer (some ⟨1, 85, none⟩), .pointer (some a), .int .u64 153])).run Tryz.prog w = .ok (some (85, a, 153)) w := by kernel_rfl
theorem directM (w : World) : (Rtype.directlyAssignable 85 85).run Tryz.prog w = .ok true w := by kernel_rfl
theorem sizeM (w : World) : (sizeOf 85).run Tryz.prog w = .ok 2 w := by kernel_rfl
end Go.Proofs.YtepjaoapjpmjkaaGreatDoor
