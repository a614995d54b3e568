/-
  Types, plainly: what a right tree has for impl's checker; the kind of blocks' own makes no odds.
-/
import Derived.Test.YtcecfmdjicjngaaGreatDoorITyOf
import Derived.Test.YtcecfmdjicjngaaGreatDoorICtx
import Derived.Test.YtcecfmdjicjngaaGreatDoorSTypA
namespace Go.Proofs.YtcecfmdjicjngaaGreatDoor
open Go.RowKit
set_option linter.unusedVariables false
theorem expr_of {n : LNode} (h : 1 ≤ n.kind ∧ n.kind ≤ 6) : exprN n = true := inB_iff.2 h
theorem expr_to {n : LNode} (h : exprN n = true) : 1 ≤ n.kind ∧ n.kind ≤ 6 := inB_iff.1 h
theorem fits_of {T : LTree} (h : faultL T = 0) : FitsE T := by
 intro x hx hk
 have hG := good_of h
 have hn := hG.node x _ (node_get hx)
 have ho := own_kids hn.1 (expr_of hk)
 refine ⟨fun h6 => ?_, ⟨fun h35 => ?_, fun h6 => ?_⟩, fun y hy => ⟨hn.2.1 y hy, ?_, fun h1 => ?_⟩⟩
 ·rcases ho with h | h | h
  ·omega
  ·omega
  ·exact h.2.2
 ·rcases ho with h | h | h
  ·omega
  ·exact h.2
  ·omega
 ·rcases ho with h | h | h
  ·omega
  ·omega
  ·exact h.2.1
 ·exact expr_to (kin_of h x _ (node_get hx) y hy)
 ·have hy2 := hn.2.1 y hy
  obtain ⟨j, rfl⟩ : ∃ j : Nat, y = j := ⟨y.toNat, by omega⟩
  exact (own_nums (hG.node j _ (node_get (by omega))).1).1.1
theorem ownOf_types (K op : Int) (nm : List UInt8) : ∀ v ∈ ownOf K op nm, v.type = 1 ∨ v.type = 2 := by
 intro v hv; unfold ownOf at hv
 split at hv
 ·simp at hv; rcases hv with rfl | rfl | rfl <;> simp
 split at hv
 ·simp at hv; rcases hv with rfl | rfl <;> simp
 split at hv
 ·simp at hv; rcases hv with rfl | rfl <;> simp
 ·simp at hv; subst hv; simp
theorem types_ok {T : LTree} (h : Good T) (K : Int) : TypesOk (allL K T) := by
 intro i hi
 have hm : (allL K T).getD i default ∈ allL K T := by
  rw [List.getD_eq_getElem?_getD, List.getElem?_eq_getElem hi]; exact List.getElem_mem _
 rcases List.mem_append.1 hm with hv | hv
 ·have := (h.var _ hv).2.2.1; omega
 ·obtain ⟨n, hn, hv⟩ := List.mem_flatMap.1 hv
  unfold ownN at hv
  split at hv
  ·exact ownOf_types _ _ _ _ hv
  ·cases hv
def ntS (v : LVar) : List UInt8 × Int × Int := (v.name, v.type, v.size)
theorem allL_nts (T : LTree) : (allL 3 T).map ntS = (allL 0 T).map ntS := by
 have h2 : ∀ op nm, (ownOf 3 op nm).map ntS = (ownOf 0 op nm).map ntS := by
  intro op nm; unfold ownOf
  split
  ·rfl
  split
  ·rfl
  split <;> rfl
 unfold allL ownsL
 rw [List.map_append, List.map_append, List.map_flatMap, List.map_flatMap]
 congr 2
 funext n
 unfold ownN
 split
 ·exact h2 _ _
 ·rfl
theorem nts_at {V W : List LVar} (h : V.map ntS = W.map ntS) (i : Nat) : (V.getD i default).type = (W.getD i default).type ∧ (V.getD i default).size = (W.getD i default).size ∧ (V.getD i default).name = (W.getD i default).name := by
 have e : ∀ U : List LVar, ntS (U.getD i default) = ((U.map ntS)[i]?).getD (ntS default) := fun U => by
  rw [List.getD_eq_getElem?_getD, List.getElem?_map]; cases U[i]? <;> rfl
 have h1 : ntS (V.getD i default) = ntS (W.getD i default) := by rw [e, e, h]
 unfold ntS at h1
 injection h1 with a b
 injection b with b c
 exact ⟨b, c, a⟩
theorem nts_names {V W : List LVar} (h : V.map ntS = W.map ntS) : V.map LVar.name = W.map LVar.name := by
 have := congrArg (List.map (fun p : List UInt8 × Int × Int => p.1)) h
 rw [List.map_map, List.map_map] at this; exact this
theorem nameF_nts {V W : List LVar} (h : V.map ntS = W.map ntS) (nv : Nat) (nm : List UInt8) (row : Bool) (x : Int) (st : Met) : nameF V nv nm row x st = nameF W nv nm row x st := by
 unfold nameF
 rw [varFrom_names nm V W 0 (nts_names h), (nts_at h _).1, (nts_at h _).2.1]
theorem boolB_nts {V W : List LVar} (h : V.map ntS = W.map ntS) (n : LNode) : boolB V n = boolB W n := by
 unfold boolB
 rw [varFrom_names n.name V W 0 (nts_names h), (nts_at h _).1]
theorem wantF_nts {V W : List LVar} (h : V.map ntS = W.map ntS) (N : List LNode) (n : LNode) : wantF V N n = wantF W N n := by
 unfold wantF sameF
 rw [boolB_nts h]
theorem typeF_nts {V W : List LVar} (h : V.map ntS = W.map ntS) (nv : Nat) (N : List LNode) : ∀ (f : Nat) (x : Int) (st : Met), typeF V nv N f x st = typeF W nv N f x st := by
 intro f
 induction f with
 | zero => intro x st; rfl
 | succ f ih => intro x st; simp only [typeF, nameF_nts h, wantF_nts h, ih]
theorem typeF_kind (T : LTree) (nv : Nat) (N : List LNode) (f : Nat) (x : Int) (st : Met) : typeF (allL 3 T) nv N f x st = typeF (allL 0 T) nv N f x st := typeF_nts (allL_nts T) nv N f x st
theorem names_small {T : LTree} (hS : Sized 1048576 T) : ∀ y : Nat, y < T.nodes.length → (nodeOf T.nodes (y : Int)).name.length ≤ 1048576 := fun y hy => by
 have := hS.node _ (List.mem_of_getElem? (node_get hy)); exact this.1
end Go.Proofs.YtcecfmdjicjngaaGreatDoor
