/-
  impl's checker with loops around: what its statements lean on; slices.Contains over the loops; newChecker.
-/
import Derived.Test.YtcecfmdjicjngaaGreatDoorCheckM2
import Derived.Test.YtcecfmdjicjngaaGreatDoorRowE
import Derived.Test.YtcecfmdjicjngaaGreatDoorSFor
import Derived.Test.YtcecfmdjicjngaaGreatDoorITyOf
namespace Go.Proofs.YtcecfmdjicjngaaGreatDoor
open Go.RowKit
set_option linter.unusedVariables false
theorem cellsL_kind (T : LTree) (n : Nat) : cellsL ((allL 3 T).take n) = cellsL ((allL 0 T).take n) := by
 have h1 : ∀ (V W : List LVar), V.map szV = W.map szV → cellsL V = cellsL W := by
  intro V W h
  have : ∀ (V : List LVar) (a : Int), V.foldl (fun s v => s + szV v) a = (V.map szV).foldl (fun s z => s + z) a := by
   intro V; induction V with
   | nil => intro a; rfl
   | cons v r ih => intro a; exact ih _
  unfold cellsL; rw [this, this, h]
 have h2 : ∀ op nm, (ownOf 3 op nm).map szV = (ownOf 0 op nm).map szV := by
  intro op nm; unfold ownOf
  split
  ·rfl
  split
  ·rfl
  split <;> rfl
 have h3 : (allL 3 T).map szV = (allL 0 T).map szV := by
  unfold allL ownsL
  rw [List.map_append, List.map_append, List.map_flatMap, List.map_flatMap]
  congr 2
  funext n
  unfold ownN
  split
  ·exact h2 _ _
  ·rfl
 apply h1
 rw [List.map_take, List.map_take, h3]
theorem allL_len (T : LTree) : (allL 3 T).length = (allL 0 T).length := by
 have h2 : ∀ op nm, (ownOf 3 op nm).map szV = (ownOf 0 op nm).map szV := by
  intro op nm; unfold ownOf
  split
  ·rfl
  split
  ·rfl
  split <;> rfl
 have h3 : (allL 3 T).map szV = (allL 0 T).map szV := by
  unfold allL ownsL
  rw [List.map_append, List.map_append, List.map_flatMap, List.map_flatMap]
  congr 2
  funext n
  unfold ownN
  split
  ·exact h2 _ _
  ·rfl
 have := congrArg List.length h3
 simpa using this
theorem varFrom_names (nm : List UInt8) : ∀ (V W : List LVar) (i : Nat), V.map LVar.name = W.map LVar.name → varFrom nm V i = varFrom nm W i := by
 intro V
 induction V with
 | nil => intro W i h; cases W with
  | nil => rfl
  | cons w r => simp at h
 | cons v r ih =>
  intro W i h
  cases W with
  | nil => simp at h
  | cons w s =>
   simp at h
   unfold varFrom
   rw [h.1, ih s (i + 1) h.2]
theorem varFrom_kind (T : LTree) (nm : List UInt8) : varFrom nm (allL 3 T) 0 = varFrom nm (allL 0 T) 0 := by
 apply varFrom_names
 unfold allL ownsL
 rw [List.map_append, List.map_append, List.map_flatMap, List.map_flatMap]
 congr 2
 funext n
 unfold ownN
 split
 ·unfold ownOf
  split
  ·rfl
  split
  ·rfl
  split <;> rfl
 ·rfl
theorem all_names {T : LTree} (h : Good T) (K : Int) : ∀ x ∈ allL K T, x.name.length ≤ 9 := fun x hx => by
 rcases List.mem_append.1 hx with hx | hx
 ·have := (name_len (h.var x hx).1).2; omega
 ·obtain ⟨n, hn, hx⟩ := List.mem_flatMap.1 hx
  unfold ownN at hx
  split at hx
  ·rename_i hk
   obtain ⟨k, hk2, rfl⟩ := List.getElem_of_mem hn
   have h1 := (name_len (own_name (h.node k _ (List.getElem?_eq_getElem hk2)).1 hk)).2
   rw [ownOf_nm] at hx
   obtain ⟨y, hy, rfl⟩ := List.mem_map.1 hx
   have := ownOf_one K _ y hy
   simp; omega
  ·cases hx
end Go.Proofs.YtcecfmdjicjngaaGreatDoor
namespace Go.Proofs.YtcecfmdjicjngaaGreatDoor
open Go.RowKit
set_option linter.unusedVariables false
attribute [local go_sem] bs_size bs_get bs_extract bs_append bs_eq bs_toList
structure CkB (lo : Nat) (W0 : World) (cp mp : Nat) (vn : Value) (T : LTree) (V : List LVar) : Prop where
 nodes : NodesV lo W0 vn T.nodes
 map : NamesAt W0 mp V T.vars.length
 good : Good T
 few : V.length ≤ 624
 low : W0.heap.size ≤ cp
structure ICk (W0 W : World) (cp mp : Nat) (vn vl : Value) : Prop where
 bel : Below W0.heap.size W0 W
 row : W.heap[cp]? = some (.cells #[vn, .map (some mp), vl] 196 (0, 0))
theorem ICk.below {W0 W W' : World} {cp mp : Nat} {vn vl : Value} (h : ICk W0 W cp mp vn vl) (hb : Below W.heap.size W W') : ICk W0 W' cp mp vn vl := ⟨h.bel.trans (hb.mono h.bel.size), blk h.row hb⟩
theorem CkB.ck {lo : Nat} {W0 W : World} {cp mp : Nat} {vn vl : Value} {T : LTree} {V : List LVar} (h : CkB lo W0 cp mp vn T V) (k : ICk W0 W cp mp vn vl) : CkE lo W cp mp vn vl T V :=
 ⟨k.row, h.nodes.below k.bel, ownsMap_block h.map (k.bel.block _ h.map.lt), h.good, h.few⟩
theorem CkB.node {lo : Nat} {W0 W : World} {cp mp : Nat} {vn : Value} {T : LTree} {V : List LVar} (h : CkB lo W0 cp mp vn T V) (hb : Below W0.heap.size W0 W) (x : Nat) (hx : x < T.nodes.length) :
  ∃ bn on cn, vn = .slice (some ⟨bn, on, none⟩) T.nodes.length cn ∧ ∃ vk vt ve, NodeCells W bn (on + x * 8) (nodeOf T.nodes (x : Int)) vk vt ve ∧ IntsV lo W0 vk (nodeOf T.nodes (x : Int)).kids ∧ IntsV lo W0 vt (nodeOf T.nodes (x : Int)).thn ∧ IntsV lo W0 ve (nodeOf T.nodes (x : Int)).els := by
 obtain ⟨an, cn, rfl, _, hh⟩ := id h.nodes
 obtain ⟨bn, on, rfl, _, hc⟩ := hh (by intro e; rw [e] at hx; simp at hx)
 have hxe : T.nodes[x]? = some (nodeOf T.nodes (x : Int)) := by unfold nodeOf; rw [Int.toNat_natCast, List.getD_eq_getElem?_getD, List.getElem?_eq_getElem hx]; rfl
 obtain ⟨vk, vt, ve, h1, h2⟩ := hc x _ hxe
 exact ⟨bn, on, cn, rfl, vk, vt, ve, h1.keep (lo := 0) (.of_below hb) (Nat.zero_le _), h2.kids, h2.thn, h2.els⟩
set_option maxHeartbeats 1600000 in
theorem indexS_any (a : Option Addr) (c B : Nat) (L : List (List UInt8)) (nm : List UInt8) (W : World) (hL : LoopO W B (.slice a L.length c) L) (hfew : L.length ≤ 1048576) :
  Calls Tryz.prog 299 #[.slice a L.length c, .string (bs nm)] W fun e w' => (∃ i : Int, e = .returned (.int .i64 i) ∧ (0 ≤ i ↔ nm ∈ L)) ∧ w' = W := by
 obtain ⟨a', c', e, hh⟩ := hL.form
 injection e with e1 e2 e3
 subst e1; subst e3
 have HL := hid hh
 clear hh hL
 go_enter Tryz.func299, Tryz.ntmps299
 go_wp2
 go_loopw [8] (fun i wr => ∃ k : Nat, k ≤ L.length ∧ i = .int .i64 k ∧ (nm ∈ L ↔ nm ∈ L.drop k) ∧ SameW wr W) (fun i _ => L.length - (intOf i).toNat)
 case atStart => exact ⟨0, by omega, rfl, by rw [List.drop_zero], rfl⟩
 case round =>
  obtain ⟨k, hk, rfl, hv, hw⟩ := hrel
  have HF : Hid _ := hv
  clear hv
  by_cases hlt : k < L.length
  ·obtain ⟨x, hx⟩ : ∃ x, L[k]? = some x := ⟨L[k], List.getElem?_eq_getElem hlt⟩
   obtain ⟨g, rfl, _, hc1⟩ := HL.out (by intro e; rw [e] at hlt; simp at hlt)
   have c0 : wr.cell? ⟨g, k, none⟩ = _ := (congrArg (fun W => World.cell? W ⟨g, k, none⟩) hw).trans (hc1 k x hx)
   have HX : Hid (L.drop k = x :: L.drop (k + 1)) := by unfold Hid; rw [List.drop_eq_getElem_cons hlt]; rw [List.getElem?_eq_getElem hlt] at hx; injection hx with hx; rw [hx]
   have hk0 : (0 : Int) ≤ (k : Int) := by omega
   have hk1 : (k : Int) < (L.length : Int) := by omega
   clear hx hc1
   by_cases he : nm = x
   ·have HE : Hid (nm ∈ L) := by unfold Hid; rw [HF.out, HX.out, he]; exact List.mem_cons_self
    subst he
    clear HF HX
    go_wp2
    go_ret
    exact ⟨⟨(k : Int), rfl, ⟨fun _ => HE.out, fun _ => hk0⟩⟩, hw⟩
   ·have hne : (nm == x) = false := by simpa using he
    have hne2 : decide (nm = x) = false := decide_eq_false he
    have HE : Hid (nm ∈ L ↔ nm ∈ L.drop (k + 1)) := by unfold Hid; rw [HF.out, HX.out, List.mem_cons]; exact ⟨fun h => h.resolve_left he, .inr⟩
    clear HF HX
    go_wp2
    go_roundw
    case rel => exact ⟨k + 1, by omega, by go_num, HE.out, hw⟩
    case measure => simp [intOf]; omega
  ·have hke : k = L.length := by omega
   have HE : Hid (nm ∉ L) := by unfold Hid; rw [HF.out, hke, List.drop_length]; exact List.not_mem_nil
   clear HF hke HL
   go_wp2
   go_ret
   exact ⟨⟨-1, rfl, ⟨fun h => by omega, fun h => absurd h HE.out⟩⟩, hw⟩
set_option maxHeartbeats 1600000 in
theorem containsS_any (a : Option Addr) (c B : Nat) (L : List (List UInt8)) (nm : List UInt8) (W : World) (hL : LoopO W B (.slice a L.length c) L) (hfew : L.length ≤ 1048576) :
  Calls Tryz.prog 286 #[.slice a L.length c, .string (bs nm)] W fun e w' => e = .returned (.bool (decide (nm ∈ L))) ∧ w' = W := by
 have H : Hid (Calls Tryz.prog 299 #[.slice a L.length c, .string (bs nm)] W fun e w' => (∃ i : Int, e = .returned (.int .i64 i) ∧ (0 ≤ i ↔ nm ∈ L)) ∧ w' = W) := indexS_any a c B L nm W hL hfew
 clear hL
 go_enter Tryz.func286, Tryz.ntmps286
 go_wp2_with fail
 refine H.out.mono ?_
 rintro e w1 ⟨⟨i, rfl, hi⟩, rfl⟩
 have HE : Hid (decide (nm ∈ L) = decide (0 ≤ i)) := by unfold Hid; rw [decide_eq_decide]; exact hi.symm
 clear hi H
 go_wp2_with fail
 go_ret
 exact ⟨by rw [HE.out]; rfl, rfl⟩
end Go.Proofs.YtcecfmdjicjngaaGreatDoor
