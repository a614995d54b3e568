/-
  spec.StartState.
-/
import Derived.Test.YtepjaoapjpmjkaaGreatDoorTreeSz
import Derived.Test.YtepjaoapjpmjkaaGreatDoorSStF
import Derived.Test.YtepjaoapjpmjkaaGreatDoorIVars
import Derived.Laws.Rows
namespace Go.Proofs.YtepjaoapjpmjkaaGreatDoor
open Go.RowKit
set_option linter.unusedVariables false
attribute [local go_sem] bs_size bs_get bs_extract bs_append bs_eq bs_toList
set_option maxHeartbeats 6400000 in
theorem szTreeLe_any (lo : Nat) (T : LTree) (vv vn vb : Value) (w : World) (h : TreeV lo w vv vn vb T) (hf : Fits T) :
  Calls Tryz.prog 7 #[treeV vv vn vb, .int .i64 1048576] w fun e w' => ∃ r : Int, e = .returned (.int .i64 r) ∧ (0 ≤ r → Sized 1048576 T ∧ r ≤ 1048576) ∧ Below w.heap.size w w' := by
 obtain ⟨av, cv, rfl, _⟩ := id h.vars
 obtain ⟨an, cn, rfl, _⟩ := id h.nodes
 obtain ⟨ab, cb, rfl, _⟩ := id h.body
 have HV := hid h
 have HF : Hid (Fits T) := hf
 clear h hf
 go_enter Tryz.func7, Tryz.ntmps7
 go_wp2_with fail
 have hA := heap_alloc_new w (.cells #[.slice av T.vars.length cv, .slice an T.nodes.length cn, .slice ab T.body.length cb] 26)
 have hB : Below w.heap.size w (w.alloc (.cells #[.slice av T.vars.length cv, .slice an T.nodes.length cn, .slice ab T.body.length cb] 26)) := (Below.refl _ _).alloc (Nat.le_refl _) _
 generalize w.alloc (.cells #[.slice av T.vars.length cv, .slice an T.nodes.length cn, .slice ab T.body.length cb] 26) = W at *
 refine (szVars_any lo _ _ 1048576 _ (HV.out.below hB).vars (by omega) (by omega) HF.out.vars HF.out.names).mono ?_
 rintro e w0 ⟨L1, rfl, hr, hb⟩
 have hAc := blk hA hb
 have hBc := hB.trans (hb.mono hB.size)
 clear hA hB hb
 have a1 := cell_of_row _ _ 1 _ _ _ hAc
 simp at a1
 have HA : Hid _ := hAc
 have HB : Hid _ := hBc
 clear hAc hBc
 rcases hr with rfl | ⟨k1, m1, z1⟩
 ·go_wp2_with fail
  go_ret
  exact ⟨_, rfl, fun h => absurd h (by omega), HB.out⟩
 have HZ1 : Hid _ := z1
 clear z1
 go_wp2_with fail
 have hA := HA.out
 have hB := HB.out
 clear HA HB a1
 refine (szNodes_any lo _ _ _ _ (HV.out.below hB).nodes k1 (by omega) HF.out.nodes HF.out.node).mono ?_
 rintro e w1 ⟨L2, rfl, hr, hb⟩
 have hAc := blk hA hb
 have hBc := hB.trans (hb.mono hB.size)
 clear hA hB hb
 have a2 := cell_of_row _ _ 2 _ _ _ hAc
 simp at a2
 have HA : Hid _ := hAc
 have HB : Hid _ := hBc
 clear hAc hBc
 rcases hr with rfl | ⟨k2, m2, z2⟩
 ·go_wp2_with fail
  go_ret
  exact ⟨_, rfl, fun h => absurd h (by omega), HB.out⟩
 have HZ2 : Hid _ := z2
 clear z2
 go_wp2_with fail
 have hA := HA.out
 have hB := HB.out
 clear HA HB a2
 refine (szInts_any _ _ _ _ k2 (by omega) HF.out.body _).mono ?_
 rintro e w2 ⟨L3, rfl, hr, hb⟩
 have hAc := blk hA hb
 have hBc := hB.trans (hb.mono hB.size)
 clear hA hB hb
 have HA : Hid _ := hAc
 have HB : Hid _ := hBc
 clear hAc hBc
 rcases hr with rfl | ⟨k3, m3, z3⟩
 ·go_wp2_with fail
  go_ret
  exact ⟨_, rfl, fun h => absurd h (by omega), HB.out⟩
 have HZ3 : Hid _ := z3
 clear z3
 go_wp2_with fail
 go_ret
 exact ⟨_, rfl, fun _ => ⟨⟨HZ1.out.1, HZ2.out.1, HZ3.out, HZ1.out.2, HZ2.out.2⟩, by omega⟩, HB.out⟩
end Go.Proofs.YtepjaoapjpmjkaaGreatDoor
namespace Go.Proofs.YtepjaoapjpmjkaaGreatDoor
open Go.RowKit
set_option linter.unusedVariables false
attribute [local go_sem] bs_size bs_get bs_extract bs_append bs_eq bs_toList
set_option maxHeartbeats 1600000 in
theorem szState_any (a : Option Addr) (n c : Nat) (left : Int) (h0 : 0 ≤ left) (h1 : left ≤ 1048576) (hl : n ≤ 9223372036854775807) (w : World) :
  Calls Tryz.prog 22 #[.agg #[.slice a n c], .int .i64 left] w fun e w' => ∃ r : Int, e = .returned (.int .i64 r) ∧ (0 ≤ r → n ≤ 1048576) ∧ Below w.heap.size w w' := by
 have HX : Hid (∀ W, Calls Tryz.prog 29 #[.slice a n c, .int .i64 left] W fun e w' => ∃ r : Int, e = .returned (.int .i64 r) ∧ Left left r (n ≤ 1048576) ∧ Below W.heap.size W w') := fun W => szInts_any a n c left h0 h1 hl W
 have hB : Below w.heap.size w (w.alloc (.cells #[.slice a n c] 52)) := (Below.refl _ _).alloc (Nat.le_refl _) _
 clear hl
 go_enter Tryz.func22, Tryz.ntmps22
 go_wp2_with fail
 generalize w.alloc (.cells #[.slice a n c] 52) = W at *
 refine (HX.out _).mono ?_
 rintro e w2 ⟨r, rfl, hr, hb⟩
 have HB : Hid (Below w.heap.size w w2) := hB.trans (hb.mono hB.size)
 clear hB hb HX
 rcases hr with rfl | ⟨k1, m1, z1⟩
 ·go_wp2_with fail
  go_ret
  exact ⟨_, rfl, fun h => absurd h (by omega), HB.out⟩
 ·have HZ1 : Hid _ := z1
  clear z1
  go_wp2_with fail
  go_ret
  exact ⟨_, rfl, fun _ => HZ1.out, HB.out⟩
theorem Nums.set {w : World} {a : Option Addr} {zs : List Int} {p : Addr} {v : Value} (h : Nums w a zs) (hp : ∀ b o, a = some ⟨b, o, none⟩ → p.block ≠ b) : Nums (w.setCell p v) a zs := by
 rcases h with h | ⟨b, o, rfl, hc⟩
 ·exact .inl h
 ·exact .inr ⟨b, o, rfl, fun i hi => (World.cell?_setCell_other _ _ _ _ (fun e => hp b o rfl (by have := congrArg Addr.block e; first | exact this | exact this.symm))).trans (hc i hi)⟩
set_option maxHeartbeats 1600000 in
theorem toState_any (a : Option Addr) (zs : List Int) (cap : Nat) (w : World) (hlen : zs.length ≤ 1048576) (hn : Nums w a zs) :
  Calls Tryz.prog 24 #[.agg #[.slice a zs.length cap]] w fun e w' => ∃ a2 c2, e = .returned (.agg #[.slice a2 zs.length c2]) ∧ Nums w' a2 zs ∧ Below w.heap.size w w' := by
 have HX : Hid (∀ W, Below w.heap.size w W → Calls Tryz.prog 37 #[.slice a zs.length cap] W fun e w' => e = .returned (.slice (some ⟨W.heap.size, 0, none⟩) zs.length zs.length) ∧ Nums w' (some ⟨W.heap.size, 0, none⟩) zs ∧ Below W.heap.size W w') := fun W hb =>
  (copy_any a zs cap W hlen (hn.below hb)).mono fun e w' h => ⟨h.1, (nums_of_own h.2.1).2, h.2.2⟩
 have a1 := heap_alloc_new w (.cells #[.slice a zs.length cap] 52)
 have b1 : Below w.heap.size w (w.alloc (.cells #[.slice a zs.length cap] 52)) := (Below.refl _ _).alloc (Nat.le_refl _) _
 have s1 : (w.alloc (.cells #[.slice a zs.length cap] 52)).heap.size = w.heap.size + 1 := by simp
 clear hn
 go_enter Tryz.func24, Tryz.ntmps24
 go_upto_region 2 with fail
 generalize w.alloc (.cells #[.slice a zs.length cap] 52) = W1 at *
 have a2 := heap_alloc_new W1 (.cells #[.slice none 0 0] 45)
 have b2 : Below W1.heap.size W1 (W1.alloc (.cells #[.slice none 0 0] 45)) := (Below.refl _ _).alloc (Nat.le_refl _) _
 have s2 : (W1.alloc (.cells #[.slice none 0 0] 45)).heap.size = w.heap.size + 2 := by simp; omega
 generalize W1.alloc (.cells #[.slice none 0 0] 45) = W2 at *
 have a3 := heap_alloc_new W2 (.cells #[.slice none 0 0] 45)
 have b3 : Below W2.heap.size W2 (W2.alloc (.cells #[.slice none 0 0] 45)) := (Below.refl _ _).alloc (Nat.le_refl _) _
 have s3 : (W2.alloc (.cells #[.slice none 0 0] 45)).heap.size = w.heap.size + 3 := by simp; omega
 generalize W2.alloc (.cells #[.slice none 0 0] 45) = W3 at *
 rw [s1] at a2
 rw [s2] at a3
 have A1 := blk (blk a1 b2) b3
 have A2 := blk a2 b3
 have B : Below w.heap.size w W3 := (b1.trans (b2.mono (by omega))).trans (b3.mono (by omega))
 have q0 := cell_of_row _ _ 0 _ _ _ A1
 simp at q0
 clear a1 a2 b1 b2 b3 s1 s2 A1
 go_wp2_with fail
 refine (HX.out _ B).mono ?_
 rintro e w4 ⟨rfl, hnn, hb⟩
 have d2 := blk A2 hb
 have d3 := blk a3 hb
 have HB : Hid (Below w.heap.size w w4) := B.trans (hb.mono B.size)
 have HN := hid hnn
 have HS3 : Hid (W3.heap.size = w.heap.size + 3) := s3
 have r0 := cell_of_row _ _ 0 _ _ _ d2
 have f0 := frozen_of_row _ _ 0 _ _ d2
 have r1 := cell_of_row _ _ 0 _ _ _ d3
 have f1 := frozen_of_row _ _ 0 _ _ d3
 simp at r0 r1 f0 f1
 clear a3 A2 B q0 hnn hb d2 d3 s3 HX
 generalize W3.heap.size = g at *
 go_wp2_with fail
 refine bodyPost_ret (v := .agg #[.slice (some ⟨g, 0, none⟩) zs.length zs.length]) (by simp [results, Tryz.results24, go_sem, r0]) rfl ⟨_, _, rfl, ?_, (HB.out.setCell (by simp <;> omega) _).setCell (by simp) _⟩
 exact (HN.out.set (fun b o e => by have := HS3.out; injection e with e; injection e with e; simp; omega)).set (fun b o e => by have := HS3.out; injection e with e; injection e with e; simp; omega)
set_option maxHeartbeats 1600000 in
theorem eqState_any (a b : Option Addr) (zs : List Int) (ca cb : Nat) (w : World) (hlen : zs.length ≤ 1048576) (ha : Nums w a zs) (hb : Nums w b zs) :
  Calls Tryz.prog 26 #[.agg #[.slice a zs.length ca], .agg #[.slice b zs.length cb]] w fun e w' => e = .returned (.bool true) ∧ Below w.heap.size w w' := by
 have HX : Hid (∀ W, Below w.heap.size w W → Calls Tryz.prog 45 #[.slice a zs.length ca, .slice b zs.length cb] W fun e w' => e = .returned (.bool true) ∧ Below W.heap.size W w') := fun W h => eqNums_any a b zs ca cb W (by omega) (ha.below h) (hb.below h)
 clear ha hb
 have b1 : Below w.heap.size w (w.alloc (.cells #[.slice a zs.length ca] 45)) := (Below.refl _ _).alloc (Nat.le_refl _) _
 have HB : Hid (Below w.heap.size w ((w.alloc (.cells #[.slice a zs.length ca] 45)).alloc (.cells #[.slice b zs.length cb] 45))) := b1.alloc b1.size _
 clear b1
 go_enter Tryz.func26, Tryz.ntmps26
 go_wp2_with fail
 refine (HX.out _ HB.out).mono ?_
 rintro e w2 ⟨rfl, hb⟩
 have HB2 : Hid (Below w.heap.size w w2) := HB.out.trans (hb.mono HB.out.size)
 clear hb HX HB
 go_wp2_with fail
 go_ret
 exact ⟨rfl, HB2.out⟩
set_option maxHeartbeats 1600000 in
theorem specStateFault (lo : Nat) (vv vn vb : Value) (T : LTree) (a : Option Addr) (zs : List Int) (cap : Nat) (w : World) (h : TreeV lo w vv vn vb T) (hS : Sized 1048576 T) (hn : Nums w a zs) (hlen : zs.length ≤ 1048576) :
  Calls Tryz.prog 23 #[treeV vv vn vb, .agg #[.slice a zs.length cap]] w fun e w' => e = .returned (.int .i64 (staF T zs)) ∧ Below w.heap.size w w' := by
 have HX : Hid (∀ W, Below w.heap.size w W → W.heap[w.heap.size]? = some (.cells #[vv, vn, vb] 34 (0, 0)) → W.heap[w.heap.size + 1]? = some (.cells #[.slice a zs.length cap] 45 (0, 0)) → Calls Tryz.prog 57 #[.pointer (some ⟨w.heap.size, 0, none⟩), .pointer (some ⟨w.heap.size + 1, 0, none⟩)] W fun e w' => e = .returned (.int .i64 (staF T zs)) ∧ Below W.heap.size W w') := fun W hb h1 h2 =>
  l6Fault_any lo w.heap.size (w.heap.size + 1) vv vn vb T a zs cap W ⟨cell_of_row _ _ 0 _ _ _ h1, cell_of_row _ _ 1 _ _ _ h1, cell_of_row _ _ 2 _ _ _ h1, h.below hb⟩ hS (cell_of_row _ _ 0 _ _ _ h2) (hn.below hb) hlen
 obtain ⟨av, cv, rfl, _⟩ := id h.vars
 obtain ⟨an, cn, rfl, _⟩ := id h.nodes
 obtain ⟨ab, cb, rfl, _⟩ := id h.body
 clear h hS hn
 have hA := heap_alloc_new w (.cells #[.slice av T.vars.length cv, .slice an T.nodes.length cn, .slice ab T.body.length cb] 34)
 have hB : Below w.heap.size w (w.alloc (.cells #[.slice av T.vars.length cv, .slice an T.nodes.length cn, .slice ab T.body.length cb] 34)) := (Below.refl _ _).alloc (Nat.le_refl _) _
 have hZ : (w.alloc (.cells #[.slice av T.vars.length cv, .slice an T.nodes.length cn, .slice ab T.body.length cb] 34)).heap.size = w.heap.size + 1 := by simp
 have hA2 := heap_alloc_new (w.alloc (.cells #[.slice av T.vars.length cv, .slice an T.nodes.length cn, .slice ab T.body.length cb] 34)) (.cells #[.slice a zs.length cap] 45)
 have hB2 : Below (w.alloc (.cells #[.slice av T.vars.length cv, .slice an T.nodes.length cn, .slice ab T.body.length cb] 34)).heap.size (w.alloc (.cells #[.slice av T.vars.length cv, .slice an T.nodes.length cn, .slice ab T.body.length cb] 34)) _ := (Below.refl _ _).alloc (Nat.le_refl _) (.cells #[.slice a zs.length cap] 45)
 have hA1 := blk hA hB2
 have hB3 := hB.trans (hB2.mono (by omega))
 rw [hZ] at hA2
 have HX2 : Hid (Calls Tryz.prog 57 #[.pointer (some ⟨w.heap.size, 0, none⟩), .pointer (some ⟨w.heap.size + 1, 0, none⟩)] ((w.alloc (.cells #[.slice av T.vars.length cv, .slice an T.nodes.length cn, .slice ab T.body.length cb] 34)).alloc (.cells #[.slice a zs.length cap] 45)) fun e w' => e = .returned (.int .i64 (staF T zs)) ∧ Below ((w.alloc (.cells #[.slice av T.vars.length cv, .slice an T.nodes.length cn, .slice ab T.body.length cb] 34)).alloc (.cells #[.slice a zs.length cap] 45)).heap.size ((w.alloc (.cells #[.slice av T.vars.length cv, .slice an T.nodes.length cn, .slice ab T.body.length cb] 34)).alloc (.cells #[.slice a zs.length cap] 45)) w') := HX.out _ hB3 hA1 hA2
 have HB3 : Hid _ := hB3
 clear hA hB hB2 hZ hA1 hA2 HX hB3
 go_enter Tryz.func23, Tryz.ntmps23
 go_wp2_with fail
 generalize ((w.alloc (.cells #[.slice av T.vars.length cv, .slice an T.nodes.length cn, .slice ab T.body.length cb] 34)).alloc (.cells #[.slice a zs.length cap] 45)) = W at *
 refine HX2.out.mono ?_
 rintro e w2 ⟨rfl, hb⟩
 have HB : Hid (Below w.heap.size w w2) := HB3.out.trans (hb.mono HB3.out.size)
 clear hb HB3 HX2
 go_wp2_with fail
 go_ret
 exact ⟨rfl, HB.out⟩
end Go.Proofs.YtepjaoapjpmjkaaGreatDoor
namespace Go.Proofs.YtepjaoapjpmjkaaGreatDoor
open Go.RowKit
def marks (k : Int) (n : Nat) : List Int := (List.range n).map (fun i : Nat => k + i)
theorem marks_length (k : Int) (n : Nat) : (marks k n).length = n := by unfold marks; simp
theorem marks_get (k : Int) (n i : Nat) (h : i < n) : (marks k n).getD i 0 = k + i := by
 unfold marks
 rw [List.getD_eq_getElem?_getD, List.getElem?_eq_getElem (by simpa using h)]
 simp
theorem marked {k : Int} {zs : List Int} {j : Nat} (h : j < zs.length) :
  ((marks k j ++ zs.drop j).map (Value.int .i64)).set j (.int .i64 (k + j)) = (marks k (j + 1) ++ zs.drop (j + 1)).map (Value.int .i64) := by
 have e : marks k (j + 1) = marks k j ++ [k + j] := by unfold marks; rw [List.range_succ, List.map_append]; rfl
 rw [e, List.drop_eq_getElem_cons h]
 simp only [List.map_append, List.map_cons, List.append_assoc, List.cons_append, List.nil_append]
 rw [List.set_append_right _ _ (by simp [marks_length])]
 simp [marks_length]
set_option maxHeartbeats 800000 in
theorem mark_any (a : Option Addr) (zs : List Int) (cap B : Nat) (k : Int) (w : World) (hlen : zs.length ≤ 1048576) (hk0 : 0 ≤ k) (hk1 : k ≤ 200000000000000) (ho : w.ownsRow B 2 1 (.slice a zs.length cap) zs.length (zs.map (Value.int .i64))) :
  Calls Tryz.prog 53 #[.slice a zs.length cap, .int .i64 k] w fun e w' =>
   e = .returned (.int .i64 (k + zs.length)) ∧ w'.ownsRow B 2 1 (.slice a zs.length cap) zs.length ((marks k zs.length).map (Value.int .i64)) ∧ Below B w w' ∧ w'.heap.size = w.heap.size ∧ (∀ g, a ≠ some ⟨g, 0, none⟩ → w'.heap[g]? = w.heap[g]?) := by
 go_enter Tryz.func53, Tryz.ntmps53
 go_wp2
 go_loopw [1, 5] (fun x i wr => ∃ j : Nat, j ≤ zs.length ∧ i = .int .i64 j ∧ x = .int .i64 (k + j) ∧ wr.ownsRow B 2 1 (.slice a zs.length cap) zs.length ((marks k j ++ zs.drop j).map (Value.int .i64)) ∧ Below B w wr ∧ wr.heap.size = w.heap.size ∧ (∀ g, a ≠ some ⟨g, 0, none⟩ → wr.heap[g]? = w.heap[g]?))
  (fun _ i _ => zs.length - (intOf i).toNat)
 case atStart => exact ⟨0, Nat.zero_le _, rfl, by simp, by simpa [marks] using ho, Below.refl _ _, rfl, fun _ _ => rfl⟩
 case round =>
  obtain ⟨j, hj, rfl, rfl, hown, hB, hsz, hoth⟩ := hrel
  by_cases hlt : j < zs.length
  ·obtain ⟨g, rfl⟩ : ∃ g, a = some ⟨g, 0, none⟩ := by
    rcases hown.2 with ⟨h, h0⟩ | ⟨g, c, cur, h, _⟩
    ·omega
    ·simp at h; exact ⟨g, h.1⟩
   have hgB : B ≤ g := (hown.lt g rfl).1
   have hdst := hown.cellAt j (by omega)
   have hfr := hown.frozenAt j
   obtain ⟨y, hy⟩ : ∃ y, wr.cell? ⟨g, j, none⟩ = some y := by
    rw [hdst]; exact ⟨_, List.getElem?_eq_getElem (by simp [marks_length]; omega)⟩
   have hst := (hown.stored j (.int .i64 (k + j))).1
   rw [marked hlt] at hst
   have HOTH : Hid (∀ g', some (⟨g, 0, none⟩ : Addr) ≠ some ⟨g', 0, none⟩ → (wr.setCell ⟨g, j, none⟩ (.int .i64 (k + j))).heap[g']? = w.heap[g']?) := fun g' hg' => by
    rw [heap_setCell_other _ _ _ _ (fun h => hg' (by simp at h; rw [h]))]
    exact hoth g' hg'
   clear hdst hown hoth ho
   go_wp2
   go_roundw
   case rel => exact ⟨j + 1, by omega, by go_num, by go_num, hst, hB.setCell hgB _, by rw [World.size_setCell]; exact hsz, HOTH.out⟩
   case measure => simp [intOf]; omega
  ·have hj2 : j = zs.length := by omega
   subst hj2
   have hown2 : Hid (wr.ownsRow B 2 1 (.slice a zs.length cap) zs.length ((marks k zs.length).map (Value.int .i64))) := by
    show World.ownsRow _ _ _ _ _ _ _
    simpa using hown
   have HOTH : Hid (∀ g, a ≠ some ⟨g, 0, none⟩ → wr.heap[g]? = w.heap[g]?) := hoth
   clear hown hoth ho
   go_wp2
   go_ret
   exact ⟨rfl, hown2.out, hB, hsz, HOTH.out⟩
set_option maxHeartbeats 800000 in
theorem held_any (a : Option Addr) (n cap : Nat) (k : Int) (w : World) (hlen : n ≤ 1048576) (hk0 : 0 ≤ k) (hk1 : k ≤ 4194304) (hn : Nums w a (marks k n)) :
  Calls Tryz.prog 56 #[.slice a n cap, .int .i64 k] w fun e w' => e = .returned (.int .i64 (k + n)) ∧ w' = w := by
 go_enter Tryz.func56, Tryz.ntmps56
 go_wp2
 go_loop [1, 5] (fun x i => ∃ j : Nat, j ≤ n ∧ i = .int .i64 j ∧ x = .int .i64 (k + j)) (fun _ i => n - (intOf i).toNat)
 case atStart => exact ⟨0, Nat.zero_le _, rfl, by simp⟩
 case round =>
  obtain ⟨j, hj, rfl, rfl⟩ := hrel
  by_cases hlt : j < n
  ·rcases hn with hn | ⟨b, off, rfl, hc⟩
   ·have := marks_length k n; rw [hn] at this; simp at this; omega
   have hcell := hc j (by rw [marks_length]; exact hlt)
   rw [marks_get k n j hlt] at hcell
   clear hc
   go_wp2
   go_round
   case rel => exact ⟨j + 1, by omega, by go_num, by go_num⟩
   case measure => simp [intOf]; omega
  ·have hj2 : j = n := by omega
   subst hj2
   clear hn
   go_wp2
   go_ret
   exact ⟨rfl, rfl⟩
theorem marks_nums {w : World} {B n cap : Nat} {k : Int} {a : Option Addr} (h : w.ownsRow B 2 1 (.slice a n cap) n ((marks k n).map (Value.int .i64))) : Nums w a (marks k n) :=
 (nums_of_own (B := B) (n := n) (cap := cap) (by unfold Own; rw [marks_length]; exact h)).2
end Go.Proofs.YtepjaoapjpmjkaaGreatDoor
namespace Go.Proofs.YtepjaoapjpmjkaaGreatDoor
open Go.RowKit
set_option linter.unusedVariables false
attribute [local go_sem] bs_size bs_get bs_extract bs_append bs_eq bs_toList
def staN (T : LTree) : Nat := if (chkT T).1.1 = 0 then (cellsL (allL 0 T)).toNat else 0
abbrev scanV (c s : Int) (v o : Value) : Value := .agg #[.int .i64 c, .int .i64 s, v, o]
theorem chk_cells {T : LTree} (h : (chkT T).1.1 = 0) : 0 ≤ cellsL (allL 0 T) ∧ cellsL (allL 0 T) ≤ 60 := ⟨(cellsL_le _ ((good_of (chk_good h).1).sizes 0)).1, (chk_good h).2⟩
theorem four_start (w : World) (vv vn vb a b c d : Value) (T1 T2 : TypeId) : let W := ((w.alloc (.cells #[vv, vn, vb] T1)).alloc (.cells #[a, b, c, d] T2))
  W.heap[w.heap.size]? = some (.cells #[vv, vn, vb] T1 (0, 0)) ∧ W.heap[w.heap.size + 1]? = some (.cells #[a, b, c, d] T2 (0, 0)) ∧ Below w.heap.size w W := by
 intro W
 have hA := heap_alloc_new w (.cells #[vv, vn, vb] T1)
 have hB : Below w.heap.size w (w.alloc (.cells #[vv, vn, vb] T1)) := (Below.refl _ _).alloc (Nat.le_refl _) _
 have hZ : (w.alloc (.cells #[vv, vn, vb] T1)).heap.size = w.heap.size + 1 := by simp
 have hA2 := heap_alloc_new (w.alloc (.cells #[vv, vn, vb] T1)) (.cells #[a, b, c, d] T2)
 have hB2 : Below (w.alloc (.cells #[vv, vn, vb] T1)).heap.size (w.alloc (.cells #[vv, vn, vb] T1)) W := (Below.refl _ _).alloc (Nat.le_refl _) _
 rw [hZ] at hA2
 exact ⟨blk hA hB2, hA2, hB.trans (hB2.mono (by omega))⟩
set_option maxHeartbeats 6400000 in
set_option maxRecDepth 100000 in
theorem specStartState (lo : Nat) (vv vn vb : Value) (T : LTree) (w : World) (h : TreeV lo w vv vn vb T) (hS : Sized 1048576 T) :
  Calls Tryz.prog 16 #[treeV vv vn vb] w fun e w' => ∃ v, e = .returned (scanV (chkT T).1.1 0 v (.slice none 0 0)) ∧ Own w' w.heap.size v (List.replicate (staN T) 0) ∧ Below w.heap.size w w' := by
 obtain ⟨i0, hi, hz0, hz1, hz2⟩ := info_parts infoInt
 have HX : Hid (∀ W, Below w.heap.size w W → W.heap[w.heap.size]? = some (.cells #[vv, vn, vb] 34 (0, 0)) → Calls Tryz.prog 46 #[.pointer (some ⟨w.heap.size, 0, none⟩)] W fun e w' => e = .returned (.agg #[.int .i64 (chkT T).1.1, .int .i64 (chkT T).1.2, .int .i64 (chkT T).2]) ∧ Below W.heap.size W w') := fun W hb hA =>
  l5Tree_any lo w.heap.size vv vn vb T W ⟨cell_of_row _ _ 0 _ _ _ hA, cell_of_row _ _ 1 _ _ _ hA, cell_of_row _ _ 2 _ _ _ hA, h.below hb⟩ hS
 have HAL : Hid ((chkT T).1.1 = 0 → ∀ (W : World), Below w.heap.size w W → W.heap[w.heap.size]? = some (.cells #[vv, vn, vb] 34 (0, 0)) → Calls Tryz.prog 33 #[.pointer (some ⟨w.heap.size, 0, none⟩)] W fun e w2 => ∃ v, e = .returned v ∧ w2.ownsRow W.heap.size 108 4 v (allL 3 T).length (varCells (allL 3 T)) ∧ Below W.heap.size W w2) := fun h0 W hb hA =>
  l5All_any lo w.heap.size vv vn vb T W ⟨cell_of_row _ _ 0 _ _ _ hA, cell_of_row _ _ 1 _ _ _ hA, cell_of_row _ _ 2 _ _ _ hA, h.below hb⟩ (good_of (chk_good h0).1)
 have HCE : Hid ((chkT T).1.1 = 0 → ∀ (ad : Option Addr) (c : Nat) (W : World), RowV W ad (allL 3 T) → Calls Tryz.prog 49 #[.slice ad (allL 3 T).length c] W fun e w' => e = .returned (.int .i64 (cellsL (allL 0 T))) ∧ Below W.heap.size W w') := fun h0 ad c W hr => by
  have g := good_of (chk_good h0).1
  have := l5Cells_any (allL 3 T) ad (allL 3 T).length c W (Nat.le_refl _) hr (g.sizes 3) (g.all_len 3)
  rwa [List.take_length, cells_kind] at this
 have HNN : Hid ((chkT T).1.1 = 0 → 0 ≤ cellsL (allL 0 T) ∧ cellsL (allL 0 T) ≤ 60) := chk_cells
 have HST : Hid (staN T = if (chkT T).1.1 = 0 then (cellsL (allL 0 T)).toNat else 0) := rfl
 obtain ⟨av, cv, rfl, _⟩ := id h.vars
 obtain ⟨an, cn, rfl, _⟩ := id h.nodes
 obtain ⟨ab, cb, rfl, _⟩ := id h.body
 clear h hS
 generalize staN T = N at *
 generalize (chkT T).1.1 = c1 at *
 generalize (chkT T).1.2 = c2 at *
 generalize (chkT T).2 = c3 at *
 generalize cellsL (allL 0 T) = z at *
 go_enter Tryz.func16, Tryz.ntmps16
 go_wp2_with fail
 obtain ⟨hA, hA2, hB⟩ := four_start w (.slice av T.vars.length cv) (.slice an T.nodes.length cn) (.slice ab T.body.length cb) (.int .i64 0) (.int .i64 0) (.slice none 0 0) (.slice none 0 0) 34 47
 generalize ((w.alloc (.cells #[.slice av T.vars.length cv, .slice an T.nodes.length cn, .slice ab T.body.length cb] 34)).alloc (.cells #[.int .i64 0, .int .i64 0, .slice none 0 0, .slice none 0 0] 47)) = W at *
 refine (HX.out _ hB hA).mono ?_
 rintro e w2 ⟨rfl, hb⟩
 have hA1 := blk hA hb
 have hA3 := blk hA2 hb
 have hB2 := hB.trans (hb.mono hB.size)
 have hbx : Below w2.heap.size w2 (w2.alloc (.cells #[.int .i64 c1, .int .i64 c2, .int .i64 c3] 40)) := (Below.refl _ _).alloc (Nat.le_refl _) _
 have HC : Hid ((w2.alloc (.cells #[.int .i64 c1, .int .i64 c2, .int .i64 c3] 40)).heap[w2.heap.size]? = some (.cells #[.int .i64 c1, .int .i64 c2, .int .i64 c3] 40 (0, 0))) := heap_alloc_new w2 _
 have HA : Hid ((w2.alloc (.cells #[.int .i64 c1, .int .i64 c2, .int .i64 c3] 40)).heap[w.heap.size]? = some (.cells #[.slice av T.vars.length cv, .slice an T.nodes.length cn, .slice ab T.body.length cb] 34 (0, 0))) := blk hA1 hbx
 have HR : Hid ((w2.alloc (.cells #[.int .i64 c1, .int .i64 c2, .int .i64 c3] 40)).heap[w.heap.size + 1]? = some (.cells #[.int .i64 0, .int .i64 0, .slice none 0 0, .slice none 0 0] 47 (0, 0))) := blk hA3 hbx
 have HB : Hid (Below w.heap.size w (w2.alloc (.cells #[.int .i64 c1, .int .i64 c2, .int .i64 c3] 40))) := hB2.trans (hbx.mono hB2.size)
 clear hA hA2 hB hb hA1 hA3 hB2 hbx HX
 go_upto_region 2 with fail
 generalize w2.alloc (.cells #[.int .i64 c1, .int .i64 c2, .int .i64 c3] 40) = W2 at *
 generalize w2.heap.size = g2 at *
 have k0 := cell_of_row _ _ 0 _ _ _ HC.out
 simp at k0
 by_cases hc : c1 = 0
 ·subst hc
  have HAL2 := HAL.out rfl
  have HCE2 := HCE.out rfl
  have HN0 : Hid (0 ≤ z ∧ z ≤ 60) := HNN.out rfl
  have HSN : Hid (N = z.toNat) := by unfold Hid; rw [HST.out, if_pos rfl]
  clear HAL HCE HNN HST
  have HAL : Hid _ := HAL2
  have HCE : Hid _ := HCE2
  clear HAL2 HCE2
  obtain ⟨n, hn⟩ : ∃ n : Nat, z = n := ⟨z.toNat, by have := HN0.out; omega⟩
  have HN1 : Hid (n ≤ 60 ∧ N = n) := ⟨by have := HN0.out.2; omega, by rw [HSN.out, hn]; rfl⟩
  subst hn
  clear HN0 HSN
  go_wp2_with fail
  refine (HAL.out _ HB.out HA.out).mono ?_
  rintro e w4 ⟨v, rfl, hown, hb⟩
  obtain ⟨ad, cp, rfl⟩ := rowE_shape hown
  have HRV : Hid (RowV w4 ad (allL 3 T)) := RowV.of_own hown rfl
  have HR4 : Hid (w4.heap[w.heap.size + 1]? = some (.cells #[.int .i64 0, .int .i64 0, .slice none 0 0, .slice none 0 0] 47 (0, 0))) := blk HR.out hb
  have HB4 : Hid (Below w.heap.size w w4) := HB.out.trans (hb.mono HB.out.size)
  clear hown hb HA HR HB HC k0 HAL
  go_wp2_with fail
  refine (HCE.out _ _ _ HRV.out).mono ?_
  rintro e w5 ⟨rfl, hb⟩
  have HR5 : Hid (w5.heap[w.heap.size + 1]? = some (.cells #[.int .i64 0, .int .i64 0, .slice none 0 0, .slice none 0 0] 47 (0, 0))) := blk HR4.out hb
  have HB5 : Hid (Below w.heap.size w w5) := HB4.out.trans (hb.mono HB4.out.size)
  have hmax : n ≤ maxLen := by have := HN1.out.1; unfold maxLen; omega
  clear hb HR4 HB4 HCE HRV
  go_wp2_with (at_make; refine wpList_make_full _ rfl (.tmp 12) (.tmp 12) 24 rfl w5.heap.size 2 i0 (.int .i64 0) 1 Tryz.underlying24 hi hz0 hz1 .i64 .i64 n n n rfl rfl rfl rfl ?_ hmax (Nat.le_refl _) ?_)
  ·rw [hz2]; have := HN1.out.1; omega
  ·intro w6 hown hgrow
   have hb : Below w5.heap.size w5 w6 := (Below.refl _ _).grown hgrow (Nat.le_refl _) (fun k hk => by cases hk)
   have hR6 := blk HR5.out hb
   have HB6 : Hid (Below w.heap.size w w6) := HB5.out.trans (hb.mono HB5.out.size)
   obtain ⟨r0, r1, r2, r3⟩ := cl4 hR6
   obtain ⟨f0, f1, f2, f3⟩ := fl4 hR6
   have HO6 : Hid (w6.ownsRow w5.heap.size 2 1 (.slice (some ⟨w5.heap.size, 0, none⟩) n n) n ((List.replicate n (0 : Int)).map (Value.int .i64))) := by
    rw [toList_madeCells_one] at hown
    unfold Hid
    rw [List.map_replicate]
    exact hown
   have hg1 : w.heap.size + 1 < w5.heap.size := blk_lt HR5.out
   have HG1 := hid hg1
   clear hown hgrow hb hR6 HR5 HB5 hg1 hi hz0 hz1 hz2
   generalize w5.heap.size = g5 at *
   go_wp2_with fail
   refine bodyPost_ret (v := scanV 0 0 (.slice (some ⟨g5, 0, none⟩) n n) (.slice none 0 0)) (by simp [results, Tryz.results16, go_sem, r0, r1, r2, r3]) rfl ⟨_, rfl, ?_, (((HB6.out.setCell (by simp) _).setCell (by simp) _).setCell (by simp) _).setCell (by simp) _⟩
   rw [HN1.out.2]
   unfold Own
   rw [List.length_replicate]
   have hg := HG1.out
   exact own_mono (ownsRow_setCell_below (ownsRow_setCell_below (ownsRow_setCell_below (ownsRow_setCell_below HO6.out (a := ⟨w.heap.size + 1, 0, none⟩) hg _) (a := ⟨w.heap.size + 1, 1, none⟩) hg _) (a := ⟨w.heap.size + 1, 2, none⟩) hg _) (a := ⟨w.heap.size + 1, 3, none⟩) hg _) (by omega)
 ·have hz1' : (c1 == 0) = false := by simpa using hc
  have hz2' : decide (c1 = 0) = false := decide_eq_false hc
  have HSN : Hid (N = 0) := by unfold Hid; rw [HST.out, if_neg hc]
  obtain ⟨r0, r1, r2, r3⟩ := cl4 HR.out
  obtain ⟨f0, f1, f2, f3⟩ := fl4 HR.out
  clear HAL HCE HNN HST hi hz0 hz1 hz2
  go_wp2_with fail
  refine bodyPost_ret (v := scanV c1 0 (.slice none 0 0) (.slice none 0 0)) (by simp [results, Tryz.results16, go_sem, r0, r1, r2, r3]) rfl ⟨_, rfl, ?_, (((HB.out.setCell (by simp) _).setCell (by simp) _).setCell (by simp) _).setCell (by simp) _⟩
  rw [HSN.out]
  exact World.ownsRow_nil _ _ _ _
end Go.Proofs.YtepjaoapjpmjkaaGreatDoor
