/-
  laws.toTree: a tree in memory of its own.
-/
import Derived.Test.YteeklmgkhacbcaaGreatDoorTF2
namespace Go.Proofs.YteeklmgkhacbcaaGreatDoor
open Go.RowKit
set_option linter.unusedVariables false
attribute [local go_sem] bs_size bs_get bs_extract bs_append bs_eq bs_toList
structure NodesLaidF (w : World) (g n k : Nat) (T : TypeId) (xs : List LNode) : Prop where
 row : ∃ cur : Array Value, w.heap[g]? = some (.cells cur T (0, 0)) ∧ cur.size = n * 8
 at_ : ∀ j x, j < k → xs[j]? = some x → NodeAtF (g + 1) w g (j * 8) x
theorem NodesLaidF.lt {w : World} {g n k : Nat} {T : TypeId} {xs : List LNode} (h : NodesLaidF w g n k T xs) : g < w.heap.size := by obtain ⟨cur, h1, _⟩ := h.row; exact blk_lt h1
theorem NodesLaidF.below {w w' : World} {g n k : Nat} {T : TypeId} {xs : List LNode} (h : NodesLaidF w g n k T xs) (hb : Below w.heap.size w w') : NodesLaidF w' g n k T xs := by
 obtain ⟨cur, h1, h2⟩ := h.row
 refine ⟨⟨cur, blk h1 hb, h2⟩, fun j x hj hx => ?_⟩
 obtain ⟨vk, vt, ve, hc, hv⟩ := h.at_ j x hj hx
 exact ⟨vk, vt, ve, hc.keep (lo := g) (.of_below hb) (Nat.le_refl _), hv.below hb⟩
theorem NodesLaidF.cell {w : World} {g n k i : Nat} {T : TypeId} {xs : List LNode} (h : NodesLaidF w g n k T xs) (hi : i < n * 8) : (∃ y, w.cell? ⟨g, i, none⟩ = some y) ∧ w.frozen? ⟨g, i, none⟩ = false := by
 obtain ⟨cur, h1, h2⟩ := h.row
 refine ⟨⟨cur[i]'(by omega), ?_⟩, frozen_of_row _ _ _ _ _ h1⟩
 rw [cell_of_row _ _ _ _ _ _ h1]
 exact Array.getElem?_eq_getElem (by omega)
theorem NodesLaidF.of_own {w : World} {g n B : Nat} {T : TypeId} {xs : List LNode} {ys : List Value} (h : w.ownsRow B T 8 (.slice (some ⟨g, 0, none⟩) n n) n ys) : NodesLaidF w g n 0 T xs := by
 refine ⟨?_, fun j x hj => absurd hj (by omega)⟩
 rcases h.2 with ⟨h, _⟩ | ⟨g', c, cur, h, _, hh, _, _, hs, _⟩
 ·simp at h
 ·simp at h
  obtain ⟨rfl, rfl⟩ := h
  exact ⟨cur, hh, hs⟩
theorem NodesLaidF.set {w : World} {g n k i : Nat} {T : TypeId} {xs : List LNode} (h : NodesLaidF w g n k T xs) (hi : k * 8 ≤ i) (u : Value) : NodesLaidF (w.setCell ⟨g, i, none⟩ u) g n k T xs := by
 obtain ⟨cur, h1, h2⟩ := h.row
 refine ⟨⟨cur.setIfInBounds i u, heap_setCell_same w g i _ _ _ h1, by simpa using h2⟩, fun j x hj hx => ?_⟩
 obtain ⟨vk, vt, ve, hc, hv⟩ := h.at_ j x hj hx
 have o : ∀ t, t < 8 → (w.setCell ⟨g, i, none⟩ u).cell? ⟨g, j * 8 + t, none⟩ = w.cell? ⟨g, j * 8 + t, none⟩ := fun t ht => World.cell?_setCell_other _ _ _ _ (fun e => by have := congrArg Addr.off e; simp only at this; omega)
 have o0 := o 0 (by omega)
 rw [Nat.add_zero] at o0
 exact ⟨vk, vt, ve, ⟨o0.trans hc.c0, (o 1 (by omega)).trans hc.c1, (o 2 (by omega)).trans hc.c2, (o 3 (by omega)).trans hc.c3, (o 4 (by omega)).trans hc.c4, (o 5 (by omega)).trans hc.c5, (o 6 (by omega)).trans hc.c6, (o 7 (by omega)).trans hc.c7⟩, hv.set (by omega)⟩
theorem NodesLaidF.store8 {w : World} {g n k : Nat} {T : TypeId} {xs : List LNode} {x : LNode} {vk vt ve : Value} (h : NodesLaidF w g n k T xs) (hk : k < n) (hx : xs[k]? = some x) (hv : NodeValsF (g + 1) w x vk vt ve) :
  NodesLaidF (stored8 w g (k * 8) (.int .i64 x.kind) (.int .i64 x.op) (.string (bs x.name)) (.int .i64 x.num) (.int .i64 x.far) vk vt ve) g n (k + 1) T xs := by
 have c : ∀ t, t < 8 → ∃ y, w.cell? ⟨g, k * 8 + t, none⟩ = some y := fun t ht => (h.cell (by omega)).1
 obtain ⟨y0, c0⟩ := c 0 (by omega)
 obtain ⟨y1, c1⟩ := c 1 (by omega)
 obtain ⟨y2, c2⟩ := c 2 (by omega)
 obtain ⟨y3, c3⟩ := c 3 (by omega)
 obtain ⟨y4, c4⟩ := c 4 (by omega)
 obtain ⟨y5, c5⟩ := c 5 (by omega)
 obtain ⟨y6, c6⟩ := c 6 (by omega)
 obtain ⟨y7, c7⟩ := c 7 (by omega)
 rw [Nat.add_zero] at c0
 have hs := (((((((h.set (i := k * 8) (by omega) (.int .i64 x.kind)).set (i := k * 8 + 1) (by omega) (.int .i64 x.op)).set (i := k * 8 + 2) (by omega) (.string (bs x.name))).set (i := k * 8 + 3) (by omega) (.int .i64 x.num)).set (i := k * 8 + 4) (by omega) (.int .i64 x.far)).set (i := k * 8 + 5) (by omega) vk).set (i := k * 8 + 6) (by omega) vt).set (i := k * 8 + 7) (by omega) ve
 refine ⟨hs.row, fun j z hj hz => ?_⟩
 by_cases e : j = k
 ·subst e
  obtain rfl : z = x := by rw [hx] at hz; exact (Option.some.inj hz).symm
  unfold stored8
  refine ⟨vk, vt, ve, ⟨?_, ?_, ?_, ?_, ?_, ?_, ?_, ?_⟩, ?_⟩
  ·refine set_old ?_ (by omega); refine set_old ?_ (by omega); refine set_old ?_ (by omega); refine set_old ?_ (by omega); refine set_old ?_ (by omega); refine set_old ?_ (by omega); refine set_old ?_ (by omega); refine set_get (y := y0) ?_; exact c0
  ·refine set_old ?_ (by omega); refine set_old ?_ (by omega); refine set_old ?_ (by omega); refine set_old ?_ (by omega); refine set_old ?_ (by omega); refine set_old ?_ (by omega); refine set_get (y := y1) ?_; refine set_old ?_ (by omega); exact c1
  ·refine set_old ?_ (by omega); refine set_old ?_ (by omega); refine set_old ?_ (by omega); refine set_old ?_ (by omega); refine set_old ?_ (by omega); refine set_get (y := y2) ?_; refine set_old ?_ (by omega); refine set_old ?_ (by omega); exact c2
  ·refine set_old ?_ (by omega); refine set_old ?_ (by omega); refine set_old ?_ (by omega); refine set_old ?_ (by omega); refine set_get (y := y3) ?_; refine set_old ?_ (by omega); refine set_old ?_ (by omega); refine set_old ?_ (by omega); exact c3
  ·refine set_old ?_ (by omega); refine set_old ?_ (by omega); refine set_old ?_ (by omega); refine set_get (y := y4) ?_; refine set_old ?_ (by omega); refine set_old ?_ (by omega); refine set_old ?_ (by omega); refine set_old ?_ (by omega); exact c4
  ·refine set_old ?_ (by omega); refine set_old ?_ (by omega); refine set_get (y := y5) ?_; refine set_old ?_ (by omega); refine set_old ?_ (by omega); refine set_old ?_ (by omega); refine set_old ?_ (by omega); refine set_old ?_ (by omega); exact c5
  ·refine set_old ?_ (by omega); refine set_get (y := y6) ?_; refine set_old ?_ (by omega); refine set_old ?_ (by omega); refine set_old ?_ (by omega); refine set_old ?_ (by omega); refine set_old ?_ (by omega); refine set_old ?_ (by omega); exact c6
  ·refine set_get (y := y7) ?_; refine set_old ?_ (by omega); refine set_old ?_ (by omega); refine set_old ?_ (by omega); refine set_old ?_ (by omega); refine set_old ?_ (by omega); refine set_old ?_ (by omega); refine set_old ?_ (by omega); exact c7
  ·iterate 8 refine NodeValsF.set ?_ (by omega)
   exact hv
 ·exact hs.at_ j z (by omega) hz
theorem nodes_of_laidF {w : World} {g n : Nat} {xs : List LNode} (h : NodesLaidF w g n n 88 xs) (hn : xs.length = n) : NodesF g w (.slice (some ⟨g, 0, none⟩) n n) xs := by
 obtain ⟨cur, h1, h2⟩ := h.row
 exact ⟨some ⟨g, 0, none⟩, n, by rw [hn], by omega, fun _ => ⟨g, 0, rfl, Nat.le_refl _, ⟨cur, h1, by omega⟩, fun i x hx => by
  have hi : i < n := by have := (List.getElem?_eq_some_iff.1 hx).1; omega
  rw [Nat.zero_add]
  exact (h.at_ i x hi hx).mono (by omega)⟩⟩
set_option maxHeartbeats 6400000 in
set_option maxRecDepth 100000 in
theorem toNodesF_any (lo : Nat) (v : Value) (xs : List LNode) (w : World) (h : NodesV lo w v xs) (hl : xs.length ≤ 1048576) (hz : ∀ n ∈ xs, n.kids.length ≤ 1048576 ∧ n.thn.length ≤ 1048576 ∧ n.els.length ≤ 1048576) :
  Calls Tryz.prog 29 #[v] w fun e w' => ∃ v', e = .returned v' ∧ NodesF w.heap.size w' v' xs ∧ Below w.heap.size w w' := by
 obtain ⟨a, c, rfl, hc, hhd⟩ := h
 obtain ⟨i0, hi, hz0, hz1, hz2⟩ := info_parts infoNode
 have hmax2 : xs.length ≤ maxLen := by unfold maxLen; omega
 have HHD : Hid (xs ≠ [] → ∃ b o, a = some ⟨b, o, none⟩ ∧ lo ≤ b ∧ ∀ (i : Nat) (x : LNode), xs[i]? = some x → NodeAt lo w b (o + i * 8) x) := hhd
 have HZ : Hid (∀ n ∈ xs, n.kids.length ≤ 1048576 ∧ n.thn.length ≤ 1048576 ∧ n.els.length ≤ 1048576) := hz
 clear hhd hc hz
 go_enter Tryz.func29, Tryz.ntmps29
 go_wp2_with (at_make; refine wpList_make_full _ rfl (.tmp 6) (.tmp 6) 35 rfl w.heap.size 88 i0 nodeZ 8 Tryz.underlying35 hi hz0 hz1 .i64 .i64 xs.length xs.length xs.length rfl rfl rfl rfl ?_ hmax2 (Nat.le_refl _) ?_)
 ·rw [hz2]; omega
 ·intro w1 hown hgrow
  have hB : Below w.heap.size w w1 := (Below.refl _ _).grown hgrow (Nat.le_refl _) (fun k hk => by cases hk)
  have hP : NodesLaidF w1 w.heap.size xs.length 0 88 xs := .of_own hown
  clear hgrow hown
  go_wp2
  go_loopw [4] (fun i wr => ∃ k : Nat, k ≤ xs.length ∧ i = .int .i64 k ∧ NodesLaidF wr w.heap.size xs.length k 88 xs ∧ Below w.heap.size w wr) (fun i _ => xs.length - (intOf i).toNat)
  case atStart => exact ⟨0, Nat.zero_le _, rfl, hP, hB⟩
  case round =>
   clear hP hB
   obtain ⟨k, hk, rfl, hP, hB⟩ := hrel
   have hgl : w.heap.size < wr.heap.size := hP.lt
   by_cases hlt : k < xs.length
   ·obtain ⟨x, hx⟩ : ∃ x, xs[k]? = some x := ⟨xs[k], List.getElem?_eq_getElem hlt⟩
    obtain ⟨b, o, ha, _, hcl⟩ := HHD.out (by intro e; rw [e] at hlt; simp at hlt)
    subst ha
    obtain ⟨vk, vt, ve, hcs, hvs⟩ := hcl k x hx
    have hbl : b < w.heap.size := World.block_lt_of_cell? _ _ hcs.c0
    obtain ⟨c0, c1, c2, c3, c4, c5, c6, c7⟩ := hcs.keep (lo := 0) (fun g _ hg => hB.block g hg) (Nat.zero_le _)
    have hvs1 := hvs.keep (w' := wr) (fun g _ hg => hB.block g hg)
    obtain ⟨z1, z2, z3⟩ := HZ.out x (List.mem_of_getElem? hx)
    have hto : Hid (Calls Tryz.prog 49 #[nodeV x vk vt ve] wr fun e w' => ∃ vk' vt' ve', e = .returned (nodeV x vk' vt' ve') ∧ NodeValsF wr.heap.size w' x vk' vt' ve' ∧ Below wr.heap.size wr w') := toNodeF_any lo x vk vt ve wr hvs1 z1 z2 z3
    have HP : Hid (NodesLaidF wr w.heap.size xs.length k 88 xs) := hP
    have HX : Hid (xs[k]? = some x) := hx
    obtain ⟨ak, ck, rfl, _⟩ := id hvs1.kids
    obtain ⟨at_, ct, rfl, _⟩ := id hvs1.thn
    obtain ⟨ae, ce, rfl, _⟩ := id hvs1.els
    clear hcl hx hP hcs hvs hvs1 z1 z2 z3
    go_wp2_with fail
    refine hto.out.mono ?_
    rintro e w2 ⟨_, _, _, rfl, hv, hb⟩
    obtain ⟨ak', ck', rfl, _⟩ := id hv.kids
    obtain ⟨at', ct', rfl, _⟩ := id hv.thn
    obtain ⟨ae', ce', rfl, _⟩ := id hv.els
    have hP2 := HP.out.below hb
    have hB2 := hB.trans (hb.mono hB.size)
    have hgl2 : w.heap.size < w2.heap.size := Nat.lt_of_lt_of_le hgl hb.size
    obtain ⟨⟨y0, d0⟩, f0⟩ := hP2.cell (i := k * 8) (by omega)
    obtain ⟨⟨y1, d1⟩, f1⟩ := hP2.cell (i := k * 8 + 1) (by omega)
    obtain ⟨⟨y2, d2⟩, f2⟩ := hP2.cell (i := k * 8 + 2) (by omega)
    obtain ⟨⟨y3, d3⟩, f3⟩ := hP2.cell (i := k * 8 + 3) (by omega)
    obtain ⟨⟨y4, d4⟩, f4⟩ := hP2.cell (i := k * 8 + 4) (by omega)
    obtain ⟨⟨y5, d5⟩, f5⟩ := hP2.cell (i := k * 8 + 5) (by omega)
    obtain ⟨⟨y6, d6⟩, f6⟩ := hP2.cell (i := k * 8 + 6) (by omega)
    obtain ⟨⟨y7, d7⟩, f7⟩ := hP2.cell (i := k * 8 + 7) (by omega)
    have E3 : Hid (NodesLaidF (stored8 w2 w.heap.size (k * 8) (.int .i64 x.kind) (.int .i64 x.op) (.string (bs x.name)) (.int .i64 x.num) (.int .i64 x.far) (.slice ak' x.kids.length ck') (.slice at' x.thn.length ct') (.slice ae' x.els.length ce')) w.heap.size xs.length (k + 1) 88 xs) := hP2.store8 hlt HX.out (hv.mono hgl)
    have B3 : Hid (Below w.heap.size w (stored8 w2 w.heap.size (k * 8) (.int .i64 x.kind) (.int .i64 x.op) (.string (bs x.name)) (.int .i64 x.num) (.int .i64 x.far) (.slice ak' x.kids.length ck') (.slice at' x.thn.length ct') (.slice ae' x.els.length ce'))) := below_stored8 hB2 (Nat.le_refl _)
    clear hP2 hb hB hB2 HP c0 c1 c2 c3 c4 c5 c6 c7 hto hv
    go_wp2_with fail
    go_roundw
    case rel => exact ⟨k + 1, by omega, by go_num, E3.out, B3.out⟩
    case measure => simp [intOf]; omega
   ·have hke : k = xs.length := by omega
    subst hke
    have HP : Hid (NodesF w.heap.size wr (.slice (some ⟨w.heap.size, 0, none⟩) xs.length xs.length) xs) := nodes_of_laidF hP rfl
    clear hP
    go_wp2
    go_ret
    exact ⟨_, rfl, HP.out, hB⟩
set_option maxHeartbeats 6400000 in
set_option maxRecDepth 100000 in
theorem toTreeF_any (lo : Nat) (T : LTree) (vv vn vb : Value) (w : World) (h : TreeV lo w vv vn vb T) (hz : Sized 1048576 T) :
  Calls Tryz.prog 8 #[treeV vv vn vb] w fun e w' => ∃ vv' vn' vb', e = .returned (treeV vv' vn' vb') ∧ TreeF w.heap.size w' vv' vn' vb' T ∧ Below w.heap.size w w' := by
 obtain ⟨av, cv, rfl, _⟩ := id h.vars
 obtain ⟨an, cn, rfl, _⟩ := id h.nodes
 obtain ⟨ab, cb, rfl, _⟩ := id h.body
 have HV : Hid (TreeV lo w (.slice av T.vars.length cv) (.slice an T.nodes.length cn) (.slice ab T.body.length cb) T) := h
 have HZ : Hid (Sized 1048576 T) := hz
 clear h hz
 go_enter Tryz.func8, Tryz.ntmps8
 go_wp2_with fail
 obtain ⟨W, hW⟩ : ∃ W, W = (((w.alloc (.cells #[.slice av T.vars.length cv, .slice an T.nodes.length cn, .slice ab T.body.length cb] 26)).alloc (.cells #[.slice none 0 0, .slice none 0 0, .slice none 0 0] 37)).alloc (.cells #[.slice none 0 0, .slice none 0 0, .slice none 0 0] 37)) := ⟨_, rfl⟩
 have hbW : Below w.heap.size w W := by rw [hW]; exact (((Below.refl _ _).alloc (Nat.le_refl _) _).alloc (by simp) _).alloc (by simp; omega) _
 have hA : W.heap[w.heap.size]? = some (.cells #[.slice av T.vars.length cv, .slice an T.nodes.length cn, .slice ab T.body.length cb] 26 (0, 0)) := by
  rw [hW, Below.heap_alloc _ _ _ (by simp; omega), Below.heap_alloc _ _ _ (by simp)]; exact heap_alloc_new w _
 have hR : W.heap[w.heap.size + 1]? = some (.cells #[.slice none 0 0, .slice none 0 0, .slice none 0 0] 37 (0, 0)) := by
  rw [hW, Below.heap_alloc _ _ _ (by simp)]
  have h := heap_alloc_new (w.alloc (.cells #[.slice av T.vars.length cv, .slice an T.nodes.length cn, .slice ab T.body.length cb] 26)) (.cells #[.slice none 0 0, .slice none 0 0, .slice none 0 0] 37)
  rwa [show (w.alloc (.cells #[.slice av T.vars.length cv, .slice an T.nodes.length cn, .slice ab T.body.length cb] 26)).heap.size = w.heap.size + 1 from by simp] at h
 have hO : W.heap[w.heap.size + 1 + 1]? = some (.cells #[.slice none 0 0, .slice none 0 0, .slice none 0 0] 37 (0, 0)) := by
  rw [hW]
  have h := heap_alloc_new ((w.alloc (.cells #[.slice av T.vars.length cv, .slice an T.nodes.length cn, .slice ab T.body.length cb] 26)).alloc (.cells #[.slice none 0 0, .slice none 0 0, .slice none 0 0] 37)) (.cells #[.slice none 0 0, .slice none 0 0, .slice none 0 0] 37)
  rwa [show ((w.alloc (.cells #[.slice av T.vars.length cv, .slice an T.nodes.length cn, .slice ab T.body.length cb] 26)).alloc (.cells #[.slice none 0 0, .slice none 0 0, .slice none 0 0] 37)).heap.size = w.heap.size + 1 + 1 from by simp] at h
 rw [← hW]
 clear hW
 refine (toVarsF_any lo _ _ _ (HV.out.below hbW).vars HZ.out.vars).mono ?_
 rintro e wv ⟨_, rfl, hv, hb⟩
 obtain ⟨av', cv', rfl, _⟩ := id hv
 have hbC := hbW.trans (hb.mono hbW.size)
 have hAc := blk hA hb
 have hRc := blk hR hb
 have hOc := blk hO hb
 have hv1 : VarsF (w.heap.size + 3) wv (.slice av' T.vars.length cv') T.vars := hv.mono (blk_lt hO)
 have HA : Hid ((wv.setCell ⟨w.heap.size + 1 + 1, 0, none⟩ (.slice av' T.vars.length cv')).heap[w.heap.size]? = some (.cells #[.slice av T.vars.length cv, .slice an T.nodes.length cn, .slice ab T.body.length cb] 26 (0, 0))) := blk_set _ hAc (by omega)
 have HR : Hid ((wv.setCell ⟨w.heap.size + 1 + 1, 0, none⟩ (.slice av' T.vars.length cv')).heap[w.heap.size + 1]? = some (.cells #[.slice none 0 0, .slice none 0 0, .slice none 0 0] 37 (0, 0))) := blk_set _ hRc (by omega)
 have HO : Hid ((wv.setCell ⟨w.heap.size + 1 + 1, 0, none⟩ (.slice av' T.vars.length cv')).heap[w.heap.size + 1 + 1]? = some (.cells #[.slice av' T.vars.length cv', .slice none 0 0, .slice none 0 0] 37 (0, 0))) := by have h := heap_setCell_same wv (w.heap.size + 1 + 1) 0 _ _ (.slice av' T.vars.length cv') hOc; exact h
 have HB : Hid (Below w.heap.size w (wv.setCell ⟨w.heap.size + 1 + 1, 0, none⟩ (.slice av' T.vars.length cv'))) := hbC.trans (below_set _ _ _ _ (by omega))
 have o0 := cell_of_row _ _ 0 _ _ _ hOc
 have g0 := frozen_of_row _ _ 0 _ _ hOc
 simp at o0
 have b1 := cell_of_row _ _ 1 _ _ _ HA.out
 simp at b1
 have Hv : Hid (VarsF (w.heap.size + 3) (wv.setCell ⟨w.heap.size + 1 + 1, 0, none⟩ (.slice av' T.vars.length cv')) (.slice av' T.vars.length cv') T.vars) := hv1.keep (keeps_set _ _ _ _ _ (by omega))
 clear hA hR hO hbW hb hbC hAc hRc hOc hv hv1
 go_wp2_with fail
 have hA := HA.out
 have hR := HR.out
 have hO := HO.out
 have hbW := HB.out
 have hvS := Hv.out
 clear HA HR HO HB Hv b1 o0 g0
 generalize wv.setCell ⟨w.heap.size + 1 + 1, 0, none⟩ (.slice av' T.vars.length cv') = W at *
 refine (toNodesF_any lo _ _ _ (HV.out.below hbW).nodes HZ.out.nodes (fun n hn => (HZ.out.node n hn).2)).mono ?_
 rintro e wn ⟨_, rfl, hn, hb⟩
 obtain ⟨an', cn', rfl, _⟩ := id hn
 have hbC := hbW.trans (hb.mono hbW.size)
 have hAc := blk hA hb
 have hRc := blk hR hb
 have hOc := blk hO hb
 have hn1 : NodesF (w.heap.size + 3) wn (.slice an' T.nodes.length cn') T.nodes := hn.mono (blk_lt hO)
 have hvC := hvS.below hb
 have HA : Hid ((wn.setCell ⟨w.heap.size + 1 + 1, 1, none⟩ (.slice an' T.nodes.length cn')).heap[w.heap.size]? = some (.cells #[.slice av T.vars.length cv, .slice an T.nodes.length cn, .slice ab T.body.length cb] 26 (0, 0))) := blk_set _ hAc (by omega)
 have HR : Hid ((wn.setCell ⟨w.heap.size + 1 + 1, 1, none⟩ (.slice an' T.nodes.length cn')).heap[w.heap.size + 1]? = some (.cells #[.slice none 0 0, .slice none 0 0, .slice none 0 0] 37 (0, 0))) := blk_set _ hRc (by omega)
 have HO : Hid ((wn.setCell ⟨w.heap.size + 1 + 1, 1, none⟩ (.slice an' T.nodes.length cn')).heap[w.heap.size + 1 + 1]? = some (.cells #[.slice av' T.vars.length cv', .slice an' T.nodes.length cn', .slice none 0 0] 37 (0, 0))) := by have h := heap_setCell_same wn (w.heap.size + 1 + 1) 1 _ _ (.slice an' T.nodes.length cn') hOc; exact h
 have HB : Hid (Below w.heap.size w (wn.setCell ⟨w.heap.size + 1 + 1, 1, none⟩ (.slice an' T.nodes.length cn'))) := hbC.trans (below_set _ _ _ _ (by omega))
 have o1 := cell_of_row _ _ 1 _ _ _ hOc
 have g1 := frozen_of_row _ _ 1 _ _ hOc
 simp at o1
 have b2 := cell_of_row _ _ 2 _ _ _ HA.out
 simp at b2
 have Hv : Hid (VarsF (w.heap.size + 3) (wn.setCell ⟨w.heap.size + 1 + 1, 1, none⟩ (.slice an' T.nodes.length cn')) (.slice av' T.vars.length cv') T.vars) := hvC.keep (keeps_set _ _ _ _ _ (by omega))
 have Hn : Hid (NodesF (w.heap.size + 3) (wn.setCell ⟨w.heap.size + 1 + 1, 1, none⟩ (.slice an' T.nodes.length cn')) (.slice an' T.nodes.length cn') T.nodes) := hn1.keep (keeps_set _ _ _ _ _ (by omega))
 clear hA hR hO hbW hb hbC hAc hRc hOc hn hn1 hvS hvC
 go_wp2_with fail
 have hA := HA.out
 have hR := HR.out
 have hO := HO.out
 have hbW := HB.out
 have hvS := Hv.out
 have hnS := Hn.out
 clear HA HR HO HB Hv Hn b2 o1 g1
 generalize wn.setCell ⟨w.heap.size + 1 + 1, 1, none⟩ (.slice an' T.nodes.length cn') = W at *
 refine (toIntsF_any lo _ _ _ (HV.out.below hbW).body HZ.out.body).mono ?_
 rintro e wd ⟨_, rfl, hd, hb⟩
 obtain ⟨ad', cd', rfl, _⟩ := id hd
 have hbC := hbW.trans (hb.mono hbW.size)
 have hAc := blk hA hb
 have hRc := blk hR hb
 have hOc := blk hO hb
 have hd1 : IntsF (w.heap.size + 3) wd (.slice ad' T.body.length cd') T.body := hd.mono (blk_lt hO)
 have hvC := hvS.below hb
 have hnC := hnS.below hb
 have HA : Hid ((wd.setCell ⟨w.heap.size + 1 + 1, 2, none⟩ (.slice ad' T.body.length cd')).heap[w.heap.size]? = some (.cells #[.slice av T.vars.length cv, .slice an T.nodes.length cn, .slice ab T.body.length cb] 26 (0, 0))) := blk_set _ hAc (by omega)
 have HR : Hid ((wd.setCell ⟨w.heap.size + 1 + 1, 2, none⟩ (.slice ad' T.body.length cd')).heap[w.heap.size + 1]? = some (.cells #[.slice none 0 0, .slice none 0 0, .slice none 0 0] 37 (0, 0))) := blk_set _ hRc (by omega)
 have HO : Hid ((wd.setCell ⟨w.heap.size + 1 + 1, 2, none⟩ (.slice ad' T.body.length cd')).heap[w.heap.size + 1 + 1]? = some (.cells #[.slice av' T.vars.length cv', .slice an' T.nodes.length cn', .slice ad' T.body.length cd'] 37 (0, 0))) := by have h := heap_setCell_same wd (w.heap.size + 1 + 1) 2 _ _ (.slice ad' T.body.length cd') hOc; exact h
 have HB : Hid (Below w.heap.size w (wd.setCell ⟨w.heap.size + 1 + 1, 2, none⟩ (.slice ad' T.body.length cd'))) := hbC.trans (below_set _ _ _ _ (by omega))
 have o2 := cell_of_row _ _ 2 _ _ _ hOc
 have g2 := frozen_of_row _ _ 2 _ _ hOc
 simp at o2
 have Hv : Hid (VarsF (w.heap.size + 3) (wd.setCell ⟨w.heap.size + 1 + 1, 2, none⟩ (.slice ad' T.body.length cd')) (.slice av' T.vars.length cv') T.vars) := hvC.keep (keeps_set _ _ _ _ _ (by omega))
 have Hn : Hid (NodesF (w.heap.size + 3) (wd.setCell ⟨w.heap.size + 1 + 1, 2, none⟩ (.slice ad' T.body.length cd')) (.slice an' T.nodes.length cn') T.nodes) := hnC.keep (keeps_set _ _ _ _ _ (by omega))
 have Hd : Hid (IntsF (w.heap.size + 3) (wd.setCell ⟨w.heap.size + 1 + 1, 2, none⟩ (.slice ad' T.body.length cd')) (.slice ad' T.body.length cd') T.body) := hd1.keep (keeps_set _ _ _ _ _ (by omega))
 clear hA hR hO hbW hb hbC hAc hRc hOc hd hd1 hvS hvC hnS hnC
 have O0 := cell_of_row _ _ 0 _ _ _ HO.out
 have O1 := cell_of_row _ _ 1 _ _ _ HO.out
 have O2 := cell_of_row _ _ 2 _ _ _ HO.out
 have R0 := cell_of_row _ _ 0 _ _ _ HR.out
 have R1 := cell_of_row _ _ 1 _ _ _ HR.out
 have R2 := cell_of_row _ _ 2 _ _ _ HR.out
 have G0 := frozen_of_row _ _ 0 _ _ HR.out
 have G1 := frozen_of_row _ _ 1 _ _ HR.out
 have G2 := frozen_of_row _ _ 2 _ _ HR.out
 simp at O0 O1 O2 R0 R1 R2
 go_wp2
 refine bodyPost_ret (v := treeV (.slice av' T.vars.length cv') (.slice an' T.nodes.length cn') (.slice ad' T.body.length cd')) (by simp [results, Tryz.results8, go_sem, R0, R1, R2]) rfl ⟨_, _, _, rfl, ?_, ?_⟩
 ·refine TreeF.mono ?_ (by omega : w.heap.size ≤ w.heap.size + 3)
  refine TreeF.keep ⟨Hv.out, Hn.out, Hd.out⟩ (fun b hb hl => ?_)
  rw [Below.heap_setCell _ _ _ _ (by simp; omega), Below.heap_setCell _ _ _ _ (by simp; omega), Below.heap_setCell _ _ _ _ (by simp; omega)]
 ·refine Below.trans ?_ (below_set _ _ _ _ (by omega))
  refine Below.trans ?_ (below_set _ _ _ _ (by omega))
  refine Below.trans ?_ (below_set _ _ _ _ (by omega))
  exact HB.out
end Go.Proofs.YteeklmgkhacbcaaGreatDoor
