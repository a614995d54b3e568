/-
  laws.toNodeS: a row of nodes in memory of its own.
-/
import Derived.Test.YtbgnmocbpigpmaaTF2
namespace Go.Proofs.Ytbgnmocbpigpmaa
open Go.RowKit
set_option linter.unusedVariables false
attribute [local go_sem] bs_size bs_get bs_extract bs_append bs_eq bs_toList

/-- a row of nodes, of which the first k are laid; the lists of those lie behind it -/
structure NodesLaidF (w : World) (g n k : Nat) (T : TypeId) (xs : List LNode) : Prop where
  row : ∃ cur : Array Value, w.heap[g]? = some (.cells cur T (0, 0)) ∧ cur.size = n * 8
  at_ : ∀ j x, j < k → xs[j]? = some x → NodeAtF (g + 1) w g (j * 8) x
theorem NodesLaidF.lt {w : World} {g n k : Nat} {T : TypeId} {xs : List LNode} (h : NodesLaidF w g n k T xs) : g < w.heap.size := by obtain ⟨cur, h1, _⟩ := h.row; exact blk_lt h1
theorem NodesLaidF.below {w w' : World} {g n k : Nat} {T : TypeId} {xs : List LNode} (h : NodesLaidF w g n k T xs) (hb : Below w.heap.size w w') : NodesLaidF w' g n k T xs := by
  obtain ⟨cur, h1, h2⟩ := h.row
  refine ⟨⟨cur, blk h1 hb, h2⟩, fun j x hj hx => ?_⟩
  obtain ⟨vk, vt, ve, hc, hv⟩ := h.at_ j x hj hx
  exact ⟨vk, vt, ve, hc.keep (lo := g) (.of_below hb) (Nat.le_refl _), hv.below hb⟩
theorem NodesLaidF.cell {w : World} {g n k i : Nat} {T : TypeId} {xs : List LNode} (h : NodesLaidF w g n k T xs) (hi : i < n * 8) : (∃ y, w.cell? ⟨g, i, none⟩ = some y) ∧ w.frozen? ⟨g, i, none⟩ = false := by
  obtain ⟨cur, h1, h2⟩ := h.row
  refine ⟨⟨cur[i]'(by omega), ?_⟩, frozen_of_row _ _ _ _ _ h1⟩
  rw [cell_of_row _ _ _ _ _ _ h1]
  exact Array.getElem?_eq_getElem (by omega)
theorem NodesLaidF.of_own {w : World} {g n B : Nat} {T : TypeId} {xs : List LNode} {ys : List Value} (h : w.ownsRow B T 8 (.slice (some ⟨g, 0, none⟩) n n) n ys) : NodesLaidF w g n 0 T xs := by
  refine ⟨?_, fun j x hj => absurd hj (by omega)⟩
  rcases h.2 with ⟨h, _⟩ | ⟨g', c, cur, h, _, hh, _, _, hs, _⟩
  · simp at h
  · simp at h
    obtain ⟨rfl, rfl⟩ := h
    exact ⟨cur, hh, hs⟩
/-- a cell of the row is stored behind what is laid -/
theorem NodesLaidF.set {w : World} {g n k i : Nat} {T : TypeId} {xs : List LNode} (h : NodesLaidF w g n k T xs) (hi : k * 8 ≤ i) (u : Value) : NodesLaidF (w.setCell ⟨g, i, none⟩ u) g n k T xs := by
  obtain ⟨cur, h1, h2⟩ := h.row
  refine ⟨⟨cur.setIfInBounds i u, heap_setCell_same w g i _ _ _ h1, by simpa using h2⟩, fun j x hj hx => ?_⟩
  obtain ⟨vk, vt, ve, hc, hv⟩ := h.at_ j x hj hx
  have o : ∀ t, t < 8 → (w.setCell ⟨g, i, none⟩ u).cell? ⟨g, j * 8 + t, none⟩ = w.cell? ⟨g, j * 8 + t, none⟩ := fun t ht => World.cell?_setCell_other _ _ _ _ (fun e => by have := congrArg Addr.off e; simp only at this; omega)
  have o0 := o 0 (by omega)
  rw [Nat.add_zero] at o0
  exact ⟨vk, vt, ve, ⟨o0.trans hc.c0, (o 1 (by omega)).trans hc.c1, (o 2 (by omega)).trans hc.c2, (o 3 (by omega)).trans hc.c3, (o 4 (by omega)).trans hc.c4, (o 5 (by omega)).trans hc.c5, (o 6 (by omega)).trans hc.c6, (o 7 (by omega)).trans hc.c7⟩, hv.set (by omega)⟩
theorem NodesLaidF.store8 {w : World} {g n k : Nat} {T : TypeId} {xs : List LNode} {x : LNode} {vk vt ve : Value} (h : NodesLaidF w g n k T xs) (hk : k < n) (hx : xs[k]? = some x) (hv : NodeValsF (g + 1) w x vk vt ve) :
    NodesLaidF (stored8 w g (k * 8) (.int .i64 x.kind) (.int .i64 x.op) (.string (bs x.name)) (.int .i64 x.num) (.int .i64 x.far) vk vt ve) g n (k + 1) T xs := by
  have c : ∀ t, t < 8 → ∃ y, w.cell? ⟨g, k * 8 + t, none⟩ = some y := fun t ht => (h.cell (by omega)).1
  obtain ⟨y0, c0⟩ := c 0 (by omega)
  obtain ⟨y1, c1⟩ := c 1 (by omega)
  obtain ⟨y2, c2⟩ := c 2 (by omega)
  obtain ⟨y3, c3⟩ := c 3 (by omega)
  obtain ⟨y4, c4⟩ := c 4 (by omega)
  obtain ⟨y5, c5⟩ := c 5 (by omega)
  obtain ⟨y6, c6⟩ := c 6 (by omega)
  obtain ⟨y7, c7⟩ := c 7 (by omega)
  rw [Nat.add_zero] at c0
  have hs := (((((((h.set (i := k * 8) (by omega) (.int .i64 x.kind)).set (i := k * 8 + 1) (by omega) (.int .i64 x.op)).set (i := k * 8 + 2) (by omega) (.string (bs x.name))).set (i := k * 8 + 3) (by omega) (.int .i64 x.num)).set (i := k * 8 + 4) (by omega) (.int .i64 x.far)).set (i := k * 8 + 5) (by omega) vk).set (i := k * 8 + 6) (by omega) vt).set (i := k * 8 + 7) (by omega) ve
  refine ⟨hs.row, fun j z hj hz => ?_⟩
  by_cases e : j = k
  · subst e
    obtain rfl : z = x := by rw [hx] at hz; exact (Option.some.inj hz).symm
    unfold stored8
    refine ⟨vk, vt, ve, ⟨?_, ?_, ?_, ?_, ?_, ?_, ?_, ?_⟩, ?_⟩
    · refine set_old ?_ (by omega); refine set_old ?_ (by omega); refine set_old ?_ (by omega); refine set_old ?_ (by omega); refine set_old ?_ (by omega); refine set_old ?_ (by omega); refine set_old ?_ (by omega); refine set_get (y := y0) ?_; exact c0
    · refine set_old ?_ (by omega); refine set_old ?_ (by omega); refine set_old ?_ (by omega); refine set_old ?_ (by omega); refine set_old ?_ (by omega); refine set_old ?_ (by omega); refine set_get (y := y1) ?_; refine set_old ?_ (by omega); exact c1
    · refine set_old ?_ (by omega); refine set_old ?_ (by omega); refine set_old ?_ (by omega); refine set_old ?_ (by omega); refine set_old ?_ (by omega); refine set_get (y := y2) ?_; refine set_old ?_ (by omega); refine set_old ?_ (by omega); exact c2
    · refine set_old ?_ (by omega); refine set_old ?_ (by omega); refine set_old ?_ (by omega); refine set_old ?_ (by omega); refine set_get (y := y3) ?_; refine set_old ?_ (by omega); refine set_old ?_ (by omega); refine set_old ?_ (by omega); exact c3
    · refine set_old ?_ (by omega); refine set_old ?_ (by omega); refine set_old ?_ (by omega); refine set_get (y := y4) ?_; refine set_old ?_ (by omega); refine set_old ?_ (by omega); refine set_old ?_ (by omega); refine set_old ?_ (by omega); exact c4
    · refine set_old ?_ (by omega); refine set_old ?_ (by omega); refine set_get (y := y5) ?_; refine set_old ?_ (by omega); refine set_old ?_ (by omega); refine set_old ?_ (by omega); refine set_old ?_ (by omega); refine set_old ?_ (by omega); exact c5
    · refine set_old ?_ (by omega); refine set_get (y := y6) ?_; refine set_old ?_ (by omega); refine set_old ?_ (by omega); refine set_old ?_ (by omega); refine set_old ?_ (by omega); refine set_old ?_ (by omega); refine set_old ?_ (by omega); exact c6
    · refine set_get (y := y7) ?_; refine set_old ?_ (by omega); refine set_old ?_ (by omega); refine set_old ?_ (by omega); refine set_old ?_ (by omega); refine set_old ?_ (by omega); refine set_old ?_ (by omega); refine set_old ?_ (by omega); exact c7
    · iterate 8 refine NodeValsF.set ?_ (by omega)
      exact hv
  · exact hs.at_ j z (by omega) hz
theorem nodes_of_laidF {w : World} {g n : Nat} {xs : List LNode} (h : NodesLaidF w g n n 99 xs) (hn : xs.length = n) : NodesF g w (.slice (some ⟨g, 0, none⟩) n n) xs := by
  obtain ⟨cur, h1, h2⟩ := h.row
  exact ⟨some ⟨g, 0, none⟩, n, by rw [hn], by omega, fun _ => ⟨g, 0, rfl, Nat.le_refl _, ⟨cur, h1, by omega⟩, fun i x hx => by
    have hi : i < n := by have := (List.getElem?_eq_some_iff.1 hx).1; omega
    rw [Nat.zero_add]
    exact (h.at_ i x hi hx).mono (by omega)⟩⟩

set_option maxHeartbeats 6400000 in
set_option maxRecDepth 100000 in
theorem toNodesF_any (lo : Nat) (v : Value) (xs : List LNode) (w : World) (h : NodesV lo w v xs) (hl : xs.length ≤ 1048576) (hz : ∀ n ∈ xs, n.kids.length ≤ 1048576 ∧ n.thn.length ≤ 1048576 ∧ n.els.length ≤ 1048576) :
    Calls Try.prog 49 #[v] w fun e w' => ∃ v', e = .returned v' ∧ NodesF w.heap.size w' v' xs ∧ Below w.heap.size w w' := by
  obtain ⟨a, c, rfl, hc, hhd⟩ := h
  obtain ⟨i0, hi, hz0, hz1, hz2⟩ := info_parts infoNode
  have hmax2 : xs.length ≤ maxLen := by unfold maxLen; omega
  have HHD : Hid (xs ≠ [] → ∃ b o, a = some ⟨b, o, none⟩ ∧ lo ≤ b ∧ ∀ (i : Nat) (x : LNode), xs[i]? = some x → NodeAt lo w b (o + i * 8) x) := hhd
  have HZ : Hid (∀ n ∈ xs, n.kids.length ≤ 1048576 ∧ n.thn.length ≤ 1048576 ∧ n.els.length ≤ 1048576) := hz
  clear hhd hc hz
  go_enter Try.func49, Try.ntmps49
  go_wp2_with (at_make; refine wpList_make_full _ rfl (.tmp 6) (.tmp 6) 32 rfl w.heap.size 99 i0 nodeZ 8 Try.underlying32 hi hz0 hz1 .i64 .i64 xs.length xs.length xs.length rfl rfl rfl rfl ?_ hmax2 (Nat.le_refl _) ?_)
  · rw [hz2]; omega
  · intro w1 hown hgrow
    have hB : Below w.heap.size w w1 := (Below.refl _ _).grown hgrow (Nat.le_refl _) (fun k hk => by cases hk)
    have hP : NodesLaidF w1 w.heap.size xs.length 0 99 xs := .of_own hown
    clear hgrow hown
    go_wp2
    go_loopw [4] (fun i wr => ∃ k : Nat, k ≤ xs.length ∧ i = .int .i64 k ∧ NodesLaidF wr w.heap.size xs.length k 99 xs ∧ Below w.heap.size w wr) (fun i _ => xs.length - (intOf i).toNat)
    case atStart => exact ⟨0, Nat.zero_le _, rfl, hP, hB⟩
    case round =>
      clear hP hB
      obtain ⟨k, hk, rfl, hP, hB⟩ := hrel
      have hgl : w.heap.size < wr.heap.size := hP.lt
      by_cases hlt : k < xs.length
      · obtain ⟨x, hx⟩ : ∃ x, xs[k]? = some x := ⟨xs[k], List.getElem?_eq_getElem hlt⟩
        obtain ⟨b, o, ha, _, hcl⟩ := HHD.out (by intro e; rw [e] at hlt; simp at hlt)
        subst ha
        obtain ⟨vk, vt, ve, hcs, hvs⟩ := hcl k x hx
        have hbl : b < w.heap.size := World.block_lt_of_cell? _ _ hcs.c0
        obtain ⟨c0, c1, c2, c3, c4, c5, c6, c7⟩ := hcs.keep (lo := 0) (fun g _ hg => hB.block g hg) (Nat.zero_le _)
        have hvs1 := hvs.keep (w' := wr) (fun g _ hg => hB.block g hg)
        obtain ⟨z1, z2, z3⟩ := HZ.out x (List.mem_of_getElem? hx)
        have hto : Hid (Calls Try.prog 109 #[nodeV x vk vt ve] wr fun e w' => ∃ vk' vt' ve', e = .returned (nodeV x vk' vt' ve') ∧ NodeValsF wr.heap.size w' x vk' vt' ve' ∧ Below wr.heap.size wr w') := toNodeF_any lo x vk vt ve wr hvs1 z1 z2 z3
        have HP : Hid (NodesLaidF wr w.heap.size xs.length k 99 xs) := hP
        have HX : Hid (xs[k]? = some x) := hx
        obtain ⟨ak, ck, rfl, _⟩ := id hvs1.kids
        obtain ⟨at_, ct, rfl, _⟩ := id hvs1.thn
        obtain ⟨ae, ce, rfl, _⟩ := id hvs1.els
        clear hcl hx hP hcs hvs hvs1 z1 z2 z3
        go_wp2_with fail
        refine hto.out.mono ?_
        rintro e w2 ⟨_, _, _, rfl, hv, hb⟩
        obtain ⟨ak', ck', rfl, _⟩ := id hv.kids
        obtain ⟨at', ct', rfl, _⟩ := id hv.thn
        obtain ⟨ae', ce', rfl, _⟩ := id hv.els
        have hP2 := HP.out.below hb
        have hB2 := hB.trans (hb.mono hB.size)
        have hgl2 : w.heap.size < w2.heap.size := Nat.lt_of_lt_of_le hgl hb.size
        obtain ⟨⟨y0, d0⟩, f0⟩ := hP2.cell (i := k * 8) (by omega)
        obtain ⟨⟨y1, d1⟩, f1⟩ := hP2.cell (i := k * 8 + 1) (by omega)
        obtain ⟨⟨y2, d2⟩, f2⟩ := hP2.cell (i := k * 8 + 2) (by omega)
        obtain ⟨⟨y3, d3⟩, f3⟩ := hP2.cell (i := k * 8 + 3) (by omega)
        obtain ⟨⟨y4, d4⟩, f4⟩ := hP2.cell (i := k * 8 + 4) (by omega)
        obtain ⟨⟨y5, d5⟩, f5⟩ := hP2.cell (i := k * 8 + 5) (by omega)
        obtain ⟨⟨y6, d6⟩, f6⟩ := hP2.cell (i := k * 8 + 6) (by omega)
        obtain ⟨⟨y7, d7⟩, f7⟩ := hP2.cell (i := k * 8 + 7) (by omega)
        have E3 : Hid (NodesLaidF (stored8 w2 w.heap.size (k * 8) (.int .i64 x.kind) (.int .i64 x.op) (.string (bs x.name)) (.int .i64 x.num) (.int .i64 x.far) (.slice ak' x.kids.length ck') (.slice at' x.thn.length ct') (.slice ae' x.els.length ce')) w.heap.size xs.length (k + 1) 99 xs) := hP2.store8 hlt HX.out (hv.mono hgl)
        have B3 : Hid (Below w.heap.size w (stored8 w2 w.heap.size (k * 8) (.int .i64 x.kind) (.int .i64 x.op) (.string (bs x.name)) (.int .i64 x.num) (.int .i64 x.far) (.slice ak' x.kids.length ck') (.slice at' x.thn.length ct') (.slice ae' x.els.length ce'))) := below_stored8 hB2 (Nat.le_refl _)
        clear hP2 hb hB hB2 HP c0 c1 c2 c3 c4 c5 c6 c7 hto hv
        go_wp2_with fail
        go_roundw
        case rel => exact ⟨k + 1, by omega, by go_num, E3.out, B3.out⟩
        case measure => simp [intOf]; omega
      · have hke : k = xs.length := by omega
        subst hke
        have HP : Hid (NodesF w.heap.size wr (.slice (some ⟨w.heap.size, 0, none⟩) xs.length xs.length) xs) := nodes_of_laidF hP rfl
        clear hP
        go_wp2
        go_ret
        exact ⟨_, rfl, HP.out, hB⟩
end Go.Proofs.Ytbgnmocbpigpmaa
