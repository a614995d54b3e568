/-
  laws.toNode: a copy in memory of its own.
-/
import Derived.Test.YteeklmgkhacbcaaGreatDoorTreeSz
namespace Go.Proofs.YteeklmgkhacbcaaGreatDoor
open Go.RowKit
set_option linter.unusedVariables false
def IntsF (lo : Nat) (w : World) (v : Value) (xs : List Int) : Prop :=
 ∃ a c, v = .slice a xs.length c ∧ xs.length ≤ c ∧ (xs ≠ [] → ∃ b o, a = some ⟨b, o, none⟩ ∧ lo ≤ b ∧ (∃ cs, w.heap[b]? = some (.cells cs 2 (0, 0)) ∧ o + xs.length ≤ cs.size) ∧ ∀ (i : Nat) (x : Int), xs[i]? = some x → w.cell? ⟨b, o + i, none⟩ = some (.int .i64 x))
theorem IntsF.toV {lo : Nat} {w : World} {v : Value} {xs : List Int} (h : IntsF lo w v xs) : IntsV lo w v xs := by
 obtain ⟨a, c, h1, h2, h3⟩ := h
 exact ⟨a, c, h1, h2, fun hn => by obtain ⟨b, o, e, hl, _, hc⟩ := h3 hn; exact ⟨b, o, e, hl, hc⟩⟩
theorem row_keep {lo b n : Nat} {w w' : World} {T : TypeId} (hk : Keeps lo w w') (hl : lo ≤ b) (h : ∃ cs : Array Value, w.heap[b]? = some (.cells cs T (0, 0)) ∧ n ≤ cs.size) : ∃ cs : Array Value, w'.heap[b]? = some (.cells cs T (0, 0)) ∧ n ≤ cs.size := by
 obtain ⟨cs, h1, h2⟩ := h
 exact ⟨cs, (hk b hl (Array.getElem?_eq_some_iff.1 h1).1).trans h1, h2⟩
theorem IntsF.keep {lo : Nat} {w w' : World} {v : Value} {xs : List Int} (h : IntsF lo w v xs) (hk : Keeps lo w w') : IntsF lo w' v xs := by
 obtain ⟨a, c, h1, h2, h3⟩ := h
 exact ⟨a, c, h1, h2, fun hn => by obtain ⟨b, o, e, hl, hr, hc⟩ := h3 hn; exact ⟨b, o, e, hl, row_keep hk hl hr, fun i x hx => hk.cell (p := ⟨b, o + i, none⟩) hl (hc i x hx)⟩⟩
theorem IntsF.mono {lo lo' : Nat} {w : World} {v : Value} {xs : List Int} (h : IntsF lo w v xs) (hl : lo' ≤ lo) : IntsF lo' w v xs := by
 obtain ⟨a, c, h1, h2, h3⟩ := h
 exact ⟨a, c, h1, h2, fun hn => by obtain ⟨b, o, e, hb, hc⟩ := h3 hn; exact ⟨b, o, e, Nat.le_trans hl hb, hc⟩⟩
theorem IntsF.below {lo : Nat} {w w' : World} {v : Value} {xs : List Int} (h : IntsF lo w v xs) (hb : Below w.heap.size w w') : IntsF lo w' v xs := h.keep (.of_below hb)
def VarsF (lo : Nat) (w : World) (v : Value) (xs : List LVar) : Prop :=
 ∃ a c, v = .slice a xs.length c ∧ xs.length ≤ c ∧ (xs ≠ [] → ∃ b o, a = some ⟨b, o, none⟩ ∧ lo ≤ b ∧ (∃ cs, w.heap[b]? = some (.cells cs 86 (0, 0)) ∧ o + xs.length * 4 ≤ cs.size) ∧ ∀ (i : Nat) (x : LVar), xs[i]? = some x → VarAt w b (o + i * 4) x)
theorem VarsF.toV {lo : Nat} {w : World} {v : Value} {xs : List LVar} (h : VarsF lo w v xs) : VarsV lo w v xs := by
 obtain ⟨a, c, h1, h2, h3⟩ := h
 exact ⟨a, c, h1, h2, fun hn => by obtain ⟨b, o, e, hl, _, hc⟩ := h3 hn; exact ⟨b, o, e, hl, hc⟩⟩
theorem VarsF.keep {lo : Nat} {w w' : World} {v : Value} {xs : List LVar} (h : VarsF lo w v xs) (hk : Keeps lo w w') : VarsF lo w' v xs := by
 obtain ⟨a, c, h1, h2, h3⟩ := h
 exact ⟨a, c, h1, h2, fun hn => by obtain ⟨b, o, e, hl, hr, hc⟩ := h3 hn; exact ⟨b, o, e, hl, row_keep hk hl hr, fun i x hx => (hc i x hx).keep hk hl⟩⟩
theorem VarsF.mono {lo lo' : Nat} {w : World} {v : Value} {xs : List LVar} (h : VarsF lo w v xs) (hl : lo' ≤ lo) : VarsF lo' w v xs := by
 obtain ⟨a, c, h1, h2, h3⟩ := h
 exact ⟨a, c, h1, h2, fun hn => by obtain ⟨b, o, e, hb, hc⟩ := h3 hn; exact ⟨b, o, e, Nat.le_trans hl hb, hc⟩⟩
theorem VarsF.below {lo : Nat} {w w' : World} {v : Value} {xs : List LVar} (h : VarsF lo w v xs) (hb : Below w.heap.size w w') : VarsF lo w' v xs := h.keep (.of_below hb)
structure NodeValsF (lo : Nat) (w : World) (n : LNode) (vk vt ve : Value) : Prop where
 kids : IntsF lo w vk n.kids
 thn : IntsF lo w vt n.thn
 els : IntsF lo w ve n.els
theorem NodeValsF.toV {lo : Nat} {w : World} {n : LNode} {vk vt ve : Value} (h : NodeValsF lo w n vk vt ve) : NodeVals lo w n vk vt ve := ⟨h.kids.toV, h.thn.toV, h.els.toV⟩
theorem NodeValsF.keep {lo : Nat} {w w' : World} {n : LNode} {vk vt ve : Value} (h : NodeValsF lo w n vk vt ve) (hk : Keeps lo w w') : NodeValsF lo w' n vk vt ve := ⟨h.kids.keep hk, h.thn.keep hk, h.els.keep hk⟩
theorem NodeValsF.mono {lo lo' : Nat} {w : World} {n : LNode} {vk vt ve : Value} (h : NodeValsF lo w n vk vt ve) (hl : lo' ≤ lo) : NodeValsF lo' w n vk vt ve := ⟨h.kids.mono hl, h.thn.mono hl, h.els.mono hl⟩
theorem NodeValsF.below {lo : Nat} {w w' : World} {n : LNode} {vk vt ve : Value} (h : NodeValsF lo w n vk vt ve) (hb : Below w.heap.size w w') : NodeValsF lo w' n vk vt ve := h.keep (.of_below hb)
theorem NodeValsF.set {lo : Nat} {w : World} {n : LNode} {vk vt ve : Value} (h : NodeValsF lo w n vk vt ve) {g i : Nat} {u : Value} (hl : g < lo) : NodeValsF lo (w.setCell ⟨g, i, none⟩ u) n vk vt ve := h.keep (keeps_set _ _ _ _ _ hl)
def NodeAtF (lo : Nat) (w : World) (b o : Nat) (n : LNode) : Prop := ∃ vk vt ve, NodeCells w b o n vk vt ve ∧ NodeValsF lo w n vk vt ve
theorem NodeAtF.keep {lo : Nat} {w w' : World} {b o : Nat} {n : LNode} (h : NodeAtF lo w b o n) (hk : Keeps lo w w') (hl : lo ≤ b) : NodeAtF lo w' b o n := by
 obtain ⟨vk, vt, ve, h1, h2⟩ := h
 exact ⟨vk, vt, ve, h1.keep hk hl, h2.keep hk⟩
theorem NodeAtF.mono {lo lo' : Nat} {w : World} {b o : Nat} {n : LNode} (h : NodeAtF lo w b o n) (hl : lo' ≤ lo) : NodeAtF lo' w b o n := by
 obtain ⟨vk, vt, ve, h1, h2⟩ := h
 exact ⟨vk, vt, ve, h1, h2.mono hl⟩
theorem NodeAtF.toV {lo : Nat} {w : World} {b o : Nat} {n : LNode} (h : NodeAtF lo w b o n) : NodeAt lo w b o n := by
 obtain ⟨vk, vt, ve, h1, h2⟩ := h
 exact ⟨vk, vt, ve, h1, h2.toV⟩
def NodesF (lo : Nat) (w : World) (v : Value) (xs : List LNode) : Prop :=
 ∃ a c, v = .slice a xs.length c ∧ xs.length ≤ c ∧ (xs ≠ [] → ∃ b o, a = some ⟨b, o, none⟩ ∧ lo ≤ b ∧ (∃ cs, w.heap[b]? = some (.cells cs 88 (0, 0)) ∧ o + xs.length * 8 ≤ cs.size) ∧ ∀ (i : Nat) (x : LNode), xs[i]? = some x → NodeAtF lo w b (o + i * 8) x)
theorem NodesF.toV {lo : Nat} {w : World} {v : Value} {xs : List LNode} (h : NodesF lo w v xs) : NodesV lo w v xs := by
 obtain ⟨a, c, h1, h2, h3⟩ := h
 exact ⟨a, c, h1, h2, fun hn => by obtain ⟨b, o, e, hl, _, hc⟩ := h3 hn; exact ⟨b, o, e, hl, fun i x hx => (hc i x hx).toV⟩⟩
theorem NodesF.keep {lo : Nat} {w w' : World} {v : Value} {xs : List LNode} (h : NodesF lo w v xs) (hk : Keeps lo w w') : NodesF lo w' v xs := by
 obtain ⟨a, c, h1, h2, h3⟩ := h
 exact ⟨a, c, h1, h2, fun hn => by obtain ⟨b, o, e, hl, hr, hc⟩ := h3 hn; exact ⟨b, o, e, hl, row_keep hk hl hr, fun i x hx => (hc i x hx).keep hk hl⟩⟩
theorem NodesF.mono {lo lo' : Nat} {w : World} {v : Value} {xs : List LNode} (h : NodesF lo w v xs) (hl : lo' ≤ lo) : NodesF lo' w v xs := by
 obtain ⟨a, c, h1, h2, h3⟩ := h
 exact ⟨a, c, h1, h2, fun hn => by obtain ⟨b, o, e, hb, hr, hc⟩ := h3 hn; exact ⟨b, o, e, Nat.le_trans hl hb, hr, fun i x hx => (hc i x hx).mono hl⟩⟩
theorem NodesF.below {lo : Nat} {w w' : World} {v : Value} {xs : List LNode} (h : NodesF lo w v xs) (hb : Below w.heap.size w w') : NodesF lo w' v xs := h.keep (.of_below hb)
structure TreeF (lo : Nat) (w : World) (vv vn vb : Value) (T : LTree) : Prop where
 vars : VarsF lo w vv T.vars
 nodes : NodesF lo w vn T.nodes
 body : IntsF lo w vb T.body
theorem TreeF.toV {lo : Nat} {w : World} {vv vn vb : Value} {T : LTree} (h : TreeF lo w vv vn vb T) : TreeV lo w vv vn vb T := ⟨h.vars.toV, h.nodes.toV, h.body.toV⟩
theorem TreeF.keep {lo : Nat} {w w' : World} {vv vn vb : Value} {T : LTree} (h : TreeF lo w vv vn vb T) (hk : Keeps lo w w') : TreeF lo w' vv vn vb T := ⟨h.vars.keep hk, h.nodes.keep hk, h.body.keep hk⟩
theorem TreeF.mono {lo lo' : Nat} {w : World} {vv vn vb : Value} {T : LTree} (h : TreeF lo w vv vn vb T) (hl : lo' ≤ lo) : TreeF lo' w vv vn vb T := ⟨h.vars.mono hl, h.nodes.mono hl, h.body.mono hl⟩
theorem TreeF.below {lo : Nat} {w w' : World} {vv vn vb : Value} {T : LTree} (h : TreeF lo w vv vn vb T) (hb : Below w.heap.size w w') : TreeF lo w' vv vn vb T := h.keep (.of_below hb)
theorem ints_of_laidF {w : World} {g n : Nat} {xs : List Int} (h : Laid w g n 1 2 (xs.map (Value.int .i64)) n) (hn : xs.length = n) : IntsF g w (.slice (some ⟨g, 0, none⟩) n n) xs := by
 obtain ⟨cur, h1, h2, _⟩ := id h
 exact ⟨some ⟨g, 0, none⟩, n, by rw [hn], by omega, fun _ => ⟨g, 0, rfl, Nat.le_refl _, ⟨cur, h1, by omega⟩, fun i x hx => by
  rw [Nat.zero_add]
  exact h.read (by have := (List.getElem?_eq_some_iff.1 hx).1; omega) (map_at _ _ _ _ hx)⟩⟩
theorem vars_of_laidF {w : World} {g n : Nat} {xs : List LVar} (h : Laid w g n 4 86 (varCells xs) (n * 4)) (hn : xs.length = n) : VarsF g w (.slice (some ⟨g, 0, none⟩) n n) xs := by
 obtain ⟨cur, h1, h2, _⟩ := id h
 exact ⟨some ⟨g, 0, none⟩, n, by rw [hn], by omega, fun _ => ⟨g, 0, rfl, Nat.le_refl _, ⟨cur, h1, by omega⟩, fun i x hx => by
  have hi : i < n := by have := (List.getElem?_eq_some_iff.1 hx).1; omega
  obtain ⟨u0, u1, u2, u3⟩ := varCells_at xs i x hx
  rw [Nat.zero_add]
  exact ⟨h.read (by omega) u0, h.read (by omega) u1, h.read (by omega) u2, h.read (by omega) u3⟩⟩⟩
attribute [local go_sem] bs_size bs_get bs_extract bs_append bs_eq bs_toList
set_option maxHeartbeats 1600000 in
theorem toIntsF_any (lo : Nat) (v : Value) (xs : List Int) (w : World) (h : IntsV lo w v xs) (hl : xs.length ≤ 1048576) :
  Calls Tryz.prog 10 #[v] w fun e w' => ∃ v', e = .returned v' ∧ IntsF w.heap.size w' v' xs ∧ Below w.heap.size w w' := by
 obtain ⟨a, c, rfl, hc, hhd⟩ := h
 obtain ⟨i0, hi, hz0, hz1, hz2⟩ := info_parts infoI
 have hmax2 : xs.length ≤ maxLen := by unfold maxLen; omega
 have HHD : Hid (xs ≠ [] → ∃ b o, a = some ⟨b, o, none⟩ ∧ lo ≤ b ∧ ∀ (i : Nat) (x : Int), xs[i]? = some x → w.cell? ⟨b, o + i, none⟩ = some (.int .i64 x)) := hhd
 clear hhd hc
 go_enter Tryz.func10, Tryz.ntmps10
 go_wp2_with (at_make; refine wpList_make_full _ rfl (.tmp 6) (.tmp 6) 24 rfl w.heap.size 2 i0 (.int .i64 0) 1 Tryz.underlying24 hi hz0 hz1 .i64 .i64 xs.length xs.length xs.length rfl rfl rfl rfl ?_ hmax2 (Nat.le_refl _) ?_)
 ·rw [hz2]; omega
 ·intro w1 hown hgrow
  have hB : Below w.heap.size w w1 := (Below.refl _ _).grown hgrow (Nat.le_refl _) (fun k hk => by cases hk)
  have hP : Laid w1 w.heap.size xs.length 1 2 (xs.map (Value.int .i64)) 0 := .of_own hown
  clear hgrow hown
  go_wp2
  go_loopw [4] (fun i wr => ∃ k : Nat, k ≤ xs.length ∧ i = .int .i64 k ∧ Laid wr w.heap.size xs.length 1 2 (xs.map (Value.int .i64)) k ∧ Below w.heap.size w wr) (fun i _ => xs.length - (intOf i).toNat)
  case atStart => exact ⟨0, Nat.zero_le _, rfl, hP, hB⟩
  case round =>
   clear hP hB
   obtain ⟨k, hk, rfl, hP, hB⟩ := hrel
   have hgl : w.heap.size < wr.heap.size := hP.lt
   by_cases hlt : k < xs.length
   ·obtain ⟨x, hx⟩ : ∃ x, xs[k]? = some x := ⟨xs[k], List.getElem?_eq_getElem hlt⟩
    obtain ⟨b, o, ha, _, hcl⟩ := HHD.out (by intro e; rw [e] at hlt; simp at hlt)
    subst ha
    have hc0 := hcl k x hx
    have hbl := World.block_lt_of_cell? _ _ hc0
    have hc1 := (hB.cell (p := ⟨b, o + k, none⟩) hbl).trans hc0
    obtain ⟨⟨y0, d0⟩, f0⟩ := hP.cell (i := k) (by omega)
    have e0 := hP.store (by omega) (map_at (Value.int .i64) xs k x hx)
    have E0 : Hid (Laid (wr.setCell ⟨w.heap.size, k, none⟩ (.int .i64 x)) w.heap.size xs.length 1 2 (xs.map (Value.int .i64)) (k + 1)) := e0
    have B0 : Hid (Below w.heap.size w (wr.setCell ⟨w.heap.size, k, none⟩ (.int .i64 x))) := hB.setCell (Nat.le_refl _) _
    clear hP hB hcl hc0 e0 hx
    go_wp2_with fail
    go_roundw
    case rel => exact ⟨k + 1, by omega, by go_num, E0.out, B0.out⟩
    case measure => simp [intOf]; omega
   ·have hke : k = xs.length := by omega
    subst hke
    have HP : Hid (IntsF w.heap.size wr (.slice (some ⟨w.heap.size, 0, none⟩) xs.length xs.length) xs) := ints_of_laidF hP rfl
    clear hP
    go_wp2
    go_ret
    exact ⟨_, rfl, HP.out, hB⟩
set_option maxHeartbeats 3200000 in
theorem toVarsF_any (lo : Nat) (v : Value) (xs : List LVar) (w : World) (h : VarsV lo w v xs) (hl : xs.length ≤ 1048576) :
  Calls Tryz.prog 28 #[v] w fun e w' => ∃ v', e = .returned v' ∧ VarsF w.heap.size w' v' xs ∧ Below w.heap.size w w' := by
 obtain ⟨a, c, rfl, hc, hhd⟩ := h
 obtain ⟨i0, hi, hz0, hz1, hz2⟩ := info_parts infoV
 have hmax2 : xs.length ≤ maxLen := by unfold maxLen; omega
 have HHD : Hid (xs ≠ [] → ∃ b o, a = some ⟨b, o, none⟩ ∧ lo ≤ b ∧ ∀ (i : Nat) (x : LVar), xs[i]? = some x → VarAt w b (o + i * 4) x) := hhd
 clear hhd hc
 go_enter Tryz.func28, Tryz.ntmps28
 go_wp2_with (at_make; refine wpList_make_full _ rfl (.tmp 6) (.tmp 6) 34 rfl w.heap.size 86 i0 (.agg #[.string ⟨#[]⟩, .int .i64 0, .int .i64 0, .int .i64 0]) 4 Tryz.underlying34 hi hz0 hz1 .i64 .i64 xs.length xs.length xs.length rfl rfl rfl rfl ?_ hmax2 (Nat.le_refl _) ?_)
 ·rw [hz2]; omega
 ·intro w1 hown hgrow
  have hB : Below w.heap.size w w1 := (Below.refl _ _).grown hgrow (Nat.le_refl _) (fun k hk => by cases hk)
  have hP : Laid w1 w.heap.size xs.length 4 86 (varCells xs) (0 * 4) := .of_own hown
  clear hgrow hown
  go_wp2
  go_loopw [4] (fun i wr => ∃ k : Nat, k ≤ xs.length ∧ i = .int .i64 k ∧ Laid wr w.heap.size xs.length 4 86 (varCells xs) (k * 4) ∧ Below w.heap.size w wr) (fun i _ => xs.length - (intOf i).toNat)
  case atStart => exact ⟨0, Nat.zero_le _, rfl, hP, hB⟩
  case round =>
   clear hP hB
   obtain ⟨k, hk, rfl, hP, hB⟩ := hrel
   have hgl : w.heap.size < wr.heap.size := hP.lt
   by_cases hlt : k < xs.length
   ·obtain ⟨x, hx⟩ : ∃ x, xs[k]? = some x := ⟨xs[k], List.getElem?_eq_getElem hlt⟩
    obtain ⟨b, o, ha, _, hcl⟩ := HHD.out (by intro e; rw [e] at hlt; simp at hlt)
    subst ha
    have hbl : b < w.heap.size := World.block_lt_of_cell? _ _ (hcl k x hx).1
    obtain ⟨c0, c1, c2, c3⟩ := (hcl k x hx).keep (lo := 0) (fun g _ hg => hB.block g hg) (Nat.zero_le _)
    obtain ⟨u0, u1, u2, u3⟩ := varCells_at xs k x hx
    have HU0 : Hid _ := u0
    have HU1 : Hid _ := u1
    have HU2 : Hid _ := u2
    have HU3 : Hid _ := u3
    have hto : Hid (∀ w, Calls Tryz.prog 48 #[varV x] w fun e w' => e = .returned (varV x) ∧ Below w.heap.size w w') := fun w => toVar_any x w
    have HP : Hid (Laid wr w.heap.size xs.length 4 86 (varCells xs) (k * 4)) := hP
    clear hcl hx u0 u1 u2 u3 hP
    go_wp2_with fail
    refine (hto.out _).mono ?_
    rintro e w2 ⟨rfl, hb⟩
    have hP2 := HP.out.below hb
    have hB2 := hB.trans (hb.mono hB.size)
    have hgl2 : w.heap.size < w2.heap.size := Nat.lt_of_lt_of_le hgl hb.size
    obtain ⟨⟨y0, d0⟩, f0⟩ := hP2.cell (i := k * 4) (by omega)
    obtain ⟨⟨y1, d1⟩, f1⟩ := hP2.cell (i := k * 4 + 1) (by omega)
    obtain ⟨⟨y2, d2⟩, f2⟩ := hP2.cell (i := k * 4 + 2) (by omega)
    obtain ⟨⟨y3, d3⟩, f3⟩ := hP2.cell (i := k * 4 + 3) (by omega)
    have e3 := (((hP2.store (by omega) HU0.out).store (by omega) HU1.out).store (by omega) HU2.out).store (by omega) HU3.out
    have E3 : Hid (Laid ((((w2.setCell ⟨w.heap.size, k * 4, none⟩ (.string (bs x.name))).setCell ⟨w.heap.size, k * 4 + 1, none⟩ (.int .i64 x.kind)).setCell ⟨w.heap.size, k * 4 + 2, none⟩ (.int .i64 x.type)).setCell ⟨w.heap.size, k * 4 + 3, none⟩ (.int .i64 x.size)) w.heap.size xs.length 4 86 (varCells xs) (k * 4 + 1 + 1 + 1 + 1)) := e3
    have B3 : Hid (Below w.heap.size w ((((w2.setCell ⟨w.heap.size, k * 4, none⟩ (.string (bs x.name))).setCell ⟨w.heap.size, k * 4 + 1, none⟩ (.int .i64 x.kind)).setCell ⟨w.heap.size, k * 4 + 2, none⟩ (.int .i64 x.type)).setCell ⟨w.heap.size, k * 4 + 3, none⟩ (.int .i64 x.size))) :=
     (((hB2.setCell (Nat.le_refl _) _).setCell (Nat.le_refl _) _).setCell (Nat.le_refl _) _).setCell (Nat.le_refl _) _
    clear hP2 e3 hb hB hB2 HP c0 c1 c2 c3 hto
    go_wp2_with fail
    go_roundw
    case rel => exact ⟨k + 1, by omega, by go_num, by have h := E3.out; rwa [show k * 4 + 1 + 1 + 1 + 1 = (k + 1) * 4 from by omega] at h, B3.out⟩
    case measure => simp [intOf]; omega
   ·have hke : k = xs.length := by omega
    subst hke
    have HP : Hid (VarsF w.heap.size wr (.slice (some ⟨w.heap.size, 0, none⟩) xs.length xs.length) xs) := vars_of_laidF hP rfl
    clear hP
    go_wp2
    go_ret
    exact ⟨_, rfl, HP.out, hB⟩
set_option maxHeartbeats 6400000 in
set_option maxRecDepth 100000 in
theorem toNodeF_any (lo : Nat) (n : LNode) (vk vt ve : Value) (w : World) (h : NodeVals lo w n vk vt ve) (h1 : n.kids.length ≤ 1048576) (h2 : n.thn.length ≤ 1048576) (h3 : n.els.length ≤ 1048576) :
  Calls Tryz.prog 49 #[nodeV n vk vt ve] w fun e w' => ∃ vk' vt' ve', e = .returned (nodeV n vk' vt' ve') ∧ NodeValsF w.heap.size w' n vk' vt' ve' ∧ Below w.heap.size w w' := by
 obtain ⟨ak, ck, rfl, _⟩ := id h.kids
 obtain ⟨at_, ct, rfl, _⟩ := id h.thn
 obtain ⟨ae, ce, rfl, _⟩ := id h.els
 have HV : Hid (NodeVals lo w n (.slice ak n.kids.length ck) (.slice at_ n.thn.length ct) (.slice ae n.els.length ce)) := h
 have HK : Hid (∀ w', NodeVals lo w' n (.slice ak n.kids.length ck) (.slice at_ n.thn.length ct) (.slice ae n.els.length ce) → Calls Tryz.prog 10 #[.slice ak n.kids.length ck] w' fun e w'' => ∃ v', e = .returned v' ∧ IntsF w'.heap.size w'' v' n.kids ∧ Below w'.heap.size w' w'') := fun w' h => toIntsF_any lo _ _ w' h.kids h1
 have HT : Hid (∀ w', NodeVals lo w' n (.slice ak n.kids.length ck) (.slice at_ n.thn.length ct) (.slice ae n.els.length ce) → Calls Tryz.prog 10 #[.slice at_ n.thn.length ct] w' fun e w'' => ∃ v', e = .returned v' ∧ IntsF w'.heap.size w'' v' n.thn ∧ Below w'.heap.size w' w'') := fun w' h => toIntsF_any lo _ _ w' h.thn h2
 have HX : Hid (∀ w', NodeVals lo w' n (.slice ak n.kids.length ck) (.slice at_ n.thn.length ct) (.slice ae n.els.length ce) → Calls Tryz.prog 10 #[.slice ae n.els.length ce] w' fun e w'' => ∃ v', e = .returned v' ∧ IntsF w'.heap.size w'' v' n.els ∧ Below w'.heap.size w' w'') := fun w' h => toIntsF_any lo _ _ w' h.els h3
 clear h h1 h2 h3
 go_enter Tryz.func49, Tryz.ntmps49
 go_wp2_with fail
 obtain ⟨W, hW⟩ : ∃ W, W = (((w.alloc (.cells #[.int .i64 n.kind, .int .i64 n.op, .string (bs n.name), .int .i64 n.num, .int .i64 n.far, .slice ak n.kids.length ck, .slice at_ n.thn.length ct, .slice ae n.els.length ce] 75)).alloc (.cells #[.int .i64 0, .int .i64 0, .string ⟨#[]⟩, .int .i64 0, .int .i64 0, .slice none 0 0, .slice none 0 0, .slice none 0 0] 88)).alloc (.cells #[.int .i64 n.kind, .int .i64 n.op, .string (bs n.name), .int .i64 n.num, .int .i64 n.far, .slice none 0 0, .slice none 0 0, .slice none 0 0] 88)) := ⟨_, rfl⟩
 have hbW : Below w.heap.size w W := by rw [hW]; exact (((Below.refl _ _).alloc (Nat.le_refl _) _).alloc (by simp) _).alloc (by simp; omega) _
 have hA : W.heap[w.heap.size]? = some (.cells #[.int .i64 n.kind, .int .i64 n.op, .string (bs n.name), .int .i64 n.num, .int .i64 n.far, .slice ak n.kids.length ck, .slice at_ n.thn.length ct, .slice ae n.els.length ce] 75 (0, 0)) := by
  rw [hW, Below.heap_alloc _ _ _ (by simp; omega), Below.heap_alloc _ _ _ (by simp)]; exact heap_alloc_new w _
 have hR : W.heap[w.heap.size + 1]? = some (.cells #[.int .i64 0, .int .i64 0, .string ⟨#[]⟩, .int .i64 0, .int .i64 0, .slice none 0 0, .slice none 0 0, .slice none 0 0] 88 (0, 0)) := by
  rw [hW, Below.heap_alloc _ _ _ (by simp)]
  have h := heap_alloc_new (w.alloc (.cells #[.int .i64 n.kind, .int .i64 n.op, .string (bs n.name), .int .i64 n.num, .int .i64 n.far, .slice ak n.kids.length ck, .slice at_ n.thn.length ct, .slice ae n.els.length ce] 75)) (.cells #[.int .i64 0, .int .i64 0, .string ⟨#[]⟩, .int .i64 0, .int .i64 0, .slice none 0 0, .slice none 0 0, .slice none 0 0] 88)
  rwa [show (w.alloc (.cells #[.int .i64 n.kind, .int .i64 n.op, .string (bs n.name), .int .i64 n.num, .int .i64 n.far, .slice ak n.kids.length ck, .slice at_ n.thn.length ct, .slice ae n.els.length ce] 75)).heap.size = w.heap.size + 1 from by simp] at h
 have hO : W.heap[w.heap.size + 1 + 1]? = some (.cells #[.int .i64 n.kind, .int .i64 n.op, .string (bs n.name), .int .i64 n.num, .int .i64 n.far, .slice none 0 0, .slice none 0 0, .slice none 0 0] 88 (0, 0)) := by
  rw [hW]
  have h := heap_alloc_new ((w.alloc (.cells #[.int .i64 n.kind, .int .i64 n.op, .string (bs n.name), .int .i64 n.num, .int .i64 n.far, .slice ak n.kids.length ck, .slice at_ n.thn.length ct, .slice ae n.els.length ce] 75)).alloc (.cells #[.int .i64 0, .int .i64 0, .string ⟨#[]⟩, .int .i64 0, .int .i64 0, .slice none 0 0, .slice none 0 0, .slice none 0 0] 88)) (.cells #[.int .i64 n.kind, .int .i64 n.op, .string (bs n.name), .int .i64 n.num, .int .i64 n.far, .slice none 0 0, .slice none 0 0, .slice none 0 0] 88)
  rwa [show ((w.alloc (.cells #[.int .i64 n.kind, .int .i64 n.op, .string (bs n.name), .int .i64 n.num, .int .i64 n.far, .slice ak n.kids.length ck, .slice at_ n.thn.length ct, .slice ae n.els.length ce] 75)).alloc (.cells #[.int .i64 0, .int .i64 0, .string ⟨#[]⟩, .int .i64 0, .int .i64 0, .slice none 0 0, .slice none 0 0, .slice none 0 0] 88)).heap.size = w.heap.size + 1 + 1 from by simp] at h
 rw [← hW]
 clear hW
 refine (HK.out _ (HV.out.below hbW)).mono ?_
 rintro e wk ⟨_, rfl, hk, hb⟩
 obtain ⟨ak', ck', rfl, _⟩ := id hk
 have hbC := hbW.trans (hb.mono hbW.size)
 have hAc := blk hA hb
 have hRc := blk hR hb
 have hOc := blk hO hb
 have hk1 : IntsF (w.heap.size + 3) wk (.slice ak' n.kids.length ck') n.kids := hk.mono (blk_lt hO)
 have HA : Hid ((wk.setCell ⟨w.heap.size + 1 + 1, 5, none⟩ (.slice ak' n.kids.length ck')).heap[w.heap.size]? = some (.cells #[.int .i64 n.kind, .int .i64 n.op, .string (bs n.name), .int .i64 n.num, .int .i64 n.far, .slice ak n.kids.length ck, .slice at_ n.thn.length ct, .slice ae n.els.length ce] 75 (0, 0))) := blk_set _ hAc (by omega)
 have HR : Hid ((wk.setCell ⟨w.heap.size + 1 + 1, 5, none⟩ (.slice ak' n.kids.length ck')).heap[w.heap.size + 1]? = some (.cells #[.int .i64 0, .int .i64 0, .string ⟨#[]⟩, .int .i64 0, .int .i64 0, .slice none 0 0, .slice none 0 0, .slice none 0 0] 88 (0, 0))) := blk_set _ hRc (by omega)
 have HO : Hid ((wk.setCell ⟨w.heap.size + 1 + 1, 5, none⟩ (.slice ak' n.kids.length ck')).heap[w.heap.size + 1 + 1]? = some (.cells #[.int .i64 n.kind, .int .i64 n.op, .string (bs n.name), .int .i64 n.num, .int .i64 n.far, .slice ak' n.kids.length ck', .slice none 0 0, .slice none 0 0] 88 (0, 0))) := by have h := heap_setCell_same wk (w.heap.size + 1 + 1) 5 _ _ (.slice ak' n.kids.length ck') hOc; exact h
 have HB : Hid (Below w.heap.size w (wk.setCell ⟨w.heap.size + 1 + 1, 5, none⟩ (.slice ak' n.kids.length ck'))) := hbC.trans (below_set _ _ _ _ (by omega))
 have o5 := cell_of_row _ _ 5 _ _ _ hOc
 have g5 := frozen_of_row _ _ 5 _ _ hOc
 simp at o5
 have b6 := cell_of_row _ _ 6 _ _ _ HA.out
 simp at b6
 have y5 := 0
 have Hk : Hid (IntsF (w.heap.size + 3) (wk.setCell ⟨w.heap.size + 1 + 1, 5, none⟩ (.slice ak' n.kids.length ck')) (.slice ak' n.kids.length ck') n.kids) := hk1.keep (keeps_set _ _ _ _ _ (by omega))
 clear hA hR hO hbW hb hbC hAc hRc hOc hk hk1
 go_wp2_with fail
 have hA := HA.out
 have hR := HR.out
 have hO := HO.out
 have hbW := HB.out
 have hkS := Hk.out
 clear HA HR HO HB Hk b6 o5 g5 y5
 generalize wk.setCell ⟨w.heap.size + 1 + 1, 5, none⟩ (.slice ak' n.kids.length ck') = W at *
 refine (HT.out _ (HV.out.below hbW)).mono ?_
 rintro e wt ⟨_, rfl, ht, hb⟩
 obtain ⟨at', ct', rfl, _⟩ := id ht
 have hbC := hbW.trans (hb.mono hbW.size)
 have hAc := blk hA hb
 have hRc := blk hR hb
 have hOc := blk hO hb
 have ht1 : IntsF (w.heap.size + 3) wt (.slice at' n.thn.length ct') n.thn := ht.mono (blk_lt hO)
 have hkC := hkS.below hb
 have HA : Hid ((wt.setCell ⟨w.heap.size + 1 + 1, 6, none⟩ (.slice at' n.thn.length ct')).heap[w.heap.size]? = some (.cells #[.int .i64 n.kind, .int .i64 n.op, .string (bs n.name), .int .i64 n.num, .int .i64 n.far, .slice ak n.kids.length ck, .slice at_ n.thn.length ct, .slice ae n.els.length ce] 75 (0, 0))) := blk_set _ hAc (by omega)
 have HR : Hid ((wt.setCell ⟨w.heap.size + 1 + 1, 6, none⟩ (.slice at' n.thn.length ct')).heap[w.heap.size + 1]? = some (.cells #[.int .i64 0, .int .i64 0, .string ⟨#[]⟩, .int .i64 0, .int .i64 0, .slice none 0 0, .slice none 0 0, .slice none 0 0] 88 (0, 0))) := blk_set _ hRc (by omega)
 have HO : Hid ((wt.setCell ⟨w.heap.size + 1 + 1, 6, none⟩ (.slice at' n.thn.length ct')).heap[w.heap.size + 1 + 1]? = some (.cells #[.int .i64 n.kind, .int .i64 n.op, .string (bs n.name), .int .i64 n.num, .int .i64 n.far, .slice ak' n.kids.length ck', .slice at' n.thn.length ct', .slice none 0 0] 88 (0, 0))) := by have h := heap_setCell_same wt (w.heap.size + 1 + 1) 6 _ _ (.slice at' n.thn.length ct') hOc; exact h
 have HB : Hid (Below w.heap.size w (wt.setCell ⟨w.heap.size + 1 + 1, 6, none⟩ (.slice at' n.thn.length ct'))) := hbC.trans (below_set _ _ _ _ (by omega))
 have o6 := cell_of_row _ _ 6 _ _ _ hOc
 have g6 := frozen_of_row _ _ 6 _ _ hOc
 simp at o6
 have b7 := cell_of_row _ _ 7 _ _ _ HA.out
 simp at b7
 have y6 := 0
 have Hk : Hid (IntsF (w.heap.size + 3) (wt.setCell ⟨w.heap.size + 1 + 1, 6, none⟩ (.slice at' n.thn.length ct')) (.slice ak' n.kids.length ck') n.kids) := hkC.keep (keeps_set _ _ _ _ _ (by omega))
 have Ht : Hid (IntsF (w.heap.size + 3) (wt.setCell ⟨w.heap.size + 1 + 1, 6, none⟩ (.slice at' n.thn.length ct')) (.slice at' n.thn.length ct') n.thn) := ht1.keep (keeps_set _ _ _ _ _ (by omega))
 clear hA hR hO hbW hb hbC hAc hRc hOc ht ht1 hkS hkC
 go_wp2_with fail
 have hA := HA.out
 have hR := HR.out
 have hO := HO.out
 have hbW := HB.out
 have hkS := Hk.out
 have htS := Ht.out
 clear HA HR HO HB Hk Ht b7 o6 g6 y6
 generalize wt.setCell ⟨w.heap.size + 1 + 1, 6, none⟩ (.slice at' n.thn.length ct') = W at *
 refine (HX.out _ (HV.out.below hbW)).mono ?_
 rintro e wx ⟨_, rfl, hx, hb⟩
 obtain ⟨ax', cx', rfl, _⟩ := id hx
 have hbC := hbW.trans (hb.mono hbW.size)
 have hAc := blk hA hb
 have hRc := blk hR hb
 have hOc := blk hO hb
 have hx1 : IntsF (w.heap.size + 3) wx (.slice ax' n.els.length cx') n.els := hx.mono (blk_lt hO)
 have hkC := hkS.below hb
 have htC := htS.below hb
 have HA : Hid ((wx.setCell ⟨w.heap.size + 1 + 1, 7, none⟩ (.slice ax' n.els.length cx')).heap[w.heap.size]? = some (.cells #[.int .i64 n.kind, .int .i64 n.op, .string (bs n.name), .int .i64 n.num, .int .i64 n.far, .slice ak n.kids.length ck, .slice at_ n.thn.length ct, .slice ae n.els.length ce] 75 (0, 0))) := blk_set _ hAc (by omega)
 have HR : Hid ((wx.setCell ⟨w.heap.size + 1 + 1, 7, none⟩ (.slice ax' n.els.length cx')).heap[w.heap.size + 1]? = some (.cells #[.int .i64 0, .int .i64 0, .string ⟨#[]⟩, .int .i64 0, .int .i64 0, .slice none 0 0, .slice none 0 0, .slice none 0 0] 88 (0, 0))) := blk_set _ hRc (by omega)
 have HO : Hid ((wx.setCell ⟨w.heap.size + 1 + 1, 7, none⟩ (.slice ax' n.els.length cx')).heap[w.heap.size + 1 + 1]? = some (.cells #[.int .i64 n.kind, .int .i64 n.op, .string (bs n.name), .int .i64 n.num, .int .i64 n.far, .slice ak' n.kids.length ck', .slice at' n.thn.length ct', .slice ax' n.els.length cx'] 88 (0, 0))) := by have h := heap_setCell_same wx (w.heap.size + 1 + 1) 7 _ _ (.slice ax' n.els.length cx') hOc; exact h
 have HB : Hid (Below w.heap.size w (wx.setCell ⟨w.heap.size + 1 + 1, 7, none⟩ (.slice ax' n.els.length cx'))) := hbC.trans (below_set _ _ _ _ (by omega))
 have o7 := cell_of_row _ _ 7 _ _ _ hOc
 have g7 := frozen_of_row _ _ 7 _ _ hOc
 simp at o7
 have b8 := 0
 have y7 := 0
 have Hk : Hid (IntsF (w.heap.size + 3) (wx.setCell ⟨w.heap.size + 1 + 1, 7, none⟩ (.slice ax' n.els.length cx')) (.slice ak' n.kids.length ck') n.kids) := hkC.keep (keeps_set _ _ _ _ _ (by omega))
 have Ht : Hid (IntsF (w.heap.size + 3) (wx.setCell ⟨w.heap.size + 1 + 1, 7, none⟩ (.slice ax' n.els.length cx')) (.slice at' n.thn.length ct') n.thn) := htC.keep (keeps_set _ _ _ _ _ (by omega))
 have Hx : Hid (IntsF (w.heap.size + 3) (wx.setCell ⟨w.heap.size + 1 + 1, 7, none⟩ (.slice ax' n.els.length cx')) (.slice ax' n.els.length cx') n.els) := hx1.keep (keeps_set _ _ _ _ _ (by omega))
 clear hA hR hO hbW hb hbC hAc hRc hOc hx hx1 hkS hkC htS htC
 have O0 := cell_of_row _ _ 0 _ _ _ HO.out
 have O1 := cell_of_row _ _ 1 _ _ _ HO.out
 have O2 := cell_of_row _ _ 2 _ _ _ HO.out
 have O3 := cell_of_row _ _ 3 _ _ _ HO.out
 have O4 := cell_of_row _ _ 4 _ _ _ HO.out
 have O5 := cell_of_row _ _ 5 _ _ _ HO.out
 have O6 := cell_of_row _ _ 6 _ _ _ HO.out
 have O7 := cell_of_row _ _ 7 _ _ _ HO.out
 simp at O0 O1 O2 O3 O4 O5 O6 O7
 have R0 := cell_of_row _ _ 0 _ _ _ HR.out
 have R1 := cell_of_row _ _ 1 _ _ _ HR.out
 have R2 := cell_of_row _ _ 2 _ _ _ HR.out
 have R3 := cell_of_row _ _ 3 _ _ _ HR.out
 have R4 := cell_of_row _ _ 4 _ _ _ HR.out
 have R5 := cell_of_row _ _ 5 _ _ _ HR.out
 have R6 := cell_of_row _ _ 6 _ _ _ HR.out
 have R7 := cell_of_row _ _ 7 _ _ _ HR.out
 simp at R0 R1 R2 R3 R4 R5 R6 R7
 have G0 := frozen_of_row _ _ 0 _ _ HR.out
 have G1 := frozen_of_row _ _ 1 _ _ HR.out
 have G2 := frozen_of_row _ _ 2 _ _ HR.out
 have G3 := frozen_of_row _ _ 3 _ _ HR.out
 have G4 := frozen_of_row _ _ 4 _ _ HR.out
 have G5 := frozen_of_row _ _ 5 _ _ HR.out
 have G6 := frozen_of_row _ _ 6 _ _ HR.out
 have G7 := frozen_of_row _ _ 7 _ _ HR.out
 go_wp2
 refine bodyPost_ret (v := nodeV n (.slice ak' n.kids.length ck') (.slice at' n.thn.length ct') (.slice ax' n.els.length cx')) (by simp [results, Tryz.results49, go_sem, R0, R1, R2, R3, R4, R5, R6, R7]) rfl ⟨_, _, _, rfl, ?_, ?_⟩
 ·refine NodeValsF.mono ?_ (by omega : w.heap.size ≤ w.heap.size + 3)
  refine NodeValsF.set ?_ (by omega)
  refine NodeValsF.set ?_ (by omega)
  refine NodeValsF.set ?_ (by omega)
  refine NodeValsF.set ?_ (by omega)
  refine NodeValsF.set ?_ (by omega)
  refine NodeValsF.set ?_ (by omega)
  refine NodeValsF.set ?_ (by omega)
  refine NodeValsF.set ?_ (by omega)
  exact ⟨Hk.out, Ht.out, Hx.out⟩
 ·refine Below.trans ?_ (below_set _ _ _ _ (by omega))
  refine Below.trans ?_ (below_set _ _ _ _ (by omega))
  refine Below.trans ?_ (below_set _ _ _ _ (by omega))
  refine Below.trans ?_ (below_set _ _ _ _ (by omega))
  refine Below.trans ?_ (below_set _ _ _ _ (by omega))
  refine Below.trans ?_ (below_set _ _ _ _ (by omega))
  refine Below.trans ?_ (below_set _ _ _ _ (by omega))
  refine Below.trans ?_ (below_set _ _ _ _ (by omega))
  exact HB.out
end Go.Proofs.YteeklmgkhacbcaaGreatDoor
