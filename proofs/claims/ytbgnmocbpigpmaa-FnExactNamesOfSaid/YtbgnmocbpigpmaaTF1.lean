/-
  laws.toInt64S, toVarS: copies in memory of their own.
-/
import Derived.Test.YtbgnmocbpigpmaaTreeTo3
namespace Go.Proofs.Ytbgnmocbpigpmaa
open Go.RowKit
set_option linter.unusedVariables false

def IntsF (lo : Nat) (w : World) (v : Value) (xs : List Int) : Prop :=
  ∃ a c, v = .slice a xs.length c ∧ xs.length ≤ c ∧ (xs ≠ [] → ∃ b o, a = some ⟨b, o, none⟩ ∧ lo ≤ b ∧ (∃ cs, w.heap[b]? = some (.cells cs 2 (0, 0)) ∧ o + xs.length ≤ cs.size) ∧ ∀ (i : Nat) (x : Int), xs[i]? = some x → w.cell? ⟨b, o + i, none⟩ = some (.int .i64 x))
theorem IntsF.toV {lo : Nat} {w : World} {v : Value} {xs : List Int} (h : IntsF lo w v xs) : IntsV lo w v xs := by
  obtain ⟨a, c, h1, h2, h3⟩ := h
  exact ⟨a, c, h1, h2, fun hn => by obtain ⟨b, o, e, hl, _, hc⟩ := h3 hn; exact ⟨b, o, e, hl, hc⟩⟩
theorem row_keep {lo b n : Nat} {w w' : World} {T : TypeId} (hk : Keeps lo w w') (hl : lo ≤ b) (h : ∃ cs : Array Value, w.heap[b]? = some (.cells cs T (0, 0)) ∧ n ≤ cs.size) : ∃ cs : Array Value, w'.heap[b]? = some (.cells cs T (0, 0)) ∧ n ≤ cs.size := by
  obtain ⟨cs, h1, h2⟩ := h
  exact ⟨cs, (hk b hl (Array.getElem?_eq_some_iff.1 h1).1).trans h1, h2⟩
theorem IntsF.keep {lo : Nat} {w w' : World} {v : Value} {xs : List Int} (h : IntsF lo w v xs) (hk : Keeps lo w w') : IntsF lo w' v xs := by
  obtain ⟨a, c, h1, h2, h3⟩ := h
  exact ⟨a, c, h1, h2, fun hn => by obtain ⟨b, o, e, hl, hr, hc⟩ := h3 hn; exact ⟨b, o, e, hl, row_keep hk hl hr, fun i x hx => hk.cell (p := ⟨b, o + i, none⟩) hl (hc i x hx)⟩⟩
theorem IntsF.mono {lo lo' : Nat} {w : World} {v : Value} {xs : List Int} (h : IntsF lo w v xs) (hl : lo' ≤ lo) : IntsF lo' w v xs := by
  obtain ⟨a, c, h1, h2, h3⟩ := h
  exact ⟨a, c, h1, h2, fun hn => by obtain ⟨b, o, e, hb, hc⟩ := h3 hn; exact ⟨b, o, e, Nat.le_trans hl hb, hc⟩⟩
theorem IntsF.below {lo : Nat} {w w' : World} {v : Value} {xs : List Int} (h : IntsF lo w v xs) (hb : Below w.heap.size w w') : IntsF lo w' v xs := h.keep (.of_below hb)
def VarsF (lo : Nat) (w : World) (v : Value) (xs : List LVar) : Prop :=
  ∃ a c, v = .slice a xs.length c ∧ xs.length ≤ c ∧ (xs ≠ [] → ∃ b o, a = some ⟨b, o, none⟩ ∧ lo ≤ b ∧ (∃ cs, w.heap[b]? = some (.cells cs 85 (0, 0)) ∧ o + xs.length * 4 ≤ cs.size) ∧ ∀ (i : Nat) (x : LVar), xs[i]? = some x → VarAt w b (o + i * 4) x)
theorem VarsF.toV {lo : Nat} {w : World} {v : Value} {xs : List LVar} (h : VarsF lo w v xs) : VarsV lo w v xs := by
  obtain ⟨a, c, h1, h2, h3⟩ := h
  exact ⟨a, c, h1, h2, fun hn => by obtain ⟨b, o, e, hl, _, hc⟩ := h3 hn; exact ⟨b, o, e, hl, hc⟩⟩
theorem VarsF.keep {lo : Nat} {w w' : World} {v : Value} {xs : List LVar} (h : VarsF lo w v xs) (hk : Keeps lo w w') : VarsF lo w' v xs := by
  obtain ⟨a, c, h1, h2, h3⟩ := h
  exact ⟨a, c, h1, h2, fun hn => by obtain ⟨b, o, e, hl, hr, hc⟩ := h3 hn; exact ⟨b, o, e, hl, row_keep hk hl hr, fun i x hx => (hc i x hx).keep hk hl⟩⟩
theorem VarsF.mono {lo lo' : Nat} {w : World} {v : Value} {xs : List LVar} (h : VarsF lo w v xs) (hl : lo' ≤ lo) : VarsF lo' w v xs := by
  obtain ⟨a, c, h1, h2, h3⟩ := h
  exact ⟨a, c, h1, h2, fun hn => by obtain ⟨b, o, e, hb, hc⟩ := h3 hn; exact ⟨b, o, e, Nat.le_trans hl hb, hc⟩⟩
theorem VarsF.below {lo : Nat} {w w' : World} {v : Value} {xs : List LVar} (h : VarsF lo w v xs) (hb : Below w.heap.size w w') : VarsF lo w' v xs := h.keep (.of_below hb)
structure NodeValsF (lo : Nat) (w : World) (n : LNode) (vk vt ve : Value) : Prop where
  kids : IntsF lo w vk n.kids
  thn : IntsF lo w vt n.thn
  els : IntsF lo w ve n.els
theorem NodeValsF.toV {lo : Nat} {w : World} {n : LNode} {vk vt ve : Value} (h : NodeValsF lo w n vk vt ve) : NodeVals lo w n vk vt ve := ⟨h.kids.toV, h.thn.toV, h.els.toV⟩
theorem NodeValsF.keep {lo : Nat} {w w' : World} {n : LNode} {vk vt ve : Value} (h : NodeValsF lo w n vk vt ve) (hk : Keeps lo w w') : NodeValsF lo w' n vk vt ve := ⟨h.kids.keep hk, h.thn.keep hk, h.els.keep hk⟩
theorem NodeValsF.mono {lo lo' : Nat} {w : World} {n : LNode} {vk vt ve : Value} (h : NodeValsF lo w n vk vt ve) (hl : lo' ≤ lo) : NodeValsF lo' w n vk vt ve := ⟨h.kids.mono hl, h.thn.mono hl, h.els.mono hl⟩
theorem NodeValsF.below {lo : Nat} {w w' : World} {n : LNode} {vk vt ve : Value} (h : NodeValsF lo w n vk vt ve) (hb : Below w.heap.size w w') : NodeValsF lo w' n vk vt ve := h.keep (.of_below hb)
theorem NodeValsF.set {lo : Nat} {w : World} {n : LNode} {vk vt ve : Value} (h : NodeValsF lo w n vk vt ve) {g i : Nat} {u : Value} (hl : g < lo) : NodeValsF lo (w.setCell ⟨g, i, none⟩ u) n vk vt ve := h.keep (keeps_set _ _ _ _ _ hl)
def NodeAtF (lo : Nat) (w : World) (b o : Nat) (n : LNode) : Prop := ∃ vk vt ve, NodeCells w b o n vk vt ve ∧ NodeValsF lo w n vk vt ve
theorem NodeAtF.keep {lo : Nat} {w w' : World} {b o : Nat} {n : LNode} (h : NodeAtF lo w b o n) (hk : Keeps lo w w') (hl : lo ≤ b) : NodeAtF lo w' b o n := by
  obtain ⟨vk, vt, ve, h1, h2⟩ := h
  exact ⟨vk, vt, ve, h1.keep hk hl, h2.keep hk⟩
theorem NodeAtF.mono {lo lo' : Nat} {w : World} {b o : Nat} {n : LNode} (h : NodeAtF lo w b o n) (hl : lo' ≤ lo) : NodeAtF lo' w b o n := by
  obtain ⟨vk, vt, ve, h1, h2⟩ := h
  exact ⟨vk, vt, ve, h1, h2.mono hl⟩
theorem NodeAtF.toV {lo : Nat} {w : World} {b o : Nat} {n : LNode} (h : NodeAtF lo w b o n) : NodeAt lo w b o n := by
  obtain ⟨vk, vt, ve, h1, h2⟩ := h
  exact ⟨vk, vt, ve, h1, h2.toV⟩
def NodesF (lo : Nat) (w : World) (v : Value) (xs : List LNode) : Prop :=
  ∃ a c, v = .slice a xs.length c ∧ xs.length ≤ c ∧ (xs ≠ [] → ∃ b o, a = some ⟨b, o, none⟩ ∧ lo ≤ b ∧ (∃ cs, w.heap[b]? = some (.cells cs 99 (0, 0)) ∧ o + xs.length * 8 ≤ cs.size) ∧ ∀ (i : Nat) (x : LNode), xs[i]? = some x → NodeAtF lo w b (o + i * 8) x)
theorem NodesF.toV {lo : Nat} {w : World} {v : Value} {xs : List LNode} (h : NodesF lo w v xs) : NodesV lo w v xs := by
  obtain ⟨a, c, h1, h2, h3⟩ := h
  exact ⟨a, c, h1, h2, fun hn => by obtain ⟨b, o, e, hl, _, hc⟩ := h3 hn; exact ⟨b, o, e, hl, fun i x hx => (hc i x hx).toV⟩⟩
theorem NodesF.keep {lo : Nat} {w w' : World} {v : Value} {xs : List LNode} (h : NodesF lo w v xs) (hk : Keeps lo w w') : NodesF lo w' v xs := by
  obtain ⟨a, c, h1, h2, h3⟩ := h
  exact ⟨a, c, h1, h2, fun hn => by obtain ⟨b, o, e, hl, hr, hc⟩ := h3 hn; exact ⟨b, o, e, hl, row_keep hk hl hr, fun i x hx => (hc i x hx).keep hk hl⟩⟩
theorem NodesF.mono {lo lo' : Nat} {w : World} {v : Value} {xs : List LNode} (h : NodesF lo w v xs) (hl : lo' ≤ lo) : NodesF lo' w v xs := by
  obtain ⟨a, c, h1, h2, h3⟩ := h
  exact ⟨a, c, h1, h2, fun hn => by obtain ⟨b, o, e, hb, hr, hc⟩ := h3 hn; exact ⟨b, o, e, Nat.le_trans hl hb, hr, fun i x hx => (hc i x hx).mono hl⟩⟩
theorem NodesF.below {lo : Nat} {w w' : World} {v : Value} {xs : List LNode} (h : NodesF lo w v xs) (hb : Below w.heap.size w w') : NodesF lo w' v xs := h.keep (.of_below hb)
structure TreeF (lo : Nat) (w : World) (vv vn vb : Value) (T : LTree) : Prop where
  vars : VarsF lo w vv T.vars
  nodes : NodesF lo w vn T.nodes
  body : IntsF lo w vb T.body
theorem TreeF.toV {lo : Nat} {w : World} {vv vn vb : Value} {T : LTree} (h : TreeF lo w vv vn vb T) : TreeV lo w vv vn vb T := ⟨h.vars.toV, h.nodes.toV, h.body.toV⟩
theorem TreeF.keep {lo : Nat} {w w' : World} {vv vn vb : Value} {T : LTree} (h : TreeF lo w vv vn vb T) (hk : Keeps lo w w') : TreeF lo w' vv vn vb T := ⟨h.vars.keep hk, h.nodes.keep hk, h.body.keep hk⟩
theorem TreeF.mono {lo lo' : Nat} {w : World} {vv vn vb : Value} {T : LTree} (h : TreeF lo w vv vn vb T) (hl : lo' ≤ lo) : TreeF lo' w vv vn vb T := ⟨h.vars.mono hl, h.nodes.mono hl, h.body.mono hl⟩
theorem TreeF.below {lo : Nat} {w w' : World} {vv vn vb : Value} {T : LTree} (h : TreeF lo w vv vn vb T) (hb : Below w.heap.size w w') : TreeF lo w' vv vn vb T := h.keep (.of_below hb)
theorem ints_of_laidF {w : World} {g n : Nat} {xs : List Int} (h : Laid w g n 1 2 (xs.map (Value.int .i64)) n) (hn : xs.length = n) : IntsF g w (.slice (some ⟨g, 0, none⟩) n n) xs := by
  obtain ⟨cur, h1, h2, _⟩ := id h
  exact ⟨some ⟨g, 0, none⟩, n, by rw [hn], by omega, fun _ => ⟨g, 0, rfl, Nat.le_refl _, ⟨cur, h1, by omega⟩, fun i x hx => by
    rw [Nat.zero_add]
    exact h.read (by have := (List.getElem?_eq_some_iff.1 hx).1; omega) (map_at _ _ _ _ hx)⟩⟩
theorem vars_of_laidF {w : World} {g n : Nat} {xs : List LVar} (h : Laid w g n 4 85 (varCells xs) (n * 4)) (hn : xs.length = n) : VarsF g w (.slice (some ⟨g, 0, none⟩) n n) xs := by
  obtain ⟨cur, h1, h2, _⟩ := id h
  exact ⟨some ⟨g, 0, none⟩, n, by rw [hn], by omega, fun _ => ⟨g, 0, rfl, Nat.le_refl _, ⟨cur, h1, by omega⟩, fun i x hx => by
    have hi : i < n := by have := (List.getElem?_eq_some_iff.1 hx).1; omega
    obtain ⟨u0, u1, u2, u3⟩ := varCells_at xs i x hx
    rw [Nat.zero_add]
    exact ⟨h.read (by omega) u0, h.read (by omega) u1, h.read (by omega) u2, h.read (by omega) u3⟩⟩⟩
end Go.Proofs.Ytbgnmocbpigpmaa
namespace Go.Proofs.Ytbgnmocbpigpmaa
open Go.RowKit
set_option linter.unusedVariables false
attribute [local go_sem] bs_size bs_get bs_extract bs_append bs_eq bs_toList

set_option maxHeartbeats 1600000 in
theorem toIntsF_any (lo : Nat) (v : Value) (xs : List Int) (w : World) (h : IntsV lo w v xs) (hl : xs.length ≤ 1048576) :
    Calls Try.prog 50 #[v] w fun e w' => ∃ v', e = .returned v' ∧ IntsF w.heap.size w' v' xs ∧ Below w.heap.size w w' := by
  obtain ⟨a, c, rfl, hc, hhd⟩ := h
  obtain ⟨i0, hi, hz0, hz1, hz2⟩ := info_parts infoI
  have hmax2 : xs.length ≤ maxLen := by unfold maxLen; omega
  have HHD : Hid (xs ≠ [] → ∃ b o, a = some ⟨b, o, none⟩ ∧ lo ≤ b ∧ ∀ (i : Nat) (x : Int), xs[i]? = some x → w.cell? ⟨b, o + i, none⟩ = some (.int .i64 x)) := hhd
  clear hhd hc
  go_enter Try.func50, Try.ntmps50
  go_wp2_with (at_make; refine wpList_make_full _ rfl (.tmp 6) (.tmp 6) 24 rfl w.heap.size 2 i0 (.int .i64 0) 1 Try.underlying24 hi hz0 hz1 .i64 .i64 xs.length xs.length xs.length rfl rfl rfl rfl ?_ hmax2 (Nat.le_refl _) ?_)
  · rw [hz2]; omega
  · intro w1 hown hgrow
    have hB : Below w.heap.size w w1 := (Below.refl _ _).grown hgrow (Nat.le_refl _) (fun k hk => by cases hk)
    have hP : Laid w1 w.heap.size xs.length 1 2 (xs.map (Value.int .i64)) 0 := .of_own hown
    clear hgrow hown
    go_wp2
    go_loopw [4] (fun i wr => ∃ k : Nat, k ≤ xs.length ∧ i = .int .i64 k ∧ Laid wr w.heap.size xs.length 1 2 (xs.map (Value.int .i64)) k ∧ Below w.heap.size w wr) (fun i _ => xs.length - (intOf i).toNat)
    case atStart => exact ⟨0, Nat.zero_le _, rfl, hP, hB⟩
    case round =>
      clear hP hB
      obtain ⟨k, hk, rfl, hP, hB⟩ := hrel
      have hgl : w.heap.size < wr.heap.size := hP.lt
      by_cases hlt : k < xs.length
      · obtain ⟨x, hx⟩ : ∃ x, xs[k]? = some x := ⟨xs[k], List.getElem?_eq_getElem hlt⟩
        obtain ⟨b, o, ha, _, hcl⟩ := HHD.out (by intro e; rw [e] at hlt; simp at hlt)
        subst ha
        have hc0 := hcl k x hx
        have hbl := World.block_lt_of_cell? _ _ hc0
        have hc1 := (hB.cell (p := ⟨b, o + k, none⟩) hbl).trans hc0
        obtain ⟨⟨y0, d0⟩, f0⟩ := hP.cell (i := k) (by omega)
        have e0 := hP.store (by omega) (map_at (Value.int .i64) xs k x hx)
        have E0 : Hid (Laid (wr.setCell ⟨w.heap.size, k, none⟩ (.int .i64 x)) w.heap.size xs.length 1 2 (xs.map (Value.int .i64)) (k + 1)) := e0
        have B0 : Hid (Below w.heap.size w (wr.setCell ⟨w.heap.size, k, none⟩ (.int .i64 x))) := hB.setCell (Nat.le_refl _) _
        clear hP hB hcl hc0 e0 hx
        go_wp2_with fail
        go_roundw
        case rel => exact ⟨k + 1, by omega, by go_num, E0.out, B0.out⟩
        case measure => simp [intOf]; omega
      · have hke : k = xs.length := by omega
        subst hke
        have HP : Hid (IntsF w.heap.size wr (.slice (some ⟨w.heap.size, 0, none⟩) xs.length xs.length) xs) := ints_of_laidF hP rfl
        clear hP
        go_wp2
        go_ret
        exact ⟨_, rfl, HP.out, hB⟩


set_option maxHeartbeats 3200000 in
theorem toVarsF_any (lo : Nat) (v : Value) (xs : List LVar) (w : World) (h : VarsV lo w v xs) (hl : xs.length ≤ 1048576) :
    Calls Try.prog 48 #[v] w fun e w' => ∃ v', e = .returned v' ∧ VarsF w.heap.size w' v' xs ∧ Below w.heap.size w w' := by
  obtain ⟨a, c, rfl, hc, hhd⟩ := h
  obtain ⟨i0, hi, hz0, hz1, hz2⟩ := info_parts infoV
  have hmax2 : xs.length ≤ maxLen := by unfold maxLen; omega
  have HHD : Hid (xs ≠ [] → ∃ b o, a = some ⟨b, o, none⟩ ∧ lo ≤ b ∧ ∀ (i : Nat) (x : LVar), xs[i]? = some x → VarAt w b (o + i * 4) x) := hhd
  clear hhd hc
  go_enter Try.func48, Try.ntmps48
  go_wp2_with (at_make; refine wpList_make_full _ rfl (.tmp 6) (.tmp 6) 31 rfl w.heap.size 85 i0 (.agg #[.string ⟨#[]⟩, .int .i64 0, .int .i64 0, .int .i64 0]) 4 Try.underlying31 hi hz0 hz1 .i64 .i64 xs.length xs.length xs.length rfl rfl rfl rfl ?_ hmax2 (Nat.le_refl _) ?_)
  · rw [hz2]; omega
  · intro w1 hown hgrow
    have hB : Below w.heap.size w w1 := (Below.refl _ _).grown hgrow (Nat.le_refl _) (fun k hk => by cases hk)
    have hP : Laid w1 w.heap.size xs.length 4 85 (varCells xs) (0 * 4) := .of_own hown
    clear hgrow hown
    go_wp2
    go_loopw [4] (fun i wr => ∃ k : Nat, k ≤ xs.length ∧ i = .int .i64 k ∧ Laid wr w.heap.size xs.length 4 85 (varCells xs) (k * 4) ∧ Below w.heap.size w wr) (fun i _ => xs.length - (intOf i).toNat)
    case atStart => exact ⟨0, Nat.zero_le _, rfl, hP, hB⟩
    case round =>
      clear hP hB
      obtain ⟨k, hk, rfl, hP, hB⟩ := hrel
      have hgl : w.heap.size < wr.heap.size := hP.lt
      by_cases hlt : k < xs.length
      · obtain ⟨x, hx⟩ : ∃ x, xs[k]? = some x := ⟨xs[k], List.getElem?_eq_getElem hlt⟩
        obtain ⟨b, o, ha, _, hcl⟩ := HHD.out (by intro e; rw [e] at hlt; simp at hlt)
        subst ha
        have hbl : b < w.heap.size := World.block_lt_of_cell? _ _ (hcl k x hx).1
        obtain ⟨c0, c1, c2, c3⟩ := (hcl k x hx).keep (lo := 0) (fun g _ hg => hB.block g hg) (Nat.zero_le _)
        obtain ⟨u0, u1, u2, u3⟩ := varCells_at xs k x hx
        have HU0 : Hid _ := u0
        have HU1 : Hid _ := u1
        have HU2 : Hid _ := u2
        have HU3 : Hid _ := u3
        have hto : Hid (∀ w, Calls Try.prog 108 #[varV x] w fun e w' => e = .returned (varV x) ∧ Below w.heap.size w w') := fun w => toVar_any x w
        have HP : Hid (Laid wr w.heap.size xs.length 4 85 (varCells xs) (k * 4)) := hP
        clear hcl hx u0 u1 u2 u3 hP
        go_wp2_with fail
        refine (hto.out _).mono ?_
        rintro e w2 ⟨rfl, hb⟩
        have hP2 := HP.out.below hb
        have hB2 := hB.trans (hb.mono hB.size)
        have hgl2 : w.heap.size < w2.heap.size := Nat.lt_of_lt_of_le hgl hb.size
        obtain ⟨⟨y0, d0⟩, f0⟩ := hP2.cell (i := k * 4) (by omega)
        obtain ⟨⟨y1, d1⟩, f1⟩ := hP2.cell (i := k * 4 + 1) (by omega)
        obtain ⟨⟨y2, d2⟩, f2⟩ := hP2.cell (i := k * 4 + 2) (by omega)
        obtain ⟨⟨y3, d3⟩, f3⟩ := hP2.cell (i := k * 4 + 3) (by omega)
        have e3 := (((hP2.store (by omega) HU0.out).store (by omega) HU1.out).store (by omega) HU2.out).store (by omega) HU3.out
        have E3 : Hid (Laid ((((w2.setCell ⟨w.heap.size, k * 4, none⟩ (.string (bs x.name))).setCell ⟨w.heap.size, k * 4 + 1, none⟩ (.int .i64 x.kind)).setCell ⟨w.heap.size, k * 4 + 2, none⟩ (.int .i64 x.type)).setCell ⟨w.heap.size, k * 4 + 3, none⟩ (.int .i64 x.size)) w.heap.size xs.length 4 85 (varCells xs) (k * 4 + 1 + 1 + 1 + 1)) := e3
        have B3 : Hid (Below w.heap.size w ((((w2.setCell ⟨w.heap.size, k * 4, none⟩ (.string (bs x.name))).setCell ⟨w.heap.size, k * 4 + 1, none⟩ (.int .i64 x.kind)).setCell ⟨w.heap.size, k * 4 + 2, none⟩ (.int .i64 x.type)).setCell ⟨w.heap.size, k * 4 + 3, none⟩ (.int .i64 x.size))) :=
          (((hB2.setCell (Nat.le_refl _) _).setCell (Nat.le_refl _) _).setCell (Nat.le_refl _) _).setCell (Nat.le_refl _) _
        clear hP2 e3 hb hB hB2 HP c0 c1 c2 c3 hto
        go_wp2_with fail
        go_roundw
        case rel => exact ⟨k + 1, by omega, by go_num, by have h := E3.out; rwa [show k * 4 + 1 + 1 + 1 + 1 = (k + 1) * 4 from by omega] at h, B3.out⟩
        case measure => simp [intOf]; omega
      · have hke : k = xs.length := by omega
        subst hke
        have HP : Hid (VarsF w.heap.size wr (.slice (some ⟨w.heap.size, 0, none⟩) xs.length xs.length) xs) := vars_of_laidF hP rfl
        clear hP
        go_wp2
        go_ret
        exact ⟨_, rfl, HP.out, hB⟩
end Go.Proofs.Ytbgnmocbpigpmaa
