/-
  How a tree that comes in is read.
-/
import Derived.WalkKit
import Derived.Laws.Strings2
import Derived.Laws.Strings3
import Derived.Laws.Concat
import Derived.Test.YtepjaoapjpmjkaaGreatDoorBase
import Derived.OwnWalk
import Derived.Laws.OwnMore
import Derived.Lib.SmallJoins
import Derived.Deep.Slices
import Derived.ChangeOld
import Derived.ShutString
namespace Go.Proofs.YtepjaoapjpmjkaaGreatDoor
def bs (l : List UInt8) : ByteArray := ⟨l.toArray⟩
def ch (l : List UInt8) (k : Nat) : UInt8 := l.getD k 0
theorem bs_toList (l : List UInt8) : (bs l).toList = l := ByteArray.toList_mk l
theorem bs_size (l : List UInt8) : (bs l).size = l.length := rfl
theorem bs_get (l : List UInt8) (k : Nat) (h : k < (bs l).size) : (bs l)[k]'h = ch l k := by
  have h' : k < l.length := by rw [bs_size] at h; exact h
  show l.toArray[k] = l.getD k 0
  rw [List.getD_eq_getElem?_getD, List.getElem?_eq_getElem h']
  simp
theorem bs_extract (l : List UInt8) (a b : Nat) : (bs l).extract a b = bs ((l.drop a).take (b - a)) := ByteArray.extract_mk l a b
theorem bs_append (a b : List UInt8) : bs a ++ bs b = bs (a ++ b) := ByteArray.mk_append_mk a b
theorem bs_eq (a b : List UInt8) : ((bs a).toList == (bs b).toList) = (a == b) := by rw [bs_toList, bs_toList]
theorem bs_of (s : ByteArray) : s = bs s.data.toList := by cases s; rfl
theorem bs_inj {a b : List UInt8} (h : bs a = bs b) : a = b := by have := congrArg ByteArray.toList h; rwa [bs_toList, bs_toList] at this
theorem ch_lo (l : List UInt8) (k : Nat) : (0 : Int) ≤ ((ch l k).toNat : Int) := by omega
theorem ch_hi (l : List UInt8) (k : Nat) : ((ch l k).toNat : Int) ≤ 255 := by have := (ch l k).toNat_lt; omega
theorem ch_cons (c : UInt8) (l : List UInt8) : ch (c :: l) 0 = c := rfl
theorem ch_drop (l : List UInt8) (p k : Nat) : ch (l.drop p) k = ch l (p + k) := by unfold ch; simp [List.getD_eq_getElem?_getD]
theorem ch_get (l : List UInt8) (k : Nat) (h : k < l.length) : ch l k = l[k] := by unfold ch; rw [List.getD_eq_getElem?_getD, List.getElem?_eq_getElem h]; rfl
theorem drop_at (l : List UInt8) (k : Nat) (h : k < l.length) : l.drop k = ch l k :: l.drop (k + 1) := by rw [List.drop_eq_getElem_cons h, ch_get l k h]
theorem take_at (l : List UInt8) (k : Nat) (h : k < l.length) : l.take (k + 1) = l.take k ++ [ch l k] := by rw [List.take_succ_eq_append_getElem h, ch_get l k h]
end Go.Proofs.YtepjaoapjpmjkaaGreatDoor
namespace Go.Proofs.YtepjaoapjpmjkaaGreatDoor
open Go.RowKit
set_option linter.unusedVariables false
structure LVar where
  name : List UInt8
  kind : Int
  type : Int
  size : Int
deriving DecidableEq, Inhabited
structure LNode where
  kind : Int
  op : Int
  name : List UInt8
  num : Int
  far : Int
  kids : List Int
  thn : List Int
  els : List Int
deriving DecidableEq, Inhabited
structure LTree where
  vars : List LVar
  nodes : List LNode
  body : List Int
deriving DecidableEq, Inhabited
def Keeps (lo : Nat) (w w' : World) : Prop := ∀ b, lo ≤ b → b < w.heap.size → w'.heap[b]? = w.heap[b]?
theorem Keeps.of_below {lo : Nat} {w w' : World} (h : Below w.heap.size w w') : Keeps lo w w' := fun b _ hb => h.block b hb
theorem Keeps.cell {lo : Nat} {w w' : World} (h : Keeps lo w w') {p : Addr} {u : Value} (hl : lo ≤ p.block) (hc : w.cell? p = some u) : w'.cell? p = some u := by
  rw [World.cell?_of_block (h p.block hl (World.block_lt_of_cell? _ _ hc))]; exact hc
theorem Keeps.mono {lo lo' : Nat} {w w' : World} (h : Keeps lo w w') (hl : lo ≤ lo') : Keeps lo' w w' := fun b hb hs => h b (Nat.le_trans hl hb) hs
def IntsV (lo : Nat) (w : World) (v : Value) (xs : List Int) : Prop :=
  ∃ a c, v = .slice a xs.length c ∧ xs.length ≤ c ∧ (xs ≠ [] → ∃ b o, a = some ⟨b, o, none⟩ ∧ lo ≤ b ∧ ∀ (i : Nat) (x : Int), xs[i]? = some x → w.cell? ⟨b, o + i, none⟩ = some (.int .i64 x))
theorem IntsV.keep {lo : Nat} {w w' : World} {v : Value} {xs : List Int} (h : IntsV lo w v xs) (hk : Keeps lo w w') : IntsV lo w' v xs := by
  obtain ⟨a, c, h1, h2, h3⟩ := h
  exact ⟨a, c, h1, h2, fun hn => by obtain ⟨b, o, e, hl, hc⟩ := h3 hn; exact ⟨b, o, e, hl, fun i x hx => hk.cell (p := ⟨b, o + i, none⟩) hl (hc i x hx)⟩⟩
theorem IntsV.mono {lo lo' : Nat} {w : World} {v : Value} {xs : List Int} (h : IntsV lo w v xs) (hl : lo' ≤ lo) : IntsV lo' w v xs := by
  obtain ⟨a, c, h1, h2, h3⟩ := h
  exact ⟨a, c, h1, h2, fun hn => by obtain ⟨b, o, e, hb, hc⟩ := h3 hn; exact ⟨b, o, e, Nat.le_trans hl hb, hc⟩⟩
theorem IntsV.below {lo : Nat} {w w' : World} {v : Value} {xs : List Int} (h : IntsV lo w v xs) (hb : Below w.heap.size w w') : IntsV lo w' v xs := h.keep (.of_below hb)
def VarAt (w : World) (b o : Nat) (x : LVar) : Prop :=
  w.cell? ⟨b, o, none⟩ = some (.string (bs x.name)) ∧ w.cell? ⟨b, o + 1, none⟩ = some (.int .i64 x.kind) ∧ w.cell? ⟨b, o + 2, none⟩ = some (.int .i64 x.type) ∧ w.cell? ⟨b, o + 3, none⟩ = some (.int .i64 x.size)
theorem VarAt.keep {lo : Nat} {w w' : World} {b o : Nat} {x : LVar} (h : VarAt w b o x) (hk : Keeps lo w w') (hl : lo ≤ b) : VarAt w' b o x :=
  ⟨hk.cell (p := ⟨b, o, none⟩) hl h.1, hk.cell (p := ⟨b, o + 1, none⟩) hl h.2.1, hk.cell (p := ⟨b, o + 2, none⟩) hl h.2.2.1, hk.cell (p := ⟨b, o + 3, none⟩) hl h.2.2.2⟩
def VarsV (lo : Nat) (w : World) (v : Value) (xs : List LVar) : Prop :=
  ∃ a c, v = .slice a xs.length c ∧ xs.length ≤ c ∧ (xs ≠ [] → ∃ b o, a = some ⟨b, o, none⟩ ∧ lo ≤ b ∧ ∀ (i : Nat) (x : LVar), xs[i]? = some x → VarAt w b (o + i * 4) x)
theorem VarsV.keep {lo : Nat} {w w' : World} {v : Value} {xs : List LVar} (h : VarsV lo w v xs) (hk : Keeps lo w w') : VarsV lo w' v xs := by
  obtain ⟨a, c, h1, h2, h3⟩ := h
  exact ⟨a, c, h1, h2, fun hn => by obtain ⟨b, o, e, hl, hc⟩ := h3 hn; exact ⟨b, o, e, hl, fun i x hx => (hc i x hx).keep hk hl⟩⟩
theorem VarsV.mono {lo lo' : Nat} {w : World} {v : Value} {xs : List LVar} (h : VarsV lo w v xs) (hl : lo' ≤ lo) : VarsV lo' w v xs := by
  obtain ⟨a, c, h1, h2, h3⟩ := h
  exact ⟨a, c, h1, h2, fun hn => by obtain ⟨b, o, e, hb, hc⟩ := h3 hn; exact ⟨b, o, e, Nat.le_trans hl hb, hc⟩⟩
theorem VarsV.below {lo : Nat} {w w' : World} {v : Value} {xs : List LVar} (h : VarsV lo w v xs) (hb : Below w.heap.size w w') : VarsV lo w' v xs := h.keep (.of_below hb)
structure NodeVals (lo : Nat) (w : World) (n : LNode) (vk vt ve : Value) : Prop where
  kids : IntsV lo w vk n.kids
  thn : IntsV lo w vt n.thn
  els : IntsV lo w ve n.els
theorem NodeVals.keep {lo : Nat} {w w' : World} {n : LNode} {vk vt ve : Value} (h : NodeVals lo w n vk vt ve) (hk : Keeps lo w w') : NodeVals lo w' n vk vt ve := ⟨h.kids.keep hk, h.thn.keep hk, h.els.keep hk⟩
theorem NodeVals.mono {lo lo' : Nat} {w : World} {n : LNode} {vk vt ve : Value} (h : NodeVals lo w n vk vt ve) (hl : lo' ≤ lo) : NodeVals lo' w n vk vt ve := ⟨h.kids.mono hl, h.thn.mono hl, h.els.mono hl⟩
theorem NodeVals.below {lo : Nat} {w w' : World} {n : LNode} {vk vt ve : Value} (h : NodeVals lo w n vk vt ve) (hb : Below w.heap.size w w') : NodeVals lo w' n vk vt ve := h.keep (.of_below hb)
abbrev nodeV (n : LNode) (vk vt ve : Value) : Value := .agg #[.int .i64 n.kind, .int .i64 n.op, .string (bs n.name), .int .i64 n.num, .int .i64 n.far, vk, vt, ve]
structure NodeCells (w : World) (b o : Nat) (n : LNode) (vk vt ve : Value) : Prop where
  c0 : w.cell? ⟨b, o, none⟩ = some (.int .i64 n.kind)
  c1 : w.cell? ⟨b, o + 1, none⟩ = some (.int .i64 n.op)
  c2 : w.cell? ⟨b, o + 2, none⟩ = some (.string (bs n.name))
  c3 : w.cell? ⟨b, o + 3, none⟩ = some (.int .i64 n.num)
  c4 : w.cell? ⟨b, o + 4, none⟩ = some (.int .i64 n.far)
  c5 : w.cell? ⟨b, o + 5, none⟩ = some vk
  c6 : w.cell? ⟨b, o + 6, none⟩ = some vt
  c7 : w.cell? ⟨b, o + 7, none⟩ = some ve
theorem NodeCells.keep {lo : Nat} {w w' : World} {b o : Nat} {n : LNode} {vk vt ve : Value} (h : NodeCells w b o n vk vt ve) (hk : Keeps lo w w') (hl : lo ≤ b) : NodeCells w' b o n vk vt ve :=
  ⟨hk.cell (p := ⟨b, o, none⟩) hl h.c0, hk.cell (p := ⟨b, o + 1, none⟩) hl h.c1, hk.cell (p := ⟨b, o + 2, none⟩) hl h.c2, hk.cell (p := ⟨b, o + 3, none⟩) hl h.c3, hk.cell (p := ⟨b, o + 4, none⟩) hl h.c4, hk.cell (p := ⟨b, o + 5, none⟩) hl h.c5, hk.cell (p := ⟨b, o + 6, none⟩) hl h.c6, hk.cell (p := ⟨b, o + 7, none⟩) hl h.c7⟩
def NodeAt (lo : Nat) (w : World) (b o : Nat) (n : LNode) : Prop := ∃ vk vt ve, NodeCells w b o n vk vt ve ∧ NodeVals lo w n vk vt ve
theorem NodeAt.keep {lo : Nat} {w w' : World} {b o : Nat} {n : LNode} (h : NodeAt lo w b o n) (hk : Keeps lo w w') (hl : lo ≤ b) : NodeAt lo w' b o n := by
  obtain ⟨vk, vt, ve, h1, h2⟩ := h
  exact ⟨vk, vt, ve, h1.keep hk hl, h2.keep hk⟩
theorem NodeAt.mono {lo lo' : Nat} {w : World} {b o : Nat} {n : LNode} (h : NodeAt lo w b o n) (hl : lo' ≤ lo) : NodeAt lo' w b o n := by
  obtain ⟨vk, vt, ve, h1, h2⟩ := h
  exact ⟨vk, vt, ve, h1, h2.mono hl⟩
def NodesV (lo : Nat) (w : World) (v : Value) (xs : List LNode) : Prop :=
  ∃ a c, v = .slice a xs.length c ∧ xs.length ≤ c ∧ (xs ≠ [] → ∃ b o, a = some ⟨b, o, none⟩ ∧ lo ≤ b ∧ ∀ (i : Nat) (x : LNode), xs[i]? = some x → NodeAt lo w b (o + i * 8) x)
theorem NodesV.keep {lo : Nat} {w w' : World} {v : Value} {xs : List LNode} (h : NodesV lo w v xs) (hk : Keeps lo w w') : NodesV lo w' v xs := by
  obtain ⟨a, c, h1, h2, h3⟩ := h
  exact ⟨a, c, h1, h2, fun hn => by obtain ⟨b, o, e, hl, hc⟩ := h3 hn; exact ⟨b, o, e, hl, fun i x hx => (hc i x hx).keep hk hl⟩⟩
theorem NodesV.mono {lo lo' : Nat} {w : World} {v : Value} {xs : List LNode} (h : NodesV lo w v xs) (hl : lo' ≤ lo) : NodesV lo' w v xs := by
  obtain ⟨a, c, h1, h2, h3⟩ := h
  exact ⟨a, c, h1, h2, fun hn => by obtain ⟨b, o, e, hb, hc⟩ := h3 hn; exact ⟨b, o, e, Nat.le_trans hl hb, fun i x hx => (hc i x hx).mono hl⟩⟩
theorem NodesV.below {lo : Nat} {w w' : World} {v : Value} {xs : List LNode} (h : NodesV lo w v xs) (hb : Below w.heap.size w w') : NodesV lo w' v xs := h.keep (.of_below hb)
structure TreeV (lo : Nat) (w : World) (vv vn vb : Value) (T : LTree) : Prop where
  vars : VarsV lo w vv T.vars
  nodes : NodesV lo w vn T.nodes
  body : IntsV lo w vb T.body
abbrev treeV (vv vn vb : Value) : Value := .agg #[vv, vn, vb]
theorem TreeV.keep {lo : Nat} {w w' : World} {vv vn vb : Value} {T : LTree} (h : TreeV lo w vv vn vb T) (hk : Keeps lo w w') : TreeV lo w' vv vn vb T := ⟨h.vars.keep hk, h.nodes.keep hk, h.body.keep hk⟩
theorem TreeV.mono {lo lo' : Nat} {w : World} {vv vn vb : Value} {T : LTree} (h : TreeV lo w vv vn vb T) (hl : lo' ≤ lo) : TreeV lo' w vv vn vb T := ⟨h.vars.mono hl, h.nodes.mono hl, h.body.mono hl⟩
theorem TreeV.below {lo : Nat} {w w' : World} {vv vn vb : Value} {T : LTree} (h : TreeV lo w vv vn vb T) (hb : Below w.heap.size w w') : TreeV lo w' vv vn vb T := h.keep (.of_below hb)
structure Sized (B : Nat) (T : LTree) : Prop where
  vars : T.vars.length ≤ B
  nodes : T.nodes.length ≤ B
  body : T.body.length ≤ B
  names : ∀ x ∈ T.vars, x.name.length ≤ B
  node : ∀ n ∈ T.nodes, n.name.length ≤ B ∧ n.kids.length ≤ B ∧ n.thn.length ≤ B ∧ n.els.length ≤ B
def Laid (w : World) (g n z : Nat) (T : TypeId) (L : List Value) (c : Nat) : Prop := ∃ cur : Array Value, w.heap[g]? = some (.cells cur T (0, 0)) ∧ cur.size = n * z ∧ ∀ i, i < c → cur[i]? = L[i]?
theorem Laid.lt {w : World} {g n z c : Nat} {T : TypeId} {L : List Value} (h : Laid w g n z T L c) : g < w.heap.size := by obtain ⟨cur, h1, _⟩ := h; exact (Array.getElem?_eq_some_iff.1 h1).1
theorem Laid.below {w w' : World} {g n z c : Nat} {T : TypeId} {L : List Value} (h : Laid w g n z T L c) (hb : Below w.heap.size w w') : Laid w' g n z T L c := by
  obtain ⟨cur, h1, h2, h3⟩ := h
  exact ⟨cur, (hb.block g (Array.getElem?_eq_some_iff.1 h1).1).trans h1, h2, h3⟩
theorem Laid.cell {w : World} {g n z c i : Nat} {T : TypeId} {L : List Value} (h : Laid w g n z T L c) (hi : i < n * z) : (∃ y, w.cell? ⟨g, i, none⟩ = some y) ∧ w.frozen? ⟨g, i, none⟩ = false := by
  obtain ⟨cur, h1, h2, h3⟩ := h
  refine ⟨⟨cur[i]'(by omega), ?_⟩, frozen_of_row _ _ _ _ _ h1⟩
  rw [cell_of_row _ _ _ _ _ _ h1]
  exact Array.getElem?_eq_getElem (by omega)
theorem Laid.read {w : World} {g n z c i : Nat} {T : TypeId} {L : List Value} (h : Laid w g n z T L c) (hi : i < c) {u : Value} (hu : L[i]? = some u) : w.cell? ⟨g, i, none⟩ = some u := by
  obtain ⟨cur, h1, h2, h3⟩ := h
  rw [cell_of_row _ _ _ _ _ _ h1, h3 i hi, hu]
theorem Laid.store {w : World} {g n z c : Nat} {T : TypeId} {L : List Value} {u : Value} (h : Laid w g n z T L c) (hc : c < n * z) (hu : L[c]? = some u) : Laid (w.setCell ⟨g, c, none⟩ u) g n z T L (c + 1) := by
  obtain ⟨cur, h1, h2, h3⟩ := h
  refine ⟨cur.setIfInBounds c u, heap_setCell_same w g c _ _ _ h1, by simpa using h2, fun i hi => ?_⟩
  by_cases e : c = i
  · subst e; rw [Array.getElem?_setIfInBounds_self_of_lt (by omega), hu]
  · rw [Array.getElem?_setIfInBounds_ne e]; exact h3 i (by omega)
theorem Laid.of_own {w : World} {g n z B : Nat} {T : TypeId} {L xs : List Value} (h : w.ownsRow B T z (.slice (some ⟨g, 0, none⟩) n n) n xs) : Laid w g n z T L 0 := by
  rcases h.2 with ⟨h, _⟩ | ⟨g', c, cur, h, _, hh, _, _, hs, _⟩
  · simp at h
  · simp at h
    obtain ⟨rfl, rfl⟩ := h
    exact ⟨cur, hh, hs, fun i hi => absurd hi (by omega)⟩
end Go.Proofs.YtepjaoapjpmjkaaGreatDoor
namespace Go.Proofs.YtepjaoapjpmjkaaGreatDoor
open Go.RowKit Go.ChangeShapes Go.WideShapes Go.Deep Go.Lib Go.Joins
set_option linter.unusedVariables false
theorem cellsNode : Tryz.prog.cellsOf 107 = 8 := by kernel_rfl
theorem cellsVar : Tryz.prog.cellsOf 105 = 4 := by kernel_rfl
theorem cellsTree : Tryz.prog.cellsOf 26 = 3 := by kernel_rfl
theorem cellsInt : Tryz.prog.cellsOf 2 = 1 := by kernel_rfl
theorem cellsStr : Tryz.prog.cellsOf 9 = 1 := by kernel_rfl
theorem cellsInts : Tryz.prog.cellsOf 24 = 1 := by kernel_rfl
section
variable {H : Type} {enc : TypeId × Value → H} {W : World}
theorem add_none (b o i : Nat) : (⟨b, o, none⟩ : Addr).add i = ⟨b, o + i, none⟩ := by
  unfold Addr.add
  split
  · rename_i h; first | (subst h; rfl) | (have h := of_decide_eq_true h; subst h; rfl) | (have := eq_of_beq h; subst this; rfl)
  · rfl
theorem open_intsV {fuel : Nat} {v : Value} {y : DataW H × List MemPlace} (h : DataW.trod enc Tryz.prog W 0 (fun _ => true) true fuel 24 [v] = some y) : ∃ xs, IntsV 0 W v xs ∧ xs.length ≤ 9223372036854775807 := by
  rcases open_ints Tryz.underlying24 Tryz.underlying2 (by kernel_rfl) h with ⟨hcs, _⟩ | ⟨a, len, cap, zs, hcs, _, hl, hm, hz, _, hcell, _⟩
  · simp at hcs
    subst hcs
    exact ⟨[], ⟨none, 0, rfl, Nat.le_refl _, fun h => absurd rfl h⟩, by simp⟩
  · simp at hcs
    subst hcs
    have hz : zs.length = cap := by simpa using hz
    have hlen : (zs.take len).length = len := by simp; omega
    refine ⟨zs.take len, ⟨some a, cap, by rw [hlen], by omega, fun hn => ?_⟩, by unfold maxLen at hm; omega⟩
    have h0 : 0 < len := by rcases Nat.eq_zero_or_pos len with e | e; · subst e; simp at hn
                            · exact e
    obtain ⟨b, o, spot⟩ := a
    have hs : spot = none := by simpa [Addr.add] using World.cell?_spot (hcell 0 (by omega))
    subst hs
    refine ⟨b, o, rfl, Nat.zero_le _, fun i x hx => ?_⟩
    have hi : i < len := by have := (List.getElem?_eq_some_iff.1 hx).1; omega
    have hx2 : zs[i]? = some x := by rw [List.getElem?_take] at hx; simpa [hi] using hx
    have := hcell i (by omega)
    rw [List.getD_eq_getElem?_getD, hx2, add_none] at this
    exact this
theorem gather {α : Type} [Inhabited α] {P : Nat → α → Prop} {n : Nat} (h : ∀ i, i < n → ∃ x, P i x) : ∃ xs : List α, xs.length = n ∧ ∀ i x, xs[i]? = some x → P i x := by
  classical
  refine ⟨(List.range n).map fun i => if hi : i < n then Classical.choose (h i hi) else default, by simp, fun i x hx => ?_⟩
  have hi : i < n := by have := (List.getElem?_eq_some_iff.1 hx).1; simpa using this
  have hy : (Classical.choose (h i hi)) = x := by simpa [hi] using hx
  rw [← hy]
  exact Classical.choose_spec (h i hi)
theorem range4 {f : Nat → Option Value} {cs : List Value} (h : (List.range 4).mapM f = some cs) : ∃ c0 c1 c2 c3, cs = [c0, c1, c2, c3] ∧ f 0 = some c0 ∧ f 1 = some c1 ∧ f 2 = some c2 ∧ f 3 = some c3 := by
  rw [show List.range 4 = [0, 1, 2, 3] from rfl] at h
  cases h0 : f 0 <;> cases h1 : f 1 <;> cases h2 : f 2 <;> cases h3 : f 3 <;> simp [h0, h1, h2, h3] at h
  exact ⟨_, _, _, _, h.symm, rfl, rfl, rfl, rfl⟩
theorem mapM_get {f : Nat → Option Value} : ∀ (l : List Nat) (cs : List Value), List.mapM f l = some cs → ∀ (i k : Nat), l[i]? = some k → ∃ c : Value, cs[i]? = some c ∧ f k = some c := by
  intro l
  induction l with
  | nil => intro cs h i k hk; simp at hk
  | cons a l ih =>
    intro cs h i k hk
    rw [List.mapM_cons] at h
    cases ha : f a with
    | none => simp [ha] at h
    | some c =>
      cases hl : l.mapM f with
      | none => simp [ha, hl] at h
      | some cs' =>
        simp [ha, hl] at h
        subst h
        cases i with
        | zero => simp at hk; subst hk; exact ⟨c, rfl, ha⟩
        | succ i => simpa using ih cs' hl i k (by simpa using hk)
theorem list8 {α : Type} {cs : List α} (h : cs.length = 8) : ∃ c0 c1 c2 c3 c4 c5 c6 c7, cs = [c0, c1, c2, c3, c4, c5, c6, c7] := by
  match cs, h with
  | [c0, c1, c2, c3, c4, c5, c6, c7], _ => exact ⟨c0, c1, c2, c3, c4, c5, c6, c7, rfl⟩
set_option maxRecDepth 100000 in
theorem open_varsV {fuel : Nat} {v : Value} {y : DataW H × List MemPlace} (h : DataW.trod enc Tryz.prog W 0 (fun _ => true) true fuel 22 [v] = some y) : ∃ xs, VarsV 0 W v xs ∧ xs.length ≤ 9223372036854775807 ∧ ∀ x ∈ xs, x.name.length ≤ 9223372036854775807 := by
  rcases open_slice Tryz.underlying22 h with ⟨hcs, _⟩ | ⟨a, len, cap, m, n, D, Pl, hcs, hb, hl, hm, hmm, _, hall⟩
  · simp at hcs
    subst hcs
    exact ⟨[], ⟨none, 0, rfl, Nat.le_refl _, fun h => absurd rfl h⟩, by simp, fun x hx => by cases hx⟩
  · simp at hcs
    subst hcs
    have hmm : m = cap := by simpa using hmm
    subst hmm
    have key : ∀ i, i < len → ∃ x : LVar, (W.cell? (a.add (i * 4)) = some (.string (bs x.name)) ∧ W.cell? ((a.add (i * 4)).add 1) = some (.int .i64 x.kind) ∧ W.cell? ((a.add (i * 4)).add 2) = some (.int .i64 x.type) ∧ W.cell? ((a.add (i * 4)).add 3) = some (.int .i64 x.size)) ∧ x.name.length ≤ 9223372036854775807 := by
      intro i hi
      obtain ⟨cs', h1, h2⟩ := hall i (by omega)
      rw [cellsVar] at h1
      unfold World.cells? at h1
      rw [if_pos (Nat.zero_le _)] at h1
      obtain ⟨c0, c1, c2, c3, rfl, g0, g1, g2, g3⟩ := range4 h1
      obtain ⟨y0, y1, y2, y3, n', hx, _, k0, k1, k2, k3⟩ := trod_struct4 Tryz.underlying105 h2
      rw [cellsStr] at k0
      rw [cellsInt] at k1 k2 k3
      obtain ⟨t, e0, _, ht⟩ := DataW.trod_string Tryz.underlying9 k0
      obtain ⟨k, e1, _, _⟩ := DataW.trod_int Tryz.underlying2 k1
      obtain ⟨m', e2, _, _⟩ := DataW.trod_int Tryz.underlying2 k2
      obtain ⟨q, e3, _, _⟩ := DataW.trod_int Tryz.underlying2 k3
      simp at e0 e1 e2 e3
      subst e0 e1 e2 e3
      refine ⟨⟨t.data.toList, k, m', q⟩, ⟨?_, g1, g2, g3⟩, ?_⟩
      · rw [← bs_of]; simpa [Addr.add] using g0
      · show t.data.toList.length ≤ _
        rw [Array.length_toList]
        unfold maxLen at ht
        exact Nat.le_trans ht (by omega)
    obtain ⟨xs, hxl, hxs⟩ := gather key
    refine ⟨xs, ⟨some a, m, by rw [hxl], by omega, fun hn => ?_⟩, by unfold maxLen at hm; omega, fun x hx => ?_⟩
    · have h0 : 0 < len := by rcases Nat.eq_zero_or_pos len with e | e; · rw [e] at hxl; exact absurd (List.eq_nil_of_length_eq_zero hxl) hn
                              · exact e
      obtain ⟨b, o, spot⟩ := a
      obtain ⟨x0, ⟨q0, _⟩, _⟩ := key 0 h0
      have hs : spot = none := by simpa [Addr.add] using World.cell?_spot q0
      subst hs
      refine ⟨b, o, rfl, Nat.zero_le _, fun i x hx => ?_⟩
      obtain ⟨⟨q0, q1, q2, q3⟩, _⟩ := hxs i x hx
      simp only [add_none] at q0 q1 q2 q3
      exact ⟨q0, q1, q2, q3⟩
    · obtain ⟨i, hi, rfl⟩ := List.getElem_of_mem hx
      exact (hxs i _ (List.getElem?_eq_getElem hi)).2
theorem trod_struct8 {P : Program} {w : World} {base : Nat} {spare : Nat → Bool} {held : Bool} {t : TypeId} {f0 f1 f2 f3 f4 f5 f6 f7 : Field} {fuel : Nat} {cs : List Value} {x : DataW H × List MemPlace} (ht : P.underlying t = some (.struct #[f0, f1, f2, f3, f4, f5, f6, f7])) (h : DataW.trod enc P w base spare held fuel t cs = some x) :
    ∃ y0 y1 y2 y3 y4 y5 y6 y7 n, cs.length = P.cellsOf t ∧ DataW.trod enc P w base spare held n f0.type ((cs.drop f0.offset).take (P.cellsOf f0.type)) = some y0 ∧
      DataW.trod enc P w base spare held n f1.type ((cs.drop f1.offset).take (P.cellsOf f1.type)) = some y1 ∧ DataW.trod enc P w base spare held n f2.type ((cs.drop f2.offset).take (P.cellsOf f2.type)) = some y2 ∧
      DataW.trod enc P w base spare held n f3.type ((cs.drop f3.offset).take (P.cellsOf f3.type)) = some y3 ∧ DataW.trod enc P w base spare held n f4.type ((cs.drop f4.offset).take (P.cellsOf f4.type)) = some y4 ∧
      DataW.trod enc P w base spare held n f5.type ((cs.drop f5.offset).take (P.cellsOf f5.type)) = some y5 ∧ DataW.trod enc P w base spare held n f6.type ((cs.drop f6.offset).take (P.cellsOf f6.type)) = some y6 ∧
      DataW.trod enc P w base spare held n f7.type ((cs.drop f7.offset).take (P.cellsOf f7.type)) = some y7 := by
  obtain ⟨xs, n, _, rfl, hl, hlen, hf⟩ := DataW.trod_struct ht h
  match xs, hlen with
  | [y0, y1, y2, y3, y4, y5, y6, y7], _ => exact ⟨y0, y1, y2, y3, y4, y5, y6, y7, n, hl, by simpa using hf 0 f0 rfl, by simpa using hf 1 f1 rfl, by simpa using hf 2 f2 rfl, by simpa using hf 3 f3 rfl, by simpa using hf 4 f4 rfl, by simpa using hf 5 f5 rfl, by simpa using hf 6 f6 rfl, by simpa using hf 7 f7 rfl⟩
def NodeFit (n : LNode) : Prop := n.name.length ≤ 9223372036854775807 ∧ n.kids.length ≤ 9223372036854775807 ∧ n.thn.length ≤ 9223372036854775807 ∧ n.els.length ≤ 9223372036854775807
set_option maxRecDepth 100000 in
theorem open_nodesV {fuel : Nat} {v : Value} {y : DataW H × List MemPlace} (h : DataW.trod enc Tryz.prog W 0 (fun _ => true) true fuel 23 [v] = some y) : ∃ xs, NodesV 0 W v xs ∧ xs.length ≤ 9223372036854775807 ∧ ∀ x ∈ xs, NodeFit x := by
  rcases open_slice Tryz.underlying23 h with ⟨hcs, _⟩ | ⟨a, len, cap, m, n, D, Pl, hcs, hb, hl, hm, hmm, _, hall⟩
  · simp at hcs
    subst hcs
    exact ⟨[], ⟨none, 0, rfl, Nat.le_refl _, fun h => absurd rfl h⟩, by simp, fun x hx => by cases hx⟩
  · simp at hcs
    subst hcs
    have hmm : m = cap := by simpa using hmm
    subst hmm
    have key : ∀ i, i < len → ∃ x : LNode, (∃ vk vt ve, (W.cell? ((a.add (i * 8)).add 0) = some (.int .i64 x.kind) ∧ W.cell? ((a.add (i * 8)).add 1) = some (.int .i64 x.op) ∧ W.cell? ((a.add (i * 8)).add 2) = some (.string (bs x.name)) ∧ W.cell? ((a.add (i * 8)).add 3) = some (.int .i64 x.num) ∧ W.cell? ((a.add (i * 8)).add 4) = some (.int .i64 x.far) ∧ W.cell? ((a.add (i * 8)).add 5) = some vk ∧ W.cell? ((a.add (i * 8)).add 6) = some vt ∧ W.cell? ((a.add (i * 8)).add 7) = some ve) ∧ NodeVals 0 W x vk vt ve) ∧ NodeFit x := by
      intro i hi
      obtain ⟨cs', h1, h2⟩ := hall i (by omega)
      rw [cellsNode] at h1
      unfold World.cells? at h1
      rw [if_pos (Nat.zero_le _)] at h1
      obtain ⟨y0, y1, y2, y3, y4, y5, y6, y7, n', hln, k0, k1, k2, k3, k4, k5, k6, k7⟩ := trod_struct8 Tryz.underlying107 h2
      rw [cellsNode] at hln
      obtain ⟨c0, c1, c2, c3, c4, c5, c6, c7, rfl⟩ := list8 hln
      have g : ∀ (j : Nat) (c : Value), [c0, c1, c2, c3, c4, c5, c6, c7][j]? = some c → W.cell? ((a.add (i * 8)).add j) = some c := fun j c hc => by
        have hj : j < 8 := by have := (List.getElem?_eq_some_iff.1 hc).1; simpa using this
        obtain ⟨c', e1, e2⟩ := mapM_get _ _ h1 j j (by rw [List.getElem?_range hj])
        rw [hc] at e1
        cases e1
        exact e2
      rw [cellsInt] at k0 k1 k3 k4
      rw [cellsStr] at k2
      rw [cellsInts] at k5 k6 k7
      obtain ⟨z0, e0, _, _⟩ := DataW.trod_int Tryz.underlying2 k0
      obtain ⟨z1, e1, _, _⟩ := DataW.trod_int Tryz.underlying2 k1
      obtain ⟨t, e2, _, ht⟩ := DataW.trod_string Tryz.underlying9 k2
      obtain ⟨z3, e3, _, _⟩ := DataW.trod_int Tryz.underlying2 k3
      obtain ⟨z4, e4, _, _⟩ := DataW.trod_int Tryz.underlying2 k4
      simp at e0 e1 e2 e3 e4 k5 k6 k7
      subst e0 e1 e2 e3 e4
      obtain ⟨ks, hks, lks⟩ := open_intsV k5
      obtain ⟨ts, hts, lts⟩ := open_intsV k6
      obtain ⟨es, hes, les⟩ := open_intsV k7
      refine ⟨⟨z0, z1, t.data.toList, z3, z4, ks, ts, es⟩, ⟨c5, c6, c7, ⟨g 0 _ rfl, g 1 _ rfl, by rw [← bs_of]; exact g 2 _ rfl, g 3 _ rfl, g 4 _ rfl, g 5 _ rfl, g 6 _ rfl, g 7 _ rfl⟩, hks, hts, hes⟩, ?_, lks, lts, les⟩
      show t.data.toList.length ≤ _
      rw [Array.length_toList]
      unfold maxLen at ht
      exact Nat.le_trans ht (by omega)
    obtain ⟨xs, hxl, hxs⟩ := gather key
    refine ⟨xs, ⟨some a, m, by rw [hxl], by omega, fun hn => ?_⟩, by unfold maxLen at hm; omega, fun x hx => ?_⟩
    · have h0 : 0 < len := by rcases Nat.eq_zero_or_pos len with e | e; · rw [e] at hxl; exact absurd (List.eq_nil_of_length_eq_zero hxl) hn
                              · exact e
      obtain ⟨b, o, spot⟩ := a
      obtain ⟨x0, ⟨_, _, _, ⟨q0, _⟩, _⟩, _⟩ := key 0 h0
      have hs : spot = none := by simpa [Addr.add] using World.cell?_spot q0
      subst hs
      refine ⟨b, o, rfl, Nat.zero_le _, fun i x hx => ?_⟩
      obtain ⟨⟨vk, vt, ve, ⟨q0, q1, q2, q3, q4, q5, q6, q7⟩, hv⟩, _⟩ := hxs i x hx
      simp only [add_none, Nat.add_zero] at q0 q1 q2 q3 q4 q5 q6 q7
      exact ⟨vk, vt, ve, ⟨q0, q1, q2, q3, q4, q5, q6, q7⟩, hv⟩
    · obtain ⟨i, hi, rfl⟩ := List.getElem_of_mem hx
      exact (hxs i _ (List.getElem?_eq_getElem hi)).2
structure IsTree (w : World) (vv vn vb : Value) (T : LTree) : Prop where
  tree : TreeV 0 w vv vn vb T
  fits : Sized 9223372036854775807 T
set_option maxRecDepth 100000 in
theorem open_tree {base : Nat} {v : Value} {d : DataW H} {p : List MemPlace} (hv : Value.okWide Tryz.prog W .any base 26 v) (h : DataW.Trod enc Tryz.prog W 0 (fun _ => true) true 26 v d p) :
    ∃ (vv vn vb : Value) (T : LTree), v = treeV vv vn vb ∧ IsTree W vv vn vb T := by
  obtain ⟨v0, v1, v2, y0, y1, y2, n, rfl, _, _, h0, h1, h2⟩ := open_agg3 Tryz.underlying26 (by kernel_rfl) cellsTree hv h
  obtain ⟨vs, hvs, lv, nv⟩ := open_varsV h0
  obtain ⟨ns, hns, ln, nn⟩ := open_nodesV h1
  obtain ⟨bs, hbs, lb⟩ := open_intsV h2
  exact ⟨v0, v1, v2, ⟨vs, ns, bs⟩, rfl, ⟨hvs, hns, hbs⟩, lv, ln, lb, nv, nn⟩
end
end Go.Proofs.YtepjaoapjpmjkaaGreatDoor
