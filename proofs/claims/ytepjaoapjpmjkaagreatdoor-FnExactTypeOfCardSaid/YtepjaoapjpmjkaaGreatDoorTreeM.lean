/-
  Trees: plain data, and how they lie in memory.
-/
import Derived.WalkKit
import Derived.Laws.Strings2
import Derived.Laws.Strings3
import Derived.Laws.Concat
import Derived.Test.YtepjaoapjpmjkaaGreatDoorBase
import Derived.OwnWalk
import Derived.Laws.OwnMore
namespace Go.Proofs.YtepjaoapjpmjkaaGreatDoor
def bs (l : List UInt8) : ByteArray := ⟨l.toArray⟩
def ch (l : List UInt8) (k : Nat) : UInt8 := l.getD k 0
theorem bs_toList (l : List UInt8) : (bs l).toList = l := ByteArray.toList_mk l
theorem bs_size (l : List UInt8) : (bs l).size = l.length := rfl
theorem bs_get (l : List UInt8) (k : Nat) (h : k < (bs l).size) : (bs l)[k]'h = ch l k := by
 have h' : k < l.length := by rw [bs_size] at h; exact h
 show l.toArray[k] = l.getD k 0
 rw [List.getD_eq_getElem?_getD, List.getElem?_eq_getElem h']
 simp
theorem bs_extract (l : List UInt8) (a b : Nat) : (bs l).extract a b = bs ((l.drop a).take (b - a)) := ByteArray.extract_mk l a b
theorem bs_append (a b : List UInt8) : bs a ++ bs b = bs (a ++ b) := ByteArray.mk_append_mk a b
theorem bs_eq (a b : List UInt8) : ((bs a).toList == (bs b).toList) = (a == b) := by rw [bs_toList, bs_toList]
theorem bs_of (s : ByteArray) : s = bs s.data.toList := by cases s; rfl
theorem bs_inj {a b : List UInt8} (h : bs a = bs b) : a = b := by have := congrArg ByteArray.toList h; rwa [bs_toList, bs_toList] at this
theorem ch_lo (l : List UInt8) (k : Nat) : (0 : Int) ≤ ((ch l k).toNat : Int) := by omega
theorem ch_hi (l : List UInt8) (k : Nat) : ((ch l k).toNat : Int) ≤ 255 := by have := (ch l k).toNat_lt; omega
theorem ch_cons (c : UInt8) (l : List UInt8) : ch (c :: l) 0 = c := rfl
theorem ch_drop (l : List UInt8) (p k : Nat) : ch (l.drop p) k = ch l (p + k) := by unfold ch; simp [List.getD_eq_getElem?_getD]
theorem ch_get (l : List UInt8) (k : Nat) (h : k < l.length) : ch l k = l[k] := by unfold ch; rw [List.getD_eq_getElem?_getD, List.getElem?_eq_getElem h]; rfl
theorem drop_at (l : List UInt8) (k : Nat) (h : k < l.length) : l.drop k = ch l k :: l.drop (k + 1) := by rw [List.drop_eq_getElem_cons h, ch_get l k h]
theorem take_at (l : List UInt8) (k : Nat) (h : k < l.length) : l.take (k + 1) = l.take k ++ [ch l k] := by rw [List.take_succ_eq_append_getElem h, ch_get l k h]
end Go.Proofs.YtepjaoapjpmjkaaGreatDoor
namespace Go.Proofs.YtepjaoapjpmjkaaGreatDoor
open Go.RowKit
set_option linter.unusedVariables false
structure LVar where
 name : List UInt8
 kind : Int
 type : Int
 size : Int
deriving DecidableEq, Inhabited
structure LNode where
 kind : Int
 op : Int
 name : List UInt8
 num : Int
 far : Int
 kids : List Int
 thn : List Int
 els : List Int
deriving DecidableEq, Inhabited
structure LTree where
 vars : List LVar
 nodes : List LNode
 body : List Int
deriving DecidableEq, Inhabited
def Keeps (lo : Nat) (w w' : World) : Prop := ∀ b, lo ≤ b → b < w.heap.size → w'.heap[b]? = w.heap[b]?
theorem Keeps.of_below {lo : Nat} {w w' : World} (h : Below w.heap.size w w') : Keeps lo w w' := fun b _ hb => h.block b hb
theorem Keeps.cell {lo : Nat} {w w' : World} (h : Keeps lo w w') {p : Addr} {u : Value} (hl : lo ≤ p.block) (hc : w.cell? p = some u) : w'.cell? p = some u := by
 rw [World.cell?_of_block (h p.block hl (World.block_lt_of_cell? _ _ hc))]; exact hc
theorem Keeps.mono {lo lo' : Nat} {w w' : World} (h : Keeps lo w w') (hl : lo ≤ lo') : Keeps lo' w w' := fun b hb hs => h b (Nat.le_trans hl hb) hs
def IntsV (lo : Nat) (w : World) (v : Value) (xs : List Int) : Prop :=
 ∃ a c, v = .slice a xs.length c ∧ xs.length ≤ c ∧ (xs ≠ [] → ∃ b o, a = some ⟨b, o, none⟩ ∧ lo ≤ b ∧ ∀ (i : Nat) (x : Int), xs[i]? = some x → w.cell? ⟨b, o + i, none⟩ = some (.int .i64 x))
theorem IntsV.keep {lo : Nat} {w w' : World} {v : Value} {xs : List Int} (h : IntsV lo w v xs) (hk : Keeps lo w w') : IntsV lo w' v xs := by
 obtain ⟨a, c, h1, h2, h3⟩ := h
 exact ⟨a, c, h1, h2, fun hn => by obtain ⟨b, o, e, hl, hc⟩ := h3 hn; exact ⟨b, o, e, hl, fun i x hx => hk.cell (p := ⟨b, o + i, none⟩) hl (hc i x hx)⟩⟩
theorem IntsV.mono {lo lo' : Nat} {w : World} {v : Value} {xs : List Int} (h : IntsV lo w v xs) (hl : lo' ≤ lo) : IntsV lo' w v xs := by
 obtain ⟨a, c, h1, h2, h3⟩ := h
 exact ⟨a, c, h1, h2, fun hn => by obtain ⟨b, o, e, hb, hc⟩ := h3 hn; exact ⟨b, o, e, Nat.le_trans hl hb, hc⟩⟩
theorem IntsV.below {lo : Nat} {w w' : World} {v : Value} {xs : List Int} (h : IntsV lo w v xs) (hb : Below w.heap.size w w') : IntsV lo w' v xs := h.keep (.of_below hb)
def VarAt (w : World) (b o : Nat) (x : LVar) : Prop :=
 w.cell? ⟨b, o, none⟩ = some (.string (bs x.name)) ∧ w.cell? ⟨b, o + 1, none⟩ = some (.int .i64 x.kind) ∧ w.cell? ⟨b, o + 2, none⟩ = some (.int .i64 x.type) ∧ w.cell? ⟨b, o + 3, none⟩ = some (.int .i64 x.size)
theorem VarAt.keep {lo : Nat} {w w' : World} {b o : Nat} {x : LVar} (h : VarAt w b o x) (hk : Keeps lo w w') (hl : lo ≤ b) : VarAt w' b o x :=
 ⟨hk.cell (p := ⟨b, o, none⟩) hl h.1, hk.cell (p := ⟨b, o + 1, none⟩) hl h.2.1, hk.cell (p := ⟨b, o + 2, none⟩) hl h.2.2.1, hk.cell (p := ⟨b, o + 3, none⟩) hl h.2.2.2⟩
def VarsV (lo : Nat) (w : World) (v : Value) (xs : List LVar) : Prop :=
 ∃ a c, v = .slice a xs.length c ∧ xs.length ≤ c ∧ (xs ≠ [] → ∃ b o, a = some ⟨b, o, none⟩ ∧ lo ≤ b ∧ ∀ (i : Nat) (x : LVar), xs[i]? = some x → VarAt w b (o + i * 4) x)
theorem VarsV.keep {lo : Nat} {w w' : World} {v : Value} {xs : List LVar} (h : VarsV lo w v xs) (hk : Keeps lo w w') : VarsV lo w' v xs := by
 obtain ⟨a, c, h1, h2, h3⟩ := h
 exact ⟨a, c, h1, h2, fun hn => by obtain ⟨b, o, e, hl, hc⟩ := h3 hn; exact ⟨b, o, e, hl, fun i x hx => (hc i x hx).keep hk hl⟩⟩
theorem VarsV.mono {lo lo' : Nat} {w : World} {v : Value} {xs : List LVar} (h : VarsV lo w v xs) (hl : lo' ≤ lo) : VarsV lo' w v xs := by
 obtain ⟨a, c, h1, h2, h3⟩ := h
 exact ⟨a, c, h1, h2, fun hn => by obtain ⟨b, o, e, hb, hc⟩ := h3 hn; exact ⟨b, o, e, Nat.le_trans hl hb, hc⟩⟩
theorem VarsV.below {lo : Nat} {w w' : World} {v : Value} {xs : List LVar} (h : VarsV lo w v xs) (hb : Below w.heap.size w w') : VarsV lo w' v xs := h.keep (.of_below hb)
structure NodeVals (lo : Nat) (w : World) (n : LNode) (vk vt ve : Value) : Prop where
 kids : IntsV lo w vk n.kids
 thn : IntsV lo w vt n.thn
 els : IntsV lo w ve n.els
theorem NodeVals.keep {lo : Nat} {w w' : World} {n : LNode} {vk vt ve : Value} (h : NodeVals lo w n vk vt ve) (hk : Keeps lo w w') : NodeVals lo w' n vk vt ve := ⟨h.kids.keep hk, h.thn.keep hk, h.els.keep hk⟩
theorem NodeVals.mono {lo lo' : Nat} {w : World} {n : LNode} {vk vt ve : Value} (h : NodeVals lo w n vk vt ve) (hl : lo' ≤ lo) : NodeVals lo' w n vk vt ve := ⟨h.kids.mono hl, h.thn.mono hl, h.els.mono hl⟩
theorem NodeVals.below {lo : Nat} {w w' : World} {n : LNode} {vk vt ve : Value} (h : NodeVals lo w n vk vt ve) (hb : Below w.heap.size w w') : NodeVals lo w' n vk vt ve := h.keep (.of_below hb)
abbrev nodeV (n : LNode) (vk vt ve : Value) : Value := .agg #[.int .i64 n.kind, .int .i64 n.op, .string (bs n.name), .int .i64 n.num, .int .i64 n.far, vk, vt, ve]
structure NodeCells (w : World) (b o : Nat) (n : LNode) (vk vt ve : Value) : Prop where
 c0 : w.cell? ⟨b, o, none⟩ = some (.int .i64 n.kind)
 c1 : w.cell? ⟨b, o + 1, none⟩ = some (.int .i64 n.op)
 c2 : w.cell? ⟨b, o + 2, none⟩ = some (.string (bs n.name))
 c3 : w.cell? ⟨b, o + 3, none⟩ = some (.int .i64 n.num)
 c4 : w.cell? ⟨b, o + 4, none⟩ = some (.int .i64 n.far)
 c5 : w.cell? ⟨b, o + 5, none⟩ = some vk
 c6 : w.cell? ⟨b, o + 6, none⟩ = some vt
 c7 : w.cell? ⟨b, o + 7, none⟩ = some ve
theorem NodeCells.keep {lo : Nat} {w w' : World} {b o : Nat} {n : LNode} {vk vt ve : Value} (h : NodeCells w b o n vk vt ve) (hk : Keeps lo w w') (hl : lo ≤ b) : NodeCells w' b o n vk vt ve :=
 ⟨hk.cell (p := ⟨b, o, none⟩) hl h.c0, hk.cell (p := ⟨b, o + 1, none⟩) hl h.c1, hk.cell (p := ⟨b, o + 2, none⟩) hl h.c2, hk.cell (p := ⟨b, o + 3, none⟩) hl h.c3, hk.cell (p := ⟨b, o + 4, none⟩) hl h.c4, hk.cell (p := ⟨b, o + 5, none⟩) hl h.c5, hk.cell (p := ⟨b, o + 6, none⟩) hl h.c6, hk.cell (p := ⟨b, o + 7, none⟩) hl h.c7⟩
def NodeAt (lo : Nat) (w : World) (b o : Nat) (n : LNode) : Prop := ∃ vk vt ve, NodeCells w b o n vk vt ve ∧ NodeVals lo w n vk vt ve
theorem NodeAt.keep {lo : Nat} {w w' : World} {b o : Nat} {n : LNode} (h : NodeAt lo w b o n) (hk : Keeps lo w w') (hl : lo ≤ b) : NodeAt lo w' b o n := by
 obtain ⟨vk, vt, ve, h1, h2⟩ := h
 exact ⟨vk, vt, ve, h1.keep hk hl, h2.keep hk⟩
theorem NodeAt.mono {lo lo' : Nat} {w : World} {b o : Nat} {n : LNode} (h : NodeAt lo w b o n) (hl : lo' ≤ lo) : NodeAt lo' w b o n := by
 obtain ⟨vk, vt, ve, h1, h2⟩ := h
 exact ⟨vk, vt, ve, h1, h2.mono hl⟩
def NodesV (lo : Nat) (w : World) (v : Value) (xs : List LNode) : Prop :=
 ∃ a c, v = .slice a xs.length c ∧ xs.length ≤ c ∧ (xs ≠ [] → ∃ b o, a = some ⟨b, o, none⟩ ∧ lo ≤ b ∧ ∀ (i : Nat) (x : LNode), xs[i]? = some x → NodeAt lo w b (o + i * 8) x)
theorem NodesV.keep {lo : Nat} {w w' : World} {v : Value} {xs : List LNode} (h : NodesV lo w v xs) (hk : Keeps lo w w') : NodesV lo w' v xs := by
 obtain ⟨a, c, h1, h2, h3⟩ := h
 exact ⟨a, c, h1, h2, fun hn => by obtain ⟨b, o, e, hl, hc⟩ := h3 hn; exact ⟨b, o, e, hl, fun i x hx => (hc i x hx).keep hk hl⟩⟩
theorem NodesV.mono {lo lo' : Nat} {w : World} {v : Value} {xs : List LNode} (h : NodesV lo w v xs) (hl : lo' ≤ lo) : NodesV lo' w v xs := by
 obtain ⟨a, c, h1, h2, h3⟩ := h
 exact ⟨a, c, h1, h2, fun hn => by obtain ⟨b, o, e, hb, hc⟩ := h3 hn; exact ⟨b, o, e, Nat.le_trans hl hb, fun i x hx => (hc i x hx).mono hl⟩⟩
theorem NodesV.below {lo : Nat} {w w' : World} {v : Value} {xs : List LNode} (h : NodesV lo w v xs) (hb : Below w.heap.size w w') : NodesV lo w' v xs := h.keep (.of_below hb)
structure TreeV (lo : Nat) (w : World) (vv vn vb : Value) (T : LTree) : Prop where
 vars : VarsV lo w vv T.vars
 nodes : NodesV lo w vn T.nodes
 body : IntsV lo w vb T.body
abbrev treeV (vv vn vb : Value) : Value := .agg #[vv, vn, vb]
theorem TreeV.keep {lo : Nat} {w w' : World} {vv vn vb : Value} {T : LTree} (h : TreeV lo w vv vn vb T) (hk : Keeps lo w w') : TreeV lo w' vv vn vb T := ⟨h.vars.keep hk, h.nodes.keep hk, h.body.keep hk⟩
theorem TreeV.mono {lo lo' : Nat} {w : World} {vv vn vb : Value} {T : LTree} (h : TreeV lo w vv vn vb T) (hl : lo' ≤ lo) : TreeV lo' w vv vn vb T := ⟨h.vars.mono hl, h.nodes.mono hl, h.body.mono hl⟩
theorem TreeV.below {lo : Nat} {w w' : World} {vv vn vb : Value} {T : LTree} (h : TreeV lo w vv vn vb T) (hb : Below w.heap.size w w') : TreeV lo w' vv vn vb T := h.keep (.of_below hb)
structure Sized (B : Nat) (T : LTree) : Prop where
 vars : T.vars.length ≤ B
 nodes : T.nodes.length ≤ B
 body : T.body.length ≤ B
 names : ∀ x ∈ T.vars, x.name.length ≤ B
 node : ∀ n ∈ T.nodes, n.name.length ≤ B ∧ n.kids.length ≤ B ∧ n.thn.length ≤ B ∧ n.els.length ≤ B
def Laid (w : World) (g n z : Nat) (T : TypeId) (L : List Value) (c : Nat) : Prop := ∃ cur : Array Value, w.heap[g]? = some (.cells cur T (0, 0)) ∧ cur.size = n * z ∧ ∀ i, i < c → cur[i]? = L[i]?
theorem Laid.lt {w : World} {g n z c : Nat} {T : TypeId} {L : List Value} (h : Laid w g n z T L c) : g < w.heap.size := by obtain ⟨cur, h1, _⟩ := h; exact (Array.getElem?_eq_some_iff.1 h1).1
theorem Laid.below {w w' : World} {g n z c : Nat} {T : TypeId} {L : List Value} (h : Laid w g n z T L c) (hb : Below w.heap.size w w') : Laid w' g n z T L c := by
 obtain ⟨cur, h1, h2, h3⟩ := h
 exact ⟨cur, (hb.block g (Array.getElem?_eq_some_iff.1 h1).1).trans h1, h2, h3⟩
theorem Laid.cell {w : World} {g n z c i : Nat} {T : TypeId} {L : List Value} (h : Laid w g n z T L c) (hi : i < n * z) : (∃ y, w.cell? ⟨g, i, none⟩ = some y) ∧ w.frozen? ⟨g, i, none⟩ = false := by
 obtain ⟨cur, h1, h2, h3⟩ := h
 refine ⟨⟨cur[i]'(by omega), ?_⟩, frozen_of_row _ _ _ _ _ h1⟩
 rw [cell_of_row _ _ _ _ _ _ h1]
 exact Array.getElem?_eq_getElem (by omega)
theorem Laid.read {w : World} {g n z c i : Nat} {T : TypeId} {L : List Value} (h : Laid w g n z T L c) (hi : i < c) {u : Value} (hu : L[i]? = some u) : w.cell? ⟨g, i, none⟩ = some u := by
 obtain ⟨cur, h1, h2, h3⟩ := h
 rw [cell_of_row _ _ _ _ _ _ h1, h3 i hi, hu]
theorem Laid.store {w : World} {g n z c : Nat} {T : TypeId} {L : List Value} {u : Value} (h : Laid w g n z T L c) (hc : c < n * z) (hu : L[c]? = some u) : Laid (w.setCell ⟨g, c, none⟩ u) g n z T L (c + 1) := by
 obtain ⟨cur, h1, h2, h3⟩ := h
 refine ⟨cur.setIfInBounds c u, heap_setCell_same w g c _ _ _ h1, by simpa using h2, fun i hi => ?_⟩
 by_cases e : c = i
 ·subst e; rw [Array.getElem?_setIfInBounds_self_of_lt (by omega), hu]
 ·rw [Array.getElem?_setIfInBounds_ne e]; exact h3 i (by omega)
theorem Laid.of_own {w : World} {g n z B : Nat} {T : TypeId} {L xs : List Value} (h : w.ownsRow B T z (.slice (some ⟨g, 0, none⟩) n n) n xs) : Laid w g n z T L 0 := by
 rcases h.2 with ⟨h, _⟩ | ⟨g', c, cur, h, _, hh, _, _, hs, _⟩
 ·simp at h
 ·simp at h
  obtain ⟨rfl, rfl⟩ := h
  exact ⟨cur, hh, hs, fun i hi => absurd hi (by omega)⟩
end Go.Proofs.YtepjaoapjpmjkaaGreatDoor
