/-
  Trees: what is asked of them, plainly.
-/
import Derived.Test.YteeklmgkhacbcaaGreatDoorBase
import Derived.Test.YteeklmgkhacbcaaGreatDoorStr
import Derived.OwnWalk
import Derived.Laws.OwnMore
import Derived.WalkKit
namespace Go.Proofs.YteeklmgkhacbcaaGreatDoor
open Go.RowKit
set_option linter.unusedVariables false
structure LVar where
 name : List UInt8
 kind : Int
 type : Int
 size : Int
deriving DecidableEq, Inhabited
structure LNode where
 kind : Int
 op : Int
 name : List UInt8
 num : Int
 far : Int
 kids : List Int
 thn : List Int
 els : List Int
deriving DecidableEq, Inhabited
structure LTree where
 vars : List LVar
 nodes : List LNode
 body : List Int
deriving DecidableEq, Inhabited
def Keeps (lo : Nat) (w w' : World) : Prop := ∀ b, lo ≤ b → b < w.heap.size → w'.heap[b]? = w.heap[b]?
theorem Keeps.of_below {lo : Nat} {w w' : World} (h : Below w.heap.size w w') : Keeps lo w w' := fun b _ hb => h.block b hb
theorem Keeps.cell {lo : Nat} {w w' : World} (h : Keeps lo w w') {p : Addr} {u : Value} (hl : lo ≤ p.block) (hc : w.cell? p = some u) : w'.cell? p = some u := by
 rw [World.cell?_of_block (h p.block hl (World.block_lt_of_cell? _ _ hc))]; exact hc
theorem Keeps.mono {lo lo' : Nat} {w w' : World} (h : Keeps lo w w') (hl : lo ≤ lo') : Keeps lo' w w' := fun b hb hs => h b (Nat.le_trans hl hb) hs
def IntsV (lo : Nat) (w : World) (v : Value) (xs : List Int) : Prop :=
 ∃ a c, v = .slice a xs.length c ∧ xs.length ≤ c ∧ (xs ≠ [] → ∃ b o, a = some ⟨b, o, none⟩ ∧ lo ≤ b ∧ ∀ (i : Nat) (x : Int), xs[i]? = some x → w.cell? ⟨b, o + i, none⟩ = some (.int .i64 x))
theorem IntsV.keep {lo : Nat} {w w' : World} {v : Value} {xs : List Int} (h : IntsV lo w v xs) (hk : Keeps lo w w') : IntsV lo w' v xs := by
 obtain ⟨a, c, h1, h2, h3⟩ := h
 exact ⟨a, c, h1, h2, fun hn => by obtain ⟨b, o, e, hl, hc⟩ := h3 hn; exact ⟨b, o, e, hl, fun i x hx => hk.cell (p := ⟨b, o + i, none⟩) hl (hc i x hx)⟩⟩
theorem IntsV.mono {lo lo' : Nat} {w : World} {v : Value} {xs : List Int} (h : IntsV lo w v xs) (hl : lo' ≤ lo) : IntsV lo' w v xs := by
 obtain ⟨a, c, h1, h2, h3⟩ := h
 exact ⟨a, c, h1, h2, fun hn => by obtain ⟨b, o, e, hb, hc⟩ := h3 hn; exact ⟨b, o, e, Nat.le_trans hl hb, hc⟩⟩
theorem IntsV.below {lo : Nat} {w w' : World} {v : Value} {xs : List Int} (h : IntsV lo w v xs) (hb : Below w.heap.size w w') : IntsV lo w' v xs := h.keep (.of_below hb)
def VarAt (w : World) (b o : Nat) (x : LVar) : Prop :=
 w.cell? ⟨b, o, none⟩ = some (.string (bs x.name)) ∧ w.cell? ⟨b, o + 1, none⟩ = some (.int .i64 x.kind) ∧ w.cell? ⟨b, o + 2, none⟩ = some (.int .i64 x.type) ∧ w.cell? ⟨b, o + 3, none⟩ = some (.int .i64 x.size)
theorem VarAt.keep {lo : Nat} {w w' : World} {b o : Nat} {x : LVar} (h : VarAt w b o x) (hk : Keeps lo w w') (hl : lo ≤ b) : VarAt w' b o x :=
 ⟨hk.cell (p := ⟨b, o, none⟩) hl h.1, hk.cell (p := ⟨b, o + 1, none⟩) hl h.2.1, hk.cell (p := ⟨b, o + 2, none⟩) hl h.2.2.1, hk.cell (p := ⟨b, o + 3, none⟩) hl h.2.2.2⟩
def VarsV (lo : Nat) (w : World) (v : Value) (xs : List LVar) : Prop :=
 ∃ a c, v = .slice a xs.length c ∧ xs.length ≤ c ∧ (xs ≠ [] → ∃ b o, a = some ⟨b, o, none⟩ ∧ lo ≤ b ∧ ∀ (i : Nat) (x : LVar), xs[i]? = some x → VarAt w b (o + i * 4) x)
theorem VarsV.keep {lo : Nat} {w w' : World} {v : Value} {xs : List LVar} (h : VarsV lo w v xs) (hk : Keeps lo w w') : VarsV lo w' v xs := by
 obtain ⟨a, c, h1, h2, h3⟩ := h
 exact ⟨a, c, h1, h2, fun hn => by obtain ⟨b, o, e, hl, hc⟩ := h3 hn; exact ⟨b, o, e, hl, fun i x hx => (hc i x hx).keep hk hl⟩⟩
theorem VarsV.mono {lo lo' : Nat} {w : World} {v : Value} {xs : List LVar} (h : VarsV lo w v xs) (hl : lo' ≤ lo) : VarsV lo' w v xs := by
 obtain ⟨a, c, h1, h2, h3⟩ := h
 exact ⟨a, c, h1, h2, fun hn => by obtain ⟨b, o, e, hb, hc⟩ := h3 hn; exact ⟨b, o, e, Nat.le_trans hl hb, hc⟩⟩
theorem VarsV.below {lo : Nat} {w w' : World} {v : Value} {xs : List LVar} (h : VarsV lo w v xs) (hb : Below w.heap.size w w') : VarsV lo w' v xs := h.keep (.of_below hb)
structure NodeVals (lo : Nat) (w : World) (n : LNode) (vk vt ve : Value) : Prop where
 kids : IntsV lo w vk n.kids
 thn : IntsV lo w vt n.thn
 els : IntsV lo w ve n.els
theorem NodeVals.keep {lo : Nat} {w w' : World} {n : LNode} {vk vt ve : Value} (h : NodeVals lo w n vk vt ve) (hk : Keeps lo w w') : NodeVals lo w' n vk vt ve := ⟨h.kids.keep hk, h.thn.keep hk, h.els.keep hk⟩
theorem NodeVals.mono {lo lo' : Nat} {w : World} {n : LNode} {vk vt ve : Value} (h : NodeVals lo w n vk vt ve) (hl : lo' ≤ lo) : NodeVals lo' w n vk vt ve := ⟨h.kids.mono hl, h.thn.mono hl, h.els.mono hl⟩
theorem NodeVals.below {lo : Nat} {w w' : World} {n : LNode} {vk vt ve : Value} (h : NodeVals lo w n vk vt ve) (hb : Below w.heap.size w w') : NodeVals lo w' n vk vt ve := h.keep (.of_below hb)
abbrev nodeV (n : LNode) (vk vt ve : Value) : Value := .agg #[.int .i64 n.kind, .int .i64 n.op, .string (bs n.name), .int .i64 n.num, .int .i64 n.far, vk, vt, ve]
structure NodeCells (w : World) (b o : Nat) (n : LNode) (vk vt ve : Value) : Prop where
 c0 : w.cell? ⟨b, o, none⟩ = some (.int .i64 n.kind)
 c1 : w.cell? ⟨b, o + 1, none⟩ = some (.int .i64 n.op)
 c2 : w.cell? ⟨b, o + 2, none⟩ = some (.string (bs n.name))
 c3 : w.cell? ⟨b, o + 3, none⟩ = some (.int .i64 n.num)
 c4 : w.cell? ⟨b, o + 4, none⟩ = some (.int .i64 n.far)
 c5 : w.cell? ⟨b, o + 5, none⟩ = some vk
 c6 : w.cell? ⟨b, o + 6, none⟩ = some vt
 c7 : w.cell? ⟨b, o + 7, none⟩ = some ve
theorem NodeCells.keep {lo : Nat} {w w' : World} {b o : Nat} {n : LNode} {vk vt ve : Value} (h : NodeCells w b o n vk vt ve) (hk : Keeps lo w w') (hl : lo ≤ b) : NodeCells w' b o n vk vt ve :=
 ⟨hk.cell (p := ⟨b, o, none⟩) hl h.c0, hk.cell (p := ⟨b, o + 1, none⟩) hl h.c1, hk.cell (p := ⟨b, o + 2, none⟩) hl h.c2, hk.cell (p := ⟨b, o + 3, none⟩) hl h.c3, hk.cell (p := ⟨b, o + 4, none⟩) hl h.c4, hk.cell (p := ⟨b, o + 5, none⟩) hl h.c5, hk.cell (p := ⟨b, o + 6, none⟩) hl h.c6, hk.cell (p := ⟨b, o + 7, none⟩) hl h.c7⟩
def NodeAt (lo : Nat) (w : World) (b o : Nat) (n : LNode) : Prop := ∃ vk vt ve, NodeCells w b o n vk vt ve ∧ NodeVals lo w n vk vt ve
theorem NodeAt.keep {lo : Nat} {w w' : World} {b o : Nat} {n : LNode} (h : NodeAt lo w b o n) (hk : Keeps lo w w') (hl : lo ≤ b) : NodeAt lo w' b o n := by
 obtain ⟨vk, vt, ve, h1, h2⟩ := h
 exact ⟨vk, vt, ve, h1.keep hk hl, h2.keep hk⟩
theorem NodeAt.mono {lo lo' : Nat} {w : World} {b o : Nat} {n : LNode} (h : NodeAt lo w b o n) (hl : lo' ≤ lo) : NodeAt lo' w b o n := by
 obtain ⟨vk, vt, ve, h1, h2⟩ := h
 exact ⟨vk, vt, ve, h1, h2.mono hl⟩
def NodesV (lo : Nat) (w : World) (v : Value) (xs : List LNode) : Prop :=
 ∃ a c, v = .slice a xs.length c ∧ xs.length ≤ c ∧ (xs ≠ [] → ∃ b o, a = some ⟨b, o, none⟩ ∧ lo ≤ b ∧ ∀ (i : Nat) (x : LNode), xs[i]? = some x → NodeAt lo w b (o + i * 8) x)
theorem NodesV.keep {lo : Nat} {w w' : World} {v : Value} {xs : List LNode} (h : NodesV lo w v xs) (hk : Keeps lo w w') : NodesV lo w' v xs := by
 obtain ⟨a, c, h1, h2, h3⟩ := h
 exact ⟨a, c, h1, h2, fun hn => by obtain ⟨b, o, e, hl, hc⟩ := h3 hn; exact ⟨b, o, e, hl, fun i x hx => (hc i x hx).keep hk hl⟩⟩
theorem NodesV.mono {lo lo' : Nat} {w : World} {v : Value} {xs : List LNode} (h : NodesV lo w v xs) (hl : lo' ≤ lo) : NodesV lo' w v xs := by
 obtain ⟨a, c, h1, h2, h3⟩ := h
 exact ⟨a, c, h1, h2, fun hn => by obtain ⟨b, o, e, hb, hc⟩ := h3 hn; exact ⟨b, o, e, Nat.le_trans hl hb, fun i x hx => (hc i x hx).mono hl⟩⟩
theorem NodesV.below {lo : Nat} {w w' : World} {v : Value} {xs : List LNode} (h : NodesV lo w v xs) (hb : Below w.heap.size w w') : NodesV lo w' v xs := h.keep (.of_below hb)
structure TreeV (lo : Nat) (w : World) (vv vn vb : Value) (T : LTree) : Prop where
 vars : VarsV lo w vv T.vars
 nodes : NodesV lo w vn T.nodes
 body : IntsV lo w vb T.body
abbrev treeV (vv vn vb : Value) : Value := .agg #[vv, vn, vb]
theorem TreeV.keep {lo : Nat} {w w' : World} {vv vn vb : Value} {T : LTree} (h : TreeV lo w vv vn vb T) (hk : Keeps lo w w') : TreeV lo w' vv vn vb T := ⟨h.vars.keep hk, h.nodes.keep hk, h.body.keep hk⟩
theorem TreeV.mono {lo lo' : Nat} {w : World} {vv vn vb : Value} {T : LTree} (h : TreeV lo w vv vn vb T) (hl : lo' ≤ lo) : TreeV lo' w vv vn vb T := ⟨h.vars.mono hl, h.nodes.mono hl, h.body.mono hl⟩
theorem TreeV.below {lo : Nat} {w w' : World} {vv vn vb : Value} {T : LTree} (h : TreeV lo w vv vn vb T) (hb : Below w.heap.size w w') : TreeV lo w' vv vn vb T := h.keep (.of_below hb)
structure Sized (B : Nat) (T : LTree) : Prop where
 vars : T.vars.length ≤ B
 nodes : T.nodes.length ≤ B
 body : T.body.length ≤ B
 names : ∀ x ∈ T.vars, x.name.length ≤ B
 node : ∀ n ∈ T.nodes, n.name.length ≤ B ∧ n.kids.length ≤ B ∧ n.thn.length ≤ B ∧ n.els.length ≤ B
def Laid (w : World) (g n z : Nat) (T : TypeId) (L : List Value) (c : Nat) : Prop := ∃ cur : Array Value, w.heap[g]? = some (.cells cur T (0, 0)) ∧ cur.size = n * z ∧ ∀ i, i < c → cur[i]? = L[i]?
theorem Laid.lt {w : World} {g n z c : Nat} {T : TypeId} {L : List Value} (h : Laid w g n z T L c) : g < w.heap.size := by obtain ⟨cur, h1, _⟩ := h; exact (Array.getElem?_eq_some_iff.1 h1).1
theorem Laid.below {w w' : World} {g n z c : Nat} {T : TypeId} {L : List Value} (h : Laid w g n z T L c) (hb : Below w.heap.size w w') : Laid w' g n z T L c := by
 obtain ⟨cur, h1, h2, h3⟩ := h
 exact ⟨cur, (hb.block g (Array.getElem?_eq_some_iff.1 h1).1).trans h1, h2, h3⟩
theorem Laid.cell {w : World} {g n z c i : Nat} {T : TypeId} {L : List Value} (h : Laid w g n z T L c) (hi : i < n * z) : (∃ y, w.cell? ⟨g, i, none⟩ = some y) ∧ w.frozen? ⟨g, i, none⟩ = false := by
 obtain ⟨cur, h1, h2, h3⟩ := h
 refine ⟨⟨cur[i]'(by omega), ?_⟩, frozen_of_row _ _ _ _ _ h1⟩
 rw [cell_of_row _ _ _ _ _ _ h1]
 exact Array.getElem?_eq_getElem (by omega)
theorem Laid.read {w : World} {g n z c i : Nat} {T : TypeId} {L : List Value} (h : Laid w g n z T L c) (hi : i < c) {u : Value} (hu : L[i]? = some u) : w.cell? ⟨g, i, none⟩ = some u := by
 obtain ⟨cur, h1, h2, h3⟩ := h
 rw [cell_of_row _ _ _ _ _ _ h1, h3 i hi, hu]
theorem Laid.store {w : World} {g n z c : Nat} {T : TypeId} {L : List Value} {u : Value} (h : Laid w g n z T L c) (hc : c < n * z) (hu : L[c]? = some u) : Laid (w.setCell ⟨g, c, none⟩ u) g n z T L (c + 1) := by
 obtain ⟨cur, h1, h2, h3⟩ := h
 refine ⟨cur.setIfInBounds c u, heap_setCell_same w g c _ _ _ h1, by simpa using h2, fun i hi => ?_⟩
 by_cases e : c = i
 ·subst e; rw [Array.getElem?_setIfInBounds_self_of_lt (by omega), hu]
 ·rw [Array.getElem?_setIfInBounds_ne e]; exact h3 i (by omega)
theorem Laid.of_own {w : World} {g n z B : Nat} {T : TypeId} {L xs : List Value} (h : w.ownsRow B T z (.slice (some ⟨g, 0, none⟩) n n) n xs) : Laid w g n z T L 0 := by
 rcases h.2 with ⟨h, _⟩ | ⟨g', c, cur, h, _, hh, _, _, hs, _⟩
 ·simp at h
 ·simp at h
  obtain ⟨rfl, rfl⟩ := h
  exact ⟨cur, hh, hs, fun i hi => absurd hi (by omega)⟩
def inB (z a b : Int) : Bool := decide (a ≤ z) && decide (z ≤ b)
theorem inB_iff {z a b : Int} : inB z a b = true ↔ a ≤ z ∧ z ≤ b := by simp [inB]
theorem inB_no {z a b : Int} : inB z a b = false ↔ ¬ (a ≤ z ∧ z ≤ b) := by rw [← inB_iff]; cases inB z a b <;> simp
set_option maxHeartbeats 800000 in
theorem l1In_any (z a b : Int) (w : World) :
  Calls Tryz.prog 81 #[.int .i64 z, .int .i64 a, .int .i64 b] w fun e w' => e = .returned (.bool (inB z a b)) ∧ w' = w := by
 by_cases h1 : a ≤ z
 ·by_cases h2 : z ≤ b
  ·have e : inB z a b = true := inB_iff.2 ⟨h1, h2⟩
   rw [e]
   go_enter Tryz.func81, Tryz.ntmps81
   go_wp2
   go_ret
   exact ⟨rfl, rfl⟩
  ·have e : inB z a b = false := inB_no.2 (fun h => h2 h.2)
   rw [e]
   go_enter Tryz.func81, Tryz.ntmps81
   go_wp2
   go_ret
   exact ⟨rfl, rfl⟩
 ·have e : inB z a b = false := inB_no.2 (fun h => h1 h.1)
  rw [e]
  go_enter Tryz.func81, Tryz.ntmps81
  go_wp2
  go_ret
  exact ⟨rfl, rfl⟩
set_option maxHeartbeats 800000 in
theorem l1Word_any (z : Int) (w : World) : Calls Tryz.prog 71 #[.int .i64 z] w fun e w' => e = .returned (.bool (inB z 0 65535)) ∧ w' = w := by
 have H : Hid (∀ w, Calls Tryz.prog 81 #[.int .i64 z, .int .i64 0, .int .i64 65535] w fun e w' => e = .returned (.bool (inB z 0 65535)) ∧ w' = w) := fun w => l1In_any z 0 65535 w
 go_enter Tryz.func71, Tryz.ntmps71
 go_wp2_with fail
 refine (H.out _).mono ?_
 rintro e w' ⟨rfl, rfl⟩
 go_wp2_with fail
 go_ret
 exact ⟨rfl, rfl⟩
end Go.Proofs.YteeklmgkhacbcaaGreatDoor
namespace Go.Proofs.YteeklmgkhacbcaaGreatDoor
def isLetI (n : Int) : Bool := decide ((97 ≤ n ∧ n ≤ 122) ∨ n = 95)
def isDigI (n : Int) : Bool := decide (48 ≤ n ∧ n ≤ 57)
def isHexI (n : Int) : Bool := decide (65 ≤ n ∧ n ≤ 70)
def isLet (c : UInt8) : Bool := isLetI (c.toNat : Int)
def isDig (c : UInt8) : Bool := isDigI (c.toNat : Int)
def isHex (c : UInt8) : Bool := isHexI (c.toNat : Int)
def isNum (c : UInt8) : Bool := isDig c || isHex c || decide ((c.toNat : Int) = 35)
def isBlank (c : UInt8) : Bool := decide ((c.toNat : Int) = 32) || decide ((c.toNat : Int) = 10)
def wordsL : List (List UInt8) := [[97, 110, 100], [98, 111, 111, 108], [99, 116, 117], [100, 111], [101, 108, 115, 101], [101, 110, 100], [102, 97, 108, 115, 101], [102, 111, 114], [105, 102], [105, 110], [105, 110, 116], [109, 111, 100], [110, 111, 116], [111, 114], [111, 117, 116], [114, 116, 114, 105, 103], [115, 114], [116, 104, 101, 110], [116, 111], [116, 111, 110], [116, 114, 117, 101], [118, 97, 114], [120, 111, 114]]
def marksL : List (List UInt8) := [[58, 61], [60, 62], [60, 61], [62, 61], [43], [45], [42], [47], [61], [60], [62], [40], [41], [91], [93], [59], [58], [44]]
def isWordL (l : List UInt8) : Bool := wordsL.any (fun x => x == l)
def isNameL (l : List UInt8) : Bool := decide (1 ≤ l.length ∧ l.length ≤ 8) && !isWordL l && l.all isLet
def hexStep (n : Int) (c : UInt8) : Int := if isDig c then n * 16 + ((c.toNat : Int) - 48) else n * 16 + ((c.toNat : Int) - 65) + 10
def hexV (l : List UInt8) : Int := l.foldl hexStep 0
def hexOk (l : List UInt8) : Bool := decide (1 ≤ l.length ∧ l.length ≤ 4) && l.all (fun c => isDig c || isHex c)
def decStep (n : Int) (c : UInt8) : Int := n * 10 + ((c.toNat : Int) - 48)
def decV (l : List UInt8) : Int := l.foldl decStep 0
def decOk (l : List UInt8) : Bool := decide (1 ≤ l.length ∧ l.length ≤ 5) && !(decide (1 < l.length) && decide (((l.getD 0 0).toNat : Int) = 48)) && l.all isDig && decide (decV l ≤ 65535)
def based (l : List UInt8) : Bool := decide (3 < l.length) && (l.take 3 == [49, 54, 35])
def numOk (l : List UInt8) : Bool := if based l then hexOk (l.drop 3) else decOk l
def numV (l : List UInt8) : Int := if based l then hexV (l.drop 3) else decV l
def markL (l : List UInt8) : List UInt8 := (marksL.find? (fun m => m.isPrefixOf l)).getD []
structure Tok where
 kind : Int
 text : List UInt8
 num : Int
deriving DecidableEq
def oneL (l : List UInt8) : Option Tok :=
 let c := l.getD 0 0
 if isLet c then
  let p := l.takeWhile isLet
  if isWordL p then some ⟨3, p, 0⟩ else if isNameL p then some ⟨1, p, 0⟩ else none
 else if isDig c then
  let p := l.takeWhile isNum
  if numOk p then some ⟨2, p, numV p⟩ else none
 else
  let p := markL l
  if p = [] then none else some ⟨4, p, 0⟩
def lexF : Nat → List UInt8 → Nat → List (Tok × Nat) → Int × Nat × List (Tok × Nat)
 | 0, _, _, acc => (0, 0, acc)
 | _ + 1, [], _, acc => (0, 0, acc)
 | f + 1, c :: r, at_, acc =>
  if isBlank c then lexF f r (at_ + 1) acc
  else if 400 ≤ acc.length then (2, at_, [])
  else match oneL (c :: r) with
   | none => (5, at_, [])
   | some t => lexF f ((c :: r).drop t.text.length) (at_ + t.text.length) (acc ++ [(t, at_)])
def lexL (l : List UInt8) : Int × Nat × List (Tok × Nat) := if 1200 < l.length then (2, 0, []) else lexF l.length l 0 []
end Go.Proofs.YteeklmgkhacbcaaGreatDoor
namespace Go.Proofs.YteeklmgkhacbcaaGreatDoor
open Go.RowKit
set_option linter.unusedVariables false
attribute [local go_sem] bs_size bs_get bs_extract bs_append bs_eq
theorem retI {a b : Int} (h : a = b) : Ending.returned (.int .i64 a) = Ending.returned (.int .i64 b) := by rw [h]
theorem retB {a b : Bool} (h : a = b) : Ending.returned (.bool a) = Ending.returned (.bool b) := by rw [h]
set_option maxHeartbeats 400000 in
theorem letter_any (n : Int) (w : World) : Calls Tryz.prog 110 #[.int .u8 n] w fun e w' => e = .returned (.bool (isLetI n)) ∧ w' = w := by
 by_cases h1 : 97 ≤ n <;> by_cases h2 : n ≤ 122
 all_goals
  go_enter Tryz.func110, Tryz.ntmps110
  go_wp2
  go_ret
  refine ⟨retB ?_, rfl⟩
  simp only [isLetI]
  first | rfl | (rw [Bool.eq_iff_iff]; simp; omega) | (symm; simp; omega)
def Texts (w : World) (g : Nat) (L : List (List UInt8)) : Prop := ∀ k, k < L.length → w.cell? ⟨g, k, none⟩ = some (.string (bs (L.getD k [])))
theorem texts_new (w : World) (L : List (List UInt8)) (T : TypeId) : Texts (w.alloc (.cells (L.map (fun l => Value.string (bs l))).toArray T)) w.heap.size L := by
 intro k hk
 rw [cell_of_row _ _ k _ _ _ (heap_alloc_new w _)]
 rw [List.getD_eq_getElem?_getD, List.getElem?_eq_getElem hk]
 simp [List.getElem?_eq_getElem hk]
set_option maxHeartbeats 400000 in
theorem words_any (w : World) : Calls Tryz.prog 134 #[] w fun e w' => e = .returned (.slice (some ⟨w.heap.size, 0, none⟩) 23 23) ∧ w' = w.alloc (.cells (wordsL.map (fun l => Value.string (bs l))).toArray 9) := by
 go_enter Tryz.func134, Tryz.ntmps134
 go_wp2
 go_ret
 exact ⟨rfl, rfl⟩
theorem word_yes {l : List UInt8} {k : Nat} (hk : k < 23) (h : wordsL.getD k [] = l) : isWordL l = true := by
 unfold isWordL
 refine List.any_eq_true.2 ⟨l, ?_, by simp⟩
 rw [← h, List.getD_eq_getElem?_getD, List.getElem?_eq_getElem (show k < wordsL.length from hk)]
 simp
theorem word_no {l : List UInt8} (h : ∀ j, j < 23 → wordsL.getD j [] ≠ l) : isWordL l = false := by
 unfold isWordL
 refine List.any_eq_false.2 fun x hx he => ?_
 obtain ⟨j, hj, hx⟩ := List.getElem_of_mem hx
 refine h j hj ?_
 rw [List.getD_eq_getElem?_getD, List.getElem?_eq_getElem hj, ← (show x = l by simpa using he), ← hx]
 rfl
theorem all_yes {p : UInt8 → Bool} {l : List UInt8} (h : ∀ j, j < l.length → p (ch l j) = true) : l.all p = true := by
 refine List.all_eq_true.2 fun x hx => ?_
 obtain ⟨j, hj, hx⟩ := List.getElem_of_mem hx
 have := h j hj
 rwa [ch_get l j hj, hx] at this
theorem all_no {p : UInt8 → Bool} {l : List UInt8} {j : Nat} (hj : j < l.length) (h : p (ch l j) = false) : l.all p = false := by
 refine List.all_eq_false.2 ⟨l[j], List.getElem_mem hj, ?_⟩
 rw [ch_get l j hj] at h
 simp [h]
theorem while_take {f : UInt8 → Bool} {l : List UInt8} {p k : Nat} (hk : p + k ≤ l.length) (h : ∀ j, j < k → f (ch l (p + j)) = true) (he : p + k = l.length ∨ f (ch l (p + k)) = false) : (l.drop p).takeWhile f = (l.drop p).take k := by
 induction k generalizing p with
 | zero =>
  rcases he with he | he
  ·rw [List.drop_of_length_le (by omega)]; rfl
  ·by_cases hp : p < l.length
   ·rw [drop_at l p hp, List.takeWhile_cons]
    rw [Nat.add_zero] at he
    rw [he]; rfl
   ·rw [List.drop_of_length_le (by omega)]; rfl
 | succ k ih =>
  have h0 := h 0 (by omega)
  rw [Nat.add_zero] at h0
  have := ih (p := p + 1) (by omega) (fun j hj => by have := h (j + 1) (by omega); rwa [show p + (j + 1) = p + 1 + j from by omega] at this) (by rwa [show p + (k + 1) = p + 1 + k from by omega] at he)
  rw [drop_at l p (by omega), List.takeWhile_cons, h0, List.take_succ_cons, ← this]
  rfl
set_option maxHeartbeats 800000 in
theorem isWord_any (l : List UInt8) (w : World) : Calls Tryz.prog 109 #[.string (bs l)] w fun e w' => e = .returned (.bool (isWordL l)) ∧ Below w.heap.size w w' := by
 have hB : Below w.heap.size w (w.alloc (.cells (wordsL.map (fun l => Value.string (bs l))).toArray 9)) := (Below.refl _ _).alloc (Nat.le_refl _) _
 have hT := texts_new w wordsL 9
 generalize hW : w.alloc (.cells (wordsL.map (fun l => Value.string (bs l))).toArray 9) = W at hB hT
 have HB := hid hB
 have HT := hid hT
 clear hB hT
 go_enter Tryz.func109, Tryz.ntmps109
 go_wp2_with fail
 refine (words_any _).mono ?_
 rintro e w1 ⟨rfl, rfl⟩
 rw [hW]
 clear hW
 go_wp2
 go_loop [4] (fun i => ∃ k : Nat, k ≤ 23 ∧ i = .int .i64 k ∧ ∀ j, j < k → wordsL.getD j [] ≠ l) (fun i => 23 - (intOf i).toNat)
 case atStart => exact ⟨0, by omega, rfl, by omega⟩
 case round =>
  obtain ⟨k, hk, rfl, hno⟩ := hrel
  have HNO := hid hno
  clear hno
  by_cases hlt : k < 23
  ·have hcell := HT.out k (by simpa [wordsL] using hlt)
   obtain ⟨x, hx⟩ : ∃ x, x = wordsL.getD k [] := ⟨_, rfl⟩
   rw [← hx] at hcell
   have HX : Hid (x = wordsL.getD k []) := hx
   clear hx
   by_cases he : x = l
   ·have HE : Hid (x = l) := he
    have heb : (x == l) = true := by simpa using he
    clear he
    go_wp2
    go_ret
    exact ⟨retB (word_yes hlt (by rw [← HX.out]; exact HE.out)).symm, HB.out⟩
   ·have HE : Hid (¬ x = l) := he
    have heb : (x == l) = false := by simpa using he
    clear he
    go_wp2
    go_round
    case rel => exact ⟨k + 1, by omega, by go_num, fun j hj => by rcases Nat.lt_succ_iff_lt_or_eq.1 hj with h | rfl; exact HNO.out j h; rw [← HX.out]; exact HE.out⟩
    case measure => simp [intOf]; omega
  ·have hk3 : k = 23 := by omega
   subst hk3
   go_wp2
   go_ret
   exact ⟨retB (word_no HNO.out).symm, HB.out⟩
set_option maxHeartbeats 800000 in
theorem isName_any (l : List UInt8) (w : World) (hl0 : l.length ≤ 9223372036854775807) : Calls Tryz.prog 80 #[.string (bs l)] w fun e w' => e = .returned (.bool (isNameL l)) ∧ Below w.heap.size w w' := by
 have hw := isWord_any l w
 by_cases h1 : 1 ≤ l.length ∧ l.length ≤ 8
 ·have hn0 : isNameL l = (!isWordL l && l.all isLet) := by unfold isNameL; rw [decide_eq_true h1]; rfl
  obtain ⟨h1, h2⟩ := h1
  rw [hn0]
  clear hn0
  generalize isWordL l = b at hw
  cases b
  ·go_enter Tryz.func80, Tryz.ntmps80
   go_wp2_with fail
   refine hw.mono ?_
   rintro e w1 ⟨rfl, hb⟩
   have HB := hid hb
   clear hb hw
   go_wp2
   go_loop [3] (fun i => ∃ k : Nat, k ≤ l.length ∧ i = .int .i64 k ∧ ∀ j, j < k → isLet (ch l j) = true) (fun i => l.length - (intOf i).toNat)
   case atStart => exact ⟨0, by omega, rfl, by omega⟩
   case round =>
    obtain ⟨k, hk, rfl, hno⟩ := hrel
    have HNO := hid hno
    clear hno
    by_cases hlt : k < l.length
    ·cases hc : isLetI ((ch l k).toNat : Int)
     ·go_wp2_with (first | (go_at_call 110; refine (letter_any _ _).mono ?_; rintro e w' ⟨rfl, rfl⟩))
      go_ret
      exact ⟨retB (by rw [all_no hlt hc]; rfl), HB.out⟩
     ·go_wp2_with (first | (go_at_call 110; refine (letter_any _ _).mono ?_; rintro e w' ⟨rfl, rfl⟩))
      go_round
      case rel => exact ⟨k + 1, by omega, by go_num, fun j hj => by rcases Nat.lt_succ_iff_lt_or_eq.1 hj with h | rfl; exact HNO.out j h; exact hc⟩
      case measure => simp [intOf]; omega
    ·have hk3 : k = l.length := by omega
     subst hk3
     go_wp2
     go_ret
     exact ⟨retB (by rw [all_yes HNO.out]), HB.out⟩
  ·go_enter Tryz.func80, Tryz.ntmps80
   go_wp2_with fail
   refine hw.mono ?_
   rintro e w1 ⟨rfl, hb⟩
   go_wp2
   go_ret
   exact ⟨rfl, hb⟩
 ·have hn0 : isNameL l = false := by unfold isNameL; rw [decide_eq_false h1]; rfl
  rw [hn0]
  clear hn0 hw
  by_cases h2 : 1 ≤ l.length
  ·have h3 : 8 < l.length := by omega
   clear h1
   go_enter Tryz.func80, Tryz.ntmps80
   go_wp2
   go_ret
   exact ⟨rfl, Below.refl _ _⟩
  ·have h3 : l.length = 0 := by omega
   clear h1
   go_enter Tryz.func80, Tryz.ntmps80
   go_wp2
   go_ret
   exact ⟨rfl, Below.refl _ _⟩
end Go.Proofs.YteeklmgkhacbcaaGreatDoor
namespace Go.Proofs.YteeklmgkhacbcaaGreatDoor
open Go.RowKit
set_option linter.unusedVariables false
def exprN (n : LNode) : Bool := inB n.kind 1 6
def refB (N : List LNode) (at_ : Int) (expr : Bool) (x : Int) : Bool := inB x 0 (at_ - 1) && (exprN (N.getD x.toNat default) == expr)
def refsB (N : List LNode) (at_ : Int) (l : List Int) (expr : Bool) : Bool := l.all (refB N at_ expr)
def wantsN (k : Int) : Bool × Int × Bool :=
 if k = 1 then (false, 0, true) else if k = 2 then (true, 0, false) else if k = 3 ∨ k = 7 then (true, 1, false) else if k = 4 ∨ k = 5 ∨ k = 9 then (false, 1, false)
 else if k = 6 then (false, 2, false) else if k = 8 then (true, 2, false) else if k = 10 then (true, 0, true) else (true, -1, false)
def rightB (N : List LNode) (at_ : Nat) : Bool :=
 let n := N.getD at_ default
 let q := wantsN n.kind
 inB n.kind 1 11 &&
 (q.1 == isNameL n.name) && (q.1 || n.name.isEmpty) && (if 0 ≤ q.2.1 then decide ((n.kids.length : Int) = q.2.1) else inB n.kids.length 1 3) &&
 (if q.2.2 then inB n.num 0 65535 else decide (n.num = 0)) && (if n.kind = 10 then inB n.far 0 65535 else decide (n.far = 0)) &&
 (if n.kind = 6 then inB n.op 1 10 else if n.kind = 11 then inB n.op 1 4 else decide (n.op = 0)) &&
 (decide (n.kind = 9) || n.els.isEmpty) && (decide (n.kind = 9) || decide (n.kind = 10) || n.thn.isEmpty) &&
 refsB N at_ n.kids true && refsB N at_ n.thn false && refsB N at_ n.els false
def listsOf (n : LNode) : List Int := n.kids ++ n.thn ++ n.els
def namedB (T : LTree) (k : Nat) : Nat := ((T.nodes.map fun n => (listsOf n).count (k : Int)).sum) + T.body.count (k : Int)
def deepOf (ds : List Int) (i : Nat) (n : LNode) : Int := (listsOf n).foldl (fun d x => if inB x 0 ((i : Int) - 1) then max d (ds.getD x.toNat 0) else d) 0
def depthsL (N : List LNode) : List Int := (List.range N.length).foldl (fun ds i => ds ++ [deepOf ds i (N.getD i default) + 1]) []
def varB (v : LVar) : Int := if isNameL v.name then (if inB v.kind 1 3 && inB v.type 1 2 && inB v.size 0 8 then 0 else 3) else 5
end Go.Proofs.YteeklmgkhacbcaaGreatDoor
