/-
  Owned rows of elements of any size.
-/
import Derived.Test.YtcecfmdjicjngaaGreatDoorTreeM
import Derived.Test.YtcecfmdjicjngaaGreatDoorCheckM2
namespace Go.Proofs.YtcecfmdjicjngaaGreatDoor
open Go.RowKit
set_option linter.unusedVariables false
def varFrom (nm : List UInt8) : List LVar → Nat → Int
 | [], _ => -1
 | v :: r, i => if v.name = nm then (i : Int) else varFrom nm r (i + 1)
theorem varFrom_hit {nm : List UInt8} {V : List LVar} {k : Nat} {x : LVar} (hx : V[k]? = some x) (h : x.name = nm) : varFrom nm (V.drop k) k = k := by
 rw [List.drop_eq_getElem_cons (List.getElem?_eq_some_iff.1 hx).1, (List.getElem?_eq_some_iff.1 hx).2, varFrom, if_pos h]
theorem varFrom_miss {nm : List UInt8} {V : List LVar} {k : Nat} {x : LVar} (hx : V[k]? = some x) (h : x.name ≠ nm) : varFrom nm (V.drop k) k = varFrom nm (V.drop (k + 1)) (k + 1) := by
 rw [List.drop_eq_getElem_cons (List.getElem?_eq_some_iff.1 hx).1, (List.getElem?_eq_some_iff.1 hx).2, varFrom, if_neg h]
theorem varFrom_or (nm : List UInt8) : ∀ (V : List LVar) (i : Nat), varFrom nm V i = -1 ∨ ∃ j : Nat, varFrom nm V i = j ∧ j < i + V.length := by
 intro V
 induction V with
 | nil => intro i; exact .inl rfl
 | cons v r ih =>
  intro i
  unfold varFrom
  split
  ·exact .inr ⟨i, rfl, by simp⟩
  ·rcases ih (i + 1) with h | ⟨j, h, hj⟩
   ·exact .inl h
   ·exact .inr ⟨j, h, by simp; omega⟩
end Go.Proofs.YtcecfmdjicjngaaGreatDoor
namespace Go.Proofs.YtcecfmdjicjngaaGreatDoor
open Go.RowKit
set_option linter.unusedVariables false
abbrev Met := Int × Int
def metAt (st : Met) (c x : Int) : Met := if st.1 = 0 then (c, x) else st
def nodeOf (N : List LNode) (x : Int) : LNode := N.getD x.toNat default
def nameF (V : List LVar) (nv : Nat) (nm : List UInt8) (row : Bool) (x : Int) (st : Met) : Int × Met :=
 if varFrom nm V 0 < 0 ∨ (row = true ∧ (nv : Int) ≤ varFrom nm V 0) then (0, metAt st 4 x)
 else if (decide (0 < (V.getD (varFrom nm V 0).toNat default).size)) ≠ row then (0, metAt st 1 x)
 else ((V.getD (varFrom nm V 0).toNat default).type, st)
def boolB (V : List LVar) (n : LNode) : Bool :=
 if n.kind = 5 then true
 else if n.kind = 6 then decide (5 < n.op)
 else if n.kind = 2 ∨ n.kind = 3 then decide (0 ≤ varFrom n.name V 0 ∧ (V.getD (varFrom n.name V 0).toNat default).type = 2)
 else false
def sameF (V : List LVar) (N : List LNode) (a b : Int) : Int := if boolB V (nodeOf N (if (nodeOf N a).kind = 1 then b else a)) then 2 else 1
def mustW (n : LNode) (y want : Int) (r : Int × Met) : Met :=
 if want = 2 ∧ n.kind = 1 ∧ n.num ≤ 1 then r.2 else if r.2.1 = 0 ∧ r.1 ≠ want then metAt r.2 8 y else r.2
def wantF (V : List LVar) (N : List LNode) (n : LNode) : Int :=
 if n.op = 10 then sameF V N (n.kids.getD 0 0) (n.kids.getD 1 0) else if 6 ≤ n.op ∧ n.op ≤ 8 then 2 else 1
def typeF (V : List LVar) (nv : Nat) (N : List LNode) : Nat → Int → Met → Int × Met
 | 0, _, st => (0, st)
 | f + 1, x, st =>
  let n := nodeOf N x
  let must := fun (y want : Int) (st : Met) => mustW (nodeOf N y) y want (typeF V nv N f y st)
  if n.kind = 1 then (1, st)
  else if n.kind = 2 then nameF V nv n.name false x st
  else if n.kind = 3 then ((nameF V nv n.name true x st).1, must (n.kids.getD 0 0) 1 (nameF V nv n.name true x st).2)
  else if n.kind = 4 then (1, must (n.kids.getD 0 0) 1 st)
  else if n.kind = 5 then (2, must (n.kids.getD 0 0) 2 st)
  else (if n.op ≤ 5 then 1 else 2, must (n.kids.getD 1 0) (wantF V N n) (must (n.kids.getD 0 0) (wantF V N n) st))
end Go.Proofs.YtcecfmdjicjngaaGreatDoor
namespace Go.Proofs.YtcecfmdjicjngaaGreatDoor
open Go.RowKit
set_option linter.unusedVariables false
attribute [local go_sem] bs_size bs_get bs_extract bs_append bs_eq bs_toList
theorem blk {w w' : World} {g : Nat} {cs : Array Value} {T : TypeId} (h : w.heap[g]? = some (.cells cs T (0, 0))) (hb : Below w.heap.size w w') : w'.heap[g]? = some (.cells cs T (0, 0)) :=
 (hb.block g (Array.getElem?_eq_some_iff.1 h).1).trans h
theorem blk_lt {w : World} {g : Nat} {o : Obj} (h : w.heap[g]? = some o) : g < w.heap.size := (Array.getElem?_eq_some_iff.1 h).1
abbrev varV (x : LVar) : Value := .agg #[.string (bs x.name), .int .i64 x.kind, .int .i64 x.type, .int .i64 x.size]
def varCells (xs : List LVar) : List Value := xs.flatMap fun x => [.string (bs x.name), .int .i64 x.kind, .int .i64 x.type, .int .i64 x.size]
theorem varCells_len (xs : List LVar) : (varCells xs).length = xs.length * 4 := by
 induction xs with
 | nil => rfl
 | cons x T ih => simp [varCells] at *; omega
theorem varCells_at (T : List LVar) (k : Nat) (x : LVar) (hk : T[k]? = some x) : (varCells T)[k * 4]? = some (.string (bs x.name)) ∧ (varCells T)[k * 4 + 1]? = some (.int .i64 x.kind) ∧ (varCells T)[k * 4 + 2]? = some (.int .i64 x.type) ∧ (varCells T)[k * 4 + 3]? = some (.int .i64 x.size) := by
 induction T generalizing k with
 | nil => simp at hk
 | cons y T ih =>
  cases k with
  | zero =>
   have hy : y = x := by simpa using hk
   subst hy
   simp [varCells]
  | succ k =>
   have h := ih k (by simpa using hk)
   have e : ∀ j, (varCells (y :: T))[(k + 1) * 4 + j]? = (varCells T)[k * 4 + j]? := fun j => by
    unfold varCells
    rw [List.flatMap_cons, List.getElem?_append_right (by simp; omega)]
    congr 1
    simp; omega
   have e0 := e 0
   rw [Nat.add_zero, Nat.add_zero] at e0
   rw [e0, e 1, e 2, e 3]
   exact h
end Go.Proofs.YtcecfmdjicjngaaGreatDoor
namespace Go.Proofs.YtcecfmdjicjngaaGreatDoor
open Go.RowKit
set_option linter.unusedVariables false
theorem rowE_shape {w : World} {B z n : Nat} {T : TypeId} {v : Value} {xs : List Value} (h : w.ownsRow B T z v n xs) : ∃ a cap, v = .slice a n cap := by
 rcases h.2 with ⟨rfl, rfl⟩ | ⟨g, c, cur, rfl, _⟩
 ·exact ⟨_, _, rfl⟩
 ·exact ⟨_, _, rfl⟩
theorem rowE_mono {w : World} {B C z n : Nat} {T : TypeId} {v : Value} {xs : List Value} (h : w.ownsRow B T z v n xs) (hC : C ≤ B) : w.ownsRow C T z v n xs := by
 refine ⟨h.1, ?_⟩
 rcases h.2 with h2 | ⟨g, c, cur, rfl, hg, hr⟩
 ·exact .inl h2
 ·exact .inr ⟨g, c, cur, rfl, by omega, hr⟩
theorem rowE_same {w w' : World} {B z n : Nat} {T : TypeId} {v : Value} {xs : List Value} (h : w.ownsRow B T z v n xs) (hs : ∀ g, B ≤ g → g < w.heap.size → w'.heap[g]? = w.heap[g]?) : w'.ownsRow B T z v n xs := by
 refine ⟨h.1, ?_⟩
 rcases h.2 with h2 | ⟨g, c, cur, rfl, hg, hh, hr⟩
 ·exact .inl h2
 ·refine .inr ⟨g, c, cur, rfl, hg, ?_, hr⟩
  rw [hs g hg (Array.getElem?_eq_some_iff.1 hh).1]; exact hh
theorem rowE_kept {w w' : World} {B z n : Nat} {T : TypeId} {v : Value} {xs : List Value} (h : w.ownsRow B T z v n xs) (hb : Below w.heap.size w w') : w'.ownsRow B T z v n xs :=
 rowE_same h fun g _ hg => hb.block g hg
theorem rowE_nil (w : World) (B z : Nat) (T : TypeId) : w.ownsRow B T z (.slice none 0 0) 0 [] := ⟨by simp, .inl ⟨rfl, rfl⟩⟩
theorem rowE_cells {w : World} {B z n : Nat} {T : TypeId} {v : Value} {xs : List Value} (h : w.ownsRow B T z v n xs) (hn : 0 < n) (hx : xs.length = n * z) : ∃ g c, v = .slice (some ⟨g, 0, none⟩) n c ∧ B ≤ g ∧ g < w.heap.size ∧ ∀ i, i < n * z → w.cell? ⟨g, i, none⟩ = xs[i]? := by
 rcases h.2 with ⟨_, h2⟩ | ⟨g, c, cur, rfl, hg, hh, hr, _, hs, ht⟩
 ·omega
 ·refine ⟨g, c, rfl, hg, (Array.getElem?_eq_some_iff.1 hh).1, fun i hi => ?_⟩
  rw [cell_of_row _ _ _ _ _ _ hh, ← ht, List.getElem?_take_of_lt hi]; simp
theorem row_cap {w : World} {B z n c : Nat} {T : TypeId} {a : Option Addr} {xs : List Value} (h : w.ownsRow B T z (.slice a n c) n xs) : n ≤ c := by
 rcases h.2 with ⟨h, h0⟩ | ⟨g, c', cur, h, _, _, hr, _⟩
 ·omega
 ·simp at h; omega
end Go.Proofs.YtcecfmdjicjngaaGreatDoor
