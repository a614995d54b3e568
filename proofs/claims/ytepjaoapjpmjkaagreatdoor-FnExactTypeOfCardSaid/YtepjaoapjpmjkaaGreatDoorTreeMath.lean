/-
  Trees: what is asked of them, plainly.
-/
import Derived.Test.YtepjaoapjpmjkaaGreatDoorOpenTree
import Derived.Test.YtepjaoapjpmjkaaGreatDoorTreeEq2
import Derived.Test.YtepjaoapjpmjkaaGreatDoorBase
import Derived.Test.YtepjaoapjpmjkaaGreatDoorTreeM
import Derived.WalkKit
namespace Go.Proofs.YtepjaoapjpmjkaaGreatDoor
open Go.RowKit
set_option linter.unusedVariables false
def TreeInt (f : FuncId) (F : LTree → Int) : Prop := ∀ (lo : Nat) (vv vn vb : Value) (T : LTree) (w : World), TreeV lo w vv vn vb T → Sized 1048576 T →
 Calls Tryz.prog f #[treeV vv vn vb] w fun e w' => e = .returned (.int .i64 (F T)) ∧ Below w.heap.size w w'
end Go.Proofs.YtepjaoapjpmjkaaGreatDoor
namespace Go.Proofs.YtepjaoapjpmjkaaGreatDoor
open Go.RowKit
set_option linter.unusedVariables false
def inB (z a b : Int) : Bool := decide (a ≤ z) && decide (z ≤ b)
theorem inB_iff {z a b : Int} : inB z a b = true ↔ a ≤ z ∧ z ≤ b := by simp [inB]
theorem inB_no {z a b : Int} : inB z a b = false ↔ ¬ (a ≤ z ∧ z ≤ b) := by rw [← inB_iff]; cases inB z a b <;> simp
set_option maxHeartbeats 800000 in
theorem l1In_any (z a b : Int) (w : World) :
  Calls Tryz.prog 31 #[.int .i64 z, .int .i64 a, .int .i64 b] w fun e w' => e = .returned (.bool (inB z a b)) ∧ w' = w := by
 by_cases h1 : a ≤ z
 ·by_cases h2 : z ≤ b
  ·have e : inB z a b = true := inB_iff.2 ⟨h1, h2⟩
   rw [e]
   go_enter Tryz.func31, Tryz.ntmps31
   go_wp2
   go_ret
   exact ⟨rfl, rfl⟩
  ·have e : inB z a b = false := inB_no.2 (fun h => h2 h.2)
   rw [e]
   go_enter Tryz.func31, Tryz.ntmps31
   go_wp2
   go_ret
   exact ⟨rfl, rfl⟩
 ·have e : inB z a b = false := inB_no.2 (fun h => h1 h.1)
  rw [e]
  go_enter Tryz.func31, Tryz.ntmps31
  go_wp2
  go_ret
  exact ⟨rfl, rfl⟩
set_option maxHeartbeats 800000 in
theorem l1Word_any (z : Int) (w : World) : Calls Tryz.prog 104 #[.int .i64 z] w fun e w' => e = .returned (.bool (inB z 0 65535)) ∧ w' = w := by
 have H : Hid (∀ w, Calls Tryz.prog 31 #[.int .i64 z, .int .i64 0, .int .i64 65535] w fun e w' => e = .returned (.bool (inB z 0 65535)) ∧ w' = w) := fun w => l1In_any z 0 65535 w
 go_enter Tryz.func104, Tryz.ntmps104
 go_wp2_with fail
 refine (H.out _).mono ?_
 rintro e w' ⟨rfl, rfl⟩
 go_wp2_with fail
 go_ret
 exact ⟨rfl, rfl⟩
end Go.Proofs.YtepjaoapjpmjkaaGreatDoor
namespace Go.Proofs.YtepjaoapjpmjkaaGreatDoor
def isLetI (n : Int) : Bool := decide ((97 ≤ n ∧ n ≤ 122) ∨ n = 95)
def isDigI (n : Int) : Bool := decide (48 ≤ n ∧ n ≤ 57)
def isHexI (n : Int) : Bool := decide (65 ≤ n ∧ n ≤ 70)
def isLet (c : UInt8) : Bool := isLetI (c.toNat : Int)
def isDig (c : UInt8) : Bool := isDigI (c.toNat : Int)
def isHex (c : UInt8) : Bool := isHexI (c.toNat : Int)
def isNum (c : UInt8) : Bool := isDig c || isHex c || decide ((c.toNat : Int) = 35)
def isBlank (c : UInt8) : Bool := decide ((c.toNat : Int) = 32) || decide ((c.toNat : Int) = 10)
def wordsL : List (List UInt8) := [[97, 110, 100], [98, 111, 111, 108], [99, 116, 117], [100, 111], [101, 108, 115, 101], [101, 110, 100], [102, 97, 108, 115, 101], [102, 111, 114], [105, 102], [105, 110], [105, 110, 116], [109, 111, 100], [110, 111, 116], [111, 114], [111, 117, 116], [114, 116, 114, 105, 103], [115, 114], [116, 104, 101, 110], [116, 111], [116, 111, 110], [116, 114, 117, 101], [118, 97, 114], [120, 111, 114]]
def marksL : List (List UInt8) := [[58, 61], [60, 62], [60, 61], [62, 61], [43], [45], [42], [47], [61], [60], [62], [40], [41], [91], [93], [59], [58], [44]]
def isWordL (l : List UInt8) : Bool := wordsL.any (fun x => x == l)
def isNameL (l : List UInt8) : Bool := decide (1 ≤ l.length ∧ l.length ≤ 8) && !isWordL l && l.all isLet
def hexStep (n : Int) (c : UInt8) : Int := if isDig c then n * 16 + ((c.toNat : Int) - 48) else n * 16 + ((c.toNat : Int) - 65) + 10
def hexV (l : List UInt8) : Int := l.foldl hexStep 0
def hexOk (l : List UInt8) : Bool := decide (1 ≤ l.length ∧ l.length ≤ 4) && l.all (fun c => isDig c || isHex c)
def decStep (n : Int) (c : UInt8) : Int := n * 10 + ((c.toNat : Int) - 48)
def decV (l : List UInt8) : Int := l.foldl decStep 0
def decOk (l : List UInt8) : Bool := decide (1 ≤ l.length ∧ l.length ≤ 5) && !(decide (1 < l.length) && decide (((l.getD 0 0).toNat : Int) = 48)) && l.all isDig && decide (decV l ≤ 65535)
def based (l : List UInt8) : Bool := decide (3 < l.length) && (l.take 3 == [49, 54, 35])
def numOk (l : List UInt8) : Bool := if based l then hexOk (l.drop 3) else decOk l
def numV (l : List UInt8) : Int := if based l then hexV (l.drop 3) else decV l
def markL (l : List UInt8) : List UInt8 := (marksL.find? (fun m => m.isPrefixOf l)).getD []
structure Tok where
 kind : Int
 text : List UInt8
 num : Int
deriving DecidableEq
def oneL (l : List UInt8) : Option Tok :=
 let c := l.getD 0 0
 if isLet c then
  let p := l.takeWhile isLet
  if isWordL p then some ⟨3, p, 0⟩ else if isNameL p then some ⟨1, p, 0⟩ else none
 else if isDig c then
  let p := l.takeWhile isNum
  if numOk p then some ⟨2, p, numV p⟩ else none
 else
  let p := markL l
  if p = [] then none else some ⟨4, p, 0⟩
def lexF : Nat → List UInt8 → Nat → List (Tok × Nat) → Int × Nat × List (Tok × Nat)
 | 0, _, _, acc => (0, 0, acc)
 | _ + 1, [], _, acc => (0, 0, acc)
 | f + 1, c :: r, at_, acc =>
  if isBlank c then lexF f r (at_ + 1) acc
  else if 400 ≤ acc.length then (2, at_, [])
  else match oneL (c :: r) with
   | none => (5, at_, [])
   | some t => lexF f ((c :: r).drop t.text.length) (at_ + t.text.length) (acc ++ [(t, at_)])
def lexL (l : List UInt8) : Int × Nat × List (Tok × Nat) := if 1200 < l.length then (2, 0, []) else lexF l.length l 0 []
end Go.Proofs.YtepjaoapjpmjkaaGreatDoor
namespace Go.Proofs.YtepjaoapjpmjkaaGreatDoor
open Go.RowKit
set_option linter.unusedVariables false
attribute [local go_sem] bs_size bs_get bs_extract bs_append bs_eq
theorem retI {a b : Int} (h : a = b) : Ending.returned (.int .i64 a) = Ending.returned (.int .i64 b) := by rw [h]
theorem retB {a b : Bool} (h : a = b) : Ending.returned (.bool a) = Ending.returned (.bool b) := by rw [h]
set_option maxHeartbeats 400000 in
theorem letter_any (n : Int) (w : World) : Calls Tryz.prog 102 #[.int .u8 n] w fun e w' => e = .returned (.bool (isLetI n)) ∧ w' = w := by
 by_cases h1 : 97 ≤ n <;> by_cases h2 : n ≤ 122
 all_goals
  go_enter Tryz.func102, Tryz.ntmps102
  go_wp2
  go_ret
  refine ⟨retB ?_, rfl⟩
  simp only [isLetI]
  first | rfl | (rw [Bool.eq_iff_iff]; simp; omega) | (symm; simp; omega)
def Texts (w : World) (g : Nat) (L : List (List UInt8)) : Prop := ∀ k, k < L.length → w.cell? ⟨g, k, none⟩ = some (.string (bs (L.getD k [])))
theorem texts_new (w : World) (L : List (List UInt8)) (T : TypeId) : Texts (w.alloc (.cells (L.map (fun l => Value.string (bs l))).toArray T)) w.heap.size L := by
 intro k hk
 rw [cell_of_row _ _ k _ _ _ (heap_alloc_new w _)]
 rw [List.getD_eq_getElem?_getD, List.getElem?_eq_getElem hk]
 simp [List.getElem?_eq_getElem hk]
set_option maxHeartbeats 400000 in
theorem words_any (w : World) : Calls Tryz.prog 132 #[] w fun e w' => e = .returned (.slice (some ⟨w.heap.size, 0, none⟩) 23 23) ∧ w' = w.alloc (.cells (wordsL.map (fun l => Value.string (bs l))).toArray 9) := by
 go_enter Tryz.func132, Tryz.ntmps132
 go_wp2
 go_ret
 exact ⟨rfl, rfl⟩
theorem word_yes {l : List UInt8} {k : Nat} (hk : k < 23) (h : wordsL.getD k [] = l) : isWordL l = true := by
 unfold isWordL
 refine List.any_eq_true.2 ⟨l, ?_, by simp⟩
 rw [← h, List.getD_eq_getElem?_getD, List.getElem?_eq_getElem (show k < wordsL.length from hk)]
 simp
theorem word_no {l : List UInt8} (h : ∀ j, j < 23 → wordsL.getD j [] ≠ l) : isWordL l = false := by
 unfold isWordL
 refine List.any_eq_false.2 fun x hx he => ?_
 obtain ⟨j, hj, hx⟩ := List.getElem_of_mem hx
 refine h j hj ?_
 rw [List.getD_eq_getElem?_getD, List.getElem?_eq_getElem hj, ← (show x = l by simpa using he), ← hx]
 rfl
theorem all_yes {p : UInt8 → Bool} {l : List UInt8} (h : ∀ j, j < l.length → p (ch l j) = true) : l.all p = true := by
 refine List.all_eq_true.2 fun x hx => ?_
 obtain ⟨j, hj, hx⟩ := List.getElem_of_mem hx
 have := h j hj
 rwa [ch_get l j hj, hx] at this
theorem all_no {p : UInt8 → Bool} {l : List UInt8} {j : Nat} (hj : j < l.length) (h : p (ch l j) = false) : l.all p = false := by
 refine List.all_eq_false.2 ⟨l[j], List.getElem_mem hj, ?_⟩
 rw [ch_get l j hj] at h
 simp [h]
theorem while_take {f : UInt8 → Bool} {l : List UInt8} {p k : Nat} (hk : p + k ≤ l.length) (h : ∀ j, j < k → f (ch l (p + j)) = true) (he : p + k = l.length ∨ f (ch l (p + k)) = false) : (l.drop p).takeWhile f = (l.drop p).take k := by
 induction k generalizing p with
 | zero =>
  rcases he with he | he
  ·rw [List.drop_of_length_le (by omega)]; rfl
  ·by_cases hp : p < l.length
   ·rw [drop_at l p hp, List.takeWhile_cons]
    rw [Nat.add_zero] at he
    rw [he]; rfl
   ·rw [List.drop_of_length_le (by omega)]; rfl
 | succ k ih =>
  have h0 := h 0 (by omega)
  rw [Nat.add_zero] at h0
  have := ih (p := p + 1) (by omega) (fun j hj => by have := h (j + 1) (by omega); rwa [show p + (j + 1) = p + 1 + j from by omega] at this) (by rwa [show p + (k + 1) = p + 1 + k from by omega] at he)
  rw [drop_at l p (by omega), List.takeWhile_cons, h0, List.take_succ_cons, ← this]
  rfl
set_option maxHeartbeats 800000 in
theorem isWord_any (l : List UInt8) (w : World) : Calls Tryz.prog 101 #[.string (bs l)] w fun e w' => e = .returned (.bool (isWordL l)) ∧ Below w.heap.size w w' := by
 have hB : Below w.heap.size w (w.alloc (.cells (wordsL.map (fun l => Value.string (bs l))).toArray 9)) := (Below.refl _ _).alloc (Nat.le_refl _) _
 have hT := texts_new w wordsL 9
 generalize hW : w.alloc (.cells (wordsL.map (fun l => Value.string (bs l))).toArray 9) = W at hB hT
 have HB := hid hB
 have HT := hid hT
 clear hB hT
 go_enter Tryz.func101, Tryz.ntmps101
 go_wp2_with fail
 refine (words_any _).mono ?_
 rintro e w1 ⟨rfl, rfl⟩
 rw [hW]
 clear hW
 go_wp2
 go_loop [4] (fun i => ∃ k : Nat, k ≤ 23 ∧ i = .int .i64 k ∧ ∀ j, j < k → wordsL.getD j [] ≠ l) (fun i => 23 - (intOf i).toNat)
 case atStart => exact ⟨0, by omega, rfl, by omega⟩
 case round =>
  obtain ⟨k, hk, rfl, hno⟩ := hrel
  have HNO := hid hno
  clear hno
  by_cases hlt : k < 23
  ·have hcell := HT.out k (by simpa [wordsL] using hlt)
   obtain ⟨x, hx⟩ : ∃ x, x = wordsL.getD k [] := ⟨_, rfl⟩
   rw [← hx] at hcell
   have HX : Hid (x = wordsL.getD k []) := hx
   clear hx
   by_cases he : x = l
   ·have HE : Hid (x = l) := he
    have heb : (x == l) = true := by simpa using he
    clear he
    go_wp2
    go_ret
    exact ⟨retB (word_yes hlt (by rw [← HX.out]; exact HE.out)).symm, HB.out⟩
   ·have HE : Hid (¬ x = l) := he
    have heb : (x == l) = false := by simpa using he
    clear he
    go_wp2
    go_round
    case rel => exact ⟨k + 1, by omega, by go_num, fun j hj => by rcases Nat.lt_succ_iff_lt_or_eq.1 hj with h | rfl; exact HNO.out j h; rw [← HX.out]; exact HE.out⟩
    case measure => simp [intOf]; omega
  ·have hk3 : k = 23 := by omega
   subst hk3
   go_wp2
   go_ret
   exact ⟨retB (word_no HNO.out).symm, HB.out⟩
set_option maxHeartbeats 800000 in
theorem isName_any (l : List UInt8) (w : World) (hl0 : l.length ≤ 9223372036854775807) : Calls Tryz.prog 61 #[.string (bs l)] w fun e w' => e = .returned (.bool (isNameL l)) ∧ Below w.heap.size w w' := by
 have hw := isWord_any l w
 by_cases h1 : 1 ≤ l.length ∧ l.length ≤ 8
 ·have hn0 : isNameL l = (!isWordL l && l.all isLet) := by unfold isNameL; rw [decide_eq_true h1]; rfl
  obtain ⟨h1, h2⟩ := h1
  rw [hn0]
  clear hn0
  generalize isWordL l = b at hw
  cases b
  ·go_enter Tryz.func61, Tryz.ntmps61
   go_wp2_with fail
   refine hw.mono ?_
   rintro e w1 ⟨rfl, hb⟩
   have HB := hid hb
   clear hb hw
   go_wp2
   go_loop [3] (fun i => ∃ k : Nat, k ≤ l.length ∧ i = .int .i64 k ∧ ∀ j, j < k → isLet (ch l j) = true) (fun i => l.length - (intOf i).toNat)
   case atStart => exact ⟨0, by omega, rfl, by omega⟩
   case round =>
    obtain ⟨k, hk, rfl, hno⟩ := hrel
    have HNO := hid hno
    clear hno
    by_cases hlt : k < l.length
    ·cases hc : isLetI ((ch l k).toNat : Int)
     ·go_wp2_with (first | (go_at_call 102; refine (letter_any _ _).mono ?_; rintro e w' ⟨rfl, rfl⟩))
      go_ret
      exact ⟨retB (by rw [all_no hlt hc]; rfl), HB.out⟩
     ·go_wp2_with (first | (go_at_call 102; refine (letter_any _ _).mono ?_; rintro e w' ⟨rfl, rfl⟩))
      go_round
      case rel => exact ⟨k + 1, by omega, by go_num, fun j hj => by rcases Nat.lt_succ_iff_lt_or_eq.1 hj with h | rfl; exact HNO.out j h; exact hc⟩
      case measure => simp [intOf]; omega
    ·have hk3 : k = l.length := by omega
     subst hk3
     go_wp2
     go_ret
     exact ⟨retB (by rw [all_yes HNO.out]), HB.out⟩
  ·go_enter Tryz.func61, Tryz.ntmps61
   go_wp2_with fail
   refine hw.mono ?_
   rintro e w1 ⟨rfl, hb⟩
   go_wp2
   go_ret
   exact ⟨rfl, hb⟩
 ·have hn0 : isNameL l = false := by unfold isNameL; rw [decide_eq_false h1]; rfl
  rw [hn0]
  clear hn0 hw
  by_cases h2 : 1 ≤ l.length
  ·have h3 : 8 < l.length := by omega
   clear h1
   go_enter Tryz.func61, Tryz.ntmps61
   go_wp2
   go_ret
   exact ⟨rfl, Below.refl _ _⟩
  ·have h3 : l.length = 0 := by omega
   clear h1
   go_enter Tryz.func61, Tryz.ntmps61
   go_wp2
   go_ret
   exact ⟨rfl, Below.refl _ _⟩
end Go.Proofs.YtepjaoapjpmjkaaGreatDoor
namespace Go.Proofs.YtepjaoapjpmjkaaGreatDoor
open Go.RowKit
set_option linter.unusedVariables false
def exprN (n : LNode) : Bool := inB n.kind 1 6
def refB (N : List LNode) (at_ : Int) (expr : Bool) (x : Int) : Bool := inB x 0 (at_ - 1) && (exprN (N.getD x.toNat default) == expr)
def refsB (N : List LNode) (at_ : Int) (l : List Int) (expr : Bool) : Bool := l.all (refB N at_ expr)
def wantsN (k : Int) : Bool × Int × Bool :=
 if k = 1 then (false, 0, true) else if k = 2 then (true, 0, false) else if k = 3 ∨ k = 7 then (true, 1, false) else if k = 4 ∨ k = 5 ∨ k = 9 then (false, 1, false)
 else if k = 6 then (false, 2, false) else if k = 8 then (true, 2, false) else if k = 10 then (true, 0, true) else (true, -1, false)
def rightB (N : List LNode) (at_ : Nat) : Bool :=
 let n := N.getD at_ default
 let q := wantsN n.kind
 inB n.kind 1 11 &&
 (q.1 == isNameL n.name) && (q.1 || n.name.isEmpty) && (if 0 ≤ q.2.1 then decide ((n.kids.length : Int) = q.2.1) else inB n.kids.length 1 3) &&
 (if q.2.2 then inB n.num 0 65535 else decide (n.num = 0)) && (if n.kind = 10 then inB n.far 0 65535 else decide (n.far = 0)) &&
 (if n.kind = 6 then inB n.op 1 10 else if n.kind = 11 then inB n.op 1 4 else decide (n.op = 0)) &&
 (decide (n.kind = 9) || n.els.isEmpty) && (decide (n.kind = 9) || decide (n.kind = 10) || n.thn.isEmpty) &&
 refsB N at_ n.kids true && refsB N at_ n.thn false && refsB N at_ n.els false
def listsOf (n : LNode) : List Int := n.kids ++ n.thn ++ n.els
def namedB (T : LTree) (k : Nat) : Nat := ((T.nodes.map fun n => (listsOf n).count (k : Int)).sum) + T.body.count (k : Int)
def deepOf (ds : List Int) (i : Nat) (n : LNode) : Int := (listsOf n).foldl (fun d x => if inB x 0 ((i : Int) - 1) then max d (ds.getD x.toNat 0) else d) 0
def depthsL (N : List LNode) : List Int := (List.range N.length).foldl (fun ds i => ds ++ [deepOf ds i (N.getD i default) + 1]) []
def varB (v : LVar) : Int := if isNameL v.name then (if inB v.kind 1 3 && inB v.type 1 2 && inB v.size 0 8 then 0 else 3) else 5
end Go.Proofs.YtepjaoapjpmjkaaGreatDoor
