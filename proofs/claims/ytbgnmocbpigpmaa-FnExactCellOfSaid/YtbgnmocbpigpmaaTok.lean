/-
  The plain mathematics of tokens: what a text is made of, read from left to right. No condition; nothing of Go.
-/
import Derived.Test.YtbgnmocbpigpmaaTreeM
import Derived.Test.YtbgnmocbpigpmaaBase
import Derived.Test.YtbgnmocbpigpmaaTreeM
import Derived.WalkKit
namespace Go.Proofs.Ytbgnmocbpigpmaa
open Go.RowKit
set_option linter.unusedVariables false
theorem rowE_shape {w : World} {B z n : Nat} {T : TypeId} {v : Value} {xs : List Value} (h : w.ownsRow B T z v n xs) : ∃ a cap, v = .slice a n cap := by
  rcases h.2 with ⟨rfl, rfl⟩ | ⟨g, c, cur, rfl, _⟩
  · exact ⟨_, _, rfl⟩
  · exact ⟨_, _, rfl⟩
theorem rowE_mono {w : World} {B C z n : Nat} {T : TypeId} {v : Value} {xs : List Value} (h : w.ownsRow B T z v n xs) (hC : C ≤ B) : w.ownsRow C T z v n xs := by
  refine ⟨h.1, ?_⟩
  rcases h.2 with h2 | ⟨g, c, cur, rfl, hg, hr⟩
  · exact .inl h2
  · exact .inr ⟨g, c, cur, rfl, by omega, hr⟩
theorem rowE_same {w w' : World} {B z n : Nat} {T : TypeId} {v : Value} {xs : List Value} (h : w.ownsRow B T z v n xs) (hs : ∀ g, B ≤ g → g < w.heap.size → w'.heap[g]? = w.heap[g]?) : w'.ownsRow B T z v n xs := by
  refine ⟨h.1, ?_⟩
  rcases h.2 with h2 | ⟨g, c, cur, rfl, hg, hh, hr⟩
  · exact .inl h2
  · refine .inr ⟨g, c, cur, rfl, hg, ?_, hr⟩
    rw [hs g hg (Array.getElem?_eq_some_iff.1 hh).1]; exact hh
theorem rowE_kept {w w' : World} {B z n : Nat} {T : TypeId} {v : Value} {xs : List Value} (h : w.ownsRow B T z v n xs) (hb : Below w.heap.size w w') : w'.ownsRow B T z v n xs :=
  rowE_same h fun g _ hg => hb.block g hg
theorem rowE_nil (w : World) (B z : Nat) (T : TypeId) : w.ownsRow B T z (.slice none 0 0) 0 [] := ⟨by simp, .inl ⟨rfl, rfl⟩⟩
theorem rowE_cells {w : World} {B z n : Nat} {T : TypeId} {v : Value} {xs : List Value} (h : w.ownsRow B T z v n xs) (hn : 0 < n) (hx : xs.length = n * z) : ∃ g c, v = .slice (some ⟨g, 0, none⟩) n c ∧ B ≤ g ∧ g < w.heap.size ∧ ∀ i, i < n * z → w.cell? ⟨g, i, none⟩ = xs[i]? := by
  rcases h.2 with ⟨_, h2⟩ | ⟨g, c, cur, rfl, hg, hh, hr, _, hs, ht⟩
  · omega
  · refine ⟨g, c, rfl, hg, (Array.getElem?_eq_some_iff.1 hh).1, fun i hi => ?_⟩
    rw [cell_of_row _ _ _ _ _ _ hh, ← ht, List.getElem?_take_of_lt hi]; simp
theorem row_cap {w : World} {B z n c : Nat} {T : TypeId} {a : Option Addr} {xs : List Value} (h : w.ownsRow B T z (.slice a n c) n xs) : n ≤ c := by
  rcases h.2 with ⟨h, h0⟩ | ⟨g, c', cur, h, _, _, hr, _⟩
  · omega
  · simp at h; omega
end Go.Proofs.Ytbgnmocbpigpmaa
namespace Go.Proofs.Ytbgnmocbpigpmaa
open Go.RowKit
set_option linter.unusedVariables false

def inB (z a b : Int) : Bool := decide (a ≤ z) && decide (z ≤ b)
theorem inB_iff {z a b : Int} : inB z a b = true ↔ a ≤ z ∧ z ≤ b := by simp [inB]
theorem inB_no {z a b : Int} : inB z a b = false ↔ ¬ (a ≤ z ∧ z ≤ b) := by rw [← inB_iff]; cases inB z a b <;> simp

set_option maxHeartbeats 800000 in
theorem l1In_any (z a b : Int) (w : World) :
    Calls Try.prog 46 #[.int .i64 z, .int .i64 a, .int .i64 b] w fun e w' => e = .returned (.bool (inB z a b)) ∧ w' = w := by
  by_cases h1 : a ≤ z
  · by_cases h2 : z ≤ b
    · have e : inB z a b = true := inB_iff.2 ⟨h1, h2⟩
      rw [e]
      go_enter Try.func46, Try.ntmps46
      go_wp2
      go_ret
      exact ⟨rfl, rfl⟩
    · have e : inB z a b = false := inB_no.2 (fun h => h2 h.2)
      rw [e]
      go_enter Try.func46, Try.ntmps46
      go_wp2
      go_ret
      exact ⟨rfl, rfl⟩
  · have e : inB z a b = false := inB_no.2 (fun h => h1 h.1)
    rw [e]
    go_enter Try.func46, Try.ntmps46
    go_wp2
    go_ret
    exact ⟨rfl, rfl⟩

set_option maxHeartbeats 800000 in
theorem l1Word_any (z : Int) (w : World) : Calls Try.prog 141 #[.int .i64 z] w fun e w' => e = .returned (.bool (inB z 0 65535)) ∧ w' = w := by
  have H : Hid (∀ w, Calls Try.prog 46 #[.int .i64 z, .int .i64 0, .int .i64 65535] w fun e w' => e = .returned (.bool (inB z 0 65535)) ∧ w' = w) := fun w => l1In_any z 0 65535 w
  go_enter Try.func141, Try.ntmps141
  go_wp2_with fail
  refine (H.out _).mono ?_
  rintro e w' ⟨rfl, rfl⟩
  go_wp2_with fail
  go_ret
  exact ⟨rfl, rfl⟩
end Go.Proofs.Ytbgnmocbpigpmaa
namespace Go.Proofs.Ytbgnmocbpigpmaa

def isLetI (n : Int) : Bool := decide ((97 ≤ n ∧ n ≤ 122) ∨ n = 95)
def isDigI (n : Int) : Bool := decide (48 ≤ n ∧ n ≤ 57)
def isHexI (n : Int) : Bool := decide (65 ≤ n ∧ n ≤ 70)
def isLet (c : UInt8) : Bool := isLetI (c.toNat : Int)
def isDig (c : UInt8) : Bool := isDigI (c.toNat : Int)
def isHex (c : UInt8) : Bool := isHexI (c.toNat : Int)
def isNum (c : UInt8) : Bool := isDig c || isHex c || decide ((c.toNat : Int) = 35)
def isBlank (c : UInt8) : Bool := decide ((c.toNat : Int) = 32) || decide ((c.toNat : Int) = 10)

/-- the words, the marks -/
def wordsL : List (List UInt8) := [[97, 110, 100], [98, 111, 111, 108], [99, 116, 117], [100, 111], [101, 108, 115, 101], [101, 110, 100], [102, 97, 108, 115, 101], [102, 111, 114], [105, 102], [105, 110], [105, 110, 116], [109, 111, 100], [110, 111, 116], [111, 114], [111, 117, 116], [114, 116, 114, 105, 103], [115, 114], [116, 104, 101, 110], [116, 111], [116, 111, 110], [116, 114, 117, 101], [118, 97, 114], [120, 111, 114]]
def marksL : List (List UInt8) := [[58, 61], [60, 62], [60, 61], [62, 61], [43], [45], [42], [47], [61], [60], [62], [40], [41], [91], [93], [59], [58], [44]]
def isWordL (l : List UInt8) : Bool := wordsL.any (fun x => x == l)
def isNameL (l : List UInt8) : Bool := decide (1 ≤ l.length ∧ l.length ≤ 8) && !isWordL l && l.all isLet

/-- numbers of base 16 and of base 10 -/
def hexStep (n : Int) (c : UInt8) : Int := if isDig c then n * 16 + ((c.toNat : Int) - 48) else n * 16 + ((c.toNat : Int) - 65) + 10
def hexV (l : List UInt8) : Int := l.foldl hexStep 0
def hexOk (l : List UInt8) : Bool := decide (1 ≤ l.length ∧ l.length ≤ 4) && l.all (fun c => isDig c || isHex c)
def decStep (n : Int) (c : UInt8) : Int := n * 10 + ((c.toNat : Int) - 48)
def decV (l : List UInt8) : Int := l.foldl decStep 0
def decOk (l : List UInt8) : Bool := decide (1 ≤ l.length ∧ l.length ≤ 5) && !(decide (1 < l.length) && decide (((l.getD 0 0).toNat : Int) = 48)) && l.all isDig && decide (decV l ≤ 65535)
def based (l : List UInt8) : Bool := decide (3 < l.length) && (l.take 3 == [49, 54, 35])
def numOk (l : List UInt8) : Bool := if based l then hexOk (l.drop 3) else decOk l
def numV (l : List UInt8) : Int := if based l then hexV (l.drop 3) else decV l

/-- the mark that a text begins with; none: the empty list -/
def markL (l : List UInt8) : List UInt8 := (marksL.find? (fun m => m.isPrefixOf l)).getD []

/-- a token: its kind, its text, its number -/
structure Tok where
  kind : Int
  text : List UInt8
  num : Int
deriving DecidableEq

/-- the token that a text begins with -/
def oneL (l : List UInt8) : Option Tok :=
  let c := l.getD 0 0
  if isLet c then
    let p := l.takeWhile isLet
    if isWordL p then some ⟨3, p, 0⟩ else if isNameL p then some ⟨1, p, 0⟩ else none
  else if isDig c then
    let p := l.takeWhile isNum
    if numOk p then some ⟨2, p, numV p⟩ else none
  else
    let p := markL l
    if p = [] then none else some ⟨4, p, 0⟩

/-- tokens from left to right: a code, its place, the tokens with their places -/
def lexF : Nat → List UInt8 → Nat → List (Tok × Nat) → Int × Nat × List (Tok × Nat)
  | 0, _, _, acc => (0, 0, acc)
  | _ + 1, [], _, acc => (0, 0, acc)
  | f + 1, c :: r, at_, acc =>
    if isBlank c then lexF f r (at_ + 1) acc
    else if 400 ≤ acc.length then (2, at_, [])
    else match oneL (c :: r) with
      | none => (5, at_, [])
      | some t => lexF f ((c :: r).drop t.text.length) (at_ + t.text.length) (acc ++ [(t, at_)])
def lexL (l : List UInt8) : Int × Nat × List (Tok × Nat) := if 1200 < l.length then (2, 0, []) else lexF l.length l 0 []
end Go.Proofs.Ytbgnmocbpigpmaa
