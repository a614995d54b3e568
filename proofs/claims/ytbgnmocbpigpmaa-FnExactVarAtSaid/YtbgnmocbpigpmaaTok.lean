/-
  The plain mathematics of tokens: what a text is made of, read from left to right. No condition; nothing of Go.
-/
import Derived.WalkKit
namespace Go.Proofs.Ytbgnmocbpigpmaa

def isLetI (n : Int) : Bool := decide ((97 ≤ n ∧ n ≤ 122) ∨ n = 95)
def isDigI (n : Int) : Bool := decide (48 ≤ n ∧ n ≤ 57)
def isHexI (n : Int) : Bool := decide (65 ≤ n ∧ n ≤ 70)
def isLet (c : UInt8) : Bool := isLetI (c.toNat : Int)
def isDig (c : UInt8) : Bool := isDigI (c.toNat : Int)
def isHex (c : UInt8) : Bool := isHexI (c.toNat : Int)
def isNum (c : UInt8) : Bool := isDig c || isHex c || decide ((c.toNat : Int) = 35)
def isBlank (c : UInt8) : Bool := decide ((c.toNat : Int) = 32) || decide ((c.toNat : Int) = 10)

/-- the words, the marks -/
def wordsL : List (List UInt8) := [[97, 110, 100], [98, 111, 111, 108], [99, 116, 117], [100, 111], [101, 108, 115, 101], [101, 110, 100], [102, 97, 108, 115, 101], [102, 111, 114], [105, 102], [105, 110], [105, 110, 116], [109, 111, 100], [110, 111, 116], [111, 114], [111, 117, 116], [114, 116, 114, 105, 103], [115, 114], [116, 104, 101, 110], [116, 111], [116, 111, 110], [116, 114, 117, 101], [118, 97, 114], [120, 111, 114]]
def marksL : List (List UInt8) := [[58, 61], [60, 62], [60, 61], [62, 61], [43], [45], [42], [47], [61], [60], [62], [40], [41], [91], [93], [59], [58], [44]]
def isWordL (l : List UInt8) : Bool := wordsL.any (fun x => x == l)
def isNameL (l : List UInt8) : Bool := decide (1 ≤ l.length ∧ l.length ≤ 8) && !isWordL l && l.all isLet

/-- numbers of base 16 and of base 10 -/
def hexStep (n : Int) (c : UInt8) : Int := if isDig c then n * 16 + ((c.toNat : Int) - 48) else n * 16 + ((c.toNat : Int) - 65) + 10
def hexV (l : List UInt8) : Int := l.foldl hexStep 0
def hexOk (l : List UInt8) : Bool := decide (1 ≤ l.length ∧ l.length ≤ 4) && l.all (fun c => isDig c || isHex c)
def decStep (n : Int) (c : UInt8) : Int := n * 10 + ((c.toNat : Int) - 48)
def decV (l : List UInt8) : Int := l.foldl decStep 0
def decOk (l : List UInt8) : Bool := decide (1 ≤ l.length ∧ l.length ≤ 5) && !(decide (1 < l.length) && decide (((l.getD 0 0).toNat : Int) = 48)) && l.all isDig && decide (decV l ≤ 65535)
def based (l : List UInt8) : Bool := decide (3 < l.length) && (l.take 3 == [49, 54, 35])
def numOk (l : List UInt8) : Bool := if based l then hexOk (l.drop 3) else decOk l
def numV (l : List UInt8) : Int := if based l then hexV (l.drop 3) else decV l

/-- the mark that a text begins with; none: the empty list -/
def markL (l : List UInt8) : List UInt8 := (marksL.find? (fun m => m.isPrefixOf l)).getD []

/-- a token: its kind, its text, its number -/
structure Tok where
  kind : Int
  text : List UInt8
  num : Int
deriving DecidableEq

/-- the token that a text begins with -/
def oneL (l : List UInt8) : Option Tok :=
  let c := l.getD 0 0
  if isLet c then
    let p := l.takeWhile isLet
    if isWordL p then some ⟨3, p, 0⟩ else if isNameL p then some ⟨1, p, 0⟩ else none
  else if isDig c then
    let p := l.takeWhile isNum
    if numOk p then some ⟨2, p, numV p⟩ else none
  else
    let p := markL l
    if p = [] then none else some ⟨4, p, 0⟩

/-- tokens from left to right: a code, its place, the tokens with their places -/
def lexF : Nat → List UInt8 → Nat → List (Tok × Nat) → Int × Nat × List (Tok × Nat)
  | 0, _, _, acc => (0, 0, acc)
  | _ + 1, [], _, acc => (0, 0, acc)
  | f + 1, c :: r, at_, acc =>
    if isBlank c then lexF f r (at_ + 1) acc
    else if 400 ≤ acc.length then (2, at_, [])
    else match oneL (c :: r) with
      | none => (5, at_, [])
      | some t => lexF f ((c :: r).drop t.text.length) (at_ + t.text.length) (acc ++ [(t, at_)])
def lexL (l : List UInt8) : Int × Nat × List (Tok × Nat) := if 1200 < l.length then (2, 0, []) else lexF l.length l 0 []
end Go.Proofs.Ytbgnmocbpigpmaa
