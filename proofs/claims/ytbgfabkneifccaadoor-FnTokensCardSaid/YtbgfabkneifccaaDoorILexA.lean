/-
  impl.LexText: the tokens of a text, from left to right, as the plain ones: a machine of five labels.
-/
import Derived.Test.YtbgfabkneifccaaDoorIPiece
import Derived.Test.YtbgfabkneifccaaDoorJumps
import Derived.Test.YtbgfabkneifccaaDoorSText
namespace Go.Proofs.YtbgfabkneifccaaDoor
open Go.RowKit
set_option linter.unusedVariables false
attribute [local go_sem] bs_size bs_get bs_extract bs_append bs_eq bs_toList jumps_ret jumps_normal

/-- the frame: the text, the two blocks, the tokens, where the piece begins, where it is read -/
def Fr (l : List UInt8) (B : Nat) (x3 x5 x6 : Value) (a : Act) : Prop :=
  ∃ u1 u7 u8 u9 u10 u11 u12 u13 u14 u15 u16 u17 u18 u19 u20 u21 u22 u23 u24 u25 u26 u27 u28 u29 u30 u31 u32 u33 u34 u35 u36 u37 u38 u39 u40 u41 u42 u43 u44 u45 u46 u47 u48 u49 u50 u51 u52 u53 u54 u55 u56 u57 u58 u59 u60 u61 u62 u63 u64 u65 u66 u67 u68 u69 u70 u71 u72 u73 u74 u75 u76 u77 u78 u79 u80 u81 u82 u83 u84 u85 u86 u87 u88 u89 u90 u91 u92 u93 : Value, a = { tmps := #[.string (bs l), u1, .pointer (some ⟨B, 0, none⟩), x3, .pointer (some ⟨B + 1, 0, none⟩), x5, x6, u7, u8, u9, u10, u11, u12, u13, u14, u15, u16, u17, u18, u19, u20, u21, u22, u23, u24, u25, u26, u27, u28, u29, u30, u31, u32, u33, u34, u35, u36, u37, u38, u39, u40, u41, u42, u43, u44, u45, u46, u47, u48, u49, u50, u51, u52, u53, u54, u55, u56, u57, u58, u59, u60, u61, u62, u63, u64, u65, u66, u67, u68, u69, u70, u71, u72, u73, u74, u75, u76, u77, u78, u79, u80, u81, u82, u83, u84, u85, u86, u87, u88, u89, u90, u91, u92, u93], defers := [] }
def rank : Nat → Nat
  | 0 => 0
  | 4 => 1
  | _ => 2
/-- the number that jumps lower -/
def mu (n : Nat) (l : Nat) (a : Act) (_ : World) : Nat := 8 * (n - (intOf (a.tmps.getD 6 undef)).toNat) + rank l
theorem Fr.mu {l : List UInt8} {B q : Nat} {x3 x5 : Value} {a : Act} (h : Fr l B x3 x5 (.int .i64 (q : Int)) a) (n k : Nat) (w : World) : mu n k a w = 8 * (n - q) + rank k := by
  obtain ⟨u1, u7, u8, u9, u10, u11, u12, u13, u14, u15, u16, u17, u18, u19, u20, u21, u22, u23, u24, u25, u26, u27, u28, u29, u30, u31, u32, u33, u34, u35, u36, u37, u38, u39, u40, u41, u42, u43, u44, u45, u46, u47, u48, u49, u50, u51, u52, u53, u54, u55, u56, u57, u58, u59, u60, u61, u62, u63, u64, u65, u66, u67, u68, u69, u70, u71, u72, u73, u74, u75, u76, u77, u78, u79, u80, u81, u82, u83, u84, u85, u86, u87, u88, u89, u90, u91, u92, u93, rfl⟩ := h
  rfl

/-- between two jumps: the answer's block, the token's block, the row of tokens -/
structure ILex (w wr : World) (vt : Value) (acc : List (Tok × Nat)) : Prop where
  res : wr.heap[w.heap.size]? = some (.cells #[.int .i64 0, .int .i64 0, .slice none 0 0] 27 (0, 0))
  tok : ∃ (t : Tok) (q : Int), wr.heap[w.heap.size + 1]? = some (.cells #[.int .i64 t.kind, .string (bs t.text), .int .i64 t.num, .int .i64 q] 33 (0, 0))
  own : wr.ownsRow (w.heap.size + 2) 33 4 vt acc.length (tokCells acc)
  bel : Below w.heap.size w wr
  size : w.heap.size + 2 ≤ wr.heap.size
theorem ILex.below {w wr w' : World} {vt : Value} {acc : List (Tok × Nat)} (h : ILex w wr vt acc) (hb : Below wr.heap.size wr w') : ILex w w' vt acc :=
  ⟨(hb.block _ (by have := h.size; omega)).trans h.res, by obtain ⟨t, q, e⟩ := h.tok; exact ⟨t, q, (hb.block _ (by have := h.size; omega)).trans e⟩, ownE_same h.own (fun g _ hg => hb.block g hg), h.bel.trans (hb.mono h.bel.size), Nat.le_trans h.size hb.size⟩

/-- what holds wherever the machine jumps -/
structure At (l : List UInt8) (R : Int × Nat × List (Tok × Nat)) (w wr : World) (p : Nat) (acc : List (Tok × Nat)) (vt : Value) : Prop where
  le : p ≤ l.length
  cnt : acc.length ≤ 400
  rest : R = lexW (l.drop p) p acc
  mem : ILex w wr vt acc
/-- .. behind the first byte of a piece -/
structure In (l : List UInt8) (R : Int × Nat × List (Tok × Nat)) (w wr : World) (p k q : Nat) (acc : List (Tok × Nat)) (vt : Value) : Prop where
  at_ : At l R w wr p acc vt
  few : ¬ 400 ≤ acc.length
  lt : p < l.length
  nb : isBlank (ch l p) = false
  one : 1 ≤ k
  at_q : q = p + k
  le : q ≤ l.length
def LexJ (l : List UInt8) (R : Int × Nat × List (Tok × Nat)) (w : World) : Nat → Act → World → Prop
  | 0, a, wr => ∃ (p : Nat) (acc : List (Tok × Nat)) (vt x5 : Value), Fr l w.heap.size vt x5 (.int .i64 (p : Int)) a ∧ At l R w wr p acc vt
  | 1, a, wr => ∃ (p k q : Nat) (acc : List (Tok × Nat)) (vt : Value), Fr l w.heap.size vt (.int .i64 (p : Int)) (.int .i64 (q : Int)) a ∧ In l R w wr p k q acc vt ∧ isLet (ch l p) = true ∧ ∀ j, j < k → isLet (ch l (p + j)) = true
  | 2, a, wr => ∃ (p k q : Nat) (acc : List (Tok × Nat)) (vt : Value), Fr l w.heap.size vt (.int .i64 (p : Int)) (.int .i64 (q : Int)) a ∧ In l R w wr p k q acc vt ∧ isDig (ch l p) = true ∧ ∀ j, j < k → isNum (ch l (p + j)) = true
  | 3, a, wr => ∃ (p q : Nat) (acc : List (Tok × Nat)) (vt : Value), Fr l w.heap.size vt (.int .i64 (p : Int)) (.int .i64 (q : Int)) a ∧ In l R w wr p 1 q acc vt ∧ isLet (ch l p) = false ∧ isDig (ch l p) = false
  | 4, a, wr => ∃ (p k q : Nat) (acc : List (Tok × Nat)) (vt : Value), Fr l w.heap.size vt (.int .i64 (p : Int)) (.int .i64 (q : Int)) a ∧ In l R w wr p k q acc vt ∧ Fit l p k
  | _, _, _ => False

theorem slice_pq (l : List UInt8) (p k q : Nat) (hq : q = p + k) (h : q ≤ l.length) (W : World) : (Instr.slice 9 (.string (bs l)) (some (.int .i64 (p : Int))) (some (.int .i64 (q : Int))) none).run Tryd.prog W = .ok (.string (bs ((l.drop p).take k))) W := by
  subst hq
  have := slice_at l p k h W
  rwa [show ((p : Int) + (k : Int)) = ((p + k : Nat) : Int) from by omega] at this

theorem Fr.mk0 (l : List UInt8) (B : Nat) (x3 x5 x6 : Value) (u1 u7 u8 u9 u10 u11 u12 u13 u14 u15 u16 u17 u18 u19 u20 u21 u22 u23 u24 u25 u26 u27 u28 u29 u30 u31 u32 u33 u34 u35 u36 u37 u38 u39 u40 u41 u42 u43 u44 u45 u46 u47 u48 u49 u50 u51 u52 u53 u54 u55 u56 u57 u58 u59 u60 u61 u62 u63 u64 u65 u66 u67 u68 u69 u70 u71 u72 u73 u74 u75 u76 u77 u78 u79 u80 u81 u82 u83 u84 u85 u86 u87 u88 u89 u90 u91 u92 u93 : Value) : Fr l B x3 x5 x6 { tmps := #[.string (bs l), u1, .pointer (some ⟨B, 0, none⟩), x3, .pointer (some ⟨B + 1, 0, none⟩), x5, x6, u7, u8, u9, u10, u11, u12, u13, u14, u15, u16, u17, u18, u19, u20, u21, u22, u23, u24, u25, u26, u27, u28, u29, u30, u31, u32, u33, u34, u35, u36, u37, u38, u39, u40, u41, u42, u43, u44, u45, u46, u47, u48, u49, u50, u51, u52, u53, u54, u55, u56, u57, u58, u59, u60, u61, u62, u63, u64, u65, u66, u67, u68, u69, u70, u71, u72, u73, u74, u75, u76, u77, u78, u79, u80, u81, u82, u83, u84, u85, u86, u87, u88, u89, u90, u91, u92, u93], defers := [] } := ⟨u1, u7, u8, u9, u10, u11, u12, u13, u14, u15, u16, u17, u18, u19, u20, u21, u22, u23, u24, u25, u26, u27, u28, u29, u30, u31, u32, u33, u34, u35, u36, u37, u38, u39, u40, u41, u42, u43, u44, u45, u46, u47, u48, u49, u50, u51, u52, u53, u54, u55, u56, u57, u58, u59, u60, u61, u62, u63, u64, u65, u66, u67, u68, u69, u70, u71, u72, u73, u74, u75, u76, u77, u78, u79, u80, u81, u82, u83, u84, u85, u86, u87, u88, u89, u90, u91, u92, u93, rfl⟩
/-- the goal of each jump: what holds there, and the number is lower -/
abbrev Jmp (l : List UInt8) (R : Int × Nat × List (Tok × Nat)) (w : World) (M : Nat) : Nat → Act → World → Prop := fun k a wr => LexJ l R w k a wr ∧ mu l.length k a wr < M
theorem jmp0 {l : List UInt8} {R : Int × Nat × List (Tok × Nat)} {w wr : World} {M p : Nat} {acc : List (Tok × Nat)} {vt x5 : Value} {a : Act} (hF : Fr l w.heap.size vt x5 (.int .i64 (p : Int)) a) (h : At l R w wr p acc vt) (hm : 8 * (l.length - p) < M) : Jmp l R w M 0 a wr :=
  ⟨⟨p, acc, vt, x5, hF, h⟩, by rw [hF.mu]; exact hm⟩
theorem jmp1 {l : List UInt8} {R : Int × Nat × List (Tok × Nat)} {w wr : World} {M p k q : Nat} {acc : List (Tok × Nat)} {vt : Value} {a : Act} (hF : Fr l w.heap.size vt (.int .i64 (p : Int)) (.int .i64 (q : Int)) a) (h : In l R w wr p k q acc vt) (hc : isLet (ch l p) = true) (hall : ∀ j, j < k → isLet (ch l (p + j)) = true) (hm : 8 * (l.length - q) + 2 < M) : Jmp l R w M 1 a wr :=
  ⟨⟨p, k, q, acc, vt, hF, h, hc, hall⟩, by rw [hF.mu]; exact hm⟩
theorem jmp2 {l : List UInt8} {R : Int × Nat × List (Tok × Nat)} {w wr : World} {M p k q : Nat} {acc : List (Tok × Nat)} {vt : Value} {a : Act} (hF : Fr l w.heap.size vt (.int .i64 (p : Int)) (.int .i64 (q : Int)) a) (h : In l R w wr p k q acc vt) (hc : isDig (ch l p) = true) (hall : ∀ j, j < k → isNum (ch l (p + j)) = true) (hm : 8 * (l.length - q) + 2 < M) : Jmp l R w M 2 a wr :=
  ⟨⟨p, k, q, acc, vt, hF, h, hc, hall⟩, by rw [hF.mu]; exact hm⟩
theorem jmp3 {l : List UInt8} {R : Int × Nat × List (Tok × Nat)} {w wr : World} {M p q : Nat} {acc : List (Tok × Nat)} {vt : Value} {a : Act} (hF : Fr l w.heap.size vt (.int .i64 (p : Int)) (.int .i64 (q : Int)) a) (h : In l R w wr p 1 q acc vt) (hc : isLet (ch l p) = false) (hd : isDig (ch l p) = false) (hm : 8 * (l.length - q) + 2 < M) : Jmp l R w M 3 a wr :=
  ⟨⟨p, q, acc, vt, hF, h, hc, hd⟩, by rw [hF.mu]; exact hm⟩
theorem jmp4 {l : List UInt8} {R : Int × Nat × List (Tok × Nat)} {w wr : World} {M p k q : Nat} {acc : List (Tok × Nat)} {vt : Value} {a : Act} (hF : Fr l w.heap.size vt (.int .i64 (p : Int)) (.int .i64 (q : Int)) a) (h : In l R w wr p k q acc vt) (hf : Fit l p k) (hm : 8 * (l.length - q) + 1 < M) : Jmp l R w M 4 a wr :=
  ⟨⟨p, k, q, acc, vt, hF, h, hf⟩, by rw [hF.mu]; exact hm⟩
/-- where the machine ends -/
abbrev Ends (R : Int × Nat × List (Tok × Nat)) (w : World) : Ending → World → Prop := fun e w' => Lexed R w.heap.size e w' ∧ Below w.heap.size w w'
end Go.Proofs.YtbgfabkneifccaaDoor
