/-
  laws.FnExactLexText answers true at every input, where impl.LexText answers the plain tokens (the premise ImplLex, paid elsewhere).
-/
import Derived.Test.YtbgfabkneifccaaDoorTokRes
import Derived.Test.YtbgfabkneifccaaDoorIWord
namespace Go.Proofs.YtbgfabkneifccaaDoor
open Go.RowKit
set_option linter.unusedVariables false
attribute [local go_sem] bs_size bs_get bs_extract bs_append bs_eq bs_toList

/-- what is asked of impl.LexText -/
def ImplLex : Prop := ∀ (l : List UInt8) (w : World), l.length ≤ 2000000 → Errs w → Calls Tryd.prog 9 #[.string (bs l)] w fun e w' => Lexed (lexL l) w.heap.size e w' ∧ Below w.heap.size w w'

theorem lexF_le : ∀ (f : Nat) (l : List UInt8) (p : Nat) (acc : List (Tok × Nat)), acc.length ≤ 400 → (lexF f l p acc).2.2.length ≤ 400 := by
  intro f
  induction f with
  | zero => intro l p acc h; exact h
  | succ f ih =>
    intro l p acc h
    cases l with
    | nil => exact h
    | cons c r =>
      simp only [lexF]
      split
      · exact ih _ _ _ h
      · split
        · simp
        · split
          · simp
          · exact ih _ _ _ (by simp; omega)
theorem lexL_le (l : List UInt8) : (lexL l).2.2.length ≤ 400 := by
  unfold lexL; split
  · simp
  · exact lexF_le _ _ _ _ (by simp)
def TI (T : List (Tok × Nat)) : List (Tok × Int) := T.map fun x => (x.1, (x.2 : Int))
theorem TI_len (T : List (Tok × Nat)) : (TI T).length = T.length := by simp [TI]
theorem TI_cells (T : List (Tok × Nat)) : tokCellsI (TI T) = tokCells T := by simp [TI, tokCellsI, tokCells, List.flatMap_map]
/-- tokens in a row of their own -/
structure Row (w : World) (B : Nat) (T : List (Tok × Nat)) (a : Option Addr) (cap g : Nat) : Prop where
  le : T.length ≤ cap
  lt : g = 0 ∨ g < w.heap.size
  hd : T.length ≠ 0 → a = some ⟨g, 0, none⟩ ∧ B ≤ g ∧ g < w.heap.size ∧ Toks w g (TI T) ∧ Marked w g cap 1 0
theorem Row.below {w w' : World} {B cap g C : Nat} {T : List (Tok × Nat)} {a : Option Addr} (h : Row w B T a cap g) (hb : Below w.heap.size w w') : Row w' B T a cap g :=
  ⟨h.le, h.lt.imp id (fun h3 => Nat.lt_of_lt_of_le h3 hb.size), fun hn => by
    obtain ⟨h1, h2, h3, h4, h5⟩ := h.hd hn
    exact ⟨h1, h2, Nat.lt_of_lt_of_le h3 hb.size, toks_below h4 hb h3, h5.below hb⟩⟩
theorem row_of {R : Int × Nat × List (Tok × Nat)} {B : Nat} {e : Ending} {w : World} (h : Lexed R B e w) : ∃ a cap g, e = .returned (resT R.1 (R.2.1 : Int) a R.2.2.length cap) ∧ Row w B R.2.2 a cap g := by
  obtain ⟨ad, cp, rfl, hown⟩ := lexed_lt h
  by_cases hn : R.2.2.length = 0
  · refine ⟨ad, cp, 0, rfl, ⟨by omega, .inl rfl, fun h => absurd hn h⟩⟩
  · obtain ⟨g, rfl, h1, h2, h3⟩ := own_cells hown (by
      intro e; have := tokCells_len R.2.2; rw [e] at this; simp at this; omega)
    rcases hown.2 with ⟨hv, h0⟩ | ⟨g', c, cur, hv, hg, hh, hle, hmx, hsz, ht⟩
    · exact absurd h0 hn
    · cases hv
      exact ⟨_, cp, g, rfl, ⟨hle, .inr h2, fun _ => ⟨rfl, h1, h2, fun j u hu => h3 j u (by rw [← TI_cells]; exact hu), ⟨cur, hh, hsz, fun i hi => absurd hi (by omega)⟩⟩⟩⟩
/-- tokens that lie below L -/
def TRow (w : World) (L : Nat) (T : List (Tok × Nat)) (a : Option Addr) (g : Nat) : Prop := T.length ≠ 0 → a = some ⟨g, 0, none⟩ ∧ g < L ∧ Toks w g (TI T)
theorem TRow.below {w w' : World} {L g : Nat} {T : List (Tok × Nat)} {a : Option Addr} (h : TRow w L T a g) (hb : Below L w w') : TRow w' L T a g := fun hn => by
  obtain ⟨h1, h2, h3⟩ := h hn
  exact ⟨h1, h2, toks_below h3 hb h2⟩
theorem Row.toks {w : World} {B cap g : Nat} {T : List (Tok × Nat)} {a : Option Addr} (h : Row w B T a cap g) : TRow w w.heap.size T a g := fun hn => by
  obtain ⟨h1, _, h3, h4, _⟩ := h.hd hn
  exact ⟨h1, h3, h4⟩
theorem TRow.mono {w : World} {L L' g : Nat} {T : List (Tok × Nat)} {a : Option Addr} (h : TRow w L T a g) (hL : L ≤ L') : TRow w L' T a g := fun hn => by
  obtain ⟨h1, h2, h3⟩ := h hn
  exact ⟨h1, Nat.lt_of_lt_of_le h2 hL, h3⟩
theorem eqRow (c q : Int) (T : List (Tok × Nat)) (hn : T.length ≤ 400) (a b : Option Addr) (g h p p' L L' : Nat) (w : World) (ha : TRow w L T a g) (hb : TRow w L' T b h) :
    Calls Tryd.prog 15 #[resT c q a T.length p, resT c q b T.length p'] w fun e w' => e = .returned (.bool true) ∧ Below w.heap.size w w' := by
  have hne : TI T ≠ [] → T.length ≠ 0 := fun h e => h (by unfold TI; rw [List.length_eq_zero_iff.1 e]; rfl)
  have := eqTokRes_any c q (TI T) g h p p' a b w (by rw [TI_len]; omega) (fun e => (ha (hne e)).1) (fun e => (hb (hne e)).1) (fun e => (ha (hne e)).2.2) (fun e => (hb (hne e)).2.2)
  rw [TI_len] at this
  exact this
/-- a TokensResult in a block of its own -/
def VarT (W : World) (p : Nat) (c q : Int) (a : Option Addr) (n cap : Nat) : Prop := W.heap[p]? = some (.cells #[.int .i64 c, .int .i64 q, .slice a n cap] 27 (0, 0))
theorem VarT.new (W : World) (c q : Int) (a : Option Addr) (n cap : Nat) : VarT (W.alloc (.cells #[.int .i64 c, .int .i64 q, .slice a n cap] 27)) W.heap.size c q a n cap := heap_alloc_new _ _
theorem VarT.lt {W : World} {p n cap : Nat} {c q : Int} {a : Option Addr} (h : VarT W p c q a n cap) : p < W.heap.size := (Array.getElem?_eq_some_iff.1 h).1
theorem VarT.below {W W' : World} {p n cap : Nat} {c q : Int} {a : Option Addr} (h : VarT W p c q a n cap) (hb : Below W.heap.size W W') : VarT W' p c q a n cap := by
  unfold VarT; rw [hb.block p h.lt]; exact h
theorem VarT.cells {W : World} {p n cap : Nat} {c q : Int} {a : Option Addr} (h : VarT W p c q a n cap) : W.cell? ⟨p, 0, none⟩ = some (.int .i64 c) ∧ W.cell? ⟨p, 1, none⟩ = some (.int .i64 q) ∧ W.cell? ⟨p, 2, none⟩ = some (.slice a n cap) :=
  ⟨cell_of_row W p 0 _ _ _ h, cell_of_row W p 1 _ _ _ h, cell_of_row W p 2 _ _ _ h⟩

set_option maxHeartbeats 6400000 in
theorem lexLaw (hI : ImplLex) (a0 : ByteArray) (w : World) (hE : Errs w) :
    Calls Tryd.prog 4 #[.string a0] w fun e w' => e = .returned (.bool true) ∧ Below w.heap.size w w' := by
  obtain ⟨l, rfl⟩ : ∃ l, a0 = bs l := ⟨_, bs_of a0⟩
  by_cases hbig : 1048576 < l.length
  · have hbb : decide ((1048576 : Int) < (l.length : Int)) = true := decide_eq_true (by omega)
    clear hbig
    go_enter Tryd.func4, Tryd.ntmps4
    go_wp2
    go_ret
    exact ⟨rfl, Below.refl _ _⟩
  have hbb : decide ((1048576 : Int) < (l.length : Int)) = false := decide_eq_false (by omega)
  have hS := fun w => lex_any l w (by omega)
  have hI := fun w h => hI l w (by omega) h
  have HE : Hid (Errs w) := hE
  have hn := lexL_le l
  generalize lexL l = R at *
  obtain ⟨C, Q, T⟩ := R
  have hn : T.length ≤ 400 := hn
  have HS : Hid (∀ w, Calls Tryd.prog 10 #[.string (bs l)] w fun e w' => Lexed (C, Q, T) w.heap.size e w' ∧ Below w.heap.size w w') := hS
  have HI : Hid (∀ w, Errs w → Calls Tryd.prog 9 #[.string (bs l)] w fun e w' => Lexed (C, Q, T) w.heap.size e w' ∧ Below w.heap.size w w') := hI
  clear hbig hS hI hE
  go_enter Tryd.func4, Tryd.ntmps4
  go_wp2_with fail
  refine (HS.out _).mono ?_
  rintro e w1 ⟨hx, hB1⟩
  obtain ⟨a1, p1, g1, rfl, hr1⟩ := row_of hx
  clear hx HS
  have hb : Below w1.heap.size w1 (w1.alloc (.cells #[.int .i64 C, .int .i64 (Q : Int), .slice a1 T.length p1] 27)) := (Below.refl _ _).alloc (Nat.le_refl _) _
  have hv1 := VarT.new w1 C (Q : Int) a1 T.length p1
  have hwz : w.heap.size ≤ w1.heap.size := hB1.size
  have hB1a := hB1.trans (hb.mono hB1.size)
  have H1 : Hid (TRow (w1.alloc (.cells #[.int .i64 C, .int .i64 (Q : Int), .slice a1 T.length p1] 27)) (w1.heap.size + 1) T a1 g1) := (hr1.toks.below hb).mono (by omega)
  clear hb hr1 hB1
  go_wp2_with fail
  refine (HI.out _ (HE.out.below hB1a)).mono ?_
  rintro e w2 ⟨hx, hb⟩
  rw [World.size_alloc] at hx hb
  obtain ⟨a2, p2, g2, rfl, hr2⟩ := row_of hx
  have hv2 : VarT w2 w1.heap.size C (Q : Int) a1 T.length p1 := by unfold VarT; rw [hb.block _ (by omega)]; exact hv1
  have H2 : Hid (TRow w2 (w1.heap.size + 1) T a1 g1) := H1.out.below hb
  have hB2 := hB1a.trans (hb.mono (Nat.le_trans hB1a.size (Nat.le_of_eq (World.size_alloc _ _))))
  have hsz1 : w1.heap.size < w2.heap.size := hv2.lt
  clear hx hb hv1 H1 hB1a
  have hb : Below w2.heap.size w2 (w2.alloc (.cells #[.int .i64 C, .int .i64 (Q : Int), .slice a2 T.length p2] 27)) := (Below.refl _ _).alloc (Nat.le_refl _) _
  have hu3 := VarT.new w2 C (Q : Int) a2 T.length p2
  have hv3 := hv2.below hb
  have H3 : Hid (TRow (w2.alloc (.cells #[.int .i64 C, .int .i64 (Q : Int), .slice a2 T.length p2] 27)) (w1.heap.size + 1) T a1 g1) := H2.out.below (hb.mono hsz1)
  have G3 : Hid (Row (w2.alloc (.cells #[.int .i64 C, .int .i64 (Q : Int), .slice a2 T.length p2] 27)) (w1.heap.size + 1) T a2 p2 g2) := hr2.below (C := 0) hb
  have hB3 := hB2.trans (hb.mono hB2.size)
  have hgne : w2.heap.size ≠ g2 := by rcases hr2.lt with h | h <;> omega
  obtain ⟨c0, c1, c2⟩ := hv2.cells
  clear hb hv2 H2 hB2 hr2
  go_wp2_with fail
  refine (eqRow C (Q : Int) T hn a2 a1 g2 g1 p2 p1 _ _ _ G3.out.toks H3.out).mono ?_
  rintro e w3 ⟨rfl, hb⟩
  have hu4 := hu3.below hb
  have hv4 := hv3.below hb
  have H4 : Hid (TRow w3 (w1.heap.size + 1) T a1 g1) := H3.out.below (hb.mono (by simp; omega))
  have G4 : Hid (Row w3 (w1.heap.size + 1) T a2 p2 g2) := G3.out.below (C := 0) hb
  have hB4 := hB3.trans (hb.mono hB3.size)
  have hsz2 : w2.heap.size < w3.heap.size := hu4.lt
  obtain ⟨d0, d1, d2⟩ := hu4.cells
  clear hb hu3 hv3 H3 G3 hB3 c0 c1 c2
  go_wp2_with fail
  refine (markTokRes_any C (Q : Int) a2 g2 T.length p2 (w1.heap.size + 1) 1 w3 G4.out.le (by omega) (by omega) (fun h => (G4.out.hd h).2.1) (by omega) (fun h => (G4.out.hd h).1) (fun h => (G4.out.hd h).2.2.2.2)).mono ?_
  rintro e w4 ⟨rfl, hm, hb, ho⟩
  have hu5 : VarT w4 w2.heap.size C (Q : Int) a2 T.length p2 := by unfold VarT; rw [ho _ hsz2 hgne]; exact hu4
  have hv5 : VarT w4 w1.heap.size C (Q : Int) a1 T.length p1 := by unfold VarT; rw [hb.block _ (by omega)]; exact hv4
  have H5 : Hid (TRow w4 (w1.heap.size + 1) T a1 g1) := H4.out.below hb
  have hB5 : Below w.heap.size w w4 := hB4.trans (hb.mono (by omega))
  have HM5 : Hid (T.length ≠ 0 → Marked w4 g2 p2 1 (4 * T.length)) := hm
  have HA : Hid (T.length ≠ 0 → a2 = some ⟨g2, 0, none⟩) := fun h => (G4.out.hd h).1
  have HL : Hid (T.length ≤ p2) := G4.out.le
  have hsz4 : w1.heap.size < w4.heap.size := hv5.lt
  obtain ⟨c0, c1, c2⟩ := hu5.cells
  clear hb ho hm hu4 hv4 H4 G4 hB4 hsz2 d0 d1 d2 hgne
  go_wp2_with fail
  refine (heldTokRes_any C (Q : Int) a2 g2 T.length p2 1 w4 HL.out (by omega) (by omega) HA.out HM5.out).mono ?_
  rintro e w5 ⟨rfl, hb⟩
  have hu6 := hu5.below hb
  have hv6 := hv5.below hb
  have H6 : Hid (TRow w5 (w1.heap.size + 1) T a1 g1) := H5.out.below (hb.mono (by omega))
  have hB6 : Below w.heap.size w w5 := hB5.trans (hb.mono hB5.size)
  have HM6 : Hid (T.length ≠ 0 → Marked w5 g2 p2 1 (4 * T.length)) := fun h => (HM5.out h).below hb
  have hsz5 : w1.heap.size < w5.heap.size := hv6.lt
  clear hb hu5 hv5 H5 hB5 HM5 c0 c1 c2 hsz4
  go_wp2_with fail
  refine (HI.out _ (HE.out.below hB6)).mono ?_
  rintro e w6 ⟨hx, hb⟩
  obtain ⟨a3, p3, g3, rfl, hr3⟩ := row_of hx
  have hu7 := hu6.below hb
  have hv7 := hv6.below hb
  have H7 : Hid (TRow w6 (w1.heap.size + 1) T a1 g1) := H6.out.below (hb.mono (by omega))
  have hB7 : Below w.heap.size w w6 := hB6.trans (hb.mono hB6.size)
  have HM7 : Hid (T.length ≠ 0 → Marked w6 g2 p2 1 (4 * T.length)) := fun h => (HM6.out h).below hb
  have hsz6 : w1.heap.size < w6.heap.size := hv7.lt
  clear hx hb hu6 hv6 H6 hB6 HM6 hsz5 HI
  have hb : Below w6.heap.size w6 (w6.alloc (.cells #[.int .i64 C, .int .i64 (Q : Int), .slice a3 T.length p3] 27)) := (Below.refl _ _).alloc (Nat.le_refl _) _
  have hu8 := hu7.below hb
  have hv8 := hv7.below hb
  have H8 : Hid (TRow (w6.alloc (.cells #[.int .i64 C, .int .i64 (Q : Int), .slice a3 T.length p3] 27)) (w1.heap.size + 1) T a1 g1) := H7.out.below (hb.mono (by omega))
  have G8 : Hid (Row (w6.alloc (.cells #[.int .i64 C, .int .i64 (Q : Int), .slice a3 T.length p3] 27)) w5.heap.size T a3 p3 g3) := hr3.below (C := 0) hb
  have hB8 : Below w.heap.size w (w6.alloc (.cells #[.int .i64 C, .int .i64 (Q : Int), .slice a3 T.length p3] 27)) := hB7.trans (hb.mono hB7.size)
  have HM8 : Hid (T.length ≠ 0 → Marked (w6.alloc (.cells #[.int .i64 C, .int .i64 (Q : Int), .slice a3 T.length p3] 27)) g2 p2 1 (4 * T.length)) := fun h => (HM7.out h).below hb
  obtain ⟨c0, c1, c2⟩ := hv7.cells
  have hlt7 := hv7.lt
  clear hb hu7 hv7 H7 hB7 HM7 hr3
  go_wp2_with fail
  refine (eqRow C (Q : Int) T hn a3 a1 g3 g1 p3 p1 _ _ _ G8.out.toks H8.out).mono ?_
  rintro e w9 ⟨rfl, hb⟩
  have hu9 := hu8.below hb
  have hB9 : Below w.heap.size w w9 := hB8.trans (hb.mono hB8.size)
  have HM9 : Hid (T.length ≠ 0 → Marked w9 g2 p2 1 (4 * T.length)) := fun h => (HM8.out h).below hb
  obtain ⟨d0, d1, d2⟩ := hu9.cells
  clear hb hu8 hv8 H8 G8 hB8 HM8 c0 c1 c2
  go_wp2_with fail
  refine (heldTokRes_any C (Q : Int) a2 g2 T.length p2 1 w9 HL.out (by omega) (by omega) HA.out HM9.out).mono ?_
  rintro e w10 ⟨rfl, hb⟩
  have hB10 : Below w.heap.size w w10 := hB9.trans (hb.mono hB9.size)
  clear hb hu9 HM9 hB9 d0 d1 d2
  go_wp2
  go_ret
  exact ⟨rfl, hB10⟩
end Go.Proofs.YtbgfabkneifccaaDoor
