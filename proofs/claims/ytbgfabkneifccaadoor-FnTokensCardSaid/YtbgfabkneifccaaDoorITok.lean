/-
  impl.tokenOf: the token that a piece is, or that it is none.
-/
import Derived.Test.YtbgfabkneifccaaDoorIWord
import Derived.Test.YtbgfabkneifccaaDoorIMark
import Derived.Test.YtbgfabkneifccaaDoorSOne
namespace Go.Proofs.YtbgfabkneifccaaDoor
open Go.RowKit
set_option linter.unusedVariables false
attribute [local go_sem] bs_size bs_get bs_extract bs_append bs_eq bs_toList

/-- the kind of a piece; none: 0; the token that it is -/
def kindL (l : List UInt8) : Int := if isWordL l then 3 else if isNameL l then 1 else if isMarkL l then 4 else if numOk l then 2 else 0
def tokL (l : List UInt8) : Tok := ⟨kindL l, l, if isWordL l then 0 else if isNameL l then 0 else if isMarkL l then 0 else numR l⟩

theorem clone_any (l : List UInt8) (hl : l.length ≤ 2000000) (w : World) : Calls Tryd.prog 45 #[.string (bs l)] w fun e w' => e = .returned (.string (bs l)) ∧ Below w.heap.size w w' := by
  have hsz : (bs l).size ≤ 281474976710656 := by rw [bs_size]; omega
  go_enter Tryd.func45, Tryd.ntmps45
  go_wp2_with (go_at_call 58; refine (Tryd.stringslite_Clone _ _ hsz).mono ?_; rintro e w1 ⟨rfl, hb⟩)
  go_ret
  exact ⟨rfl, hb⟩

/-- a block that lies, behind a call -/
theorem own4c {w w1 w2 : World} {r0 r1 r2 r3 : Value} {T : TypeId} (h : w1.heap[w.heap.size]? = some (.cells #[r0, r1, r2, r3] T (0, 0))) (hb : Below w1.heap.size w1 w2) : w2.heap[w.heap.size]? = some (.cells #[r0, r1, r2, r3] T (0, 0)) :=
  (hb.block _ (Array.getElem?_eq_some_iff.1 h).1).trans h

set_option maxHeartbeats 6400000 in
theorem tokenOf_any (l : List UInt8) (p : Int) (hn : based l = true → (l.drop 3).length ≤ 4 → (l.drop 3).all isNum = true) (hl : l.length ≤ 2000000) (w : World) (hE : Errs w) :
    Calls Tryd.prog 34 #[.string (bs l), .int .i64 p] w fun e w' => e = .returned (tokV (tokL l) p) ∧ Below w.heap.size w w' := by
  have hW := fun w => iIsWord_any l w
  have hN := fun w => iIsName_any l w (by omega)
  have hM := fun w => iMark_any l w
  have hO := fun w h => number_impl l hn (by omega) w h
  have hC := fun w => clone_any l hl w
  have hK : kindL l = if isWordL l then 3 else if isNameL l then 1 else if isMarkL l then 4 else if numOk l then 2 else 0 := rfl
  have hV : tokL l = ⟨kindL l, l, if isWordL l then 0 else if isNameL l then 0 else if isMarkL l then 0 else numR l⟩ := rfl
  have hR : numOk l = false → numR l = 0 := fun h => by unfold numR; rw [h]; rfl
  rw [hV, hK]
  clear hV hK hn
  generalize isWordL l = bw at *
  generalize isNameL l = bn at *
  generalize isMarkL l = bm at *
  generalize numOk l = bo at *
  generalize numR l = no at *
  have HC : Hid (∀ w, Calls Tryd.prog 45 #[.string (bs l)] w fun e w' => e = .returned (.string (bs l)) ∧ Below w.heap.size w w') := hC
  have HO : Hid (∀ w, Errs w → Calls Tryd.prog 46 #[.string (bs l)] w fun e w' => e = .returned (.tuple #[.int .i64 no, .bool bo]) ∧ Below w.heap.size w w') := hO
  have HR : Hid (bo = false → no = 0) := hR
  have HE : Hid (Errs w) := hE
  have HZ : Hid (Below w.heap.size w (w.alloc (.cells #[.int .i64 0, .string ⟨#[]⟩, .int .i64 0, .int .i64 0] 33))) := (Below.refl _ _).alloc (Nat.le_refl _) _
  clear hC hO hR hE hl
  go_enter Tryd.func34, Tryd.ntmps34
  go_wp2_with fail
  refine (HC.out _).mono ?_
  rintro e w1 ⟨rfl, hb⟩
  have r := (hb.block w.heap.size (by simp)).trans (heap_alloc_new w _)
  have hB1 : Below w.heap.size w w1 := HZ.out.trans (hb.mono HZ.out.size)
  have hlt : w.heap.size < w1.heap.size := (Array.getElem?_eq_some_iff.1 r).1
  have r0 := cell_of_row _ _ 0 _ _ _ r
  have r1 := cell_of_row _ _ 1 _ _ _ r
  have r2 := cell_of_row _ _ 2 _ _ _ r
  have r3 := cell_of_row _ _ 3 _ _ _ r
  have f0 := frozen_of_row _ _ 0 _ _ r
  have f1 := frozen_of_row _ _ 1 _ _ r
  have f2 := frozen_of_row _ _ 2 _ _ r
  have f3 := frozen_of_row _ _ 3 _ _ r
  simp at r0 r1 r2 r3
  clear hb HC HZ
  have hne : w1.heap.size ≠ w.heap.size := by omega
  cases bw
  · cases bn
    · cases bm
      · have hE2 : Errs (w1.alloc (.cells #[.int .i64 0, .string (bs l), .int .i64 0, .int .i64 p] 33)) := HE.out.below (hB1.trans (((Below.refl _ _).alloc (Nat.le_refl _) _).mono hB1.size))
        have HE2 : Hid (Errs (w1.alloc (.cells #[.int .i64 0, .string (bs l), .int .i64 0, .int .i64 p] 33))) := hE2
        have hbz : Below w1.heap.size w1 (w1.alloc (.cells #[.int .i64 0, .string (bs l), .int .i64 0, .int .i64 p] 33)) := (Below.refl _ _).alloc (Nat.le_refl _) _
        have HBZ : Hid (Below w1.heap.size w1 (w1.alloc (.cells #[.int .i64 0, .string (bs l), .int .i64 0, .int .i64 p] 33))) := hbz
        have hnew : Hid ((w1.alloc (.cells #[.int .i64 0, .string (bs l), .int .i64 0, .int .i64 p] 33)).heap[w1.heap.size]? = some (.cells #[.int .i64 0, .string (bs l), .int .i64 0, .int .i64 p] 33 (0, 0))) := heap_alloc_new _ _
        clear hE2 hbz
        go_wp2_with (first | (go_at_call 14; refine (hW _).mono ?_; rintro e w' ⟨rfl, rfl⟩) | (go_at_call 13; refine (hN _).mono ?_; rintro e w' ⟨rfl, rfl⟩) | (go_at_call 33; refine (hM _).mono ?_; rintro e w' ⟨rfl, rfl⟩))
        refine (HO.out _ HE2.out).mono ?_
        rintro e w3 ⟨rfl, hb⟩
        have q := (hb.block w1.heap.size (by simp)).trans hnew.out
        have r' := ((HBZ.out.trans (hb.mono HBZ.out.size)).block w.heap.size hlt).trans r
        have hB3 : Below w.heap.size w w3 := hB1.trans ((HBZ.out.trans (hb.mono HBZ.out.size)).mono hB1.size)
        have hlt1 : w1.heap.size < w3.heap.size := (Array.getElem?_eq_some_iff.1 q).1
        clear r0 r1 r2 r3 f0 f1 f2 f3 hb hB1 r HE2 HBZ hnew hW hN hM HO
        have q0 := cell_of_row _ _ 0 _ _ _ q
        have q1 := cell_of_row _ _ 1 _ _ _ q
        have q2 := cell_of_row _ _ 2 _ _ _ q
        have q3 := cell_of_row _ _ 3 _ _ _ q
        have g0 := frozen_of_row _ _ 0 _ _ q
        have g2 := frozen_of_row _ _ 2 _ _ q
        have r0 := cell_of_row _ _ 0 _ _ _ r'
        have r1 := cell_of_row _ _ 1 _ _ _ r'
        have r2 := cell_of_row _ _ 2 _ _ _ r'
        have r3 := cell_of_row _ _ 3 _ _ _ r'
        have f0 := frozen_of_row _ _ 0 _ _ r'
        have f1 := frozen_of_row _ _ 1 _ _ r'
        have f2 := frozen_of_row _ _ 2 _ _ r'
        have f3 := frozen_of_row _ _ 3 _ _ r'
        simp at q0 q1 q2 q3 r0 r1 r2 r3
        clear q r'
        have hlt3 : w.heap.size < w3.heap.size := by omega
        cases bo
        · have hno := HR.out rfl
          subst hno
          go_wp2
          refine bodyPost_ret (v := tokV ⟨0, l, 0⟩ p) (by simp [results, Tryd.results34, go_sem, r0, r1, r2, r3]) rfl ⟨rfl, ?_⟩
          go_grown
        · go_wp2
          refine bodyPost_ret (v := tokV ⟨2, l, no⟩ p) (by simp [results, Tryd.results34, go_sem, r0, r1, r2, r3]) rfl ⟨rfl, ?_⟩
          go_grown
      · go_wp2_with (first | (go_at_call 14; refine (hW _).mono ?_; rintro e w' ⟨rfl, rfl⟩) | (go_at_call 13; refine (hN _).mono ?_; rintro e w' ⟨rfl, rfl⟩) | (go_at_call 33; refine (hM _).mono ?_; rintro e w' ⟨rfl, rfl⟩))
        refine bodyPost_ret (v := tokV ⟨4, l, 0⟩ p) (by simp [results, Tryd.results34, go_sem, r0, r1, r2, r3, hlt]) rfl ⟨rfl, ?_⟩
        go_grown
    · go_wp2_with (first | (go_at_call 14; refine (hW _).mono ?_; rintro e w' ⟨rfl, rfl⟩) | (go_at_call 13; refine (hN _).mono ?_; rintro e w' ⟨rfl, rfl⟩))
      refine bodyPost_ret (v := tokV ⟨1, l, 0⟩ p) (by simp [results, Tryd.results34, go_sem, r0, r1, r2, r3, hlt]) rfl ⟨rfl, ?_⟩
      go_grown
  · go_wp2_with (first | (go_at_call 14; refine (hW _).mono ?_; rintro e w' ⟨rfl, rfl⟩))
    refine bodyPost_ret (v := tokV ⟨3, l, 0⟩ p) (by simp [results, Tryd.results34, go_sem, r0, r1, r2, r3, hlt]) rfl ⟨rfl, ?_⟩
    go_grown
end Go.Proofs.YtbgfabkneifccaaDoor
