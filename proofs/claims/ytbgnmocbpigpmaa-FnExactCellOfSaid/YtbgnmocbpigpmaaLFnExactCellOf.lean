/-
  The Go function laws.FnExactCellOf answers true at every input and writes nothing that was there. No condition.
-/
import Derived.Test.YtbgnmocbpigpmaaTwo
import Derived.Test.YtbgnmocbpigpmaaCellBoth
namespace Go.Proofs.Ytbgnmocbpigpmaa
open Go.RowKit
set_option linter.unusedVariables false
attribute [local go_sem] bs_size bs_get bs_extract bs_append bs_eq bs_toList

set_option maxHeartbeats 6400000 in
set_option maxRecDepth 100000 in
theorem cellOf_law (C V : LTree → List UInt8 → Int) (hS : TreeNamed 20 C V) (hI : TreeNamed 21 C V) (vv vn vb : Value) (T : LTree) (nm : List UInt8) (w : World) (h : IsTree w vv vn vb T) (hn : nm.length ≤ 1048576) :
    Calls Try.prog 5 #[treeV vv vn vb, .string (bs nm)] w fun e w' => e = .returned (.bool true) ∧ Below w.heap.size w w' := by
  obtain ⟨ht, hf⟩ := h
  obtain ⟨av, cv, rfl, _⟩ := id ht.vars
  obtain ⟨an, cn, rfl, _⟩ := id ht.nodes
  obtain ⟨ab, cb, rfl, _⟩ := id ht.body
  have HT : Hid (TreeV 0 w (.slice av T.vars.length cv) (.slice an T.nodes.length cn) (.slice ab T.body.length cb) T) := ht
  have HF : Hid (Fits T) := hf
  have HS : Hid (TreeNamed 20 C V) := hS
  have HI : Hid (TreeNamed 21 C V) := hI
  have HQ : Hid (∀ (a b : Int) (w : World), Calls Try.prog 16 #[.agg #[.int .i64 a, .int .i64 b], .agg #[.int .i64 a, .int .i64 b]] w fun e w' => e = .returned (.bool true) ∧ Below w.heap.size w w') := eqIntRes_any
  clear ht hf hS hI
  have HN : Hid (nm.length ≤ 1048576) := hn
  have hbb : decide ((1048576 : Int) < (nm.length : Int)) = false := decide_eq_false (by omega)
  clear hn
  go_enter Try.func5, Try.ntmps5
  go_wp2_with fail
  have hA := heap_alloc_new w (.cells #[.slice av T.vars.length cv, .slice an T.nodes.length cn, .slice ab T.body.length cb] 26)
  have hB : Below w.heap.size w (w.alloc (.cells #[.slice av T.vars.length cv, .slice an T.nodes.length cn, .slice ab T.body.length cb] 26)) := (Below.refl _ _).alloc (Nat.le_refl _) _
  generalize w.alloc (.cells #[.slice av T.vars.length cv, .slice an T.nodes.length cn, .slice ab T.body.length cb] 26) = W at *
  refine (szTree_any 0 T _ _ _ _ (HT.out.below hB) HF.out).mono ?_
  rintro e w1 ⟨r, rfl, hr, hb1⟩
  have HA : Hid (w1.heap[w.heap.size]? = some (.cells #[.slice av T.vars.length cv, .slice an T.nodes.length cn, .slice ab T.body.length cb] 26 (0, 0))) := blk hA hb1
  have HB : Hid (Below w.heap.size w w1) := hB.trans (hb1.mono hB.size)
  clear hb1 hA hB
  by_cases h0 : 0 ≤ r
  · have HZ : Hid (Sized 1048576 T) := hr h0
    clear hr
    have a0 := cell_of_row _ _ 0 _ _ _ HA.out
    have a1 := cell_of_row _ _ 1 _ _ _ HA.out
    have a2 := cell_of_row _ _ 2 _ _ _ HA.out
    simp at a0 a1 a2
    go_wp2_with fail
    refine (toTree_any 0 T _ _ _ _ (HT.out.below HB.out) HZ.out).mono ?_
    rintro e w2 ⟨_, _, _, rfl, ht2, hb⟩
    obtain ⟨av2, cv2, rfl, _⟩ := id ht2.vars
    obtain ⟨an2, cn2, rfl, _⟩ := id ht2.nodes
    obtain ⟨ab2, cb2, rfl, _⟩ := id ht2.body
    have hA := blk HA.out hb
    have hB := HB.out.trans (hb.mono HB.out.size)
    clear HA HB hb a0 a1 a2
    have HA : Hid _ := hA
    have HB : Hid (Below w.heap.size w w2) := hB
    have HT2 : Hid (TreeV w1.heap.size w2 (.slice av2 T.vars.length cv2) (.slice an2 T.nodes.length cn2) (.slice ab2 T.body.length cb2) T) := ht2
    clear hA hB ht2
    go_wp2_with fail
    refine (HS.out _ _ _ _ T _ _ HT2.out HZ.out HN.out).mono ?_
    rintro e w3 ⟨rfl, hb⟩
    have hA := blk HA.out hb
    have hB := HB.out.trans (hb.mono HB.out.size)
    clear HA HB hb HT2
    have HA : Hid _ := hA
    have HB : Hid (Below w.heap.size w w3) := hB
    clear hA hB
    have hbx : Below w3.heap.size w3 (w3.alloc (.cells #[.int .i64 (C T nm), .int .i64 (V T nm)] 29)) := (Below.refl _ _).alloc (Nat.le_refl _) _
    have HG : Hid _ := heap_alloc_new w3 (.cells #[.int .i64 (C T nm), .int .i64 (V T nm)] 29)
    have hA := blk HA.out hbx
    have a0 := cell_of_row _ _ 0 _ _ _ hA
    have a1 := cell_of_row _ _ 1 _ _ _ hA
    have a2 := cell_of_row _ _ 2 _ _ _ hA
    simp at a0 a1 a2
    have hB := HB.out.trans (hbx.mono HB.out.size)
    clear HA HB hbx
    have HA : Hid _ := hA
    have HB : Hid _ := hB
    clear hA hB
    go_wp2_with fail
    have hA := HA.out
    have hB := HB.out
    have hG := HG.out
    clear HA HB HG a0 a1 a2
    generalize w3.alloc (.cells #[.int .i64 (C T nm), .int .i64 (V T nm)] 29) = W3 at *
    generalize w3.heap.size = g3 at *
    refine (toTree_any 0 T _ _ _ _ (HT.out.below hB) HZ.out).mono ?_
    rintro e w4 ⟨_, _, _, rfl, ht4, hb⟩
    obtain ⟨av4, cv4, rfl, _⟩ := id ht4.vars
    obtain ⟨an4, cn4, rfl, _⟩ := id ht4.nodes
    obtain ⟨ab4, cb4, rfl, _⟩ := id ht4.body
    have HA : Hid _ := blk hA hb
    have HG : Hid _ := blk hG hb
    have HB : Hid (Below w.heap.size w w4) := hB.trans (hb.mono hB.size)
    have HT4 : Hid (TreeV W3.heap.size w4 (.slice av4 T.vars.length cv4) (.slice an4 T.nodes.length cn4) (.slice ab4 T.body.length cb4) T) := ht4
    clear hA hB ht4 hG hb
    go_wp2_with fail
    have hbx : Below w4.heap.size w4 (w4.alloc (.cells #[.slice av4 T.vars.length cv4, .slice an4 T.nodes.length cn4, .slice ab4 T.body.length cb4] 34)) := (Below.refl _ _).alloc (Nat.le_refl _) _
    have hX := heap_alloc_new w4 (.cells #[.slice av4 T.vars.length cv4, .slice an4 T.nodes.length cn4, .slice ab4 T.body.length cb4] 34)
    have hA := blk HA.out hbx
    have hG := blk HG.out hbx
    have hB := HB.out.trans (hbx.mono HB.out.size)
    have hT4 := HT4.out.below hbx
    clear HA HB HG HT4 hbx
    generalize w4.alloc (.cells #[.slice av4 T.vars.length cv4, .slice an4 T.nodes.length cn4, .slice ab4 T.body.length cb4] 34) = W5 at *
    generalize w4.heap.size = g4 at *
    refine (HI.out _ _ _ _ T _ _ hT4 HZ.out HN.out).mono ?_
    rintro e w5 ⟨rfl, hb⟩
    have hA5 := blk hA hb
    have hG5 := blk hG hb
    have hX5 := blk hX hb
    have hB5 := hB.trans (hb.mono hB.size)
    have hT5 := hT4.below hb
    clear hb hB hT4 hA hX hG
    have hbx : Below w5.heap.size w5 (w5.alloc (.cells #[.int .i64 (C T nm), .int .i64 (V T nm)] 29)) := (Below.refl _ _).alloc (Nat.le_refl _) _
    have hH := heap_alloc_new w5 (.cells #[.int .i64 (C T nm), .int .i64 (V T nm)] 29)
    have HA : Hid _ := blk hA5 hbx
    have HG : Hid _ := blk hG5 hbx
    have HX : Hid _ := blk hX5 hbx
    have HH : Hid _ := hH
    have HB : Hid _ := hB5.trans (hbx.mono hB5.size)
    have HT5 : Hid _ := hT5.below hbx
    have b0 := cell_of_row _ _ 0 _ _ _ HG.out
    have b1 := cell_of_row _ _ 1 _ _ _ HG.out
    have d0 := cell_of_row _ _ 0 _ _ _ HH.out
    have d1 := cell_of_row _ _ 1 _ _ _ HH.out
    simp at b0 b1 d0 d1
    clear hA5 hG5 hX5 hH hB5 hT5 hbx
    go_wp2_with fail
    generalize w5.alloc (.cells #[.int .i64 (C T nm), .int .i64 (V T nm)] 29) = W6 at *
    refine (HQ.out _ _ _).mono ?_
    rintro e w6 ⟨rfl, hb⟩
    have hA6 := blk HA.out hb
    have hX6 := blk HX.out hb
    have hB6 := HB.out.trans (hb.mono HB.out.size)
    have hT6 := HT5.out.below hb
    clear HA HG HX HH HB HT5 b0 b1 d0 d1 hb
    have HB : Hid (Below w.heap.size w w6) := hB6
    have HT6 : Hid (TreeV W3.heap.size w6 (.slice av4 T.vars.length cv4) (.slice an4 T.nodes.length cn4) (.slice ab4 T.body.length cb4) T) := hT6
    clear hB6 hT6
    have hgA : w.heap.size < w6.heap.size := blk_lt hA6
    have hgX : g4 < w6.heap.size := blk_lt hX6
    have a0 := cell_of_row _ _ 0 _ _ _ hA6
    have a1 := cell_of_row _ _ 1 _ _ _ hA6
    have a2 := cell_of_row _ _ 2 _ _ _ hA6
    simp at a0 a1 a2
    have x0 := cell_of_row _ _ 0 _ _ _ hX6
    have x1 := cell_of_row _ _ 1 _ _ _ hX6
    have x2 := cell_of_row _ _ 2 _ _ _ hX6
    simp at x0 x1 x2
    clear hA6 hX6
    have A0 : Hid _ := a0
    have X0 : Hid _ := x0
    have A1 : Hid _ := a1
    have X1 : Hid _ := x1
    have A2 : Hid _ := a2
    have X2 : Hid _ := x2
    have HC : Hid (∀ W, Below w6.heap.size w6 W → Calls Try.prog 14 #[.agg #[.slice av T.vars.length cv, .slice an T.nodes.length cn, .slice ab T.body.length cb]] W fun e w' => ∃ a c a2 c2 a3 c3, e = .returned (treeV (.slice a T.vars.length c) (.slice a2 T.nodes.length c2) (.slice a3 T.body.length c3)) ∧ TreeV W.heap.size w' (.slice a T.vars.length c) (.slice a2 T.nodes.length c2) (.slice a3 T.body.length c3) T ∧ Below W.heap.size W w') := fun W hW =>
      (toTree_any 0 T _ _ _ W (HT.out.below (HB.out.trans (hW.mono HB.out.size))) HZ.out).mono fun e w' h => by
        obtain ⟨_, _, _, rfl, h1, h2⟩ := h
        obtain ⟨_, _, rfl, _⟩ := id h1.vars
        obtain ⟨_, _, rfl, _⟩ := id h1.nodes
        obtain ⟨_, _, rfl, _⟩ := id h1.body
        exact ⟨_, _, _, _, _, _, rfl, h1, h2⟩
    have HE : Hid (∀ W lo v1 v2 v3, Below w6.heap.size w6 W → TreeV lo W v1 v2 v3 T → Calls Try.prog 17 #[.agg #[.slice av4 T.vars.length cv4, .slice an4 T.nodes.length cn4, .slice ab4 T.body.length cb4], treeV v1 v2 v3] W fun e w' => e = .returned (.bool true) ∧ Below W.heap.size W w') := fun W lo v1 v2 v3 hW h =>
      eqTree_any _ _ T _ _ _ _ _ _ W (HT6.out.below hW) h HZ.out
    go_wp2_with fail
    go_region_held3 (fun W => (W.cell? ⟨w.heap.size, 0, none⟩ = some (.slice av T.vars.length cv) ∧ W.cell? ⟨w.heap.size, 1, none⟩ = some (.slice an T.nodes.length cn) ∧ W.cell? ⟨w.heap.size, 2, none⟩ = some (.slice ab T.body.length cb)) ∧ (W.cell? ⟨g4, 0, none⟩ = some (.slice av4 T.vars.length cv4) ∧ W.cell? ⟨g4, 1, none⟩ = some (.slice an4 T.nodes.length cn4) ∧ W.cell? ⟨g4, 2, none⟩ = some (.slice ab4 T.body.length cb4))) (go_keep) (first | (go_at_call 14; refine (HC.out _ (Below.refl w6.heap.size w6).drew).mono ?_; rintro e w7 ⟨a7, c7, b7, d7, e7, f7, rfl, ht7, hb⟩; have hD : Below w6.heap.size w6 w7 := ((Below.refl w6.heap.size w6).drew).trans (Below.mono hb (Nat.le_refl _)); have a0 := (hD.cell (p := ⟨w.heap.size, 0, none⟩) hgA).trans A0.out; have a1 := (hD.cell (p := ⟨w.heap.size, 1, none⟩) hgA).trans A1.out; have a2 := (hD.cell (p := ⟨w.heap.size, 2, none⟩) hgA).trans A2.out; have x0 := (hD.cell (p := ⟨g4, 0, none⟩) hgX).trans X0.out; have x1 := (hD.cell (p := ⟨g4, 1, none⟩) hgX).trans X1.out; have x2 := (hD.cell (p := ⟨g4, 2, none⟩) hgX).trans X2.out; have HD : Hid (Below w6.heap.size w6 w7) := hD; have HT7 : Hid (TreeV _ w7 _ _ _ T) := ht7; clear hb hD ht7) | (go_at_call 17; refine (HE.out _ _ _ _ _ HD.out HT7.out).mono ?_; rintro e w8 ⟨rfl, hb⟩; have hD : Below w6.heap.size w6 w8 := HD.out.trans (Below.mono hb HD.out.size); have a0 := (hD.cell (p := ⟨w.heap.size, 0, none⟩) hgA).trans A0.out; have a1 := (hD.cell (p := ⟨w.heap.size, 1, none⟩) hgA).trans A1.out; have a2 := (hD.cell (p := ⟨w.heap.size, 2, none⟩) hgA).trans A2.out; have x0 := (hD.cell (p := ⟨g4, 0, none⟩) hgX).trans X0.out; have x1 := (hD.cell (p := ⟨g4, 1, none⟩) hgX).trans X1.out; have x2 := (hD.cell (p := ⟨g4, 2, none⟩) hgX).trans X2.out; have hBB := HB.out.trans (hD.mono HB.out.size); clear hb))
    go_wp2
    go_ret
    exact ⟨rfl, hBB⟩
  · go_wp2_with fail
    go_ret
    exact ⟨rfl, HB.out⟩
end Go.Proofs.Ytbgnmocbpigpmaa
namespace Go.Proofs.Ytbgnmocbpigpmaa
open Go.RowKit
set_option linter.unusedVariables false
attribute [local go_sem] bs_size bs_get bs_extract bs_append bs_eq bs_toList

set_option maxHeartbeats 1600000 in
theorem fnExactCellOf_walk (vv0 vn0 vb0 : Value) (T0 : LTree) (a1 : ByteArray) (w : World) (w0 : IsTree w vv0 vn0 vb0 T0) (w1 : a1.size ≤ maxLen) :
    Calls Try.prog 5 #[treeV vv0 vn0 vb0, .string a1] w fun e w' => e = .returned (.bool true) ∧ Below w.heap.size w w' := by
  obtain ⟨l, rfl⟩ : ∃ l, a1 = bs l := ⟨_, bs_of a1⟩
  by_cases hbig : 1048576 < l.length
  · have hbb : decide ((1048576 : Int) < (l.length : Int)) = true := decide_eq_true (by omega)
    obtain ⟨ht, _⟩ := w0
    obtain ⟨av, cv, rfl, _⟩ := id ht.vars
    obtain ⟨an, cn, rfl, _⟩ := id ht.nodes
    obtain ⟨ab, cb, rfl, _⟩ := id ht.body
    clear hbig w1 ht
    go_enter Try.func5, Try.ntmps5
    go_wp2
    go_ret
    exact ⟨rfl, by go_grown⟩
  · exact cellOf_law ceoC ceoV specCellOf implCellOf vv0 vn0 vb0 T0 l w w0 (by omega)
end Go.Proofs.Ytbgnmocbpigpmaa
