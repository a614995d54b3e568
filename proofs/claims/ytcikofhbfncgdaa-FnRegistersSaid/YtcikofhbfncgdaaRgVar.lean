/-
  A RegResult in its block with its two rows of its own; what the laws of RegResults share.
-/
import Derived.Test.YtcikofhbfncgdaaDraws
import Derived.Laws.Rows
import Derived.Test.YtcikofhbfncgdaaStkLw2
import Derived.Test.YtcikofhbfncgdaaRgLw
import Derived.Test.YtcikofhbfncgdaaRgLw2
namespace Go.Proofs.Ytcikofhbfncgdaa
open Go.RowKit

def marks (k : Int) (n : Nat) : List Int := (List.range n).map (fun i : Nat => k + i)
theorem marks_length (k : Int) (n : Nat) : (marks k n).length = n := by unfold marks; simp
theorem marks_get (k : Int) (n i : Nat) (h : i < n) : (marks k n).getD i 0 = k + i := by
  unfold marks
  rw [List.getD_eq_getElem?_getD, List.getElem?_eq_getElem (by simpa using h)]
  simp

/-- the first j marks, then what was there -/
theorem marked {k : Int} {zs : List Int} {j : Nat} (h : j < zs.length) :
    ((marks k j ++ zs.drop j).map (Value.int .i64)).set j (.int .i64 (k + j)) = (marks k (j + 1) ++ zs.drop (j + 1)).map (Value.int .i64) := by
  have e : marks k (j + 1) = marks k j ++ [k + j] := by unfold marks; rw [List.range_succ, List.map_append]; rfl
  rw [e, List.drop_eq_getElem_cons h]
  simp only [List.map_append, List.map_cons, List.append_assoc, List.cons_append, List.nil_append]
  rw [List.set_append_right _ _ (by simp [marks_length])]
  simp [marks_length]

set_option maxHeartbeats 800000 in
theorem mark_any (a : Option Addr) (zs : List Int) (cap B : Nat) (k : Int) (w : World) (hlen : zs.length ≤ 1048576) (hk0 : 0 ≤ k) (hk1 : k ≤ 4194304) (ho : w.ownsRow B 2 1 (.slice a zs.length cap) zs.length (zs.map (Value.int .i64))) :
    Calls Try.prog 38 #[.slice a zs.length cap, .int .i64 k] w fun e w' =>
      e = .returned (.int .i64 (k + zs.length)) ∧ w'.ownsRow B 2 1 (.slice a zs.length cap) zs.length ((marks k zs.length).map (Value.int .i64)) ∧ Below B w w' ∧ w'.heap.size = w.heap.size ∧ (∀ g, a ≠ some ⟨g, 0, none⟩ → w'.heap[g]? = w.heap[g]?) := by
  go_enter Try.func38, Try.ntmps38
  go_wp2
  go_loopw [1, 5] (fun x i wr => ∃ j : Nat, j ≤ zs.length ∧ i = .int .i64 j ∧ x = .int .i64 (k + j) ∧ wr.ownsRow B 2 1 (.slice a zs.length cap) zs.length ((marks k j ++ zs.drop j).map (Value.int .i64)) ∧ Below B w wr ∧ wr.heap.size = w.heap.size ∧ (∀ g, a ≠ some ⟨g, 0, none⟩ → wr.heap[g]? = w.heap[g]?))
    (fun _ i _ => zs.length - (intOf i).toNat)
  case atStart => exact ⟨0, Nat.zero_le _, rfl, by simp, by simpa [marks] using ho, Below.refl _ _, rfl, fun _ _ => rfl⟩
  case round =>
    obtain ⟨j, hj, rfl, rfl, hown, hB, hsz, hoth⟩ := hrel
    by_cases hlt : j < zs.length
    · obtain ⟨g, rfl⟩ : ∃ g, a = some ⟨g, 0, none⟩ := by
        rcases hown.2 with ⟨h, h0⟩ | ⟨g, c, cur, h, _⟩
        · omega
        · simp at h; exact ⟨g, h.1⟩
      have hgB : B ≤ g := (hown.lt g rfl).1
      have hdst := hown.cellAt j (by omega)
      have hfr := hown.frozenAt j
      obtain ⟨y, hy⟩ : ∃ y, wr.cell? ⟨g, j, none⟩ = some y := by
        rw [hdst]; exact ⟨_, List.getElem?_eq_getElem (by simp [marks_length]; omega)⟩
      have hst := (hown.stored j (.int .i64 (k + j))).1
      rw [marked hlt] at hst
      have HOTH : Hid (∀ g', some (⟨g, 0, none⟩ : Addr) ≠ some ⟨g', 0, none⟩ → (wr.setCell ⟨g, j, none⟩ (.int .i64 (k + j))).heap[g']? = w.heap[g']?) := fun g' hg' => by
        rw [heap_setCell_other _ _ _ _ (fun h => hg' (by simp at h; rw [h]))]
        exact hoth g' hg'
      clear hdst hown hoth ho
      go_wp2
      go_roundw
      case rel => exact ⟨j + 1, by omega, by go_num, by go_num, hst, hB.setCell hgB _, by rw [World.size_setCell]; exact hsz, HOTH.out⟩
      case measure => simp [intOf]; omega
    · have hj2 : j = zs.length := by omega
      subst hj2
      have hown2 : Hid (wr.ownsRow B 2 1 (.slice a zs.length cap) zs.length ((marks k zs.length).map (Value.int .i64))) := by
        show World.ownsRow _ _ _ _ _ _ _
        simpa using hown
      have HOTH : Hid (∀ g, a ≠ some ⟨g, 0, none⟩ → wr.heap[g]? = w.heap[g]?) := hoth
      clear hown hoth ho
      go_wp2
      go_ret
      exact ⟨rfl, hown2.out, hB, hsz, HOTH.out⟩

set_option maxHeartbeats 800000 in
theorem held_any (a : Option Addr) (n cap : Nat) (k : Int) (w : World) (hlen : n ≤ 1048576) (hk0 : 0 ≤ k) (hk1 : k ≤ 4194304) (hn : Nums w a (marks k n)) :
    Calls Try.prog 96 #[.slice a n cap, .int .i64 k] w fun e w' => e = .returned (.int .i64 (k + n)) ∧ w' = w := by
  go_enter Try.func96, Try.ntmps96
  go_wp2
  go_loop [1, 5] (fun x i => ∃ j : Nat, j ≤ n ∧ i = .int .i64 j ∧ x = .int .i64 (k + j)) (fun _ i => n - (intOf i).toNat)
  case atStart => exact ⟨0, Nat.zero_le _, rfl, by simp⟩
  case round =>
    obtain ⟨j, hj, rfl, rfl⟩ := hrel
    by_cases hlt : j < n
    · rcases hn with hn | ⟨b, off, rfl, hc⟩
      · have := marks_length k n; rw [hn] at this; simp at this; omega
      have hcell := hc j (by rw [marks_length]; exact hlt)
      rw [marks_get k n j hlt] at hcell
      clear hc
      go_wp2
      go_round
      case rel => exact ⟨j + 1, by omega, by go_num, by go_num⟩
      case measure => simp [intOf]; omega
    · have hj2 : j = n := by omega
      subst hj2
      clear hn
      go_wp2
      go_ret
      exact ⟨rfl, rfl⟩

theorem marks_nums {w : World} {B n cap : Nat} {k : Int} {a : Option Addr} (h : w.ownsRow B 2 1 (.slice a n cap) n ((marks k n).map (Value.int .i64))) : Nums w a (marks k n) :=
  (nums_of_own (B := B) (n := n) (cap := cap) (by unfold Own; rw [marks_length]; exact h)).2
end Go.Proofs.Ytcikofhbfncgdaa
namespace Go.Proofs.Ytcikofhbfncgdaa
open Go.RowKit
set_option linter.unusedVariables false

set_option maxHeartbeats 3200000 in
set_option maxRecDepth 100000 in
theorem eqRes8_any (C : Int) (m : SM) (sv cv sv' cv' : Value) (w : World) (h1 : RowV w sv m.stk) (h2 : RowV w cv m.cells) (h3 : RowV w sv' m.stk) (h4 : RowV w cv' m.cells) (hl1 : m.stk.length ≤ 1048576) (hl2 : m.cells.length ≤ 1048576) :
    Calls Try.prog 55 #[resV C m sv cv, resV C m sv' cv'] w fun e w' => e = .returned (.bool true) ∧ Below w.heap.size w w' := by
  have HX : Hid (∀ W, Below w.heap.size w W → Calls Try.prog 54 #[machL m sv cv, machL m sv' cv'] W fun e w' => e = .returned (.bool true) ∧ Below W.heap.size W w') := fun W h => eqMach_any m sv cv sv' cv' W (h1.below h) (h2.below h) (h3.below h) (h4.below h) hl1 hl2
  obtain ⟨a1, k1, rfl, _⟩ := h1
  obtain ⟨a2, k2, rfl, _⟩ := h2
  obtain ⟨a3, k3, rfl, _⟩ := h3
  obtain ⟨a4, k4, rfl, _⟩ := h4
  generalize m.stk.length = l1 at *
  generalize m.cells.length = l2 at *
  have x1 := heap_alloc_new w (.cells (line8 C m (.slice a1 l1 k1) (.slice a2 l2 k2)) 41)
  have y1 := (Below.refl w.heap.size w).alloc (Nat.le_refl _) (.cells (line8 C m (.slice a1 l1 k1) (.slice a2 l2 k2)) 41)
  have s1 : (w.alloc (.cells (line8 C m (.slice a1 l1 k1) (.slice a2 l2 k2)) 41)).heap.size = w.heap.size + 1 := by simp
  clear hl1 hl2
  go_enter Try.func55, Try.ntmps55
  go_upto_region 1 with fail
  generalize w.alloc (.cells (line8 C m (.slice a1 l1 k1) (.slice a2 l2 k2)) 41) = W1 at *
  have x2 := heap_alloc_new W1 (.cells (line8 C m (.slice a3 l1 k3) (.slice a4 l2 k4)) 41)
  have y2 := (Below.refl W1.heap.size W1).alloc (Nat.le_refl _) (.cells (line8 C m (.slice a3 l1 k3) (.slice a4 l2 k4)) 41)
  generalize W1.alloc (.cells (line8 C m (.slice a3 l1 k3) (.slice a4 l2 k4)) 41) = W2 at *
  rw [s1] at x2
  have HA : Hid (W2.heap[w.heap.size]? = some (.cells (line8 C m (.slice a1 l1 k1) (.slice a2 l2 k2)) 41 (0, 0))) := blk8 x1 y2
  have HC : Hid (W2.heap[w.heap.size + 1]? = some (.cells (line8 C m (.slice a3 l1 k3) (.slice a4 l2 k4)) 41 (0, 0))) := x2
  have HB : Hid (Below w.heap.size w W2) := y1.trans (y2.mono (by omega))
  clear x1 x2 y1 y2 s1
  obtain ⟨p0, p1, p2, p3, p4, p5, p6, p7⟩ := row8 HA.out
  obtain ⟨q0, q1, q2, q3, q4, q5, q6, q7⟩ := row8 HC.out
  go_wp2_with fail
  refine (HX.out _ HB.out).mono ?_
  rintro e w3 ⟨rfl, hb⟩
  have HB3 : Hid (Below w.heap.size w w3) := HB.out.trans (hb.mono HB.out.size)
  clear p0 p1 p2 p3 p4 p5 p6 p7 q0 q1 q2 q3 q4 q5 q6 q7 hb HB HA HC HX
  go_wp2_with fail
  go_ret
  exact ⟨rfl, HB3.out⟩

/-- what a marking leaves -/
def Marked (B : Nat) (w w' : World) (k : Int) (a1 a2 : Option Addr) (n1 n2 : Nat) : Prop :=
  Nums w' a1 (marks k n1) ∧ Nums w' a2 (marks (k + n1) n2) ∧ Below B w w' ∧ w.heap.size ≤ w'.heap.size ∧ (∀ g, g < w.heap.size → a1 ≠ some ⟨g, 0, none⟩ → a2 ≠ some ⟨g, 0, none⟩ → w'.heap[g]? = w.heap[g]?)

set_option maxHeartbeats 3200000 in
set_option maxRecDepth 100000 in
theorem markMach_any (m : SM) (a1 a2 : Option Addr) (c1 c2 B : Nat) (k : Int) (w : World) (hs : Own w B (.slice a1 m.stk.length c1) m.stk) (hc : Own w B (.slice a2 m.cells.length c2) m.cells) (hd : ∀ g, a1 = some ⟨g, 0, none⟩ → a2 ≠ some ⟨g, 0, none⟩) (hB : B ≤ w.heap.size) (hl1 : m.stk.length ≤ 1048576) (hl2 : m.cells.length ≤ 1048576) (hk0 : 0 ≤ k) (hk1 : k ≤ 2097152) :
    Calls Try.prog 59 #[machL m (.slice a1 m.stk.length c1) (.slice a2 m.cells.length c2), .int .i64 k] w fun e w' => e = .returned (.int .i64 (k + m.stk.length + m.cells.length)) ∧ Marked B w w' k a1 a2 m.stk.length m.cells.length := by
  have hx := heap_alloc_new w (.cells (lineL m (.slice a1 m.stk.length c1) (.slice a2 m.cells.length c2)) 39)
  have hy := (Below.refl w.heap.size w).alloc (Nat.le_refl _) (.cells (lineL m (.slice a1 m.stk.length c1) (.slice a2 m.cells.length c2)) 39)
  have hsz : (w.alloc (.cells (lineL m (.slice a1 m.stk.length c1) (.slice a2 m.cells.length c2)) 39)).heap.size = w.heap.size + 1 := by simp
  have hb0 : Below B w (w.alloc (.cells (lineL m (.slice a1 m.stk.length c1) (.slice a2 m.cells.length c2)) 39)) := hy.mono hB
  have hs1 := own_kept hs hy
  have hc1 := own_kept hc hy
  have g1 : a1 ≠ some ⟨w.heap.size, 0, none⟩ := fun e => by have := (own_lt hs e).2; omega
  have g2 : a2 ≠ some ⟨w.heap.size, 0, none⟩ := fun e => by have := (own_lt hc e).2; omega
  clear hs hc
  go_enter Try.func59, Try.ntmps59
  go_upto_region 1 with fail
  generalize w.alloc (.cells (lineL m (.slice a1 m.stk.length c1) (.slice a2 m.cells.length c2)) 39) = W at *
  obtain ⟨_, p1, _⟩ := row7 hx
  have HY : Hid _ := hy
  have HG1 : Hid _ := g1
  have HG2 : Hid _ := g2
  have HD : Hid _ := hd
  clear hy g1 g2 hd
  go_wp2_with fail
  refine (mark_any a1 m.stk c1 B k W (by omega) hk0 (by omega) hs1).mono ?_
  rintro e w2 ⟨rfl, ho, hbm, hz, hoth⟩
  have HX2 : Hid _ := (hoth w.heap.size HG1.out).trans hx
  have hc2 := own_other hc1 (w' := w2) (fun g hg => hoth g (fun e => HD.out g e (own_at hc1 hg)))
  have HO : Hid _ := ho
  have HOT : Hid _ := hoth
  have HB2 : Hid (Below B w w2) := hb0.trans hbm
  clear ho hoth hbm hb0 hs1 hc1 hx p1
  obtain ⟨_, _, p2, _⟩ := row7 HX2.out
  go_wp2_with fail
  refine (mark_any a2 m.cells c2 B (k + m.stk.length) w2 (by omega) (by omega) (by omega) hc2).mono ?_
  rintro e w3 ⟨rfl, ho, hbm, hz3, hoth⟩
  have HF : Hid (Marked B w w3 k a1 a2 m.stk.length m.cells.length) :=
    ⟨marks_nums (own_other HO.out (fun g hg => hoth g (fun e => HD.out g (own_at HO.out hg) e))), marks_nums ho, HB2.out.trans hbm, by omega, fun g hg h1 h2 => ((hoth g h2).trans (HOT.out g h1)).trans (HY.out.block g hg)⟩
  clear ho hoth hbm hc2 HO HOT HB2 HX2 HY HG1 HG2 HD p2 hz hz3 hsz
  go_wp2_with fail
  go_ret
  exact ⟨rfl, HF.out⟩

set_option maxHeartbeats 3200000 in
set_option maxRecDepth 100000 in
theorem markRes8_any (C : Int) (m : SM) (a1 a2 : Option Addr) (c1 c2 B : Nat) (k : Int) (w : World) (hs : Own w B (.slice a1 m.stk.length c1) m.stk) (hc : Own w B (.slice a2 m.cells.length c2) m.cells) (hd : ∀ g, a1 = some ⟨g, 0, none⟩ → a2 ≠ some ⟨g, 0, none⟩) (hB : B ≤ w.heap.size) (hl1 : m.stk.length ≤ 1000) (hl2 : m.cells.length ≤ 1000) (hk0 : 0 ≤ k) (hk1 : k ≤ 1000) :
    Calls Try.prog 56 #[resV C m (.slice a1 m.stk.length c1) (.slice a2 m.cells.length c2), .int .i64 k] w fun e w' => e = .returned (.int .i64 (k + m.stk.length + m.cells.length)) ∧ Marked B w w' k a1 a2 m.stk.length m.cells.length := by
  have hx := heap_alloc_new w (.cells (line8 C m (.slice a1 m.stk.length c1) (.slice a2 m.cells.length c2)) 41)
  have hy := (Below.refl w.heap.size w).alloc (Nat.le_refl _) (.cells (line8 C m (.slice a1 m.stk.length c1) (.slice a2 m.cells.length c2)) 41)
  have hsz : (w.alloc (.cells (line8 C m (.slice a1 m.stk.length c1) (.slice a2 m.cells.length c2)) 41)).heap.size = w.heap.size + 1 := by simp
  have HX := hid (markMach_any m a1 a2 c1 c2 B k _ (own_kept hs hy) (own_kept hc hy) hd (by omega) (by omega) (by omega) hk0 (by omega))
  have HB0 : Hid _ := hy.mono hB
  have HY : Hid _ := hy
  clear hs hc hd hy
  go_enter Try.func56, Try.ntmps56
  go_upto_region 1 with fail
  generalize w.alloc (.cells (line8 C m (.slice a1 m.stk.length c1) (.slice a2 m.cells.length c2)) 41) = W at *
  obtain ⟨p0, p1, p2, p3, p4, p5, p6, p7⟩ := row8 hx
  go_wp2_with fail
  refine HX.out.mono ?_
  rintro e w3 ⟨rfl, h1, h2, h3, h4, h5⟩
  have HF : Hid (Marked B w w3 k a1 a2 m.stk.length m.cells.length) :=
    ⟨h1, h2, HB0.out.trans h3, by omega, fun g hg e1 e2 => (h5 g (by omega) e1 e2).trans (HY.out.block g hg)⟩
  clear h1 h2 h3 h4 h5 HX HB0 HY hx hsz p0 p1 p2 p3 p4 p5 p6 p7
  go_wp2_with fail
  go_ret
  exact ⟨rfl, HF.out⟩

set_option maxHeartbeats 3200000 in
set_option maxRecDepth 100000 in
theorem heldMach_any (m : SM) (a1 a2 : Option Addr) (n1 n2 c1 c2 : Nat) (k : Int) (w : World) (h1 : Nums w a1 (marks k n1)) (h2 : Nums w a2 (marks (k + n1) n2)) (hl1 : n1 ≤ 1000) (hl2 : n2 ≤ 1000) (hk0 : 0 ≤ k) (hk1 : k ≤ 1000) :
    Calls Try.prog 98 #[machL m (.slice a1 n1 c1) (.slice a2 n2 c2), .int .i64 k] w fun e w' => e = .returned (.int .i64 (k + n1 + n2)) ∧ Below w.heap.size w w' := by
  have hx := heap_alloc_new w (.cells (lineL m (.slice a1 n1 c1) (.slice a2 n2 c2)) 39)
  have hy := (Below.refl w.heap.size w).alloc (Nat.le_refl _) (.cells (lineL m (.slice a1 n1 c1) (.slice a2 n2 c2)) 39)
  have q1 := h1.below hy
  have q2 := h2.below hy
  clear h1 h2
  go_enter Try.func98, Try.ntmps98
  go_upto_region 1 with fail
  generalize w.alloc (.cells (lineL m (.slice a1 n1 c1) (.slice a2 n2 c2)) 39) = W at *
  obtain ⟨_, p1, p2, _⟩ := row7 hx
  have HY : Hid _ := hy
  have H1 := hid (held_any a1 n1 c1 k W (by omega) hk0 (by omega) q1)
  have H2 := hid (held_any a2 n2 c2 (k + n1) W (by omega) (by omega) (by omega) q2)
  clear hy hx q1 q2
  go_wp2_with fail
  refine H1.out.mono ?_
  rintro e w2 ⟨rfl, rfl⟩
  go_wp2_with fail
  refine H2.out.mono ?_
  rintro e w3 ⟨rfl, rfl⟩
  clear H1 H2
  go_wp2_with fail
  go_ret
  exact ⟨rfl, HY.out⟩

set_option maxHeartbeats 3200000 in
set_option maxRecDepth 100000 in
theorem heldRes8_any (C : Int) (m : SM) (a1 a2 : Option Addr) (n1 n2 c1 c2 : Nat) (k : Int) (w : World) (h1 : Nums w a1 (marks k n1)) (h2 : Nums w a2 (marks (k + n1) n2)) (hl1 : n1 ≤ 1000) (hl2 : n2 ≤ 1000) (hk0 : 0 ≤ k) (hk1 : k ≤ 1000) :
    Calls Try.prog 57 #[resV C m (.slice a1 n1 c1) (.slice a2 n2 c2), .int .i64 k] w fun e w' => e = .returned (.int .i64 (k + n1 + n2)) ∧ Below w.heap.size w w' := by
  have hx := heap_alloc_new w (.cells (line8 C m (.slice a1 n1 c1) (.slice a2 n2 c2)) 41)
  have hy := (Below.refl w.heap.size w).alloc (Nat.le_refl _) (.cells (line8 C m (.slice a1 n1 c1) (.slice a2 n2 c2)) 41)
  have HX := hid (heldMach_any m a1 a2 n1 n2 c1 c2 k _ (h1.below hy) (h2.below hy) hl1 hl2 hk0 hk1)
  have HY : Hid _ := hy
  clear h1 h2 hy
  go_enter Try.func57, Try.ntmps57
  go_upto_region 1 with fail
  generalize w.alloc (.cells (line8 C m (.slice a1 n1 c1) (.slice a2 n2 c2)) 41) = W at *
  obtain ⟨p0, p1, p2, p3, p4, p5, p6, p7⟩ := row8 hx
  go_wp2_with fail
  refine HX.out.mono ?_
  rintro e w3 ⟨rfl, hb⟩
  have HF : Hid (Below w.heap.size w w3) := HY.out.trans (hb.mono HY.out.size)
  clear hb HX HY hx p0 p1 p2 p3 p4 p5 p6 p7
  go_wp2_with fail
  go_ret
  exact ⟨rfl, HF.out⟩
end Go.Proofs.Ytcikofhbfncgdaa
namespace Go.Proofs.Ytcikofhbfncgdaa
open Go.RowKit
set_option linter.unusedVariables false

set_option maxHeartbeats 3200000 in
set_option maxRecDepth 100000 in
theorem eqRes8_anyG (C : Int) (m : SM) (sv cv sv' cv' : Value) (w : World) (h1 : RowV w sv m.stk) (h2 : RowV w cv m.cells) (h3 : RowV w sv' m.stk) (h4 : RowV w cv' m.cells) (hl1 : m.stk.length ≤ 1048576) (hl2 : m.cells.length ≤ 1048576) :
    Calls Try.prog 36 #[resV C m sv cv, resV C m sv' cv'] w fun e w' => e = .returned (.bool true) ∧ Below w.heap.size w w' := by
  have HX : Hid (∀ W, Below w.heap.size w W → Calls Try.prog 34 #[machL m sv cv, machL m sv' cv'] W fun e w' => e = .returned (.bool true) ∧ Below W.heap.size W w') := fun W h => eqMach_anyG m sv cv sv' cv' W (h1.below h) (h2.below h) (h3.below h) (h4.below h) hl1 hl2
  obtain ⟨a1, k1, rfl, _⟩ := h1
  obtain ⟨a2, k2, rfl, _⟩ := h2
  obtain ⟨a3, k3, rfl, _⟩ := h3
  obtain ⟨a4, k4, rfl, _⟩ := h4
  generalize m.stk.length = l1 at *
  generalize m.cells.length = l2 at *
  have x1 := heap_alloc_new w (.cells (line8 C m (.slice a1 l1 k1) (.slice a2 l2 k2)) 30)
  have y1 := (Below.refl w.heap.size w).alloc (Nat.le_refl _) (.cells (line8 C m (.slice a1 l1 k1) (.slice a2 l2 k2)) 30)
  have s1 : (w.alloc (.cells (line8 C m (.slice a1 l1 k1) (.slice a2 l2 k2)) 30)).heap.size = w.heap.size + 1 := by simp
  clear hl1 hl2
  go_enter Try.func36, Try.ntmps36
  go_upto_region 1 with fail
  generalize w.alloc (.cells (line8 C m (.slice a1 l1 k1) (.slice a2 l2 k2)) 30) = W1 at *
  have x2 := heap_alloc_new W1 (.cells (line8 C m (.slice a3 l1 k3) (.slice a4 l2 k4)) 30)
  have y2 := (Below.refl W1.heap.size W1).alloc (Nat.le_refl _) (.cells (line8 C m (.slice a3 l1 k3) (.slice a4 l2 k4)) 30)
  generalize W1.alloc (.cells (line8 C m (.slice a3 l1 k3) (.slice a4 l2 k4)) 30) = W2 at *
  rw [s1] at x2
  have HA : Hid (W2.heap[w.heap.size]? = some (.cells (line8 C m (.slice a1 l1 k1) (.slice a2 l2 k2)) 30 (0, 0))) := blk8 x1 y2
  have HC : Hid (W2.heap[w.heap.size + 1]? = some (.cells (line8 C m (.slice a3 l1 k3) (.slice a4 l2 k4)) 30 (0, 0))) := x2
  have HB : Hid (Below w.heap.size w W2) := y1.trans (y2.mono (by omega))
  clear x1 x2 y1 y2 s1
  obtain ⟨p0, p1, p2, p3, p4, p5, p6, p7⟩ := row8 HA.out
  obtain ⟨q0, q1, q2, q3, q4, q5, q6, q7⟩ := row8 HC.out
  go_wp2_with fail
  refine (HX.out _ HB.out).mono ?_
  rintro e w3 ⟨rfl, hb⟩
  have HB3 : Hid (Below w.heap.size w w3) := HB.out.trans (hb.mono HB.out.size)
  clear p0 p1 p2 p3 p4 p5 p6 p7 q0 q1 q2 q3 q4 q5 q6 q7 hb HB HA HC HX
  go_wp2_with fail
  go_ret
  exact ⟨rfl, HB3.out⟩

set_option maxHeartbeats 3200000 in
set_option maxRecDepth 100000 in
theorem markMach_anyG (m : SM) (a1 a2 : Option Addr) (c1 c2 B : Nat) (k : Int) (w : World) (hs : Own w B (.slice a1 m.stk.length c1) m.stk) (hc : Own w B (.slice a2 m.cells.length c2) m.cells) (hd : ∀ g, a1 = some ⟨g, 0, none⟩ → a2 ≠ some ⟨g, 0, none⟩) (hB : B ≤ w.heap.size) (hl1 : m.stk.length ≤ 1048576) (hl2 : m.cells.length ≤ 1048576) (hk0 : 0 ≤ k) (hk1 : k ≤ 2097152) :
    Calls Try.prog 42 #[machL m (.slice a1 m.stk.length c1) (.slice a2 m.cells.length c2), .int .i64 k] w fun e w' => e = .returned (.int .i64 (k + m.stk.length + m.cells.length)) ∧ Marked B w w' k a1 a2 m.stk.length m.cells.length := by
  have hx := heap_alloc_new w (.cells (lineL m (.slice a1 m.stk.length c1) (.slice a2 m.cells.length c2)) 28)
  have hy := (Below.refl w.heap.size w).alloc (Nat.le_refl _) (.cells (lineL m (.slice a1 m.stk.length c1) (.slice a2 m.cells.length c2)) 28)
  have hsz : (w.alloc (.cells (lineL m (.slice a1 m.stk.length c1) (.slice a2 m.cells.length c2)) 28)).heap.size = w.heap.size + 1 := by simp
  have hb0 : Below B w (w.alloc (.cells (lineL m (.slice a1 m.stk.length c1) (.slice a2 m.cells.length c2)) 28)) := hy.mono hB
  have hs1 := own_kept hs hy
  have hc1 := own_kept hc hy
  have g1 : a1 ≠ some ⟨w.heap.size, 0, none⟩ := fun e => by have := (own_lt hs e).2; omega
  have g2 : a2 ≠ some ⟨w.heap.size, 0, none⟩ := fun e => by have := (own_lt hc e).2; omega
  clear hs hc
  go_enter Try.func42, Try.ntmps42
  go_upto_region 1 with fail
  generalize w.alloc (.cells (lineL m (.slice a1 m.stk.length c1) (.slice a2 m.cells.length c2)) 28) = W at *
  obtain ⟨_, p1, _⟩ := row7 hx
  have HY : Hid _ := hy
  have HG1 : Hid _ := g1
  have HG2 : Hid _ := g2
  have HD : Hid _ := hd
  clear hy g1 g2 hd
  go_wp2_with fail
  refine (mark_any a1 m.stk c1 B k W (by omega) hk0 (by omega) hs1).mono ?_
  rintro e w2 ⟨rfl, ho, hbm, hz, hoth⟩
  have HX2 : Hid _ := (hoth w.heap.size HG1.out).trans hx
  have hc2 := own_other hc1 (w' := w2) (fun g hg => hoth g (fun e => HD.out g e (own_at hc1 hg)))
  have HO : Hid _ := ho
  have HOT : Hid _ := hoth
  have HB2 : Hid (Below B w w2) := hb0.trans hbm
  clear ho hoth hbm hb0 hs1 hc1 hx p1
  obtain ⟨_, _, p2, _⟩ := row7 HX2.out
  go_wp2_with fail
  refine (mark_any a2 m.cells c2 B (k + m.stk.length) w2 (by omega) (by omega) (by omega) hc2).mono ?_
  rintro e w3 ⟨rfl, ho, hbm, hz3, hoth⟩
  have HF : Hid (Marked B w w3 k a1 a2 m.stk.length m.cells.length) :=
    ⟨marks_nums (own_other HO.out (fun g hg => hoth g (fun e => HD.out g (own_at HO.out hg) e))), marks_nums ho, HB2.out.trans hbm, by omega, fun g hg h1 h2 => ((hoth g h2).trans (HOT.out g h1)).trans (HY.out.block g hg)⟩
  clear ho hoth hbm hc2 HO HOT HB2 HX2 HY HG1 HG2 HD p2 hz hz3 hsz
  go_wp2_with fail
  go_ret
  exact ⟨rfl, HF.out⟩

set_option maxHeartbeats 3200000 in
set_option maxRecDepth 100000 in
theorem markRes8_anyG (C : Int) (m : SM) (a1 a2 : Option Addr) (c1 c2 B : Nat) (k : Int) (w : World) (hs : Own w B (.slice a1 m.stk.length c1) m.stk) (hc : Own w B (.slice a2 m.cells.length c2) m.cells) (hd : ∀ g, a1 = some ⟨g, 0, none⟩ → a2 ≠ some ⟨g, 0, none⟩) (hB : B ≤ w.heap.size) (hl1 : m.stk.length ≤ 1000) (hl2 : m.cells.length ≤ 1000) (hk0 : 0 ≤ k) (hk1 : k ≤ 1000) :
    Calls Try.prog 39 #[resV C m (.slice a1 m.stk.length c1) (.slice a2 m.cells.length c2), .int .i64 k] w fun e w' => e = .returned (.int .i64 (k + m.stk.length + m.cells.length)) ∧ Marked B w w' k a1 a2 m.stk.length m.cells.length := by
  have hx := heap_alloc_new w (.cells (line8 C m (.slice a1 m.stk.length c1) (.slice a2 m.cells.length c2)) 30)
  have hy := (Below.refl w.heap.size w).alloc (Nat.le_refl _) (.cells (line8 C m (.slice a1 m.stk.length c1) (.slice a2 m.cells.length c2)) 30)
  have hsz : (w.alloc (.cells (line8 C m (.slice a1 m.stk.length c1) (.slice a2 m.cells.length c2)) 30)).heap.size = w.heap.size + 1 := by simp
  have HX := hid (markMach_anyG m a1 a2 c1 c2 B k _ (own_kept hs hy) (own_kept hc hy) hd (by omega) (by omega) (by omega) hk0 (by omega))
  have HB0 : Hid _ := hy.mono hB
  have HY : Hid _ := hy
  clear hs hc hd hy
  go_enter Try.func39, Try.ntmps39
  go_upto_region 1 with fail
  generalize w.alloc (.cells (line8 C m (.slice a1 m.stk.length c1) (.slice a2 m.cells.length c2)) 30) = W at *
  obtain ⟨p0, p1, p2, p3, p4, p5, p6, p7⟩ := row8 hx
  go_wp2_with fail
  refine HX.out.mono ?_
  rintro e w3 ⟨rfl, h1, h2, h3, h4, h5⟩
  have HF : Hid (Marked B w w3 k a1 a2 m.stk.length m.cells.length) :=
    ⟨h1, h2, HB0.out.trans h3, by omega, fun g hg e1 e2 => (h5 g (by omega) e1 e2).trans (HY.out.block g hg)⟩
  clear h1 h2 h3 h4 h5 HX HB0 HY hx hsz p0 p1 p2 p3 p4 p5 p6 p7
  go_wp2_with fail
  go_ret
  exact ⟨rfl, HF.out⟩

set_option maxHeartbeats 3200000 in
set_option maxRecDepth 100000 in
theorem heldMach_anyG (m : SM) (a1 a2 : Option Addr) (n1 n2 c1 c2 : Nat) (k : Int) (w : World) (h1 : Nums w a1 (marks k n1)) (h2 : Nums w a2 (marks (k + n1) n2)) (hl1 : n1 ≤ 1000) (hl2 : n2 ≤ 1000) (hk0 : 0 ≤ k) (hk1 : k ≤ 1000) :
    Calls Try.prog 90 #[machL m (.slice a1 n1 c1) (.slice a2 n2 c2), .int .i64 k] w fun e w' => e = .returned (.int .i64 (k + n1 + n2)) ∧ Below w.heap.size w w' := by
  have hx := heap_alloc_new w (.cells (lineL m (.slice a1 n1 c1) (.slice a2 n2 c2)) 28)
  have hy := (Below.refl w.heap.size w).alloc (Nat.le_refl _) (.cells (lineL m (.slice a1 n1 c1) (.slice a2 n2 c2)) 28)
  have q1 := h1.below hy
  have q2 := h2.below hy
  clear h1 h2
  go_enter Try.func90, Try.ntmps90
  go_upto_region 1 with fail
  generalize w.alloc (.cells (lineL m (.slice a1 n1 c1) (.slice a2 n2 c2)) 28) = W at *
  obtain ⟨_, p1, p2, _⟩ := row7 hx
  have HY : Hid _ := hy
  have H1 := hid (held_any a1 n1 c1 k W (by omega) hk0 (by omega) q1)
  have H2 := hid (held_any a2 n2 c2 (k + n1) W (by omega) (by omega) (by omega) q2)
  clear hy hx q1 q2
  go_wp2_with fail
  refine H1.out.mono ?_
  rintro e w2 ⟨rfl, rfl⟩
  go_wp2_with fail
  refine H2.out.mono ?_
  rintro e w3 ⟨rfl, rfl⟩
  clear H1 H2
  go_wp2_with fail
  go_ret
  exact ⟨rfl, HY.out⟩

set_option maxHeartbeats 3200000 in
set_option maxRecDepth 100000 in
theorem heldRes8_anyG (C : Int) (m : SM) (a1 a2 : Option Addr) (n1 n2 c1 c2 : Nat) (k : Int) (w : World) (h1 : Nums w a1 (marks k n1)) (h2 : Nums w a2 (marks (k + n1) n2)) (hl1 : n1 ≤ 1000) (hl2 : n2 ≤ 1000) (hk0 : 0 ≤ k) (hk1 : k ≤ 1000) :
    Calls Try.prog 40 #[resV C m (.slice a1 n1 c1) (.slice a2 n2 c2), .int .i64 k] w fun e w' => e = .returned (.int .i64 (k + n1 + n2)) ∧ Below w.heap.size w w' := by
  have hx := heap_alloc_new w (.cells (line8 C m (.slice a1 n1 c1) (.slice a2 n2 c2)) 30)
  have hy := (Below.refl w.heap.size w).alloc (Nat.le_refl _) (.cells (line8 C m (.slice a1 n1 c1) (.slice a2 n2 c2)) 30)
  have HX := hid (heldMach_anyG m a1 a2 n1 n2 c1 c2 k _ (h1.below hy) (h2.below hy) hl1 hl2 hk0 hk1)
  have HY : Hid _ := hy
  clear h1 h2 hy
  go_enter Try.func40, Try.ntmps40
  go_upto_region 1 with fail
  generalize w.alloc (.cells (line8 C m (.slice a1 n1 c1) (.slice a2 n2 c2)) 30) = W at *
  obtain ⟨p0, p1, p2, p3, p4, p5, p6, p7⟩ := row8 hx
  go_wp2_with fail
  refine HX.out.mono ?_
  rintro e w3 ⟨rfl, hb⟩
  have HF : Hid (Below w.heap.size w w3) := HY.out.trans (hb.mono HY.out.size)
  clear hb HX HY hx p0 p1 p2 p3 p4 p5 p6 p7
  go_wp2_with fail
  go_ret
  exact ⟨rfl, HF.out⟩
end Go.Proofs.Ytcikofhbfncgdaa
namespace Go.Proofs.Ytcikofhbfncgdaa
open Go.RowKit
set_option linter.unusedVariables false

structure Var8G (W : World) (B p : Nat) (C : Int) (M : SM) (a1 a2 : Option Addr) (c1 c2 : Nat) : Prop where
  row : W.heap[p]? = some (.cells (line8 C M (.slice a1 M.stk.length c1) (.slice a2 M.cells.length c2)) 30 (0, 0))
  s : Own W B (.slice a1 M.stk.length c1) M.stk
  c : Own W B (.slice a2 M.cells.length c2) M.cells
  d : ∀ g, a1 = some ⟨g, 0, none⟩ → a2 ≠ some ⟨g, 0, none⟩
  b1 : ∀ g, a1 = some ⟨g, 0, none⟩ → B ≤ g ∧ g < p
  b2 : ∀ g, a2 = some ⟨g, 0, none⟩ → B ≤ g ∧ g < p
theorem Var8G.lt {W : World} {B p : Nat} {C : Int} {M : SM} {a1 a2 : Option Addr} {c1 c2 : Nat} (h : Var8G W B p C M a1 a2 c1 c2) : p < W.heap.size := (Array.getElem?_eq_some_iff.1 h.row).1
theorem Var8G.keep {W W' : World} {B p : Nat} {C : Int} {M : SM} {a1 a2 : Option Addr} {c1 c2 : Nat} (h : Var8G W B p C M a1 a2 c1 c2) (hp : W'.heap[p]? = W.heap[p]?) (h1 : ∀ g, a1 = some ⟨g, 0, none⟩ → W'.heap[g]? = W.heap[g]?) (h2 : ∀ g, a2 = some ⟨g, 0, none⟩ → W'.heap[g]? = W.heap[g]?) : Var8G W' B p C M a1 a2 c1 c2 :=
  ⟨hp.trans h.row, own_other h.s (fun g hg => h1 g (own_at h.s hg)), own_other h.c (fun g hg => h2 g (own_at h.c hg)), h.d, h.b1, h.b2⟩
theorem Var8G.below {W W' : World} {B p : Nat} {C : Int} {M : SM} {a1 a2 : Option Addr} {c1 c2 : Nat} (h : Var8G W B p C M a1 a2 c1 c2) (hb : Below W.heap.size W W') : Var8G W' B p C M a1 a2 c1 c2 :=
  h.keep (hb.block p h.lt) (fun g hg => hb.block g (own_lt h.s hg).2) (fun g hg => hb.block g (own_lt h.c hg).2)
theorem Var8G.rows {W : World} {B p : Nat} {C : Int} {M : SM} {a1 a2 : Option Addr} {c1 c2 : Nat} (h : Var8G W B p C M a1 a2 c1 c2) : RowV W (.slice a1 M.stk.length c1) M.stk ∧ RowV W (.slice a2 M.cells.length c2) M.cells := ⟨own_row h.s, own_row h.c⟩
/-- what a call that made a RegResult answers, with its rows as slices -/
def ResSG (w w' : World) (e : Ending) (C : Int) (M : SM) : Prop := ∃ a1 a2 c1 c2, e = .returned (resV C M (.slice a1 M.stk.length c1) (.slice a2 M.cells.length c2)) ∧ Below w.heap.size w w' ∧ Var8G (w'.alloc (.cells (line8 C M (.slice a1 M.stk.length c1) (.slice a2 M.cells.length c2)) 30)) w.heap.size w'.heap.size C M a1 a2 c1 c2
theorem ResR.sG {w w' : World} {e : Ending} {C : Int} {M : SM} (h : ResR w w' e C M) : ResSG w w' e C M := by
  obtain ⟨sv, cv, rfl, hs, hc, hd, hb⟩ := h
  obtain ⟨a1, c1, rfl⟩ := own_shape hs
  obtain ⟨a2, c2, rfl⟩ := own_shape hc
  exact ⟨a1, a2, c1, c2, rfl, hb, heap_alloc_new _ _, own_kept hs ((Below.refl _ _).alloc (Nat.le_refl _) _), own_kept hc ((Below.refl _ _).alloc (Nat.le_refl _) _),
    fun g h1 h2 => hd g (by rw [h1]; rfl) (by rw [h2]; rfl), fun g hg => own_lt hs hg, fun g hg => own_lt hc hg⟩
end Go.Proofs.Ytcikofhbfncgdaa
