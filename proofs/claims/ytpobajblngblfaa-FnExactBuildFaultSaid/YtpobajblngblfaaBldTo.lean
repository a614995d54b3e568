/-
  laws.toBuild: a copy in new memory.
-/
import Derived.Test.YtpobajblngblfaaBldLw
import Derived.Test.YtpobajblngblfaaStkSole
namespace Go.Proofs.Ytpobajblngblfaa
open Go.RowKit
set_option linter.unusedVariables false

/-- a copy of a build: its six rows in six blocks of their own, one behind the other, from B on -/
structure BldO (w : World) (B g1 g2 g3 g4 g5 g6 : Nat) (m : LBuild) : Prop where
  p : PortO w g1 m.ports
  o : Own w B (.slice (some ⟨g2, 0, none⟩) m.outs.length m.outs.length) m.outs
  a : Own w B (.slice (some ⟨g3, 0, none⟩) m.codeA.length m.codeA.length) m.codeA
  b : Own w B (.slice (some ⟨g4, 0, none⟩) m.codeB.length m.codeB.length) m.codeB
  s : Own w B (.slice (some ⟨g5, 0, none⟩) m.sumsA.length m.sumsA.length) m.sumsA
  t : Own w B (.slice (some ⟨g6, 0, none⟩) m.sumsB.length m.sumsB.length) m.sumsB
  l : B ≤ g1 ∧ g1 < g2 ∧ g2 < g3 ∧ g3 < g4 ∧ g4 < g5 ∧ g5 < g6 ∧ g6 < w.heap.size
theorem PortO.other {w w' : World} {g : Nat} {xs : List LPort} (h : PortO w g xs) (hb : w'.heap[g]? = w.heap[g]?) : PortO w' g xs := by
  obtain ⟨cur, h1, h2, h3⟩ := h
  exact ⟨cur, hb.trans h1, h2, h3⟩
theorem BldO.keep {w w' : World} {B g1 g2 g3 g4 g5 g6 : Nat} {m : LBuild} (h : BldO w B g1 g2 g3 g4 g5 g6 m) (hb : ∀ g, B ≤ g → g1 ≤ g → g ≤ g6 → w'.heap[g]? = w.heap[g]?) (hs : w.heap.size ≤ w'.heap.size) : BldO w' B g1 g2 g3 g4 g5 g6 m := by
  have l := h.l
  exact ⟨h.p.other (hb _ (by omega) (by omega) (by omega)), own_other h.o (fun g hg => hb g (by simp [Value.ownBlock] at hg; omega) (by simp [Value.ownBlock] at hg; omega) (by simp [Value.ownBlock] at hg; omega)), own_other h.a (fun g hg => hb g (by simp [Value.ownBlock] at hg; omega) (by simp [Value.ownBlock] at hg; omega) (by simp [Value.ownBlock] at hg; omega)), own_other h.b (fun g hg => hb g (by simp [Value.ownBlock] at hg; omega) (by simp [Value.ownBlock] at hg; omega) (by simp [Value.ownBlock] at hg; omega)), own_other h.s (fun g hg => hb g (by simp [Value.ownBlock] at hg; omega) (by simp [Value.ownBlock] at hg; omega) (by simp [Value.ownBlock] at hg; omega)), own_other h.t (fun g hg => hb g (by simp [Value.ownBlock] at hg; omega) (by simp [Value.ownBlock] at hg; omega) (by simp [Value.ownBlock] at hg; omega)), by omega⟩
theorem BldO.below {w w' : World} {B g1 g2 g3 g4 g5 g6 : Nat} {m : LBuild} (h : BldO w B g1 g2 g3 g4 g5 g6 m) (hb : Below w.heap.size w w') : BldO w' B g1 g2 g3 g4 g5 g6 m :=
  h.keep (fun g _ _ hg => hb.block g (by have := h.l; omega)) hb.size
theorem BldO.r {w : World} {B g1 g2 g3 g4 g5 g6 : Nat} {m : LBuild} (h : BldO w B g1 g2 g3 g4 g5 g6 m) : BldR w (.slice (some ⟨g1, 0, none⟩) m.ports.length m.ports.length) (.slice (some ⟨g2, 0, none⟩) m.outs.length m.outs.length) (.slice (some ⟨g3, 0, none⟩) m.codeA.length m.codeA.length) (.slice (some ⟨g4, 0, none⟩) m.codeB.length m.codeB.length) (.slice (some ⟨g5, 0, none⟩) m.sumsA.length m.sumsA.length) (.slice (some ⟨g6, 0, none⟩) m.sumsB.length m.sumsB.length) m :=
  ⟨h.p.v, own_rowC h.o, own_rowC h.a, own_rowC h.b, own_rowC h.s, own_rowC h.t⟩

/-- the copy on its way: the argument's block, the result's, the copy's own -/
structure BT (w W : World) (A L : Array Value) : Prop where
  arg : W.heap[w.heap.size]? = some (.cells A 25 (0, 0))
  res : W.heap[w.heap.size + 1]? = some (.cells #[.int .i64 0, .slice none 0 0, .slice none 0 0, .slice none 0 0, .slice none 0 0, .slice none 0 0, .slice none 0 0, .int .i64 0, .int .i64 0] 30 (0, 0))
  out : W.heap[w.heap.size + 1 + 1]? = some (.cells L 30 (0, 0))
  b : Below w.heap.size w W
theorem BT.below {w W W' : World} {A L : Array Value} (h : BT w W A L) (hb : Below W.heap.size W W') : BT w W' A L :=
  ⟨blkB h.arg hb, blkB h.res hb, blkB h.out hb, h.b.trans (hb.mono h.b.size)⟩
theorem BT.set {w W : World} {A L : Array Value} (h : BT w W A L) (i : Nat) (v : Value) : BT w (W.setCell ⟨w.heap.size + 1 + 1, i, none⟩ v) A (L.setIfInBounds i v) :=
  ⟨(heap_setCell_other W _ _ v (by simp; omega)).trans h.arg, (heap_setCell_other W _ _ v (by simp)).trans h.res, heap_setCell_same W _ i _ _ v h.out, h.b.setCell (by show w.heap.size ≤ w.heap.size + 1 + 1; omega) v⟩
/-- the first n rows of the copy -/
structure BTR (w W : World) (m : LBuild) (g1 g2 g3 g4 g5 g6 n : Nat) : Prop where
  p : 1 ≤ n → PortO W g1 m.ports ∧ w.heap.size + 1 + 1 < g1 ∧ g1 < W.heap.size
  o : 2 ≤ n → Own W (w.heap.size + 1 + 1 + 1) (.slice (some ⟨g2, 0, none⟩) m.outs.length m.outs.length) m.outs ∧ g1 < g2 ∧ g2 < W.heap.size
  a : 3 ≤ n → Own W (w.heap.size + 1 + 1 + 1) (.slice (some ⟨g3, 0, none⟩) m.codeA.length m.codeA.length) m.codeA ∧ g2 < g3 ∧ g3 < W.heap.size
  b : 4 ≤ n → Own W (w.heap.size + 1 + 1 + 1) (.slice (some ⟨g4, 0, none⟩) m.codeB.length m.codeB.length) m.codeB ∧ g3 < g4 ∧ g4 < W.heap.size
  s : 5 ≤ n → Own W (w.heap.size + 1 + 1 + 1) (.slice (some ⟨g5, 0, none⟩) m.sumsA.length m.sumsA.length) m.sumsA ∧ g4 < g5 ∧ g5 < W.heap.size
  t : 6 ≤ n → Own W (w.heap.size + 1 + 1 + 1) (.slice (some ⟨g6, 0, none⟩) m.sumsB.length m.sumsB.length) m.sumsB ∧ g5 < g6 ∧ g6 < W.heap.size
theorem BTR.other {w W W' : World} {m : LBuild} {g1 g2 g3 g4 g5 g6 n : Nat} (h : BTR w W m g1 g2 g3 g4 g5 g6 n) (hb : ∀ g, w.heap.size + 1 + 1 < g → g < W.heap.size → W'.heap[g]? = W.heap[g]?) (hs : W.heap.size ≤ W'.heap.size) : BTR w W' m g1 g2 g3 g4 g5 g6 n :=
  ⟨fun hn => have k := h.p hn; ⟨k.1.other (hb _ k.2.1 k.2.2), k.2.1, by omega⟩,
   fun hn => have k := h.o hn; ⟨own_other k.1 (fun g hg => hb g (by have := (k.1.lt g hg).1; omega) (k.1.lt g hg).2), k.2.1, by omega⟩,
   fun hn => have k := h.a hn; ⟨own_other k.1 (fun g hg => hb g (by have := (k.1.lt g hg).1; omega) (k.1.lt g hg).2), k.2.1, by omega⟩,
   fun hn => have k := h.b hn; ⟨own_other k.1 (fun g hg => hb g (by have := (k.1.lt g hg).1; omega) (k.1.lt g hg).2), k.2.1, by omega⟩,
   fun hn => have k := h.s hn; ⟨own_other k.1 (fun g hg => hb g (by have := (k.1.lt g hg).1; omega) (k.1.lt g hg).2), k.2.1, by omega⟩,
   fun hn => have k := h.t hn; ⟨own_other k.1 (fun g hg => hb g (by have := (k.1.lt g hg).1; omega) (k.1.lt g hg).2), k.2.1, by omega⟩⟩
theorem BTR.below {w W W' : World} {m : LBuild} {g1 g2 g3 g4 g5 g6 n : Nat} (h : BTR w W m g1 g2 g3 g4 g5 g6 n) (hb : Below W.heap.size W W') : BTR w W' m g1 g2 g3 g4 g5 g6 n := h.other (fun g _ hg => hb.block g hg) hb.size
theorem BTR.set {w W : World} {m : LBuild} {g1 g2 g3 g4 g5 g6 n : Nat} (h : BTR w W m g1 g2 g3 g4 g5 g6 n) (i : Nat) (v : Value) : BTR w (W.setCell ⟨w.heap.size + 1 + 1, i, none⟩ v) m g1 g2 g3 g4 g5 g6 n :=
  h.other (fun g hg _ => heap_setCell_other _ _ _ _ (by simp; omega)) (by simp)
theorem BTR.end {w W : World} {m : LBuild} {g1 g2 g3 g4 g5 g6 : Nat} (h : BTR w W m g1 g2 g3 g4 g5 g6 6) : BldO W w.heap.size g1 g2 g3 g4 g5 g6 m := by
  have k1 := h.p (by omega)
  have k2 := h.o (by omega)
  have k3 := h.a (by omega)
  have k4 := h.b (by omega)
  have k5 := h.s (by omega)
  have k6 := h.t (by omega)
  exact ⟨k1.1, own_mono k2.1 (by omega), own_mono k3.1 (by omega), own_mono k4.1 (by omega), own_mono k5.1 (by omega), own_mono k6.1 (by omega), by omega⟩
theorem BTR.add1 {w W : World} {m : LBuild} {g1 : Nat} (h : BTR w W m 0 0 0 0 0 0 0) (hr : PortO W g1 m.ports) (hg : w.heap.size + 1 + 1 < g1) : BTR w W m g1 0 0 0 0 0 1 :=
  ⟨fun _ => ⟨hr, hg, hr.lt⟩, fun hn => absurd hn (by omega), fun hn => absurd hn (by omega), fun hn => absurd hn (by omega), fun hn => absurd hn (by omega), fun hn => absurd hn (by omega)⟩
theorem BTR.add2 {w W : World} {m : LBuild} {g1 g2 : Nat} (h : BTR w W m g1 0 0 0 0 0 1) (hr : Own W g2 (.slice (some ⟨g2, 0, none⟩) m.outs.length m.outs.length) m.outs) (hg : g1 < g2) : BTR w W m g1 g2 0 0 0 0 2 :=
  ⟨fun _ => h.p (by omega), fun _ => ⟨own_mono hr (by have := (h.p (by omega)).2.1;  omega), hg, (hr.lt _ rfl).2⟩, fun hn => absurd hn (by omega), fun hn => absurd hn (by omega), fun hn => absurd hn (by omega), fun hn => absurd hn (by omega)⟩
theorem BTR.add3 {w W : World} {m : LBuild} {g1 g2 g3 : Nat} (h : BTR w W m g1 g2 0 0 0 0 2) (hr : Own W g3 (.slice (some ⟨g3, 0, none⟩) m.codeA.length m.codeA.length) m.codeA) (hg : g2 < g3) : BTR w W m g1 g2 g3 0 0 0 3 :=
  ⟨fun _ => h.p (by omega), fun _ => h.o (by omega), fun _ => ⟨own_mono hr (by have := (h.p (by omega)).2.1; have := (h.o (by omega)).2.1; omega), hg, (hr.lt _ rfl).2⟩, fun hn => absurd hn (by omega), fun hn => absurd hn (by omega), fun hn => absurd hn (by omega)⟩
theorem BTR.add4 {w W : World} {m : LBuild} {g1 g2 g3 g4 : Nat} (h : BTR w W m g1 g2 g3 0 0 0 3) (hr : Own W g4 (.slice (some ⟨g4, 0, none⟩) m.codeB.length m.codeB.length) m.codeB) (hg : g3 < g4) : BTR w W m g1 g2 g3 g4 0 0 4 :=
  ⟨fun _ => h.p (by omega), fun _ => h.o (by omega), fun _ => h.a (by omega), fun _ => ⟨own_mono hr (by have := (h.p (by omega)).2.1; have := (h.o (by omega)).2.1; have := (h.a (by omega)).2.1; omega), hg, (hr.lt _ rfl).2⟩, fun hn => absurd hn (by omega), fun hn => absurd hn (by omega)⟩
theorem BTR.add5 {w W : World} {m : LBuild} {g1 g2 g3 g4 g5 : Nat} (h : BTR w W m g1 g2 g3 g4 0 0 4) (hr : Own W g5 (.slice (some ⟨g5, 0, none⟩) m.sumsA.length m.sumsA.length) m.sumsA) (hg : g4 < g5) : BTR w W m g1 g2 g3 g4 g5 0 5 :=
  ⟨fun _ => h.p (by omega), fun _ => h.o (by omega), fun _ => h.a (by omega), fun _ => h.b (by omega), fun _ => ⟨own_mono hr (by have := (h.p (by omega)).2.1; have := (h.o (by omega)).2.1; have := (h.a (by omega)).2.1; have := (h.b (by omega)).2.1; omega), hg, (hr.lt _ rfl).2⟩, fun hn => absurd hn (by omega)⟩
theorem BTR.add6 {w W : World} {m : LBuild} {g1 g2 g3 g4 g5 g6 : Nat} (h : BTR w W m g1 g2 g3 g4 g5 0 5) (hr : Own W g6 (.slice (some ⟨g6, 0, none⟩) m.sumsB.length m.sumsB.length) m.sumsB) (hg : g5 < g6) : BTR w W m g1 g2 g3 g4 g5 g6 6 :=
  ⟨fun _ => h.p (by omega), fun _ => h.o (by omega), fun _ => h.a (by omega), fun _ => h.b (by omega), fun _ => h.s (by omega), fun _ => ⟨own_mono hr (by have := (h.p (by omega)).2.1; have := (h.o (by omega)).2.1; have := (h.a (by omega)).2.1; have := (h.b (by omega)).2.1; have := (h.s (by omega)).2.1; omega), hg, (hr.lt _ rfl).2⟩⟩
theorem fill9 (r : Nat) (W : World) (v0 v1 v2 v3 v4 v5 v6 v7 v8 : Value) : Sole1 r W (((((((((W.setCell ⟨r, 0, none⟩ v0).setCell ⟨r, 1, none⟩ v1).setCell ⟨r, 2, none⟩ v2).setCell ⟨r, 3, none⟩ v3).setCell ⟨r, 4, none⟩ v4).setCell ⟨r, 5, none⟩ v5).setCell ⟨r, 6, none⟩ v6).setCell ⟨r, 7, none⟩ v7).setCell ⟨r, 8, none⟩ v8) :=
  (((((((((Sole1.refl r W).set 0 v0).set 1 v1).set 2 v2).set 3 v3).set 4 v4).set 5 v5).set 6 v6).set 7 v7).set 8 v8
theorem BT.start (w : World) (A : Array Value) : BT w (((w.alloc (.cells A 25)).alloc (.cells #[.int .i64 0, .slice none 0 0, .slice none 0 0, .slice none 0 0, .slice none 0 0, .slice none 0 0, .slice none 0 0, .int .i64 0, .int .i64 0] 30)).alloc (.cells #[.int .i64 0, .slice none 0 0, .slice none 0 0, .slice none 0 0, .slice none 0 0, .slice none 0 0, .slice none 0 0, .int .i64 0, .int .i64 0] 30)) A #[.int .i64 0, .slice none 0 0, .slice none 0 0, .slice none 0 0, .slice none 0 0, .slice none 0 0, .slice none 0 0, .int .i64 0, .int .i64 0] := by
  have h1 := heap_alloc_new w (.cells A 25)
  have b1 : Below w.heap.size w (w.alloc (.cells A 25)) := (Below.refl _ _).alloc (Nat.le_refl _) _
  have s1 : (w.alloc (.cells A 25)).heap.size = w.heap.size + 1 := by simp
  generalize w.alloc (.cells A 25) = w1 at *
  have h2 := heap_alloc_new w1 (.cells #[.int .i64 0, .slice none 0 0, .slice none 0 0, .slice none 0 0, .slice none 0 0, .slice none 0 0, .slice none 0 0, .int .i64 0, .int .i64 0] 30)
  have b2 : Below w1.heap.size w1 (w1.alloc (.cells #[.int .i64 0, .slice none 0 0, .slice none 0 0, .slice none 0 0, .slice none 0 0, .slice none 0 0, .slice none 0 0, .int .i64 0, .int .i64 0] 30)) := (Below.refl _ _).alloc (Nat.le_refl _) _
  have s2 : (w1.alloc (.cells #[.int .i64 0, .slice none 0 0, .slice none 0 0, .slice none 0 0, .slice none 0 0, .slice none 0 0, .slice none 0 0, .int .i64 0, .int .i64 0] 30)).heap.size = w.heap.size + 2 := by simp; omega
  generalize w1.alloc (.cells #[.int .i64 0, .slice none 0 0, .slice none 0 0, .slice none 0 0, .slice none 0 0, .slice none 0 0, .slice none 0 0, .int .i64 0, .int .i64 0] 30) = w2 at *
  have h3 := heap_alloc_new w2 (.cells #[.int .i64 0, .slice none 0 0, .slice none 0 0, .slice none 0 0, .slice none 0 0, .slice none 0 0, .slice none 0 0, .int .i64 0, .int .i64 0] 30)
  have b3 : Below w2.heap.size w2 (w2.alloc (.cells #[.int .i64 0, .slice none 0 0, .slice none 0 0, .slice none 0 0, .slice none 0 0, .slice none 0 0, .slice none 0 0, .int .i64 0, .int .i64 0] 30)) := (Below.refl _ _).alloc (Nat.le_refl _) _
  rw [s1] at h2
  rw [s2] at h3
  exact ⟨blkB (blkB h1 b2) b3, blkB h2 b3, h3, (b1.trans (b2.mono (by omega))).trans (b3.mono (by omega))⟩

set_option maxHeartbeats 6400000 in
set_option maxRecDepth 100000 in
theorem toBuild_any (m : LBuild) (vp vo va vb vs vt : Value) (w : World) (h : BldR w vp vo va vb vs vt m) (hl : BldLe m 1048576) :
    Calls Try.prog 8 #[buildL m vp vo va vb vs vt] w fun e w' => ∃ g1 g2 g3 g4 g5 g6, e = .returned (buildL m (.slice (some ⟨g1, 0, none⟩) m.ports.length m.ports.length) (.slice (some ⟨g2, 0, none⟩) m.outs.length m.outs.length) (.slice (some ⟨g3, 0, none⟩) m.codeA.length m.codeA.length) (.slice (some ⟨g4, 0, none⟩) m.codeB.length m.codeB.length) (.slice (some ⟨g5, 0, none⟩) m.sumsA.length m.sumsA.length) (.slice (some ⟨g6, 0, none⟩) m.sumsB.length m.sumsB.length)) ∧ BldO w' w.heap.size g1 g2 g3 g4 g5 g6 m ∧ Below w.heap.size w w' := by
  obtain ⟨⟨a1, k1, rfl, _, n1⟩, ⟨a2, k2, rfl, _, n2, _⟩, ⟨a3, k3, rfl, _, n3, _⟩, ⟨a4, k4, rfl, _, n4, _⟩, ⟨a5, k5, rfl, _, n5, _⟩, a6, k6, rfl, _, n6, _⟩ := h
  have HX1 : Hid (∀ W, Below w.heap.size w W → Calls Try.prog 28 #[.slice a1 m.ports.length k1] W fun e w' => e = .returned (.slice (some ⟨W.heap.size, 0, none⟩) m.ports.length m.ports.length) ∧ PortO w' W.heap.size m.ports ∧ Below W.heap.size W w') := fun W h => toPorts_any a1 m.ports k1 W (n1.below h) hl.p
  have HX2 : Hid (∀ W, Below w.heap.size w W → Calls Try.prog 18 #[.slice a2 m.outs.length k2] W fun e w' => e = .returned (.slice (some ⟨W.heap.size, 0, none⟩) m.outs.length m.outs.length) ∧ Own w' W.heap.size (.slice (some ⟨W.heap.size, 0, none⟩) m.outs.length m.outs.length) m.outs ∧ Below W.heap.size W w') := fun W h => copy_any a2 m.outs k2 W hl.o (n2.below h)
  have HX3 : Hid (∀ W, Below w.heap.size w W → Calls Try.prog 18 #[.slice a3 m.codeA.length k3] W fun e w' => e = .returned (.slice (some ⟨W.heap.size, 0, none⟩) m.codeA.length m.codeA.length) ∧ Own w' W.heap.size (.slice (some ⟨W.heap.size, 0, none⟩) m.codeA.length m.codeA.length) m.codeA ∧ Below W.heap.size W w') := fun W h => copy_any a3 m.codeA k3 W hl.a (n3.below h)
  have HX4 : Hid (∀ W, Below w.heap.size w W → Calls Try.prog 18 #[.slice a4 m.codeB.length k4] W fun e w' => e = .returned (.slice (some ⟨W.heap.size, 0, none⟩) m.codeB.length m.codeB.length) ∧ Own w' W.heap.size (.slice (some ⟨W.heap.size, 0, none⟩) m.codeB.length m.codeB.length) m.codeB ∧ Below W.heap.size W w') := fun W h => copy_any a4 m.codeB k4 W hl.b (n4.below h)
  have HX5 : Hid (∀ W, Below w.heap.size w W → Calls Try.prog 18 #[.slice a5 m.sumsA.length k5] W fun e w' => e = .returned (.slice (some ⟨W.heap.size, 0, none⟩) m.sumsA.length m.sumsA.length) ∧ Own w' W.heap.size (.slice (some ⟨W.heap.size, 0, none⟩) m.sumsA.length m.sumsA.length) m.sumsA ∧ Below W.heap.size W w') := fun W h => copy_any a5 m.sumsA k5 W hl.s (n5.below h)
  have HX6 : Hid (∀ W, Below w.heap.size w W → Calls Try.prog 18 #[.slice a6 m.sumsB.length k6] W fun e w' => e = .returned (.slice (some ⟨W.heap.size, 0, none⟩) m.sumsB.length m.sumsB.length) ∧ Own w' W.heap.size (.slice (some ⟨W.heap.size, 0, none⟩) m.sumsB.length m.sumsB.length) m.sumsB ∧ Below W.heap.size W w') := fun W h => copy_any a6 m.sumsB k6 W hl.t (n6.below h)
  clear n1 n2 n3 n4 n5 n6 hl
  have hS := BT.start w (lineB m (.slice a1 m.ports.length k1) (.slice a2 m.outs.length k2) (.slice a3 m.codeA.length k3) (.slice a4 m.codeB.length k4) (.slice a5 m.sumsA.length k5) (.slice a6 m.sumsB.length k6))
  go_enter Try.func8, Try.ntmps8
  go_upto_region 2 with fail
  generalize (((w.alloc (.cells (lineB m (.slice a1 m.ports.length k1) (.slice a2 m.outs.length k2) (.slice a3 m.codeA.length k3) (.slice a4 m.codeB.length k4) (.slice a5 m.sumsA.length k5) (.slice a6 m.sumsB.length k6)) 25)).alloc (.cells #[.int .i64 0, .slice none 0 0, .slice none 0 0, .slice none 0 0, .slice none 0 0, .slice none 0 0, .slice none 0 0, .int .i64 0, .int .i64 0] 30)).alloc (.cells #[.int .i64 0, .slice none 0 0, .slice none 0 0, .slice none 0 0, .slice none 0 0, .slice none 0 0, .slice none 0 0, .int .i64 0, .int .i64 0] 30)) = W0 at *
  have HT0 := hid (hS.set 0 (.int .i64 m.cells))
  have p0 := (cl9 hS.arg).1
  have u0 := (cl9 hS.out).1
  have f0 := (fl9 hS.out).1
  have hne1 : w.heap.size ≠ w.heap.size + 1 + 1 := by omega
  have hne2 : w.heap.size + 1 + 1 ≠ w.heap.size := by omega
  clear hS
  go_upto_region 3 with fail
  clear p0 u0 f0
  generalize W0.setCell ⟨w.heap.size + 1 + 1, 0, none⟩ (.int .i64 m.cells) = V0 at *
  simp only [List.setIfInBounds_toArray, List.set_cons_zero] at HT0
  have HR0 : Hid (BTR w V0 m 0 0 0 0 0 0 0) := ⟨fun h => absurd h (by omega), fun h => absurd h (by omega), fun h => absurd h (by omega), fun h => absurd h (by omega), fun h => absurd h (by omega), fun h => absurd h (by omega)⟩
  have p1 := (cl9 HT0.out.arg).2.1
  go_wp2_with fail
  refine (HX1.out _ HT0.out.b).mono ?_
  rintro e w1 ⟨rfl, ho, hb⟩
  have hT := HT0.out.below hb
  have HT1 := hid (hT.set 1 (.slice (some ⟨V0.heap.size, 0, none⟩) m.ports.length m.ports.length))
  have HR1 := hid (((HR0.out.below hb).add1 ho (blkB_lt HT0.out.out)).set 1 (.slice (some ⟨V0.heap.size, 0, none⟩) m.ports.length m.ports.length))
  have u1 := (cl9 hT.out).2.1
  have f1 := (fl9 hT.out).2.1
  clear hT ho hb HT0 HR0 p1 HX1
  generalize V0.heap.size = g1 at *
  go_upto_region 4 with fail
  clear u1 f1
  generalize w1.setCell ⟨w.heap.size + 1 + 1, 1, none⟩ (.slice (some ⟨g1, 0, none⟩) m.ports.length m.ports.length) = V1 at *
  simp only [List.setIfInBounds_toArray, List.set_cons_zero, List.set_cons_succ] at HT1
  have p2 := (cl9 HT1.out.arg).2.2.1
  go_wp2_with fail
  refine (HX2.out _ HT1.out.b).mono ?_
  rintro e w2 ⟨rfl, ho, hb⟩
  have hT := HT1.out.below hb
  have HT2 := hid (hT.set 2 (.slice (some ⟨V1.heap.size, 0, none⟩) m.outs.length m.outs.length))
  have HR2 := hid (((HR1.out.below hb).add2 ho ((HR1.out.p (by omega)).2.2)).set 2 (.slice (some ⟨V1.heap.size, 0, none⟩) m.outs.length m.outs.length))
  have u2 := (cl9 hT.out).2.2.1
  have f2 := (fl9 hT.out).2.2.1
  clear hT ho hb HT1 HR1 p2 HX2
  generalize V1.heap.size = g2 at *
  go_upto_region 5 with fail
  clear u2 f2
  generalize w2.setCell ⟨w.heap.size + 1 + 1, 2, none⟩ (.slice (some ⟨g2, 0, none⟩) m.outs.length m.outs.length) = V2 at *
  simp only [List.setIfInBounds_toArray, List.set_cons_zero, List.set_cons_succ] at HT2
  have p3 := (cl9 HT2.out.arg).2.2.2.1
  go_wp2_with fail
  refine (HX3.out _ HT2.out.b).mono ?_
  rintro e w3 ⟨rfl, ho, hb⟩
  have hT := HT2.out.below hb
  have HT3 := hid (hT.set 3 (.slice (some ⟨V2.heap.size, 0, none⟩) m.codeA.length m.codeA.length))
  have HR3 := hid (((HR2.out.below hb).add3 ho ((HR2.out.o (by omega)).2.2)).set 3 (.slice (some ⟨V2.heap.size, 0, none⟩) m.codeA.length m.codeA.length))
  have u3 := (cl9 hT.out).2.2.2.1
  have f3 := (fl9 hT.out).2.2.2.1
  clear hT ho hb HT2 HR2 p3 HX3
  generalize V2.heap.size = g3 at *
  go_upto_region 6 with fail
  clear u3 f3
  generalize w3.setCell ⟨w.heap.size + 1 + 1, 3, none⟩ (.slice (some ⟨g3, 0, none⟩) m.codeA.length m.codeA.length) = V3 at *
  simp only [List.setIfInBounds_toArray, List.set_cons_zero, List.set_cons_succ] at HT3
  have p4 := (cl9 HT3.out.arg).2.2.2.2.1
  go_wp2_with fail
  refine (HX4.out _ HT3.out.b).mono ?_
  rintro e w4 ⟨rfl, ho, hb⟩
  have hT := HT3.out.below hb
  have HT4 := hid (hT.set 4 (.slice (some ⟨V3.heap.size, 0, none⟩) m.codeB.length m.codeB.length))
  have HR4 := hid (((HR3.out.below hb).add4 ho ((HR3.out.a (by omega)).2.2)).set 4 (.slice (some ⟨V3.heap.size, 0, none⟩) m.codeB.length m.codeB.length))
  have u4 := (cl9 hT.out).2.2.2.2.1
  have f4 := (fl9 hT.out).2.2.2.2.1
  clear hT ho hb HT3 HR3 p4 HX4
  generalize V3.heap.size = g4 at *
  go_upto_region 7 with fail
  clear u4 f4
  generalize w4.setCell ⟨w.heap.size + 1 + 1, 4, none⟩ (.slice (some ⟨g4, 0, none⟩) m.codeB.length m.codeB.length) = V4 at *
  simp only [List.setIfInBounds_toArray, List.set_cons_zero, List.set_cons_succ] at HT4
  have p5 := (cl9 HT4.out.arg).2.2.2.2.2.1
  go_wp2_with fail
  refine (HX5.out _ HT4.out.b).mono ?_
  rintro e w5 ⟨rfl, ho, hb⟩
  have hT := HT4.out.below hb
  have HT5 := hid (hT.set 5 (.slice (some ⟨V4.heap.size, 0, none⟩) m.sumsA.length m.sumsA.length))
  have HR5 := hid (((HR4.out.below hb).add5 ho ((HR4.out.b (by omega)).2.2)).set 5 (.slice (some ⟨V4.heap.size, 0, none⟩) m.sumsA.length m.sumsA.length))
  have u5 := (cl9 hT.out).2.2.2.2.2.1
  have f5 := (fl9 hT.out).2.2.2.2.2.1
  clear hT ho hb HT4 HR4 p5 HX5
  generalize V4.heap.size = g5 at *
  go_upto_region 8 with fail
  clear u5 f5
  generalize w5.setCell ⟨w.heap.size + 1 + 1, 5, none⟩ (.slice (some ⟨g5, 0, none⟩) m.sumsA.length m.sumsA.length) = V5 at *
  simp only [List.setIfInBounds_toArray, List.set_cons_zero, List.set_cons_succ] at HT5
  have p6 := (cl9 HT5.out.arg).2.2.2.2.2.2.1
  go_wp2_with fail
  refine (HX6.out _ HT5.out.b).mono ?_
  rintro e w6 ⟨rfl, ho, hb⟩
  have hT := HT5.out.below hb
  have HT6 := hid (hT.set 6 (.slice (some ⟨V5.heap.size, 0, none⟩) m.sumsB.length m.sumsB.length))
  have HR6 := hid (((HR5.out.below hb).add6 ho ((HR5.out.s (by omega)).2.2)).set 6 (.slice (some ⟨V5.heap.size, 0, none⟩) m.sumsB.length m.sumsB.length))
  have u6 := (cl9 hT.out).2.2.2.2.2.2.1
  have f6 := (fl9 hT.out).2.2.2.2.2.2.1
  clear hT ho hb HT5 HR5 p6 HX6
  generalize V5.heap.size = g6 at *
  go_upto_region 9 with fail
  clear u6 f6
  generalize w6.setCell ⟨w.heap.size + 1 + 1, 6, none⟩ (.slice (some ⟨g6, 0, none⟩) m.sumsB.length m.sumsB.length) = V6 at *
  simp only [List.setIfInBounds_toArray, List.set_cons_zero, List.set_cons_succ] at HT6
  have HT8 := hid ((HT6.out.set 7 (.int .i64 m.budA)).set 8 (.int .i64 m.budB))
  have HR8 := hid ((HR6.out.set 7 (.int .i64 m.budA)).set 8 (.int .i64 m.budB))
  obtain ⟨_, _, _, _, _, _, _, p7, p8⟩ := cl9 HT6.out.arg
  obtain ⟨_, _, _, _, _, _, _, u7, u8⟩ := cl9 HT6.out.out
  obtain ⟨_, _, _, _, _, _, _, f7, f8⟩ := fl9 HT6.out.out
  simp only [List.setIfInBounds_toArray, List.set_cons_zero, List.set_cons_succ] at HT8
  clear HT6 HR6
  go_upto_region 11 with fail
  clear p7 p8 u7 u8 f7 f8
  generalize (V6.setCell ⟨w.heap.size + 1 + 1, 7, none⟩ (.int .i64 m.budA)).setCell ⟨w.heap.size + 1 + 1, 8, none⟩ (.int .i64 m.budB) = V8 at *
  have E2 := fill9 (w.heap.size + 1) V8 (.int .i64 m.cells) (.slice (some ⟨g1, 0, none⟩) m.ports.length m.ports.length) (.slice (some ⟨g2, 0, none⟩) m.outs.length m.outs.length) (.slice (some ⟨g3, 0, none⟩) m.codeA.length m.codeA.length) (.slice (some ⟨g4, 0, none⟩) m.codeB.length m.codeB.length) (.slice (some ⟨g5, 0, none⟩) m.sumsA.length m.sumsA.length) (.slice (some ⟨g6, 0, none⟩) m.sumsB.length m.sumsB.length) (.int .i64 m.budA) (.int .i64 m.budB)
  have HBO : Hid (BldO _ w.heap.size g1 g2 g3 g4 g5 g6 m) := (HR8.out.end).keep (fun g _ hg _ => E2.oth g (by have := (HR8.out.p (by omega)).2.1; omega)) E2.bel.size
  have HB9 := hid (HT8.out.b.trans (E2.bel.mono (by omega)))
  obtain ⟨u0, u1, u2, u3, u4, u5, u6, u7, u8⟩ := cl9 HT8.out.out
  obtain ⟨t0, t1, t2, t3, t4, t5, t6, t7, t8⟩ := cl9 HT8.out.res
  obtain ⟨e0, e1, e2, e3, e4, e5, e6, e7, e8⟩ := fl9 HT8.out.res
  clear E2 HT8 HR8
  go_wp2_with fail
  refine bodyPost_ret (v := buildL m (.slice (some ⟨g1, 0, none⟩) m.ports.length m.ports.length) (.slice (some ⟨g2, 0, none⟩) m.outs.length m.outs.length) (.slice (some ⟨g3, 0, none⟩) m.codeA.length m.codeA.length) (.slice (some ⟨g4, 0, none⟩) m.codeB.length m.codeB.length) (.slice (some ⟨g5, 0, none⟩) m.sumsA.length m.sumsA.length) (.slice (some ⟨g6, 0, none⟩) m.sumsB.length m.sumsB.length)) (by simp [results, Try.results8, go_sem, t0, t1, t2, t3, t4, t5, t6, t7, t8]) rfl ⟨g1, g2, g3, g4, g5, g6, rfl, HBO.out, HB9.out⟩
end Go.Proofs.Ytpobajblngblfaa
