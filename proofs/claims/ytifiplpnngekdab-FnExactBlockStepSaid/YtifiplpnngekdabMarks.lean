/-
  laws.markInt64S writes k, k+1, .. into a slice of its caller's own; laws.heldInt64S finds them there; their like over an IntsResult; laws.eqIntsResult finds equal ones equal.
-/
import Derived.Test.YtifiplpnngekdabCopy
import Derived.Laws.Rows
namespace Go.Proofs.Ytifiplpnngekdab
open Go.RowKit

def marks (k : Int) (n : Nat) : List Int := (List.range n).map (fun i : Nat => k + i)
theorem marks_length (k : Int) (n : Nat) : (marks k n).length = n := by unfold marks; simp
theorem marks_get (k : Int) (n i : Nat) (h : i < n) : (marks k n).getD i 0 = k + i := by
  unfold marks
  rw [List.getD_eq_getElem?_getD, List.getElem?_eq_getElem (by simpa using h)]
  simp

/-- the first j marks, then what was there -/
theorem marked {k : Int} {zs : List Int} {j : Nat} (h : j < zs.length) :
    ((marks k j ++ zs.drop j).map (Value.int .i64)).set j (.int .i64 (k + j)) = (marks k (j + 1) ++ zs.drop (j + 1)).map (Value.int .i64) := by
  have e : marks k (j + 1) = marks k j ++ [k + j] := by unfold marks; rw [List.range_succ, List.map_append]; rfl
  rw [e, List.drop_eq_getElem_cons h]
  simp only [List.map_append, List.map_cons, List.append_assoc, List.cons_append, List.nil_append]
  rw [List.set_append_right _ _ (by simp [marks_length])]
  simp [marks_length]

set_option maxHeartbeats 800000 in
theorem mark_any (a : Option Addr) (zs : List Int) (cap B : Nat) (k : Int) (w : World) (hlen : zs.length ≤ 1048576) (hk0 : 0 ≤ k) (hk1 : k ≤ 1048576) (ho : w.ownsRow B 2 1 (.slice a zs.length cap) zs.length (zs.map (Value.int .i64))) :
    Calls Try.prog 9 #[.slice a zs.length cap, .int .i64 k] w fun e w' =>
      e = .returned (.int .i64 (k + zs.length)) ∧ w'.ownsRow B 2 1 (.slice a zs.length cap) zs.length ((marks k zs.length).map (Value.int .i64)) ∧ Below B w w' ∧ w'.heap.size = w.heap.size ∧ (∀ g, a ≠ some ⟨g, 0, none⟩ → w'.heap[g]? = w.heap[g]?) := by
  go_enter Try.func9, Try.ntmps9
  go_wp2
  go_loopw [1, 5] (fun x i wr => ∃ j : Nat, j ≤ zs.length ∧ i = .int .i64 j ∧ x = .int .i64 (k + j) ∧ wr.ownsRow B 2 1 (.slice a zs.length cap) zs.length ((marks k j ++ zs.drop j).map (Value.int .i64)) ∧ Below B w wr ∧ wr.heap.size = w.heap.size ∧ (∀ g, a ≠ some ⟨g, 0, none⟩ → wr.heap[g]? = w.heap[g]?))
    (fun _ i _ => zs.length - (intOf i).toNat)
  case atStart => exact ⟨0, Nat.zero_le _, rfl, by simp, by simpa [marks] using ho, Below.refl _ _, rfl, fun _ _ => rfl⟩
  case round =>
    obtain ⟨j, hj, rfl, rfl, hown, hB, hsz, hoth⟩ := hrel
    by_cases hlt : j < zs.length
    · obtain ⟨g, rfl⟩ : ∃ g, a = some ⟨g, 0, none⟩ := by
        rcases hown.2 with ⟨h, h0⟩ | ⟨g, c, cur, h, _⟩
        · omega
        · simp at h; exact ⟨g, h.1⟩
      have hgB : B ≤ g := (hown.lt g rfl).1
      have hdst := hown.cellAt j (by omega)
      have hfr := hown.frozenAt j
      obtain ⟨y, hy⟩ : ∃ y, wr.cell? ⟨g, j, none⟩ = some y := by
        rw [hdst]; exact ⟨_, List.getElem?_eq_getElem (by simp [marks_length]; omega)⟩
      have hst := (hown.stored j (.int .i64 (k + j))).1
      rw [marked hlt] at hst
      have HOTH : Hid (∀ g', some (⟨g, 0, none⟩ : Addr) ≠ some ⟨g', 0, none⟩ → (wr.setCell ⟨g, j, none⟩ (.int .i64 (k + j))).heap[g']? = w.heap[g']?) := fun g' hg' => by
        rw [heap_setCell_other _ _ _ _ (fun h => hg' (by simp at h; rw [h]))]
        exact hoth g' hg'
      clear hdst hown hoth ho
      go_wp2
      go_roundw
      case rel => exact ⟨j + 1, by omega, by go_num, by go_num, hst, hB.setCell hgB _, by rw [World.size_setCell]; exact hsz, HOTH.out⟩
      case measure => simp [intOf]; omega
    · have hj2 : j = zs.length := by omega
      subst hj2
      have hown2 : Hid (wr.ownsRow B 2 1 (.slice a zs.length cap) zs.length ((marks k zs.length).map (Value.int .i64))) := by
        show World.ownsRow _ _ _ _ _ _ _
        simpa using hown
      have HOTH : Hid (∀ g, a ≠ some ⟨g, 0, none⟩ → wr.heap[g]? = w.heap[g]?) := hoth
      clear hown hoth ho
      go_wp2
      go_ret
      exact ⟨rfl, hown2.out, hB, hsz, HOTH.out⟩

set_option maxHeartbeats 800000 in
theorem held_any (a : Option Addr) (n cap : Nat) (k : Int) (w : World) (hlen : n ≤ 1048576) (hk0 : 0 ≤ k) (hk1 : k ≤ 1048576) (hn : Nums w a (marks k n)) :
    Calls Try.prog 24 #[.slice a n cap, .int .i64 k] w fun e w' => e = .returned (.int .i64 (k + n)) ∧ w' = w := by
  go_enter Try.func24, Try.ntmps24
  go_wp2
  go_loop [1, 5] (fun x i => ∃ j : Nat, j ≤ n ∧ i = .int .i64 j ∧ x = .int .i64 (k + j)) (fun _ i => n - (intOf i).toNat)
  case atStart => exact ⟨0, Nat.zero_le _, rfl, by simp⟩
  case round =>
    obtain ⟨j, hj, rfl, rfl⟩ := hrel
    by_cases hlt : j < n
    · rcases hn with hn | ⟨b, off, rfl, hc⟩
      · have := marks_length k n; rw [hn] at this; simp at this; omega
      have hcell := hc j (by rw [marks_length]; exact hlt)
      rw [marks_get k n j hlt] at hcell
      clear hc
      go_wp2
      go_round
      case rel => exact ⟨j + 1, by omega, by go_num, by go_num⟩
      case measure => simp [intOf]; omega
    · have hj2 : j = n := by omega
      subst hj2
      clear hn
      go_wp2
      go_ret
      exact ⟨rfl, rfl⟩

/-- an IntsResult -/
abbrev resL (c : Int) (v : Value) : Value := .agg #[.int .i64 c, v]

set_option maxHeartbeats 800000 in
theorem eqInts_any (c : Int) (a b : Option Addr) (zs : List Int) (ca cb : Nat) (w : World) (hlen : zs.length ≤ 1048576) (ha : Nums w a zs) (hb : Nums w b zs) :
    Calls Try.prog 7 #[resL c (.slice a zs.length ca), resL c (.slice b zs.length cb)] w fun e w' => e = .returned (.bool true) ∧ Below w.heap.size w w' := by
  have hB : Below w.heap.size w ((w.alloc (.cells #[.int .i64 c, .slice a zs.length ca] 24)).alloc (.cells #[.int .i64 c, .slice b zs.length cb] 24)) := by go_grown
  have ha2 := ha.below hB
  have hb2 := hb.below hB
  clear ha hb
  go_enter Try.func7, Try.ntmps7
  go_wp2_with fail
  refine (eqNums_any a b zs ca cb _ (by omega) ha2 hb2).mono ?_
  rintro e w1 ⟨rfl, hb1⟩
  have hB1 : Below w.heap.size w w1 := hB.trans (hb1.mono (by simp; omega))
  clear hb1 hB ha2 hb2
  go_wp2
  go_ret
  exact ⟨rfl, hB1⟩

set_option maxHeartbeats 800000 in
theorem markInts_any (c : Int) (a : Option Addr) (zs : List Int) (cap B : Nat) (k : Int) (w : World) (hlen : zs.length ≤ 1048576) (hk0 : 0 ≤ k) (hk1 : k ≤ 1048576) (hBw : B ≤ w.heap.size) (ho : w.ownsRow B 2 1 (.slice a zs.length cap) zs.length (zs.map (Value.int .i64))) :
    Calls Try.prog 10 #[resL c (.slice a zs.length cap), .int .i64 k] w fun e w' =>
      e = .returned (.int .i64 (k + zs.length)) ∧ w'.ownsRow B 2 1 (.slice a zs.length cap) zs.length ((marks k zs.length).map (Value.int .i64)) ∧ Below B w w' ∧ w.heap.size ≤ w'.heap.size ∧ (∀ g, g < w.heap.size → a ≠ some ⟨g, 0, none⟩ → w'.heap[g]? = w.heap[g]?) := by
  have ho2 := ho.alloc (.cells #[.int .i64 c, .slice a zs.length cap] 24)
  have hB : Below B w (w.alloc (.cells #[.int .i64 c, .slice a zs.length cap] 24)) := (Below.refl B w).alloc hBw _
  have hold : Hid (∀ g, g < w.heap.size → (w.alloc (.cells #[.int .i64 c, .slice a zs.length cap] 24)).heap[g]? = w.heap[g]?) := fun g hg => heap_alloc_old _ _ hg
  clear ho
  go_enter Try.func10, Try.ntmps10
  go_wp2_with fail
  refine (mark_any a zs cap B k _ hlen hk0 hk1 ho2).mono ?_
  rintro e w1 ⟨rfl, ho3, hB3, hsz, hoth⟩
  have HOTH : Hid (∀ g, g < w.heap.size → a ≠ some ⟨g, 0, none⟩ → w1.heap[g]? = w.heap[g]?) := fun g hg hne => (hoth g hne).trans (hold.out g hg)
  have hB4 := hB.trans hB3
  have hsz4 : w.heap.size ≤ w1.heap.size := by rw [hsz]; simp
  clear hoth hB3 hB ho2 hsz hold
  go_wp2
  go_ret
  exact ⟨rfl, ho3, hB4, hsz4, HOTH.out⟩

set_option maxHeartbeats 800000 in
theorem heldInts_any (c : Int) (a : Option Addr) (n cap : Nat) (k : Int) (w : World) (hlen : n ≤ 1048576) (hk0 : 0 ≤ k) (hk1 : k ≤ 1048576) (hn : Nums w a (marks k n)) :
    Calls Try.prog 11 #[resL c (.slice a n cap), .int .i64 k] w fun e w' => e = .returned (.int .i64 (k + n)) ∧ Below w.heap.size w w' := by
  have hB : Below w.heap.size w (w.alloc (.cells #[.int .i64 c, .slice a n cap] 24)) := by go_grown
  have hn2 := hn.below hB
  clear hn
  go_enter Try.func11, Try.ntmps11
  go_wp2_with fail
  refine (held_any a n cap k _ hlen hk0 hk1 hn2).mono ?_
  rintro e w1 ⟨rfl, rfl⟩
  clear hn2
  go_wp2
  go_ret
  exact ⟨rfl, hB⟩

/-- an IntsResult that lies in block p -/
def Var (W : World) (p : Nat) (c : Int) (v : Value) : Prop := W.heap[p]? = some (.cells #[.int .i64 c, v] 24 (0, 0))
theorem Var.lt {W : World} {p : Nat} {c : Int} {v : Value} (h : Var W p c v) : p < W.heap.size := (Array.getElem?_eq_some_iff.1 h).1
theorem Var.below {W W' : World} {p : Nat} {c : Int} {v : Value} (h : Var W p c v) (hb : Below W.heap.size W W') : Var W' p c v := by
  unfold Var; rw [hb.block p h.lt]; exact h
theorem Var.cells {W : World} {p : Nat} {c : Int} {v : Value} (h : Var W p c v) : W.cell? ⟨p, 0, none⟩ = some (.int .i64 c) ∧ W.cell? ⟨p, 1, none⟩ = some v :=
  ⟨cell_of_row W p 0 _ _ _ h, cell_of_row W p 1 _ _ _ h⟩
theorem Var.new (W : World) (c : Int) (v : Value) : Var (W.alloc (.cells #[.int .i64 c, v] 24)) W.heap.size c v := heap_alloc_new _ _
theorem own_other {w w' : World} {B n : Nat} {v : Value} {xs : List Value} (h : w.ownsRow B 2 1 v n xs) (hs : ∀ g, v.ownBlock = some g → w'.heap[g]? = w.heap[g]?) : w'.ownsRow B 2 1 v n xs := by
  refine ⟨h.1, ?_⟩
  rcases h.2 with h2 | ⟨g, c, cur, rfl, hg, hh, hr⟩
  · exact .inl h2
  · refine .inr ⟨g, c, cur, rfl, hg, ?_, hr⟩
    rw [hs g rfl]; exact hh
theorem own_lt {w : World} {B n m cap : Nat} {a : Option Addr} {xs : List Value} (h : w.ownsRow B 2 1 (.slice a m cap) n xs) {g : Nat} (ha : a = some ⟨g, 0, none⟩) : B ≤ g ∧ g < w.heap.size := by
  subst ha; exact h.lt g rfl
theorem own_len {w : World} {B n m cap : Nat} {a : Option Addr} {xs : List Value} (h : w.ownsRow B 2 1 (.slice a m cap) n xs) : m = n := by
  rcases h.2 with ⟨h1, h2⟩ | ⟨g, c, cur, h1, _⟩
  · simp at h1; omega
  · simp at h1; exact h1.2.1
theorem own_at {w : World} {B n m cap g : Nat} {a : Option Addr} {xs : List Value} (h : w.ownsRow B 2 1 (.slice a m cap) n xs) (hg : (Value.slice a m cap).ownBlock = some g) : a = some ⟨g, 0, none⟩ := by
  rcases h.2 with ⟨h, _⟩ | ⟨q, c, cur, h, _⟩ <;> simp at h
  · rw [h.1] at hg; simp [Value.ownBlock] at hg
  · rw [h.1] at hg ⊢; simp [Value.ownBlock] at hg; rw [hg]
theorem marks_nums {w : World} {B n cap : Nat} {k : Int} {a : Option Addr} (h : w.ownsRow B 2 1 (.slice a n cap) n ((marks k n).map (Value.int .i64))) : Nums w a (marks k n) :=
  (nums_of_own (B := B) (n := n) (cap := cap) (by unfold Own; rw [marks_length]; exact h)).2
end Go.Proofs.Ytifiplpnngekdab
