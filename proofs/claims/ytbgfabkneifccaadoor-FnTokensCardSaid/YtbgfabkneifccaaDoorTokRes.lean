/-
  laws.eqTokensResult, markTokensResult, heldTokensResult.
-/
import Derived.Test.YtbgfabkneifccaaDoorMarkS
namespace Go.Proofs.YtbgfabkneifccaaDoor
open Go.RowKit
set_option linter.unusedVariables false
attribute [local go_sem] bs_size bs_get bs_extract bs_append bs_eq bs_toList

set_option maxHeartbeats 400000 in
theorem markTok_zero (a : Option Addr) (cap : Nat) (k : Int) (w : World) : Calls Tryd.prog 37 #[.slice a 0 cap, .int .i64 k] w fun e w' => e = .returned (.int .i64 k) ∧ w' = w := by
  go_enter Tryd.func37, Tryd.ntmps37
  go_wp2
  go_loop [1, 5] (fun x i => x = .int .i64 k ∧ i = .int .i64 0) (fun _ _ => 0)
  case atStart => exact ⟨rfl, rfl⟩
  case round =>
    obtain ⟨rfl, rfl⟩ := hrel
    go_wp2
    go_ret
    exact ⟨rfl, rfl⟩
set_option maxHeartbeats 400000 in
theorem heldTok_zero (a : Option Addr) (cap : Nat) (k : Int) (w : World) : Calls Tryd.prog 38 #[.slice a 0 cap, .int .i64 k] w fun e w' => e = .returned (.int .i64 k) ∧ w' = w := by
  go_enter Tryd.func38, Tryd.ntmps38
  go_wp2
  go_loop [1, 5] (fun x i => x = .int .i64 k ∧ i = .int .i64 0) (fun _ _ => 0)
  case atStart => exact ⟨rfl, rfl⟩
  case round =>
    obtain ⟨rfl, rfl⟩ := hrel
    go_wp2
    go_ret
    exact ⟨rfl, rfl⟩

/-- a TokensResult -/
abbrev resT (c q : Int) (a : Option Addr) (n cap : Nat) : Value := .agg #[.int .i64 c, .int .i64 q, .slice a n cap]
set_option maxHeartbeats 1600000 in
theorem eqTokRes_any (c q : Int) (T : List (Tok × Int)) (g h cap cap' : Nat) (a b : Option Addr) (w : World) (hn : T.length ≤ 1048577) (ha : T ≠ [] → a = some ⟨g, 0, none⟩) (hb : T ≠ [] → b = some ⟨h, 0, none⟩) (hT : T ≠ [] → Toks w g T) (hU : T ≠ [] → Toks w h T) :
    Calls Tryd.prog 15 #[resT c q a T.length cap, resT c q b T.length cap'] w fun e w' => e = .returned (.bool true) ∧ Below w.heap.size w w' := by
  have hB : Below w.heap.size w ((w.alloc (.cells #[.int .i64 c, .int .i64 q, .slice a T.length cap] 27)).alloc (.cells #[.int .i64 c, .int .i64 q, .slice b T.length cap'] 27)) := by go_grown
  have lt_of : ∀ {g : Nat}, T ≠ [] → Toks w g T → g < w.heap.size := fun {g} hne h => by
    cases T with
    | nil => exact absurd rfl hne
    | cons x T => obtain ⟨c0, _⟩ := toks_at h (k := 0) (x := x) rfl; exact World.block_lt_of_cell? _ _ c0
  have hE : Hid (∀ w', Below w.heap.size w w' → Calls Tryd.prog 25 #[.slice a T.length cap, .slice b T.length cap'] w' fun e w'' => e = .returned (.bool true) ∧ Below w'.heap.size w' w'') := fun w' hb' =>
    eqTokenS_any T g h cap cap' a b w' hn ha hb (fun hne => toks_below (hT hne) hb' (lt_of hne (hT hne))) (fun hne => toks_below (hU hne) hb' (lt_of hne (hU hne)))
  have HB : Hid (Below w.heap.size w ((w.alloc (.cells #[.int .i64 c, .int .i64 q, .slice a T.length cap] 27)).alloc (.cells #[.int .i64 c, .int .i64 q, .slice b T.length cap'] 27))) := hB
  clear ha hb hT hU lt_of hB
  go_enter Tryd.func15, Tryd.ntmps15
  go_wp2_with fail
  refine (hE.out _ HB.out).mono ?_
  rintro e w1 ⟨rfl, hb1⟩
  have hB1 : Below w.heap.size w w1 := HB.out.trans (hb1.mono HB.out.size)
  clear hb1
  go_wp2
  go_ret
  exact ⟨rfl, hB1⟩

set_option maxHeartbeats 1600000 in
theorem markTokRes_any (c q : Int) (a : Option Addr) (g n cap B k : Nat) (w : World) (hn : n ≤ cap) (hc : n ≤ 1048577) (hk : k ≤ 1000000) (hB : n ≠ 0 → B ≤ g) (hBw : B ≤ w.heap.size) (ha : n ≠ 0 → a = some ⟨g, 0, none⟩) (hg : n ≠ 0 → Marked w g cap k 0) :
    Calls Tryd.prog 16 #[resT c q a n cap, .int .i64 k] w fun e w' => e = .returned (.int .i64 ((k + 4 * n : Nat) : Int)) ∧ (n ≠ 0 → Marked w' g cap k (4 * n)) ∧ Below B w w' ∧ (∀ g', g' < w.heap.size → g' ≠ g → w'.heap[g']? = w.heap[g']?) := by
  have hb : Below w.heap.size w (w.alloc (.cells #[.int .i64 c, .int .i64 q, .slice a n cap] 27)) := (Below.refl _ _).alloc (Nat.le_refl _) _
  by_cases h0 : n = 0
  · subst h0
    have HB : Hid (Below w.heap.size w (w.alloc (.cells #[.int .i64 c, .int .i64 q, .slice a 0 cap] 27))) := hb
    clear hb ha hg
    go_enter Tryd.func16, Tryd.ntmps16
    go_wp2_with fail
    refine (markTok_zero a cap k _).mono ?_
    rintro e w1 ⟨rfl, rfl⟩
    go_wp2
    go_ret
    exact ⟨rfl, fun h => absurd rfl h, HB.out.mono hBw, fun g' h1 _ => HB.out.block g' h1⟩
  · have ha := ha h0
    subst ha
    have hm := (hg h0).below hb
    have hT : Hid (Calls Tryd.prog 37 #[.slice (some ⟨g, 0, none⟩) n cap, .int .i64 k] (w.alloc (.cells #[.int .i64 c, .int .i64 q, .slice (some ⟨g, 0, none⟩) n cap] 27)) fun e w' => e = .returned (.int .i64 ((k + 4 * n : Nat) : Int)) ∧ Marked w' g cap k (4 * n) ∧ Below B (w.alloc (.cells #[.int .i64 c, .int .i64 q, .slice (some ⟨g, 0, none⟩) n cap] 27)) w' ∧ (∀ g', g' < (w.alloc (.cells #[.int .i64 c, .int .i64 q, .slice (some ⟨g, 0, none⟩) n cap] 27)).heap.size → g' ≠ g → w'.heap[g']? = (w.alloc (.cells #[.int .i64 c, .int .i64 q, .slice (some ⟨g, 0, none⟩) n cap] 27)).heap[g']?)) := markTok_any g n cap B k _ hn hc hk (hB h0) hm
    have HB : Hid (Below w.heap.size w (w.alloc (.cells #[.int .i64 c, .int .i64 q, .slice (some ⟨g, 0, none⟩) n cap] 27))) := hb
    clear hb hg hm h0
    go_enter Tryd.func16, Tryd.ntmps16
    go_wp2_with fail
    refine hT.out.mono ?_
    rintro e w1 ⟨rfl, h1, h2, h3⟩
    have H1 : Hid (Marked w1 g cap k (4 * n)) := h1
    have H2 : Hid (Below B w w1) := (HB.out.mono hBw).trans h2
    have H3 : Hid (∀ g', g' < w.heap.size → g' ≠ g → w1.heap[g']? = w.heap[g']?) := fun g' e1 e2 => (h3 g' (by simp; omega) e2).trans (HB.out.block g' e1)
    clear h1 h2 h3 hT HB
    go_wp2
    go_ret
    exact ⟨rfl, fun _ => H1.out, H2.out, H3.out⟩

set_option maxHeartbeats 1600000 in
theorem heldTokRes_any (c q : Int) (a : Option Addr) (g n cap k : Nat) (w : World) (hn : n ≤ cap) (hc : n ≤ 1048577) (hk : k ≤ 1000000) (ha : n ≠ 0 → a = some ⟨g, 0, none⟩) (hg : n ≠ 0 → Marked w g cap k (4 * n)) :
    Calls Tryd.prog 17 #[resT c q a n cap, .int .i64 k] w fun e w' => e = .returned (.int .i64 ((k + 4 * n : Nat) : Int)) ∧ Below w.heap.size w w' := by
  have hb : Below w.heap.size w (w.alloc (.cells #[.int .i64 c, .int .i64 q, .slice a n cap] 27)) := (Below.refl _ _).alloc (Nat.le_refl _) _
  by_cases h0 : n = 0
  · subst h0
    have HB : Hid (Below w.heap.size w (w.alloc (.cells #[.int .i64 c, .int .i64 q, .slice a 0 cap] 27))) := hb
    clear hb ha hg
    go_enter Tryd.func17, Tryd.ntmps17
    go_wp2_with fail
    refine (heldTok_zero a cap k _).mono ?_
    rintro e w1 ⟨rfl, rfl⟩
    go_wp2
    go_ret
    exact ⟨rfl, HB.out⟩
  · have ha := ha h0
    subst ha
    have hm := (hg h0).below hb
    have hT : Hid (Calls Tryd.prog 38 #[.slice (some ⟨g, 0, none⟩) n cap, .int .i64 k] (w.alloc (.cells #[.int .i64 c, .int .i64 q, .slice (some ⟨g, 0, none⟩) n cap] 27)) fun e w' => e = .returned (.int .i64 ((k + 4 * n : Nat) : Int)) ∧ Below (w.alloc (.cells #[.int .i64 c, .int .i64 q, .slice (some ⟨g, 0, none⟩) n cap] 27)).heap.size (w.alloc (.cells #[.int .i64 c, .int .i64 q, .slice (some ⟨g, 0, none⟩) n cap] 27)) w') := heldTok_any g n cap k _ hn hc hk hm
    have HB : Hid (Below w.heap.size w (w.alloc (.cells #[.int .i64 c, .int .i64 q, .slice (some ⟨g, 0, none⟩) n cap] 27))) := hb
    clear hb hg hm h0
    go_enter Tryd.func17, Tryd.ntmps17
    go_wp2_with fail
    refine hT.out.mono ?_
    rintro e w1 ⟨rfl, h2⟩
    have H2 : Hid (Below w.heap.size w w1) := HB.out.trans (h2.mono HB.out.size)
    clear h2 hT HB
    go_wp2
    go_ret
    exact ⟨rfl, H2.out⟩
end Go.Proofs.YtbgfabkneifccaaDoor
