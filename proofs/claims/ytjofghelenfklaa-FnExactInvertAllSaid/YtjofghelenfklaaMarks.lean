/-
  laws.markInt64S writes k, k+1, .. into a slice of its caller's own; laws.heldInt64S finds them there; their like over an IntsResult; laws.eqIntsResult finds equal ones equal.
-/
import Derived.Test.YtjofghelenfklaaMarkN
import Derived.Test.YtjofghelenfklaaVarL
import Derived.Laws.Rows
namespace Go.Proofs.Ytjofghelenfklaa
open Go.RowKit

set_option maxHeartbeats 800000 in
theorem eqInts_any (c : Int) (a b : Option Addr) (zs : List Int) (ca cb : Nat) (w : World) (hlen : zs.length ≤ 1048576) (ha : Nums w a zs) (hb : Nums w b zs) :
    Calls Try.prog 47 #[resL c (.slice a zs.length ca), resL c (.slice b zs.length cb)] w fun e w' => e = .returned (.bool true) ∧ Below w.heap.size w w' := by
  have hB : Below w.heap.size w ((w.alloc (.cells #[.int .i64 c, .slice a zs.length ca] 34)).alloc (.cells #[.int .i64 c, .slice b zs.length cb] 34)) := by go_grown
  have ha2 := ha.below hB
  have hb2 := hb.below hB
  clear ha hb
  go_enter Try.func47, Try.ntmps47
  go_wp2_with fail
  refine (eqNums_any a b zs ca cb _ (by omega) ha2 hb2).mono ?_
  rintro e w1 ⟨rfl, hb1⟩
  have hB1 : Below w.heap.size w w1 := hB.trans (hb1.mono (by simp; omega))
  clear hb1 hB ha2 hb2
  go_wp2
  go_ret
  exact ⟨rfl, hB1⟩

set_option maxHeartbeats 800000 in
theorem markInts_any (c : Int) (a : Option Addr) (zs : List Int) (cap B : Nat) (k : Int) (w : World) (hlen : zs.length ≤ 1048576) (hk0 : 0 ≤ k) (hk1 : k ≤ 1048576) (hBw : B ≤ w.heap.size) (ho : w.ownsRow B 2 1 (.slice a zs.length cap) zs.length (zs.map (Value.int .i64))) :
    Calls Try.prog 48 #[resL c (.slice a zs.length cap), .int .i64 k] w fun e w' =>
      e = .returned (.int .i64 (k + zs.length)) ∧ w'.ownsRow B 2 1 (.slice a zs.length cap) zs.length ((marks k zs.length).map (Value.int .i64)) ∧ Below B w w' ∧ w.heap.size ≤ w'.heap.size ∧ (∀ g, g < w.heap.size → a ≠ some ⟨g, 0, none⟩ → w'.heap[g]? = w.heap[g]?) := by
  have ho2 := ho.alloc (.cells #[.int .i64 c, .slice a zs.length cap] 34)
  have hB : Below B w (w.alloc (.cells #[.int .i64 c, .slice a zs.length cap] 34)) := (Below.refl B w).alloc hBw _
  have hold : Hid (∀ g, g < w.heap.size → (w.alloc (.cells #[.int .i64 c, .slice a zs.length cap] 34)).heap[g]? = w.heap[g]?) := fun g hg => heap_alloc_old _ _ hg
  clear ho
  go_enter Try.func48, Try.ntmps48
  go_wp2_with fail
  refine (mark_any a zs cap B k _ hlen hk0 (by omega) ho2).mono ?_
  rintro e w1 ⟨rfl, ho3, hB3, hsz, hoth⟩
  have HOTH : Hid (∀ g, g < w.heap.size → a ≠ some ⟨g, 0, none⟩ → w1.heap[g]? = w.heap[g]?) := fun g hg hne => (hoth g hne).trans (hold.out g hg)
  have hB4 := hB.trans hB3
  have hsz4 : w.heap.size ≤ w1.heap.size := by rw [hsz]; simp
  clear hoth hB3 hB ho2 hsz hold
  go_wp2
  go_ret
  exact ⟨rfl, ho3, hB4, hsz4, HOTH.out⟩

set_option maxHeartbeats 800000 in
theorem heldInts_any (c : Int) (a : Option Addr) (n cap : Nat) (k : Int) (w : World) (hlen : n ≤ 1048576) (hk0 : 0 ≤ k) (hk1 : k ≤ 1048576) (hn : Nums w a (marks k n)) :
    Calls Try.prog 49 #[resL c (.slice a n cap), .int .i64 k] w fun e w' => e = .returned (.int .i64 (k + n)) ∧ Below w.heap.size w w' := by
  have hB : Below w.heap.size w (w.alloc (.cells #[.int .i64 c, .slice a n cap] 34)) := by go_grown
  have hn2 := hn.below hB
  clear hn
  go_enter Try.func49, Try.ntmps49
  go_wp2_with fail
  refine (held_any a n cap k _ hlen hk0 (by omega) hn2).mono ?_
  rintro e w1 ⟨rfl, rfl⟩
  clear hn2
  go_wp2
  go_ret
  exact ⟨rfl, hB⟩

end Go.Proofs.Ytjofghelenfklaa
