/-
  One block alone has turned.
-/
import Derived.Test.YtpobajblngblfaaOwnI
namespace Go.Proofs.Ytpobajblngblfaa
open Go.RowKit
set_option linter.unusedVariables false

/-- block r alone has turned -/
structure Sole1 (r : Nat) (W Z : World) : Prop where
  bel : Below r W Z
  oth : ∀ g, g ≠ r → Z.heap[g]? = W.heap[g]?
theorem Sole1.refl (r : Nat) (W : World) : Sole1 r W W := ⟨Below.refl _ _, fun _ _ => rfl⟩
theorem Sole1.set {r : Nat} {W Z : World} (h : Sole1 r W Z) (i : Nat) (v : Value) : Sole1 r W (Z.setCell ⟨r, i, none⟩ v) :=
  ⟨h.bel.setCell (Nat.le_refl _) v, fun g hg => (heap_setCell_other Z ⟨r, i, none⟩ g v hg).trans (h.oth g hg)⟩

theorem own_sole {w w' : World} {B r n : Nat} {v : Value} {xs : List Value} (h : w.ownsRow B 2 1 v n xs) (hs : Sole1 r w w') (hr : v.ownBlock ≠ some r) : w'.ownsRow B 2 1 v n xs :=
  own_other h (fun g hg => hs.oth g (fun e => hr (by rw [hg, e])))

end Go.Proofs.Ytpobajblngblfaa
