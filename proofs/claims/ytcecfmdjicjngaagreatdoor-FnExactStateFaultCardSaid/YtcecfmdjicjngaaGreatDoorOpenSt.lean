/-
  How a state that comes in is read.
-/
import Derived.Test.YtcecfmdjicjngaaGreatDoorOpenTree
import Derived.Test.YtcecfmdjicjngaaGreatDoorTreeEq
namespace Go.Proofs.YtcecfmdjicjngaaGreatDoor
open Go.RowKit Go.ChangeShapes Go.WideShapes Go.Deep Go.Lib Go.Joins
set_option linter.unusedVariables false
def IsSt (w : World) (a : Option Addr) (zs : List Int) : Prop := Nums w a zs ∧ zs.length ≤ 9223372036854775807
theorem cellsState : Tryz.prog.cellsOf 74 = 1 := by kernel_rfl
section
variable {H : Type} {enc : TypeId × Value → H} {W : World}
theorem one_of {α : Type} {cs : Array α} (h : cs.size = 1) : ∃ c, cs = #[c] := by
 obtain ⟨l⟩ := cs
 cases l with
 | nil => simp at h
 | cons c l => cases l with
  | nil => exact ⟨c, rfl⟩
  | cons d l => simp at h
set_option maxRecDepth 100000 in
theorem open_state {base : Nat} {v : Value} {d : DataW H} {p : List MemPlace} (hv : Value.okWide Tryz.prog W .any base 74 v) (h : DataW.Trod enc Tryz.prog W 0 (fun _ => true) true 74 v d p) :
  ∃ (a : Option Addr) (zs : List Int) (c : Nat), v = .agg #[.slice a zs.length c] ∧ IsSt W a zs := by
 obtain ⟨cs, rfl, hsz⟩ := okWide_struct Tryz.underlying74 hv
 obtain ⟨c0, rfl⟩ := one_of (hsz.trans cellsState)
 obtain ⟨fuel, hf⟩ := h
 obtain ⟨y0, n, hx, _, h0⟩ := trod_struct1 Tryz.underlying74 hf
 have h1 : DataW.trod enc Tryz.prog W 0 (fun _ => true) true n 26 [c0] = some y0 := by simpa [Value.cells, cellsInts] using h0
 obtain ⟨xs, hxs, lx⟩ := open_intsV h1
 obtain ⟨a, c, rfl, _⟩ := id hxs
 exact ⟨a, xs, c, rfl, nums_of_ints hxs, lx⟩
end
end Go.Proofs.YtcecfmdjicjngaaGreatDoor
