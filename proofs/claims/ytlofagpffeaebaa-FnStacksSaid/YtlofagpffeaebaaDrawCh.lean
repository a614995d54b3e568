/-
  spec.l1Chance: yes or no. Nothing that was there turns but the source.
-/
import Derived.Test.YtlofagpffeaebaaDrawC
namespace Go.Proofs.Ytlofagpffeaebaa
open Go.RowKit
set_option linter.unusedVariables false

set_option maxHeartbeats 400000 in
theorem chance_any (S K cap A : Nat) (c : Option Addr) (n : Int) (w : World) (hK : K ≤ 1048576) (hA : A ≤ 1000000) (hn0 : 0 ≤ n) (hn1 : n ≤ 100000) (h : Ready w S c K cap A) :
    Calls Try.prog 72 #[.pointer (some ⟨S, 0, none⟩), .int .i64 n] w fun e w' => ∃ b : Bool, e = .returned (.bool b) ∧ Ready w' S c K cap (A + 1) ∧ Only S w w' := by
  have hnx := draw_next S K cap A c n w hK hA hn0 hn1 h
  clear h
  go_enter Try.func72, Try.ntmps72
  go_wp2_with fail
  refine hnx.mono ?_
  rintro e w1 ⟨r, rfl, _, _, hr, ho⟩
  have HR : Hid (Ready w1 S c K cap (A + 1)) := hr
  have HO : Hid (Only S w w1) := ho
  clear hr ho
  go_wp2
  go_ret
  exact ⟨_, rfl, HR.out, HO.out⟩
end Go.Proofs.Ytlofagpffeaebaa
