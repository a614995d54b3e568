/-
  Appending nothing.
-/
import Derived.Test.YtbgnmocbpigpmaaTreeTo
import Derived.Laws.AppendOwn
namespace Go.Proofs.Ytbgnmocbpigpmaa
open Go.RowKit
set_option linter.unusedVariables false
theorem addr_add0 (g j : Nat) : (⟨g, 0, none⟩ : Addr).add j = ⟨g, j, none⟩ := by
  unfold Addr.add; split <;> simp_all
theorem append_nothing (ty : TypeId) (ad a2 : Option Addr) (n c c2 : Nat) (w : World) (h : n ≤ c) :
    (Builtin.append_ #[31, 31] ty #[.slice ad n c, .slice a2 0 c2]).run Try.prog w = .ok (.slice ad n c) w := by
  cases ad <;> cases a2 <;> simp [Builtin.append_, go_sem, h, Builtin.lenOf, Builtin.firstCells, sizeOf]
theorem wpList_append_none {w : World} {ops : Array Oper} {rest : List Oper} {o : Oper} {a : Act} {Q : Exit → Act → World → Prop} (hgd : o.guard = none) (s x : Operand)
    (ho : o.op = .call { callee := .builtin .append, args := #[s, x], argTypes := #[31, 31] }) (ad a2 : Option Addr) (n c c2 : Nat) (hs : a.eval s = .slice ad n c) (hx : a.eval x = .slice a2 0 c2) (hle : n ≤ c)
    (h : wpList Try.prog ops Q rest (a.put o.dst (.slice ad n c)) w) : wpList Try.prog ops Q (o :: rest) a w :=
  wpList_plain hgd fun _ hK => by
    have hr := append_nothing o.type ad a2 n c c2 w hle
    unfold Oper.wp execOp
    simp only [ho, resolve, invoke, builtin, Sem.run_bind, Sem.run_pure, Result.andThen_ok, List.map_toArray, List.map_cons, List.map_nil, hs, hx, hr]
    exact hK _ _ h
end Go.Proofs.Ytbgnmocbpigpmaa
