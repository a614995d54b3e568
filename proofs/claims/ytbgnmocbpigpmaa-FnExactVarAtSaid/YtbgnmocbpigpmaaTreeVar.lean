/-
  spec.l4Var.
-/
import Derived.Test.YtbgnmocbpigpmaaTreeWants
import Derived.Test.YtbgnmocbpigpmaaVarFrom
namespace Go.Proofs.Ytbgnmocbpigpmaa
open Go.RowKit
set_option linter.unusedVariables false
attribute [local go_sem] bs_size bs_get bs_extract bs_append bs_eq bs_toList

set_option maxHeartbeats 3200000 in
theorem l4Var_any (lo p : Nat) (vv vn vb : Value) (T : LTree) (nm : List UInt8) (w : World) (h : TreeP lo w p vv vn vb T) (hn : T.vars.length ≤ 24) :
    Calls Try.prog 76 #[.pointer (some ⟨p, 0, none⟩), .string (bs nm)] w fun e w' => e = .returned (.int .i64 (varFrom nm T.vars 0)) ∧ w' = w := by
  obtain ⟨av, cv, rfl, _, hhv⟩ := id h.tree.vars
  have H1 := hid hhv
  have p0 := h.c0
  clear h hhv
  go_enter Try.func76, Try.ntmps76
  go_wp2
  go_loopw [5] (fun i wr => ∃ k : Nat, k ≤ T.vars.length ∧ i = .int .i64 k ∧ varFrom nm T.vars 0 = varFrom nm (T.vars.drop k) k ∧ SameW wr w) (fun i _ => T.vars.length - (intOf i).toNat)
  case atStart => exact ⟨0, by omega, rfl, rfl, rfl⟩
  case round =>
    obtain ⟨k, hk, rfl, hv, hw⟩ := hrel
    have q0 : wr.cell? ⟨p, 0, none⟩ = _ := (congrArg (fun W => World.cell? W ⟨p, 0, none⟩) hw).trans p0
    have HV : Hid _ := hv
    clear hv
    by_cases hlt : k < T.vars.length
    · obtain ⟨x, hx⟩ : ∃ x, T.vars[k]? = some x := ⟨T.vars[k], List.getElem?_eq_getElem hlt⟩
      obtain ⟨g, o, rfl, _, hc1⟩ := H1.out (by intro e; rw [e] at hlt; simp at hlt)
      have c0 : wr.cell? ⟨g, o + k * 4, none⟩ = _ := (congrArg (fun W => World.cell? W ⟨g, o + k * 4, none⟩) hw).trans (hc1 k x hx).1
      have HX : Hid (T.vars[k]? = some x) := hx
      clear hx hc1
      by_cases he : x.name = nm
      · have e := HV.out.trans (varFrom_hit HX.out he)
        have HE : Hid _ := e
        clear e
        subst he
        go_wp2
        go_ret
        exact ⟨by rw [HE.out]; rfl, hw⟩
      · have hne : (x.name == nm) = false := by simpa using he
        have hne2 : decide (x.name = nm) = false := decide_eq_false he
        have e := HV.out.trans (varFrom_miss HX.out he)
        have HE : Hid _ := e
        clear e
        go_wp2
        go_roundw
        case rel => exact ⟨k + 1, by omega, by go_num, HE.out, hw⟩
        case measure => simp [intOf]; omega
    · have hke : k = T.vars.length := by omega
      have HKE : Hid (k = T.vars.length) := hke
      clear hke
      go_wp2
      go_ret
      refine ⟨?_, hw⟩
      rw [HV.out, HKE.out, List.drop_length]; rfl
end Go.Proofs.Ytbgnmocbpigpmaa
