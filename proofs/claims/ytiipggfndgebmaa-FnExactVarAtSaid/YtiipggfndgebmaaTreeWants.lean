/-
  spec.l4Wants, l4Var, l1Max.
-/
import Derived.Test.YtiipggfndgebmaaTreeRefs
namespace Go.Proofs.Ytiipggfndgebmaa
open Go.RowKit
set_option linter.unusedVariables false
attribute [local go_sem] bs_size bs_get bs_extract bs_append bs_eq bs_toList

abbrev wantsV (q : Bool × Int × Bool) : Value := .tuple #[.bool q.1, .int .i64 q.2.1, .bool q.2.2]
set_option maxHeartbeats 6400000 in
theorem l4Wants_any (n : LNode) (vk vt ve : Value) (w : World) (h1 : ∃ a l c, vk = .slice a l c) (h2 : ∃ a l c, vt = .slice a l c) (h3 : ∃ a l c, ve = .slice a l c) :
    Calls Try.prog 59 #[nodeV n vk vt ve] w fun e w' => e = .returned (wantsV (wantsN n.kind)) ∧ Below w.heap.size w w' := by
  obtain ⟨a, l, c, rfl⟩ := h1
  obtain ⟨a2, l2, c2, rfl⟩ := h2
  obtain ⟨a3, l3, c3, rfl⟩ := h3
  unfold wantsN
  go_enter Try.func59, Try.ntmps59
  by_cases k1 : n.kind = 1
  · rw [if_pos k1]
    go_wp2
    refine bodyPost_ret (v := wantsV (false, 0, true)) (by simp [results, Try.results59, go_sem]) rfl ⟨rfl, by go_grown⟩
  rw [if_neg k1]
  by_cases k2 : n.kind = 2
  · rw [if_pos k2]
    go_wp2
    refine bodyPost_ret (v := wantsV (true, 0, false)) (by simp [results, Try.results59, go_sem]) rfl ⟨rfl, by go_grown⟩
  rw [if_neg k2]
  by_cases k3 : n.kind = 3
  · rw [if_pos (Or.inl k3)]
    go_wp2
    refine bodyPost_ret (v := wantsV (true, 1, false)) (by simp [results, Try.results59, go_sem]) rfl ⟨rfl, by go_grown⟩
  by_cases k7 : n.kind = 7
  · rw [if_pos (Or.inr k7)]
    go_wp2
    refine bodyPost_ret (v := wantsV (true, 1, false)) (by simp [results, Try.results59, go_sem]) rfl ⟨rfl, by go_grown⟩
  rw [if_neg (by omega)]
  by_cases k4 : n.kind = 4
  · rw [if_pos (Or.inl k4)]
    go_wp2
    refine bodyPost_ret (v := wantsV (false, 1, false)) (by simp [results, Try.results59, go_sem]) rfl ⟨rfl, by go_grown⟩
  by_cases k5 : n.kind = 5
  · rw [if_pos (Or.inr (Or.inl k5))]
    go_wp2
    refine bodyPost_ret (v := wantsV (false, 1, false)) (by simp [results, Try.results59, go_sem]) rfl ⟨rfl, by go_grown⟩
  by_cases k9 : n.kind = 9
  · rw [if_pos (Or.inr (Or.inr k9))]
    go_wp2
    refine bodyPost_ret (v := wantsV (false, 1, false)) (by simp [results, Try.results59, go_sem]) rfl ⟨rfl, by go_grown⟩
  rw [if_neg (by omega)]
  by_cases k6 : n.kind = 6
  · rw [if_pos k6]
    go_wp2
    refine bodyPost_ret (v := wantsV (false, 2, false)) (by simp [results, Try.results59, go_sem]) rfl ⟨rfl, by go_grown⟩
  rw [if_neg k6]
  by_cases k8 : n.kind = 8
  · rw [if_pos k8]
    go_wp2
    refine bodyPost_ret (v := wantsV (true, 2, false)) (by simp [results, Try.results59, go_sem]) rfl ⟨rfl, by go_grown⟩
  rw [if_neg k8]
  by_cases k10 : n.kind = 10
  · rw [if_pos k10]
    go_wp2
    refine bodyPost_ret (v := wantsV (true, 0, true)) (by simp [results, Try.results59, go_sem]) rfl ⟨rfl, by go_grown⟩
  rw [if_neg k10]
  go_wp2
  refine bodyPost_ret (v := wantsV (true, -1, false)) (by simp [results, Try.results59, go_sem]) rfl ⟨rfl, by go_grown⟩

set_option maxHeartbeats 800000 in
theorem l1Max_any (a b : Int) (w : World) : Calls Try.prog 55 #[.int .i64 a, .int .i64 b] w fun e w' => e = .returned (.int .i64 (max a b)) ∧ w' = w := by
  by_cases h : a > b
  · have e : max a b = a := by omega
    rw [e]
    go_enter Try.func55, Try.ntmps55
    go_wp2
    go_ret
    exact ⟨rfl, rfl⟩
  · have e : max a b = b := by omega
    rw [e]
    go_enter Try.func55, Try.ntmps55
    go_wp2
    go_ret
    exact ⟨rfl, rfl⟩

/-- a world is another (a word that no simp lays open) -/
def SameW (a b : World) : Prop := a = b
/-- the place of a variable; -1: there is none -/
def varFrom (nm : List UInt8) : List LVar → Nat → Int
  | [], _ => -1
  | v :: r, i => if v.name = nm then (i : Int) else varFrom nm r (i + 1)
theorem varFrom_hit {nm : List UInt8} {V : List LVar} {k : Nat} {x : LVar} (hx : V[k]? = some x) (h : x.name = nm) : varFrom nm (V.drop k) k = k := by
  rw [List.drop_eq_getElem_cons (List.getElem?_eq_some_iff.1 hx).1, (List.getElem?_eq_some_iff.1 hx).2, varFrom, if_pos h]
theorem varFrom_miss {nm : List UInt8} {V : List LVar} {k : Nat} {x : LVar} (hx : V[k]? = some x) (h : x.name ≠ nm) : varFrom nm (V.drop k) k = varFrom nm (V.drop (k + 1)) (k + 1) := by
  rw [List.drop_eq_getElem_cons (List.getElem?_eq_some_iff.1 hx).1, (List.getElem?_eq_some_iff.1 hx).2, varFrom, if_neg h]

set_option maxHeartbeats 3200000 in
theorem l4Var_any (lo p : Nat) (vv vn vb : Value) (T : LTree) (nm : List UInt8) (w : World) (h : TreeP lo w p vv vn vb T) (hn : T.vars.length ≤ 24) :
    Calls Try.prog 33 #[.pointer (some ⟨p, 0, none⟩), .string (bs nm)] w fun e w' => e = .returned (.int .i64 (varFrom nm T.vars 0)) ∧ w' = w := by
  obtain ⟨av, cv, rfl, _, hhv⟩ := id h.tree.vars
  have H1 : Hid (T.vars ≠ [] → ∃ b o, av = some ⟨b, o, none⟩ ∧ lo ≤ b ∧ ∀ (i : Nat) (x : LVar), T.vars[i]? = some x → VarAt w b (o + i * 4) x) := hhv
  have p0 := h.c0
  clear h hhv
  go_enter Try.func33, Try.ntmps33
  go_wp2
  go_loopw [5] (fun i wr => ∃ k : Nat, k ≤ T.vars.length ∧ i = .int .i64 k ∧ varFrom nm T.vars 0 = varFrom nm (T.vars.drop k) k ∧ SameW wr w) (fun i _ => T.vars.length - (intOf i).toNat)
  case atStart => exact ⟨0, by omega, rfl, rfl, rfl⟩
  case round =>
    obtain ⟨k, hk, rfl, hv, hw⟩ := hrel
    have q0 : wr.cell? ⟨p, 0, none⟩ = _ := (congrArg (fun W => World.cell? W ⟨p, 0, none⟩) hw).trans p0
    have HV : Hid _ := hv
    clear hv
    by_cases hlt : k < T.vars.length
    · obtain ⟨x, hx⟩ : ∃ x, T.vars[k]? = some x := ⟨T.vars[k], List.getElem?_eq_getElem hlt⟩
      obtain ⟨g, o, rfl, _, hc1⟩ := H1.out (by intro e; rw [e] at hlt; simp at hlt)
      have c0 : wr.cell? ⟨g, o + k * 4, none⟩ = _ := (congrArg (fun W => World.cell? W ⟨g, o + k * 4, none⟩) hw).trans (hc1 k x hx).1
      have HX : Hid (T.vars[k]? = some x) := hx
      clear hx hc1
      by_cases he : x.name = nm
      · have e := HV.out.trans (varFrom_hit HX.out he)
        have HE : Hid _ := e
        clear e
        subst he
        go_wp2
        go_ret
        exact ⟨by rw [HE.out]; rfl, hw⟩
      · have hne : (x.name == nm) = false := by simpa using he
        have hne2 : decide (x.name = nm) = false := decide_eq_false he
        have e := HV.out.trans (varFrom_miss HX.out he)
        have HE : Hid _ := e
        clear e
        go_wp2
        go_roundw
        case rel => exact ⟨k + 1, by omega, by go_num, HE.out, hw⟩
        case measure => simp [intOf]; omega
    · have hke : k = T.vars.length := by omega
      have HKE : Hid (k = T.vars.length) := hke
      clear hke
      go_wp2
      go_ret
      refine ⟨?_, hw⟩
      rw [HV.out, HKE.out, List.drop_length]; rfl
end Go.Proofs.Ytiipggfndgebmaa
