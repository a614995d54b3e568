/-
  HasCalls: impl's, of any tree.
-/
import Derived.Test.YtbgnmocbpigpmaaHasC
namespace Go.Proofs.Ytbgnmocbpigpmaa
open Go.RowKit
set_option linter.unusedVariables false
attribute [local go_sem] bs_size bs_get bs_extract bs_append bs_eq bs_toList

abbrev isCallF : Value := .func (.func 81) #[] #[]

set_option maxHeartbeats 1600000 in
theorem isCall_any (k op : Int) (nm : List UInt8) (num far : Int) (v1 v2 v3 : Value) (w : World) :
    Calls Try.prog 81 #[.agg #[.int .i64 k, .int .i64 op, .string (bs nm), .int .i64 num, .int .i64 far, v1, v2, v3]] w fun e w' => e = .returned (.bool (decide (k = 11))) ∧ Below w.heap.size w w' := by
  go_enter Try.func81, Try.ntmps81
  go_wp2_with fail
  go_ret
  first
  | exact ⟨rfl, by go_grown⟩
  | exact ⟨by simp, by go_grown⟩

set_option maxHeartbeats 6400000 in
set_option maxRecDepth 100000 in
theorem indexF_any (lo : Nat) (vn : Value) (N : List LNode) (w : World) (h : NodesV lo w vn N) (hl : N.length ≤ 1048576) :
    Calls Try.prog 128 #[vn, isCallF] w fun e w' => (∃ i : Int, e = .returned (.int .i64 i) ∧ (0 ≤ i ↔ N.any callB = true)) ∧ Below w.heap.size w w' := by
  obtain ⟨an, cn, rfl, _, hhn⟩ := id h
  have HN : Hid (N ≠ [] → ∃ b o, an = some ⟨b, o, none⟩ ∧ lo ≤ b ∧ ∀ (i : Nat) (x : LNode), N[i]? = some x → NodeAt lo w b (o + i * 8) x) := hhn
  clear h hhn
  go_enter Try.func128, Try.ntmps128
  go_wp2
  have HB0 : Hid (Below w.heap.size w w) := Below.refl _ _
  go_loopw [8] (fun i wr => ∃ k : Nat, k ≤ N.length ∧ i = .int .i64 k ∧ Hid (N.any callB = (N.drop k).any callB) ∧ Hid (Below w.heap.size w wr)) (fun i _ => N.length - (intOf i).toNat)
  case atStart => exact ⟨0, by omega, rfl, by unfold Hid; rw [List.drop_zero], HB0⟩
  case round =>
    clear HB0
    obtain ⟨k, hk, rfl, HF, HB⟩ := hrel
    by_cases hlt : k < N.length
    · obtain ⟨y, hy⟩ : ∃ y, N[k]? = some y := ⟨N[k], List.getElem?_eq_getElem hlt⟩
      obtain ⟨b, o, rfl, _, hcc⟩ := HN.out (by intro e; rw [e] at hlt; simp at hlt)
      obtain ⟨vk, vt, ve, hcs, hvs⟩ := hcc k y hy
      obtain ⟨d0, d1, d2, d3, d4, d5, d6, d7⟩ := hcs.keep (lo := 0) (Keeps.of_below HB.out) (Nat.zero_le _)
      obtain ⟨ak, ck, rfl, _⟩ := id hvs.kids
      obtain ⟨at2, ct, rfl, _⟩ := id hvs.thn
      obtain ⟨ae, ce, rfl, _⟩ := id hvs.els
      have hk0 : (0 : Int) ≤ (k : Int) := by omega
      have hk1 : (k : Int) < (N.length : Int) := by omega
      have HD := any_drop hy
      have hbz := HB.out.size
      have HC : Hid (∀ W, Calls Try.prog 81 #[.agg #[.int .i64 y.kind, .int .i64 y.op, .string (bs y.name), .int .i64 y.num, .int .i64 y.far, .slice ak y.kids.length ck, .slice at2 y.thn.length ct, .slice ae y.els.length ce]] W fun e w' => e = .returned (.bool (callB y)) ∧ Below W.heap.size W w') := fun W => isCall_any _ _ _ _ _ _ _ _ W
      clear hy hcc hcs hvs
      cases hc : callB y with
      | true =>
        rw [hc] at HC HD
        have HE : Hid (N.any callB = true) := by unfold Hid; rw [HF.out, HD]; rfl
        clear hc HD HF
        go_wp2_with fail
        refine (HC.out _).mono ?_
        rintro e w9 ⟨rfl, hb⟩
        have HB9 : Hid (Below w.heap.size w w9) := HB.out.trans (hb.mono hbz)
        clear hb HB HC d0 d1 d2 d3 d4 d5 d6 d7
        go_wp2_with fail
        go_ret
        exact ⟨⟨(k : Int), rfl, ⟨fun _ => HE.out, fun _ => hk0⟩⟩, HB9.out⟩
      | false =>
        rw [hc] at HC HD
        have HE : Hid (N.any callB = (N.drop (k + 1)).any callB) := by unfold Hid; rw [HF.out, HD]; rfl
        clear hc HD HF
        go_wp2_with fail
        refine (HC.out _).mono ?_
        rintro e w9 ⟨rfl, hb⟩
        have HB9 : Hid (Below w.heap.size w w9) := HB.out.trans (hb.mono hbz)
        clear hb HB HC d0 d1 d2 d3 d4 d5 d6 d7
        go_wp2_with fail
        go_roundw
        case rel => exact ⟨k + 1, by omega, by go_num, HE, HB9⟩
        case measure => simp [intOf]; omega
    · have hke : k = N.length := by omega
      have HE : Hid (N.any callB = false) := by unfold Hid; rw [HF.out, hke, List.drop_length]; rfl
      clear HF hke HN
      go_wp2_with fail
      go_ret
      exact ⟨⟨-1, rfl, ⟨fun h => by omega, fun h => by rw [HE.out] at h; cases h⟩⟩, HB.out⟩

set_option maxHeartbeats 1600000 in
theorem containsF_any (lo : Nat) (vn : Value) (N : List LNode) (w : World) (h : NodesV lo w vn N) (hl : N.length ≤ 1048576) :
    Calls Try.prog 80 #[vn, isCallF] w fun e w' => e = .returned (.bool (N.any callB)) ∧ Below w.heap.size w w' := by
  have H : Hid (Calls Try.prog 128 #[vn, isCallF] w fun e w' => (∃ i : Int, e = .returned (.int .i64 i) ∧ (0 ≤ i ↔ N.any callB = true)) ∧ Below w.heap.size w w') := indexF_any lo vn N w h hl
  clear h
  go_enter Try.func80, Try.ntmps80
  go_wp2_with fail
  refine H.out.mono ?_
  rintro e w1 ⟨⟨i, rfl, hi⟩, hb⟩
  have HE : Hid (N.any callB = decide (0 ≤ i)) := by
    unfold Hid
    cases hh : N.any callB with
    | true => exact (decide_eq_true (hi.2 hh)).symm
    | false => exact (decide_eq_false (fun h => by rw [hi.1 h] at hh; cases hh)).symm
  have HB : Hid _ := hb
  clear hi H hb
  go_wp2_with fail
  go_ret
  exact ⟨by rw [HE.out]; rfl, HB.out⟩

set_option maxHeartbeats 1600000 in
theorem implHasCalls (lo : Nat) (vv vn vb : Value) (T : LTree) (w : World) (h : TreeV lo w vv vn vb T) (hS : Sized 1048576 T) :
    Calls Try.prog 35 #[treeV vv vn vb] w fun e w' => e = .returned (.bool (hasB T)) ∧ Below w.heap.size w w' := by
  obtain ⟨av, cv, rfl, _⟩ := id h.vars
  obtain ⟨an, cn, rfl, _⟩ := id h.nodes
  obtain ⟨ab, cb, rfl, _⟩ := id h.body
  have hb1 : Below w.heap.size w (w.alloc (.cells #[.slice av T.vars.length cv, .slice an T.nodes.length cn, .slice ab T.body.length cb] 34)) := (Below.refl _ _).alloc (Nat.le_refl _) _
  have HL : Hid (Calls Try.prog 80 #[.slice an T.nodes.length cn, isCallF] (w.alloc (.cells #[.slice av T.vars.length cv, .slice an T.nodes.length cn, .slice ab T.body.length cb] 34)) fun e w' => e = .returned (.bool (hasB T)) ∧ Below w.heap.size w w') :=
    (containsF_any lo _ T.nodes _ (h.below hb1).nodes hS.nodes).mono fun e w' hh => ⟨hh.1, hb1.trans (hh.2.mono hb1.size)⟩
  clear h hS hb1
  go_enter Try.func35, Try.ntmps35
  go_wp2_with fail
  refine HL.out.mono ?_
  rintro e w2 ⟨rfl, hb⟩
  go_wp2_with fail
  go_ret
  exact ⟨rfl, hb⟩
end Go.Proofs.Ytbgnmocbpigpmaa
