/-
  HasCalls: spec's and impl's, of any tree.
-/
import Derived.Test.YtbgnmocbpigpmaaTreeC
import Derived.Test.YtbgnmocbpigpmaaRowE
import Derived.Deep.AppendLies
namespace Go.Proofs.Ytbgnmocbpigpmaa
open Go.RowKit
set_option linter.unusedVariables false
attribute [local go_sem] bs_size bs_get bs_extract bs_append bs_eq bs_toList

def callB (n : LNode) : Bool := decide (n.kind = 11)
def hasB (T : LTree) : Bool := T.nodes.any callB
theorem any_take {N : List LNode} {k : Nat} {n : LNode} (h : N[k]? = some n) : (N.take (k + 1)).any callB = ((N.take k).any callB || callB n) := by
  obtain ⟨hk, rfl⟩ := List.getElem?_eq_some_iff.1 h
  rw [List.take_succ_eq_append_getElem hk, List.any_append]; simp
theorem any_drop {N : List LNode} {k : Nat} {n : LNode} (h : N[k]? = some n) : (N.drop k).any callB = (callB n || (N.drop (k + 1)).any callB) := by
  obtain ⟨hk, rfl⟩ := List.getElem?_eq_some_iff.1 h
  rw [List.drop_eq_getElem_cons hk, List.any_cons]
/-- a row of c nodes, where c is 0 just where there is no call -/
def Got (w : World) (B : Nat) (v : Value) (N : List LNode) (k c : Nat) : Prop := (∃ xs, w.ownsRow B 99 8 v c xs) ∧ (0 < c ↔ (N.take k).any callB = true) ∧ c ≤ k

set_option maxHeartbeats 6400000 in
set_option maxRecDepth 100000 in
theorem l7Calls_any (lo p : Nat) (vn : Value) (N : List LNode) (w : World) (hp : w.cell? ⟨p, 1, none⟩ = some vn) (h : NodesV lo w vn N) (hl : N.length ≤ 1048576) :
    Calls Try.prog 79 #[.pointer (some ⟨p, 0, none⟩)] w fun e w' => (∃ a c q, e = .returned (.slice a c q) ∧ (0 < c ↔ N.any callB = true) ∧ c ≤ 1048576) ∧ Below w.heap.size w w' := by
  obtain ⟨i0, hi, hz0, hz1, hz2⟩ := info_parts infoN
  obtain ⟨an, cn, rfl, _, hhn⟩ := id h
  have HN : Hid (N ≠ [] → ∃ b o, an = some ⟨b, o, none⟩ ∧ lo ≤ b ∧ ∀ (i : Nat) (x : LNode), N[i]? = some x → NodeAt lo w b (o + i * 8) x) := hhn
  have HP1 : Hid (w.cell? ⟨p, 1, none⟩ = some (.slice an N.length cn)) := hp
  have hpw : p < w.heap.size := World.block_lt_of_cell? _ _ hp
  clear h hhn hp
  go_enter Try.func79, Try.ntmps79
  go_wp2
  have HOW0 : Hid (Got (w.alloc (.cells #[] 99)) w.heap.size (.slice (some ⟨w.heap.size, 0, none⟩) 0 0) N 0 0) :=
    ⟨⟨[], rfl, .inr ⟨w.heap.size, 0, #[], rfl, Nat.le_refl _, heap_alloc_new w _, Nat.le_refl _, by decide, rfl, rfl⟩⟩, by simp, Nat.le_refl _⟩
  have HB0 : Hid (Below w.heap.size w (w.alloc (.cells #[] 99))) := (Below.refl _ _).alloc (Nat.le_refl _) _
  generalize w.alloc (.cells #[] 99) = W0 at *
  go_loopw [3, 4] (fun v i wr => ∃ k c : Nat, k ≤ N.length ∧ i = .int .i64 k ∧ Hid (Got wr w.heap.size v N k c) ∧ Hid (Below w.heap.size w wr)) (fun v i _ => N.length - (intOf i).toNat)
  case atStart => exact ⟨0, 0, by omega, rfl, HOW0, HB0⟩
  case round =>
    clear HOW0 HB0
    obtain ⟨k, c, hk, rfl, HG, HB⟩ := hrel
    obtain ⟨⟨xs, hown⟩, hc1, hc2⟩ := HG.out
    obtain ⟨ad, cp, rfl⟩ := rowE_shape hown
    have q1 := (HB.out.cell (p := ⟨p, 1, none⟩) hpw).trans HP1.out
    by_cases hlt : k < N.length
    · obtain ⟨y, hy⟩ : ∃ y, N[k]? = some y := ⟨N[k], List.getElem?_eq_getElem hlt⟩
      obtain ⟨b, o, rfl, _, hcc⟩ := HN.out (by intro e; rw [e] at hlt; simp at hlt)
      obtain ⟨vk, vt, ve, hcs, hvs⟩ := hcc k y hy
      obtain ⟨d0, d1, d2, d3, d4, d5, d6, d7⟩ := hcs.keep (lo := 0) (Keeps.of_below HB.out) (Nat.zero_le _)
      obtain ⟨ak, ck, rfl, _⟩ := id hvs.kids
      obtain ⟨at2, ct, rfl, _⟩ := id hvs.thn
      obtain ⟨ae, ce, rfl, _⟩ := id hvs.els
      have hk0 : (0 : Int) ≤ (k : Int) := by omega
      have hk1 : (k : Int) < (N.length : Int) := by omega
      have HTK := any_take hy
      have hbz := HB.out.size
      by_cases k11 : y.kind = 11
      · have HC1 : Hid ((N.take (k + 1)).any callB = true) := by unfold Hid; rw [HTK]; unfold callB; rw [decide_eq_true k11]; simp
        rw [k11] at d0
        clear hy hcc hcs hvs HTK hc1 HG k11
        go_wp2_with (at_builtin; go_loud (refine wpList_append_own _ rfl _ _ 32 rfl w.heap.size 99 i0 (.agg #[.int .i64 0, .int .i64 0, .string ⟨#[]⟩, .int .i64 0, .int .i64 0, .slice none 0 0, .slice none 0 0, .slice none 0 0]) 8 120 Try.underlying32 hi hz0 hz1 hz2 rfl (by decide) _ _ _ rfl (hown.alloc _) ⟨wr.heap.size, 0, none⟩ 1 1 [.int .i64 11, .int .i64 y.op, .string (bs y.name), .int .i64 y.num, .int .i64 y.far, .slice ak y.kids.length ck, .slice at2 y.thn.length ct, .slice ae y.els.length ce] rfl rfl ?c1 ?c2 ?c3 ?c4 ?c5 ?_))
        case c1 => exact World.news_of_block (heap_alloc_new wr _)
        case c2 => simp [Value.oneCell']
        case c3 => unfold maxLen; omega
        case c4 => omega
        case c5 => simp; omega
        intro v' w9 hown' hgrow _
        have HON : Hid (Got w9 w.heap.size v' N (k + 1) (c + 1)) := ⟨⟨_, hown'⟩, ⟨fun _ => HC1.out, fun _ => by omega⟩, by omega⟩
        have HB9 : Hid (Below w.heap.size w w9) := (HB.out.alloc hbz _).grown hgrow (by simp; omega) (fun j hj => (hown.lt j hj).1)
        clear hown' hgrow hown d0 d1 d2 d3 d4 d5 d6 d7 q1 HB
        go_wp2_with fail
        go_roundw
        case rel => exact ⟨k + 1, c + 1, by omega, by go_num, HON, HB9⟩
        case measure => simp [intOf]; omega
      · have HON : Hid (Got wr w.heap.size (.slice ad c cp) N (k + 1) c) := ⟨⟨xs, hown⟩, by rw [HTK]; unfold callB at hc1 ⊢; rw [decide_eq_false k11, Bool.or_false]; exact hc1, by omega⟩
        have hkb : (y.kind == 11) = false := by simpa using k11
        have hkd : decide (y.kind = 11) = false := decide_eq_false k11
        clear hy hcc hcs hvs HTK hc1 HG hown
        go_wp2_with fail
        go_roundw
        case rel => exact ⟨k + 1, c, by omega, by go_num, HON, HB⟩
        case measure => simp [intOf]; omega
    · have hke : k = N.length := by omega
      have HF : Hid (0 < c ↔ N.any callB = true) := by unfold Hid; rw [hc1, hke, List.take_length]
      clear HG hc1 hown hke
      go_wp2_with fail
      go_ret
      exact ⟨⟨ad, c, cp, rfl, HF.out, by omega⟩, HB.out⟩

set_option maxHeartbeats 1600000 in
theorem specHasCalls (lo : Nat) (vv vn vb : Value) (T : LTree) (w : World) (h : TreeV lo w vv vn vb T) (hS : Sized 1048576 T) :
    Calls Try.prog 34 #[treeV vv vn vb] w fun e w' => e = .returned (.bool (hasB T)) ∧ Below w.heap.size w w' := by
  obtain ⟨av, cv, rfl, _⟩ := id h.vars
  obtain ⟨an, cn, rfl, _⟩ := id h.nodes
  obtain ⟨ab, cb, rfl, _⟩ := id h.body
  have hb1 : Below w.heap.size w (w.alloc (.cells #[.slice av T.vars.length cv, .slice an T.nodes.length cn, .slice ab T.body.length cb] 34)) := (Below.refl _ _).alloc (Nat.le_refl _) _
  have HL : Hid (Calls Try.prog 79 #[.pointer (some ⟨w.heap.size, 0, none⟩)] (w.alloc (.cells #[.slice av T.vars.length cv, .slice an T.nodes.length cn, .slice ab T.body.length cb] 34)) fun e w' => (∃ a c q, e = .returned (.slice a c q) ∧ (0 < c ↔ T.nodes.any callB = true) ∧ c ≤ 1048576) ∧ Below w.heap.size w w') :=
    (l7Calls_any lo w.heap.size _ T.nodes _ (cell_of_row _ _ 1 _ _ _ (heap_alloc_new w _)) (h.below hb1).nodes hS.nodes).mono fun e w' hh => ⟨hh.1, hb1.trans (hh.2.mono hb1.size)⟩
  clear h hS hb1
  go_enter Try.func34, Try.ntmps34
  go_wp2_with fail
  refine HL.out.mono ?_
  rintro e w2 ⟨⟨a, c, q, rfl, hc, hc2⟩, hb⟩
  have HB : Hid (Below w.heap.size w w2) := hb
  have HE : Hid (hasB T = decide (0 < c)) := by
    unfold Hid hasB
    cases hh : T.nodes.any callB with
    | true => exact (decide_eq_true (hc.2 hh)).symm
    | false => exact (decide_eq_false (fun h => by rw [hc.1 h] at hh; cases hh)).symm
  clear hb hc HL
  by_cases h0 : 0 < c
  · have HR : Hid (hasB T = true) := by unfold Hid; rw [HE.out, decide_eq_true h0]
    clear HE
    go_wp2_with fail
    go_ret
    exact ⟨by rw [HR.out]; rfl, HB.out⟩
  · have HR : Hid (hasB T = false) := by unfold Hid; rw [HE.out, decide_eq_false h0]
    clear HE
    go_wp2_with fail
    go_ret
    exact ⟨by rw [HR.out]; rfl, HB.out⟩
end Go.Proofs.Ytbgnmocbpigpmaa
