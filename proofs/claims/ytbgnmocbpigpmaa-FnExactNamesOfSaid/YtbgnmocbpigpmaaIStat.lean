/-
  impl.areStatements, hasParts.
-/
import Derived.Test.YtbgnmocbpigpmaaSRgtA
import Derived.Test.YtbgnmocbpigpmaaSRgtB
import Derived.Test.YtbgnmocbpigpmaaSRgtC
import Derived.Test.YtbgnmocbpigpmaaSFault
import Derived.Test.YtbgnmocbpigpmaaNamesM
import Derived.Shelf.LaysM
import Derived.Shelf.Strconv.Clone
import Derived.Ground.SlgnProg
import Derived.Test.YtbgnmocbpigpmaaProg
import Derived.Test.YtbgnmocbpigpmaaTreeM
import Derived.Test.YtbgnmocbpigpmaaBase
import Derived.Test.YtbgnmocbpigpmaaIOnce
import Derived.Test.YtbgnmocbpigpmaaIIn
namespace Go.Proofs.Ytbgnmocbpigpmaa
open Go.RowKit
set_option linter.unusedVariables false
attribute [local go_sem] bs_size bs_get bs_extract bs_append bs_eq bs_toList

set_option maxHeartbeats 3200000 in
set_option maxRecDepth 100000 in
theorem rgt0 (R : Bool) (p at_ : Nat) (b o cn : Nat) (nn : Nat) (K op : Int) (name : List UInt8) (num far : Int) (kids thn els : List Int) (a a2 a3 : Option Addr) (c c2 c3 : Nat) (w : World) (hK : inB K 1 11 = false) (hR : R = false)
    (hat : at_ < nn) (hp1 : w.cell? ⟨p, 1, none⟩ = some (.slice (some ⟨b, o, none⟩) nn cn))
    (hc : NodeCells w b (o + at_ * 8) ⟨K, op, name, num, far, kids, thn, els⟩ (.slice a kids.length c) (.slice a2 thn.length c2) (.slice a3 els.length c3)) :
    Calls Try.prog 102 #[.pointer (some ⟨p, 0, none⟩), .int .i64 at_] w fun e w' => e = .returned (.bool R) ∧ Below w.heap.size w w' := by
  obtain ⟨d0, d1, d2, d3, d4, d5, d6, d7⟩ := hc
  have HW0 : Hid (∀ w, Calls Try.prog 46 #[.int .i64 K, .int .i64 1, .int .i64 11] w fun e w' => e = .returned (.bool false) ∧ w' = w) := fun w => by have h := l1In_any K 1 11 w; rwa [hK] at h
  have HR : Hid (R = false) := hR
  have hI0 : (0 : Int) ≤ (at_ : Int) := by omega
  have hI1 : (at_ : Int) < (nn : Int) := by omega
  clear hK hR
  simp only at d0 d1 d2 d3 d4 d5 d6 d7
  go_enter Try.func102, Try.ntmps102
  go_wp2_with fail
  have hB : Below w.heap.size w (w.alloc (.cells #[.int .i64 K, .int .i64 op, .string (bs name), .int .i64 num, .int .i64 far, .slice a kids.length c, .slice a2 thn.length c2, .slice a3 els.length c3] 99)) := (Below.refl _ _).alloc (Nat.le_refl _) _
  generalize w.alloc (.cells #[.int .i64 K, .int .i64 op, .string (bs name), .int .i64 num, .int .i64 far, .slice a kids.length c, .slice a2 thn.length c2, .slice a3 els.length c3] 99) = W at *
  refine (HW0.out _).mono ?_
  rintro e w1 ⟨rfl, rfl⟩
  go_wp2_with fail
  go_ret
  exact ⟨by rw [HR.out]; rfl, hB⟩

set_option maxHeartbeats 3200000 in
theorem l4Right_any (lo p : Nat) (vv vn vb : Value) (T : LTree) (k : Nat) (w : World) (h : TreeP lo w p vv vn vb T) (hS : Sized 1048576 T) (hn : T.nodes.length ≤ 200) (hk : k < T.nodes.length) :
    Calls Try.prog 102 #[.pointer (some ⟨p, 0, none⟩), .int .i64 k] w fun e w' => e = .returned (.bool (rightB T.nodes k)) ∧ Below w.heap.size w w' := by
  obtain ⟨an, cn, rfl, _, hhn⟩ := id h.tree.nodes
  obtain ⟨b, o, rfl, _, hc2⟩ := hhn (by intro e; rw [e] at hk; simp at hk)
  obtain ⟨y, hy⟩ : ∃ y, T.nodes[k]? = some y := ⟨T.nodes[k], List.getElem?_eq_getElem hk⟩
  obtain ⟨vk, vt, ve, hcs, hvs⟩ := hc2 k y hy
  have hsz := hS.node y (List.mem_of_getElem? hy)
  have hgd : T.nodes.getD k default = y := by rw [List.getD_eq_getElem?_getD, hy]; rfl
  have hR : ∀ (v : Value) (l : List Int) (e : Bool), IntsV lo w v l → l.length ≤ 1048576 → ∀ W, Below w.heap.size w W → Calls Try.prog 103 #[.pointer (some ⟨p, 0, none⟩), .int .i64 k, v, .bool e] W fun e' w' => e' = .returned (.bool (refsB T.nodes k l e)) ∧ Below W.heap.size W w' :=
    fun v l e hv hl W hb => l4Refs_any lo p _ _ _ v T k l e lo W (h.below hb) (by omega) hn (hv.below hb) hl
  have h1 := hR vk y.kids true hvs.kids hsz.2.1
  have h2 := hR vt y.thn false hvs.thn hsz.2.2.1
  have h3 := hR ve y.els false hvs.els hsz.2.2.2
  have hO : rightB T.nodes k = (ownB y && refsB T.nodes k y.kids true && refsB T.nodes k y.thn false && refsB T.nodes k y.els false) := by rw [rightB_eq, hgd]
  obtain ⟨ak, ck, rfl, _⟩ := id hvs.kids
  obtain ⟨at2, ct, rfl, _⟩ := id hvs.thn
  obtain ⟨ae, ce, rfl, _⟩ := id hvs.els
  obtain ⟨K, op, name, num, far, kids, thn, els⟩ := y
  have hcs2 := hcs
  obtain ⟨d0, d1, d2, d3, d4, d5, d6, d7⟩ := hcs
  by_cases hK : inB K 1 11 = true
  · have hh := inB_iff.1 hK
    have : K = 1 ∨ K = 2 ∨ K = 3 ∨ K = 4 ∨ K = 5 ∨ K = 6 ∨ K = 7 ∨ K = 8 ∨ K = 9 ∨ K = 10 ∨ K = 11 := by omega
    rcases this with rfl | rfl | rfl | rfl | rfl | rfl | rfl | rfl | rfl | rfl | rfl
    · exact rgt1 _ p k b o cn T.nodes.length vv vb op name num far kids thn els ak at2 ae ck ct ce w hsz.1 hsz.2.1 hsz.2.2.1 hsz.2.2.2 _ _ _ (by rw [hO, ownK1]) hk h.c1 d0 d1 d2 d3 d4 d5 d6 d7 h1 h2 h3
    · exact rgt2 _ p k b o cn T.nodes.length vv vb op name num far kids thn els ak at2 ae ck ct ce w hsz.1 hsz.2.1 hsz.2.2.1 hsz.2.2.2 _ _ _ (by rw [hO, ownK2]) hk h.c1 d0 d1 d2 d3 d4 d5 d6 d7 h1 h2 h3
    · exact rgt3 _ p k b o cn T.nodes.length vv vb op name num far kids thn els ak at2 ae ck ct ce w hsz.1 hsz.2.1 hsz.2.2.1 hsz.2.2.2 _ _ _ (by rw [hO, ownK3]) hk h.c1 d0 d1 d2 d3 d4 d5 d6 d7 h1 h2 h3
    · exact rgt4 _ p k b o cn T.nodes.length vv vb op name num far kids thn els ak at2 ae ck ct ce w hsz.1 hsz.2.1 hsz.2.2.1 hsz.2.2.2 _ _ _ (by rw [hO, ownK4]) hk h.c1 d0 d1 d2 d3 d4 d5 d6 d7 h1 h2 h3
    · exact rgt5 _ p k b o cn T.nodes.length vv vb op name num far kids thn els ak at2 ae ck ct ce w hsz.1 hsz.2.1 hsz.2.2.1 hsz.2.2.2 _ _ _ (by rw [hO, ownK5]) hk h.c1 d0 d1 d2 d3 d4 d5 d6 d7 h1 h2 h3
    · exact rgt6 _ p k b o cn T.nodes.length vv vb op name num far kids thn els ak at2 ae ck ct ce w hsz.1 hsz.2.1 hsz.2.2.1 hsz.2.2.2 _ _ _ (by rw [hO, ownK6]) hk h.c1 d0 d1 d2 d3 d4 d5 d6 d7 h1 h2 h3
    · exact rgt7 _ p k b o cn T.nodes.length vv vb op name num far kids thn els ak at2 ae ck ct ce w hsz.1 hsz.2.1 hsz.2.2.1 hsz.2.2.2 _ _ _ (by rw [hO, ownK7]) hk h.c1 d0 d1 d2 d3 d4 d5 d6 d7 h1 h2 h3
    · exact rgt8 _ p k b o cn T.nodes.length vv vb op name num far kids thn els ak at2 ae ck ct ce w hsz.1 hsz.2.1 hsz.2.2.1 hsz.2.2.2 _ _ _ (by rw [hO, ownK8]) hk h.c1 d0 d1 d2 d3 d4 d5 d6 d7 h1 h2 h3
    · exact rgt9 _ p k b o cn T.nodes.length vv vb op name num far kids thn els ak at2 ae ck ct ce w hsz.1 hsz.2.1 hsz.2.2.1 hsz.2.2.2 _ _ _ (by rw [hO, ownK9]) hk h.c1 d0 d1 d2 d3 d4 d5 d6 d7 h1 h2 h3
    · exact rgt10 _ p k b o cn T.nodes.length vv vb op name num far kids thn els ak at2 ae ck ct ce w hsz.1 hsz.2.1 hsz.2.2.1 hsz.2.2.2 _ _ _ (by rw [hO, ownK10]) hk h.c1 d0 d1 d2 d3 d4 d5 d6 d7 h1 h2 h3
    · exact rgt11 _ p k b o cn T.nodes.length vv vb op name num far kids thn els ak at2 ae ck ct ce w hsz.1 hsz.2.1 hsz.2.2.1 hsz.2.2.2 _ _ _ (by rw [hO, ownK11]) hk h.c1 d0 d1 d2 d3 d4 d5 d6 d7 h1 h2 h3
  · have hK : inB K 1 11 = false := by simpa using hK
    exact rgt0 _ p k b o cn T.nodes.length K op name num far kids thn els ak at2 ae ck ct ce w hK (by rw [hO]; unfold ownB; simp only [hK, Bool.false_and]) hk h.c1 hcs2

end Go.Proofs.Ytbgnmocbpigpmaa
namespace Go.Proofs.Ytbgnmocbpigpmaa
open Go.Shelf
def Try.laysM316_ren : Go.Shelf.Ren := ⟨fun | 316 => 118 | n => n, fun | 9 => 9 | 3 => 3 | 4 => 4 | 37 => 52 | 0 => 0 | 127 => 179 | 5 => 5 | n => n, fun | n => n⟩
theorem Try.laysM316 : Go.Proofs.LaysM.n316 Try.prog Try.laysM316_ren := {
  mixed := by kernel_rfl
  f316 := Try.func118.trans (congrArg some (by kernel_rfl))
  t0 := Try.underlying0
  a0 := Try.isAgg0
  z0 := Try.sizeOf0
  v0 := Try.zeroValue0
  t3 := Try.underlying3
  a3 := Try.isAgg3
  z3 := Try.sizeOf3
  v3 := Try.zeroValue3
  t4 := Try.underlying4
  a4 := Try.isAgg4
  z4 := Try.sizeOf4
  v4 := Try.zeroValue4
  t9 := Try.underlying9
  a9 := Try.isAgg9
  z9 := Try.sizeOf9
  v9 := Try.zeroValue9
  t37 := Try.underlying52
  a37 := Try.isAgg52
  z37 := Try.sizeOf52
  v37 := Try.zeroValue52
  t127 := Try.underlying179
  a127 := Try.isAgg179
  z127 := Try.sizeOf179
  v127 := Try.zeroValue179
  t5 := Try.underlying5
  a5 := Try.isAgg5
  z5 := Try.sizeOf5
  v5 := Try.zeroValue5
  i0 := by kernel_rfl
  i3 := by kernel_rfl
  i4 := by kernel_rfl
  i5 := by kernel_rfl
  i9 := by kernel_rfl
  i37 := by kernel_rfl
  i127 := by kernel_rfl }
open Go.RowKit in
theorem Try.stringslite_Clone (s : ByteArray) (w : World) (hlim : s.size ≤ 281474976710656) :
    Calls Try.prog 118 #[.string s] w fun e w' => e = .returned (.string s) ∧ Below w.heap.size w w' := Any.stringslite_Clone Try.laysM316 s w hlim
end Go.Proofs.Ytbgnmocbpigpmaa
namespace Go.Proofs.Ytbgnmocbpigpmaa
open Go.RowKit
set_option linter.unusedVariables false
attribute [local go_sem] bs_size bs_get bs_extract bs_append bs_eq bs_toList
theorem clone_any (l : List UInt8) (hl : l.length ≤ 2000000) (w : World) : Calls Try.prog 63 #[.string (bs l)] w fun e w' => e = .returned (.string (bs l)) ∧ Below w.heap.size w w' := by
  have hsz : (bs l).size ≤ 281474976710656 := by rw [bs_size]; omega
  go_enter Try.func63, Try.ntmps63
  go_wp2_with (go_at_call 118; refine (Try.stringslite_Clone _ _ hsz).mono ?_; rintro e w1 ⟨rfl, hb⟩)
  go_ret
  exact ⟨rfl, hb⟩
end Go.Proofs.Ytbgnmocbpigpmaa
namespace Go.Proofs.Ytbgnmocbpigpmaa
open Go.RowKit
set_option linter.unusedVariables false
attribute [local go_sem] bs_size bs_get bs_extract bs_append bs_eq bs_toList

def kindAt (N : List LNode) (x : Int) : Int := (N.getD x.toNat default).kind
def statB (N : List LNode) (m : Nat) (l : List Int) : Bool := l.all (fun x => inB x 0 ((m : Int) - 1) && inB (kindAt N x) 7 11)
def kidsB (N : List LNode) (m : Nat) (l : List Int) : Bool := l.all (fun x => inB x 0 ((m : Int) - 1) && inB (kindAt N x) 1 6)
/-- the kinds of nodes at b, o -/
def Kinds (w : World) (a : Option Addr) (N : List LNode) (m : Nat) : Prop := 0 < m → ∃ b o, a = some ⟨b, o, none⟩ ∧ ∀ (i : Nat) (x : LNode), i < m → N[i]? = some x → w.cell? ⟨b, o + i * 8, none⟩ = some (.int .i64 x.kind)

set_option maxHeartbeats 3200000 in
set_option maxRecDepth 100000 in
theorem areStatements_any (N : List LNode) (m : Nat) (a2 : Option Addr) (c2 : Nat) (v : Value) (l : List Int) (hi : Nat) (w : World) (hm : m ≤ N.length) (hm1 : m ≤ 1048576) (hK : Kinds w a2 N m) (hv : IntsB hi w v l) (hl : l.length ≤ 1048576) :
    Calls Try.prog 73 #[.slice a2 m c2, v] w fun e w' => e = .returned (.bool (statB N m l)) ∧ w' = w := by
  obtain ⟨a, cp, rfl, hh⟩ := hv
  have HH := hid hh
  have HK := hid hK
  have HP : Hid (∀ (z : Int) (w : World), Calls Try.prog 51 #[.slice a2 m c2, .int .i64 z] w fun e w' => e = .returned (.bool (inB z 0 ((m : Int) - 1))) ∧ w' = w) := fun z w => isPlace_any a2 m c2 z w (by omega)
  have HX : Hid (∀ (z : Int) (w : World), Calls Try.prog 125 #[.int .i64 z] w fun e w' => e = .returned (.bool (inB z 7 11)) ∧ w' = w) := isStatement_any
  have HM : Hid (m ≤ N.length) := hm
  clear hh hK hm
  go_enter Try.func73, Try.ntmps73
  go_wp2
  go_loopw [9] (fun i wr => ∃ k : Nat, k ≤ l.length ∧ i = .int .i64 k ∧ (∀ j x, j < k → l[j]? = some x → (inB x 0 ((m : Int) - 1) && inB (kindAt N x) 7 11) = true) ∧ SameW wr w) (fun i _ => l.length - (intOf i).toNat)
  case atStart => exact ⟨0, by omega, rfl, by omega, rfl⟩
  case round =>
    obtain ⟨k, hk, rfl, hall, hw⟩ := hrel
    have HALL := hid hall
    have HW : Hid (SameW wr w) := hw
    clear hall
    by_cases hlt : k < l.length
    · obtain ⟨x, hx⟩ : ∃ x, l[k]? = some x := ⟨l[k], List.getElem?_eq_getElem hlt⟩
      obtain ⟨b, o, rfl, _, hc1⟩ := HH.out (by intro e; rw [e] at hlt; simp at hlt)
      have c0 : wr.cell? ⟨b, o + k, none⟩ = _ := (congrArg (fun W => World.cell? W ⟨b, o + k, none⟩) hw).trans (hc1 k x hx)
      have hk0 : (0 : Int) ≤ (k : Int) := by omega
      have hk1 : (k : Int) < (l.length : Int) := by omega
      have HL : Hid (l[k]? = some x) := hx
      clear hx hc1
      obtain ⟨q, hq⟩ : ∃ q, inB x 0 ((m : Int) - 1) = q := ⟨_, rfl⟩
      cases q with
      | false =>
        have hI : Hid (∀ w, Calls Try.prog 51 #[.slice a2 m c2, .int .i64 x] w fun e w' => e = .returned (.bool false) ∧ w' = w) := fun w => by have h := HP.out x w; rwa [hq] at h
        have e : statB N m l = false := List.all_eq_false.2 ⟨x, List.mem_of_getElem? HL.out, by simp [hq]⟩
        have He : Hid _ := e
        clear e hq hw
        go_wp2_with fail
        refine (hI.out _).mono ?_
        rintro e w1 ⟨rfl, rfl⟩
        go_wp2_with fail
        go_ret
        exact ⟨by rw [He.out]; rfl, HW.out⟩
      | true =>
        have hq2 := inB_iff.1 hq
        obtain ⟨j, rfl⟩ : ∃ j : Nat, x = j := ⟨x.toNat, by omega⟩
        have hjm : j < m := by omega
        obtain ⟨y, hy⟩ : ∃ y, N[j]? = some y := ⟨N[j]'(by have := HM.out; omega), List.getElem?_eq_getElem _⟩
        obtain ⟨g2, o2, rfl, hc2⟩ := HK.out (by omega)
        have d0 : wr.cell? ⟨g2, o2 + j * 8, none⟩ = _ := (congrArg (fun W => World.cell? W ⟨g2, o2 + j * 8, none⟩) hw).trans (hc2 j y hjm hy)
        have hkd : kindAt N (j : Int) = y.kind := by
          have : N.getD ((j : Int)).toNat default = y := by simp [hy]
          unfold kindAt; rw [this]
        have HR : Hid ((inB (j : Int) 0 ((m : Int) - 1) && inB (kindAt N (j : Int)) 7 11) = inB y.kind 7 11) := by unfold Hid; rw [hq, hkd]; rfl
        have hj0 : (0 : Int) ≤ (j : Int) := by omega
        have hj1 : (j : Int) < (m : Int) := by omega
        have hI : Hid (∀ w, Calls Try.prog 51 #[.slice (some ⟨g2, o2, none⟩) m c2, .int .i64 (j : Int)] w fun e w' => e = .returned (.bool true) ∧ w' = w) := fun w => by have h := HP.out (j : Int) w; rwa [hq] at h
        clear hq hq2 hy hc2 hkd hw
        obtain ⟨qe, hqe⟩ : ∃ q, inB y.kind 7 11 = q := ⟨_, rfl⟩
        have hE : Hid (∀ w, Calls Try.prog 125 #[.int .i64 y.kind] w fun e w' => e = .returned (.bool qe) ∧ w' = w) := fun w => by have h := HX.out y.kind w; rwa [hqe] at h
        cases qe
        · have e : statB N m l = false := List.all_eq_false.2 ⟨(j : Int), List.mem_of_getElem? HL.out, by rw [HR.out, hqe]; decide⟩
          have He : Hid _ := e
          clear e
          go_wp2_with fail
          refine (hI.out _).mono ?_
          rintro e w1 ⟨rfl, rfl⟩
          go_wp2_with fail
          refine (hE.out _).mono ?_
          rintro e w1 ⟨rfl, rfl⟩
          go_wp2_with fail
          go_ret
          exact ⟨by rw [He.out]; rfl, HW.out⟩
        · go_wp2_with fail
          refine (hI.out _).mono ?_
          rintro e w1 ⟨rfl, rfl⟩
          go_wp2_with fail
          refine (hE.out _).mono ?_
          rintro e w1 ⟨rfl, rfl⟩
          go_wp2_with fail
          go_roundw
          case rel => exact ⟨k + 1, by omega, by go_num, fun i x hi hx => by
              rcases Nat.lt_succ_iff_lt_or_eq.1 hi with h | rfl
              · exact HALL.out i x h hx
              · have := hx.symm.trans HL.out
                cases this
                rw [HR.out, hqe], HW.out⟩
          case measure => simp [intOf]; omega
    · have hke : k = l.length := by omega
      have e : statB N m l = true := List.all_eq_true.2 (fun x hx => by
        obtain ⟨j, hj, rfl⟩ := List.getElem_of_mem hx
        exact HALL.out j _ (by omega) (List.getElem?_eq_getElem hj))
      have He : Hid _ := e
      clear e hke hw
      go_wp2
      go_ret
      exact ⟨by rw [He.out]; rfl, HW.out⟩
end Go.Proofs.Ytbgnmocbpigpmaa
