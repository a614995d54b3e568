/-
  errors.As at an error that is a misfit. (After the kit's worked toy 'toyas'.)
-/
import Derived.Test.YteeklmgkhacbcaaGreatDoorICost
import Derived.Test.YteeklmgkhacbcaaGreatDoorSTree
import Derived.Deep.RegionHeld3
import Derived.Test.YteeklmgkhacbcaaGreatDoorCheckN
import Derived.Test.YteeklmgkhacbcaaGreatDoorICkE
import Derived.Test.YteeklmgkhacbcaaGreatDoorTreeMath
import Derived.Test.YteeklmgkhacbcaaGreatDoorBase
import Derived.LaidEql
import Derived.Stop.Asserts
import Derived.RowKitTokens
namespace Go.Proofs.YteeklmgkhacbcaaGreatDoor
open Go.RowKit
set_option linter.unusedVariables false
attribute [local go_sem] bs_size bs_get bs_extract bs_append bs_eq bs_toList
set_option maxHeartbeats 6400000 in
set_option maxRecDepth 100000 in
theorem budgetOf_any (lo : Nat) (vv vn vb : Value) (T : LTree) (w : World) (h : TreeV lo w vv vn vb T) (hS : Sized 1048576 T) (hG : Good T) :
  Calls Tryz.prog 77 #[treeV vv vn vb] w fun e w' => e = .returned (.int .i64 (budT T)) ∧ Below w.heap.size w w' := by
 obtain ⟨av, cv, rfl, _⟩ := id h.vars
 obtain ⟨an, cn, rfl, _⟩ := id h.nodes
 obtain ⟨ab, cb, rfl, _⟩ := id h.body
 have HCO : Hid (∀ (w' : World), Below w.heap.size w w' → Calls Tryz.prog 107 #[.slice an T.nodes.length cn] w' fun e w2 => e = .returned (.slice (some ⟨w'.heap.size, 0, none⟩) T.nodes.length T.nodes.length) ∧ Cnt w2 w'.heap.size 2 (costsF T.nodes T.nodes.length) ∧ Below w'.heap.size w' w2) := fun w' hb =>
  costs_any lo an cn T.nodes w' (h.nodes.below hb) hG.nodes (hG.tame hS) (fun k n hk => (hG.node k n hk).2)
 have HSU : Hid (∀ (a : Option Addr) (c : Nat) (W : World), Below w.heap.size w W → Nums W a (costsF T.nodes T.nodes.length) → Calls Tryz.prog 106 #[.slice a T.nodes.length c, .slice ab T.body.length cb] W fun e w' => e = .returned (.int .i64 (sumAtL (costsF T.nodes T.nodes.length) T.body)) ∧ w' = W) := fun a c W hb hn =>
  sumAt_any (costsF T.nodes T.nodes.length) T.body a T.nodes.length c W.heap.size _ W (costsF_len _ _) (by have := hG.nodes; omega) hn ((h.below hb).body).toB hG.body (costsF_le T.nodes (hG.tame hS) _ (Nat.le_refl _)) hS.body
 have hsb := sum_big (costsF_le T.nodes (hG.tame hS) _ (Nat.le_refl _)) hS.body
 have HDL : Hid ((costsF T.nodes T.nodes.length).length = T.nodes.length) := costsF_len _ _
 have HBU : Hid (budT T = 1 + sumAtL (costsF T.nodes T.nodes.length) T.body) := rfl
 clear h hS hG
 obtain ⟨ds, hds⟩ : ∃ ds, ds = costsF T.nodes T.nodes.length := ⟨_, rfl⟩
 rw [← hds] at HCO HSU hsb HDL HBU
 clear hds
 obtain ⟨sm, hsm⟩ : ∃ sm, sm = sumAtL ds T.body := ⟨_, rfl⟩
 rw [← hsm] at HSU hsb HBU
 clear hsm
 go_enter Tryz.func77, Tryz.ntmps77
 go_wp2_with fail
 have hb1 : Below w.heap.size w (w.alloc (.cells #[.slice av T.vars.length cv, .slice an T.nodes.length cn, .slice ab T.body.length cb] 37)) := (Below.refl _ _).alloc (Nat.le_refl _) _
 have hA := heap_alloc_new w (.cells #[.slice av T.vars.length cv, .slice an T.nodes.length cn, .slice ab T.body.length cb] 37)
 generalize w.alloc (.cells #[.slice av T.vars.length cv, .slice an T.nodes.length cn, .slice ab T.body.length cb] 37) = W1 at *
 obtain ⟨-, p1, p2⟩ := cl3 hA
 have hlt := blk_lt hA
 have HB1 : Hid (Below w.heap.size w W1.drew) := hb1.drew
 clear hA hb1
 go_region_held3 (fun Z => Z.cell? ⟨w.heap.size, 1, none⟩ = some (.slice an T.nodes.length cn) ∧ Z.cell? ⟨w.heap.size, 2, none⟩ = some (.slice ab T.body.length cb)) (go_keep) (first | (go_at_call 107; refine (HCO.out _ HB1.out).mono ?_; rintro e w7 ⟨rfl, hcnt, hb7⟩; have q1 := (hb7.cell (p := ⟨w.heap.size, 1, none⟩) hlt).trans p1; have q2 := (hb7.cell (p := ⟨w.heap.size, 2, none⟩) hlt).trans p2; have HNU : Hid (Nums w7 (some ⟨W1.drew.heap.size, 0, none⟩) ds) := .inr ⟨_, 0, rfl, fun i hi => by rw [Nat.zero_add]; exact (hcnt.cell i hi).1⟩; have HB9 : Hid (Below w.heap.size w w7) := HB1.out.trans (hb7.mono HB1.out.size); clear hcnt hb7) | (go_at_call 106; refine (HSU.out _ _ _ HB9.out HNU.out).mono ?_; rintro e w8 ⟨rfl, rfl⟩))
 clear p1 p2 q1 q2 HCO HSU
 go_wp2_with fail
 go_ret
 have e : Ending.returned (Value.int .i64 (IntKind.i64.wrap (1 + sm))) = Ending.returned (Value.int .i64 (budT T)) := by rw [HBU.out, IntWalk.i64_in _ (by omega)]
 exact ⟨e, HB9.out⟩
end Go.Proofs.YteeklmgkhacbcaaGreatDoor
namespace Go.Proofs.YteeklmgkhacbcaaGreatDoor
open Go.RowKit
open Go.Maps
set_option linter.unusedVariables false
theorem first_some (V : List LVar) (nm : List UInt8) : ∀ k, k ≤ V.length → ((firstI V nm k).isSome = true ↔ ∃ v ∈ V.take k, v.name = nm) := by
 intro k
 induction k with
 | zero => intro _; simp [firstI]
 | succ k ih =>
  intro hk
  have hk2 : k < V.length := by omega
  rw [List.take_succ_eq_append_getElem hk2]
  have e : V.getD k default = V[k] := by rw [List.getD_eq_getElem?_getD, List.getElem?_eq_getElem hk2]; rfl
  cases hf : firstI V nm k with
  | some i =>
   rw [firstI_some hf]
   have h1 := (ih (by omega)).1 (by rw [hf]; rfl)
   obtain ⟨v, hv, e2⟩ := h1
   exact ⟨fun _ => ⟨v, List.mem_append.2 (.inl hv), e2⟩, fun _ => rfl⟩
  | none =>
   have h1 : ¬ ∃ v ∈ V.take k, v.name = nm := fun h => by
    have := (ih (by omega)).2 h
    rw [hf] at this; cases this
   by_cases he : (V.getD k default).name = nm
   ·rw [firstI_hit hf he]
    rw [e] at he
    exact ⟨fun _ => ⟨V[k], List.mem_append.2 (.inr (List.mem_singleton.2 rfl)), he⟩, fun _ => rfl⟩
   ·rw [firstI_miss hf he]
    rw [e] at he
    refine ⟨fun h => (by cases h), fun ⟨v, hv, e2⟩ => ?_⟩
    rcases List.mem_append.1 hv with hv | hv
    ·exact absurd ⟨v, hv, e2⟩ h1
    ·rw [List.mem_singleton] at hv; subst hv; exact absurd e2 he
theorem nameD_tidy (V : List LVar) (nv : Nat) : ∀ k, Tidy (nameD V nv k) := by
 intro k
 induction k with
 | zero => exact tidy_empty
 | succ k ih =>
  unfold nameD
  split
  ·exact ih
  ·exact ih.put (key_lit _) _
theorem nameD_size (V : List LVar) (nv : Nat) : ∀ k, k ≤ V.length → Maps.size (nameD V nv k) ≤ k ∧ (Maps.size (nameD V nv k) = k ↔ ∀ j, j < k → varFrom (V.getD j default).name (V.take j) 0 < 0) := by
 intro k
 induction k with
 | zero => intro _; exact ⟨Nat.le_refl _, ⟨fun _ j hj => by omega, fun _ => rfl⟩⟩
 | succ k ih =>
  intro hk
  obtain ⟨h1, h2⟩ := ih (by omega)
  have hfs := first_some V (V.getD k default).name k (by omega)
  have hvm := varFrom_mem (V.getD k default).name (V.take k) 0
  unfold nameD
  by_cases hs : (firstI V (V.getD k default).name k).isSome = true
  ·rw [if_pos hs]
   refine ⟨by omega, ⟨fun e => by omega, fun h => ?_⟩⟩
   have h3 := h k (by omega)
   have h4 := hvm.2 (hfs.1 hs)
   omega
  ·rw [if_neg hs, size_put (nameD_tidy V nv k)]
   rw [(nameD_at V nv (.held noVal) k (V.getD k default).name).1, if_neg hs]
   have h5 : varFrom (V.getD k default).name (V.take k) 0 < 0 := Classical.byContradiction fun h => hs (hfs.2 (hvm.1 (by omega)))
   refine ⟨by omega, ⟨fun e j hj => ?_, fun h => ?_⟩⟩
   ·by_cases ej : j = k
    ·rw [ej]; exact h5
    ·exact h2.1 (by omega) j (by omega)
   ·have := h2.2 (fun j hj => h j (by omega)); omega
theorem size_dup (V : List LVar) (nv : Nat) : Maps.size (nameD V nv V.length) ≤ V.length ∧ (Maps.size (nameD V nv V.length) < V.length ↔ dupB V = true) := by
 obtain ⟨h1, h2⟩ := nameD_size V nv V.length (Nat.le_refl _)
 refine ⟨h1, ⟨fun h => ?_, fun h => ?_⟩⟩
 ·cases hd : dupB V with
  | true => rfl
  | false =>
   exfalso
   have : Maps.size (nameD V nv V.length) = V.length := h2.2 fun j hj => by
    refine Classical.byContradiction fun hh => ?_
    rw [dup_hit hj (by omega)] at hd; cases hd
   omega
 ·refine Nat.lt_of_le_of_ne h1 fun e => ?_
  have := dup_none (h2.1 e)
  rw [this] at h; cases h
end Go.Proofs.YteeklmgkhacbcaaGreatDoor
namespace Go.Proofs.YteeklmgkhacbcaaGreatDoor
open Go.RowKit
set_option linter.unusedVariables false
attribute [local go_sem] bs_size bs_get bs_extract bs_append bs_eq bs_toList
set_option maxHeartbeats 400000 in
theorem iletter_any (n : Int) (w : World) : Calls Tryz.prog 120 #[.int .u8 n] w fun e w' => e = .returned (.bool (isLetI n)) ∧ w' = w := by
 by_cases h1 : 97 ≤ n
 ·by_cases h2 : n ≤ 122
  ·have hv : isLetI n = true := decide_eq_true (.inl ⟨h1, h2⟩)
   rw [hv]; clear hv
   go_enter Tryz.func120, Tryz.ntmps120
   go_wp2
   go_ret
   exact ⟨rfl, rfl⟩
  ·have hv : isLetI n = false := decide_eq_false (by omega)
   rw [hv]; clear hv
   have h3 : (n == 95) = false := by simpa using (by omega : n ≠ 95)
   go_enter Tryz.func120, Tryz.ntmps120
   go_wp2
   go_ret
   exact ⟨rfl, rfl⟩
 ·by_cases h2 : n = 95
  ·subst h2
   go_enter Tryz.func120, Tryz.ntmps120
   go_wp2
   go_ret
   exact ⟨rfl, rfl⟩
  ·have hv : isLetI n = false := decide_eq_false (by omega)
   rw [hv]; clear hv
   have h3 : (n == 95) = false := by simpa using h2
   go_enter Tryz.func120, Tryz.ntmps120
   go_wp2
   go_ret
   exact ⟨rfl, rfl⟩
set_option maxHeartbeats 1600000 in
theorem iIsWord_any (l : List UInt8) (w : World) : Calls Tryz.prog 119 #[.string (bs l)] w fun e w' => e = .returned (.bool (isWordL l)) ∧ w' = w := by
 cases h : isWordL l
 ·
  have b0 : (l == [97, 110, 100]) = false := beq_eq_false_iff_ne.2 fun e => by subst e; exact absurd h (by decide)
  have b1 : (l == [98, 111, 111, 108]) = false := beq_eq_false_iff_ne.2 fun e => by subst e; exact absurd h (by decide)
  have b2 : (l == [99, 116, 117]) = false := beq_eq_false_iff_ne.2 fun e => by subst e; exact absurd h (by decide)
  have b3 : (l == [100, 111]) = false := beq_eq_false_iff_ne.2 fun e => by subst e; exact absurd h (by decide)
  have b4 : (l == [101, 108, 115, 101]) = false := beq_eq_false_iff_ne.2 fun e => by subst e; exact absurd h (by decide)
  have b5 : (l == [101, 110, 100]) = false := beq_eq_false_iff_ne.2 fun e => by subst e; exact absurd h (by decide)
  have b6 : (l == [102, 97, 108, 115, 101]) = false := beq_eq_false_iff_ne.2 fun e => by subst e; exact absurd h (by decide)
  have b7 : (l == [102, 111, 114]) = false := beq_eq_false_iff_ne.2 fun e => by subst e; exact absurd h (by decide)
  have b8 : (l == [105, 102]) = false := beq_eq_false_iff_ne.2 fun e => by subst e; exact absurd h (by decide)
  have b9 : (l == [105, 110]) = false := beq_eq_false_iff_ne.2 fun e => by subst e; exact absurd h (by decide)
  have b10 : (l == [105, 110, 116]) = false := beq_eq_false_iff_ne.2 fun e => by subst e; exact absurd h (by decide)
  have b11 : (l == [109, 111, 100]) = false := beq_eq_false_iff_ne.2 fun e => by subst e; exact absurd h (by decide)
  have b12 : (l == [110, 111, 116]) = false := beq_eq_false_iff_ne.2 fun e => by subst e; exact absurd h (by decide)
  have b13 : (l == [111, 114]) = false := beq_eq_false_iff_ne.2 fun e => by subst e; exact absurd h (by decide)
  have b14 : (l == [111, 117, 116]) = false := beq_eq_false_iff_ne.2 fun e => by subst e; exact absurd h (by decide)
  have b15 : (l == [114, 116, 114, 105, 103]) = false := beq_eq_false_iff_ne.2 fun e => by subst e; exact absurd h (by decide)
  have b16 : (l == [115, 114]) = false := beq_eq_false_iff_ne.2 fun e => by subst e; exact absurd h (by decide)
  have b17 : (l == [116, 104, 101, 110]) = false := beq_eq_false_iff_ne.2 fun e => by subst e; exact absurd h (by decide)
  have b18 : (l == [116, 111]) = false := beq_eq_false_iff_ne.2 fun e => by subst e; exact absurd h (by decide)
  have b19 : (l == [116, 111, 110]) = false := beq_eq_false_iff_ne.2 fun e => by subst e; exact absurd h (by decide)
  have b20 : (l == [116, 114, 117, 101]) = false := beq_eq_false_iff_ne.2 fun e => by subst e; exact absurd h (by decide)
  have b21 : (l == [118, 97, 114]) = false := beq_eq_false_iff_ne.2 fun e => by subst e; exact absurd h (by decide)
  have b22 : (l == [120, 111, 114]) = false := beq_eq_false_iff_ne.2 fun e => by subst e; exact absurd h (by decide)
  clear h
  go_enter Tryz.func119, Tryz.ntmps119
  go_wp2
  go_ret
  exact ⟨rfl, rfl⟩
 ·unfold isWordL at h
  obtain ⟨x, hx, hxl⟩ := List.any_eq_true.1 h
  have hxl : x = l := by simpa using hxl
  subst hxl
  clear h
  simp only [wordsL, List.mem_cons, List.not_mem_nil, or_false] at hx
  rcases hx with rfl | rfl | rfl | rfl | rfl | rfl | rfl | rfl | rfl | rfl | rfl | rfl | rfl | rfl | rfl | rfl | rfl | rfl | rfl | rfl | rfl | rfl | rfl
  all_goals
   go_enter Tryz.func119, Tryz.ntmps119
   go_wp2
   go_ret
   exact ⟨rfl, rfl⟩
set_option maxHeartbeats 800000 in
theorem iIsName_any (l : List UInt8) (w : World) (hl0 : l.length ≤ 9223372036854775807) : Calls Tryz.prog 95 #[.string (bs l)] w fun e w' => e = .returned (.bool (isNameL l)) ∧ w' = w := by
 have hw := iIsWord_any l w
 by_cases h1 : 1 ≤ l.length ∧ l.length ≤ 8
 ·have hn0 : isNameL l = (!isWordL l && l.all isLet) := by unfold isNameL; rw [decide_eq_true h1]; rfl
  obtain ⟨h1, h2⟩ := h1
  rw [hn0]
  clear hn0
  generalize isWordL l = b at hw
  cases b
  ·go_enter Tryz.func95, Tryz.ntmps95
   go_wp2_with (first | (go_at_call 119; refine hw.mono ?_; rintro e w' ⟨rfl, rfl⟩))
   clear hw
   go_loop [18] (fun i => ∃ k : Nat, k ≤ l.length ∧ i = .int .i64 k ∧ ∀ j, j < k → isLet (ch l j) = true) (fun i => l.length - (intOf i).toNat)
   case atStart => exact ⟨0, by omega, rfl, by omega⟩
   case round =>
    obtain ⟨k, hk, rfl, hno⟩ := hrel
    have HNO := hid hno
    clear hno
    by_cases hlt : k < l.length
    ·cases hc : isLetI ((ch l k).toNat : Int)
     ·go_wp2_with (first | (go_at_call 120; refine (iletter_any _ _).mono ?_; rintro e w' ⟨rfl, rfl⟩))
      go_ret
      exact ⟨retB (by rw [all_no hlt hc]; rfl), rfl⟩
     ·go_wp2_with (first | (go_at_call 120; refine (iletter_any _ _).mono ?_; rintro e w' ⟨rfl, rfl⟩))
      go_round
      case rel => exact ⟨k + 1, by omega, by go_num, fun j hj => by rcases Nat.lt_succ_iff_lt_or_eq.1 hj with h | rfl; exact HNO.out j h; exact hc⟩
      case measure => simp [intOf]; omega
    ·have hk3 : k = l.length := by omega
     subst hk3
     go_wp2
     go_ret
     exact ⟨retB (by rw [all_yes HNO.out]), rfl⟩
  ·go_enter Tryz.func95, Tryz.ntmps95
   go_wp2_with (first | (go_at_call 119; refine hw.mono ?_; rintro e w' ⟨rfl, rfl⟩))
   go_ret
   exact ⟨rfl, rfl⟩
 ·have hn0 : isNameL l = false := by unfold isNameL; rw [decide_eq_false h1]; rfl
  rw [hn0]
  clear hn0 hw
  by_cases h2 : 1 ≤ l.length
  ·have h3 : 8 < l.length := by omega
   clear h1
   go_enter Tryz.func95, Tryz.ntmps95
   go_wp2
   go_ret
   exact ⟨rfl, rfl⟩
  ·have h3 : l.length = 0 := by omega
   clear h1
   go_enter Tryz.func95, Tryz.ntmps95
   go_wp2
   go_ret
   exact ⟨rfl, rfl⟩
set_option maxHeartbeats 6400000 in
set_option maxRecDepth 100000 in
theorem namesFault_any (V : List LVar) (nv : Nat) (ad : Option Addr) (k c : Nat) (w : World) (hk : k = V.length) (hV : RowE w ad V nv) (hl : V.length ≤ 624) (hn : ∀ x ∈ V, x.name.length ≤ 1048576) (hnv : nv ≤ V.length) :
  Calls Tryz.prog 103 #[.slice ad k c] w fun e w' => e = .returned (.int .i64 (namesF V nv)) ∧ Below w.heap.size w w' := by
 subst hk
 have HV : Hid (RowE w ad V nv) := hV
 have HBN : Hid (Calls Tryz.prog 131 #[.slice ad V.length c] w fun e w' => e = .returned (.map (some w.heap.size)) ∧ w'.ownsMap Tryz.prog 9 heldR w.heap.size V.length (nameD V nv V.length) ∧ Below w.heap.size w w') := byName_any V nv ad V.length c w rfl hV hl hn
 have HNM : Hid (∀ x ∈ V, x.name.length ≤ 1048576) := hn
 obtain ⟨hsd1, hsd2⟩ := size_dup V nv
 obtain ⟨sz, hsz⟩ : ∃ sz, sz = Maps.size (nameD V nv V.length) := ⟨_, rfl⟩
 have HLEN : Hid (∀ (W : World), W.ownsMap Tryz.prog 9 heldR w.heap.size V.length (nameD V nv V.length) → (Builtin.len_ #[180] 3 #[.map (some w.heap.size)]).run Tryz.prog W = .ok (.int .i64 (sz : Int)) W) := fun W h => by rw [hsz]; exact h.len Tryz.underlying180 _
 rw [← hsz] at hsd1 hsd2
 obtain ⟨R, hR⟩ : ∃ R, R = namesF V nv := ⟨_, rfl⟩
 rw [← hR]
 have HR : Hid (R = if dupB V then 7 else if (V.drop nv).any (fun v => !isNameL v.name) then 5 else 0) := hR
 clear hV hn hR hsz
 go_enter Tryz.func103, Tryz.ntmps103
 go_wp2_with fail
 refine HBN.out.mono ?_
 rintro e w1 ⟨rfl, hm, hb⟩
 have hlen := HLEN.out w1 hm
 have HB : Hid (Below w.heap.size w w1) := hb
 clear hm hb HBN HLEN
 by_cases hd : sz < V.length
 ·have HR2 : Hid (R = 7) := by unfold Hid; rw [HR.out, hsd2.1 hd, if_pos rfl]
  clear HR hsd2
  go_wp2_with fail
  go_ret
  exact ⟨by rw [HR2.out]; rfl, HB.out⟩
 ·have hdf : dupB V = false := by cases h : dupB V with
   | false => rfl
   | true => exact absurd (hsd2.2 h) hd
  have HR2 : Hid (R = if (V.drop (max nv 0)).any (fun v => !isNameL v.name) then 5 else 0) := by unfold Hid; rw [HR.out, hdf, Nat.max_zero]; rfl
  clear HR hsd2 hdf
  go_wp2_with fail
  go_loopw [13] (fun i wr => ∃ j : Nat, j ≤ V.length ∧ i = .int .i64 j ∧ Hid (R = if (V.drop (max nv j)).any (fun v => !isNameL v.name) then 5 else 0) ∧ Hid (Below w.heap.size w wr)) (fun i _ => V.length - (intOf i).toNat)
  case atStart => exact ⟨0, by omega, rfl, HR2, HB⟩
  case round =>
   clear HR2 HB hlen
   obtain ⟨j, hj, rfl, HR, HB⟩ := hrel
   by_cases hlt : j < V.length
   ·obtain ⟨x, hx⟩ : ∃ x, V[j]? = some x := ⟨V[j]'(by omega), List.getElem?_eq_getElem _⟩
    obtain ⟨g, rfl, hc⟩ := (HV.out.below HB.out) (by intro e; rw [e] at hx; simp at hx)
    obtain ⟨⟨c0, c1, c2, c3⟩, c4, c5⟩ := hc j x hx
    have hj0 : (0 : Int) ≤ (j : Int) := by omega
    have hj1 : (j : Int) < (V.length : Int) := by omega
    have hxn := HNM.out x (List.mem_of_getElem? hx)
    have hwz := HB.out.size
    have HBX : Hid (∀ o, Below w.heap.size w (wr.alloc o)) := fun o => HB.out.alloc hwz o
    by_cases hov : nv ≤ j
    ·have HST : Hid (R = if (!isNameL x.name || (V.drop (j + 1)).any (fun v => !isNameL v.name)) then 5 else 0) := by unfold Hid; rw [HR.out, show max nv j = j by omega, any_drop_step hx]
     have hod : decide (nv ≤ j) = true := decide_eq_true hov
     rw [hod] at c4
     obtain ⟨q, hq⟩ : ∃ q, isNameL x.name = q := ⟨_, rfl⟩
     have HIN : Hid (∀ w, Calls Tryz.prog 95 #[.string (bs x.name)] w fun e w' => e = .returned (.bool q) ∧ w' = w) := fun w => by rw [← hq]; exact iIsName_any x.name w (by omega)
     rw [hq] at HST
     clear hx hc HR hq hod HB
     generalize cellsL (V.take j) = s at *
     cases q with
     | true =>
      have HR3 : Hid (R = if (V.drop (max nv (j + 1))).any (fun v => !isNameL v.name) then 5 else 0) := by unfold Hid; rw [show max nv (j + 1) = j + 1 by omega]; exact HST.out
      clear HST hov
      go_wp2_with fail
      refine (HIN.out _).mono ?_
      rintro e w8 ⟨rfl, rfl⟩
      have HB8 : Hid (Below w.heap.size w _) := HBX.out (.cells #[.string (bs x.name), .int .i64 x.kind, .int .i64 x.type, .int .i64 x.size, .bool true, .int .i64 s] 93)
      clear HIN c0 c1 c2 c3 c4 c5
      go_wp2_with fail
      go_roundw
      case rel => exact ⟨j + 1, by omega, by go_num, HR3, HB8⟩
      case measure => simp [intOf]; omega
     | false =>
      have HR3 : Hid (R = 5) := by unfold Hid; rw [HST.out]; rfl
      clear HST hov
      go_wp2_with fail
      refine (HIN.out _).mono ?_
      rintro e w8 ⟨rfl, rfl⟩
      have HB8 : Hid (Below w.heap.size w _) := HBX.out (.cells #[.string (bs x.name), .int .i64 x.kind, .int .i64 x.type, .int .i64 x.size, .bool true, .int .i64 s] 93)
      clear HIN c0 c1 c2 c3 c4 c5
      go_wp2_with fail
      go_ret
      exact ⟨by rw [HR3.out]; rfl, HB8.out⟩
    ·have HR3 : Hid (R = if (V.drop (max nv (j + 1))).any (fun v => !isNameL v.name) then 5 else 0) := by unfold Hid; rw [HR.out, show max nv (j + 1) = max nv j by omega]
     have hod : decide (nv ≤ j) = false := decide_eq_false hov
     rw [hod] at c4
     clear hx hc HR hod HB hov
     generalize cellsL (V.take j) = s at *
     have HB8 : Hid (Below w.heap.size w _) := HBX.out (.cells #[.string (bs x.name), .int .i64 x.kind, .int .i64 x.type, .int .i64 x.size, .bool false, .int .i64 s] 93)
     go_wp2_with fail
     go_roundw
     case rel => exact ⟨j + 1, by omega, by go_num, HR3, HB8⟩
     case measure => simp [intOf]; omega
   ·have hje : j = V.length := by omega
    have HR3 : Hid (R = 0) := by unfold Hid; rw [HR.out, show max nv j = V.length by omega, List.drop_length]; rfl
    clear HR hje
    go_wp2_with fail
    go_ret
    exact ⟨by rw [HR3.out]; rfl, HB.out⟩
end Go.Proofs.YteeklmgkhacbcaaGreatDoor
namespace Go.Proofs.YteeklmgkhacbcaaGreatDoor
open Go.RowKit Go.Extern.Stop Go.Stop Go.Extern
set_option linter.unusedVariables false
theorem as_nil (t : Value) (w : World) :
  Calls Tryz.prog 102 #[.nilIface, t] w fun e w' => e = .returned (.bool false) ∧ w' = w := by
 go_enter Tryz.func102, Tryz.ntmps102
 go_wp2
 go_ret
 exact ⟨rfl, rfl⟩
theorem valueOfP (t : Addr) (w : World) : (ReflectliteValue.unpack (.iface 147 (.pointer (some t)))).run Tryz.prog w
  = .ok (.agg #[.pointer (some ⟨1, 147, none⟩), .pointer (some ⟨w.heap.size, 0, none⟩), .int .u64 150]) (w.alloc (.cells #[.pointer (some t)] 147)) := by kernel_rfl
theorem typeP (a : Addr) (w : World) : (ReflectliteValue.methodAny (ReflectliteValue.valueError "reflectlite.Value.Type" 0) (fun t _ _ _ => ReflectliteType.toType t) #[.agg #[.pointer (some ⟨1, 147, none⟩), .pointer (some a), .int .u64 150]]).run Tryz.prog w
  = .ok (.iface 190 (.agg #[.pointer (some ⟨1, 147, none⟩)])) w := by kernel_rfl
theorem kindP (w : World) : ((ReflectliteType.abiMethod fun t => (fun a : Nat => Value.int IntKind.u8 (a : Int)) <$> Rtype.kind t) #[.pointer (some ⟨1, 147, none⟩)]).run Tryz.prog w = .ok (.int .u8 22) w := by kernel_rfl
theorem kindM (w : World) : ((ReflectliteType.abiMethod fun t => (fun a : Nat => Value.int IntKind.u8 (a : Int)) <$> Rtype.kind t) #[.pointer (some ⟨1, 121, none⟩)]).run Tryz.prog w = .ok (.int .u8 25) w := by kernel_rfl
theorem rlm (z : Sem Value) (f : TypeId → Addr → Nat → Nat → Sem Value) (v : Value) :
  ReflectliteValue.method z f #[v] = (do match ← ReflectliteValue.parts v with | none => z | some (t, a, fl) => f t a fl (fl % 32)) := rfl
theorem partsP (a : Addr) (w : World) : (ReflectliteValue.parts (.agg #[.pointer (some ⟨1, 147, none⟩), .pointer (some a), .int .u64 150])).run Tryz.prog w = .ok (some (147, a, 150)) w := by kernel_rfl
theorem isNilP (a p : Addr) (W : World) (ha : W.cell? a = some (.pointer (some p))) :
  (ReflectliteValue.method (ReflectliteValue.valueError "reflectlite.Value.IsNil" 0) ReflectliteValue.isNil #[.agg #[.pointer (some ⟨1, 147, none⟩), .pointer (some a), .int .u64 150]]).run Tryz.prog W = .ok (.bool false) W := by
 rw [rlm]
 simp only [Sem.run_bind, partsP, Result.andThen]
 simp [ReflectliteValue.isNil, loadVar, isAgg, underlying, Tryz.underlying147, ha, Result.andThen]
theorem elemP (w : World) : (ReflectliteType.method ReflectliteType.elem #[.agg #[.pointer (some ⟨1, 147, none⟩)]]).run Tryz.prog w = .ok (.iface 190 (.agg #[.pointer (some ⟨1, 121, none⟩)])) w := by kernel_rfl
theorem implementsM (w : World) : (ReflectliteType.relation "Implements" ReflectliteType.implements_ #[.agg #[.pointer (some ⟨1, 121, none⟩)], .iface 190 (.agg #[.pointer (some ⟨1, 125, none⟩)])]).run Tryz.prog w = .ok (.bool true) w := by kernel_rfl
theorem typeOfM (v : Value) (w : World) : (ReflectliteType.typeOf #[.iface 121 v]).run Tryz.prog w = .ok (.iface 190 (.agg #[.pointer (some ⟨1, 121, none⟩)])) w := by kernel_rfl
theorem assignableM (w : World) : (ReflectliteType.relation "AssignableTo" ReflectliteType.assignableTo #[.agg #[.pointer (some ⟨1, 121, none⟩)], .iface 190 (.agg #[.pointer (some ⟨1, 121, none⟩)])]).run Tryz.prog w = .ok (.bool true) w := by kernel_rfl
theorem valueOfM (c n : Int) (w : World) : (ReflectliteValue.unpack (.iface 121 (.agg #[.int .i64 c, .int .i64 n]))).run Tryz.prog w
  = .ok (.agg #[.pointer (some ⟨1, 121, none⟩), .pointer (some ⟨w.heap.size, 0, none⟩), .int .u64 153]) (w.alloc (.cells #[.int .i64 c, .int .i64 n] 121)) := by kernel_rfl
theorem elemOfP (w : World) : (Rtype.elem? 147).run Tryz.prog w = .ok (some 121) w := by kernel_rfl
theorem mkM (p : Addr) (w : World) : (ReflectliteValue.mk 121 p ReflectliteValue.flagAddr).run Tryz.prog w = .ok (.agg #[.pointer (some ⟨1, 121, none⟩), .pointer (some p), .int .u64 409]) w := by kernel_rfl
theorem elemVP (a p : Addr) (W : World) (ha : W.cell? a = some (.pointer (some p))) :
  (ReflectliteValue.method (ReflectliteValue.valueError "reflectlite.Value.Elem" 0) ReflectliteValue.elem #[.agg #[.pointer (some ⟨1, 147, none⟩), .pointer (some a), .int .u64 150]]).run Tryz.prog W
   = .ok (.agg #[.pointer (some ⟨1, 121, none⟩), .pointer (some p), .int .u64 409]) W := by
 rw [rlm]
 simp only [Sem.run_bind, partsP, Result.andThen]
 simp [ReflectliteValue.elem, loadVar, isAgg, underlying, Tryz.underlying147, ha, Result.andThen, elemOfP, mkM]
theorem partsMa (a : Addr) (w : World) : (ReflectliteValue.parts (.agg #[.pointer (some ⟨1, 121, none⟩), .pointer (some a), .int .u64 409])).run Tryz.prog w = .ok (some (121, a, 409)) w := by kernel_rfl
theorem partsM (a : Addr) (w : World) : (ReflectliteValue.parts (.agg #[.pointer (some ⟨1, 121, none⟩), .pointer (some a), .int .u64 153])).run Tryz.prog w = .ok (some (121, a, 153)) w := by kernel_rfl
theorem directM (w : World) : (Rtype.directlyAssignable 121 121).run Tryz.prog w = .ok true w := by kernel_rfl
theorem sizeM (w : World) : (sizeOf 121).run Tryz.prog w = .ok 2 w := by kernel_rfl
theorem methodKind (h : Value) (w : World) : (Go.method 242 190 (.agg #[h]) "Kind").run Tryz.prog w = .ok (171, h) w := by kernel_rfl
theorem methodElem (h : Value) (w : World) : (Go.method 242 190 (.agg #[h]) "Elem").run Tryz.prog w = .ok (181, .agg #[h]) w := by kernel_rfl
theorem methodImplements (h : Value) (w : World) : (Go.method 242 190 (.agg #[h]) "Implements").run Tryz.prog w = .ok (182, .agg #[h]) w := by kernel_rfl
theorem methodAssignableTo (h : Value) (w : World) : (Go.method 242 190 (.agg #[h]) "AssignableTo").run Tryz.prog w = .ok (179, .agg #[h]) w := by kernel_rfl
theorem rls (v x : Value) : ReflectliteValue.set #[v, x] = (do
  let (some (dst, a, fl), some (src, b, _)) := (← ReflectliteValue.parts v, ← ReflectliteValue.parts x)
   | unsupported (.noEntry "extern/(internal/reflectlite.Value).Set.zeroValue")
  if fl / ReflectliteValue.flagAddr % 2 == 0 then unsupported (.noEntry "extern/(internal/reflectlite.Value).Set.unaddressable")
  let val ← loadVar src b
  if ← Rtype.directlyAssignable dst src then storeVar dst a val
  else if ← Rtype.implements dst src then
   if (← Rtype.kind src) == 20 then
    match val with
    | .nilIface => unsupported (.noEntry "extern/reflectlite: a nil value of one interface type handed on as a value of another")
    | _ => storeVar dst a val
   else storeVar dst a (.iface src val)
  else panicString ("reflectlite.Set: value of type " ++ (← Rtype.spelt src) ++ " is not assignable to type " ++ (← Rtype.spelt dst))
  pure (.tuple #[])) := rfl
theorem loadM (g : Nat) (c n : Int) (W : World) (h : W.heap[g]? = some (.cells #[.int .i64 c, .int .i64 n] 121 (0, 0))) : (loadVar 121 ⟨g, 0, none⟩).run Tryz.prog W = .ok (.agg #[.int .i64 c, .int .i64 n]) W := by
 obtain ⟨c0, c1⟩ := cl2 h
 simp [loadVar, go_sem, c0, c1]
theorem storeM (g : Nat) (c n x y : Int) (W : World) (h : W.heap[g]? = some (.cells #[.int .i64 x, .int .i64 y] 121 (0, 0))) : (storeVar 121 ⟨g, 0, none⟩ (.agg #[.int .i64 c, .int .i64 n])).run Tryz.prog W = .ok () ((W.setCell ⟨g, 0, none⟩ (.int .i64 c)).setCell ⟨g, 1, none⟩ (.int .i64 n)) := by
 obtain ⟨c0, c1⟩ := cl2 h
 obtain ⟨f0, f1⟩ := fl2 h
 simp [storeVar, go_sem, c0, c1, f0, f1]
theorem heap_last2 (w : World) (o : Obj) (g : Nat) (h : w.heap.size = g) : (w.alloc o).heap[g]? = some o := by subst h; exact heap_alloc_new w o
theorem setM (tg bg : Nat) (c n x y : Int) (W : World) (hb : W.heap[bg]? = some (.cells #[.int .i64 c, .int .i64 n] 121 (0, 0))) (ht : W.heap[tg]? = some (.cells #[.int .i64 x, .int .i64 y] 121 (0, 0))) :
  (ReflectliteValue.set #[.agg #[.pointer (some ⟨1, 121, none⟩), .pointer (some ⟨tg, 0, none⟩), .int .u64 409], .agg #[.pointer (some ⟨1, 121, none⟩), .pointer (some ⟨bg, 0, none⟩), .int .u64 153]]).run Tryz.prog W
   = .ok (.tuple #[]) ((W.setCell ⟨tg, 0, none⟩ (.int .i64 c)).setCell ⟨tg, 1, none⟩ (.int .i64 n)) := by
 rw [rls]
 simp only [Sem.run_bind, partsMa, partsM, Result.andThen]
 simp [ReflectliteValue.flagAddr, loadM bg c n W hb, Result.andThen, directM, storeM tg c n x y W ht]
set_option maxHeartbeats 8000000 in
theorem as_world (c n x y : Int) (g : Nat) (w : World) (hg : w.cell? ⟨0, 0, none⟩ = some (.iface 190 (.agg #[.pointer (some ⟨1, 125, none⟩)]))) (ht : w.heap[g]? = some (.cells #[.int .i64 x, .int .i64 y] 121 (0, 0))) :
  Calls Tryz.prog 102 #[.iface 121 (.agg #[.int .i64 c, .int .i64 n]), .iface 147 (.pointer (some ⟨g, 0, none⟩))] w fun ev w' => ev = .returned (.bool true) ∧ w' = (((((w.alloc (.cells #[.pointer (some ⟨g, 0, none⟩)] 147)).alloc (.cells #[.pointer (some ⟨1, 147, none⟩), .pointer (some ⟨w.heap.size, 0, none⟩), .int .u64 150] 170)).alloc (.cells #[.pointer (some ⟨1, 147, none⟩), .pointer (some ⟨w.heap.size, 0, none⟩), .int .u64 150] 170)).alloc (.cells #[.int .i64 c, .int .i64 n] 121)).setCell ⟨g, 0, none⟩ (.int .i64 c)).setCell ⟨g, 1, none⟩ (.int .i64 n) := by
 have h6 := @run_callFunc_extern Tryz.prog 127 _ (fun args => ReflectliteValue.unpack (args.getD 0 (.tuple #[]))) Tryz.func127 (by kernel_rfl) (by kernel_rfl) (by kernel_rfl) (by kernel_rfl)
 have h7 := @run_callFunc_extern Tryz.prog 128 _ (ReflectliteValue.methodAny (ReflectliteValue.valueError "reflectlite.Value.Type" 0) (fun t _ _ _ => ReflectliteType.toType t)) Tryz.func128 (by kernel_rfl) (by kernel_rfl) (by kernel_rfl) (by kernel_rfl)
 have h8 := @run_callFunc_extern Tryz.prog 129 _ (ReflectliteValue.method (ReflectliteValue.valueError "reflectlite.Value.IsNil" 0) ReflectliteValue.isNil) Tryz.func129 (by kernel_rfl) (by kernel_rfl) (by kernel_rfl) (by kernel_rfl)
 have h27 := @run_callFunc_extern Tryz.prog 171 _ (ReflectliteType.abiMethod fun t => do pure (.int .u8 (← Rtype.kind t))) Tryz.func171 (by kernel_rfl) (by kernel_rfl) (by kernel_rfl) (by kernel_rfl)
 have h37 := @run_callFunc_extern Tryz.prog 181 _ (ReflectliteType.method ReflectliteType.elem) Tryz.func181 (by kernel_rfl) (by kernel_rfl) (by kernel_rfl) (by kernel_rfl)
 have h38 := @run_callFunc_extern Tryz.prog 182 _ (ReflectliteType.relation "Implements" ReflectliteType.implements_) Tryz.func182 (by kernel_rfl) (by kernel_rfl) (by kernel_rfl) (by kernel_rfl)
 have h10 := @run_callFunc_extern Tryz.prog 139 _ ReflectliteType.typeOf Tryz.func139 (by kernel_rfl) (by kernel_rfl) (by kernel_rfl) (by kernel_rfl)
 have h35 := @run_callFunc_extern Tryz.prog 179 _ (ReflectliteType.relation "AssignableTo" ReflectliteType.assignableTo) Tryz.func179 (by kernel_rfl) (by kernel_rfl) (by kernel_rfl) (by kernel_rfl)
 have h11 := @run_callFunc_extern Tryz.prog 140 _ (ReflectliteValue.method (ReflectliteValue.valueError "reflectlite.Value.Elem" 0) ReflectliteValue.elem) Tryz.func140 (by kernel_rfl) (by kernel_rfl) (by kernel_rfl) (by kernel_rfl)
 have h12 := @run_callFunc_extern Tryz.prog 141 _ ReflectliteValue.set Tryz.func141 (by kernel_rfl) (by kernel_rfl) (by kernel_rfl) (by kernel_rfl)
 have tO := typeOfM
 have mA := methodAssignableTo
 have a25 := assignableM
 have v25 := valueOfM
 have f6 := valueOfP
 have f7 := typeP
 have mK := methodKind
 have mE := methodElem
 have mI := methodImplements
 have k27 := kindP
 have k25 := kindM
 have e27 := elemP
 have i25 := implementsM
 have htl : g < w.heap.size := (Array.getElem?_eq_some_iff.1 ht).1
 have hlt : 0 < w.heap.size := World.block_lt_of_cell? _ _ hg
 have b1 : Below w.heap.size w (w.alloc (.cells #[.pointer (some ⟨g, 0, none⟩)] 147)) := (Below.refl _ _).alloc (Nat.le_refl _) _
 have b2 : Below w.heap.size w ((w.alloc (.cells #[.pointer (some ⟨g, 0, none⟩)] 147)).alloc (.cells #[.pointer (some ⟨1, 147, none⟩), .pointer (some ⟨w.heap.size, 0, none⟩), .int .u64 150] 170)) := b1.alloc b1.size _
 have b3 : Below w.heap.size w (((w.alloc (.cells #[.pointer (some ⟨g, 0, none⟩)] 147)).alloc (.cells #[.pointer (some ⟨1, 147, none⟩), .pointer (some ⟨w.heap.size, 0, none⟩), .int .u64 150] 170)).alloc (.cells #[.pointer (some ⟨1, 147, none⟩), .pointer (some ⟨w.heap.size, 0, none⟩), .int .u64 150] 170)) := b2.alloc b2.size _
 have b4 : Below w.heap.size w ((((w.alloc (.cells #[.pointer (some ⟨g, 0, none⟩)] 147)).alloc (.cells #[.pointer (some ⟨1, 147, none⟩), .pointer (some ⟨w.heap.size, 0, none⟩), .int .u64 150] 170)).alloc (.cells #[.pointer (some ⟨1, 147, none⟩), .pointer (some ⟨w.heap.size, 0, none⟩), .int .u64 150] 170)).alloc (.cells #[.int .i64 c, .int .i64 n] 121)) := b3.alloc b3.size _
 have n8 := isNilP ⟨w.heap.size, 0, none⟩ ⟨g, 0, none⟩ ((w.alloc (.cells #[.pointer (some ⟨g, 0, none⟩)] 147)).alloc (.cells #[.pointer (some ⟨1, 147, none⟩), .pointer (some ⟨w.heap.size, 0, none⟩), .int .u64 150] 170)) (by simp)
 have hg2 : ((w.alloc (.cells #[.pointer (some ⟨g, 0, none⟩)] 147)).alloc (.cells #[.pointer (some ⟨1, 147, none⟩), .pointer (some ⟨w.heap.size, 0, none⟩), .int .u64 150] 170)).cell? ⟨0, 0, none⟩ = some (.iface 190 (.agg #[.pointer (some ⟨1, 125, none⟩)])) := (b2.cell (p := ⟨0, 0, none⟩) hlt).trans hg
 have el := elemVP ⟨w.heap.size, 0, none⟩ ⟨g, 0, none⟩ (((w.alloc (.cells #[.pointer (some ⟨g, 0, none⟩)] 147)).alloc (.cells #[.pointer (some ⟨1, 147, none⟩), .pointer (some ⟨w.heap.size, 0, none⟩), .int .u64 150] 170)).alloc (.cells #[.pointer (some ⟨1, 147, none⟩), .pointer (some ⟨w.heap.size, 0, none⟩), .int .u64 150] 170)) (by rw [World.cell?_alloc_lt _ _ ⟨w.heap.size, 0, none⟩ (by simp; omega)]; simp)
 have st := setM g (w.heap.size + 1 + 1 + 1) c n x y ((((w.alloc (.cells #[.pointer (some ⟨g, 0, none⟩)] 147)).alloc (.cells #[.pointer (some ⟨1, 147, none⟩), .pointer (some ⟨w.heap.size, 0, none⟩), .int .u64 150] 170)).alloc (.cells #[.pointer (some ⟨1, 147, none⟩), .pointer (some ⟨w.heap.size, 0, none⟩), .int .u64 150] 170)).alloc (.cells #[.int .i64 c, .int .i64 n] 121))
  (heap_last2 _ _ _ (by simp)) ((b4.block g htl).trans ht)
 clear b1 b2 b3 b4 ht htl hlt
 go_enter Tryz.func102, Tryz.ntmps102
 go_wp2
 refine wp_loop_rounds 1 ?_
 rw [rounds_succ]
 go_wp2
 go_ret
 exact ⟨rfl, rfl⟩
end Go.Proofs.YteeklmgkhacbcaaGreatDoor
