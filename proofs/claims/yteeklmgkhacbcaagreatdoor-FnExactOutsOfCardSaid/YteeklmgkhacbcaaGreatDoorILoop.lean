/-
  (*impl.checker).loop: from a contract of statements.
-/
import Derived.Test.YteeklmgkhacbcaaGreatDoorIAsg
namespace Go.Proofs.YteeklmgkhacbcaaGreatDoor
open Go.RowKit
set_option linter.unusedVariables false
attribute [local go_sem] bs_size bs_get bs_extract bs_append bs_eq bs_toList
theorem alloc_sz (w : World) (o : Obj) : (w.alloc o).heap.size = w.heap.size + 1 := by simp
set_option maxHeartbeats 12800000 in
set_option maxRecDepth 100000 in
theorem assignment_any (lo : Nat) (W0 W : World) (cp mp B : Nat) (vn vl : Value) (T : LTree) (V : List LVar) (L : List (List UInt8)) (x : Nat) (h : CkT lo W0 cp mp vn T V) (hC : ICk W0 W cp mp vn vl) (hL : LoopO W B vl L) (hB : B = cp + 1) (hLl : L.length ≤ 1048576) (hx : x < T.nodes.length) (hk : (nodeOf T.nodes (x : Int)).kind = 7 ∨ (nodeOf T.nodes (x : Int)).kind = 8) :
  Calls Tryz.prog 142 #[.pointer (some ⟨cp, 0, none⟩), .int .i64 (x : Int)] W fun e w' => e = .returned (errV (asgF V T L (nodeOf T.nodes (x : Int)) (x : Int))) ∧ Below W.heap.size W w' := by
 have hsm := (h.small.node _ (List.mem_of_getElem? (node_get hx))).1
 have HSE : Hid (Calls Tryz.prog 147 #[.pointer (some ⟨cp, 0, none⟩), .int .i64 (x : Int)] W fun e w' => e = .returned (.tuple #[namedV V T.vars.length (nodeOf T.nodes (x : Int)) (x : Int), errV (settF V T.vars.length L (nodeOf T.nodes (x : Int)) (x : Int))]) ∧ Below W.heap.size W w') := settable_any lo W0 W cp mp B vn vl T V L x h.b hC hL hB hLl hx hsm
 have hown := (h.b.good.node x _ (node_get hx)).1
 obtain ⟨s7, s8, _⟩ := stat_kids hown
 have HH := hid h
 have HC : Hid (ICk W0 W cp mp vn vl) := hC
 have hnl := h.b.good.nodes
 obtain ⟨R, hR⟩ : ∃ R, R = asgF V T L (nodeOf T.nodes (x : Int)) (x : Int) := ⟨_, rfl⟩
 rw [← hR]
 have HR : Hid (R = if (settF V T.vars.length L (nodeOf T.nodes (x : Int)) (x : Int)).1 ≠ 0 then settF V T.vars.length L (nodeOf T.nodes (x : Int)) (x : Int)
  else argsF (mustT V T.vars.length T.nodes) (nodeOf T.nodes (x : Int)).kids (if (nodeOf T.nodes (x : Int)).kind = 8 then [1, (V.getD (varFrom (nodeOf T.nodes (x : Int)).name V 0).toNat default).type] else [(V.getD (varFrom (nodeOf T.nodes (x : Int)).name V 0).toNat default).type]) (0, 0)) := hR
 obtain ⟨y0, y1, y2, y3, y4, y5, hy⟩ := namedV_form V T.vars.length (nodeOf T.nodes (x : Int)) (x : Int)
 obtain ⟨m, hm⟩ : ∃ m, m = settF V T.vars.length L (nodeOf T.nodes (x : Int)) (x : Int) := ⟨_, rfl⟩
 have HY : Hid (m.1 = 0 → (V.getD (varFrom (nodeOf T.nodes (x : Int)).name V 0).toNat default).type = y2) := fun h0 => by
  have hn0 : (namedF V T.vars.length (nodeOf T.nodes (x : Int)) (x : Int)).1 = 0 := by
   rw [hm] at h0; unfold settF at h0
   split at h0
   ·rename_i h1; exact absurd h0 h1
   ·rename_i h1; exact Classical.byContradiction fun h2 => h1 h2
  have h := hy
  unfold namedV at h
  rw [if_pos hn0] at h
  unfold entVal at h
  injection h with h
  have h2 := congrArg Array.toList h
  simp at h2
  exact h2.2.2.1
 rw [hy, ← hm] at HSE
 rw [← hm] at HR
 have hx0 : (0 : Int) ≤ (x : Int) := by omega
 have hx1 : (x : Int) < (T.nodes.length : Int) := by omega
 clear hy hm hR h hC hL hown
 obtain ⟨m1, m2⟩ := m
 have HVB : Hid (∀ w2, Below W.heap.size W w2 → Below W.heap.size W (w2.alloc (.cells #[.string (bs y0), .int .i64 y1, .int .i64 y2, .int .i64 y3, .bool y4, .int .i64 y5] 93))) := fun w2 hb => hb.alloc hb.size _
 go_enter Tryz.func142, Tryz.ntmps142
 go_wp2_with fail
 refine HSE.out.mono ?_
 rintro e w2 ⟨rfl, hb⟩
 have HB := hid hb
 clear hb HSE
 by_cases hz : m1 = 0
 ·subst hz
  have HR2 : Hid (R = argsF (mustT V T.vars.length T.nodes) (nodeOf T.nodes (x : Int)).kids (if (nodeOf T.nodes (x : Int)).kind = 8 then [1, y2] else [y2]) (0, 0)) := by unfold Hid; rw [HR.out, if_neg (by simp), HY.out rfl]
  rw [errV_zero rfl]
  have hb3 := HVB.out w2 HB.out
  have hV3 := heap_alloc_new w2 (.cells #[.string (bs y0), .int .i64 y1, .int .i64 y2, .int .i64 y3, .bool y4, .int .i64 y5] 93)
  obtain ⟨bn, on, cn, rfl, vk, vt, ve, ⟨d0, d1, d2, d3, d4, d5, d6, d7⟩, hkd, htd, hed⟩ := HH.out.b.node (HC.out.below hb3).bel x hx
  obtain ⟨ak, ck, evk, _⟩ := id hkd
  obtain ⟨at1, ct, evt, _⟩ := id htd
  obtain ⟨ae, ce, eve, _⟩ := id hed
  subst evk; subst evt; subst eve
  have HKD := hid hkd
  have k0 : (w2.alloc (.cells #[.string (bs y0), .int .i64 y1, .int .i64 y2, .int .i64 y3, .bool y4, .int .i64 y5] 93)).cell? ⟨cp, 0, none⟩ = some (.slice (some ⟨bn, on, none⟩) T.nodes.length cn) := cell_of_row _ _ 0 _ _ _ (HC.out.below hb3).row
  have HB3 := hid hb3
  have hgz : w2.heap.size < (w2.alloc (.cells #[.string (bs y0), .int .i64 y1, .int .i64 y2, .int .i64 y3, .bool y4, .int .i64 y5] 93)).heap.size := blk_lt hV3
  have v2 : (w2.alloc (.cells #[.string (bs y0), .int .i64 y1, .int .i64 y2, .int .i64 y3, .bool y4, .int .i64 y5] 93)).cell? ⟨w2.heap.size, 2, none⟩ = some (.int .i64 y2) := cell_of_row _ _ 2 _ _ _ hV3
  clear hb3 hV3 hkd htd hed HR HY
  go_upto_region 4 with fail
  generalize w2.alloc (.cells #[.string (bs y0), .int .i64 y1, .int .i64 y2, .int .i64 y3, .bool y4, .int .i64 y5] 93) = W3 at *
  generalize w2.heap.size = gv at *
  have HMU : Hid (∀ (W' : World) (lt : Nat) (vt : Value) (ts : List Int), Below W.heap.size W W' → (nodeOf T.nodes (x : Int)).kids.length = ts.length → ts.length ≤ 3 → IntsV lt W' vt ts → Calls Tryz.prog 148 #[.pointer (some ⟨cp, 0, none⟩), .slice ak (nodeOf T.nodes (x : Int)).kids.length ck, vt] W' fun e w' => e = .returned (errV (argsF (mustT V T.vars.length T.nodes) (nodeOf T.nodes (x : Int)).kids ts (0, 0))) ∧ Below W'.heap.size W' w') := fun W' lt vt ts hb hl h3 hj => mustBe_st HH.out (HC.out.below hb) hx HKD.out hl h3 hj
  generalize argsF (mustT V T.vars.length T.nodes) (nodeOf T.nodes (x : Int)).kids = AF at *
  generalize nodeOf T.nodes (x : Int) = n at *
  have hsz := HB3.out.size
  rcases hk with hk | hk
  ·obtain ⟨y, hks⟩ := s7 hk
   have HKL : Hid (n.kids.length = 1) := by unfold Hid; rw [hks]; rfl
   have HR3 : Hid (R = AF [y2] (0, 0)) := by unfold Hid; rw [HR2.out, if_neg (by omega)]
   rw [hk] at d0
   clear hks s7 s8 hk HR2
   go_wp2_with fail
   have hb6 : Below W.heap.size W ((W3.alloc (.cells #[.int .i64 7, .int .i64 n.op, .string (bs n.name), .int .i64 n.num, .int .i64 n.far, .slice ak n.kids.length ck, .slice at1 n.thn.length ct, .slice ae n.els.length ce] 88)).alloc (.cells #[.int .i64 y2] 2)) := (HB3.out.alloc hsz _).alloc (by simp; omega) _
   have hj := ints_of_heap (ts := [y2]) (heap_alloc_new (W3.alloc (.cells #[.int .i64 7, .int .i64 n.op, .string (bs n.name), .int .i64 n.num, .int .i64 n.far, .slice ak n.kids.length ck, .slice at1 n.thn.length ct, .slice ae n.els.length ce] 88)) (.cells #[.int .i64 y2] 2))
   rw [alloc_sz] at hj
   refine (HMU.out _ 0 _ [y2] hb6 HKL.out (by simp) hj).mono ?_
   rintro e w8 ⟨rfl, hb⟩
   have HB8 : Hid (Below W.heap.size W w8) := hb6.trans (hb.mono hb6.size)
   clear hb hb6 hj HMU HB3
   go_wp2_with fail
   go_ret
   exact ⟨by rw [HR3.out]; rfl, HB8.out⟩
  ·obtain ⟨y, z, hks⟩ := s8 hk
   have HKL : Hid (n.kids.length = 2) := by unfold Hid; rw [hks]; rfl
   have HR3 : Hid (R = AF [1, y2] (0, 0)) := by unfold Hid; rw [HR2.out, if_pos hk]
   rw [hk] at d0
   clear hks s7 s8 hk HR2
   go_wp2_with fail
   have hb6 : Below W.heap.size W ((W3.alloc (.cells #[.int .i64 8, .int .i64 n.op, .string (bs n.name), .int .i64 n.num, .int .i64 n.far, .slice ak n.kids.length ck, .slice at1 n.thn.length ct, .slice ae n.els.length ce] 88)).alloc (.cells #[.int .i64 1, .int .i64 y2] 2)) := (HB3.out.alloc hsz _).alloc (by simp; omega) _
   have hj := ints_of_heap (ts := [1, y2]) (heap_alloc_new (W3.alloc (.cells #[.int .i64 8, .int .i64 n.op, .string (bs n.name), .int .i64 n.num, .int .i64 n.far, .slice ak n.kids.length ck, .slice at1 n.thn.length ct, .slice ae n.els.length ce] 88)) (.cells #[.int .i64 1, .int .i64 y2] 2))
   rw [alloc_sz] at hj
   refine (HMU.out _ 0 _ [1, y2] hb6 HKL.out (by simp) hj).mono ?_
   rintro e w8 ⟨rfl, hb⟩
   have HB8 : Hid (Below W.heap.size W w8) := hb6.trans (hb.mono hb6.size)
   clear hb hb6 hj HMU HB3
   go_wp2_with fail
   go_ret
   exact ⟨by rw [HR3.out]; rfl, HB8.out⟩
 ·have HR2 : Hid (R = (m1, m2)) := by unfold Hid; rw [HR.out, if_pos hz]
  rw [errV_met hz]
  have HRE : Hid (errV R = .iface 121 (.agg #[.int .i64 m1, .int .i64 m2])) := by unfold Hid; rw [HR2.out, errV_met hz]
  have HB3 : Hid (Below W.heap.size W (w2.alloc (.cells #[.string (bs y0), .int .i64 y1, .int .i64 y2, .int .i64 y3, .bool y4, .int .i64 y5] 93))) := HVB.out w2 HB.out
  clear HR HY HR2 hz HVB
  go_wp2_with fail
  go_ret
  exact ⟨by rw [HRE.out]; rfl, HB3.out⟩
theorem fieldB1 (a b : Value) (w : World) : (Instr.field 107 (.agg #[a, b]) 1).run Tryz.prog w = .ok b w := by kernel_rfl
set_option maxHeartbeats 12800000 in
set_option maxRecDepth 100000 in
theorem call_any (lo : Nat) (W0 W : World) (cp mp B : Nat) (vn vl : Value) (T : LTree) (V : List LVar) (L : List (List UInt8)) (x : Nat) (h : CkT lo W0 cp mp vn T V) (hC : ICk W0 W cp mp vn vl) (hL : LoopO W B vl L) (hLl : L.length ≤ 1048576) (hx : x < T.nodes.length) (hk : (nodeOf T.nodes (x : Int)).kind = 11) :
  Calls Tryz.prog 145 #[.pointer (some ⟨cp, 0, none⟩), .int .i64 (x : Int)] W fun e w' => e = .returned (errV (callF (mustT V T.vars.length T.nodes) L (nodeOf T.nodes (x : Int)) (x : Int) (0, 0))) ∧ Below W.heap.size W w' := by
 have hop := own_op (h.b.good.node x _ (node_get hx)).1 hk
 have hkl3 : (nodeOf T.nodes (x : Int)).kids.length ≤ 1048576 := (h.small.node _ (List.mem_of_getElem? (node_get hx))).2.1
 have HH := hid h
 have HC : Hid (ICk W0 W cp mp vn vl) := hC
 have hnl := h.b.good.nodes
 obtain ⟨aL, cL, evl, _⟩ := hL.form
 subst evl
 obtain ⟨bn, on, cn, rfl, vk, vt, ve, ⟨d0, d1, d2, d3, d4, d5, d6, d7⟩, hkd, htd, hed⟩ := h.b.node hC.bel x hx
 obtain ⟨ak, ck, evk, _⟩ := id hkd
 obtain ⟨at1, ct, evt, _⟩ := id htd
 obtain ⟨ae, ce, eve, _⟩ := id hed
 subst evk; subst evt; subst eve
 have HKD := hid hkd
 have k0 := cell_of_row _ _ 0 _ _ _ hC.row
 simp at k0
 have HMU : Hid (∀ (W' : World) (lt : Nat) (vt : Value) (ts : List Int), Below W.heap.size W W' → (nodeOf T.nodes (x : Int)).kids.length = ts.length → ts.length ≤ 3 → IntsV lt W' vt ts → Calls Tryz.prog 148 #[.pointer (some ⟨cp, 0, none⟩), .slice ak (nodeOf T.nodes (x : Int)).kids.length ck, vt] W' fun e w' => e = .returned (errV (argsF (mustT V T.vars.length T.nodes) (nodeOf T.nodes (x : Int)).kids ts (0, 0))) ∧ Below W'.heap.size W' w') := fun W' lt vt ts hb hl h3 hj => mustBe_st HH.out (HC.out.below hb) hx HKD.out hl h3 hj
 have HBO : Hid (∀ (w : World), Calls Tryz.prog 63 #[.int .i64 (nodeOf T.nodes (x : Int)).op] w fun e w' => (∃ v1 a c, e = .returned (.agg #[v1, .slice a (argsL (nodeOf T.nodes (x : Int)).op).length c]) ∧ IntsV w.heap.size w' (.slice a (argsL (nodeOf T.nodes (x : Int)).op).length c) (argsL (nodeOf T.nodes (x : Int)).op)) ∧ Below w.heap.size w w') := fun w => (blockOf_any _ hop.1 hop.2 w).mono fun e w' hh => by
  obtain ⟨⟨g, v2, rfl, _, _, hi⟩, hb⟩ := hh
  obtain ⟨a, c, e2, _⟩ := id hi
  subst e2
  exact ⟨⟨_, _, _, rfl, hi⟩, hb⟩
 have HR : Hid (callF (mustT V T.vars.length T.nodes) L (nodeOf T.nodes (x : Int)) (x : Int) (0, 0) = if (argsL (nodeOf T.nodes (x : Int)).op).length ≠ (nodeOf T.nodes (x : Int)).kids.length ∨ L ≠ [] then (2, (x : Int)) else argsF (mustT V T.vars.length T.nodes) (nodeOf T.nodes (x : Int)).kids (argsL (nodeOf T.nodes (x : Int)).op) (0, 0)) := by unfold Hid callF; rw [metAt_zero]
 have hal := argsL_le (nodeOf T.nodes (x : Int)).op
 obtain ⟨R, hRR⟩ : ∃ R, R = callF (mustT V T.vars.length T.nodes) L (nodeOf T.nodes (x : Int)) (x : Int) (0, 0) := ⟨_, rfl⟩
 rw [← hRR] at HR ⊢
 have hx0 : (0 : Int) ≤ (x : Int) := by omega
 have hx1 : (x : Int) < (T.nodes.length : Int) := by omega
 have HROW : Hid (∀ W', Below W.heap.size W W' → W'.cell? ⟨cp, 2, none⟩ = some (.slice aL L.length cL)) := fun W' hb => cell_of_row _ _ 2 _ _ _ (hC.below hb).row
 clear hRR hkd htd hed h hC hL hop
 generalize argsF (mustT V T.vars.length T.nodes) (nodeOf T.nodes (x : Int)).kids = AF at *
 generalize nodeOf T.nodes (x : Int) = n at *
 generalize argsL n.op = ts at *
 rw [hk] at d0
 go_enter Tryz.func145, Tryz.ntmps145
 go_wp2_with fail
 have hA := heap_alloc_new W (.cells #[.int .i64 11, .int .i64 n.op, .string (bs n.name), .int .i64 n.num, .int .i64 n.far, .slice ak n.kids.length ck, .slice at1 n.thn.length ct, .slice ae n.els.length ce] 88)
 have hb1 : Below W.heap.size W (W.alloc (.cells #[.int .i64 11, .int .i64 n.op, .string (bs n.name), .int .i64 n.num, .int .i64 n.far, .slice ak n.kids.length ck, .slice at1 n.thn.length ct, .slice ae n.els.length ce] 88)) := (Below.refl _ _).alloc (Nat.le_refl _) _
 generalize W.alloc (.cells #[.int .i64 11, .int .i64 n.op, .string (bs n.name), .int .i64 n.num, .int .i64 n.far, .slice ak n.kids.length ck, .slice at1 n.thn.length ct, .slice ae n.els.length ce] 88) = W1 at *
 refine (HBO.out _).mono ?_
 rintro e w2 ⟨⟨v1, a9, c9, rfl, hi⟩, hb⟩
 have n5 : w2.cell? ⟨W.heap.size, 5, none⟩ = some (.slice ak n.kids.length ck) := cell_of_row _ _ 5 _ _ _ (blk hA hb)
 have HB : Hid (Below W.heap.size W w2) := hb1.trans (hb.mono hb1.size)
 have HI := hid hi
 have k2 := HROW.out w2 HB.out
 have hfl : ∀ W, (Instr.field 107 (.agg #[v1, .slice a9 ts.length c9]) 1).run Tryz.prog W = .ok (.slice a9 ts.length c9) W := fun W => fieldB1 _ _ W
 clear hA hb1 hb hi HBO HROW k0 d0 d1 d2 d3 d4 d5 d6 d7
 by_cases hlen : ts.length = n.kids.length
 ·by_cases hLn : L.length = 0
  ·have HR2 : Hid (R = AF ts (0, 0)) := by unfold Hid; rw [HR.out, if_neg (by simp [hlen, List.eq_nil_of_length_eq_zero hLn])]
   have hL1 : ¬ (0 < L.length) := by omega
   have HMX : Hid (Calls Tryz.prog 148 #[.pointer (some ⟨cp, 0, none⟩), .slice ak n.kids.length ck, .slice a9 n.kids.length c9] w2 fun e w' => e = .returned (errV (AF ts (0, 0))) ∧ Below w2.heap.size w2 w') := by
    have := HMU.out w2 _ _ ts HB.out hlen.symm hal.2 HI.out
    rw [hlen] at this; exact this
   rw [hlen] at hfl ⊢
   have hk3 : n.kids.length ≤ 3 := by omega
   clear HR hLn hlen HMU HI hal
   go_wp2_with fail
   refine HMX.out.mono ?_
   rintro e w8 ⟨rfl, hb⟩
   have HB8 : Hid (Below W.heap.size W w8) := HB.out.trans (hb.mono HB.out.size)
   clear hb HMX HB
   go_wp2_with fail
   go_ret
   exact ⟨by rw [HR2.out]; rfl, HB8.out⟩
  ·have HR2 : Hid (R = (2, (x : Int))) := by unfold Hid; rw [HR.out, if_pos (Or.inr (fun e => hLn (by rw [e]; rfl)))]
   have hL1 : 0 < L.length := by omega
   rw [hlen] at hfl ⊢
   have hk3 : n.kids.length ≤ 3 := by omega
   clear HR hLn hlen HMU HI hal
   go_wp2_with fail
   go_ret
   exact ⟨by rw [HR2.out]; rfl, HB.out⟩
 ·have HR2 : Hid (R = (2, (x : Int))) := by unfold Hid; rw [HR.out, if_pos (Or.inl hlen)]
  have hle : ((n.kids.length : Int) != (ts.length : Int)) = true := bne_iff_ne.2 (by omega)
  clear HR HMU HI
  go_wp2_with fail
  go_ret
  exact ⟨by rw [HR2.out]; rfl, HB.out⟩
def IListC (lo : Nat) (W0 : World) (cp mp B : Nat) (vn : Value) (T : LTree) (V : List LVar) (f : Nat) (L : List (List UInt8)) (list : List Int) : Prop := ∀ (W : World) (vk vl : Value), ICk W0 W cp mp vn vl → LoopO W B vl L → IntsV lo W0 vk list →
 Calls Tryz.prog 105 #[.pointer (some ⟨cp, 0, none⟩), vk] W fun e w' => e = .returned (errV (goL (stmtF (mustT V T.vars.length T.nodes) T.vars T.nodes f L) list (0, 0))) ∧ ∃ vl', ICk W0 w' cp mp vn vl' ∧ LoopO w' B vl' L ∧ Duo cp vl vl' W w'
theorem orz_stmt {V : List LVar} {T : LTree} {f : Nat} {L : List (List UInt8)} (l : List Int) {st : Met} (h : Orz st) : Orz (goL (stmtF (mustT V T.vars.length T.nodes) T.vars T.nodes f L) l st) :=
 goL_orz (fun y s hs => stmt_orz (fun _ _ _ h => must_orz h) f L y s hs) l st h
set_option maxHeartbeats 12800000 in
set_option maxRecDepth 100000 in
theorem choice_any (lo : Nat) (W0 W : World) (cp mp B f : Nat) (vn vl vk vt ve : Value) (T : LTree) (V : List LVar) (L : List (List UInt8)) (x : Nat) (h : CkT lo W0 cp mp vn T V) (hC : ICk W0 W cp mp vn vl) (hL : LoopO W B vl L) (hB : B = cp + 1) (hx : x < T.nodes.length) (hk : (nodeOf T.nodes (x : Int)).kind = 9)
  (hkd : IntsV lo W0 vk (nodeOf T.nodes (x : Int)).kids) (htd : IntsV lo W0 vt (nodeOf T.nodes (x : Int)).thn) (hed : IntsV lo W0 ve (nodeOf T.nodes (x : Int)).els)
  (hT : IListC lo W0 cp mp B vn T V f L (nodeOf T.nodes (x : Int)).thn) (hE : IListC lo W0 cp mp B vn T V f L (nodeOf T.nodes (x : Int)).els) :
  Calls Tryz.prog 143 #[.pointer (some ⟨cp, 0, none⟩), nodeV (nodeOf T.nodes (x : Int)) vk vt ve] W fun e w' => e = .returned (errV (goL (stmtF (mustT V T.vars.length T.nodes) T.vars T.nodes f L) (nodeOf T.nodes (x : Int)).els (goL (stmtF (mustT V T.vars.length T.nodes) T.vars T.nodes f L) (nodeOf T.nodes (x : Int)).thn (mustT V T.vars.length T.nodes ((nodeOf T.nodes (x : Int)).kids.getD 0 0) 2 (0, 0))))) ∧ ∃ vl', ICk W0 w' cp mp vn vl' ∧ LoopO w' B vl' L ∧ Duo cp vl vl' W w' := by
 obtain ⟨_, _, s9⟩ := stat_kids (h.b.good.node x _ (node_get hx)).1
 obtain ⟨y, hy⟩ := s9 hk
 have hcl := blk_lt hC.row
 have hrl : ∀ g, vl.ownBlock = some g → B ≤ g ∧ g < W.heap.size := fun g hg => World.ownsRow.lt hL g hg
 have hgv : vl.ownBlock ≠ some W.heap.size := fun e => by have := (hrl _ e).2; omega
 have hgc : W.heap.size ≠ cp := by omega
 obtain ⟨ak, ck, evk, _⟩ := id hkd
 obtain ⟨at1, ct, evt, _⟩ := id htd
 obtain ⟨ae, ce, eve, _⟩ := id hed
 subst evk; subst evt; subst eve
 have HMU : Hid (∀ (W' : World) (lt : Nat) (vt : Value), Below W.heap.size W W' → IntsV lt W' vt [2] → Calls Tryz.prog 148 #[.pointer (some ⟨cp, 0, none⟩), .slice ak (nodeOf T.nodes (x : Int)).kids.length ck, vt] W' fun e w' => e = .returned (errV (mustT V T.vars.length T.nodes y 2 (0, 0))) ∧ Below W'.heap.size W' w') := fun W' lt vt hb hj => by
  have := mustBe_st (ts := [2]) h (hC.below hb) hx hkd (by rw [hy]; rfl) (by simp) hj
  rw [hy] at this
  rw [hy]; exact this
 have HTC : Hid (IListC lo W0 cp mp B vn T V f L (nodeOf T.nodes (x : Int)).thn ∧ IListC lo W0 cp mp B vn T V f L (nodeOf T.nodes (x : Int)).els) := ⟨hT, hE⟩
 have HTD : Hid (IntsV lo W0 (.slice at1 (nodeOf T.nodes (x : Int)).thn.length ct) (nodeOf T.nodes (x : Int)).thn ∧ IntsV lo W0 (.slice ae (nodeOf T.nodes (x : Int)).els.length ce) (nodeOf T.nodes (x : Int)).els) := ⟨htd, hed⟩
 have HCK : Hid (∀ W', Below W.heap.size W W' → ICk W0 W' cp mp vn vl ∧ LoopO W' B vl L ∧ Duo cp vl vl W W') := fun W' hb => ⟨hC.below hb, rowE_kept hL hb, hb.sole.duo _⟩
 obtain ⟨R, hR⟩ : ∃ R, R = goL (stmtF (mustT V T.vars.length T.nodes) T.vars T.nodes f L) (nodeOf T.nodes (x : Int)).els (goL (stmtF (mustT V T.vars.length T.nodes) T.vars T.nodes f L) (nodeOf T.nodes (x : Int)).thn (mustT V T.vars.length T.nodes ((nodeOf T.nodes (x : Int)).kids.getD 0 0) 2 (0, 0))) := ⟨_, rfl⟩
 rw [← hR]
 have HR : Hid (R = goL (stmtF (mustT V T.vars.length T.nodes) T.vars T.nodes f L) (nodeOf T.nodes (x : Int)).els (goL (stmtF (mustT V T.vars.length T.nodes) T.vars T.nodes f L) (nodeOf T.nodes (x : Int)).thn (mustT V T.vars.length T.nodes y 2 (0, 0)))) := by unfold Hid; rw [hR, hy]; rfl
 have HO1 : Hid (Orz (mustT V T.vars.length T.nodes y 2 (0, 0))) := must_orz (.inl rfl)
 clear hR h hC hL hkd htd hed hT hE s9 hy hrl
 obtain ⟨m, hm⟩ : ∃ m, m = mustT V T.vars.length T.nodes y 2 (0, 0) := ⟨_, rfl⟩
 rw [← hm] at HMU HR HO1
 clear hm
 generalize nodeOf T.nodes (x : Int) = n at *
 obtain ⟨m1, m2⟩ := m
 go_enter Tryz.func143, Tryz.ntmps143
 go_wp2_with fail
 have hA := heap_alloc_new W (.cells #[.int .i64 9, .int .i64 n.op, .string (bs n.name), .int .i64 n.num, .int .i64 n.far, .slice ak n.kids.length ck, .slice at1 n.thn.length ct, .slice ae n.els.length ce] 88)
 have hb1 : Below W.heap.size W (W.alloc (.cells #[.int .i64 9, .int .i64 n.op, .string (bs n.name), .int .i64 n.num, .int .i64 n.far, .slice ak n.kids.length ck, .slice at1 n.thn.length ct, .slice ae n.els.length ce] 88)) := (Below.refl _ _).alloc (Nat.le_refl _) _
 have hb2 : Below W.heap.size W ((W.alloc (.cells #[.int .i64 9, .int .i64 n.op, .string (bs n.name), .int .i64 n.num, .int .i64 n.far, .slice ak n.kids.length ck, .slice at1 n.thn.length ct, .slice ae n.els.length ce] 88)).alloc (.cells #[.int .i64 2] 2)) := hb1.alloc hb1.size _
 have hA2 := blk hA ((Below.refl _ _).alloc (Nat.le_refl (W.alloc (.cells #[.int .i64 9, .int .i64 n.op, .string (bs n.name), .int .i64 n.num, .int .i64 n.far, .slice ak n.kids.length ck, .slice at1 n.thn.length ct, .slice ae n.els.length ce] 88)).heap.size) (.cells #[.int .i64 2] 2))
 have hj : IntsV 0 ((W.alloc (.cells #[.int .i64 9, .int .i64 n.op, .string (bs n.name), .int .i64 n.num, .int .i64 n.far, .slice ak n.kids.length ck, .slice at1 n.thn.length ct, .slice ae n.els.length ce] 88)).alloc (.cells #[.int .i64 2] 2)) (.slice (some ⟨W.heap.size + 1, 0, none⟩) 1 1) [2] := by
  have := ints_of_heap (ts := [2]) (heap_alloc_new (W.alloc (.cells #[.int .i64 9, .int .i64 n.op, .string (bs n.name), .int .i64 n.num, .int .i64 n.far, .slice ak n.kids.length ck, .slice at1 n.thn.length ct, .slice ae n.els.length ce] 88)) (.cells #[.int .i64 2] 2))
  rw [alloc_sz] at this; exact this
 generalize (W.alloc (.cells #[.int .i64 9, .int .i64 n.op, .string (bs n.name), .int .i64 n.num, .int .i64 n.far, .slice ak n.kids.length ck, .slice at1 n.thn.length ct, .slice ae n.els.length ce] 88)).alloc (.cells #[.int .i64 2] 2) = W2 at *
 refine (HMU.out _ 0 _ hb2 hj).mono ?_
 rintro e w3 ⟨rfl, hb⟩
 have hA3 := blk hA2 hb
 have hb3 : Below W.heap.size W w3 := hb2.trans (hb.mono hb2.size)
 have HC3 : Hid (ICk W0 w3 cp mp vn vl ∧ LoopO w3 B vl L ∧ Duo cp vl vl W w3) := HCK.out w3 hb3
 obtain ⟨-, -, -, -, -, -, n6, n7⟩ := cl8 hA3
 have hz3 : W.heap.size < w3.heap.size := blk_lt hA3
 have N7 : Hid (w3.cell? ⟨W.heap.size, 7, none⟩ = some (.slice ae n.els.length ce)) := n7
 clear hA hb1 hb2 hA2 hj hb hA3 hb3 HMU HCK n7
 by_cases hz : m1 = 0
 ·subst hz
  have hm0 : ((0 : Int), m2) = (0, 0) := (HO1.out).resolve_right (fun h => h rfl)
  rw [hm0] at HR
  rw [errV_zero rfl]
  obtain ⟨r, hr⟩ : ∃ r, r = goL (stmtF (mustT V T.vars.length T.nodes) T.vars T.nodes f L) n.thn (0, 0) := ⟨_, rfl⟩
  have HO2 : Hid (Orz r) := by unfold Hid; rw [hr]; exact orz_stmt n.thn (.inl rfl)
  have HT1 : Hid (Calls Tryz.prog 105 #[.pointer (some ⟨cp, 0, none⟩), .slice at1 n.thn.length ct] w3 fun e w' => e = .returned (errV r) ∧ ∃ vl', ICk W0 w' cp mp vn vl' ∧ LoopO w' B vl' L ∧ Duo cp vl vl' w3 w') := by rw [hr]; exact HTC.out.1 w3 _ vl HC3.out.1 HC3.out.2.1 HTD.out.1
  rw [← hr] at HR
  clear hr hm0 HO1
  obtain ⟨r1, r2⟩ := r
  go_wp2_with fail
  refine HT1.out.mono ?_
  rintro e w4 ⟨rfl, vl4, hc4, hl4, hd4⟩
  have n7 : w4.cell? ⟨W.heap.size, 7, none⟩ = some (.slice ae n.els.length ce) := hd4.cell (p := ⟨W.heap.size, 7, none⟩) hgc hgv N7.out
  have HC4 : Hid (ICk W0 w4 cp mp vn vl4 ∧ LoopO w4 B vl4 L ∧ Duo cp vl vl4 W w4) := ⟨hc4, hl4, HC3.out.2.2.trans hd4⟩
  clear hc4 hl4 hd4 HC3 HT1 n6 N7
  by_cases hz4 : r1 = 0
  ·subst hz4
   have hr0 : ((0 : Int), r2) = (0, 0) := (HO2.out).resolve_right (fun h => h rfl)
   rw [hr0] at HR
   rw [errV_zero rfl]
   have HE1 : Hid (Calls Tryz.prog 105 #[.pointer (some ⟨cp, 0, none⟩), .slice ae n.els.length ce] w4 fun e w' => e = .returned (errV R) ∧ ∃ vl', ICk W0 w' cp mp vn vl' ∧ LoopO w' B vl' L ∧ Duo cp vl4 vl' w4 w') := by unfold Hid; rw [HR.out]; exact HTC.out.2 w4 _ vl4 HC4.out.1 HC4.out.2.1 HTD.out.2
   clear HR hr0 HO2 HTC HTD
   go_wp2_with fail
   refine HE1.out.mono ?_
   rintro e w5 ⟨rfl, vl5, hc5, hl5, hd5⟩
   have HC5 : Hid (ICk W0 w5 cp mp vn vl5 ∧ LoopO w5 B vl5 L ∧ Duo cp vl vl5 W w5) := ⟨hc5, hl5, HC4.out.2.2.trans hd5⟩
   clear hc5 hl5 hd5 HC4 HE1 n7
   go_wp2_with fail
   go_ret
   exact ⟨rfl, vl5, HC5.out⟩
  ·have HRE : Hid (errV R = .iface 121 (.agg #[.int .i64 r1, .int .i64 r2])) := by unfold Hid; rw [HR.out, goL_met hz4, errV_met hz4]
   rw [errV_met hz4]
   clear HR HO2 HTC HTD hz4
   go_wp2_with fail
   go_ret
   exact ⟨by rw [HRE.out]; rfl, vl4, HC4.out⟩
 ·have HRE : Hid (errV R = .iface 121 (.agg #[.int .i64 m1, .int .i64 m2])) := by unfold Hid; rw [HR.out, goL_met (l := n.thn) (show ((m1, m2) : Met).1 ≠ 0 from hz), goL_met hz, errV_met hz]
  rw [errV_met hz]
  clear HR HO1 HTC HTD hz
  go_wp2_with fail
  go_ret
  exact ⟨by rw [HRE.out]; rfl, vl, HC3.out⟩
theorem ICk.store {W0 W1 : World} {cp mp : Nat} {vn vl vl' : Value} (hb : Below W0.heap.size W0 W1) (hl : W0.heap.size ≤ cp) (h : W1.heap[cp]? = some (.cells #[vn, .map (some mp), vl] 183 (0, 0))) : ICk W0 (W1.setCell ⟨cp, 2, none⟩ vl') cp mp vn vl' := by
 refine ⟨hb.setCell (by simp; omega) _, ?_⟩
 rw [heap_setCell_same _ _ _ _ _ _ h]; rfl
theorem i_push {W0 w6 Wa w1 : World} {cp mp B gg cap H : Nat} {vn vl : Value} {L : List (List UInt8)} {nm : List UInt8} (hC : ICk W0 w6 cp mp vn vl) (hL : LoopO w6 B vl L) (hB : B = cp + 1) (hlow : W0.heap.size ≤ cp)
  (hb : Below w6.heap.size w6 Wa) (hgrow : Wa.grownBy w1 vl.ownBlock) (hown : w1.ownsRow B 9 1 (.slice (some ⟨gg, 0, none⟩) (L.length + 1) cap) (L.length + 1) (namC L ++ [.string (bs nm)])) (hat : vl.ownBlock = some gg ∨ gg = H) (hH : w6.heap.size ≤ H) :
  ICk W0 (w1.setCell ⟨cp, 2, none⟩ (.slice (some ⟨gg, 0, none⟩) (L.length + 1) cap)) cp mp vn (.slice (some ⟨gg, 0, none⟩) (L.length + 1) cap) ∧ LoopO (w1.setCell ⟨cp, 2, none⟩ (.slice (some ⟨gg, 0, none⟩) (L.length + 1) cap)) B (.slice (some ⟨gg, 0, none⟩) (L.length + 1) cap) (L ++ [nm]) ∧ Duo cp vl (.slice (some ⟨gg, 0, none⟩) (L.length + 1) cap) w6 (w1.setCell ⟨cp, 2, none⟩ (.slice (some ⟨gg, 0, none⟩) (L.length + 1) cap)) := by
 have hrl : ∀ g, vl.ownBlock = some g → B ≤ g ∧ g < w6.heap.size := fun g hg => World.ownsRow.lt hL g hg
 have hkl := blk_lt hC.row
 have hz := hb.size
 have hz0 := hC.bel.size
 have hr : w1.heap[cp]? = some (.cells #[vn, .map (some mp), vl] 183 (0, 0)) := by
  rw [hgrow.block cp (by omega) (fun e => by have := (hrl _ e.symm).1; omega)]; exact blk hC.row hb
 have hb1 : Below W0.heap.size W0 w1 := (hC.bel.trans (hb.mono hz0)).grown hgrow (by omega) (fun g hg => by have := (hrl _ hg).1; omega)
 have hb6 : Below 0 w6 w1 := (hb.mono (Nat.zero_le _)).grown hgrow (Nat.zero_le _) (fun g hg => Nat.zero_le _)
 have hgg : B ≤ gg := by
  rcases hat with h | h
  ·exact (hrl _ h).1
  ·omega
 refine ⟨ICk.store hb1 hlow hr, ?_, ⟨hb6.setCell (by simp) _, fun b hb2 hk hv => ?_, fun g hg => ?_⟩⟩
 ·have e : (L ++ [nm]).length = L.length + 1 := by simp
  unfold LoopO
  rw [e, namC_snoc]
  refine rowE_same hown fun g hg hl => ?_
  exact Below.heap_setCell _ _ _ _ (by simp; omega)
 ·rw [Below.heap_setCell _ _ _ _ (by simpa using hk)]
  rw [hgrow.block b (by omega) (fun e => hv e.symm), hb.block b hb2]
 ·have : gg = g := by simpa [Value.ownBlock] using hg
  subst this
  rcases hat with h | h
  ·exact .inl h
  ·exact .inr (by omega)
theorem i_pop {W0 w8 : World} {cp mp B gg cap : Nat} {vn : Value} {L : List (List UInt8)} {nm : List UInt8} (hC : ICk W0 w8 cp mp vn (.slice (some ⟨gg, 0, none⟩) (L.length + 1) cap)) (hL : LoopO w8 B (.slice (some ⟨gg, 0, none⟩) (L.length + 1) cap) (L ++ [nm])) (hB : B = cp + 1) (hlow : W0.heap.size ≤ cp) :
  ICk W0 (w8.drew.setCell ⟨cp, 2, none⟩ (.slice (some ⟨gg, 0, none⟩) L.length cap)) cp mp vn (.slice (some ⟨gg, 0, none⟩) L.length cap) ∧ LoopO (w8.drew.setCell ⟨cp, 2, none⟩ (.slice (some ⟨gg, 0, none⟩) L.length cap)) B (.slice (some ⟨gg, 0, none⟩) L.length cap) L ∧ Duo cp (.slice (some ⟨gg, 0, none⟩) (L.length + 1) cap) (.slice (some ⟨gg, 0, none⟩) L.length cap) w8 (w8.drew.setCell ⟨cp, 2, none⟩ (.slice (some ⟨gg, 0, none⟩) L.length cap)) := by
 refine ⟨ICk.store hC.bel.drew hlow hC.row, ?_, ⟨((Below.refl _ _).drew).setCell (by simp) _, fun b hb2 hk hv => ?_, fun g hg => .inl hg⟩⟩
 ·refine rowE_same (LoopO.pop hL) fun g hg hl => ?_
  exact Below.heap_setCell _ _ _ _ (by simp; omega)
 ·rw [Below.heap_setCell _ _ _ _ (by simpa using hk)]; rfl
theorem loop_for {T : LTree} {K : Int} {L : List (List UInt8)} {n : LNode} {x : Int} (hk : n.kind = 10) :
  ((settF (allL K T) T.vars.length L n x).1 ≠ 0 → forF T.vars L n x (0, 0) = settF (allL K T) T.vars.length L n x) ∧
  ((settF (allL K T) T.vars.length L n x).1 = 0 → forF T.vars L n x (0, 0) = if ((allL K T).getD (varFrom n.name (allL K T) 0).toNat default).type ≠ 1 then (8, x) else if 1000 < n.num ∨ 1000 < n.far then (3, x) else (0, 0)) := by
 obtain ⟨h1, h2⟩ := sett_target (T := T) (K := K) (L := L) (n := n) (x := x) (row := false) (by simp [hk]) (.inr (.inr hk))
 refine ⟨fun hz => ?_, fun hz => ?_⟩
 ·have hA : forA T.vars L n x (0, 0) = settF (allL K T) T.vars.length L n x := by unfold forA; rw [h1, if_neg (fun h => hz h.1)]
  unfold forF
  rw [hA]
  split
  ·exact metAt_met hz _ _
  ·rfl
 ·have hz2 : settF (allL K T) T.vars.length L n x = (0, 0) := by
   rw [← h1]; exact (target_orz (.inl rfl)).resolve_right (fun h => h (by rw [h1]; exact hz))
  by_cases ht : ((allL K T).getD (varFrom n.name (allL K T) 0).toNat default).type = 1
  ·have hA : forA T.vars L n x (0, 0) = (0, 0) := by unfold forA; rw [h1, h2 hz, hz2, if_neg (fun h => h.2 ht)]
   have ht2 : ¬ (((allL K T).getD (varFrom n.name (allL K T) 0).toNat default).type ≠ 1) := fun h => h ht
   unfold forF
   rw [hA, metAt_zero, if_neg ht2]
  ·have hA : forA T.vars L n x (0, 0) = (8, x) := by unfold forA; rw [h1, h2 hz, hz2, if_pos ⟨rfl, ht⟩, metAt_zero]
   unfold forF
   rw [hA, if_pos ht]
   split
   ·exact metAt_met (show ((8 : Int), x).1 ≠ 0 from by simp) _ _
   ·rfl
set_option maxHeartbeats 12800000 in
set_option maxRecDepth 100000 in
theorem loop_any (lo : Nat) (W0 W : World) (cp mp B f : Nat) (K : Int) (vn vl : Value) (T : LTree) (L : List (List UInt8)) (x : Nat) (h : CkT lo W0 cp mp vn T (allL K T)) (hC : ICk W0 W cp mp vn vl) (hL : LoopO W B vl L) (hB : B = cp + 1) (hLl : L.length ≤ 1000) (hx : x < T.nodes.length) (hk : (nodeOf T.nodes (x : Int)).kind = 10)
  (hT : IListC lo W0 cp mp B vn T (allL K T) f (L ++ [(nodeOf T.nodes (x : Int)).name]) (nodeOf T.nodes (x : Int)).thn) :
  Calls Tryz.prog 144 #[.pointer (some ⟨cp, 0, none⟩), .int .i64 (x : Int)] W fun e w' => e = .returned (errV (goL (stmtF (mustT (allL K T) T.vars.length T.nodes) T.vars T.nodes f (L ++ [(nodeOf T.nodes (x : Int)).name])) (nodeOf T.nodes (x : Int)).thn (forF T.vars L (nodeOf T.nodes (x : Int)) (x : Int) (0, 0)))) ∧ ∃ vl', ICk W0 w' cp mp vn vl' ∧ LoopO w' B vl' L ∧ Duo cp vl vl' W w' := by
 obtain ⟨i0, hi, hz0, hz1, hz2⟩ := info_parts infoS
 have hsm := (h.small.node _ (List.mem_of_getElem? (node_get hx))).1
 have HSE : Hid (Calls Tryz.prog 147 #[.pointer (some ⟨cp, 0, none⟩), .int .i64 (x : Int)] W fun e w' => e = .returned (.tuple #[namedV (allL K T) T.vars.length (nodeOf T.nodes (x : Int)) (x : Int), errV (settF (allL K T) T.vars.length L (nodeOf T.nodes (x : Int)) (x : Int))]) ∧ Below W.heap.size W w') := settable_any lo W0 W cp mp B vn vl T (allL K T) L x h.b hC hL hB (by omega) hx hsm
 obtain ⟨hlf1, hlf2⟩ := loop_for (T := T) (K := K) (L := L) (n := nodeOf T.nodes (x : Int)) (x := (x : Int)) hk
 have HB0 : Hid (CkB lo W0 cp mp vn T (allL K T)) := h.b
 have HLC := hid hT
 have hnl := h.b.good.nodes
 have hlow := h.b.low
 have hcl := blk_lt hC.row
 obtain ⟨R, hR⟩ : ∃ R, R = goL (stmtF (mustT (allL K T) T.vars.length T.nodes) T.vars T.nodes f (L ++ [(nodeOf T.nodes (x : Int)).name])) (nodeOf T.nodes (x : Int)).thn (forF T.vars L (nodeOf T.nodes (x : Int)) (x : Int) (0, 0)) := ⟨_, rfl⟩
 rw [← hR]
 have HR := hid hR
 obtain ⟨y0, y1, y2, y3, y4, y5, hy⟩ := namedV_form (allL K T) T.vars.length (nodeOf T.nodes (x : Int)) (x : Int)
 obtain ⟨m, hm⟩ : ∃ m, m = settF (allL K T) T.vars.length L (nodeOf T.nodes (x : Int)) (x : Int) := ⟨_, rfl⟩
 have HY : Hid (m.1 = 0 → ((allL K T).getD (varFrom (nodeOf T.nodes (x : Int)).name (allL K T) 0).toNat default).type = y2 ∧ y0 = (nodeOf T.nodes (x : Int)).name) := fun h0 => by
  have hn0 : (namedF (allL K T) T.vars.length (nodeOf T.nodes (x : Int)) (x : Int)).1 = 0 := by
   rw [hm] at h0; unfold settF at h0
   split at h0
   ·rename_i h1; exact absurd h0 h1
   ·rename_i h1; exact Classical.byContradiction fun h2 => h1 h2
  have h := hy
  unfold namedV at h
  rw [if_pos hn0] at h
  unfold entVal at h
  injection h with h
  have h2 := congrArg Array.toList h
  simp at h2
  refine ⟨h2.2.2.1, ?_⟩
  have hv0 : 0 ≤ varFrom (nodeOf T.nodes (x : Int)).name (allL K T) 0 := by
   unfold namedF at hn0
   split at hn0
   ·simp at hn0
   ·rename_i h1; omega
  have h3 := varFrom_name hv0
  rw [Nat.sub_zero] at h3
  rw [← bs_inj h2.1]; exact h3
 rw [hy, ← hm] at HSE
 rw [← hm] at hlf1 hlf2
 have HFO : Hid ((m.1 ≠ 0 → forF T.vars L (nodeOf T.nodes (x : Int)) (x : Int) (0, 0) = m) ∧ (m.1 = 0 → forF T.vars L (nodeOf T.nodes (x : Int)) (x : Int) (0, 0) = if ((allL K T).getD (varFrom (nodeOf T.nodes (x : Int)).name (allL K T) 0).toNat default).type ≠ 1 then (8, (x : Int)) else if 1000 < (nodeOf T.nodes (x : Int)).num ∨ 1000 < (nodeOf T.nodes (x : Int)).far then (3, (x : Int)) else (0, 0))) := ⟨hlf1, hlf2⟩
 have HCK : Hid (∀ W', Below W.heap.size W W' → ICk W0 W' cp mp vn vl ∧ LoopO W' B vl L ∧ Duo cp vl vl W W') := fun W' hb => ⟨hC.below hb, rowE_kept hL hb, hb.sole.duo _⟩
 obtain ⟨aL, cL, evl, _⟩ := hL.form
 subst evl
 have hx0 : (0 : Int) ≤ (x : Int) := by omega
 have hx1 : (x : Int) < (T.nodes.length : Int) := by omega
 clear hy hm hR h hC hL hT hlf1 hlf2
 obtain ⟨m1, m2⟩ := m
 go_enter Tryz.func144, Tryz.ntmps144
 go_wp2_with fail
 refine HSE.out.mono ?_
 rintro e w2 ⟨rfl, hb⟩
 have HB := hid hb
 clear hb HSE
 by_cases hz : m1 = 0
 ·subst hz
  obtain ⟨hY1, hY2⟩ := HY.out rfl
  subst hY2
  have HF2 : Hid (forF T.vars L (nodeOf T.nodes (x : Int)) (x : Int) (0, 0) = if y2 ≠ 1 then (8, (x : Int)) else if 1000 < (nodeOf T.nodes (x : Int)).num ∨ 1000 < (nodeOf T.nodes (x : Int)).far then (3, (x : Int)) else (0, 0)) := by unfold Hid; rw [HFO.out.2 rfl, hY1]
  rw [errV_zero rfl]
  obtain ⟨n, hn⟩ : ∃ n, n = nodeOf T.nodes (x : Int) := ⟨_, rfl⟩
  have hb3 : Below W.heap.size W (w2.alloc (.cells #[.string (bs (nodeOf T.nodes (x : Int)).name), .int .i64 y1, .int .i64 y2, .int .i64 y3, .bool y4, .int .i64 y5] 93)) := HB.out.alloc HB.out.size _
  have hV3 := heap_alloc_new w2 (.cells #[.string (bs (nodeOf T.nodes (x : Int)).name), .int .i64 y1, .int .i64 y2, .int .i64 y3, .bool y4, .int .i64 y5] 93)
  have hck3 := HCK.out _ hb3
  obtain ⟨bn, on, cn, rfl, vk, vt, ve, hnc, hkd, htd, hed⟩ := HB0.out.node hck3.1.bel x hx
  obtain ⟨ak, ck, evk, _⟩ := id hkd
  obtain ⟨at1, ct, evt, _⟩ := id htd
  obtain ⟨ae, ce, eve, _⟩ := id hed
  subst evk; subst evt; subst eve
  have HTD := hid htd
  have k0 := cell_of_row _ _ 0 _ _ _ hck3.1.row
  simp only [List.getElem?_toArray] at k0
  rw [← hn] at hnc HTD HF2 HR HLC hb3 hV3 hck3 k0 hk ⊢
  obtain ⟨d0, d1, d2, d3, d4, d5, d6, d7⟩ := hnc
  have HCK3 := hid hck3
  have HV3 := hid hV3
  have hwz2 := HB.out.size
  clear hck3 hkd htd hed hY1 HY HFO HCK HB HB0 hb3 hn hV3
  go_upto_region 4 with fail
  generalize w2.alloc (.cells #[.string (bs n.name), .int .i64 y1, .int .i64 y2, .int .i64 y3, .bool y4, .int .i64 y5] 93) = W3 at *
  generalize w2.heap.size = gv at *
  have hW3z := HCK3.out.2.2.bel.size
  have hb4 : ∀ o, Below W3.heap.size W3 (W3.alloc o) := fun o => (Below.refl _ _).alloc (Nat.le_refl _) _
  have HC4 : Hid (ICk W0 (W3.alloc (.cells #[.int .i64 10, .int .i64 n.op, .string (bs n.name), .int .i64 n.num, .int .i64 n.far, .slice ak n.kids.length ck, .slice at1 n.thn.length ct, .slice ae n.els.length ce] 88)) cp mp (.slice (some ⟨bn, on, none⟩) T.nodes.length cn) (.slice aL L.length cL) ∧ LoopO (W3.alloc (.cells #[.int .i64 10, .int .i64 n.op, .string (bs n.name), .int .i64 n.num, .int .i64 n.far, .slice ak n.kids.length ck, .slice at1 n.thn.length ct, .slice ae n.els.length ce] 88)) B (.slice aL L.length cL) L ∧ Duo cp (.slice aL L.length cL) (.slice aL L.length cL) W (W3.alloc (.cells #[.int .i64 10, .int .i64 n.op, .string (bs n.name), .int .i64 n.num, .int .i64 n.far, .slice ak n.kids.length ck, .slice at1 n.thn.length ct, .slice ae n.els.length ce] 88))) := ⟨HCK3.out.1.below (hb4 _), rowE_kept HCK3.out.2.1 (hb4 _), HCK3.out.2.2.trans ((hb4 _).sole.duo _)⟩
  have HN4 : Hid ((W3.alloc (.cells #[.int .i64 10, .int .i64 n.op, .string (bs n.name), .int .i64 n.num, .int .i64 n.far, .slice ak n.kids.length ck, .slice at1 n.thn.length ct, .slice ae n.els.length ce] 88)).heap[W3.heap.size]? = some (.cells #[.int .i64 10, .int .i64 n.op, .string (bs n.name), .int .i64 n.num, .int .i64 n.far, .slice ak n.kids.length ck, .slice at1 n.thn.length ct, .slice ae n.els.length ce] 88 (0, 0))) := heap_alloc_new W3 _
  have HV4 : Hid ((W3.alloc (.cells #[.int .i64 10, .int .i64 n.op, .string (bs n.name), .int .i64 n.num, .int .i64 n.far, .slice ak n.kids.length ck, .slice at1 n.thn.length ct, .slice ae n.els.length ce] 88)).heap[gv]? = some (.cells #[.string (bs n.name), .int .i64 y1, .int .i64 y2, .int .i64 y3, .bool y4, .int .i64 y5] 93 (0, 0))) := blk HV3.out (hb4 _)
  have hgn : W3.heap.size ≠ cp := by have := blk_lt HCK3.out.1.row; omega
  have hgo : (Value.slice aL L.length cL).ownBlock ≠ some W3.heap.size := fun e => by have := (World.ownsRow.lt HCK3.out.2.1 _ e).2; omega
  rw [hk] at d0
  have v2 : W3.cell? ⟨gv, 2, none⟩ = some (.int .i64 y2) := cell_of_row _ _ 2 _ _ _ HV3.out
  have hgv3 : gv < W3.heap.size := blk_lt HV3.out
  clear hb4 HCK3 HV3
  go_upto_region 5 with fail
  generalize W3.alloc (.cells #[.int .i64 10, .int .i64 n.op, .string (bs n.name), .int .i64 n.num, .int .i64 n.far, .slice ak n.kids.length ck, .slice at1 n.thn.length ct, .slice ae n.els.length ce] 88) = W4 at *
  generalize W3.heap.size = gn at *
  clear v2 d0 d1 d2 d3 d4 d5 d6 d7 k0
  have v2 : W4.cell? ⟨gv, 2, none⟩ = some (.int .i64 y2) := cell_of_row _ _ 2 _ _ _ HV4.out
  obtain ⟨-, -, -, n3, n4⟩ := cl5 HN4.out
  by_cases hy2 : y2 = 1
  ·subst hy2
   have HF3 : Hid (forF T.vars L n (x : Int) (0, 0) = if 1000 < n.num ∨ 1000 < n.far then (3, (x : Int)) else (0, 0)) := by unfold Hid; rw [HF2.out, if_neg (fun h => h rfl)]
   clear HF2
   by_cases hnum : 1000 < n.num
   ·have hb1 : decide ((1000 : Int) < n.num) = true := decide_eq_true hnum
    have HRE : Hid (R = (3, (x : Int))) := by unfold Hid; rw [HR.out, HF3.out, if_pos (Or.inl hnum), goL_met (show ((3 : Int), (x : Int)).1 ≠ 0 from by simp)]
    clear hnum HR HF3 HLC
    go_wp2_with fail
    go_ret
    exact ⟨by rw [HRE.out]; rfl, _, HC4.out⟩
   ·have hb1 : decide ((1000 : Int) < n.num) = false := decide_eq_false hnum
    by_cases hfar : 1000 < n.far
    ·have hb2 : decide ((1000 : Int) < n.far) = true := decide_eq_true hfar
     have HRE : Hid (R = (3, (x : Int))) := by unfold Hid; rw [HR.out, HF3.out, if_pos (Or.inr hfar), goL_met (show ((3 : Int), (x : Int)).1 ≠ 0 from by simp)]
     clear hnum hfar HR HF3 HLC
     go_wp2_with fail
     go_ret
     exact ⟨by rw [HRE.out]; rfl, _, HC4.out⟩
    ·have hb2 : decide ((1000 : Int) < n.far) = false := decide_eq_false hfar
     have HRE : Hid (R = goL (stmtF (mustT (allL K T) T.vars.length T.nodes) T.vars T.nodes f (L ++ [n.name])) n.thn (0, 0)) := by unfold Hid; rw [HR.out, HF3.out, if_neg (fun h => h.elim hnum hfar)]
     clear hnum hfar HR HF3
     have hown := HC4.out.2.1
     have hrl6 : ∀ g, (Value.slice aL L.length cL).ownBlock = some g → B ≤ g ∧ g < W4.heap.size := fun g hg => World.ownsRow.lt hown g hg
     have q1 : W4.cell? ⟨cp, 2, none⟩ = some (.slice aL L.length cL) := cell_of_row _ _ 2 _ _ _ HC4.out.1.row
     have fq : W4.frozen? ⟨cp, 2, none⟩ = false := frozen_of_row _ _ 2 _ _ HC4.out.1.row
     have v0 : W4.cell? ⟨gv, 0, none⟩ = some (.string (bs n.name)) := cell_of_row _ _ 0 _ _ _ HV4.out
     have hgw : cp < W4.heap.size := blk_lt HC4.out.1.row
     have hgvw : gv < W4.heap.size := blk_lt HV4.out
     have hgnw : gn < W4.heap.size := blk_lt HN4.out
     have ag : (Value.slice aL L.length cL).ownBlock ≠ some cp := fun e => by have := (hrl6 _ e).1; omega
     have h63 : L.length + 1 ≤ maxLen := by unfold maxLen; omega
     have hbb : (L.length + 1) * 16 ≤ 140737488355328 := by omega
     have hbase : B ≤ W4.heap.size := by omega
     go_wp2_with fail
     clear v2 n3 n4
     go_region_law ((refine step_append_lies _ (by rfl) _ _ _ (by rfl) B 9 i0 _ 1 16 Tryz.underlying110 hi hz0 hz1 hz2 rfl (by omega) (.slice aL L.length cL) L.length (namC L) (by rfl) ((hown.alloc _).drew) ⟨W4.heap.size, 0, none⟩ 1 1 [.string (bs n.name)] (by rfl) (by rfl) (World.news_of_block (cs := #[.string (bs n.name)]) (t := 9) (fr := (0, 0)) (heap_alloc_new W4 _)) (by simp [Value.oneCell']) (by omega) h63 hbb (by simp; omega) (W4.heap.size + 1) (by simp) ?_; intro gg cap w1 hown1 hgrow hat hlt1; have q9 : w1.cell? ⟨cp, 2, none⟩ = some (.slice aL L.length cL) := (hgrow.cell_far ⟨cp, 2, none⟩ (by simp; omega) (Ne.symm ag)).trans ((World.cell?_of_block (a := ⟨cp, 2, none⟩) (Below.heap_alloc W4 _ cp hgw)).trans q1); have f9 : w1.frozen? ⟨cp, 2, none⟩ = false := (hgrow.frozen_far ⟨cp, 2, none⟩ (by simp; omega) (Ne.symm ag)).trans ((World.frozen?_of_block (a := ⟨cp, 2, none⟩) (Below.heap_alloc W4 _ cp hgw)).trans fq); have hgw1 : cp < w1.heap.size := World.block_lt_of_cell? _ _ q9))
     all_goals
      have h7 := i_push (nm := n.name) HC4.out.1 HC4.out.2.1 hB hlow (((Below.refl W4.heap.size W4).alloc (Nat.le_refl _) _).drew) hgrow hown1 hat (by omega)
      have H7 : Hid _ := h7
      have n6 : (w1.setCell ⟨cp, 2, none⟩ (.slice (some ⟨gg, 0, none⟩) (L.length + 1) cap)).cell? ⟨gn, 6, none⟩ = some (.slice at1 n.thn.length ct) := h7.2.2.cell (p := ⟨gn, 6, none⟩) hgn hgo (cell_of_row _ _ 6 _ _ _ HN4.out)
      clear hown1 hgrow hat hlt1 q9 f9 hgw1 hown hrl6 q1 fq v0 ag h7
      generalize hW7 : w1.setCell ⟨cp, 2, none⟩ (.slice (some ⟨gg, 0, none⟩) (L.length + 1) cap) = W7 at *
      clear hW7
      go_wp2_with fail
      refine (HLC.out _ _ _ H7.out.1 H7.out.2.1 HTD.out).mono ?_
      rintro e w8 ⟨rfl, vl8, hc8, hl8, hd8⟩
      obtain ⟨a8, c8, ev8, h8⟩ := hl8.form
      obtain ⟨g8, ea8, _⟩ := h8 (by simp)
      subst ev8; subst ea8
      have el8 : (L ++ [n.name]).length = L.length + 1 := by simp
      rw [el8] at hc8 hl8 hd8
      have h9 := i_pop hc8 hl8 hB hlow
      have H9 : Hid _ := h9
      have HD9 : Hid (Duo cp (.slice aL L.length cL) (.slice (some ⟨g8, 0, none⟩) L.length c8) W (w8.drew.setCell ⟨cp, 2, none⟩ (.slice (some ⟨g8, 0, none⟩) L.length c8))) := ((HC4.out.2.2.trans H7.out.2.2).trans hd8).trans h9.2.2
      have hc8c : L.length + 1 ≤ c8 := hl8.cap.2
      have k2 : w8.cell? ⟨cp, 2, none⟩ = some (.slice (some ⟨g8, 0, none⟩) (L.length + 1) c8) := cell_of_row _ _ 2 _ _ _ hc8.row
      have fk : w8.frozen? ⟨cp, 2, none⟩ = false := frozen_of_row _ _ 2 _ _ hc8.row
      have hk8 : cp < w8.heap.size := blk_lt hc8.row
      have hsl : ∀ W, (Instr.slice 110 (.slice (some ⟨g8, 0, none⟩) (L.length + 1) c8) none (some (.int .i64 (L.length : Int))) none).run Tryz.prog W = .ok (.slice (some ⟨g8, 0, none⟩) L.length c8) W := slice_popS g8 L.length (L.length + 1) c8 (by omega) hc8c
      rw [← HRE.out]
      clear hc8 hl8 hd8 h9 H7 HLC HTD n6 h8 el8 HC4 HN4 HV4
      go_wp2_with fail
      go_region
      all_goals
       go_wp2_with fail
       go_ret
       exact ⟨rfl, _, H9.out.1, H9.out.2.1, HD9.out⟩
  ·have hyb : (y2 != 1) = true := bne_iff_ne.2 hy2
   have hyd : decide (y2 = 1) = false := decide_eq_false hy2
   have HRE : Hid (R = (8, (x : Int))) := by unfold Hid; rw [HR.out, HF2.out, if_pos hy2, goL_met (show ((8 : Int), (x : Int)).1 ≠ 0 from by simp)]
   clear HR HF2 HLC
   go_wp2_with fail
   go_ret
   exact ⟨by rw [HRE.out]; rfl, _, HC4.out⟩
 ·have HRE : Hid (errV R = .iface 121 (.agg #[.int .i64 m1, .int .i64 m2])) := by unfold Hid; rw [HR.out, HFO.out.1 hz, goL_met hz, errV_met hz]
  rw [errV_met hz]
  have HC3 := HCK.out _ (HB.out.alloc HB.out.size (.cells #[.string (bs y0), .int .i64 y1, .int .i64 y2, .int .i64 y3, .bool y4, .int .i64 y5] 93))
  have HC4 : Hid _ := HC3
  clear HR HY HFO HCK HB HB0 HLC hz HC3
  go_wp2_with fail
  go_ret
  exact ⟨by rw [HRE.out]; rfl, _, HC4.out⟩
end Go.Proofs.YteeklmgkhacbcaaGreatDoor
