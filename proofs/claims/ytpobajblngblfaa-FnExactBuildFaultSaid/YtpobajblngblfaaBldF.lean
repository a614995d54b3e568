/-
  What BuildFault answers, plainly; the small helpers of both sides.
-/
import Derived.Test.YtpobajblngblfaaBldM
import Derived.Test.YtpobajblngblfaaBlocksS
import Derived.Test.YtpobajblngblfaaRgEqual
import Derived.Deep.Cut
namespace Go.Proofs.Ytpobajblngblfaa
open Go.RowKit
set_option linter.unusedVariables false

/-- are all cells? -/
def cellsB (c : Int) (zs : List Int) : Bool := zs.all (fun z => inB z 0 (c - 1))
def bdF (m : LBuild) : Int :=
  if (!(inB m.cells 0 80) || !(inB m.budA 0 20000) || !(inB m.budB 0 20000)) = true then 3
  else if (decide (24 < m.ports.length) || decide (60 < m.outs.length)) = true then 2
  else if (!(cellsB m.cells (m.ports.map (·.cell))) || !(cellsB m.cells m.outs)) = true then 3
  else if fault m.codeA ≠ 0 then fault m.codeA
  else if fault m.codeB ≠ 0 then fault m.codeB
  else if (!(decide (sumsV m.codeA = m.sumsA)) || !(decide (sumsV m.codeB = m.sumsB))) = true then 6
  else 0
theorem cellsB_ok {c : Int} {zs : List Int} (h : ∀ j, j < zs.length → inB (zs.getD j 0) 0 (c - 1) = true) : cellsB c zs = true := by
  unfold cellsB
  rw [List.all_eq_true]
  intro z hz
  obtain ⟨i, hi, rfl⟩ := List.getElem_of_mem hz
  have := h i hi
  rwa [List.getD_eq_getElem?_getD, List.getElem?_eq_getElem hi] at this
theorem cellsB_bad {c : Int} {zs : List Int} (i : Nat) (hi : i < zs.length) (h : inB (zs.getD i 0) 0 (c - 1) = false) : cellsB c zs = false := by
  unfold cellsB
  rw [List.all_eq_false]
  refine ⟨zs[i], List.getElem_mem hi, ?_⟩
  rw [List.getD_eq_getElem?_getD, List.getElem?_eq_getElem hi] at h
  simpa using h

set_option maxHeartbeats 400000 in
theorem withinB_any (z a b : Int) (w : World) : Calls Try.prog 29 #[.int .i64 z, .int .i64 a, .int .i64 b] w fun e w' => e = .returned (.bool (inB z a b)) ∧ w' = w := by
  by_cases h1 : a ≤ z
  · by_cases h2 : z ≤ b
    · have e : inB z a b = true := inB_iff.2 ⟨h1, h2⟩
      rw [e]
      go_enter Try.func29, Try.ntmps29
      go_wp2
      go_ret
      exact ⟨rfl, rfl⟩
    · have e : inB z a b = false := inB_no.2 (by omega)
      rw [e]
      have hd : decide (z ≤ b) = false := decide_eq_false h2
      clear h2 e
      go_enter Try.func29, Try.ntmps29
      go_wp2
      go_ret
      exact ⟨rfl, rfl⟩
  · have e : inB z a b = false := inB_no.2 (by omega)
    rw [e]
    have hd : decide (a ≤ z) = false := decide_eq_false h1
    clear h1 e
    go_enter Try.func29, Try.ntmps29
    go_wp2
    go_ret
    exact ⟨rfl, rfl⟩

set_option maxHeartbeats 800000 in
theorem areCells_any (a : Option Addr) (zs : List Int) (cap : Nat) (c : Int) (w : World) (hc : 0 ≤ c) (hc2 : c ≤ 80) (hl : zs.length ≤ 1048576) (hn : Nums w a zs) :
    Calls Try.prog 30 #[.slice a zs.length cap, .int .i64 c] w fun e w' => e = .returned (.bool (cellsB c zs)) ∧ w' = w := by
  have HWI : Hid (∀ (z a b : Int) (w : World), Calls Try.prog 29 #[.int .i64 z, .int .i64 a, .int .i64 b] w fun e w' => e = .returned (.bool (inB z a b)) ∧ w' = w) := withinB_any
  have HOK : Hid ((∀ j, j < zs.length → inB (zs.getD j 0) 0 (c - 1) = true) → cellsB c zs = true) := cellsB_ok
  have HBD : Hid (∀ i, i < zs.length → inB (zs.getD i 0) 0 (c - 1) = false → cellsB c zs = false) := fun i hi h => cellsB_bad i hi h
  generalize cellsB c zs = R at *
  go_enter Try.func30, Try.ntmps30
  go_wp2
  go_loop [6, 9] (fun _ i => ∃ k : Nat, k ≤ zs.length ∧ i = .int .i64 k ∧ Hid (∀ j, j < k → inB (zs.getD j 0) 0 (c - 1) = true)) (fun _ i => zs.length - (intOf i).toNat)
  case atStart => exact ⟨0, Nat.zero_le _, rfl, fun j hj => by omega⟩
  case round =>
    obtain ⟨k, hk, rfl, HO⟩ := hrel
    by_cases hlt : k < zs.length
    · rcases hn with hn | ⟨b, off, rfl, hcc⟩
      · subst hn; simp at hlt
      have hcell := hcc k hlt
      have HN : Hid (inB (zs.getD k 0) 0 (c - 1) = true → ∀ j, j < k + 1 → inB (zs.getD j 0) 0 (c - 1) = true) := fun h j hj => by
        by_cases e : j = k
        · subst e; exact h
        · exact HO.out j (by omega)
      have HX := hid (HBD.out k hlt)
      generalize zs.getD k 0 = z at *
      clear hcc HO HBD
      go_wp2_with fail
      refine (HWI.out _ _ _ _).mono ?_
      rintro e w2 ⟨rfl, rfl⟩
      cases hb : inB z 0 (c - 1) with
      | true =>
        have HN2 := hid (HN.out hb)
        clear HN HX
        go_wp2_with fail
        go_round
        case rel => exact ⟨k + 1, by omega, by go_num, HN2⟩
        case measure => simp [intOf]; omega
      | false =>
        have HR := hid (HX.out hb)
        clear HN HX
        go_wp2_with fail
        go_ret
        exact ⟨by rw [HR.out]; rfl, rfl⟩
    · have hk2 : k = zs.length := by omega
      subst hk2
      have HR := hid (HOK.out HO.out)
      go_wp2
      go_ret
      exact ⟨by rw [HR.out]; rfl, rfl⟩

set_option maxHeartbeats 1600000 in
set_option maxRecDepth 100000 in
theorem cellsOfPorts_any (a : Option Addr) (ps : List LPort) (c : Nat) (w : World) (h : Ports w a ps) (hl : ps.length ≤ 1048576) :
    Calls Try.prog 31 #[.slice a ps.length c] w fun e w' => ∃ v, e = .returned v ∧ Own w' w.heap.size v (ps.map (·.cell)) ∧ Below w.heap.size w w' := by
  have HHD : Hid (∀ (W : World), Below w.heap.size w W → ∀ (k : Nat) (x : LPort), ps[k]? = some x → ∃ b o, a = some ⟨b, o, none⟩ ∧ PortAt W b (o + k * 2) x) := fun W hb k x hx => (h.below hb).at hx
  have HL := hid hl
  clear h
  go_enter Try.func31, Try.ntmps31
  go_wp2_with fail
  go_loopw [3, 8] (fun v i wr => ∃ (k : Nat) (u : Value), k ≤ ps.length ∧ i = .int .i64 k ∧ u = v ∧ Hid (Own wr w.heap.size u ((ps.take k).map (·.cell))) ∧ Hid (Below w.heap.size w wr)) (fun _ i _ => ps.length - (intOf i).toNat)
  case atStart => exact ⟨0, _, Nat.zero_le _, rfl, rfl, World.ownsRow_nil _ _ _ _, Below.refl _ _⟩
  case round =>
    obtain ⟨k, v, hk, rfl, rfl, HO, HB⟩ := hrel
    by_cases hlt : k < ps.length
    · obtain ⟨x, hx⟩ : ∃ x, ps[k]? = some x := ⟨ps[k], List.getElem?_eq_getElem hlt⟩
      obtain ⟨b, o, rfl, c0, c1⟩ := HHD.out wr HB.out k x hx
      have HRS : Hid ((ps.take (k + 1)).map (·.cell) = (ps.take k).map (·.cell) ++ [x.cell]) := by
        unfold Hid
        rw [List.take_add_one, hx, List.map_append]
        rfl
      have hll : ((ps.take k).map (·.cell)).length + 1 ≤ 2097152 := by have := HL.out; rw [List.length_map, List.length_take]; omega
      have HLE := hid hll
      obtain ⟨L, hLq⟩ : ∃ L, (ps.take k).map (·.cell) = L := ⟨_, rfl⟩
      rw [hLq] at HO HRS HLE
      obtain ⟨ad, cq, hsh⟩ := own_shape HO.out
      subst hsh
      have HLT := hid hlt
      have hk0 : (0 : Int) ≤ (k : Int) := by omega
      have hk1 : (k : Int) < (ps.length : Int) := by omega
      have hbb : Below wr.heap.size wr (wr.alloc (.cells #[.int .i64 x.cell, .bool x.bool] 68)) := (Below.refl _ _).alloc (Nat.le_refl _) _
      have hbx := heap_alloc_new wr (.cells #[.int .i64 x.cell, .bool x.bool] 68)
      have HO1 := hid (own_kept HO.out hbb)
      have HB1 : Hid (Below w.heap.size w (wr.alloc (.cells #[.int .i64 x.cell, .bool x.bool] 68))) := HB.out.trans (hbb.mono HB.out.size)
      clear hx hLq hll hlt HO HB hbb
      go_upto_region 5 with fail
      generalize wr.alloc (.cells #[.int .i64 x.cell, .bool x.bool] 68) = w1 at *
      obtain ⟨e0, e1⟩ := cl2 hbx
      have hbz : w.heap.size ≤ w1.heap.size := HB1.out.size
      clear hbx c0 c1
      go_wp2_with (at_builtin; go_loud (refine wpList_append_nums rfl _ _ rfl w.heap.size _ L [x.cell] (by rfl) (own_kept HO1.out ((Below.refl w1.heap.size w1).alloc (Nat.le_refl _) (.cells #[.int .i64 x.cell] 2))) (some ⟨w1.heap.size, 0, none⟩) 1 (by rfl) (one_numR w1 _) (fun e => by cases e) (fun e => by cases e) HLE.out (Nat.le_trans hbz (by rw [World.size_alloc]; omega)) ?_))
      intro v4 w4 ho hg hv
      have HB4 : Hid (Below w.heap.size w w4) := (HB1.out.alloc hbz _).grown hg.out (Nat.le_trans hbz (by rw [World.size_alloc]; omega)) (fun g hg => HO1.out.lt g hg |>.1)
      have HO4 := hid (show Own w4 w.heap.size v4 _ from HRS.out ▸ ho.out)
      clear ho hg hv HB1 HO1 HRS HLE e0 e1 hbz
      go_wp2_with fail
      go_roundw
      case rel => exact ⟨k + 1, _, HLT.out, by go_num, rfl, HO4, HB4⟩
      case measure => have h9 := HLT.out; clear hk0 hk1; simp [intOf]; omega
    · have hke : k = ps.length := by omega
      subst hke
      rw [List.take_length] at HO
      go_wp2_with fail
      go_ret
      exact ⟨_, rfl, HO.out, HB.out⟩

set_option maxHeartbeats 800000 in
theorem cmpOr_any (g : Nat) (x y : Int) (cap : Nat) (w : World) (h0 : w.cell? ⟨g, 0, none⟩ = some (.int .i64 x)) (h1 : w.cell? ⟨g, 1, none⟩ = some (.int .i64 y)) :
    Calls Try.prog 32 #[.slice (some ⟨g, 0, none⟩) 2 cap] w fun e w' => e = .returned (.int .i64 (if x ≠ 0 then x else y)) ∧ w' = w := by
  have HX : Hid (x ≠ 0 → (if x ≠ 0 then x else y) = x) := fun h => if_pos h
  have HY : Hid (x = 0 → (if x ≠ 0 then x else y) = y) := fun h => if_neg (by simpa using h)
  generalize (if x ≠ 0 then x else y) = r at *
  go_enter Try.func32, Try.ntmps32
  go_wp2
  go_loop [5, 8] (fun _ i => i = .int .i64 0 ∨ (i = .int .i64 1 ∧ Hid (x = 0)) ∨ (i = .int .i64 2 ∧ Hid (x = 0) ∧ Hid (y = 0))) (fun _ i => 2 - (intOf i).toNat)
  case atStart => exact .inl rfl
  case round =>
    rcases hrel with rfl | ⟨rfl, HA⟩ | ⟨rfl, HA, HB⟩
    · by_cases hx : x = 0
      · have hxb : (x != 0) = false := by simpa using hx
        have HZ := hid hx
        clear hx
        go_wp2
        go_round
        case rel => exact .inr (.inl ⟨rfl, HZ⟩)
        case measure => simp [intOf]
      · have hxb : (x != 0) = true := by simpa using hx
        have HR := hid (HX.out hx)
        clear hx
        go_wp2
        go_ret
        exact ⟨by rw [HR.out]; rfl, rfl⟩
    · have HR := hid (HY.out HA.out)
      by_cases hy : y = 0
      · have hyb : (y != 0) = false := by simpa using hy
        have HZ := hid hy
        clear hy
        go_wp2
        go_round
        case rel => exact .inr (.inr ⟨rfl, HA, HZ⟩)
        case measure => simp [intOf]
      · have hyb : (y != 0) = true := by simpa using hy
        clear hy
        go_wp2
        go_ret
        exact ⟨by rw [HR.out]; rfl, rfl⟩
    · have HR : Hid (r = 0) := (HY.out HA.out).trans HB.out
      clear HA HB
      go_wp2
      go_ret
      exact ⟨by rw [HR.out]; rfl, rfl⟩

theorem fieldList : ∀ (x y : Value) (w : World), (Instr.field 35 (.agg #[x, y]) 1).run Try.prog w = .ok y w := by
  intro x y w
  kernel_rfl
set_option maxHeartbeats 800000 in
theorem areSums_any (va vs : Value) (cs ss : List Int) (w : World) (ha : RowC w va cs) (hs : RowC w vs ss) (l1 : cs.length ≤ 1048576) (l2 : ss.length ≤ 1048576) :
    Calls Try.prog 34 #[va, vs] w fun e w' => e = .returned (.bool (decide (sumsV cs = ss))) ∧ Below w.heap.size w w' := by
  obtain ⟨a, c, rfl, hcap, hn, _⟩ := ha
  have HS : Hid (∀ W, Below w.heap.size w W → RowC W vs ss) := fun W hb => hs.below hb
  have HX : Hid (Calls Try.prog 55 #[.slice a cs.length c] w fun e w' => ∃ v, e = .returned (.agg #[.int .i64 (fault cs), v]) ∧ Own w' w.heap.size v (sumsV cs) ∧ Below w.heap.size w w') := implBlocks_any a cs c w hcap l1 hn
  have hlen : (sumsV cs).length ≤ 1048576 := by
    unfold sumsV
    split
    · rw [sumsTo_length]; unfold cnt; omega
    · simp
  have HQ : Hid (∀ (v1 v2 : Value) (W : World), RowV W v1 (sumsV cs) → RowV W v2 ss → Calls Try.prog 47 #[v1, v2] W fun e w' => e = .returned (.bool (decide (sumsV cs = ss))) ∧ Below W.heap.size W w') := fun v1 v2 W h1 h2 => (equal_any v1 v2 _ _ W h1 h2 hlen l2).mono fun e w' h => by
    obtain ⟨rfl, q, rfl⟩ := h
    exact ⟨rfl, (Below.refl W.heap.size W).os, (Below.refl W.heap.size W).tape, (Below.refl W.heap.size W).output, Nat.le_refl _, fun _ _ => rfl⟩
  clear hs hn hcap hlen l1
  generalize decide (sumsV cs = ss) = R at *
  generalize sumsV cs = S at *
  generalize fault cs = F at *
  have hfl := fieldList
  go_enter Try.func34, Try.ntmps34
  go_wp2_with fail
  refine HX.out.mono ?_
  rintro e w2 ⟨v, rfl, ho, hb⟩
  have HV := hid (own_row ho)
  have HB := hid hb
  clear ho hb HX
  go_wp2_with fail
  refine (HQ.out _ _ _ HV.out (HS.out _ HB.out).row).mono ?_
  rintro e w3 ⟨rfl, hb⟩
  have HB3 : Hid (Below w.heap.size w w3) := HB.out.trans (hb.mono HB.out.size)
  clear hb HB
  go_wp2_with fail
  go_ret
  exact ⟨rfl, HB3.out⟩
end Go.Proofs.Ytpobajblngblfaa
