/-
  spec.l4Fault, TreeFault: from a contract of spec.l4Right.
-/
import Derived.Test.YtepjaoapjpmjkaaGreatDoorSCount
import Derived.Test.YtepjaoapjpmjkaaGreatDoorTreeMath
namespace Go.Proofs.YtepjaoapjpmjkaaGreatDoor
open Go.RowKit
set_option linter.unusedVariables false
attribute [local go_sem] bs_size bs_get bs_extract bs_append bs_eq bs_toList
abbrev RightC (w : World) (p : Nat) (T : LTree) : Prop := ∀ (k : Nat) (W : World), Below w.heap.size w W → k < T.nodes.length → Calls Tryz.prog 62 #[.pointer (some ⟨p, 0, none⟩), .int .i64 k] W fun e w' => e = .returned (.bool (rightB T.nodes k)) ∧ Below W.heap.size W w'
theorem refs_in {N : List LNode} {m : Nat} {l : List Int} {e : Bool} (h : refsB N m l e = true) : ∀ x ∈ l, 0 ≤ x ∧ x < (m : Int) := fun x hx => by
 have := List.all_eq_true.1 h x hx
 unfold refB at this
 rw [Bool.and_eq_true] at this
 have := inB_iff.1 this.1
 omega
theorem rights_in {N : List LNode} (h : rightsB N = true) : ∀ n ∈ N, ∀ x ∈ listsOf n, 0 ≤ x ∧ x < (N.length : Int) := fun n hn x hx => by
 obtain ⟨k, hk, rfl⟩ := List.getElem_of_mem hn
 have := List.all_eq_true.1 h k (List.mem_range.2 hk)
 rw [rightB_eq] at this
 simp only [Bool.and_eq_true] at this
 have e : N.getD k default = N[k] := by rw [List.getD_eq_getElem?_getD, List.getElem?_eq_getElem hk]; rfl
 rw [e] at this
 obtain ⟨⟨⟨_, h1⟩, h2⟩, h3⟩ := this
 unfold listsOf at hx
 rcases List.mem_append.1 hx with hx | hx
 ·rcases List.mem_append.1 hx with hx | hx
  ·have := refs_in h1 x hx; omega
  ·have := refs_in h2 x hx; omega
 ·have := refs_in h3 x hx; omega
set_option maxHeartbeats 12800000 in
set_option maxRecDepth 100000 in
theorem l4Fault_any (lo p : Nat) (vv vn vb : Value) (T : LTree) (w : World) (h : TreeP lo w p vv vn vb T) (hS : Sized 1048576 T) (hR : T.nodes.length ≤ 200 → RightC w p T) :
  Calls Tryz.prog 30 #[.pointer (some ⟨p, 0, none⟩)] w fun e w' => e = .returned (.int .i64 (faultL T)) ∧ Below w.heap.size w w' := by
 have HTP : Hid (TreeP lo w p vv vn vb T) := h
 obtain ⟨av, cv, rfl, _, hhv⟩ := id h.tree.vars
 obtain ⟨an, cn, rfl, _⟩ := id h.tree.nodes
 obtain ⟨ab, cb, rfl, _⟩ := id h.tree.body
 have p0 := h.c0
 have p1 := h.c1
 have p2 := h.c2
 have hpw : p < w.heap.size := World.block_lt_of_cell? _ _ p0
 have hlv := hS.vars
 have hln := hS.nodes
 have HS : Hid (Sized 1048576 T) := hS
 have HV : Hid (T.vars ≠ [] → ∃ b o, av = some ⟨b, o, none⟩ ∧ lo ≤ b ∧ ∀ (i : Nat) (x : LVar), T.vars[i]? = some x → VarAt w b (o + i * 4) x) := hhv
 obtain ⟨F, hF⟩ : ∃ F, F = faultL T := ⟨_, rfl⟩
 rw [← hF]
 have HF : Hid (F = if 24 < T.vars.length ∨ 200 < T.nodes.length then 2 else if varsB T.vars ≠ 0 then varsB T.vars else if rightsB T.nodes = false then 1 else if refsB T.nodes T.nodes.length T.body false = false then 1 else if (countsL T).all (fun c => decide (c = 1)) = false then 1 else if (depthsF T.nodes T.nodes.length).all (fun d => decide (d ≤ 20)) = false then 9 else 0) := hF
 clear h hhv hS hF
 by_cases hv : 24 < T.vars.length
 ·have HE : Hid (F = 2) := by unfold Hid; rw [HF.out, if_pos (Or.inl hv)]
  have hb1 : decide ((24 : Int) < ((T.vars.length : Nat) : Int)) = true := decide_eq_true (by omega)
  clear HF hR
  go_enter Tryz.func30, Tryz.ntmps30
  go_wp2
  go_ret
  exact ⟨by rw [HE.out]; rfl, by go_grown⟩
 by_cases hn2 : 200 < T.nodes.length
 ·have HE : Hid (F = 2) := by unfold Hid; rw [HF.out, if_pos (Or.inr hn2)]
  have hb1 : decide ((24 : Int) < ((T.vars.length : Nat) : Int)) = false := decide_eq_false (by omega)
  have hb2 : decide ((200 : Int) < ((T.nodes.length : Nat) : Int)) = true := decide_eq_true (by omega)
  clear HF hR hv hn2
  go_enter Tryz.func30, Tryz.ntmps30
  go_wp2
  go_ret
  exact ⟨by rw [HE.out]; rfl, by go_grown⟩
 have hb1 : decide ((24 : Int) < ((T.vars.length : Nat) : Int)) = false := decide_eq_false (by omega)
 have hb2 : decide ((200 : Int) < ((T.nodes.length : Nat) : Int)) = false := decide_eq_false (by omega)
 have HR : Hid (RightC w p T) := hR (by omega)
 have HF : Hid (F = if varsB T.vars ≠ 0 then varsB T.vars else if rightsB T.nodes = false then 1 else if refsB T.nodes T.nodes.length T.body false = false then 1 else if (countsL T).all (fun c => decide (c = 1)) = false then 1 else if (depthsF T.nodes T.nodes.length).all (fun d => decide (d ≤ 20)) = false then 9 else 0) := by
  unfold Hid; rw [HF.out, if_neg (by omega)]
 have HN200 : Hid (T.nodes.length ≤ 200) := by unfold Hid; omega
 clear hR hv hn2
 have HP0 : Hid (w.cell? ⟨p, 0, none⟩ = some (.slice av T.vars.length cv)) := p0
 have HP1 : Hid (w.cell? ⟨p, 1, none⟩ = some (.slice an T.nodes.length cn)) := p1
 have HP2 : Hid (w.cell? ⟨p, 2, none⟩ = some (.slice ab T.body.length cb)) := p2
 go_enter Tryz.func30, Tryz.ntmps30
 go_wp2
 clear hb1 hb2 p0 p1 p2
 go_loopw [3] (fun i wr => ∃ k : Nat, k ≤ T.vars.length ∧ i = .int .i64 k ∧ varsB T.vars = varsB (T.vars.drop k) ∧ Below w.heap.size w wr) (fun i _ => T.vars.length - (intOf i).toNat)
 case atStart => exact ⟨0, by omega, rfl, rfl, Below.refl _ _⟩
 case round =>
  obtain ⟨k, hk, rfl, hvb, hB⟩ := hrel
  have HVB : Hid (varsB T.vars = varsB (T.vars.drop k)) := hvb
  have HB : Hid (Below w.heap.size w wr) := hB
  have q0 := (hB.cell (p := ⟨p, 0, none⟩) hpw).trans HP0.out
  clear hvb
  by_cases hlt : k < T.vars.length
  ·obtain ⟨x, hx⟩ : ∃ x, T.vars[k]? = some x := ⟨T.vars[k], List.getElem?_eq_getElem hlt⟩
   obtain ⟨g, o, rfl, _, hc1⟩ := HV.out (by intro e; rw [e] at hlt; simp at hlt)
   obtain ⟨c0, c1, c2, c3⟩ := (hc1 k x hx).keep (lo := 0) (Keeps.of_below hB) (Nat.zero_le _)
   have hnl : x.name.length ≤ 1048576 := HS.out.names x (List.mem_of_getElem? hx)
   have HX : Hid (T.vars[k]? = some x) := hx
   clear hx hc1 hB
   go_wp2_with fail
   have hA := heap_alloc_new wr (.cells #[.string (bs x.name), .int .i64 x.kind, .int .i64 x.type, .int .i64 x.size] 108)
   have hB5 : Below wr.heap.size wr (wr.alloc (.cells #[.string (bs x.name), .int .i64 x.kind, .int .i64 x.type, .int .i64 x.size] 108)) := (Below.refl _ _).alloc (Nat.le_refl _) _
   generalize wr.alloc (.cells #[.string (bs x.name), .int .i64 x.kind, .int .i64 x.type, .int .i64 x.size] 108) = W5 at *
   refine (isName_any x.name _ (by omega)).mono ?_
   rintro e w6 ⟨rfl, hb⟩
   have hA6 := blk hA hb
   have HB6 : Hid (Below w.heap.size w w6) := HB.out.trans ((hB5.trans (hb.mono hB5.size)).mono HB.out.size)
   obtain ⟨-, d1, d2, d3⟩ := cl4 hA6
   clear hA hA6 hB5 hb c0 c1 c2 c3 q0
   have HVX : Hid (varB x = if isNameL x.name then (if inB x.kind 1 3 && inB x.type 1 2 && inB x.size 0 8 then 0 else 3) else 5) := rfl
   generalize isNameL x.name = qn at *
   have HBAD : Hid (varB x ≠ 0 → F = varB x) := fun hne => by
    rw [HF.out, HVB.out, varsB_hit HX.out hne, if_pos hne]
   have HGOOD : Hid (varB x = 0 → varsB T.vars = varsB (T.vars.drop (k + 1))) := fun he => by
    rw [HVB.out, varsB_miss HX.out he]
   cases qn with
   | false =>
    have HE : Hid (F = 5) := by
     have h5 : varB x = 5 := by rw [HVX.out]; rfl
     have := HBAD.out (by rw [h5]; decide)
     unfold Hid; rw [this, h5]
    go_wp2_with fail
    go_ret
    exact ⟨by rw [HE.out]; rfl, HB6.out⟩
   | true =>
    go_wp2_with fail
    refine (l1In_any x.kind 1 3 _).mono ?_
    rintro e w7 ⟨rfl, rfl⟩
    generalize inB x.kind 1 3 = q1 at *
    cases q1 with
    | false =>
     have HE : Hid (F = 3) := by
      have h5 : varB x = 3 := by rw [HVX.out]; rfl
      have := HBAD.out (by rw [h5]; decide)
      unfold Hid; rw [this, h5]
     go_wp2_with fail
     go_ret
     exact ⟨by rw [HE.out]; rfl, HB6.out⟩
    | true =>
     go_wp2_with fail
     refine (l1In_any x.type 1 2 _).mono ?_
     rintro e w7 ⟨rfl, rfl⟩
     generalize inB x.type 1 2 = q2 at *
     cases q2 with
     | false =>
      have HE : Hid (F = 3) := by
       have h5 : varB x = 3 := by rw [HVX.out]; rfl
       have := HBAD.out (by rw [h5]; decide)
       unfold Hid; rw [this, h5]
      go_wp2_with fail
      go_ret
      exact ⟨by rw [HE.out]; rfl, HB6.out⟩
     | true =>
      go_wp2_with fail
      refine (l1In_any x.size 0 8 _).mono ?_
      rintro e w7 ⟨rfl, rfl⟩
      generalize inB x.size 0 8 = q3 at *
      cases q3 with
      | false =>
       have HE : Hid (F = 3) := by
        have h5 : varB x = 3 := by rw [HVX.out]; rfl
        have := HBAD.out (by rw [h5]; decide)
        unfold Hid; rw [this, h5]
       go_wp2_with fail
       go_ret
       exact ⟨by rw [HE.out]; rfl, HB6.out⟩
      | true =>
       have HNX : Hid (varsB T.vars = varsB (T.vars.drop (k + 1))) := HGOOD.out (by rw [HVX.out]; rfl)
       go_wp2_with fail
       go_roundw
       case rel => exact ⟨k + 1, by omega, by go_num, HNX.out, HB6.out⟩
       case measure => simp [intOf]; omega
  ·have hke : k = T.vars.length := by omega
   have hz : varsB T.vars = 0 := by rw [HVB.out, hke, List.drop_length]; rfl
   have HF2 : Hid (F = if rightsB T.nodes = false then 1 else if refsB T.nodes T.nodes.length T.body false = false then 1 else if (countsL T).all (fun c => decide (c = 1)) = false then 1 else if (depthsF T.nodes T.nodes.length).all (fun d => decide (d ≤ 20)) = false then 9 else 0) := by
    unfold Hid; rw [HF.out, if_neg (by simp [hz])]
   clear HF HVB hz hke
   generalize hwq : wr = w1 at *
   clear hwq
   go_wp2
   clear q0
   go_loopw [5] (fun i wr => ∃ m : Nat, m ≤ T.nodes.length ∧ i = .int .i64 m ∧ (∀ j, j < m → rightB T.nodes j = true) ∧ Below w.heap.size w wr) (fun i _ => T.nodes.length - (intOf i).toNat)
   case atStart => exact ⟨0, by omega, rfl, by omega, HB.out⟩
   case round =>
    obtain ⟨m, hm, rfl, hall, hB⟩ := hrel
    have HALL : Hid (∀ j, j < m → rightB T.nodes j = true) := hall
    have HB2 : Hid (Below w.heap.size w wr) := hB
    have q1 := (hB.cell (p := ⟨p, 1, none⟩) hpw).trans HP1.out
    have q2 := (hB.cell (p := ⟨p, 2, none⟩) hpw).trans HP2.out
    clear hall hB
    by_cases hlt2 : m < T.nodes.length
    ·have HC : Hid (Calls Tryz.prog 62 #[.pointer (some ⟨p, 0, none⟩), .int .i64 m] wr fun e w' => e = .returned (.bool (rightB T.nodes m)) ∧ Below wr.heap.size wr w') := HR.out m wr HB2.out hlt2
     obtain ⟨q, hq⟩ : ∃ q, rightB T.nodes m = q := ⟨_, rfl⟩
     rw [hq] at HC
     have HQ : Hid (rightB T.nodes m = q) := hq
     clear hq
     go_wp2_with fail
     refine HC.out.mono ?_
     rintro e w3 ⟨rfl, hb⟩
     have HB3 : Hid (Below w.heap.size w w3) := HB2.out.trans (hb.mono HB2.out.size)
     clear hb HC q1 q2
     cases q with
     | false =>
      have HE : Hid (F = 1) := by
       unfold Hid; rw [HF2.out, if_pos]
       exact List.all_eq_false.2 ⟨m, List.mem_range.2 hlt2, by rw [HQ.out]; decide⟩
      go_wp2_with fail
      go_ret
      exact ⟨by rw [HE.out]; rfl, HB3.out⟩
     | true =>
      go_wp2_with fail
      go_roundw
      case rel => exact ⟨m + 1, by omega, by go_num, fun j hj => by
        rcases Nat.lt_succ_iff_lt_or_eq.1 hj with h | rfl
        ·exact HALL.out j h
        ·exact HQ.out, HB3.out⟩
      case measure => simp [intOf]; omega
    ·have hme : m = T.nodes.length := by omega
     have hrt : rightsB T.nodes = true := List.all_eq_true.2 (fun j hj => HALL.out j (by have := List.mem_range.1 hj; omega))
     have HRT : Hid (rightsB T.nodes = true) := hrt
     have HF3 : Hid (F = if refsB T.nodes T.nodes.length T.body false = false then 1 else if (countsL T).all (fun c => decide (c = 1)) = false then 1 else if (depthsF T.nodes T.nodes.length).all (fun d => decide (d ≤ 20)) = false then 9 else 0) := by
      unfold Hid; rw [HF2.out, if_neg (by simp [hrt])]
     have HBD : Hid (∀ W, W.heap = wr.heap → Calls Tryz.prog 63 #[.pointer (some ⟨p, 0, none⟩), .int .i64 T.nodes.length, .slice ab T.body.length cb, .bool false] W fun e w' => e = .returned (.bool (refsB T.nodes T.nodes.length T.body false)) ∧ Below W.heap.size W w') := fun W hW => by
      have hk0 : ∀ b, b < w.heap.size → W.heap[b]? = w.heap[b]? := fun b hb => by rw [hW]; exact HB2.out.block b hb
      have hc : ∀ (a : Addr) (u : Value), w.cell? a = some u → W.cell? a = some u := fun a u h => by
       rw [World.cell?_of_block (hk0 a.block (World.block_lt_of_cell? _ _ h))]; exact h
      have ht := HTP.out
      exact l4Refs_any lo p _ _ _ _ T T.nodes.length T.body false lo W ⟨hc _ _ ht.c0, hc _ _ ht.c1, hc _ _ ht.c2, ht.tree.keep (fun b _ hb => hk0 b hb)⟩ (Nat.le_refl _) HN200.out (ht.tree.body.keep (fun b _ hb => hk0 b hb)) HS.out.body
     clear HF2 HALL hrt hme HR
     obtain ⟨q, hq⟩ : ∃ q, refsB T.nodes T.nodes.length T.body false = q := ⟨_, rfl⟩
     rw [hq] at HBD HF3
     have HQ : Hid (refsB T.nodes T.nodes.length T.body false = q) := hq
     clear hq
     go_wp2_with fail
     go_region_held3 (fun W => W.cell? ⟨p, 1, none⟩ = some (.slice an T.nodes.length cn) ∧ W.cell? ⟨p, 2, none⟩ = some (.slice ab T.body.length cb)) (go_keep) (first | (go_at_call 63; refine (HBD.out _ (by rfl)).mono ?_; rintro e w3 ⟨rfl, hb⟩; have hD : Below wr.heap.size wr w3 := ((Below.refl wr.heap.size wr).drew).trans (Below.mono hb (Nat.le_refl _)); have e1 := (hD.cell (p := ⟨p, 1, none⟩) (Nat.lt_of_lt_of_le hpw HB2.out.size)).trans q1; have e2 := (hD.cell (p := ⟨p, 2, none⟩) (Nat.lt_of_lt_of_le hpw HB2.out.size)).trans q2; have HB3 : Hid (Below w.heap.size w w3) := HB2.out.trans (hD.mono HB2.out.size); clear hb hD))
     clear HBD q1 q2 HB HB2
     cases q with
     | false =>
      have HE : Hid (F = 1) := by unfold Hid; rw [HF3.out, if_pos rfl]
      go_wp2_with fail
      go_ret
      exact ⟨by rw [HE.out]; rfl, HB3.out⟩
     | true =>
      have HF4 : Hid (F = if (countsL T).all (fun c => decide (c = 1)) = false then 1 else if (depthsF T.nodes T.nodes.length).all (fun d => decide (d ≤ 20)) = false then 9 else 0) := by unfold Hid; rw [HF3.out, if_neg (by decide)]
      have HTP3 : Hid (TreeP lo w3 p (.slice av T.vars.length cv) (.slice an T.nodes.length cn) (.slice ab T.body.length cb) T) := HTP.out.below HB3.out
      have HCT : Hid (Calls Tryz.prog 64 #[.pointer (some ⟨p, 0, none⟩)] w3 fun e w' => e = .returned (.slice (some ⟨w3.heap.size, 0, none⟩) T.nodes.length T.nodes.length) ∧ Cnt w' w3.heap.size 2 (countsL T) ∧ Below w3.heap.size w3 w') :=
       l4Count_any lo p _ _ _ T w3 HTP3.out HS.out HN200.out (rights_in HRT.out) (refs_in HQ.out)
      clear HF3 HQ HRT
      go_wp2_with fail
      refine HCT.out.mono ?_
      rintro e w4 ⟨rfl, hc, hb⟩
      have HC4 : Hid (Cnt w4 w3.heap.size 2 (countsL T)) := hc
      have HB4 : Hid (Below w.heap.size w w4) := HB3.out.trans (hb.mono HB3.out.size)
      have HLC : Hid ((countsL T).length = T.nodes.length) := countsL_len T
      obtain ⟨cs, hcs⟩ : ∃ cs, cs = countsL T := ⟨_, rfl⟩
      rw [← hcs] at HC4 HLC HF4
      clear hc hb hcs HCT HTP3
      generalize w3.heap.size = g4 at *
      clear HB3
      go_wp2
      go_loopw [7] (fun i wi => ∃ m : Nat, m ≤ T.nodes.length ∧ i = .int .i64 m ∧ (∀ j, j < m → cs.getD j 0 = 1) ∧ SameW wi w4) (fun i _ => T.nodes.length - (intOf i).toNat)
      case atStart => exact ⟨0, by omega, rfl, by omega, rfl⟩
      case round =>
       obtain ⟨m2, hm2, rfl, hall, hw⟩ := hrel
       have HALL : Hid (∀ j, j < m2 → cs.getD j 0 = 1) := hall
       have HW : Hid (SameW wr w4) := hw
       clear hall
       by_cases hlt3 : m2 < T.nodes.length
       ·have hkl : m2 < cs.length := by have := HLC.out; omega
        have c0 : wr.cell? ⟨g4, m2, none⟩ = _ := (congrArg (fun W => World.cell? W ⟨g4, m2, none⟩) hw).trans (HC4.out.cell m2 hkl).1
        clear hw
        by_cases hz : cs.getD m2 0 = 1
        ·have HZ : Hid (cs.getD m2 0 = 1) := hz
         rw [hz] at c0
         clear hz hkl
         go_wp2
         go_roundw
         case rel => exact ⟨m2 + 1, by omega, by go_num, fun j hj => by
           rcases Nat.lt_succ_iff_lt_or_eq.1 hj with h | rfl
           ·exact HALL.out j h
           ·exact HZ.out, HW.out⟩
         case measure => simp [intOf]; omega
        ·have HE : Hid (F = 1) := by
          unfold Hid; rw [HF4.out, if_pos]
          exact List.all_eq_false.2 ⟨cs.getD m2 0, by
           rw [List.getD_eq_getElem?_getD, List.getElem?_eq_getElem hkl]; exact List.getElem_mem hkl, by simpa using hz⟩
         have hne : (cs.getD m2 0 == 1) = false := by simpa using hz
         have hne2 : decide (cs.getD m2 0 = 1) = false := decide_eq_false hz
         have HBE : Hid (Below w.heap.size w wr) := by unfold Hid; have : wr = w4 := HW.out; rw [this]; exact HB4.out
         generalize cs.getD m2 0 = z at *
         clear hkl
         go_wp2
         go_ret
         exact ⟨by rw [HE.out]; rfl, HBE.out⟩
       ·have hall2 : cs.all (fun c => decide (c = 1)) = true := List.all_eq_true.2 (fun x hx => by
         obtain ⟨j, hj, rfl⟩ := List.getElem_of_mem hx
         have := HALL.out j (by have := HLC.out; omega)
         rw [List.getD_eq_getElem?_getD, List.getElem?_eq_getElem hj] at this
         simpa using this)
        have HF5 : Hid (F = if (depthsF T.nodes T.nodes.length).all (fun d => decide (d ≤ 20)) = false then 9 else 0) := by unfold Hid; rw [HF4.out, if_neg (by simp [hall2])]
        have HBE : Hid (Below w.heap.size w wr) := by unfold Hid; have : wr = w4 := HW.out; rw [this]; exact HB4.out
        have HDT : Hid (Calls Tryz.prog 65 #[.pointer (some ⟨p, 0, none⟩)] wr fun e w' => ∃ v, e = .returned v ∧ Own w' wr.heap.size v (depthsF T.nodes T.nodes.length) ∧ Below wr.heap.size wr w') :=
         l4Depths_any lo p _ _ _ T wr (HTP.out.below HBE.out) HS.out.nodes (fun n hn => (HS.out.node n hn).2)
        clear hall2 hw HF4 HALL HC4 HLC HW HB4
        generalize hwq : wr = w5 at *
        clear hwq
        go_wp2_with fail
        refine HDT.out.mono ?_
        rintro e w6 ⟨v, rfl, hown, hb⟩
        obtain ⟨ad, cp, rfl⟩ := own_shape hown
        have hnm := (nums_of_own hown).2
        have HB6 : Hid (Below w.heap.size w w6) := HBE.out.trans (hb.mono HBE.out.size)
        have HLD : Hid ((depthsF T.nodes T.nodes.length).length = T.nodes.length) := depthsF_len _ _
        obtain ⟨ds, hds⟩ : ∃ ds, ds = depthsF T.nodes T.nodes.length := ⟨_, rfl⟩
        rw [← hds] at hnm HLD HF5 ⊢
        have HNM : Hid (Nums w6 ad ds) := hnm
        have hdb : ds.length ≤ 1048576 := by have := HLD.out; have := HN200.out; omega
        clear hown hb hds hnm HDT HBE
        go_wp2
        go_loopw [9] (fun i wi => ∃ m : Nat, m ≤ ds.length ∧ i = .int .i64 m ∧ (∀ j, j < m → ds.getD j 0 ≤ 20) ∧ SameW wi w6) (fun i _ => ds.length - (intOf i).toNat)
        case atStart => exact ⟨0, by omega, rfl, by omega, rfl⟩
        case round =>
         obtain ⟨m3, hm3, rfl, hall, hw⟩ := hrel
         have HALL : Hid (∀ j, j < m3 → ds.getD j 0 ≤ 20) := hall
         have HW : Hid (SameW wr w6) := hw
         have HBE : Hid (Below w.heap.size w wr) := by unfold Hid; have : wr = w6 := hw; rw [this]; exact HB6.out
         clear hall
         by_cases hlt4 : m3 < ds.length
         ·rcases HNM.out with hz | ⟨g7, o7, rfl, hc7⟩
          ·rw [hz] at hlt4; simp at hlt4
          have c0 : wr.cell? ⟨g7, o7 + m3, none⟩ = _ := (congrArg (fun W => World.cell? W ⟨g7, o7 + m3, none⟩) hw).trans (hc7 m3 hlt4)
          have hi0 : (0 : Int) ≤ (m3 : Int) := by omega
          have hi1 : (m3 : Int) < (ds.length : Int) := by omega
          clear hw hc7
          by_cases hz : ds.getD m3 0 ≤ 20
          ·have HZ : Hid (ds.getD m3 0 ≤ 20) := hz
           have hne : decide (20 < ds.getD m3 0) = false := decide_eq_false (by omega)
           generalize hzz : ds.getD m3 0 = z at *
           have HZZ : Hid (ds.getD m3 0 = z) := hzz
           clear hzz
           go_wp2
           go_roundw
           case rel => exact ⟨m3 + 1, by omega, by go_num, fun j hj => by
             rcases Nat.lt_succ_iff_lt_or_eq.1 hj with h | rfl
             ·exact HALL.out j h
             ·rw [HZZ.out]; exact HZ.out, HW.out⟩
           case measure => simp [intOf]; omega
          ·have HE : Hid (F = 9) := by
            unfold Hid; rw [HF5.out, if_pos]
            exact List.all_eq_false.2 ⟨ds.getD m3 0, by
             rw [List.getD_eq_getElem?_getD, List.getElem?_eq_getElem hlt4]; exact List.getElem_mem hlt4, by simpa using hz⟩
           have hne : decide (20 < ds.getD m3 0) = true := decide_eq_true (by omega)
           generalize ds.getD m3 0 = z at *
           go_wp2
           go_ret
           exact ⟨by rw [HE.out]; rfl, HBE.out⟩
         ·have hall2 : ds.all (fun d => decide (d ≤ 20)) = true := List.all_eq_true.2 (fun x hx => by
           obtain ⟨j, hj, rfl⟩ := List.getElem_of_mem hx
           have := HALL.out j (by omega)
           rw [List.getD_eq_getElem?_getD, List.getElem?_eq_getElem hj] at this
           simpa using this)
          have HE : Hid (F = 0) := by unfold Hid; rw [HF5.out, if_neg (by simp [hall2])]
          clear hall2 hw
          go_wp2
          go_ret
          exact ⟨by rw [HE.out]; rfl, HBE.out⟩
end Go.Proofs.YtepjaoapjpmjkaaGreatDoor
