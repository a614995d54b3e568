/-
  What may be run, plainly: impl's named, typeOfSides against the plain types.
-/
import Derived.Test.YteeklmgkhacbcaaGreatDoorITruth
import Derived.Test.YteeklmgkhacbcaaGreatDoorINamed
namespace Go.Proofs.YteeklmgkhacbcaaGreatDoor
open Go.RowKit
set_option linter.unusedVariables false
attribute [local go_sem] bs_size bs_get bs_extract bs_append bs_eq bs_toList
def metT (V : List LVar) (T : LTree) (f : Nat) (y : Int) : Met := (typeF V T.vars.length T.nodes f y (0, 0)).2
def ITypeC (lo cp mp : Nat) (vn vl : Value) (T : LTree) (V : List LVar) (f : Nat) (y : Nat) : Prop := ∀ (W : World), CkE lo W cp mp vn vl T V →
 Calls Tryz.prog 151 #[.pointer (some ⟨cp, 0, none⟩), .int .i64 (y : Int)] W fun e w' => e = .returned (.tuple #[.int .i64 (if (metT V T f (y : Int)).1 = 0 then plainT V (nodeOf T.nodes (y : Int)) else 0), errV (metT V T f (y : Int))]) ∧ Below W.heap.size W w'
def mustsF (V : List LVar) (T : LTree) (f : Nat) (ks ts : List Int) (st : Met) : Met := argsF (fun y want st => mustW (nodeOf T.nodes y) y want (typeF V T.vars.length T.nodes f y st)) ks ts st
theorem mustsF_cons (V : List LVar) (T : LTree) (f : Nat) (y t : Int) (ks ts : List Int) (st : Met) : mustsF V T f (y :: ks) (t :: ts) st = mustsF V T f ks ts (mustW (nodeOf T.nodes y) y t (typeF V T.vars.length T.nodes f y st)) := rfl
theorem mustsF_met (V : List LVar) (T : LTree) (f : Nat) : ∀ (ks ts : List Int) (st : Met), st.1 ≠ 0 → mustsF V T f ks ts st = st := by
 intro ks
 induction ks with
 | nil => intro ts st h; rfl
 | cons y r ih =>
  intro ts st h
  cases ts with
  | nil => rfl
  | cons t q =>
   have e : typeF V T.vars.length T.nodes f y st = ((typeF V T.vars.length T.nodes f y st).1, st) := Prod.ext rfl (typeF_met f y h)
   rw [mustsF_cons, e, mustW_met h]
   exact ih q st h
theorem mustsF_drop {V : List LVar} {T : LTree} {f : Nat} {ks ts : List Int} {j : Nat} {y t : Int} {st : Met} (h1 : ks[j]? = some y) (h2 : ts[j]? = some t) : mustsF V T f (ks.drop j) (ts.drop j) st = mustsF V T f (ks.drop (j + 1)) (ts.drop (j + 1)) (mustW (nodeOf T.nodes y) y t (typeF V T.vars.length T.nodes f y st)) := by
 obtain ⟨a1, rfl⟩ := List.getElem?_eq_some_iff.1 h1
 obtain ⟨a2, rfl⟩ := List.getElem?_eq_some_iff.1 h2
 rw [List.drop_eq_getElem_cons a1, List.drop_eq_getElem_cons a2, mustsF_cons]
theorem must_ok {V : List LVar} {T : LTree} {f : Nat} {y t : Int} (hk : 1 ≤ (nodeOf T.nodes y).kind ∧ (nodeOf T.nodes y).kind ≤ 6) (hn : (nodeOf T.nodes y).kind = 1 → 0 ≤ (nodeOf T.nodes y).num) (h : (metT V T (f + 1) y).1 = 0) :
  mustW (nodeOf T.nodes y) y t (typeF V T.vars.length T.nodes (f + 1) y (0, 0)) = if plainT V (nodeOf T.nodes y) = t ∨ (t = 2 ∧ (decide ((nodeOf T.nodes y).kind = 1) && inB (nodeOf T.nodes y).num 0 1) = true) then (0, 0) else (8, y) := by
 have h1 : (typeF V T.vars.length T.nodes (f + 1) y (0, 0)).1 = plainT V (nodeOf T.nodes y) := typeF_plain f y 0 hk h
 have h2 : (typeF V T.vars.length T.nodes (f + 1) y (0, 0)).2 = (0, 0) := (typeF_or (f + 1) y (0, 0)).resolve_right (fun hne => hne h)
 have e : typeF V T.vars.length T.nodes (f + 1) y (0, 0) = (plainT V (nodeOf T.nodes y), (0, 0)) := Prod.ext h1 h2
 rw [e]
 unfold mustW
 by_cases hA : t = 2 ∧ (nodeOf T.nodes y).kind = 1 ∧ (nodeOf T.nodes y).num ≤ 1
 ·rw [if_pos hA, if_pos (.inr ⟨hA.1, by rw [decide_eq_true hA.2.1, inB_iff.2 ⟨hn hA.2.1, hA.2.2⟩]; rfl⟩)]
 rw [if_neg hA]
 by_cases hB : plainT V (nodeOf T.nodes y) = t
 ·rw [if_neg (fun hh => hh.2 hB), if_pos (.inl hB)]
 rw [if_pos ⟨rfl, hB⟩, if_neg]
 ·rfl
 ·rintro (h | ⟨h3, h4⟩)
  ·exact hB h
  ·rw [Bool.and_eq_true, decide_eq_true_eq] at h4
   exact hA ⟨h3, h4.1, (inB_iff.1 h4.2).2⟩
theorem errV_zero {m : Met} (h : m.1 = 0) : errV m = .nilIface := by unfold errV; rw [if_pos h]
theorem errV_met {m : Met} (h : m.1 ≠ 0) : errV m = .iface 121 (.agg #[.int .i64 m.1, .int .i64 m.2]) := by unfold errV; rw [if_neg h]
set_option maxHeartbeats 12800000 in
set_option maxRecDepth 100000 in
theorem mustBe_any (lo lk lt cp mp f : Nat) (W : World) (vn vl vk vt : Value) (T : LTree) (V : List LVar) (ks ts : List Int) (hE : CkE lo W cp mp vn vl T V) (hlen : ks.length = ts.length) (hk3 : ks.length ≤ 3)
  (hks : ∀ y ∈ ks, (0 ≤ y ∧ y < (T.nodes.length : Int)) ∧ (1 ≤ (nodeOf T.nodes y).kind ∧ (nodeOf T.nodes y).kind ≤ 6) ∧ ((nodeOf T.nodes y).kind = 1 → 0 ≤ (nodeOf T.nodes y).num)) (hi : IntsV lk W vk ks) (hj : IntsV lt W vt ts)
  (hT : ∀ y : Nat, (y : Int) ∈ ks → ITypeC lo cp mp vn vl T V (f + 1) y) :
  Calls Tryz.prog 148 #[.pointer (some ⟨cp, 0, none⟩), vk, vt] W fun e w' => e = .returned (errV (mustsF V T (f + 1) ks ts (0, 0))) ∧ Below W.heap.size W w' := by
 obtain ⟨ak, ck, rfl, _, hik⟩ := id hi
 obtain ⟨a9, ct, rfl, _, hit⟩ := id hj
 have HI := hid hi
 have HJ := hid hj
 have HE := hid hE
 have HKS := hid hks
 have HT := hid hT
 have HLEN := hid hlen
 have hnl := hE.good.nodes
 have hkl := blk_lt hE.row
 obtain ⟨R, hR⟩ : ∃ R, R = mustsF V T (f + 1) ks ts (0, 0) := ⟨_, rfl⟩
 rw [← hR]
 have HR := hid hR
 clear hi hj hE hks hT hR hik hit hlen
 go_enter Tryz.func148, Tryz.ntmps148
 go_wp2
 go_loopw [13] (fun i wr => ∃ j : Nat, j ≤ ks.length ∧ i = .int .i64 j ∧ Hid (R = mustsF V T (f + 1) (ks.drop j) (ts.drop j) (0, 0)) ∧ Below W.heap.size W wr) (fun i _ => ks.length - (intOf i).toNat)
 case atStart => exact ⟨0, Nat.zero_le _, rfl, HR, Below.refl _ _⟩
 case round =>
  clear HR
  obtain ⟨j, hjl, rfl, HR, hB⟩ := hrel
  have HB := hid hB
  by_cases hlt : j < ks.length
  ·obtain ⟨y, hy⟩ : ∃ y, ks[j]? = some y := ⟨_, List.getElem?_eq_getElem hlt⟩
   obtain ⟨t, ht⟩ : ∃ t, ts[j]? = some t := ⟨_, List.getElem?_eq_getElem (by have := HLEN.out; omega)⟩
   have hmem := List.mem_of_getElem? hy
   obtain ⟨⟨hy0, hy1⟩, hkind, hnum⟩ := HKS.out y hmem
   obtain ⟨Y, rfl⟩ := Int.eq_ofNat_of_zero_le hy0
   obtain ⟨b1, o1, rfl, _, hc1⟩ : ∃ b o, ak = some ⟨b, o, none⟩ ∧ True ∧ ∀ i x, ks[i]? = some x → wr.cell? ⟨b, o + i, none⟩ = some (.int .i64 x) := by
    obtain ⟨_, _, e, _, h⟩ := HI.out.below hB
    injection e with e1 e2 e3
    subst e1
    obtain ⟨b, o, e, _, hc⟩ := h (by intro e; rw [e] at hlt; simp at hlt)
    exact ⟨b, o, e, trivial, hc⟩
   have c1 := hc1 j _ hy
   have HTY := HT.out Y hmem wr (HE.out.below hB)
   have hdrop := HR.out.trans (mustsF_drop hy ht)
   have hMO := must_ok (V := V) (T := T) (f := f) (y := (Y : Int)) (t := t) hkind hnum
   have HW2 : Hid (∀ w2, Below wr.heap.size wr w2 → (∃ b o, a9 = some ⟨b, o, none⟩ ∧ w2.cell? ⟨b, o + j, none⟩ = some (.int .i64 t)) ∧ CkE lo w2 cp mp vn vl T V) := fun w2 hb => by
    have hb2 := HB.out.trans (hb.mono HB.out.size)
    obtain ⟨_, _, e, _, h⟩ := HJ.out.below hb2
    injection e with e1 e2 e3
    subst e1
    obtain ⟨b, o, e, _, hc⟩ := h (by intro e; rw [e] at ht; simp at ht)
    exact ⟨⟨b, o, e, hc j _ ht⟩, HE.out.below hb2⟩
   have hjt : j < ts.length := by have := HLEN.out; omega
   have hj0 : (0 : Int) ≤ (j : Int) := by omega
   have hj1 : (j : Int) < (ks.length : Int) := by omega
   have hj2 : (j : Int) < (ts.length : Int) := by omega
   have hYl : Y < T.nodes.length := by omega
   have hY1 : (Y : Int) < (T.nodes.length : Int) := hy1
   clear hc1 hB hy ht hkind hnum HKS HT HR HI HJ HE hmem hjt
   obtain ⟨m, hm⟩ : ∃ m, m = metT V T (f + 1) (Y : Int) := ⟨_, rfl⟩
   rw [← hm] at HTY hMO
   by_cases hz : m.1 = 0
   ·rw [if_pos hz, errV_zero hz] at HTY
    rw [hMO hz] at hdrop
    generalize plainT V (nodeOf T.nodes (Y : Int)) = g at *
    have HD : Hid _ := hdrop
    have HTC : Hid (Calls Tryz.prog 151 #[.pointer (some ⟨cp, 0, none⟩), .int .i64 (Y : Int)] wr fun e w' => e = .returned (.tuple #[.int .i64 g, .nilIface]) ∧ Below wr.heap.size wr w') := HTY
    clear hdrop HTY hMO hm hz m
    by_cases hgt : g = t
    ·have HR2 : Hid (R = mustsF V T (f + 1) (ks.drop (j + 1)) (ts.drop (j + 1)) (0, 0)) := by unfold Hid; rw [HD.out, if_pos (.inl hgt)]
     subst hgt
     clear HD
     go_wp2_with fail
     refine HTC.out.mono ?_
     rintro e w2 ⟨rfl, hb⟩
     obtain ⟨⟨b2, o2, rfl, c2⟩, _⟩ := HW2.out w2 hb
     have HB2 : Hid (Below W.heap.size W w2) := HB.out.trans (hb.mono HB.out.size)
     clear hb HTC HW2 HB
     go_wp2_with fail
     go_roundw
     case rel => exact ⟨j + 1, by omega, by go_num, HR2, HB2.out⟩
     case measure => simp [intOf]; omega
    ·have hgb : (g != t) = true := by simpa using hgt
     by_cases ht2 : t = 2
     ·subst ht2
      obtain ⟨q, hq⟩ : ∃ q, q = (decide ((nodeOf T.nodes (Y : Int)).kind = 1) && inB (nodeOf T.nodes (Y : Int)).num 0 1) := ⟨_, rfl⟩
      rw [← hq] at HD
      have HTR : Hid (∀ (vk vt ve : Value) (w : World), (∃ a l c, vk = .slice a l c) → (∃ a l c, vt = .slice a l c) → (∃ a l c, ve = .slice a l c) → Calls Tryz.prog 152 #[nodeV (nodeOf T.nodes (Y : Int)) vk vt ve] w fun e w' => e = .returned (.bool q) ∧ Below w.heap.size w w') := fun vk vt ve w h1 h2 h3 => by rw [hq]; exact isTruth_any _ vk vt ve w h1 h2 h3
      clear hq
      go_wp2_with fail
      refine HTC.out.mono ?_
      rintro e w2 ⟨rfl, hb⟩
      obtain ⟨⟨b2, o2, rfl, c2⟩, hE2⟩ := HW2.out w2 hb
      have HB2 : Hid (Below W.heap.size W w2) := HB.out.trans (hb.mono HB.out.size)
      have k0 := cell_of_row _ _ 0 _ _ _ hE2.row
      simp at k0
      obtain ⟨bn, on, cn, rfl, vk', vt', ve', ⟨d0, d1, d2, d3, d4, d5, d6, d7⟩, _, ⟨a5, c5, rfl⟩, ⟨a6, l6, c6, rfl⟩, ⟨a7, l7, c7, rfl⟩⟩ := hE2.node Y hYl
      have HTR2 : Hid (∀ (w : World), Calls Tryz.prog 152 #[nodeV (nodeOf T.nodes (Y : Int)) (.slice a5 (nodeOf T.nodes (Y : Int)).kids.length c5) (.slice a6 l6 c6) (.slice a7 l7 c7)] w fun e w' => e = .returned (.bool q) ∧ Below w.heap.size w w') := fun w => HTR.out _ _ _ w ⟨_, _, _, rfl⟩ ⟨_, _, _, rfl⟩ ⟨_, _, _, rfl⟩
      generalize nodeOf T.nodes (Y : Int) = n at *
      clear hb HTC HW2 HB HTR hE2
      cases q with
      | true =>
       have HR2 : Hid (R = mustsF V T (f + 1) (ks.drop (j + 1)) (ts.drop (j + 1)) (0, 0)) := by unfold Hid; rw [HD.out, if_pos (by simp)]
       clear HD
       go_wp2_with fail
       refine (HTR2.out _).mono ?_
       rintro e w3 ⟨rfl, hb⟩
       have HB3 : Hid (Below W.heap.size W w3) := HB2.out.trans (hb.mono HB2.out.size)
       clear hb HTR2 HB2 d0 d1 d2 d3 d4 d5 d6 d7 k0 c2 c1
       go_wp2_with fail
       go_roundw
       case rel => exact ⟨j + 1, by omega, by go_num, HR2, HB3.out⟩
       case measure => simp [intOf]; omega
      | false =>
       have HR2 : Hid (R = (8, (Y : Int))) := by unfold Hid; rw [HD.out, if_neg (by simp [hgt])]; exact mustsF_met _ _ _ _ _ _ (show (8 : Int) ≠ 0 by decide)
       clear HD
       go_wp2_with fail
       refine (HTR2.out _).mono ?_
       rintro e w3 ⟨rfl, hb⟩
       have HB3 : Hid (Below W.heap.size W w3) := HB2.out.trans (hb.mono HB2.out.size)
       clear hb HTR2 HB2 d0 d1 d2 d3 d4 d5 d6 d7 k0 c2 c1
       go_wp2_with fail
       go_ret
       exact ⟨by rw [HR2.out]; rfl, HB3.out⟩
     ·have htb : (t == 2) = false := by simpa using ht2
      have HR2 : Hid (R = (8, (Y : Int))) := by unfold Hid; rw [HD.out, if_neg (by simp [hgt, ht2])]; exact mustsF_met _ _ _ _ _ _ (show (8 : Int) ≠ 0 by decide)
      clear HD
      go_wp2_with fail
      refine HTC.out.mono ?_
      rintro e w2 ⟨rfl, hb⟩
      obtain ⟨⟨b2, o2, rfl, c2⟩, hE2⟩ := HW2.out w2 hb
      have HB2 : Hid (Below W.heap.size W w2) := HB.out.trans (hb.mono HB.out.size)
      clear hb HTC HW2 HB hE2
      go_wp2_with fail
      go_ret
      exact ⟨by rw [HR2.out]; rfl, HB2.out⟩
   ·have HR2 : Hid (R = m) := by
     unfold Hid
     have e1 : typeF V T.vars.length T.nodes (f + 1) (Y : Int) (0, 0) = ((typeF V T.vars.length T.nodes (f + 1) (Y : Int) (0, 0)).1, m) := Prod.ext rfl hm.symm
     rw [hdrop, e1, mustW_met hz]
     exact mustsF_met _ _ _ _ _ _ hz
    rw [if_neg hz, errV_met hz] at HTY
    have HTC : Hid (Calls Tryz.prog 151 #[.pointer (some ⟨cp, 0, none⟩), .int .i64 (Y : Int)] wr fun e w' => e = .returned (.tuple #[.int .i64 0, .iface 121 (.agg #[.int .i64 m.1, .int .i64 m.2])]) ∧ Below wr.heap.size wr w') := HTY
    have HEV : Hid (errV m = .iface 121 (.agg #[.int .i64 m.1, .int .i64 m.2])) := errV_met hz
    clear hdrop HTY hMO hm hz
    generalize m.1 = m1 at *
    generalize m.2 = m2 at *
    go_wp2_with fail
    refine HTC.out.mono ?_
    rintro e w2 ⟨rfl, hb⟩
    obtain ⟨⟨b2, o2, rfl, c2⟩, hE2⟩ := HW2.out w2 hb
    have HB2 : Hid (Below W.heap.size W w2) := HB.out.trans (hb.mono HB.out.size)
    clear hb HTC HW2 HB hE2
    go_wp2_with fail
    go_ret
    exact ⟨by rw [HR2.out, HEV.out]; rfl, HB2.out⟩
  ·have hje : j = ks.length := by omega
   have HR2 : Hid (R = (0, 0)) := by unfold Hid; rw [HR.out, hje, List.drop_length]; rfl
   clear HR HI HJ HE HKS HT HLEN hje
   go_wp2_with fail
   go_ret
   exact ⟨by rw [HR2.out]; rfl, HB.out⟩
end Go.Proofs.YteeklmgkhacbcaaGreatDoor
namespace Go.Proofs.YteeklmgkhacbcaaGreatDoor
open Go.RowKit
set_option linter.unusedVariables false
def TypesOk (V : List LVar) : Prop := ∀ i : Nat, i < V.length → (V.getD i default).type = 1 ∨ (V.getD i default).type = 2
theorem varFrom_nat (nm : List UInt8) (V : List LVar) : varFrom nm V 0 < 0 ∨ ∃ i : Nat, varFrom nm V 0 = i ∧ i < V.length := by
 rcases varFrom_or nm V 0 with h | ⟨j, h, hj⟩
 ·exact .inl (by omega)
 ·exact .inr ⟨j, h, by omega⟩
theorem plainT_bool {V : List LVar} (hV : TypesOk V) (n : LNode) : plainT V n = if boolB V n = true then 2 else 1 := by
 unfold plainT boolB
 by_cases h5 : n.kind = 5
 ·rw [if_neg (show ¬ (n.kind = 2 ∨ n.kind = 3) by omega), if_pos h5, if_pos h5, if_pos rfl]
 rw [if_neg h5, if_neg h5]
 by_cases h6 : n.kind = 6
 ·rw [if_neg (show ¬ (n.kind = 2 ∨ n.kind = 3) by omega), if_pos h6, if_pos h6]
  by_cases ho : 6 ≤ n.op
  ·rw [if_pos ho, decide_eq_true (by omega), if_pos rfl]
  ·rw [if_neg ho, decide_eq_false (by omega), if_neg (by decide)]
 rw [if_neg h6, if_neg h6]
 by_cases h23 : n.kind = 2 ∨ n.kind = 3
 ·rw [if_pos h23, if_pos h23]
  rcases varFrom_nat n.name V with h | ⟨i, h, hi⟩
  ·rw [if_pos h, decide_eq_false (by omega), if_neg (by decide)]
  ·rw [h, if_neg (by omega), Int.toNat_natCast]
   rcases hV i hi with e | e
   ·rw [e, decide_eq_false (by omega), if_neg (by decide)]
   ·rw [e, decide_eq_true ⟨by omega, rfl⟩, if_pos rfl]
 ·rw [if_neg h23, if_neg h23, if_neg (by decide)]
theorem sides_want {V : List LVar} (hV : TypesOk V) (N : List LNode) (n : LNode) : sidesT V N n = wantF V N n := by
 unfold sidesT wantF
 by_cases h10 : n.op = 10
 ·rw [if_neg (by omega), if_pos h10, if_pos h10]
  unfold sameF
  by_cases hk : (nodeOf N (n.kids.getD 0 0)).kind = 1
  ·rw [if_pos hk, if_pos hk]; exact plainT_bool hV _
  ·rw [if_neg hk, if_neg hk]; exact plainT_bool hV _
 rw [if_neg h10, if_neg h10]
theorem named_name {V : List LVar} {nv : Nat} {n : LNode} {x : Int} (hk : n.kind = 2) : namedF V nv n x = (nameF V nv n.name false x (0, 0)).2 := by
 unfold namedF nameF
 by_cases h : varFrom n.name V 0 < 0
 ·rw [if_pos (Or.inl h : varFrom n.name V 0 < 0 ∨ ((nv : Int) ≤ varFrom n.name V 0 ∧ n.kind ≠ 2)), if_pos (Or.inl h : varFrom n.name V 0 < 0 ∨ (false = true ∧ (nv : Int) ≤ varFrom n.name V 0))]; rfl
 have n1 : ¬ (varFrom n.name V 0 < 0 ∨ ((nv : Int) ≤ varFrom n.name V 0 ∧ n.kind ≠ 2)) := by omega
 have n2 : ¬ (varFrom n.name V 0 < 0 ∨ (false = true ∧ (nv : Int) ≤ varFrom n.name V 0)) := fun e => e.elim h (fun e => Bool.noConfusion e.1)
 rw [if_neg n1, if_neg n2, decide_eq_false (show ¬ (n.kind = 3 ∨ n.kind = 8) by omega)]
 by_cases hs : 0 < (V.getD (varFrom n.name V 0).toNat default).size
 ·rw [decide_eq_true hs, if_pos (by decide), if_pos (by decide)]; rfl
 ·rw [decide_eq_false hs, if_neg (by decide), if_neg (by decide)]
theorem named_item {V : List LVar} {nv : Nat} {n : LNode} {x : Int} (hk : n.kind = 3) : namedF V nv n x = (nameF V nv n.name true x (0, 0)).2 := by
 unfold namedF nameF
 by_cases h : varFrom n.name V 0 < 0 ∨ (nv : Int) ≤ varFrom n.name V 0
 ·have h2 : varFrom n.name V 0 < 0 ∨ ((true : Bool) = true ∧ (nv : Int) ≤ varFrom n.name V 0) := h.imp id (fun e => ⟨rfl, e⟩)
  rw [if_pos (h.imp id (fun e => ⟨e, by omega⟩)), if_pos h2]; rfl
 have n1 : ¬ (varFrom n.name V 0 < 0 ∨ ((nv : Int) ≤ varFrom n.name V 0 ∧ n.kind ≠ 2)) := by omega
 have n2 : ¬ (varFrom n.name V 0 < 0 ∨ (true = true ∧ (nv : Int) ≤ varFrom n.name V 0)) := fun e => h (e.imp id (fun e => e.2))
 rw [if_neg n1, if_neg n2, decide_eq_true (show n.kind = 3 ∨ n.kind = 8 by omega)]
 by_cases hs : 0 < (V.getD (varFrom n.name V 0).toNat default).size
 ·rw [decide_eq_true hs, if_neg (by decide), if_neg (by decide)]
 ·rw [decide_eq_false hs, if_pos (by decide), if_pos (by decide)]; rfl
theorem metT_num {V : List LVar} {T : LTree} {f : Nat} {x : Int} (hk : (nodeOf T.nodes x).kind = 1) : metT V T (f + 1) x = (0, 0) := by
 unfold metT; simp only [typeF]; rw [if_pos hk]
theorem metT_name {V : List LVar} {T : LTree} {f : Nat} {x : Int} (hk : (nodeOf T.nodes x).kind = 2) : metT V T (f + 1) x = namedF V T.vars.length (nodeOf T.nodes x) x := by
 unfold metT; simp only [typeF]; rw [if_neg (by omega), if_pos hk, named_name hk]
theorem metT_item {V : List LVar} {T : LTree} {f : Nat} {x k : Int} (hk : (nodeOf T.nodes x).kind = 3) (hks : (nodeOf T.nodes x).kids = [k]) : metT V T (f + 1) x = if (namedF V T.vars.length (nodeOf T.nodes x) x).1 ≠ 0 then namedF V T.vars.length (nodeOf T.nodes x) x else mustsF V T f [k] [1] (namedF V T.vars.length (nodeOf T.nodes x) x) := by
 have e : metT V T (f + 1) x = mustsF V T f [k] [1] (namedF V T.vars.length (nodeOf T.nodes x) x) := by
  unfold metT; simp only [typeF]; rw [if_neg (by omega), if_neg (by omega), if_pos hk, named_item hk, hks]; rfl
 rw [e]
 split
 ·rename_i h; exact mustsF_met _ _ _ _ _ _ h
 ·rfl
theorem metT_neg {V : List LVar} {T : LTree} {f : Nat} {x k : Int} (hk : (nodeOf T.nodes x).kind = 4) (hks : (nodeOf T.nodes x).kids = [k]) : metT V T (f + 1) x = mustsF V T f [k] [1] (0, 0) := by
 unfold metT; simp only [typeF]; rw [if_neg (by omega), if_neg (by omega), if_neg (by omega), if_pos hk, hks]; rfl
theorem metT_not {V : List LVar} {T : LTree} {f : Nat} {x k : Int} (hk : (nodeOf T.nodes x).kind = 5) (hks : (nodeOf T.nodes x).kids = [k]) : metT V T (f + 1) x = mustsF V T f [k] [2] (0, 0) := by
 unfold metT; simp only [typeF]; rw [if_neg (by omega), if_neg (by omega), if_neg (by omega), if_neg (by omega), if_pos hk, hks]; rfl
theorem metT_two {V : List LVar} {T : LTree} {f : Nat} {x k l : Int} (hV : TypesOk V) (hk : (nodeOf T.nodes x).kind = 6) (hks : (nodeOf T.nodes x).kids = [k, l]) : metT V T (f + 1) x = mustsF V T f [k, l] [sidesT V T.nodes (nodeOf T.nodes x), sidesT V T.nodes (nodeOf T.nodes x)] (0, 0) := by
 rw [sides_want hV]
 unfold metT; simp only [typeF]; rw [if_neg (by omega), if_neg (by omega), if_neg (by omega), if_neg (by omega), if_neg (by omega), hks]; rfl
end Go.Proofs.YteeklmgkhacbcaaGreatDoor
