/-
  spec.CostOf, impl.CostOf.
-/
import Derived.Test.YtbgnmocbpigpmaaSCost
import Derived.Test.YtbgnmocbpigpmaaICost
import Derived.Test.YtbgnmocbpigpmaaIFault
import Derived.Test.YtbgnmocbpigpmaaTwo
import Derived.Test.YtbgnmocbpigpmaaTwo
import Derived.Test.YtbgnmocbpigpmaaTwo
namespace Go.Proofs.Ytbgnmocbpigpmaa
open Go.RowKit
set_option linter.unusedVariables false
attribute [local go_sem] bs_size bs_get bs_extract bs_append bs_eq bs_toList

def cosC (T : LTree) (k : Int) : Int := if faultL T ≠ 0 then faultL T else if inB k 0 ((T.nodes.length : Int) - 1) then 0 else 3
def cosV (T : LTree) (k : Int) : Int := if faultL T ≠ 0 then 0 else if inB k 0 ((T.nodes.length : Int) - 1) then (costsF T.nodes T.nodes.length).getD k.toNat 0 else 0

set_option maxHeartbeats 6400000 in
set_option maxRecDepth 100000 in
theorem specCostOf : TreeAt 13 cosC cosV := by
  intro lo vv vn vb T k w h hS
  have HF : Hid (∀ (p : Nat) (w' : World), TreeP lo w' p vv vn vb T → Calls Try.prog 45 #[.pointer (some ⟨p, 0, none⟩)] w' fun e w2 => e = .returned (.int .i64 (faultL T)) ∧ Below w'.heap.size w' w2) := fun p w' hp =>
    l4Fault_any lo p vv vn vb T w' hp hS (fun hn k W hb hk => l4Right_any lo p vv vn vb T k W (hp.below hb) hS hn hk)
  have HD : Hid (∀ (p : Nat) (w' : World), TreeP lo w' p vv vn vb T → faultL T = 0 → Calls Try.prog 47 #[.pointer (some ⟨p, 0, none⟩)] w' fun e w2 => ∃ v, e = .returned v ∧ Own w2 w'.heap.size v (costsF T.nodes T.nodes.length) ∧ Below w'.heap.size w' w2) := fun p w' hp h0 => l5Costs_any lo p vv vn vb T w' hp (good_of h0) hS
  have hlen := hS.nodes
  obtain ⟨av, cv, rfl, _⟩ := id h.vars
  obtain ⟨an, cn, rfl, _⟩ := id h.nodes
  obtain ⟨ab, cb, rfl, _⟩ := id h.body
  have HT : Hid (TreeV lo w (.slice av T.vars.length cv) (.slice an T.nodes.length cn) (.slice ab T.body.length cb) T) := h
  have HC : Hid (cosC T k = if faultL T ≠ 0 then faultL T else if inB k 0 ((T.nodes.length : Int) - 1) then 0 else 3) := rfl
  have HV : Hid (cosV T k = if faultL T ≠ 0 then 0 else if inB k 0 ((T.nodes.length : Int) - 1) then (costsF T.nodes T.nodes.length).getD k.toNat 0 else 0) := rfl
  clear h hS
  obtain ⟨q, hq⟩ : ∃ q, inB k 0 ((T.nodes.length : Int) - 1) = q := ⟨_, rfl⟩
  have hI : Hid (∀ w, Calls Try.prog 46 #[.int .i64 k, .int .i64 0, .int .i64 ((T.nodes.length : Int) - 1)] w fun e w' => e = .returned (.bool q) ∧ w' = w) := fun w => by have h := l1In_any k 0 ((T.nodes.length : Int) - 1) w; rwa [hq] at h
  go_enter Try.func13, Try.ntmps13
  go_wp2_with fail
  obtain ⟨hA, hA2, hB⟩ := two_start w (.slice av T.vars.length cv) (.slice an T.nodes.length cn) (.slice ab T.body.length cb) 34 29
  generalize ((w.alloc (.cells #[.slice av T.vars.length cv, .slice an T.nodes.length cn, .slice ab T.body.length cb] 34)).alloc (.cells #[.int .i64 0, .int .i64 0] 29)) = W at *
  refine (HF.out _ _ ⟨cell_of_row _ _ 0 _ _ _ hA, cell_of_row _ _ 1 _ _ _ hA, cell_of_row _ _ 2 _ _ _ hA, HT.out.below hB⟩).mono ?_
  rintro e w2 ⟨rfl, hb⟩
  have HA : Hid (w2.heap[w.heap.size]? = some (.cells #[.slice av T.vars.length cv, .slice an T.nodes.length cn, .slice ab T.body.length cb] 34 (0, 0))) := blk hA hb
  have HA2 : Hid (w2.heap[w.heap.size + 1]? = some (.cells #[.int .i64 0, .int .i64 0] 29 (0, 0))) := blk hA2 hb
  have HB : Hid (Below w.heap.size w w2) := hB.trans (hb.mono hB.size)
  clear hA hA2 hB hb HF
  have p1 : w2.cell? ⟨w.heap.size, 1, none⟩ = some (.slice an T.nodes.length cn) := cell_of_row _ _ 1 _ _ _ HA.out
  have r0 := cell_of_row _ _ 0 _ _ _ HA2.out
  have r1 := cell_of_row _ _ 1 _ _ _ HA2.out
  have f0 := frozen_of_row _ _ 0 _ _ HA2.out
  have f1 := frozen_of_row _ _ 1 _ _ HA2.out
  simp at r0 r1 f0 f1
  obtain ⟨F, hF⟩ : ∃ F, faultL T = F := ⟨_, rfl⟩
  rw [hF]
  by_cases hz : F = 0
  · subst hz
    have hfs : (0 : Int) = 0 := rfl
    cases q with
    | false =>
      have HCV : Hid (cosC T k = 3 ∧ cosV T k = 0) := ⟨by rw [HC.out, hF, hq]; rfl, by rw [HV.out, hF, hq]; rfl⟩
      clear hF hq HC HV hfs
      go_wp2_with fail
      refine (hI.out _).mono ?_
      rintro e w3 ⟨rfl, rfl⟩
      go_wp2_with fail
      refine bodyPost_ret (v := .agg #[.int .i64 3, .int .i64 0]) (by simp [results, Try.results13, go_sem, r0, r1]) rfl ⟨by rw [HCV.out.1, HCV.out.2], (HB.out.setCell (by simp) _).setCell (by simp) _⟩
    | true =>
      have hq2 := inB_iff.1 hq
      obtain ⟨j, rfl⟩ : ∃ j : Nat, k = j := ⟨k.toNat, by omega⟩
      have hj : j < T.nodes.length := by omega
      have HCV : Hid (cosC T (j : Int) = 0 ∧ cosV T (j : Int) = (costsF T.nodes T.nodes.length).getD j 0) := ⟨by rw [HC.out, hF, hq]; rfl, by rw [HV.out, hF, hq]; rfl⟩
      have HTP : Hid (TreeP lo w2 w.heap.size (.slice av T.vars.length cv) (.slice an T.nodes.length cn) (.slice ab T.body.length cb) T) := ⟨cell_of_row _ _ 0 _ _ _ HA.out, cell_of_row _ _ 1 _ _ _ HA.out, cell_of_row _ _ 2 _ _ _ HA.out, HT.out.below HB.out⟩
      have HDC : Hid (Calls Try.prog 47 #[.pointer (some ⟨w.heap.size, 0, none⟩)] w2 fun e w3 => ∃ v, e = .returned v ∧ Own w3 w2.heap.size v (costsF T.nodes T.nodes.length) ∧ Below w2.heap.size w2 w3) := HD.out _ _ HTP.out hF
      clear hF hq hq2 HC HV HD hfs
      go_wp2_with fail
      refine (hI.out _).mono ?_
      rintro e w3 ⟨rfl, rfl⟩
      go_wp2_with fail
      refine HDC.out.mono ?_
      rintro e w4 ⟨v, rfl, hown, hb⟩
      obtain ⟨ad, cp, rfl⟩ := own_shape hown
      have hn := nums_of_own hown
      have hA2 := blk HA2.out hb
      have HB2 : Hid (Below w.heap.size w w4) := HB.out.trans (hb.mono HB.out.size)
      have hdl : (costsF T.nodes T.nodes.length).length = T.nodes.length := costsF_len _ _
      rcases hn.2 with hz | ⟨g3, o3, rfl, hc3⟩
      · rw [hz] at hdl; simp at hdl; omega
      have c3 := hc3 j (by omega)
      clear r0 r1 f0 f1 p1
      have r0 := cell_of_row _ _ 0 _ _ _ hA2
      have r1 := cell_of_row _ _ 1 _ _ _ hA2
      have f0 := frozen_of_row _ _ 0 _ _ hA2
      have f1 := frozen_of_row _ _ 1 _ _ hA2
      simp at r0 r1 f0 f1
      have hj0 : (0 : Int) ≤ (j : Int) := by omega
      have hj1 : (j : Int) < ((costsF T.nodes T.nodes.length).length : Int) := by omega
      obtain ⟨ds, hds⟩ : ∃ ds, ds = costsF T.nodes T.nodes.length := ⟨_, rfl⟩
      rw [← hds] at HCV c3 hj1 hdl ⊢
      clear hn hc3 hown hA2 hb hds
      generalize ds.getD j 0 = z at *
      go_wp2_with fail
      refine bodyPost_ret (v := .agg #[.int .i64 0, .int .i64 z]) (by simp [results, Try.results13, go_sem, r0, r1]) rfl ⟨by rw [HCV.out.1, HCV.out.2], (HB2.out.setCell (by simp) _).setCell (by simp) _⟩
  · have HCV : Hid (cosC T k = F ∧ cosV T k = 0) := ⟨by rw [HC.out, hF, if_pos hz], by rw [HV.out, hF, if_pos hz]⟩
    have hz1 : (F == 0) = false := by simpa using hz
    have hz2 : decide (F = 0) = false := decide_eq_false hz
    clear HC HV hF hq hI
    go_wp2_with fail
    refine bodyPost_ret (v := .agg #[.int .i64 F, .int .i64 0]) (by simp [results, Try.results13, go_sem, r0, r1]) rfl ⟨by rw [HCV.out.1, HCV.out.2], (HB.out.setCell (by simp) _).setCell (by simp) _⟩

set_option maxHeartbeats 6400000 in
set_option maxRecDepth 100000 in
theorem implCostOf : TreeAt 15 cosC cosV := by
  intro lo vv vn vb T k w h hS
  have hlen := hS.nodes
  obtain ⟨av, cv, rfl, _⟩ := id h.vars
  obtain ⟨an, cn, rfl, _⟩ := id h.nodes
  obtain ⟨ab, cb, rfl, _⟩ := id h.body
  have HF : Hid (∀ (w' : World), Below w.heap.size w w' → Calls Try.prog 29 #[treeV (.slice av T.vars.length cv) (.slice an T.nodes.length cn) (.slice ab T.body.length cb)] w' fun e w2 => e = .returned (.int .i64 (faultL T)) ∧ Below w'.heap.size w' w2) := fun w' hb =>
    implTreeFault lo _ _ _ T w' (h.below hb) hS
  have HD : Hid (∀ (w' : World), Below w.heap.size w w' → faultL T = 0 → Calls Try.prog 52 #[.slice an T.nodes.length cn] w' fun e w2 => e = .returned (.slice (some ⟨w'.heap.size, 0, none⟩) T.nodes.length T.nodes.length) ∧ Cnt w2 w'.heap.size 2 (costsF T.nodes T.nodes.length) ∧ Below w'.heap.size w' w2) := fun w' hb h0 =>
    costs_any lo an cn T.nodes w' (h.nodes.below hb) (good_of h0).nodes ((good_of h0).tame hS) (fun k n hk => ((good_of h0).node k n hk).2)
  have HC : Hid (cosC T k = if faultL T ≠ 0 then faultL T else if inB k 0 ((T.nodes.length : Int) - 1) then 0 else 3) := rfl
  have HV : Hid (cosV T k = if faultL T ≠ 0 then 0 else if inB k 0 ((T.nodes.length : Int) - 1) then (costsF T.nodes T.nodes.length).getD k.toNat 0 else 0) := rfl
  clear h hS
  obtain ⟨q, hq⟩ : ∃ q, inB k 0 ((T.nodes.length : Int) - 1) = q := ⟨_, rfl⟩
  have hI : Hid (∀ w, Calls Try.prog 51 #[.slice an T.nodes.length cn, .int .i64 k] w fun e w' => e = .returned (.bool q) ∧ w' = w) := fun w => by have h := isPlace_any an T.nodes.length cn k w (by omega); rwa [hq] at h
  go_enter Try.func15, Try.ntmps15
  go_wp2_with fail
  obtain ⟨hA, hA2, hB⟩ := two_start w (.slice av T.vars.length cv) (.slice an T.nodes.length cn) (.slice ab T.body.length cb) 34 29
  generalize ((w.alloc (.cells #[.slice av T.vars.length cv, .slice an T.nodes.length cn, .slice ab T.body.length cb] 34)).alloc (.cells #[.int .i64 0, .int .i64 0] 29)) = W at *
  refine (HF.out _ hB).mono ?_
  rintro e w2 ⟨rfl, hb⟩
  have HA : Hid (w2.heap[w.heap.size]? = some (.cells #[.slice av T.vars.length cv, .slice an T.nodes.length cn, .slice ab T.body.length cb] 34 (0, 0))) := blk hA hb
  have HA2 : Hid (w2.heap[w.heap.size + 1]? = some (.cells #[.int .i64 0, .int .i64 0] 29 (0, 0))) := blk hA2 hb
  have HB : Hid (Below w.heap.size w w2) := hB.trans (hb.mono hB.size)
  clear hA hA2 hB hb HF
  have p1 : w2.cell? ⟨w.heap.size, 1, none⟩ = some (.slice an T.nodes.length cn) := cell_of_row _ _ 1 _ _ _ HA.out
  have r0 := cell_of_row _ _ 0 _ _ _ HA2.out
  have r1 := cell_of_row _ _ 1 _ _ _ HA2.out
  have f0 := frozen_of_row _ _ 0 _ _ HA2.out
  have f1 := frozen_of_row _ _ 1 _ _ HA2.out
  simp at r0 r1 f0 f1
  obtain ⟨F, hF⟩ : ∃ F, faultL T = F := ⟨_, rfl⟩
  rw [hF]
  by_cases hz : F = 0
  · subst hz
    cases q with
    | false =>
      have HCV : Hid (cosC T k = 3 ∧ cosV T k = 0) := ⟨by rw [HC.out, hF, hq]; rfl, by rw [HV.out, hF, hq]; rfl⟩
      clear hF hq HC HV
      go_wp2_with fail
      refine (hI.out _).mono ?_
      rintro e w3 ⟨rfl, rfl⟩
      go_wp2_with fail
      refine bodyPost_ret (v := .agg #[.int .i64 3, .int .i64 0]) (by simp [results, Try.results15, go_sem, r0, r1]) rfl ⟨by rw [HCV.out.1, HCV.out.2], (HB.out.setCell (by simp) _).setCell (by simp) _⟩
    | true =>
      have hq2 := inB_iff.1 hq
      obtain ⟨j, rfl⟩ : ∃ j : Nat, k = j := ⟨k.toNat, by omega⟩
      have hj : j < T.nodes.length := by omega
      have HCV : Hid (cosC T (j : Int) = 0 ∧ cosV T (j : Int) = (costsF T.nodes T.nodes.length).getD j 0) := ⟨by rw [HC.out, hF, hq]; rfl, by rw [HV.out, hF, hq]; rfl⟩
      have HDC : Hid (Calls Try.prog 52 #[.slice an T.nodes.length cn] w2 fun e w3 => e = .returned (.slice (some ⟨w2.heap.size, 0, none⟩) T.nodes.length T.nodes.length) ∧ Cnt w3 w2.heap.size 2 (costsF T.nodes T.nodes.length) ∧ Below w2.heap.size w2 w3) := HD.out _ HB.out hF
      clear hF hq hq2 HC HV HD
      go_wp2_with fail
      refine (hI.out _).mono ?_
      rintro e w3 ⟨rfl, rfl⟩
      go_wp2_with fail
      refine HDC.out.mono ?_
      rintro e w4 ⟨rfl, hcnt, hb⟩
      have hA2 := blk HA2.out hb
      have HB2 : Hid (Below w.heap.size w w4) := HB.out.trans (hb.mono HB.out.size)
      have hdl : (costsF T.nodes T.nodes.length).length = T.nodes.length := costsF_len _ _
      have c3 := (hcnt.cell j (by omega)).1
      clear r0 r1 f0 f1 p1
      have r0 := cell_of_row _ _ 0 _ _ _ hA2
      have r1 := cell_of_row _ _ 1 _ _ _ hA2
      have f0 := frozen_of_row _ _ 0 _ _ hA2
      have f1 := frozen_of_row _ _ 1 _ _ hA2
      simp at r0 r1 f0 f1
      have hj0 : (0 : Int) ≤ (j : Int) := by omega
      have hj1 : (j : Int) < (T.nodes.length : Int) := by omega
      obtain ⟨ds, hds⟩ : ∃ ds, ds = costsF T.nodes T.nodes.length := ⟨_, rfl⟩
      rw [← hds] at HCV c3 hdl
      clear hcnt hA2 hb hds
      generalize ds.getD j 0 = z at *
      go_wp2_with fail
      refine bodyPost_ret (v := .agg #[.int .i64 0, .int .i64 z]) (by simp [results, Try.results15, go_sem, r0, r1]) rfl ⟨by rw [HCV.out.1, HCV.out.2], (HB2.out.setCell (by simp) _).setCell (by simp) _⟩
  · have HCV : Hid (cosC T k = F ∧ cosV T k = 0) := ⟨by rw [HC.out, hF, if_pos hz], by rw [HV.out, hF, if_pos hz]⟩
    have hz1 : (F == 0) = false := by simpa using hz
    have hz2 : decide (F = 0) = false := decide_eq_false hz
    clear HC HV hF hq hI
    go_wp2_with fail
    refine bodyPost_ret (v := .agg #[.int .i64 F, .int .i64 0]) (by simp [results, Try.results15, go_sem, r0, r1]) rfl ⟨by rw [HCV.out.1, HCV.out.2], (HB.out.setCell (by simp) _).setCell (by simp) _⟩
end Go.Proofs.Ytbgnmocbpigpmaa
