/-
  spec.DepthOf, impl.DepthOf.
-/
import Derived.Test.YtbgnmocbpigpmaaSDeep
import Derived.Test.YtbgnmocbpigpmaaLawTree2
namespace Go.Proofs.Ytbgnmocbpigpmaa
open Go.RowKit
set_option linter.unusedVariables false
attribute [local go_sem] bs_size bs_get bs_extract bs_append bs_eq bs_toList

def depC (T : LTree) (k : Int) : Int := if inB k 0 ((T.nodes.length : Int) - 1) then 0 else 3
def depV (T : LTree) (k : Int) : Int := if inB k 0 ((T.nodes.length : Int) - 1) then (depthsF T.nodes T.nodes.length).getD k.toNat 0 else 0

set_option maxHeartbeats 6400000 in
set_option maxRecDepth 100000 in
theorem specDepthOf : TreeAt 32 depC depV := by
  intro lo vv vn vb T k w h hS
  have HD : Hid (∀ (p : Nat) (w' : World), TreeP lo w' p vv vn vb T → Calls Try.prog 77 #[.pointer (some ⟨p, 0, none⟩)] w' fun e w2 => ∃ v, e = .returned v ∧ Own w2 w'.heap.size v (depthsF T.nodes T.nodes.length) ∧ Below w'.heap.size w' w2) := fun p w' hp => l4Depths_any lo p vv vn vb T w' hp hS.nodes (fun n hn => (hS.node n hn).2)
  have hlen := hS.nodes
  obtain ⟨av, cv, rfl, _⟩ := id h.vars
  obtain ⟨an, cn, rfl, _⟩ := id h.nodes
  obtain ⟨ab, cb, rfl, _⟩ := id h.body
  have HT : Hid (TreeV lo w (.slice av T.vars.length cv) (.slice an T.nodes.length cn) (.slice ab T.body.length cb) T) := h
  have HC : Hid (depC T k = if inB k 0 ((T.nodes.length : Int) - 1) then 0 else 3) := rfl
  have HV : Hid (depV T k = if inB k 0 ((T.nodes.length : Int) - 1) then (depthsF T.nodes T.nodes.length).getD k.toNat 0 else 0) := rfl
  clear h hS
  obtain ⟨q, hq⟩ : ∃ q, inB k 0 ((T.nodes.length : Int) - 1) = q := ⟨_, rfl⟩
  have hI : Hid (∀ w, Calls Try.prog 46 #[.int .i64 k, .int .i64 0, .int .i64 ((T.nodes.length : Int) - 1)] w fun e w' => e = .returned (.bool q) ∧ w' = w) := fun w => by have h := l1In_any k 0 ((T.nodes.length : Int) - 1) w; rwa [hq] at h
  go_enter Try.func32, Try.ntmps32
  go_wp2_with fail
  have hA := heap_alloc_new w (.cells #[.slice av T.vars.length cv, .slice an T.nodes.length cn, .slice ab T.body.length cb] 34)
  have hB : Below w.heap.size w (w.alloc (.cells #[.slice av T.vars.length cv, .slice an T.nodes.length cn, .slice ab T.body.length cb] 34)) := (Below.refl _ _).alloc (Nat.le_refl _) _
  have hZ : (w.alloc (.cells #[.slice av T.vars.length cv, .slice an T.nodes.length cn, .slice ab T.body.length cb] 34)).heap.size = w.heap.size + 1 := by simp
  generalize w.alloc (.cells #[.slice av T.vars.length cv, .slice an T.nodes.length cn, .slice ab T.body.length cb] 34) = W0 at *
  have hA2 := heap_alloc_new W0 (.cells #[.int .i64 0, .int .i64 0] 29)
  have hB2 : Below W0.heap.size W0 (W0.alloc (.cells #[.int .i64 0, .int .i64 0] 29)) := (Below.refl _ _).alloc (Nat.le_refl _) _
  have hZ2 : (W0.alloc (.cells #[.int .i64 0, .int .i64 0] 29)).heap.size = w.heap.size + 2 := by simp [hZ]
  generalize W0.alloc (.cells #[.int .i64 0, .int .i64 0] 29) = W at *
  rw [hZ] at hA2 hB2
  have hA1 := blk hA (by rw [hZ]; exact hB2)
  have HB : Hid (Below w.heap.size w W) := hB.trans (hB2.mono (by omega))
  have HA : Hid (W.heap[w.heap.size]? = some (.cells #[.slice av T.vars.length cv, .slice an T.nodes.length cn, .slice ab T.body.length cb] 34 (0, 0))) := hA1
  have HA2 : Hid (W.heap[w.heap.size + 1]? = some (.cells #[.int .i64 0, .int .i64 0] 29 (0, 0))) := hA2
  clear hA hB hA2 hB2 hA1 hZ
  clear W0
  have p1 : W.cell? ⟨w.heap.size, 1, none⟩ = some (.slice an T.nodes.length cn) := cell_of_row _ _ 1 _ _ _ HA.out
  refine (hI.out _).mono ?_
  rintro e w1 ⟨rfl, rfl⟩
  cases q with
  | false =>
    have r0 := cell_of_row _ _ 0 _ _ _ HA2.out
    have r1 := cell_of_row _ _ 1 _ _ _ HA2.out
    have f0 := frozen_of_row _ _ 0 _ _ HA2.out
    have f1 := frozen_of_row _ _ 1 _ _ HA2.out
    simp at r0 r1 f0 f1
    have hc : depC T k = 3 := by rw [HC.out, hq]; rfl
    have hv : depV T k = 0 := by rw [HV.out, hq]; rfl
    have HCV : Hid (depC T k = 3 ∧ depV T k = 0) := ⟨hc, hv⟩
    clear hc hv hq
    go_wp2_with fail
    refine bodyPost_ret (v := .agg #[.int .i64 3, .int .i64 0]) (by simp [results, Try.results32, go_sem, r0, r1]) rfl ⟨by rw [HCV.out.1, HCV.out.2], (HB.out.setCell (by simp) _).setCell (by simp) _⟩
  | true =>
    have hq2 := inB_iff.1 hq
    obtain ⟨j, rfl⟩ : ∃ j : Nat, k = j := ⟨k.toNat, by omega⟩
    have hj : j < T.nodes.length := by omega
    have hc : depC T (j : Int) = 0 := by rw [HC.out, hq]; rfl
    have hv : depV T (j : Int) = (depthsF T.nodes T.nodes.length).getD j 0 := by rw [HV.out, hq]; rfl
    have HCV : Hid (depC T (j : Int) = 0 ∧ depV T (j : Int) = (depthsF T.nodes T.nodes.length).getD j 0) := ⟨hc, hv⟩
    have HTP : Hid (TreeP lo w1 w.heap.size (.slice av T.vars.length cv) (.slice an T.nodes.length cn) (.slice ab T.body.length cb) T) := ⟨cell_of_row _ _ 0 _ _ _ HA.out, cell_of_row _ _ 1 _ _ _ HA.out, cell_of_row _ _ 2 _ _ _ HA.out, HT.out.below HB.out⟩
    clear hc hv hq hq2 HC HV
    go_wp2_with fail
    refine (HD.out _ _ HTP.out).mono ?_
    rintro e w2 ⟨v, rfl, hown, hb⟩
    obtain ⟨ad, cp, rfl⟩ := own_shape hown
    have hn := nums_of_own hown
    have hA2 := blk HA2.out hb
    have HB2 : Hid (Below w.heap.size w w2) := HB.out.trans (hb.mono HB.out.size)
    have r0 := cell_of_row _ _ 0 _ _ _ hA2
    have r1 := cell_of_row _ _ 1 _ _ _ hA2
    have f0 := frozen_of_row _ _ 0 _ _ hA2
    have f1 := frozen_of_row _ _ 1 _ _ hA2
    simp at r0 r1 f0 f1
    have hdl : (depthsF T.nodes T.nodes.length).length = T.nodes.length := depthsF_len _ _
    rcases hn.2 with hz | ⟨g3, o3, rfl, hc3⟩
    · rw [hz] at hdl; simp at hdl; omega
    have c3 := hc3 j (by omega)
    have hj0 : (0 : Int) ≤ (j : Int) := by omega
    have hj1 : (j : Int) < ((depthsF T.nodes T.nodes.length).length : Int) := by omega
    obtain ⟨ds, hds⟩ : ∃ ds, ds = depthsF T.nodes T.nodes.length := ⟨_, rfl⟩
    rw [← hds] at HCV c3 hj1 hdl ⊢
    clear hn hc3 hown hA2 hb hds
    generalize ds.getD j 0 = z at *
    go_wp2_with fail
    refine bodyPost_ret (v := .agg #[.int .i64 0, .int .i64 z]) (by simp [results, Try.results32, go_sem, r0, r1]) rfl ⟨by rw [HCV.out.1, HCV.out.2], (HB2.out.setCell (by simp) _).setCell (by simp) _⟩

def depI (T : LTree) (k : Int) : Int := k
set_option maxHeartbeats 6400000 in
set_option maxRecDepth 100000 in
theorem implDepthOf : TreeAt 33 depC depV := by
  intro lo vv vn vb T k w h hS
  have hlen := hS.nodes
  obtain ⟨av, cv, rfl, _⟩ := id h.vars
  obtain ⟨an, cn, rfl, hcn, hhn⟩ := id h.nodes
  obtain ⟨ab, cb, rfl, _⟩ := id h.body
  have HD : Hid (∀ (m : Nat) (w' : World), m ≤ T.nodes.length → Below w.heap.size w w' → Calls Try.prog 78 #[.slice an m cn] w' fun e w2 => e = .returned (.slice (some ⟨w'.heap.size, 0, none⟩) m m) ∧ Cnt w2 w'.heap.size 2 (depthsF (T.nodes.take m) m) ∧ Below w'.heap.size w' w2) := fun m w' hm hb => by
    have hl : (T.nodes.take m).length = m := by simp; omega
    have hN := h.nodes.below hb
    obtain ⟨_, _, he, h2, h3⟩ := hN
    cases he
    have := depths_any lo an cn (T.nodes.take m) w' ⟨an, cn, rfl, by omega, fun hne => by
      obtain ⟨b, o, e, hl2, hc⟩ := h3 (by rintro e; rw [e] at hne; simp at hne)
      exact ⟨b, o, e, hl2, fun i x hx => hc i x (by
        rw [List.getElem?_take] at hx
        split at hx
        · exact hx
        · cases hx)⟩⟩ (by omega) (fun n hn => (hS.node n (List.mem_of_mem_take hn)).2)
    rw [hl] at this
    exact this
  have HT : Hid (TreeV lo w (.slice av T.vars.length cv) (.slice an T.nodes.length cn) (.slice ab T.body.length cb) T) := h
  have HC : Hid (depC T k = if inB k 0 ((T.nodes.length : Int) - 1) then 0 else 3) := rfl
  have HV : Hid (depV T k = if inB k 0 ((T.nodes.length : Int) - 1) then (depthsF T.nodes T.nodes.length).getD k.toNat 0 else 0) := rfl
  have HN : Hid (T.nodes ≠ [] → ∃ b o, an = some ⟨b, o, none⟩ ∧ lo ≤ b ∧ ∀ (i : Nat) (x : LNode), T.nodes[i]? = some x → NodeAt lo w b (o + i * 8) x) := hhn
  clear h hS hhn
  obtain ⟨q, hq⟩ : ∃ q, inB k 0 ((T.nodes.length : Int) - 1) = q := ⟨_, rfl⟩
  have hI : Hid (∀ w, Calls Try.prog 51 #[.slice an T.nodes.length cn, .int .i64 k] w fun e w' => e = .returned (.bool q) ∧ w' = w) := fun w => by have h := isPlace_any an T.nodes.length cn k w (by omega); rwa [hq] at h
  go_enter Try.func33, Try.ntmps33
  go_wp2_with fail
  have hA := heap_alloc_new w (.cells #[.slice av T.vars.length cv, .slice an T.nodes.length cn, .slice ab T.body.length cb] 34)
  have hB : Below w.heap.size w (w.alloc (.cells #[.slice av T.vars.length cv, .slice an T.nodes.length cn, .slice ab T.body.length cb] 34)) := (Below.refl _ _).alloc (Nat.le_refl _) _
  have hZ : (w.alloc (.cells #[.slice av T.vars.length cv, .slice an T.nodes.length cn, .slice ab T.body.length cb] 34)).heap.size = w.heap.size + 1 := by simp
  generalize w.alloc (.cells #[.slice av T.vars.length cv, .slice an T.nodes.length cn, .slice ab T.body.length cb] 34) = W0 at *
  have hA2 := heap_alloc_new W0 (.cells #[.int .i64 0, .int .i64 0] 29)
  have hB2 : Below W0.heap.size W0 (W0.alloc (.cells #[.int .i64 0, .int .i64 0] 29)) := (Below.refl _ _).alloc (Nat.le_refl _) _
  generalize W0.alloc (.cells #[.int .i64 0, .int .i64 0] 29) = W at *
  rw [hZ] at hA2 hB2
  have hA1 := blk hA (by rw [hZ]; exact hB2)
  have HB : Hid (Below w.heap.size w W) := hB.trans (hB2.mono (by omega))
  have HA : Hid (W.heap[w.heap.size]? = some (.cells #[.slice av T.vars.length cv, .slice an T.nodes.length cn, .slice ab T.body.length cb] 34 (0, 0))) := hA1
  have HA2 : Hid (W.heap[w.heap.size + 1]? = some (.cells #[.int .i64 0, .int .i64 0] 29 (0, 0))) := hA2
  clear hA hB hA2 hB2 hA1 hZ
  clear W0
  have p1 : W.cell? ⟨w.heap.size, 1, none⟩ = some (.slice an T.nodes.length cn) := cell_of_row _ _ 1 _ _ _ HA.out
  refine (hI.out _).mono ?_
  rintro e w1 ⟨rfl, rfl⟩
  cases q with
  | false =>
    have r0 := cell_of_row _ _ 0 _ _ _ HA2.out
    have r1 := cell_of_row _ _ 1 _ _ _ HA2.out
    have f0 := frozen_of_row _ _ 0 _ _ HA2.out
    have f1 := frozen_of_row _ _ 1 _ _ HA2.out
    simp at r0 r1 f0 f1
    have hc : depC T k = 3 := by rw [HC.out, hq]; rfl
    have hv : depV T k = 0 := by rw [HV.out, hq]; rfl
    have HCV : Hid (depC T k = 3 ∧ depV T k = 0) := ⟨hc, hv⟩
    clear hc hv hq
    go_wp2_with fail
    refine bodyPost_ret (v := .agg #[.int .i64 3, .int .i64 0]) (by simp [results, Try.results33, go_sem, r0, r1]) rfl ⟨by rw [HCV.out.1, HCV.out.2], (HB.out.setCell (by simp) _).setCell (by simp) _⟩
  | true =>
    have hq2 := inB_iff.1 hq
    obtain ⟨j, rfl⟩ : ∃ j : Nat, k = j := ⟨k.toNat, by omega⟩
    have hj : j < T.nodes.length := by omega
    have hc : depC T (j : Int) = 0 := by rw [HC.out, hq]; rfl
    have hv : depV T (j : Int) = (depthsF (T.nodes.take (j + 1)) (j + 1)).getD j 0 := by
      rw [HV.out, hq, depthsF_take T.nodes (j + 1) (j + 1) (Nat.le_refl _)]
      show (depthsF T.nodes T.nodes.length).getD ((j : Int)).toNat 0 = _
      rw [List.getD_eq_getElem?_getD, List.getD_eq_getElem?_getD, Int.toNat_natCast, depthsF_get _ _ _ hj, depthsF_get _ _ _ (Nat.lt_succ_self j)]
    have HCV : Hid (depC T (j : Int) = 0 ∧ depV T (j : Int) = (depthsF (T.nodes.take (j + 1)) (j + 1)).getD j 0) := ⟨hc, hv⟩
    obtain ⟨g2, o2, rfl, _⟩ := HN.out (by intro e; rw [e] at hj; simp at hj)
    have HDj : Hid (Calls Try.prog 78 #[.slice (some ⟨g2, o2, none⟩) (j + 1) cn] w1 fun e w2 => e = .returned (.slice (some ⟨w1.heap.size, 0, none⟩) (j + 1) (j + 1)) ∧ Cnt w2 w1.heap.size 2 (depthsF (T.nodes.take (j + 1)) (j + 1)) ∧ Below w1.heap.size w1 w2) := HD.out (j + 1) w1 (by omega) HB.out
    have hj0 : (0 : Int) ≤ (j : Int) := by omega
    have hj1 : (j : Int) < (T.nodes.length : Int) := by omega
    have hj2 : (j : Int) + 1 ≤ (cn : Int) := by omega
    clear hc hv hq hq2 HC HV HN HD
    go_wp2_with fail
    refine HDj.out.mono ?_
    rintro e w2 ⟨rfl, hcnt, hb⟩
    have hA2 := blk HA2.out hb
    have HB2 : Hid (Below w.heap.size w w2) := HB.out.trans (hb.mono HB.out.size)
    have r0 := cell_of_row _ _ 0 _ _ _ hA2
    have r1 := cell_of_row _ _ 1 _ _ _ hA2
    have f0 := frozen_of_row _ _ 0 _ _ hA2
    have f1 := frozen_of_row _ _ 1 _ _ hA2
    simp at r0 r1 f0 f1
    have c3 := (hcnt.cell j (by rw [depthsF_len]; omega)).1
    obtain ⟨ds, hds⟩ : ∃ ds, ds = depthsF (T.nodes.take (j + 1)) (j + 1) := ⟨_, rfl⟩
    rw [← hds] at HCV c3
    clear hcnt hA2 hb hds HDj
    generalize ds.getD j 0 = z at *
    go_wp2_with fail
    refine bodyPost_ret (v := .agg #[.int .i64 0, .int .i64 z]) (by simp [results, Try.results33, go_sem, r0, r1]) rfl ⟨by rw [HCV.out.1, HCV.out.2], (HB2.out.setCell (by simp) _).setCell (by simp) _⟩
end Go.Proofs.Ytbgnmocbpigpmaa
