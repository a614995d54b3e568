/-
  spec.VarAt, impl.VarAt.
-/
import Derived.Test.YtbgnmocbpigpmaaIFault
import Derived.Test.YtbgnmocbpigpmaaSRgt
import Derived.Test.YtbgnmocbpigpmaaLawTree2
import Derived.Test.YtbgnmocbpigpmaaTreeVar
import Derived.Test.YtbgnmocbpigpmaaTwo
namespace Go.Proofs.Ytbgnmocbpigpmaa
open Go.RowKit
set_option linter.unusedVariables false
attribute [local go_sem] bs_size bs_get bs_extract bs_append bs_eq bs_toList

def vatC (T : LTree) (nm : List UInt8) : Int := if faultL T ≠ 0 then faultL T else if varFrom nm T.vars 0 < 0 then 4 else 0
def vatV (T : LTree) (nm : List UInt8) : Int := if faultL T ≠ 0 then 0 else if varFrom nm T.vars 0 < 0 then 0 else varFrom nm T.vars 0
theorem vars_few {T : LTree} (h : faultL T = 0) : T.vars.length ≤ 24 := by
  unfold faultL at h
  split at h
  · simp at h
  · rename_i hn; omega
set_option maxHeartbeats 6400000 in
set_option maxRecDepth 100000 in
theorem specVarAt : TreeNamed 30 vatC vatV := by
  intro lo vv vn vb T nm w h hS hnm
  have HF : Hid (∀ (p : Nat) (w' : World), TreeP lo w' p vv vn vb T → Calls Try.prog 45 #[.pointer (some ⟨p, 0, none⟩)] w' fun e w2 => e = .returned (.int .i64 (faultL T)) ∧ Below w'.heap.size w' w2) := fun p w' hp =>
    l4Fault_any lo p vv vn vb T w' hp hS (fun hn k W hb hk => l4Right_any lo p vv vn vb T k W (hp.below hb) hS hn hk)
  have HV : Hid (∀ (p : Nat) (w' : World), TreeP lo w' p vv vn vb T → faultL T = 0 → Calls Try.prog 76 #[.pointer (some ⟨p, 0, none⟩), .string (bs nm)] w' fun e w2 => e = .returned (.int .i64 (varFrom nm T.vars 0)) ∧ w2 = w') := fun p w' hp h0 =>
    l4Var_any lo p vv vn vb T nm w' hp (vars_few h0)
  obtain ⟨av, cv, rfl, _⟩ := id h.vars
  obtain ⟨an, cn, rfl, _⟩ := id h.nodes
  obtain ⟨ab, cb, rfl, _⟩ := id h.body
  have HT : Hid (TreeV lo w (.slice av T.vars.length cv) (.slice an T.nodes.length cn) (.slice ab T.body.length cb) T) := h
  have HC : Hid (vatC T nm = if faultL T ≠ 0 then faultL T else if varFrom nm T.vars 0 < 0 then 4 else 0) := rfl
  have HW : Hid (vatV T nm = if faultL T ≠ 0 then 0 else if varFrom nm T.vars 0 < 0 then 0 else varFrom nm T.vars 0) := rfl
  have HVO := varFrom_or nm T.vars 0
  clear h hS
  go_enter Try.func30, Try.ntmps30
  go_wp2_with fail
  obtain ⟨hA, hA2, hB⟩ := two_start w (.slice av T.vars.length cv) (.slice an T.nodes.length cn) (.slice ab T.body.length cb) 34 29
  generalize ((w.alloc (.cells #[.slice av T.vars.length cv, .slice an T.nodes.length cn, .slice ab T.body.length cb] 34)).alloc (.cells #[.int .i64 0, .int .i64 0] 29)) = W at *
  refine (HF.out _ _ ⟨cell_of_row _ _ 0 _ _ _ hA, cell_of_row _ _ 1 _ _ _ hA, cell_of_row _ _ 2 _ _ _ hA, HT.out.below hB⟩).mono ?_
  rintro e w2 ⟨rfl, hb⟩
  have HA : Hid (w2.heap[w.heap.size]? = some (.cells #[.slice av T.vars.length cv, .slice an T.nodes.length cn, .slice ab T.body.length cb] 34 (0, 0))) := blk hA hb
  have HA2 : Hid (w2.heap[w.heap.size + 1]? = some (.cells #[.int .i64 0, .int .i64 0] 29 (0, 0))) := blk hA2 hb
  have HB : Hid (Below w.heap.size w w2) := hB.trans (hb.mono hB.size)
  clear hA hA2 hB hb HF
  have r0 := cell_of_row _ _ 0 _ _ _ HA2.out
  have r1 := cell_of_row _ _ 1 _ _ _ HA2.out
  have f0 := frozen_of_row _ _ 0 _ _ HA2.out
  have f1 := frozen_of_row _ _ 1 _ _ HA2.out
  simp at r0 r1 f0 f1
  obtain ⟨F, hF⟩ : ∃ F, faultL T = F := ⟨_, rfl⟩
  rw [hF]
  by_cases hz : F = 0
  · subst hz
    have HTP : Hid (TreeP lo w2 w.heap.size (.slice av T.vars.length cv) (.slice an T.nodes.length cn) (.slice ab T.body.length cb) T) := ⟨cell_of_row _ _ 0 _ _ _ HA.out, cell_of_row _ _ 1 _ _ _ HA.out, cell_of_row _ _ 2 _ _ _ HA.out, HT.out.below HB.out⟩
    have HVC : Hid (Calls Try.prog 76 #[.pointer (some ⟨w.heap.size, 0, none⟩), .string (bs nm)] w2 fun e w3 => e = .returned (.int .i64 (varFrom nm T.vars 0)) ∧ w3 = w2) := HV.out _ _ HTP.out hF
    obtain ⟨v, hv⟩ : ∃ v, varFrom nm T.vars 0 = v := ⟨_, rfl⟩
    rw [hv] at HVC HVO
    rcases HVO with rfl | ⟨j, rfl, hj⟩
    · have HCV : Hid (vatC T nm = 4 ∧ vatV T nm = 0) := ⟨by rw [HC.out, hF, hv]; rfl, by rw [HW.out, hF, hv]; rfl⟩
      clear HV HC HW hF hv
      go_wp2_with fail
      refine HVC.out.mono ?_
      rintro e w3 ⟨rfl, rfl⟩
      go_wp2_with fail
      refine bodyPost_ret (v := .agg #[.int .i64 4, .int .i64 0]) (by simp [results, Try.results30, go_sem, r0, r1]) rfl ⟨by rw [HCV.out.1, HCV.out.2], (HB.out.setCell (by simp) _).setCell (by simp) _⟩
    · have HCV : Hid (vatC T nm = 0 ∧ vatV T nm = (j : Int)) := ⟨by rw [HC.out, hF, hv, if_neg (by simp), if_neg (by omega)], by rw [HW.out, hF, hv, if_neg (by simp), if_neg (by omega)]⟩
      have hj0 : (0 : Int) ≤ (j : Int) := by omega
      clear HV HC HW hF hv
      go_wp2_with fail
      refine HVC.out.mono ?_
      rintro e w3 ⟨rfl, rfl⟩
      go_wp2_with fail
      refine bodyPost_ret (v := .agg #[.int .i64 0, .int .i64 (j : Int)]) (by simp [results, Try.results30, go_sem, r0, r1]) rfl ⟨by rw [HCV.out.1, HCV.out.2], (HB.out.setCell (by simp) _).setCell (by simp) _⟩
  · have HCV : Hid (vatC T nm = F ∧ vatV T nm = 0) := ⟨by rw [HC.out, hF, if_pos hz], by rw [HW.out, hF, if_pos hz]⟩
    have hz1 : (F == 0) = false := by simpa using hz
    have hz2 : decide (F = 0) = false := decide_eq_false hz
    clear HV HC HW hF HVO
    go_wp2_with fail
    refine bodyPost_ret (v := .agg #[.int .i64 F, .int .i64 0]) (by simp [results, Try.results30, go_sem, r0, r1]) rfl ⟨by rw [HCV.out.1, HCV.out.2], (HB.out.setCell (by simp) _).setCell (by simp) _⟩

set_option maxHeartbeats 6400000 in
set_option maxRecDepth 100000 in
theorem implVarAt : TreeNamed 31 vatC vatV := by
  intro lo vv vn vb T nm w h hS hnm
  obtain ⟨av, cv, rfl, _, hhv⟩ := id h.vars
  obtain ⟨an, cn, rfl, _⟩ := id h.nodes
  obtain ⟨ab, cb, rfl, _⟩ := id h.body
  have HF : Hid (∀ (w' : World), Below w.heap.size w w' → Calls Try.prog 29 #[treeV (.slice av T.vars.length cv) (.slice an T.nodes.length cn) (.slice ab T.body.length cb)] w' fun e w2 => e = .returned (.int .i64 (faultL T)) ∧ Below w'.heap.size w' w2) := fun w' hb =>
    implTreeFault lo _ _ _ T w' (h.below hb) hS
  have HV : Hid (T.vars ≠ [] → ∃ b o, av = some ⟨b, o, none⟩ ∧ lo ≤ b ∧ ∀ (i : Nat) (x : LVar), T.vars[i]? = some x → VarAt w b (o + i * 4) x) := hhv
  have HC : Hid (vatC T nm = if faultL T ≠ 0 then faultL T else if varFrom nm T.vars 0 < 0 then 4 else 0) := rfl
  have HW : Hid (vatV T nm = if faultL T ≠ 0 then 0 else if varFrom nm T.vars 0 < 0 then 0 else varFrom nm T.vars 0) := rfl
  have HFEW : Hid (faultL T = 0 → T.vars.length ≤ 24) := vars_few
  clear h hS hhv
  go_enter Try.func31, Try.ntmps31
  go_wp2_with fail
  obtain ⟨hA, hA2, hB⟩ := two_start w (.slice av T.vars.length cv) (.slice an T.nodes.length cn) (.slice ab T.body.length cb) 34 29
  generalize ((w.alloc (.cells #[.slice av T.vars.length cv, .slice an T.nodes.length cn, .slice ab T.body.length cb] 34)).alloc (.cells #[.int .i64 0, .int .i64 0] 29)) = W at *
  refine (HF.out _ hB).mono ?_
  rintro e w2 ⟨rfl, hb⟩
  have HA : Hid (w2.heap[w.heap.size]? = some (.cells #[.slice av T.vars.length cv, .slice an T.nodes.length cn, .slice ab T.body.length cb] 34 (0, 0))) := blk hA hb
  have HA2 : Hid (w2.heap[w.heap.size + 1]? = some (.cells #[.int .i64 0, .int .i64 0] 29 (0, 0))) := blk hA2 hb
  have HB : Hid (Below w.heap.size w w2) := hB.trans (hb.mono hB.size)
  clear hA hA2 hB hb HF
  obtain ⟨F, hF⟩ : ∃ F, faultL T = F := ⟨_, rfl⟩
  rw [hF]
  by_cases hz : F = 0
  · subst hz
    have hfew := HFEW.out hF
    have p0 : w2.cell? ⟨w.heap.size, 0, none⟩ = some (.slice av T.vars.length cv) := cell_of_row _ _ 0 _ _ _ HA.out
    have HC : Hid (vatC T nm = if varFrom nm T.vars 0 < 0 then 4 else 0) := by unfold Hid; rw [HC.out, hF]; rfl
    have HW : Hid (vatV T nm = if varFrom nm T.vars 0 < 0 then 0 else varFrom nm T.vars 0) := by unfold Hid; rw [HW.out, hF]; rfl
    have hr2 : w.heap.size + 1 < w2.heap.size := (Array.getElem?_eq_some_iff.1 HA2.out).1
    clear hF
    go_wp2
    clear p0
    go_loopw [17] (fun i wr => ∃ k : Nat, k ≤ T.vars.length ∧ i = .int .i64 k ∧ varFrom nm T.vars 0 = varFrom nm (T.vars.drop k) k ∧ Below w2.heap.size w2 wr) (fun i _ => T.vars.length - (intOf i).toNat)
    case atStart => exact ⟨0, by omega, rfl, rfl, Below.refl _ _⟩
    case round =>
      obtain ⟨k, hk, rfl, hv, hB⟩ := hrel
      have HVF : Hid (varFrom nm T.vars 0 = varFrom nm (T.vars.drop k) k) := hv
      have HB2 : Hid (Below w2.heap.size w2 wr) := hB
      have HB3 : Hid (Below w.heap.size w wr) := HB.out.trans (hB.mono HB.out.size)
      clear hv
      by_cases hlt : k < T.vars.length
      · obtain ⟨x, hx⟩ : ∃ x, T.vars[k]? = some x := ⟨T.vars[k], List.getElem?_eq_getElem hlt⟩
        obtain ⟨g, o, rfl, _, hc1⟩ := HV.out (by intro e; rw [e] at hlt; simp at hlt)
        obtain ⟨c0, c1, c2, c3⟩ := (hc1 k x hx).keep (lo := 0) (Keeps.of_below HB3.out) (Nat.zero_le _)
        have HX : Hid (T.vars[k]? = some x) := hx
        have hA2r := blk HA2.out hB
        have r0 := cell_of_row _ _ 0 _ _ _ hA2r
        have r1 := cell_of_row _ _ 1 _ _ _ hA2r
        have f0 := frozen_of_row _ _ 0 _ _ hA2r
        have f1 := frozen_of_row _ _ 1 _ _ hA2r
        have hrs : w.heap.size + 1 < wr.heap.size := Nat.lt_of_lt_of_le hr2 hB.size
        simp at r0 r1 f0 f1
        clear hx hc1 hB hA2r
        by_cases he : x.name = nm
        · have hv := HVF.out.trans (varFrom_hit HX.out he)
          have HCV : Hid (vatC T nm = 0 ∧ vatV T nm = (k : Int)) := ⟨by rw [HC.out, hv, if_neg (by omega)], by rw [HW.out, hv, if_neg (by omega)]⟩
          clear hv
          subst he
          go_wp2
          have hfin : ((wr.setCell ⟨w.heap.size + 1, 0, none⟩ (.int .i64 0)).setCell ⟨w.heap.size + 1, 1, none⟩ (.int .i64 (k : Int))).heap[w.heap.size + 1]? = some (.cells #[.int .i64 0, .int .i64 (k : Int)] 29 (0, 0)) := by
            rw [heap_setCell_same _ _ _ _ _ _ (heap_setCell_same _ _ _ _ _ _ (blk HA2.out HB2.out))]; rfl
          have hbf : Below w.heap.size w ((wr.setCell ⟨w.heap.size + 1, 0, none⟩ (.int .i64 0)).setCell ⟨w.heap.size + 1, 1, none⟩ (.int .i64 (k : Int))) := (HB3.out.setCell (by simp) _).setCell (by simp) _
          have hsf : w.heap.size + 1 < ((wr.setCell ⟨w.heap.size + 1, 0, none⟩ (.int .i64 0)).setCell ⟨w.heap.size + 1, 1, none⟩ (.int .i64 (k : Int))).heap.size := (Array.getElem?_eq_some_iff.1 hfin).1
          generalize (wr.setCell ⟨w.heap.size + 1, 0, none⟩ (.int .i64 0)).setCell ⟨w.heap.size + 1, 1, none⟩ (.int .i64 (k : Int)) = wf at *
          have hff := (Below.heap_alloc wf (.cells #[.string (bs x.name), .int .i64 x.kind, .int .i64 x.type, .int .i64 x.size] 85) _ hsf).trans hfin
          have z0 := cell_of_row _ _ 0 _ _ _ hff
          have z1 := cell_of_row _ _ 1 _ _ _ hff
          simp at z0 z1
          refine bodyPost_ret (v := .agg #[.int .i64 0, .int .i64 (k : Int)]) (by simp [results, Try.results31, go_sem, z0, z1]) rfl ⟨by rw [HCV.out.1, HCV.out.2], hbf.alloc hbf.size _⟩
        · have hne : (x.name == nm) = false := by simpa using he
          have hne2 : decide (x.name = nm) = false := decide_eq_false he
          have HNX : Hid (varFrom nm T.vars 0 = varFrom nm (T.vars.drop (k + 1)) (k + 1)) := HVF.out.trans (varFrom_miss HX.out he)
          have HB4 : Hid (Below w2.heap.size w2 (wr.alloc (.cells #[.string (bs x.name), .int .i64 x.kind, .int .i64 x.type, .int .i64 x.size] 85))) := HB2.out.alloc HB2.out.size _
          go_wp2
          go_roundw
          case rel => exact ⟨k + 1, by omega, by go_num, HNX.out, HB4.out⟩
          case measure => simp [intOf]; omega
      · have hke : k = T.vars.length := by omega
        have hv : varFrom nm T.vars 0 = -1 := by rw [HVF.out, hke, List.drop_length]; rfl
        have HCV : Hid (vatC T nm = 4 ∧ vatV T nm = 0) := ⟨by rw [HC.out, hv]; rfl, by rw [HW.out, hv]; rfl⟩
        have hA2r := blk HA2.out hB
        have r0 := cell_of_row _ _ 0 _ _ _ hA2r
        have r1 := cell_of_row _ _ 1 _ _ _ hA2r
        have f0 := frozen_of_row _ _ 0 _ _ hA2r
        have f1 := frozen_of_row _ _ 1 _ _ hA2r
        simp at r0 r1 f0 f1
        clear hv hke hB hA2r
        go_wp2
        refine bodyPost_ret (v := .agg #[.int .i64 4, .int .i64 0]) (by simp [results, Try.results31, go_sem, r0, r1]) rfl ⟨by rw [HCV.out.1, HCV.out.2], (HB3.out.setCell (by simp) _).setCell (by simp) _⟩
  · have HCV : Hid (vatC T nm = F ∧ vatV T nm = 0) := ⟨by rw [HC.out, hF, if_pos hz], by rw [HW.out, hF, if_pos hz]⟩
    have hz1 : (F == 0) = false := by simpa using hz
    have hz2 : decide (F = 0) = false := decide_eq_false hz
    have r0 := cell_of_row _ _ 0 _ _ _ HA2.out
    have r1 := cell_of_row _ _ 1 _ _ _ HA2.out
    have f0 := frozen_of_row _ _ 0 _ _ HA2.out
    have f1 := frozen_of_row _ _ 1 _ _ HA2.out
    simp at r0 r1 f0 f1
    clear HC HW hF HFEW
    go_wp2_with fail
    refine bodyPost_ret (v := .agg #[.int .i64 F, .int .i64 0]) (by simp [results, Try.results31, go_sem, r0, r1]) rfl ⟨by rw [HCV.out.1, HCV.out.2], (HB.out.setCell (by simp) _).setCell (by simp) _⟩
end Go.Proofs.Ytbgnmocbpigpmaa
