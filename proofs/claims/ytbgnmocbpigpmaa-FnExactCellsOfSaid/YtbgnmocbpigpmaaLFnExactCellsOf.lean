/-
  The Go function laws.FnExactCellsOf answers true at every input and writes nothing that was there. No condition.
-/
import Derived.Test.YtbgnmocbpigpmaaICells
import Derived.Test.YtbgnmocbpigpmaaICells
import Derived.Test.YtbgnmocbpigpmaaIFault
import Derived.Test.YtbgnmocbpigpmaaLawC
import Derived.Test.YtbgnmocbpigpmaaTwo
import Derived.Test.YtbgnmocbpigpmaaTwo
namespace Go.Proofs.Ytbgnmocbpigpmaa
open Go.RowKit
set_option linter.unusedVariables false
attribute [local go_sem] bs_size bs_get bs_extract bs_append bs_eq bs_toList

def celC (T : LTree) : Int := faultL T
def celV (T : LTree) : Int := if faultL T ≠ 0 then 0 else cellsL (allL 0 T)
set_option maxHeartbeats 6400000 in
set_option maxRecDepth 100000 in
theorem specCellsOf : TreeNum 18 celC celV := by
  intro lo vv vn vb T w h hS
  have HF : Hid (∀ (p : Nat) (w' : World), TreeP lo w' p vv vn vb T → Calls Try.prog 45 #[.pointer (some ⟨p, 0, none⟩)] w' fun e w2 => e = .returned (.int .i64 (faultL T)) ∧ Below w'.heap.size w' w2) := fun p w' hp =>
    l4Fault_any lo p vv vn vb T w' hp hS (fun hn k W hb hk => l4Right_any lo p vv vn vb T k W (hp.below hb) hS hn hk)
  have HD : Hid (∀ (p : Nat) (w' : World), TreeP lo w' p vv vn vb T → faultL T = 0 → Calls Try.prog 57 #[.pointer (some ⟨p, 0, none⟩)] w' fun e w2 => ∃ v, e = .returned v ∧ w2.ownsRow w'.heap.size 85 4 v (allL 3 T).length (varCells (allL 3 T)) ∧ Below w'.heap.size w' w2) := fun p w' hp h0 => l5All_any lo p vv vn vb T w' hp (good_of h0)
  have HSZ : Hid (faultL T = 0 → SizesLe (allL 3 T) ∧ (allL 3 T).length ≤ 624) := fun h => ⟨(good_of h).sizes 3, (good_of h).all_len 3⟩
  have HCC : Hid (∀ (ad : Option Addr) (c : Nat) (w : World), RowV w ad (allL 3 T) → SizesLe (allL 3 T) → (allL 3 T).length ≤ 624 → Calls Try.prog 56 #[.slice ad (allL 3 T).length c] w fun e w' => e = .returned (.int .i64 (cellsL (allL 0 T))) ∧ Below w.heap.size w w') := fun ad c w h1 h2 h3 => by
    have := l5Cells_any (allL 3 T) ad (allL 3 T).length c w (Nat.le_refl _) h1 h2 h3
    have e : cellsL ((allL 3 T).take (allL 3 T).length) = cellsL (allL 0 T) := by rw [cellsL_kind, allL_len, List.take_length]
    rw [e] at this
    exact this
  obtain ⟨av, cv, rfl, _⟩ := id h.vars
  obtain ⟨an, cn, rfl, _⟩ := id h.nodes
  obtain ⟨ab, cb, rfl, _⟩ := id h.body
  have HT : Hid (TreeV lo w (.slice av T.vars.length cv) (.slice an T.nodes.length cn) (.slice ab T.body.length cb) T) := h
  have HV : Hid (celV T = if faultL T ≠ 0 then 0 else cellsL (allL 0 T)) := rfl
  have HC : Hid (celC T = faultL T) := rfl
  clear h hS
  go_enter Try.func18, Try.ntmps18
  go_wp2_with fail
  obtain ⟨hA, hA2, hB⟩ := two_start w (.slice av T.vars.length cv) (.slice an T.nodes.length cn) (.slice ab T.body.length cb) 34 29
  generalize ((w.alloc (.cells #[.slice av T.vars.length cv, .slice an T.nodes.length cn, .slice ab T.body.length cb] 34)).alloc (.cells #[.int .i64 0, .int .i64 0] 29)) = W at *
  refine (HF.out _ _ ⟨cell_of_row _ _ 0 _ _ _ hA, cell_of_row _ _ 1 _ _ _ hA, cell_of_row _ _ 2 _ _ _ hA, HT.out.below hB⟩).mono ?_
  rintro e w2 ⟨rfl, hb⟩
  have HA : Hid (w2.heap[w.heap.size]? = some (.cells #[.slice av T.vars.length cv, .slice an T.nodes.length cn, .slice ab T.body.length cb] 34 (0, 0))) := blk hA hb
  have HA2 : Hid (w2.heap[w.heap.size + 1]? = some (.cells #[.int .i64 0, .int .i64 0] 29 (0, 0))) := blk hA2 hb
  have HB : Hid (Below w.heap.size w w2) := hB.trans (hb.mono hB.size)
  clear hA hA2 hB hb HF
  obtain ⟨F, hF⟩ : ∃ F, faultL T = F := ⟨_, rfl⟩
  rw [hF]
  by_cases hz : F = 0
  · subst hz
    have HCV : Hid (celC T = 0 ∧ celV T = cellsL (allL 0 T)) := ⟨by rw [HC.out, hF], by rw [HV.out, hF, if_neg (by simp)]⟩
    have HTP : Hid (TreeP lo w2 w.heap.size (.slice av T.vars.length cv) (.slice an T.nodes.length cn) (.slice ab T.body.length cb) T) := ⟨cell_of_row _ _ 0 _ _ _ HA.out, cell_of_row _ _ 1 _ _ _ HA.out, cell_of_row _ _ 2 _ _ _ HA.out, HT.out.below HB.out⟩
    have HDC : Hid (Calls Try.prog 57 #[.pointer (some ⟨w.heap.size, 0, none⟩)] w2 fun e w3 => ∃ v, e = .returned v ∧ w3.ownsRow w2.heap.size 85 4 v (allL 3 T).length (varCells (allL 3 T)) ∧ Below w2.heap.size w2 w3) := HD.out _ _ HTP.out hF
    have HS2 : Hid (SizesLe (allL 3 T) ∧ (allL 3 T).length ≤ 624) := HSZ.out hF
    clear hF HC HV HD HSZ
    go_wp2_with fail
    refine HDC.out.mono ?_
    rintro e w4 ⟨v, rfl, hown, hb⟩
    obtain ⟨ad, cp, rfl⟩ := rowE_shape hown
    have hRV := RowV.of_own hown rfl
    have HCX : Hid (Calls Try.prog 56 #[.slice ad (allL 3 T).length cp] w4 fun e w' => e = .returned (.int .i64 (cellsL (allL 0 T))) ∧ Below w4.heap.size w4 w') := HCC.out ad cp w4 hRV HS2.out.1 HS2.out.2
    have hA2 := blk HA2.out hb
    have HB2 : Hid (Below w.heap.size w w4) := HB.out.trans (hb.mono HB.out.size)
    clear hown hRV hb HCC HS2 HDC
    go_wp2_with fail
    refine HCX.out.mono ?_
    rintro e w5 ⟨rfl, hb⟩
    have hA5 := blk hA2 hb
    have HB5 : Hid (Below w.heap.size w w5) := HB2.out.trans (hb.mono HB2.out.size)
    clear hA2 hb
    have r0 := cell_of_row _ _ 0 _ _ _ hA5
    have r1 := cell_of_row _ _ 1 _ _ _ hA5
    have f0 := frozen_of_row _ _ 0 _ _ hA5
    have f1 := frozen_of_row _ _ 1 _ _ hA5
    simp at r0 r1 f0 f1
    clear hA5
    generalize cellsL (allL 0 T) = z at *
    go_wp2_with fail
    refine bodyPost_ret (v := .agg #[.int .i64 0, .int .i64 z]) (by simp [results, Try.results18, go_sem, r0, r1]) rfl ⟨by rw [HCV.out.1, HCV.out.2], (HB5.out.setCell (by simp) _).setCell (by simp) _⟩
  · have HCV : Hid (celC T = F ∧ celV T = 0) := ⟨by rw [HC.out, hF], by rw [HV.out, hF, if_pos hz]⟩
    have hz1 : (F == 0) = false := by simpa using hz
    have hz2 : decide (F = 0) = false := decide_eq_false hz
    have r0 := cell_of_row _ _ 0 _ _ _ HA2.out
    have r1 := cell_of_row _ _ 1 _ _ _ HA2.out
    have f0 := frozen_of_row _ _ 0 _ _ HA2.out
    have f1 := frozen_of_row _ _ 1 _ _ HA2.out
    simp at r0 r1 f0 f1
    clear HC HV hF
    go_wp2_with fail
    refine bodyPost_ret (v := .agg #[.int .i64 F, .int .i64 0]) (by simp [results, Try.results18, go_sem, r0, r1]) rfl ⟨by rw [HCV.out.1, HCV.out.2], (HB.out.setCell (by simp) _).setCell (by simp) _⟩

set_option maxHeartbeats 6400000 in
set_option maxRecDepth 100000 in
theorem implCellsOf : TreeNum 19 celC celV := by
  intro lo vv vn vb T w h hS
  obtain ⟨av, cv, rfl, _⟩ := id h.vars
  obtain ⟨an, cn, rfl, _⟩ := id h.nodes
  obtain ⟨ab, cb, rfl, _⟩ := id h.body
  have HF : Hid (∀ (w' : World), Below w.heap.size w w' → Calls Try.prog 29 #[treeV (.slice av T.vars.length cv) (.slice an T.nodes.length cn) (.slice ab T.body.length cb)] w' fun e w2 => e = .returned (.int .i64 (faultL T)) ∧ Below w'.heap.size w' w2) := fun w' hb =>
    implTreeFault lo _ _ _ T w' (h.below hb) hS
  have HD : Hid (∀ (w' : World), Below w.heap.size w w' → faultL T = 0 → Calls Try.prog 59 #[.agg #[.slice av T.vars.length cv, .slice an T.nodes.length cn, .slice ab T.body.length cb]] w' fun e w2 => ∃ v, e = .returned v ∧ w2.ownsRow w'.heap.size 87 6 v (allL 0 T).length (entC (allL 0 T) T.vars.length (allL 0 T).length) ∧ Below w'.heap.size w' w2) := fun w' hb h0 =>
    variablesOf_any lo _ _ _ T w' (h.below hb) (good_of h0)
  have HSZ : Hid (faultL T = 0 → SizesLe (allL 0 T) ∧ (allL 0 T).length ≤ 624) := fun h => ⟨(good_of h).sizes 0, (good_of h).all_len 0⟩
  have HCC : Hid (∀ (ad : Option Addr) (c : Nat) (w : World), RowE w ad (allL 0 T) T.vars.length → SizesLe (allL 0 T) → (allL 0 T).length ≤ 624 → Calls Try.prog 58 #[.slice ad (allL 0 T).length c] w fun e w' => e = .returned (.int .i64 (cellsL (allL 0 T))) ∧ Below w.heap.size w w') := fun ad c w h1 h2 h3 =>
    cellCount_any (allL 0 T) T.vars.length ad (allL 0 T).length c w rfl h1 h2 h3
  have HV : Hid (celV T = if faultL T ≠ 0 then 0 else cellsL (allL 0 T)) := rfl
  have HC : Hid (celC T = faultL T) := rfl
  clear h hS
  go_enter Try.func19, Try.ntmps19
  go_wp2_with fail
  obtain ⟨hA, hA2, hB⟩ := two_start w (.slice av T.vars.length cv) (.slice an T.nodes.length cn) (.slice ab T.body.length cb) 34 29
  generalize ((w.alloc (.cells #[.slice av T.vars.length cv, .slice an T.nodes.length cn, .slice ab T.body.length cb] 34)).alloc (.cells #[.int .i64 0, .int .i64 0] 29)) = W at *
  refine (HF.out _ hB).mono ?_
  rintro e w2 ⟨rfl, hb⟩
  have HA : Hid (w2.heap[w.heap.size]? = some (.cells #[.slice av T.vars.length cv, .slice an T.nodes.length cn, .slice ab T.body.length cb] 34 (0, 0))) := blk hA hb
  have HA2 : Hid (w2.heap[w.heap.size + 1]? = some (.cells #[.int .i64 0, .int .i64 0] 29 (0, 0))) := blk hA2 hb
  have HB : Hid (Below w.heap.size w w2) := hB.trans (hb.mono hB.size)
  clear hA hA2 hB hb HF
  obtain ⟨F, hF⟩ : ∃ F, faultL T = F := ⟨_, rfl⟩
  rw [hF]
  by_cases hz : F = 0
  · subst hz
    have HCV : Hid (celC T = 0 ∧ celV T = cellsL (allL 0 T)) := ⟨by rw [HC.out, hF], by rw [HV.out, hF, if_neg (by simp)]⟩
    have HDC : Hid (Calls Try.prog 59 #[.agg #[.slice av T.vars.length cv, .slice an T.nodes.length cn, .slice ab T.body.length cb]] w2 fun e w3 => ∃ v, e = .returned v ∧ w3.ownsRow w2.heap.size 87 6 v (allL 0 T).length (entC (allL 0 T) T.vars.length (allL 0 T).length) ∧ Below w2.heap.size w2 w3) := HD.out _ HB.out hF
    have HS2 : Hid (SizesLe (allL 0 T) ∧ (allL 0 T).length ≤ 624) := HSZ.out hF
    have p0 := cell_of_row _ _ 0 _ _ _ HA.out
    have p1 := cell_of_row _ _ 1 _ _ _ HA.out
    have p2 := cell_of_row _ _ 2 _ _ _ HA.out
    simp at p0 p1 p2
    clear hF HC HV HD HSZ
    go_wp2_with fail
    refine HDC.out.mono ?_
    rintro e w4 ⟨v, rfl, hown, hb⟩
    obtain ⟨ad, cp, rfl⟩ := rowE_shape hown
    have hRV := RowE.of_own hown rfl
    have HCX : Hid (Calls Try.prog 58 #[.slice ad (allL 0 T).length cp] w4 fun e w' => e = .returned (.int .i64 (cellsL (allL 0 T))) ∧ Below w4.heap.size w4 w') := HCC.out ad cp w4 hRV HS2.out.1 HS2.out.2
    have hA2 := blk HA2.out hb
    have HB2 : Hid (Below w.heap.size w w4) := HB.out.trans (hb.mono HB.out.size)
    clear hown hRV hb HCC HS2 HDC p0 p1 p2
    go_wp2_with fail
    refine HCX.out.mono ?_
    rintro e w5 ⟨rfl, hb⟩
    have hA5 := blk hA2 hb
    have HB5 : Hid (Below w.heap.size w w5) := HB2.out.trans (hb.mono HB2.out.size)
    clear hA2 hb
    have r0 := cell_of_row _ _ 0 _ _ _ hA5
    have r1 := cell_of_row _ _ 1 _ _ _ hA5
    have f0 := frozen_of_row _ _ 0 _ _ hA5
    have f1 := frozen_of_row _ _ 1 _ _ hA5
    simp at r0 r1 f0 f1
    clear hA5
    generalize cellsL (allL 0 T) = z at *
    go_wp2_with fail
    refine bodyPost_ret (v := .agg #[.int .i64 0, .int .i64 z]) (by simp [results, Try.results19, go_sem, r0, r1]) rfl ⟨by rw [HCV.out.1, HCV.out.2], (HB5.out.setCell (by simp) _).setCell (by simp) _⟩
  · have HCV : Hid (celC T = F ∧ celV T = 0) := ⟨by rw [HC.out, hF], by rw [HV.out, hF, if_pos hz]⟩
    have hz1 : (F == 0) = false := by simpa using hz
    have hz2 : decide (F = 0) = false := decide_eq_false hz
    have r0 := cell_of_row _ _ 0 _ _ _ HA2.out
    have r1 := cell_of_row _ _ 1 _ _ _ HA2.out
    have f0 := frozen_of_row _ _ 0 _ _ HA2.out
    have f1 := frozen_of_row _ _ 1 _ _ HA2.out
    simp at r0 r1 f0 f1
    clear HC HV hF
    go_wp2_with fail
    refine bodyPost_ret (v := .agg #[.int .i64 F, .int .i64 0]) (by simp [results, Try.results19, go_sem, r0, r1]) rfl ⟨by rw [HCV.out.1, HCV.out.2], (HB.out.setCell (by simp) _).setCell (by simp) _⟩
end Go.Proofs.Ytbgnmocbpigpmaa
namespace Go.Proofs.Ytbgnmocbpigpmaa
open Go.RowKit
set_option linter.unusedVariables false
theorem fnExactCellsOf_walk (vv0 vn0 vb0 : Value) (T0 : LTree) (w : World) (w0 : IsTree w vv0 vn0 vb0 T0) :
    Calls Try.prog 4 #[treeV vv0 vn0 vb0] w fun e w' => e = .returned (.bool true) ∧ Below w.heap.size w w' :=
  cellsOf_law celC celV specCellsOf implCellsOf vv0 vn0 vb0 T0 w w0
end Go.Proofs.Ytbgnmocbpigpmaa
