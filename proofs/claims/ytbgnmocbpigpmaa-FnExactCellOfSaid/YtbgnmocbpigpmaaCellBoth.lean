/-
  spec.CellOf, impl.CellOf.
-/
import Derived.Test.YtbgnmocbpigpmaaAllKind
import Derived.Test.YtbgnmocbpigpmaaAllKind
import Derived.Test.YtbgnmocbpigpmaaIByName
import Derived.Test.YtbgnmocbpigpmaaIFault
import Derived.Test.YtbgnmocbpigpmaaTwo
import Derived.Test.YtbgnmocbpigpmaaTwo
import Derived.Test.YtbgnmocbpigpmaaTwo
namespace Go.Proofs.Ytbgnmocbpigpmaa
open Go.RowKit
set_option linter.unusedVariables false
attribute [local go_sem] bs_size bs_get bs_extract bs_append bs_eq bs_toList

def ceoC (T : LTree) (nm : List UInt8) : Int := if faultL T ≠ 0 then faultL T else if varFrom nm (allL 0 T) 0 < 0 then 4 else 0
def ceoV (T : LTree) (nm : List UInt8) : Int := if faultL T ≠ 0 then 0 else if varFrom nm (allL 0 T) 0 < 0 then 0 else cellsL ((allL 0 T).take (varFrom nm (allL 0 T) 0).toNat)

set_option maxHeartbeats 6400000 in
set_option maxRecDepth 100000 in
theorem specCellOf : TreeNamed 20 ceoC ceoV := by
  intro lo vv vn vb T nm w h hS hnm
  have HF : Hid (∀ (p : Nat) (w' : World), TreeP lo w' p vv vn vb T → Calls Try.prog 45 #[.pointer (some ⟨p, 0, none⟩)] w' fun e w2 => e = .returned (.int .i64 (faultL T)) ∧ Below w'.heap.size w' w2) := fun p w' hp =>
    l4Fault_any lo p vv vn vb T w' hp hS (fun hn k W hb hk => l4Right_any lo p vv vn vb T k W (hp.below hb) hS hn hk)
  have HD : Hid (∀ (p : Nat) (w' : World), TreeP lo w' p vv vn vb T → faultL T = 0 → Calls Try.prog 57 #[.pointer (some ⟨p, 0, none⟩)] w' fun e w2 => ∃ v, e = .returned v ∧ w2.ownsRow w'.heap.size 85 4 v (allL 3 T).length (varCells (allL 3 T)) ∧ Below w'.heap.size w' w2) := fun p w' hp h0 => l5All_any lo p vv vn vb T w' hp (good_of h0)
  have HSZ : Hid (faultL T = 0 → SizesLe (allL 3 T) ∧ (allL 3 T).length ≤ 624) := fun h => ⟨(good_of h).sizes 3, (good_of h).all_len 3⟩
  have HLN : Hid ((allL 3 T).length = (allL 0 T).length) := allL_len T
  have HCC : Hid (∀ (ad : Option Addr) (k c : Nat) (w : World), k ≤ (allL 3 T).length → RowV w ad (allL 3 T) → SizesLe (allL 3 T) → (allL 3 T).length ≤ 624 → Calls Try.prog 56 #[.slice ad k c] w fun e w' => e = .returned (.int .i64 (cellsL ((allL 0 T).take k))) ∧ Below w.heap.size w w') := fun ad k c w h0 h1 h2 h3 => by
    have := l5Cells_any (allL 3 T) ad k c w h0 h1 h2 h3
    rw [cellsL_kind] at this
    exact this
  have HFI : Hid (∀ (ad : Option Addr) (c : Nat) (w : World), RowV w ad (allL 3 T) → (allL 3 T).length ≤ 624 → Calls Try.prog 60 #[.slice ad (allL 3 T).length c, .string (bs nm)] w fun e w' => e = .returned (.int .i64 (varFrom nm (allL 0 T) 0)) ∧ w' = w) := fun ad c w h1 h3 => by
    have := l5Find_any (allL 3 T) nm ad (allL 3 T).length c w rfl h1 h3
    rw [varFrom_kind] at this
    exact this
  have HVO := varFrom_or nm (allL 0 T) 0
  obtain ⟨av, cv, rfl, _⟩ := id h.vars
  obtain ⟨an, cn, rfl, _⟩ := id h.nodes
  obtain ⟨ab, cb, rfl, _⟩ := id h.body
  have HT : Hid (TreeV lo w (.slice av T.vars.length cv) (.slice an T.nodes.length cn) (.slice ab T.body.length cb) T) := h
  have HC : Hid (ceoC T nm = if faultL T ≠ 0 then faultL T else if varFrom nm (allL 0 T) 0 < 0 then 4 else 0) := rfl
  have HW : Hid (ceoV T nm = if faultL T ≠ 0 then 0 else if varFrom nm (allL 0 T) 0 < 0 then 0 else cellsL ((allL 0 T).take (varFrom nm (allL 0 T) 0).toNat)) := rfl
  clear h hS
  go_enter Try.func20, Try.ntmps20
  go_wp2_with fail
  obtain ⟨hA, hA2, hB⟩ := two_start w (.slice av T.vars.length cv) (.slice an T.nodes.length cn) (.slice ab T.body.length cb) 34 29
  generalize ((w.alloc (.cells #[.slice av T.vars.length cv, .slice an T.nodes.length cn, .slice ab T.body.length cb] 34)).alloc (.cells #[.int .i64 0, .int .i64 0] 29)) = W at *
  refine (HF.out _ _ ⟨cell_of_row _ _ 0 _ _ _ hA, cell_of_row _ _ 1 _ _ _ hA, cell_of_row _ _ 2 _ _ _ hA, HT.out.below hB⟩).mono ?_
  rintro e w2 ⟨rfl, hb⟩
  have HA : Hid (w2.heap[w.heap.size]? = some (.cells #[.slice av T.vars.length cv, .slice an T.nodes.length cn, .slice ab T.body.length cb] 34 (0, 0))) := blk hA hb
  have HA2 : Hid (w2.heap[w.heap.size + 1]? = some (.cells #[.int .i64 0, .int .i64 0] 29 (0, 0))) := blk hA2 hb
  have HB : Hid (Below w.heap.size w w2) := hB.trans (hb.mono hB.size)
  clear hA hA2 hB hb HF
  obtain ⟨F, hF⟩ : ∃ F, faultL T = F := ⟨_, rfl⟩
  rw [hF]
  by_cases hz : F = 0
  · subst hz
    have HTP : Hid (TreeP lo w2 w.heap.size (.slice av T.vars.length cv) (.slice an T.nodes.length cn) (.slice ab T.body.length cb) T) := ⟨cell_of_row _ _ 0 _ _ _ HA.out, cell_of_row _ _ 1 _ _ _ HA.out, cell_of_row _ _ 2 _ _ _ HA.out, HT.out.below HB.out⟩
    have HDC : Hid (Calls Try.prog 57 #[.pointer (some ⟨w.heap.size, 0, none⟩)] w2 fun e w3 => ∃ v, e = .returned v ∧ w3.ownsRow w2.heap.size 85 4 v (allL 3 T).length (varCells (allL 3 T)) ∧ Below w2.heap.size w2 w3) := HD.out _ _ HTP.out hF
    have HS2 : Hid (SizesLe (allL 3 T) ∧ (allL 3 T).length ≤ 624) := HSZ.out hF
    have HC : Hid (ceoC T nm = if varFrom nm (allL 0 T) 0 < 0 then 4 else 0) := by unfold Hid; rw [HC.out, hF, if_neg (by simp)]
    have HW : Hid (ceoV T nm = if varFrom nm (allL 0 T) 0 < 0 then 0 else cellsL ((allL 0 T).take (varFrom nm (allL 0 T) 0).toNat)) := by unfold Hid; rw [HW.out, hF, if_neg (by simp)]
    clear hF HD HSZ
    go_wp2_with fail
    refine HDC.out.mono ?_
    rintro e w4 ⟨v, rfl, hown, hb⟩
    obtain ⟨ad, cp, rfl⟩ := rowE_shape hown
    have hcap := row_cap hown
    have hRV := RowV.of_own hown rfl
    have HRV : Hid (RowV w4 ad (allL 3 T)) := hRV
    have HFX : Hid (Calls Try.prog 60 #[.slice ad (allL 3 T).length cp, .string (bs nm)] w4 fun e w' => e = .returned (.int .i64 (varFrom nm (allL 0 T) 0)) ∧ w' = w4) := HFI.out ad cp w4 hRV HS2.out.2
    have HCX : Hid (∀ k, k ≤ (allL 3 T).length → Calls Try.prog 56 #[.slice ad k cp] w4 fun e w' => e = .returned (.int .i64 (cellsL ((allL 0 T).take k))) ∧ Below w4.heap.size w4 w') := fun k hk => HCC.out ad k cp w4 hk hRV HS2.out.1 HS2.out.2
    have hA2 := blk HA2.out hb
    have HB2 : Hid (Below w.heap.size w w4) := HB.out.trans (hb.mono HB.out.size)
    have hln := HLN.out
    have HAD : Hid (0 < (allL 3 T).length → ∃ g, ad = some ⟨g, 0, none⟩) := fun hp => by
      obtain ⟨g, e, _⟩ := hRV (List.length_pos_iff.1 hp)
      exact ⟨g, e⟩
    clear hown hRV hb HCC HS2 HDC HFI HLN HRV
    generalize hL : (allL 3 T).length = L at *
    obtain ⟨X, hX⟩ : ∃ X, X = varFrom nm (allL 0 T) 0 := ⟨_, rfl⟩
    rw [← hX] at HFX HVO HC HW
    clear hX
    rcases HVO with hX1 | ⟨j, rfl, hj⟩
    · have hXn : X < 0 := by omega
      have HCV : Hid (ceoC T nm = 4 ∧ ceoV T nm = 0) := ⟨by rw [HC.out, if_pos hXn], by rw [HW.out, if_pos hXn]⟩
      clear hX1
      have r0 := cell_of_row _ _ 0 _ _ _ hA2
      have r1 := cell_of_row _ _ 1 _ _ _ hA2
      have f0 := frozen_of_row _ _ 0 _ _ hA2
      have f1 := frozen_of_row _ _ 1 _ _ hA2
      simp at r0 r1 f0 f1
      clear HC HW HCX hA2 HAD hln hcap
      go_wp2_with fail
      refine HFX.out.mono ?_
      rintro e w5 ⟨rfl, rfl⟩
      go_wp2_with fail
      refine bodyPost_ret (v := .agg #[.int .i64 4, .int .i64 0]) (by simp [results, Try.results20, go_sem, r0, r1]) rfl ⟨by rw [HCV.out.1, HCV.out.2], (HB2.out.setCell (by simp) _).setCell (by simp) _⟩
    · have HCV : Hid (ceoC T nm = 0 ∧ ceoV T nm = cellsL ((allL 0 T).take j)) := ⟨by rw [HC.out, if_neg (by omega)], by rw [HW.out, if_neg (by omega), Int.toNat_natCast]⟩
      have hj0 : (0 : Int) ≤ (j : Int) := by omega
      have hj1 : (j : Int) ≤ (cp : Int) := by omega
      have HCJ : Hid (Calls Try.prog 56 #[.slice ad j cp] w4 fun e w' => e = .returned (.int .i64 (cellsL ((allL 0 T).take j))) ∧ Below w4.heap.size w4 w') := HCX.out j (by omega)
      obtain ⟨g, rfl⟩ := HAD.out (by omega)
      have hj2 : j ≤ cp := by omega
      clear HC HW HCX hln hj HAD
      go_wp2_with fail
      refine HFX.out.mono ?_
      rintro e w5 ⟨rfl, rfl⟩
      go_wp2_with fail
      refine HCJ.out.mono ?_
      rintro e w5 ⟨rfl, hb⟩
      have hA5 := blk hA2 hb
      have HB5 : Hid (Below w.heap.size w w5) := HB2.out.trans (hb.mono HB2.out.size)
      clear hA2 hb
      have r0 := cell_of_row _ _ 0 _ _ _ hA5
      have r1 := cell_of_row _ _ 1 _ _ _ hA5
      have f0 := frozen_of_row _ _ 0 _ _ hA5
      have f1 := frozen_of_row _ _ 1 _ _ hA5
      simp at r0 r1 f0 f1
      clear hA5
      generalize cellsL ((allL 0 T).take j) = z at *
      go_wp2_with fail
      refine bodyPost_ret (v := .agg #[.int .i64 0, .int .i64 z]) (by simp [results, Try.results20, go_sem, r0, r1]) rfl ⟨by rw [HCV.out.1, HCV.out.2], (HB5.out.setCell (by simp) _).setCell (by simp) _⟩
  · have HCV : Hid (ceoC T nm = F ∧ ceoV T nm = 0) := ⟨by rw [HC.out, hF, if_pos hz], by rw [HW.out, hF, if_pos hz]⟩
    have hz1 : (F == 0) = false := by simpa using hz
    have hz2 : decide (F = 0) = false := decide_eq_false hz
    have r0 := cell_of_row _ _ 0 _ _ _ HA2.out
    have r1 := cell_of_row _ _ 1 _ _ _ HA2.out
    have f0 := frozen_of_row _ _ 0 _ _ HA2.out
    have f1 := frozen_of_row _ _ 1 _ _ HA2.out
    simp at r0 r1 f0 f1
    clear HC HW hF HVO
    go_wp2_with fail
    refine bodyPost_ret (v := .agg #[.int .i64 F, .int .i64 0]) (by simp [results, Try.results20, go_sem, r0, r1]) rfl ⟨by rw [HCV.out.1, HCV.out.2], (HB.out.setCell (by simp) _).setCell (by simp) _⟩

set_option maxHeartbeats 6400000 in
set_option maxRecDepth 100000 in
theorem implCellOf : TreeNamed 21 ceoC ceoV := by
  intro lo vv vn vb T nm w h hS hnm
  obtain ⟨av, cv, rfl, _⟩ := id h.vars
  obtain ⟨an, cn, rfl, _⟩ := id h.nodes
  obtain ⟨ab, cb, rfl, _⟩ := id h.body
  have HF : Hid (∀ (w' : World), Below w.heap.size w w' → Calls Try.prog 29 #[treeV (.slice av T.vars.length cv) (.slice an T.nodes.length cn) (.slice ab T.body.length cb)] w' fun e w2 => e = .returned (.int .i64 (faultL T)) ∧ Below w'.heap.size w' w2) := fun w' hb =>
    implTreeFault lo _ _ _ T w' (h.below hb) hS
  have HD : Hid (∀ (w' : World), Below w.heap.size w w' → faultL T = 0 → Calls Try.prog 59 #[.agg #[.slice av T.vars.length cv, .slice an T.nodes.length cn, .slice ab T.body.length cb]] w' fun e w2 => ∃ v, e = .returned v ∧ w2.ownsRow w'.heap.size 87 6 v (allL 0 T).length (entC (allL 0 T) T.vars.length (allL 0 T).length) ∧ Below w'.heap.size w' w2) := fun w' hb h0 =>
    variablesOf_any lo _ _ _ T w' (h.below hb) (good_of h0)
  have HSZ : Hid (faultL T = 0 → (∀ x ∈ allL 0 T, x.name.length ≤ 1048576) ∧ (allL 0 T).length ≤ 624) := fun h => ⟨fun x hx => by have := all_names (good_of h) 0 x hx; omega, (good_of h).all_len 0⟩
  have HBN : Hid (∀ (ad : Option Addr) (c : Nat) (w : World), RowE w ad (allL 0 T) T.vars.length → (allL 0 T).length ≤ 624 → (∀ x ∈ allL 0 T, x.name.length ≤ 1048576) → Calls Try.prog 61 #[.slice ad (allL 0 T).length c] w fun e w' => e = .returned (.map (some w.heap.size)) ∧ w'.ownsMap Try.prog 9 heldR w.heap.size (allL 0 T).length (nameD (allL 0 T) T.vars.length (allL 0 T).length) ∧ Below w.heap.size w w') := fun ad c w h1 h2 h3 =>
    byName_any (allL 0 T) T.vars.length ad (allL 0 T).length c w rfl h1 h2 h3
  have HFR : Hid ((∀ i, firstI (allL 0 T) nm (allL 0 T).length = some i → varFrom nm (allL 0 T) 0 = (i : Int)) ∧ (firstI (allL 0 T) nm (allL 0 T).length = none → varFrom nm (allL 0 T) 0 = -1)) := by
    obtain ⟨h1, h2⟩ := firstI_from (allL 0 T) nm (allL 0 T).length (Nat.le_refl _)
    exact ⟨fun i hi => (h1 i hi).1, fun hn => by rw [h2 hn, List.drop_length]; rfl⟩
  have HC : Hid (ceoC T nm = if faultL T ≠ 0 then faultL T else if varFrom nm (allL 0 T) 0 < 0 then 4 else 0) := rfl
  have HW : Hid (ceoV T nm = if faultL T ≠ 0 then 0 else if varFrom nm (allL 0 T) 0 < 0 then 0 else cellsL ((allL 0 T).take (varFrom nm (allL 0 T) 0).toNat)) := rfl
  clear h hS
  go_enter Try.func21, Try.ntmps21
  go_wp2_with fail
  obtain ⟨hA, hA2, hB⟩ := two_start w (.slice av T.vars.length cv) (.slice an T.nodes.length cn) (.slice ab T.body.length cb) 34 29
  generalize ((w.alloc (.cells #[.slice av T.vars.length cv, .slice an T.nodes.length cn, .slice ab T.body.length cb] 34)).alloc (.cells #[.int .i64 0, .int .i64 0] 29)) = W at *
  refine (HF.out _ hB).mono ?_
  rintro e w2 ⟨rfl, hb⟩
  have HA : Hid (w2.heap[w.heap.size]? = some (.cells #[.slice av T.vars.length cv, .slice an T.nodes.length cn, .slice ab T.body.length cb] 34 (0, 0))) := blk hA hb
  have HA2 : Hid (w2.heap[w.heap.size + 1]? = some (.cells #[.int .i64 0, .int .i64 0] 29 (0, 0))) := blk hA2 hb
  have HB : Hid (Below w.heap.size w w2) := hB.trans (hb.mono hB.size)
  clear hA hA2 hB hb HF
  obtain ⟨F, hF⟩ : ∃ F, faultL T = F := ⟨_, rfl⟩
  rw [hF]
  by_cases hz : F = 0
  · subst hz
    have HDC : Hid (Calls Try.prog 59 #[.agg #[.slice av T.vars.length cv, .slice an T.nodes.length cn, .slice ab T.body.length cb]] w2 fun e w3 => ∃ v, e = .returned v ∧ w3.ownsRow w2.heap.size 87 6 v (allL 0 T).length (entC (allL 0 T) T.vars.length (allL 0 T).length) ∧ Below w2.heap.size w2 w3) := HD.out _ HB.out hF
    have HS2 : Hid ((∀ x ∈ allL 0 T, x.name.length ≤ 1048576) ∧ (allL 0 T).length ≤ 624) := HSZ.out hF
    have HC : Hid (ceoC T nm = if varFrom nm (allL 0 T) 0 < 0 then 4 else 0) := by unfold Hid; rw [HC.out, hF, if_neg (by simp)]
    have HW : Hid (ceoV T nm = if varFrom nm (allL 0 T) 0 < 0 then 0 else cellsL ((allL 0 T).take (varFrom nm (allL 0 T) 0).toNat)) := by unfold Hid; rw [HW.out, hF, if_neg (by simp)]
    have p0 := cell_of_row _ _ 0 _ _ _ HA.out
    have p1 := cell_of_row _ _ 1 _ _ _ HA.out
    have p2 := cell_of_row _ _ 2 _ _ _ HA.out
    simp at p0 p1 p2
    clear hF HD HSZ
    go_wp2_with fail
    refine HDC.out.mono ?_
    rintro e w4 ⟨v, rfl, hown, hb⟩
    obtain ⟨ad, cp, rfl⟩ := rowE_shape hown
    have hRV := RowE.of_own hown rfl
    have HBX : Hid (Calls Try.prog 61 #[.slice ad (allL 0 T).length cp] w4 fun e w' => e = .returned (.map (some w4.heap.size)) ∧ w'.ownsMap Try.prog 9 heldR w4.heap.size (allL 0 T).length (nameD (allL 0 T) T.vars.length (allL 0 T).length) ∧ Below w4.heap.size w4 w') := HBN.out ad cp w4 hRV HS2.out.2 HS2.out.1
    have hA2 := blk HA2.out hb
    have HB2 : Hid (Below w.heap.size w w4) := HB.out.trans (hb.mono HB.out.size)
    clear hown hRV hb HBN HS2 HDC p0 p1 p2
    go_wp2_with fail
    refine HBX.out.mono ?_
    rintro e w5 ⟨rfl, hmap, hb⟩
    have hA5 := blk hA2 hb
    have HB5 : Hid (Below w.heap.size w w5) := HB2.out.trans (hb.mono HB2.out.size)
    have hsz5 : w.heap.size + 1 < w5.heap.size := blk_lt hA5
    clear hA2 hb HBX
    have r0 := cell_of_row _ _ 0 _ _ _ hA5
    have r1 := cell_of_row _ _ 1 _ _ _ hA5
    have f0 := frozen_of_row _ _ 0 _ _ hA5
    have f1 := frozen_of_row _ _ 1 _ _ hA5
    simp at r0 r1 f0 f1
    have HA5 : Hid (w5.heap[w.heap.size + 1]? = some (.cells #[.int .i64 0, .int .i64 0] 29 (0, 0))) := hA5
    clear hA5
    cases hr : firstI (allL 0 T) nm (allL 0 T).length with
    | some i =>
      have hvf := HFR.out.1 i hr
      have HCV : Hid (ceoC T nm = 0 ∧ ceoV T nm = cellsL ((allL 0 T).take i)) := ⟨by rw [HC.out, hvf, if_neg (by omega)], by rw [HW.out, hvf, if_neg (by omega), Int.toNat_natCast]⟩
      obtain ⟨y0, y1, y2, y3, y4, hy⟩ : ∃ y0 y1 y2 y3 y4, entVal (allL 0 T) T.vars.length i = .agg #[.string (bs y0), .int .i64 y1, .int .i64 y2, .int .i64 y3, .bool y4, .int .i64 (cellsL ((allL 0 T).take i))] := ⟨_, _, _, _, _, rfl⟩
      have hlv : lookV (allL 0 T) T.vars.length (allL 0 T).length nm = .agg #[.string (bs y0), .int .i64 y1, .int .i64 y2, .int .i64 y3, .bool y4, .int .i64 (cellsL ((allL 0 T).take i))] := by unfold lookV; rw [hr]; exact hy
      have hok : (firstI (allL 0 T) nm (allL 0 T).length).isSome = true := by rw [hr]; rfl
      clear hr hy hvf HC HW HFR
      generalize cellsL ((allL 0 T).take i) = z at *
      go_wp2_with (at_lookup; go_loud (refine wpList_look_names rfl _ _ rfl (allL 0 T) T.vars.length (allL 0 T).length w4.heap.size (allL 0 T).length rfl hmap nm hnm rfl _ true hlv hok ?_))
      refine bodyPost_ret (v := .agg #[.int .i64 0, .int .i64 z]) (by simp [results, Try.results21, go_sem, r0, r1, hsz5]) rfl ⟨by rw [HCV.out.1, HCV.out.2], ?_⟩
      have := HB5.out.size
      refine Below.alloc (Below.setCell (Below.setCell HB5.out ?_ _) ?_ _) ?_ _ <;> (simp; try omega)
    | none =>
      have hvf := HFR.out.2 hr
      have HCV : Hid (ceoC T nm = 4 ∧ ceoV T nm = 0) := ⟨by rw [HC.out, hvf, if_pos (by omega)], by rw [HW.out, hvf, if_pos (by omega)]⟩
      have hlv : lookV (allL 0 T) T.vars.length (allL 0 T).length nm = noVal := by unfold lookV; rw [hr]
      have hok : (firstI (allL 0 T) nm (allL 0 T).length).isSome = false := by rw [hr]; rfl
      clear hr hvf HC HW HFR
      go_wp2_with (at_lookup; go_loud (refine wpList_look_names rfl _ _ rfl (allL 0 T) T.vars.length (allL 0 T).length w4.heap.size (allL 0 T).length rfl hmap nm hnm rfl _ false hlv hok ?_))
      refine bodyPost_ret (v := .agg #[.int .i64 4, .int .i64 0]) (by simp [results, Try.results21, go_sem, r0, r1, hsz5]) rfl ⟨by rw [HCV.out.1, HCV.out.2], ?_⟩
      have := HB5.out.size
      refine Below.alloc (Below.setCell (Below.setCell HB5.out ?_ _) ?_ _) ?_ _ <;> (simp; try omega)
  · have HCV : Hid (ceoC T nm = F ∧ ceoV T nm = 0) := ⟨by rw [HC.out, hF, if_pos hz], by rw [HW.out, hF, if_pos hz]⟩
    have hz1 : (F == 0) = false := by simpa using hz
    have hz2 : decide (F = 0) = false := decide_eq_false hz
    have r0 := cell_of_row _ _ 0 _ _ _ HA2.out
    have r1 := cell_of_row _ _ 1 _ _ _ HA2.out
    have f0 := frozen_of_row _ _ 0 _ _ HA2.out
    have f1 := frozen_of_row _ _ 1 _ _ HA2.out
    simp at r0 r1 f0 f1
    clear HC HW hF HFR
    go_wp2_with fail
    refine bodyPost_ret (v := .agg #[.int .i64 F, .int .i64 0]) (by simp [results, Try.results21, go_sem, r0, r1]) rfl ⟨by rw [HCV.out.1, HCV.out.2], (HB.out.setCell (by simp) _).setCell (by simp) _⟩
end Go.Proofs.Ytbgnmocbpigpmaa
