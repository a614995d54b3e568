/-
  impl.NamesOf.
-/
import Derived.Test.YtbgnmocbpigpmaaNamesM
import Derived.Test.YtbgnmocbpigpmaaIStat
import Derived.Test.YtbgnmocbpigpmaaIFault
import Derived.Laws.AppendOwn
namespace Go.Proofs.Ytbgnmocbpigpmaa
open Go.RowKit
set_option linter.unusedVariables false
attribute [local go_sem] bs_size bs_get bs_extract bs_append bs_eq bs_toList

theorem start_names (w : World) (vv vn vb : Value) (T1 T2 : TypeId) : let W := ((w.alloc (.cells #[vv, vn, vb] T1)).alloc (.cells #[.int .i64 0, .slice none 0 0] T2))
    W.heap[w.heap.size]? = some (.cells #[vv, vn, vb] T1 (0, 0)) ∧ W.heap[w.heap.size + 1]? = some (.cells #[.int .i64 0, .slice none 0 0] T2 (0, 0)) ∧ Below w.heap.size w W := by
  intro W
  have hA := heap_alloc_new w (.cells #[vv, vn, vb] T1)
  have hB : Below w.heap.size w (w.alloc (.cells #[vv, vn, vb] T1)) := (Below.refl _ _).alloc (Nat.le_refl _) _
  have hZ : (w.alloc (.cells #[vv, vn, vb] T1)).heap.size = w.heap.size + 1 := by simp
  have hA2 := heap_alloc_new (w.alloc (.cells #[vv, vn, vb] T1)) (.cells #[.int .i64 0, .slice none 0 0] T2)
  have hB2 : Below (w.alloc (.cells #[vv, vn, vb] T1)).heap.size (w.alloc (.cells #[vv, vn, vb] T1)) W := (Below.refl _ _).alloc (Nat.le_refl _) _
  rw [hZ] at hA2
  exact ⟨blk hA hB2, hA2, hB.trans (hB2.mono (by omega))⟩

set_option maxHeartbeats 6400000 in
set_option maxRecDepth 100000 in
theorem implNamesOf : TreeNames 23 nmoC nmoL := by
  intro lo vv vn vb T k w h hS
  obtain ⟨i0, hi, hz0, hz1, hz2⟩ := info_parts infoS
  obtain ⟨av, cv, rfl, _, hhv⟩ := id h.vars
  obtain ⟨an, cn, rfl, _⟩ := id h.nodes
  obtain ⟨ab, cb, rfl, _⟩ := id h.body
  have HF : Hid (∀ (w' : World), Below w.heap.size w w' → Calls Try.prog 29 #[treeV (.slice av T.vars.length cv) (.slice an T.nodes.length cn) (.slice ab T.body.length cb)] w' fun e w2 => e = .returned (.int .i64 (faultL T)) ∧ Below w'.heap.size w' w2) := fun w' hb =>
    implTreeFault lo _ _ _ T w' (h.below hb) hS
  have HV : Hid (T.vars ≠ [] → ∃ b o, av = some ⟨b, o, none⟩ ∧ lo ≤ b ∧ ∀ (i : Nat) (x : LVar), T.vars[i]? = some x → VarAt w b (o + i * 4) x) := hhv
  have HNM : Hid (∀ x ∈ T.vars, x.name.length ≤ 2000000) := fun x hx => by have := hS.names x hx; omega
  have HC : Hid (nmoC T k = if faultL T ≠ 0 then faultL T else if inB k 1 3 then 0 else 3) := rfl
  have HL : Hid (nmoL T k = if faultL T ≠ 0 then [] else if inB k 1 3 then namesL k T.vars else []) := rfl
  have HFEW : Hid (faultL T = 0 → T.vars.length ≤ 24) := fun h => (good_of h).vars
  have HCL : Hid (∀ (l : List UInt8) (w : World), l.length ≤ 2000000 → Calls Try.prog 63 #[.string (bs l)] w fun e w' => e = .returned (.string (bs l)) ∧ Below w.heap.size w w') := fun l w hl => clone_any l hl w
  obtain ⟨q, hq⟩ : ∃ q, inB k 1 3 = q := ⟨_, rfl⟩
  have hI : Hid (∀ w, Calls Try.prog 62 #[.int .i64 k, .int .i64 1, .int .i64 3] w fun e w' => e = .returned (.bool q) ∧ w' = w) := fun w => by have h := within_any k 1 3 w; rwa [hq] at h
  clear h hS hhv
  go_enter Try.func23, Try.ntmps23
  go_wp2_with fail
  obtain ⟨hA, hA2, hB⟩ := start_names w (.slice av T.vars.length cv) (.slice an T.nodes.length cn) (.slice ab T.body.length cb) 34 45
  generalize ((w.alloc (.cells #[.slice av T.vars.length cv, .slice an T.nodes.length cn, .slice ab T.body.length cb] 34)).alloc (.cells #[.int .i64 0, .slice none 0 0] 45)) = W at *
  refine (HF.out _ hB).mono ?_
  rintro e w2 ⟨rfl, hb⟩
  have HA : Hid (w2.heap[w.heap.size]? = some (.cells #[.slice av T.vars.length cv, .slice an T.nodes.length cn, .slice ab T.body.length cb] 34 (0, 0))) := blk hA hb
  have HA2 : Hid (w2.heap[w.heap.size + 1]? = some (.cells #[.int .i64 0, .slice none 0 0] 45 (0, 0))) := blk hA2 hb
  have HB : Hid (Below w.heap.size w w2) := hB.trans (hb.mono hB.size)
  clear hA hA2 hB hb HF
  have p0 : w2.cell? ⟨w.heap.size, 0, none⟩ = some (.slice av T.vars.length cv) := cell_of_row _ _ 0 _ _ _ HA.out
  have r0 := cell_of_row _ _ 0 _ _ _ HA2.out
  have r1 := cell_of_row _ _ 1 _ _ _ HA2.out
  have f0 := frozen_of_row _ _ 0 _ _ HA2.out
  have f1 := frozen_of_row _ _ 1 _ _ HA2.out
  simp at r0 r1 f0 f1
  obtain ⟨F, hF⟩ : ∃ F, faultL T = F := ⟨_, rfl⟩
  rw [hF]
  by_cases hz : F = 0
  · subst hz
    cases q with
    | false =>
      have HCV : Hid (nmoC T k = 3 ∧ nmoL T k = []) := ⟨by rw [HC.out, hF, hq]; rfl, by rw [HL.out, hF, hq]; rfl⟩
      clear hF hq HC HL
      go_wp2_with fail
      refine (hI.out _).mono ?_
      rintro e w3 ⟨rfl, rfl⟩
      go_wp2_with fail
      refine bodyPost_ret (v := .agg #[.int .i64 3, .slice none 0 0]) (by simp [results, Try.results23, go_sem, r0, r1]) rfl ⟨_, by rw [HCV.out.1], by rw [HCV.out.2]; exact rowE_nil _ _ _ _, (HB.out.setCell (by simp) _).setCell (by simp) _⟩
    | true =>
      have HCV : Hid (nmoC T k = 0 ∧ nmoL T k = namesL k T.vars) := ⟨by rw [HC.out, hF, hq]; rfl, by rw [HL.out, hF, hq]; rfl⟩
      have hfew := HFEW.out hF
      have hsz2 : w.heap.size + 1 < w2.heap.size := blk_lt HA2.out
      clear hF hq HC HL HFEW r0 r1 f0 f1
      go_wp2_with fail
      refine (hI.out _).mono ?_
      rintro e w3 ⟨rfl, rfl⟩
      clear hI
      go_wp2_with fail
      clear p0
      go_loopw [6, 22] (fun v i wr => ∃ j : Nat, j ≤ T.vars.length ∧ i = .int .i64 j ∧ wr.ownsRow (w.heap.size + 2) 9 1 v (namesL k (T.vars.take j)).length (namC (namesL k (T.vars.take j))) ∧ wr.heap[w.heap.size + 1]? = some (.cells #[.int .i64 0, .slice none 0 0] 45 (0, 0)) ∧ Below w.heap.size w wr) (fun v i _ => T.vars.length - (intOf i).toNat)
      case atStart => exact ⟨0, by omega, rfl, rowE_nil _ _ _ _, HA2.out, HB.out⟩
      case round =>
        clear HA HA2 HB hsz2
        obtain ⟨j, hj, rfl, hown, hA2, hB⟩ := hrel
        obtain ⟨ad, cp, rfl⟩ := rowE_shape hown
        have HOWN : Hid (wr.ownsRow (w.heap.size + 2) 9 1 (.slice ad (namesL k (T.vars.take j)).length cp) (namesL k (T.vars.take j)).length (namC (namesL k (T.vars.take j)))) := hown
        have HA2 : Hid (wr.heap[w.heap.size + 1]? = some (.cells #[.int .i64 0, .slice none 0 0] 45 (0, 0))) := hA2
        have HB : Hid (Below w.heap.size w wr) := hB
        have hsz : w.heap.size + 1 < wr.heap.size := blk_lt hA2
        clear hown hA2
        by_cases hlt : j < T.vars.length
        · obtain ⟨x, hx⟩ : ∃ x, T.vars[j]? = some x := ⟨T.vars[j], List.getElem?_eq_getElem hlt⟩
          obtain ⟨b, o, rfl, _, hc2⟩ := HV.out (by intro e; rw [e] at hlt; simp at hlt)
          obtain ⟨x0, x1, x2, x3⟩ := (hc2 j x hx).keep (lo := 0) (Keeps.of_below hB) (Nat.zero_le _)
          have hk0 : (0 : Int) ≤ (j : Int) := by omega
          have hk1 : (j : Int) < (T.vars.length : Int) := by omega
          have HXN : Hid (x.name.length ≤ 2000000) := HNM.out x (List.mem_of_getElem? hx)
          have HX : Hid (T.vars[j]? = some x) := hx
          have hll : (namesL k (T.vars.take j)).length ≤ 24 := by have := namesL_len k (T.vars.take j); rw [List.length_take] at this; omega
          clear hc2 hx hB
          by_cases he : x.kind = k
          · have HNX : Hid (namesL k (T.vars.take (j + 1)) = namesL k (T.vars.take j) ++ [x.name]) := namesL_hit HX.out he
            subst he
            have HB1 : Hid (Below w.heap.size w (wr.alloc (.cells #[.string (bs x.name), .int .i64 x.kind, .int .i64 x.type, .int .i64 x.size] 85))) := HB.out.alloc HB.out.size _
            have HOW1 : Hid ((wr.alloc (.cells #[.string (bs x.name), .int .i64 x.kind, .int .i64 x.type, .int .i64 x.size] 85)).ownsRow (w.heap.size + 2) 9 1 (.slice ad (namesL x.kind (T.vars.take j)).length cp) (namesL x.kind (T.vars.take j)).length (namC (namesL x.kind (T.vars.take j)))) := HOWN.out.alloc _
            have HA3 : Hid ((wr.alloc (.cells #[.string (bs x.name), .int .i64 x.kind, .int .i64 x.type, .int .i64 x.size] 85)).heap[w.heap.size + 1]? = some (.cells #[.int .i64 0, .slice none 0 0] 45 (0, 0))) := ((Below.heap_alloc _ _ _ (blk_lt HA2.out)).trans HA2.out)
            generalize namesL x.kind (T.vars.take j) = M at *
            go_wp2_with fail
            generalize wr.alloc (.cells #[.string (bs x.name), .int .i64 x.kind, .int .i64 x.type, .int .i64 x.size] 85) = w4 at *
            refine (HCL.out x.name _ HXN.out).mono ?_
            rintro e w5 ⟨rfl, hb⟩
            have hown := rowE_kept HOW1.out hb
            have HB5 : Hid (Below w.heap.size w w5) := HB1.out.trans (hb.mono HB1.out.size)
            have HA5 : Hid (w5.heap[w.heap.size + 1]? = some (.cells #[.int .i64 0, .slice none 0 0] 45 (0, 0))) := blk HA3.out hb
            have hsz5 : w.heap.size + 1 < w5.heap.size := blk_lt HA5.out
            clear hb HOW1 HB1 HA3 HOWN HA2 HB x0 x1 x2 x3 hsz
            go_wp2_with (at_builtin; go_loud (refine wpList_append_own _ rfl _ _ 43 rfl (w.heap.size + 2) 9 i0 (.string ⟨#[]⟩) 1 16 Try.underlying43 hi hz0 hz1 hz2 rfl (by decide) _ _ _ rfl (hown.alloc _) ⟨w5.heap.size, 0, none⟩ 1 1 [.string (bs x.name)] rfl rfl ?c1 ?c2 ?c3 ?c4 ?c5 ?_))
            case c1 =>
              intro j u hj
              match j, hj with
              | 0, hj => simp at hj; subst hj; simp [Addr.add]
              | j + 1, hj => simp at hj
            case c2 => intro u hu; simp at hu; subst hu; rfl
            case c3 => unfold maxLen; omega
            case c4 => omega
            case c5 => simp; omega
            intro v' w9 hown' hgrow _
            have hrow : ∀ j, (Value.slice ad M.length cp).ownBlock = some j → w.heap.size + 2 ≤ j ∧ j < w5.heap.size := fun j hj => hown.lt j hj
            have hnew : Hid (w9.ownsRow (w.heap.size + 2) 9 1 v' (namesL x.kind (T.vars.take (j + 1))).length (namC (namesL x.kind (T.vars.take (j + 1))))) := by
              unfold Hid; rw [HNX.out, namC_snoc, List.length_append]; exact hown'
            have hA9 : Hid (w9.heap[w.heap.size + 1]? = some (.cells #[.int .i64 0, .slice none 0 0] 45 (0, 0))) := by
              unfold Hid
              rw [hgrow.block (w.heap.size + 1) (by simp; omega) (fun e => by have := (hrow _ e.symm).1; omega), Below.heap_alloc _ _ _ (by omega)]
              exact HA5.out
            have hbel9 : Hid (Below w.heap.size w w9) := by
              have h3 : Below w.heap.size w (w5.alloc (.cells #[.string (bs x.name)] 9)) := HB5.out.alloc HB5.out.size _
              exact h3.grown hgrow (by simp; omega) (fun j hj => by have := (hrow j hj).1; omega)
            clear hown' hgrow hrow hown HB5 HA5
            go_wp2_with fail
            go_roundw
            case rel => exact ⟨j + 1, by omega, by go_num, hnew.out, hA9.out, hbel9.out⟩
            case measure => simp [intOf]; omega
          · have HNX : Hid (namesL k (T.vars.take (j + 1)) = namesL k (T.vars.take j)) := namesL_miss HX.out he
            have HB1 : Hid (Below w.heap.size w (wr.alloc (.cells #[.string (bs x.name), .int .i64 x.kind, .int .i64 x.type, .int .i64 x.size] 85))) := HB.out.alloc HB.out.size _
            have HOW1 : Hid ((wr.alloc (.cells #[.string (bs x.name), .int .i64 x.kind, .int .i64 x.type, .int .i64 x.size] 85)).ownsRow (w.heap.size + 2) 9 1 (.slice ad (namesL k (T.vars.take j)).length cp) (namesL k (T.vars.take j)).length (namC (namesL k (T.vars.take j)))) := HOWN.out.alloc _
            have HA3 : Hid ((wr.alloc (.cells #[.string (bs x.name), .int .i64 x.kind, .int .i64 x.type, .int .i64 x.size] 85)).heap[w.heap.size + 1]? = some (.cells #[.int .i64 0, .slice none 0 0] 45 (0, 0))) := ((Below.heap_alloc _ _ _ (blk_lt HA2.out)).trans HA2.out)
            have hne : (x.kind == k) = false := by simpa using he
            have hne2 : decide (x.kind = k) = false := decide_eq_false he
            clear HOWN HB HA2
            go_wp2_with fail
            go_roundw
            case rel => exact ⟨j + 1, by omega, by go_num, by rw [HNX.out]; exact HOW1.out, HA3.out, HB1.out⟩
            case measure => simp [intOf]; omega
        · have hje : j = T.vars.length := by omega
          subst hje
          have r0 := cell_of_row _ _ 0 _ _ _ HA2.out
          have r1 := cell_of_row _ _ 1 _ _ _ HA2.out
          have f0 := frozen_of_row _ _ 0 _ _ HA2.out
          have f1 := frozen_of_row _ _ 1 _ _ HA2.out
          simp at r0 r1 f0 f1
          have hX : namesL k (T.vars.take T.vars.length) = nmoL T k := by rw [List.take_length, HCV.out.2]
          rw [hX] at HOWN ⊢
          have HK : Hid (0 = nmoC T k) := HCV.out.1.symm
          clear hB hX HCV
          obtain ⟨N, hN⟩ : ∃ N, N = nmoL T k := ⟨_, rfl⟩
          rw [← hN] at HOWN ⊢
          have HN : Hid (N = nmoL T k) := hN
          clear hN
          go_wp2_with fail
          refine bodyPost_ret (v := .agg #[.int .i64 0, .slice ad N.length cp]) (by simp [results, Try.results23, go_sem, r0, r1]) rfl ⟨_, by rw [← HK.out], ?_, (HB.out.setCell (by simp) _).setCell (by simp) _⟩
          rw [← HN.out]
          refine rowE_mono (C := w.heap.size) (B := w.heap.size + 2) (rowE_same HOWN.out fun g hg hl => ?_) (Nat.le_add_right _ 2)
          have hne : g ≠ w.heap.size + 1 := by omega
          rw [Below.heap_setCell _ _ _ _ hne, Below.heap_setCell _ _ _ _ hne]
  · have HCV : Hid (nmoC T k = F ∧ nmoL T k = []) := ⟨by rw [HC.out, hF, if_pos hz], by rw [HL.out, hF, if_pos hz]⟩
    have hz1 : (F == 0) = false := by simpa using hz
    have hz2 : decide (F = 0) = false := decide_eq_false hz
    clear HC HL hF HFEW hq hI
    go_wp2_with fail
    refine bodyPost_ret (v := .agg #[.int .i64 F, .slice none 0 0]) (by simp [results, Try.results23, go_sem, r0, r1]) rfl ⟨_, by rw [HCV.out.1], by rw [HCV.out.2]; exact rowE_nil _ _ _ _, (HB.out.setCell (by simp) _).setCell (by simp) _⟩
end Go.Proofs.Ytbgnmocbpigpmaa
