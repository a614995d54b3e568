/-
  The Go function laws.FnExactNamesOf answers true at every input and writes nothing that was there. No condition.
-/
import Derived.Test.YtbgnmocbpigpmaaNamesM
import Derived.Test.YtbgnmocbpigpmaaIStat
import Derived.Test.YtbgnmocbpigpmaaINames
import Derived.Deep.AppendLies
import Derived.Deep.RegionLaw
import Derived.Test.YtbgnmocbpigpmaaLawNames
namespace Go.Proofs.Ytbgnmocbpigpmaa
open Go.RowKit
set_option linter.unusedVariables false
attribute [local go_sem] bs_size bs_get bs_extract bs_append bs_eq bs_toList

/-- the state between two rounds: the box, the answer, the list that is made, its row -/
structure NamSt (w wr : World) (vv vn vb : Value) (g6 : Nat) (v : Value) (N : List (List UInt8)) : Prop where
  row : wr.ownsRow (g6 + 1) 9 1 v N.length (namC N)
  box : wr.heap[w.heap.size]? = some (.cells #[vv, vn, vb] 34 (0, 0))
  res : wr.heap[w.heap.size + 1]? = some (.cells #[.int .i64 0, .slice none 0 0] 45 (0, 0))
  out : wr.heap[g6]? = some (.cells #[.int .i64 0, v] 45 (0, 0))
  bel : Below w.heap.size w wr

theorem NamSt.step {w wr W w1 : World} {vv vn vb v' : Value} {g6 cp : Nat} {ad : Option Addr} {M : List (List UInt8)} {n : List UInt8} (h : NamSt w wr vv vn vb g6 (.slice ad M.length cp) M) (hb : Below wr.heap.size wr W) (hgrow : W.grownBy w1 (Value.slice ad M.length cp).ownBlock)
    (hown1 : w1.ownsRow (g6 + 1) 9 1 v' (M ++ [n]).length (namC (M ++ [n]))) (h6 : w.heap.size + 1 < g6) : NamSt w (w1.setCell ⟨g6, 1, none⟩ v') vv vn vb g6 v' (M ++ [n]) := by
  have hrl : ∀ g, (Value.slice ad M.length cp).ownBlock = some g → g6 + 1 ≤ g ∧ g < wr.heap.size := fun g hg => h.row.lt g hg
  have hz := hb.size
  have l1 := blk_lt h.box
  have l2 := blk_lt h.res
  have l3 := blk_lt h.out
  have e1 : w1.heap[w.heap.size]? = some (.cells #[vv, vn, vb] 34 (0, 0)) := by
    rw [hgrow.block w.heap.size (by omega) (fun e => by have := (hrl _ e.symm).1; omega)]; exact blk h.box hb
  have e2 : w1.heap[w.heap.size + 1]? = some (.cells #[.int .i64 0, .slice none 0 0] 45 (0, 0)) := by
    rw [hgrow.block (w.heap.size + 1) (by omega) (fun e => by have := (hrl _ e.symm).1; omega)]; exact blk h.res hb
  have e3 : w1.heap[g6]? = some (.cells #[.int .i64 0, .slice ad M.length cp] 45 (0, 0)) := by
    rw [hgrow.block g6 (by omega) (fun e => by have := (hrl _ e.symm).1; omega)]; exact blk h.out hb
  have hbel : Below w.heap.size w w1 := (h.bel.trans (hb.mono h.bel.size)).grown hgrow (by have := h.bel.size; omega) (fun g hg => by have := (hrl _ hg).1; omega)
  refine ⟨rowE_same hown1 fun g hg hl => ?_, ?_, ?_, ?_, hbel.setCell (by simp; omega) _⟩
  · exact Below.heap_setCell _ _ _ _ (by simp; omega)
  · rw [Below.heap_setCell _ _ _ _ (by simp; omega)]; exact e1
  · rw [Below.heap_setCell _ _ _ _ (by simp; omega)]; exact e2
  · exact heap_setCell_same w1 g6 1 _ _ v' e3

set_option maxHeartbeats 6400000 in
set_option maxRecDepth 100000 in
theorem specNamesOf : TreeNames 22 nmoC nmoL := by
  intro lo vv vn vb T k w h hS
  obtain ⟨i0, hi, hz0, hz1, hz2⟩ := info_parts infoS
  obtain ⟨av, cv, rfl, _, hhv⟩ := id h.vars
  obtain ⟨an, cn, rfl, _⟩ := id h.nodes
  obtain ⟨ab, cb, rfl, _⟩ := id h.body
  have HF : Hid (∀ (p : Nat) (w' : World), TreeP lo w' p (.slice av T.vars.length cv) (.slice an T.nodes.length cn) (.slice ab T.body.length cb) T → Calls Try.prog 45 #[.pointer (some ⟨p, 0, none⟩)] w' fun e w2 => e = .returned (.int .i64 (faultL T)) ∧ Below w'.heap.size w' w2) := fun p w' hp =>
    l4Fault_any lo p _ _ _ T w' hp hS (fun hn k W hb hk => l4Right_any lo p _ _ _ T k W (hp.below hb) hS hn hk)
  have HT : Hid (TreeV lo w (.slice av T.vars.length cv) (.slice an T.nodes.length cn) (.slice ab T.body.length cb) T) := h
  have HV : Hid (T.vars ≠ [] → ∃ b o, av = some ⟨b, o, none⟩ ∧ lo ≤ b ∧ ∀ (i : Nat) (x : LVar), T.vars[i]? = some x → VarAt w b (o + i * 4) x) := hhv
  have HNM : Hid (∀ x ∈ T.vars, x.name.length ≤ 2000000) := fun x hx => by have := hS.names x hx; omega
  have HC : Hid (nmoC T k = if faultL T ≠ 0 then faultL T else if inB k 1 3 then 0 else 3) := rfl
  have HL : Hid (nmoL T k = if faultL T ≠ 0 then [] else if inB k 1 3 then namesL k T.vars else []) := rfl
  have HFEW : Hid (faultL T = 0 → T.vars.length ≤ 24) := fun h => (good_of h).vars
  obtain ⟨q, hq⟩ : ∃ q, inB k 1 3 = q := ⟨_, rfl⟩
  have hI : Hid (∀ w, Calls Try.prog 46 #[.int .i64 k, .int .i64 1, .int .i64 3] w fun e w' => e = .returned (.bool q) ∧ w' = w) := fun w => by have h := l1In_any k 1 3 w; rwa [hq] at h
  clear h hS hhv
  go_enter Try.func22, Try.ntmps22
  go_wp2_with fail
  obtain ⟨hA, hA2, hB⟩ := start_names w (.slice av T.vars.length cv) (.slice an T.nodes.length cn) (.slice ab T.body.length cb) 34 45
  generalize ((w.alloc (.cells #[.slice av T.vars.length cv, .slice an T.nodes.length cn, .slice ab T.body.length cb] 34)).alloc (.cells #[.int .i64 0, .slice none 0 0] 45)) = W at *
  refine (HF.out _ _ ⟨cell_of_row _ _ 0 _ _ _ hA, cell_of_row _ _ 1 _ _ _ hA, cell_of_row _ _ 2 _ _ _ hA, HT.out.below hB⟩).mono ?_
  rintro e w2 ⟨rfl, hb⟩
  have HA : Hid (w2.heap[w.heap.size]? = some (.cells #[.slice av T.vars.length cv, .slice an T.nodes.length cn, .slice ab T.body.length cb] 34 (0, 0))) := blk hA hb
  have HA2 : Hid (w2.heap[w.heap.size + 1]? = some (.cells #[.int .i64 0, .slice none 0 0] 45 (0, 0))) := blk hA2 hb
  have HB : Hid (Below w.heap.size w w2) := hB.trans (hb.mono hB.size)
  clear hA hA2 hB hb HF
  have p0 : w2.cell? ⟨w.heap.size, 0, none⟩ = some (.slice av T.vars.length cv) := cell_of_row _ _ 0 _ _ _ HA.out
  have r0 := cell_of_row _ _ 0 _ _ _ HA2.out
  have r1 := cell_of_row _ _ 1 _ _ _ HA2.out
  have f0 := frozen_of_row _ _ 0 _ _ HA2.out
  have f1 := frozen_of_row _ _ 1 _ _ HA2.out
  simp at r0 r1 f0 f1
  obtain ⟨F, hF⟩ : ∃ F, faultL T = F := ⟨_, rfl⟩
  rw [hF]
  by_cases hz : F = 0
  · subst hz
    cases q with
    | false =>
      have HCV : Hid (nmoC T k = 3 ∧ nmoL T k = []) := ⟨by rw [HC.out, hF, hq]; rfl, by rw [HL.out, hF, hq]; rfl⟩
      clear hF hq HC HL
      go_wp2_with fail
      refine (hI.out _).mono ?_
      rintro e w3 ⟨rfl, rfl⟩
      go_wp2_with fail
      refine bodyPost_ret (v := .agg #[.int .i64 3, .slice none 0 0]) (by simp [results, Try.results22, go_sem, r0, r1]) rfl ⟨_, by rw [HCV.out.1], by rw [HCV.out.2]; exact rowE_nil _ _ _ _, (HB.out.setCell (by simp) _).setCell (by simp) _⟩
    | true =>
      have HCV : Hid (nmoC T k = 0 ∧ nmoL T k = namesL k T.vars) := ⟨by rw [HC.out, hF, hq]; rfl, by rw [HL.out, hF, hq]; rfl⟩
      have hfew := HFEW.out hF
      have hsz2 : w.heap.size + 1 < w2.heap.size := blk_lt HA2.out
      clear hF hq HC HL HFEW r0 r1 f0 f1
      go_wp2_with fail
      refine (hI.out _).mono ?_
      rintro e w3 ⟨rfl, rfl⟩
      clear hI
      go_wp2_with fail
      have hpb : w.heap.size < w3.heap.size := by omega
      have HG6 : Hid ((w3.alloc (.cells #[.int .i64 0, .slice none 0 0] 45)).heap[w3.heap.size]? = some (.cells #[.int .i64 0, .slice none 0 0] 45 (0, 0))) := heap_alloc_new w3 _
      have HAX : Hid ((w3.alloc (.cells #[.int .i64 0, .slice none 0 0] 45)).heap[w.heap.size]? = some (.cells #[.slice av T.vars.length cv, .slice an T.nodes.length cn, .slice ab T.body.length cb] 34 (0, 0))) := (Below.heap_alloc _ _ _ (blk_lt HA.out)).trans HA.out
      have HAY : Hid ((w3.alloc (.cells #[.int .i64 0, .slice none 0 0] 45)).heap[w.heap.size + 1]? = some (.cells #[.int .i64 0, .slice none 0 0] 45 (0, 0))) := (Below.heap_alloc _ _ _ (blk_lt HA2.out)).trans HA2.out
      have HBX : Hid (Below w.heap.size w (w3.alloc (.cells #[.int .i64 0, .slice none 0 0] 45))) := HB.out.alloc HB.out.size _
      generalize w3.alloc (.cells #[.int .i64 0, .slice none 0 0] 45) = W3 at *
      generalize w3.heap.size = g6 at *
      clear HA HA2 HB p0
      go_loopw [7] (fun i wr => ∃ (j : Nat) (v : Value), j ≤ T.vars.length ∧ i = .int .i64 j ∧ NamSt w wr (.slice av T.vars.length cv) (.slice an T.nodes.length cn) (.slice ab T.body.length cb) g6 v (namesL k (T.vars.take j))) (fun i _ => T.vars.length - (intOf i).toNat)
      case atStart => exact ⟨0, .slice none 0 0, by omega, rfl, rowE_nil _ _ _ _, HAX.out, HAY.out, HG6.out, HBX.out⟩
      case round =>
        clear HAX HAY HG6 HBX
        obtain ⟨j, v, hj, rfl, hst⟩ := hrel
        have HST : Hid (NamSt w wr (.slice av T.vars.length cv) (.slice an T.nodes.length cn) (.slice ab T.body.length cb) g6 v (namesL k (T.vars.take j))) := hst
        have p0 : wr.cell? ⟨w.heap.size, 0, none⟩ = some (.slice av T.vars.length cv) := cell_of_row _ _ 0 _ _ _ hst.box
        by_cases hlt : j < T.vars.length
        · obtain ⟨x, hx⟩ : ∃ x, T.vars[j]? = some x := ⟨T.vars[j], List.getElem?_eq_getElem hlt⟩
          obtain ⟨b, o, rfl, _, hc2⟩ := HV.out (by intro e; rw [e] at hlt; simp at hlt)
          obtain ⟨x0, x1, x2, x3⟩ := (hc2 j x hx).keep (lo := 0) (Keeps.of_below hst.bel) (Nat.zero_le _)
          have hbw : b < w.heap.size := World.block_lt_of_cell? _ _ (hc2 j x hx).1
          have hk0 : (0 : Int) ≤ (j : Int) := by omega
          have hk1 : (j : Int) < (T.vars.length : Int) := by omega
          have HX : Hid (T.vars[j]? = some x) := hx
          have hll : (namesL k (T.vars.take j)).length ≤ 24 := by have := namesL_len k (T.vars.take j); rw [List.length_take] at this; omega
          by_cases he : x.kind = k
          · have HNX : Hid (namesL k (T.vars.take (j + 1)) = namesL k (T.vars.take j) ++ [x.name]) := namesL_hit HX.out he
            subst he
            obtain ⟨ad, cp, rfl⟩ := rowE_shape hst.row
            have hown := hst.row
            have hrl : ∀ g, (Value.slice ad (namesL x.kind (T.vars.take j)).length cp).ownBlock = some g → g6 + 1 ≤ g ∧ g < wr.heap.size := fun g hg => hown.lt g hg
            have q1 : wr.cell? ⟨g6, 1, none⟩ = some (.slice ad (namesL x.kind (T.vars.take j)).length cp) := cell_of_row _ _ 1 _ _ _ hst.out
            have fq : wr.frozen? ⟨g6, 1, none⟩ = false := frozen_of_row _ _ 1 _ _ hst.out
            have hgw : g6 < wr.heap.size := blk_lt hst.out
            have hbz : b < wr.heap.size := Nat.lt_of_lt_of_le hbw hst.bel.size
            have hpz : w.heap.size < wr.heap.size := by omega
            clear hst hc2 hx x2 x3
            generalize namesL x.kind (T.vars.take j) = M at *
            have ag : (Value.slice ad M.length cp).ownBlock ≠ some g6 := fun e => by have := (hrl _ e).1; omega
            have ap : (Value.slice ad M.length cp).ownBlock ≠ some w.heap.size := fun e => by have := (hrl _ e).1; omega
            have ab2 : (Value.slice ad M.length cp).ownBlock ≠ some b := fun e => by have := (hrl _ e).1; omega
            have h63 : M.length + 1 ≤ maxLen := by unfold maxLen; omega
            have hbb : (M.length + 1) * 16 ≤ 140737488355328 := by omega
            have hbase : g6 + 1 ≤ wr.heap.size := by omega
            go_wp2_with fail
            go_region_law ((refine step_append_lies _ (by rfl) _ _ _ (by rfl) (g6 + 1) 9 i0 _ 1 16 Try.underlying43 hi hz0 hz1 hz2 rfl (by omega) (.slice ad M.length cp) M.length (namC M) (by rfl) ((hown.alloc _).drew) ⟨wr.heap.size, 0, none⟩ 1 1 [.string (bs x.name)] (by rfl) (by rfl) (World.news_of_block (cs := #[.string (bs x.name)]) (t := 9) (fr := (0, 0)) (heap_alloc_new wr _)) (by simp [Value.oneCell']) (by omega) h63 hbb (by simp; omega) (wr.heap.size + 1) (by simp) ?_; intro gg cap w1 hown1 hgrow hat hlt1; have q9 : w1.cell? ⟨g6, 1, none⟩ = some (.slice ad M.length cp) := (hgrow.cell_far ⟨g6, 1, none⟩ (by simp; omega) (Ne.symm ag)).trans ((World.cell?_of_block (a := ⟨g6, 1, none⟩) (Below.heap_alloc wr _ g6 hgw)).trans q1); have f9 : w1.frozen? ⟨g6, 1, none⟩ = false := (hgrow.frozen_far ⟨g6, 1, none⟩ (by simp; omega) (Ne.symm ag)).trans ((World.frozen?_of_block (a := ⟨g6, 1, none⟩) (Below.heap_alloc wr _ g6 hgw)).trans fq); have hgw1 : g6 < w1.heap.size := World.block_lt_of_cell? _ _ q9))
            all_goals
              have hst9 : Hid (NamSt w (w1.setCell ⟨g6, 1, none⟩ (.slice (some ⟨gg, 0, none⟩) (M.length + 1) cap)) (.slice (some ⟨b, o, none⟩) T.vars.length cv) (.slice an T.nodes.length cn) (.slice ab T.body.length cb) g6 (.slice (some ⟨gg, 0, none⟩) (M.length + 1) cap) (namesL x.kind (T.vars.take (j + 1)))) := by
                unfold Hid
                rw [HNX.out]
                exact HST.out.step (((Below.refl _ _).alloc (Nat.le_refl _) _).drew) hgrow (by rw [namC_snoc, List.length_append]; exact hown1) hsz2
              clear hown1 hgrow hat hlt1 q9 f9 hgw1 hown hrl HST
              go_wp2_with fail
              go_roundw
              case rel => exact ⟨j + 1, _, by omega, by go_num, hst9.out⟩
              case measure => simp [intOf]; omega
          · have HNX : Hid (namesL k (T.vars.take (j + 1)) = namesL k (T.vars.take j)) := namesL_miss HX.out he
            have hne : (x.kind == k) = false := by simpa using he
            have hne2 : decide (x.kind = k) = false := decide_eq_false he
            clear hst hc2 hx
            go_wp2_with fail
            go_roundw
            case rel => exact ⟨j + 1, v, by omega, by go_num, by rw [HNX.out]; exact HST.out⟩
            case measure => simp [intOf]; omega
        · have hje : j = T.vars.length := by omega
          subst hje
          obtain ⟨N, hN⟩ : ∃ N, N = namesL k (T.vars.take T.vars.length) := ⟨_, rfl⟩
          rw [← hN] at hst
          have HX : Hid (N = nmoL T k) := by unfold Hid; rw [hN, List.take_length, HCV.out.2]
          have HK : Hid (0 = nmoC T k) := HCV.out.1.symm
          clear hN HST HCV
          obtain ⟨ad, cp, rfl⟩ := rowE_shape hst.row
          have q0 := cell_of_row _ _ 0 _ _ _ hst.out
          have q1 := cell_of_row _ _ 1 _ _ _ hst.out
          have r0 := cell_of_row _ _ 0 _ _ _ hst.res
          have r1 := cell_of_row _ _ 1 _ _ _ hst.res
          have f0 := frozen_of_row _ _ 0 _ _ hst.res
          have f1 := frozen_of_row _ _ 1 _ _ hst.res
          simp at q0 q1 r0 r1 f0 f1
          have HROW : Hid (wr.ownsRow (g6 + 1) 9 1 (.slice ad N.length cp) N.length (namC N)) := hst.row
          have HB : Hid (Below w.heap.size w wr) := hst.bel
          have hrz : w.heap.size + 1 < wr.heap.size := blk_lt hst.res
          clear hst
          go_wp2_with fail
          refine bodyPost_ret (v := .agg #[.int .i64 0, .slice ad N.length cp]) (by simp [results, Try.results22, go_sem, r0, r1]) rfl ⟨_, by rw [← HK.out], ?_, (HB.out.setCell (by simp) _).setCell (by simp) _⟩
          rw [← HX.out]
          refine rowE_mono (C := w.heap.size) (B := g6 + 1) (rowE_same HROW.out fun g hg hl => ?_) (by omega)
          have hne : g ≠ w.heap.size + 1 := by omega
          rw [Below.heap_setCell _ _ _ _ hne, Below.heap_setCell _ _ _ _ hne]
  · have HCV : Hid (nmoC T k = F ∧ nmoL T k = []) := ⟨by rw [HC.out, hF, if_pos hz], by rw [HL.out, hF, if_pos hz]⟩
    have hz1 : (F == 0) = false := by simpa using hz
    have hz2 : decide (F = 0) = false := decide_eq_false hz
    clear HC HL hF HFEW hq hI
    go_wp2_with fail
    refine bodyPost_ret (v := .agg #[.int .i64 F, .slice none 0 0]) (by simp [results, Try.results22, go_sem, r0, r1]) rfl ⟨_, by rw [HCV.out.1], by rw [HCV.out.2]; exact rowE_nil _ _ _ _, (HB.out.setCell (by simp) _).setCell (by simp) _⟩
end Go.Proofs.Ytbgnmocbpigpmaa
namespace Go.Proofs.Ytbgnmocbpigpmaa
open Go.RowKit
set_option linter.unusedVariables false
theorem nmoL_len (T : LTree) (k : Int) : (nmoL T k).length ≤ T.vars.length := by
  unfold nmoL
  split
  · simp
  · split
    · exact namesL_len k T.vars
    · simp
theorem fnExactNamesOf_walk (vv0 vn0 vb0 : Value) (T0 : LTree) (a1 : Int) (w : World) (w0 : IsTree w vv0 vn0 vb0 T0) (w1 : (Lit.int .i64 a1).wf = true) :
    Calls Try.prog 6 #[treeV vv0 vn0 vb0, .int .i64 a1] w fun e w' => e = .returned (.bool true) ∧ Below w.heap.size w w' :=
  namesOf_law nmoC nmoL specNamesOf implNamesOf nmoL_len vv0 vn0 vb0 T0 a1 w w0
end Go.Proofs.Ytbgnmocbpigpmaa
