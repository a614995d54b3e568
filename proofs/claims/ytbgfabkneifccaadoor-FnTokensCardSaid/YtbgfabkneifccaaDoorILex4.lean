/-
  impl.LexText at the label 'ended': the token that the piece is.
-/
import Derived.Test.YtbgfabkneifccaaDoorILexA
namespace Go.Proofs.YtbgfabkneifccaaDoor
open Go.RowKit
set_option linter.unusedVariables false
attribute [local go_sem] bs_size bs_get bs_extract bs_append bs_eq bs_toList jumps_ret jumps_normal

set_option maxHeartbeats 12800000 in
set_option maxRecDepth 100000 in
theorem lexSeg4 (l : List UInt8) (R : Int × Nat × List (Tok × Nat)) (w : World) (hl : l.length ≤ 1200) (hE : Errs w) (r0 c rest : Code) (hc : (Tryd.f9).body = some (.seq r0 (.scope c))) (hr : findLabel c 4 = some (.seq .skip rest)) (M : Nat) (a : Act) (wr : World) (hJ : LexJ l R w 4 a wr) (hM : mu l.length 4 a wr ≤ M) :
    rest.wp Tryd.prog (jumps (Jmp l R w M) (bodyPost Tryd.prog Tryd.f9 (Ends R w))) a wr := by
  cases hc
  cases hr
  obtain ⟨i0, hi, hz0, hz1, hz2⟩ := info_parts infoTok
  obtain ⟨p, k, q, acc, vt, hF, hin, ho, hfine⟩ := hJ
  rw [hF.mu] at hM
  have hM : 8 * (l.length - q) + 1 ≤ M := hM
  have hst := hin.at_.mem
  obtain ⟨ad, cp, rfl⟩ := ownE_shape hst.own
  obtain ⟨u1, u7, u8, u9, u10, u11, u12, u13, u14, u15, u16, u17, u18, u19, u20, u21, u22, u23, u24, u25, u26, u27, u28, u29, u30, u31, u32, u33, u34, u35, u36, u37, u38, u39, u40, u41, u42, u43, u44, u45, u46, u47, u48, u49, u50, u51, u52, u53, u54, u55, u56, u57, u58, u59, u60, u61, u62, u63, u64, u65, u66, u67, u68, u69, u70, u71, u72, u73, u74, u75, u76, u77, u78, u79, u80, u81, u82, u83, u84, u85, u86, u87, u88, u89, u90, u91, u92, u93, rfl⟩ := hF
  have hsl := slice_pq l p k q hin.at_q hin.le
  have hT : Hid (∀ w, Errs w → Calls Tryd.prog 34 #[.string (bs ((l.drop p).take k)), .int .i64 p] w fun e w' => e = .returned (tokV (tokL ((l.drop p).take k)) p) ∧ Below w.heap.size w w') := fun w h => tokenOf_any _ p hfine (by rw [List.length_take]; have := hin.le; have := hin.at_q; omega) w h
  obtain ⟨t, ht⟩ : ∃ t, t = tokL ((l.drop p).take k) := ⟨_, rfl⟩
  rw [← ht] at hT ho
  have HTX : Hid (t.text = (l.drop p).take k) := by show _ = _; rw [ht]; rfl
  have htk : t.kind = kindL ((l.drop p).take k) := by rw [ht]; rfl
  rw [← htk] at ho
  clear ht htk
  have HOO : Hid (oneL (l.drop p) = if t.kind = 0 then none else some t) := ho
  have HIN : Hid (In l R w wr p k q acc (.slice ad acc.length cp)) := hin
  have HM : Hid (8 * (l.length - q) + 1 ≤ M) := hM
  have HER : Hid (Errs wr) := hE.below hst.bel
  have HLEN : Hid (((l.drop p).take k).length = k) := by show _ = _; rw [List.length_take, List.length_drop]; have := hin.le; have := hin.at_q; omega
  generalize (l.drop p).take k = x at *
  clear hE hin ho hM hfine
  generalize hQ : bodyPost Tryd.prog Tryd.f9 (Ends R w) = Q
  have hql := HIN.out.le
  clear hst
  go_wp2_with fail
  refine (hT.out _ HER.out).mono ?_
  rintro e w2 ⟨rfl, hb⟩
  have hst2 := HIN.out.at_.mem.below hb
  clear hb hT HER
  have HST : Hid (ILex w w2 (.slice ad acc.length cp) acc) := hst2
  obtain ⟨t0, q0, htok⟩ := hst2.tok
  have t0c := cell_of_row _ _ 0 _ _ _ htok
  have t1c := cell_of_row _ _ 1 _ _ _ htok
  have t2c := cell_of_row _ _ 2 _ _ _ htok
  have t3c := cell_of_row _ _ 3 _ _ _ htok
  have g0 := frozen_of_row _ _ 0 _ _ htok
  have g1 := frozen_of_row _ _ 1 _ _ htok
  have g2 := frozen_of_row _ _ 2 _ _ htok
  have g3 := frozen_of_row _ _ 3 _ _ htok
  have r0 := cell_of_row _ _ 0 _ _ _ hst2.res
  have r1 := cell_of_row _ _ 1 _ _ _ hst2.res
  have r2 := cell_of_row _ _ 2 _ _ _ hst2.res
  have f0 := frozen_of_row _ _ 0 _ _ hst2.res
  have f1 := frozen_of_row _ _ 1 _ _ hst2.res
  have f2 := frozen_of_row _ _ 2 _ _ hst2.res
  simp at t0c t1c t2c t3c r0 r1 r2
  have hbel := hst2.bel
  have hsz := hst2.size
  have HTOK : Hid (w2.heap[w.heap.size + 1]? = some (.cells #[.int .i64 t0.kind, .string (bs t0.text), .int .i64 t0.num, .int .i64 q0] 33 (0, 0))) := htok
  clear htok hst2
  have hlt0 : w.heap.size < w2.heap.size := by omega
  have hlt1 : w.heap.size + 1 < w2.heap.size := by omega
  by_cases hk : t.kind = 0
  · have HK : Hid (t.kind = 0) := hk
    have hkb : (t.kind == 0) = true := by simpa using hk
    clear hk HTOK
    go_wp2_with fail
    subst hQ
    refine bodyPost_ret (v := .agg #[.int .i64 5, .int .i64 p, .slice none 0 0]) (by simp [results, Tryd.results9, go_sem, r0, r1, r2]) rfl ⟨?_, ?_⟩
    · rw [HIN.out.at_.rest]
      have hd := drop_at l p HIN.out.lt
      have ho := HOO.out
      rw [hd, if_pos HK.out] at ho
      rw [hd, lexW_none _ _ _ HIN.out.nb HIN.out.few ho]
      exact ⟨_, rfl, ownE_nil _ _ _ _⟩
    · go_grown
  · have HK : Hid (¬ t.kind = 0) := hk
    have hkb : (t.kind == 0) = false := by simpa using hk
    clear hk
    obtain ⟨w3, hw3⟩ : ∃ w3, w3 = (((w2.setCell ⟨w.heap.size + 1, 0, none⟩ (.int .i64 t.kind)).setCell ⟨w.heap.size + 1, 1, none⟩ (.string (bs t.text))).setCell ⟨w.heap.size + 1, 2, none⟩ (.int .i64 t.num)).setCell ⟨w.heap.size + 1, 3, none⟩ (.int .i64 (p : Int)) := ⟨_, rfl⟩
    have htok3 : w3.heap[w.heap.size + 1]? = some (.cells #[.int .i64 t.kind, .string (bs t.text), .int .i64 t.num, .int .i64 (p : Int)] 33 (0, 0)) := by
      rw [hw3]
      have e0 := heap_setCell_same w2 (w.heap.size + 1) 0 _ _ (.int .i64 t.kind) HTOK.out
      have e1 := heap_setCell_same _ (w.heap.size + 1) 1 _ _ (.string (bs t.text)) e0
      have e2 := heap_setCell_same _ (w.heap.size + 1) 2 _ _ (.int .i64 t.num) e1
      exact heap_setCell_same _ (w.heap.size + 1) 3 _ _ (.int .i64 (p : Int)) e2
    have hbel3 : Below (w.heap.size + 1) w2 w3 := by
      rw [hw3]
      exact ((((Below.refl _ _).setCell (by simp) _).setCell (by simp) _).setCell (by simp) _).setCell (by simp) _
    have hoth : ∀ g, g ≠ w.heap.size + 1 → w3.heap[g]? = w2.heap[g]? := fun g hg => by
      rw [hw3, Below.heap_setCell _ _ _ _ hg, Below.heap_setCell _ _ _ _ hg, Below.heap_setCell _ _ _ _ hg, Below.heap_setCell _ _ _ _ hg]
    have hsz3 : w3.heap.size = w2.heap.size := by rw [hw3]; simp
    have hst3 : ILex w w3 (.slice ad acc.length cp) acc :=
      ⟨(hoth _ (by omega)).trans HST.out.res, ⟨t, p, htok3⟩, ownE_same HST.out.own (fun g hg _ => hoth g (by omega)), HST.out.bel.trans (hbel3.mono (by omega)), by rw [hsz3]; exact HST.out.size⟩
    have HST3 : Hid (ILex w w3 (.slice ad acc.length cp) acc) := hst3
    have hown := hst3.own
    have HTOK3 : Hid (w3.heap[w.heap.size + 1]? = some (.cells #[.int .i64 t.kind, .string (bs t.text), .int .i64 t.num, .int .i64 (p : Int)] 33 (0, 0))) := htok3
    have HSZ3 : Hid (w3.heap.size = w2.heap.size) := hsz3
    clear hst3 htok3 hbel3 hoth hsz3 HTOK
    subst hw3
    go_wp2_with (at_builtin; refine wpList_append_own _ rfl _ _ 25 rfl (w.heap.size + 2) 33 i0 (.agg #[.int .i64 0, .string ⟨#[]⟩, .int .i64 0, .int .i64 0]) 4 40 Tryd.underlying25 hi hz0 hz1 hz2 rfl (by decide) _ _ _ rfl (hown.alloc _) ⟨w2.heap.size, 0, none⟩ 1 1 [.int .i64 t.kind, .string (bs t.text), .int .i64 t.num, .int .i64 (p : Int)] rfl rfl ?c1 ?c2 ?c3 ?c4 ?c5 ?_)
    case c1 =>
      intro j u hj
      match j, hj with
      | 0, hj => simp at hj; subst hj; simp [Addr.add, go_sem]
      | 1, hj => simp at hj; subst hj; simp [Addr.add, go_sem]
      | 2, hj => simp at hj; subst hj; simp [Addr.add, go_sem]
      | 3, hj => simp at hj; subst hj; simp [Addr.add, go_sem]
      | j + 4, hj => simp at hj
    case c2 => intro u hu; simp at hu; rcases hu with rfl | rfl | rfl | rfl <;> rfl
    case c3 => have := HIN.out.few; unfold maxLen; omega
    case c4 => have := HIN.out.few; omega
    case c5 => simp; omega
    intro v' w6 hown' hgrow _
    obtain ⟨w3, hw3⟩ : ∃ w3, w3 = (((w2.setCell ⟨w.heap.size + 1, 0, none⟩ (.int .i64 t.kind)).setCell ⟨w.heap.size + 1, 1, none⟩ (.string (bs t.text))).setCell ⟨w.heap.size + 1, 2, none⟩ (.int .i64 t.num)).setCell ⟨w.heap.size + 1, 3, none⟩ (.int .i64 (p : Int)) := ⟨_, rfl⟩
    rw [← hw3] at HST3 hown HTOK3 HSZ3 hgrow
    clear hw3
    have hrow : ∀ j, (Value.slice ad acc.length cp).ownBlock = some j → w.heap.size + 2 ≤ j ∧ j < w3.heap.size := fun j hj => hown.lt j hj
    have hz3 : w3.heap.size = w2.heap.size := HSZ3.out
    have hsame : ∀ g, g < w3.heap.size → (Value.slice ad acc.length cp).ownBlock ≠ some g → w6.heap[g]? = w3.heap[g]? := fun g hg hne => by
      rw [hgrow.block g (by simp; omega) (fun e => hne e.symm), Below.heap_alloc _ _ _ hg]
    have hbel6 : Below w.heap.size w w6 := by
      have h3 : Below w.heap.size w (w3.alloc (.cells #[.int .i64 t.kind, .string (bs t.text), .int .i64 t.num, .int .i64 (p : Int)] 33)) := HST3.out.bel.alloc (by omega) _
      exact h3.grown hgrow (by simp; omega) (fun j hj => by have := (hrow j hj).1; omega)
    have hsz6 : w.heap.size + 2 ≤ w6.heap.size := by have := hgrow.size; simp at this; omega
    obtain ⟨a', c', rfl⟩ := ownE_shape hown'
    have hlen : (acc ++ [(t, p)]).length = acc.length + 1 := by simp
    have hst7 : ILex w w6 (.slice a' (acc.length + 1) c') (acc ++ [(t, p)]) := by
      refine ⟨(hsame _ (by omega) (fun e => by have := (hrow _ e).1; omega)).trans HST3.out.res, ⟨t, p, (hsame _ (by omega) (fun e => by have := (hrow _ e).1; omega)).trans HTOK3.out⟩, ?_, hbel6, hsz6⟩
      rw [hlen, tokCells_snoc]
      exact hown'
    have hd := drop_at l p HIN.out.lt
    have ho := HOO.out
    rw [if_neg HK.out] at ho
    have HAT : Hid (At l R w w6 q (acc ++ [(t, p)]) (.slice a' (acc.length + 1) c')) := by
      refine ⟨hql, by rw [hlen]; have := HIN.out.few; omega, ?_, hst7⟩
      rw [HIN.out.at_.rest, hd, lexW_some _ _ _ t HIN.out.nb HIN.out.few (by rw [← hd]; exact ho), ← hd, HTX.out, HLEN.out, List.drop_drop, ← HIN.out.at_q]
    have HM2 : Hid (8 * (l.length - q) < M) := by have := HM.out; show _ < _; omega
    clear hst7 hd ho hsame hrow hbel6 hsz6 hown' hgrow hown HST HST3 HTOK3 t0c t1c t2c t3c g0 g1 g2 g3 r0 r1 r2 f0 f1 f2 hbel hsz HSZ3 hz3 hlen
    go_wp2_with fail
    go_step3
    exact jmp0 (p := q) ⟨_, _, _, _, _, _, _, _, _, _, _, _, _, _, _, _, _, _, _, _, _, _, _, _, _, _, _, _, _, _, _, _, _, _, _, _, _, _, _, _, _, _, _, _, _, _, _, _, _, _, _, _, _, _, _, _, _, _, _, _, _, _, _, _, _, _, _, _, _, _, _, _, _, _, _, _, _, _, _, _, _, _, _, _, _, _, _, _, rfl⟩ HAT.out HM2.out
end Go.Proofs.YtbgfabkneifccaaDoor
