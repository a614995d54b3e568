/-
  impl.LexText at the label 'between': blanks, the end, too many tokens, the first byte of a piece.
-/
import Derived.Test.YtbgfabkneifccaaDoorILexA
namespace Go.Proofs.YtbgfabkneifccaaDoor
open Go.RowKit
set_option linter.unusedVariables false
attribute [local go_sem] bs_size bs_get bs_extract bs_append bs_eq bs_toList jumps_ret jumps_normal

set_option maxHeartbeats 12800000 in
set_option maxRecDepth 100000 in
theorem lexSeg0 (l : List UInt8) (R : Int × Nat × List (Tok × Nat)) (w : World) (hl : l.length ≤ 1200) (hE : Errs w) (r0 c rest : Code) (hc : (Tryd.f9).body = some (.seq r0 (.scope c))) (hr : findLabel c 0 = some (.seq .skip rest)) (M : Nat) (a : Act) (wr : World) (hJ : LexJ l R w 0 a wr) (hM : mu l.length 0 a wr ≤ M) :
    rest.wp Tryd.prog (jumps (Jmp l R w M) (bodyPost Tryd.prog Tryd.f9 (Ends R w))) a wr := by
  cases hc
  cases hr
  obtain ⟨p, acc, vt, x5, hF, hp, hacc, hR, hst⟩ := hJ
  rw [hF.mu] at hM
  have hM : 8 * (l.length - p) + 0 ≤ M := hM
  obtain ⟨ad, cp, rfl⟩ := ownE_shape hst.own
  obtain ⟨u1, u7, u8, u9, u10, u11, u12, u13, u14, u15, u16, u17, u18, u19, u20, u21, u22, u23, u24, u25, u26, u27, u28, u29, u30, u31, u32, u33, u34, u35, u36, u37, u38, u39, u40, u41, u42, u43, u44, u45, u46, u47, u48, u49, u50, u51, u52, u53, u54, u55, u56, u57, u58, u59, u60, u61, u62, u63, u64, u65, u66, u67, u68, u69, u70, u71, u72, u73, u74, u75, u76, u77, u78, u79, u80, u81, u82, u83, u84, u85, u86, u87, u88, u89, u90, u91, u92, u93, rfl⟩ := hF
  have HR : Hid (R = lexW (l.drop p) p acc) := hR
  have HST : Hid (ILex w wr (.slice ad acc.length cp) acc) := hst
  have HM : Hid (8 * (l.length - p) + 0 ≤ M) := hM
  clear hE hR hM
  generalize hQ : bodyPost Tryd.prog Tryd.f9 (Ends R w) = Q
  by_cases hlt : p < l.length
  · have hd := drop_at l p hlt
    have HD : Hid (l.drop p = ch l p :: l.drop (p + 1)) := hd
    have hne : (p : Int) ≠ (l.length : Int) := by omega
    have hnb : ((p : Int) == (l.length : Int)) = false := by simpa using hne
    clear hd hne hst
    cases hbl : isBlank (ch l p)
    · have HBL : Hid (isBlank (ch l p) = false) := hbl
      have hbl2 : (decide (((ch l p).toNat : Int) = 32) || decide (((ch l p).toNat : Int) = 10)) = false := hbl
      have hB := fun w => iblank_any ((ch l p).toNat : Int) w
      rw [hbl2] at hB
      clear hbl hbl2
      by_cases hm : 400 ≤ acc.length
      · have hme : acc.length = 400 := by omega
        have HME : Hid (400 ≤ acc.length) := hm
        have r0 := cell_of_row _ _ 0 _ _ _ HST.out.res
        have r1 := cell_of_row _ _ 1 _ _ _ HST.out.res
        have r2 := cell_of_row _ _ 2 _ _ _ HST.out.res
        have f0 := frozen_of_row _ _ 0 _ _ HST.out.res
        have f1 := frozen_of_row _ _ 1 _ _ HST.out.res
        have f2 := frozen_of_row _ _ 2 _ _ HST.out.res
        simp at r0 r1 r2
        have hbel := HST.out.bel
        have hsz := HST.out.size
        clear hm
        go_wp2_with (go_at_call 29; refine (hB _).mono ?_; rintro e w' ⟨rfl, rfl⟩)
        subst hQ
        refine bodyPost_ret (v := .agg #[.int .i64 2, .int .i64 p, .slice none 0 0]) (by simp [results, Tryd.results9, go_sem, r0, r1, r2]) rfl ⟨?_, ?_⟩
        · rw [HR.out, HD.out, lexW_many _ _ _ HBL.out HME.out]
          exact ⟨_, rfl, ownE_nil _ _ _ _⟩
        · go_grown
      · have hmb : ((acc.length : Int) == 400) = false := by
          have : (acc.length : Int) ≠ 400 := by omega
          simpa using this
        have HIN : Hid (In l R w wr p 1 (p + 1) acc (.slice ad acc.length cp)) := ⟨⟨hp, hacc, HR.out, HST.out⟩, hm, hlt, HBL.out, Nat.le_refl _, rfl, by omega⟩
        have HM2 : Hid (8 * (l.length - (p + 1)) + 2 < M) := by have := HM.out; show _ < _; omega
        clear hm hacc HR HST HD HM
        have hL := fun w => iletter_any ((ch l p).toNat : Int) w
        have hD := fun w => idigit_any ((ch l p).toNat : Int) w
        cases hc : isLetI ((ch l p).toNat : Int)
        · cases hdg : isDigI ((ch l p).toNat : Int)
          · rw [hc] at hL
            rw [hdg] at hD
            have HL : Hid (isLet (ch l p) = false) := hc
            have HDG : Hid (isDig (ch l p) = false) := hdg
            clear hc hdg
            go_wp2_with (first | (go_at_call 29; refine (hB _).mono ?_; rintro e w' ⟨rfl, rfl⟩) | (go_at_call 30; refine (hL _).mono ?_; rintro e w' ⟨rfl, rfl⟩) | (go_at_call 31; refine (hD _).mono ?_; rintro e w' ⟨rfl, rfl⟩))
            go_step3
            exact jmp3 (q := p + 1) ⟨_, _, _, _, _, _, _, _, _, _, _, _, _, _, _, _, _, _, _, _, _, _, _, _, _, _, _, _, _, _, _, _, _, _, _, _, _, _, _, _, _, _, _, _, _, _, _, _, _, _, _, _, _, _, _, _, _, _, _, _, _, _, _, _, _, _, _, _, _, _, _, _, _, _, _, _, _, _, _, _, _, _, _, _, _, _, _, _, rfl⟩ HIN.out HL.out HDG.out HM2.out
          · rw [hc] at hL
            rw [hdg] at hD
            have HDG : Hid (isDig (ch l p) = true) := hdg
            clear hc hdg
            go_wp2_with (first | (go_at_call 29; refine (hB _).mono ?_; rintro e w' ⟨rfl, rfl⟩) | (go_at_call 30; refine (hL _).mono ?_; rintro e w' ⟨rfl, rfl⟩) | (go_at_call 31; refine (hD _).mono ?_; rintro e w' ⟨rfl, rfl⟩))
            go_step3
            exact jmp2 (q := p + 1) ⟨_, _, _, _, _, _, _, _, _, _, _, _, _, _, _, _, _, _, _, _, _, _, _, _, _, _, _, _, _, _, _, _, _, _, _, _, _, _, _, _, _, _, _, _, _, _, _, _, _, _, _, _, _, _, _, _, _, _, _, _, _, _, _, _, _, _, _, _, _, _, _, _, _, _, _, _, _, _, _, _, _, _, _, _, _, _, _, _, rfl⟩ HIN.out HDG.out (fun j hj => (show j = 0 from by omega) ▸ dig_num HDG.out) HM2.out
        · rw [hc] at hL
          have HL : Hid (isLet (ch l p) = true) := hc
          clear hc
          go_wp2_with (first | (go_at_call 29; refine (hB _).mono ?_; rintro e w' ⟨rfl, rfl⟩) | (go_at_call 30; refine (hL _).mono ?_; rintro e w' ⟨rfl, rfl⟩) | (go_at_call 31; refine (hD _).mono ?_; rintro e w' ⟨rfl, rfl⟩))
          go_step3
          exact jmp1 (q := p + 1) ⟨_, _, _, _, _, _, _, _, _, _, _, _, _, _, _, _, _, _, _, _, _, _, _, _, _, _, _, _, _, _, _, _, _, _, _, _, _, _, _, _, _, _, _, _, _, _, _, _, _, _, _, _, _, _, _, _, _, _, _, _, _, _, _, _, _, _, _, _, _, _, _, _, _, _, _, _, _, _, _, _, _, _, _, _, _, _, _, _, rfl⟩ HIN.out HL.out (fun j hj => (show j = 0 from by omega) ▸ HL.out) HM2.out
    · have HBL : Hid (isBlank (ch l p) = true) := hbl
      have hbl2 : (decide (((ch l p).toNat : Int) = 32) || decide (((ch l p).toNat : Int) = 10)) = true := hbl
      have hB := fun w => iblank_any ((ch l p).toNat : Int) w
      rw [hbl2] at hB
      clear hbl hbl2
      have HAT : Hid (At l R w wr (p + 1) acc (.slice ad acc.length cp)) := ⟨by omega, hacc, by rw [HR.out, HD.out, lexW_blank _ _ _ HBL.out], HST.out⟩
      have HM2 : Hid (8 * (l.length - (p + 1)) < M) := by have := HM.out; show _ < _; omega
      clear hacc HR HST HD HM HBL
      go_wp2_with (go_at_call 29; refine (hB _).mono ?_; rintro e w' ⟨rfl, rfl⟩)
      go_step3
      exact jmp0 (p := p + 1) ⟨_, _, _, _, _, _, _, _, _, _, _, _, _, _, _, _, _, _, _, _, _, _, _, _, _, _, _, _, _, _, _, _, _, _, _, _, _, _, _, _, _, _, _, _, _, _, _, _, _, _, _, _, _, _, _, _, _, _, _, _, _, _, _, _, _, _, _, _, _, _, _, _, _, _, _, _, _, _, _, _, _, _, _, _, _, _, _, _, rfl⟩ HAT.out HM2.out
  · have hpe : p = l.length := by omega
    subst hpe
    have r0 := cell_of_row _ _ 0 _ _ _ hst.res
    have r1 := cell_of_row _ _ 1 _ _ _ hst.res
    have r2 := cell_of_row _ _ 2 _ _ _ hst.res
    have f0 := frozen_of_row _ _ 0 _ _ hst.res
    have f1 := frozen_of_row _ _ 1 _ _ hst.res
    have f2 := frozen_of_row _ _ 2 _ _ hst.res
    simp at r0 r1 r2
    have hbel := hst.bel
    have hsz := hst.size
    clear hst
    go_wp2
    subst hQ
    refine bodyPost_ret (v := .agg #[.int .i64 0, .int .i64 0, .slice ad acc.length cp]) (by simp [results, Tryd.results9, go_sem, r0, r1, r2]) rfl ⟨?_, ?_⟩
    · rw [HR.out, List.drop_length, lexW_nil]
      refine ⟨_, rfl, ownE_mono (ownE_same HST.out.own (fun g hg _ => ?_)) (by omega)⟩
      repeat rw [Below.heap_setCell _ _ _ _ (by simp; omega)]
    · go_grown
end Go.Proofs.YtbgfabkneifccaaDoor
