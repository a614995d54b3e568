/-
  impl.LexText at the label 'mark': a mark of two bytes, or of one; then the token.
-/
import Derived.Test.YtbgfabkneifccaaDoorILex4
namespace Go.Proofs.YtbgfabkneifccaaDoor
open Go.RowKit
set_option linter.unusedVariables false
attribute [local go_sem] bs_size bs_get bs_extract bs_append bs_eq bs_toList jumps_ret jumps_normal

set_option maxHeartbeats 12800000 in
set_option maxRecDepth 100000 in
theorem lexSeg3 (l : List UInt8) (R : Int × Nat × List (Tok × Nat)) (w : World) (hl : l.length ≤ 1200) (hE : Errs w) (r0 c rest : Code) (hc : (Tryd.f9).body = some (.seq r0 (.scope c))) (hr : findLabel c 3 = some rest) (M : Nat) (a : Act) (wr : World) (hJ : LexJ l R w 3 a wr) (hM : mu l.length 3 a wr ≤ M) :
    rest.wp Tryd.prog (jumps (Jmp l R w M) (bodyPost Tryd.prog Tryd.f9 (Ends R w))) a wr := by
  cases hc
  cases hr
  obtain ⟨p, q, acc, vt, hF, hin, hc, hd⟩ := hJ
  rw [hF.mu] at hM
  have hM : 8 * (l.length - q) + 2 ≤ M := hM
  obtain ⟨u1, u7, u8, u9, u10, u11, u12, u13, u14, u15, u16, u17, u18, u19, u20, u21, u22, u23, u24, u25, u26, u27, u28, u29, u30, u31, u32, u33, u34, u35, u36, u37, u38, u39, u40, u41, u42, u43, u44, u45, u46, u47, u48, u49, u50, u51, u52, u53, u54, u55, u56, u57, u58, u59, u60, u61, u62, u63, u64, u65, u66, u67, u68, u69, u70, u71, u72, u73, u74, u75, u76, u77, u78, u79, u80, u81, u82, u83, u84, u85, u86, u87, u88, u89, u90, u91, u92, u93, rfl⟩ := hF
  have HIN : Hid (In l R w wr p 1 q acc vt) := hin
  have HC : Hid (isLet (ch l p) = false) := hc
  have HD : Hid (isDig (ch l p) = false) := hd
  have HM : Hid (8 * (l.length - q) + 2 ≤ M) := hM
  have hqe := hin.at_q
  have hql := hin.le
  have HQE : Hid (q = p + 1) := hqe
  have hS4 : Hid (∀ rest, findLabel _ 4 = some (.seq .skip rest) → ∀ (a : Act) (wr : World), LexJ l R w 4 a wr → mu l.length 4 a wr ≤ M → rest.wp Tryd.prog (jumps (Jmp l R w M) (bodyPost Tryd.prog Tryd.f9 (Ends R w))) a wr) := fun rest hr a wr h hm => lexSeg4 l R w hl hE _ _ rest rfl hr M a wr h hm
  generalize hQ : bodyPost Tryd.prog Tryd.f9 (Ends R w) = Q at hS4 ⊢
  clear hE hin hc hd hM
  by_cases hlt : q < l.length
  · have hsl := slice_pq l p 2 (q + 1) (by omega) (by omega)
    have hK := fun w => iMark_any ((l.drop p).take 2) w
    have hq1 : ((q + 1 : Nat) : Int) = (q : Int) + 1 := by omega
    rw [hq1] at hsl
    cases hm : isMarkL ((l.drop p).take 2)
    · rw [hm] at hK
      have HMK : Hid (isMarkL ((l.drop p).take 2) = false) := hm
      clear hm hqe hq1
      generalize (l.drop p).take 2 = m2 at hsl hK
      go_wp2_with (go_at_call 33; refine (hK _).mono ?_; rintro e w' ⟨rfl, rfl⟩)
      go_step3
      rename_i K hK
      refine hK _ _ (hS4.out _ rfl _ _ ⟨p, 1, q, acc, vt, ⟨_, _, _, _, _, _, _, _, _, _, _, _, _, _, _, _, _, _, _, _, _, _, _, _, _, _, _, _, _, _, _, _, _, _, _, _, _, _, _, _, _, _, _, _, _, _, _, _, _, _, _, _, _, _, _, _, _, _, _, _, _, _, _, _, _, _, _, _, _, _, _, _, _, _, _, _, _, _, _, _, _, _, _, _, _, _, _, _, rfl⟩, HIN.out, fit_mark l p 1 HIN.out.lt HC.out HD.out (.inr ⟨rfl, .inr HMK.out⟩)⟩ ?_)
      have := HM.out
      show 8 * (l.length - (intOf (.int .i64 (q : Int))).toNat) + 1 ≤ M
      simp [intOf]; omega
    · rw [hm] at hK
      have HMK : Hid (isMarkL ((l.drop p).take 2) = true) := hm
      clear hm hqe hq1
      generalize (l.drop p).take 2 = m2 at hsl hK
      go_wp2_with (go_at_call 33; refine (hK _).mono ?_; rintro e w' ⟨rfl, rfl⟩)
      go_step3
      have hf := fit_mark l p 2 HIN.out.lt HC.out HD.out (.inl ⟨rfl, by have := HQE.out; omega, HMK.out⟩)
      rename_i K hK
      refine hK _ _ (hS4.out _ rfl _ _ ⟨p, 2, q + 1, acc, vt, ⟨_, _, _, _, _, _, _, _, _, _, _, _, _, _, _, _, _, _, _, _, _, _, _, _, _, _, _, _, _, _, _, _, _, _, _, _, _, _, _, _, _, _, _, _, _, _, _, _, _, _, _, _, _, _, _, _, _, _, _, _, _, _, _, _, _, _, _, _, _, _, _, _, _, _, _, _, _, _, _, _, _, _, _, _, _, _, _, _, rfl⟩, ⟨HIN.out.at_, HIN.out.few, HIN.out.lt, HIN.out.nb, by omega, by have := HQE.out; omega, by omega⟩, hf⟩ ?_)
      have := HM.out
      show 8 * (l.length - (intOf (.int .i64 ((q : Int) + 1))).toNat) + 1 ≤ M
      simp [intOf]; omega
  · have hqn : q = l.length := by omega
    have HQN : Hid (q = l.length) := hqn
    clear hqe hqn hql
    go_wp2_with fail
    go_step3
    rename_i K hK
    refine hK _ _ (hS4.out _ rfl _ _ ⟨p, 1, q, acc, vt, ⟨_, _, _, _, _, _, _, _, _, _, _, _, _, _, _, _, _, _, _, _, _, _, _, _, _, _, _, _, _, _, _, _, _, _, _, _, _, _, _, _, _, _, _, _, _, _, _, _, _, _, _, _, _, _, _, _, _, _, _, _, _, _, _, _, _, _, _, _, _, _, _, _, _, _, _, _, _, _, _, _, _, _, _, _, _, _, _, _, rfl⟩, HIN.out, fit_mark l p 1 HIN.out.lt HC.out HD.out (.inr ⟨rfl, .inl (by have := HQE.out; have := HQN.out; omega)⟩)⟩ ?_)
    have := HM.out
    show 8 * (l.length - (intOf (.int .i64 (q : Int))).toNat) + 1 ≤ M
    simp [intOf]; omega
end Go.Proofs.YtbgfabkneifccaaDoor
