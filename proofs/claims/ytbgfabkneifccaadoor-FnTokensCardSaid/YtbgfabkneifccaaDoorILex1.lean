/-
  impl.LexText at the label 'letters'.
-/
import Derived.Test.YtbgfabkneifccaaDoorILexA
namespace Go.Proofs.YtbgfabkneifccaaDoor
open Go.RowKit
set_option linter.unusedVariables false
attribute [local go_sem] bs_size bs_get bs_extract bs_append bs_eq bs_toList jumps_ret jumps_normal

set_option maxHeartbeats 12800000 in
set_option maxRecDepth 100000 in
theorem lexSeg1 (l : List UInt8) (R : Int × Nat × List (Tok × Nat)) (w : World) (hl : l.length ≤ 1200) (hE : Errs w) (r0 c rest : Code) (hc : (Tryd.f9).body = some (.seq r0 (.scope c))) (hr : findLabel c 1 = some rest) (M : Nat) (a : Act) (wr : World) (hJ : LexJ l R w 1 a wr) (hM : mu l.length 1 a wr ≤ M) :
    rest.wp Tryd.prog (jumps (Jmp l R w M) (bodyPost Tryd.prog Tryd.f9 (Ends R w))) a wr := by
  cases hc
  cases hr
  obtain ⟨p, k, q, acc, vt, hF, hin, hc, hall⟩ := hJ
  rw [hF.mu] at hM
  have hM : 8 * (l.length - q) + 2 ≤ M := hM
  obtain ⟨u1, u7, u8, u9, u10, u11, u12, u13, u14, u15, u16, u17, u18, u19, u20, u21, u22, u23, u24, u25, u26, u27, u28, u29, u30, u31, u32, u33, u34, u35, u36, u37, u38, u39, u40, u41, u42, u43, u44, u45, u46, u47, u48, u49, u50, u51, u52, u53, u54, u55, u56, u57, u58, u59, u60, u61, u62, u63, u64, u65, u66, u67, u68, u69, u70, u71, u72, u73, u74, u75, u76, u77, u78, u79, u80, u81, u82, u83, u84, u85, u86, u87, u88, u89, u90, u91, u92, u93, rfl⟩ := hF
  have HIN : Hid (In l R w wr p k q acc vt) := hin
  have HC : Hid (isLet (ch l p) = true) := hc
  have HALL : Hid (∀ j, j < k → isLet (ch l (p + j)) = true) := hall
  have HM : Hid (8 * (l.length - q) + 2 ≤ M) := hM
  have hqe := hin.at_q
  have hql := hin.le
  have HQE : Hid (q = p + k) := hqe
  generalize hQ : bodyPost Tryd.prog Tryd.f9 (Ends R w) = Q
  clear hE hin hc hall hM
  by_cases hlt : q < l.length
  · have hL := fun w => iletter_any ((ch l q).toNat : Int) w
    cases hcq : isLetI ((ch l q).toNat : Int)
    · have HCQ : Hid (isLet (ch l q) = false) := hcq
      rw [hcq] at hL
      clear hcq hqe
      go_wp2_with (go_at_call 30; refine (hL _).mono ?_; rintro e w' ⟨rfl, rfl⟩)
      go_step3
      exact jmp4 (q := q) ⟨_, _, _, _, _, _, _, _, _, _, _, _, _, _, _, _, _, _, _, _, _, _, _, _, _, _, _, _, _, _, _, _, _, _, _, _, _, _, _, _, _, _, _, _, _, _, _, _, _, _, _, _, _, _, _, _, _, _, _, _, _, _, _, _, _, _, _, _, _, _, _, _, _, _, _, _, _, _, _, _, _, _, _, _, _, _, _, _, rfl⟩ HIN.out (fit_let l p k HIN.out.lt HC.out HIN.out.one (by have := HQE.out; omega) HALL.out (.inr (by rw [← HQE.out]; exact HCQ.out))) (by have := HM.out; omega)
    · have HCQ : Hid (isLet (ch l q) = true) := hcq
      rw [hcq] at hL
      clear hcq hqe
      go_wp2_with (go_at_call 30; refine (hL _).mono ?_; rintro e w' ⟨rfl, rfl⟩)
      go_step3
      exact jmp1 (k := k + 1) (q := q + 1) ⟨_, _, _, _, _, _, _, _, _, _, _, _, _, _, _, _, _, _, _, _, _, _, _, _, _, _, _, _, _, _, _, _, _, _, _, _, _, _, _, _, _, _, _, _, _, _, _, _, _, _, _, _, _, _, _, _, _, _, _, _, _, _, _, _, _, _, _, _, _, _, _, _, _, _, _, _, _, _, _, _, _, _, _, _, _, _, _, _, rfl⟩ ⟨HIN.out.at_, HIN.out.few, HIN.out.lt, HIN.out.nb, by omega, by have := HQE.out; omega, by omega⟩ HC.out (fun j hj => by rcases Nat.lt_succ_iff_lt_or_eq.1 hj with h | rfl; exact HALL.out j h; rw [← HQE.out]; exact HCQ.out) (by have := HM.out; omega)
  · have hqn : q = l.length := by omega
    have HQN : Hid (q = l.length) := hqn
    clear hqe hqn hql
    go_wp2_with fail
    go_step3
    exact jmp4 (q := q) ⟨_, _, _, _, _, _, _, _, _, _, _, _, _, _, _, _, _, _, _, _, _, _, _, _, _, _, _, _, _, _, _, _, _, _, _, _, _, _, _, _, _, _, _, _, _, _, _, _, _, _, _, _, _, _, _, _, _, _, _, _, _, _, _, _, _, _, _, _, _, _, _, _, _, _, _, _, _, _, _, _, _, _, _, _, _, _, _, _, rfl⟩ HIN.out (fit_let l p k HIN.out.lt HC.out HIN.out.one (by have := HQE.out; have := HQN.out; omega) HALL.out (.inl (by have := HQE.out; have := HQN.out; omega))) (by have := HM.out; omega)
end Go.Proofs.YtbgfabkneifccaaDoor
