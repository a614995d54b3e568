/-
  impl.LexText answers the plain tokens, in new memory; where the variables strconv.ErrSyntax, ErrRange hold a value.
-/
import Derived.Test.YtbgfabkneifccaaDoorILex0
import Derived.Test.YtbgfabkneifccaaDoorILex1
import Derived.Test.YtbgfabkneifccaaDoorILex2
import Derived.Test.YtbgfabkneifccaaDoorILex3
namespace Go.Proofs.YtbgfabkneifccaaDoor
open Go.RowKit
set_option linter.unusedVariables false
attribute [local go_sem] bs_size bs_get bs_extract bs_append bs_eq bs_toList jumps_ret jumps_normal

set_option maxHeartbeats 12800000 in
set_option maxRecDepth 100000 in
theorem implLex_any (l : List UInt8) (w : World) (hl : l.length ≤ 2000000) (hE : Errs w) : Calls Tryd.prog 9 #[.string (bs l)] w fun e w' => Lexed (lexL l) w.heap.size e w' ∧ Below w.heap.size w w' := by
  by_cases h12 : 1200 < l.length
  · have hR : lexL l = (2, 0, []) := by unfold lexL; rw [if_pos h12]
    rw [hR]
    have hb : decide ((1200 : Int) < (l.length : Int)) = true := decide_eq_true (by omega)
    clear hR h12
    go_enter Tryd.func9, Tryd.ntmps9
    go_wp2
    go_step3
    go_wp2
    try rw [Exit.noGoto_ret]
    refine bodyPost_ret (v := .agg #[.int .i64 2, .int .i64 0, .slice none 0 0]) (by simp [results, Tryd.results9, go_sem]) rfl ⟨⟨_, rfl, ownE_nil _ _ _ _⟩, ?_⟩
    go_grown
  · have hR0 : lexL l = lexW l 0 [] := by unfold lexL; rw [if_neg h12]; rfl
    rw [hR0]
    clear hR0
    have hb : decide ((1200 : Int) < (l.length : Int)) = false := decide_eq_false (by omega)
    have hl2 : l.length ≤ 1200 := by omega
    obtain ⟨R, hR⟩ : ∃ R, R = lexW l 0 [] := ⟨_, rfl⟩
    rw [← hR]
    have HR : Hid (R = lexW l 0 []) := hR
    have HE : Hid (Errs w) := hE
    clear hR h12 hl hE
    have hst : ILex w ((w.alloc (.cells #[.int .i64 0, .int .i64 0, .slice none 0 0] 27)).alloc (.cells #[.int .i64 0, .string ⟨#[]⟩, .int .i64 0, .int .i64 0] 33)) (.slice none 0 0) [] := by
      refine ⟨?_, ⟨⟨0, [], 0⟩, 0, ?_⟩, ownE_nil _ _ _ _, ((Below.refl _ _).alloc (Nat.le_refl _) _).alloc (by simp) _, by simp⟩
      · rw [Below.heap_alloc _ _ _ (by simp)]; exact heap_alloc_new w _
      · have h := heap_alloc_new (w.alloc (.cells #[.int .i64 0, .int .i64 0, .slice none 0 0] 27)) (.cells #[.int .i64 0, .string ⟨#[]⟩, .int .i64 0, .int .i64 0] 33)
        rwa [show (w.alloc (.cells #[.int .i64 0, .int .i64 0, .slice none 0 0] 27)).heap.size = w.heap.size + 1 from by simp] at h
    have HST : Hid (ILex w ((w.alloc (.cells #[.int .i64 0, .int .i64 0, .slice none 0 0] 27)).alloc (.cells #[.int .i64 0, .string ⟨#[]⟩, .int .i64 0, .int .i64 0] 33)) (.slice none 0 0) []) := hst
    clear hst
    have hS0 : Hid (∀ r0 c rest, (Tryd.f9).body = some (.seq r0 (.scope c)) → findLabel c 0 = some (.seq .skip rest) → ∀ M a wr, LexJ l R w 0 a wr → mu l.length 0 a wr ≤ M → rest.wp Tryd.prog (jumps (Jmp l R w M) (bodyPost Tryd.prog Tryd.f9 (Ends R w))) a wr) := fun r0 c rest hc hr M a wr hJ hM => lexSeg0 l R w hl2 HE.out r0 c rest hc hr M a wr hJ hM
    have hS : Hid (∀ k r0 c, (Tryd.f9).body = some (.seq r0 (.scope c)) → (∃ a wr, LexJ l R w k a wr) → ∃ rest, findLabel c k = some rest ∧ ∀ a wr, LexJ l R w k a wr → rest.wp Tryd.prog (jumps (Jmp l R w (mu l.length k a wr)) (bodyPost Tryd.prog Tryd.f9 (Ends R w))) a wr) := by
      intro k r0 c hc hk
      have hc' := hc
      cases hc
      match k, hk with
      | 0, _ => exact ⟨_, rfl, fun a wr h => wp_seq (wp_skip (lexSeg0 l R w hl2 HE.out _ _ _ hc' rfl _ a wr h (Nat.le_refl _)))⟩
      | 1, _ => exact ⟨_, rfl, fun a wr h => lexSeg1 l R w hl2 HE.out _ _ _ hc' rfl _ a wr h (Nat.le_refl _)⟩
      | 2, _ => exact ⟨_, rfl, fun a wr h => lexSeg2 l R w hl2 HE.out _ _ _ hc' rfl _ a wr h (Nat.le_refl _)⟩
      | 3, _ => exact ⟨_, rfl, fun a wr h => lexSeg3 l R w hl2 HE.out _ _ _ hc' rfl _ a wr h (Nat.le_refl _)⟩
      | 4, _ => exact ⟨_, rfl, fun a wr h => wp_seq (wp_skip (lexSeg4 l R w hl2 HE.out _ _ _ hc' rfl _ a wr h (Nat.le_refl _)))⟩
      | k + 5, ⟨a, wr, h⟩ => exact h.elim
    go_enter Tryd.func9, Tryd.ntmps9
    go_wp2
    refine scope_jumps (LexJ l R w) (mu l.length) (8 * l.length + 100) ?first (fun k hk => hS.out k _ _ rfl hk)
    case first =>
      generalize hQ : bodyPost Tryd.prog Tryd.f9 _ = Q
      go_wp2
      go_step3
      subst hQ
      rename_i K hK
      refine hK _ _ (hS0.out _ _ _ rfl rfl _ _ _ ⟨0, [], _, _, ⟨_, _, _, _, _, _, _, _, _, _, _, _, _, _, _, _, _, _, _, _, _, _, _, _, _, _, _, _, _, _, _, _, _, _, _, _, _, _, _, _, _, _, _, _, _, _, _, _, _, _, _, _, _, _, _, _, _, _, _, _, _, _, _, _, _, _, _, _, _, _, _, _, _, _, _, _, _, _, _, _, _, _, _, _, _, _, _, _, rfl⟩, by omega, by simp, HR.out, HST.out⟩ ?_)
      show 8 * (l.length - (intOf (.int .i64 0)).toNat) + 0 ≤ 8 * l.length + 100
      simp [intOf]
end Go.Proofs.YtbgfabkneifccaaDoor
