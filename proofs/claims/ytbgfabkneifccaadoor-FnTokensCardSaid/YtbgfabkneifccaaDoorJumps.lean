/-
  A scope with several labels: what holds at each jump to one, and a number that every jump lowers.
-/
import Derived.WalkKit
import Derived.WalkMore
namespace Go.Proofs.YtbgfabkneifccaaDoor
open Go

/-- by a goto to label l: J l; else as Q -/
def jumps (J : Nat → Act → World → Prop) (Q : Exit → Act → World → Prop) (e : Exit) (a : Act) (w : World) : Prop :=
  match e with
  | .goto l => J l a w
  | _ => Q e a w
section
variable {J : Nat → Act → World → Prop} {Q : Exit → Act → World → Prop} {a : Act} {w : World}
theorem jumps_ret : jumps J Q .ret a w = Q .ret a w := rfl
theorem jumps_normal : jumps J Q .normal a w = Q .normal a w := rfl
theorem jumps_goto (l : Nat) : jumps J Q (.goto l) a w = J l a w := rfl
end
/-- the run of a scope, jump by jump -/
theorem scope_jumps {P : Program} {a : Act} {w : World} {Q : Exit → Act → World → Prop} {c : Code} (J : Nat → Act → World → Prop) (μ : Nat → Act → World → Nat) (M : Nat)
    (first : c.wp P (jumps (fun l' a' w' => J l' a' w' ∧ μ l' a' w' < M) Q) a w)
    (pass : ∀ l, (∃ a w, J l a w) → ∃ rest, findLabel c l = some rest ∧ ∀ a w, J l a w → rest.wp P (jumps (fun l' a' w' => J l' a' w' ∧ μ l' a' w' < μ l a w) Q) a w) : (Code.scope c).wp P Q a w := by
  intro b k cs
  -- from a jump to a label on: by the number
  have run : ∀ n l a w, μ l a w < n → J l a w → ∃ rest, findLabel c l = some rest ∧ ∃ e a' w', Q e a' w' ∧ Arrives P (lone (b.at a (.code rest :: .inScope c :: k)) cs w) b k cs e a' w' := by
    intro n
    induction n with
    | zero => intro l a w h; exact absurd h (by omega)
    | succ n ih =>
      intro l a w hn hJ
      obtain ⟨rest, hf, hp⟩ := pass l ⟨a, w, hJ⟩
      refine ⟨rest, hf, ?_⟩
      obtain ⟨e, a1, w1, hq, arr⟩ := hp a w hJ b (.inScope c :: k) cs
      cases e with
      | goto l' =>
        obtain ⟨hJ', hlt⟩ := hq
        obtain ⟨rest', hf', e2, a2, w2, hq2, arr2⟩ := ih l' a1 w1 (by omega) hJ'
        have hg : gotoIn l' (.inScope c :: k) = some (.code rest' :: .inScope c :: k) := by simp [gotoIn, hf']
        exact ⟨e2, a2, w2, hq2, .of_steps (arr _ hg) arr2⟩
      | normal => exact ⟨.normal, a1, w1, hq, Steps.trans arr (.one step_inScope)⟩
      | exit id => exact ⟨.exit id, a1, w1, hq, fun k' hk => arr k' (by simp [exitTo, hk])⟩
      | ret => exact ⟨_, a1, w1, hq, arr⟩
      | panic ch => exact ⟨_, a1, w1, hq, arr⟩
      | outgrown => exact ⟨_, a1, w1, hq, arr⟩
  obtain ⟨e, a1, w1, hq, arr⟩ := first b (.inScope c :: k) cs
  cases e with
  | goto l' =>
    obtain ⟨hJ', _⟩ := hq
    obtain ⟨rest', hf', e2, a2, w2, hq2, arr2⟩ := run _ l' a1 w1 (Nat.lt_succ_self _) hJ'
    have hg : gotoIn l' (.inScope c :: k) = some (.code rest' :: .inScope c :: k) := by simp [gotoIn, hf']
    exact ⟨e2, a2, w2, hq2, .of_steps (.head step_scope (arr _ hg)) arr2⟩
  | normal => exact ⟨.normal, a1, w1, hq, .head step_scope (Steps.trans arr (.one step_inScope))⟩
  | exit id => exact ⟨.exit id, a1, w1, hq, fun k' hk => .head step_scope (arr k' (by simp [exitTo, hk]))⟩
  | ret => exact ⟨_, a1, w1, hq, .of_steps (.one step_scope) arr⟩
  | panic ch => exact ⟨_, a1, w1, hq, .of_steps (.one step_scope) arr⟩
  | outgrown => exact ⟨_, a1, w1, hq, .of_steps (.one step_scope) arr⟩
/-- whatever frame and world: as what holds of it -/
theorem wp_from {P : Program} {a : Act} {w : World} {Q : Exit → Act → World → Prop} {c : Code} (I : Act → World → Prop) (h : I a w) (hall : ∀ a w, I a w → c.wp P Q a w) : c.wp P Q a w := hall a w h
end Go.Proofs.YtbgfabkneifccaaDoor
