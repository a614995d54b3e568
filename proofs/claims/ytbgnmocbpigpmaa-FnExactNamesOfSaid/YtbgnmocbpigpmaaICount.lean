/-
  impl.countPlaces.
-/
import Derived.Test.YtbgnmocbpigpmaaFaultM
import Derived.Test.YtbgnmocbpigpmaaTreeWants
namespace Go.Proofs.Ytbgnmocbpigpmaa
open Go.RowKit
set_option linter.unusedVariables false

/-- counts in a row of its own -/
def Cnt (w : World) (g : Nat) (T : TypeId) (cs : List Int) : Prop := w.heap[g]? = some (.cells (cs.map (Value.int .i64)).toArray T (0, 0))
/-- numbers in a row below block hi -/
def IntsB (hi : Nat) (w : World) (v : Value) (xs : List Int) : Prop :=
  ∃ a c, v = .slice a xs.length c ∧ (xs ≠ [] → ∃ b o, a = some ⟨b, o, none⟩ ∧ b < hi ∧ ∀ (i : Nat) (x : Int), xs[i]? = some x → w.cell? ⟨b, o + i, none⟩ = some (.int .i64 x))
theorem IntsV.toB {lo : Nat} {w : World} {v : Value} {xs : List Int} (h : IntsV lo w v xs) : IntsB w.heap.size w v xs := by
  obtain ⟨a, c, h1, h2, h3⟩ := h
  refine ⟨a, c, h1, fun hn => ?_⟩
  obtain ⟨b, o, e, hl, hc⟩ := h3 hn
  cases xs with
  | nil => exact absurd rfl hn
  | cons x r => exact ⟨b, o, e, World.block_lt_of_cell? _ _ (hc 0 x rfl), hc⟩
/-- blocks below n but g are as they were, and all from outside -/
structure But (g : Nat) (w w' : World) : Prop where
  below : Below g w w'
  rest : ∀ b, b < w.heap.size → b ≠ g → w'.heap[b]? = w.heap[b]?
theorem But.refl (g : Nat) (w : World) : But g w w := ⟨Below.refl _ _, fun _ _ _ => rfl⟩
theorem But.trans {g : Nat} {a b c : World} (h : But g a b) (k : But g b c) : But g a c :=
  ⟨h.below.trans k.below, fun x hx hne => (k.rest x (Nat.lt_of_lt_of_le hx h.below.size) hne).trans (h.rest x hx hne)⟩
theorem But.cell {g : Nat} {w w' : World} (h : But g w w') {p : Addr} {u : Value} (hne : p.block ≠ g) (hc : w.cell? p = some u) : w'.cell? p = some u := by
  rw [World.cell?_of_block (h.rest p.block (World.block_lt_of_cell? _ _ hc) hne)]; exact hc
theorem But.set {g : Nat} {w w' : World} (h : But g w w') (o : Nat) (u : Value) : But g w (w'.setCell ⟨g, o, none⟩ u) :=
  ⟨h.below.setCell (Nat.le_refl _) _, fun b hb hne => (by
    have := h.rest b hb hne
    rw [← this]
    exact heap_setCell_other _ _ _ _ hne)⟩
theorem Cnt.bumped {w : World} {g : Nat} {T : TypeId} {cs : List Int} (h : Cnt w g T cs) (j : Nat) : Cnt (w.setCell ⟨g, j, none⟩ (.int .i64 (cs.getD j 0 + 1))) g T (bump cs (j : Int)) := by
  have := heap_setCell_same w g j _ _ (.int .i64 (cs.getD j 0 + 1)) h
  unfold Cnt
  rw [this]
  simp [bump, List.map_set]
theorem Cnt.cell {w : World} {g : Nat} {T : TypeId} {cs : List Int} (h : Cnt w g T cs) (j : Nat) (hj : j < cs.length) : w.cell? ⟨g, j, none⟩ = some (.int .i64 (cs.getD j 0)) ∧ w.frozen? ⟨g, j, none⟩ = false := by
  refine ⟨?_, frozen_of_row _ _ _ _ _ h⟩
  rw [cell_of_row _ _ _ _ _ _ h]
  simp [List.getElem?_eq_getElem hj]

abbrev bumpP (ls : List (Value × List Int)) (cs : List Int) : List Int := ls.foldl (fun cs p => bumps cs p.2) cs
theorem bumpP_len (ls : List (Value × List Int)) : ∀ cs : List Int, (bumpP ls cs).length = cs.length := by
  induction ls with
  | nil => intro cs; rfl
  | cons p r ih => intro cs; show (bumpP r (bumps cs p.2)).length = _; rw [ih, bumps_len]
theorem bumpP_take {ls : List (Value × List Int)} {cs : List Int} {k : Nat} {p : Value × List Int} (h : ls[k]? = some p) : bumpP (ls.take (k + 1)) cs = bumps (bumpP (ls.take k) cs) p.2 := by
  obtain ⟨hk, rfl⟩ := List.getElem?_eq_some_iff.1 h
  unfold bumpP; rw [List.take_succ_eq_append_getElem hk, List.foldl_append]; rfl
theorem bumpP_le (B : Int) : ∀ (ls : List (Value × List Int)) {M : Int} {cs : List Int}, CntLe M cs → (∀ p ∈ ls, (p.2.length : Int) ≤ B) → CntLe (M + B * ls.length) (bumpP ls cs) := by
  intro ls
  induction ls with
  | nil => intro M cs h _; simpa using h
  | cons p r ih =>
    intro M cs h hB
    have h1 := hB p (by simp)
    have := ih (cs := bumps cs p.2) ((bumps_le p.2 h).mono (M' := M + B) (by omega)) (fun n hn => hB n (by simp [hn]))
    have e : M + B * ((p :: r).length : Int) = M + B + B * (r.length : Int) := by simp [Int.mul_add]; omega
    rw [e]; exact this

set_option maxHeartbeats 3200000 in
set_option maxRecDepth 100000 in
theorem countPlaces_any (g lb : Nat) (cs : List Int) (ls : List (Value × List Int)) (c c2 : Nat) (w : World) (M B : Int)
    (hg : Cnt w g 3 cs) (hl : ∀ i p, ls[i]? = some p → w.cell? ⟨lb, i, none⟩ = some p.1) (hv : ∀ p ∈ ls, IntsB g w p.1 p.2) (hlb : lb ≠ g)
    (hin : ∀ p ∈ ls, ∀ x ∈ p.2, 0 ≤ x ∧ x < (cs.length : Int)) (hM : CntLe M cs) (hB : ∀ p ∈ ls, (p.2.length : Int) ≤ B) (hB1 : B ≤ 1048576) (h3 : ls.length ≤ 3) (hM0 : 0 ≤ M) (hM1 : M ≤ 10000000000) (hn : cs.length ≤ 200) :
    Calls Try.prog 126 #[.slice (some ⟨g, 0, none⟩) cs.length c, .slice (some ⟨lb, 0, none⟩) ls.length c2] w fun e w' => e = .returned (.tuple #[]) ∧ Cnt w' g 3 (bumpP ls cs) ∧ But g w w' := by
  have HG : Hid (Cnt w g 3 cs) := hg
  have HL := hid hl
  have HV := hid hv
  have HI := hid hin
  have HM : Hid (CntLe M cs) := hM
  have HB := hid hB
  have HB1 : Hid (B ≤ 1048576 ∧ 0 ≤ M ∧ M ≤ 10000000000) := ⟨hB1, hM0, hM1⟩
  clear hg hl hv hin hM hB hB1 hM0 hM1
  go_enter Try.func126, Try.ntmps126
  go_wp2
  go_loopw [10] (fun i wr => ∃ k : Nat, k ≤ ls.length ∧ i = .int .i64 k ∧ Cnt wr g 3 (bumpP (ls.take k) cs) ∧ But g w wr) (fun i _ => ls.length - (intOf i).toNat)
  case atStart => exact ⟨0, by omega, rfl, HG.out, But.refl _ _⟩
  case round =>
    obtain ⟨k, hk, rfl, hcnt, hbut⟩ := hrel
    have HC := hid hcnt
    clear hcnt
    by_cases hlt : k < ls.length
    · obtain ⟨p, hp⟩ : ∃ p, ls[k]? = some p := ⟨ls[k], List.getElem?_eq_getElem hlt⟩
      obtain ⟨v, l⟩ := p
      have hmem := List.mem_of_getElem? hp
      obtain ⟨a, cp, hv0, hh⟩ := HV.out _ hmem
      change v = .slice a l.length cp at hv0
      subst hv0
      have HP := hid hp
      have HH := hid hh
      have HX : Hid (∀ x ∈ l, 0 ≤ x ∧ x < (cs.length : Int)) := HI.out _ hmem
      have HLB : Hid ((l.length : Int) ≤ B) := HB.out _ hmem
      have HLE : Hid (CntLe (M + B * k) (bumpP (ls.take k) cs)) := by
        have := bumpP_le B (ls.take k) (HM.out) (fun p hp => HB.out p (List.mem_of_mem_take hp))
        have e : (ls.take k).length = k := by simp; omega
        rw [e] at this; exact this
      have c0 := hbut.cell (p := ⟨lb, k, none⟩) hlb (HL.out k _ hp)
      have hll : l.length ≤ 1048576 := by have := HLB.out; have := HB1.out.1; omega
      have HBUT : Hid (But g w wr) := hbut
      have HLN : Hid ((bumpP (ls.take k) cs).length = cs.length) := bumpP_len _ _
      generalize hD : bumpP (ls.take k) cs = D at *
      clear hp hh hmem hbut
      go_wp2
      go_loopw [16] (fun i wi => ∃ j : Nat, j ≤ l.length ∧ i = .int .i64 j ∧ Cnt wi g 3 (bumps D (l.take j)) ∧ But g w wi) (fun i _ => l.length - (intOf i).toNat)
      case atStart => exact ⟨0, by omega, rfl, HC.out, HBUT.out⟩
      case round =>
        obtain ⟨j, hj, rfl, hcnt, hbut⟩ := hrel
        by_cases hjt : j < l.length
        · obtain ⟨x, hx⟩ : ∃ x, l[j]? = some x := ⟨l[j], List.getElem?_eq_getElem hjt⟩
          obtain ⟨b, o, rfl, hbg, hc1⟩ := HH.out (by intro e; rw [e] at hjt; simp at hjt)
          have hx2 := HX.out x (List.mem_of_getElem? hx)
          obtain ⟨q, rfl⟩ : ∃ q : Nat, x = q := ⟨x.toNat, by omega⟩
          have d0 := hbut.cell (p := ⟨b, o + j, none⟩) (show b ≠ g by omega) (hc1 j _ hx)
          have hqn : q < cs.length := by omega
          have hlen : (bumps D (l.take j)).length = cs.length := by rw [bumps_len]; exact HLN.out
          obtain ⟨d1, d2⟩ := hcnt.cell q (by omega)
          have hle := (bumps_le (l.take j) HLE.out) q
          have hlj : (l.take j).length ≤ l.length := by simp; omega
          have hk3 : k ≤ 3 := by omega
          have hBk : B * (k : Int) ≤ 1048576 * 3 := by
            have h1 := HB1.out.1
            have h2 := HLB.out
            have h3 : B * (k : Int) ≤ 1048576 * (k : Int) := Int.mul_le_mul_of_nonneg_right h1 (by omega)
            omega
          have HCN : Hid (Cnt (wr.setCell ⟨g, q, none⟩ (.int .i64 ((bumps D (l.take j)).getD q 0 + 1))) g 3 (bumps D (l.take (j + 1)))) := by
            rw [bumps_take hx]; exact hcnt.bumped q
          have hz1 : (bumps D (l.take j)).getD q 0 + 1 ≤ 1000000000000 := by have := HB1.out; omega
          have hz0 : 0 ≤ (bumps D (l.take j)).getD q 0 := hle.1
          have HBUT2 : Hid (But g w wr) := hbut
          generalize (bumps D (l.take j)).getD q 0 = z at *
          have hq0 : (0 : Int) ≤ (q : Int) := by omega
          have hq1 : (q : Int) < (cs.length : Int) := by omega
          clear hle hlj hBk hlen hx2 hx hc1 hcnt hbut
          go_wp2
          go_roundw
          case rel => exact ⟨j + 1, by omega, by go_num, HCN.out, HBUT2.out.set _ _⟩
          case measure => simp [intOf]; omega
        · have hje : j = l.length := by omega
          subst hje
          have HCN : Hid (Cnt wr g 3 (bumpP (ls.take (k + 1)) cs)) := by
            unfold Hid; rw [bumpP_take HP.out, hD]; simpa using hcnt
          have HBUT2 : Hid (But g w wr) := hbut
          clear hcnt hbut hD
          go_wp2
          go_roundw
          case rel => exact ⟨k + 1, by omega, by go_num, HCN.out, HBUT2.out⟩
          case measure => simp [intOf]; omega
    · have hke : k = ls.length := by omega
      subst hke
      have HCN : Hid (Cnt wr g 3 (bumpP ls cs)) := by unfold Hid; have := HC.out; simpa using this
      have HBUT2 : Hid (But g w wr) := hbut
      clear hbut
      go_wp2
      go_end0
      exact ⟨rfl, HCN.out, HBUT2.out⟩
theorem countPlaces_at (g lb : Nat) (cs : List Int) (ls : List (Value × List Int)) (n m c c2 : Nat) (w : World) (M B : Int) (hn' : n = cs.length) (hm' : m = ls.length)
    (hg : Cnt w g 3 cs) (hl : ∀ i p, ls[i]? = some p → w.cell? ⟨lb, i, none⟩ = some p.1) (hv : ∀ p ∈ ls, IntsB g w p.1 p.2) (hlb : lb ≠ g)
    (hin : ∀ p ∈ ls, ∀ x ∈ p.2, 0 ≤ x ∧ x < (cs.length : Int)) (hM : CntLe M cs) (hB : ∀ p ∈ ls, (p.2.length : Int) ≤ B) (hB1 : B ≤ 1048576) (h3 : ls.length ≤ 3) (hM0 : 0 ≤ M) (hM1 : M ≤ 10000000000) (hn : cs.length ≤ 200) :
    Calls Try.prog 126 #[.slice (some ⟨g, 0, none⟩) n c, .slice (some ⟨lb, 0, none⟩) m c2] w fun e w' => e = .returned (.tuple #[]) ∧ Cnt w' g 3 (bumpP ls cs) ∧ But g w w' := by
  subst hn' hm'
  exact countPlaces_any g lb cs ls c c2 w M B hg hl hv hlb hin hM hB hB1 h3 hM0 hM1 hn
end Go.Proofs.Ytbgnmocbpigpmaa
