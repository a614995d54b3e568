/-
  spec.l3One: the token at a place, or none.
-/
import Derived.Test.YtbgfabkneifccaaDoorSNum
import Derived.Test.YtbgfabkneifccaaDoorSMark
import Derived.Deep.DrawnRows
import Derived.Deep.RegionHeld3
import Derived.Deep.QuietTactic
import Derived.BigQuiet
namespace Go.Proofs.YtbgfabkneifccaaDoor
open Go.RowKit
set_option linter.unusedVariables false
attribute [local go_sem] bs_size bs_get bs_extract bs_append bs_eq bs_toList
attribute [local go_sem ↓] Go.wp_at_zero Go.wp_at_succ

/-- a token with its place, as it lies -/
abbrev tokV (t : Tok) (p : Int) : Value := .agg #[.int .i64 t.kind, .string (bs t.text), .int .i64 t.num, .int .i64 p]
/-- a token, or that there is none -/
def One (o : Option Tok) (p : Int) (e : Ending) : Prop := ∃ t ok, e = .returned (.tuple #[tokV t p, .bool ok]) ∧ ok = o.isSome ∧ ∀ u, o = some u → t = u
theorem One.yes {t : Tok} {p : Int} : One (some t) p (.returned (.tuple #[tokV t p, .bool true])) := ⟨t, true, rfl, rfl, fun u h => Option.some.inj h⟩
theorem One.no {t : Tok} {p : Int} : One none p (.returned (.tuple #[tokV t p, .bool false])) := ⟨t, false, rfl, rfl, fun u h => by cases h⟩

theorem take_self (f : UInt8 → Bool) (l : List UInt8) : l.take (l.takeWhile f).length = l.takeWhile f := by
  have h := List.takeWhile_append_dropWhile (p := f) (l := l)
  conv => lhs; rw [← h]
  have e : ((l.takeWhile f ++ l.dropWhile f).takeWhile f).length = (l.takeWhile f).length := by rw [h]
  rw [e, List.take_left]
theorem piece_take (l : List UInt8) (p : Nat) : (l.drop p).take (pieceL l p).length = pieceL l p := by
  unfold pieceL; split <;> exact take_self _ _
theorem piece_len (l : List UInt8) (p : Nat) (h : p ≤ l.length) : p + (pieceL l p).length ≤ l.length := by
  have h1 := congrArg List.length (piece_take l p)
  simp at h1
  omega
theorem drop_head (l : List UInt8) (p : Nat) : (l.drop p).getD 0 0 = ch l p := by
  have := ch_drop l p 0
  rw [Nat.add_zero] at this
  exact this

/-- two structs of four cells, laid just ahead of a call, behind it -/
theorem own8 {w w' : World} {r0 r1 r2 r3 t0 t1 t2 t3 : Value} {T : TypeId} (hb : Below ((w.alloc (.cells #[r0, r1, r2, r3] T)).alloc (.cells #[t0, t1, t2, t3] T)).heap.size ((w.alloc (.cells #[r0, r1, r2, r3] T)).alloc (.cells #[t0, t1, t2, t3] T)) w') :
    (w'.cell? ⟨w.heap.size, 0, none⟩ = some r0 ∧ w'.cell? ⟨w.heap.size, 1, none⟩ = some r1 ∧ w'.cell? ⟨w.heap.size, 2, none⟩ = some r2 ∧ w'.cell? ⟨w.heap.size, 3, none⟩ = some r3) ∧
    (w'.frozen? ⟨w.heap.size, 0, none⟩ = false ∧ w'.frozen? ⟨w.heap.size, 1, none⟩ = false ∧ w'.frozen? ⟨w.heap.size, 2, none⟩ = false ∧ w'.frozen? ⟨w.heap.size, 3, none⟩ = false) ∧
    (w'.cell? ⟨w.heap.size + 1, 0, none⟩ = some t0 ∧ w'.cell? ⟨w.heap.size + 1, 1, none⟩ = some t1 ∧ w'.cell? ⟨w.heap.size + 1, 2, none⟩ = some t2 ∧ w'.cell? ⟨w.heap.size + 1, 3, none⟩ = some t3) ∧
    (w'.frozen? ⟨w.heap.size + 1, 0, none⟩ = false ∧ w'.frozen? ⟨w.heap.size + 1, 1, none⟩ = false ∧ w'.frozen? ⟨w.heap.size + 1, 2, none⟩ = false ∧ w'.frozen? ⟨w.heap.size + 1, 3, none⟩ = false) ∧
    w.heap.size + 1 < w'.heap.size ∧ Below w.heap.size w w' := by
  have h1 := hb.block w.heap.size (by simp; omega)
  have h2 := hb.block (w.heap.size + 1) (by simp)
  have e1 : ((w.alloc (.cells #[r0, r1, r2, r3] T)).alloc (.cells #[t0, t1, t2, t3] T)).heap[w.heap.size]? = some (.cells #[r0, r1, r2, r3] T (0, 0)) := by rw [Below.heap_alloc _ _ _ (by simp)]; exact heap_alloc_new w _
  have e2 : ((w.alloc (.cells #[r0, r1, r2, r3] T)).alloc (.cells #[t0, t1, t2, t3] T)).heap[w.heap.size + 1]? = some (.cells #[t0, t1, t2, t3] T (0, 0)) := by
    have h := heap_alloc_new (w.alloc (.cells #[r0, r1, r2, r3] T)) (.cells #[t0, t1, t2, t3] T)
    rwa [show (w.alloc (.cells #[r0, r1, r2, r3] T)).heap.size = w.heap.size + 1 from by simp] at h
  rw [e1] at h1
  rw [e2] at h2
  refine ⟨⟨cell_of_row _ _ 0 _ _ _ h1, cell_of_row _ _ 1 _ _ _ h1, cell_of_row _ _ 2 _ _ _ h1, cell_of_row _ _ 3 _ _ _ h1⟩, ⟨frozen_of_row _ _ 0 _ _ h1, frozen_of_row _ _ 1 _ _ h1, frozen_of_row _ _ 2 _ _ h1, frozen_of_row _ _ 3 _ _ h1⟩,
    ⟨cell_of_row _ _ 0 _ _ _ h2, cell_of_row _ _ 1 _ _ _ h2, cell_of_row _ _ 2 _ _ _ h2, cell_of_row _ _ 3 _ _ _ h2⟩, ⟨frozen_of_row _ _ 0 _ _ h2, frozen_of_row _ _ 1 _ _ h2, frozen_of_row _ _ 2 _ _ h2, frozen_of_row _ _ 3 _ _ h2⟩, ?_, ?_⟩
  · have := hb.size; simp at this; omega
  · exact (((Below.refl w.heap.size w).alloc (Nat.le_refl _) _).alloc (by simp) _).trans (hb.mono (by simp; omega))

set_option maxHeartbeats 1600000 in
theorem one_any (l : List UInt8) (p : Nat) (hp : p < l.length) (w : World) (hl : l.length ≤ 2000000) : Calls Tryd.prog 35 #[.string (bs l), .int .i64 p] w fun e w' => One (oneL (l.drop p)) p e ∧ Below w.heap.size w w' := by
  have hpc := fun w => piece_any l p hp w hl
  have hlen := piece_len l p (Nat.le_of_lt hp)
  have htk := piece_take l p
  have hsl : ∀ W, (Instr.slice 9 (.string (bs l)) (some (.int .i64 (p : Int))) (some (.int .i64 ((p : Int) + ((pieceL l p).length : Int)))) none).run Tryd.prog W = .ok (.string (bs (pieceL l p))) W := by
    intro W; have h := slice_at l p (pieceL l p).length hlen W; rw [htk] at h; exact h
  cases hc : isLetI ((ch l p).toNat : Int)
  · cases hd : isDigI ((ch l p).toNat : Int)
    · have ho : oneL (l.drop p) = if markL (l.drop p) = [] then none else some ⟨4, markL (l.drop p), 0⟩ := by
        unfold oneL
        rw [drop_head]
        simp only [isLet, isDig, hc, hd]
        rfl
      rw [ho]
      have hM : Hid (∀ w, Calls Tryd.prog 53 #[.string (bs l), .int .i64 p] w fun e w' => e = .returned (.string (bs (markL (l.drop p)))) ∧ Below w.heap.size w w') := fun w => mark_any l p hp w hl
      clear ho htk hsl hpc
      generalize markL (l.drop p) = M at *
      by_cases hm : M = []
      · rw [if_pos hm]
        subst hm
        go_enter Tryd.func35, Tryd.ntmps35
        go_wp2_with (first | (go_at_call 47; refine (letter_any _ _).mono ?_; rintro e w' ⟨rfl, rfl⟩) | (go_at_call 51; refine (digit_any _ _).mono ?_; rintro e w' ⟨rfl, rfl⟩))
        refine (hM.out _).mono ?_
        rintro e w1 ⟨rfl, hb⟩
        obtain ⟨⟨r0, r1, r2, r3⟩, ⟨f0, f1, f2, f3⟩, ⟨t0, t1, t2, t3⟩, ⟨g0, g1, g2, g3⟩, hz, hB⟩ := own8 hb
        clear hb
        go_wp2_with fail
        go_region
        go_wp2
        refine bodyPost_ret (v := .tuple #[tokV ⟨4, [], 0⟩ p, .bool false]) (by simp [results, Tryd.results35, go_sem, r0, r1, r2, r3]) rfl ⟨One.no, ?_⟩
        go_grown
      · rw [if_neg hm]
        have hmb : (M == []) = false := by simpa using hm
        go_enter Tryd.func35, Tryd.ntmps35
        go_wp2_with (first | (go_at_call 47; refine (letter_any _ _).mono ?_; rintro e w' ⟨rfl, rfl⟩) | (go_at_call 51; refine (digit_any _ _).mono ?_; rintro e w' ⟨rfl, rfl⟩))
        refine (hM.out _).mono ?_
        rintro e w1 ⟨rfl, hb⟩
        obtain ⟨⟨r0, r1, r2, r3⟩, ⟨f0, f1, f2, f3⟩, ⟨t0, t1, t2, t3⟩, ⟨g0, g1, g2, g3⟩, hz, hB⟩ := own8 hb
        clear hb
        go_wp2_with fail
        go_region
        go_wp2
        refine bodyPost_ret (v := .tuple #[tokV ⟨4, M, 0⟩ p, .bool true]) (by simp [results, Tryd.results35, go_sem, r0, r1, r2, r3]) rfl ⟨One.yes, ?_⟩
        go_grown
    · have ho : oneL (l.drop p) = if numOk (pieceL l p) then some ⟨2, pieceL l p, numV (pieceL l p)⟩ else none := by
        unfold oneL pieceL
        rw [drop_head]
        simp only [isLet, isDig, hc, hd]
        rfl
      rw [ho]
      generalize pieceL l p = Z at *
      have HPC : Hid (∀ w, Calls Tryd.prog 48 #[.string (bs l), .int .i64 p] w fun e w' => e = .returned (.int .i64 ((p + Z.length : Nat) : Int)) ∧ w' = w) := hpc
      have hzl : Z.length ≤ 9223372036854775807 := by omega
      have hN : Hid (∀ w, Calls Tryd.prog 52 #[.string (bs Z)] w fun e w' => Numb (numOk Z) (numV Z) e ∧ w' = w) := fun w => number_any Z w hzl
      clear ho htk hpc
      cases hk : numOk Z
      · rw [if_neg (by simp)]
        rw [hk] at hN
        go_enter Tryd.func35, Tryd.ntmps35
        go_wp2_with (first | (go_at_call 47; refine (letter_any _ _).mono ?_; rintro e w' ⟨rfl, rfl⟩) | (go_at_call 51; refine (digit_any _ _).mono ?_; rintro e w' ⟨rfl, rfl⟩) | (go_at_call 48; refine (HPC.out _).mono ?_; rintro e w' ⟨rfl, rfl⟩))
        refine (hN.out _).mono ?_
        rintro e w1 ⟨⟨n, rfl, hn⟩, rfl⟩
        clear hn
        go_wp2
        refine bodyPost_ret (v := .tuple #[tokV ⟨2, Z, n⟩ p, .bool false]) (by simp [results, Tryd.results35, go_sem]) rfl ⟨One.no, ?_⟩
        go_grown
      · rw [if_pos rfl]
        rw [hk] at hN
        go_enter Tryd.func35, Tryd.ntmps35
        go_wp2_with (first | (go_at_call 47; refine (letter_any _ _).mono ?_; rintro e w' ⟨rfl, rfl⟩) | (go_at_call 51; refine (digit_any _ _).mono ?_; rintro e w' ⟨rfl, rfl⟩) | (go_at_call 48; refine (HPC.out _).mono ?_; rintro e w' ⟨rfl, rfl⟩))
        refine (hN.out _).mono ?_
        rintro e w1 ⟨⟨n, rfl, hn⟩, rfl⟩
        have hnv : Hid (n = numV Z) := hn rfl
        clear hn
        go_wp2
        refine bodyPost_ret (v := .tuple #[tokV ⟨2, Z, n⟩ p, .bool true]) (by simp [results, Tryd.results35, go_sem]) rfl ⟨by rw [← hnv.out]; exact One.yes, ?_⟩
        go_grown
  · have ho : oneL (l.drop p) = if isWordL (pieceL l p) then some ⟨3, pieceL l p, 0⟩ else if isNameL (pieceL l p) then some ⟨1, pieceL l p, 0⟩ else none := by
      unfold oneL pieceL
      rw [drop_head]
      simp only [isLet, hc]
      rfl
    rw [ho]
    generalize pieceL l p = Z at *
    have HPC : Hid (∀ w, Calls Tryd.prog 48 #[.string (bs l), .int .i64 p] w fun e w' => e = .returned (.int .i64 ((p + Z.length : Nat) : Int)) ∧ w' = w) := hpc
    have hzl : Z.length ≤ 9223372036854775807 := by omega
    clear ho htk hpc
    cases hw : isWordL Z
    · rw [if_neg (by simp)]
      have hW : Hid (∀ w, Calls Tryd.prog 49 #[.string (bs Z)] w fun e w' => e = .returned (.bool false) ∧ Below w.heap.size w w') := by intro w; rw [← hw]; exact isWord_any Z w
      cases hn : isNameL Z
      all_goals
        first | rw [if_pos rfl] | rw [if_neg (by simp)]
        have hN := fun w => isName_any Z w hzl
        rw [hn] at hN
        have HN : Hid (∀ w, Calls Tryd.prog 50 #[.string (bs Z)] w fun e w' => e = .returned (.bool _) ∧ Below w.heap.size w w') := hN
        clear hw hn hN
        go_enter Tryd.func35, Tryd.ntmps35
        go_wp2_with (first | (go_at_call 47; refine (letter_any _ _).mono ?_; rintro e w' ⟨rfl, rfl⟩) | (go_at_call 48; refine (HPC.out _).mono ?_; rintro e w' ⟨rfl, rfl⟩))
        refine (hW.out _).mono ?_
        rintro e w1 ⟨rfl, hb⟩
        obtain ⟨⟨r0, r1, r2, r3⟩, ⟨f0, f1, f2, f3⟩, ⟨t0, t1, t2, t3⟩, ⟨g0, g1, g2, g3⟩, hz, hB⟩ := own8 hb
        clear hb
        go_wp2_with fail
        go_region_held3 (fun W => W.cell? ⟨w.heap.size + 1, 0, none⟩ = some (.int .i64 1) ∧ W.cell? ⟨w.heap.size + 1, 1, none⟩ = some (.string (bs Z)) ∧ W.cell? ⟨w.heap.size + 1, 2, none⟩ = some (.int .i64 0) ∧ W.cell? ⟨w.heap.size + 1, 3, none⟩ = some (.int .i64 (p : Int))) (go_keep) (first | (go_at_call 50; refine (HN.out _).mono ?_; rintro e w2 ⟨rfl, hb⟩; have hD : Below w1.heap.size w1 w2 := ((Below.refl w1.heap.size w1).drew).trans (Below.mono hb (Nat.le_refl _)); have k0 := (hD.cell (p := ⟨w.heap.size + 1, 0, none⟩) hz).trans t0; have k1 := (hD.cell (p := ⟨w.heap.size + 1, 1, none⟩) hz).trans t1; have k2 := (hD.cell (p := ⟨w.heap.size + 1, 2, none⟩) hz).trans t2; have k3 := (hD.cell (p := ⟨w.heap.size + 1, 3, none⟩) hz).trans t3; have hz0 : w.heap.size < w1.heap.size := Nat.lt_trans (Nat.lt_succ_self _) hz; have r0 := (hD.cell (p := ⟨w.heap.size, 0, none⟩) hz0).trans r0; have r1 := (hD.cell (p := ⟨w.heap.size, 1, none⟩) hz0).trans r1; have r2 := (hD.cell (p := ⟨w.heap.size, 2, none⟩) hz0).trans r2; have r3 := (hD.cell (p := ⟨w.heap.size, 3, none⟩) hz0).trans r3; have f0 := (hD.frozen (p := ⟨w.heap.size, 0, none⟩) hz0).trans f0; have f1 := (hD.frozen (p := ⟨w.heap.size, 1, none⟩) hz0).trans f1; have f2 := (hD.frozen (p := ⟨w.heap.size, 2, none⟩) hz0).trans f2; have f3 := (hD.frozen (p := ⟨w.heap.size, 3, none⟩) hz0).trans f3; have hB2 := hB.trans (hD.mono hB.size); clear hb hD))
        go_wp2
        first
        | (refine bodyPost_ret (v := .tuple #[tokV ⟨1, Z, 0⟩ p, .bool true]) (by simp [results, Tryd.results35, go_sem, r0, r1, r2, r3]) rfl ⟨One.yes, ?_⟩; go_grown)
        | (refine bodyPost_ret (v := .tuple #[tokV ⟨1, Z, 0⟩ p, .bool false]) (by simp [results, Tryd.results35, go_sem, r0, r1, r2, r3]) rfl ⟨One.no, ?_⟩; go_grown)
    · rw [if_pos rfl]
      have hW : Hid (∀ w, Calls Tryd.prog 49 #[.string (bs Z)] w fun e w' => e = .returned (.bool true) ∧ Below w.heap.size w w') := by intro w; rw [← hw]; exact isWord_any Z w
      clear hw
      go_enter Tryd.func35, Tryd.ntmps35
      go_wp2_with (first | (go_at_call 47; refine (letter_any _ _).mono ?_; rintro e w' ⟨rfl, rfl⟩) | (go_at_call 48; refine (HPC.out _).mono ?_; rintro e w' ⟨rfl, rfl⟩))
      refine (hW.out _).mono ?_
      rintro e w1 ⟨rfl, hb⟩
      obtain ⟨⟨r0, r1, r2, r3⟩, ⟨f0, f1, f2, f3⟩, ⟨t0, t1, t2, t3⟩, ⟨g0, g1, g2, g3⟩, hz, hB⟩ := own8 hb
      clear hb
      go_wp2_with fail
      go_region
      go_wp2
      refine bodyPost_ret (v := .tuple #[tokV ⟨3, Z, 0⟩ p, .bool true]) (by simp [results, Tryd.results35, go_sem, r0, r1, r2, r3]) rfl ⟨One.yes, ?_⟩
      go_grown
end Go.Proofs.YtbgfabkneifccaaDoor
