/-
  What BinaryInv answers, plainly.
-/
import Derived.Test.YtcikofhbfncgdaaDrawR
import Derived.Test.YtcikofhbfncgdaaStkM
import Derived.Test.YtcikofhbfncgdaaReck1
namespace Go.Proofs.Ytcikofhbfncgdaa
open Go.RowKit
set_option linter.unusedVariables false

set_option maxHeartbeats 6400000 in
set_option maxRecDepth 100000 in
theorem cells_any (S K cap A : Nat) (c : Option Addr) (w : World) (hK : K ≤ 1048576) (hA : A ≤ 80000) (h : Ready w S c K cap A) :
    Calls Try.prog 63 #[.pointer (some ⟨S, 0, none⟩)] w fun e w' => ∃ (ad : Option Addr) (cp A' : Nat) (zs : List Int), e = .returned (.slice ad zs.length cp) ∧ zs.length ≤ 500 ∧ A' ≤ A + 3000 ∧ DQ S K cap c w.heap.size w w' A' (.slice ad zs.length cp) zs := by
  obtain ⟨i0, hi, hz0, hz1, hz2⟩ := info_parts infoInt
  have HD0 : Hid (DQ S K cap c w.heap.size w (w.alloc (.cells #[] 2)) A (.slice (some ⟨w.heap.size, 0, none⟩) 0 0) []) :=
    ⟨h.below (alloc_bel _ _), Only.of_below (alloc_bel _ _) (Nat.le_of_lt h.src.lt), own_new w _ (Nat.le_refl _), h.src.lt, (alloc_bel _ _).size⟩
  clear h
  go_enter Try.func63, Try.ntmps63
  go_wp2_with fail
  generalize w.alloc (.cells #[] 2) = W at *
  refine (draw_next S K cap A c 8 W hK (by omega) (by omega) (by omega) HD0.out.r).mono ?_
  rintro e w1 ⟨r, rfl, hr0, hr1, hr, ho⟩
  have HD1 := hid (HD0.out.draw hr ho)
  obtain ⟨N, rfl⟩ := Int.eq_ofNat_of_zero_le hr0
  have hN : N < 8 := by omega
  clear hr ho hr0 hr1 HD0
  generalize Value.slice (some ⟨w.heap.size, 0, none⟩) 0 0 = v0 at *
  go_wp2_with fail
  go_loopw [3, 4] (fun v i wr => ∃ (zs : List Int) (r A1 : Nat), i = .int .i64 r ∧ zs.length + r ≤ 8 ∧ A1 + 20 * r ≤ A + 300 ∧ Hid (DQ S K cap c w.heap.size w wr A1 v zs)) (fun _ i _ => (intOf i).toNat)
  case atStart => exact ⟨[], N, A + 1, rfl, by simp; omega, by omega, HD1⟩
  case round =>
    clear HD1
    obtain ⟨zs, r, A1, rfl, hzr, hA1, HD⟩ := hrel
    by_cases hlt : 0 < r
    · go_wp2_with fail
      refine (draw_next S K cap A1 c 5 wr hK (by omega) (by omega) (by omega) HD.out.r).mono ?_
      rintro e w2 ⟨r1, rfl, _, _, hr, ho⟩
      have HD2 := hid (HD.out.draw hr ho)
      clear hr ho HD
      go_wp2_with fail
      refine (word_any S K cap (A1 + 1) c w2 hK (by omega) HD2.out.r).mono ?_
      rintro e w3 ⟨r2, rfl, hr, ho⟩
      have HD3 := hid (HD2.out.draw hr ho)
      have HD4 := hid (HD3.out.below (alloc_bel w3 (.cells #[.int .i64 r1, .int .i64 r2] 2)))
      have HP4 : Hid (Picks (w3.alloc (.cells #[.int .i64 r1, .int .i64 r2] 2)) w3.heap.size [r1, r2]) := picks_new w3 [r1, r2] 2
      have hne : w3.heap.size ≠ S := by have := HD3.out.r.src.lt; omega
      clear hr ho HD2 HD3
      go_wp2_with fail
      refine (draw_pick S K cap (A1 + 1 + 4) c w3.heap.size [r1, r2] 2 2 _ hK (by omega) rfl (by omega) (by omega) HP4.out hne HD4.out.r).mono ?_
      rintro e w5 ⟨x, rfl, _, hr, ho⟩
      have HD5 := hid (HD4.out.draw hr ho)
      have HD6 := hid (HD5.out.below (alloc_bel w5 (.cells #[.int .i64 x] 2)))
      clear hr ho HD4 HP4 hne HD5
      go_wp2_with (at_builtin; refine wpList_append_nums rfl _ _ rfl w.heap.size _ zs [x] (by rfl) HD6.out.z (some ⟨w5.heap.size, 0, none⟩) 1 (by rfl) (one_nums w5 x) (fun e => by cases e) (fun e => by cases e) (by simp; omega) HD6.out.l.2 ?_)
      intro v7 w7 ho hg hv
      have HD7 := hid (HD6.out.grow (Nat.le_refl _) ho.out hg.out)
      clear ho hg hv HD6
      go_wp2_with fail
      refine ⟨⟨zs ++ [x], r - 1, A1 + 1 + 4 + 1, ?_, by simp; omega, by omega, HD7⟩, ?_⟩
      · congr 1; omega
      · simp [intOf]; omega
    · have hr0 : r = 0 := by omega
      subst hr0
      have hr0 : ¬ (0 : Int) < ((0 : Nat) : Int) := by omega
      clear hlt
      go_wp2_with fail
      refine (draw_next S K cap A1 c 20 wr hK (by omega) (by omega) (by omega) HD.out.r).mono ?_
      rintro e w2 ⟨q, rfl, hq0, _, hr, ho⟩
      have HD2 := hid (HD.out.draw hr ho)
      clear hr ho HD
      by_cases hqa : q = 0
      · subst hqa
        have HD3 := hid (HD2.out.below (alloc_bel w2 (.cells #[.int .i64 (-1), .int .i64 65536] 2)))
        have HP3 : Hid (Picks (w2.alloc (.cells #[.int .i64 (-1), .int .i64 65536] 2)) w2.heap.size [-1, 65536]) := picks_new w2 [-1, 65536] 2
        have hne : w2.heap.size ≠ S := by have := HD2.out.r.src.lt; omega
        clear HD2
        go_wp2_with fail
        refine (draw_pick S K cap (A1 + 1) c w2.heap.size [-1, 65536] 2 2 _ hK (by omega) rfl (by omega) (by omega) HP3.out hne HD3.out.r).mono ?_
        rintro e w5 ⟨x, rfl, _, hr, ho⟩
        have HD5 := hid (HD3.out.draw hr ho)
        have HD6 := hid (HD5.out.below (alloc_bel w5 (.cells #[.int .i64 x] 2)))
        clear hr ho HD3 HP3 hne HD5
        go_wp2_with (at_builtin; refine wpList_append_nums rfl _ _ rfl w.heap.size _ zs [x] (by rfl) HD6.out.z (some ⟨w5.heap.size, 0, none⟩) 1 (by rfl) (one_nums w5 x) (fun e => by cases e) (fun e => by cases e) (by simp; omega) HD6.out.l.2 ?_)
        intro v7 w7 ho hg hv
        have HD7 := hid (HD6.out.grow (Nat.le_refl _) ho.out hg.out)
        clear ho hg hv HD6
        obtain ⟨ad, cp, rfl⟩ := own_shape HD7.out.z
        go_wp2_with fail
        go_ret
        exact ⟨ad, cp, A1 + 1 + 1, zs ++ [x], by simp, by simp; omega, by omega, HD7.out⟩
      · have hqb : (q == 0) = false := beq_eq_false_iff_ne.2 hqa
        by_cases hqc : q = 1
        · have hqd : (q == 1) = true := by rw [beq_iff_eq]; exact hqc
          clear hqa hqc
          have hsz := HD2.out.l.2
          go_wp2_with (at_make; refine wpList_make_full _ rfl _ _ 24 rfl w.heap.size 2 i0 (.int .i64 0) 1 Try.underlying24 hi hz0 hz1 .i64 .i64 81 81 81 rfl rfl rfl rfl ?d1 ?d2 ?d3 ?_)
          case d1 => rw [hz2]; omega
          case d2 => unfold maxLen; omega
          case d3 => exact hsz
          intro w6 hown6 hgrow
          have hb : Below w2.heap.size w2 w6 := (Below.refl _ _).grown hgrow (Nat.le_refl _) (fun k hk => by cases hk)
          have HD6 := hid (HD2.out.below hb)
          have HOWN6 : Hid (Own w6 w.heap.size (.slice (some ⟨w2.heap.size, 0, none⟩) 81 81) (List.replicate 81 (0 : Int))) := by
            rw [toList_madeCells_one] at hown6
            show World.ownsRow _ _ _ _ _ _ _
            rw [List.map_replicate, List.length_replicate]
            exact hown6
          clear hb hgrow hown6 HD2 hsz
          go_wp2_with fail
          go_ret
          exact ⟨some ⟨w2.heap.size, 0, none⟩, 81, A1 + 1, List.replicate 81 0, by rw [List.length_replicate]; rfl, by rw [List.length_replicate]; omega, by omega, HD6.out.r, HD6.out.o, by rw [List.length_replicate]; exact HOWN6.out, HD6.out.l⟩
        · have hqd : (q == 1) = false := beq_eq_false_iff_ne.2 hqc
          clear hqa hqc
          obtain ⟨ad, cp, rfl⟩ := own_shape HD2.out.z
          go_wp2_with fail
          go_ret
          exact ⟨ad, cp, A1 + 1, zs, rfl, by omega, by omega, HD2.out⟩

set_option maxHeartbeats 3200000 in
set_option maxRecDepth 100000 in
theorem drawRun_any (c : Option Addr) (K cap : Nat) (w : World) (hK : K ≤ 1048576) (hb : Bytes w c K) (ha : K ≠ 0 → ∀ b o s, c = some ⟨b, o, s⟩ → b < w.heap.size) :
    Calls Try.prog 23 #[.slice c K cap] w fun e w' => ∃ (zs ys : List Int) (bud : Int) (a1 a2 : Option Addr) (c1 c2 : Nat), e = .returned (.tuple #[.slice a1 zs.length c1, .slice a2 ys.length c2, .int .i64 bud]) ∧ zs.length ≤ 500 ∧ ys.length ≤ 500 ∧ Own w' w.heap.size (.slice a1 zs.length c1) zs ∧ Own w' w.heap.size (.slice a2 ys.length c2) ys ∧ Below w.heap.size w w' := by
  have HR1 : Hid (Ready (w.alloc (.cells #[.slice c K cap, .int .i64 0] 124)) w.heap.size c K cap 0) := ready_new hb ha
  have HW1 := hid (alloc_bel w (.cells #[.slice c K cap, .int .i64 0] 124))
  clear hb ha
  go_enter Try.func23, Try.ntmps23
  go_wp2_with fail
  refine (source_any c K cap w).mono ?_
  rintro e w0 ⟨rfl, rfl⟩
  generalize w.alloc (.cells #[.slice c K cap, .int .i64 0] 124) = W1 at *
  go_wp2_with fail
  refine (code_any w.heap.size K cap 0 c W1 hK (by omega) HR1.out).mono ?_
  rintro e w2 ⟨a1, c1, A2, zs, rfl, hzl, hA2, hd⟩
  have HD2 := hid hd
  clear hd HR1
  go_wp2_with fail
  refine (cells_any w.heap.size K cap A2 c w2 hK (by omega) HD2.out.r).mono ?_
  rintro e w3 ⟨a2, c2, A3, ys, rfl, hyl, hA3, hd⟩
  have HZ3 := hid (own_only HD2.out.z hd.o HD2.out.l.1)
  have HD3 := hid hd
  have HB3 := hid (HW1.out.trans (HD2.out.o.1.trans hd.o.1))
  have HS : Hid (w.heap.size < W1.heap.size ∧ W1.heap.size ≤ w2.heap.size) := ⟨HD2.out.l.1, by have := HD2.out.l.2; have := HD2.out.o.1.size; omega⟩
  clear hd HD2 HW1
  go_wp2_with fail
  refine (draw_next w.heap.size K cap A3 c 20 w3 hK (by omega) (by omega) (by omega) HD3.out.r).mono ?_
  rintro e w4 ⟨r, rfl, _, _, hr, ho⟩
  have HD4 := hid (HD3.out.draw hr ho)
  have HZ4 := hid (own_only HZ3.out ho HS.out.1)
  have HB4 := hid (HB3.out.trans ho.1)
  clear hr ho HD3 HZ3 HB3
  have HD5 := hid (HD4.out.below (alloc_bel w4 (.cells #[.int .i64 100, .int .i64 r, .int .i64 0, .int .i64 20000, .int .i64 20001, .int .i64 (-1)] 2)))
  have HZ5 := hid (own_kept HZ4.out (alloc_bel w4 (.cells #[.int .i64 100, .int .i64 r, .int .i64 0, .int .i64 20000, .int .i64 20001, .int .i64 (-1)] 2)))
  have HB5 := hid (HB4.out.trans ((alloc_bel w4 (.cells #[.int .i64 100, .int .i64 r, .int .i64 0, .int .i64 20000, .int .i64 20001, .int .i64 (-1)] 2)).mono HB4.out.size))
  have HP5 : Hid (Picks (w4.alloc (.cells #[.int .i64 100, .int .i64 r, .int .i64 0, .int .i64 20000, .int .i64 20001, .int .i64 (-1)] 2)) w4.heap.size [100, r, 0, 20000, 20001, -1]) := picks_new w4 [100, r, 0, 20000, 20001, -1] 2
  have hne : w4.heap.size ≠ w.heap.size := by have := HD4.out.r.src.lt; omega
  clear HD4 HZ4 HB4
  go_wp2_with fail
  refine (draw_pick w.heap.size K cap (A3 + 1) c w4.heap.size [100, r, 0, 20000, 20001, -1] 6 6 _ hK (by omega) rfl (by omega) (by omega) HP5.out hne HD5.out.r).mono ?_
  rintro e w6 ⟨bud, rfl, _, hr, ho⟩
  have HD6 := hid (HD5.out.draw hr ho)
  have HZ6 := hid (own_only HZ5.out ho HS.out.1)
  have HB6 := hid (HB5.out.trans ho.1)
  clear hr ho HD5 HZ5 HB5 HP5 hne
  go_wp2_with fail
  go_returns
  exact ⟨zs, ys, bud, a1, a2, c1, c2, rfl, hzl, hyl, own_mono HZ6.out (by have := HS.out; omega), own_mono HD6.out.z (by have := HS.out; omega), HB6.out⟩
end Go.Proofs.Ytcikofhbfncgdaa
namespace Go.Proofs.Ytcikofhbfncgdaa
open Go.RowKit
set_option linter.unusedVariables false

def trp (m : SM) (t : Int) : SM := { m with trap := t }
def atP (m : SM) (x : Int) : SM := { m with pc := x }
/-- what a step of a ready machine comes to -/
def goM (op u v nx : Int) (m : SM) : SM :=
  if fitsB m.stk.length op = false then trp (usedM m) 1
  else if toldC op u v m ≠ 0 then trp (usedM m) (toldC op u v m)
  else doM op u (toldV op u v m) (atP (usedM m) nx)
end Go.Proofs.Ytcikofhbfncgdaa
namespace Go.Proofs.Ytcikofhbfncgdaa

def invC (op b : Int) : Int := binC op (cm b)
def invV (op a b : Int) : Int := if invC op b = 0 then cm (binV op (cm a) (cm b)) else 0
end Go.Proofs.Ytcikofhbfncgdaa
