/-
  spec.l8Code: some code of at most 500 words in new memory. Nothing that was there turns but the source.
-/
import Derived.Test.YtcikofhbfncgdaaDrawD
import Derived.Test.YtcikofhbfncgdaaDraws
import Derived.Test.YtcikofhbfncgdaaStkMem
import Derived.Test.YtcikofhbfncgdaaStkMem
import Derived.Deep.CutRange
namespace Go.Proofs.Ytcikofhbfncgdaa
open Go.RowKit
set_option linter.unusedVariables false

/-- the source, and a list of one's own -/
structure DQ (S K cap : Nat) (c : Option Addr) (B : Nat) (w0 w : World) (A : Nat) (v : Value) (zs : List Int) : Prop where
  r : Ready w S c K cap A
  o : Only S w0 w
  z : Own w B v zs
  l : S < B ∧ B ≤ w.heap.size
theorem DQ.draw {S K cap B A A' : Nat} {c : Option Addr} {w0 w w' : World} {v : Value} {zs : List Int} (h : DQ S K cap c B w0 w A v zs) (hr : Ready w' S c K cap A') (ho : Only S w w') : DQ S K cap c B w0 w' A' v zs :=
  ⟨hr, h.o.trans ho, own_only h.z ho h.l.1, h.l.1, Nat.le_trans h.l.2 ho.1.size⟩
theorem DQ.below {S K cap B A : Nat} {c : Option Addr} {w0 w w' : World} {v : Value} {zs : List Int} (h : DQ S K cap c B w0 w A v zs) (hb : Below w.heap.size w w') : DQ S K cap c B w0 w' A v zs :=
  ⟨h.r.below hb, h.o.trans (Only.of_below hb (Nat.le_of_lt h.r.src.lt)), own_kept h.z hb, h.l.1, Nat.le_trans h.l.2 hb.size⟩
theorem DQ.grow {S K cap B A : Nat} {c : Option Addr} {w0 w w' : World} {v v' : Value} {zs ys : List Int} (h : DQ S K cap c B w0 w A v zs) (h0 : w0.heap.size ≤ B) (ho : Own w' B v' ys) (hg : w.grownBy w' v.ownBlock) : DQ S K cap c B w0 w' A v' ys := by
  have hS := h.r.src.lt
  have hl := h.l
  have hbS : Below S w w' := (Below.refl S w).grown hg (Nat.le_of_lt hS) (fun j hj => by have := (h.z.lt j hj).1; omega)
  have hsame : ∀ g, g < B → w'.heap[g]? = w.heap[g]? := fun g hgl => hg.block g (by omega) (fun e => by have := (h.z.lt g e.symm).1; omega)
  exact ⟨⟨by unfold Src; rw [hsame S hl.1]; exact h.r.src, h.r.bytes.below hbS h.r.ahead, h.r.ahead⟩, ⟨h.o.1.trans hbS, fun g hgl hne => (hsame g (by omega)).trans (h.o.2 g hgl hne)⟩, ho, hl.1, Nat.le_trans hl.2 hbS.size⟩
theorem one_nums (w : World) (x : Int) : Nums (w.alloc (.cells #[.int .i64 x] 2)) (some ⟨w.heap.size, 0, none⟩) [x] := by
  refine .inr ⟨w.heap.size, 0, rfl, fun i hi => ?_⟩
  have : i = 0 := by simp at hi; omega
  subst this
  exact cl1 (heap_alloc_new w (.cells #[.int .i64 x] 2))
theorem alloc_bel (w : World) (o : Obj) : Below w.heap.size w (w.alloc o) := (Below.refl _ _).alloc (Nat.le_refl _) _

set_option maxHeartbeats 6400000 in
set_option maxRecDepth 100000 in
theorem code_any (S K cap A : Nat) (c : Option Addr) (w : World) (hK : K ≤ 1048576) (hA : A ≤ 50000) (h : Ready w S c K cap A) :
    Calls Try.prog 79 #[.pointer (some ⟨S, 0, none⟩)] w fun e w' => ∃ (ad : Option Addr) (cp A' : Nat) (zs : List Int), e = .returned (.slice ad zs.length cp) ∧ zs.length ≤ 500 ∧ A' ≤ A + 3000 ∧ DQ S K cap c w.heap.size w w' A' (.slice ad zs.length cp) zs := by
  have HD0 : Hid (DQ S K cap c w.heap.size w (w.alloc (.cells #[] 2)) A (.slice (some ⟨w.heap.size, 0, none⟩) 0 0) []) :=
    ⟨h.below (alloc_bel _ _), Only.of_below (alloc_bel _ _) (Nat.le_of_lt h.src.lt), own_new w _ (Nat.le_refl _), h.src.lt, (alloc_bel _ _).size⟩
  clear h
  go_enter Try.func79, Try.ntmps79
  go_wp2_with fail
  generalize w.alloc (.cells #[] 2) = W at *
  refine (draw_next S K cap A c 14 W hK (by omega) (by omega) (by omega) HD0.out.r).mono ?_
  rintro e w1 ⟨r, rfl, hr0, hr1, hr, ho⟩
  have HD1 := hid (HD0.out.draw hr ho)
  obtain ⟨N, rfl⟩ := Int.eq_ofNat_of_zero_le hr0
  have hN : N < 14 := by omega
  clear hr ho hr0 hr1 HD0
  generalize Value.slice (some ⟨w.heap.size, 0, none⟩) 0 0 = v0 at *
  go_wp2_with fail
  go_loopw [3, 4] (fun v i wr => ∃ (zs : List Int) (r A1 : Nat), i = .int .i64 r ∧ zs.length + 3 * r ≤ 42 ∧ A1 + 20 * r ≤ A + 300 ∧ Hid (DQ S K cap c w.heap.size w wr A1 v zs)) (fun _ i _ => (intOf i).toNat)
  case atStart => exact ⟨[], N, A + 1, rfl, by simp; omega, by omega, HD1⟩
  case round =>
    clear HD1
    obtain ⟨zs, r, A1, rfl, hzr, hA1, HD⟩ := hrel
    by_cases hlt : 0 < r
    · go_wp2_with fail
      refine (draw_next S K cap A1 c 13 wr hK (by omega) (by omega) (by omega) HD.out.r).mono ?_
      rintro e w2 ⟨q, rfl, hq0, hq1, hr, ho⟩
      have HD2 := hid (HD.out.draw hr ho)
      clear hr ho HD
      have hq2 : q < 13 := by omega
      clear hq1
      go_wp2_with fail
      refine (chance_any S K cap (A1 + 1) c 2 w2 hK (by omega) (by omega) (by omega) HD2.out.r).mono ?_
      rintro e w3 ⟨bb, rfl, hr, ho⟩
      have HD3 := hid (HD2.out.draw hr ho)
      clear hr ho HD2
      go_upto_if 18 with fail
      go_cut [5] from 10 to 43 (fun x W' => ∃ (op : Int) (A3 : Nat), x = .int .i64 op ∧ A3 ≤ A1 + 3 ∧ Hid (DQ S K cap c w.heap.size w W' A3 u3 zs))
      case first =>
        cases bb with
        | false =>
          go_wp2_with fail
          go_meet
          case rel => exact ⟨_, A1 + 2, rfl, by omega, HD3⟩
        | true =>
          have HD4 := hid (HD3.out.below (alloc_bel w3 (.cells #[.int .i64 1, .int .i64 2, .int .i64 1] 2)))
          have HP4 : Hid (Picks (w3.alloc (.cells #[.int .i64 1, .int .i64 2, .int .i64 1] 2)) w3.heap.size [1, 2, 1]) := picks_new w3 [1, 2, 1] 2
          have hne : w3.heap.size ≠ S := by have := HD3.out.r.src.lt; omega
          go_wp2_with fail
          refine (draw_pick S K cap (A1 + 2) c w3.heap.size [1, 2, 1] 3 3 _ hK (by omega) rfl (by omega) (by omega) HP4.out hne HD4.out.r).mono ?_
          rintro e w5 ⟨op, rfl, _, hr, ho⟩
          have HD5 := hid (HD4.out.draw hr ho)
          clear hr ho HD3 HD4 HP4 hne
          go_wp2_with fail
          go_meet
          case rel => exact ⟨op, A1 + 3, rfl, by omega, HD5⟩
      case rest =>
        clear HD3
        obtain ⟨op, A3, rfl, hA3, HD4⟩ := hcut
        have HD5 := hid (HD4.out.below (alloc_bel wc (.cells #[.int .i64 op] 2)))
        clear HD4
        go_wp2_with (at_builtin; refine wpList_append_nums rfl _ _ rfl w.heap.size _ zs [op] (by rfl) HD5.out.z (some ⟨wc.heap.size, 0, none⟩) 1 (by rfl) (one_nums wc op) (fun e => by cases e) (fun e => by cases e) (by simp; omega) HD5.out.l.2 ?_)
        intro v6 w6 ho hg hv
        have HD6 := hid (HD5.out.grow (Nat.le_refl _) ho.out hg.out)
        clear ho hg hv HD5
        have hag := argN_lo op
        go_wp2_with fail
        go_loopw [3, 6] (fun v j wr => ∃ (ys : List Int) (jj A4 : Nat), j = .int .i64 jj ∧ (jj : Int) ≤ argN op ∧ ys.length = zs.length + 1 + jj ∧ A4 ≤ A3 + 4 * jj ∧ Hid (DQ S K cap c w.heap.size w wr A4 v ys)) (fun _ j _ => (argN op).toNat - (intOf j).toNat)
        case atStart => exact ⟨zs ++ [op], 0, A3, rfl, by omega, by simp, by omega, HD6⟩
        case round =>
          clear HD6
          obtain ⟨ys, jj, A4, rfl, hj, hy, hA4, HDY⟩ := hrel
          go_wp2_with fail
          refine (l8Args_any op wr).mono ?_
          rintro e w7 ⟨rfl, hw7⟩
          have hw8 := hw7.symm
          clear hw7
          subst hw8
          by_cases hlt2 : (jj : Int) < argN op
          · go_wp2_with fail
            refine (draw_next S K cap A4 c 8 wr hK (by omega) (by omega) (by omega) HDY.out.r).mono ?_
            rintro e w8 ⟨r1, rfl, _, _, hr, ho⟩
            have HD8 := hid (HDY.out.draw hr ho)
            clear hr ho HDY
            go_wp2_with fail
            refine (draw_next S K cap (A4 + 1) c 5 w8 hK (by omega) (by omega) (by omega) HD8.out.r).mono ?_
            rintro e w9 ⟨r2, rfl, _, _, hr, ho⟩
            have HD9 := hid (HD8.out.draw hr ho)
            clear hr ho HD8
            go_wp2_with fail
            refine (draw_next S K cap (A4 + 2) c 20 w9 hK (by omega) (by omega) (by omega) HD9.out.r).mono ?_
            rintro e w10 ⟨r3, rfl, _, _, hr, ho⟩
            have HD10 := hid (HD9.out.draw hr ho)
            clear hr ho HD9
            have HD11 := hid (HD10.out.below (alloc_bel w10 (.cells #[.int .i64 r1, .int .i64 r2, .int .i64 r3] 2)))
            have HP11 : Hid (Picks (w10.alloc (.cells #[.int .i64 r1, .int .i64 r2, .int .i64 r3] 2)) w10.heap.size [r1, r2, r3]) := picks_new w10 [r1, r2, r3] 2
            have hne : w10.heap.size ≠ S := by have := HD10.out.r.src.lt; omega
            go_wp2_with fail
            refine (draw_pick S K cap (A4 + 3) c w10.heap.size [r1, r2, r3] 3 3 _ hK (by omega) rfl (by omega) (by omega) HP11.out hne HD11.out.r).mono ?_
            rintro e w12 ⟨x, rfl, _, hr, ho⟩
            have HD12 := hid (HD11.out.draw hr ho)
            have HD13 := hid (HD12.out.below (alloc_bel w12 (.cells #[.int .i64 x] 2)))
            clear hr ho HD10 HD11 HP11 hne HD12
            go_wp2_with (at_builtin; refine wpList_append_nums rfl _ _ rfl w.heap.size _ ys [x] (by rfl) HD13.out.z (some ⟨w12.heap.size, 0, none⟩) 1 (by rfl) (one_nums w12 x) (fun e => by cases e) (fun e => by cases e) (by simp; omega) HD13.out.l.2 ?_)
            intro v14 w14 ho hg hv
            have HD14 := hid (HD13.out.grow (Nat.le_refl _) ho.out hg.out)
            clear ho hg hv HD13
            go_wp2_with fail
            refine ⟨⟨ys ++ [x], jj + 1, A4 + 4, by go_num, by omega, by simp; omega, by omega, HD14⟩, ?_⟩
            simp [intOf]; omega
          · go_wp2_with fail
            refine ⟨⟨ys, r - 1, A4, ?_, by omega, by omega, HDY⟩, ?_⟩
            · congr 1; omega
            · simp [intOf]; omega
    · have hr0 : r = 0 := by omega
      subst hr0
      have hr0 : ¬ (0 : Int) < ((0 : Nat) : Int) := by omega
      clear hlt
      go_wp2_with fail
      refine (chance_any S K cap A1 c 2 wr hK (by omega) (by omega) (by omega) HD.out.r).mono ?_
      rintro e w2 ⟨bb, rfl, hr, ho⟩
      have HD2 := hid (HD.out.draw hr ho)
      clear hr ho HD
      go_upto_if 45 with fail
      go_cut [3] from 4 (fun v W' => ∃ (ys : List Int) (A2 : Nat), ys.length ≤ 43 ∧ A2 ≤ A1 + 1 ∧ Hid (DQ S K cap c w.heap.size w W' A2 v ys))
      case first =>
        cases bb with
        | false =>
          go_wp2_with fail
          go_meet
          case rel => exact ⟨zs, A1 + 1, by omega, by omega, HD2⟩
        | true =>
          have HD3 := hid (HD2.out.below (alloc_bel w2 (.cells #[.int .i64 13] 2)))
          go_wp2_with (at_builtin; refine wpList_append_nums rfl _ _ rfl w.heap.size _ zs [13] (by rfl) HD3.out.z (some ⟨w2.heap.size, 0, none⟩) 1 (by rfl) (one_nums w2 13) (fun e => by cases e) (fun e => by cases e) (by simp; omega) HD3.out.l.2 ?_)
          intro v14 w14 ho hg hv
          have HD14 := hid (HD3.out.grow (Nat.le_refl _) ho.out hg.out)
          clear ho hg hv HD2 HD3
          go_wp2_with fail
          go_meet
          case rel => exact ⟨zs ++ [13], A1 + 1, by simp; omega, by omega, HD14⟩
      case rest =>
        clear HD2
        obtain ⟨ys, A2, hy, hA2, HD3⟩ := hcut
        obtain ⟨ad, cp, he⟩ := own_shape HD3.out.z
        go_wp2_with fail
        refine (chance_any S K cap A2 c 14 wc hK (by omega) (by omega) (by omega) HD3.out.r).mono ?_
        rintro e w4 ⟨bb, rfl, hr, ho⟩
        have HD4 := hid (HD3.out.draw hr ho)
        clear hr ho HD3
        cases bb with
        | false =>
          subst he
          go_wp2_with fail
          go_ret
          exact ⟨ad, cp, A2 + 1, ys, rfl, by omega, by omega, HD4.out⟩
        | true =>
          clear he
          go_wp2_with fail
          refine (words_any S K cap (A2 + 1) c w4 hK (by omega) HD4.out.r).mono ?_
          rintro e w5 ⟨ad5, cp5, A5, xs, rfl, hxl, hown, hA5, hr, ho⟩
          have HD5 : Hid (DQ S K cap c w.heap.size w w5 A5 (.slice ad5 xs.length cp5) xs) := ⟨hr, HD4.out.o.trans ho, own_mono hown HD4.out.l.2, HD4.out.l.1, Nat.le_trans HD4.out.l.2 ho.1.size⟩
          clear hown hr ho HD4
          go_wp2_with fail
          go_ret
          exact ⟨ad5, cp5, A5, xs, rfl, by omega, by omega, HD5.out⟩
end Go.Proofs.Ytcikofhbfncgdaa
