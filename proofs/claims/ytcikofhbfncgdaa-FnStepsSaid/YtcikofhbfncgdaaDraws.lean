/-
  spec.l1DrawWord, l1Words and the draws of chapter 1: some number; some list of at most 401 numbers in new memory.
-/
import Derived.Test.YtcikofhbfncgdaaDrawD
import Derived.Test.YtcikofhbfncgdaaCopy
namespace Go.Proofs.Ytcikofhbfncgdaa
open Go.RowKit

theorem own_only {w w' : World} {S B n : Nat} {v : Value} {xs : List Value} (h : w.ownsRow B 2 1 v n xs) (ho : Only S w w') (hS : S < B) : w'.ownsRow B 2 1 v n xs :=
  own_other h (fun g hg => ho.2 g (h.lt g hg).2 (by have := (h.lt g hg).1; omega))

set_option maxRecDepth 100000 in
set_option maxHeartbeats 3200000 in
theorem words_any (S K cap A : Nat) (c : Option Addr) (w : World) (hK : K ≤ 1048576) (hA : A ≤ 100000) (h : Ready w S c K cap A) :
    Calls Try.prog 103 #[.pointer (some ⟨S, 0, none⟩)] w fun e w' => ∃ (ad : Option Addr) (cp A' : Nat) (zs : List Int), e = .returned (.slice ad zs.length cp) ∧ zs.length ≤ 401 ∧ w'.ownsRow w.heap.size 2 1 (.slice ad zs.length cp) zs.length (zs.map (Value.int .i64)) ∧ A' ≤ A + 2000 ∧ Ready w' S c K cap A' ∧ Only S w w' := by
  obtain ⟨i0, hi, hz0, hz1, hz2⟩ := info_parts infoInt
  have HR0 : Hid (Ready w S c K cap A) := h
  have hSw : S < w.heap.size := h.src.lt
  clear h
  have hb : Below w.heap.size w (w.alloc (.cells #[] 2)) := (Below.refl _ _).alloc (Nat.le_refl _) _
  have HRa : Hid (Ready (w.alloc (.cells #[] 2)) S c K cap A) := HR0.out.below hb
  have HOa : Hid (Only S w (w.alloc (.cells #[] 2))) := Only.of_below hb (Nat.le_of_lt hSw)
  have hown : Hid ((w.alloc (.cells #[] 2)).ownsRow w.heap.size 2 1 (.slice (some ⟨w.heap.size, 0, none⟩) 0 0) 0 (([] : List Int).map (Value.int .i64))) :=
    ⟨by simp, .inr ⟨w.heap.size, 0, #[], rfl, Nat.le_refl _, heap_alloc_new _ _, Nat.le_refl _, by unfold maxLen; omega, rfl, by simp⟩⟩
  clear hb
  go_enter Try.func103, Try.ntmps103
  go_wp2_with fail
  refine (draw_next S K cap A c 9 _ hK (by omega) (by omega) (by omega) HRa.out).mono ?_
  rintro e w1 ⟨r1, rfl, h10, h11, hr, ho⟩
  have HR1 : Hid (Ready w1 S c K cap (A + 1)) := hr
  have HO1 : Hid (Only S w w1) := HOa.out.trans ho
  have hown1 : Hid (w1.ownsRow w.heap.size 2 1 (.slice (some ⟨w.heap.size, 0, none⟩) 0 0) 0 (([] : List Int).map (Value.int .i64))) := own_only hown.out ho hSw
  clear hr ho
  go_wp2_with fail
  refine (draw_next S K cap (A + 1) c 30 w1 hK (by omega) (by omega) (by omega) HR1.out).mono ?_
  rintro e w2 ⟨r2, rfl, h20, h21, hr, ho⟩
  have HR2 : Hid (Ready w2 S c K cap (A + 2)) := hr
  have HO2 : Hid (Only S w w2) := HO1.out.trans ho
  have hown2 : Hid (w2.ownsRow w.heap.size 2 1 (.slice (some ⟨w.heap.size, 0, none⟩) 0 0) 0 (([] : List Int).map (Value.int .i64))) := own_only hown1.out ho hSw
  have hlt : S ≠ w2.heap.size := by have := hr.src.lt; omega
  have h12 : r1 < 9 := by omega
  have h22 : r2 < 30 := by omega
  clear hr ho h11 h21
  have hb : Below w2.heap.size w2 (w2.alloc (.cells #[.int .i64 r1, .int .i64 r2, .int .i64 400] 2)) := (Below.refl _ _).alloc (Nat.le_refl _) _
  have HP : Hid (Picks (w2.alloc (.cells #[.int .i64 r1, .int .i64 r2, .int .i64 400] 2)) w2.heap.size [r1, r2, 400]) := picks_new w2 [r1, r2, 400] 2
  have HR3 : Hid (Ready (w2.alloc (.cells #[.int .i64 r1, .int .i64 r2, .int .i64 400] 2)) S c K cap (A + 2)) := HR2.out.below hb
  have HO3 : Hid (Only S w (w2.alloc (.cells #[.int .i64 r1, .int .i64 r2, .int .i64 400] 2))) := HO2.out.trans (Only.of_below hb (Nat.le_of_lt HR2.out.src.lt))
  have hown3 : Hid ((w2.alloc (.cells #[.int .i64 r1, .int .i64 r2, .int .i64 400] 2)).ownsRow w.heap.size 2 1 (.slice (some ⟨w.heap.size, 0, none⟩) 0 0) 0 (([] : List Int).map (Value.int .i64))) := own_kept hown2.out hb
  clear hb
  go_wp2_with fail
  refine (draw_pick S K cap (A + 2) c w2.heap.size [r1, r2, 400] 3 3 _ hK (by omega) rfl (by omega) (by omega) HP.out (fun h => hlt h.symm) HR3.out).mono ?_
  rintro e w4 ⟨k0, rfl, hx, hr, ho⟩
  have HR4 : Hid (Ready w4 S c K cap (A + 3)) := hr
  have HO4 : Hid (Only S w w4) := HO3.out.trans ho
  have hown4 : Hid (w4.ownsRow w.heap.size 2 1 (.slice (some ⟨w.heap.size, 0, none⟩) 0 0) 0 (([] : List Int).map (Value.int .i64))) := own_only hown3.out ho hSw
  have hk0 : 0 ≤ k0 ∧ k0 ≤ 400 := by simp at hx; omega
  obtain ⟨hk1, hk2⟩ := hk0
  obtain ⟨N, rfl⟩ := Int.eq_ofNat_of_zero_le hk1
  clear hr ho hx
  go_wp2_with fail
  go_loopw [3, 4] (fun v i wr => ∃ (zs : List Int) (r A1 : Nat), i = .int .i64 r ∧ zs.length + r ≤ 400 ∧ A1 ≤ A + 3 + 4 * zs.length ∧ wr.ownsRow w.heap.size 2 1 v zs.length (zs.map (Value.int .i64)) ∧ Hid (Ready wr S c K cap A1) ∧ Hid (Only S w wr))
    (fun _ i _ => (intOf i).toNat)
  case atStart => exact ⟨[], N, A + 3, rfl, by simp; omega, by simp, hown4.out, HR4, HO4⟩
  case round =>
    obtain ⟨zs, r, A1, rfl, hzr, hA1, hown, HR, HO⟩ := hrel
    by_cases hlt2 : 0 < r
    · go_wp2_with fail
      refine (word_any S K cap A1 c wr hK (by omega) HR.out).mono ?_
      rintro e w5 ⟨x, rfl, hr, ho⟩
      have HR5 : Hid (Ready w5 S c K cap (A1 + 4)) := hr
      have HO5 : Hid (Only S w w5) := HO.out.trans ho
      have hown5 := own_only hown ho hSw
      have hsz5 : w.heap.size ≤ w5.heap.size := HO5.out.1.size
      clear hr ho hown HR HO
      go_wp2_with (at_builtin; refine wpList_append_own _ rfl _ _ 24 rfl w.heap.size 2 i0 (.int .i64 0) 1 8 Try.underlying24 hi hz0 hz1 hz2 rfl (by decide) _ _ _ rfl (hown5.alloc _) ⟨w5.heap.size, 0, none⟩ 1 1 [.int .i64 x] rfl rfl ?c1 ?c2 ?c3 ?c4 ?c5 ?_)
      case c1 =>
        intro j u hj
        match j, hj with
        | 0, hj => simp at hj; subst hj; simp [Addr.add]
      case c2 => intro u hu; simp at hu; subst hu; rfl
      case c3 => unfold maxLen; omega
      case c4 => omega
      case c5 => simp; omega
      intro v' w6 hown' hgrow _
      have hS5 := HR5.out.src.lt
      have hrow : ∀ j, u3.ownBlock = some j → w.heap.size ≤ j := fun j hj => (hown5.lt j hj).1
      have hbS : Below S w5 w6 := ((Below.refl S w5).alloc (Nat.le_of_lt hS5) _).grown hgrow (by simp; omega) (fun j hj => by have := hrow j hj; omega)
      have hsame : ∀ g, g < w.heap.size → w6.heap[g]? = w5.heap[g]? := fun g hg =>
        (hgrow.block g (by simp; omega) (fun h => by have := hrow g h.symm; omega)).trans (heap_alloc_old w5 _ (by omega))
      have HR6 : Hid (Ready w6 S c K cap (A1 + 4)) := ⟨by unfold Src; rw [hsame S hSw]; exact HR5.out.src, HR5.out.bytes.below hbS HR5.out.ahead, HR5.out.ahead⟩
      have HO6 : Hid (Only S w w6) := ⟨HO5.out.1.trans hbS, fun g hg hne => (hsame g hg).trans (HO5.out.2 g hg hne)⟩
      clear hgrow hown5 hrow hbS hsame hS5 hsz5
      go_wp2
      go_roundw
      case rel =>
        refine ⟨zs ++ [x], r - 1, A1 + 4, ?_, by simp; omega, by simp; omega, by simpa using hown', HR6, HO6⟩
        congr 1; omega
      case measure => simp [intOf]; omega
    · have hr0 : ¬ (0 : Int) < (r : Int) := by omega
      obtain ⟨ad, cp, rfl⟩ := own_shape hown
      have HOWN : Hid (wr.ownsRow w.heap.size 2 1 (.slice ad zs.length cp) zs.length (zs.map (Value.int .i64))) := hown
      clear hown
      go_wp2_with fail
      refine (draw_next S K cap A1 c 14 wr hK (by omega) (by omega) (by omega) HR.out).mono ?_
      rintro e w5 ⟨q, rfl, hq0, hq1, hr, ho⟩
      have HR5 : Hid (Ready w5 S c K cap (A1 + 1)) := hr
      have HO5 : Hid (Only S w w5) := HO.out.trans ho
      have HOWN5 : Hid (w5.ownsRow w.heap.size 2 1 (.slice ad zs.length cp) zs.length (zs.map (Value.int .i64))) := own_only HOWN.out ho hSw
      clear hr ho HR HO hq1 HOWN
      by_cases hqa : q = 0
      · have hqb : (q == 0) = true := by rw [beq_iff_eq]; exact hqa
        clear hqa
        by_cases hzl : 0 < zs.length
        · go_wp2_with fail
          refine (draw_next S K cap (A1 + 1) c (zs.length : Int) w5 hK (by omega) (by omega) (by omega) HR5.out).mono ?_
          rintro e w6 ⟨p, rfl, hp0, hp1, hr, ho⟩
          have HR6 : Hid (Ready w6 S c K cap (A1 + 2)) := hr
          have HO6 : Hid (Only S w w6) := HO5.out.trans ho
          have HOWN6 : Hid (w6.ownsRow w.heap.size 2 1 (.slice ad zs.length cp) zs.length (zs.map (Value.int .i64))) := own_only HOWN5.out ho hSw
          have hp2 : p < (zs.length : Int) := by omega
          obtain ⟨P, rfl⟩ := Int.eq_ofNat_of_zero_le hp0
          have hlt6 : S ≠ w6.heap.size := by have := hr.src.lt; omega
          clear hr ho hp1 HR5 HO5 HOWN5
          have hb : Below w6.heap.size w6 (w6.alloc (.cells #[.int .i64 (-1), .int .i64 65536] 2)) := (Below.refl _ _).alloc (Nat.le_refl _) _
          have HP7 : Hid (Picks (w6.alloc (.cells #[.int .i64 (-1), .int .i64 65536] 2)) w6.heap.size [-1, 65536]) := picks_new w6 [-1, 65536] 2
          have HR7 : Hid (Ready (w6.alloc (.cells #[.int .i64 (-1), .int .i64 65536] 2)) S c K cap (A1 + 2)) := HR6.out.below hb
          have HO7 : Hid (Only S w (w6.alloc (.cells #[.int .i64 (-1), .int .i64 65536] 2))) := HO6.out.trans (Only.of_below hb (Nat.le_of_lt HR6.out.src.lt))
          have HOWN7 : Hid ((w6.alloc (.cells #[.int .i64 (-1), .int .i64 65536] 2)).ownsRow w.heap.size 2 1 (.slice ad zs.length cp) zs.length (zs.map (Value.int .i64))) := own_kept HOWN6.out hb
          clear hb HR6 HO6 HOWN6
          go_wp2_with fail
          refine (draw_pick S K cap (A1 + 2) c w6.heap.size [-1, 65536] 2 2 _ hK (by omega) rfl (by omega) (by omega) HP7.out (fun h => hlt6 h.symm) HR7.out).mono ?_
          rintro e w8 ⟨x, rfl, hx, hr, ho⟩
          have HR8 : Hid (Ready w8 S c K cap (A1 + 3)) := hr
          have HO8 : Hid (Only S w w8) := HO7.out.trans ho
          have hown8 := own_only HOWN7.out ho hSw
          clear hr ho hx HR7 HO7 HOWN7 HP7
          obtain ⟨g, rfl⟩ : ∃ g, ad = some ⟨g, 0, none⟩ := by
            rcases hown8.2 with ⟨h, h0⟩ | ⟨g, c, cur, h, _⟩
            · omega
            · simp at h; exact ⟨g, h.1⟩
          have hgw : w.heap.size ≤ g := (hown8.lt g rfl).1
          have hfr := hown8.frozenAt P
          obtain ⟨y, hy⟩ : ∃ y, w8.cell? ⟨g, P, none⟩ = some y := by
            rw [hown8.cellAt P (by omega)]; exact ⟨_, List.getElem?_eq_getElem (by simp; omega)⟩
          have hst := (hown8.stored P (.int .i64 x)).1
          rw [← List.map_set] at hst
          have HST : Hid ((w8.setCell ⟨g, P, none⟩ (.int .i64 x)).ownsRow w.heap.size 2 1 (.slice (some ⟨g, 0, none⟩) zs.length cp) zs.length ((zs.set P x).map (Value.int .i64))) := hst
          have hS8 := HR8.out.src.lt
          have HO9 : Hid (Only S w (w8.setCell ⟨g, P, none⟩ (.int .i64 x))) := ⟨HO8.out.1.setCell (by show S ≤ g; omega) _, fun j hj hne => (heap_setCell_other _ _ _ _ (by show j ≠ g; omega)).trans (HO8.out.2 j hj hne)⟩
          have HR9 : Hid (Ready (w8.setCell ⟨g, P, none⟩ (.int .i64 x)) S c K cap (A1 + 3)) :=
            ⟨by unfold Src; rw [heap_setCell_other _ _ _ _ (by show S ≠ g; omega)]; exact HR8.out.src, HR8.out.bytes.below ((Below.refl S w8).setCell (by show S ≤ g; omega) _) HR8.out.ahead, HR8.out.ahead⟩
          clear hown8 hst
          go_wp2
          go_ret
          exact ⟨some ⟨g, 0, none⟩, cp, A1 + 3, zs.set P x, by rw [List.length_set]; rfl, by rw [List.length_set]; omega, by rw [List.length_set]; exact HST.out, by omega, HR9.out, HO9.out⟩
        · go_wp2
          go_ret
          exact ⟨ad, cp, A1 + 1, zs, rfl, by omega, HOWN5.out, by omega, HR5.out, HO5.out⟩
      · have hqb : (q == 0) = false := by rw [beq_eq_false_iff_ne]; exact hqa
        clear hqa
        by_cases hqc : q = 1
        · have hqd : (q == 1) = true := by rw [beq_iff_eq]; exact hqc
          clear hqc
          have hsz5 : w.heap.size ≤ w5.heap.size := HO5.out.1.size
          go_wp2_with (at_make; refine wpList_make_full _ rfl _ _ 24 rfl w.heap.size 2 i0 (.int .i64 0) 1 Try.underlying24 hi hz0 hz1 .i64 .i64 401 401 401 rfl rfl rfl rfl ?d1 ?d2 ?d3 ?_)
          case d1 => rw [hz2]; omega
          case d2 => unfold maxLen; omega
          case d3 => exact hsz5
          intro w6 hown6 hgrow
          have hb : Below w5.heap.size w5 w6 := (Below.refl _ _).grown hgrow (Nat.le_refl _) (fun k hk => by cases hk)
          have HR6 : Hid (Ready w6 S c K cap (A1 + 1)) := HR5.out.below hb
          have HO6 : Hid (Only S w w6) := HO5.out.trans (Only.of_below hb (Nat.le_of_lt HR5.out.src.lt))
          have HOWN6 : Hid (w6.ownsRow w.heap.size 2 1 (.slice (some ⟨w5.heap.size, 0, none⟩) 401 401) 401 ((List.replicate 401 (0 : Int)).map (Value.int .i64))) := by
            rw [toList_madeCells_one] at hown6
            show World.ownsRow _ _ _ _ _ _ _
            rw [List.map_replicate]
            exact hown6
          clear hb hgrow hown6
          go_wp2
          go_ret
          refine ⟨some ⟨w5.heap.size, 0, none⟩, 401, A1 + 1, List.replicate 401 0, by rw [List.length_replicate]; rfl, by rw [List.length_replicate]; omega, ?_, by omega, HR6.out, HO6.out⟩
          rw [List.length_replicate]
          exact HOWN6.out
        · have hqd : (q == 1) = false := by rw [beq_eq_false_iff_ne]; exact hqc
          clear hqc
          go_wp2
          go_ret
          exact ⟨ad, cp, A1 + 1, zs, rfl, by omega, HOWN5.out, by omega, HR5.out, HO5.out⟩

/-- some list of numbers, in new memory -/
def Drawn (w w' : World) (v : Value) : Prop := ∃ (ad : Option Addr) (cp : Nat) (zs : List Int), v = .slice ad zs.length cp ∧ zs.length ≤ 401 ∧ w'.ownsRow w.heap.size 2 1 (.slice ad zs.length cp) zs.length (zs.map (Value.int .i64)) ∧ Below w.heap.size w w'

set_option maxRecDepth 100000 in
theorem words_new (a : Option Addr) (K cap : Nat) (w : World) (hK : K ≤ 1048576) (hb : Bytes w a K) (ha : K ≠ 0 → ∀ b o s, a = some ⟨b, o, s⟩ → b < w.heap.size) :
    Calls Try.prog 103 #[.pointer (some ⟨w.heap.size, 0, none⟩)] (w.alloc (.cells #[.slice a K cap, .int .i64 0] 124)) fun e w' => ∃ v, e = .returned v ∧ Drawn w w' v := by
  refine (words_any w.heap.size K cap 0 a _ hK (by omega) (ready_new hb ha)).mono ?_
  rintro e w' ⟨ad, cp, A', zs, rfl, h1, h2, _, _, h3⟩
  refine ⟨_, rfl, ad, cp, zs, rfl, h1, own_mono h2 (by simp), ?_⟩
  exact ((Below.refl w.heap.size w).alloc (Nat.le_refl _) _).trans h3.1

end Go.Proofs.Ytcikofhbfncgdaa
