/-
  spec.DrawBlockStep: some op, some few numbers of two rows of their own. Nothing that was there turns.
-/
import Derived.Test.YtalopffpaepaaaaSBlk
import Derived.Test.YtalopffpaepaaaaDrawC
import Derived.Maps.AppendAt
namespace Go.Proofs.Ytalopffpaepaaaa
open Go.RowKit
set_option linter.unusedVariables false

theorem ownK_only {w w' : World} {S B n : Nat} {v : Value} {xs : List Value} (h : w.ownsRow B 2 1 v n xs) (ho : Only S w w') (hS : S < B) : w'.ownsRow B 2 1 v n xs :=
  own_other h (fun g hg => ho.2 g (by have := h.lt g hg; exact this.2) (by have := (h.lt g hg).1; omega))
/-- two rows of their own, and the source -/
structure DK (S : Nat) (W1 w : World) (c : Option Addr) (K cap A : Nat) (v7 v8 : Value) (zs ys : List Int) : Prop where
  ready : Ready w S c K cap A
  only : Only S W1 w
  first : S < W1.heap.size
  o7 : w.ownsRow (S + 1) 2 1 v7 zs.length (zs.map (Value.int .i64))
  o8 : w.ownsRow (S + 1) 2 1 v8 ys.length (ys.map (Value.int .i64))
  apart : ∀ g, v7.ownBlock = some g → v8.ownBlock ≠ some g
theorem DK.draw {S K cap A A' : Nat} {W1 w w' : World} {c : Option Addr} {v7 v8 : Value} {zs ys : List Int} (h : DK S W1 w c K cap A v7 v8 zs ys) (hr : Ready w' S c K cap A') (ho : Only S w w') : DK S W1 w' c K cap A' v7 v8 zs ys :=
  ⟨hr, h.only.trans ho, h.first, ownK_only h.o7 ho (by omega), ownK_only h.o8 ho (by omega), h.apart⟩
theorem DK.below {S K cap A : Nat} {W1 w w' : World} {c : Option Addr} {v7 v8 : Value} {zs ys : List Int} (h : DK S W1 w c K cap A v7 v8 zs ys) (hb : Below w.heap.size w w') : DK S W1 w' c K cap A v7 v8 zs ys :=
  h.draw (h.ready.below hb) (Only.of_below hb (Nat.le_of_lt h.ready.src.lt))
theorem DK.grow {S K cap A : Nat} {W1 w w' : World} {c : Option Addr} {r : Option Nat} (hr0 : Ready w S c K cap A) (ho0 : Only S W1 w) (hf : S < W1.heap.size) (hr : ∀ g, r = some g → S + 1 ≤ g) (hn : ∀ g, r = some g → W1.heap.size ≤ g) (hg : w.grownBy w' r) : Ready w' S c K cap A ∧ Only S W1 w' := by
  have hS := hr0.src.lt
  have hbS : Below S w w' := (Below.refl S w).grown hg (Nat.le_of_lt hS) (fun j hj => by have := hr j hj; omega)
  refine ⟨⟨?_, hr0.bytes.below hbS hr0.ahead, hr0.ahead⟩, ⟨ho0.1.trans hbS, fun g hgl hne => ?_⟩⟩
  · unfold Src
    rw [hg.block S hS (fun h => by have := hr S h.symm; omega)]
    exact hr0.src
  · have hl : g < w.heap.size := Nat.lt_of_lt_of_le hgl ho0.1.size
    exact (hg.block g hl (fun h => by have := hn g h.symm; omega)).trans (ho0.2 g hgl hne)
theorem DK.news (w : World) (x : Int) : ∀ j u, [Value.int .i64 x][j]? = some u → (w.alloc (.cells #[.int .i64 x] 2)).cell? ((⟨w.heap.size, 0, none⟩ : Addr).add j) = some u := by
  intro j u hj
  match j, hj with
  | 0, hj => simp at hj; subst hj; simp [Addr.add]

theorem DK.swap {S K cap A : Nat} {W1 w : World} {c : Option Addr} {v7 v8 : Value} {zs ys : List Int} (h : DK S W1 w c K cap A v7 v8 zs ys) : DK S W1 w c K cap A v8 v7 ys zs :=
  ⟨h.ready, h.only, h.first, h.o8, h.o7, fun g hg h7 => h.apart g h7 hg⟩
theorem DK.push {S K cap A : Nat} {W1 w w' : World} {c : Option Addr} {v7 v8 v' : Value} {zs ys : List Int} {x : Int} (h : DK S W1 w c K cap A v7 v8 zs ys) (hs : W1.heap.size = S + 1) (hown : w'.ownsRow (S + 1) 2 1 v' (zs.length + 1) (zs.map (Value.int .i64) ++ [.int .i64 x])) (hg : w.grownBy w' v7.ownBlock) (hat : v'.ownBlock = v7.ownBlock ∨ v'.ownBlock = some w.heap.size) : DK S W1 w' c K cap A v' v8 (zs ++ [x]) ys := by
  have hl7 := fun g hg => h.o7.lt g hg
  obtain ⟨r1, r2⟩ := DK.grow h.ready h.only h.first (fun g hg => (hl7 g hg).1) (fun g hg => by have := (hl7 g hg).1; omega) hg
  refine ⟨r1, r2, h.first, by simpa using hown, h.o8.kept hg ?_, ?_⟩
  · cases hv : v8.ownBlock with
    | none => exact .inl rfl
    | some g => exact .inr (fun e => h.apart g e.symm hv)
  · intro g hg8 h8
    rcases hat with e | e
    · exact h.apart g (e.symm.trans hg8) h8
    · rw [e] at hg8
      injection hg8 with hg8
      have := (h.o8.lt g h8).2
      omega
theorem DK.put {S K cap A g P cp : Nat} {W1 w : World} {c : Option Addr} {v8 : Value} {zs ys : List Int} {x : Int} (h : DK S W1 w c K cap A (.slice (some ⟨g, 0, none⟩) zs.length cp) v8 zs ys) (hs : W1.heap.size = S + 1) : Own (w.setCell ⟨g, P, none⟩ (.int .i64 x)) (S + 1) (.slice (some ⟨g, 0, none⟩) zs.length cp) (zs.set P x) ∧ Own (w.setCell ⟨g, P, none⟩ (.int .i64 x)) (S + 1) v8 ys ∧ Only S W1 (w.setCell ⟨g, P, none⟩ (.int .i64 x)) := by
  have hg := h.o7.lt g rfl
  have hf := h.first
  refine ⟨?_, own_other h.o8 (fun j hj => heap_setCell_other _ _ _ _ (fun e => h.apart g rfl (by rw [hj]; simp at e; rw [e]))), ?_⟩
  · have hst := (h.o7.stored P (.int .i64 x)).1
    rw [← List.map_set] at hst
    show World.ownsRow _ _ _ _ _ _ _
    rw [List.length_set]
    exact hst
  · exact ⟨h.only.1.setCell (by show S ≤ g; omega) _, fun j hj hne => (heap_setCell_other _ _ _ _ (by show j ≠ g; omega)).trans (h.only.2 j hj hne)⟩

set_option maxHeartbeats 12800000 in
set_option maxRecDepth 100000 in
theorem drawStep_any (c : Option Addr) (K cap : Nat) (w : World) (hK : K ≤ 1048576) (hb : Bytes w c K) (ha : K ≠ 0 → ∀ b o s, c = some ⟨b, o, s⟩ → b < w.heap.size) :
    Calls Try.prog 9 #[.slice c K cap] w fun e w' => ∃ (op : Int) (zs ys : List Int) (ak ay : Option Addr) (ck cy : Nat), e = .returned (.tuple #[.int .i64 op, .slice ak zs.length ck, .slice ay ys.length cy]) ∧ zs.length ≤ 5 ∧ ys.length ≤ 5 ∧ Own w' (w.heap.size + 1) (.slice ak zs.length ck) zs ∧ Own w' (w.heap.size + 1) (.slice ay ys.length cy) ys ∧ Below w.heap.size w w' := by
  obtain ⟨i0, hi, hz0, hz1, hz2⟩ := info_parts infoInt
  have HR1 : Hid (Ready (w.alloc (.cells #[.slice c K cap, .int .i64 0] 100)) w.heap.size c K cap 0) := ready_new hb ha
  have HW1 : Hid (Below w.heap.size w (w.alloc (.cells #[.slice c K cap, .int .i64 0] 100))) := (Below.refl _ _).alloc (Nat.le_refl _) _
  have HS1 : Hid ((w.alloc (.cells #[.slice c K cap, .int .i64 0] 100)).heap.size = w.heap.size + 1) := by unfold Hid; simp
  have HFIN : Hid (∀ (w' : World) (A : Nat) (v7 v8 : Value) (zs ys : List Int), DK w.heap.size (w.alloc (.cells #[.slice c K cap, .int .i64 0] 100)) w' c K cap A v7 v8 zs ys → Below w.heap.size w w') := fun w' A v7 v8 zs ys h => HW1.out.trans h.only.1
  clear hb ha
  go_enter Try.func9, Try.ntmps9
  go_wp2_with fail
  refine (source_any c K cap w).mono ?_
  rintro e w0 ⟨rfl, rfl⟩
  go_wp2_with fail
  generalize hS : w.heap.size = S at *
  generalize hW : w.alloc (.cells #[.slice c K cap, .int .i64 0] 100) = W1 at *
  have HSW : Hid (w.heap.size = S) := hS
  clear hW hS
  have hb : Below W1.heap.size W1 (W1.alloc (.cells #[.int .i64 1, .int .i64 2, .int .i64 3, .int .i64 4, .int .i64 0, .int .i64 5] 2)) := (Below.refl _ _).alloc (Nat.le_refl _) _
  have HP : Hid (Picks (W1.alloc (.cells #[.int .i64 1, .int .i64 2, .int .i64 3, .int .i64 4, .int .i64 0, .int .i64 5] 2)) (S + 1) [1, 2, 3, 4, 0, 5]) := by have h := picks_new W1 [1, 2, 3, 4, 0, 5] 2; rw [HS1.out] at h; exact h
  have HR2 : Hid (Ready (W1.alloc (.cells #[.int .i64 1, .int .i64 2, .int .i64 3, .int .i64 4, .int .i64 0, .int .i64 5] 2)) S c K cap 0) := HR1.out.below hb
  have HO2 : Hid (Only S W1 (W1.alloc (.cells #[.int .i64 1, .int .i64 2, .int .i64 3, .int .i64 4, .int .i64 0, .int .i64 5] 2))) := Only.of_below hb (by have := HS1.out; omega)
  clear hb
  refine (draw_pick S K cap 0 c (S + 1) [1, 2, 3, 4, 0, 5] 6 6 _ hK (by omega) rfl (by omega) (by omega) HP.out (by omega) HR2.out).mono ?_
  rintro e w2 ⟨op, rfl, hx, hr, ho⟩
  have HD0 : Hid (DK S W1 ((w2.alloc (.cells #[] 2)).alloc (.cells #[] 2)) c K cap 1 (.slice (some ⟨w2.heap.size, 0, none⟩) 0 0) (.slice (some ⟨w2.heap.size + 1, 0, none⟩) 0 0) [] []) := by
    have hS2 := hr.src.lt
    have hS1 := HS1.out
    have b1 : Below w2.heap.size w2 (w2.alloc (.cells #[] 2)) := (Below.refl _ _).alloc (Nat.le_refl _) _
    have b2 : Below (w2.alloc (.cells #[] 2)).heap.size (w2.alloc (.cells #[] 2)) ((w2.alloc (.cells #[] 2)).alloc (.cells #[] 2)) := (Below.refl _ _).alloc (Nat.le_refl _) _
    have b3 : Below w2.heap.size w2 ((w2.alloc (.cells #[] 2)).alloc (.cells #[] 2)) := b1.trans (b2.mono (by simp))
    have n1 : (w2.alloc (.cells #[] 2)).heap[w2.heap.size]? = some (.cells #[] 2 (0, 0)) := heap_alloc_new w2 _
    have n2 : ((w2.alloc (.cells #[] 2)).alloc (.cells #[] 2)).heap[w2.heap.size]? = some (.cells #[] 2 (0, 0)) := (b2.block _ (by simp)).trans n1
    have n3 : ((w2.alloc (.cells #[] 2)).alloc (.cells #[] 2)).heap[w2.heap.size + 1]? = some (.cells #[] 2 (0, 0)) := by have := heap_alloc_new (w2.alloc (.cells #[] 2)) (.cells #[] 2); simpa using this
    exact ⟨hr.below b3, (HO2.out.trans ho).trans (Only.of_below b3 (Nat.le_of_lt hS2)), by omega,
      ⟨by simp, .inr ⟨w2.heap.size, 0, #[], rfl, by omega, n2, Nat.le_refl _, by unfold maxLen; omega, rfl, by simp⟩⟩,
      ⟨by simp, .inr ⟨w2.heap.size + 1, 0, #[], rfl, by omega, n3, Nat.le_refl _, by unfold maxLen; omega, rfl, by simp⟩⟩,
      fun g hg => by simp [Value.ownBlock] at hg ⊢; omega⟩
  clear hr ho hx HP HR2 HO2 HR1
  obtain ⟨q, hq⟩ : ∃ q, inB op 1 4 = q := ⟨_, rfl⟩
  have HI : Hid (∀ w, Calls Try.prog 34 #[.int .i64 op, .int .i64 1, .int .i64 4] w fun e w' => e = .returned (.bool q) ∧ w' = w) := fun w => by have h := l1In_any op 1 4 w; rwa [hq] at h
  go_wp2_with fail
  refine (HI.out _).mono ?_
  rintro e w3 ⟨rfl, rfl⟩
  generalize hw3 : (w2.alloc (.cells #[] 2)).alloc (.cells #[] 2) = w3 at *
  generalize hA7 : (Value.slice (some ⟨w2.heap.size, 0, none⟩) 0 0) = v7 at *
  generalize hA8 : (Value.slice (some ⟨w2.heap.size + 1, 0, none⟩) 0 0) = v8 at *
  clear hw3 hA7 hA8
  cases q with
  | false =>
    clear hq HI
    obtain ⟨zs, hzs⟩ : ∃ zs : List Int, zs = [] := ⟨_, rfl⟩
    rw [← hzs] at HD0
    have hzl : zs.length ≤ 3 := by rw [hzs]; simp
    clear hzs
    obtain ⟨ak, ck, rfl⟩ := own_shape HD0.out.o7
    obtain ⟨ay, cy, rfl⟩ := own_shape HD0.out.o8
    go_wp2_with fail
    refine (draw_next S K cap _ c 14 w3 hK (by omega) (by omega) (by omega) HD0.out.ready).mono ?_
    rintro e wt ⟨q, rfl, hq0, hq1, hr, ho⟩
    have HT : Hid _ := HD0.out.draw hr ho
    clear hr ho HD0 hq0 hq1
    by_cases hqa : q = 0
    · have hqb : (q == 0) = true := by rw [beq_iff_eq]; exact hqa
      clear hqa
      go_wp2_with (at_builtin; go_loud (refine wpList_append_own_at _ rfl _ _ 24 rfl (S + 1) 2 i0 (.int .i64 0) 1 8 Try.underlying24 hi hz0 hz1 hz2 rfl (by decide) _ _ _ rfl (HT.out.o7.alloc _) ⟨wt.heap.size, 0, none⟩ 1 1 [.int .i64 0] rfl rfl (DK.news wt 0) ?c2 ?c3 ?c4 ?c5 ?_))
      case c2 => intro u hu; simp at hu; subst hu; rfl
      case c3 => unfold maxLen; omega
      case c4 => omega
      case c5 => have := HT.out.ready.src.lt; simp; omega
      intro v' w8 hown' hgrow _ hat
      have hd8 := DK.push (HT.out.below ((Below.refl _ _).alloc (Nat.le_refl _) (.cells #[.int .i64 0] 2))) HS1.out hown' hgrow (by simpa using hat)
      obtain ⟨a', c', rfl⟩ := own_shape hd8.o7
      have HE : Hid _ := hd8
      clear hd8 hown' hgrow hat HT
      go_wp2
      go_returns
      refine ⟨op, zs ++ [0], zs, _, _, _, _, rfl, by simp; omega, by omega, by rw [HSW.out]; exact HE.out.o7, by rw [HSW.out]; exact HE.out.o8, by rw [HSW.out]; exact HFIN.out _ _ _ _ _ _ HE.out⟩
    have hqb : (q == 0) = false := by rw [beq_eq_false_iff_ne]; exact hqa
    clear hqa
    by_cases hqc : q = 1
    · have hqd : (q == 1) = true := by rw [beq_iff_eq]; exact hqc
      clear hqc
      go_wp2_with (at_builtin; go_loud (refine wpList_append_own_at _ rfl _ _ 24 rfl (S + 1) 2 i0 (.int .i64 0) 1 8 Try.underlying24 hi hz0 hz1 hz2 rfl (by decide) _ _ _ rfl (HT.out.o8.alloc _) ⟨wt.heap.size, 0, none⟩ 1 1 [.int .i64 0] rfl rfl (DK.news wt 0) ?c2 ?c3 ?c4 ?c5 ?_))
      case c2 => intro u hu; simp at hu; subst hu; rfl
      case c3 => unfold maxLen; omega
      case c4 => omega
      case c5 => have := HT.out.ready.src.lt; simp; omega
      intro v' w8 hown' hgrow _ hat
      have hd8 := DK.push (HT.out.swap.below ((Below.refl _ _).alloc (Nat.le_refl _) (.cells #[.int .i64 0] 2))) HS1.out hown' hgrow (by simpa using hat)
      obtain ⟨a', c', rfl⟩ := own_shape hd8.o7
      have HE : Hid _ := hd8
      clear hd8 hown' hgrow hat HT
      go_wp2
      go_returns
      refine ⟨op, zs, zs ++ [0], _, _, _, _, rfl, by omega, by simp; omega, by rw [HSW.out]; exact HE.out.o8, by rw [HSW.out]; exact HE.out.o7, by rw [HSW.out]; exact HFIN.out _ _ _ _ _ _ HE.out.swap⟩
    have hqd : (q == 1) = false := by rw [beq_eq_false_iff_ne]; exact hqc
    clear hqc
    by_cases hqe : q = 2
    · have hqf : (q == 2) = true := by rw [beq_iff_eq]; exact hqe
      clear hqe
      by_cases hzp : 0 < zs.length
      · have hlt6 : wt.heap.size ≠ S := by have := HT.out.ready.src.lt; omega
        have hb : Below wt.heap.size wt (wt.alloc (.cells #[.int .i64 (-1), .int .i64 65536] 2)) := (Below.refl _ _).alloc (Nat.le_refl _) _
        have HP : Hid (Picks (wt.alloc (.cells #[.int .i64 (-1), .int .i64 65536] 2)) wt.heap.size [-1, 65536]) := picks_new wt [-1, 65536] 2
        have HTx : Hid _ := HT.out.below hb
        clear hb HT
        go_wp2_with fail
        refine (draw_pick S K cap _ c wt.heap.size [-1, 65536] 2 2 _ hK (by omega) rfl (by omega) (by omega) HP.out hlt6 HTx.out.ready).mono ?_
        rintro e w8 ⟨x, rfl, hx, hr, ho⟩
        have hd8 := HTx.out.draw hr ho
        clear hr ho hx HTx HP
        obtain ⟨g, rfl⟩ : ∃ g, ak = some ⟨g, 0, none⟩ := by
          rcases hd8.o7.2 with ⟨h, h0⟩ | ⟨g, c, cur, h, _⟩
          · omega
          · simp at h; exact ⟨g, h.1⟩
        have hfr := hd8.o7.frozenAt 0
        obtain ⟨y, hy⟩ : ∃ y, w8.cell? ⟨g, 0, none⟩ = some y := by
          rw [hd8.o7.cellAt 0 (by omega)]; exact ⟨_, List.getElem?_eq_getElem (by simp; omega)⟩
        have HE : Hid _ := DK.put (P := 0) (x := x) hd8 HS1.out
        clear hd8
        go_wp2
        go_returns
        refine ⟨op, zs.set 0 x, zs, some ⟨g, 0, none⟩, _, _, _, by rw [List.length_set]; rfl, by rw [List.length_set]; omega, by omega, ?_, by rw [HSW.out]; exact HE.out.2.1, by rw [HSW.out]; exact HW1.out.trans HE.out.2.2.1⟩
        rw [HSW.out]
        have h := HE.out.1
        show World.ownsRow _ _ _ _ _ _ _
        unfold Own at h
        rw [List.length_set] at h ⊢
        exact h
      · go_wp2
        go_returns
        exact ⟨op, zs, zs, _, _, _, _, rfl, by omega, by omega, by rw [HSW.out]; exact HT.out.o7, by rw [HSW.out]; exact HT.out.o8, by rw [HSW.out]; exact HFIN.out _ _ _ _ _ _ HT.out⟩
    have hqf : (q == 2) = false := by rw [beq_eq_false_iff_ne]; exact hqe
    clear hqe
    go_wp2
    go_returns
    exact ⟨op, zs, zs, _, _, _, _, rfl, by omega, by omega, by rw [HSW.out]; exact HT.out.o7, by rw [HSW.out]; exact HT.out.o8, by rw [HSW.out]; exact HFIN.out _ _ _ _ _ _ HT.out⟩
  | true =>
    obtain ⟨h1, h4⟩ := inB_iff.1 hq
    have HO : Hid (∀ w, Calls Try.prog 35 #[.int .i64 op] w fun e w' => e = .returned (.int .i64 (bkN op)) ∧ Below w.heap.size w w') := fun w => l6Own_any op w h1 h4
    have HA : Hid (∀ w, Calls Try.prog 37 #[.int .i64 op] w fun e w' => (∃ g, e = .returned (.slice (some ⟨g, 0, none⟩) (bkA op) (bkA op))) ∧ Below w.heap.size w w') := fun w => (l5Args_any op w h1 h4).mono (fun e w' h => by
      obtain ⟨⟨g, he, _, _⟩, hb⟩ := h
      rw [argsL_len] at he
      exact ⟨⟨g, he⟩, hb⟩)
    have hNN : bkN op ≤ 3 ∧ bkA op ≤ 3 := ⟨by unfold bkN; split; omega; split; omega; split <;> omega, by unfold bkA; split; omega; split; omega; split <;> omega⟩
    obtain ⟨hN1, hN2⟩ := hNN
    generalize bkN op = NN at *
    generalize bkA op = NA at *
    clear hq HI h1 h4
    go_wp2_with fail
    go_loopw [7, 9] (fun v i wr => ∃ (zs : List Int) (A : Nat), i = .int .i64 (zs.length : Int) ∧ zs.length ≤ NN ∧ A ≤ 1 + 3 * zs.length ∧ Hid (DK S W1 wr c K cap A v v8 zs [])) (fun _ i _ => NN - (intOf i).toNat)
    case atStart => exact ⟨[], 1, rfl, by simp, by simp, HD0⟩
    case round =>
      obtain ⟨zs, A, rfl, hzl, hA, HD⟩ := hrel
      clear HD0
      go_wp2_with fail
      refine (HO.out _).mono ?_
      rintro e w4 ⟨rfl, hb⟩
      have HD4 : Hid _ := HD.out.below hb
      clear hb HD
      by_cases hlt : zs.length < NN
      · go_wp2_with fail
        refine (draw_next S K cap A c 3 w4 hK (by omega) (by omega) (by omega) HD4.out.ready).mono ?_
        rintro e w5 ⟨r1, rfl, h10, h11, hr, ho⟩
        have HD5 : Hid _ := HD4.out.draw hr ho
        clear hr ho HD4
        go_wp2_with fail
        refine (draw_next S K cap (A + 1) c 2 w5 hK (by omega) (by omega) (by omega) HD5.out.ready).mono ?_
        rintro e w6 ⟨r2, rfl, h20, h21, hr, ho⟩
        have HD6 : Hid _ := HD5.out.draw hr ho
        have hlt6 : w6.heap.size ≠ S := by have := hr.src.lt; omega
        clear hr ho HD5
        have hb : Below w6.heap.size w6 (w6.alloc (.cells #[.int .i64 r1, .int .i64 r2, .int .i64 32767, .int .i64 65535] 2)) := (Below.refl _ _).alloc (Nat.le_refl _) _
        have HP : Hid (Picks (w6.alloc (.cells #[.int .i64 r1, .int .i64 r2, .int .i64 32767, .int .i64 65535] 2)) w6.heap.size [r1, r2, 32767, 65535]) := picks_new w6 [r1, r2, 32767, 65535] 2
        have HDx : Hid _ := HD6.out.below hb
        clear hb HD6
        go_wp2_with fail
        refine (draw_pick S K cap (A + 1 + 1) c w6.heap.size [r1, r2, 32767, 65535] 4 4 _ hK (by omega) rfl (by omega) (by omega) HP.out hlt6 HDx.out.ready).mono ?_
        rintro e w7 ⟨x, rfl, hx, hr, ho⟩
        have HD7 : Hid _ := HDx.out.draw hr ho
        clear hr ho hx HDx HP h10 h11 h20 h21
        go_wp2_with (at_builtin; refine wpList_append_own_at _ rfl _ _ 24 rfl (S + 1) 2 i0 (.int .i64 0) 1 8 Try.underlying24 hi hz0 hz1 hz2 rfl (by decide) _ _ _ rfl (HD7.out.o7.alloc _) ⟨w7.heap.size, 0, none⟩ 1 1 [.int .i64 x] rfl rfl (DK.news w7 x) ?c2 ?c3 ?c4 ?c5 ?_)
        case c2 => intro u hu; simp at hu; subst hu; rfl
        case c3 => unfold maxLen; omega
        case c4 => omega
        case c5 => have := HD7.out.ready.src.lt; simp; omega
        intro v' w8 hown' hgrow _ hat
        have HD8 : Hid _ := DK.push (HD7.out.below ((Below.refl _ _).alloc (Nat.le_refl _) (.cells #[.int .i64 x] 2))) HS1.out hown' hgrow (by simpa using hat)
        clear hown' hgrow hat HD7
        go_wp2_with fail
        go_roundw
        case rel => exact ⟨zs ++ [x], A + 1 + 1 + 1, by simp, by simp; omega, by simp; omega, HD8⟩
        case measure => simp [intOf]; omega
      · obtain ⟨ak, ck, rfl⟩ := own_shape HD4.out.o7
        go_wp2_with fail
        clear hlt
        go_loopw [8, 10] (fun v i wr => ∃ (ys : List Int) (A : Nat), i = .int .i64 (ys.length : Int) ∧ ys.length ≤ NA ∧ A ≤ 100 + 3 * ys.length ∧ Hid (DK S W1 wr c K cap A (.slice ak zs.length ck) v zs ys)) (fun _ i _ => NA - (intOf i).toNat)
        case atStart => exact ⟨[], A, rfl, by simp, by simp; omega, HD4⟩
        case round =>
          obtain ⟨ys, A2, rfl, hyl, hA2, HD⟩ := hrel
          clear HD4 hA HO
          go_wp2_with fail
          refine (HA.out _).mono ?_
          rintro e w4 ⟨⟨ga, rfl⟩, hb⟩
          have HD4 : Hid _ := HD.out.below hb
          clear hb HD
          by_cases hlt : ys.length < NA
          · go_wp2_with fail
            refine (draw_next S K cap A2 c 2 w4 hK (by omega) (by omega) (by omega) HD4.out.ready).mono ?_
            rintro e w5 ⟨r1, rfl, h10, h11, hr, ho⟩
            have HD5 : Hid _ := HD4.out.draw hr ho
            clear hr ho HD4
            go_wp2_with fail
            refine (draw_next S K cap (A2 + 1) c 4 w5 hK (by omega) (by omega) (by omega) HD5.out.ready).mono ?_
            rintro e w6 ⟨r2, rfl, h20, h21, hr, ho⟩
            have HD6 : Hid _ := HD5.out.draw hr ho
            have hlt6 : w6.heap.size ≠ S := by have := hr.src.lt; omega
            clear hr ho HD5
            have hb : Below w6.heap.size w6 (w6.alloc (.cells #[.int .i64 r1, .int .i64 r2, .int .i64 32767, .int .i64 65535] 2)) := (Below.refl _ _).alloc (Nat.le_refl _) _
            have HP : Hid (Picks (w6.alloc (.cells #[.int .i64 r1, .int .i64 r2, .int .i64 32767, .int .i64 65535] 2)) w6.heap.size [r1, r2, 32767, 65535]) := picks_new w6 [r1, r2, 32767, 65535] 2
            have HDx : Hid _ := HD6.out.below hb
            clear hb HD6
            go_wp2_with fail
            refine (draw_pick S K cap (A2 + 1 + 1) c w6.heap.size [r1, r2, 32767, 65535] 4 4 _ hK (by omega) rfl (by omega) (by omega) HP.out hlt6 HDx.out.ready).mono ?_
            rintro e w7 ⟨x, rfl, hx, hr, ho⟩
            have HD7 : Hid _ := HDx.out.draw hr ho
            clear hr ho hx HDx HP h10 h11 h20 h21
            go_wp2_with (at_builtin; go_loud (refine wpList_append_own_at _ rfl _ _ 24 rfl (S + 1) 2 i0 (.int .i64 0) 1 8 Try.underlying24 hi hz0 hz1 hz2 rfl (by decide) _ _ _ rfl (HD7.out.o8.alloc _) ⟨w7.heap.size, 0, none⟩ 1 1 [.int .i64 x] rfl rfl (DK.news w7 x) ?c2 ?c3 ?c4 ?c5 ?_))
            case c2 => intro u hu; simp at hu; subst hu; rfl
            case c3 => unfold maxLen; omega
            case c4 => omega
            case c5 => have := HD7.out.ready.src.lt; simp; omega
            intro v' w8 hown' hgrow _ hat
            have HD8 : Hid _ := (DK.push (HD7.out.swap.below ((Below.refl _ _).alloc (Nat.le_refl _) (.cells #[.int .i64 x] 2))) HS1.out hown' hgrow (by simpa using hat)).swap
            clear hown' hgrow hat HD7
            go_wp2_with fail
            go_roundw
            case rel => exact ⟨ys ++ [x], A2 + 1 + 1 + 1, by simp, by simp; omega, by simp; omega, HD8⟩
            case measure => simp [intOf]; omega
          · obtain ⟨ay, cy, rfl⟩ := own_shape HD4.out.o8
            go_wp2_with fail
            refine (draw_next S K cap _ c 14 w4 hK (by omega) (by omega) (by omega) HD4.out.ready).mono ?_
            rintro e wt ⟨q, rfl, hq0, hq1, hr, ho⟩
            have HT : Hid _ := HD4.out.draw hr ho
            clear hr ho HD4 hq0 hq1
            by_cases hqa : q = 0
            · have hqb : (q == 0) = true := by rw [beq_iff_eq]; exact hqa
              clear hqa
              go_wp2_with (at_builtin; go_loud (refine wpList_append_own_at _ rfl _ _ 24 rfl (S + 1) 2 i0 (.int .i64 0) 1 8 Try.underlying24 hi hz0 hz1 hz2 rfl (by decide) _ _ _ rfl (HT.out.o7.alloc _) ⟨wt.heap.size, 0, none⟩ 1 1 [.int .i64 0] rfl rfl (DK.news wt 0) ?c2 ?c3 ?c4 ?c5 ?_))
              case c2 => intro u hu; simp at hu; subst hu; rfl
              case c3 => unfold maxLen; omega
              case c4 => omega
              case c5 => have := HT.out.ready.src.lt; simp; omega
              intro v' w8 hown' hgrow _ hat
              have hd8 := DK.push (HT.out.below ((Below.refl _ _).alloc (Nat.le_refl _) (.cells #[.int .i64 0] 2))) HS1.out hown' hgrow (by simpa using hat)
              obtain ⟨a', c', rfl⟩ := own_shape hd8.o7
              have HE : Hid _ := hd8
              clear hd8 hown' hgrow hat HT
              go_wp2
              go_returns
              refine ⟨op, zs ++ [0], ys, _, _, _, _, rfl, by simp; omega, by omega, by rw [HSW.out]; exact HE.out.o7, by rw [HSW.out]; exact HE.out.o8, by rw [HSW.out]; exact HFIN.out _ _ _ _ _ _ HE.out⟩
            have hqb : (q == 0) = false := by rw [beq_eq_false_iff_ne]; exact hqa
            clear hqa
            by_cases hqc : q = 1
            · have hqd : (q == 1) = true := by rw [beq_iff_eq]; exact hqc
              clear hqc
              go_wp2_with (at_builtin; go_loud (refine wpList_append_own_at _ rfl _ _ 24 rfl (S + 1) 2 i0 (.int .i64 0) 1 8 Try.underlying24 hi hz0 hz1 hz2 rfl (by decide) _ _ _ rfl (HT.out.o8.alloc _) ⟨wt.heap.size, 0, none⟩ 1 1 [.int .i64 0] rfl rfl (DK.news wt 0) ?c2 ?c3 ?c4 ?c5 ?_))
              case c2 => intro u hu; simp at hu; subst hu; rfl
              case c3 => unfold maxLen; omega
              case c4 => omega
              case c5 => have := HT.out.ready.src.lt; simp; omega
              intro v' w8 hown' hgrow _ hat
              have hd8 := DK.push (HT.out.swap.below ((Below.refl _ _).alloc (Nat.le_refl _) (.cells #[.int .i64 0] 2))) HS1.out hown' hgrow (by simpa using hat)
              obtain ⟨a', c', rfl⟩ := own_shape hd8.o7
              have HE : Hid _ := hd8
              clear hd8 hown' hgrow hat HT
              go_wp2
              go_returns
              refine ⟨op, zs, ys ++ [0], _, _, _, _, rfl, by omega, by simp; omega, by rw [HSW.out]; exact HE.out.o8, by rw [HSW.out]; exact HE.out.o7, by rw [HSW.out]; exact HFIN.out _ _ _ _ _ _ HE.out.swap⟩
            have hqd : (q == 1) = false := by rw [beq_eq_false_iff_ne]; exact hqc
            clear hqc
            by_cases hqe : q = 2
            · have hqf : (q == 2) = true := by rw [beq_iff_eq]; exact hqe
              clear hqe
              by_cases hzp : 0 < zs.length
              · have hlt6 : wt.heap.size ≠ S := by have := HT.out.ready.src.lt; omega
                have hb : Below wt.heap.size wt (wt.alloc (.cells #[.int .i64 (-1), .int .i64 65536] 2)) := (Below.refl _ _).alloc (Nat.le_refl _) _
                have HP : Hid (Picks (wt.alloc (.cells #[.int .i64 (-1), .int .i64 65536] 2)) wt.heap.size [-1, 65536]) := picks_new wt [-1, 65536] 2
                have HTx : Hid _ := HT.out.below hb
                clear hb HT
                go_wp2_with fail
                refine (draw_pick S K cap _ c wt.heap.size [-1, 65536] 2 2 _ hK (by omega) rfl (by omega) (by omega) HP.out hlt6 HTx.out.ready).mono ?_
                rintro e w8 ⟨x, rfl, hx, hr, ho⟩
                have hd8 := HTx.out.draw hr ho
                clear hr ho hx HTx HP
                obtain ⟨g, rfl⟩ : ∃ g, ak = some ⟨g, 0, none⟩ := by
                  rcases hd8.o7.2 with ⟨h, h0⟩ | ⟨g, c, cur, h, _⟩
                  · omega
                  · simp at h; exact ⟨g, h.1⟩
                have hfr := hd8.o7.frozenAt 0
                obtain ⟨y, hy⟩ : ∃ y, w8.cell? ⟨g, 0, none⟩ = some y := by
                  rw [hd8.o7.cellAt 0 (by omega)]; exact ⟨_, List.getElem?_eq_getElem (by simp; omega)⟩
                have HE : Hid _ := DK.put (P := 0) (x := x) hd8 HS1.out
                clear hd8
                go_wp2
                go_returns
                refine ⟨op, zs.set 0 x, ys, some ⟨g, 0, none⟩, _, _, _, by rw [List.length_set]; rfl, by rw [List.length_set]; omega, by omega, ?_, by rw [HSW.out]; exact HE.out.2.1, by rw [HSW.out]; exact HW1.out.trans HE.out.2.2.1⟩
                rw [HSW.out]
                have h := HE.out.1
                show World.ownsRow _ _ _ _ _ _ _
                unfold Own at h
                rw [List.length_set] at h ⊢
                exact h
              · go_wp2
                go_returns
                exact ⟨op, zs, ys, _, _, _, _, rfl, by omega, by omega, by rw [HSW.out]; exact HT.out.o7, by rw [HSW.out]; exact HT.out.o8, by rw [HSW.out]; exact HFIN.out _ _ _ _ _ _ HT.out⟩
            have hqf : (q == 2) = false := by rw [beq_eq_false_iff_ne]; exact hqe
            clear hqe
            go_wp2
            go_returns
            exact ⟨op, zs, ys, _, _, _, _, rfl, by omega, by omega, by rw [HSW.out]; exact HT.out.o7, by rw [HSW.out]; exact HT.out.o8, by rw [HSW.out]; exact HFIN.out _ _ _ _ _ _ HT.out⟩
end Go.Proofs.Ytalopffpaepaaaa
