/-
  spec.l1Chance, l3Text, DrawLexText: some text, not too long; nothing that was there turns but the source.
-/
import Derived.Test.YtbgfabkneifccaaDoorDrawC
import Derived.Test.YtbgfabkneifccaaDoorSLex
import Derived.RegionTactic
import Derived.Deep.RegionHeld3
import Derived.Deep.QuietTactic
import Derived.BigQuiet
namespace Go.Proofs.YtbgfabkneifccaaDoor
open Go.RowKit
set_option linter.unusedVariables false
attribute [local go_sem] bs_size bs_get bs_extract bs_append bs_eq bs_toList

theorem texts_only {w w' : World} {S g : Nat} {L : List (List UInt8)} (h : Texts w g L) (ho : Only S w w') (hg : g ≠ S) (hl : g < w.heap.size) : Texts w' g L := fun k hk => (World.cell?_of_block (ho.2 g hl hg)).trans (h k hk)
set_option maxHeartbeats 400000 in
theorem chance_any (S K cap A : Nat) (c : Option Addr) (n : Int) (w : World) (hK : K ≤ 1048576) (hA : A ≤ 1000000) (hn0 : 0 ≤ n) (hn1 : n ≤ 100000) (h : Ready w S c K cap A) :
    Calls Tryd.prog 28 #[.pointer (some ⟨S, 0, none⟩), .int .i64 n] w fun e w' => ∃ b : Bool, e = .returned (.bool b) ∧ Ready w' S c K cap (A + 1) ∧ Only S w w' := by
  have hnx := draw_next S K cap A c n w hK hA hn0 hn1 h
  clear h
  go_enter Tryd.func28, Tryd.ntmps28
  go_wp2_with fail
  refine hnx.mono ?_
  rintro e w1 ⟨r, rfl, _, _, hr, ho⟩
  have HR : Hid (Ready w1 S c K cap (A + 1)) := hr
  have HO : Hid (Only S w w1) := ho
  clear hr ho
  go_wp2
  go_ret
  exact ⟨_, rfl, HR.out, HO.out⟩

/-- some text of at most n bytes; the source so many draws on -/
def Said (S K cap A n : Nat) (c : Option Addr) (w : World) (e : Ending) (w' : World) : Prop := ∃ (s : List UInt8) (A' : Nat), e = .returned (.string (bs s)) ∧ s.length ≤ n ∧ A' ≤ A ∧ Ready w' S c K cap A' ∧ Only S w w'
set_option maxHeartbeats 6400000 in
theorem text_any (S K cap A : Nat) (c : Option Addr) (w : World) (hK : K ≤ 1048576) (hA : A ≤ 100000) (h : Ready w S c K cap A) :
    Calls Tryd.prog 27 #[.pointer (some ⟨S, 0, none⟩)] w fun e w' => Said S K cap (A + 40) 160 c w e w' := by
  have HR0 : Hid (Ready w S c K cap A) := h
  have hSw : S < w.heap.size := h.src.lt
  clear h
  go_enter Tryd.func27, Tryd.ntmps27
  go_wp2_with fail
  refine (draw_next S K cap A c 12 w hK (by omega) (by omega) (by omega) HR0.out).mono ?_
  rintro e w0 ⟨k0, rfl, hk0, hk1, hr, ho⟩
  have hk2 : k0 < 12 := by omega
  obtain ⟨N, rfl⟩ := Int.eq_ofNat_of_zero_le hk0
  have HR1 : Hid (Ready w0 S c K cap (A + 1)) := hr
  have HO1 : Hid (Only S w w0) := ho
  clear hr ho HR0 hk1 hk0
  go_wp2_with fail
  go_loopw [3, 4] (fun o i wr => ∃ (s : List UInt8) (r A1 : Nat), o = .string (bs s) ∧ i = .int .i64 r ∧ r ≤ 12 ∧ s.length + r * 13 ≤ 156 ∧ A1 + r * 3 ≤ A + 37 ∧ Hid (Ready wr S c K cap A1) ∧ Hid (Only S w wr)) (fun _ i _ => (intOf i).toNat)
  case atStart => exact ⟨[], N, A + 1, rfl, rfl, by omega, by simp; omega, by omega, HR1, HO1⟩
  case round =>
    clear HR1 HO1
    obtain ⟨s, r, A1, rfl, rfl, hr12, hsl, hA1, HR, HO⟩ := hrel
    by_cases hlt2 : 0 < r
    · have hri : (0 : Int) < (r : Int) := by omega
      go_wp2_with fail
      refine (draw_next S K cap A1 c 7 wr hK (by omega) (by omega) (by omega) HR.out).mono ?_
      rintro e w1 ⟨q, rfl, hq0, hq1, hr, ho⟩
      have hq2 : q < 7 := by omega
      have HR1 : Hid (Ready w1 S c K cap (A1 + 1)) := hr
      have HO1 : Hid (Only S w w1) := HO.out.trans ho
      have hS1 := hr.src.lt
      have hSne : w1.heap.size ≠ S := by omega
      clear hr ho HR HO hq1
      have hq : q = 0 ∨ q = 1 ∨ q = 2 ∨ q = 3 ∨ q = 4 ∨ q = 5 ∨ q = 6 := by omega
      clear hq0 hq2
      rcases hq with rfl | rfl | rfl | rfl | rfl | rfl | rfl
      · have hb1 : Below w1.heap.size w1 ((w1.alloc (.cells #[.string ⟨#[97]⟩, .string ⟨#[98]⟩, .string ⟨#[108, 111, 110, 103, 95, 111, 110, 101]⟩, .string ⟨#[120, 95]⟩, .string ⟨#[116, 111, 111, 108, 111, 110, 103, 110, 97, 109, 101]⟩] 9)).alloc (.cells #[.int .i64 0, .int .i64 1, .int .i64 2, .int .i64 3, .int .i64 0, .int .i64 1, .int .i64 4] 2)) := ((Below.refl _ _).alloc (Nat.le_refl _) _).alloc (by simp) _
        have HT2 : Hid (Texts ((w1.alloc (.cells #[.string ⟨#[97]⟩, .string ⟨#[98]⟩, .string ⟨#[108, 111, 110, 103, 95, 111, 110, 101]⟩, .string ⟨#[120, 95]⟩, .string ⟨#[116, 111, 111, 108, 111, 110, 103, 110, 97, 109, 101]⟩] 9)).alloc (.cells #[.int .i64 0, .int .i64 1, .int .i64 2, .int .i64 3, .int .i64 0, .int .i64 1, .int .i64 4] 2)) w1.heap.size [[97], [98], [108, 111, 110, 103, 95, 111, 110, 101], [120, 95], [116, 111, 111, 108, 111, 110, 103, 110, 97, 109, 101]]) := by
          have h := texts_new w1 [[97], [98], [108, 111, 110, 103, 95, 111, 110, 101], [120, 95], [116, 111, 111, 108, 111, 110, 103, 110, 97, 109, 101]] 9
          have h2 : Texts ((w1.alloc (.cells #[.string ⟨#[97]⟩, .string ⟨#[98]⟩, .string ⟨#[108, 111, 110, 103, 95, 111, 110, 101]⟩, .string ⟨#[120, 95]⟩, .string ⟨#[116, 111, 111, 108, 111, 110, 103, 110, 97, 109, 101]⟩] 9)).alloc (.cells #[.int .i64 0, .int .i64 1, .int .i64 2, .int .i64 3, .int .i64 0, .int .i64 1, .int .i64 4] 2)) w1.heap.size [[97], [98], [108, 111, 110, 103, 95, 111, 110, 101], [120, 95], [116, 111, 111, 108, 111, 110, 103, 110, 97, 109, 101]] := fun k hk => (World.cell?_alloc_lt _ _ _ (by simp)).trans (h k hk)
          exact h2
        have HP2 : Hid (Picks ((w1.alloc (.cells #[.string ⟨#[97]⟩, .string ⟨#[98]⟩, .string ⟨#[108, 111, 110, 103, 95, 111, 110, 101]⟩, .string ⟨#[120, 95]⟩, .string ⟨#[116, 111, 111, 108, 111, 110, 103, 110, 97, 109, 101]⟩] 9)).alloc (.cells #[.int .i64 0, .int .i64 1, .int .i64 2, .int .i64 3, .int .i64 0, .int .i64 1, .int .i64 4] 2)) (w1.heap.size + 1) [0, 1, 2, 3, 0, 1, 4]) := by
          have h := picks_new (w1.alloc (.cells #[.string ⟨#[97]⟩, .string ⟨#[98]⟩, .string ⟨#[108, 111, 110, 103, 95, 111, 110, 101]⟩, .string ⟨#[120, 95]⟩, .string ⟨#[116, 111, 111, 108, 111, 110, 103, 110, 97, 109, 101]⟩] 9)) [0, 1, 2, 3, 0, 1, 4] 2
          rw [show (w1.alloc (.cells #[.string ⟨#[97]⟩, .string ⟨#[98]⟩, .string ⟨#[108, 111, 110, 103, 95, 111, 110, 101]⟩, .string ⟨#[120, 95]⟩, .string ⟨#[116, 111, 111, 108, 111, 110, 103, 110, 97, 109, 101]⟩] 9)).heap.size = w1.heap.size + 1 from by simp] at h
          exact h
        have HR2 : Hid (Ready ((w1.alloc (.cells #[.string ⟨#[97]⟩, .string ⟨#[98]⟩, .string ⟨#[108, 111, 110, 103, 95, 111, 110, 101]⟩, .string ⟨#[120, 95]⟩, .string ⟨#[116, 111, 111, 108, 111, 110, 103, 110, 97, 109, 101]⟩] 9)).alloc (.cells #[.int .i64 0, .int .i64 1, .int .i64 2, .int .i64 3, .int .i64 0, .int .i64 1, .int .i64 4] 2)) S c K cap (A1 + 1)) := HR1.out.below hb1
        have HO2 : Hid (Only S w ((w1.alloc (.cells #[.string ⟨#[97]⟩, .string ⟨#[98]⟩, .string ⟨#[108, 111, 110, 103, 95, 111, 110, 101]⟩, .string ⟨#[120, 95]⟩, .string ⟨#[116, 111, 111, 108, 111, 110, 103, 110, 97, 109, 101]⟩] 9)).alloc (.cells #[.int .i64 0, .int .i64 1, .int .i64 2, .int .i64 3, .int .i64 0, .int .i64 1, .int .i64 4] 2))) := HO1.out.trans (Only.of_below hb1 (Nat.le_of_lt HR1.out.src.lt))
        have hsz2 : w1.heap.size < ((w1.alloc (.cells #[.string ⟨#[97]⟩, .string ⟨#[98]⟩, .string ⟨#[108, 111, 110, 103, 95, 111, 110, 101]⟩, .string ⟨#[120, 95]⟩, .string ⟨#[116, 111, 111, 108, 111, 110, 103, 110, 97, 109, 101]⟩] 9)).alloc (.cells #[.int .i64 0, .int .i64 1, .int .i64 2, .int .i64 3, .int .i64 0, .int .i64 1, .int .i64 4] 2)).heap.size := by simp; omega
        clear hb1 HR1 HO1
        go_wp2_with fail
        refine (draw_pick S K cap (A1 + 1) c (w1.heap.size + 1) [0, 1, 2, 3, 0, 1, 4] 7 7 _ hK (by omega) rfl (by omega) (by omega) HP2.out (by omega) HR2.out).mono ?_
        rintro e w3 ⟨x, rfl, hx, hr, ho⟩
        have hx2 : 0 ≤ x ∧ x < 5 := by simp at hx; omega
        obtain ⟨hx0, hx1⟩ := hx2
        obtain ⟨X, rfl⟩ := Int.eq_ofNat_of_zero_le hx0
        have hX : X < 5 := by omega
        have hcell := texts_only HT2.out ho hSne hsz2 X hX
        have hy : (([[97], [98], [108, 111, 110, 103, 95, 111, 110, 101], [120, 95], [116, 111, 111, 108, 111, 110, 103, 110, 97, 109, 101]] : List (List UInt8)).getD X []).length ≤ 12 := by
          have h : ∀ k, k < 5 → (([[97], [98], [108, 111, 110, 103, 95, 111, 110, 101], [120, 95], [116, 111, 111, 108, 111, 110, 103, 110, 97, 109, 101]] : List (List UInt8)).getD k []).length ≤ 12 := by decide
          exact h X hX
        have HR5 : Hid (Ready w3 S c K cap (A1 + 2)) := hr
        have HO5 : Hid (Only S w w3) := HO2.out.trans ho
        clear hr ho hx HT2 HP2 HR2 HO2 hsz2 hx0
        generalize ([[97], [98], [108, 111, 110, 103, 95, 111, 110, 101], [120, 95], [116, 111, 111, 108, 111, 110, 103, 110, 97, 109, 101]] : List (List UInt8)).getD X [] = y at hcell hy
        go_wp2_with fail
        refine (chance_any S K cap (A1 + 2) c 4 w3 hK (by omega) (by omega) (by omega) HR5.out).mono ?_
        rintro e w6 ⟨b, rfl, hr, ho⟩
        have HR6 : Hid (Ready w6 S c K cap (A1 + 3)) := hr
        have HO6 : Hid (Only S w w6) := HO5.out.trans ho
        clear hr ho HR5 HO5 hcell
        cases b
        all_goals
          go_wp2
          go_roundw
          case rel =>
            first
            | exact ⟨s ++ y ++ [32], r - 1, A1 + 3, by rw [show (ByteArray.mk #[32]) = bs [32] from rfl, bs_append], by congr 1; omega, by omega, by simp; omega, by omega, HR6, HO6⟩
            | exact ⟨s ++ y, r - 1, A1 + 3, rfl, by congr 1; omega, by omega, by simp; omega, by omega, HR6, HO6⟩
          case measure => simp [intOf]; omega
      · have hb1 : Below w1.heap.size w1 ((w1.alloc (.cells #[.string ⟨#[97]⟩, .string ⟨#[98]⟩, .string ⟨#[108, 111, 110, 103, 95, 111, 110, 101]⟩, .string ⟨#[120, 95]⟩, .string ⟨#[116, 111, 111, 108, 111, 110, 103, 110, 97, 109, 101]⟩] 9)).alloc (.cells #[.int .i64 0, .int .i64 1, .int .i64 2, .int .i64 3, .int .i64 0, .int .i64 1, .int .i64 4] 2)) := ((Below.refl _ _).alloc (Nat.le_refl _) _).alloc (by simp) _
        have HT2 : Hid (Texts ((w1.alloc (.cells #[.string ⟨#[97]⟩, .string ⟨#[98]⟩, .string ⟨#[108, 111, 110, 103, 95, 111, 110, 101]⟩, .string ⟨#[120, 95]⟩, .string ⟨#[116, 111, 111, 108, 111, 110, 103, 110, 97, 109, 101]⟩] 9)).alloc (.cells #[.int .i64 0, .int .i64 1, .int .i64 2, .int .i64 3, .int .i64 0, .int .i64 1, .int .i64 4] 2)) w1.heap.size [[97], [98], [108, 111, 110, 103, 95, 111, 110, 101], [120, 95], [116, 111, 111, 108, 111, 110, 103, 110, 97, 109, 101]]) := by
          have h := texts_new w1 [[97], [98], [108, 111, 110, 103, 95, 111, 110, 101], [120, 95], [116, 111, 111, 108, 111, 110, 103, 110, 97, 109, 101]] 9
          have h2 : Texts ((w1.alloc (.cells #[.string ⟨#[97]⟩, .string ⟨#[98]⟩, .string ⟨#[108, 111, 110, 103, 95, 111, 110, 101]⟩, .string ⟨#[120, 95]⟩, .string ⟨#[116, 111, 111, 108, 111, 110, 103, 110, 97, 109, 101]⟩] 9)).alloc (.cells #[.int .i64 0, .int .i64 1, .int .i64 2, .int .i64 3, .int .i64 0, .int .i64 1, .int .i64 4] 2)) w1.heap.size [[97], [98], [108, 111, 110, 103, 95, 111, 110, 101], [120, 95], [116, 111, 111, 108, 111, 110, 103, 110, 97, 109, 101]] := fun k hk => (World.cell?_alloc_lt _ _ _ (by simp)).trans (h k hk)
          exact h2
        have HP2 : Hid (Picks ((w1.alloc (.cells #[.string ⟨#[97]⟩, .string ⟨#[98]⟩, .string ⟨#[108, 111, 110, 103, 95, 111, 110, 101]⟩, .string ⟨#[120, 95]⟩, .string ⟨#[116, 111, 111, 108, 111, 110, 103, 110, 97, 109, 101]⟩] 9)).alloc (.cells #[.int .i64 0, .int .i64 1, .int .i64 2, .int .i64 3, .int .i64 0, .int .i64 1, .int .i64 4] 2)) (w1.heap.size + 1) [0, 1, 2, 3, 0, 1, 4]) := by
          have h := picks_new (w1.alloc (.cells #[.string ⟨#[97]⟩, .string ⟨#[98]⟩, .string ⟨#[108, 111, 110, 103, 95, 111, 110, 101]⟩, .string ⟨#[120, 95]⟩, .string ⟨#[116, 111, 111, 108, 111, 110, 103, 110, 97, 109, 101]⟩] 9)) [0, 1, 2, 3, 0, 1, 4] 2
          rw [show (w1.alloc (.cells #[.string ⟨#[97]⟩, .string ⟨#[98]⟩, .string ⟨#[108, 111, 110, 103, 95, 111, 110, 101]⟩, .string ⟨#[120, 95]⟩, .string ⟨#[116, 111, 111, 108, 111, 110, 103, 110, 97, 109, 101]⟩] 9)).heap.size = w1.heap.size + 1 from by simp] at h
          exact h
        have HR2 : Hid (Ready ((w1.alloc (.cells #[.string ⟨#[97]⟩, .string ⟨#[98]⟩, .string ⟨#[108, 111, 110, 103, 95, 111, 110, 101]⟩, .string ⟨#[120, 95]⟩, .string ⟨#[116, 111, 111, 108, 111, 110, 103, 110, 97, 109, 101]⟩] 9)).alloc (.cells #[.int .i64 0, .int .i64 1, .int .i64 2, .int .i64 3, .int .i64 0, .int .i64 1, .int .i64 4] 2)) S c K cap (A1 + 1)) := HR1.out.below hb1
        have HO2 : Hid (Only S w ((w1.alloc (.cells #[.string ⟨#[97]⟩, .string ⟨#[98]⟩, .string ⟨#[108, 111, 110, 103, 95, 111, 110, 101]⟩, .string ⟨#[120, 95]⟩, .string ⟨#[116, 111, 111, 108, 111, 110, 103, 110, 97, 109, 101]⟩] 9)).alloc (.cells #[.int .i64 0, .int .i64 1, .int .i64 2, .int .i64 3, .int .i64 0, .int .i64 1, .int .i64 4] 2))) := HO1.out.trans (Only.of_below hb1 (Nat.le_of_lt HR1.out.src.lt))
        have hsz2 : w1.heap.size < ((w1.alloc (.cells #[.string ⟨#[97]⟩, .string ⟨#[98]⟩, .string ⟨#[108, 111, 110, 103, 95, 111, 110, 101]⟩, .string ⟨#[120, 95]⟩, .string ⟨#[116, 111, 111, 108, 111, 110, 103, 110, 97, 109, 101]⟩] 9)).alloc (.cells #[.int .i64 0, .int .i64 1, .int .i64 2, .int .i64 3, .int .i64 0, .int .i64 1, .int .i64 4] 2)).heap.size := by simp; omega
        clear hb1 HR1 HO1
        go_wp2_with fail
        refine (draw_pick S K cap (A1 + 1) c (w1.heap.size + 1) [0, 1, 2, 3, 0, 1, 4] 7 7 _ hK (by omega) rfl (by omega) (by omega) HP2.out (by omega) HR2.out).mono ?_
        rintro e w3 ⟨x, rfl, hx, hr, ho⟩
        have hx2 : 0 ≤ x ∧ x < 5 := by simp at hx; omega
        obtain ⟨hx0, hx1⟩ := hx2
        obtain ⟨X, rfl⟩ := Int.eq_ofNat_of_zero_le hx0
        have hX : X < 5 := by omega
        have hcell := texts_only HT2.out ho hSne hsz2 X hX
        have hy : (([[97], [98], [108, 111, 110, 103, 95, 111, 110, 101], [120, 95], [116, 111, 111, 108, 111, 110, 103, 110, 97, 109, 101]] : List (List UInt8)).getD X []).length ≤ 12 := by
          have h : ∀ k, k < 5 → (([[97], [98], [108, 111, 110, 103, 95, 111, 110, 101], [120, 95], [116, 111, 111, 108, 111, 110, 103, 110, 97, 109, 101]] : List (List UInt8)).getD k []).length ≤ 12 := by decide
          exact h X hX
        have HR5 : Hid (Ready w3 S c K cap (A1 + 2)) := hr
        have HO5 : Hid (Only S w w3) := HO2.out.trans ho
        clear hr ho hx HT2 HP2 HR2 HO2 hsz2 hx0
        generalize ([[97], [98], [108, 111, 110, 103, 95, 111, 110, 101], [120, 95], [116, 111, 111, 108, 111, 110, 103, 110, 97, 109, 101]] : List (List UInt8)).getD X [] = y at hcell hy
        go_wp2_with fail
        refine (chance_any S K cap (A1 + 2) c 4 w3 hK (by omega) (by omega) (by omega) HR5.out).mono ?_
        rintro e w6 ⟨b, rfl, hr, ho⟩
        have HR6 : Hid (Ready w6 S c K cap (A1 + 3)) := hr
        have HO6 : Hid (Only S w w6) := HO5.out.trans ho
        clear hr ho HR5 HO5 hcell
        cases b
        all_goals
          go_wp2
          go_roundw
          case rel =>
            first
            | exact ⟨s ++ y ++ [32], r - 1, A1 + 3, by rw [show (ByteArray.mk #[32]) = bs [32] from rfl, bs_append], by congr 1; omega, by omega, by simp; omega, by omega, HR6, HO6⟩
            | exact ⟨s ++ y, r - 1, A1 + 3, rfl, by congr 1; omega, by omega, by simp; omega, by omega, HR6, HO6⟩
          case measure => simp [intOf]; omega
      · have hb1 : Below w1.heap.size w1 (w1.alloc (.cells (wordsL.map (fun l => Value.string (bs l))).toArray 9)) := (Below.refl _ _).alloc (Nat.le_refl _) _
        have HT2 : Hid (Texts (w1.alloc (.cells (wordsL.map (fun l => Value.string (bs l))).toArray 9)) w1.heap.size wordsL) := texts_new w1 wordsL 9
        have HR2 : Hid (Ready (w1.alloc (.cells (wordsL.map (fun l => Value.string (bs l))).toArray 9)) S c K cap (A1 + 1)) := HR1.out.below hb1
        have HO2 : Hid (Only S w (w1.alloc (.cells (wordsL.map (fun l => Value.string (bs l))).toArray 9))) := HO1.out.trans (Only.of_below hb1 (Nat.le_of_lt HR1.out.src.lt))
        have hsz2 : w1.heap.size < (w1.alloc (.cells (wordsL.map (fun l => Value.string (bs l))).toArray 9)).heap.size := by simp
        clear hb1 HR1 HO1
        go_wp2_with fail
        refine (words_any _).mono ?_
        rintro e w2 ⟨rfl, rfl⟩
        generalize hW2 : (w1.alloc (.cells (wordsL.map (fun l => Value.string (bs l))).toArray 9)) = W2 at *
        clear hW2
        go_wp2_with fail
        refine (draw_next S K cap (A1 + 1) c 23 W2 hK (by omega) (by omega) (by omega) HR2.out).mono ?_
        rintro e w3 ⟨x, rfl, hx0, hx1, hr, ho⟩
        have hx2 : x < 23 := by omega
        obtain ⟨X, rfl⟩ := Int.eq_ofNat_of_zero_le hx0
        have hX : X < 23 := by omega
        have hcell := texts_only HT2.out ho hSne hsz2 X hX
        have hy : (wordsL.getD X []).length ≤ 12 := by
          have h : ∀ k, k < 23 → (wordsL.getD k []).length ≤ 12 := by decide
          exact h X hX
        have HR5 : Hid (Ready w3 S c K cap (A1 + 2)) := hr
        have HO5 : Hid (Only S w w3) := HO2.out.trans ho
        clear hr ho HT2 HR2 HO2 hsz2 hx0 hx1
        generalize wordsL.getD X [] = y at hcell hy
        go_wp2_with fail
        refine (chance_any S K cap (A1 + 2) c 4 w3 hK (by omega) (by omega) (by omega) HR5.out).mono ?_
        rintro e w6 ⟨b, rfl, hr, ho⟩
        have HR6 : Hid (Ready w6 S c K cap (A1 + 3)) := hr
        have HO6 : Hid (Only S w w6) := HO5.out.trans ho
        clear hr ho HR5 HO5 hcell
        cases b
        all_goals
          go_wp2
          go_roundw
          case rel =>
            first
            | exact ⟨s ++ y ++ [32], r - 1, A1 + 3, by rw [show (ByteArray.mk #[32]) = bs [32] from rfl, bs_append], by congr 1; omega, by omega, by simp; omega, by omega, HR6, HO6⟩
            | exact ⟨s ++ y, r - 1, A1 + 3, rfl, by congr 1; omega, by omega, by simp; omega, by omega, HR6, HO6⟩
          case measure => simp [intOf]; omega
      · have hb1 : Below w1.heap.size w1 ((w1.alloc (.cells #[.string ⟨#[48]⟩, .string ⟨#[55]⟩, .string ⟨#[54, 53, 53, 51, 53]⟩, .string ⟨#[54, 53, 53, 51, 54]⟩, .string ⟨#[48, 48, 55]⟩, .string ⟨#[49, 54, 35, 70, 70]⟩, .string ⟨#[49, 54, 35]⟩, .string ⟨#[49, 65]⟩] 9)).alloc (.cells #[.int .i64 0, .int .i64 1, .int .i64 2, .int .i64 5, .int .i64 0, .int .i64 1, .int .i64 3, .int .i64 4, .int .i64 6, .int .i64 7] 2)) := ((Below.refl _ _).alloc (Nat.le_refl _) _).alloc (by simp) _
        have HT2 : Hid (Texts ((w1.alloc (.cells #[.string ⟨#[48]⟩, .string ⟨#[55]⟩, .string ⟨#[54, 53, 53, 51, 53]⟩, .string ⟨#[54, 53, 53, 51, 54]⟩, .string ⟨#[48, 48, 55]⟩, .string ⟨#[49, 54, 35, 70, 70]⟩, .string ⟨#[49, 54, 35]⟩, .string ⟨#[49, 65]⟩] 9)).alloc (.cells #[.int .i64 0, .int .i64 1, .int .i64 2, .int .i64 5, .int .i64 0, .int .i64 1, .int .i64 3, .int .i64 4, .int .i64 6, .int .i64 7] 2)) w1.heap.size [[48], [55], [54, 53, 53, 51, 53], [54, 53, 53, 51, 54], [48, 48, 55], [49, 54, 35, 70, 70], [49, 54, 35], [49, 65]]) := by
          have h := texts_new w1 [[48], [55], [54, 53, 53, 51, 53], [54, 53, 53, 51, 54], [48, 48, 55], [49, 54, 35, 70, 70], [49, 54, 35], [49, 65]] 9
          have h2 : Texts ((w1.alloc (.cells #[.string ⟨#[48]⟩, .string ⟨#[55]⟩, .string ⟨#[54, 53, 53, 51, 53]⟩, .string ⟨#[54, 53, 53, 51, 54]⟩, .string ⟨#[48, 48, 55]⟩, .string ⟨#[49, 54, 35, 70, 70]⟩, .string ⟨#[49, 54, 35]⟩, .string ⟨#[49, 65]⟩] 9)).alloc (.cells #[.int .i64 0, .int .i64 1, .int .i64 2, .int .i64 5, .int .i64 0, .int .i64 1, .int .i64 3, .int .i64 4, .int .i64 6, .int .i64 7] 2)) w1.heap.size [[48], [55], [54, 53, 53, 51, 53], [54, 53, 53, 51, 54], [48, 48, 55], [49, 54, 35, 70, 70], [49, 54, 35], [49, 65]] := fun k hk => (World.cell?_alloc_lt _ _ _ (by simp)).trans (h k hk)
          exact h2
        have HP2 : Hid (Picks ((w1.alloc (.cells #[.string ⟨#[48]⟩, .string ⟨#[55]⟩, .string ⟨#[54, 53, 53, 51, 53]⟩, .string ⟨#[54, 53, 53, 51, 54]⟩, .string ⟨#[48, 48, 55]⟩, .string ⟨#[49, 54, 35, 70, 70]⟩, .string ⟨#[49, 54, 35]⟩, .string ⟨#[49, 65]⟩] 9)).alloc (.cells #[.int .i64 0, .int .i64 1, .int .i64 2, .int .i64 5, .int .i64 0, .int .i64 1, .int .i64 3, .int .i64 4, .int .i64 6, .int .i64 7] 2)) (w1.heap.size + 1) [0, 1, 2, 5, 0, 1, 3, 4, 6, 7]) := by
          have h := picks_new (w1.alloc (.cells #[.string ⟨#[48]⟩, .string ⟨#[55]⟩, .string ⟨#[54, 53, 53, 51, 53]⟩, .string ⟨#[54, 53, 53, 51, 54]⟩, .string ⟨#[48, 48, 55]⟩, .string ⟨#[49, 54, 35, 70, 70]⟩, .string ⟨#[49, 54, 35]⟩, .string ⟨#[49, 65]⟩] 9)) [0, 1, 2, 5, 0, 1, 3, 4, 6, 7] 2
          rw [show (w1.alloc (.cells #[.string ⟨#[48]⟩, .string ⟨#[55]⟩, .string ⟨#[54, 53, 53, 51, 53]⟩, .string ⟨#[54, 53, 53, 51, 54]⟩, .string ⟨#[48, 48, 55]⟩, .string ⟨#[49, 54, 35, 70, 70]⟩, .string ⟨#[49, 54, 35]⟩, .string ⟨#[49, 65]⟩] 9)).heap.size = w1.heap.size + 1 from by simp] at h
          exact h
        have HR2 : Hid (Ready ((w1.alloc (.cells #[.string ⟨#[48]⟩, .string ⟨#[55]⟩, .string ⟨#[54, 53, 53, 51, 53]⟩, .string ⟨#[54, 53, 53, 51, 54]⟩, .string ⟨#[48, 48, 55]⟩, .string ⟨#[49, 54, 35, 70, 70]⟩, .string ⟨#[49, 54, 35]⟩, .string ⟨#[49, 65]⟩] 9)).alloc (.cells #[.int .i64 0, .int .i64 1, .int .i64 2, .int .i64 5, .int .i64 0, .int .i64 1, .int .i64 3, .int .i64 4, .int .i64 6, .int .i64 7] 2)) S c K cap (A1 + 1)) := HR1.out.below hb1
        have HO2 : Hid (Only S w ((w1.alloc (.cells #[.string ⟨#[48]⟩, .string ⟨#[55]⟩, .string ⟨#[54, 53, 53, 51, 53]⟩, .string ⟨#[54, 53, 53, 51, 54]⟩, .string ⟨#[48, 48, 55]⟩, .string ⟨#[49, 54, 35, 70, 70]⟩, .string ⟨#[49, 54, 35]⟩, .string ⟨#[49, 65]⟩] 9)).alloc (.cells #[.int .i64 0, .int .i64 1, .int .i64 2, .int .i64 5, .int .i64 0, .int .i64 1, .int .i64 3, .int .i64 4, .int .i64 6, .int .i64 7] 2))) := HO1.out.trans (Only.of_below hb1 (Nat.le_of_lt HR1.out.src.lt))
        have hsz2 : w1.heap.size < ((w1.alloc (.cells #[.string ⟨#[48]⟩, .string ⟨#[55]⟩, .string ⟨#[54, 53, 53, 51, 53]⟩, .string ⟨#[54, 53, 53, 51, 54]⟩, .string ⟨#[48, 48, 55]⟩, .string ⟨#[49, 54, 35, 70, 70]⟩, .string ⟨#[49, 54, 35]⟩, .string ⟨#[49, 65]⟩] 9)).alloc (.cells #[.int .i64 0, .int .i64 1, .int .i64 2, .int .i64 5, .int .i64 0, .int .i64 1, .int .i64 3, .int .i64 4, .int .i64 6, .int .i64 7] 2)).heap.size := by simp; omega
        clear hb1 HR1 HO1
        go_wp2_with fail
        refine (draw_pick S K cap (A1 + 1) c (w1.heap.size + 1) [0, 1, 2, 5, 0, 1, 3, 4, 6, 7] 10 10 _ hK (by omega) rfl (by omega) (by omega) HP2.out (by omega) HR2.out).mono ?_
        rintro e w3 ⟨x, rfl, hx, hr, ho⟩
        have hx2 : 0 ≤ x ∧ x < 8 := by simp at hx; omega
        obtain ⟨hx0, hx1⟩ := hx2
        obtain ⟨X, rfl⟩ := Int.eq_ofNat_of_zero_le hx0
        have hX : X < 8 := by omega
        have hcell := texts_only HT2.out ho hSne hsz2 X hX
        have hy : (([[48], [55], [54, 53, 53, 51, 53], [54, 53, 53, 51, 54], [48, 48, 55], [49, 54, 35, 70, 70], [49, 54, 35], [49, 65]] : List (List UInt8)).getD X []).length ≤ 12 := by
          have h : ∀ k, k < 8 → (([[48], [55], [54, 53, 53, 51, 53], [54, 53, 53, 51, 54], [48, 48, 55], [49, 54, 35, 70, 70], [49, 54, 35], [49, 65]] : List (List UInt8)).getD k []).length ≤ 12 := by decide
          exact h X hX
        have HR5 : Hid (Ready w3 S c K cap (A1 + 2)) := hr
        have HO5 : Hid (Only S w w3) := HO2.out.trans ho
        clear hr ho hx HT2 HP2 HR2 HO2 hsz2 hx0
        generalize ([[48], [55], [54, 53, 53, 51, 53], [54, 53, 53, 51, 54], [48, 48, 55], [49, 54, 35, 70, 70], [49, 54, 35], [49, 65]] : List (List UInt8)).getD X [] = y at hcell hy
        go_wp2_with fail
        refine (chance_any S K cap (A1 + 2) c 4 w3 hK (by omega) (by omega) (by omega) HR5.out).mono ?_
        rintro e w6 ⟨b, rfl, hr, ho⟩
        have HR6 : Hid (Ready w6 S c K cap (A1 + 3)) := hr
        have HO6 : Hid (Only S w w6) := HO5.out.trans ho
        clear hr ho HR5 HO5 hcell
        cases b
        all_goals
          go_wp2
          go_roundw
          case rel =>
            first
            | exact ⟨s ++ y ++ [32], r - 1, A1 + 3, by rw [show (ByteArray.mk #[32]) = bs [32] from rfl, bs_append], by congr 1; omega, by omega, by simp; omega, by omega, HR6, HO6⟩
            | exact ⟨s ++ y, r - 1, A1 + 3, rfl, by congr 1; omega, by omega, by simp; omega, by omega, HR6, HO6⟩
          case measure => simp [intOf]; omega
      · have hb1 : Below w1.heap.size w1 (w1.alloc (.cells (marksL.map (fun l => Value.string (bs l))).toArray 9)) := (Below.refl _ _).alloc (Nat.le_refl _) _
        have HT2 : Hid (Texts (w1.alloc (.cells (marksL.map (fun l => Value.string (bs l))).toArray 9)) w1.heap.size marksL) := texts_new w1 marksL 9
        have HR2 : Hid (Ready (w1.alloc (.cells (marksL.map (fun l => Value.string (bs l))).toArray 9)) S c K cap (A1 + 1)) := HR1.out.below hb1
        have HO2 : Hid (Only S w (w1.alloc (.cells (marksL.map (fun l => Value.string (bs l))).toArray 9))) := HO1.out.trans (Only.of_below hb1 (Nat.le_of_lt HR1.out.src.lt))
        have hsz2 : w1.heap.size < (w1.alloc (.cells (marksL.map (fun l => Value.string (bs l))).toArray 9)).heap.size := by simp
        clear hb1 HR1 HO1
        go_wp2_with fail
        refine (marks_any _).mono ?_
        rintro e w2 ⟨rfl, rfl⟩
        generalize hW2 : (w1.alloc (.cells (marksL.map (fun l => Value.string (bs l))).toArray 9)) = W2 at *
        clear hW2
        go_wp2_with fail
        refine (draw_next S K cap (A1 + 1) c 18 W2 hK (by omega) (by omega) (by omega) HR2.out).mono ?_
        rintro e w3 ⟨x, rfl, hx0, hx1, hr, ho⟩
        have hx2 : x < 18 := by omega
        obtain ⟨X, rfl⟩ := Int.eq_ofNat_of_zero_le hx0
        have hX : X < 18 := by omega
        have hcell := texts_only HT2.out ho hSne hsz2 X hX
        have hy : (marksL.getD X []).length ≤ 12 := by
          have h : ∀ k, k < 18 → (marksL.getD k []).length ≤ 12 := by decide
          exact h X hX
        have HR5 : Hid (Ready w3 S c K cap (A1 + 2)) := hr
        have HO5 : Hid (Only S w w3) := HO2.out.trans ho
        clear hr ho HT2 HR2 HO2 hsz2 hx0 hx1
        generalize marksL.getD X [] = y at hcell hy
        go_wp2_with fail
        refine (chance_any S K cap (A1 + 2) c 4 w3 hK (by omega) (by omega) (by omega) HR5.out).mono ?_
        rintro e w6 ⟨b, rfl, hr, ho⟩
        have HR6 : Hid (Ready w6 S c K cap (A1 + 3)) := hr
        have HO6 : Hid (Only S w w6) := HO5.out.trans ho
        clear hr ho HR5 HO5 hcell
        cases b
        all_goals
          go_wp2
          go_roundw
          case rel =>
            first
            | exact ⟨s ++ y ++ [32], r - 1, A1 + 3, by rw [show (ByteArray.mk #[32]) = bs [32] from rfl, bs_append], by congr 1; omega, by omega, by simp; omega, by omega, HR6, HO6⟩
            | exact ⟨s ++ y, r - 1, A1 + 3, rfl, by congr 1; omega, by omega, by simp; omega, by omega, HR6, HO6⟩
          case measure => simp [intOf]; omega
      · have hb1 : Below w1.heap.size w1 (w1.alloc (.cells (marksL.map (fun l => Value.string (bs l))).toArray 9)) := (Below.refl _ _).alloc (Nat.le_refl _) _
        have HT2 : Hid (Texts (w1.alloc (.cells (marksL.map (fun l => Value.string (bs l))).toArray 9)) w1.heap.size marksL) := texts_new w1 marksL 9
        have HR2 : Hid (Ready (w1.alloc (.cells (marksL.map (fun l => Value.string (bs l))).toArray 9)) S c K cap (A1 + 1)) := HR1.out.below hb1
        have HO2 : Hid (Only S w (w1.alloc (.cells (marksL.map (fun l => Value.string (bs l))).toArray 9))) := HO1.out.trans (Only.of_below hb1 (Nat.le_of_lt HR1.out.src.lt))
        have hsz2 : w1.heap.size < (w1.alloc (.cells (marksL.map (fun l => Value.string (bs l))).toArray 9)).heap.size := by simp
        clear hb1 HR1 HO1
        go_wp2_with fail
        refine (marks_any _).mono ?_
        rintro e w2 ⟨rfl, rfl⟩
        generalize hW2 : (w1.alloc (.cells (marksL.map (fun l => Value.string (bs l))).toArray 9)) = W2 at *
        clear hW2
        go_wp2_with fail
        refine (draw_next S K cap (A1 + 1) c 18 W2 hK (by omega) (by omega) (by omega) HR2.out).mono ?_
        rintro e w3 ⟨x, rfl, hx0, hx1, hr, ho⟩
        have hx2 : x < 18 := by omega
        obtain ⟨X, rfl⟩ := Int.eq_ofNat_of_zero_le hx0
        have hX : X < 18 := by omega
        have hcell := texts_only HT2.out ho hSne hsz2 X hX
        have hy : (marksL.getD X []).length ≤ 12 := by
          have h : ∀ k, k < 18 → (marksL.getD k []).length ≤ 12 := by decide
          exact h X hX
        have HR5 : Hid (Ready w3 S c K cap (A1 + 2)) := hr
        have HO5 : Hid (Only S w w3) := HO2.out.trans ho
        clear hr ho HT2 HR2 HO2 hsz2 hx0 hx1
        generalize marksL.getD X [] = y at hcell hy
        go_wp2_with fail
        refine (chance_any S K cap (A1 + 2) c 4 w3 hK (by omega) (by omega) (by omega) HR5.out).mono ?_
        rintro e w6 ⟨b, rfl, hr, ho⟩
        have HR6 : Hid (Ready w6 S c K cap (A1 + 3)) := hr
        have HO6 : Hid (Only S w w6) := HO5.out.trans ho
        clear hr ho HR5 HO5 hcell
        cases b
        all_goals
          go_wp2
          go_roundw
          case rel =>
            first
            | exact ⟨s ++ y ++ [32], r - 1, A1 + 3, by rw [show (ByteArray.mk #[32]) = bs [32] from rfl, bs_append], by congr 1; omega, by omega, by simp; omega, by omega, HR6, HO6⟩
            | exact ⟨s ++ y, r - 1, A1 + 3, rfl, by congr 1; omega, by omega, by simp; omega, by omega, HR6, HO6⟩
          case measure => simp [intOf]; omega
      · have hb1 : Below w1.heap.size w1 ((w1.alloc (.cells #[.string ⟨#[10]⟩, .string ⟨#[32, 32]⟩, .string ⟨#[63]⟩, .string ⟨#[65]⟩] 9)).alloc (.cells #[.int .i64 0, .int .i64 1, .int .i64 0, .int .i64 1, .int .i64 2, .int .i64 3] 2)) := ((Below.refl _ _).alloc (Nat.le_refl _) _).alloc (by simp) _
        have HT2 : Hid (Texts ((w1.alloc (.cells #[.string ⟨#[10]⟩, .string ⟨#[32, 32]⟩, .string ⟨#[63]⟩, .string ⟨#[65]⟩] 9)).alloc (.cells #[.int .i64 0, .int .i64 1, .int .i64 0, .int .i64 1, .int .i64 2, .int .i64 3] 2)) w1.heap.size [[10], [32, 32], [63], [65]]) := by
          have h := texts_new w1 [[10], [32, 32], [63], [65]] 9
          have h2 : Texts ((w1.alloc (.cells #[.string ⟨#[10]⟩, .string ⟨#[32, 32]⟩, .string ⟨#[63]⟩, .string ⟨#[65]⟩] 9)).alloc (.cells #[.int .i64 0, .int .i64 1, .int .i64 0, .int .i64 1, .int .i64 2, .int .i64 3] 2)) w1.heap.size [[10], [32, 32], [63], [65]] := fun k hk => (World.cell?_alloc_lt _ _ _ (by simp)).trans (h k hk)
          exact h2
        have HP2 : Hid (Picks ((w1.alloc (.cells #[.string ⟨#[10]⟩, .string ⟨#[32, 32]⟩, .string ⟨#[63]⟩, .string ⟨#[65]⟩] 9)).alloc (.cells #[.int .i64 0, .int .i64 1, .int .i64 0, .int .i64 1, .int .i64 2, .int .i64 3] 2)) (w1.heap.size + 1) [0, 1, 0, 1, 2, 3]) := by
          have h := picks_new (w1.alloc (.cells #[.string ⟨#[10]⟩, .string ⟨#[32, 32]⟩, .string ⟨#[63]⟩, .string ⟨#[65]⟩] 9)) [0, 1, 0, 1, 2, 3] 2
          rw [show (w1.alloc (.cells #[.string ⟨#[10]⟩, .string ⟨#[32, 32]⟩, .string ⟨#[63]⟩, .string ⟨#[65]⟩] 9)).heap.size = w1.heap.size + 1 from by simp] at h
          exact h
        have HR2 : Hid (Ready ((w1.alloc (.cells #[.string ⟨#[10]⟩, .string ⟨#[32, 32]⟩, .string ⟨#[63]⟩, .string ⟨#[65]⟩] 9)).alloc (.cells #[.int .i64 0, .int .i64 1, .int .i64 0, .int .i64 1, .int .i64 2, .int .i64 3] 2)) S c K cap (A1 + 1)) := HR1.out.below hb1
        have HO2 : Hid (Only S w ((w1.alloc (.cells #[.string ⟨#[10]⟩, .string ⟨#[32, 32]⟩, .string ⟨#[63]⟩, .string ⟨#[65]⟩] 9)).alloc (.cells #[.int .i64 0, .int .i64 1, .int .i64 0, .int .i64 1, .int .i64 2, .int .i64 3] 2))) := HO1.out.trans (Only.of_below hb1 (Nat.le_of_lt HR1.out.src.lt))
        have hsz2 : w1.heap.size < ((w1.alloc (.cells #[.string ⟨#[10]⟩, .string ⟨#[32, 32]⟩, .string ⟨#[63]⟩, .string ⟨#[65]⟩] 9)).alloc (.cells #[.int .i64 0, .int .i64 1, .int .i64 0, .int .i64 1, .int .i64 2, .int .i64 3] 2)).heap.size := by simp; omega
        clear hb1 HR1 HO1
        go_wp2_with fail
        refine (draw_pick S K cap (A1 + 1) c (w1.heap.size + 1) [0, 1, 0, 1, 2, 3] 6 6 _ hK (by omega) rfl (by omega) (by omega) HP2.out (by omega) HR2.out).mono ?_
        rintro e w3 ⟨x, rfl, hx, hr, ho⟩
        have hx2 : 0 ≤ x ∧ x < 4 := by simp at hx; omega
        obtain ⟨hx0, hx1⟩ := hx2
        obtain ⟨X, rfl⟩ := Int.eq_ofNat_of_zero_le hx0
        have hX : X < 4 := by omega
        have hcell := texts_only HT2.out ho hSne hsz2 X hX
        have hy : (([[10], [32, 32], [63], [65]] : List (List UInt8)).getD X []).length ≤ 12 := by
          have h : ∀ k, k < 4 → (([[10], [32, 32], [63], [65]] : List (List UInt8)).getD k []).length ≤ 12 := by decide
          exact h X hX
        have HR5 : Hid (Ready w3 S c K cap (A1 + 2)) := hr
        have HO5 : Hid (Only S w w3) := HO2.out.trans ho
        clear hr ho hx HT2 HP2 HR2 HO2 hsz2 hx0
        generalize ([[10], [32, 32], [63], [65]] : List (List UInt8)).getD X [] = y at hcell hy
        go_wp2_with fail
        refine (chance_any S K cap (A1 + 2) c 4 w3 hK (by omega) (by omega) (by omega) HR5.out).mono ?_
        rintro e w6 ⟨b, rfl, hr, ho⟩
        have HR6 : Hid (Ready w6 S c K cap (A1 + 3)) := hr
        have HO6 : Hid (Only S w w6) := HO5.out.trans ho
        clear hr ho HR5 HO5 hcell
        cases b
        all_goals
          go_wp2
          go_roundw
          case rel =>
            first
            | exact ⟨s ++ y ++ [32], r - 1, A1 + 3, by rw [show (ByteArray.mk #[32]) = bs [32] from rfl, bs_append], by congr 1; omega, by omega, by simp; omega, by omega, HR6, HO6⟩
            | exact ⟨s ++ y, r - 1, A1 + 3, rfl, by congr 1; omega, by omega, by simp; omega, by omega, HR6, HO6⟩
          case measure => simp [intOf]; omega
    · have hr0 : ¬ (0 : Int) < (r : Int) := by omega
      go_wp2
      go_ret
      exact ⟨s, A1, rfl, by omega, by omega, HR.out, HO.out⟩

/-- how long a text is -/
def strLen (v : Value) : Nat := match v with | .string x => x.size | _ => 0
theorem strLen_bs (l : List UInt8) : strLen (.string (bs l)) = l.length := rfl
set_option maxHeartbeats 3200000 in
theorem drawLex_any (a : Option Addr) (K cap : Nat) (w : World) (hK : K ≤ 1048576) (hb : Bytes w a K) (ha : K ≠ 0 → ∀ b o s, a = some ⟨b, o, s⟩ → b < w.heap.size) :
    Calls Tryd.prog 8 #[.slice a K cap] w fun e w' => (∃ s : List UInt8, e = .returned (.string (bs s)) ∧ s.length ≤ 3000) ∧ Below w.heap.size w w' := by
  have HR0 : Hid (Ready (w.alloc (.cells #[.slice a K cap, .int .i64 0] 62)) w.heap.size a K cap 0) := ready_new hb ha
  have HB0 : Hid (Below w.heap.size w (w.alloc (.cells #[.slice a K cap, .int .i64 0] 62))) := (Below.refl _ _).alloc (Nat.le_refl _) _
  clear ha hb
  go_enter Tryd.func8, Tryd.ntmps8
  go_wp2_with fail
  refine (source_any a K cap w).mono ?_
  rintro e w0 ⟨rfl, rfl⟩
  go_wp2_with fail
  refine (text_any w.heap.size K cap 0 a _ hK (by omega) HR0.out).mono ?_
  rintro e w1 ⟨s, A1, rfl, hs, hA1, hr, ho⟩
  have HR1 : Hid (Ready w1 w.heap.size a K cap A1) := hr
  have HB1 : Hid (Below w.heap.size w w1) := HB0.out.trans ho.1
  clear hr ho HR0 HB0
  go_wp2_with fail
  refine (chance_any w.heap.size K cap A1 a 40 _ hK (by omega) (by omega) (by omega) HR1.out).mono ?_
  rintro e w2 ⟨b, rfl, hr, ho⟩
  have HR2 : Hid (Ready w2 w.heap.size a K cap (A1 + 1)) := hr
  have HB2 : Hid (Below w.heap.size w w2) := HB1.out.trans ho.1
  clear hr ho HR1 HB1
  cases b
  · go_wp2_with fail
    refine (chance_any w.heap.size K cap (A1 + 1) a 40 _ hK (by omega) (by omega) (by omega) HR2.out).mono ?_
    rintro e w3 ⟨b, rfl, hr, ho⟩
    have HB3 : Hid (Below w.heap.size w w3) := HB2.out.trans ho.1
    clear hr ho HR2 HB2
    cases b
    · go_wp2
      go_ret
      exact ⟨⟨s, rfl, by omega⟩, HB3.out⟩
    · go_wp2_with fail
      go_loop [4] (fun o => ∃ u : List UInt8, o = .string (bs u) ∧ u.length ≤ 1500) (fun o => 2000 - strLen o)
      case atStart => exact ⟨s, rfl, by omega⟩
      case round =>
        obtain ⟨u, rfl, hu⟩ := hrel
        by_cases h12 : u.length ≤ 1200
        · have hb12 : decide ((u.length : Int) ≤ 1200) = true := decide_eq_true (by omega)
          go_wp2_with fail
          refine ⟨⟨u ++ [32, 32], by rw [show (ByteArray.mk #[32, 32]) = bs [32, 32] from rfl, bs_append], by simp; omega⟩, ?_⟩
          rw [show (ByteArray.mk #[32, 32]) = bs [32, 32] from rfl, bs_append, strLen_bs, strLen_bs, List.length_append]
          simp; omega
        · have hb12 : decide ((u.length : Int) ≤ 1200) = false := decide_eq_false (by omega)
          go_wp2_with fail
          go_ret
          exact ⟨⟨u, rfl, by omega⟩, HB3.out⟩
  · go_wp2_with fail
    go_loop [4, 5] (fun o i => ∃ (u : List UInt8) (k : Nat), o = .string (bs u) ∧ i = .int .i64 k ∧ k ≤ 401 ∧ u.length ≤ 160 + 2 * k) (fun _ i => 401 - (intOf i).toNat)
    case atStart => exact ⟨s, 0, rfl, rfl, by omega, by omega⟩
    case round =>
      obtain ⟨u, k, rfl, rfl, hk, hu⟩ := hrel
      by_cases hlt : k < 401
      · have hkb : decide ((k : Int) < 401) = true := decide_eq_true (by omega)
        have HLT : Hid (k < 401) := hlt
        have hk9 : (k : Int) ≤ 1000000000 := by omega
        have hul : u.length ≤ 1000 := by omega
        have HU : Hid (u.length ≤ 160 + 2 * k) := hu
        clear hlt hk hu
        go_wp2_with fail
        have hlt := HLT.out
        have hu2 := HU.out
        refine ⟨⟨u ++ [43, 32], k + 1, by rw [show (ByteArray.mk #[43, 32]) = bs [43, 32] from rfl, bs_append], by go_num, by omega, by simp; omega⟩, by simp [intOf]; omega⟩
      · have hkb : decide ((k : Int) < 401) = false := decide_eq_false (by omega)
        have hul : u.length ≤ 1000 := by omega
        clear hlt hk hu
        go_wp2_with fail
        refine (chance_any w.heap.size K cap (A1 + 1) a 40 _ hK (by omega) (by omega) (by omega) HR2.out).mono ?_
        rintro e w3 ⟨b, rfl, hr, ho⟩
        have HB3 : Hid (Below w.heap.size w w3) := HB2.out.trans ho.1
        clear hr ho HR2 HB2
        cases b
        · go_wp2
          go_ret
          exact ⟨⟨u, rfl, by omega⟩, HB3.out⟩
        · go_wp2_with fail
          go_loop [4] (fun o => ∃ u : List UInt8, o = .string (bs u) ∧ u.length ≤ 1500) (fun o => 2000 - strLen o)
          case atStart => exact ⟨u, rfl, by omega⟩
          case round =>
            obtain ⟨u, rfl, hu⟩ := hrel
            by_cases h12 : u.length ≤ 1200
            · have hb12 : decide ((u.length : Int) ≤ 1200) = true := decide_eq_true (by omega)
              go_wp2_with fail
              refine ⟨⟨u ++ [32, 32], by rw [show (ByteArray.mk #[32, 32]) = bs [32, 32] from rfl, bs_append], by simp; omega⟩, ?_⟩
              rw [show (ByteArray.mk #[32, 32]) = bs [32, 32] from rfl, bs_append, strLen_bs, strLen_bs, List.length_append]
              simp; omega
            · have hb12 : decide ((u.length : Int) ≤ 1200) = false := decide_eq_false (by omega)
              go_wp2_with fail
              go_ret
              exact ⟨⟨u, rfl, by omega⟩, HB3.out⟩
end Go.Proofs.YtbgfabkneifccaaDoor
