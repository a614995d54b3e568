/-
  The Go function laws.FnExactSpellAll answers true at every input and writes nothing that was there; where the variables strconv.ErrSyntax, ErrRange hold a value.
-/
import Derived.Test.YtbgfabkneifccaaDoorISpell
import Derived.Test.YtbgfabkneifccaaDoorToToks
import Derived.Test.YtbgfabkneifccaaDoorEqTok
namespace Go.Proofs.YtbgfabkneifccaaDoor
open Go.RowKit
set_option linter.unusedVariables false
attribute [local go_sem] bs_size bs_get bs_extract bs_append bs_eq bs_toList

theorem Came.below {w w' : World} {a : Option Addr} {len cap : Nat} {T : List (Tok × Int)} (h : Came w a len cap T) (hb : Below w.heap.size w w') : Came w' a len cap T :=
  ⟨h.cnt, h.max, h.le, fun hn => by
    obtain ⟨b, o, ha, hb1, hin⟩ := h.hd hn
    exact ⟨b, o, ha, Nat.lt_of_lt_of_le hb1 hb.size, hin.below hb hb1⟩, h.size⟩

set_option maxHeartbeats 6400000 in
theorem fnExactSpellAll_walk (a0 : Option Addr) (len0 cap0 : Nat) (z0 : List (Int × ByteArray × Int × Int)) (w : World) (w0 : IsToks w a0 len0 cap0 z0) (hE : Errs w) :
    Calls Tryd.prog 6 #[.slice a0 len0 cap0] w fun e w' => e = .returned (.bool true) ∧ Below w.heap.size w w' := by
  obtain ⟨T, hC⟩ := came_of w0
  have hs := szToks_any a0 len0 cap0 T w hC
  have HC : Hid (Came w a0 len0 cap0 T) := hC
  have HE : Hid (Errs w) := hE
  clear w0 hC hE
  go_enter Tryd.func6, Tryd.ntmps6
  go_wp2_with fail
  refine hs.mono ?_
  rintro e w1 ⟨⟨r, rfl, hr⟩, hb⟩
  have hB1 := hb
  by_cases hr0 : 0 ≤ r
  · obtain ⟨hlen, hsz⟩ := hr hr0
    have hn : ¬ r < 0 := by omega
    have hTl : T.length = len0 := HC.out.cnt
    have hsz2 : ∀ x ∈ T, x.1.text.length ≤ 2000000 := fun x hx => by have := hsz x hx; omega
    have HSZ : Hid (∀ x ∈ T, x.1.text.length ≤ 2000000) := hsz2
    have HTL : Hid (T.length = len0) := hTl
    have hC1 := HC.out.below hb
    have HTO : Hid (∀ w', Came w' a0 len0 cap0 T → Calls Tryd.prog 24 #[.slice a0 len0 cap0] w' fun e w'' => e = .returned (.slice (some ⟨w'.heap.size, 0, none⟩) len0 len0) ∧ Toks w'' w'.heap.size T ∧ Below w'.heap.size w' w'') := fun w' h => toToks_any a0 len0 cap0 T w' h hlen
    have HSP : Hid (∀ w' g, Toks w' g T → Calls Tryd.prog 23 #[.slice (some ⟨g, 0, none⟩) len0 len0] w' fun e w'' => e = .returned (txt (spellC (T.map Prod.fst)) (spellS (T.map Prod.fst))) ∧ Below w'.heap.size w' w'') := fun w' g h => by
      have h1 := spellAll_any T g len0 (some ⟨g, 0, none⟩) w' HSZ.out (by have := HTL.out; omega) (fun _ => rfl) (fun _ => h)
      rwa [HTL.out] at h1
    have HIM : Hid (∀ w' g, Errs w' → Toks w' g T → Calls Tryd.prog 11 #[.slice (some ⟨g, 0, none⟩) len0 len0] w' fun e w'' => e = .returned (txt (spellC (T.map Prod.fst)) (spellS (T.map Prod.fst))) ∧ Below w'.heap.size w' w'') := fun w' g he h => by
      have h1 := implSpell_any T g len0 (some ⟨g, 0, none⟩) w' HSZ.out (by have := HTL.out; omega) (fun _ => rfl) (fun _ => h) he
      rwa [HTL.out] at h1
    have HEQ : Hid (∀ w' g h, Toks w' g T → Toks w' h T → Calls Tryd.prog 25 #[.slice (some ⟨g, 0, none⟩) len0 len0, .slice (some ⟨h, 0, none⟩) len0 len0] w' fun e w'' => e = .returned (.bool true) ∧ Below w'.heap.size w' w'') := fun w' g h h1 h2 => by
      have h3 := eqTokenS_any T g h len0 len0 (some ⟨g, 0, none⟩) (some ⟨h, 0, none⟩) w' (by have := HTL.out; omega) (fun _ => rfl) (fun _ => rfl) (fun _ => h1) (fun _ => h2)
      rwa [HTL.out] at h3
    generalize spellC (T.map Prod.fst) = C at HSP HIM
    generalize spellS (T.map Prod.fst) = Z at HSP HIM
    clear hr hsz hsz2 hTl hs hb hlen
    have HB1 : Hid (Below w.heap.size w w1) := hB1
    have HC1 : Hid (Came w1 a0 len0 cap0 T) := hC1
    clear hB1 hC1
    go_wp2_with fail
    refine (HTO.out _ HC1.out).mono ?_
    rintro e w2 ⟨rfl, ht, hb⟩
    have HB2 : Hid (Below w.heap.size w w2) := HB1.out.trans (hb.mono HB1.out.size)
    have HC2 : Hid (Came w2 a0 len0 cap0 T) := HC1.out.below hb
    have HT2 : Hid (Toks w2 w1.heap.size T) := ht
    clear ht hb HB1 HC1
    go_wp2_with fail
    refine (HSP.out _ _ HT2.out).mono ?_
    rintro e w3 ⟨rfl, hb⟩
    have hbn : Below w3.heap.size w3 (w3.alloc (.cells #[.int .i64 C, .string (bs Z)] 30)) := (Below.refl _ _).alloc (Nat.le_refl _) _
    have hB3 := HB2.out.trans (hb.mono HB2.out.size)
    have HB4 : Hid (Below w.heap.size w (w3.alloc (.cells #[.int .i64 C, .string (bs Z)] 30))) := hB3.trans (hbn.mono hB3.size)
    have HC4 : Hid (Came (w3.alloc (.cells #[.int .i64 C, .string (bs Z)] 30)) a0 len0 cap0 T) := (HC2.out.below hb).below hbn
    have HV4 : Hid ((w3.alloc (.cells #[.int .i64 C, .string (bs Z)] 30)).heap[w3.heap.size]? = some (.cells #[.int .i64 C, .string (bs Z)] 30 (0, 0))) := heap_alloc_new _ _
    clear hb hbn hB3 HB2 HC2 HT2
    go_wp2_with fail
    refine (HTO.out _ HC4.out).mono ?_
    rintro e w5 ⟨rfl, ht, hb⟩
    obtain ⟨g5, hg5⟩ : ∃ g, g = (w3.alloc (.cells #[.int .i64 C, .string (bs Z)] 30)).heap.size := ⟨_, rfl⟩
    rw [← hg5] at ht ⊢
    have HB5 : Hid (Below w.heap.size w w5) := HB4.out.trans (hb.mono HB4.out.size)
    have HC5 : Hid (Came w5 a0 len0 cap0 T) := HC4.out.below hb
    have HT5 : Hid (Toks w5 g5 T) := ht
    have HG5 : Hid (g5 < w5.heap.size ∨ T = []) := by
      show _ ∨ _
      cases hT : T with
      | nil => exact .inr rfl
      | cons x r => rw [hT] at ht; exact .inl (World.block_lt_of_cell? _ _ (toks_at ht (k := 0) (x := x) rfl).1)
    have HV5 : Hid (w5.heap[w3.heap.size]? = some (.cells #[.int .i64 C, .string (bs Z)] 30 (0, 0))) := (hb.block _ (by simp)).trans HV4.out
    clear ht hb HB4 HC4 HV4 hg5
    go_wp2_with fail
    refine (HIM.out _ _ (HE.out.below HB5.out) HT5.out).mono ?_
    rintro e w6 ⟨rfl, hb⟩
    have hbn : Below w6.heap.size w6 (w6.alloc (.cells #[.int .i64 C, .string (bs Z)] 30)) := (Below.refl _ _).alloc (Nat.le_refl _) _
    have hv6 : w6.heap[w3.heap.size]? = some (.cells #[.int .i64 C, .string (bs Z)] 30 (0, 0)) := (hb.block _ (Array.getElem?_eq_some_iff.1 HV5.out).1).trans HV5.out
    have hz6 : w3.heap.size < w6.heap.size := (Array.getElem?_eq_some_iff.1 hv6).1
    have v0 := cell_of_row _ _ 0 _ _ _ hv6
    have v1 := cell_of_row _ _ 1 _ _ _ hv6
    simp at v0 v1
    have hb7 := hb.trans (hbn.mono hb.size)
    have HB7 : Hid (Below w.heap.size w (w6.alloc (.cells #[.int .i64 C, .string (bs Z)] 30))) := HB5.out.trans (hb7.mono HB5.out.size)
    have HC7 : Hid (Came (w6.alloc (.cells #[.int .i64 C, .string (bs Z)] 30)) a0 len0 cap0 T) := HC5.out.below hb7
    have toks_on : ∀ {w w' : World}, (g5 < w.heap.size ∨ T = []) → Toks w g5 T → Below w.heap.size w w' → Toks w' g5 T := fun {w w'} h ht hb => by
      rcases h with h | rfl
      · exact toks_below ht hb h
      · intro j u hu; simp [tokCellsI] at hu
    have lt_on : ∀ {w w' : World}, (g5 < w.heap.size ∨ T = []) → Below w.heap.size w w' → (g5 < w'.heap.size ∨ T = []) := fun {w w'} h hb => h.imp (fun h => Nat.lt_of_lt_of_le h hb.size) id
    have HTON : Hid (∀ {w w' : World}, (g5 < w.heap.size ∨ T = []) → Toks w g5 T → Below w.heap.size w w' → Toks w' g5 T) := toks_on
    have HLON : Hid (∀ {w w' : World}, (g5 < w.heap.size ∨ T = []) → Below w.heap.size w w' → (g5 < w'.heap.size ∨ T = [])) := lt_on
    clear toks_on lt_on
    have HT7 : Hid (Toks (w6.alloc (.cells #[.int .i64 C, .string (bs Z)] 30)) g5 T) := HTON.out HG5.out HT5.out hb7
    have HG7 : Hid (g5 < (w6.alloc (.cells #[.int .i64 C, .string (bs Z)] 30)).heap.size ∨ T = []) := HLON.out HG5.out hb7
    clear hb hbn hb7 hv6 HB5 HC5 HT5 HG5 HV5
    go_wp2_with fail
    refine (eqText_any C Z _).mono ?_
    rintro e w8 ⟨rfl, hb⟩
    have HB8 : Hid (Below w.heap.size w w8) := HB7.out.trans (hb.mono HB7.out.size)
    have HC8 : Hid (Came w8 a0 len0 cap0 T) := HC7.out.below hb
    have HT8 : Hid (Toks w8 g5 T) := HTON.out HG7.out HT7.out hb
    have HG8 : Hid (g5 < w8.heap.size ∨ T = []) := HLON.out HG7.out hb
    clear hb HB7 HC7 HT7 HG7 v0 v1
    go_wp2_with fail
    refine (HTO.out _ HC8.out).mono ?_
    rintro e w9 ⟨rfl, ht, hb⟩
    have HB9 : Hid (Below w.heap.size w w9) := HB8.out.trans (hb.mono HB8.out.size)
    have HT9 : Hid (Toks w9 g5 T) := HTON.out HG8.out HT8.out hb
    have HU9 : Hid (Toks w9 w8.heap.size T) := ht
    clear ht hb HB8 HC8 HT8 HG8
    go_wp2_with fail
    refine (HEQ.out _ _ _ HT9.out HU9.out).mono ?_
    rintro e w10 ⟨rfl, hb⟩
    have hB10 := HB9.out.trans (hb.mono HB9.out.size)
    clear hb HB9 HT9 HU9
    go_wp2_with fail
    go_ret
    exact ⟨rfl, hB10⟩
  · have hn : r < 0 := by omega
    clear hr hs hr0
    go_wp2_with fail
    go_ret
    exact ⟨rfl, hB1⟩
end Go.Proofs.YtbgfabkneifccaaDoor
