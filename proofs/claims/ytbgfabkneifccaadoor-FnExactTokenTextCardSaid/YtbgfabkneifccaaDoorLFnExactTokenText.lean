/-
  The Go function laws.FnExactTokenText answers true at every input and writes nothing that was there; where the variables strconv.ErrSyntax, ErrRange hold a value.
-/
import Derived.Test.YtbgfabkneifccaaDoorITText
import Derived.Test.YtbgfabkneifccaaDoorToTok
namespace Go.Proofs.YtbgfabkneifccaaDoor
open Go.RowKit
set_option linter.unusedVariables false
attribute [local go_sem] bs_size bs_get bs_extract bs_append bs_eq bs_toList

set_option maxHeartbeats 6400000 in
theorem fnExactTokenText_walk (k0 n0 q0 : Int) (t0 : ByteArray) (w : World) (w0 : t0.size ≤ maxLen) (hE : Errs w) :
    Calls Tryd.prog 5 #[.agg #[.int .i64 k0, .string t0, .int .i64 n0, .int .i64 q0]] w fun e w' => e = .returned (.bool true) ∧ Below w.heap.size w w' := by
  obtain ⟨l, rfl⟩ : ∃ l, t0 = bs l := ⟨_, bs_of t0⟩
  obtain ⟨t, ht⟩ : ∃ t : Tok, t = ⟨k0, l, n0⟩ := ⟨_, rfl⟩
  have e : (.agg #[.int .i64 k0, .string (bs l), .int .i64 n0, .int .i64 q0] : Value) = tokV t q0 := by rw [ht]
  rw [e]
  have hl : t.text.length ≤ 9223372036854775807 := by rw [ht]; unfold maxLen at w0; rwa [bs_size] at w0
  clear e ht w0
  have hb0 : Below w.heap.size w (w.alloc (.cells #[.int .i64 t.kind, .string (bs t.text), .int .i64 t.num, .int .i64 q0] 38)) := (Below.refl _ _).alloc (Nat.le_refl _) _
  have hs := fun w => szTok_any t q0 1048576 (by omega) (by omega) hl w
  by_cases hbig : (1048576 : Int) < t.text.length
  · rw [if_pos hbig] at hs
    clear hbig hl hE
    go_enter Tryd.func5, Tryd.ntmps5
    go_wp2_with fail
    refine (hs _).mono ?_
    rintro e w1 ⟨rfl, hb⟩
    have hB := hb0.trans (hb.mono hb0.size)
    clear hb hb0 hs
    go_wp2_with fail
    go_ret
    exact ⟨rfl, hB⟩
  · rw [if_neg hbig] at hs
    have hl2 : t.text.length ≤ 2000000 := by omega
    have hpos : 0 ≤ 1048576 - (t.text.length : Int) := by omega
    have HE : Hid (Errs w) := hE
    have hto := fun w => toTok_any t q0 w
    have hsp := fun w => tokenText_any t q0 w hl2
    have him := fun w h => implText_any t q0 w hl2 h
    generalize (if rightL t = true then (0 : Int) else 1) = C at hsp him
    generalize (if rightL t = true then t.text else []) = X at hsp him
    have HTO : Hid (∀ w, Calls Tryd.prog 20 #[tokV t q0] w fun e w' => e = .returned (tokV t q0) ∧ Below w.heap.size w w') := hto
    have HSP : Hid (∀ w, Calls Tryd.prog 19 #[tokV t q0] w fun e w' => e = .returned (txt C X) ∧ Below w.heap.size w w') := hsp
    have HIM : Hid (∀ w, Errs w → Calls Tryd.prog 12 #[tokV t q0] w fun e w' => e = .returned (txt C X) ∧ Below w.heap.size w w') := him
    clear hbig hl hE hto hsp him hl2
    go_enter Tryd.func5, Tryd.ntmps5
    go_wp2_with fail
    refine (hs _).mono ?_
    rintro e w1 ⟨rfl, hb⟩
    obtain ⟨⟨c0, c1, c2, c3⟩, hz1, _⟩ := own4 hb
    have hB1 := hb0.trans (hb.mono hb0.size)
    clear hb hb0 hs
    go_wp2_with fail
    refine (HTO.out _).mono ?_
    rintro e w2 ⟨rfl, hb⟩
    have hB2 := hB1.trans (hb.mono hB1.size)
    have k0 := (hb.cell (p := ⟨w.heap.size, 0, none⟩) hz1).trans c0
    have k1 := (hb.cell (p := ⟨w.heap.size, 1, none⟩) hz1).trans c1
    have k2 := (hb.cell (p := ⟨w.heap.size, 2, none⟩) hz1).trans c2
    have k3 := (hb.cell (p := ⟨w.heap.size, 3, none⟩) hz1).trans c3
    have hz2 := Nat.lt_of_lt_of_le hz1 hb.size
    clear hb hB1 c0 c1 c2 c3
    go_wp2_with fail
    refine (HSP.out _).mono ?_
    rintro e w3 ⟨rfl, hb⟩
    have hB3 := hB2.trans (hb.mono hB2.size)
    have c0 := (hb.cell (p := ⟨w.heap.size, 0, none⟩) hz2).trans k0
    have c1 := (hb.cell (p := ⟨w.heap.size, 1, none⟩) hz2).trans k1
    have c2 := (hb.cell (p := ⟨w.heap.size, 2, none⟩) hz2).trans k2
    have c3 := (hb.cell (p := ⟨w.heap.size, 3, none⟩) hz2).trans k3
    have hz3 := Nat.lt_of_lt_of_le hz2 hb.size
    clear hb hB2 k0 k1 k2 k3
    have hbn : Below w3.heap.size w3 (w3.alloc (.cells #[.int .i64 C, .string (bs X)] 30)) := (Below.refl _ _).alloc (Nat.le_refl _) _
    have hB4 := hB3.trans (hbn.mono hB3.size)
    have hv4 : (w3.alloc (.cells #[.int .i64 C, .string (bs X)] 30)).heap[w3.heap.size]? = some (.cells #[.int .i64 C, .string (bs X)] 30 (0, 0)) := heap_alloc_new _ _
    have HB4 : Hid (Below w.heap.size w (w3.alloc (.cells #[.int .i64 C, .string (bs X)] 30))) := hB4
    have HV4 : Hid ((w3.alloc (.cells #[.int .i64 C, .string (bs X)] 30)).heap[w3.heap.size]? = some (.cells #[.int .i64 C, .string (bs X)] 30 (0, 0))) := hv4
    clear hbn hB3 hB4 hv4
    go_wp2_with fail
    refine (HTO.out _).mono ?_
    rintro e w5 ⟨rfl, hb⟩
    have HB5 : Hid (Below w.heap.size w w5) := HB4.out.trans (hb.mono HB4.out.size)
    have HV5 : Hid (w5.heap[w3.heap.size]? = some (.cells #[.int .i64 C, .string (bs X)] 30 (0, 0))) := (hb.block _ (by simp)).trans HV4.out
    clear hb HB4 HV4 c0 c1 c2 c3 hz3
    go_wp2_with fail
    refine (HIM.out _ (HE.out.below HB5.out)).mono ?_
    rintro e w6 ⟨rfl, hb⟩
    have HB6 : Hid (Below w.heap.size w w6) := HB5.out.trans (hb.mono HB5.out.size)
    have hv6 : w6.heap[w3.heap.size]? = some (.cells #[.int .i64 C, .string (bs X)] 30 (0, 0)) := (hb.block _ (Array.getElem?_eq_some_iff.1 HV5.out).1).trans HV5.out
    have hz6 : w3.heap.size < w6.heap.size := (Array.getElem?_eq_some_iff.1 hv6).1
    have v0 := cell_of_row _ _ 0 _ _ _ hv6
    have v1 := cell_of_row _ _ 1 _ _ _ hv6
    simp at v0 v1
    clear hb HB5 HV5 hv6
    have hbn : Below w6.heap.size w6 (w6.alloc (.cells #[.int .i64 C, .string (bs X)] 30)) := (Below.refl _ _).alloc (Nat.le_refl _) _
    have HB7 : Hid (Below w.heap.size w (w6.alloc (.cells #[.int .i64 C, .string (bs X)] 30))) := HB6.out.trans (hbn.mono HB6.out.size)
    clear hbn HB6
    go_wp2_with fail
    refine (eqText_any C X _).mono ?_
    rintro e w8 ⟨rfl, hb⟩
    have hB8 := HB7.out.trans (hb.mono HB7.out.size)
    clear hb HB7
    go_wp2_with fail
    go_ret
    exact ⟨rfl, hB8⟩
end Go.Proofs.YtbgfabkneifccaaDoor
