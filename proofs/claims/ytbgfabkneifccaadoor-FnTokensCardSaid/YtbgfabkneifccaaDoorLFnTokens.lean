/-
  The Go function laws.FnTokens answers true at every input and writes nothing that was there; where the variables strconv.ErrSyntax, ErrRange hold a value.
-/
import Derived.Test.YtbgfabkneifccaaDoorISpell
import Derived.Test.YtbgfabkneifccaaDoorTokF
import Derived.Test.YtbgfabkneifccaaDoorLexLaw
import Derived.Test.YtbgfabkneifccaaDoorDrawT
import Derived.Test.YtbgfabkneifccaaDoorBig
import Derived.Deep.Cut
import Derived.Deep.CutRange
import Derived.Deep.DeepCutAuto
import Derived.Deep.LoopGhost
import Derived.Deep.RegionHeld3
import Derived.Deep.QuietTactic
import Derived.BigQuiet
import Derived.RegionTactic
namespace Go.Proofs.YtbgfabkneifccaaDoor
open Go.RowKit
set_option linter.unusedVariables false
attribute [local go_sem] bs_size bs_get bs_extract bs_append bs_eq bs_toList
attribute [local go_sem ↓] Go.wp_at_zero Go.wp_at_succ

theorem fieldC (c q : Int) (v : Value) (w : World) : (Instr.field 27 (.agg #[.int .i64 c, .int .i64 q, v]) 0).run Tryd.prog w = .ok (.int .i64 c) w := by kernel_rfl
theorem fieldX (c : Int) (s : List UInt8) (w : World) : (Instr.field 30 (txt c s) 1).run Tryd.prog w = .ok (.string (bs s)) w := by kernel_rfl

/-- what stays from the first answer on: the tokens that were read -/
structure FT (w wr : World) (Q : Int) (T : List (Tok × Nat)) (a : Option Addr) (cap g B : Nat) : Prop where
  l : VarT wr B 0 Q a T.length cap
  tk : TRow wr B T a g
  bel : Below w.heap.size w wr
theorem FT.below {w wr w' : World} {Q : Int} {T : List (Tok × Nat)} {a : Option Addr} {cap g B : Nat} (h : FT w wr Q T a cap g B) (hb : Below wr.heap.size wr w') : FT w w' Q T a cap g B :=
  ⟨h.l.below hb, h.tk.below (hb.mono (Nat.le_of_lt h.l.lt)), h.bel.trans (hb.mono h.bel.size)⟩
/-- .. and the text that was spelled -/
structure FS (w wr : World) (Q : Int) (T : List (Tok × Nat)) (a : Option Addr) (cap g B : Nat) (Z : List UInt8) (D : Nat) : Prop where
  ft : FT w wr Q T a cap g B
  s : wr.heap[D]? = some (.cells #[.int .i64 0, .string (bs Z)] 30 (0, 0))
theorem FS.below {w wr w' : World} {Q : Int} {T : List (Tok × Nat)} {a : Option Addr} {cap g B D : Nat} {Z : List UInt8} (h : FS w wr Q T a cap g B Z D) (hb : Below wr.heap.size wr w') : FS w w' Q T a cap g B Z D :=
  ⟨h.ft.below hb, (hb.block D (Array.getElem?_eq_some_iff.1 h.s).1).trans h.s⟩
/-- .. and the tokens that were read back -/
structure FR (w wr : World) (Q : Int) (T : List (Tok × Nat)) (a : Option Addr) (cap g B : Nat) (U : List (Tok × Nat)) (a' : Option Addr) (cap' g' B' : Nat) : Prop where
  ft : FT w wr Q T a cap g B
  l : VarT wr B' 0 0 a' T.length cap'
  tk : TRow wr B' U a' g'
theorem FR.below {w wr w' : World} {Q : Int} {T : List (Tok × Nat)} {a : Option Addr} {cap g B : Nat} {U : List (Tok × Nat)} {a' : Option Addr} {cap' g' B' : Nat} (h : FR w wr Q T a cap g B U a' cap' g' B') (hb : Below wr.heap.size wr w') : FR w w' Q T a cap g B U a' cap' g' B' :=
  ⟨h.ft.below hb, h.l.below hb, h.tk.below (hb.mono (Nat.le_of_lt h.l.lt))⟩
theorem tok_cells {w : World} {L g : Nat} {T : List (Tok × Nat)} {a : Option Addr} (h : TRow w L T a g) {i : Nat} {x : Tok × Nat} (hx : T[i]? = some x) :
    a = some ⟨g, 0, none⟩ ∧ w.cell? ⟨g, i * 4, none⟩ = some (.int .i64 x.1.kind) ∧ w.cell? ⟨g, i * 4 + 1, none⟩ = some (.string (bs x.1.text)) ∧ w.cell? ⟨g, i * 4 + 2, none⟩ = some (.int .i64 x.1.num) ∧ w.cell? ⟨g, i * 4 + 3, none⟩ = some (.int .i64 (x.2 : Int)) := by
  have hn : T.length ≠ 0 := by intro e; have := (List.getElem?_eq_some_iff.1 hx).1; omega
  obtain ⟨h1, h2, h3⟩ := h hn
  have : (TI T)[i]? = some (x.1, (x.2 : Int)) := by unfold TI; rw [List.getElem?_map, hx]; rfl
  exact ⟨h1, toks_at h3 this⟩
theorem TI_fst (T : List (Tok × Nat)) : (TI T).map Prod.fst = T.map Prod.fst := by unfold TI; rw [List.map_map]; rfl

set_option maxHeartbeats 12800000 in
set_option maxRecDepth 100000 in
theorem fnTokens_walk (a0 : Option Addr) (len0 cap0 : Nat) (z0 : List Int) (w : World) (w0 : IsRow .u8 w a0 len0 cap0 z0) (hE : Errs w) :
    Calls Tryd.prog 3 #[.slice a0 len0 cap0] w fun e w' => e = .returned (.bool true) ∧ Below w.heap.size w w' := by
  obtain ⟨hb0, ha0⟩ := bytes_of_row w0
  clear w0
  by_cases hbig : 1048576 < len0
  · clear hE
    go_enter Tryd.func3, Tryd.ntmps3
    go_wp2_with fail
    refine (big_yes _ _ _ _ hbig).mono ?_
    rintro e w1 ⟨rfl, rfl⟩
    go_wp2
    go_ret
    exact ⟨rfl, Below.refl _ _⟩
  have hs : len0 ≤ 1048576 := by omega
  have HDR : Hid (Calls Tryd.prog 8 #[.slice a0 len0 cap0] w fun e w' => (∃ s : List UInt8, e = .returned (.string (bs s)) ∧ s.length ≤ 3000) ∧ Below w.heap.size w w') := drawLex_any a0 len0 cap0 w hs hb0 ha0
  have HE : Hid (Errs w) := hE
  have hfc := fieldC
  have hft := fieldT
  have hfx := fieldX
  clear hbig ha0 hb0 hE
  go_enter Tryd.func3, Tryd.ntmps3
  go_wp2_with fail
  refine (big_any _ _ _ _ hs).mono ?_
  rintro e w1 ⟨rfl, hww⟩
  subst hww
  go_wp2_with fail
  refine HDR.out.mono ?_
  rintro e w2 ⟨⟨s, rfl, hs3⟩, hb2⟩
  have hIl := implLex_any s w2 (by omega) (HE.out.below hb2)
  have hgood : ∀ q T, lexL s = (0, q, T) → Good s T := fun q T h => good_of h
  have hspec := fun w => lex_any s w (by omega)
  have hle := lexL_le s
  generalize lexL s = R at *
  obtain ⟨C, Q, T⟩ := R
  have HIL : Hid (Calls Tryd.prog 9 #[.string (bs s)] w2 fun e w' => Lexed (C, Q, T) w2.heap.size e w' ∧ Below w2.heap.size w2 w') := hIl
  have HSP : Hid (∀ w, Calls Tryd.prog 10 #[.string (bs s)] w fun e w' => Lexed (C, Q, T) w.heap.size e w' ∧ Below w.heap.size w w') := hspec
  have hle : T.length ≤ 400 := hle
  clear hIl hspec HDR
  have HB2 : Hid (Below w1.heap.size w1 w2) := hb2
  clear hb2
  go_wp2_with fail
  refine HIL.out.mono ?_
  rintro e w3 ⟨hx, hb⟩
  obtain ⟨a3, p3, g3, rfl, hr3⟩ := row_of hx
  have hbn : Below w3.heap.size w3 (w3.alloc (.cells #[.int .i64 C, .int .i64 (Q : Int), .slice a3 T.length p3] 27)) := (Below.refl _ _).alloc (Nat.le_refl _) _
  have hB3 := HB2.out.trans (hb.mono HB2.out.size)
  have hB4 := hB3.trans (hbn.mono hB3.size)
  have hv4 := VarT.new w3 C (Q : Int) a3 T.length p3
  have ht4 : TRow (w3.alloc (.cells #[.int .i64 C, .int .i64 (Q : Int), .slice a3 T.length p3] 27)) w3.heap.size T a3 g3 := hr3.toks.below hbn
  clear hx hb hbn hB3 HB2 HIL hr3
  by_cases hC : C = 0
  · subst hC
    have hg := hgood Q T rfl
    have hCb : ((0 : Int) != 0) = false := rfl
    clear hgood
    go_wp2_with fail
    generalize hw4 : w3.alloc (.cells #[.int .i64 0, .int .i64 (Q : Int), .slice a3 T.length p3] 27) = w4 at *
    clear hw4
    obtain ⟨c0, c1, c2⟩ := hv4.cells
    have hz4 := hv4.lt
    have HG : Hid (Good s T) := hg
    have HT4 : Hid (TRow w4 w3.heap.size T a3 g3) := ht4
    clear hg ht4
    have HFT4 : Hid (FT w1 w4 (Q : Int) T a3 p3 g3 w3.heap.size) := ⟨hv4, HT4.out, hB4⟩
    clear c0 c1 hv4 hB4
    go_cut [36] from 14 (fun v wx => v = .bool false ∧ FT w1 wx (Q : Int) T a3 p3 g3 w3.heap.size)
    case first =>
      go_region_held3 (fun W => W.cell? ⟨w3.heap.size, 2, none⟩ = some (.slice a3 T.length p3)) (go_keep) (first | (go_at_call 10; refine (HSP.out _).mono ?_; rintro e w5 ⟨hx, hb⟩; obtain ⟨a5, p5, g5, hre, hr5⟩ := row_of hx; subst hre; have hD : Below w4.heap.size w4 w5 := ((Below.refl w4.heap.size w4).drew).trans (Below.mono hb (Nat.le_refl _)); have k2 := (hD.cell (p := ⟨w3.heap.size, 2, none⟩) hz4).trans c2; have HFT5 : Hid (FT w1 w5 (Q : Int) T a3 p3 g3 w3.heap.size) := HFT4.out.below hD; clear hx hb hr5 hD))
      all_goals
        go_wp2_with fail
        go_meet
        case rel => exact ⟨rfl, HFT5.out⟩
    case rest =>
      obtain ⟨hv36, hft⟩ := hcut
      subst hv36
      obtain ⟨B, hB⟩ : ∃ B, B = w3.heap.size := ⟨_, rfl⟩
      rw [← hB] at hft ⊢
      clear HT4 HFT4 hz4 c2 HSP hB hCb hfc
      obtain ⟨c0, c1, c2⟩ := hft.l.cells
      have hsp := implSpell_any (TI T) g3 p3 a3 wc (fun x hx => by
        unfold TI at hx
        obtain ⟨y, hy, rfl⟩ := List.mem_map.1 hx
        have := HG.out.size y hy
        show y.1.text.length ≤ 2000000
        omega) (by rw [TI_len]; omega) (fun h => (hft.tk (fun e => h (by unfold TI; rw [List.length_eq_zero_iff.1 e]; rfl))).1) (fun h => (hft.tk (fun e => h (by unfold TI; rw [List.length_eq_zero_iff.1 e]; rfl))).2.2) (HE.out.below hft.bel)
      rw [TI_len, TI_fst, (good_spell HG.out).1, (good_spell HG.out).2] at hsp
      have hag := good_again HG.out
      have hzl : (spell (T.map Prod.fst)).length ≤ 1000000 := by
        have := spell_le (T.map Prod.fst) (fun t ht => by obtain ⟨x, hx, rfl⟩ := List.mem_map.1 ht; exact HG.out.size x hx)
        have h2 := HG.out.few
        simp at this
        omega
      obtain ⟨Z, hZ⟩ : ∃ Z, Z = spell (T.map Prod.fst) := ⟨_, rfl⟩
      rw [← hZ] at hsp hag hzl
      have HAG : Hid (Z.length ≤ 1200 → lexL Z = (0, 0, placed 0 (T.map Prod.fst))) := hag
      have HSL : Hid (Calls Tryd.prog 11 #[.slice a3 T.length p3] wc fun e w' => e = .returned (txt 0 Z) ∧ Below wc.heap.size wc w') := hsp
      have HFT : Hid (FT w1 wc (Q : Int) T a3 p3 g3 B) := hft
      clear hsp hag hZ hft
      go_wp2_with fail
      refine HSL.out.mono ?_
      rintro e w6 ⟨rfl, hb⟩
      have hbn : Below w6.heap.size w6 (w6.alloc (.cells #[.int .i64 0, .string (bs Z)] 30)) := (Below.refl _ _).alloc (Nat.le_refl _) _
      have hfs : FS w1 (w6.alloc (.cells #[.int .i64 0, .string (bs Z)] 30)) (Q : Int) T a3 p3 g3 B Z w6.heap.size := ⟨(HFT.out.below hb).below hbn, heap_alloc_new _ _⟩
      clear hb hbn HSL HFT c0 c1 c2
      obtain ⟨D, hD⟩ : ∃ D, D = w6.heap.size := ⟨_, rfl⟩
      have HFS : Hid (FS w1 (w6.alloc (.cells #[.int .i64 0, .string (bs Z)] 30)) (Q : Int) T a3 p3 g3 B Z w6.heap.size) := hfs
      clear hfs hD
      go_wp2_with fail
      go_loopg [6, 7] (T.length + 1) (fun m s6 s7 wr => ∃ i : Nat, i ≤ T.length ∧ m = T.length - i + 1 ∧ s7 = .int .i64 i ∧ s6 = .int .i64 (prevEnd 0 T i : Nat) ∧ FS w1 wr (Q : Int) T a3 p3 g3 B Z w6.heap.size)
      case atStart => exact ⟨0, by omega, by omega, rfl, rfl, HFS.out⟩
      case round =>
        clear HFS
        obtain ⟨i, hi, hm, rfl, rfl, hfs⟩ := hrel
        have HM : Hid (gk = T.length - i + 1) := hm
        clear hm
        obtain ⟨c0, c1, c2⟩ := hfs.ft.l.cells
        by_cases hlt : i < T.length
        · obtain ⟨⟨t, p⟩, hx⟩ : ∃ x, T[i]? = some x := ⟨T[i], List.getElem?_eq_getElem hlt⟩
          obtain ⟨ha3, d0, d1, d2, d3⟩ := tok_cells hfs.ft.tk hx
          subst ha3
          have hmem : (t, p) ∈ T := List.mem_of_getElem? hx
          have hli := HG.out.lies i (t, p) hx
          have hright := HG.out.right (t, p) hmem
          have hsz := HG.out.size (t, p) hmem
          have hend := prevEnd_succ 0 T i (t, p) hx
          obtain ⟨E0, hE0⟩ : ∃ E0, E0 = prevEnd 0 T i := ⟨_, rfl⟩
          rw [← hE0] at hli ⊢
          obtain ⟨E1, hE1⟩ : ∃ E1, E1 = p + t.text.length := ⟨_, rfl⟩
          have HEND : Hid (prevEnd 0 T (i + 1) = E1) := by show _ = _; rw [hend, hE1]
          have hle0 : E0 ≤ p := hli.le
          have hfit : E1 ≤ s.length := by rw [hE1]; exact hli.fits
          have hsl := slice_pq s p t.text.length E1 hE1 hfit
          rw [hli.text] at hsl
          have HBL : Hid (∀ k, E0 ≤ k → k < p → isBlank (ch s k) = true) := hli.blank
          have HTT : Hid (∀ w, Errs w → Calls Tryd.prog 12 #[tokV t p] w fun e w' => e = .returned (txt 0 t.text) ∧ Below w.heap.size w w') := fun w h => by
            have h1 := implText_any t p w (by have : t.text.length ≤ 1200 := hsz; omega) h
            have hr : rightL t = true := hright
            rwa [hr, if_pos rfl, if_pos rfl] at h1
          have hwrap : IntKind.i64.wrap ((p : Int) + (t.text.length : Int)) = (E1 : Int) := by
            have hs2 : t.text.length ≤ 1200 := hsz
            rw [IntWalk.i64_in _ (by omega)]; omega
          have q1 : ¬ p < E0 := by omega
          have q2 : ¬ s.length < E1 := by omega
          have HPB : Hid (p ≤ s.length ∧ E0 ≤ p ∧ t.text.length ≤ 1200 ∧ E1 = p + t.text.length) := ⟨by omega, hle0, hsz, hE1⟩
          clear hli hend hE0 hE1 hle0 hfit hright hsz hmem hx
          have HFS1 : Hid (FS w1 wr (Q : Int) T (some ⟨g3, 0, none⟩) p3 g3 B Z w6.heap.size) := hfs
          have hbn : Below wr.heap.size wr (wr.alloc (.cells #[.int .i64 t.kind, .string (bs t.text), .int .i64 t.num, .int .i64 (p : Int)] 33)) := (Below.refl _ _).alloc (Nat.le_refl _) _
          have hfs9 := hfs.below hbn
          have htk9 : (wr.alloc (.cells #[.int .i64 t.kind, .string (bs t.text), .int .i64 t.num, .int .i64 (p : Int)] 33)).heap[wr.heap.size]? = some (.cells #[.int .i64 t.kind, .string (bs t.text), .int .i64 t.num, .int .i64 (p : Int)] 33 (0, 0)) := heap_alloc_new _ _
          clear hbn hfs
          go_wp2_with fail
          generalize hw9 : wr.alloc (.cells #[.int .i64 t.kind, .string (bs t.text), .int .i64 t.num, .int .i64 (p : Int)] 33) = w9 at *
          clear hw9
          have e0 := cell_of_row _ _ 0 _ _ _ htk9
          have e1 := cell_of_row _ _ 1 _ _ _ htk9
          have e2 := cell_of_row _ _ 2 _ _ _ htk9
          have e3 := cell_of_row _ _ 3 _ _ _ htk9
          simp at e0 e1 e2 e3
          have hz9 : wr.heap.size < w9.heap.size := (Array.getElem?_eq_some_iff.1 htk9).1
          have HFS9 : Hid (FS w1 w9 (Q : Int) T (some ⟨g3, 0, none⟩) p3 g3 B Z w6.heap.size) := hfs9
          have HTK9 : Hid (w9.heap[wr.heap.size]? = some (.cells #[.int .i64 t.kind, .string (bs t.text), .int .i64 t.num, .int .i64 (p : Int)] 33 (0, 0))) := htk9
          clear hfs9 htk9 c0 c1 c2 d0 d1 d2 d3
          go_cut [89] (fun v wx => v = .bool false ∧ FS w1 wx (Q : Int) T (some ⟨g3, 0, none⟩) p3 g3 B Z w6.heap.size ∧ wx.heap[wr.heap.size]? = some (.cells #[.int .i64 t.kind, .string (bs t.text), .int .i64 t.num, .int .i64 (p : Int)] 33 (0, 0)))
          case first =>
            go_region_held3 (fun W => W.cell? ⟨wr.heap.size, 0, none⟩ = some (.int .i64 t.kind) ∧ W.cell? ⟨wr.heap.size, 1, none⟩ = some (.string (bs t.text)) ∧ W.cell? ⟨wr.heap.size, 2, none⟩ = some (.int .i64 t.num) ∧ W.cell? ⟨wr.heap.size, 3, none⟩ = some (.int .i64 (p : Int))) (go_keep) (first | (go_at_call 12; refine (HTT.out _ (HE.out.below (HFS9.out.ft.bel.drew))).mono ?_; rintro e w10 ⟨rfl, hb⟩; have hD : Below w9.heap.size w9 w10 := ((Below.refl w9.heap.size w9).drew).trans (Below.mono hb (Nat.le_refl _)); have k0 := (hD.cell (p := ⟨wr.heap.size, 0, none⟩) hz9).trans e0; have k1 := (hD.cell (p := ⟨wr.heap.size, 1, none⟩) hz9).trans e1; have k2 := (hD.cell (p := ⟨wr.heap.size, 2, none⟩) hz9).trans e2; have k3 := (hD.cell (p := ⟨wr.heap.size, 3, none⟩) hz9).trans e3; have HFS10 : Hid (FS w1 w10 (Q : Int) T (some ⟨g3, 0, none⟩) p3 g3 B Z w6.heap.size) := HFS9.out.below hD; have HTK10 : Hid (w10.heap[wr.heap.size]? = some (.cells #[.int .i64 t.kind, .string (bs t.text), .int .i64 t.num, .int .i64 (p : Int)] 33 (0, 0))) := (hD.block _ hz9).trans HTK9.out; clear hb hD))
            all_goals
              go_wp2_with fail
              go_meet
              case rel => exact ⟨rfl, HFS10.out, HTK10.out⟩
          case rest =>
            clear q1 q2 hwrap hsl HTT HFS9 HTK9 e0 e1 e2 e3 hz9 HFS1
            obtain ⟨hv89, hfs, htk⟩ := hcut
            subst hv89
            have HFS : Hid (FS w1 wc (Q : Int) T (some ⟨g3, 0, none⟩) p3 g3 B Z w6.heap.size) := hfs
            have HTK : Hid (wc.heap[wr.heap.size]? = some (.cells #[.int .i64 t.kind, .string (bs t.text), .int .i64 t.num, .int .i64 (p : Int)] 33 (0, 0))) := htk
            have e1 := cell_of_row _ _ 1 _ _ _ htk
            have e3 := cell_of_row _ _ 3 _ _ _ htk
            simp at e1 e3
            clear hfs htk
            go_wp2_with fail
            go_loopg [9] (p - E0 + 1) (fun m s9 wx => ∃ k : Nat, E0 ≤ k ∧ k ≤ p ∧ m = p - k + 1 ∧ s9 = .int .i64 (k : Int) ∧ wx = wc)
            case atStart => exact ⟨E0, Nat.le_refl _, HPB.out.2.1, rfl, rfl, rfl⟩
            case round =>
              obtain ⟨k, hk0, hk1, hkm, rfl, rfl⟩ := hrel
              have HKM : Hid (_ = p - k + 1) := hkm
              have hps := HPB.out.1
              clear hkm
              by_cases hkp : k < p
              · have hbl := HBL.out k hk0 hkp
                have hks : k < s.length := by omega
                unfold isBlank at hbl
                by_cases h32 : ((ch s k).toNat : Int) = 32
                · clear hbl
                  go_wp2_with fail
                  go_roundg (p - (k + 1) + 1)
                  case measure => have := HKM.out; omega
                  case rel => exact ⟨k + 1, by omega, by omega, rfl, by go_num, rfl⟩
                · have h10 : ((ch s k).toNat : Int) = 10 := by
                    rw [decide_eq_false h32, Bool.false_or] at hbl
                    exact of_decide_eq_true hbl
                  have h32b : (((ch s k).toNat : Int) == 32) = false := by simpa using h32
                  clear hbl h32
                  go_wp2_with fail
                  go_roundg (p - (k + 1) + 1)
                  case measure => have := HKM.out; omega
                  case rel => exact ⟨k + 1, by omega, by omega, rfl, by go_num, rfl⟩
              · have hkp2 : k = p := by omega
                subst hkp2
                obtain ⟨hp1, hp2, hp3, hp4⟩ := HPB.out
                go_wp2_with fail
                go_roundg (T.length - (i + 1) + 1)
                case measure => have := HM.out; omega
                case rel => exact ⟨i + 1, by omega, rfl, by go_num, by rw [HEND.out, hp4]; go_num, HFS.out⟩
        · have hie : i = T.length := by omega
          subst hie
          have hIZ := implLex_any Z wr (by omega) (HE.out.below hfs.ft.bel)
          have HIZ : Hid (Calls Tryd.prog 9 #[.string (bs Z)] wr fun e w' => Lexed (lexL Z) wr.heap.size e w' ∧ Below wr.heap.size wr w') := hIZ
          have HFS : Hid (FS w1 wr (Q : Int) T a3 p3 g3 B Z w6.heap.size) := hfs
          have v0 := cell_of_row _ _ 0 _ _ _ hfs.s
          have v1 := cell_of_row _ _ 1 _ _ _ hfs.s
          simp at v0 v1
          clear hIZ hfs
          go_wp2_with fail
          refine HIZ.out.mono ?_
          rintro e w10 ⟨hx, hb⟩
          have hfs10 := HFS.out.below hb
          clear c0 c1 c2 v0 v1 HFS HIZ
          by_cases hzb : 1200 < Z.length
          · have hR : lexL Z = (2, 0, []) := by unfold lexL; rw [if_pos hzb]
            rw [hR] at hx
            obtain ⟨a10, p10, g10, rfl, hr10⟩ := row_of hx
            have hbn : Below w10.heap.size w10 (w10.alloc (.cells #[.int .i64 2, .int .i64 ((0 : Nat) : Int), .slice a10 ([] : List (Tok × Nat)).length p10] 27)) := (Below.refl _ _).alloc (Nat.le_refl _) _
            have HFIN : Hid (Below w1.heap.size w1 (w10.alloc (.cells #[.int .i64 2, .int .i64 ((0 : Nat) : Int), .slice a10 ([] : List (Tok × Nat)).length p10] 27))) := hfs10.ft.bel.trans (hbn.mono hfs10.ft.bel.size)
            have hz10 : w6.heap.size < w10.heap.size := (Array.getElem?_eq_some_iff.1 hfs10.s).1
            have v0 := cell_of_row _ _ 0 _ _ _ hfs10.s
            have v1 := cell_of_row _ _ 1 _ _ _ hfs10.s
            simp at v0 v1
            clear hx hr10 hfs10 hbn hb hR
            go_wp2_with fail
            go_ret
            exact ⟨rfl, HFIN.out⟩
          · have hR := HAG.out (by omega)
            rw [hR] at hx
            have hUl : (placed 0 (T.map Prod.fst)).length = T.length := by rw [placed_len, List.length_map]
            have HUA : Hid (∀ (i : Nat) (y : Tok × Nat), (placed 0 (T.map Prod.fst))[i]? = some y → (T.map Prod.fst)[i]? = some y.1) := fun i y h => placed_at _ _ _ _ h
            generalize placed 0 (T.map Prod.fst) = U at *
            obtain ⟨a10, p10, g10, rfl, hr10⟩ := row_of hx
            have hbn : Below w10.heap.size w10 (w10.alloc (.cells #[.int .i64 0, .int .i64 ((0 : Nat) : Int), .slice a10 U.length p10] 27)) := (Below.refl _ _).alloc (Nat.le_refl _) _
            have hv11 := VarT.new w10 0 ((0 : Nat) : Int) a10 U.length p10
            have ht11 : TRow (w10.alloc (.cells #[.int .i64 0, .int .i64 ((0 : Nat) : Int), .slice a10 U.length p10] 27)) w10.heap.size U a10 g10 := hr10.toks.below hbn
            have hfr : FR w1 (w10.alloc (.cells #[.int .i64 0, .int .i64 ((0 : Nat) : Int), .slice a10 U.length p10] 27)) (Q : Int) T a3 p3 g3 B U a10 p10 g10 w10.heap.size :=
              ⟨hfs10.ft.below hbn, by rw [← hUl]; exact hv11, ht11⟩
            have HFR : Hid (FR w1 (w10.alloc (.cells #[.int .i64 0, .int .i64 ((0 : Nat) : Int), .slice a10 U.length p10] 27)) (Q : Int) T a3 p3 g3 B U a10 p10 g10 w10.heap.size) := hfr
            have hz10 : w6.heap.size < w10.heap.size := (Array.getElem?_eq_some_iff.1 hfs10.s).1
            have hzB : B < w10.heap.size := hfs10.ft.l.lt
            have v0 := cell_of_row _ _ 0 _ _ _ hfs10.s
            have v1 := cell_of_row _ _ 1 _ _ _ hfs10.s
            simp at v0 v1
            obtain ⟨c0, c1, c2⟩ := hfs10.ft.l.cells
            have HUL : Hid (U.length = T.length) := hUl
            clear hx hr10 hfs10 hbn hb hv11 ht11 hfr hR HAG
            rw [hUl] at HFR ⊢
            clear hUl
            go_wp2_with fail
            go_loopg [11] (T.length + 1) (fun m s11 wx => ∃ i : Nat, i ≤ T.length ∧ m = T.length - i + 1 ∧ s11 = .int .i64 (i : Int) ∧ FR w1 wx (Q : Int) T a3 p3 g3 B U a10 p10 g10 w10.heap.size)
            case atStart => exact ⟨0, by omega, by omega, rfl, HFR.out⟩
            case round =>
              clear HFR v0 v1 c0 c1 c2
              obtain ⟨i, hi, hm, rfl, hfr⟩ := hrel
              have HM : Hid (_ = T.length - i + 1) := hm
              clear hm
              obtain ⟨c0, c1, c2⟩ := hfr.ft.l.cells
              obtain ⟨b0, b1, b2⟩ := hfr.l.cells
              by_cases hlt : i < T.length
              · obtain ⟨⟨t, p⟩, hx⟩ : ∃ x, T[i]? = some x := ⟨T[i], List.getElem?_eq_getElem hlt⟩
                obtain ⟨⟨t', p'⟩, hu⟩ : ∃ y, U[i]? = some y := ⟨U[i]'(by rw [HUL.out]; exact hlt), List.getElem?_eq_getElem _⟩
                have htt : t' = t := by
                  have h1 : (T.map Prod.fst)[i]? = some t' := HUA.out i (t', p') hu
                  rw [List.getElem?_map, hx] at h1
                  exact (Option.some.inj h1).symm
                subst htt
                obtain ⟨ha3, d0, d1, d2, d3⟩ := tok_cells hfr.ft.tk hx
                obtain ⟨ha10, f0, f1, f2, f3⟩ := tok_cells hfr.tk hu
                subst ha3
                subst ha10
                have hmem : (t', p) ∈ T := List.mem_of_getElem? hx
                have hsz : t'.text.length ≤ 1200 := HG.out.size (t', p) hmem
                have hname := HG.out.name (t', p) hmem
                have hword := HG.out.word (t', p) hmem
                have hIN := fun w => iIsName_any t'.text w (by omega)
                have hIW := fun w => iIsWord_any t'.text w
                obtain ⟨kd, tx, nm⟩ := t'
                have hname : kd = 1 ↔ isNameL tx = true := hname
                have hword : kd = 3 ↔ isWordL tx = true := hword
                have hcase : (kd = 1 ∧ isNameL tx = true ∧ isWordL tx = false) ∨ (kd = 3 ∧ isNameL tx = false ∧ isWordL tx = true) ∨ (¬ kd = 1 ∧ ¬ kd = 3 ∧ isNameL tx = false ∧ isWordL tx = false) := by
                  cases h1 : isNameL tx <;> cases h2 : isWordL tx
                  · exact .inr (.inr ⟨(fun h => by rw [hname.1 h] at h1; cases h1), (fun h => by rw [hword.1 h] at h2; cases h2), rfl, rfl⟩)
                  · exact .inr (.inl ⟨hword.2 h2, rfl, rfl⟩)
                  · exact .inl ⟨hname.2 h1, rfl, rfl⟩
                  · have e1 := hname.2 h1; have e2 := hword.2 h2; omega
                have hIN : ∀ w, Calls Tryd.prog 13 #[.string (bs tx)] w fun e w' => e = .returned (.bool (isNameL tx)) ∧ w' = w := hIN
                have hIW : ∀ w, Calls Tryd.prog 14 #[.string (bs tx)] w fun e w' => e = .returned (.bool (isWordL tx)) ∧ w' = w := hIW
                clear hname hword hsz hmem hx hu
                generalize isNameL tx = bn at *
                generalize isWordL tx = bw at *
                have HIN : Hid (∀ w, Calls Tryd.prog 13 #[.string (bs tx)] w fun e w' => e = .returned (.bool bn) ∧ w' = w) := hIN
                have HIW : Hid (∀ w, Calls Tryd.prog 14 #[.string (bs tx)] w fun e w' => e = .returned (.bool bw) ∧ w' = w) := hIW
                have hb1 : Below wr.heap.size wr ((wr.alloc (.cells #[.int .i64 kd, .string (bs tx), .int .i64 nm, .int .i64 (p' : Int)] 33)).alloc (.cells #[.int .i64 kd, .string (bs tx), .int .i64 nm, .int .i64 (p : Int)] 33)) := ((Below.refl _ _).alloc (Nat.le_refl _) _).alloc (by simp) _
                have hfr2 := hfr.below hb1
                have hr1 : ((wr.alloc (.cells #[.int .i64 kd, .string (bs tx), .int .i64 nm, .int .i64 (p' : Int)] 33)).alloc (.cells #[.int .i64 kd, .string (bs tx), .int .i64 nm, .int .i64 (p : Int)] 33)).heap[wr.heap.size]? = some (.cells #[.int .i64 kd, .string (bs tx), .int .i64 nm, .int .i64 (p' : Int)] 33 (0, 0)) := by
                  rw [Below.heap_alloc _ _ _ (by simp)]; exact heap_alloc_new wr _
                have hr2 : ((wr.alloc (.cells #[.int .i64 kd, .string (bs tx), .int .i64 nm, .int .i64 (p' : Int)] 33)).alloc (.cells #[.int .i64 kd, .string (bs tx), .int .i64 nm, .int .i64 (p : Int)] 33)).heap[wr.heap.size + 1]? = some (.cells #[.int .i64 kd, .string (bs tx), .int .i64 nm, .int .i64 (p : Int)] 33 (0, 0)) := by
                  have h := heap_alloc_new (wr.alloc (.cells #[.int .i64 kd, .string (bs tx), .int .i64 nm, .int .i64 (p' : Int)] 33)) (.cells #[.int .i64 kd, .string (bs tx), .int .i64 nm, .int .i64 (p : Int)] 33)
                  rwa [show (wr.alloc (.cells #[.int .i64 kd, .string (bs tx), .int .i64 nm, .int .i64 (p' : Int)] 33)).heap.size = wr.heap.size + 1 from by simp] at h
                have hgB : B ≠ wr.heap.size := Nat.ne_of_lt hfr.ft.l.lt
                have hgB2 : B < wr.heap.size := hfr.ft.l.lt
                have hgg : g3 < wr.heap.size := World.block_lt_of_cell? _ _ d0
                clear hIN hIW hb1 hfr
                rcases hcase with ⟨hk, hn, hw⟩ | ⟨hk, hn, hw⟩ | ⟨hk, hk3, hn, hw⟩
                all_goals
                  try subst hk
                  subst hn
                  subst hw
                  go_wp2_with fail
                  generalize hw12 : (wr.alloc (.cells #[.int .i64 _, .string (bs tx), .int .i64 nm, .int .i64 (p' : Int)] 33)).alloc (.cells #[.int .i64 _, .string (bs tx), .int .i64 nm, .int .i64 (p : Int)] 33) = w12 at *
                  clear hw12
                  have k0 := cell_of_row _ _ 0 _ _ _ hr1
                  have k1 := cell_of_row _ _ 1 _ _ _ hr1
                  have k2 := cell_of_row _ _ 2 _ _ _ hr1
                  have l0 := cell_of_row _ _ 0 _ _ _ hr2
                  have l1 := cell_of_row _ _ 1 _ _ _ hr2
                  have l2 := cell_of_row _ _ 2 _ _ _ hr2
                  simp at k0 k1 k2 l0 l1 l2
                  have HFR2 : Hid (FR w1 w12 (Q : Int) T (some ⟨g3, 0, none⟩) p3 g3 B U (some ⟨g10, 0, none⟩) p10 g10 w10.heap.size) := hfr2
                  clear hfr2 hr1 hr2 c0 c1 c2 b0 b1 b2 d0 d1 d2 d3 f0 f1 f2 f3
                  go_cut [191] (fun v wx => v = .bool false ∧ FR w1 wx (Q : Int) T (some ⟨g3, 0, none⟩) p3 g3 B U (some ⟨g10, 0, none⟩) p10 g10 w10.heap.size)
                  case first =>
                    go_quiet (first | (go_at_call 13; exact Calls.quiet_of_same (HIN.out _)) | (go_at_call 14; exact Calls.quiet_of_same (HIW.out _)))
                    go_wp2_with fail
                    go_meet
                    case rel => exact ⟨by first | rfl | (rw [show (kd == 1) = false from by simpa using hk, show (kd == 3) = false from by simpa using hk3]; rfl), HFR2.out.below ⟨rfl, rfl, rfl, Nat.le_refl _, fun _ _ => rfl⟩⟩
                  case rest =>
                    obtain ⟨hv, hfr⟩ := hcut
                    subst hv
                    have HFR3 : Hid (FR w1 wc (Q : Int) T (some ⟨g3, 0, none⟩) p3 g3 B U (some ⟨g10, 0, none⟩) p10 g10 w10.heap.size) := hfr
                    clear hfr k0 k1 k2 l0 l1 l2 HFR2
                    go_wp2_with fail
                    go_roundg (T.length - (i + 1) + 1)
                    case measure => have := HM.out; omega
                    case rel => exact ⟨i + 1, by omega, rfl, by go_num, HFR3.out⟩
              · have hie : i = T.length := by omega
                have HFIN := hfr.ft.bel
                clear hfr
                go_wp2_with fail
                go_ret
                exact ⟨rfl, HFIN⟩
  · have hCb : (C != 0) = true := by simpa using hC
    clear hgood hC ht4
    go_wp2_with fail
    generalize hw4 : w3.alloc (.cells #[.int .i64 C, .int .i64 (Q : Int), .slice a3 T.length p3] 27) = w4 at *
    clear hw4
    obtain ⟨c0, c1, c2⟩ := hv4.cells
    have hz4 := hv4.lt
    go_region_held3 (fun W => W.cell? ⟨w3.heap.size, 0, none⟩ = some (.int .i64 C)) (go_keep) (first | (go_at_call 10; refine (HSP.out _).mono ?_; rintro e w5 ⟨hx, hb⟩; obtain ⟨a5, p5, g5, hre, hr5⟩ := row_of hx; subst hre; have hD : Below w4.heap.size w4 w5 := ((Below.refl w4.heap.size w4).drew).trans (Below.mono hb (Nat.le_refl _)); have k0 := (hD.cell (p := ⟨w3.heap.size, 0, none⟩) hz4).trans c0; have hB5 := hB4.trans (hD.mono hB4.size); clear hx hb hr5 hD))
    go_wp2
    go_ret
    exact ⟨rfl, by assumption⟩
end Go.Proofs.YtbgfabkneifccaaDoor
