/-
  The Go function laws.FnTurns answers true at every input and writes nothing that was there. No condition.
-/
import Derived.Test.YtafngcmgmdmciaaLawI
import Derived.Test.YtafngcmgmdmciaaDrawsB
import Derived.Test.YtafngcmgmdmciaaQuick
import Derived.RegionTactic
import Derived.Deep.RegionHeld3
import Derived.Deep.QuietTactic
import Derived.BigQuiet
import Derived.Test.YtafngcmgmdmciaaTurn
import Derived.Test.YtafngcmgmdmciaaBlocks
import Derived.Test.YtafngcmgmdmciaaAt
import Derived.Test.YtafngcmgmdmciaaVarL
namespace Go.Proofs.Ytafngcmgmdmciaa
open Go.RowKit
set_option linter.unusedVariables false

theorem at1_any (K cap : Nat) (c : Option Addr) (n : Int) (w : World) (hK : K ≤ 1048576) (hn0 : 0 ≤ n) (hn1 : n ≤ 100000) (hb : Bytes w c K) :
    Calls Try.prog 46 #[.slice c K cap, .int .i64 1, .int .i64 n] w fun e w' => ∃ r : Int, e = .returned (.int .i64 r) ∧ 0 ≤ r ∧ (r < n ∨ r = 0) ∧ Below w.heap.size w w' :=
  at_any K cap 1 c n w hK (by omega) hn0 hn1 hb
theorem at2_any (K cap : Nat) (c : Option Addr) (n : Int) (w : World) (hK : K ≤ 1048576) (hn0 : 0 ≤ n) (hn1 : n ≤ 100000) (hb : Bytes w c K) :
    Calls Try.prog 46 #[.slice c K cap, .int .i64 2, .int .i64 n] w fun e w' => ∃ r : Int, e = .returned (.int .i64 r) ∧ 0 ≤ r ∧ (r < n ∨ r = 0) ∧ Below w.heap.size w w' :=
  at_any K cap 2 c n w hK (by omega) hn0 hn1 hb

theorem turned (y q : Int) (hy0 : 0 ≤ y) (hy1 : y ≤ 65535) (hq0 : 0 ≤ q) (hq : q < 65535 ∨ q = 0) :
    ∃ z : Int, bits .xor .i64 y (IntKind.i64.wrap (1 + q)) = z ∧ 0 ≤ z ∧ z ≤ 65535 ∧ z ≠ y := by
  obtain ⟨Y, rfl⟩ := Int.eq_ofNat_of_zero_le hy0
  obtain ⟨Q, rfl⟩ := Int.eq_ofNat_of_zero_le hq0
  have e := i64_xor_nat Y (1 + Q) (by omega) (by omega)
  have hl := Crc.xor_lt Y (1 + Q) (by omega) (by omega)
  refine ⟨((Y ^^^ (1 + Q) : Nat) : Int), ?_, by omega, by omega, ?_⟩
  · rw [IntWalk.i64_in _ (by omega), ← e]; rfl
  · intro h
    have h2 : Y ^^^ (1 + Q) = Y := by omega
    have h3 : (1 + Q) ^^^ Y = 0 ^^^ Y := by rw [Nat.xor_comm, h2, Nat.zero_xor]
    have := Crc.xor_cancel h3
    omega

set_option maxHeartbeats 6400000 in
theorem fnTurns_walk (a0 : Option Addr) (len0 cap0 : Nat) (z0 : List Int) (w : World) (w0 : IsRow .u8 w a0 len0 cap0 z0) :
    Calls Try.prog 13 #[.slice a0 len0 cap0] w fun e w' => e = .returned (.bool true) ∧ Below w.heap.size w w' := by
  obtain ⟨i0, hi, hz0, hz1, hz2⟩ := info_parts infoInt
  obtain ⟨hb0, ha0⟩ := bytes_of_row w0
  have hfl0 := field0
  have hfl1 := field1
  clear w0
  by_cases hbig : 1048576 < len0
  · go_enter Try.func13, Try.ntmps13
    go_wp2_with fail
    refine (big_yes _ _ _ _ hbig).mono ?_
    rintro e w1 ⟨rfl, rfl⟩
    go_wp2
    go_ret
    exact ⟨rfl, Below.refl _ _⟩
  have hs : len0 ≤ 1048576 := by omega
  have HA : Hid (len0 ≠ 0 → ∀ b o s, a0 = some ⟨b, o, s⟩ → b < w.heap.size) := ha0
  have HY : Hid (Bytes w a0 len0) := hb0
  clear hbig ha0 hb0
  go_enter Try.func13, Try.ntmps13
  go_wp2_with fail
  refine (big_any _ _ _ _ hs).mono ?_
  rintro e w1 ⟨rfl, rfl⟩
  go_wp2_with fail
  refine (drawBlocks_any a0 len0 cap0 w1 hs HY.out HA.out).mono ?_
  rintro e w2 ⟨v, rfl, ad, cp, zs, rfl, hlz, ho2, hB2⟩
  have hn2 := (nums_of_own (B := w1.heap.size) ho2).2
  have hzlt2 : Hid (∀ g, ad = some ⟨g, 0, none⟩ → w1.heap.size ≤ g ∧ g < w2.heap.size) := fun g hg => own_lt ho2 hg
  go_wp2_with fail
  refine (implWords_any ad zs cp w2 (by omega) hn2).mono ?_
  rintro e w3 ⟨rfl, hb⟩
  have hB3 : Below w1.heap.size w1 w3 := hB2.trans (hb.mono hB2.size)
  have ho3 := own_kept ho2 hb
  have hs3 : Hid (w2.heap.size ≤ w3.heap.size) := hb.size
  clear hb hB2 hn2 ho2
  have hb : Below w3.heap.size w3 (w3.alloc (.cells #[.int .i64 (fault zs), .int .i64 (sumV zs)] 46)) := (Below.refl _ _).alloc (Nat.le_refl _) _
  have hv4 := VarI.new w3 (fault zs) (sumV zs)
  have hB4 : Below w1.heap.size w1 (w3.alloc (.cells #[.int .i64 (fault zs), .int .i64 (sumV zs)] 46)) := hB3.trans (hb.mono hB3.size)
  have ho4 := own_kept ho3 hb
  clear hb hB3 ho3
  by_cases hf : fault zs = 0 ∧ 0 < zs.length
  case neg =>
    by_cases hf1 : fault zs = 0
    · have hfb : (fault zs != 0) = false := by rw [hf1]; rfl
      have hlen : zs.length = 0 := by omega
      have hlb : ((zs.length : Int) == 0) = true := by rw [beq_iff_eq]; omega
      clear hf hf1 hlen
      go_wp2_with fail
      generalize hW : w3.alloc (.cells #[.int .i64 (fault zs), .int .i64 (sumV zs)] 46) = w4 at *
      clear hW
      have hn4 := (nums_of_own (B := w1.heap.size) ho4).2
      have hv0 := hv4.cells.1
      have hlv := hv4.lt
      go_region_held3 (fun W => W.cell? ⟨w3.heap.size, 0, none⟩ = some (.int .i64 (fault zs))) (go_keep) (first | (go_at_call 41; refine (specWords_any ad zs cp _ (by omega) ?_).mono ?_; exact hn4; rintro e w5 ⟨rfl, hb⟩; have hD : Below w4.heap.size w4 w5 := ((Below.refl w4.heap.size w4).drew).trans (Below.mono hb (Nat.le_refl _)); have k0 := (hD.cell (p := ⟨w3.heap.size, 0, none⟩) hlv).trans hv0; have hB5 : Below w1.heap.size w1 w5 := hB4.trans (hD.mono hB4.size); clear hb hD))
      go_wp2
      go_ret
      exact ⟨rfl, by assumption⟩
    · have hfb : (fault zs != 0) = true := by simpa using hf1
      clear hf hf1
      go_wp2_with fail
      generalize hW : w3.alloc (.cells #[.int .i64 (fault zs), .int .i64 (sumV zs)] 46) = w4 at *
      clear hW
      have hn4 := (nums_of_own (B := w1.heap.size) ho4).2
      have hv0 := hv4.cells.1
      have hlv := hv4.lt
      go_region_held3 (fun W => W.cell? ⟨w3.heap.size, 0, none⟩ = some (.int .i64 (fault zs))) (go_keep) (first | (go_at_call 41; refine (specWords_any ad zs cp _ (by omega) ?_).mono ?_; exact hn4; rintro e w5 ⟨rfl, hb⟩; have hD : Below w4.heap.size w4 w5 := ((Below.refl w4.heap.size w4).drew).trans (Below.mono hb (Nat.le_refl _)); have k0 := (hD.cell (p := ⟨w3.heap.size, 0, none⟩) hlv).trans hv0; have hB5 : Below w1.heap.size w1 w5 := hB4.trans (hD.mono hB4.size); clear hb hD))
      go_wp2
      go_ret
      exact ⟨rfl, by assumption⟩
  obtain ⟨hf1, hlen⟩ := hf
  have hfb : (fault zs != 0) = false := by rw [hf1]; rfl
  have hlb : ((zs.length : Int) == 0) = false := by rw [beq_eq_false_iff_ne]; omega
  have HF : Hid (fault zs = 0) := hf1
  obtain ⟨gz, rfl⟩ : ∃ g, ad = some ⟨g, 0, none⟩ := by
    rcases ho4.2 with ⟨h, h0⟩ | ⟨g, c, cur, h, _⟩
    · omega
    · simp at h; exact ⟨g, h.1⟩
  have hgz := hzlt2.out gz rfl
  clear hf1
  have hown0 : ((w3.alloc (.cells #[.int .i64 (fault zs), .int .i64 (sumV zs)] 46)).alloc (.cells #[] 2)).ownsRow (w3.heap.size + 1) 2 1 (.slice (some ⟨w3.heap.size + 1, 0, none⟩) 0 0) 0 [] :=
    ⟨by simp, .inr ⟨w3.heap.size + 1, 0, #[], rfl, Nat.le_refl _, heap_alloc2_new _ _ _, Nat.le_refl _, by unfold maxLen; omega, rfl, by simp⟩⟩
  have hnews : Hid (∀ j u, (zs.map (Value.int .i64))[j]? = some u → ((w3.alloc (.cells #[.int .i64 (fault zs), .int .i64 (sumV zs)] 46)).alloc (.cells #[] 2)).cell? ((⟨gz, 0, none⟩ : Addr).add j) = some u) := (ho4.alloc _).cells rfl
  have hmx : zs.length ≤ maxLen := by unfold maxLen; omega
  have hzz : ∀ g, g < w3.heap.size + 1 → ((w3.alloc (.cells #[.int .i64 (fault zs), .int .i64 (sumV zs)] 46)).alloc (.cells #[] 2)).heap[g]? = (w3.alloc (.cells #[.int .i64 (fault zs), .int .i64 (sumV zs)] 46)).heap[g]? := fun g hg => heap_alloc_old _ _ (by simp; omega)
  have HZZ : Hid (∀ g, g < w3.heap.size + 1 → ((w3.alloc (.cells #[.int .i64 (fault zs), .int .i64 (sumV zs)] 46)).alloc (.cells #[] 2)).heap[g]? = (w3.alloc (.cells #[.int .i64 (fault zs), .int .i64 (sumV zs)] 46)).heap[g]?) := hzz
  clear hzz
  have hone : ∀ u ∈ zs.map (Value.int .i64), u.oneCell' = true := by intro u hu; simp at hu; obtain ⟨z, _, rfl⟩ := hu; rfl
  have HONE : Hid (∀ u ∈ zs.map (Value.int .i64), u.oneCell' = true) := hone
  clear hone
  go_wp2_with (at_builtin; go_loud (refine wpList_append_own _ rfl _ _ 22 rfl (w3.heap.size + 1) 2 i0 (.int .i64 0) 1 8 Try.underlying22 hi hz0 hz1 hz2 rfl (by decide) _ 0 [] rfl hown0 ⟨gz, 0, none⟩ zs.length cp (zs.map (Value.int .i64)) rfl ?e1 hnews.out HONE.out ?e2 ?e3 ?e4 ?_))
  case e1 => simp
  case e2 => rw [Nat.zero_add]; exact hmx
  case e3 => omega
  case e4 => simp
  intro vx w5 hx5 hgrow _
  have hsame : ∀ g, g < w3.heap.size + 1 → w5.heap[g]? = (w3.alloc (.cells #[.int .i64 (fault zs), .int .i64 (sumV zs)] 46)).heap[g]? := fun g hg =>
    (hgrow.block g (by simp; omega) (by simp [Value.ownBlock]; omega)).trans (HZZ.out g hg)
  have hv5 : VarI w5 w3.heap.size (fault zs) (sumV zs) := (hsame _ (by omega)).trans hv4
  have hz5 := own_other ho4 (w' := w5) (fun g hg => hsame g (by have := (ho4.lt g hg).2; simp at this; omega))
  have hB5 : Below w1.heap.size w1 w5 := (hB4.alloc hB4.size _).grown hgrow (by have := hB4.size; simp at this ⊢; omega) (fun j hj => by simp [Value.ownBlock] at hj; have := hB4.size; simp at this; omega)
  obtain ⟨ax, cx, rfl⟩ := own_shape hx5
  obtain ⟨gx, rfl⟩ : ∃ g, ax = some ⟨g, 0, none⟩ := by
    rcases hx5.2 with ⟨h, h0⟩ | ⟨g, c, cur, h, _⟩
    · omega
    · simp at h; exact ⟨g, h.1⟩
  have hgx := hx5.lt gx rfl
  clear hgrow hsame hown0 hnews HZZ HONE ho4 hv4 hB4
  have HY5 : Hid (Bytes w5 a0 len0) := HY.out.below hB5 HA.out
  go_wp2_with fail
  refine (at1_any len0 cap0 a0 (zs.length : Int) w5 hs (by omega) (by omega) HY5.out).mono ?_
  rintro e w6 ⟨r, rfl, hr0, hr1, hb⟩
  have hv6 := hv5.below hb
  have hz6 := own_kept hz5 hb
  have hx6 := own_kept hx5 hb
  have hB6 : Below w1.heap.size w1 w6 := hB5.trans (hb.mono hB5.size)
  have hr2 : r < (zs.length : Int) := by omega
  obtain ⟨R, rfl⟩ := Int.eq_ofNat_of_zero_le hr0
  clear hb hv5 hz5 hx5 hB5 HY5 hr1
  have HY6 : Hid (Bytes w6 a0 len0) := HY.out.below hB6 HA.out
  have hcx : w6.cell? ⟨gx, R, none⟩ = some (.int .i64 (zs.getD R 0)) := by
    rw [hx6.cellAt R (by omega), List.getElem?_map, List.getD_eq_getElem?_getD, List.getElem?_eq_getElem (by omega)]; rfl
  have hfx := hx6.frozenAt R
  have hy12 := (fault_words HF.out).2 _ (Crc.getD_mem (zs := zs) (k := R) (by omega))
  obtain ⟨y, hy⟩ : ∃ y, y = zs.getD R 0 := ⟨_, rfl⟩
  rw [← hy] at hcx hy12
  have HYY : Hid (y = zs.getD R 0) := hy
  have hlx := (hx6.lt gx rfl).2
  obtain ⟨hy1, hy2⟩ := hy12
  clear hy
  go_wp2_with fail
  go_region_with (first | (go_at_call 46; refine (at2_any len0 cap0 a0 65535 _ hs (by omega) (by omega) ?_).mono ?_; exact HY6.out; rintro e w7 ⟨q, rfl, hq0, hq1, hb⟩; have hD : Below w6.heap.size w6 w7 := ((Below.refl w6.heap.size w6).drew).trans (Below.mono hb (Nat.le_refl _)); have k0 := (hD.cell (p := ⟨gx, R, none⟩) hlx).trans hcx; have k1 := (hD.frozen (p := ⟨gx, R, none⟩) hlx).trans hfx; obtain ⟨z, hzx, hz3, hz4, hz5⟩ := turned y q hy1 hy2 hq0 hq1; have hv7 := hv6.below hD; have ho7 := own_kept hz6 hD; have hx7 := own_kept hx6 hD; have hB7 := hB6.trans (hD.mono hB6.size); clear hb hD hq0 hq1))
  all_goals
    have hRl : R < zs.length := by omega
    have hne : z ≠ zs.getD R 0 := by rw [← HYY.out]; exact hz5
    obtain ⟨Sx, hSx, hcrc⟩ := turned_sum HF.out hRl ⟨hz3, hz4⟩ hne gx cx
    have HCRC : Hid (∀ w, Nums w (some ⟨gx, 0, none⟩) (zs.set R z) → Calls Try.prog 42 #[.slice (some ⟨gx, 0, none⟩) zs.length cx] w fun e w' => e = .returned (res 0 Sx) ∧ Below w.heap.size w w') := hcrc
    have hccx := own_cap hx7
    have hccz := own_cap ho7
    have hgxb := (hx7.lt gx rfl).1
    have hst := (hx7.stored R (.int .i64 z)).1
    rw [← List.map_set] at hst
    have hnx8 := (nums_of_own (B := w3.heap.size + 1) (n := zs.length) (cap := cx) (a := some ⟨gx, 0, none⟩) (zs := zs.set R z) (w := w7.setCell ⟨gx, R, none⟩ (.int .i64 z)) (by unfold Own; rw [List.length_set]; exact hst)).2
    have hs3' := hs3.out
    have ho8 := own_other ho7 (w' := w7.setCell ⟨gx, R, none⟩ (.int .i64 z)) (fun g hg => heap_setCell_other _ _ _ _ (by simp [Value.ownBlock] at hg; show g ≠ gx; omega))
    have hv8 : VarI (w7.setCell ⟨gx, R, none⟩ (.int .i64 z)) w3.heap.size (fault zs) (sumV zs) := (heap_setCell_other _ _ _ _ (by show w3.heap.size ≠ gx; omega)).trans hv7
    have hB8 : Below w1.heap.size w1 (w7.setCell ⟨gx, R, none⟩ (.int .i64 z)) := hB7.setCell (by show w1.heap.size ≤ gx; omega) _
    have hnz8 := (nums_of_own (B := w1.heap.size) ho8).2
    have HBAD1 : Hid (∀ (b : Option Addr) (cs : Nat) (w : World), Nums w (some ⟨gx, 0, none⟩) (zs.set R z) → Nums w b (sumsTo zs (cnt zs)) → Calls Try.prog 48 #[.slice (some ⟨gx, 0, none⟩) zs.length cx, .slice b (sumsTo zs (cnt zs)).length cs] w fun e w' => e = .returned (res 0 ((R / 8 : Nat) : Int)) ∧ Below w.heap.size w w') := fun b cs w h1 h2 => turned_bad HF.out hRl ⟨hz3, hz4⟩ hne gx cx cs hccx b w h1 h2
    have HBAD2 : Hid (∀ (b : Option Addr) (cs : Nat) (w : World), Nums w (some ⟨gz, 0, none⟩) zs → Nums w b (sumsTo zs (cnt zs)) → Calls Try.prog 48 #[.slice (some ⟨gz, 0, none⟩) zs.length cp, .slice b (sumsTo zs (cnt zs)).length cs] w fun e w' => e = .returned (res 4 0) ∧ Below w.heap.size w w') := fun b cs w h1 h2 => same_bad HF.out gz cp cs hccz b w h1 h2
    have hbs := implBlocks_any (some ⟨gz, 0, none⟩) zs cp (w7.setCell ⟨gx, R, none⟩ (.int .i64 z)) hccz (by omega) hnz8
    rw [show sumsV zs = sumsTo zs (cnt zs) from by rw [sumsV, if_pos HF.out], HF.out] at hbs
    obtain ⟨SS, hSS⟩ : ∃ SS, SS = sumsTo zs (cnt zs) := ⟨_, rfl⟩
    obtain ⟨Q8, hQ8⟩ : ∃ Q8, Q8 = ((R / 8 : Nat) : Int) := ⟨_, rfl⟩
    rw [← hSS] at hbs HBAD1 HBAD2
    rw [← hQ8] at HBAD1
    have hSl : Hid (SS.length = (zs.length + 7) / 8) := by show _ = _; rw [hSS, sumsTo_length]; rfl
    have HQ : Hid (Q8 = ((R / 8 : Nat) : Int)) := hQ8
    clear hSS hQ8 hne hcrc hst hx7 ho7 hv7 hB7 hs3' k0 k1 hzx hcx hfx hv6 hz6 hx6 hB6
    go_wp2_with fail
    generalize hW : w7.setCell ⟨gx, R, none⟩ (.int .i64 z) = w8 at *
    clear hW
    refine hbs.mono ?_
    rintro e w9 ⟨v, rfl, ho9, hb⟩
    obtain ⟨ab, cs, rfl⟩ := own_shape ho9
    have hv9 := hv8.below hb
    have hnx9 := hnx8.below hb
    have hnz9 := hnz8.below hb
    have hB9 : Below w1.heap.size w1 w9 := hB8.trans (hb.mono hB8.size)
    have hns9 := (nums_of_own ho9).2
    clear hb hv8 hnx8 hnz8 hB8 ho8 ho9 hbs
    go_wp2_with fail
    have hb : Below w9.heap.size w9 (w9.alloc (.cells #[.int .i64 0, .slice ab SS.length cs] 61)) := (Below.refl _ _).alloc (Nat.le_refl _) _
    have ht10 := Var.new w9 0 (.slice ab SS.length cs)
    have hv10 := hv9.below hb
    have hnx10 := hnx9.below hb
    have hnz10 := hnz9.below hb
    have hns10 := hns9.below hb
    have hB10 : Below w1.heap.size w1 (w9.alloc (.cells #[.int .i64 0, .slice ab SS.length cs] 61)) := hB9.trans (hb.mono hB9.size)
    clear hb hv9 hnx9 hnz9 hns9 hB9
    refine (HBAD1.out ab cs _ hnx10 hns10).mono ?_
    rintro e w11 ⟨rfl, hb⟩
    have ht11 := ht10.below hb
    have hv11 := hv10.below hb
    have hnx11 := hnx10.below hb
    have hnz11 := hnz10.below hb
    have hns11 := hns10.below hb
    have hB11 : Below w1.heap.size w1 w11 := hB10.trans (hb.mono hB10.size)
    clear hb ht10 hv10 hnx10 hnz10 hns10 hB10
    have hb : Below w11.heap.size w11 (w11.alloc (.cells #[.int .i64 0, .int .i64 Q8] 46)) := (Below.refl _ _).alloc (Nat.le_refl _) _
    have hu12 := VarI.new w11 0 Q8
    have ht12 := ht11.below hb
    have hv12 := hv11.below hb
    have hnx12 := hnx11.below hb
    have hnz12 := hnz11.below hb
    have hns12 := hns11.below hb
    have hB12 : Below w1.heap.size w1 (w11.alloc (.cells #[.int .i64 0, .int .i64 Q8] 46)) := hB11.trans (hb.mono hB11.size)
    clear hb ht11 hv11 hnx11 hnz11 hns11 hB11
    have hw1 : (Q8 == IntKind.i64.wrap ((R : Int) / 8)) = true := by rw [HQ.out, IntWalk.i64_in _ (by omega), beq_iff_eq]; omega
    have hw2 : IntKind.i64.wrap ((zs.length : Int) + 7) = (zs.length : Int) + 7 := IntWalk.i64_in _ (by omega)
    have hw4 : ((SS.length : Int) == IntKind.i64.wrap (((zs.length : Int) + 7).tdiv 8)) = true := by
      rw [Int.tdiv_eq_ediv_of_nonneg (by omega), IntWalk.i64_in _ (by omega), beq_iff_eq, hSl.out]; omega
    go_wp2_with fail
    generalize hW : w11.alloc (.cells #[.int .i64 0, .int .i64 Q8] 46) = w12 at *
    clear hW
    obtain ⟨ka0, ka1⟩ := hv12.cells
    obtain ⟨kt0, kt1⟩ := ht12.cells
    obtain ⟨ku0, ku1⟩ := hu12.cells
    have hla := hv12.lt
    have hlt := ht12.lt
    have hlu := hu12.lt
    clear HBAD1
    go_region_held3 (fun W => W.cell? ⟨w3.heap.size, 1, none⟩ = some (.int .i64 (sumV zs)) ∧ W.cell? ⟨w9.heap.size, 0, none⟩ = some (.int .i64 0) ∧ W.cell? ⟨w9.heap.size, 1, none⟩ = some (.slice ab SS.length cs) ∧ W.cell? ⟨w11.heap.size, 0, none⟩ = some (.int .i64 0) ∧ W.cell? ⟨w11.heap.size, 1, none⟩ = some (.int .i64 Q8)) (go_keep) (first | (go_at_call 42; refine (HCRC.out _ ?_).mono ?_; exact hnx12; rintro e w13 ⟨rfl, hb⟩; have hD : Below w12.heap.size w12 w13 := ((Below.refl w12.heap.size w12).drew).trans (Below.mono hb (Nat.le_refl _)); have k0 := (hD.cell (p := ⟨w3.heap.size, 1, none⟩) hla).trans ka1; have k1 := (hD.cell (p := ⟨w9.heap.size, 0, none⟩) hlt).trans kt0; have k2 := (hD.cell (p := ⟨w9.heap.size, 1, none⟩) hlt).trans kt1; have k3 := (hD.cell (p := ⟨w11.heap.size, 0, none⟩) hlu).trans ku0; have k4 := (hD.cell (p := ⟨w11.heap.size, 1, none⟩) hlu).trans ku1; have hnz13 := hnz12.below hD; have hns13 := hns12.below hD; have hB13 := hB12.trans (hD.mono hB12.size); have hs13 := hD.size; clear hb hD) | (go_at_call 48; refine (HBAD2.out ab cs _ ?_ ?_).mono ?_; exact hnz13; exact hns13; rintro e w14 ⟨rfl, hb⟩; have j0 := (hb.cell (p := ⟨w3.heap.size, 1, none⟩) (Nat.lt_of_lt_of_le hla hs13)).trans k0; have j1 := (hb.cell (p := ⟨w9.heap.size, 0, none⟩) (Nat.lt_of_lt_of_le hlt hs13)).trans k1; have j2 := (hb.cell (p := ⟨w9.heap.size, 1, none⟩) (Nat.lt_of_lt_of_le hlt hs13)).trans k2; have j3 := (hb.cell (p := ⟨w11.heap.size, 0, none⟩) (Nat.lt_of_lt_of_le hlu hs13)).trans k3; have j4 := (hb.cell (p := ⟨w11.heap.size, 1, none⟩) (Nat.lt_of_lt_of_le hlu hs13)).trans k4; have hB14 := hB13.trans (hb.mono hB13.size); clear hb))
    go_wp2
    go_ret
    exact ⟨rfl, by assumption⟩
end Go.Proofs.Ytafngcmgmdmciaa
