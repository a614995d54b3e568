/-
  impl.regOpOf: what an op is called, what its words are.
-/
import Derived.Test.YtcikofhbfncgdaaRgRep
import Derived.Test.YtcikofhbfncgdaaStpM
import Derived.Test.YtcikofhbfncgdaaRgM
import Derived.Test.YtcikofhbfncgdaaStkMem
import Derived.Test.YtcikofhbfncgdaaIStkB
import Derived.Deep.WholeRow
namespace Go.Proofs.Ytcikofhbfncgdaa
open Go.RowKit
set_option linter.unusedVariables false
attribute [local go_sem ↓] Go.wp_at_zero Go.wp_at_succ

set_option maxHeartbeats 6400000 in
set_option maxRecDepth 100000 in
theorem iStartR_any (a : Option Addr) (zs : List Int) (c : Nat) (w : World) (hn : Nums w a zs) (hc : a = none → c = 0) (hl : zs.length ≤ 1048576) :
    Calls Try.prog 25 #[.slice a zs.length c] w fun e w' => ResR w w' e (startRC zs) (startRR zs) := by
  have hW := (Below.refl w.heap.size w).alloc (Nat.le_refl _) (.cells zero8 30)
  have HW : Hid (Below w.heap.size w (w.alloc (.cells zero8 30)) ∧ (w.alloc (.cells zero8 30)).heap[w.heap.size]? = some (.cells zero8 30 (0, 0))) := ⟨hW, heap_alloc_new _ _⟩
  have HRP : Hid (∀ (W : World) (b : Nat), W.cell? ⟨b, 0, none⟩ = some (.int .i64 65535) → Calls Try.prog 81 #[.slice (some ⟨b, 0, none⟩) 1 1, .int .i64 24] W fun e w' => ∃ g, e = .returned (.slice (some ⟨g, 0, none⟩) 24 24) ∧ Own w' W.heap.size (.slice (some ⟨g, 0, none⟩) 24 24) (startRM zs).stk ∧ Below W.heap.size W w') := fun W b h => rep_any b 0 65535 W h
  have HCC : Hid (∀ W, Below w.heap.size w W → Calls Try.prog 80 #[.slice a zs.length c] W fun e w' => ∃ a' c', e = .returned (.slice a' zs.length c') ∧ Own w' W.heap.size (.slice a' zs.length c') (startRM zs).cells ∧ Below W.heap.size W w') := fun W h => (clone_any _ zs W (RowV.below ⟨a, c, rfl, hn, hc⟩ h) hl).mono fun e w' ⟨v', h1, h2, h3⟩ => by
    obtain ⟨a', c', rfl⟩ := own_shape h2
    exact ⟨a', c', h1, h2, h3⟩
  have HCF : Hid (∀ W s v, RowV W s (startRM zs).stk → RowV W v (startRM zs).cells → Calls Try.prog 21 #[.agg #[.int .i64 0, s, v, .int .i64 0, .int .i64 0, .int .i64 0, .bool false]] W fun e w' => e = .returned (.int .i64 (startRC zs)) ∧ Below W.heap.size W w') := fun W s v hs hv => irgFault_any (startRM zs) _ _ W hs hv (by show (List.replicate 24 _).length ≤ _; simp) hl
  have HR : Hid ((startRC zs = 0 → startRR zs = startRM zs) ∧ (startRC zs ≠ 0 → startRR zs = zeroM)) := ⟨fun h => if_pos h, fun h => if_neg h⟩
  have HV : Hid (∀ s v, resV 0 (startRM zs) s v = .agg #[.int .i64 0, .int .i64 0, s, v, .int .i64 0, .int .i64 0, .int .i64 0, .bool false]) := fun _ _ => rfl
  have HMA : Hid (∀ (W : World) (r B : Nat) (sv cv : Value), w.heap.size ≤ r → r < B → Own W B sv (startRM zs).stk → Own W B cv (startRM zs).cells → (∀ g, sv.ownBlock = some g → cv.ownBlock ≠ some g) → Below w.heap.size w W → ResR w ((((((((W.setCell ⟨r, 0, none⟩ (.int .i64 0)).setCell ⟨r, 1, none⟩ (.int .i64 0)).setCell ⟨r, 2, none⟩ sv).setCell ⟨r, 3, none⟩ cv).setCell ⟨r, 4, none⟩ (.int .i64 0)).setCell ⟨r, 5, none⟩ (.int .i64 0)).setCell ⟨r, 6, none⟩ (.int .i64 0)).setCell ⟨r, 7, none⟩ (.bool false)) (.returned (resV 0 (startRM zs) sv cv)) 0 (startRM zs)) := fun W r B sv cv h1 h2 h3 h4 h5 h6 => res_mach w W r B (startRM zs) sv cv h1 h2 h3 h4 h5 h6
  clear hW hn hc hl
  generalize startRC zs = F at *
  generalize startRR zs = R at *
  generalize startRM zs = M at *
  generalize hL : zs.length = L at *
  go_enter Try.func25, Try.ntmps25
  go_upto_region 1 with fail
  generalize w.alloc (.cells zero8 30) = W at *
  obtain ⟨x1, x2⟩ := HW.out
  have HB := hid x1
  have HA0 := hid x2
  have HWS : Hid (w.heap.size < W.heap.size) := (Array.getElem?_eq_some_iff.1 x2).1
  have b1 := (Below.refl W.heap.size W).alloc (Nat.le_refl _) (.cells #[.int .i64 65535] 2)
  have y1 := heap_alloc_new W (.cells #[.int .i64 65535] 2)
  have HB1 := hid b1
  have HC1 : Hid ((W.alloc (.cells #[.int .i64 65535] 2)).cell? ⟨W.heap.size, 0, none⟩ = some (.int .i64 65535)) := cell_of_row _ _ 0 _ _ _ y1
  clear x1 x2 HW b1 y1
  go_wp2_with fail
  refine (HRP.out _ _ HC1.out).mono ?_
  rintro e w2 ⟨g, rfl, o1, b2⟩
  have HB2 := hid (HB1.out.trans (b2.mono HB1.out.size))
  have HO1 := hid (own_mono o1 HB1.out.size)
  have HB2w := hid (HB.out.trans (HB2.out.mono HB.out.size))
  clear o1 b2 HB1 HC1 HRP
  go_wp2_with fail
  refine (HCC.out w2 HB2w.out).mono ?_
  rintro e w3 ⟨a', c', rfl, o2, b3⟩
  have HO13 := hid (own_kept HO1.out b3)
  have HO23 := hid (own_mono o2 (C := W.heap.size) HB2.out.size)
  have HD : Hid (∀ k, (Value.slice (some ⟨g, 0, none⟩) 24 24).ownBlock = some k → (Value.slice a' L c').ownBlock ≠ some k) := fun k h1 h2 => by
    have := (HO1.out.lt k h1).2
    have := (o2.lt k h2).1
    omega
  have HB3 := hid (HB2.out.trans (b3.mono HB2.out.size))
  clear o2 b3 HO1 HB2 HB2w HCC
  go_upto_region 2 with fail
  have y3 := heap_alloc_new w3 (.cells #[.int .i64 0, .slice (some ⟨g, 0, none⟩) 24 24, .slice a' L c', .int .i64 0, .int .i64 0, .int .i64 0, .bool false] 28)
  have b4 := (Below.refl w3.heap.size w3).alloc (Nat.le_refl _) (.cells #[.int .i64 0, .slice (some ⟨g, 0, none⟩) 24 24, .slice a' L c', .int .i64 0, .int .i64 0, .int .i64 0, .bool false] 28)
  have HO14 := hid (HO13.out.alloc (.cells #[.int .i64 0, .slice (some ⟨g, 0, none⟩) 24 24, .slice a' L c', .int .i64 0, .int .i64 0, .int .i64 0, .bool false] 28))
  have HO24 := hid (HO23.out.alloc (.cells #[.int .i64 0, .slice (some ⟨g, 0, none⟩) 24 24, .slice a' L c', .int .i64 0, .int .i64 0, .int .i64 0, .bool false] 28))
  have HB4 := hid (HB3.out.trans (b4.mono HB3.out.size))
  have HY := hid y3
  clear y3 b4 HO13 HO23 HB3
  generalize w3.alloc (.cells #[.int .i64 0, .slice (some ⟨g, 0, none⟩) 24 24, .slice a' L c', .int .i64 0, .int .i64 0, .int .i64 0, .bool false] 28) = W4 at *
  generalize w3.heap.size = q at *
  obtain ⟨d0, d1, d2, d3, d4, d5, d6⟩ := cl7 HY.out
  have HC := hid (HCF.out W4 _ _ (by have := own_row HO14.out; exact this) (by have := own_row HO24.out; exact this))
  clear HCF
  go_upto_region 3 with (go_at_call 21; refine HC.out.mono ?_; rintro e w5 ⟨rfl, hb5⟩)
  have HY5 := hid (blk8 HY.out hb5)
  have HB5 := hid (HB4.out.trans (hb5.mono HB4.out.size))
  have HO15 := hid (own_kept HO14.out hb5)
  have HO25 := hid (own_kept HO24.out hb5)
  have HA5 := hid (blk8 HA0.out HB5.out)
  have HBW : Hid (Below w.heap.size w w5) := HB.out.trans (HB5.out.mono HB.out.size)
  clear hb5 HY HB4 HO14 HO24 HC HA0 HB HB5 d0 d1 d2 d3 d4 d5 d6
  obtain ⟨d0, d1, d2, d3, d4, d5, d6⟩ := cl7 HY5.out
  obtain ⟨g0, g1, g2, g3, g4, g5, g6, g7⟩ := cl8 HA5.out
  obtain ⟨f0, f1, f2, f3, f4, f5, f6, f7⟩ := fl8 HA5.out
  by_cases hF : F = 0
  · have hR := HR.out.1 hF
    have HF := hid (HMA.out w5 w.heap.size W.heap.size _ _ (Nat.le_refl _) HWS.out HO15.out HO25.out HD.out HBW.out)
    rw [HV.out] at HF
    subst hF hR
    clear HO15 HO25 HD HBW HA5 HY5 HR HWS HMA HV
    go_wp2_with fail
    refine bodyPost_ret (v := .agg #[.int .i64 0, .int .i64 0, .slice (some ⟨g, 0, none⟩) 24 24, .slice a' L c', .int .i64 0, .int .i64 0, .int .i64 0, .bool false]) (by simp [results, Try.results25, go_sem, g0, g1, g2, g3, g4, g5, g6, g7]; try rfl) rfl ?_
    exact HF.out
  · have hR := HR.out.2 hF
    subst hR
    have eF : (F != 0) = true := by simpa using hF
    have HF : Hid _ := res_code w w5 w.heap.size F (Nat.le_refl _) HBW.out
    clear HO15 HO25 HD HBW HA5 HY5 HR HWS hF HMA HV
    go_wp2_with fail
    refine bodyPost_ret (v := codeV F) (by simp [results, Try.results25, go_sem, g0, g1, g2, g3, g4, g5, g6, g7]; try rfl) rfl ?_
    exact HF.out
end Go.Proofs.Ytcikofhbfncgdaa
namespace Go.Proofs.Ytcikofhbfncgdaa
open Go.RowKit
set_option linter.unusedVariables false

abbrev ropV (nm ws : ByteArray) : Value := .agg #[.string nm, .string ws]
abbrev ropZ : Array Value := #[.string ⟨#[]⟩, .string ⟨#[]⟩, .string ⟨#[]⟩, .string ⟨#[]⟩, .string ⟨#[]⟩, .string ⟨#[]⟩, .string ⟨#[]⟩, .string ⟨#[]⟩, .string ⟨#[]⟩, .string ⟨#[]⟩, .string ⟨#[]⟩, .string ⟨#[]⟩, .string ⟨#[]⟩, .string ⟨#[]⟩, .string ⟨#[]⟩, .string ⟨#[]⟩, .string ⟨#[]⟩, .string ⟨#[]⟩, .string ⟨#[]⟩, .string ⟨#[]⟩, .string ⟨#[]⟩, .string ⟨#[]⟩, .string ⟨#[]⟩, .string ⟨#[]⟩, .string ⟨#[]⟩, .string ⟨#[]⟩, .string ⟨#[]⟩, .string ⟨#[]⟩]
abbrev ropA : Array Value := #[.string ⟨#[]⟩, .string ⟨#[]⟩, .string ⟨#[99, 111, 110, 115, 116]⟩, .string ⟨#[114, 45]⟩, .string ⟨#[108, 111, 97, 100]⟩, .string ⟨#[114, 99]⟩, .string ⟨#[115, 116, 111, 114, 101]⟩, .string ⟨#[99, 114]⟩, .string ⟨#[108, 111, 97, 100, 120]⟩, .string ⟨#[114, 114, 45, 45]⟩, .string ⟨#[115, 116, 111, 114, 101, 120]⟩, .string ⟨#[114, 114, 45, 45]⟩, .string ⟨#[116, 119, 111]⟩, .string ⟨#[114, 114, 114, 45]⟩, .string ⟨#[110, 101, 103]⟩, .string ⟨#[114, 114]⟩, .string ⟨#[110, 111, 116]⟩, .string ⟨#[114, 114]⟩, .string ⟨#[98, 111, 111, 108]⟩, .string ⟨#[114]⟩, .string ⟨#[106, 117, 109, 112]⟩, .string ⟨#[45]⟩, .string ⟨#[122, 101, 114, 111]⟩, .string ⟨#[114, 45]⟩, .string ⟨#[109, 97, 114, 107]⟩, .string ⟨#[45]⟩, .string ⟨#[101, 110, 100]⟩, .string ⟨#[]⟩]
theorem rzero14 (W : World) : (zeroValue 148).run Try.prog W = .ok (.agg ropZ) W := by kernel_rfl
theorem rbuild14 (W : World) : (Instr.build 148 #[(1, .agg #[.string ⟨#[99, 111, 110, 115, 116]⟩, .string ⟨#[114, 45]⟩]), (2, .agg #[.string ⟨#[108, 111, 97, 100]⟩, .string ⟨#[114, 99]⟩]), (3, .agg #[.string ⟨#[115, 116, 111, 114, 101]⟩, .string ⟨#[99, 114]⟩]), (4, .agg #[.string ⟨#[108, 111, 97, 100, 120]⟩, .string ⟨#[114, 114, 45, 45]⟩]), (5, .agg #[.string ⟨#[115, 116, 111, 114, 101, 120]⟩, .string ⟨#[114, 114, 45, 45]⟩]), (6, .agg #[.string ⟨#[116, 119, 111]⟩, .string ⟨#[114, 114, 114, 45]⟩]), (7, .agg #[.string ⟨#[110, 101, 103]⟩, .string ⟨#[114, 114]⟩]), (8, .agg #[.string ⟨#[110, 111, 116]⟩, .string ⟨#[114, 114]⟩]), (9, .agg #[.string ⟨#[98, 111, 111, 108]⟩, .string ⟨#[114]⟩]), (10, .agg #[.string ⟨#[106, 117, 109, 112]⟩, .string ⟨#[45]⟩]), (11, .agg #[.string ⟨#[122, 101, 114, 111]⟩, .string ⟨#[114, 45]⟩]), (12, .agg #[.string ⟨#[109, 97, 114, 107]⟩, .string ⟨#[45]⟩]), (13, .agg #[.string ⟨#[101, 110, 100]⟩, .string ⟨#[]⟩])]).run Try.prog W = .ok (.agg ropA) W := by kernel_rfl
theorem rstore14 (w : World) : (storeCells ⟨w.heap.size, 0, none⟩ ropA.toList 0).run Try.prog (w.alloc (.cells ropZ 148)) = .ok () (w.alloc (.cells ropA 148)) :=
  run_storeCells_new w 148 ropZ ropA (by kernel_rfl) (by rfl) (by decide +kernel)
theorem rstore14' (w : World) (o : Obj) : (storeCells ⟨w.heap.size + 1, 0, none⟩ ropA.toList 0).run Try.prog ((w.alloc o).alloc (.cells ropZ 148)) = .ok () ((w.alloc o).alloc (.cells ropA 148)) := by
  have := rstore14 (w.alloc o)
  simpa using this
abbrev ROpOf (k : Int) (v : Value) : Prop := ∀ w : World, Calls Try.prog 94 #[.int .i64 k] w fun e w' => e = .returned v ∧ Below w.heap.size w w'
set_option maxHeartbeats 1600000 in
set_option maxRecDepth 100000 in
theorem rop_k (k : Nat) (hk0 : (0 : Int) ≤ (k : Int)) (hk1 : (k : Int) < 14) (nm ws : ByteArray) (hv : ∀ j u, #[Value.string nm, .string ws][j]? = some u → ropA[k * 2 + j]? = some u) :
    ROpOf k (ropV nm ws) := by
  intro w
  have hz := rzero14
  have hb := rbuild14
  have hst := rstore14'
  have hs : ropA.size = 28 := rfl
  have hs0 : ropZ.size = 28 := rfl
  generalize ropA = A at *
  generalize ropZ = Z at *
  have hc : ∀ j u, #[Value.string nm, .string ws][j]? = some u → ((w.alloc (.cells #[.string ⟨#[]⟩, .string ⟨#[]⟩] 117)).alloc (.cells A 148)).cell? ⟨w.heap.size + 1, k * 2 + j, none⟩ = some u := fun j u hj => by
    have e := heap_alloc_new (w.alloc (.cells #[.string ⟨#[]⟩, .string ⟨#[]⟩] 117)) (.cells A 148)
    rw [show (w.alloc (.cells #[.string ⟨#[]⟩, .string ⟨#[]⟩] 117)).heap.size = w.heap.size + 1 from by simp] at e
    rw [cell_of_row _ _ _ _ _ _ e]
    exact hv j u hj
  have c0 := hc 0 _ rfl
  have c1 := hc 1 _ rfl
  clear hc hv
  simp only [Nat.add_zero] at c0
  go_enter Try.func94, Try.ntmps94
  go_wp2_with (show Go.wpList _ _ _ (Go.Oper.mk _ (Go.Op.build 148 _) _ _ _ _ :: _) _ _; refine wpList_buildS _ rfl 148 _ rfl (.agg A) _ (by simp [go_sem]) (hb _) ?_)
  have e1 := heap_alloc_new w (.cells #[.string nm, .string ws] 117)
  have e2 : ((w.alloc (.cells #[.string nm, .string ws] 117)).alloc (.cells A 148)).heap[w.heap.size]? = _ := (Below.heap_alloc _ _ _ (by simp)).trans e1
  have hB : Below w.heap.size w ((w.alloc (.cells #[.string nm, .string ws] 117)).alloc (.cells A 148)) := ((Below.refl _ _).alloc (Nat.le_refl _) _).alloc (by simp) _
  generalize ((w.alloc (.cells #[.string nm, .string ws] 117)).alloc (.cells A 148)) = W at *
  have r0 : W.cell? ⟨w.heap.size, 0, none⟩ = some (.string nm) := cell_of_row _ _ 0 _ _ _ e2
  have r1 : W.cell? ⟨w.heap.size, 1, none⟩ = some (.string ws) := cell_of_row _ _ 1 _ _ _ e2
  refine bodyPost_ret (v := ropV nm ws) (by simp [results, Try.results94, go_sem, r0, r1]) rfl ⟨rfl, hB⟩
/-- what an op is called, what its words are -/
def ropNm (op : Int) : List UInt8 := if op = 1 then [99, 111, 110, 115, 116] else if op = 2 then [108, 111, 97, 100] else if op = 3 then [115, 116, 111, 114, 101] else if op = 4 then [108, 111, 97, 100, 120] else if op = 5 then [115, 116, 111, 114, 101, 120] else if op = 6 then [116, 119, 111] else if op = 7 then [110, 101, 103] else if op = 8 then [110, 111, 116] else if op = 9 then [98, 111, 111, 108] else if op = 10 then [106, 117, 109, 112] else if op = 11 then [122, 101, 114, 111] else if op = 12 then [109, 97, 114, 107] else [101, 110, 100]
def ropWd (op : Int) : List UInt8 := if op = 1 then [114, 45] else if op = 2 then [114, 99] else if op = 3 then [99, 114] else if op = 4 then [114, 114, 45, 45] else if op = 5 then [114, 114, 45, 45] else if op = 6 then [114, 114, 114, 45] else if op = 7 then [114, 114] else if op = 8 then [114, 114] else if op = 9 then [114] else if op = 10 then [45] else if op = 11 then [114, 45] else if op = 12 then [45] else []
theorem regOp_any (op : Int) (h1 : 1 ≤ op) (h2 : op ≤ 13) : ROpOf op (ropV (bs (ropNm op)) (bs (ropWd op))) := by
  have hop : op = 1 ∨ op = 2 ∨ op = 3 ∨ op = 4 ∨ op = 5 ∨ op = 6 ∨ op = 7 ∨ op = 8 ∨ op = 9 ∨ op = 10 ∨ op = 11 ∨ op = 12 ∨ op = 13 := by omega
  rcases hop with rfl | rfl | rfl | rfl | rfl | rfl | rfl | rfl | rfl | rfl | rfl | rfl | rfl
  · exact rop_k 1 (by omega) (by omega) _ _ (fun j u h => by
      match j, h with
      | 0, h => exact h
      | 1, h => exact h
      | j + 2, h => simp at h)
  · exact rop_k 2 (by omega) (by omega) _ _ (fun j u h => by
      match j, h with
      | 0, h => exact h
      | 1, h => exact h
      | j + 2, h => simp at h)
  · exact rop_k 3 (by omega) (by omega) _ _ (fun j u h => by
      match j, h with
      | 0, h => exact h
      | 1, h => exact h
      | j + 2, h => simp at h)
  · exact rop_k 4 (by omega) (by omega) _ _ (fun j u h => by
      match j, h with
      | 0, h => exact h
      | 1, h => exact h
      | j + 2, h => simp at h)
  · exact rop_k 5 (by omega) (by omega) _ _ (fun j u h => by
      match j, h with
      | 0, h => exact h
      | 1, h => exact h
      | j + 2, h => simp at h)
  · exact rop_k 6 (by omega) (by omega) _ _ (fun j u h => by
      match j, h with
      | 0, h => exact h
      | 1, h => exact h
      | j + 2, h => simp at h)
  · exact rop_k 7 (by omega) (by omega) _ _ (fun j u h => by
      match j, h with
      | 0, h => exact h
      | 1, h => exact h
      | j + 2, h => simp at h)
  · exact rop_k 8 (by omega) (by omega) _ _ (fun j u h => by
      match j, h with
      | 0, h => exact h
      | 1, h => exact h
      | j + 2, h => simp at h)
  · exact rop_k 9 (by omega) (by omega) _ _ (fun j u h => by
      match j, h with
      | 0, h => exact h
      | 1, h => exact h
      | j + 2, h => simp at h)
  · exact rop_k 10 (by omega) (by omega) _ _ (fun j u h => by
      match j, h with
      | 0, h => exact h
      | 1, h => exact h
      | j + 2, h => simp at h)
  · exact rop_k 11 (by omega) (by omega) _ _ (fun j u h => by
      match j, h with
      | 0, h => exact h
      | 1, h => exact h
      | j + 2, h => simp at h)
  · exact rop_k 12 (by omega) (by omega) _ _ (fun j u h => by
      match j, h with
      | 0, h => exact h
      | 1, h => exact h
      | j + 2, h => simp at h)
  · exact rop_k 13 (by omega) (by omega) _ _ (fun j u h => by
      match j, h with
      | 0, h => exact h
      | 1, h => exact h
      | j + 2, h => simp at h)
theorem ropWd_len (op : Int) (h1 : 1 ≤ op) (h2 : op ≤ 13) : ((ropWd op).length : Int) = argR op := by
  have hop : op = 1 ∨ op = 2 ∨ op = 3 ∨ op = 4 ∨ op = 5 ∨ op = 6 ∨ op = 7 ∨ op = 8 ∨ op = 9 ∨ op = 10 ∨ op = 11 ∨ op = 12 ∨ op = 13 := by omega
  rcases hop with rfl | rfl | rfl | rfl | rfl | rfl | rfl | rfl | rfl | rfl | rfl | rfl | rfl <;> rfl
attribute [local go_sem] bs_size
set_option maxHeartbeats 800000 in
theorem implArgsR (op : Int) (w : World) : Calls Try.prog 44 #[.int .i64 op] w fun e w' => e = .returned (.agg #[.int .i64 (if inB op 1 13 then 0 else 3), .int .i64 (if inB op 1 13 then argR op else 0)]) ∧ Below w.heap.size w w' := by
  have HI : Hid (∀ W, Calls Try.prog 67 #[.int .i64 op, .int .i64 1, .int .i64 13] W fun e w' => e = .returned (.bool (inB op 1 13)) ∧ w' = W) := within_any op 1 13
  cases hq : inB op 1 13
  · rw [hq] at HI
    have hB : Below w.heap.size w (w.alloc (.cells #[.int .i64 3, .int .i64 0] 61)) := (Below.refl _ _).alloc (Nat.le_refl _) _
    go_enter Try.func44, Try.ntmps44
    go_wp2_with fail
    refine (HI.out _).mono ?_
    rintro e w1 ⟨rfl, rfl⟩
    go_wp2_with fail
    refine bodyPost_ret (v := .agg #[.int .i64 3, .int .i64 0]) (by simp [results, Try.results44, go_sem]) rfl ⟨rfl, ?_⟩
    go_grown
  · rw [hq] at HI
    have h12 := inB_iff.1 hq
    have HO : Hid (ROpOf op (ropV (bs (ropNm op)) (bs (ropWd op)))) := regOp_any op h12.1 h12.2
    have HL : Hid (((ropWd op).length : Int) = argR op) := ropWd_len op h12.1 h12.2
    have HA := argR_lo op
    clear h12 hq
    generalize argR op = A at *
    generalize bs (ropNm op) = nm at *
    generalize ropWd op = ws at *
    have hf : ∀ W, (Instr.field 117 (.agg #[.string nm, .string (bs ws)]) 1).run Try.prog W = .ok (.string (bs ws)) W := fun W => by kernel_rfl
    go_enter Try.func44, Try.ntmps44
    go_wp2_with fail
    refine (HI.out _).mono ?_
    rintro e w1 ⟨rfl, rfl⟩
    go_wp2_with fail
    have hB : Below w.heap.size w (w.alloc (.cells #[.int .i64 0, .int .i64 0] 61)) := (Below.refl _ _).alloc (Nat.le_refl _) _
    have hN := heap_alloc_new w (.cells #[.int .i64 0, .int .i64 0] 61)
    generalize w.alloc (.cells #[.int .i64 0, .int .i64 0] 61) = W at *
    refine (HO.out _).mono ?_
    rintro e w2 ⟨rfl, hb⟩
    have hN2 := blk8 hN hb
    have HB : Hid (Below w.heap.size w w2) := hB.trans (hb.mono hB.size)
    clear hN hb hB
    have r0 := cell_of_row _ _ 0 _ _ _ hN2
    have f0 := frozen_of_row _ _ 0 _ _ hN2
    have r1 := cell_of_row _ _ 1 _ _ _ hN2
    have f1 := frozen_of_row _ _ 1 _ _ hN2
    simp at r0 r1 f0 f1
    go_wp2_with fail
    refine bodyPost_ret (v := .agg #[.int .i64 0, .int .i64 A]) (by simp [results, Try.results44, go_sem, r0, r1]; exact HL.out) rfl ⟨rfl, (HB.out.setCell (Nat.le_refl _) _).setCell (Nat.le_refl _) _⟩
end Go.Proofs.Ytcikofhbfncgdaa
