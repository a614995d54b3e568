/-
  impl.eachOnce.
-/
import Derived.Test.YtdnhmpemkpjcaaaGreatDoorFaultM
import Derived.Test.YtdnhmpemkpjcaaaGreatDoorTreeRefs
import Derived.Test.YtdnhmpemkpjcaaaGreatDoorTreeWants
namespace Go.Proofs.YtdnhmpemkpjcaaaGreatDoor
open Go.RowKit
set_option linter.unusedVariables false

/-- counts in a row of its own -/
def Cnt (w : World) (g : Nat) (T : TypeId) (cs : List Int) : Prop := w.heap[g]? = some (.cells (cs.map (Value.int .i64)).toArray T (0, 0))
/-- numbers in a row below block hi -/
def IntsB (hi : Nat) (w : World) (v : Value) (xs : List Int) : Prop :=
  ∃ a c, v = .slice a xs.length c ∧ (xs ≠ [] → ∃ b o, a = some ⟨b, o, none⟩ ∧ b < hi ∧ ∀ (i : Nat) (x : Int), xs[i]? = some x → w.cell? ⟨b, o + i, none⟩ = some (.int .i64 x))
theorem IntsV.toB {lo : Nat} {w : World} {v : Value} {xs : List Int} (h : IntsV lo w v xs) : IntsB w.heap.size w v xs := by
  obtain ⟨a, c, h1, h2, h3⟩ := h
  refine ⟨a, c, h1, fun hn => ?_⟩
  obtain ⟨b, o, e, hl, hc⟩ := h3 hn
  cases xs with
  | nil => exact absurd rfl hn
  | cons x r => exact ⟨b, o, e, World.block_lt_of_cell? _ _ (hc 0 x rfl), hc⟩
/-- blocks below n but g are as they were, and all from outside -/
structure But (g : Nat) (w w' : World) : Prop where
  below : Below g w w'
  rest : ∀ b, b < w.heap.size → b ≠ g → w'.heap[b]? = w.heap[b]?
theorem But.refl (g : Nat) (w : World) : But g w w := ⟨Below.refl _ _, fun _ _ _ => rfl⟩
theorem But.trans {g : Nat} {a b c : World} (h : But g a b) (k : But g b c) : But g a c :=
  ⟨h.below.trans k.below, fun x hx hne => (k.rest x (Nat.lt_of_lt_of_le hx h.below.size) hne).trans (h.rest x hx hne)⟩
theorem But.cell {g : Nat} {w w' : World} (h : But g w w') {p : Addr} {u : Value} (hne : p.block ≠ g) (hc : w.cell? p = some u) : w'.cell? p = some u := by
  rw [World.cell?_of_block (h.rest p.block (World.block_lt_of_cell? _ _ hc) hne)]; exact hc
theorem But.set {g : Nat} {w w' : World} (h : But g w w') (o : Nat) (u : Value) : But g w (w'.setCell ⟨g, o, none⟩ u) :=
  ⟨h.below.setCell (Nat.le_refl _) _, fun b hb hne => (by
    have := h.rest b hb hne
    rw [← this]
    exact heap_setCell_other _ _ _ _ hne)⟩
theorem Cnt.bumped {w : World} {g : Nat} {T : TypeId} {cs : List Int} (h : Cnt w g T cs) (j : Nat) : Cnt (w.setCell ⟨g, j, none⟩ (.int .i64 (cs.getD j 0 + 1))) g T (bump cs (j : Int)) := by
  have := heap_setCell_same w g j _ _ (.int .i64 (cs.getD j 0 + 1)) h
  unfold Cnt
  rw [this]
  simp [bump, List.map_set]
theorem Cnt.cell {w : World} {g : Nat} {T : TypeId} {cs : List Int} (h : Cnt w g T cs) (j : Nat) (hj : j < cs.length) : w.cell? ⟨g, j, none⟩ = some (.int .i64 (cs.getD j 0)) ∧ w.frozen? ⟨g, j, none⟩ = false := by
  refine ⟨?_, frozen_of_row _ _ _ _ _ h⟩
  rw [cell_of_row _ _ _ _ _ _ h]
  simp [List.getElem?_eq_getElem hj]

abbrev bumpP (ls : List (Value × List Int)) (cs : List Int) : List Int := ls.foldl (fun cs p => bumps cs p.2) cs
theorem bumpP_len (ls : List (Value × List Int)) : ∀ cs : List Int, (bumpP ls cs).length = cs.length := by
  induction ls with
  | nil => intro cs; rfl
  | cons p r ih => intro cs; show (bumpP r (bumps cs p.2)).length = _; rw [ih, bumps_len]
theorem bumpP_take {ls : List (Value × List Int)} {cs : List Int} {k : Nat} {p : Value × List Int} (h : ls[k]? = some p) : bumpP (ls.take (k + 1)) cs = bumps (bumpP (ls.take k) cs) p.2 := by
  obtain ⟨hk, rfl⟩ := List.getElem?_eq_some_iff.1 h
  unfold bumpP; rw [List.take_succ_eq_append_getElem hk, List.foldl_append]; rfl
theorem bumpP_le (B : Int) : ∀ (ls : List (Value × List Int)) {M : Int} {cs : List Int}, CntLe M cs → (∀ p ∈ ls, (p.2.length : Int) ≤ B) → CntLe (M + B * ls.length) (bumpP ls cs) := by
  intro ls
  induction ls with
  | nil => intro M cs h _; simpa using h
  | cons p r ih =>
    intro M cs h hB
    have h1 := hB p (by simp)
    have := ih (cs := bumps cs p.2) ((bumps_le p.2 h).mono (M' := M + B) (by omega)) (fun n hn => hB n (by simp [hn]))
    have e : M + B * ((p :: r).length : Int) = M + B + B * (r.length : Int) := by simp [Int.mul_add]; omega
    rw [e]; exact this

set_option maxHeartbeats 3200000 in
set_option maxRecDepth 100000 in
theorem countPlaces_any (g lb : Nat) (cs : List Int) (ls : List (Value × List Int)) (c c2 : Nat) (w : World) (M B : Int)
    (hg : Cnt w g 3 cs) (hl : ∀ i p, ls[i]? = some p → w.cell? ⟨lb, i, none⟩ = some p.1) (hv : ∀ p ∈ ls, IntsB g w p.1 p.2) (hlb : lb ≠ g)
    (hin : ∀ p ∈ ls, ∀ x ∈ p.2, 0 ≤ x ∧ x < (cs.length : Int)) (hM : CntLe M cs) (hB : ∀ p ∈ ls, (p.2.length : Int) ≤ B) (hB1 : B ≤ 1048576) (h3 : ls.length ≤ 3) (hM0 : 0 ≤ M) (hM1 : M ≤ 10000000000) (hn : cs.length ≤ 200) :
    Calls Tryz.prog 161 #[.slice (some ⟨g, 0, none⟩) cs.length c, .slice (some ⟨lb, 0, none⟩) ls.length c2] w fun e w' => e = .returned (.tuple #[]) ∧ Cnt w' g 3 (bumpP ls cs) ∧ But g w w' := by
  have HG : Hid (Cnt w g 3 cs) := hg
  have HL : Hid (∀ i p, ls[i]? = some p → w.cell? ⟨lb, i, none⟩ = some p.1) := hl
  have HV : Hid (∀ p ∈ ls, IntsB g w p.1 p.2) := hv
  have HI : Hid (∀ p ∈ ls, ∀ x ∈ p.2, 0 ≤ x ∧ x < (cs.length : Int)) := hin
  have HM : Hid (CntLe M cs) := hM
  have HB : Hid (∀ p ∈ ls, (p.2.length : Int) ≤ B) := hB
  have HB1 : Hid (B ≤ 1048576 ∧ 0 ≤ M ∧ M ≤ 10000000000) := ⟨hB1, hM0, hM1⟩
  clear hg hl hv hin hM hB hB1 hM0 hM1
  go_enter Tryz.func161, Tryz.ntmps161
  go_wp2
  go_loopw [10] (fun i wr => ∃ k : Nat, k ≤ ls.length ∧ i = .int .i64 k ∧ Cnt wr g 3 (bumpP (ls.take k) cs) ∧ But g w wr) (fun i _ => ls.length - (intOf i).toNat)
  case atStart => exact ⟨0, by omega, rfl, HG.out, But.refl _ _⟩
  case round =>
    obtain ⟨k, hk, rfl, hcnt, hbut⟩ := hrel
    have HC : Hid (Cnt wr g 3 (bumpP (ls.take k) cs)) := hcnt
    clear hcnt
    by_cases hlt : k < ls.length
    · obtain ⟨p, hp⟩ : ∃ p, ls[k]? = some p := ⟨ls[k], List.getElem?_eq_getElem hlt⟩
      obtain ⟨v, l⟩ := p
      have hmem := List.mem_of_getElem? hp
      obtain ⟨a, cp, hv0, hh⟩ := HV.out _ hmem
      change v = .slice a l.length cp at hv0
      subst hv0
      have HP : Hid (ls[k]? = some (.slice a l.length cp, l)) := hp
      have HH : Hid (l ≠ [] → ∃ b o, a = some ⟨b, o, none⟩ ∧ b < g ∧ ∀ (i : Nat) (x : Int), l[i]? = some x → w.cell? ⟨b, o + i, none⟩ = some (.int .i64 x)) := hh
      have HX : Hid (∀ x ∈ l, 0 ≤ x ∧ x < (cs.length : Int)) := HI.out _ hmem
      have HLB : Hid ((l.length : Int) ≤ B) := HB.out _ hmem
      have HLE : Hid (CntLe (M + B * k) (bumpP (ls.take k) cs)) := by
        have := bumpP_le B (ls.take k) (HM.out) (fun p hp => HB.out p (List.mem_of_mem_take hp))
        have e : (ls.take k).length = k := by simp; omega
        rw [e] at this; exact this
      have c0 := hbut.cell (p := ⟨lb, k, none⟩) hlb (HL.out k _ hp)
      have hll : l.length ≤ 1048576 := by have := HLB.out; have := HB1.out.1; omega
      have HBUT : Hid (But g w wr) := hbut
      have HLN : Hid ((bumpP (ls.take k) cs).length = cs.length) := bumpP_len _ _
      generalize hD : bumpP (ls.take k) cs = D at *
      clear hp hh hmem hbut
      go_wp2
      go_loopw [16] (fun i wi => ∃ j : Nat, j ≤ l.length ∧ i = .int .i64 j ∧ Cnt wi g 3 (bumps D (l.take j)) ∧ But g w wi) (fun i _ => l.length - (intOf i).toNat)
      case atStart => exact ⟨0, by omega, rfl, HC.out, HBUT.out⟩
      case round =>
        obtain ⟨j, hj, rfl, hcnt, hbut⟩ := hrel
        by_cases hjt : j < l.length
        · obtain ⟨x, hx⟩ : ∃ x, l[j]? = some x := ⟨l[j], List.getElem?_eq_getElem hjt⟩
          obtain ⟨b, o, rfl, hbg, hc1⟩ := HH.out (by intro e; rw [e] at hjt; simp at hjt)
          have hx2 := HX.out x (List.mem_of_getElem? hx)
          obtain ⟨q, rfl⟩ : ∃ q : Nat, x = q := ⟨x.toNat, by omega⟩
          have d0 := hbut.cell (p := ⟨b, o + j, none⟩) (show b ≠ g by omega) (hc1 j _ hx)
          have hqn : q < cs.length := by omega
          have hlen : (bumps D (l.take j)).length = cs.length := by rw [bumps_len]; exact HLN.out
          obtain ⟨d1, d2⟩ := hcnt.cell q (by omega)
          have hle := (bumps_le (l.take j) HLE.out) q
          have hlj : (l.take j).length ≤ l.length := by simp; omega
          have hk3 : k ≤ 3 := by omega
          have hBk : B * (k : Int) ≤ 1048576 * 3 := by
            have h1 := HB1.out.1
            have h2 := HLB.out
            have h3 : B * (k : Int) ≤ 1048576 * (k : Int) := Int.mul_le_mul_of_nonneg_right h1 (by omega)
            omega
          have HCN : Hid (Cnt (wr.setCell ⟨g, q, none⟩ (.int .i64 ((bumps D (l.take j)).getD q 0 + 1))) g 3 (bumps D (l.take (j + 1)))) := by
            rw [bumps_take hx]; exact hcnt.bumped q
          have hz1 : (bumps D (l.take j)).getD q 0 + 1 ≤ 1000000000000 := by have := HB1.out; omega
          have hz0 : 0 ≤ (bumps D (l.take j)).getD q 0 := hle.1
          have HBUT2 : Hid (But g w wr) := hbut
          generalize (bumps D (l.take j)).getD q 0 = z at *
          have hq0 : (0 : Int) ≤ (q : Int) := by omega
          have hq1 : (q : Int) < (cs.length : Int) := by omega
          clear hle hlj hBk hlen hx2 hx hc1 hcnt hbut
          go_wp2
          go_roundw
          case rel => exact ⟨j + 1, by omega, by go_num, HCN.out, HBUT2.out.set _ _⟩
          case measure => simp [intOf]; omega
        · have hje : j = l.length := by omega
          subst hje
          have HCN : Hid (Cnt wr g 3 (bumpP (ls.take (k + 1)) cs)) := by
            unfold Hid; rw [bumpP_take HP.out, hD]; simpa using hcnt
          have HBUT2 : Hid (But g w wr) := hbut
          clear hcnt hbut hD
          go_wp2
          go_roundw
          case rel => exact ⟨k + 1, by omega, by go_num, HCN.out, HBUT2.out⟩
          case measure => simp [intOf]; omega
    · have hke : k = ls.length := by omega
      subst hke
      have HCN : Hid (Cnt wr g 3 (bumpP ls cs)) := by unfold Hid; have := HC.out; simpa using this
      have HBUT2 : Hid (But g w wr) := hbut
      clear hbut
      go_wp2
      go_end0
      exact ⟨rfl, HCN.out, HBUT2.out⟩
theorem countPlaces_at (g lb : Nat) (cs : List Int) (ls : List (Value × List Int)) (n m c c2 : Nat) (w : World) (M B : Int) (hn' : n = cs.length) (hm' : m = ls.length)
    (hg : Cnt w g 3 cs) (hl : ∀ i p, ls[i]? = some p → w.cell? ⟨lb, i, none⟩ = some p.1) (hv : ∀ p ∈ ls, IntsB g w p.1 p.2) (hlb : lb ≠ g)
    (hin : ∀ p ∈ ls, ∀ x ∈ p.2, 0 ≤ x ∧ x < (cs.length : Int)) (hM : CntLe M cs) (hB : ∀ p ∈ ls, (p.2.length : Int) ≤ B) (hB1 : B ≤ 1048576) (h3 : ls.length ≤ 3) (hM0 : 0 ≤ M) (hM1 : M ≤ 10000000000) (hn : cs.length ≤ 200) :
    Calls Tryz.prog 161 #[.slice (some ⟨g, 0, none⟩) n c, .slice (some ⟨lb, 0, none⟩) m c2] w fun e w' => e = .returned (.tuple #[]) ∧ Cnt w' g 3 (bumpP ls cs) ∧ But g w w' := by
  subst hn' hm'
  exact countPlaces_any g lb cs ls c c2 w M B hg hl hv hlb hin hM hB hB1 h3 hM0 hM1 hn
end Go.Proofs.YtdnhmpemkpjcaaaGreatDoor
namespace Go.Proofs.YtdnhmpemkpjcaaaGreatDoor
open Go.RowKit
set_option linter.unusedVariables false
attribute [local go_sem] bs_size bs_get bs_extract bs_append bs_eq bs_toList

theorem infoGoInt : (Tryz.prog.info? 3).map (fun i => (i.zero, i.size, i.bytes)) = some (some (.int .i64 0), 1, 8) := by kernel_rfl
theorem But.alloc {g : Nat} {w w' : World} (h : But g w w') (hg : g ≤ w.heap.size) (o : Obj) : But g w (w'.alloc o) :=
  ⟨h.below.alloc (Nat.le_trans hg h.below.size) o, fun b hb hne => (Below.heap_alloc _ _ _ (Nat.lt_of_lt_of_le hb h.below.size)).trans (h.rest b hb hne)⟩
theorem IntsB.keep {hi hi' : Nat} {w w' : World} {v : Value} {xs : List Int} (h : IntsB hi w v xs) (hk : ∀ b, b < hi → w'.heap[b]? = w.heap[b]?) (hh : hi ≤ hi') : IntsB hi' w' v xs := by
  obtain ⟨a, c, h1, h3⟩ := h
  refine ⟨a, c, h1, fun hn => ?_⟩
  obtain ⟨b, o, e, hl, hc⟩ := h3 hn
  refine ⟨b, o, e, Nat.lt_of_lt_of_le hl hh, fun i x hx => ?_⟩
  rw [World.cell?_of_block (a := ⟨b, o + i, none⟩) (hk b hl)]; exact hc i x hx
theorem cnt_of_own {w : World} {B n g : Nat} {T : TypeId} (h : w.ownsRow B T 1 (.slice (some ⟨g, 0, none⟩) n n) n (List.replicate n (.int .i64 0))) : Cnt w g T (List.replicate n 0) := by
  rcases h.2 with ⟨h, _⟩ | ⟨g', c, cur, h, _, hh, _, _, hs, ht⟩
  · simp at h
  · simp at h
    obtain ⟨rfl, rfl⟩ := h
    unfold Cnt
    rw [hh]
    have : cur = (List.map (Value.int .i64) (List.replicate n 0)).toArray := by
      apply Array.ext'
      simp at ht ⊢
      have h2 : cur.toList.length = n := by simpa using hs
      rw [List.take_of_length_le (by omega)] at ht
      exact ht
    rw [this]

theorem two_alloc3 (w : World) (o : Obj) (a b c : Value) (T : TypeId) : ((w.alloc o).alloc (.cells #[a, b, c] T)).cell? ⟨w.heap.size + 1, 0, none⟩ = some a ∧ ((w.alloc o).alloc (.cells #[a, b, c] T)).cell? ⟨w.heap.size + 1, 1, none⟩ = some b ∧ ((w.alloc o).alloc (.cells #[a, b, c] T)).cell? ⟨w.heap.size + 1, 2, none⟩ = some c := by
  have e := heap_alloc_new (w.alloc o) (.cells #[a, b, c] T)
  rw [show (w.alloc o).heap.size = w.heap.size + 1 from by simp] at e
  have b0 := cell_of_row _ _ 0 _ _ _ e
  have b1 := cell_of_row _ _ 1 _ _ _ e
  have b2 := cell_of_row _ _ 2 _ _ _ e
  exact ⟨b0, b1, b2⟩
theorem one_alloc1 (w : World) (a : Value) (T : TypeId) : (w.alloc (.cells #[a] T)).cell? ⟨w.heap.size, 0, none⟩ = some a := by
  have e := heap_alloc_new w (.cells #[a] T)
  exact cell_of_row _ _ 0 _ _ _ e
theorem Cnt.alloc {w : World} {g : Nat} {T : TypeId} {cs : List Int} (h : Cnt w g T cs) (o : Obj) : Cnt (w.alloc o) g T cs :=
  (Below.heap_alloc _ _ _ ((Array.getElem?_eq_some_iff.1 h).1)).trans h
theorem in3 {p a b c : Value × List Int} (h : p ∈ [a, b, c]) : p = a ∨ p = b ∨ p = c := by simpa using h

/-- counting a node's lists -/
theorem countNode (g lb n : Nat) (T : LTree) (y : LNode) (k : Nat) (w0 w wr : World) (vk vt ve : Value) (c c2 : Nat) (hy : T.nodes[k]? = some y) (hn : T.nodes.length ≤ 200) (hnn : n = T.nodes.length) (hS : Sized 1048576 T)
    (hI : ∀ n ∈ T.nodes, ∀ x ∈ listsOf n, 0 ≤ x ∧ x < (T.nodes.length : Int))
    (hc : Cnt wr g 3 ((T.nodes.take k).foldl bumpN (List.replicate T.nodes.length 0)))
    (hK : IntsB w0.heap.size w0 vk y.kids) (hT : IntsB w0.heap.size w0 vt y.thn) (hE : IntsB w0.heap.size w0 ve y.els) (hkp : ∀ q, q < w0.heap.size → wr.heap[q]? = w0.heap[q]?) (hg : w0.heap.size ≤ g) (hgw : g < wr.heap.size)
    (hb : But g wr w) (hlb : lb ≠ g) (hcl : w.cell? ⟨lb, 0, none⟩ = some vk ∧ w.cell? ⟨lb, 1, none⟩ = some vt ∧ w.cell? ⟨lb, 2, none⟩ = some ve) (hc2 : Cnt w g 3 ((T.nodes.take k).foldl bumpN (List.replicate T.nodes.length 0))) :
    Calls Tryz.prog 161 #[.slice (some ⟨g, 0, none⟩) n c, .slice (some ⟨lb, 0, none⟩) 3 c2] w fun e w' => e = .returned (.tuple #[]) ∧ Cnt w' g 3 ((T.nodes.take (k + 1)).foldl bumpN (List.replicate T.nodes.length 0)) ∧ But g wr w' := by
  subst hnn
  have hmem := List.mem_of_getElem? hy
  have hlen : ((T.nodes.take k).foldl bumpN (List.replicate T.nodes.length 0)).length = T.nodes.length := by rw [bumpsN_len]; simp
  have hkp2 : ∀ q, q < w0.heap.size → w.heap[q]? = w0.heap[q]? := fun q hq => (hb.rest q (by omega) (by omega)).trans (hkp q hq)
  have hsz := hS.node y hmem
  have hk := (List.getElem?_eq_some_iff.1 hy).1
  have hM : CntLe (3 * 1048576 * 200) ((T.nodes.take k).foldl bumpN (List.replicate T.nodes.length 0)) := by
    have := bumpNs_le (B := 1048576) (T.nodes.take k) (cnt_zero T.nodes.length) (fun n hn => by have := hS.node n (List.mem_of_mem_take hn); omega)
    refine this.mono ?_
    have : (T.nodes.take k).length ≤ 200 := by simp; omega
    omega
  refine (countPlaces_at g lb _ [(vk, y.kids), (vt, y.thn), (ve, y.els)] T.nodes.length 3 c c2 w (3 * 1048576 * 200) 1048576 hlen.symm rfl hc2 ?_ ?_ hlb ?_ hM ?_ (by omega) (by simp) (by omega) (by omega) (by omega)).mono ?_
  · intro i p hp
    match i, hp with
    | 0, hp => simp at hp; subst hp; exact hcl.1
    | 1, hp => simp at hp; subst hp; exact hcl.2.1
    | 2, hp => simp at hp; subst hp; exact hcl.2.2
    | i + 3, hp => simp at hp
  · intro p hp
    rcases in3 hp with rfl | rfl | rfl
    · exact hK.keep hkp2 hg
    · exact hT.keep hkp2 hg
    · exact hE.keep hkp2 hg
  · intro p hp x hx
    rw [hlen]
    refine hI y hmem x ?_
    unfold listsOf
    rcases in3 hp with rfl | rfl | rfl <;> simp_all
  · intro p hp
    rcases in3 hp with rfl | rfl | rfl
    · show (y.kids.length : Int) ≤ 1048576
      omega
    · show (y.thn.length : Int) ≤ 1048576
      omega
    · show (y.els.length : Int) ≤ 1048576
      omega
  · rintro e w' ⟨rfl, h1, h2⟩
    refine ⟨rfl, ?_, hb.trans h2⟩
    rw [bumpNs_take hy]; exact h1

/-- counting the body -/
theorem countBody (g lb n : Nat) (T : LTree) (w0 w wr : World) (vb : Value) (c c2 : Nat) (hn : T.nodes.length ≤ 200) (hnn : n = T.nodes.length) (hS : Sized 1048576 T)
    (hI : ∀ x ∈ T.body, 0 ≤ x ∧ x < (T.nodes.length : Int))
    (hB : IntsB w0.heap.size w0 vb T.body) (hkp : ∀ q, q < w0.heap.size → wr.heap[q]? = w0.heap[q]?) (hg : w0.heap.size ≤ g) (hgw : g < wr.heap.size)
    (hb : But g wr w) (hlb : lb ≠ g) (hcl : w.cell? ⟨lb, 0, none⟩ = some vb) (hc2 : Cnt w g 3 (T.nodes.foldl bumpN (List.replicate T.nodes.length 0))) :
    Calls Tryz.prog 161 #[.slice (some ⟨g, 0, none⟩) n c, .slice (some ⟨lb, 0, none⟩) 1 c2] w fun e w' => e = .returned (.tuple #[]) ∧ Cnt w' g 3 (countsL T) ∧ But g wr w' := by
  subst hnn
  have hlen : (T.nodes.foldl bumpN (List.replicate T.nodes.length 0)).length = T.nodes.length := by rw [bumpsN_len]; simp
  have hkp2 : ∀ q, q < w0.heap.size → w.heap[q]? = w0.heap[q]? := fun q hq => (hb.rest q (by omega) (by omega)).trans (hkp q hq)
  have hsz := hS.body
  have hM : CntLe (3 * 1048576 * 200) (T.nodes.foldl bumpN (List.replicate T.nodes.length 0)) := by
    have := bumpNs_le (B := 1048576) T.nodes (cnt_zero T.nodes.length) (fun n hn => by have := hS.node n hn; omega)
    refine this.mono ?_
    omega
  refine (countPlaces_at g lb _ [(vb, T.body)] T.nodes.length 1 c c2 w (3 * 1048576 * 200) 1048576 hlen.symm rfl hc2 ?_ ?_ hlb ?_ hM ?_ (by omega) (by simp) (by omega) (by omega) (by omega)).mono ?_
  · intro i p hp
    match i, hp with
    | 0, hp => simp at hp; subst hp; exact hcl
    | i + 1, hp => simp at hp
  · intro p hp
    obtain rfl : p = (vb, T.body) := by simpa using hp
    exact hB.keep hkp2 hg
  · intro p hp x hx
    rw [hlen]
    obtain rfl : p = (vb, T.body) := by simpa using hp
    exact hI x hx
  · intro p hp
    obtain rfl : p = (vb, T.body) := by simpa using hp
    show (T.body.length : Int) ≤ 1048576
    omega
  · rintro e w' ⟨rfl, h1, h2⟩
    exact ⟨rfl, h1, hb.trans h2⟩
theorem countsL_len (T : LTree) : (countsL T).length = T.nodes.length := by unfold countsL; rw [bumps_len, bumpsN_len]; simp

set_option maxHeartbeats 6400000 in
set_option maxRecDepth 100000 in
theorem eachOnce_any (lo : Nat) (vv vn vb : Value) (T : LTree) (w : World) (h : TreeV lo w vv vn vb T) (hS : Sized 1048576 T) (hn : T.nodes.length ≤ 200)
    (hin1 : ∀ n ∈ T.nodes, ∀ x ∈ listsOf n, 0 ≤ x ∧ x < (T.nodes.length : Int)) (hin2 : ∀ x ∈ T.body, 0 ≤ x ∧ x < (T.nodes.length : Int)) :
    Calls Tryz.prog 108 #[treeV vv vn vb] w fun e w' => e = .returned (.bool ((countsL T).all (fun c => decide (c = 1)))) ∧ Below w.heap.size w w' := by
  obtain ⟨i0, hi, hz0, hz1, hz2⟩ := info_parts infoGoInt
  have hmax : T.nodes.length ≤ maxLen := by unfold maxLen; omega
  obtain ⟨av, cv, rfl, _⟩ := id h.vars
  obtain ⟨an, cn, rfl, hcn, hhn⟩ := id h.nodes
  have HBV : Hid (IntsB w.heap.size w vb T.body) := h.body.toB
  obtain ⟨ab, cb, rfl, _⟩ := id h.body
  have HN : Hid (T.nodes ≠ [] → ∃ b o, an = some ⟨b, o, none⟩ ∧ lo ≤ b ∧ ∀ (i : Nat) (x : LNode), T.nodes[i]? = some x → NodeAt lo w b (o + i * 8) x) := hhn
  have HS : Hid (Sized 1048576 T) := hS
  have HI1 : Hid (∀ n ∈ T.nodes, ∀ x ∈ listsOf n, 0 ≤ x ∧ x < (T.nodes.length : Int)) := hin1
  have HI2 : Hid (∀ x ∈ T.body, 0 ≤ x ∧ x < (T.nodes.length : Int)) := hin2
  clear h hhn hS hin1 hin2 hcn
  go_enter Tryz.func108, Tryz.ntmps108
  go_wp2_with (at_make; refine wpList_make_full _ rfl (.tmp 10) (.tmp 10) 209 rfl (w.heap.size + 1) 3 i0 (.int .i64 0) 1 Tryz.underlying209 hi hz0 hz1 .i64 .i64 T.nodes.length T.nodes.length T.nodes.length rfl rfl rfl rfl ?_ hmax (by simp) ?_)
  · rw [hz2]; omega
  intro w1 hown hgrow
  have hA := heap_alloc_new w (.cells #[.slice av T.vars.length cv, .slice an T.nodes.length cn, .slice ab T.body.length cb] 28)
  have hB : Below w.heap.size w (w.alloc (.cells #[.slice av T.vars.length cv, .slice an T.nodes.length cn, .slice ab T.body.length cb] 28)) := (Below.refl _ _).alloc (Nat.le_refl _) _
  have hZ : (w.alloc (.cells #[.slice av T.vars.length cv, .slice an T.nodes.length cn, .slice ab T.body.length cb] 28)).heap.size = w.heap.size + 1 := by simp
  generalize w.alloc (.cells #[.slice av T.vars.length cv, .slice an T.nodes.length cn, .slice ab T.body.length cb] 28) = W0 at *
  have hab := cell_of_row _ _ 1 _ _ _ hA
  have hac := cell_of_row _ _ 2 _ _ _ hA
  simp at hab hac
  have hB1 : Below W0.heap.size W0 w1 := (Below.refl _ _).grown hgrow (Nat.le_refl _) (fun k hk => by cases hk)
  have hab1 := (hB1.cell (p := ⟨w.heap.size, 1, none⟩) (by simp; omega)).trans hab
  have hac1 := (hB1.cell (p := ⟨w.heap.size, 2, none⟩) (by simp; omega)).trans hac
  have HC : Hid (Cnt w1 (w.heap.size + 1) 3 (List.replicate T.nodes.length 0)) := cnt_of_own (by rw [toList_madeCells_one] at hown; simpa using hown)
  have HB : Hid (Below w.heap.size w w1) := hB.trans (hB1.mono (by omega))
  have hg : w.heap.size + 1 < w1.heap.size := (Array.getElem?_eq_some_iff.1 HC.out).1
  have HA1 : Hid (w1.cell? ⟨w.heap.size, 1, none⟩ = some (.slice an T.nodes.length cn)) := hab1
  have HA2 : Hid (w1.cell? ⟨w.heap.size, 2, none⟩ = some (.slice ab T.body.length cb)) := hac1
  clear hgrow hown hB1 hB hA hab hac hac1 hZ
  clear W0
  have hgd : w.heap.size + 1 = w.heap.size + 1 := rfl
  generalize hge : w.heap.size + 1 = g at *
  clear hgd
  go_wp2
  go_loopw [15] (fun i wr => ∃ k : Nat, k ≤ T.nodes.length ∧ i = .int .i64 k ∧ Cnt wr g 3 ((T.nodes.take k).foldl bumpN (List.replicate T.nodes.length 0)) ∧ But g w1 wr) (fun i _ => T.nodes.length - (intOf i).toNat)
  case atStart => exact ⟨0, by omega, rfl, HC.out, But.refl _ _⟩
  case round =>
    obtain ⟨k, hk, rfl, hcnt, hbut⟩ := hrel
    have HCN : Hid (Cnt wr g 3 ((T.nodes.take k).foldl bumpN (List.replicate T.nodes.length 0))) := hcnt
    have HBT : Hid (But g w1 wr) := hbut
    by_cases hlt : k < T.nodes.length
    · obtain ⟨y, hy⟩ : ∃ y, T.nodes[k]? = some y := ⟨T.nodes[k], List.getElem?_eq_getElem hlt⟩
      obtain ⟨b, o, rfl, _, hc2⟩ := HN.out (by intro e; rw [e] at hlt; simp at hlt)
      obtain ⟨vk, vt, ve, hcs, hvs⟩ := hc2 k y hy
      have hbw : b < w.heap.size := World.block_lt_of_cell? _ _ hcs.c0
      have hkp : ∀ q, q < w.heap.size → wr.heap[q]? = w.heap[q]? := fun q hq => (hbut.rest q (by omega) (by omega)).trans (HB.out.block q hq)
      obtain ⟨d0, d1, d2, d3, d4, d5, d6, d7⟩ := hcs.keep (lo := 0) (w' := wr) (fun q _ hq => hkp q hq) (Nat.zero_le _)
      have HK : Hid (IntsB w.heap.size w vk y.kids) := hvs.kids.toB
      have HT : Hid (IntsB w.heap.size w vt y.thn) := hvs.thn.toB
      have HE : Hid (IntsB w.heap.size w ve y.els) := hvs.els.toB
      have HKP : Hid (∀ q, q < w.heap.size → wr.heap[q]? = w.heap[q]?) := hkp
      obtain ⟨ak, ck, rfl, _⟩ := id hvs.kids
      obtain ⟨at2, ct, rfl, _⟩ := id hvs.thn
      obtain ⟨ae, ce, rfl, _⟩ := id hvs.els
      have HY : Hid (T.nodes[k]? = some y) := hy
      have hgr : g < wr.heap.size := Nat.lt_of_lt_of_le hg hbut.below.size
      clear hy hc2 hcs hvs hkp hcnt hbut
      go_wp2_with fail
      refine (countNode g (wr.heap.size + 1) _ T y k w _ wr _ _ _ _ _ HY.out hn rfl HS.out HI1.out HCN.out HK.out HT.out HE.out HKP.out (by omega) hgr (((But.refl g wr).alloc (by omega) _).alloc (by omega) _) (by omega) (two_alloc3 _ _ _ _ _ _) ?_).mono ?_
      · exact (HCN.out.alloc _).alloc _
      rintro e w2 ⟨rfl, hc, hb⟩
      have HCN2 : Hid _ := hc
      have HBT2 : Hid (But g w1 w2) := HBT.out.trans hb
      clear hc hb HCN HBT
      go_wp2_with fail
      go_roundw
      case rel => exact ⟨k + 1, by omega, by go_num, HCN2.out, HBT2.out⟩
      case measure => simp [intOf]; omega
    · have hke : k = T.nodes.length := by omega
      subst hke
      have a2 := hbut.cell (p := ⟨w.heap.size, 2, none⟩) (show w.heap.size ≠ g by omega) HA2.out
      have HKP : Hid (∀ q, q < w.heap.size → wr.heap[q]? = w.heap[q]?) := fun q hq => (hbut.rest q (Nat.lt_of_lt_of_le hq HB.out.size) (by omega)).trans (HB.out.block q hq)
      have hgr : g < wr.heap.size := Nat.lt_of_lt_of_le hg hbut.below.size
      have HCN0 : Hid (Cnt wr g 3 (T.nodes.foldl bumpN (List.replicate T.nodes.length 0))) := by unfold Hid; have := HCN.out; simpa using this
      clear hcnt hbut HCN
      go_wp2_with fail
      refine (countBody g wr.heap.size _ T w _ wr _ _ _ hn rfl HS.out HI2.out HBV.out HKP.out (by omega) hgr ((But.refl g wr).alloc (by omega) _) (by omega) (one_alloc1 _ _ _) ?_).mono ?_
      · exact HCN0.out.alloc _
      rintro e w2 ⟨rfl, hc, hb⟩
      have HCN : Hid (Cnt w2 g 3 (countsL T)) := hc
      have HBT2 : Hid (But g w1 w2) := HBT.out.trans hb
      have HLN : Hid ((countsL T).length = T.nodes.length) := countsL_len T
      obtain ⟨cs, hcs⟩ : ∃ cs, cs = countsL T := ⟨_, rfl⟩
      rw [← hcs] at HCN HLN
      have HCS : Hid (cs = countsL T) := hcs
      clear hcs
      clear hc hb HCN0 HBT
      go_wp2
      go_loopw [36] (fun i wr => ∃ k : Nat, k ≤ T.nodes.length ∧ i = .int .i64 k ∧ (∀ j, j < k → cs.getD j 0 = 1) ∧ SameW wr w2) (fun i _ => T.nodes.length - (intOf i).toNat)
      case atStart => exact ⟨0, by omega, rfl, by omega, rfl⟩
      case round =>
        obtain ⟨k, hk, rfl, hall, hw⟩ := hrel
        have HALL : Hid (∀ j, j < k → cs.getD j 0 = 1) := hall
        have HW : Hid (SameW wr w2) := hw
        by_cases hlt : k < T.nodes.length
        · have hkl : k < cs.length := by have := HLN.out; omega
          have c0 : wr.cell? ⟨g, k, none⟩ = _ := (congrArg (fun W => World.cell? W ⟨g, k, none⟩) hw).trans (HCN.out.cell k hkl).1
          clear hall hw
          by_cases hz : cs.getD k 0 = 1
          · have HZ : Hid (cs.getD k 0 = 1) := hz
            rw [hz] at c0
            clear hz hkl
            go_wp2
            go_roundw
            case rel => exact ⟨k + 1, by omega, by go_num, fun j hj => by
                rcases Nat.lt_succ_iff_lt_or_eq.1 hj with h | rfl
                · exact HALL.out j h
                · exact HZ.out, HW.out⟩
            case measure => simp [intOf]; omega
          · have HE : Hid (cs.all (fun c => decide (c = 1)) = false) := List.all_eq_false.2 ⟨cs.getD k 0, by
              rw [List.getD_eq_getElem?_getD, List.getElem?_eq_getElem hkl]; exact List.getElem_mem hkl, by simpa using hz⟩
            have hne : (cs.getD k 0 == 1) = false := by simpa using hz
            have hne2 : decide (cs.getD k 0 = 1) = false := decide_eq_false hz
            generalize cs.getD k 0 = z at *
            clear hkl
            go_wp2
            go_ret
            refine ⟨by rw [← HCS.out, HE.out]; rfl, ?_⟩
            have : wr = w2 := HW.out
            rw [this]
            exact HB.out.trans (HBT2.out.below.mono (by omega))
        · have HE : Hid (cs.all (fun c => decide (c = 1)) = true) := List.all_eq_true.2 (fun x hx => by
            obtain ⟨j, hj, rfl⟩ := List.getElem_of_mem hx
            have := HALL.out j (by have := HLN.out; omega)
            rw [List.getD_eq_getElem?_getD, List.getElem?_eq_getElem hj] at this
            simpa using this)
          clear hall hw
          go_wp2
          go_ret
          refine ⟨by rw [← HCS.out, HE.out]; rfl, ?_⟩
          have : wr = w2 := HW.out
          rw [this]
          exact HB.out.trans (HBT2.out.below.mono (by omega))
end Go.Proofs.YtdnhmpemkpjcaaaGreatDoor
