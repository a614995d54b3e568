/-
  impl.eachOnce.
-/
import Derived.Test.YtepjaoapjpmjkaaGreatDoorICount
import Derived.Test.YtepjaoapjpmjkaaGreatDoorRowE
namespace Go.Proofs.YtepjaoapjpmjkaaGreatDoor
open Go.RowKit
set_option linter.unusedVariables false
attribute [local go_sem] bs_size bs_get bs_extract bs_append bs_eq bs_toList
theorem infoGoInt : (Tryz.prog.info? 3).map (fun i => (i.zero, i.size, i.bytes)) = some (some (.int .i64 0), 1, 8) := by kernel_rfl
theorem But.alloc {g : Nat} {w w' : World} (h : But g w w') (hg : g ≤ w.heap.size) (o : Obj) : But g w (w'.alloc o) :=
 ⟨h.below.alloc (Nat.le_trans hg h.below.size) o, fun b hb hne => (Below.heap_alloc _ _ _ (Nat.lt_of_lt_of_le hb h.below.size)).trans (h.rest b hb hne)⟩
theorem IntsB.keep {hi hi' : Nat} {w w' : World} {v : Value} {xs : List Int} (h : IntsB hi w v xs) (hk : ∀ b, b < hi → w'.heap[b]? = w.heap[b]?) (hh : hi ≤ hi') : IntsB hi' w' v xs := by
 obtain ⟨a, c, h1, h3⟩ := h
 refine ⟨a, c, h1, fun hn => ?_⟩
 obtain ⟨b, o, e, hl, hc⟩ := h3 hn
 refine ⟨b, o, e, Nat.lt_of_lt_of_le hl hh, fun i x hx => ?_⟩
 rw [World.cell?_of_block (a := ⟨b, o + i, none⟩) (hk b hl)]; exact hc i x hx
theorem cnt_of_own {w : World} {B n g : Nat} {T : TypeId} (h : w.ownsRow B T 1 (.slice (some ⟨g, 0, none⟩) n n) n (List.replicate n (.int .i64 0))) : Cnt w g T (List.replicate n 0) := by
 rcases h.2 with ⟨h, _⟩ | ⟨g', c, cur, h, _, hh, _, _, hs, ht⟩
 ·simp at h
 ·simp at h
  obtain ⟨rfl, rfl⟩ := h
  unfold Cnt
  rw [hh]
  have : cur = (List.map (Value.int .i64) (List.replicate n 0)).toArray := by
   apply Array.ext'
   simp at ht ⊢
   have h2 : cur.toList.length = n := by simpa using hs
   rw [List.take_of_length_le (by omega)] at ht
   exact ht
  rw [this]
theorem two_alloc3 (w : World) (o : Obj) (a b c : Value) (T : TypeId) : ((w.alloc o).alloc (.cells #[a, b, c] T)).cell? ⟨w.heap.size + 1, 0, none⟩ = some a ∧ ((w.alloc o).alloc (.cells #[a, b, c] T)).cell? ⟨w.heap.size + 1, 1, none⟩ = some b ∧ ((w.alloc o).alloc (.cells #[a, b, c] T)).cell? ⟨w.heap.size + 1, 2, none⟩ = some c := by
 have e := heap_alloc_new (w.alloc o) (.cells #[a, b, c] T)
 rw [show (w.alloc o).heap.size = w.heap.size + 1 from by simp] at e
 obtain ⟨b0, b1, b2⟩ := cl3 e
 exact ⟨b0, b1, b2⟩
theorem one_alloc1 (w : World) (a : Value) (T : TypeId) : (w.alloc (.cells #[a] T)).cell? ⟨w.heap.size, 0, none⟩ = some a := by
 have e := heap_alloc_new w (.cells #[a] T)
 exact cell_of_row _ _ 0 _ _ _ e
theorem Cnt.alloc {w : World} {g : Nat} {T : TypeId} {cs : List Int} (h : Cnt w g T cs) (o : Obj) : Cnt (w.alloc o) g T cs :=
 (Below.heap_alloc _ _ _ ((Array.getElem?_eq_some_iff.1 h).1)).trans h
theorem in3 {p a b c : Value × List Int} (h : p ∈ [a, b, c]) : p = a ∨ p = b ∨ p = c := by simpa using h
theorem countNode (g lb n : Nat) (T : LTree) (y : LNode) (k : Nat) (w0 w wr : World) (vk vt ve : Value) (c c2 : Nat) (hy : T.nodes[k]? = some y) (hn : T.nodes.length ≤ 200) (hnn : n = T.nodes.length) (hS : Sized 1048576 T)
  (hI : ∀ n ∈ T.nodes, ∀ x ∈ listsOf n, 0 ≤ x ∧ x < (T.nodes.length : Int))
  (hc : Cnt wr g 3 ((T.nodes.take k).foldl bumpN (List.replicate T.nodes.length 0)))
  (hK : IntsB w0.heap.size w0 vk y.kids) (hT : IntsB w0.heap.size w0 vt y.thn) (hE : IntsB w0.heap.size w0 ve y.els) (hkp : ∀ q, q < w0.heap.size → wr.heap[q]? = w0.heap[q]?) (hg : w0.heap.size ≤ g) (hgw : g < wr.heap.size)
  (hb : But g wr w) (hlb : lb ≠ g) (hcl : w.cell? ⟨lb, 0, none⟩ = some vk ∧ w.cell? ⟨lb, 1, none⟩ = some vt ∧ w.cell? ⟨lb, 2, none⟩ = some ve) (hc2 : Cnt w g 3 ((T.nodes.take k).foldl bumpN (List.replicate T.nodes.length 0))) :
  Calls Tryz.prog 115 #[.slice (some ⟨g, 0, none⟩) n c, .slice (some ⟨lb, 0, none⟩) 3 c2] w fun e w' => e = .returned (.tuple #[]) ∧ Cnt w' g 3 ((T.nodes.take (k + 1)).foldl bumpN (List.replicate T.nodes.length 0)) ∧ But g wr w' := by
 subst hnn
 have hmem := List.mem_of_getElem? hy
 have hlen : ((T.nodes.take k).foldl bumpN (List.replicate T.nodes.length 0)).length = T.nodes.length := by rw [bumpsN_len]; simp
 have hkp2 : ∀ q, q < w0.heap.size → w.heap[q]? = w0.heap[q]? := fun q hq => (hb.rest q (by omega) (by omega)).trans (hkp q hq)
 have hsz := hS.node y hmem
 have hk := (List.getElem?_eq_some_iff.1 hy).1
 have hM : CntLe (3 * 1048576 * 200) ((T.nodes.take k).foldl bumpN (List.replicate T.nodes.length 0)) := by
  have := bumpNs_le (B := 1048576) (T.nodes.take k) (cnt_zero T.nodes.length) (fun n hn => by have := hS.node n (List.mem_of_mem_take hn); omega)
  refine this.mono ?_
  have : (T.nodes.take k).length ≤ 200 := by simp; omega
  omega
 refine (countPlaces_at g lb _ [(vk, y.kids), (vt, y.thn), (ve, y.els)] T.nodes.length 3 c c2 w (3 * 1048576 * 200) 1048576 hlen.symm rfl hc2 ?_ ?_ hlb ?_ hM ?_ (by omega) (by simp) (by omega) (by omega) (by omega)).mono ?_
 ·intro i p hp
  match i, hp with
  | 0, hp => simp at hp; subst hp; exact hcl.1
  | 1, hp => simp at hp; subst hp; exact hcl.2.1
  | 2, hp => simp at hp; subst hp; exact hcl.2.2
  | i + 3, hp => simp at hp
 ·intro p hp
  rcases in3 hp with rfl | rfl | rfl
  ·exact hK.keep hkp2 hg
  ·exact hT.keep hkp2 hg
  ·exact hE.keep hkp2 hg
 ·intro p hp x hx
  rw [hlen]
  refine hI y hmem x ?_
  unfold listsOf
  rcases in3 hp with rfl | rfl | rfl <;> simp_all
 ·intro p hp
  rcases in3 hp with rfl | rfl | rfl
  ·show (y.kids.length : Int) ≤ 1048576
   omega
  ·show (y.thn.length : Int) ≤ 1048576
   omega
  ·show (y.els.length : Int) ≤ 1048576
   omega
 ·rintro e w' ⟨rfl, h1, h2⟩
  refine ⟨rfl, ?_, hb.trans h2⟩
  rw [bumpNs_take hy]; exact h1
theorem countBody (g lb n : Nat) (T : LTree) (w0 w wr : World) (vb : Value) (c c2 : Nat) (hn : T.nodes.length ≤ 200) (hnn : n = T.nodes.length) (hS : Sized 1048576 T)
  (hI : ∀ x ∈ T.body, 0 ≤ x ∧ x < (T.nodes.length : Int))
  (hB : IntsB w0.heap.size w0 vb T.body) (hkp : ∀ q, q < w0.heap.size → wr.heap[q]? = w0.heap[q]?) (hg : w0.heap.size ≤ g) (hgw : g < wr.heap.size)
  (hb : But g wr w) (hlb : lb ≠ g) (hcl : w.cell? ⟨lb, 0, none⟩ = some vb) (hc2 : Cnt w g 3 (T.nodes.foldl bumpN (List.replicate T.nodes.length 0))) :
  Calls Tryz.prog 115 #[.slice (some ⟨g, 0, none⟩) n c, .slice (some ⟨lb, 0, none⟩) 1 c2] w fun e w' => e = .returned (.tuple #[]) ∧ Cnt w' g 3 (countsL T) ∧ But g wr w' := by
 subst hnn
 have hlen : (T.nodes.foldl bumpN (List.replicate T.nodes.length 0)).length = T.nodes.length := by rw [bumpsN_len]; simp
 have hkp2 : ∀ q, q < w0.heap.size → w.heap[q]? = w0.heap[q]? := fun q hq => (hb.rest q (by omega) (by omega)).trans (hkp q hq)
 have hsz := hS.body
 have hM : CntLe (3 * 1048576 * 200) (T.nodes.foldl bumpN (List.replicate T.nodes.length 0)) := by
  have := bumpNs_le (B := 1048576) T.nodes (cnt_zero T.nodes.length) (fun n hn => by have := hS.node n hn; omega)
  refine this.mono ?_
  omega
 refine (countPlaces_at g lb _ [(vb, T.body)] T.nodes.length 1 c c2 w (3 * 1048576 * 200) 1048576 hlen.symm rfl hc2 ?_ ?_ hlb ?_ hM ?_ (by omega) (by simp) (by omega) (by omega) (by omega)).mono ?_
 ·intro i p hp
  match i, hp with
  | 0, hp => simp at hp; subst hp; exact hcl
  | i + 1, hp => simp at hp
 ·intro p hp
  obtain rfl : p = (vb, T.body) := by simpa using hp
  exact hB.keep hkp2 hg
 ·intro p hp x hx
  rw [hlen]
  obtain rfl : p = (vb, T.body) := by simpa using hp
  exact hI x hx
 ·intro p hp
  obtain rfl : p = (vb, T.body) := by simpa using hp
  show (T.body.length : Int) ≤ 1048576
  omega
 ·rintro e w' ⟨rfl, h1, h2⟩
  exact ⟨rfl, h1, hb.trans h2⟩
theorem countsL_len (T : LTree) : (countsL T).length = T.nodes.length := by unfold countsL; rw [bumps_len, bumpsN_len]; simp
set_option maxHeartbeats 6400000 in
set_option maxRecDepth 100000 in
theorem eachOnce_any (lo : Nat) (vv vn vb : Value) (T : LTree) (w : World) (h : TreeV lo w vv vn vb T) (hS : Sized 1048576 T) (hn : T.nodes.length ≤ 200)
  (hin1 : ∀ n ∈ T.nodes, ∀ x ∈ listsOf n, 0 ≤ x ∧ x < (T.nodes.length : Int)) (hin2 : ∀ x ∈ T.body, 0 ≤ x ∧ x < (T.nodes.length : Int)) :
  Calls Tryz.prog 77 #[treeV vv vn vb] w fun e w' => e = .returned (.bool ((countsL T).all (fun c => decide (c = 1)))) ∧ Below w.heap.size w w' := by
 obtain ⟨i0, hi, hz0, hz1, hz2⟩ := info_parts infoGoInt
 have hmax : T.nodes.length ≤ maxLen := by unfold maxLen; omega
 obtain ⟨av, cv, rfl, _⟩ := id h.vars
 obtain ⟨an, cn, rfl, hcn, hhn⟩ := id h.nodes
 have HBV : Hid (IntsB w.heap.size w vb T.body) := h.body.toB
 obtain ⟨ab, cb, rfl, _⟩ := id h.body
 have HN := hid hhn
 have HS : Hid (Sized 1048576 T) := hS
 have HI1 := hid hin1
 have HI2 := hid hin2
 clear h hhn hS hin1 hin2 hcn
 go_enter Tryz.func77, Tryz.ntmps77
 go_wp2_with (at_make; refine wpList_make_full _ rfl (.tmp 10) (.tmp 10) 155 rfl (w.heap.size + 1) 3 i0 (.int .i64 0) 1 Tryz.underlying155 hi hz0 hz1 .i64 .i64 T.nodes.length T.nodes.length T.nodes.length rfl rfl rfl rfl ?_ hmax (by simp) ?_)
 ·rw [hz2]; omega
 intro w1 hown hgrow
 have hA := heap_alloc_new w (.cells #[.slice av T.vars.length cv, .slice an T.nodes.length cn, .slice ab T.body.length cb] 34)
 have hB : Below w.heap.size w (w.alloc (.cells #[.slice av T.vars.length cv, .slice an T.nodes.length cn, .slice ab T.body.length cb] 34)) := (Below.refl _ _).alloc (Nat.le_refl _) _
 have hZ : (w.alloc (.cells #[.slice av T.vars.length cv, .slice an T.nodes.length cn, .slice ab T.body.length cb] 34)).heap.size = w.heap.size + 1 := by simp
 generalize w.alloc (.cells #[.slice av T.vars.length cv, .slice an T.nodes.length cn, .slice ab T.body.length cb] 34) = W0 at *
 obtain ⟨-, hab, hac⟩ := cl3 hA
 have hB1 : Below W0.heap.size W0 w1 := (Below.refl _ _).grown hgrow (Nat.le_refl _) (fun k hk => by cases hk)
 have hab1 := (hB1.cell (p := ⟨w.heap.size, 1, none⟩) (by simp; omega)).trans hab
 have hac1 := (hB1.cell (p := ⟨w.heap.size, 2, none⟩) (by simp; omega)).trans hac
 have HC : Hid (Cnt w1 (w.heap.size + 1) 3 (List.replicate T.nodes.length 0)) := cnt_of_own (by rw [toList_madeCells_one] at hown; simpa using hown)
 have HB : Hid (Below w.heap.size w w1) := hB.trans (hB1.mono (by omega))
 have hg : w.heap.size + 1 < w1.heap.size := (Array.getElem?_eq_some_iff.1 HC.out).1
 have HA1 := hid hab1
 have HA2 := hid hac1
 clear hgrow hown hB1 hB hA hab hac hac1 hZ
 clear W0
 have hgd : w.heap.size + 1 = w.heap.size + 1 := rfl
 generalize hge : w.heap.size + 1 = g at *
 clear hgd
 go_wp2
 go_loopw [15] (fun i wr => ∃ k : Nat, k ≤ T.nodes.length ∧ i = .int .i64 k ∧ Cnt wr g 3 ((T.nodes.take k).foldl bumpN (List.replicate T.nodes.length 0)) ∧ But g w1 wr) (fun i _ => T.nodes.length - (intOf i).toNat)
 case atStart => exact ⟨0, by omega, rfl, HC.out, But.refl _ _⟩
 case round =>
  obtain ⟨k, hk, rfl, hcnt, hbut⟩ := hrel
  have HCN := hid hcnt
  have HBT : Hid (But g w1 wr) := hbut
  by_cases hlt : k < T.nodes.length
  ·obtain ⟨y, hy⟩ : ∃ y, T.nodes[k]? = some y := ⟨T.nodes[k], List.getElem?_eq_getElem hlt⟩
   obtain ⟨b, o, rfl, _, hc2⟩ := HN.out (by intro e; rw [e] at hlt; simp at hlt)
   obtain ⟨vk, vt, ve, hcs, hvs⟩ := hc2 k y hy
   have hbw : b < w.heap.size := World.block_lt_of_cell? _ _ hcs.c0
   have hkp : ∀ q, q < w.heap.size → wr.heap[q]? = w.heap[q]? := fun q hq => (hbut.rest q (by omega) (by omega)).trans (HB.out.block q hq)
   obtain ⟨d0, d1, d2, d3, d4, d5, d6, d7⟩ := hcs.keep (lo := 0) (w' := wr) (fun q _ hq => hkp q hq) (Nat.zero_le _)
   have HK : Hid (IntsB w.heap.size w vk y.kids) := hvs.kids.toB
   have HT : Hid (IntsB w.heap.size w vt y.thn) := hvs.thn.toB
   have HE : Hid (IntsB w.heap.size w ve y.els) := hvs.els.toB
   have HKP := hid hkp
   obtain ⟨ak, ck, rfl, _⟩ := id hvs.kids
   obtain ⟨at2, ct, rfl, _⟩ := id hvs.thn
   obtain ⟨ae, ce, rfl, _⟩ := id hvs.els
   have HY : Hid (T.nodes[k]? = some y) := hy
   have hgr : g < wr.heap.size := Nat.lt_of_lt_of_le hg hbut.below.size
   clear hy hc2 hcs hvs hkp hcnt hbut
   go_wp2_with fail
   refine (countNode g (wr.heap.size + 1) _ T y k w _ wr _ _ _ _ _ HY.out hn rfl HS.out HI1.out HCN.out HK.out HT.out HE.out HKP.out (by omega) hgr (((But.refl g wr).alloc (by omega) _).alloc (by omega) _) (by omega) (two_alloc3 _ _ _ _ _ _) ?_).mono ?_
   ·exact (HCN.out.alloc _).alloc _
   rintro e w2 ⟨rfl, hc, hb⟩
   have HCN2 : Hid _ := hc
   have HBT2 : Hid (But g w1 w2) := HBT.out.trans hb
   clear hc hb HCN HBT
   go_wp2_with fail
   go_roundw
   case rel => exact ⟨k + 1, by omega, by go_num, HCN2.out, HBT2.out⟩
   case measure => simp [intOf]; omega
  ·have hke : k = T.nodes.length := by omega
   subst hke
   have a2 := hbut.cell (p := ⟨w.heap.size, 2, none⟩) (show w.heap.size ≠ g by omega) HA2.out
   have HKP : Hid (∀ q, q < w.heap.size → wr.heap[q]? = w.heap[q]?) := fun q hq => (hbut.rest q (Nat.lt_of_lt_of_le hq HB.out.size) (by omega)).trans (HB.out.block q hq)
   have hgr : g < wr.heap.size := Nat.lt_of_lt_of_le hg hbut.below.size
   have HCN0 : Hid (Cnt wr g 3 (T.nodes.foldl bumpN (List.replicate T.nodes.length 0))) := by unfold Hid; have := HCN.out; simpa using this
   clear hcnt hbut HCN
   go_wp2_with fail
   refine (countBody g wr.heap.size _ T w _ wr _ _ _ hn rfl HS.out HI2.out HBV.out HKP.out (by omega) hgr ((But.refl g wr).alloc (by omega) _) (by omega) (one_alloc1 _ _ _) ?_).mono ?_
   ·exact HCN0.out.alloc _
   rintro e w2 ⟨rfl, hc, hb⟩
   have HCN := hid hc
   have HBT2 : Hid (But g w1 w2) := HBT.out.trans hb
   have HLN : Hid ((countsL T).length = T.nodes.length) := countsL_len T
   obtain ⟨cs, hcs⟩ : ∃ cs, cs = countsL T := ⟨_, rfl⟩
   rw [← hcs] at HCN HLN
   have HCS : Hid (cs = countsL T) := hcs
   clear hcs
   clear hc hb HCN0 HBT
   go_wp2
   go_loopw [36] (fun i wr => ∃ k : Nat, k ≤ T.nodes.length ∧ i = .int .i64 k ∧ (∀ j, j < k → cs.getD j 0 = 1) ∧ SameW wr w2) (fun i _ => T.nodes.length - (intOf i).toNat)
   case atStart => exact ⟨0, by omega, rfl, by omega, rfl⟩
   case round =>
    obtain ⟨k, hk, rfl, hall, hw⟩ := hrel
    have HALL := hid hall
    have HW : Hid (SameW wr w2) := hw
    by_cases hlt : k < T.nodes.length
    ·have hkl : k < cs.length := by have := HLN.out; omega
     have c0 : wr.cell? ⟨g, k, none⟩ = _ := (congrArg (fun W => World.cell? W ⟨g, k, none⟩) hw).trans (HCN.out.cell k hkl).1
     clear hall hw
     by_cases hz : cs.getD k 0 = 1
     ·have HZ : Hid (cs.getD k 0 = 1) := hz
      rw [hz] at c0
      clear hz hkl
      go_wp2
      go_roundw
      case rel => exact ⟨k + 1, by omega, by go_num, fun j hj => by
        rcases Nat.lt_succ_iff_lt_or_eq.1 hj with h | rfl
        ·exact HALL.out j h
        ·exact HZ.out, HW.out⟩
      case measure => simp [intOf]; omega
     ·have HE : Hid (cs.all (fun c => decide (c = 1)) = false) := List.all_eq_false.2 ⟨cs.getD k 0, by
       rw [List.getD_eq_getElem?_getD, List.getElem?_eq_getElem hkl]; exact List.getElem_mem hkl, by simpa using hz⟩
      have hne : (cs.getD k 0 == 1) = false := by simpa using hz
      have hne2 : decide (cs.getD k 0 = 1) = false := decide_eq_false hz
      generalize cs.getD k 0 = z at *
      clear hkl
      go_wp2
      go_ret
      refine ⟨by rw [← HCS.out, HE.out]; rfl, ?_⟩
      have : wr = w2 := HW.out
      rw [this]
      exact HB.out.trans (HBT2.out.below.mono (by omega))
    ·have HE : Hid (cs.all (fun c => decide (c = 1)) = true) := List.all_eq_true.2 (fun x hx => by
      obtain ⟨j, hj, rfl⟩ := List.getElem_of_mem hx
      have := HALL.out j (by have := HLN.out; omega)
      rw [List.getD_eq_getElem?_getD, List.getElem?_eq_getElem hj] at this
      simpa using this)
     clear hall hw
     go_wp2
     go_ret
     refine ⟨by rw [← HCS.out, HE.out]; rfl, ?_⟩
     have : wr = w2 := HW.out
     rw [this]
     exact HB.out.trans (HBT2.out.below.mono (by omega))
end Go.Proofs.YtepjaoapjpmjkaaGreatDoor
