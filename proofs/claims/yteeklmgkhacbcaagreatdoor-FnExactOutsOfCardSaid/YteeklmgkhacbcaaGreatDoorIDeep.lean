/-
  impl.deepestOf, depths, deepest.
-/
import Derived.Test.YteeklmgkhacbcaaGreatDoorICount
import Derived.Test.YteeklmgkhacbcaaGreatDoorIVarsM
import Derived.Test.YteeklmgkhacbcaaGreatDoorITruth
import Derived.Test.YteeklmgkhacbcaaGreatDoorStr
namespace Go.Proofs.YteeklmgkhacbcaaGreatDoor
open Go.RowKit
set_option linter.unusedVariables false
attribute [local go_sem] bs_size bs_get bs_extract bs_append bs_eq bs_toList
theorem infoGoInt : (Tryz.prog.info? 3).map (fun i => (i.zero, i.size, i.bytes)) = some (some (.int .i64 0), 1, 8) := by kernel_rfl
theorem But.alloc {g : Nat} {w w' : World} (h : But g w w') (hg : g ≤ w.heap.size) (o : Obj) : But g w (w'.alloc o) :=
 ⟨h.below.alloc (Nat.le_trans hg h.below.size) o, fun b hb hne => (Below.heap_alloc _ _ _ (Nat.lt_of_lt_of_le hb h.below.size)).trans (h.rest b hb hne)⟩
theorem IntsB.keep {hi hi' : Nat} {w w' : World} {v : Value} {xs : List Int} (h : IntsB hi w v xs) (hk : ∀ b, b < hi → w'.heap[b]? = w.heap[b]?) (hh : hi ≤ hi') : IntsB hi' w' v xs := by
 obtain ⟨a, c, h1, h3⟩ := h
 refine ⟨a, c, h1, fun hn => ?_⟩
 obtain ⟨b, o, e, hl, hc⟩ := h3 hn
 refine ⟨b, o, e, Nat.lt_of_lt_of_le hl hh, fun i x hx => ?_⟩
 rw [World.cell?_of_block (a := ⟨b, o + i, none⟩) (hk b hl)]; exact hc i x hx
theorem cnt_of_own {w : World} {B n g : Nat} {T : TypeId} (h : w.ownsRow B T 1 (.slice (some ⟨g, 0, none⟩) n n) n (List.replicate n (.int .i64 0))) : Cnt w g T (List.replicate n 0) := by
 rcases h.2 with ⟨h, _⟩ | ⟨g', c, cur, h, _, hh, _, _, hs, ht⟩
 ·simp at h
 ·simp at h
  obtain ⟨rfl, rfl⟩ := h
  unfold Cnt
  rw [hh]
  have : cur = (List.map (Value.int .i64) (List.replicate n 0)).toArray := by
   apply Array.ext'
   simp at ht ⊢
   have h2 : cur.toList.length = n := by simpa using hs
   rw [List.take_of_length_le (by omega)] at ht
   exact ht
  rw [this]
theorem two_alloc3 (w : World) (o : Obj) (a b c : Value) (T : TypeId) : ((w.alloc o).alloc (.cells #[a, b, c] T)).cell? ⟨w.heap.size + 1, 0, none⟩ = some a ∧ ((w.alloc o).alloc (.cells #[a, b, c] T)).cell? ⟨w.heap.size + 1, 1, none⟩ = some b ∧ ((w.alloc o).alloc (.cells #[a, b, c] T)).cell? ⟨w.heap.size + 1, 2, none⟩ = some c := by
 have e := heap_alloc_new (w.alloc o) (.cells #[a, b, c] T)
 rw [show (w.alloc o).heap.size = w.heap.size + 1 from by simp] at e
 obtain ⟨b0, b1, b2⟩ := cl3 e
 exact ⟨b0, b1, b2⟩
theorem one_alloc1 (w : World) (a : Value) (T : TypeId) : (w.alloc (.cells #[a] T)).cell? ⟨w.heap.size, 0, none⟩ = some a := by
 have e := heap_alloc_new w (.cells #[a] T)
 exact cell_of_row _ _ 0 _ _ _ e
theorem Cnt.alloc {w : World} {g : Nat} {T : TypeId} {cs : List Int} (h : Cnt w g T cs) (o : Obj) : Cnt (w.alloc o) g T cs :=
 (Below.heap_alloc _ _ _ ((Array.getElem?_eq_some_iff.1 h).1)).trans h
theorem in3 {p a b c : Value × List Int} (h : p ∈ [a, b, c]) : p = a ∨ p = b ∨ p = c := by simpa using h
theorem countNode (g lb n : Nat) (T : LTree) (y : LNode) (k : Nat) (w0 w wr : World) (vk vt ve : Value) (c c2 : Nat) (hy : T.nodes[k]? = some y) (hn : T.nodes.length ≤ 200) (hnn : n = T.nodes.length) (hS : Sized 1048576 T)
  (hI : ∀ n ∈ T.nodes, ∀ x ∈ listsOf n, 0 ≤ x ∧ x < (T.nodes.length : Int))
  (hc : Cnt wr g 3 ((T.nodes.take k).foldl bumpN (List.replicate T.nodes.length 0)))
  (hK : IntsB w0.heap.size w0 vk y.kids) (hT : IntsB w0.heap.size w0 vt y.thn) (hE : IntsB w0.heap.size w0 ve y.els) (hkp : ∀ q, q < w0.heap.size → wr.heap[q]? = w0.heap[q]?) (hg : w0.heap.size ≤ g) (hgw : g < wr.heap.size)
  (hb : But g wr w) (hlb : lb ≠ g) (hcl : w.cell? ⟨lb, 0, none⟩ = some vk ∧ w.cell? ⟨lb, 1, none⟩ = some vt ∧ w.cell? ⟨lb, 2, none⟩ = some ve) (hc2 : Cnt w g 3 ((T.nodes.take k).foldl bumpN (List.replicate T.nodes.length 0))) :
  Calls Tryz.prog 125 #[.slice (some ⟨g, 0, none⟩) n c, .slice (some ⟨lb, 0, none⟩) 3 c2] w fun e w' => e = .returned (.tuple #[]) ∧ Cnt w' g 3 ((T.nodes.take (k + 1)).foldl bumpN (List.replicate T.nodes.length 0)) ∧ But g wr w' := by
 subst hnn
 have hmem := List.mem_of_getElem? hy
 have hlen : ((T.nodes.take k).foldl bumpN (List.replicate T.nodes.length 0)).length = T.nodes.length := by rw [bumpsN_len]; simp
 have hkp2 : ∀ q, q < w0.heap.size → w.heap[q]? = w0.heap[q]? := fun q hq => (hb.rest q (by omega) (by omega)).trans (hkp q hq)
 have hsz := hS.node y hmem
 have hk := (List.getElem?_eq_some_iff.1 hy).1
 have hM : CntLe (3 * 1048576 * 200) ((T.nodes.take k).foldl bumpN (List.replicate T.nodes.length 0)) := by
  have := bumpNs_le (B := 1048576) (T.nodes.take k) (cnt_zero T.nodes.length) (fun n hn => by have := hS.node n (List.mem_of_mem_take hn); omega)
  refine this.mono ?_
  have : (T.nodes.take k).length ≤ 200 := by simp; omega
  omega
 refine (countPlaces_at g lb _ [(vk, y.kids), (vt, y.thn), (ve, y.els)] T.nodes.length 3 c c2 w (3 * 1048576 * 200) 1048576 hlen.symm rfl hc2 ?_ ?_ hlb ?_ hM ?_ (by omega) (by simp) (by omega) (by omega) (by omega)).mono ?_
 ·intro i p hp
  match i, hp with
  | 0, hp => simp at hp; subst hp; exact hcl.1
  | 1, hp => simp at hp; subst hp; exact hcl.2.1
  | 2, hp => simp at hp; subst hp; exact hcl.2.2
  | i + 3, hp => simp at hp
 ·intro p hp
  rcases in3 hp with rfl | rfl | rfl
  ·exact hK.keep hkp2 hg
  ·exact hT.keep hkp2 hg
  ·exact hE.keep hkp2 hg
 ·intro p hp x hx
  rw [hlen]
  refine hI y hmem x ?_
  unfold listsOf
  rcases in3 hp with rfl | rfl | rfl <;> simp_all
 ·intro p hp
  rcases in3 hp with rfl | rfl | rfl
  ·show (y.kids.length : Int) ≤ 1048576
   omega
  ·show (y.thn.length : Int) ≤ 1048576
   omega
  ·show (y.els.length : Int) ≤ 1048576
   omega
 ·rintro e w' ⟨rfl, h1, h2⟩
  refine ⟨rfl, ?_, hb.trans h2⟩
  rw [bumpNs_take hy]; exact h1
theorem countBody (g lb n : Nat) (T : LTree) (w0 w wr : World) (vb : Value) (c c2 : Nat) (hn : T.nodes.length ≤ 200) (hnn : n = T.nodes.length) (hS : Sized 1048576 T)
  (hI : ∀ x ∈ T.body, 0 ≤ x ∧ x < (T.nodes.length : Int))
  (hB : IntsB w0.heap.size w0 vb T.body) (hkp : ∀ q, q < w0.heap.size → wr.heap[q]? = w0.heap[q]?) (hg : w0.heap.size ≤ g) (hgw : g < wr.heap.size)
  (hb : But g wr w) (hlb : lb ≠ g) (hcl : w.cell? ⟨lb, 0, none⟩ = some vb) (hc2 : Cnt w g 3 (T.nodes.foldl bumpN (List.replicate T.nodes.length 0))) :
  Calls Tryz.prog 125 #[.slice (some ⟨g, 0, none⟩) n c, .slice (some ⟨lb, 0, none⟩) 1 c2] w fun e w' => e = .returned (.tuple #[]) ∧ Cnt w' g 3 (countsL T) ∧ But g wr w' := by
 subst hnn
 have hlen : (T.nodes.foldl bumpN (List.replicate T.nodes.length 0)).length = T.nodes.length := by rw [bumpsN_len]; simp
 have hkp2 : ∀ q, q < w0.heap.size → w.heap[q]? = w0.heap[q]? := fun q hq => (hb.rest q (by omega) (by omega)).trans (hkp q hq)
 have hsz := hS.body
 have hM : CntLe (3 * 1048576 * 200) (T.nodes.foldl bumpN (List.replicate T.nodes.length 0)) := by
  have := bumpNs_le (B := 1048576) T.nodes (cnt_zero T.nodes.length) (fun n hn => by have := hS.node n hn; omega)
  refine this.mono ?_
  omega
 refine (countPlaces_at g lb _ [(vb, T.body)] T.nodes.length 1 c c2 w (3 * 1048576 * 200) 1048576 hlen.symm rfl hc2 ?_ ?_ hlb ?_ hM ?_ (by omega) (by simp) (by omega) (by omega) (by omega)).mono ?_
 ·intro i p hp
  match i, hp with
  | 0, hp => simp at hp; subst hp; exact hcl
  | i + 1, hp => simp at hp
 ·intro p hp
  obtain rfl : p = (vb, T.body) := by simpa using hp
  exact hB.keep hkp2 hg
 ·intro p hp x hx
  rw [hlen]
  obtain rfl : p = (vb, T.body) := by simpa using hp
  exact hI x hx
 ·intro p hp
  obtain rfl : p = (vb, T.body) := by simpa using hp
  show (T.body.length : Int) ≤ 1048576
  omega
 ·rintro e w' ⟨rfl, h1, h2⟩
  exact ⟨rfl, h1, hb.trans h2⟩
theorem countsL_len (T : LTree) : (countsL T).length = T.nodes.length := by unfold countsL; rw [bumps_len, bumpsN_len]; simp
set_option maxHeartbeats 6400000 in
set_option maxRecDepth 100000 in
theorem eachOnce_any (lo : Nat) (vv vn vb : Value) (T : LTree) (w : World) (h : TreeV lo w vv vn vb T) (hS : Sized 1048576 T) (hn : T.nodes.length ≤ 200)
  (hin1 : ∀ n ∈ T.nodes, ∀ x ∈ listsOf n, 0 ≤ x ∧ x < (T.nodes.length : Int)) (hin2 : ∀ x ∈ T.body, 0 ≤ x ∧ x < (T.nodes.length : Int)) :
  Calls Tryz.prog 100 #[treeV vv vn vb] w fun e w' => e = .returned (.bool ((countsL T).all (fun c => decide (c = 1)))) ∧ Below w.heap.size w w' := by
 obtain ⟨i0, hi, hz0, hz1, hz2⟩ := info_parts infoGoInt
 have hmax : T.nodes.length ≤ maxLen := by unfold maxLen; omega
 obtain ⟨av, cv, rfl, _⟩ := id h.vars
 obtain ⟨an, cn, rfl, hcn, hhn⟩ := id h.nodes
 have HBV : Hid (IntsB w.heap.size w vb T.body) := h.body.toB
 obtain ⟨ab, cb, rfl, _⟩ := id h.body
 have HN := hid hhn
 have HS : Hid (Sized 1048576 T) := hS
 have HI1 := hid hin1
 have HI2 := hid hin2
 clear h hhn hS hin1 hin2 hcn
 go_enter Tryz.func100, Tryz.ntmps100
 go_wp2_with (at_make; refine wpList_make_full _ rfl (.tmp 10) (.tmp 10) 165 rfl (w.heap.size + 1) 3 i0 (.int .i64 0) 1 Tryz.underlying165 hi hz0 hz1 .i64 .i64 T.nodes.length T.nodes.length T.nodes.length rfl rfl rfl rfl ?_ hmax (by simp) ?_)
 ·rw [hz2]; omega
 intro w1 hown hgrow
 have hA := heap_alloc_new w (.cells #[.slice av T.vars.length cv, .slice an T.nodes.length cn, .slice ab T.body.length cb] 37)
 have hB : Below w.heap.size w (w.alloc (.cells #[.slice av T.vars.length cv, .slice an T.nodes.length cn, .slice ab T.body.length cb] 37)) := (Below.refl _ _).alloc (Nat.le_refl _) _
 have hZ : (w.alloc (.cells #[.slice av T.vars.length cv, .slice an T.nodes.length cn, .slice ab T.body.length cb] 37)).heap.size = w.heap.size + 1 := by simp
 generalize w.alloc (.cells #[.slice av T.vars.length cv, .slice an T.nodes.length cn, .slice ab T.body.length cb] 37) = W0 at *
 obtain ⟨-, hab, hac⟩ := cl3 hA
 have hB1 : Below W0.heap.size W0 w1 := (Below.refl _ _).grown hgrow (Nat.le_refl _) (fun k hk => by cases hk)
 have hab1 := (hB1.cell (p := ⟨w.heap.size, 1, none⟩) (by simp; omega)).trans hab
 have hac1 := (hB1.cell (p := ⟨w.heap.size, 2, none⟩) (by simp; omega)).trans hac
 have HC : Hid (Cnt w1 (w.heap.size + 1) 3 (List.replicate T.nodes.length 0)) := cnt_of_own (by rw [toList_madeCells_one] at hown; simpa using hown)
 have HB : Hid (Below w.heap.size w w1) := hB.trans (hB1.mono (by omega))
 have hg : w.heap.size + 1 < w1.heap.size := (Array.getElem?_eq_some_iff.1 HC.out).1
 have HA1 := hid hab1
 have HA2 := hid hac1
 clear hgrow hown hB1 hB hA hab hac hac1 hZ
 clear W0
 have hgd : w.heap.size + 1 = w.heap.size + 1 := rfl
 generalize hge : w.heap.size + 1 = g at *
 clear hgd
 go_wp2
 go_loopw [15] (fun i wr => ∃ k : Nat, k ≤ T.nodes.length ∧ i = .int .i64 k ∧ Cnt wr g 3 ((T.nodes.take k).foldl bumpN (List.replicate T.nodes.length 0)) ∧ But g w1 wr) (fun i _ => T.nodes.length - (intOf i).toNat)
 case atStart => exact ⟨0, by omega, rfl, HC.out, But.refl _ _⟩
 case round =>
  obtain ⟨k, hk, rfl, hcnt, hbut⟩ := hrel
  have HCN := hid hcnt
  have HBT : Hid (But g w1 wr) := hbut
  by_cases hlt : k < T.nodes.length
  ·obtain ⟨y, hy⟩ : ∃ y, T.nodes[k]? = some y := ⟨T.nodes[k], List.getElem?_eq_getElem hlt⟩
   obtain ⟨b, o, rfl, _, hc2⟩ := HN.out (by intro e; rw [e] at hlt; simp at hlt)
   obtain ⟨vk, vt, ve, hcs, hvs⟩ := hc2 k y hy
   have hbw : b < w.heap.size := World.block_lt_of_cell? _ _ hcs.c0
   have hkp : ∀ q, q < w.heap.size → wr.heap[q]? = w.heap[q]? := fun q hq => (hbut.rest q (by omega) (by omega)).trans (HB.out.block q hq)
   obtain ⟨d0, d1, d2, d3, d4, d5, d6, d7⟩ := hcs.keep (lo := 0) (w' := wr) (fun q _ hq => hkp q hq) (Nat.zero_le _)
   have HK : Hid (IntsB w.heap.size w vk y.kids) := hvs.kids.toB
   have HT : Hid (IntsB w.heap.size w vt y.thn) := hvs.thn.toB
   have HE : Hid (IntsB w.heap.size w ve y.els) := hvs.els.toB
   have HKP := hid hkp
   obtain ⟨ak, ck, rfl, _⟩ := id hvs.kids
   obtain ⟨at2, ct, rfl, _⟩ := id hvs.thn
   obtain ⟨ae, ce, rfl, _⟩ := id hvs.els
   have HY : Hid (T.nodes[k]? = some y) := hy
   have hgr : g < wr.heap.size := Nat.lt_of_lt_of_le hg hbut.below.size
   clear hy hc2 hcs hvs hkp hcnt hbut
   go_wp2_with fail
   refine (countNode g (wr.heap.size + 1) _ T y k w _ wr _ _ _ _ _ HY.out hn rfl HS.out HI1.out HCN.out HK.out HT.out HE.out HKP.out (by omega) hgr (((But.refl g wr).alloc (by omega) _).alloc (by omega) _) (by omega) (two_alloc3 _ _ _ _ _ _) ?_).mono ?_
   ·exact (HCN.out.alloc _).alloc _
   rintro e w2 ⟨rfl, hc, hb⟩
   have HCN2 : Hid _ := hc
   have HBT2 : Hid (But g w1 w2) := HBT.out.trans hb
   clear hc hb HCN HBT
   go_wp2_with fail
   go_roundw
   case rel => exact ⟨k + 1, by omega, by go_num, HCN2.out, HBT2.out⟩
   case measure => simp [intOf]; omega
  ·have hke : k = T.nodes.length := by omega
   subst hke
   have a2 := hbut.cell (p := ⟨w.heap.size, 2, none⟩) (show w.heap.size ≠ g by omega) HA2.out
   have HKP : Hid (∀ q, q < w.heap.size → wr.heap[q]? = w.heap[q]?) := fun q hq => (hbut.rest q (Nat.lt_of_lt_of_le hq HB.out.size) (by omega)).trans (HB.out.block q hq)
   have hgr : g < wr.heap.size := Nat.lt_of_lt_of_le hg hbut.below.size
   have HCN0 : Hid (Cnt wr g 3 (T.nodes.foldl bumpN (List.replicate T.nodes.length 0))) := by unfold Hid; have := HCN.out; simpa using this
   clear hcnt hbut HCN
   go_wp2_with fail
   refine (countBody g wr.heap.size _ T w _ wr _ _ _ hn rfl HS.out HI2.out HBV.out HKP.out (by omega) hgr ((But.refl g wr).alloc (by omega) _) (by omega) (one_alloc1 _ _ _) ?_).mono ?_
   ·exact HCN0.out.alloc _
   rintro e w2 ⟨rfl, hc, hb⟩
   have HCN := hid hc
   have HBT2 : Hid (But g w1 w2) := HBT.out.trans hb
   have HLN : Hid ((countsL T).length = T.nodes.length) := countsL_len T
   obtain ⟨cs, hcs⟩ : ∃ cs, cs = countsL T := ⟨_, rfl⟩
   rw [← hcs] at HCN HLN
   have HCS : Hid (cs = countsL T) := hcs
   clear hcs
   clear hc hb HCN0 HBT
   go_wp2
   go_loopw [36] (fun i wr => ∃ k : Nat, k ≤ T.nodes.length ∧ i = .int .i64 k ∧ (∀ j, j < k → cs.getD j 0 = 1) ∧ SameW wr w2) (fun i _ => T.nodes.length - (intOf i).toNat)
   case atStart => exact ⟨0, by omega, rfl, by omega, rfl⟩
   case round =>
    obtain ⟨k, hk, rfl, hall, hw⟩ := hrel
    have HALL := hid hall
    have HW : Hid (SameW wr w2) := hw
    by_cases hlt : k < T.nodes.length
    ·have hkl : k < cs.length := by have := HLN.out; omega
     have c0 : wr.cell? ⟨g, k, none⟩ = _ := (congrArg (fun W => World.cell? W ⟨g, k, none⟩) hw).trans (HCN.out.cell k hkl).1
     clear hall hw
     by_cases hz : cs.getD k 0 = 1
     ·have HZ : Hid (cs.getD k 0 = 1) := hz
      rw [hz] at c0
      clear hz hkl
      go_wp2
      go_roundw
      case rel => exact ⟨k + 1, by omega, by go_num, fun j hj => by
        rcases Nat.lt_succ_iff_lt_or_eq.1 hj with h | rfl
        ·exact HALL.out j h
        ·exact HZ.out, HW.out⟩
      case measure => simp [intOf]; omega
     ·have HE : Hid (cs.all (fun c => decide (c = 1)) = false) := List.all_eq_false.2 ⟨cs.getD k 0, by
       rw [List.getD_eq_getElem?_getD, List.getElem?_eq_getElem hkl]; exact List.getElem_mem hkl, by simpa using hz⟩
      have hne : (cs.getD k 0 == 1) = false := by simpa using hz
      have hne2 : decide (cs.getD k 0 = 1) = false := decide_eq_false hz
      generalize cs.getD k 0 = z at *
      clear hkl
      go_wp2
      go_ret
      refine ⟨by rw [← HCS.out, HE.out]; rfl, ?_⟩
      have : wr = w2 := HW.out
      rw [this]
      exact HB.out.trans (HBT2.out.below.mono (by omega))
    ·have HE : Hid (cs.all (fun c => decide (c = 1)) = true) := List.all_eq_true.2 (fun x hx => by
      obtain ⟨j, hj, rfl⟩ := List.getElem_of_mem hx
      have := HALL.out j (by have := HLN.out; omega)
      rw [List.getD_eq_getElem?_getD, List.getElem?_eq_getElem hj] at this
      simpa using this)
     clear hall hw
     go_wp2
     go_ret
     refine ⟨by rw [← HCS.out, HE.out]; rfl, ?_⟩
     have : wr = w2 := HW.out
     rw [this]
     exact HB.out.trans (HBT2.out.below.mono (by omega))
set_option maxHeartbeats 3200000 in
set_option maxRecDepth 100000 in
theorem deepestOf_any (g : Nat) (ds : List Int) (k c : Nat) (v : Value) (l : List Int) (hi : Nat) (w : World) (hk : ds.length = k) (hk1 : k ≤ 1048576) (hc : ∀ i, i < k → w.cell? ⟨g, i, none⟩ = some (.int .i64 (ds.getD i 0))) (hv : IntsB hi w v l) (hl : l.length ≤ 1048576) :
  Calls Tryz.prog 138 #[.slice (some ⟨g, 0, none⟩) k c, v] w fun e w' => e = .returned (.int .i64 (deepG ds k 0 l)) ∧ w' = w := by
 obtain ⟨a, cp, rfl, hh⟩ := hv
 have HH := hid hh
 have HC := hid hc
 have HWI : Hid (∀ (z a b : Int) (w : World), Calls Tryz.prog 96 #[.int .i64 z, .int .i64 a, .int .i64 b] w fun e w' => e = .returned (.bool (inB z a b)) ∧ w' = w) := within_any
 clear hh hc
 go_enter Tryz.func138, Tryz.ntmps138
 go_wp2
 go_loopw [5, 10] (fun d i wr => ∃ j : Nat, j ≤ l.length ∧ i = .int .i64 j ∧ d = .int .i64 (deepG ds k 0 (l.take j)) ∧ SameW wr w) (fun d i _ => l.length - (intOf i).toNat)
 case atStart => exact ⟨0, by omega, rfl, rfl, rfl⟩
 case round =>
  obtain ⟨j, hj, rfl, rfl, hw⟩ := hrel
  have HW : Hid (SameW wr w) := hw
  by_cases hlt : j < l.length
  ·obtain ⟨x, hx⟩ : ∃ x, l[j]? = some x := ⟨l[j], List.getElem?_eq_getElem hlt⟩
   obtain ⟨b, o, rfl, _, hc1⟩ := HH.out (by intro e; rw [e] at hlt; simp at hlt)
   have c0 : wr.cell? ⟨b, o + j, none⟩ = _ := (congrArg (fun W => World.cell? W ⟨b, o + j, none⟩) hw).trans (hc1 j x hx)
   have HD : Hid (deepG ds k 0 (l.take (j + 1)) = deepStep ds k (deepG ds k 0 (l.take j)) x) := deepG_take hx
   generalize deepG ds k 0 (l.take j) = d at *
   clear hx hc1
   obtain ⟨q, hq⟩ : ∃ q, inB x 0 ((k : Int) - 1) = q := ⟨_, rfl⟩
   cases q with
   | false =>
    have hD : Hid (deepG ds k 0 (l.take (j + 1)) = d) := by unfold Hid; rw [HD.out]; unfold deepStep; rw [hq]; rfl
    have hI : Hid (∀ w, Calls Tryz.prog 96 #[.int .i64 x, .int .i64 0, .int .i64 ((k : Int) - 1)] w fun e w' => e = .returned (.bool false) ∧ w' = w) := fun w => by have h := HWI.out x 0 ((k : Int) - 1) w; rwa [hq] at h
    clear hq hw
    go_wp2_with fail
    refine (hI.out _).mono ?_
    rintro e w1 ⟨rfl, rfl⟩
    go_wp2_with fail
    go_roundw
    case rel => exact ⟨j + 1, by omega, by go_num, by rw [hD.out], HW.out⟩
    case measure => simp [intOf]; omega
   | true =>
    have hq2 := inB_iff.1 hq
    obtain ⟨p, rfl⟩ : ∃ p : Nat, x = p := ⟨x.toNat, by omega⟩
    have hpk : p < k := by omega
    have d0 : wr.cell? ⟨g, p, none⟩ = _ := (congrArg (fun W => World.cell? W ⟨g, p, none⟩) hw).trans (HC.out p hpk)
    have hD : Hid (deepG ds k 0 (l.take (j + 1)) = max d (ds.getD p 0)) := by unfold Hid; rw [HD.out]; unfold deepStep; rw [hq]; rfl
    generalize ds.getD p 0 = z at *
    have hI : Hid (∀ w, Calls Tryz.prog 96 #[.int .i64 (p : Int), .int .i64 0, .int .i64 ((k : Int) - 1)] w fun e w' => e = .returned (.bool true) ∧ w' = w) := fun w => by have h := HWI.out (p : Int) 0 ((k : Int) - 1) w; rwa [hq] at h
    have hp0 : (0 : Int) ≤ (p : Int) := by omega
    have hp1 : (p : Int) < (k : Int) := by omega
    clear hq hw hq2
    go_wp2_with fail
    refine (hI.out _).mono ?_
    rintro e w1 ⟨rfl, rfl⟩
    go_wp2_with fail
    go_roundw
    case rel => exact ⟨j + 1, by omega, by go_num, by rw [hD.out, show max d z = (if d < z then z else d) from by split <;> omega], HW.out⟩
    case measure => simp [intOf]; omega
  ·have hje : j = l.length := by omega
   have e : deepG ds k 0 (l.take j) = deepG ds k 0 l := by rw [hje, List.take_length]
   rw [e]
   clear hje e
   go_wp2
   go_ret
   exact ⟨rfl, hw⟩
theorem cnt_of_own64 {w : World} {B n g : Nat} {T : TypeId} {zs : List Int} (h : w.ownsRow B T 1 (.slice (some ⟨g, 0, none⟩) n n) n (zs.map (Value.int .i64))) : Cnt w g T zs := by
 rcases h.2 with ⟨h, _⟩ | ⟨g', c, cur, h, _, hh, _, _, hs, ht⟩
 ·simp at h
 ·simp at h
  obtain ⟨rfl, rfl⟩ := h
  unfold Cnt
  rw [hh]
  have : cur = (List.map (Value.int .i64) zs).toArray := by
   apply Array.ext'
   simp at ht ⊢
   have h2 : cur.toList.length = n := by simpa using hs
   rw [List.take_of_length_le (by omega)] at ht
   exact ht
  rw [this]
theorem Cnt.put {w : World} {g : Nat} {T : TypeId} {cs : List Int} (h : Cnt w g T cs) (j : Nat) (v : Int) : Cnt (w.setCell ⟨g, j, none⟩ (.int .i64 v)) g T (cs.set j v) := by
 have := heap_setCell_same w g j _ _ (.int .i64 v) h
 unfold Cnt
 rw [this]
 simp [List.map_set]
theorem depths_put (N : List LNode) (k n : Nat) (hk : k < n) : (depthsF N k ++ List.replicate (n - k) 0).set k (deepN (depthsF N k) k (N.getD k default) + 1) = depthsF N (k + 1) ++ List.replicate (n - (k + 1)) 0 := by
 rw [List.set_append_right _ _ (by rw [depthsF_len]; omega), depthsF_len, Nat.sub_self]
 obtain ⟨m, hm⟩ : ∃ m, n - k = m + 1 := ⟨n - k - 1, by omega⟩
 rw [hm, List.replicate_succ, List.set_cons_zero, show n - (k + 1) = m by omega]
 simp [depthsF]
theorem slice_pre (g k n : Nat) (h : k ≤ n) (W : World) : (Instr.slice 24 (.slice (some ⟨g, 0, none⟩) n n) none (some (.int .i64 (k : Int))) none).run Tryz.prog W = .ok (.slice (some ⟨g, 0, none⟩) k n) W := by
 have hu := Tryz.underlying24
 simp [go_sem, hu, h]
theorem But.drew {g : Nat} {w w' : World} (h : But g w w') : But g w w'.drew := ⟨h.below.drew, h.rest⟩
theorem max3 (x y z : Int) (W : World) : (Builtin.max_ #[2, 2, 2] 2 #[.int .i64 x, .int .i64 y, .int .i64 z]).run Tryz.prog W = .ok (.int .i64 (max x (max y z))) W := by
 have e3 : max (max x y) z = max x (max y z) := by omega
 have e1 : (if y > x then y else x) = max x y := by split <;> omega
 have e2 : (if z > max x y then z else max x y) = max (max x y) z := by split <;> omega
 show (([Value.int .i64 y, .int .i64 z].foldlM Builtin.max2 (.int .i64 x) : Sem Value)).run Tryz.prog W = _
 simp only [List.foldlM_cons, List.foldlM_nil, Builtin.max2, Sem.run_bind, Sem.run_pure, Result.andThen_ok, e1, e2, e3]
set_option maxHeartbeats 6400000 in
set_option maxRecDepth 100000 in
theorem depths_any (lo : Nat) (a2 : Option Addr) (c2 : Nat) (N : List LNode) (w : World) (h : NodesV lo w (.slice a2 N.length c2) N) (hn : N.length ≤ 1048576) (hS : ∀ n ∈ N, n.kids.length ≤ 1048576 ∧ n.thn.length ≤ 1048576 ∧ n.els.length ≤ 1048576) :
  Calls Tryz.prog 126 #[.slice a2 N.length c2] w fun e w' => e = .returned (.slice (some ⟨w.heap.size, 0, none⟩) N.length N.length) ∧ Cnt w' w.heap.size 2 (depthsF N N.length) ∧ Below w.heap.size w w' := by
 obtain ⟨i0, hi, hz0, hz1, hz2⟩ := info_parts infoInt
 have hmax : N.length ≤ maxLen := by unfold maxLen; omega
 obtain ⟨_, _, he, _, hhn⟩ := id h
 cases he
 have HN := hid hhn
 have HS := hid hS
 clear h hhn hS
 go_enter Tryz.func126, Tryz.ntmps126
 go_wp2_with (at_make; refine wpList_make_full _ rfl (.tmp 8) (.tmp 8) 24 rfl w.heap.size 2 i0 (.int .i64 0) 1 Tryz.underlying24 hi hz0 hz1 .i64 .i64 N.length N.length N.length rfl rfl rfl rfl ?_ hmax (Nat.le_refl _) ?_)
 ·rw [hz2]; omega
 intro w1 hown hgrow
 have HB : Hid (Below w.heap.size w w1) := (Below.refl _ _).grown hgrow (Nat.le_refl _) (fun k hk => by cases hk)
 have HC : Hid (Cnt w1 w.heap.size 2 (List.replicate N.length 0)) := cnt_of_own64 (by rw [toList_madeCells_one] at hown; simpa using hown)
 have hg : w.heap.size < w1.heap.size := (Array.getElem?_eq_some_iff.1 HC.out).1
 clear hgrow hown
 generalize hge : w.heap.size = g at *
 go_wp2
 go_loopw [12] (fun i wr => ∃ k : Nat, k ≤ N.length ∧ i = .int .i64 k ∧ Cnt wr g 2 (depthsF N k ++ List.replicate (N.length - k) 0) ∧ But g w1 wr) (fun i _ => N.length - (intOf i).toNat)
 case atStart => exact ⟨0, by omega, rfl, HC.out, But.refl _ _⟩
 case round =>
  obtain ⟨k, hk, rfl, hcnt, hbut⟩ := hrel
  have HCN := hid hcnt
  have HBT : Hid (But g w1 wr) := hbut
  by_cases hlt : k < N.length
  ·obtain ⟨y, hy⟩ : ∃ y, N[k]? = some y := ⟨N[k], List.getElem?_eq_getElem hlt⟩
   obtain ⟨b, o, rfl, _, hc2⟩ := HN.out (by intro e; rw [e] at hlt; simp at hlt)
   obtain ⟨vk, vt, ve, hcs, hvs⟩ := hc2 k y hy
   have hbw : b < w.heap.size := World.block_lt_of_cell? _ _ hcs.c0
   have hkp : ∀ q, q < w.heap.size → wr.heap[q]? = w.heap[q]? := fun q hq => (hbut.rest q (by omega) (by omega)).trans (HB.out.block q (by omega))
   obtain ⟨d0, d1, d2, d3, d4, d5, d6, d7⟩ := hcs.keep (lo := 0) (w' := wr) (fun q _ hq => hkp q hq) (Nat.zero_le _)
   have HK : Hid (IntsB w.heap.size w vk y.kids) := hvs.kids.toB
   have HT : Hid (IntsB w.heap.size w vt y.thn) := hvs.thn.toB
   have HE : Hid (IntsB w.heap.size w ve y.els) := hvs.els.toB
   have HKP := hid hkp
   obtain ⟨ak, ck, rfl, _⟩ := id hvs.kids
   obtain ⟨at2, ct, rfl, _⟩ := id hvs.thn
   obtain ⟨ae, ce, rfl, _⟩ := id hvs.els
   have HY : Hid (N[k]? = some y) := hy
   have hgr : g < wr.heap.size := Nat.lt_of_lt_of_le hg hbut.below.size
   have hsz := HS.out y (List.mem_of_getElem? hy)
   clear hy hc2 hcs hvs hkp hcnt hbut
   go_wp2_with fail
   have hA := heap_alloc_new wr (.cells #[.int .i64 y.kind, .int .i64 y.op, .string (bs y.name), .int .i64 y.num, .int .i64 y.far, .slice ak y.kids.length ck, .slice at2 y.thn.length ct, .slice ae y.els.length ce] 88)
   have hB5 : But g wr (wr.alloc (.cells #[.int .i64 y.kind, .int .i64 y.op, .string (bs y.name), .int .i64 y.num, .int .i64 y.far, .slice ak y.kids.length ck, .slice at2 y.thn.length ct, .slice ae y.els.length ce] 88)) := (But.refl g wr).alloc (by omega) _
   have hC5 := HCN.out.alloc (.cells #[.int .i64 y.kind, .int .i64 y.op, .string (bs y.name), .int .i64 y.num, .int .i64 y.far, .slice ak y.kids.length ck, .slice at2 y.thn.length ct, .slice ae y.els.length ce] 88)
   generalize wr.alloc (.cells #[.int .i64 y.kind, .int .i64 y.op, .string (bs y.name), .int .i64 y.num, .int .i64 y.far, .slice ak y.kids.length ck, .slice at2 y.thn.length ct, .slice ae y.els.length ce] 88) = W5 at *
   obtain ⟨-, -, -, -, -, e5, e6, e7⟩ := cl8 hA
   have hkp5 : ∀ q, q < w.heap.size → W5.heap[q]? = w.heap[q]? := fun q hq => (hB5.rest q (by omega) (by omega)).trans (HKP.out q hq)
   have HC5 := hid hC5
   have HB5 : Hid (But g wr W5) := hB5
   have hcl : ∀ i, i < k → W5.cell? ⟨g, i, none⟩ = some (.int .i64 ((depthsF N k).getD i 0)) := fun i hi => by
    rw [(hC5.cell i (by simp [depthsF_len]; omega)).1]
    congr 2
    rw [List.getD_eq_getElem?_getD, List.getD_eq_getElem?_getD, List.getElem?_append_left (by rw [depthsF_len]; omega)]
   have hcall : ∀ (v : Value) (l : List Int), IntsB w.heap.size w v l → l.length ≤ 1048576 → ∀ W, W.heap = W5.heap → Calls Tryz.prog 138 #[.slice (some ⟨g, 0, none⟩) k N.length, v] W fun e w' => e = .returned (.int .i64 (deepG (depthsF N k) k 0 l)) ∧ w' = W := fun v l hv hl W hW =>
    deepestOf_any g (depthsF N k) k N.length v l w.heap.size W (depthsF_len N k) (by omega) (fun i hi => by
     rw [← hcl i hi]; exact World.cell?_of_block (a := ⟨g, i, none⟩) (by rw [hW])) (hv.keep (fun q hq => by rw [hW]; exact hkp5 q hq) (Nat.le_refl _)) hl
   have H1 : Hid (∀ W, W.heap = W5.heap → Calls Tryz.prog 138 #[.slice (some ⟨g, 0, none⟩) k N.length, .slice ak y.kids.length ck] W fun e w' => e = .returned (.int .i64 (deepG (depthsF N k) k 0 y.kids)) ∧ w' = W) := hcall _ _ HK.out hsz.1
   have H2 : Hid (∀ W, W.heap = W5.heap → Calls Tryz.prog 138 #[.slice (some ⟨g, 0, none⟩) k N.length, .slice at2 y.thn.length ct] W fun e w' => e = .returned (.int .i64 (deepG (depthsF N k) k 0 y.thn)) ∧ w' = W) := hcall _ _ HT.out hsz.2.1
   have H3 : Hid (∀ W, W.heap = W5.heap → Calls Tryz.prog 138 #[.slice (some ⟨g, 0, none⟩) k N.length, .slice ae y.els.length ce] W fun e w' => e = .returned (.int .i64 (deepG (depthsF N k) k 0 y.els)) ∧ w' = W) := hcall _ _ HE.out hsz.2.2
   have HD : Hid (deepN (depthsF N k) k (N.getD k default) = max (deepG (depthsF N k) k 0 y.kids) (max (deepG (depthsF N k) k 0 y.thn) (deepG (depthsF N k) k 0 y.els))) := by
    unfold Hid
    have h1 := deepN_max (depthsF N k) k y
    rw [List.getD_eq_getElem?_getD, HY.out]
    show deepN (depthsF N k) k y = _
    omega
   have HLE : Hid (0 ≤ deepN (depthsF N k) k (N.getD k default) ∧ deepN (depthsF N k) k (N.getD k default) ≤ k) := deepN_le (depthsF_le N k) (by omega) _
   generalize deepG (depthsF N k) k 0 y.kids = x1 at *
   generalize deepG (depthsF N k) k 0 y.thn = x2 at *
   generalize deepG (depthsF N k) k 0 y.els = x3 at *
   clear hA hB5 hC5 hkp5 hcl hcall d0 d1 d2 d3 d4 d5 d6 d7 HK HT HE hsz
   generalize Value.slice ak y.kids.length ck = v1 at *
   generalize Value.slice at2 y.thn.length ct = v2 at *
   generalize Value.slice ae y.els.length ce = v3 at *
   have hmx := max3 x1 x2 x3
   have hsl : ∀ W, (Instr.slice 24 (.slice (some ⟨g, 0, none⟩) N.length N.length) none (some (.int .i64 (k : Int))) none).run Tryz.prog W = .ok (.slice (some ⟨g, 0, none⟩) k N.length) W := slice_pre g k N.length (by omega)
   go_wp2_with fail
   go_region_held3 (fun W => W.cell? ⟨wr.heap.size, 5, none⟩ = some v1 ∧ W.cell? ⟨wr.heap.size, 6, none⟩ = some v2 ∧ W.cell? ⟨wr.heap.size, 7, none⟩ = some v3) (go_keep) (first | (go_at_call 138; (with_reducible show Calls _ _ #[_, v1] _ _); refine (H1.out _ (by rfl)).mono ?_; rintro e w2 ⟨rfl, rfl⟩) | (go_at_call 138; (with_reducible show Calls _ _ #[_, v2] _ _); refine (H2.out _ (by rfl)).mono ?_; rintro e w2 ⟨rfl, rfl⟩) | (go_at_call 138; (with_reducible show Calls _ _ #[_, v3] _ _); refine (H3.out _ (by rfl)).mono ?_; rintro e w2 ⟨rfl, rfl⟩))
   clear hsl hmx H1 H2 H3
   have HX : Hid (max x1 (max x2 x3) = deepN (depthsF N k) k (N.getD k default)) := HD.out.symm
   generalize max x1 (max x2 x3) = d at *
   have hd0 : 0 ≤ d := by rw [HX.out]; exact HLE.out.1
   have hd1 : d ≤ (k : Int) := by rw [HX.out]; exact HLE.out.2
   have hc0 := (HC5.out.cell k (by simp [depthsF_len]; omega)).1
   have hf0 := (HC5.out.cell k (by simp [depthsF_len]; omega)).2
   go_wp2_with fail
   have hP : Hid (Cnt (W5.setCell ⟨g, k, none⟩ (.int .i64 (d + 1))) g 2 (depthsF N (k + 1) ++ List.replicate (N.length - (k + 1)) 0)) := by
    have := HC5.out.put k (d + 1)
    rw [HX.out, depths_put N k N.length hlt] at this
    rw [HX.out]
    exact this
   have hQ : Hid (But g w1 (W5.setCell ⟨g, k, none⟩ (.int .i64 (d + 1)))) := (HBT.out.trans HB5.out).set _ _
   refine ⟨⟨k + 1, by omega, by go_num, hP.out, hQ.out.drew⟩, by simp [intOf]; omega⟩
  ·have hke : k = N.length := by omega
   subst hke
   have HCN0 : Hid (Cnt wr g 2 (depthsF N N.length)) := by unfold Hid; have := HCN.out; simpa using this
   clear hcnt hbut HCN
   go_wp2
   go_ret
   subst hge
   exact ⟨rfl, HCN0.out, HB.out.trans HBT.out.below⟩
def maxL (ds : List Int) : Int := ds.foldl max 0
theorem maxL_take {ds : List Int} {k : Nat} {x : Int} (h : ds[k]? = some x) : maxL (ds.take (k + 1)) = max (maxL (ds.take k)) x := by
 obtain ⟨hk, rfl⟩ := List.getElem?_eq_some_iff.1 h
 unfold maxL
 rw [List.take_succ_eq_append_getElem hk, List.foldl_append]; rfl
theorem foldmax_le (ds : List Int) : ∀ (m c : Int), (ds.foldl max m ≤ c) ↔ (m ≤ c ∧ ∀ d ∈ ds, d ≤ c) := by
 induction ds with
 | nil => intro m c; simp
 | cons x r ih => intro m c; rw [List.foldl_cons, ih]; simp [Int.max_le, and_assoc]
theorem maxL_le (ds : List Int) (c : Int) (hc : 0 ≤ c) : (maxL ds ≤ c) ↔ ∀ d ∈ ds, d ≤ c := by
 unfold maxL; rw [foldmax_le]; exact ⟨fun h => h.2, fun h => ⟨hc, h⟩⟩
set_option maxHeartbeats 3200000 in
set_option maxRecDepth 100000 in
theorem deepest_any (lo : Nat) (a2 : Option Addr) (c2 : Nat) (N : List LNode) (w : World) (h : NodesV lo w (.slice a2 N.length c2) N) (hn : N.length ≤ 1048576) (hS : ∀ n ∈ N, n.kids.length ≤ 1048576 ∧ n.thn.length ≤ 1048576 ∧ n.els.length ≤ 1048576) :
  Calls Tryz.prog 101 #[.slice a2 N.length c2] w fun e w' => e = .returned (.int .i64 (maxL (depthsF N N.length))) ∧ Below w.heap.size w w' := by
 have HD := depths_any lo a2 c2 N w h hn hS
 have HD : Hid (Calls Tryz.prog 126 #[.slice a2 N.length c2] w fun e w' => e = .returned (.slice (some ⟨w.heap.size, 0, none⟩) N.length N.length) ∧ Cnt w' w.heap.size 2 (depthsF N N.length) ∧ Below w.heap.size w w') := HD
 have HLN : Hid ((depthsF N N.length).length = N.length) := depthsF_len N _
 clear h hS
 obtain ⟨ds, hds⟩ : ∃ ds, ds = depthsF N N.length := ⟨_, rfl⟩
 rw [← hds] at HD HLN ⊢
 clear hds
 go_enter Tryz.func101, Tryz.ntmps101
 go_wp2_with fail
 refine HD.out.mono ?_
 rintro e w1 ⟨rfl, hc, hb⟩
 have HC := hid hc
 have HB := hid hb
 clear hc hb HD
 go_wp2
 go_loopw [3, 9] (fun d i wr => ∃ k : Nat, k ≤ N.length ∧ i = .int .i64 k ∧ d = .int .i64 (maxL (ds.take k)) ∧ SameW wr w1) (fun d i _ => N.length - (intOf i).toNat)
 case atStart => exact ⟨0, by omega, rfl, rfl, rfl⟩
 case round =>
  obtain ⟨k, hk, rfl, rfl, hw⟩ := hrel
  have HW : Hid (SameW wr w1) := hw
  by_cases hlt : k < N.length
  ·have hkl : k < ds.length := by have := HLN.out; omega
   have c0 : wr.cell? ⟨w.heap.size, k, none⟩ = _ := (congrArg (fun W => World.cell? W ⟨w.heap.size, k, none⟩) hw).trans (HC.out.cell k hkl).1
   have hM : Hid (maxL (ds.take (k + 1)) = max (maxL (ds.take k)) (ds.getD k 0)) := maxL_take (by rw [List.getD_eq_getElem?_getD, List.getElem?_eq_getElem hkl]; rfl)
   generalize maxL (ds.take k) = m at *
   generalize ds.getD k 0 = z at *
   clear hw hkl
   go_wp2
   go_roundw
   case rel => exact ⟨k + 1, by omega, by go_num, by rw [hM.out, show max m z = (if m < z then z else m) from by split <;> omega], HW.out⟩
   case measure => simp [intOf]; omega
  ·have hke : k = N.length := by omega
   have HE : Hid (maxL (ds.take k) = maxL ds) := by unfold Hid; rw [List.take_of_length_le (by have := HLN.out; omega)]
   clear hke hw
   go_wp2
   go_ret
   refine ⟨by rw [HE.out]; rfl, ?_⟩
   have : wr = w1 := HW.out
   rw [this]; exact HB.out
end Go.Proofs.YteeklmgkhacbcaaGreatDoor
