/-
  impl.StartState.
-/
import Derived.Test.YtepjaoapjpmjkaaGreatDoorSStS
import Derived.Deep.Cut
import Derived.Test.YtepjaoapjpmjkaaGreatDoorTreeVar
import Derived.Test.YtepjaoapjpmjkaaGreatDoorICkE
import Derived.Test.YtepjaoapjpmjkaaGreatDoorIFault
import Derived.Test.YtepjaoapjpmjkaaGreatDoorSStF
import Derived.Deep.RegionHeld3
namespace Go.Proofs.YtepjaoapjpmjkaaGreatDoor
open Go.RowKit
set_option linter.unusedVariables false
abbrev scanL (c s : Int) (v o : Value) : Array Value := #[.int .i64 c, .int .i64 s, v, o]
theorem bel_on {a b c : World} (h : Below a.heap.size a b) (hb : Below b.heap.size b c) : Below a.heap.size a c := h.trans (hb.mono h.size)
set_option maxHeartbeats 1600000 in
theorem eqScan_any (c s : Int) (zs ys : List Int) (a b a2 b2 : Option Addr) (ca cb ca2 cb2 : Nat) (w : World) (hl : zs.length ≤ 1048576) (hl2 : ys.length ≤ 1048576) (h1 : Nums w a zs) (h2 : Nums w b zs) (h3 : Nums w a2 ys) (h4 : Nums w b2 ys) :
  Calls Tryz.prog 18 #[scanV c s (.slice a zs.length ca) (.slice a2 ys.length ca2), scanV c s (.slice b zs.length cb) (.slice b2 ys.length cb2)] w fun e w' => e = .returned (.bool true) ∧ Below w.heap.size w w' := by
 have HX : Hid (∀ W, Below w.heap.size w W → Calls Tryz.prog 26 #[.agg #[.slice a zs.length ca], .agg #[.slice b zs.length cb]] W fun e w' => e = .returned (.bool true) ∧ Below W.heap.size W w') := fun W h => eqState_any a b zs ca cb W hl (h1.below h) (h2.below h)
 have HY : Hid (∀ W, Below w.heap.size w W → Calls Tryz.prog 45 #[.slice a2 ys.length ca2, .slice b2 ys.length cb2] W fun e w' => e = .returned (.bool true) ∧ Below W.heap.size W w') := fun W h => eqNums_any a2 b2 ys ca2 cb2 W (by omega) (h3.below h) (h4.below h)
 clear h1 h2 h3 h4 hl hl2
 generalize zs.length = n1 at *
 generalize ys.length = n2 at *
 have x1 := heap_alloc_new w (.cells (scanL c s (.slice a n1 ca) (.slice a2 n2 ca2)) 47)
 have y1 := (Below.refl w.heap.size w).alloc (Nat.le_refl _) (.cells (scanL c s (.slice a n1 ca) (.slice a2 n2 ca2)) 47)
 have s1 : (w.alloc (.cells (scanL c s (.slice a n1 ca) (.slice a2 n2 ca2)) 47)).heap.size = w.heap.size + 1 := by simp
 go_enter Tryz.func18, Tryz.ntmps18
 go_upto_region 1 with fail
 generalize w.alloc (.cells (scanL c s (.slice a n1 ca) (.slice a2 n2 ca2)) 47) = W1 at *
 have x2 := heap_alloc_new W1 (.cells (scanL c s (.slice b n1 cb) (.slice b2 n2 cb2)) 47)
 have y2 := (Below.refl W1.heap.size W1).alloc (Nat.le_refl _) (.cells (scanL c s (.slice b n1 cb) (.slice b2 n2 cb2)) 47)
 generalize W1.alloc (.cells (scanL c s (.slice b n1 cb) (.slice b2 n2 cb2)) 47) = W2 at *
 rw [s1] at x2
 have HA := hid (blk x1 y2)
 have HC := hid x2
 have HB := hid (y1.trans (y2.mono (by omega)))
 clear x1 x2 y1 y2 s1
 obtain ⟨p0, p1, p2, p3⟩ := cl4 HA.out
 obtain ⟨q0, q1, q2, q3⟩ := cl4 HC.out
 go_wp2_with fail
 refine (HX.out _ HB.out).mono ?_
 rintro e w3 ⟨rfl, hb⟩
 have HB3 := hid (bel_on HB.out hb)
 have hA3 := blk HA.out hb
 have hC3 := blk HC.out hb
 clear p0 p1 p2 p3 q0 q1 q2 q3 hb HB HA HC HX
 obtain ⟨-, -, -, p3⟩ := cl4 hA3
 obtain ⟨-, -, -, q3⟩ := cl4 hC3
 clear hA3 hC3
 go_wp2_with fail
 refine (HY.out _ HB3.out).mono ?_
 rintro e w4 ⟨rfl, hb⟩
 have HB4 := hid (bel_on HB3.out hb)
 clear p3 q3 hb HB3 HY
 go_wp2_with fail
 go_ret
 exact ⟨rfl, HB4.out⟩
def MarkR (B : Nat) (w w' : World) (k : Int) (a1 a2 : Option Addr) (n1 n2 : Nat) : Prop :=
 Nums w' a1 (marks k n1) ∧ Nums w' a2 (marks (k + n1) n2) ∧ Below B w w' ∧ w.heap.size ≤ w'.heap.size ∧ (∀ g, g < w.heap.size → a1 ≠ some ⟨g, 0, none⟩ → a2 ≠ some ⟨g, 0, none⟩ → w'.heap[g]? = w.heap[g]?)
set_option maxHeartbeats 1600000 in
theorem markState_any (zs : List Int) (a : Option Addr) (c B : Nat) (k : Int) (w : World) (h : Own w B (.slice a zs.length c) zs) (hB : B ≤ w.heap.size) (hl : zs.length ≤ 1048576) (hk0 : 0 ≤ k) (hk1 : k ≤ 2097152) :
  Calls Tryz.prog 54 #[.agg #[.slice a zs.length c], .int .i64 k] w fun e w' => e = .returned (.int .i64 (k + zs.length)) ∧ w'.ownsRow B 2 1 (.slice a zs.length c) zs.length ((marks k zs.length).map (Value.int .i64)) ∧ Below B w w' ∧ w.heap.size ≤ w'.heap.size ∧ (∀ g, g < w.heap.size → a ≠ some ⟨g, 0, none⟩ → w'.heap[g]? = w.heap[g]?) := by
 have hx := heap_alloc_new w (.cells #[.slice a zs.length c] 45)
 have hy := (Below.refl w.heap.size w).alloc (Nat.le_refl _) (.cells #[.slice a zs.length c] 45)
 have hsz : (w.alloc (.cells #[.slice a zs.length c] 45)).heap.size = w.heap.size + 1 := by simp
 have HM := hid (mark_any a zs c B k _ (by omega) hk0 (by omega) (own_kept h hy))
 have HB0 := hid (hy.mono hB)
 have HY := hid hy
 have HS := hid hsz
 clear h hy hsz
 go_enter Tryz.func54, Tryz.ntmps54
 go_upto_region 1 with fail
 generalize w.alloc (.cells #[.slice a zs.length c] 45) = W at *
 have p0 := cl1 hx
 go_wp2_with fail
 refine HM.out.mono ?_
 rintro e w2 ⟨rfl, ho, hb, hz, hoth⟩
 have HF := hid (And.intro ho (And.intro (HB0.out.trans hb) (And.intro (show w.heap.size ≤ w2.heap.size by have := HS.out; omega) (show ∀ g, g < w.heap.size → a ≠ some ⟨g, 0, none⟩ → w2.heap[g]? = w.heap[g]? from fun g hg e => (hoth g e).trans (HY.out.block g hg)))))
 clear ho hb hz hoth HM HB0 HY HS hx p0
 go_wp2_with fail
 go_ret
 exact ⟨rfl, HF.out⟩
set_option maxHeartbeats 1600000 in
theorem markScan_any (c s : Int) (zs ys : List Int) (a1 a2 : Option Addr) (c1 c2 B : Nat) (k : Int) (w : World) (hs : Own w B (.slice a1 zs.length c1) zs) (hc : Own w B (.slice a2 ys.length c2) ys) (hd : ∀ g, a1 = some ⟨g, 0, none⟩ → a2 ≠ some ⟨g, 0, none⟩) (hB : B ≤ w.heap.size) (hl1 : zs.length ≤ 1048576) (hl2 : ys.length ≤ 1048576) (hk0 : 0 ≤ k) (hk1 : k ≤ 1048576) :
  Calls Tryz.prog 20 #[scanV c s (.slice a1 zs.length c1) (.slice a2 ys.length c2), .int .i64 k] w fun e w' => e = .returned (.int .i64 (k + zs.length + ys.length)) ∧ MarkR B w w' k a1 a2 zs.length ys.length := by
 have hx := heap_alloc_new w (.cells (scanL c s (.slice a1 zs.length c1) (.slice a2 ys.length c2)) 47)
 have hy := (Below.refl w.heap.size w).alloc (Nat.le_refl _) (.cells (scanL c s (.slice a1 zs.length c1) (.slice a2 ys.length c2)) 47)
 have hsz : (w.alloc (.cells (scanL c s (.slice a1 zs.length c1) (.slice a2 ys.length c2)) 47)).heap.size = w.heap.size + 1 := by simp
 have HM := hid (markState_any zs a1 c1 B k _ (own_kept hs hy) (by omega) hl1 hk0 (by omega))
 have hc1 := own_kept hc hy
 have HB0 := hid (hy.mono hB)
 have HY := hid hy
 have HS := hid hsz
 have HD := hid hd
 have HG1 : Hid (a1 ≠ some ⟨w.heap.size, 0, none⟩) := fun e => by have := (own_lt hs e).2; omega
 have HC := hid hc1
 clear hs hc hy hsz hd hc1
 go_enter Tryz.func20, Tryz.ntmps20
 go_upto_region 1 with fail
 generalize w.alloc (.cells (scanL c s (.slice a1 zs.length c1) (.slice a2 ys.length c2)) 47) = W at *
 obtain ⟨p0, p1, p2, p3⟩ := cl4 hx
 go_wp2_with fail
 refine HM.out.mono ?_
 rintro e w2 ⟨rfl, ho, hb, hz, hoth⟩
 have hx2 := (hoth w.heap.size (by have := HS.out; omega) HG1.out).trans hx
 have hc2 := own_other HC.out (w' := w2) (fun g hg => hoth g (HC.out.lt g hg).2 (fun e => HD.out g e (own_at HC.out hg)))
 have HO := hid ho
 have HOT := hid hoth
 have HB2 := hid (HB0.out.trans hb)
 have HSZ : Hid (w.heap.size ≤ w2.heap.size ∧ W.heap.size ≤ w2.heap.size) := ⟨by have := HS.out; omega, hz⟩
 have HM2 := hid (mark_any a2 ys c2 B (k + zs.length) w2 (by omega) (by omega) (by omega) hc2)
 clear ho hb hz hoth hc2 HM HB0 HC p0 p1 p2 p3 hx
 obtain ⟨-, -, -, p3⟩ := cl4 hx2
 go_wp2_with fail
 refine HM2.out.mono ?_
 rintro e w3 ⟨rfl, ho, hbm, hz3, hoth⟩
 have HF : Hid (MarkR B w w3 k a1 a2 zs.length ys.length) :=
  ⟨marks_nums (own_other HO.out (fun g hg => hoth g (fun e => HD.out g (own_at HO.out hg) e))), marks_nums ho, HB2.out.trans hbm, by have := HSZ.out; omega, fun g hg h1 h2 => ((hoth g h2).trans (HOT.out g (by have := HS.out; omega) h1)).trans (HY.out.block g hg)⟩
 clear ho hoth hbm HO HOT HB2 HY HD HG1 HM2 p3 hx2 hz3 HS HSZ
 go_wp2_with fail
 go_ret
 exact ⟨rfl, HF.out⟩
set_option maxHeartbeats 1600000 in
theorem heldState_any (n : Nat) (a : Option Addr) (c : Nat) (k : Int) (w : World) (h : Nums w a (marks k n)) (hl : n ≤ 1048576) (hk0 : 0 ≤ k) (hk1 : k ≤ 2097152) :
  Calls Tryz.prog 55 #[.agg #[.slice a n c], .int .i64 k] w fun e w' => e = .returned (.int .i64 (k + n)) ∧ Below w.heap.size w w' := by
 have hx := heap_alloc_new w (.cells #[.slice a n c] 45)
 have hy := (Below.refl w.heap.size w).alloc (Nat.le_refl _) (.cells #[.slice a n c] 45)
 have HM := hid (held_any a n c k _ hl hk0 (by omega) (h.below hy))
 have HY := hid hy
 have hkd : decide (k + (n : Int) < 0) = false := decide_eq_false (by omega)
 clear h hy
 go_enter Tryz.func55, Tryz.ntmps55
 go_upto_region 1 with fail
 generalize w.alloc (.cells #[.slice a n c] 45) = W at *
 have p0 := cl1 hx
 clear hx
 go_wp2_with fail
 refine HM.out.mono ?_
 rintro e w2 ⟨rfl, rfl⟩
 clear HM
 go_wp2_with fail
 go_ret
 exact ⟨rfl, HY.out⟩
set_option maxHeartbeats 1600000 in
theorem heldScan_any (c s : Int) (n1 n2 : Nat) (a1 a2 : Option Addr) (c1 c2 : Nat) (k : Int) (w : World) (h1 : Nums w a1 (marks k n1)) (h2 : Nums w a2 (marks (k + n1) n2)) (hl1 : n1 ≤ 1048576) (hl2 : n2 ≤ 1048576) (hk0 : 0 ≤ k) (hk1 : k ≤ 1048576) :
  Calls Tryz.prog 21 #[scanV c s (.slice a1 n1 c1) (.slice a2 n2 c2), .int .i64 k] w fun e w' => e = .returned (.int .i64 (k + n1 + n2)) ∧ Below w.heap.size w w' := by
 have hx := heap_alloc_new w (.cells (scanL c s (.slice a1 n1 c1) (.slice a2 n2 c2)) 47)
 have hy := (Below.refl w.heap.size w).alloc (Nat.le_refl _) (.cells (scanL c s (.slice a1 n1 c1) (.slice a2 n2 c2)) 47)
 have HM := hid (heldState_any n1 a1 c1 k _ (h1.below hy) hl1 hk0 (by omega))
 have HN := hid (h2.below hy)
 have HY := hid hy
 have hkd : decide (k + (n1 : Int) < 0) = false := decide_eq_false (by omega)
 have hke : decide (k + (n1 : Int) + (n2 : Int) < 0) = false := decide_eq_false (by omega)
 clear h1 h2 hy
 go_enter Tryz.func21, Tryz.ntmps21
 go_upto_region 1 with fail
 generalize w.alloc (.cells (scanL c s (.slice a1 n1 c1) (.slice a2 n2 c2)) 47) = W at *
 obtain ⟨p0, p1, p2, p3⟩ := cl4 hx
 go_wp2_with fail
 refine HM.out.mono ?_
 rintro e w2 ⟨rfl, hb⟩
 have HM2 := hid (held_any a2 n2 c2 (k + n1) w2 hl2 (by omega) (by omega) (HN.out.below hb))
 have HB2 := hid (bel_on HY.out hb)
 have hx2 := blk hx hb
 clear hb HM HN HY p0 p1 p2 p3 hx
 obtain ⟨-, -, -, p3⟩ := cl4 hx2
 clear hx2
 go_wp2_with fail
 refine HM2.out.mono ?_
 rintro e w3 ⟨rfl, rfl⟩
 clear HM2 p3
 go_wp2_with fail
 go_ret
 exact ⟨rfl, HB2.out⟩
end Go.Proofs.YtepjaoapjpmjkaaGreatDoor
namespace Go.Proofs.YtepjaoapjpmjkaaGreatDoor
open Go.RowKit
set_option linter.unusedVariables false
theorem two_start (w : World) (vv vn vb : Value) (T1 T2 : TypeId) : let W := ((w.alloc (.cells #[vv, vn, vb] T1)).alloc (.cells #[.int .i64 0, .int .i64 0] T2))
  W.heap[w.heap.size]? = some (.cells #[vv, vn, vb] T1 (0, 0)) ∧ W.heap[w.heap.size + 1]? = some (.cells #[.int .i64 0, .int .i64 0] T2 (0, 0)) ∧ Below w.heap.size w W := by
 intro W
 have hA := heap_alloc_new w (.cells #[vv, vn, vb] T1)
 have hB : Below w.heap.size w (w.alloc (.cells #[vv, vn, vb] T1)) := (Below.refl _ _).alloc (Nat.le_refl _) _
 have hZ : (w.alloc (.cells #[vv, vn, vb] T1)).heap.size = w.heap.size + 1 := by simp
 have hA2 := heap_alloc_new (w.alloc (.cells #[vv, vn, vb] T1)) (.cells #[.int .i64 0, .int .i64 0] T2)
 have hB2 : Below (w.alloc (.cells #[vv, vn, vb] T1)).heap.size (w.alloc (.cells #[vv, vn, vb] T1)) W := (Below.refl _ _).alloc (Nat.le_refl _) _
 rw [hZ] at hA2
 exact ⟨blk hA hB2, hA2, hB.trans (hB2.mono (by omega))⟩
end Go.Proofs.YtepjaoapjpmjkaaGreatDoor
namespace Go.Proofs.YtepjaoapjpmjkaaGreatDoor
open Go.RowKit
set_option linter.unusedVariables false
attribute [local go_sem] bs_size bs_get bs_extract bs_append bs_eq bs_toList
def TreeNumI (f : FuncId) (C V : LTree → Int) : Prop := ∀ (lo : Nat) (vv vn vb : Value) (T : LTree) (w : World), TreeV lo w vv vn vb T → Sized 1048576 T →
 Calls Tryz.prog f #[treeV vv vn vb] w fun e w' => e = .returned (.agg #[.int .i64 (C T), .int .i64 (V T)]) ∧ Below w.heap.size w w'
def celC (T : LTree) : Int := faultL T
def celV (T : LTree) : Int := if faultL T ≠ 0 then 0 else cellsL (allL 0 T)
set_option maxHeartbeats 6400000 in
set_option maxRecDepth 100000 in
theorem implCellsOf : TreeNumI 50 celC celV := by
 intro lo vv vn vb T w h hS
 obtain ⟨av, cv, rfl, _⟩ := id h.vars
 obtain ⟨an, cn, rfl, _⟩ := id h.nodes
 obtain ⟨ab, cb, rfl, _⟩ := id h.body
 have HF : Hid (∀ (w' : World), Below w.heap.size w w' → Calls Tryz.prog 38 #[treeV (.slice av T.vars.length cv) (.slice an T.nodes.length cn) (.slice ab T.body.length cb)] w' fun e w2 => e = .returned (.int .i64 (faultL T)) ∧ Below w'.heap.size w' w2) := fun w' hb =>
  implTreeFault lo _ _ _ T w' (h.below hb) hS
 have HD : Hid (∀ (w' : World), Below w.heap.size w w' → faultL T = 0 → Calls Tryz.prog 82 #[.agg #[.slice av T.vars.length cv, .slice an T.nodes.length cn, .slice ab T.body.length cb]] w' fun e w2 => ∃ v, e = .returned v ∧ w2.ownsRow w'.heap.size 158 6 v (allL 0 T).length (entC (allL 0 T) T.vars.length (allL 0 T).length) ∧ Below w'.heap.size w' w2) := fun w' hb h0 =>
  variablesOf_any lo _ _ _ T w' (h.below hb) (good_of h0)
 have HSZ : Hid (faultL T = 0 → SizesLe (allL 0 T) ∧ (allL 0 T).length ≤ 624) := fun h => ⟨(good_of h).sizes 0, (good_of h).all_len 0⟩
 have HCC : Hid (∀ (ad : Option Addr) (c : Nat) (w : World), RowE w ad (allL 0 T) T.vars.length → SizesLe (allL 0 T) → (allL 0 T).length ≤ 624 → Calls Tryz.prog 94 #[.slice ad (allL 0 T).length c] w fun e w' => e = .returned (.int .i64 (cellsL (allL 0 T))) ∧ Below w.heap.size w w') := fun ad c w h1 h2 h3 =>
  cellCount_any (allL 0 T) T.vars.length ad (allL 0 T).length c w rfl h1 h2 h3
 have HV : Hid (celV T = if faultL T ≠ 0 then 0 else cellsL (allL 0 T)) := rfl
 have HC : Hid (celC T = faultL T) := rfl
 clear h hS
 go_enter Tryz.func50, Tryz.ntmps50
 go_wp2_with fail
 obtain ⟨hA, hA2, hB⟩ := two_start w (.slice av T.vars.length cv) (.slice an T.nodes.length cn) (.slice ab T.body.length cb) 34 95
 generalize ((w.alloc (.cells #[.slice av T.vars.length cv, .slice an T.nodes.length cn, .slice ab T.body.length cb] 34)).alloc (.cells #[.int .i64 0, .int .i64 0] 95)) = W at *
 refine (HF.out _ hB).mono ?_
 rintro e w2 ⟨rfl, hb⟩
 have HA : Hid (w2.heap[w.heap.size]? = some (.cells #[.slice av T.vars.length cv, .slice an T.nodes.length cn, .slice ab T.body.length cb] 34 (0, 0))) := blk hA hb
 have HA2 : Hid (w2.heap[w.heap.size + 1]? = some (.cells #[.int .i64 0, .int .i64 0] 95 (0, 0))) := blk hA2 hb
 have HB : Hid (Below w.heap.size w w2) := hB.trans (hb.mono hB.size)
 clear hA hA2 hB hb HF
 obtain ⟨F, hF⟩ : ∃ F, faultL T = F := ⟨_, rfl⟩
 rw [hF]
 by_cases hz : F = 0
 ·subst hz
  have HCV : Hid (celC T = 0 ∧ celV T = cellsL (allL 0 T)) := ⟨by rw [HC.out, hF], by rw [HV.out, hF, if_neg (by simp)]⟩
  have HDC : Hid (Calls Tryz.prog 82 #[.agg #[.slice av T.vars.length cv, .slice an T.nodes.length cn, .slice ab T.body.length cb]] w2 fun e w3 => ∃ v, e = .returned v ∧ w3.ownsRow w2.heap.size 158 6 v (allL 0 T).length (entC (allL 0 T) T.vars.length (allL 0 T).length) ∧ Below w2.heap.size w2 w3) := HD.out _ HB.out hF
  have HS2 : Hid (SizesLe (allL 0 T) ∧ (allL 0 T).length ≤ 624) := HSZ.out hF
  obtain ⟨p0, p1, p2⟩ := cl3 HA.out
  clear hF HC HV HD HSZ
  go_wp2_with fail
  refine HDC.out.mono ?_
  rintro e w4 ⟨v, rfl, hown, hb⟩
  obtain ⟨ad, cp, rfl⟩ := rowE_shape hown
  have hRV := RowE.of_own hown rfl
  have HCX : Hid (Calls Tryz.prog 94 #[.slice ad (allL 0 T).length cp] w4 fun e w' => e = .returned (.int .i64 (cellsL (allL 0 T))) ∧ Below w4.heap.size w4 w') := HCC.out ad cp w4 hRV HS2.out.1 HS2.out.2
  have hA2 := blk HA2.out hb
  have HB2 : Hid (Below w.heap.size w w4) := HB.out.trans (hb.mono HB.out.size)
  clear hown hRV hb HCC HS2 HDC p0 p1 p2
  go_wp2_with fail
  refine HCX.out.mono ?_
  rintro e w5 ⟨rfl, hb⟩
  have hA5 := blk hA2 hb
  have HB5 : Hid (Below w.heap.size w w5) := HB2.out.trans (hb.mono HB2.out.size)
  clear hA2 hb
  obtain ⟨r0, r1⟩ := cl2 hA5
  obtain ⟨f0, f1⟩ := fl2 hA5
  clear hA5
  generalize cellsL (allL 0 T) = z at *
  go_wp2_with fail
  refine bodyPost_ret (v := .agg #[.int .i64 0, .int .i64 z]) (by simp [results, Tryz.results50, go_sem, r0, r1]) rfl ⟨by rw [HCV.out.1, HCV.out.2], (HB5.out.setCell (by simp) _).setCell (by simp) _⟩
 ·have HCV : Hid (celC T = F ∧ celV T = 0) := ⟨by rw [HC.out, hF], by rw [HV.out, hF, if_pos hz]⟩
  have hz1 : (F == 0) = false := by simpa using hz
  have hz2 : decide (F = 0) = false := decide_eq_false hz
  obtain ⟨r0, r1⟩ := cl2 HA2.out
  obtain ⟨f0, f1⟩ := fl2 HA2.out
  clear HC HV hF
  go_wp2_with fail
  refine bodyPost_ret (v := .agg #[.int .i64 F, .int .i64 0]) (by simp [results, Tryz.results50, go_sem, r0, r1]) rfl ⟨by rw [HCV.out.1, HCV.out.2], (HB.out.setCell (by simp) _).setCell (by simp) _⟩
end Go.Proofs.YtepjaoapjpmjkaaGreatDoor
namespace Go.Proofs.YtepjaoapjpmjkaaGreatDoor
open Go.RowKit
set_option linter.unusedVariables false
attribute [local go_sem] bs_size bs_get bs_extract bs_append bs_eq bs_toList
def TreeStG (f : FuncId) (R : LTree → List Int → Int) : Prop := ∀ (lo : Nat) (vv vn vb : Value) (T : LTree) (a : Option Addr) (zs : List Int) (cap : Nat) (w : World), TreeV lo w vv vn vb T → Sized 1048576 T → Nums w a zs → zs.length ≤ 1048576 → ErrT w →
 Calls Tryz.prog f #[treeV vv vn vb, .agg #[.slice a zs.length cap]] w fun e w' => e = .returned (.int .i64 (R T zs)) ∧ Below w.heap.size w w'
theorem fldC (a b c : Int) (w : World) : (Instr.field 40 (.agg #[.int .i64 a, .int .i64 b, .int .i64 c]) 0).run Tryz.prog w = .ok (.int .i64 a) w := by kernel_rfl
theorem fldI (a b : Int) (w : World) : (Instr.field 95 (.agg #[.int .i64 a, .int .i64 b]) 1).run Tryz.prog w = .ok (.int .i64 b) w := by kernel_rfl
set_option maxHeartbeats 6400000 in
set_option maxRecDepth 100000 in
theorem implStateFault : TreeStG 25 staF := by
 intro lo vv vn vb T a zs cap w h hS hn hlen hE
 have HX : Hid (∀ W, Below w.heap.size w W → Calls Tryz.prog 14 #[treeV vv vn vb] W fun e w' => e = .returned (.agg #[.int .i64 (chkT T).1.1, .int .i64 (chkT T).1.2, .int .i64 (chkT T).2]) ∧ Below W.heap.size W w') := fun W hb => implCheckTree lo vv vn vb T W (h.below hb) hS (hE.kept hb)
 have HCE : Hid ((chkT T).1.1 = 0 → ∀ W, Below w.heap.size w W → Calls Tryz.prog 50 #[treeV vv vn vb] W fun e w' => e = .returned (.agg #[.int .i64 0, .int .i64 (cellsL (allL 0 T))]) ∧ Below W.heap.size W w') := fun h0 W hb => by
  have h1 := implCellsOf lo vv vn vb T W (h.below hb) hS
  have e1 : celC T = 0 := (chk_good h0).1
  have e2 : celV T = cellsL (allL 0 T) := by unfold celV; rw [if_neg (by rw [(chk_good h0).1]; simp)]
  rw [e1, e2] at h1
  exact h1
 have HL6 : Hid (∀ W, Below w.heap.size w W → Calls Tryz.prog 58 #[.slice a zs.length cap] W fun e w' => e = .returned (.int .i64 (fault zs)) ∧ Below W.heap.size W w') := fun W hb => implFault_any a zs cap W (by omega) (hn.below hb)
 have HFA : Hid (zs.length ≤ 400 → fault zs = if allW zs = true then 0 else 3) := fault_allW
 have HG : Hid ((chkT T).1.1 = 0 → cellsL (allL 0 T) ≤ 60) := fun h => (chk_good h).2
 have HST : Hid (staF T zs = if (chkT T).1.1 ≠ 0 then (chkT T).1.1 else if (zs.length : Int) ≠ cellsL (allL 0 T) then 1 else if allW zs = true then 0 else 3) := rfl
 obtain ⟨av, cv, rfl, _⟩ := id h.vars
 obtain ⟨an, cn, rfl, _⟩ := id h.nodes
 obtain ⟨ab, cb, rfl, _⟩ := id h.body
 clear h hS hn hE
 generalize staF T zs = R at *
 generalize (chkT T).1.1 = c1 at *
 generalize (chkT T).1.2 = c2 at *
 generalize (chkT T).2 = c3 at *
 generalize cellsL (allL 0 T) = z at *
 generalize allW zs = aw at *
 generalize fault zs = fz at *
 have hA := heap_alloc_new w (.cells #[.slice av T.vars.length cv, .slice an T.nodes.length cn, .slice ab T.body.length cb] 34)
 have hB : Below w.heap.size w (w.alloc (.cells #[.slice av T.vars.length cv, .slice an T.nodes.length cn, .slice ab T.body.length cb] 34)) := (Below.refl _ _).alloc (Nat.le_refl _) _
 have hZ : (w.alloc (.cells #[.slice av T.vars.length cv, .slice an T.nodes.length cn, .slice ab T.body.length cb] 34)).heap.size = w.heap.size + 1 := by simp
 have hA2 := heap_alloc_new (w.alloc (.cells #[.slice av T.vars.length cv, .slice an T.nodes.length cn, .slice ab T.body.length cb] 34)) (.cells #[.slice a zs.length cap] 45)
 have hB2 : Below (w.alloc (.cells #[.slice av T.vars.length cv, .slice an T.nodes.length cn, .slice ab T.body.length cb] 34)).heap.size (w.alloc (.cells #[.slice av T.vars.length cv, .slice an T.nodes.length cn, .slice ab T.body.length cb] 34)) _ := (Below.refl _ _).alloc (Nat.le_refl _) (.cells #[.slice a zs.length cap] 45)
 have hA1 := blk hA hB2
 have hB3 := hB.trans (hB2.mono (by omega))
 rw [hZ] at hA2
 clear hA hB hB2 hZ
 have hfl := fldC
 have hfi := fldI
 go_enter Tryz.func25, Tryz.ntmps25
 go_wp2_with fail
 generalize ((w.alloc (.cells #[.slice av T.vars.length cv, .slice an T.nodes.length cn, .slice ab T.body.length cb] 34)).alloc (.cells #[.slice a zs.length cap] 45)) = W at *
 refine (HX.out _ hB3).mono ?_
 rintro e w2 ⟨rfl, hb⟩
 have HA : Hid (w2.heap[w.heap.size]? = some (.cells #[.slice av T.vars.length cv, .slice an T.nodes.length cn, .slice ab T.body.length cb] 34 (0, 0))) := blk hA1 hb
 have HA2 : Hid (w2.heap[w.heap.size + 1]? = some (.cells #[.slice a zs.length cap] 45 (0, 0))) := blk hA2 hb
 have HB : Hid (Below w.heap.size w w2) := hB3.trans (hb.mono hB3.size)
 clear hA1 hA2 hB3 hb HX
 by_cases hc : c1 = 0
 ·subst hc
  have HR : Hid (R = if (zs.length : Int) ≠ z then 1 else if aw = true then 0 else 3) := by unfold Hid; rw [HST.out, if_neg (by simp)]
  have HCX : Hid (Calls Tryz.prog 50 #[treeV (.slice av T.vars.length cv) (.slice an T.nodes.length cn) (.slice ab T.body.length cb)] w2.drew fun e w' => e = .returned (.agg #[.int .i64 0, .int .i64 z]) ∧ Below w2.drew.heap.size w2.drew w') := HCE.out rfl _ HB.out.drew
  have HZ : Hid (z ≤ 60) := HG.out rfl
  clear HST HCE HG
  have q0 := cell_of_row _ _ 0 _ _ _ HA2.out
  obtain ⟨p0, p1, p2⟩ := cl3 HA.out
  simp at q0 p0 p1 p2
  by_cases hz : (zs.length : Int) = z
  ·subst hz
   have HR2 : Hid (R = if aw = true then 0 else 3) := by unfold Hid; rw [HR.out, if_neg (by simp)]
   have HFB : Hid (R = fz) := by unfold Hid; rw [HR2.out]; exact (HFA.out (by have := HZ.out; omega)).symm
   clear HR HR2 HFA HZ
   go_upto_region 4 with fail
   go_region_held3 (fun W => W.cell? ⟨w.heap.size + 1, 0, none⟩ = some (.slice a zs.length cap) ∧ W.cell? ⟨w.heap.size, 0, none⟩ = some (.slice av T.vars.length cv) ∧ W.cell? ⟨w.heap.size, 1, none⟩ = some (.slice an T.nodes.length cn) ∧ W.cell? ⟨w.heap.size, 2, none⟩ = some (.slice ab T.body.length cb)) (go_keep) (first | (go_at_call 50; refine HCX.out.mono ?_; rintro e w7 ⟨rfl, hb⟩; have HE : Hid (Below w.heap.size w w7) := HB.out.drew.trans (hb.mono HB.out.drew.size); have hx1 := blk HA.out (Below.mono (Below.trans ((Below.refl _ w2).drew) hb) (Nat.le_refl _)); have hx2 := blk HA2.out (Below.mono (Below.trans ((Below.refl _ w2).drew) hb) (Nat.le_refl _)); have q0 := cell_of_row _ _ 0 _ _ _ hx2; have p0 := cell_of_row _ _ 0 _ _ _ hx1; have p1 := cell_of_row _ _ 1 _ _ _ hx1; have p2 := cell_of_row _ _ 2 _ _ _ hx1; simp at q0 p0 p1 p2; clear hb hx1 hx2))
   go_wp2_with fail
   refine (HL6.out _ HE.out).mono ?_
   rintro e w9 ⟨rfl, hb9⟩
   have HE9 := hid (HE.out.trans (hb9.mono HE.out.size))
   clear hb9
   go_wp2_with fail
   go_ret
   exact ⟨by rw [HFB.out]; rfl, HE9.out⟩
  ·have hz1 : ((zs.length : Int) == z) = false := by simpa using hz
   have hz2 : decide ((zs.length : Int) = z) = false := decide_eq_false hz
   have HR2 : Hid (R = 1) := by unfold Hid; rw [HR.out, if_pos hz]
   clear HR HFA HZ
   go_upto_region 4 with fail
   go_region_held3 (fun W => W.cell? ⟨w.heap.size + 1, 0, none⟩ = some (.slice a zs.length cap) ∧ W.cell? ⟨w.heap.size, 0, none⟩ = some (.slice av T.vars.length cv) ∧ W.cell? ⟨w.heap.size, 1, none⟩ = some (.slice an T.nodes.length cn) ∧ W.cell? ⟨w.heap.size, 2, none⟩ = some (.slice ab T.body.length cb)) (go_keep) (first | (go_at_call 50; refine HCX.out.mono ?_; rintro e w7 ⟨rfl, hb⟩; have HE : Hid (Below w.heap.size w w7) := HB.out.drew.trans (hb.mono HB.out.drew.size); have hx1 := blk HA.out (Below.mono (Below.trans ((Below.refl _ w2).drew) hb) (Nat.le_refl _)); have hx2 := blk HA2.out (Below.mono (Below.trans ((Below.refl _ w2).drew) hb) (Nat.le_refl _)); have q0 := cell_of_row _ _ 0 _ _ _ hx2; have p0 := cell_of_row _ _ 0 _ _ _ hx1; have p1 := cell_of_row _ _ 1 _ _ _ hx1; have p2 := cell_of_row _ _ 2 _ _ _ hx1; simp at q0 p0 p1 p2; clear hb hx1 hx2))
   go_wp2_with fail
   go_ret
   exact ⟨by rw [HR2.out]; rfl, HE.out⟩
 ·have hz1 : (c1 == 0) = false := by simpa using hc
  have hz2 : decide (c1 = 0) = false := decide_eq_false hc
  have HR : Hid (R = c1) := by unfold Hid; rw [HST.out, if_pos hc]
  clear HST HCE HL6 HFA HG
  go_wp2_with fail
  go_ret
  exact ⟨by rw [HR.out]; rfl, HB.out⟩
end Go.Proofs.YtepjaoapjpmjkaaGreatDoor
namespace Go.Proofs.YtepjaoapjpmjkaaGreatDoor
open Go.RowKit
set_option linter.unusedVariables false
attribute [local go_sem] bs_size bs_get bs_extract bs_append bs_eq bs_toList
set_option maxHeartbeats 6400000 in
set_option maxRecDepth 100000 in
theorem implStartState (lo : Nat) (vv vn vb : Value) (T : LTree) (w : World) (h : TreeV lo w vv vn vb T) (hS : Sized 1048576 T) (hE : ErrT w) :
  Calls Tryz.prog 17 #[treeV vv vn vb] w fun e w' => ∃ v, e = .returned (scanV (chkT T).1.1 0 v (.slice none 0 0)) ∧ Own w' w.heap.size v (List.replicate (staN T) 0) ∧ Below w.heap.size w w' := by
 obtain ⟨i0, hi, hz0, hz1, hz2⟩ := info_parts infoInt
 have HX : Hid (∀ W, Below w.heap.size w W → Calls Tryz.prog 14 #[treeV vv vn vb] W fun e w' => e = .returned (.agg #[.int .i64 (chkT T).1.1, .int .i64 (chkT T).1.2, .int .i64 (chkT T).2]) ∧ Below W.heap.size W w') := fun W hb => implCheckTree lo vv vn vb T W (h.below hb) hS (hE.kept hb)
 have HCE : Hid ((chkT T).1.1 = 0 → ∀ W, Below w.heap.size w W → Calls Tryz.prog 50 #[treeV vv vn vb] W fun e w' => e = .returned (.agg #[.int .i64 0, .int .i64 (cellsL (allL 0 T))]) ∧ Below W.heap.size W w') := fun h0 W hb => by
  have h1 := implCellsOf lo vv vn vb T W (h.below hb) hS
  have e1 : celC T = 0 := (chk_good h0).1
  have e2 : celV T = cellsL (allL 0 T) := by unfold celV; rw [if_neg (by rw [(chk_good h0).1]; simp)]
  rw [e1, e2] at h1
  exact h1
 have HNN : Hid ((chkT T).1.1 = 0 → 0 ≤ cellsL (allL 0 T) ∧ cellsL (allL 0 T) ≤ 60) := chk_cells
 have HST : Hid (staN T = if (chkT T).1.1 = 0 then (cellsL (allL 0 T)).toNat else 0) := rfl
 obtain ⟨av, cv, rfl, _⟩ := id h.vars
 obtain ⟨an, cn, rfl, _⟩ := id h.nodes
 obtain ⟨ab, cb, rfl, _⟩ := id h.body
 clear h hS hE
 generalize staN T = N at *
 generalize (chkT T).1.1 = c1 at *
 generalize (chkT T).1.2 = c2 at *
 generalize (chkT T).2 = c3 at *
 generalize cellsL (allL 0 T) = z at *
 have hfl := fldC
 have hfi := fldI
 go_enter Tryz.func17, Tryz.ntmps17
 go_upto_region 1 with fail
 obtain ⟨hA, hA2, hB⟩ := four_start w (.slice av T.vars.length cv) (.slice an T.nodes.length cn) (.slice ab T.body.length cb) (.int .i64 0) (.int .i64 0) (.slice none 0 0) (.slice none 0 0) 34 47
 generalize ((w.alloc (.cells #[.slice av T.vars.length cv, .slice an T.nodes.length cn, .slice ab T.body.length cb] 34)).alloc (.cells #[.int .i64 0, .int .i64 0, .slice none 0 0, .slice none 0 0] 47)) = W at *
 obtain ⟨p0, p1, p2⟩ := cl3 hA
 go_wp2_with fail
 refine (HX.out _ hB).mono ?_
 rintro e w2 ⟨rfl, hb⟩
 have HA : Hid (w2.heap[w.heap.size]? = some (.cells #[.slice av T.vars.length cv, .slice an T.nodes.length cn, .slice ab T.body.length cb] 34 (0, 0))) := blk hA hb
 have HR : Hid (w2.heap[w.heap.size + 1]? = some (.cells #[.int .i64 0, .int .i64 0, .slice none 0 0, .slice none 0 0] 47 (0, 0))) := blk hA2 hb
 have HB : Hid (Below w.heap.size w w2) := hB.trans (hb.mono hB.size)
 clear hA hA2 hB hb HX p0 p1 p2
 by_cases hc : c1 = 0
 ·subst hc
  have HCE2 := HCE.out rfl
  have HN0 : Hid (0 ≤ z ∧ z ≤ 60) := HNN.out rfl
  have HSN : Hid (N = z.toNat) := by unfold Hid; rw [HST.out, if_pos rfl]
  clear HCE HNN HST
  have HCE : Hid _ := HCE2
  clear HCE2
  obtain ⟨n, hn⟩ : ∃ n : Nat, z = n := ⟨z.toNat, by have := HN0.out; omega⟩
  have HN1 : Hid (n ≤ 60 ∧ N = n) := ⟨by have := HN0.out.2; omega, by rw [HSN.out, hn]; rfl⟩
  subst hn
  clear HN0 HSN
  obtain ⟨p0, p1, p2⟩ := cl3 HA.out
  go_wp2_with fail
  refine (HCE.out _ HB.out).mono ?_
  rintro e w5 ⟨rfl, hb⟩
  have HR5 : Hid (w5.heap[w.heap.size + 1]? = some (.cells #[.int .i64 0, .int .i64 0, .slice none 0 0, .slice none 0 0] 47 (0, 0))) := blk HR.out hb
  have HB5 : Hid (Below w.heap.size w w5) := HB.out.trans (hb.mono HB.out.size)
  have hmax : n ≤ maxLen := by have := HN1.out.1; unfold maxLen; omega
  clear hb HR HB HA HCE p0 p1 p2
  go_wp2_with (at_make; refine wpList_make_full _ rfl (.tmp 13) (.tmp 13) 24 rfl w5.heap.size 2 i0 (.int .i64 0) 1 Tryz.underlying24 hi hz0 hz1 .i64 .i64 n n n rfl rfl rfl rfl ?_ hmax (Nat.le_refl _) ?_)
  ·rw [hz2]; have := HN1.out.1; omega
  ·intro w6 hown hgrow
   have hb : Below w5.heap.size w5 w6 := (Below.refl _ _).grown hgrow (Nat.le_refl _) (fun k hk => by cases hk)
   have hR6 := blk HR5.out hb
   have HB6 : Hid (Below w.heap.size w w6) := HB5.out.trans (hb.mono HB5.out.size)
   obtain ⟨r0, r1, r2, r3⟩ := cl4 hR6
   obtain ⟨f0, f1, f2, f3⟩ := fl4 hR6
   have HO6 : Hid (w6.ownsRow w5.heap.size 2 1 (.slice (some ⟨w5.heap.size, 0, none⟩) n n) n ((List.replicate n (0 : Int)).map (Value.int .i64))) := by
    rw [toList_madeCells_one] at hown
    unfold Hid
    rw [List.map_replicate]
    exact hown
   have hg1 : w.heap.size + 1 < w5.heap.size := blk_lt HR5.out
   have HG1 := hid hg1
   clear hown hgrow hb hR6 HR5 HB5 hg1 hi hz0 hz1 hz2
   generalize w5.heap.size = g5 at *
   go_wp2_with fail
   refine bodyPost_ret (v := scanV 0 0 (.slice (some ⟨g5, 0, none⟩) n n) (.slice none 0 0)) (by simp [results, Tryz.results17, go_sem, r0, r1, r2, r3]) rfl ⟨_, rfl, ?_, (((HB6.out.setCell (by simp) _).setCell (by simp) _).setCell (by simp) _).setCell (by simp) _⟩
   rw [HN1.out.2]
   unfold Own
   rw [List.length_replicate]
   have hg := HG1.out
   exact own_mono (ownsRow_setCell_below (ownsRow_setCell_below (ownsRow_setCell_below (ownsRow_setCell_below HO6.out (a := ⟨w.heap.size + 1, 0, none⟩) hg _) (a := ⟨w.heap.size + 1, 1, none⟩) hg _) (a := ⟨w.heap.size + 1, 2, none⟩) hg _) (a := ⟨w.heap.size + 1, 3, none⟩) hg _) (by omega)
 ·have hz1' : (c1 == 0) = false := by simpa using hc
  have hz2' : decide (c1 = 0) = false := decide_eq_false hc
  have HSN : Hid (N = 0) := by unfold Hid; rw [HST.out, if_neg hc]
  obtain ⟨r0, r1, r2, r3⟩ := cl4 HR.out
  obtain ⟨f0, f1, f2, f3⟩ := fl4 HR.out
  clear HCE HNN HST hi hz0 hz1 hz2
  go_wp2_with fail
  refine bodyPost_ret (v := scanV c1 0 (.slice none 0 0) (.slice none 0 0)) (by simp [results, Tryz.results17, go_sem, r0, r1, r2, r3]) rfl ⟨_, rfl, ?_, (((HB.out.setCell (by simp) _).setCell (by simp) _).setCell (by simp) _).setCell (by simp) _⟩
  rw [HSN.out]
  exact World.ownsRow_nil _ _ _ _
end Go.Proofs.YtepjaoapjpmjkaaGreatDoor
