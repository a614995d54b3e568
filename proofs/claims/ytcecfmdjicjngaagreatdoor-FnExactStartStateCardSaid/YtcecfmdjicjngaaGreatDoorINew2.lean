/-
  impl.newChecker, with the world ahead of its block.
-/
import Derived.Test.YtcecfmdjicjngaaGreatDoorICtx
namespace Go.Proofs.YtcecfmdjicjngaaGreatDoor
open Go.RowKit
set_option linter.unusedVariables false
attribute [local go_sem] bs_size bs_get bs_extract bs_append bs_eq bs_toList
set_option maxHeartbeats 6400000 in
set_option maxRecDepth 100000 in
theorem newChecker_ctx (lo : Nat) (vv vn vb : Value) (T : LTree) (w : World) (h : TreeV lo w vv vn vb T) (hG : Good T) :
  Calls Tryz.prog 81 #[.agg #[vv, vn, vb]] w fun e w' => (∃ cp mp W0, e = .returned (.pointer (some ⟨cp, 0, none⟩)) ∧ CkB lo W0 cp mp vn T (allL 0 T) ∧ ICk W0 w' cp mp vn (.slice none 0 0) ∧ Below w.heap.size w W0) ∧ Below w.heap.size w w' := by
 obtain ⟨av, cv, rfl, _⟩ := id h.vars
 obtain ⟨an, cn, rfl, _⟩ := id h.nodes
 obtain ⟨ab, cb, rfl, _⟩ := id h.body
 have HD : Hid (∀ (w' : World), Below w.heap.size w w' → Calls Tryz.prog 91 #[.agg #[.slice av T.vars.length cv, .slice an T.nodes.length cn, .slice ab T.body.length cb]] w' fun e w2 => (∃ ad cp, e = .returned (.slice ad (allL 0 T).length cp) ∧ RowE w2 ad (allL 0 T) T.vars.length) ∧ Below w'.heap.size w' w2) := fun w' hb =>
  (variablesOf_any lo _ _ _ T w' (h.below hb) hG).mono (fun e w2 hh => by
   obtain ⟨v, rfl, hown, hb⟩ := hh
   obtain ⟨ad, cp, rfl⟩ := rowE_shape hown
   exact ⟨⟨ad, cp, rfl, RowE.of_own hown rfl⟩, hb⟩)
 have HBN : Hid (∀ (ad : Option Addr) (c : Nat) (w : World), RowE w ad (allL 0 T) T.vars.length → Calls Tryz.prog 95 #[.slice ad (allL 0 T).length c] w fun e w' => e = .returned (.map (some w.heap.size)) ∧ NamesAt w' w.heap.size (allL 0 T) T.vars.length ∧ Below w.heap.size w w') := fun ad c w h1 =>
  byName_any (allL 0 T) T.vars.length ad (allL 0 T).length c w rfl h1 (hG.all_len 0) (fun x hx => by have := all_names hG 0 x hx; omega)
 have HNO : Hid (∀ w', Below w.heap.size w w' → NodesV lo w' (.slice an T.nodes.length cn) T.nodes) := fun w' hb => (h.below hb).nodes
 have HGG : Hid (Good T ∧ (allL 0 T).length ≤ 624) := ⟨hG, hG.all_len 0⟩
 clear h hG
 generalize (allL 0 T).length = L at *
 go_enter Tryz.func81, Tryz.ntmps81
 go_wp2_with fail
 have hb1 : Below w.heap.size w (w.alloc (.cells #[.slice av T.vars.length cv, .slice an T.nodes.length cn, .slice ab T.body.length cb] 28)) := (Below.refl _ _).alloc (Nat.le_refl _) _
 have hA := heap_alloc_new w (.cells #[.slice av T.vars.length cv, .slice an T.nodes.length cn, .slice ab T.body.length cb] 28)
 generalize hW : w.alloc (.cells #[.slice av T.vars.length cv, .slice an T.nodes.length cn, .slice ab T.body.length cb] 28) = W1 at *
 clear hW
 obtain ⟨p0, p1, p2⟩ := cl3 hA
 have hlt := blk_lt hA
 have HB1 : Hid (Below w.heap.size w W1.drew) := hb1.drew
 clear hA hb1
 go_region_held3 (fun Z => Z.cell? ⟨w.heap.size, 0, none⟩ = some (.slice av T.vars.length cv) ∧ Z.cell? ⟨w.heap.size, 1, none⟩ = some (.slice an T.nodes.length cn) ∧ Z.cell? ⟨w.heap.size, 2, none⟩ = some (.slice ab T.body.length cb)) (go_keep) (first | (go_at_call 91; refine (HD.out _ HB1.out).mono ?_; rintro e w2 ⟨⟨ad, cp, rfl, hrow⟩, hb⟩; have s0 := (hb.cell (p := ⟨w.heap.size, 0, none⟩) hlt).trans p0; have s1 := (hb.cell (p := ⟨w.heap.size, 1, none⟩) hlt).trans p1; have s2 := (hb.cell (p := ⟨w.heap.size, 2, none⟩) hlt).trans p2; have HRW : Hid (RowE w2 ad (allL 0 T) T.vars.length) := hrow; have HB2 : Hid (Below w.heap.size w w2) := HB1.out.trans (hb.mono HB1.out.size); have hl2 : w.heap.size < w2.heap.size := Nat.lt_of_lt_of_le hlt hb.size; clear hb hrow) | (go_at_call 95; refine (HBN.out _ _ _ HRW.out).mono ?_; rintro e w3 ⟨rfl, hmap, hb⟩; have u0 := (hb.cell (p := ⟨w.heap.size, 0, none⟩) hl2).trans s0; have u1 := (hb.cell (p := ⟨w.heap.size, 1, none⟩) hl2).trans s1; have u2 := (hb.cell (p := ⟨w.heap.size, 2, none⟩) hl2).trans s2; have HMAP : Hid (NamesAt w3 w2.heap.size (allL 0 T) T.vars.length) := hmap; have HB3 : Hid (Below w.heap.size w w3) := HB2.out.trans (hb.mono HB2.out.size); clear hb hmap))
 have HB4 : Hid (Below w.heap.size w (w3.alloc (.cells #[.slice an T.nodes.length cn, .map (some w2.heap.size), .slice none 0 0] 196))) := HB3.out.alloc HB3.out.size _
 have HCK : Hid (CkB lo w3 w3.heap.size w2.heap.size (.slice an T.nodes.length cn) T (allL 0 T) ∧ ICk w3 (w3.alloc (.cells #[.slice an T.nodes.length cn, .map (some w2.heap.size), .slice none 0 0] 196)) w3.heap.size w2.heap.size (.slice an T.nodes.length cn) (.slice none 0 0) ∧ Below w.heap.size w w3) := ⟨⟨HNO.out _ HB3.out, HMAP.out, HGG.out.1, HGG.out.1.all_len 0, Nat.le_refl _⟩, ⟨(Below.refl _ _).alloc (Nat.le_refl _) _, heap_alloc_new w3 _⟩, HB3.out⟩
 clear u0 u1 u2 s0 s1 s2 p0 p1 p2 HD HBN HNO HGG HMAP HRW HB1 HB2 HB3
 go_wp2
 go_ret
 exact ⟨⟨_, _, w3, rfl, HCK.out⟩, HB4.out⟩
end Go.Proofs.YtcecfmdjicjngaaGreatDoor
