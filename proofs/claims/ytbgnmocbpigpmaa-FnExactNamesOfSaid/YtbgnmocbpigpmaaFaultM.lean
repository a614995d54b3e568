/-
  Trees: counts, depths, the fault; plainly.
-/
import Derived.Test.YtbgnmocbpigpmaaBase
import Derived.Test.YtbgnmocbpigpmaaTreeM
import Derived.Test.YtbgnmocbpigpmaaSWord
namespace Go.Proofs.Ytbgnmocbpigpmaa
open Go.RowKit
set_option linter.unusedVariables false

def inB (z a b : Int) : Bool := decide (a ≤ z) && decide (z ≤ b)
theorem inB_iff {z a b : Int} : inB z a b = true ↔ a ≤ z ∧ z ≤ b := by simp [inB]
theorem inB_no {z a b : Int} : inB z a b = false ↔ ¬ (a ≤ z ∧ z ≤ b) := by rw [← inB_iff]; cases inB z a b <;> simp

set_option maxHeartbeats 800000 in
theorem l1In_any (z a b : Int) (w : World) :
    Calls Try.prog 46 #[.int .i64 z, .int .i64 a, .int .i64 b] w fun e w' => e = .returned (.bool (inB z a b)) ∧ w' = w := by
  by_cases h1 : a ≤ z
  · by_cases h2 : z ≤ b
    · have e : inB z a b = true := inB_iff.2 ⟨h1, h2⟩
      rw [e]
      go_enter Try.func46, Try.ntmps46
      go_wp2
      go_ret
      exact ⟨rfl, rfl⟩
    · have e : inB z a b = false := inB_no.2 (fun h => h2 h.2)
      rw [e]
      go_enter Try.func46, Try.ntmps46
      go_wp2
      go_ret
      exact ⟨rfl, rfl⟩
  · have e : inB z a b = false := inB_no.2 (fun h => h1 h.1)
    rw [e]
    go_enter Try.func46, Try.ntmps46
    go_wp2
    go_ret
    exact ⟨rfl, rfl⟩

set_option maxHeartbeats 800000 in
theorem l1Word_any (z : Int) (w : World) : Calls Try.prog 141 #[.int .i64 z] w fun e w' => e = .returned (.bool (inB z 0 65535)) ∧ w' = w := by
  have H : Hid (∀ w, Calls Try.prog 46 #[.int .i64 z, .int .i64 0, .int .i64 65535] w fun e w' => e = .returned (.bool (inB z 0 65535)) ∧ w' = w) := fun w => l1In_any z 0 65535 w
  go_enter Try.func141, Try.ntmps141
  go_wp2_with fail
  refine (H.out _).mono ?_
  rintro e w' ⟨rfl, rfl⟩
  go_wp2_with fail
  go_ret
  exact ⟨rfl, rfl⟩
end Go.Proofs.Ytbgnmocbpigpmaa
namespace Go.Proofs.Ytbgnmocbpigpmaa
open Go.RowKit
set_option linter.unusedVariables false

def exprN (n : LNode) : Bool := inB n.kind 1 6
def refB (N : List LNode) (at_ : Int) (expr : Bool) (x : Int) : Bool := inB x 0 (at_ - 1) && (exprN (N.getD x.toNat default) == expr)
/-- the places of a list name nodes ahead, that are expressions, or statements -/
def refsB (N : List LNode) (at_ : Int) (l : List Int) (expr : Bool) : Bool := l.all (refB N at_ expr)
/-- which fields a kind has: a name, how many kids (-1: 1 to 3), numbers -/
def wantsN (k : Int) : Bool × Int × Bool :=
  if k = 1 then (false, 0, true) else if k = 2 then (true, 0, false) else if k = 3 ∨ k = 7 then (true, 1, false) else if k = 4 ∨ k = 5 ∨ k = 9 then (false, 1, false)
  else if k = 6 then (false, 2, false) else if k = 8 then (true, 2, false) else if k = 10 then (true, 0, true) else (true, -1, false)
def rightB (N : List LNode) (at_ : Nat) : Bool :=
  let n := N.getD at_ default
  let q := wantsN n.kind
  inB n.kind 1 11 &&
  (q.1 == isNameL n.name) && (q.1 || n.name.isEmpty) && (if 0 ≤ q.2.1 then decide ((n.kids.length : Int) = q.2.1) else inB n.kids.length 1 3) &&
  (if q.2.2 then inB n.num 0 65535 else decide (n.num = 0)) && (if n.kind = 10 then inB n.far 0 65535 else decide (n.far = 0)) &&
  (if n.kind = 6 then inB n.op 1 10 else if n.kind = 11 then inB n.op 1 4 else decide (n.op = 0)) &&
  (decide (n.kind = 9) || n.els.isEmpty) && (decide (n.kind = 9) || decide (n.kind = 10) || n.thn.isEmpty) &&
  refsB N at_ n.kids true && refsB N at_ n.thn false && refsB N at_ n.els false
/-- all lists of a tree's nodes, one behind the other -/
def listsOf (n : LNode) : List Int := n.kids ++ n.thn ++ n.els
def namedB (T : LTree) (k : Nat) : Nat := ((T.nodes.map fun n => (listsOf n).count (k : Int)).sum) + T.body.count (k : Int)
/-- the depths of the nodes, one behind the other -/
def deepOf (ds : List Int) (i : Nat) (n : LNode) : Int := (listsOf n).foldl (fun d x => if inB x 0 ((i : Int) - 1) then max d (ds.getD x.toNat 0) else d) 0
def depthsL (N : List LNode) : List Int := (List.range N.length).foldl (fun ds i => ds ++ [deepOf ds i (N.getD i default) + 1]) []
def varB (v : LVar) : Int := if isNameL v.name then (if inB v.kind 1 3 && inB v.type 1 2 && inB v.size 0 8 then 0 else 3) else 5
end Go.Proofs.Ytbgnmocbpigpmaa
namespace Go.Proofs.Ytbgnmocbpigpmaa
open Go.RowKit
set_option linter.unusedVariables false

/-- the first fault of variables -/
def varsB : List LVar → Int
  | [] => 0
  | v :: r => if varB v = 0 then varsB r else varB v
def bump (cs : List Int) (x : Int) : List Int := cs.set x.toNat (cs.getD x.toNat 0 + 1)
def bumps (cs : List Int) (l : List Int) : List Int := l.foldl bump cs
def bumpN (cs : List Int) (n : LNode) : List Int := bumps (bumps (bumps cs n.kids) n.thn) n.els
/-- how often each node is named -/
def countsL (T : LTree) : List Int := bumps (T.nodes.foldl bumpN (List.replicate T.nodes.length 0)) T.body
def deepStep (ds : List Int) (i : Nat) (d x : Int) : Int := if inB x 0 ((i : Int) - 1) then max d (ds.getD x.toNat 0) else d
def deepG (ds : List Int) (i : Nat) (d : Int) (l : List Int) : Int := l.foldl (deepStep ds i) d
def deepN (ds : List Int) (i : Nat) (n : LNode) : Int := deepG ds i (deepG ds i (deepG ds i 0 n.kids) n.thn) n.els
/-- the depths of the first k nodes -/
def depthsF (N : List LNode) : Nat → List Int
  | 0 => []
  | k + 1 => depthsF N k ++ [deepN (depthsF N k) k (N.getD k default) + 1]
def rightsB (N : List LNode) : Bool := (List.range N.length).all (fun k => rightB N k)
def faultL (T : LTree) : Int :=
  if 24 < T.vars.length ∨ 200 < T.nodes.length then 2
  else if varsB T.vars ≠ 0 then varsB T.vars
  else if rightsB T.nodes = false then 1
  else if refsB T.nodes T.nodes.length T.body false = false then 1
  else if (countsL T).all (fun c => decide (c = 1)) = false then 1
  else if (depthsF T.nodes T.nodes.length).all (fun d => decide (d ≤ 20)) = false then 9
  else 0

/-- a node has the fields that its kind has -/
def ownB (n : LNode) : Bool :=
  inB n.kind 1 11 &&
  ((wantsN n.kind).1 == isNameL n.name) && ((wantsN n.kind).1 || n.name.isEmpty) && (if 0 ≤ (wantsN n.kind).2.1 then decide ((n.kids.length : Int) = (wantsN n.kind).2.1) else inB n.kids.length 1 3) &&
  (if (wantsN n.kind).2.2 then inB n.num 0 65535 else decide (n.num = 0)) && (if n.kind = 10 then inB n.far 0 65535 else decide (n.far = 0)) &&
  (if n.kind = 6 then inB n.op 1 10 else if n.kind = 11 then inB n.op 1 4 else decide (n.op = 0)) &&
  (decide (n.kind = 9) || n.els.isEmpty) && (decide (n.kind = 9) || decide (n.kind = 10) || n.thn.isEmpty)
theorem rightB_eq (N : List LNode) (k : Nat) : rightB N k = (ownB (N.getD k default) && refsB N k (N.getD k default).kids true && refsB N k (N.getD k default).thn false && refsB N k (N.getD k default).els false) := rfl

theorem bump_len (cs : List Int) (x : Int) : (bump cs x).length = cs.length := by simp [bump]
theorem bumps_len (l : List Int) : ∀ cs : List Int, (bumps cs l).length = cs.length := by
  unfold bumps
  induction l with
  | nil => intro cs; rfl
  | cons x r ih => intro cs; rw [List.foldl_cons, ih, bump_len]
theorem bumpN_len (cs : List Int) (n : LNode) : (bumpN cs n).length = cs.length := by simp [bumpN, bumps_len]
theorem bumpsN_len (N : List LNode) : ∀ cs : List Int, (N.foldl bumpN cs).length = cs.length := by
  induction N with
  | nil => intro cs; rfl
  | cons x r ih => intro cs; rw [List.foldl_cons, ih, bumpN_len]
theorem bumps_take {cs l : List Int} {k : Nat} {x : Int} (h : l[k]? = some x) : bumps cs (l.take (k + 1)) = bump (bumps cs (l.take k)) x := by
  obtain ⟨hk, rfl⟩ := List.getElem?_eq_some_iff.1 h
  unfold bumps; rw [List.take_succ_eq_append_getElem hk, List.foldl_append]; rfl
theorem bumpNs_take {cs : List Int} {l : List LNode} {k : Nat} {x : LNode} (h : l[k]? = some x) : (l.take (k + 1)).foldl bumpN cs = bumpN ((l.take k).foldl bumpN cs) x := by
  obtain ⟨hk, rfl⟩ := List.getElem?_eq_some_iff.1 h
  rw [List.take_succ_eq_append_getElem hk, List.foldl_append]; rfl
/-- a count is no more than what was counted -/
def CntLe (M : Int) (cs : List Int) : Prop := ∀ i : Nat, 0 ≤ cs.getD i 0 ∧ cs.getD i 0 ≤ M
theorem bump_le {M : Int} {cs : List Int} (h : CntLe M cs) (x : Int) : CntLe (M + 1) (bump cs x) := by
  intro i
  have hi := h i
  have hx := h x.toNat
  unfold bump
  simp only [List.getD_eq_getElem?_getD, List.getElem?_set] at *
  by_cases e : x.toNat = i
  · subst e
    by_cases hl : x.toNat < cs.length
    · simp [hl] at *; omega
    · simp [hl] at *; omega
  · simp [e]; omega
theorem bumps_le (l : List Int) : ∀ {M : Int} {cs : List Int}, CntLe M cs → CntLe (M + l.length) (bumps cs l) := by
  unfold bumps
  induction l with
  | nil => intro M cs h; simpa using h
  | cons x r ih =>
    intro M cs h
    have := ih (bump_le h x)
    rw [List.foldl_cons]
    have e : M + ((x :: r).length : Int) = M + 1 + (r.length : Int) := by simp; omega
    rw [e]; exact this
theorem CntLe.mono {M M' : Int} {cs : List Int} (h : CntLe M cs) (hM : M ≤ M') : CntLe M' cs := fun i => ⟨(h i).1, Int.le_trans (h i).2 hM⟩
theorem bumpN_le {M B : Int} {cs : List Int} {n : LNode} (h : CntLe M cs) (h1 : n.kids.length ≤ B) (h2 : n.thn.length ≤ B) (h3 : n.els.length ≤ B) : CntLe (M + 3 * B) (bumpN cs n) :=
  (bumps_le _ (bumps_le _ (bumps_le _ h))).mono (by omega)
theorem bumpNs_le {B : Int} : ∀ (N : List LNode) {M : Int} {cs : List Int}, CntLe M cs → (∀ n ∈ N, (n.kids.length : Int) ≤ B ∧ (n.thn.length : Int) ≤ B ∧ (n.els.length : Int) ≤ B) → CntLe (M + 3 * B * N.length) (N.foldl bumpN cs) := by
  intro N
  induction N with
  | nil => intro M cs h _; simpa using h
  | cons n r ih =>
    intro M cs h hB
    have h1 := hB n (by simp)
    have := ih (bumpN_le (B := B) h h1.1 h1.2.1 h1.2.2) (fun n hn => hB n (by simp [hn]))
    rw [List.foldl_cons]
    have e : M + 3 * B * ((n :: r).length : Int) = M + 3 * B + 3 * B * (r.length : Int) := by simp [Int.mul_add]; omega
    rw [e]; exact this
theorem cnt_zero (n : Nat) : CntLe 0 (List.replicate n 0) := by
  intro i
  rw [List.getD_eq_getElem?_getD, List.getElem?_replicate]
  split <;> simp

theorem depthsF_len (N : List LNode) : ∀ k, (depthsF N k).length = k := by
  intro k
  induction k with
  | zero => rfl
  | succ k ih => simp [depthsF, ih]
theorem deepG_append (ds : List Int) (i : Nat) (d : Int) (a b : List Int) : deepG ds i d (a ++ b) = deepG ds i (deepG ds i d a) b := List.foldl_append
theorem deepG_take {ds l : List Int} {i k : Nat} {d x : Int} (h : l[k]? = some x) : deepG ds i d (l.take (k + 1)) = deepStep ds i (deepG ds i d (l.take k)) x := by
  obtain ⟨hk, rfl⟩ := List.getElem?_eq_some_iff.1 h
  rw [List.take_succ_eq_append_getElem hk, deepG_append]; rfl
def DepLe (M : Int) (ds : List Int) : Prop := ∀ i : Nat, 0 ≤ ds.getD i 0 ∧ ds.getD i 0 ≤ M
theorem deepStep_le {M d x : Int} {ds : List Int} {i : Nat} (h : DepLe M ds) (h0 : 0 ≤ d) (h1 : d ≤ M) : 0 ≤ deepStep ds i d x ∧ deepStep ds i d x ≤ M := by
  unfold deepStep
  split
  · have := h x.toNat; omega
  · exact ⟨h0, h1⟩
theorem deepG_le {M : Int} {ds : List Int} {i : Nat} (h : DepLe M ds) (l : List Int) : ∀ {d : Int}, 0 ≤ d → d ≤ M → 0 ≤ deepG ds i d l ∧ deepG ds i d l ≤ M := by
  unfold deepG
  induction l with
  | nil => intro d h0 h1; exact ⟨h0, h1⟩
  | cons x r ih => intro d h0 h1; have := deepStep_le (i := i) (x := x) h h0 h1; exact ih this.1 this.2
theorem deepN_le {M : Int} {ds : List Int} {i : Nat} (h : DepLe M ds) (hM : 0 ≤ M) (n : LNode) : 0 ≤ deepN ds i n ∧ deepN ds i n ≤ M := by
  have h1 := deepG_le (i := i) h n.kids (Int.le_refl 0) hM
  have h2 := deepG_le (i := i) h n.thn h1.1 h1.2
  exact deepG_le (i := i) h n.els h2.1 h2.2
theorem depthsF_le (N : List LNode) : ∀ k : Nat, DepLe k (depthsF N k) := by
  intro k
  induction k with
  | zero => intro i; simp [depthsF]
  | succ k ih =>
    intro i
    have hd := deepN_le (i := k) ih (by omega) (N.getD k default)
    have hi := ih i
    rw [depthsF]
    rw [List.getD_eq_getElem?_getD, List.getElem?_append, depthsF_len]
    rw [List.getD_eq_getElem?_getD] at hi
    split
    · simp at hi ⊢; omega
    · by_cases e : i - k = 0
      · rw [e]; simp at hd ⊢; omega
      · have : ([deepN (depthsF N k) k (N.getD k default) + 1] : List Int)[i - k]? = none := List.getElem?_eq_none (by simp; omega)
        rw [this]; simp; omega
theorem deepStep_max (ds : List Int) (i : Nat) (d x : Int) (h : 0 ≤ d) : deepStep ds i d x = max d (deepStep ds i 0 x) := by
  unfold deepStep; split <;> omega
theorem deepG_max (ds : List Int) (i : Nat) (l : List Int) : ∀ d : Int, 0 ≤ d → deepG ds i d l = max d (deepG ds i 0 l) := by
  unfold deepG
  induction l with
  | nil => intro d h; simp; omega
  | cons x r ih =>
    intro d h
    have h1 : 0 ≤ deepStep ds i 0 x := by
      unfold deepStep; split <;> omega
    have h2 : 0 ≤ deepStep ds i d x := by
      unfold deepStep; split <;> omega
    rw [List.foldl_cons, List.foldl_cons, ih _ h2, ih _ h1, deepStep_max ds i d x h]
    omega
theorem deepG_nonneg (ds : List Int) (i : Nat) (l : List Int) : 0 ≤ deepG ds i 0 l := by
  cases l with
  | nil => exact Int.le_refl 0
  | cons x r =>
    have h1 : 0 ≤ deepStep ds i 0 x := by
      unfold deepStep; split <;> omega
    show 0 ≤ deepG ds i (deepStep ds i 0 x) r
    rw [deepG_max _ _ _ _ h1]; omega
theorem deepN_max (ds : List Int) (i : Nat) (n : LNode) : deepN ds i n = max (max (deepG ds i 0 n.kids) (deepG ds i 0 n.thn)) (deepG ds i 0 n.els) := by
  unfold deepN
  have h1 := deepG_nonneg ds i n.kids
  rw [deepG_max ds i n.thn _ h1, deepG_max ds i n.els _ (by omega)]
theorem depthsF_get (N : List LNode) : ∀ (k i : Nat), i < k → (depthsF N k)[i]? = some (deepN (depthsF N i) i (N.getD i default) + 1) := by
  intro k
  induction k with
  | zero => intro i h; omega
  | succ k ih =>
    intro i h
    rw [depthsF, List.getElem?_append, depthsF_len]
    by_cases e : i < k
    · rw [if_pos e]; exact ih i e
    · have : i = k := by omega
      subst this
      rw [if_neg e]; simp
theorem depthsF_take (N : List LNode) (m : Nat) : ∀ k, k ≤ m → depthsF (N.take m) k = depthsF N k := by
  intro k
  induction k with
  | zero => intro _; rfl
  | succ k ih =>
    intro h
    rw [depthsF, depthsF, ih (by omega)]
    have : (N.take m).getD k default = N.getD k default := by
      rw [List.getD_eq_getElem?_getD, List.getD_eq_getElem?_getD, List.getElem?_take_of_lt (by omega)]
    rw [this]
theorem varsB_hit {V : List LVar} {k : Nat} {x : LVar} (hx : V[k]? = some x) (h : varB x ≠ 0) : varsB (V.drop k) = varB x := by
  rw [List.drop_eq_getElem_cons (List.getElem?_eq_some_iff.1 hx).1, (List.getElem?_eq_some_iff.1 hx).2, varsB, if_neg h]
theorem varsB_miss {V : List LVar} {k : Nat} {x : LVar} (hx : V[k]? = some x) (h : varB x = 0) : varsB (V.drop k) = varsB (V.drop (k + 1)) := by
  rw [List.drop_eq_getElem_cons (List.getElem?_eq_some_iff.1 hx).1, (List.getElem?_eq_some_iff.1 hx).2, varsB, if_pos h]
end Go.Proofs.Ytbgnmocbpigpmaa
