/- Points within edges and covered by tris; tris turned; both sides. -/
import Derived.Test.YtglhlpbaaoekgaaBc
namespace Go.Proofs.Ytglhlpbaaoekgaa
open Go.ChangeShapes Go.WideShapes Go.ChangeAt Go.RowKit
set_option linter.unusedVariables false
/-- A struct of 3 cells at the head of a block. -/
structure C3 (w : World) (b : Nat) (v0 v1 v2 : Value) : Prop where
  c0 : w.cell? ⟨b, 0, none⟩ = some v0
  c1 : w.cell? ⟨b, 1, none⟩ = some v1
  c2 : w.cell? ⟨b, 2, none⟩ = some v2
  f : ∀ i, w.frozen? ⟨b, i, none⟩ = false
  hi : b < w.heap.size
theorem C3.new (w : World) (t : TypeId) (v0 v1 v2 : Value) : C3 (w.alloc (.cells #[v0, v1, v2] t)) w.heap.size v0 v1 v2 := ⟨by simp, by simp, by simp, fun i => by simp, by simp⟩
theorem C3.next {w w' : World} {b : Nat} {v0 v1 v2 : Value} (h : C3 w b v0 v1 v2) (k : Below w.heap.size w w') : C3 w' b v0 v1 v2 := ⟨cell_nx h.c0 k, cell_nx h.c1 k, cell_nx h.c2 k, fun i => (k.frozen (p := ⟨b, i, none⟩) h.hi).trans (h.f i), by have := k.size; have := h.hi; omega⟩
theorem C3.block {w w' : World} {b : Nat} {v0 v1 v2 : Value} (h : C3 w b v0 v1 v2) (k : w'.heap[b]? = w.heap[b]?) (hs : w.heap.size ≤ w'.heap.size) : C3 w' b v0 v1 v2 := ⟨(World.cell?_of_block (w := w) (a := ⟨b, 0, none⟩) k).trans h.c0, (World.cell?_of_block (w := w) (a := ⟨b, 1, none⟩) k).trans h.c1, (World.cell?_of_block (w := w) (a := ⟨b, 2, none⟩) k).trans h.c2, fun i => (World.frozen?_of_block (w := w) (a := ⟨b, i, none⟩) k).trans (h.f i), by have := h.hi; omega⟩
/-- A struct of 6 cells at the head of a block. -/
structure C6 (w : World) (b : Nat) (v0 v1 v2 v3 v4 v5 : Value) : Prop where
  c0 : w.cell? ⟨b, 0, none⟩ = some v0
  c1 : w.cell? ⟨b, 1, none⟩ = some v1
  c2 : w.cell? ⟨b, 2, none⟩ = some v2
  c3 : w.cell? ⟨b, 3, none⟩ = some v3
  c4 : w.cell? ⟨b, 4, none⟩ = some v4
  c5 : w.cell? ⟨b, 5, none⟩ = some v5
  f : ∀ i, w.frozen? ⟨b, i, none⟩ = false
  hi : b < w.heap.size
theorem C6.new (w : World) (t : TypeId) (v0 v1 v2 v3 v4 v5 : Value) : C6 (w.alloc (.cells #[v0, v1, v2, v3, v4, v5] t)) w.heap.size v0 v1 v2 v3 v4 v5 := ⟨by simp, by simp, by simp, by simp, by simp, by simp, fun i => by simp, by simp⟩
theorem C6.next {w w' : World} {b : Nat} {v0 v1 v2 v3 v4 v5 : Value} (h : C6 w b v0 v1 v2 v3 v4 v5) (k : Below w.heap.size w w') : C6 w' b v0 v1 v2 v3 v4 v5 := ⟨cell_nx h.c0 k, cell_nx h.c1 k, cell_nx h.c2 k, cell_nx h.c3 k, cell_nx h.c4 k, cell_nx h.c5 k, fun i => (k.frozen (p := ⟨b, i, none⟩) h.hi).trans (h.f i), by have := k.size; have := h.hi; omega⟩
theorem C6.block {w w' : World} {b : Nat} {v0 v1 v2 v3 v4 v5 : Value} (h : C6 w b v0 v1 v2 v3 v4 v5) (k : w'.heap[b]? = w.heap[b]?) (hs : w.heap.size ≤ w'.heap.size) : C6 w' b v0 v1 v2 v3 v4 v5 := ⟨(World.cell?_of_block (w := w) (a := ⟨b, 0, none⟩) k).trans h.c0, (World.cell?_of_block (w := w) (a := ⟨b, 1, none⟩) k).trans h.c1, (World.cell?_of_block (w := w) (a := ⟨b, 2, none⟩) k).trans h.c2, (World.cell?_of_block (w := w) (a := ⟨b, 3, none⟩) k).trans h.c3, (World.cell?_of_block (w := w) (a := ⟨b, 4, none⟩) k).trans h.c4, (World.cell?_of_block (w := w) (a := ⟨b, 5, none⟩) k).trans h.c5, fun i => (World.frozen?_of_block (w := w) (a := ⟨b, i, none⟩) k).trans (h.f i), by have := h.hi; omega⟩
/-- A point whose number is n is within by the edge from p to q. -/
def wtB (px py qx qy n : Int) : Bool := decide (0 < n) || (decide (n = 0) && (decide (qy < py) || (decide (qy = py) && decide (px < qx))))
def wiB (px py qx qy x y : Int) : Bool := wtB px py qx qy (nmI px py qx qy x y)
/-- An edge is a first one. -/
def fiB (px py qx qy : Int) : Bool := decide (qy < py) || (decide (qy = py) && decide (px < qx))
theorem wt_iff {px py qx qy n : Int} : wtB px py qx qy n = true ↔ 0 < n ∨ (n = 0 ∧ (qy < py ∨ (qy = py ∧ px < qx))) := by unfold wtB; simp
theorem fi_iff {px py qx qy : Int} : fiB px py qx qy = true ↔ qy < py ∨ (qy = py ∧ px < qx) := by unfold fiB; simp
theorem wt_fi {px py qx qy n : Int} : wtB px py qx qy n = (decide (0 < n) || (decide (n = 0) && fiB px py qx qy)) := rfl
set_option maxHeartbeats 4000000 in
theorem mwithin (px py pz qx qy qz x y : Int) (w : World) (hp : ptB px py = true) (hq : ptB qx qy = true) (hx : ptB x y = true) : Calls Try.prog 93 #[.agg #[.int .i64 px, .int .i64 py, .int .i64 pz], .agg #[.int .i64 qx, .int .i64 qy, .int .i64 qz], .int .i64 x, .int .i64 y] w fun e w' => e = .returned (.bool (wiB px py qx qy x y)) ∧ Below w.heap.size w w' := by
  have HN : Hid (∀ w', Calls Try.prog 95 #[.agg #[.int .i64 px, .int .i64 py, .int .i64 pz], .agg #[.int .i64 qx, .int .i64 qy, .int .i64 qz], .int .i64 x, .int .i64 y] w' fun e w'' => e = .returned (.int .i64 (nmI px py qx qy x y)) ∧ Below w'.heap.size w' w'') := fun w' => mnum _ _ _ _ _ _ _ _ w' hp hq hx
  have hb := nm_bnd hp hq hx
  have HW : Hid (∀ w', Below ((w.alloc (.cells #[.int .i64 px, .int .i64 py, .int .i64 pz] 24)).alloc (.cells #[.int .i64 qx, .int .i64 qy, .int .i64 qz] 24)).heap.size ((w.alloc (.cells #[.int .i64 px, .int .i64 py, .int .i64 pz] 24)).alloc (.cells #[.int .i64 qx, .int .i64 qy, .int .i64 qz] 24)) w' → C3 w' w.heap.size (.int .i64 px) (.int .i64 py) (.int .i64 pz) ∧ C3 w' (w.heap.size + 1) (.int .i64 qx) (.int .i64 qy) (.int .i64 qz) ∧ Below w.heap.size w w') := fun w' b => by
    have h0 := C3.new w 24 (.int .i64 px) (.int .i64 py) (.int .i64 pz)
    have h1 := C3.new (w.alloc (.cells #[.int .i64 px, .int .i64 py, .int .i64 pz] 24)) 24 (.int .i64 qx) (.int .i64 qy) (.int .i64 qz)
    have e1 : (w.alloc (.cells #[.int .i64 px, .int .i64 py, .int .i64 pz] 24)).heap.size = w.heap.size + 1 := by simp
    rw [e1] at h1
    exact ⟨(h0.next alloc_b).next b, h1.next b, b2.trans (b.mono (by simp; omega))⟩
  unfold wiB
  generalize nmI px py qx qy x y = n at HN hb
  clear hp hq hx
  obtain ⟨bb, hbb⟩ : ∃ bb, wtB px py qx qy n = bb := ⟨_, rfl⟩
  rw [hbb]
  have hcase : (0 < n ∨ n < 0) ∨ (n = 0 ∧ (qy < py ∨ py < qy)) ∨ (n = 0 ∧ qy = py ∧ (px < qx ∨ qx ≤ px)) := by omega
  rcases hcase with (hn | hn) | ⟨hn, hn2 | hn2⟩ | ⟨hn, hn2, hn3 | hn3⟩
  all_goals cases bb
  all_goals first | (exfalso; have := wt_iff.1 hbb; omega) | (exfalso; rw [Bool.eq_false_iff] at hbb; exact hbb (wt_iff.2 (by omega))) | skip
  all_goals
    clear hbb
    first | subst hn | skip
    first | subst hn2 | skip
    go_enter Try.func93, Try.ntmps93
    go_wp2_with (go_at_call 95; refine (HN.out _).mono ?_; rintro e w2 ⟨rfl, B2⟩; obtain ⟨P2, Q2, D2⟩ := HW.out _ B2; clear HW; have p0 := P2.c0; have p1 := P2.c1; have q0 := Q2.c0; have q1 := Q2.c1)
    go_ret
    first | exact ⟨rfl, D2⟩ | (refine ⟨?_, D2⟩; simp; omega)
set_option maxHeartbeats 4000000 in
theorem pfirst (px py pz qx qy qz : Int) (w : World) : Calls Try.prog 123 #[.agg #[.int .i64 px, .int .i64 py, .int .i64 pz, .int .i64 qx, .int .i64 qy, .int .i64 qz]] w fun e w' => e = .returned (.bool (fiB px py qx qy)) ∧ Below w.heap.size w w' := by
  obtain ⟨bb, hbb⟩ : ∃ bb, fiB px py qx qy = bb := ⟨_, rfl⟩
  rw [hbb]
  have hcase : (qy < py ∨ py < qy) ∨ (qy = py ∧ (px < qx ∨ qx ≤ px)) := by omega
  rcases hcase with (hn2 | hn2) | ⟨hn2, hn3 | hn3⟩
  all_goals cases bb
  all_goals first | (exfalso; have := fi_iff.1 hbb; omega) | (exfalso; rw [Bool.eq_false_iff] at hbb; exact hbb (fi_iff.2 (by omega))) | skip
  all_goals
    clear hbb
    first | subst hn2 | skip
    go_enter Try.func123, Try.ntmps123
    go_wp2
    go_ret
    first | exact ⟨rfl, alloc_b⟩ | (refine ⟨?_, alloc_b⟩; simp; omega)
set_option maxHeartbeats 4000000 in
theorem pwithin (px py pz qx qy qz x y : Int) (w : World) (hp : ptB px py = true) (hq : ptB qx qy = true) (hx : ptB x y = true) : Calls Try.prog 94 #[.agg #[.int .i64 px, .int .i64 py, .int .i64 pz, .int .i64 qx, .int .i64 qy, .int .i64 qz], .int .i64 x, .int .i64 y] w fun e w' => e = .returned (.bool (wiB px py qx qy x y)) ∧ Below w.heap.size w w' := by
  have HN : Hid (∀ w', Calls Try.prog 60 #[.agg #[.int .i64 px, .int .i64 py, .int .i64 pz, .int .i64 qx, .int .i64 qy, .int .i64 qz], .int .i64 x, .int .i64 y] w' fun e w'' => e = .returned (.int .i64 (nmI px py qx qy x y)) ∧ Below w'.heap.size w' w'') := fun w' => pnum _ _ _ _ _ _ _ _ w' hp hq hx
  have HF : Hid (∀ w', Calls Try.prog 123 #[.agg #[.int .i64 px, .int .i64 py, .int .i64 pz, .int .i64 qx, .int .i64 qy, .int .i64 qz]] w' fun e w'' => e = .returned (.bool (fiB px py qx qy)) ∧ Below w'.heap.size w' w'') := fun w' => pfirst _ _ _ _ _ _ w'
  have hb := nm_bnd hp hq hx
  have HW : Hid (∀ w', Below (w.alloc (.cells #[.int .i64 px, .int .i64 py, .int .i64 pz, .int .i64 qx, .int .i64 qy, .int .i64 qz] 81)).heap.size (w.alloc (.cells #[.int .i64 px, .int .i64 py, .int .i64 pz, .int .i64 qx, .int .i64 qy, .int .i64 qz] 81)) w' → C6 w' w.heap.size (.int .i64 px) (.int .i64 py) (.int .i64 pz) (.int .i64 qx) (.int .i64 qy) (.int .i64 qz) ∧ Below w.heap.size w w') := fun w' b => ⟨(C6.new w 81 (.int .i64 px) (.int .i64 py) (.int .i64 pz) (.int .i64 qx) (.int .i64 qy) (.int .i64 qz)).next b, alloc_b.trans (b.mono (by simp))⟩
  unfold wiB
  rw [wt_fi]
  generalize nmI px py qx qy x y = n at HN hb
  generalize fiB px py qx qy = fb at HF
  clear hp hq hx
  have hcase : (0 < n ∨ n < 0) ∨ n = 0 := by omega
  rcases hcase with (hn | hn) | hn
  case' inr => cases fb
  all_goals
    first | rw [decide_eq_true hn, Bool.true_or] | rw [decide_eq_false (show ¬ 0 < n by omega), decide_eq_false (show ¬ n = 0 by omega), Bool.false_and, Bool.false_or] | rw [decide_eq_false (show ¬ 0 < n by omega), decide_eq_true hn, Bool.true_and, Bool.false_or]
    first | subst hn | skip
    go_enter Try.func94, Try.ntmps94
    go_wp2_with (first | (go_at_call 60; refine (HN.out _).mono ?_; rintro e w2 ⟨rfl, B2⟩; obtain ⟨P2, D2⟩ := HW.out _ B2; clear HW; have p0 := P2.c0; have p1 := P2.c1; have p2 := P2.c2; have p3 := P2.c3; have p4 := P2.c4; have p5 := P2.c5) | (go_at_call 123; refine (HF.out _).mono ?_; rintro e w3 ⟨rfl, B3⟩; have D3 := D2.trans (B3.mono D2.size)))
    go_ret
    first | exact ⟨rfl, D3⟩ | exact ⟨rfl, D2⟩ | (refine ⟨?_, D2⟩; simp; omega) | (refine ⟨?_, D3⟩; simp; omega)
end Go.Proofs.Ytglhlpbaaoekgaa
