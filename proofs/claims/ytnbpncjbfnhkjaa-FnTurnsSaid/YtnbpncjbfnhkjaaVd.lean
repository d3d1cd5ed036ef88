/- What commands leave of things, and what is wrong with one that comes next; stateFor, turnFor of the program. -/
import Derived.Test.YtnbpncjbfnhkjaaVc
import Derived.Deep.RegionLaw
import Derived.Deep.DeepCutAuto
namespace Go.Proofs.Ytnbpncjbfnhkjaa
open Go.ChangeShapes Go.WideShapes Go.ChangeAt Go.RowKit
set_option linter.unusedVariables false
/-- n structs of block o, from its head on; each may be written. -/
structure RowT (w : World) (o n : Nat) (F0 : Nat → Int) (F1 : Nat → Bool) : Prop where
  c0 : ∀ i, i < n → w.cell? ⟨o, i * 2, none⟩ = some (.int .i64 (F0 i))
  c1 : ∀ i, i < n → w.cell? ⟨o, i * 2 + 1, none⟩ = some (.bool (F1 i))
  free : ∀ i, w.frozen? ⟨o, i, none⟩ = false
  hi : o < w.heap.size
theorem RowT.mono {w : World} {o n m : Nat} {F0 : Nat → Int} {F1 : Nat → Bool} {G0 : Nat → Int} {G1 : Nat → Bool} (h : RowT w o n F0 F1) (hm : m ≤ n) (h0 : ∀ i, i < m → G0 i = F0 i) (h1 : ∀ i, i < m → G1 i = F1 i) : RowT w o m G0 G1 :=
  ⟨fun i hi => by rw [h0 i hi]; exact h.c0 i (by omega), fun i hi => by rw [h1 i hi]; exact h.c1 i (by omega), h.free, h.hi⟩
theorem RowT.next {w w' : World} {o n : Nat} {F0 : Nat → Int} {F1 : Nat → Bool} (h : RowT w o n F0 F1) (hb : Below w.heap.size w w') : RowT w' o n F0 F1 := by
  have z := hb.size
  have zh := h.hi
  exact ⟨fun i hi => (hb.cell (p := ⟨o, i * 2, none⟩) h.hi).trans (h.c0 i hi), fun i hi => (hb.cell (p := ⟨o, i * 2 + 1, none⟩) h.hi).trans (h.c1 i hi), fun i => (hb.frozen (p := ⟨o, i, none⟩) h.hi).trans (h.free i), by omega⟩
theorem RowT.drewN {w : World} {o n : Nat} {F0 : Nat → Int} {F1 : Nat → Bool} (h : RowT w o n F0 F1) (q : Nat) : RowT (w.drewN q) o n F0 F1 := ⟨h.c0, h.c1, h.free, h.hi⟩
theorem RowT.grown {w w' : World} {o n : Nat} {F0 : Nat → Int} {F1 : Nat → Bool} {row : Option Nat} (h : RowT w o n F0 F1) (hb : w.grownBy w' row) (hne : some o ≠ row) : RowT w' o n F0 F1 := by
  have z := hb.size
  have zh := h.hi
  have b := hb.block o zh hne
  exact ⟨fun i hi => (World.cell?_of_block (w := w) (a := ⟨o, i * 2, none⟩) b).trans (h.c0 i hi), fun i hi => (World.cell?_of_block (w := w) (a := ⟨o, i * 2 + 1, none⟩) b).trans (h.c1 i hi), fun i => (World.frozen?_of_block (w := w) (a := ⟨o, i, none⟩) b).trans (h.free i), by omega⟩
theorem RowT.set0 {w : World} {o n : Nat} {F0 : Nat → Int} {F1 : Nat → Bool} (h : RowT w o n F0 F1) (q : Nat) (a : Int) : RowT (w.setCell ⟨o, q * 2, none⟩ (.int .i64 a)) o n (fun i => if i = q then a else F0 i) F1 := by
  refine ⟨fun i hi => ?_, fun i hi => ?_, fun i => by simp [h.free i], by simpa using h.hi⟩
  · rw [cell_put _ _ _ _ _ _ (h.c0 i hi)]
    by_cases e : i = q
    · subst e; simp
    · rw [if_neg (by omega)]; simp [e]
  · rw [cell_put _ _ _ _ _ _ (h.c1 i hi), if_neg (by omega)]
theorem RowT.set1 {w : World} {o n : Nat} {F0 : Nat → Int} {F1 : Nat → Bool} (h : RowT w o n F0 F1) (q : Nat) (a : Bool) : RowT (w.setCell ⟨o, q * 2 + 1, none⟩ (.bool a)) o n F0 (fun i => if i = q then a else F1 i) := by
  refine ⟨fun i hi => ?_, fun i hi => ?_, fun i => by simp [h.free i], by simpa using h.hi⟩
  · rw [cell_put _ _ _ _ _ _ (h.c0 i hi), if_neg (by omega)]
  · rw [cell_put _ _ _ _ _ _ (h.c1 i hi)]
    by_cases e : i = q
    · subst e; simp
    · rw [if_neg (by omega)]; simp [e]
/-- A slice of n structs that a call made, or none. -/
def RowTV (w : World) (v : Value) (n : Nat) (F0 : Nat → Int) (F1 : Nat → Bool) : Prop := (n = 0 ∧ v = .slice none 0 0) ∨ ∃ o c, v = .slice (some ⟨o, 0, none⟩) n c ∧ RowT w o n F0 F1
theorem RowTV.grown {w w' : World} {v : Value} {n : Nat} {F0 : Nat → Int} {F1 : Nat → Bool} {row : Option Nat} (h : RowTV w v n F0 F1) (hb : w.grownBy w' row) (hne : v.ownBlock = none ∨ v.ownBlock ≠ row) : RowTV w' v n F0 F1 := by
  rcases h with h | ⟨o, c, rfl, R⟩
  · exact Or.inl h
  · exact Or.inr ⟨o, c, rfl, R.grown hb (by simpa [Value.ownBlock] using hne)⟩
theorem RowTV.next {w w' : World} {v : Value} {n : Nat} {F0 : Nat → Int} {F1 : Nat → Bool} (h : RowTV w v n F0 F1) (hb : Below w.heap.size w w') : RowTV w' v n F0 F1 := h.grown (grown_below hb none) (by cases hv : v.ownBlock <;> simp)
theorem RowTV.is {w : World} {v : Value} {n : Nat} {F0 : Nat → Int} {F1 : Nat → Bool} (R : RowTV w v n F0 F1) : ∃ a l c, v = .slice a l c := by
  rcases R with ⟨_, rfl⟩ | ⟨o, c, rfl, _⟩
  · exact ⟨_, _, _, rfl⟩
  · exact ⟨_, _, _, rfl⟩
theorem RowTV.lt {w : World} {v : Value} {n : Nat} {F0 : Nat → Int} {F1 : Nat → Bool} (h : RowTV w v n F0 F1) : ∀ g, v.ownBlock = some g → g < w.heap.size := by
  rcases h with ⟨_, rfl⟩ | ⟨o, c, rfl, R⟩
  · intro g hg; simp [Value.ownBlock] at hg
  · intro g hg; simp [Value.ownBlock] at hg; subst hg; exact R.hi
/-- That in which a thing must be for a kind. -/
def sfV (k : Int) : Int := if 1 ≤ k ∧ k ≤ 3 then k else 0
/-- A command of a kind needs a turn, of a thing in state s. -/
def tfB (k s : Int) : Bool := decide ((1 ≤ k ∧ k ≤ 3) ∧ k ≠ s)
set_option maxHeartbeats 2000000 in
theorem pstate (k : Int) (w : World) : Calls Try.prog 50 #[.int .i64 k] w fun e w' => e = .returned (.int .i64 (sfV k)) ∧ w' = w := by
  by_cases h : k = 1 ∨ k = 2 ∨ k = 3
  · rcases h with rfl | rfl | rfl
    all_goals
      go_enter Try.func50, Try.ntmps50
      go_wp2
      go_ret
      exact ⟨rfl, rfl⟩
  · have n1 : ¬ k = 1 := by omega
    have n2 : ¬ k = 2 := by omega
    have n3 : ¬ k = 3 := by omega
    have hq : sfV k = 0 := by unfold sfV; rw [if_neg (by omega)]
    rw [hq]
    clear hq
    go_enter Try.func50, Try.ntmps50
    go_wp2
    go_ret
    exact ⟨rfl, rfl⟩
/-- What is said of a turn that must come ahead. -/
def tfV (k t s : Int) : Value := if tfB k s then .agg #[.int .i64 4, .int .i64 t, .int .i64 s, .int .i64 k, .int .i64 0] else .agg #[.int .i64 0, .int .i64 0, .int .i64 0, .int .i64 0, .int .i64 0]
/-- A struct of 5 cells at the head of a block. -/
structure C5 (w : World) (b : Nat) (v0 v1 v2 v3 v4 : Value) : Prop where
  c0 : w.cell? ⟨b, 0, none⟩ = some v0
  c1 : w.cell? ⟨b, 1, none⟩ = some v1
  c2 : w.cell? ⟨b, 2, none⟩ = some v2
  c3 : w.cell? ⟨b, 3, none⟩ = some v3
  c4 : w.cell? ⟨b, 4, none⟩ = some v4
  f : ∀ i, w.frozen? ⟨b, i, none⟩ = false
  hi : b < w.heap.size
theorem C5.new (w : World) (t : TypeId) (v0 v1 v2 v3 v4 : Value) : C5 (w.alloc (.cells #[v0, v1, v2, v3, v4] t)) w.heap.size v0 v1 v2 v3 v4 := ⟨by simp, by simp, by simp, by simp, by simp, fun i => by simp, by simp⟩
theorem C5.next {w w' : World} {b : Nat} {v0 v1 v2 v3 v4 : Value} (h : C5 w b v0 v1 v2 v3 v4) (k : Below w.heap.size w w') : C5 w' b v0 v1 v2 v3 v4 := ⟨cell_nx h.c0 k, cell_nx h.c1 k, cell_nx h.c2 k, cell_nx h.c3 k, cell_nx h.c4 k, fun i => (k.frozen (p := ⟨b, i, none⟩) h.hi).trans (h.f i), by have := k.size; have := h.hi; omega⟩
theorem C5.block {w w' : World} {b : Nat} {v0 v1 v2 v3 v4 : Value} (h : C5 w b v0 v1 v2 v3 v4) (k : w'.heap[b]? = w.heap[b]?) (hs : w.heap.size ≤ w'.heap.size) : C5 w' b v0 v1 v2 v3 v4 := ⟨(World.cell?_of_block (w := w) (a := ⟨b, 0, none⟩) k).trans h.c0, (World.cell?_of_block (w := w) (a := ⟨b, 1, none⟩) k).trans h.c1, (World.cell?_of_block (w := w) (a := ⟨b, 2, none⟩) k).trans h.c2, (World.cell?_of_block (w := w) (a := ⟨b, 3, none⟩) k).trans h.c3, (World.cell?_of_block (w := w) (a := ⟨b, 4, none⟩) k).trans h.c4, fun i => (World.frozen?_of_block (w := w) (a := ⟨b, i, none⟩) k).trans (h.f i), by have := h.hi; omega⟩
def set5 (w : World) (b : Nat) (u0 u1 u2 u3 u4 : Value) : World := (((((w.setCell ⟨b, 0, none⟩ u0).setCell ⟨b, 1, none⟩ u1).setCell ⟨b, 2, none⟩ u2).setCell ⟨b, 3, none⟩ u3).setCell ⟨b, 4, none⟩ u4)
theorem only_set5 (w : World) (b : Nat) (u0 u1 u2 u3 u4 : Value) : Only b w (set5 w b u0 u1 u2 u3 u4) := by
  unfold set5
  exact (((((Only.refl _ _).setCell _ _).setCell _ _).setCell _ _).setCell _ _).setCell _ _
theorem C5.s0 {w : World} {b : Nat} {v0 v1 v2 v3 v4 : Value} (h : C5 w b v0 v1 v2 v3 v4) (x : Value) : C5 (w.setCell ⟨b, 0, none⟩ x) b x v1 v2 v3 v4 := ⟨World.cell?_setCell_same' _ _ _ (by rw [h.c0]; rfl), by rw [World.cell?_setCell_other (h := addr_ne (by decide))]; exact h.c1, by rw [World.cell?_setCell_other (h := addr_ne (by decide))]; exact h.c2, by rw [World.cell?_setCell_other (h := addr_ne (by decide))]; exact h.c3, by rw [World.cell?_setCell_other (h := addr_ne (by decide))]; exact h.c4, fun i => by simp [h.f i], by simpa using h.hi⟩
theorem C5.s1 {w : World} {b : Nat} {v0 v1 v2 v3 v4 : Value} (h : C5 w b v0 v1 v2 v3 v4) (x : Value) : C5 (w.setCell ⟨b, 1, none⟩ x) b v0 x v2 v3 v4 := ⟨by rw [World.cell?_setCell_other (h := addr_ne (by decide))]; exact h.c0, World.cell?_setCell_same' _ _ _ (by rw [h.c1]; rfl), by rw [World.cell?_setCell_other (h := addr_ne (by decide))]; exact h.c2, by rw [World.cell?_setCell_other (h := addr_ne (by decide))]; exact h.c3, by rw [World.cell?_setCell_other (h := addr_ne (by decide))]; exact h.c4, fun i => by simp [h.f i], by simpa using h.hi⟩
theorem C5.s2 {w : World} {b : Nat} {v0 v1 v2 v3 v4 : Value} (h : C5 w b v0 v1 v2 v3 v4) (x : Value) : C5 (w.setCell ⟨b, 2, none⟩ x) b v0 v1 x v3 v4 := ⟨by rw [World.cell?_setCell_other (h := addr_ne (by decide))]; exact h.c0, by rw [World.cell?_setCell_other (h := addr_ne (by decide))]; exact h.c1, World.cell?_setCell_same' _ _ _ (by rw [h.c2]; rfl), by rw [World.cell?_setCell_other (h := addr_ne (by decide))]; exact h.c3, by rw [World.cell?_setCell_other (h := addr_ne (by decide))]; exact h.c4, fun i => by simp [h.f i], by simpa using h.hi⟩
theorem C5.s3 {w : World} {b : Nat} {v0 v1 v2 v3 v4 : Value} (h : C5 w b v0 v1 v2 v3 v4) (x : Value) : C5 (w.setCell ⟨b, 3, none⟩ x) b v0 v1 v2 x v4 := ⟨by rw [World.cell?_setCell_other (h := addr_ne (by decide))]; exact h.c0, by rw [World.cell?_setCell_other (h := addr_ne (by decide))]; exact h.c1, by rw [World.cell?_setCell_other (h := addr_ne (by decide))]; exact h.c2, World.cell?_setCell_same' _ _ _ (by rw [h.c3]; rfl), by rw [World.cell?_setCell_other (h := addr_ne (by decide))]; exact h.c4, fun i => by simp [h.f i], by simpa using h.hi⟩
theorem C5.s4 {w : World} {b : Nat} {v0 v1 v2 v3 v4 : Value} (h : C5 w b v0 v1 v2 v3 v4) (x : Value) : C5 (w.setCell ⟨b, 4, none⟩ x) b v0 v1 v2 v3 x := ⟨by rw [World.cell?_setCell_other (h := addr_ne (by decide))]; exact h.c0, by rw [World.cell?_setCell_other (h := addr_ne (by decide))]; exact h.c1, by rw [World.cell?_setCell_other (h := addr_ne (by decide))]; exact h.c2, by rw [World.cell?_setCell_other (h := addr_ne (by decide))]; exact h.c3, World.cell?_setCell_same' _ _ _ (by rw [h.c4]; rfl), fun i => by simp [h.f i], by simpa using h.hi⟩
theorem C5.put {w : World} {b : Nat} {v0 v1 v2 v3 v4 : Value} (h : C5 w b v0 v1 v2 v3 v4) (u0 u1 u2 u3 u4 : Value) : C5 (set5 w b u0 u1 u2 u3 u4) b u0 u1 u2 u3 u4 := (((((h.s0 u0).s1 u1).s2 u2).s3 u3).s4 u4)
theorem step_callW {P : Program} {ops : Array Oper} {o : Oper} {a : Act} {w : World} {K : Act → World → Prop} {Q : Exit → Act → World → Prop} {E : Prop} (f : FuncId) (args : Array Value) (R : Value → World → World → Prop) (hw : Region.wanted o (yielded ops a.tmps) = true) (hrun : (execOp a.eval o).run P w = .ok (.enter f args) w) (h : Calls P f args w fun e w' => ∃ v, e = .returned v ∧ R v w w') (hK : ∀ v w', R v w w' → K (a.put o.dst v) w') : if Region.wanted o (yielded ops a.tmps) = true then Oper.wp P o a w K Q else E := by
  rw [if_pos hw]
  unfold Oper.wp
  rw [hrun, Oper.upon_enter]
  refine h.mono ?_
  rintro e w' ⟨v, rfl, hR⟩
  exact hK v w' hR
set_option maxRecDepth 100000 in
set_option maxHeartbeats 8000000 in
theorem pturnfor (b i : Nat) (k f o m s : Int) (w : World) (hi : i < 8) (hb : b < w.heap.size) (hc0 : w.cell? ⟨b, i * 2, none⟩ = some (.int .i64 s)) : Calls Try.prog 32 #[.pointer (some ⟨b, 0, none⟩), .agg #[.int .i64 k, .int .i64 (i : Int), .int .i64 f, .int .i64 o, .int .i64 m]] w fun e w' => e = .returned (.tuple #[tfV k i s, .bool (tfB k s)]) ∧ Below w.heap.size w w' := by
  have HS0 : Hid (∀ v, Calls Try.prog 50 #[.int .i64 k] v fun e w' => e = .returned (.int .i64 (sfV k)) ∧ w' = v) := fun v => pstate k v
  have i0 : (0 : Int) ≤ (i : Int) := by omega
  have i1 : (i : Int) < 8 := by omega
  have hc : ((w.alloc (.cells #[.int .i64 k, .int .i64 (i : Int), .int .i64 f, .int .i64 o, .int .i64 m] 35)).alloc (.cells #[.int .i64 0, .int .i64 0, .int .i64 0, .int .i64 0, .int .i64 0] 35)).cell? ⟨b, i * 2, none⟩ = some (.int .i64 s) := cell_nx (cell_nx hc0 alloc_b) alloc_b
  have HB : Hid (Below w.heap.size w ((w.alloc (.cells #[.int .i64 k, .int .i64 (i : Int), .int .i64 f, .int .i64 o, .int .i64 m] 35)).alloc (.cells #[.int .i64 0, .int .i64 0, .int .i64 0, .int .i64 0, .int .i64 0] 35))) := alloc_b.trans (alloc_b.mono (by simp))
  clear hc0
  unfold tfV
  by_cases hk : 1 ≤ k ∧ k ≤ 3
  · have hs : sfV k = k := by unfold sfV; rw [if_pos hk]
    have HS : Hid (∀ v, Calls Try.prog 50 #[.int .i64 k] v fun e w' => e = .returned (.int .i64 k) ∧ w' = v) := fun v => by have h := HS0.out v; rwa [hs] at h
    clear HS0 hs
    have k0 : ¬ k = 0 := by omega
    have kb : (k == 0) = false := by simpa using k0
    by_cases he : k = s
    · have hq : tfB k s = false := decide_eq_false (by omega)
      rw [hq, if_neg (by decide)]
      subst he
      go_enter Try.func32, Try.ntmps32
      go_wp2
      have PX : C5 (((w.alloc (.cells #[.int .i64 k, .int .i64 (i : Int), .int .i64 f, .int .i64 o, .int .i64 m] 35)).alloc (.cells #[.int .i64 0, .int .i64 0, .int .i64 0, .int .i64 0, .int .i64 0] 35)).drew) w.heap.size (.int .i64 k) (.int .i64 (i : Int)) (.int .i64 f) (.int .i64 o) (.int .i64 m) := ((C5.new w 35 (.int .i64 k) (.int .i64 (i : Int)) (.int .i64 f) (.int .i64 o) (.int .i64 m)).next alloc_b).next (below_drew (Below.refl _ _))
      have RX : C5 (((w.alloc (.cells #[.int .i64 k, .int .i64 (i : Int), .int .i64 f, .int .i64 o, .int .i64 m] 35)).alloc (.cells #[.int .i64 0, .int .i64 0, .int .i64 0, .int .i64 0, .int .i64 0] 35)).drew) (w.heap.size + 1) (.int .i64 0) (.int .i64 0) (.int .i64 0) (.int .i64 0) (.int .i64 0) := by
        have h := (C5.new (w.alloc (.cells #[.int .i64 k, .int .i64 (i : Int), .int .i64 f, .int .i64 o, .int .i64 m] 35)) 35 (.int .i64 0) (.int .i64 0) (.int .i64 0) (.int .i64 0) (.int .i64 0)).next (below_drew (Below.refl _ _))
        rwa [show (w.alloc (.cells #[.int .i64 k, .int .i64 (i : Int), .int .i64 f, .int .i64 o, .int .i64 m] 35)).heap.size = w.heap.size + 1 from by simp] at h
      have BX : Below w.heap.size w (((w.alloc (.cells #[.int .i64 k, .int .i64 (i : Int), .int .i64 f, .int .i64 o, .int .i64 m] 35)).alloc (.cells #[.int .i64 0, .int .i64 0, .int .i64 0, .int .i64 0, .int .i64 0] 35)).drew) := below_drew HB.out
      have hc := cell_nx hc (below_drew (Below.refl _ _))
      generalize hWW : ((w.alloc (.cells #[.int .i64 k, .int .i64 (i : Int), .int .i64 f, .int .i64 o, .int .i64 m] 35)).alloc (.cells #[.int .i64 0, .int .i64 0, .int .i64 0, .int .i64 0, .int .i64 0] 35)).drew = WX at PX RX BX hc
      clear HB
      refine wp_region_held_drew (S := fun v => Below WX.heap.size WX v) (by kernel_rfl) (by rw [hWW]; exact Below.refl _ _) (fun hH => ?_)
      rw [hWW] at hH ⊢
      clear hWW
      refine wpAnyH_take (i := 0) (oi := { dst := some 8, op := Op.move (Operand.tmp 0), type := 85, pos := "l19_commands.go:202", after := #[], guard := none }) (v := .pointer (some ⟨b, 0, none⟩)) rfl (by kernel_rfl) (by kernel_rfl) (by kernel_rfl) (fun _ _ _ h => h) (Or.inl ⟨by rfl, fun w0 hSw => by (go_simp)⟩) hH ?_
      simp only [Act.put, List.setIfInBounds_toArray, List.set_cons_zero, List.set_cons_succ]
      refine wpAnyH_take (i := 1) (oi := { dst := some 9, op := Op.fieldAddr 35 (Operand.tmp 3) 1, type := 0, pos := "l19_commands.go:202", after := #[], guard := none }) (v := .pointer (some ⟨w.heap.size, 1, none⟩)) rfl (by kernel_rfl) (by kernel_rfl) (by kernel_rfl) (fun _ _ _ h => h) (Or.inl ⟨by rfl, fun w0 hSw => by (go_simp)⟩) hH ?_
      simp only [Act.put, List.setIfInBounds_toArray, List.set_cons_zero, List.set_cons_succ]
      refine wpAnyH_take (i := 2) (oi := { dst := some 10, op := Op.load 3 (Operand.tmp 9), type := 3, pos := "l19_commands.go:202", after := #[{ on := 1, ground := Ground.data }], guard := none }) (v := .int .i64 (i : Int)) rfl (by kernel_rfl) (by kernel_rfl) (by kernel_rfl) (fun _ _ _ h => h) (Or.inl ⟨by rfl, fun w0 hSw => by ((have e9 := cell_nx PX.c1 hSw); go_simp)⟩) hH ?_
      simp only [Act.put, List.setIfInBounds_toArray, List.set_cons_zero, List.set_cons_succ]
      refine wpAnyH_take (i := 3) (oi := { dst := some 11, op := Op.nilCheck (Operand.tmp 8), type := 0, pos := "l19_commands.go:202", after := #[{ on := 0, ground := Ground.data }], guard := none }) (v := .pointer (some ⟨b, 0, none⟩)) rfl (by kernel_rfl) (by kernel_rfl) (by kernel_rfl) (fun _ _ _ h => h) (Or.inl ⟨by rfl, fun w0 hSw => by (go_simp)⟩) hH ?_
      simp only [Act.put, List.setIfInBounds_toArray, List.set_cons_zero, List.set_cons_succ]
      refine wpAnyH_take (i := 4) (oi := { dst := some 12, op := Op.indexAddr 58 (Operand.tmp 11) (Operand.tmp 10), type := 0, pos := "l19_commands.go:202", after := #[{ on := 3, ground := Ground.data }, { on := 2, ground := Ground.data }], guard := none }) (v := .pointer (some ⟨b, i * 2, none⟩)) rfl (by kernel_rfl) (by kernel_rfl) (by kernel_rfl) (fun _ _ _ h => h) (Or.inl ⟨by rfl, fun w0 hSw => by (go_simp)⟩) hH ?_
      simp only [Act.put, List.setIfInBounds_toArray, List.set_cons_zero, List.set_cons_succ]
      refine wpAnyH_take (i := 5) (oi := { dst := some 13, op := Op.fieldAddr 56 (Operand.tmp 12) 0, type := 0, pos := "l19_commands.go:202", after := #[{ on := 4, ground := Ground.data }], guard := none }) (v := .pointer (some ⟨b, i * 2, none⟩)) rfl (by kernel_rfl) (by kernel_rfl) (by kernel_rfl) (fun _ _ _ h => h) (Or.inl ⟨by rfl, fun w0 hSw => by (go_simp)⟩) hH ?_
      simp only [Act.put, List.setIfInBounds_toArray, List.set_cons_zero, List.set_cons_succ]
      refine wpAnyH_take (i := 6) (oi := { dst := some 14, op := Op.load 3 (Operand.tmp 13), type := 3, pos := "l19_commands.go:202", after := #[{ on := 5, ground := Ground.data }], guard := none }) (v := .int .i64 k) rfl (by kernel_rfl) (by kernel_rfl) (by kernel_rfl) (fun _ _ _ h => h) (Or.inl ⟨by rfl, fun w0 hSw => by ((have e9 := cell_nx hc hSw); go_simp)⟩) hH ?_
      simp only [Act.put, List.setIfInBounds_toArray, List.set_cons_zero, List.set_cons_succ]
      refine wpAnyH_take (i := 7) (oi := { dst := some 15, op := Op.fieldAddr 35 (Operand.tmp 3) 0, type := 0, pos := "l19_commands.go:202", after := #[], guard := none }) (v := .pointer (some ⟨w.heap.size, 0, none⟩)) rfl (by kernel_rfl) (by kernel_rfl) (by kernel_rfl) (fun _ _ _ h => h) (Or.inl ⟨by rfl, fun w0 hSw => by (go_simp)⟩) hH ?_
      simp only [Act.put, List.setIfInBounds_toArray, List.set_cons_zero, List.set_cons_succ]
      refine wpAnyH_take (i := 8) (oi := { dst := some 16, op := Op.load 3 (Operand.tmp 15), type := 3, pos := "l19_commands.go:202", after := #[{ on := 7, ground := Ground.data }], guard := none }) (v := .int .i64 k) rfl (by kernel_rfl) (by kernel_rfl) (by kernel_rfl) (fun _ _ _ h => h) (Or.inl ⟨by rfl, fun w0 hSw => by ((have e9 := cell_nx PX.c0 hSw); go_simp)⟩) hH ?_
      simp only [Act.put, List.setIfInBounds_toArray, List.set_cons_zero, List.set_cons_succ]
      refine wpAnyH_ready (rs := [9]) (by kernel_rfl) (by simp) ?_
      refine (AllReadyH.cons (o := { dst := some 17, op := Op.call { callee := Callee.value (Operand.func 50), args := #[Operand.tmp 16], argTypes := #[3] }, type := 3, pos := "l19_commands.go:202", after := #[{ on := 8, ground := Ground.data }], guard := none }) rfl (fun K hK => ?_) AllReadyH.nil)
      refine step_callW 50 #[.int .i64 k] (fun z v w9 => z = .int .i64 k ∧ w9 = v) (by rfl) (by go_simp) ((HS.out _).mono fun e w9 ⟨h1, h2⟩ => ⟨_, h1, rfl, h2⟩) ?_
      rintro z9 w9 ⟨rfl, hw9⟩
      subst w9
      simp only [Act.put, List.setIfInBounds_toArray, List.set_cons_zero, List.set_cons_succ]
      refine hK.out _ _ hH (fun hH' => ?_)
      clear hK K
      replace hH := hH'
      clear hH'
      refine wpAnyH_take (i := 10) (oi := { dst := some 6, op := Op.assign (Operand.tmp 14), type := 3, pos := "l19_commands.go:202", after := #[{ on := 6, ground := Ground.data }, { on := 9, ground := Ground.chain }, { on := 0, ground := Ground.phase }, { on := 1, ground := Ground.phase }, { on := 2, ground := Ground.phase }, { on := 3, ground := Ground.phase }, { on := 4, ground := Ground.phase }, { on := 5, ground := Ground.phase }, { on := 6, ground := Ground.phase }, { on := 7, ground := Ground.textOnly Departure.lateStores }, { on := 8, ground := Ground.textOnly Departure.lateStores }, { on := 9, ground := Ground.textOnly Departure.lateStoresUnsure }], guard := none }) (v := .int .i64 k) rfl (by kernel_rfl) (by kernel_rfl) (by kernel_rfl) (fun _ _ _ h => h) (Or.inl ⟨by rfl, fun w0 hSw => by (go_simp)⟩) hH ?_
      simp only [Act.put, List.setIfInBounds_toArray, List.set_cons_zero, List.set_cons_succ]
      refine wpAnyH_take (i := 11) (oi := { dst := some 7, op := Op.assign (Operand.tmp 17), type := 3, pos := "l19_commands.go:202", after := #[{ on := 9, ground := Ground.data }, { on := 10, ground := Ground.chain }, { on := 0, ground := Ground.phase }, { on := 1, ground := Ground.phase }, { on := 2, ground := Ground.phase }, { on := 3, ground := Ground.phase }, { on := 4, ground := Ground.phase }, { on := 5, ground := Ground.phase }, { on := 6, ground := Ground.phase }, { on := 7, ground := Ground.phase }, { on := 8, ground := Ground.phase }, { on := 9, ground := Ground.phase }, { on := 10, ground := Ground.phase }], guard := none }) (v := .int .i64 k) rfl (by kernel_rfl) (by kernel_rfl) (by kernel_rfl) (fun _ _ _ h => h) (Or.inl ⟨by rfl, fun w0 hSw => by (go_simp)⟩) hH ?_
      simp only [Act.put, List.setIfInBounds_toArray, List.set_cons_zero, List.set_cons_succ]
      refine wpAnyH_done (by kernel_rfl) ?_ _
      have RX0 := RX.next hH
      have PX0 := PX.next hH
      have r0 := RX0.c0
      have r1 := RX0.c1
      have r2 := RX0.c2
      have r3 := RX0.c3
      have r4 := RX0.c4
      have rf := RX0.f
      have p1 := PX0.c1
      go_wp2
      have RF := (((((RX0.s0 (.int .i64 0)).s1 (.int .i64 0)).s2 (.int .i64 0)).s3 (.int .i64 0)).s4 (.int .i64 0))
      have q0 := RF.c0
      have q1 := RF.c1
      have q2 := RF.c2
      have q3 := RF.c3
      have q4 := RF.c4
      exact bodyPost_ret (v := .tuple #[.agg #[.int .i64 0, .int .i64 0, .int .i64 0, .int .i64 0, .int .i64 0], .bool false]) (by simp [results, Try.results32, go_sem, q0, q1, q2, q3, q4]) rfl ⟨rfl, (((((BX.trans (hH.mono BX.size)).setCell (by simp) _).setCell (by simp) _).setCell (by simp) _).setCell (by simp) _).setCell (by simp) _⟩
    · have hq : tfB k s = true := decide_eq_true ⟨hk, he⟩
      have hb2 : (k == s) = false := by simpa using he
      rw [hq, if_pos rfl]
      go_enter Try.func32, Try.ntmps32
      go_wp2
      have PX : C5 (((w.alloc (.cells #[.int .i64 k, .int .i64 (i : Int), .int .i64 f, .int .i64 o, .int .i64 m] 35)).alloc (.cells #[.int .i64 0, .int .i64 0, .int .i64 0, .int .i64 0, .int .i64 0] 35)).drew) w.heap.size (.int .i64 k) (.int .i64 (i : Int)) (.int .i64 f) (.int .i64 o) (.int .i64 m) := ((C5.new w 35 (.int .i64 k) (.int .i64 (i : Int)) (.int .i64 f) (.int .i64 o) (.int .i64 m)).next alloc_b).next (below_drew (Below.refl _ _))
      have RX : C5 (((w.alloc (.cells #[.int .i64 k, .int .i64 (i : Int), .int .i64 f, .int .i64 o, .int .i64 m] 35)).alloc (.cells #[.int .i64 0, .int .i64 0, .int .i64 0, .int .i64 0, .int .i64 0] 35)).drew) (w.heap.size + 1) (.int .i64 0) (.int .i64 0) (.int .i64 0) (.int .i64 0) (.int .i64 0) := by
        have h := (C5.new (w.alloc (.cells #[.int .i64 k, .int .i64 (i : Int), .int .i64 f, .int .i64 o, .int .i64 m] 35)) 35 (.int .i64 0) (.int .i64 0) (.int .i64 0) (.int .i64 0) (.int .i64 0)).next (below_drew (Below.refl _ _))
        rwa [show (w.alloc (.cells #[.int .i64 k, .int .i64 (i : Int), .int .i64 f, .int .i64 o, .int .i64 m] 35)).heap.size = w.heap.size + 1 from by simp] at h
      have BX : Below w.heap.size w (((w.alloc (.cells #[.int .i64 k, .int .i64 (i : Int), .int .i64 f, .int .i64 o, .int .i64 m] 35)).alloc (.cells #[.int .i64 0, .int .i64 0, .int .i64 0, .int .i64 0, .int .i64 0] 35)).drew) := below_drew HB.out
      have hc := cell_nx hc (below_drew (Below.refl _ _))
      generalize hWW : ((w.alloc (.cells #[.int .i64 k, .int .i64 (i : Int), .int .i64 f, .int .i64 o, .int .i64 m] 35)).alloc (.cells #[.int .i64 0, .int .i64 0, .int .i64 0, .int .i64 0, .int .i64 0] 35)).drew = WX at PX RX BX hc
      clear HB
      refine wp_region_held_drew (S := fun v => Below WX.heap.size WX v) (by kernel_rfl) (by rw [hWW]; exact Below.refl _ _) (fun hH => ?_)
      rw [hWW] at hH ⊢
      clear hWW
      refine wpAnyH_take (i := 0) (oi := { dst := some 8, op := Op.move (Operand.tmp 0), type := 85, pos := "l19_commands.go:202", after := #[], guard := none }) (v := .pointer (some ⟨b, 0, none⟩)) rfl (by kernel_rfl) (by kernel_rfl) (by kernel_rfl) (fun _ _ _ h => h) (Or.inl ⟨by rfl, fun w0 hSw => by (go_simp)⟩) hH ?_
      simp only [Act.put, List.setIfInBounds_toArray, List.set_cons_zero, List.set_cons_succ]
      refine wpAnyH_take (i := 1) (oi := { dst := some 9, op := Op.fieldAddr 35 (Operand.tmp 3) 1, type := 0, pos := "l19_commands.go:202", after := #[], guard := none }) (v := .pointer (some ⟨w.heap.size, 1, none⟩)) rfl (by kernel_rfl) (by kernel_rfl) (by kernel_rfl) (fun _ _ _ h => h) (Or.inl ⟨by rfl, fun w0 hSw => by (go_simp)⟩) hH ?_
      simp only [Act.put, List.setIfInBounds_toArray, List.set_cons_zero, List.set_cons_succ]
      refine wpAnyH_take (i := 2) (oi := { dst := some 10, op := Op.load 3 (Operand.tmp 9), type := 3, pos := "l19_commands.go:202", after := #[{ on := 1, ground := Ground.data }], guard := none }) (v := .int .i64 (i : Int)) rfl (by kernel_rfl) (by kernel_rfl) (by kernel_rfl) (fun _ _ _ h => h) (Or.inl ⟨by rfl, fun w0 hSw => by ((have e9 := cell_nx PX.c1 hSw); go_simp)⟩) hH ?_
      simp only [Act.put, List.setIfInBounds_toArray, List.set_cons_zero, List.set_cons_succ]
      refine wpAnyH_take (i := 3) (oi := { dst := some 11, op := Op.nilCheck (Operand.tmp 8), type := 0, pos := "l19_commands.go:202", after := #[{ on := 0, ground := Ground.data }], guard := none }) (v := .pointer (some ⟨b, 0, none⟩)) rfl (by kernel_rfl) (by kernel_rfl) (by kernel_rfl) (fun _ _ _ h => h) (Or.inl ⟨by rfl, fun w0 hSw => by (go_simp)⟩) hH ?_
      simp only [Act.put, List.setIfInBounds_toArray, List.set_cons_zero, List.set_cons_succ]
      refine wpAnyH_take (i := 4) (oi := { dst := some 12, op := Op.indexAddr 58 (Operand.tmp 11) (Operand.tmp 10), type := 0, pos := "l19_commands.go:202", after := #[{ on := 3, ground := Ground.data }, { on := 2, ground := Ground.data }], guard := none }) (v := .pointer (some ⟨b, i * 2, none⟩)) rfl (by kernel_rfl) (by kernel_rfl) (by kernel_rfl) (fun _ _ _ h => h) (Or.inl ⟨by rfl, fun w0 hSw => by (go_simp)⟩) hH ?_
      simp only [Act.put, List.setIfInBounds_toArray, List.set_cons_zero, List.set_cons_succ]
      refine wpAnyH_take (i := 5) (oi := { dst := some 13, op := Op.fieldAddr 56 (Operand.tmp 12) 0, type := 0, pos := "l19_commands.go:202", after := #[{ on := 4, ground := Ground.data }], guard := none }) (v := .pointer (some ⟨b, i * 2, none⟩)) rfl (by kernel_rfl) (by kernel_rfl) (by kernel_rfl) (fun _ _ _ h => h) (Or.inl ⟨by rfl, fun w0 hSw => by (go_simp)⟩) hH ?_
      simp only [Act.put, List.setIfInBounds_toArray, List.set_cons_zero, List.set_cons_succ]
      refine wpAnyH_take (i := 6) (oi := { dst := some 14, op := Op.load 3 (Operand.tmp 13), type := 3, pos := "l19_commands.go:202", after := #[{ on := 5, ground := Ground.data }], guard := none }) (v := .int .i64 s) rfl (by kernel_rfl) (by kernel_rfl) (by kernel_rfl) (fun _ _ _ h => h) (Or.inl ⟨by rfl, fun w0 hSw => by ((have e9 := cell_nx hc hSw); go_simp)⟩) hH ?_
      simp only [Act.put, List.setIfInBounds_toArray, List.set_cons_zero, List.set_cons_succ]
      refine wpAnyH_take (i := 7) (oi := { dst := some 15, op := Op.fieldAddr 35 (Operand.tmp 3) 0, type := 0, pos := "l19_commands.go:202", after := #[], guard := none }) (v := .pointer (some ⟨w.heap.size, 0, none⟩)) rfl (by kernel_rfl) (by kernel_rfl) (by kernel_rfl) (fun _ _ _ h => h) (Or.inl ⟨by rfl, fun w0 hSw => by (go_simp)⟩) hH ?_
      simp only [Act.put, List.setIfInBounds_toArray, List.set_cons_zero, List.set_cons_succ]
      refine wpAnyH_take (i := 8) (oi := { dst := some 16, op := Op.load 3 (Operand.tmp 15), type := 3, pos := "l19_commands.go:202", after := #[{ on := 7, ground := Ground.data }], guard := none }) (v := .int .i64 k) rfl (by kernel_rfl) (by kernel_rfl) (by kernel_rfl) (fun _ _ _ h => h) (Or.inl ⟨by rfl, fun w0 hSw => by ((have e9 := cell_nx PX.c0 hSw); go_simp)⟩) hH ?_
      simp only [Act.put, List.setIfInBounds_toArray, List.set_cons_zero, List.set_cons_succ]
      refine wpAnyH_ready (rs := [9]) (by kernel_rfl) (by simp) ?_
      refine (AllReadyH.cons (o := { dst := some 17, op := Op.call { callee := Callee.value (Operand.func 50), args := #[Operand.tmp 16], argTypes := #[3] }, type := 3, pos := "l19_commands.go:202", after := #[{ on := 8, ground := Ground.data }], guard := none }) rfl (fun K hK => ?_) AllReadyH.nil)
      refine step_callW 50 #[.int .i64 k] (fun z v w9 => z = .int .i64 k ∧ w9 = v) (by rfl) (by go_simp) ((HS.out _).mono fun e w9 ⟨h1, h2⟩ => ⟨_, h1, rfl, h2⟩) ?_
      rintro z9 w9 ⟨rfl, hw9⟩
      subst w9
      simp only [Act.put, List.setIfInBounds_toArray, List.set_cons_zero, List.set_cons_succ]
      refine hK.out _ _ hH (fun hH' => ?_)
      clear hK K
      replace hH := hH'
      clear hH'
      refine wpAnyH_take (i := 10) (oi := { dst := some 6, op := Op.assign (Operand.tmp 14), type := 3, pos := "l19_commands.go:202", after := #[{ on := 6, ground := Ground.data }, { on := 9, ground := Ground.chain }, { on := 0, ground := Ground.phase }, { on := 1, ground := Ground.phase }, { on := 2, ground := Ground.phase }, { on := 3, ground := Ground.phase }, { on := 4, ground := Ground.phase }, { on := 5, ground := Ground.phase }, { on := 6, ground := Ground.phase }, { on := 7, ground := Ground.textOnly Departure.lateStores }, { on := 8, ground := Ground.textOnly Departure.lateStores }, { on := 9, ground := Ground.textOnly Departure.lateStoresUnsure }], guard := none }) (v := .int .i64 s) rfl (by kernel_rfl) (by kernel_rfl) (by kernel_rfl) (fun _ _ _ h => h) (Or.inl ⟨by rfl, fun w0 hSw => by (go_simp)⟩) hH ?_
      simp only [Act.put, List.setIfInBounds_toArray, List.set_cons_zero, List.set_cons_succ]
      refine wpAnyH_take (i := 11) (oi := { dst := some 7, op := Op.assign (Operand.tmp 17), type := 3, pos := "l19_commands.go:202", after := #[{ on := 9, ground := Ground.data }, { on := 10, ground := Ground.chain }, { on := 0, ground := Ground.phase }, { on := 1, ground := Ground.phase }, { on := 2, ground := Ground.phase }, { on := 3, ground := Ground.phase }, { on := 4, ground := Ground.phase }, { on := 5, ground := Ground.phase }, { on := 6, ground := Ground.phase }, { on := 7, ground := Ground.phase }, { on := 8, ground := Ground.phase }, { on := 9, ground := Ground.phase }, { on := 10, ground := Ground.phase }], guard := none }) (v := .int .i64 k) rfl (by kernel_rfl) (by kernel_rfl) (by kernel_rfl) (fun _ _ _ h => h) (Or.inl ⟨by rfl, fun w0 hSw => by (go_simp)⟩) hH ?_
      simp only [Act.put, List.setIfInBounds_toArray, List.set_cons_zero, List.set_cons_succ]
      refine wpAnyH_done (by kernel_rfl) ?_ _
      have RX0 := RX.next hH
      have PX0 := PX.next hH
      have r0 := RX0.c0
      have r1 := RX0.c1
      have r2 := RX0.c2
      have r3 := RX0.c3
      have r4 := RX0.c4
      have rf := RX0.f
      have p1 := PX0.c1
      go_wp2
      have RF := (((((RX0.s0 (.int .i64 4)).s1 (.int .i64 (i : Int))).s2 (.int .i64 s)).s3 (.int .i64 k)).s4 (.int .i64 0))
      have q0 := RF.c0
      have q1 := RF.c1
      have q2 := RF.c2
      have q3 := RF.c3
      have q4 := RF.c4
      exact bodyPost_ret (v := .tuple #[.agg #[.int .i64 4, .int .i64 (i : Int), .int .i64 s, .int .i64 k, .int .i64 0], .bool true]) (by simp [results, Try.results32, go_sem, q0, q1, q2, q3, q4]) rfl ⟨rfl, (((((BX.trans (hH.mono BX.size)).setCell (by simp) _).setCell (by simp) _).setCell (by simp) _).setCell (by simp) _).setCell (by simp) _⟩
  · have hs : sfV k = 0 := by unfold sfV; rw [if_neg hk]
    have HS : Hid (∀ v, Calls Try.prog 50 #[.int .i64 k] v fun e w' => e = .returned (.int .i64 0) ∧ w' = v) := fun v => by have h := HS0.out v; rwa [hs] at h
    have hq : tfB k s = false := decide_eq_false (fun h => hk h.1)
    rw [hq, if_neg (by decide)]
    clear HS0 hs
    go_enter Try.func32, Try.ntmps32
    go_wp2
    have PX : C5 (((w.alloc (.cells #[.int .i64 k, .int .i64 (i : Int), .int .i64 f, .int .i64 o, .int .i64 m] 35)).alloc (.cells #[.int .i64 0, .int .i64 0, .int .i64 0, .int .i64 0, .int .i64 0] 35)).drew) w.heap.size (.int .i64 k) (.int .i64 (i : Int)) (.int .i64 f) (.int .i64 o) (.int .i64 m) := ((C5.new w 35 (.int .i64 k) (.int .i64 (i : Int)) (.int .i64 f) (.int .i64 o) (.int .i64 m)).next alloc_b).next (below_drew (Below.refl _ _))
    have RX : C5 (((w.alloc (.cells #[.int .i64 k, .int .i64 (i : Int), .int .i64 f, .int .i64 o, .int .i64 m] 35)).alloc (.cells #[.int .i64 0, .int .i64 0, .int .i64 0, .int .i64 0, .int .i64 0] 35)).drew) (w.heap.size + 1) (.int .i64 0) (.int .i64 0) (.int .i64 0) (.int .i64 0) (.int .i64 0) := by
      have h := (C5.new (w.alloc (.cells #[.int .i64 k, .int .i64 (i : Int), .int .i64 f, .int .i64 o, .int .i64 m] 35)) 35 (.int .i64 0) (.int .i64 0) (.int .i64 0) (.int .i64 0) (.int .i64 0)).next (below_drew (Below.refl _ _))
      rwa [show (w.alloc (.cells #[.int .i64 k, .int .i64 (i : Int), .int .i64 f, .int .i64 o, .int .i64 m] 35)).heap.size = w.heap.size + 1 from by simp] at h
    have BX : Below w.heap.size w (((w.alloc (.cells #[.int .i64 k, .int .i64 (i : Int), .int .i64 f, .int .i64 o, .int .i64 m] 35)).alloc (.cells #[.int .i64 0, .int .i64 0, .int .i64 0, .int .i64 0, .int .i64 0] 35)).drew) := below_drew HB.out
    have hc := cell_nx hc (below_drew (Below.refl _ _))
    generalize hWW : ((w.alloc (.cells #[.int .i64 k, .int .i64 (i : Int), .int .i64 f, .int .i64 o, .int .i64 m] 35)).alloc (.cells #[.int .i64 0, .int .i64 0, .int .i64 0, .int .i64 0, .int .i64 0] 35)).drew = WX at PX RX BX hc
    clear HB
    refine wp_region_held_drew (S := fun v => Below WX.heap.size WX v) (by kernel_rfl) (by rw [hWW]; exact Below.refl _ _) (fun hH => ?_)
    rw [hWW] at hH ⊢
    clear hWW
    refine wpAnyH_take (i := 0) (oi := { dst := some 8, op := Op.move (Operand.tmp 0), type := 85, pos := "l19_commands.go:202", after := #[], guard := none }) (v := .pointer (some ⟨b, 0, none⟩)) rfl (by kernel_rfl) (by kernel_rfl) (by kernel_rfl) (fun _ _ _ h => h) (Or.inl ⟨by rfl, fun w0 hSw => by (go_simp)⟩) hH ?_
    simp only [Act.put, List.setIfInBounds_toArray, List.set_cons_zero, List.set_cons_succ]
    refine wpAnyH_take (i := 1) (oi := { dst := some 9, op := Op.fieldAddr 35 (Operand.tmp 3) 1, type := 0, pos := "l19_commands.go:202", after := #[], guard := none }) (v := .pointer (some ⟨w.heap.size, 1, none⟩)) rfl (by kernel_rfl) (by kernel_rfl) (by kernel_rfl) (fun _ _ _ h => h) (Or.inl ⟨by rfl, fun w0 hSw => by (go_simp)⟩) hH ?_
    simp only [Act.put, List.setIfInBounds_toArray, List.set_cons_zero, List.set_cons_succ]
    refine wpAnyH_take (i := 2) (oi := { dst := some 10, op := Op.load 3 (Operand.tmp 9), type := 3, pos := "l19_commands.go:202", after := #[{ on := 1, ground := Ground.data }], guard := none }) (v := .int .i64 (i : Int)) rfl (by kernel_rfl) (by kernel_rfl) (by kernel_rfl) (fun _ _ _ h => h) (Or.inl ⟨by rfl, fun w0 hSw => by ((have e9 := cell_nx PX.c1 hSw); go_simp)⟩) hH ?_
    simp only [Act.put, List.setIfInBounds_toArray, List.set_cons_zero, List.set_cons_succ]
    refine wpAnyH_take (i := 3) (oi := { dst := some 11, op := Op.nilCheck (Operand.tmp 8), type := 0, pos := "l19_commands.go:202", after := #[{ on := 0, ground := Ground.data }], guard := none }) (v := .pointer (some ⟨b, 0, none⟩)) rfl (by kernel_rfl) (by kernel_rfl) (by kernel_rfl) (fun _ _ _ h => h) (Or.inl ⟨by rfl, fun w0 hSw => by (go_simp)⟩) hH ?_
    simp only [Act.put, List.setIfInBounds_toArray, List.set_cons_zero, List.set_cons_succ]
    refine wpAnyH_take (i := 4) (oi := { dst := some 12, op := Op.indexAddr 58 (Operand.tmp 11) (Operand.tmp 10), type := 0, pos := "l19_commands.go:202", after := #[{ on := 3, ground := Ground.data }, { on := 2, ground := Ground.data }], guard := none }) (v := .pointer (some ⟨b, i * 2, none⟩)) rfl (by kernel_rfl) (by kernel_rfl) (by kernel_rfl) (fun _ _ _ h => h) (Or.inl ⟨by rfl, fun w0 hSw => by (go_simp)⟩) hH ?_
    simp only [Act.put, List.setIfInBounds_toArray, List.set_cons_zero, List.set_cons_succ]
    refine wpAnyH_take (i := 5) (oi := { dst := some 13, op := Op.fieldAddr 56 (Operand.tmp 12) 0, type := 0, pos := "l19_commands.go:202", after := #[{ on := 4, ground := Ground.data }], guard := none }) (v := .pointer (some ⟨b, i * 2, none⟩)) rfl (by kernel_rfl) (by kernel_rfl) (by kernel_rfl) (fun _ _ _ h => h) (Or.inl ⟨by rfl, fun w0 hSw => by (go_simp)⟩) hH ?_
    simp only [Act.put, List.setIfInBounds_toArray, List.set_cons_zero, List.set_cons_succ]
    refine wpAnyH_take (i := 6) (oi := { dst := some 14, op := Op.load 3 (Operand.tmp 13), type := 3, pos := "l19_commands.go:202", after := #[{ on := 5, ground := Ground.data }], guard := none }) (v := .int .i64 s) rfl (by kernel_rfl) (by kernel_rfl) (by kernel_rfl) (fun _ _ _ h => h) (Or.inl ⟨by rfl, fun w0 hSw => by ((have e9 := cell_nx hc hSw); go_simp)⟩) hH ?_
    simp only [Act.put, List.setIfInBounds_toArray, List.set_cons_zero, List.set_cons_succ]
    refine wpAnyH_take (i := 7) (oi := { dst := some 15, op := Op.fieldAddr 35 (Operand.tmp 3) 0, type := 0, pos := "l19_commands.go:202", after := #[], guard := none }) (v := .pointer (some ⟨w.heap.size, 0, none⟩)) rfl (by kernel_rfl) (by kernel_rfl) (by kernel_rfl) (fun _ _ _ h => h) (Or.inl ⟨by rfl, fun w0 hSw => by (go_simp)⟩) hH ?_
    simp only [Act.put, List.setIfInBounds_toArray, List.set_cons_zero, List.set_cons_succ]
    refine wpAnyH_take (i := 8) (oi := { dst := some 16, op := Op.load 3 (Operand.tmp 15), type := 3, pos := "l19_commands.go:202", after := #[{ on := 7, ground := Ground.data }], guard := none }) (v := .int .i64 k) rfl (by kernel_rfl) (by kernel_rfl) (by kernel_rfl) (fun _ _ _ h => h) (Or.inl ⟨by rfl, fun w0 hSw => by ((have e9 := cell_nx PX.c0 hSw); go_simp)⟩) hH ?_
    simp only [Act.put, List.setIfInBounds_toArray, List.set_cons_zero, List.set_cons_succ]
    refine wpAnyH_ready (rs := [9]) (by kernel_rfl) (by simp) ?_
    refine (AllReadyH.cons (o := { dst := some 17, op := Op.call { callee := Callee.value (Operand.func 50), args := #[Operand.tmp 16], argTypes := #[3] }, type := 3, pos := "l19_commands.go:202", after := #[{ on := 8, ground := Ground.data }], guard := none }) rfl (fun K hK => ?_) AllReadyH.nil)
    refine step_callW 50 #[.int .i64 k] (fun z v w9 => z = .int .i64 0 ∧ w9 = v) (by rfl) (by go_simp) ((HS.out _).mono fun e w9 ⟨h1, h2⟩ => ⟨_, h1, rfl, h2⟩) ?_
    rintro z9 w9 ⟨rfl, hw9⟩
    subst w9
    simp only [Act.put, List.setIfInBounds_toArray, List.set_cons_zero, List.set_cons_succ]
    refine hK.out _ _ hH (fun hH' => ?_)
    clear hK K
    replace hH := hH'
    clear hH'
    refine wpAnyH_take (i := 10) (oi := { dst := some 6, op := Op.assign (Operand.tmp 14), type := 3, pos := "l19_commands.go:202", after := #[{ on := 6, ground := Ground.data }, { on := 9, ground := Ground.chain }, { on := 0, ground := Ground.phase }, { on := 1, ground := Ground.phase }, { on := 2, ground := Ground.phase }, { on := 3, ground := Ground.phase }, { on := 4, ground := Ground.phase }, { on := 5, ground := Ground.phase }, { on := 6, ground := Ground.phase }, { on := 7, ground := Ground.textOnly Departure.lateStores }, { on := 8, ground := Ground.textOnly Departure.lateStores }, { on := 9, ground := Ground.textOnly Departure.lateStoresUnsure }], guard := none }) (v := .int .i64 s) rfl (by kernel_rfl) (by kernel_rfl) (by kernel_rfl) (fun _ _ _ h => h) (Or.inl ⟨by rfl, fun w0 hSw => by (go_simp)⟩) hH ?_
    simp only [Act.put, List.setIfInBounds_toArray, List.set_cons_zero, List.set_cons_succ]
    refine wpAnyH_take (i := 11) (oi := { dst := some 7, op := Op.assign (Operand.tmp 17), type := 3, pos := "l19_commands.go:202", after := #[{ on := 9, ground := Ground.data }, { on := 10, ground := Ground.chain }, { on := 0, ground := Ground.phase }, { on := 1, ground := Ground.phase }, { on := 2, ground := Ground.phase }, { on := 3, ground := Ground.phase }, { on := 4, ground := Ground.phase }, { on := 5, ground := Ground.phase }, { on := 6, ground := Ground.phase }, { on := 7, ground := Ground.phase }, { on := 8, ground := Ground.phase }, { on := 9, ground := Ground.phase }, { on := 10, ground := Ground.phase }], guard := none }) (v := .int .i64 0) rfl (by kernel_rfl) (by kernel_rfl) (by kernel_rfl) (fun _ _ _ h => h) (Or.inl ⟨by rfl, fun w0 hSw => by (go_simp)⟩) hH ?_
    simp only [Act.put, List.setIfInBounds_toArray, List.set_cons_zero, List.set_cons_succ]
    refine wpAnyH_done (by kernel_rfl) ?_ _
    have RX0 := RX.next hH
    have PX0 := PX.next hH
    have r0 := RX0.c0
    have r1 := RX0.c1
    have r2 := RX0.c2
    have r3 := RX0.c3
    have r4 := RX0.c4
    have rf := RX0.f
    have p1 := PX0.c1
    go_wp2
    have RF := (((((RX0.s0 (.int .i64 0)).s1 (.int .i64 0)).s2 (.int .i64 0)).s3 (.int .i64 0)).s4 (.int .i64 0))
    have q0 := RF.c0
    have q1 := RF.c1
    have q2 := RF.c2
    have q3 := RF.c3
    have q4 := RF.c4
    exact bodyPost_ret (v := .tuple #[.agg #[.int .i64 0, .int .i64 0, .int .i64 0, .int .i64 0, .int .i64 0], .bool false]) (by simp [results, Try.results32, go_sem, q0, q1, q2, q3, q4]) rfl ⟨rfl, (((((BX.trans (hH.mono BX.size)).setCell (by simp) _).setCell (by simp) _).setCell (by simp) _).setCell (by simp) _).setCell (by simp) _⟩
end Go.Proofs.Ytnbpncjbfnhkjaa
