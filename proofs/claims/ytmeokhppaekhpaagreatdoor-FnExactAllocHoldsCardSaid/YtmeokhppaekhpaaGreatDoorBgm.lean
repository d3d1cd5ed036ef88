/- The model's l12Begins: where blocks begin. -/
import Derived.Test.YtmeokhppaekhpaaGreatDoorRcm
namespace Go.Proofs.YtmeokhppaekhpaaGreatDoor
open Go.ChangeShapes Go.WideShapes Go.ChangeAt Go.RowKit
set_option linter.unusedVariables false
/-- Whether a number stands in a list. -/
def inL (x : Nat) : List Int → Bool
  | [] => false
  | t :: r => decide (t = (x : Int)) || inL x r
theorem inL_snoc (x : Nat) (t : Int) : ∀ l, inL x (l ++ [t]) = (inL x l || decide (t = (x : Int)))
  | [] => by simp [inL]
  | y :: r => by rw [List.cons_append, inL, inL, inL_snoc x t r, Bool.or_assoc]
/-- What ends a block. -/
def cutO (o : Int) : Bool := o == 8 || o == 9 || o == 11 || o == 10
/-- Where a block begins, by the first i instructions. -/
def bgF (O A B C : Nat → Int) : Nat → Nat → Bool
  | 0, x => decide (x = 0)
  | i + 1, x => (bgF O A B C i x || inL x (tgL (O i) (A i) (B i) (C i))) || (cutO (O i) && decide (x = i + 1))
theorem tg_len (o a b c : Int) : (tgL o a b c).length ≤ 2 := by
  unfold tgL
  repeat' split
  all_goals simp
/-- A row of numbers that a call has made above B. -/
def TgR (B : Nat) (w : World) (u : Value) (M : List Int) : Prop := ∃ ad cp, u = .slice ad M.length cp ∧ ∀ i, i < M.length → ∃ g, ad = some ⟨g, 0, none⟩ ∧ B ≤ g ∧ w.cell? ⟨g, i, none⟩ = some (.int .i64 (M.getD i 0))
set_option maxRecDepth 100000 in
set_option maxHeartbeats 2000000 in
theorem tgs43 (o d a b c x : Int) (w : World) : Calls Tryz.prog 103 #[.agg #[.int .i64 o, .int .i64 d, .int .i64 a, .int .i64 b, .int .i64 c, .int .u32 x]] w fun e w' => ∃ u, e = .returned u ∧ TgR w.heap.size w' u (tgL o a b c) ∧ Below w.heap.size w w' := by
  by_cases h8 : o = 8
  · subst h8
    obtain ⟨L, hL⟩ : ∃ L, tgL 8 a b c = L := ⟨_, rfl⟩
    rw [hL]
    have HL : Hid ([a] = L) := hL
    clear hL
    go_enter Tryz.func103, Tryz.ntmps103
    go_wp2
    go_ret
    obtain rfl : [a] = L := HL.out
    exact ⟨_, rfl, ⟨_, 1, rfl, fun i hi => ⟨_, rfl, by simp, by obtain rfl : i = 0 := (by simp at hi; exact hi); simp⟩⟩, ((Below.refl _ _).alloc (Nat.le_refl _) _).alloc (by simp) _⟩
  by_cases h9 : o = 9
  · subst h9
    obtain ⟨L, hL⟩ : ∃ L, tgL 9 a b c = L := ⟨_, rfl⟩
    rw [hL]
    have HL : Hid ([b, c] = L) := hL
    clear hL h8
    go_enter Tryz.func103, Tryz.ntmps103
    go_wp2
    go_ret
    obtain rfl : [b, c] = L := HL.out
    exact ⟨_, rfl, ⟨_, 2, rfl, fun i hi => ⟨_, rfl, by simp, by rcases (by simp at hi; omega : i = 0 ∨ i = 1) with rfl | rfl <;> simp⟩⟩, ((Below.refl _ _).alloc (Nat.le_refl _) _).alloc (by simp) _⟩
  have f8 : (o == 8) = false := by simp; omega
  have f9 : (o == 9) = false := by simp; omega
  rw [show tgL o a b c = [] by unfold tgL; rw [if_neg h8, if_neg h9]]
  clear h8 h9
  go_enter Tryz.func103, Tryz.ntmps103
  go_wp2
  go_ret
  exact ⟨_, rfl, ⟨none, 0, rfl, fun i hi => absurd hi (by simp)⟩, (Below.refl _ _).alloc (Nat.le_refl _) _⟩
theorem only_cell {o : Nat} {w w' : World} (h : Only o w w') {g i : Nat} {v : Value} (hc : w.cell? ⟨g, i, none⟩ = some v) (hg : g ≠ o) : w'.cell? ⟨g, i, none⟩ = some v :=
  (World.cell?_of_block (a := ⟨g, i, none⟩) (h.block g (World.block_lt_of_cell? _ ⟨g, i, none⟩ hc) hg)).trans hc
end Go.Proofs.YtmeokhppaekhpaaGreatDoor
