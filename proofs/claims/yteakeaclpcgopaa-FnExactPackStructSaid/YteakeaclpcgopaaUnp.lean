/- What UnpackStruct answers, told without a program; rows of words that are being made; conditions: good fields, a rule, bytes. -/
import Derived.Test.YteakeaclpcgopaaWss
import Derived.Test.YteakeaclpcgopaaCmp
namespace Go.Proofs.Yteakeaclpcgopaa
open Go.ChangeShapes Go.WideShapes Go.ChangeAt Go.RowKit
open Tk (Own Only)
set_option linter.unusedVariables false
/-- A row of words that is being made. -/
def IRow (w : World) (B : Nat) (u : Value) (L : Nat) (F : Nat → Int) : Prop := w.ownsRow B 94 1 u L ((List.range L).map fun j => .int .u32 (F j))
theorem IRow.row {w : World} {B : Nat} {u : Value} {L : Nat} {F : Nat → Int} (h : IRow w B u L F) : URow w u L F := by
  by_cases e : L = 0
  · rcases h.2 with ⟨rfl, _⟩ | ⟨g, cap, cur, rfl, _⟩
    · exact Or.inl ⟨e, rfl⟩
    · exact Or.inr ⟨g, cap, rfl, Tk.own_owned h _ (fun i hi => by simp [hi])⟩
  · obtain ⟨g, cap, rfl, _, _⟩ := World.ownsRow.form h (by omega)
    exact Or.inr ⟨g, cap, rfl, Tk.own_owned h _ (fun i hi => by simp [hi])⟩
theorem IRow.next {w w' : World} {B : Nat} {u : Value} {L : Nat} {F : Nat → Int} (h : IRow w B u L F) (b : Below w.heap.size w w') : IRow w' B u L F := owns_next h b
/-- Two rows of other types lie in other blocks. -/
theorem owns_apart {w : World} {B B' e e' size size' n n' : Nat} {u v : Value} {xs ys : List Value} (h : w.ownsRow B e size u n xs) (k : w.ownsRow B' e' size' v n' ys) (hne : e ≠ e') (g : Nat) (hu : u.ownBlock = some g) : v.ownBlock ≠ some g := by
  intro hv
  rcases h.2 with ⟨rfl, _⟩ | ⟨g1, c1, cur1, rfl, _, e1, _⟩
  · simp [Value.ownBlock] at hu
  · rcases k.2 with ⟨rfl, _⟩ | ⟨g2, c2, cur2, rfl, _, e2, _⟩
    · simp [Value.ownBlock] at hv
    · simp [Value.ownBlock] at hu hv
      subst hu hv
      rw [e1] at e2
      injection e2 with e2
      injection e2 with _ e3 _
      exact hne e3
/-- The words of a field. -/
def uwL (T : Nat → ByteArray) (J : Nat → Int) (i : Nat) : Nat := cntN (kOf (T i)) (J i)
def uwF (T : Nat → ByteArray) (J : Nat → Int) (r : Int) (D : Nat → Int) (i j : Nat) : Int := wordAt D (wid (kOf (T i))) (offF T J r i + plc (kOf (T i)) (J i) r j).toNat
def okU (K T : Nat → ByteArray) (J : Nat → Int) (r : Int) (n m : Nat) : Bool := okL K T J r n && decide ((m : Int) = laySz T J r n)
/-- What a call of either side answers. -/
def SaysU (w : World) (n : Nat) (L : Nat → Nat) (F : Nat → Nat → Int) (ok : Bool) (e : Ending) (w' : World) : Prop :=
  ∃ v S, e = .returned (.tuple #[v, .bool ok]) ∧ SS w' v n S L F ∧ Sep v n S ∧ (∀ g, v.ownBlock = some g → w.heap.size ≤ g) ∧ (∀ i, i < n → ∀ g, (S i).ownBlock = some g → w.heap.size ≤ g) ∧ Below w.heap.size w w'
theorem says_no (w w' : World) (L : Nat → Nat) (F : Nat → Nat → Int) (B : Below w.heap.size w w') : SaysU w 0 L F false (.returned (.tuple #[.slice none 0 0, .bool false])) w' :=
  ⟨.slice none 0 0, fun _ => .slice none 0 0, rfl, ⟨Or.inl ⟨rfl, rfl⟩, fun i hi => by omega⟩, ⟨fun i j hi => by omega, fun i hi => by omega⟩, fun g hg => by simp [Value.ownBlock] at hg, fun i hi => by omega, B⟩
theorem w_two (k : Nat) (h : k ≤ 8) : wid k = 2 ∨ wid k = 4 := by
  rcases ten (show k ≤ 9 by omega) with rfl | rfl | rfl | rfl | rfl | rfl | rfl | rfl | rfl | rfl
  all_goals first | (left; rfl) | (right; rfl) | omega
theorem lay_ge (K T : Nat → ByteArray) (J : Nat → Int) (r : Int) (hr : 0 ≤ r ∧ r ≤ 2) (n : Nat) (h : allG K T J n = true) (n1 : 1 ≤ n) (h12 : n ≤ 12) : endF T J r n ≤ laySz T J r n ∧ laySz T J r n ≤ 200000 := by
  have q := end_bounds K T J r hr n h n (Nat.le_refl _) h12
  have a1 := q.2.2.1 (by omega)
  have mb := many_bounds (alF T J r n) r (by omega) (by omega)
  have u := up_bounds (endF T J r n) (layAl T J r n) (by omega) (by omega) (by unfold layAl; omega) (by unfold layAl; omega)
  unfold laySz
  have : layAl T J r n ≤ 64 := by unfold layAl; omega
  omega
/-- The bytes of a number lie in the struct. -/
theorem num_in (K T : Nat → ByteArray) (J : Nat → Int) (r : Int) (hr : 0 ≤ r ∧ r ≤ 2) (n : Nat) (h : allG K T J n = true) (n1 : 1 ≤ n) (h12 : n ≤ 12) (i j : Nat) (hi : i < n) (hj : j < cntN (kOf (T i)) (J i)) : 0 ≤ offF T J r i + plc (kOf (T i)) (J i) r j ∧ offF T J r i + plc (kOf (T i)) (J i) r j + wid (kOf (T i)) ≤ laySz T J r n := by
  have g := allG_at K T J n h i hi
  have p := plc_in (kOf (T i)) (J i) r g.2.1 hr g.2.2.1 g.2.2.2.1 j hj
  have oe := off_end K T J r hr n h h12 i hi
  have em := end_mono K T J r hr n h h12 (i + 1) n (by omega) (Nat.le_refl _)
  have lg := lay_ge K T J r hr n h n1 h12
  omega
theorem info94 : (Try.prog.info? 94).map (fun i => (i.zero, i.size, i.bytes)) = some (some (.int .u32 0), 1, 4) := by kernel_rfl
theorem info93 : (Try.prog.info? 93).map (fun i => (i.zero, i.size, i.bytes)) = some (some (.slice none 0 0), 1, 24) := by kernel_rfl
end Go.Proofs.Yteakeaclpcgopaa
