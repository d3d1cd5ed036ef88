/- What PackStruct answers, told without a program; rows of bytes that may be nil. -/
import Derived.Test.YteakeaclpcgopaaUnp
namespace Go.Proofs.Yteakeaclpcgopaa
open Go.ChangeShapes Go.WideShapes Go.ChangeAt Go.RowKit
open Tk (Own Only)
set_option linter.unusedVariables false
/-- The b-th byte of a word, the lowest one first. -/
def byteOf (v : Int) (b : Nat) : Int := v / 256 ^ b % 256
theorem byteOf_range (v : Int) (b : Nat) : 0 ≤ byteOf v b ∧ byteOf v b < 256 := ⟨Int.emod_nonneg _ (by omega), Int.emod_lt_of_pos _ (by omega)⟩
/-- W bytes of a word laid over a row from place q on. -/
def wrP (P : Nat → Int) (q : Nat) (v : Int) (W : Nat) : Nat → Int := fun x => if q ≤ x ∧ x < q + W then byteOf v (x - q) else P x
theorem wrP_zero (P : Nat → Int) (q : Nat) (v : Int) : wrP P q v 0 = P := by
  funext x
  unfold wrP
  rw [if_neg (by omega)]
theorem wrP_succ (P : Nat → Int) (q : Nat) (v : Int) (b x : Nat) : wrP P q v (b + 1) x = if x = q + b then byteOf v b else wrP P q v b x := by
  unfold wrP
  by_cases e : x = q + b
  · subst e
    rw [if_pos (by omega), if_pos rfl, show q + b - q = b by omega]
  · rw [if_neg e]
    by_cases h : q ≤ x ∧ x < q + b
    · rw [if_pos h, if_pos (by omega)]
    · rw [if_neg h, if_neg (by omega)]
def pjP (q : Nat → Nat) (W : Nat) (V : Nat → Int) (P : Nat → Int) : Nat → Nat → Int
  | 0 => P
  | j + 1 => wrP (pjP q W V P j) (q j) (V j) W
def piP (T : Nat → ByteArray) (J : Nat → Int) (r : Int) (V : Nat → Nat → Int) : Nat → Nat → Int
  | 0 => fun _ => 0
  | i + 1 => pjP (fun j => (offF T J r i + plc (kOf (T i)) (J i) r j).toNat) (wid (kOf (T i))).toNat (V i) (piP T J r V i) (cntN (kOf (T i)) (J i))
/-- Row i of the numbers is as field i asks. -/
def FitV (T : Nat → ByteArray) (J : Nat → Int) (L : Nat → Nat) (V : Nat → Nat → Int) (i : Nat) : Prop := L i = cntN (kOf (T i)) (J i) ∧ ∀ j, j < L i → wid (kOf (T i)) = 2 → V i j < 65536
def GoodV (T : Nat → ByteArray) (J : Nat → Int) (n : Nat) (L : Nat → Nat) (V : Nat → Nat → Int) : Prop := ∀ i, i < n → FitV T J L V i
open Classical in
noncomputable def okP (K T : Nat → ByteArray) (J : Nat → Int) (r : Int) (n nv : Nat) (L : Nat → Nat) (V : Nat → Nat → Int) : Bool := okL K T J r n && (decide (nv = n) && decide (GoodV T J n L V))
theorem okP_true {K T : Nat → ByteArray} {J : Nat → Int} {r : Int} {n nv : Nat} {L : Nat → Nat} {V : Nat → Nat → Int} (h1 : okL K T J r n = true) (h2 : nv = n) (h3 : GoodV T J n L V) : okP K T J r n nv L V = true := by
  simp [okP, h1, h2, h3]
theorem okP_false {K T : Nat → ByteArray} {J : Nat → Int} {r : Int} {n nv : Nat} {L : Nat → Nat} {V : Nat → Nat → Int} (h : okL K T J r n = false ∨ nv ≠ n ∨ ¬ GoodV T J n L V) : okP K T J r n nv L V = false := by
  rcases h with h | h | h <;> simp [okP, h]
/-- A row of bytes, or nil. -/
def YRow (w : World) (u : Value) (L : Nat) (F : Nat → Int) : Prop := (L = 0 ∧ u = .slice none 0 0) ∨ ∃ g c, u = .slice (some ⟨g, 0, none⟩) L c ∧ Own w g L (fun j => .int .u8 (F j))
theorem YRow.next {w w' : World} {u : Value} {L : Nat} {F : Nat → Int} (h : YRow w u L F) (B : Below w.heap.size w w') : YRow w' u L F := by
  rcases h with h | ⟨g, c, rfl, O⟩
  · exact Or.inl h
  · exact Or.inr ⟨g, c, rfl, O.next B⟩
theorem YRow.but {w w' : World} {u : Value} {L p : Nat} {F : Nat → Int} (h : YRow w u L F) (B : Only p w w') (hne : u.ownBlock ≠ some p) : YRow w' u L F := by
  rcases h with h | ⟨g, c, rfl, O⟩
  · exact Or.inl h
  · exact Or.inr ⟨g, c, rfl, O.but B (fun e => hne (by rw [e]; rfl))⟩
theorem YRow.is {w : World} {u : Value} {L : Nat} {F : Nat → Int} (h : YRow w u L F) : ∃ a l c, u = .slice a l c := by
  rcases h with ⟨_, rfl⟩ | ⟨g, c, rfl, O⟩
  · exact ⟨_, _, _, rfl⟩
  · exact ⟨_, _, _, rfl⟩
theorem YRow.lt {w : World} {u : Value} {L : Nat} {F : Nat → Int} (h : YRow w u L F) : ∀ g, u.ownBlock = some g → g < w.heap.size := by
  intro g hg
  rcases h with ⟨_, rfl⟩ | ⟨b, c, rfl, O⟩
  · simp [Value.ownBlock] at hg
  · simp [Value.ownBlock] at hg; subst hg; exact O.hi
theorem eqYV {w : World} {a b : Value} {L : Nat} {F : Nat → Int} (X : YRow w a L F) (Y : YRow w b L F) (hL : L ≤ 1048576) : Calls Try.prog 28 #[a, b] w fun r w' => r = .returned (.bool true) ∧ Below w.heap.size w w' := by
  rcases X with ⟨rfl, rfl⟩ | ⟨g, c, rfl, OX⟩
  · rcases Y with ⟨_, rfl⟩ | ⟨g', c', rfl, _⟩
    · exact (Tk.eqY0 none none 0 0 w).mono fun e w' ⟨h1, h2⟩ => ⟨h1, by rw [h2]; exact Below.refl _ _⟩
    · exact (Tk.eqY0 none _ 0 _ w).mono fun e w' ⟨h1, h2⟩ => ⟨h1, by rw [h2]; exact Below.refl _ _⟩
  · rcases Y with ⟨h0, rfl⟩ | ⟨g', c', rfl, OY⟩
    · subst h0
      exact (Tk.eqY0 _ none _ 0 w).mono fun e w' ⟨h1, h2⟩ => ⟨h1, by rw [h2]; exact Below.refl _ _⟩
    · exact Tk.sameY OX OY c c' hL
theorem markYV {w : World} {u : Value} {L : Nat} {F : Nat → Int} (X : YRow w u L F) (hL : L ≤ 1048576) (q : Nat) (hq : q ≤ w.heap.size) (hu : ∀ g, u.ownBlock = some g → q ≤ g) : Calls Try.prog 31 #[u, .int .i64 1] w fun r w' => r = .returned (.int .i64 ((1 + L : Nat) : Int)) ∧ YRow w' u L (fun i => ((1 + i : Nat) : Int) % 256) ∧ Below q w w' := by
  rcases X with ⟨rfl, rfl⟩ | ⟨g, c, rfl, X⟩
  · exact (Tk.markY0 none 0 1 w).mono fun e w' ⟨h1, h2⟩ => ⟨h1, Or.inl ⟨rfl, rfl⟩, by rw [h2]; exact Below.refl _ _⟩
  · exact (Tk.markY X c 1 hL (by omega)).mono fun e w' ⟨h1, h2, h3⟩ => ⟨h1, Or.inr ⟨g, c, rfl, h2⟩, h3.below (hu g rfl) hq⟩
theorem heldYV {w : World} {u : Value} {L : Nat} (X : YRow w u L (fun i => ((1 + i : Nat) : Int) % 256)) (hL : L ≤ 1048576) : Calls Try.prog 32 #[u, .int .i64 1] w fun r w' => r = .returned (.int .i64 ((1 + L : Nat) : Int)) ∧ w' = w := by
  rcases X with ⟨rfl, rfl⟩ | ⟨g, c, rfl, X⟩
  · exact (Tk.heldY0 none 0 1 w).mono fun e w' ⟨h1, h2⟩ => ⟨h1, h2⟩
  · exact Tk.heldY c 1 X hL (by omega)
/-- What a call of either side answers. -/
def SaysP (w : World) (L : Nat) (P : Nat → Int) (ok : Bool) (e : Ending) (w' : World) : Prop :=
  ∃ v, e = .returned (.tuple #[v, .bool ok]) ∧ YRow w' v L P ∧ (∀ g, v.ownBlock = some g → w.heap.size ≤ g) ∧ Below w.heap.size w w'
theorem saysP_no (w w' : World) (P : Nat → Int) (B : Below w.heap.size w w') : SaysP w 0 P false (.returned (.tuple #[.slice none 0 0, .bool false])) w' :=
  ⟨.slice none 0 0, rfl, Or.inl ⟨rfl, rfl⟩, fun g hg => by simp [Value.ownBlock] at hg, B⟩
end Go.Proofs.Yteakeaclpcgopaa
