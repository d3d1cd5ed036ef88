/- Answers that are bytes, as the laws hold them: comparisons, marks, both answers in one world; conditions: at most 2^20 bytes. -/
import Derived.Test.YtablacgmedkgjaaDoorByt
namespace Go.Proofs.YtablacgmedkgjaaDoor
open Go.ChangeShapes Go.WideShapes Go.ChangeAt Go.RowKit
set_option linter.unusedVariables false
/-- A row of bytes, or nil. -/
def YRow (w : World) (u : Value) (L : Nat) (F : Nat → Int) : Prop := (L = 0 ∧ u = .slice none 0 0) ∨ ∃ g c, u = .slice (some ⟨g, 0, none⟩) L c ∧ Own w g L (fun j => .int .u8 (F j))
theorem YRow.next {w w' : World} {u : Value} {L : Nat} {F : Nat → Int} (h : YRow w u L F) (B : Below w.heap.size w w') : YRow w' u L F := by
  rcases h with h | ⟨g, c, rfl, O⟩
  · exact Or.inl h
  · exact Or.inr ⟨g, c, rfl, O.next B⟩
theorem YRow.but {w w' : World} {u : Value} {L p : Nat} {F : Nat → Int} (h : YRow w u L F) (B : Only p w w') (hne : u.ownBlock ≠ some p) : YRow w' u L F := by
  rcases h with h | ⟨g, c, rfl, O⟩
  · exact Or.inl h
  · exact Or.inr ⟨g, c, rfl, O.but B (fun e => hne (by rw [e]; rfl))⟩
theorem YRow.is {w : World} {u : Value} {L : Nat} {F : Nat → Int} (h : YRow w u L F) : ∃ a l c, u = .slice a l c := by
  rcases h with ⟨_, rfl⟩ | ⟨g, c, rfl, O⟩
  · exact ⟨_, _, _, rfl⟩
  · exact ⟨_, _, _, rfl⟩
theorem YRow.lt {w : World} {u : Value} {L : Nat} {F : Nat → Int} (h : YRow w u L F) : ∀ g, u.ownBlock = some g → g < w.heap.size := by
  intro g hg
  rcases h with ⟨_, rfl⟩ | ⟨b, c, rfl, O⟩
  · simp [Value.ownBlock] at hg
  · simp [Value.ownBlock] at hg; subst hg; exact O.hi
theorem eqYV {w : World} {a b : Value} {L : Nat} {F : Nat → Int} (X : YRow w a L F) (Y : YRow w b L F) (hL : L ≤ 1048576) : Calls Tryd.prog 24 #[a, b] w fun r w' => r = .returned (.bool true) ∧ Below w.heap.size w w' := by
  rcases X with ⟨rfl, rfl⟩ | ⟨g, c, rfl, OX⟩
  · rcases Y with ⟨_, rfl⟩ | ⟨g', c', rfl, _⟩
    · exact (eqY0 none none 0 0 w).mono fun e w' ⟨h1, h2⟩ => ⟨h1, by rw [h2]; exact Below.refl _ _⟩
    · exact (eqY0 none _ 0 _ w).mono fun e w' ⟨h1, h2⟩ => ⟨h1, by rw [h2]; exact Below.refl _ _⟩
  · rcases Y with ⟨h0, rfl⟩ | ⟨g', c', rfl, OY⟩
    · subst h0
      exact (eqY0 _ none _ 0 w).mono fun e w' ⟨h1, h2⟩ => ⟨h1, by rw [h2]; exact Below.refl _ _⟩
    · exact sameY OX OY c c' hL
theorem markYV {w : World} {u : Value} {L : Nat} {F : Nat → Int} (X : YRow w u L F) (hL : L ≤ 1048576) (q : Nat) (hq : q ≤ w.heap.size) (hu : ∀ g, u.ownBlock = some g → q ≤ g) : Calls Tryd.prog 26 #[u, .int .i64 1] w fun r w' => r = .returned (.int .i64 ((1 + L : Nat) : Int)) ∧ YRow w' u L (fun i => ((1 + i : Nat) : Int) % 256) ∧ Below q w w' := by
  rcases X with ⟨rfl, rfl⟩ | ⟨g, c, rfl, X⟩
  · exact (markY0 none 0 1 w).mono fun e w' ⟨h1, h2⟩ => ⟨h1, Or.inl ⟨rfl, rfl⟩, by rw [h2]; exact Below.refl _ _⟩
  · exact (markY X c 1 hL (by omega)).mono fun e w' ⟨h1, h2, h3⟩ => ⟨h1, Or.inr ⟨g, c, rfl, h2⟩, h3.below (hu g rfl) hq⟩
theorem heldYV {w : World} {u : Value} {L : Nat} (X : YRow w u L (fun i => ((1 + i : Nat) : Int) % 256)) (hL : L ≤ 1048576) : Calls Tryd.prog 27 #[u, .int .i64 1] w fun r w' => r = .returned (.int .i64 ((1 + L : Nat) : Int)) ∧ w' = w := by
  rcases X with ⟨rfl, rfl⟩ | ⟨g, c, rfl, X⟩
  · exact (heldY0 none 0 1 w).mono fun e w' ⟨h1, h2⟩ => ⟨h1, h2⟩
  · exact heldY c 1 X hL (by omega)
/-- What a call of either side answers. -/
def SaysP (w : World) (L : Nat) (P : Nat → Int) (ok : Bool) (e : Ending) (w' : World) : Prop :=
  ∃ v, e = .returned (.tuple #[v, .bool ok]) ∧ YRow w' v L P ∧ (∀ g, v.ownBlock = some g → w.heap.size ≤ g) ∧ Below w.heap.size w w'
theorem saysP_no (w w' : World) (P : Nat → Int) (B : Below w.heap.size w w') : SaysP w 0 P false (.returned (.tuple #[.slice none 0 0, .bool false])) w' :=
  ⟨.slice none 0 0, rfl, Or.inl ⟨rfl, rfl⟩, fun g hg => by simp [Value.ownBlock] at hg, B⟩
theorem YRow.keep {w w' : World} {u : Value} {L B : Nat} {F : Nat → Int} (h : YRow w u L F) (b : Below B w w') (hB : ∀ g, u.ownBlock = some g → g < B) : YRow w' u L F := by
  rcases h with h | ⟨g, c, rfl, O⟩
  · exact Or.inl h
  · have hg : g < B := hB g rfl
    have hb := b.block g hg
    exact Or.inr ⟨g, c, rfl, ⟨fun i hi => (World.cell?_of_block (w := w) (a := ⟨g, i, none⟩) hb).trans (O.cell i hi), fun i => (World.frozen?_of_block (w := w) (a := ⟨g, i, none⟩) hb).trans (O.free i), by have := O.hi; have := b.size; omega⟩⟩
/-- Both answers in a world: the model's block below q, the program's from q2 on. -/
structure TwoP (w : World) (n : Nat) (F G : Nat → Int) (u v : Value) (q q2 : Nat) (wx : World) : Prop where
  U : YRow wx u n F
  V : YRow wx v n G
  u1 : ∀ g, u.ownBlock = some g → g < q
  v1 : ∀ g, v.ownBlock = some g → q2 ≤ g
  B : Below w.heap.size w wx
  hq : w.heap.size ≤ q
  q12 : q ≤ q2
  hx : q2 ≤ wx.heap.size
variable {w wx w2 : World} {n : Nat} {F G : Nat → Int} {u v : Value} {q q2 : Nat}
theorem TwoP.next (h : TwoP w n F G u v q q2 wx) (b : Below wx.heap.size wx w2) : TwoP w n F G u v q q2 w2 :=
  ⟨h.U.next b, h.V.next b, h.u1, h.v1, h.B.trans (b.mono h.B.size), h.hq, h.q12, Nat.le_trans h.hx b.size⟩
theorem TwoP.only {p : Nat} (h : TwoP w n F G u v q q2 wx) (b : Only p wx w2) (hp : q ≤ p) (hp2 : p < q2) : TwoP w n F G u v q q2 w2 :=
  ⟨h.U.but b (fun e => by have := h.u1 p e; omega), h.V.but b (fun e => by have := h.v1 p e; omega), h.u1, h.v1, h.B.trans (b.below (by have := h.hq; omega) h.B.size), h.hq, h.q12, Nat.le_trans h.hx b.size⟩
theorem TwoP.mark (h : TwoP w n F G u v q q2 wx) {G2 : Nat → Int} (V2 : YRow w2 v n G2) (b : Below q2 wx w2) : TwoP w n F G2 u v q q2 w2 :=
  ⟨h.U.keep b (fun g hg => Nat.lt_of_lt_of_le (h.u1 g hg) h.q12), V2, h.u1, h.v1, h.B.trans (b.mono (by have := h.hq; have := h.q12; omega)), h.hq, h.q12, Nat.le_trans h.hx b.size⟩
end Go.Proofs.YtablacgmedkgjaaDoor
