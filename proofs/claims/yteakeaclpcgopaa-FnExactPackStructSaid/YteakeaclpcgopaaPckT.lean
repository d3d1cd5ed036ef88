/- The law's memory for PackStruct: what was wanted, what was got. -/
import Derived.Test.YteakeaclpcgopaaPckS
namespace Go.Proofs.Yteakeaclpcgopaa
open Go.ChangeShapes Go.WideShapes Go.ChangeAt Go.RowKit
open Tk (Own Only)
set_option linter.unusedVariables false
theorem YRow.keep {w w' : World} {u : Value} {L B : Nat} {F : Nat → Int} (h : YRow w u L F) (b : Below B w w') (hB : ∀ g, u.ownBlock = some g → g < B) : YRow w' u L F := by
  rcases h with h | ⟨g, c, rfl, O⟩
  · exact Or.inl h
  · have hg : g < B := hB g rfl
    have hb := b.block g hg
    exact Or.inr ⟨g, c, rfl, ⟨fun i hi => (World.cell?_of_block (w := w) (a := ⟨g, i, none⟩) hb).trans (O.cell i hi), fun i => (World.frozen?_of_block (w := w) (a := ⟨g, i, none⟩) hb).trans (O.free i), by have := O.hi; have := b.size; omega⟩⟩
theorem YRow.onlyG {w w' : World} {u : Value} {L n : Nat} {G : Nat → Nat} {F : Nat → Int} (h : YRow w u L F) (b : OnlyG G n w w') (hG : ∀ i, i < n → u.ownBlock ≠ some (G i)) : YRow w' u L F := by
  rcases h with h | ⟨g, c, rfl, O⟩
  · exact Or.inl h
  · exact Or.inr ⟨g, c, rfl, b.own O (fun i hi e => hG i hi (by rw [e]; rfl))⟩
/-- Both answers in a world: the model's block below q, the program's from q2 on. -/
structure TwoP (w : World) (n : Nat) (F G : Nat → Int) (u v : Value) (q q2 : Nat) (wx : World) : Prop where
  U : YRow wx u n F
  V : YRow wx v n G
  u1 : ∀ g, u.ownBlock = some g → g < q
  v1 : ∀ g, v.ownBlock = some g → q2 ≤ g
  B : Below w.heap.size w wx
  hq : w.heap.size ≤ q
  q12 : q ≤ q2
  hx : q2 ≤ wx.heap.size
variable {w wx w2 : World} {n : Nat} {F G : Nat → Int} {u v : Value} {q q2 : Nat}
theorem TwoP.next (h : TwoP w n F G u v q q2 wx) (b : Below wx.heap.size wx w2) : TwoP w n F G u v q q2 w2 :=
  ⟨h.U.next b, h.V.next b, h.u1, h.v1, h.B.trans (b.mono h.B.size), h.hq, h.q12, Nat.le_trans h.hx b.size⟩
theorem TwoP.only {p : Nat} (h : TwoP w n F G u v q q2 wx) (b : Only p wx w2) (hp : q ≤ p) (hp2 : p < q2) : TwoP w n F G u v q q2 w2 :=
  ⟨h.U.but b (fun e => by have := h.u1 p e; omega), h.V.but b (fun e => by have := h.v1 p e; omega), h.u1, h.v1, h.B.trans (b.below (by have := h.hq; omega) h.B.size), h.hq, h.q12, Nat.le_trans h.hx b.size⟩
theorem TwoP.onlyG {X : Nat → Nat} {m : Nat} (h : TwoP w n F G u v q q2 wx) (b : OnlyG X m wx w2) (hp : ∀ i, i < m → q ≤ X i ∧ X i < q2) : TwoP w n F G u v q q2 w2 :=
  ⟨h.U.onlyG b (fun i hi e => by have := h.u1 _ e; have := hp i hi; omega), h.V.onlyG b (fun i hi e => by have := h.v1 _ e; have := hp i hi; omega), h.u1, h.v1, h.B.trans (b.below h.B.size (fun i hi => by have := h.hq; have := hp i hi; omega)), h.hq, h.q12, Nat.le_trans h.hx b.size⟩
theorem TwoP.mark (h : TwoP w n F G u v q q2 wx) {G2 : Nat → Int} (V2 : YRow w2 v n G2) (b : Below q2 wx w2) : TwoP w n F G2 u v q q2 w2 :=
  ⟨h.U.keep b (fun g hg => Nat.lt_of_lt_of_le (h.u1 g hg) h.q12), V2, h.u1, h.v1, h.B.trans (b.mono (by have := h.hq; have := h.q12; omega)), h.hq, h.q12, Nat.le_trans h.hx b.size⟩
theorem okP_bound (K T : Nat → ByteArray) (J : Nat → Int) (r : Int) (n nv : Nat) (L : Nat → Nat) (V : Nat → Nat → Int) : (if okP K T J r n nv L V = true then (laySz T J r n).toNat else 0) ≤ 200000 := by
  cases h : okP K T J r n nv L V
  · simp
  · unfold okP at h
    obtain ⟨h1, _⟩ := Bool.and_eq_true_iff.1 h
    obtain ⟨hr, n1, n12, hall⟩ := ok_good h1
    have := (lay_ge K T J r hr n hall n1 n12).2
    simp only [if_true]
    omega
end Go.Proofs.Yteakeaclpcgopaa
