/- The law's memory for UnpackStruct: what was wanted, what was got, their rows of rows of words. -/
import Derived.Test.YteakeaclpcgopaaUnpI
import Derived.Test.YteakeaclpcgopaaUnpM
namespace Go.Proofs.Yteakeaclpcgopaa
open Go.ChangeShapes Go.WideShapes Go.ChangeAt Go.RowKit
open Tk (Own Only)
set_option linter.unusedVariables false
theorem URow.lt {w : World} {u : Value} {L : Nat} {F : Nat → Int} (h : URow w u L F) : ∀ g, u.ownBlock = some g → g < w.heap.size := by
  intro g hg
  rcases h with ⟨_, rfl⟩ | ⟨b, c, rfl, O⟩
  · simp [Value.ownBlock] at hg
  · simp [Value.ownBlock] at hg; subst hg; exact O.hi
theorem SS.lt {w : World} {v : Value} {n : Nat} {S : Nat → Value} {L : Nat → Nat} {F : Nat → Nat → Int} (h : SS w v n S L F) : ∀ g, v.ownBlock = some g → g < w.heap.size := by
  intro g hg
  rcases h.top with ⟨_, rfl⟩ | ⟨b, c, rfl, O⟩
  · simp [Value.ownBlock] at hg
  · simp [Value.ownBlock] at hg; subst hg; exact O.hi
theorem SS.but {w w' : World} {v : Value} {n p : Nat} {S : Nat → Value} {L : Nat → Nat} {F : Nat → Nat → Int} (h : SS w v n S L F) (b : Only p w w') (hv : v.ownBlock ≠ some p) (hS : ∀ i, i < n → (S i).ownBlock ≠ some p) : SS w' v n S L F := by
  refine ⟨?_, fun i hi => (h.row i hi).but b (hS i hi)⟩
  rcases h.top with ⟨e, rfl⟩ | ⟨o, c, rfl, O⟩
  · exact Or.inl ⟨e, rfl⟩
  · exact Or.inr ⟨o, c, rfl, O.but b (fun e => hv (by rw [e]; rfl))⟩
/-- Both answers in a world: the model's blocks below q, the program's from q2 on. -/
structure TwoU (w : World) (n : Nat) (L : Nat → Nat) (F G : Nat → Nat → Int) (u v : Value) (S S' : Nat → Value) (q q2 : Nat) (wx : World) : Prop where
  U : SS wx u n S L F
  V : SS wx v n S' L G
  u1 : ∀ g, u.ownBlock = some g → g < q
  u2 : ∀ i, i < n → ∀ g, (S i).ownBlock = some g → g < q
  v1 : ∀ g, v.ownBlock = some g → q2 ≤ g
  v2 : ∀ i, i < n → ∀ g, (S' i).ownBlock = some g → q2 ≤ g
  B : Below w.heap.size w wx
  hq : w.heap.size ≤ q
  q12 : q ≤ q2
  hx : q2 ≤ wx.heap.size
variable {w wx w2 : World} {n : Nat} {L : Nat → Nat} {F G : Nat → Nat → Int} {u v : Value} {S S' : Nat → Value} {q q2 : Nat}
theorem TwoU.next (h : TwoU w n L F G u v S S' q q2 wx) (b : Below wx.heap.size wx w2) : TwoU w n L F G u v S S' q q2 w2 :=
  ⟨h.U.next b, h.V.next b, h.u1, h.u2, h.v1, h.v2, h.B.trans (b.mono h.B.size), h.hq, h.q12, Nat.le_trans h.hx b.size⟩
theorem TwoU.only {p : Nat} (h : TwoU w n L F G u v S S' q q2 wx) (b : Only p wx w2) (hp : q ≤ p) (hp2 : p < q2) : TwoU w n L F G u v S S' q q2 w2 :=
  ⟨h.U.but b (fun e => by have := h.u1 p e; omega) (fun i hi e => by have := h.u2 i hi p e; omega), h.V.but b (fun e => by have := h.v1 p e; omega) (fun i hi e => by have := h.v2 i hi p e; omega), h.u1, h.u2, h.v1, h.v2, h.B.trans (b.below (by have := h.hq; omega) h.B.size), h.hq, h.q12, Nat.le_trans h.hx b.size⟩
theorem TwoU.mark (h : TwoU w n L F G u v S S' q q2 wx) {G2 : Nat → Nat → Int} (V2 : SS w2 v n S' L G2) (b : Below q2 wx w2) : TwoU w n L F G2 u v S S' q q2 w2 :=
  ⟨h.U.keep b (fun g hg => Nat.lt_of_lt_of_le (h.u1 g hg) h.q12) (fun i hi g hg => Nat.lt_of_lt_of_le (h.u2 i hi g hg) h.q12), V2, h.u1, h.u2, h.v1, h.v2, h.B.trans (b.mono (by have := h.hq; have := h.q12; omega)), h.hq, h.q12, Nat.le_trans h.hx b.size⟩
theorem cumL_max (L : Nat → Nat) (c : Nat) : ∀ n, (∀ i, i < n → L i ≤ c) → cumL L n ≤ 1 + n * c
  | 0, _ => by simp [cumL]
  | n + 1, h => by
    have h1 := cumL_max L c n (fun i hi => h i (by omega))
    have h2 := h n (by omega)
    rw [cumL, Nat.succ_mul]
    omega
theorem okU_bounds (K T : Nat → ByteArray) (J : Nat → Int) (r : Int) (n m : Nat) : (if okU K T J r n m = true then n else 0) ≤ 12 ∧ ∀ i, i < (if okU K T J r n m = true then n else 0) → uwL T J i ≤ 1024 := by
  cases h : okU K T J r n m
  · simp
  · unfold okU at h
    obtain ⟨h1, _⟩ := Bool.and_eq_true_iff.1 h
    obtain ⟨_, _, n12, hall⟩ := ok_good h1
    simp only [if_true]
    refine ⟨n12, fun i hi => ?_⟩
    obtain ⟨_, gk, gj0, gj1, _⟩ := allG_at K T J n hall i hi
    exact (cnt_bounds (kOf (T i)) (J i) gk gj0 gj1).2
end Go.Proofs.Yteakeaclpcgopaa
