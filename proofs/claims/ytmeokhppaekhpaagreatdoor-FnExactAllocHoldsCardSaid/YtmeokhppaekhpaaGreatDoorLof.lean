/- The model's PressureOf, of good code. LiveOf and PressureOf of both sides, of any code. -/
import Derived.Test.YtmeokhppaekhpaaGreatDoorLwo
import Derived.Test.YtmeokhppaekhpaaGreatDoorLiv
namespace Go.Proofs.YtmeokhppaekhpaaGreatDoor
open Go.ChangeShapes Go.WideShapes Go.ChangeAt Go.RowKit
set_option linter.unusedVariables false
/-- The greatest of the first k. -/
def mxF (f : Nat → Nat) : Nat → Nat
  | 0 => 0
  | k + 1 => if mxF f k < f k then f k else mxF f k
end Go.Proofs.YtmeokhppaekhpaaGreatDoor
namespace Go.Proofs.YtmeokhppaekhpaaGreatDoor
open Go.ChangeShapes Go.WideShapes Go.ChangeAt Go.RowKit
set_option linter.unusedVariables false
/-- The registers that live behind each instruction. -/
noncomputable def lvL (c : Cd) : Nat → List Int := fun k => lsF (lbB c k) c.R
def Cd.good (c : Cd) : Bool := goodC c.O c.D c.A c.B c.C c.X c.n
/-- For how many instructions there is an answer. -/
def Cd.gn (c : Cd) : Nat := if c.good then c.n else 0
/-- Rows cut out of one block, or none at all. -/
def ColsE (B : Nat) (w : World) (u : Value) (K : Nat) (L : Nat → List Int) : Prop := (K = 0 ∧ u = .slice none 0 0) ∨ Cols B w u K L
theorem ColsE.arows {B : Nat} {w : World} {u : Value} {K : Nat} {L : Nat → List Int} (h : ColsE B w u K L) : ARows w u K L := by
  rcases h with ⟨rfl, rfl⟩ | h
  · exact ⟨none, 0, rfl, fun i hi => by omega⟩
  · exact h.arows
theorem ColsE.next {B : Nat} {w w' : World} {u : Value} {K : Nat} {L : Nat → List Int} (h : ColsE B w u K L) (b : Below w.heap.size w w') : ColsE B w' u K L := h.imp id (fun h => h.next b)
theorem ColsE.form {B : Nat} {w : World} {u : Value} {K : Nat} {L : Nat → List Int} (h : ColsE B w u K L) : ∃ ad, u = .slice ad K K := by
  rcases h with ⟨rfl, rfl⟩ | ⟨gc, g, rfl, _⟩
  · exact ⟨_, rfl⟩
  · exact ⟨_, rfl⟩
/-- The greatest number of registers that live behind one instruction. -/
noncomputable def prV (c : Cd) : Nat := mxF (fun k => (lvL c k).length) c.gn
end Go.Proofs.YtmeokhppaekhpaaGreatDoor
