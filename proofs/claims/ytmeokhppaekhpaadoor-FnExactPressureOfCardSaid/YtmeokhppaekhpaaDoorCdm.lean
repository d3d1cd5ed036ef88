/- Code as a structure. -/
import Derived.Test.YtmeokhppaekhpaaDoorRch
namespace Go.Proofs.YtmeokhppaekhpaaDoor
open Go.ChangeShapes Go.WideShapes Go.ChangeAt Go.RowKit
set_option linter.unusedVariables false
/-- Code: its fields by number, and how many instructions there are. -/
structure Cd where
  O : Nat → Int
  D : Nat → Int
  A : Nat → Int
  B : Nat → Int
  C : Nat → Int
  X : Nat → Int
  n : Nat
end Go.Proofs.YtmeokhppaekhpaaDoor
