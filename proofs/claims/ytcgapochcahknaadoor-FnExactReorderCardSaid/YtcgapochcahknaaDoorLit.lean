/- Contracts of Signs, the program's and the model's: each call lays a new row of the same thirty texts. -/
import Derived.Test.YtcgapochcahknaaDoorCallsT
namespace Go.Proofs.YtcgapochcahknaaDoor
open Go.ChangeShapes Go.WideShapes Go.ChangeAt Go.RowKit
set_option linter.unusedVariables false
def signsL : List ByteArray := [⟨#[33]⟩, ⟨#[33, 61]⟩, ⟨#[37]⟩, ⟨#[38]⟩, ⟨#[38, 38]⟩, ⟨#[40]⟩, ⟨#[41]⟩, ⟨#[42]⟩, ⟨#[43]⟩, ⟨#[44]⟩, ⟨#[45]⟩, ⟨#[46, 46]⟩, ⟨#[47]⟩, ⟨#[58]⟩, ⟨#[59]⟩, ⟨#[60]⟩, ⟨#[60, 60]⟩, ⟨#[60, 61]⟩, ⟨#[61]⟩, ⟨#[61, 61]⟩, ⟨#[62]⟩, ⟨#[62, 61]⟩, ⟨#[62, 62]⟩, ⟨#[91]⟩, ⟨#[93]⟩, ⟨#[94]⟩, ⟨#[123]⟩, ⟨#[124]⟩, ⟨#[124, 124]⟩, ⟨#[125]⟩]
set_option maxRecDepth 100000 in
theorem signs53 (w : World) : Calls Tryd.prog 70 #[] w fun r w' => r = .returned (.slice (some ⟨w.heap.size, 0, none⟩) 30 30) ∧ Own w' w.heap.size 30 (fun i => .string (textAt signsL i)) ∧ Below w.heap.size w w' := by
  go_enter Tryd.func70, Tryd.ntmps70
  go_wp2
  go_ret
  exact ⟨rfl, own_lit w signsL 9, (Below.refl _ _).alloc (Nat.le_refl _) _⟩
set_option maxRecDepth 100000 in
theorem signs74 (w : World) : Calls Tryd.prog 77 #[] w fun r w' => r = .returned (.slice (some ⟨w.heap.size, 0, none⟩) 30 30) ∧ Own w' w.heap.size 30 (fun i => .string (textAt signsL i)) ∧ Below w.heap.size w w' := by
  go_enter Tryd.func77, Tryd.ntmps77
  go_wp2
  go_ret
  exact ⟨rfl, own_lit w signsL 9, (Below.refl _ _).alloc (Nat.le_refl _) _⟩
end Go.Proofs.YtcgapochcahknaaDoor
