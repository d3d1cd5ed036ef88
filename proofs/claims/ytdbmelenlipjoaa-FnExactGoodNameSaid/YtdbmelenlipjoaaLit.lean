/- Contracts of Words and Signs, the program's and the model's: each call lays a new row of the same texts; no conditions. -/
import Derived.Test.YtdbmelenlipjoaaMem
import Derived.Laws.IdiomStrings
namespace Go.Proofs.Ytdbmelenlipjoaa
open Go.ChangeShapes Go.WideShapes Go.ChangeAt Go.RowKit
def wordsL : List ByteArray := [⟨#[98, 97, 114, 114, 105, 101, 114]⟩, ⟨#[98, 111, 111, 108]⟩, ⟨#[98, 117, 102, 102, 101, 114]⟩, ⟨#[101, 108, 115, 101]⟩, ⟨#[102, 97, 108, 115, 101]⟩, ⟨#[102, 108, 111, 97, 116]⟩, ⟨#[102, 111, 114]⟩, ⟨#[105, 102]⟩, ⟨#[105, 110]⟩, ⟨#[105, 110, 116]⟩, ⟨#[107, 101, 114, 110, 101, 108]⟩, ⟨#[108, 101, 116]⟩, ⟨#[116, 114, 117, 101]⟩]
def signsL : List ByteArray := [⟨#[33]⟩, ⟨#[33, 61]⟩, ⟨#[37]⟩, ⟨#[38]⟩, ⟨#[38, 38]⟩, ⟨#[40]⟩, ⟨#[41]⟩, ⟨#[42]⟩, ⟨#[43]⟩, ⟨#[44]⟩, ⟨#[45]⟩, ⟨#[46, 46]⟩, ⟨#[47]⟩, ⟨#[58]⟩, ⟨#[59]⟩, ⟨#[60]⟩, ⟨#[60, 60]⟩, ⟨#[60, 61]⟩, ⟨#[61]⟩, ⟨#[61, 61]⟩, ⟨#[62]⟩, ⟨#[62, 61]⟩, ⟨#[62, 62]⟩, ⟨#[91]⟩, ⟨#[93]⟩, ⟨#[94]⟩, ⟨#[123]⟩, ⟨#[124]⟩, ⟨#[124, 124]⟩, ⟨#[125]⟩]
def textAt (l : List ByteArray) (i : Nat) : ByteArray := l.getD i ⟨#[]⟩
theorem own_lit (w : World) (l : List ByteArray) (t : TypeId) : Own (w.alloc (.cells (l.map Value.string).toArray t)) w.heap.size l.length (fun i => .string (textAt l i)) := by
  refine ⟨fun i hi => ?_, fun i => ?_, by rw [World.size_alloc]; omega⟩
  · rw [World.cell?_alloc_mark]
    simp [textAt, List.getD, hi]
  · rw [World.frozen?_alloc_mark]
    simp
set_option maxRecDepth 100000 in
theorem lit6 (w : World) : Calls Try.prog 6 #[] w fun r w' => r = .returned (.slice (some ⟨w.heap.size, 0, none⟩) 13 13) ∧ Own w' w.heap.size 13 (fun i => .string (textAt wordsL i)) ∧ Below w.heap.size w w' := by
  go_enter Try.func6, Try.ntmps6
  go_wp2
  go_ret
  exact ⟨rfl, own_lit w wordsL 9, (Below.refl _ _).alloc (Nat.le_refl _) _⟩
set_option maxRecDepth 100000 in
theorem lit7 (w : World) : Calls Try.prog 7 #[] w fun r w' => r = .returned (.slice (some ⟨w.heap.size, 0, none⟩) 13 13) ∧ Own w' w.heap.size 13 (fun i => .string (textAt wordsL i)) ∧ Below w.heap.size w w' := by
  go_enter Try.func7, Try.ntmps7
  go_wp2
  go_ret
  exact ⟨rfl, own_lit w wordsL 9, (Below.refl _ _).alloc (Nat.le_refl _) _⟩
set_option maxRecDepth 100000 in
theorem lit11 (w : World) : Calls Try.prog 11 #[] w fun r w' => r = .returned (.slice (some ⟨w.heap.size, 0, none⟩) 30 30) ∧ Own w' w.heap.size 30 (fun i => .string (textAt signsL i)) ∧ Below w.heap.size w w' := by
  go_enter Try.func11, Try.ntmps11
  go_wp2
  go_ret
  exact ⟨rfl, own_lit w signsL 9, (Below.refl _ _).alloc (Nat.le_refl _) _⟩
set_option maxRecDepth 100000 in
theorem lit12 (w : World) : Calls Try.prog 12 #[] w fun r w' => r = .returned (.slice (some ⟨w.heap.size, 0, none⟩) 30 30) ∧ Own w' w.heap.size 30 (fun i => .string (textAt signsL i)) ∧ Below w.heap.size w w' := by
  go_enter Try.func12, Try.ntmps12
  go_wp2
  go_ret
  exact ⟨rfl, own_lit w signsL 9, (Below.refl _ _).alloc (Nat.le_refl _) _⟩
end Go.Proofs.Ytdbmelenlipjoaa
