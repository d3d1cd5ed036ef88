/- Contracts of Calls, the program's and the model's: each call lays a new row of the same texts; condition: the table of calls holds its names and numbers. -/
import Derived.Test.YtcgapochcahknaaDoorArity
import Derived.Test.YtcgapochcahknaaDoorMem
import Derived.Laws.AppendOwn
import Derived.Deep.AppendLies
namespace Go.Proofs.YtcgapochcahknaaDoor
open Go.ChangeShapes Go.WideShapes Go.ChangeAt Go.RowKit
set_option linter.unusedVariables false
def callsL : List ByteArray := [⟨#[97, 98, 115]⟩, ⟨#[102, 108, 111, 97, 116]⟩, ⟨#[102, 109, 97]⟩, ⟨#[103, 114, 111, 117, 112]⟩, ⟨#[105, 110, 116]⟩, ⟨#[108, 111, 99, 97, 108]⟩, ⟨#[109, 97, 120]⟩, ⟨#[109, 105, 110]⟩, ⟨#[115, 105, 122, 101]⟩, ⟨#[115, 113, 114, 116]⟩, ⟨#[116, 105, 100]⟩]
def textAt (l : List ByteArray) (i : Nat) : ByteArray := l.getD i ⟨#[]⟩
theorem own_lit (w : World) (l : List ByteArray) (t : TypeId) : Own (w.alloc (.cells (l.map Value.string).toArray t)) w.heap.size l.length (fun i => .string (textAt l i)) := by
  refine ⟨fun i hi => ?_, fun i => ?_, by rw [World.size_alloc]; omega⟩
  · rw [World.cell?_alloc_mark]
    simp [textAt, List.getD, hi]
  · rw [World.frozen?_alloc_mark]
    simp
set_option maxRecDepth 100000 in
theorem calls55 (w : World) : Calls Tryd.prog 61 #[] w fun r w' => r = .returned (.slice (some ⟨w.heap.size, 0, none⟩) 11 11) ∧ Own w' w.heap.size 11 (fun i => .string (textAt callsL i)) ∧ Below w.heap.size w w' := by
  go_enter Tryd.func61, Tryd.ntmps61
  go_wp2
  go_ret
  exact ⟨rfl, own_lit w callsL 9, (Below.refl _ _).alloc (Nat.le_refl _) _⟩
theorem info9 : (Tryd.prog.info? 9).map (fun i => (i.zero, i.size, i.bytes)) = some (some (.string ⟨#[]⟩), 1, 16) := by kernel_rfl
theorem take_at (k : Nat) (hk : k < 11) (t : ByteArray) (h : textAt callsL k = t) : (callsL.take (k + 1)).map Value.string = (callsL.take k).map Value.string ++ [.string t] := by
  subst h
  rcases (by omega : k = 0 ∨ k = 1 ∨ k = 2 ∨ k = 3 ∨ k = 4 ∨ k = 5 ∨ k = 6 ∨ k = 7 ∨ k = 8 ∨ k = 9 ∨ k = 10) with rfl | rfl | rfl | rfl | rfl | rfl | rfl | rfl | rfl | rfl | rfl <;> rfl
set_option maxRecDepth 100000 in
set_option maxHeartbeats 4000000 in
theorem calls77 (w : World) (G : Forms w) : Calls Tryd.prog 114 #[] w fun r w' => (∃ g cap, r = .returned (.slice (some ⟨g, 0, none⟩) 11 cap) ∧ w.heap.size ≤ g ∧ Own w' g 11 (fun i => .string (textAt callsL i))) ∧ Below w.heap.size w w' := by
  have RG : Hid (w.rangeAt 0 0 cellsT.toList) := range_of G
  obtain ⟨i0', hi, hz0, hz1, hz2⟩ := info_parts info9
  go_enter Tryd.func114, Tryd.ntmps114
  go_wp2_with (refine wpList_load_mid rfl 121 _ rfl 0 0 rfl cellsT.toList _ (Hid.out RG) Tryd.underlying121 rfl (by kernel_rfl) ?_)
  go_loopw [1, 5] (fun v i wr => ∃ k : Nat, k ≤ 11 ∧ i = .int .i64 k ∧ wr.ownsRow w.heap.size 9 1 v k ((callsL.take k).map Value.string) ∧ Below w.heap.size w wr) (fun _ i _ => 11 - (intOf i).toNat)
  case atStart => exact ⟨0, Nat.zero_le _, rfl, World.ownsRow_nil _ _ _ _, Below.refl _ _⟩
  case round =>
    obtain ⟨k, hk, rfl, hown, hB⟩ := hrel
    by_cases hkn : k = 11
    · subst hkn
      obtain ⟨g, cap, rfl, hg, _⟩ := World.ownsRow.form hown (by decide)
      rw [show ((11 : Nat) : Int) = 11 from rfl]
      go_wp2
      go_ret
      exact ⟨⟨g, cap, rfl, hg, own_owned hown _ (fun i hi => by rcases (by omega : i = 0 ∨ i = 1 ∨ i = 2 ∨ i = 3 ∨ i = 4 ∨ i = 5 ∨ i = 6 ∨ i = 7 ∨ i = 8 ∨ i = 9 ∨ i = 10) with rfl | rfl | rfl | rfl | rfl | rfl | rfl | rfl | rfl | rfl | rfl <;> rfl)⟩, hB⟩
    · obtain ⟨t, ht⟩ : ∃ t, textAt callsL k = t := ⟨_, rfl⟩
      have HT : Hid ((callsL.take (k + 1)).map Value.string = (callsL.take k).map Value.string ++ [.string t]) := take_at k (by omega) t ht
      obtain ⟨z, hz⟩ : ∃ z : Int, nr k = z := ⟨_, rfl⟩
      have ik : ∀ w, (Instr.index 121 (.agg cellsT) (.int .i64 (k : Int))).run Tryd.prog w = .ok (.agg #[.string t, .int .i64 z]) w := by
        subst ht hz
        rcases (by omega : k = 0 ∨ k = 1 ∨ k = 2 ∨ k = 3 ∨ k = 4 ∨ k = 5 ∨ k = 6 ∨ k = 7 ∨ k = 8 ∨ k = 9 ∨ k = 10) with rfl | rfl | rfl | rfl | rfl | rfl | rfl | rfl | rfl | rfl | rfl
        · exact ix0
        · exact ix1
        · exact ix2
        · exact ix3
        · exact ix4
        · exact ix5
        · exact ix6
        · exact ix7
        · exact ix8
        · exact ix9
        · exact ix10
      have k1 : (k : Int) < 11 := by omega
      clear ht hz
      go_wp2_with (at_builtin; refine wpList_append_own _ rfl _ _ 81 rfl (w.heap.size) 9 i0' (.string ⟨#[]⟩) 1 16 Tryd.underlying81 hi hz0 hz1 hz2 rfl (by decide) _ _ _ rfl ((hown.alloc _).alloc _) ⟨wr.heap.size + 1, 0, none⟩ 1 1 [.string t] rfl rfl ?c1 ?c2 ?c3 ?c4 ?c5 ?_)
      case c1 =>
        intro j u hj
        match j, hj with
        | 0, hj => simp at hj; subst hj; simp [Addr.add]
      case c2 => intro u hu; simp at hu; subst hu; rfl
      case c3 => unfold maxLen; omega
      case c4 => omega
      case c5 => have := hB.size; simp at this ⊢; omega
      · intro v' w1 hown' hgrow _
        have R1 : w1.ownsRow w.heap.size 9 1 v' (k + 1) ((callsL.take (k + 1)).map Value.string) := by rw [HT.out, List.map_take]; exact hown'
        have R2 : Below w.heap.size w w1 := ((hB.alloc hB.size _).alloc (by have := hB.size; simp at this ⊢; omega) _).grown hgrow (by have := hB.size; simp at this ⊢; omega) (fun q hq => by have := (hown.lt q hq).1; omega)
        clear hown' hgrow hown hB ik
        go_wp2
        go_roundw
        case rel => exact ⟨k + 1, by omega, by go_num, R1, R2⟩
        case measure => simp [intOf]; omega
end Go.Proofs.YtcgapochcahknaaDoor
