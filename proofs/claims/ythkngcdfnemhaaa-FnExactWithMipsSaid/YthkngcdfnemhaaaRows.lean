/-
  No cell of these rows narrows 'for every input' (looked for: loops, veiled, ifaces, maps, wideKeys, modest, calm, conditions, laid).
  DERIVED. THE GIVEN ROWS OF THIS SEAT. 8 by the template 'for every input the law returns true; each argument reads behind the call as it read before'; 0 by the template 'total and deterministic' (their statements: YthkngcdfnemhaaaTotals.lean).
  GIVEN WITH THE SEED: the statements are not yours to turn. If you find one false, say at which input.
  Laid BY PROGRAM, IN A SANDBOX (cutbox-rows.mjs): the forced cells as the released guide's own fill.sh prints them over the translation e71feb09ce1afd5b… (all of the seat's roots in one cut). By AI agents, Wed Nov 11 2026. No macro, syntax, notation, axiom, sorry.
-/
import Derived.Test.YthkngcdfnemhaaaChecked
import GoSem.Claim
import GoSem.ClaimJoined
import GoSem.ClaimMapViews
import Derived.JoinedTies
import Derived.KernelRfl
namespace Go.Proofs.Ythkngcdfnemhaaa
/- THE CELL 'sum', in the pinned program and in every row, IS THE sha256 OF THE DUMP (.gsa) THAT YthkngcdfnemhaaaProg.lean LOADS. Nothing in Lean hashes anything: it is a label: what it is worth is what the hold of that sum in a sandbox is worth. -/
noncomputable def Try.pinned : Pinned := { name := "ythkngcdfnemhaaa", sum := "e71feb09ce1afd5b872bd660fe22d31215c1455893804368dc196c05b6cf8715", checked := Try.checked }
namespace Rows
def none {H : Type} : Left H := { results := [], args := [] }

/-- 'laws.FnExactGoodColor': WHATEVER THE INPUT: true; the input reads as it did. -/
def fnExactGoodColorSpec : ChangeSpec := { name := "fnExactGoodColor", fn := fun _ => fun
  | [d] => { results := [.lit (.bool true)], args := [d] }
  | _ => none }
def fnExactGoodColorRow : OpenClaim := { program := "ythkngcdfnemhaaa", sum := "e71feb09ce1afd5b872bd660fe22d31215c1455893804368dc196c05b6cf8715", func := "loop.example/g00053/laws.FnExactGoodColor", spec := "fnExactGoodColor", apart := false }
def FnExactGoodColorSaid : Prop := fnExactGoodColorRow.holds Try.pinned (OpenSpec.ofChange fnExactGoodColorSpec)

/-- ITS FALSE NEIGHBOUR: 'it returns false'. Refute it at one input. -/
def fnExactGoodColorWrong : ChangeSpec := { name := "fnExactGoodColor", fn := fun _ => fun
  | [d] => { results := [.lit (.bool false)], args := [d] }
  | _ => none }
def FnExactGoodColorWrongFalsely : Prop := fnExactGoodColorRow.holds Try.pinned (OpenSpec.ofChange fnExactGoodColorWrong)

/-- 'laws.FnExactPackColor': WHATEVER THE INPUT: true; the input reads as it did. -/
def fnExactPackColorSpec : ChangeSpec := { name := "fnExactPackColor", fn := fun _ => fun
  | [d1, d2] => { results := [.lit (.bool true)], args := [d1, d2] }
  | _ => none }
def fnExactPackColorRow : OpenClaim := { program := "ythkngcdfnemhaaa", sum := "e71feb09ce1afd5b872bd660fe22d31215c1455893804368dc196c05b6cf8715", func := "loop.example/g00053/laws.FnExactPackColor", spec := "fnExactPackColor", unfollowed := true, recurses := true, apart := false }
def FnExactPackColorSaid : Prop := fnExactPackColorRow.holds Try.pinned (OpenSpec.ofChange fnExactPackColorSpec)

/-- ITS FALSE NEIGHBOUR: 'it returns false'. Refute it at one input. -/
def fnExactPackColorWrong : ChangeSpec := { name := "fnExactPackColor", fn := fun _ => fun
  | [d1, d2] => { results := [.lit (.bool false)], args := [d1, d2] }
  | _ => none }
def FnExactPackColorWrongFalsely : Prop := fnExactPackColorRow.holds Try.pinned (OpenSpec.ofChange fnExactPackColorWrong)

/-- 'laws.FnExactUnpackColor': WHATEVER THE INPUT: true; the input reads as it did. -/
def fnExactUnpackColorSpec : ChangeSpec := { name := "fnExactUnpackColor", fn := fun _ => fun
  | [d1, d2] => { results := [.lit (.bool true)], args := [d1, d2] }
  | _ => none }
def fnExactUnpackColorRow : OpenClaim := { program := "ythkngcdfnemhaaa", sum := "e71feb09ce1afd5b872bd660fe22d31215c1455893804368dc196c05b6cf8715", func := "loop.example/g00053/laws.FnExactUnpackColor", spec := "fnExactUnpackColor", unfollowed := true, recurses := true, apart := false }
def FnExactUnpackColorSaid : Prop := fnExactUnpackColorRow.holds Try.pinned (OpenSpec.ofChange fnExactUnpackColorSpec)

/-- ITS FALSE NEIGHBOUR: 'it returns false'. Refute it at one input. -/
def fnExactUnpackColorWrong : ChangeSpec := { name := "fnExactUnpackColor", fn := fun _ => fun
  | [d1, d2] => { results := [.lit (.bool false)], args := [d1, d2] }
  | _ => none }
def FnExactUnpackColorWrongFalsely : Prop := fnExactUnpackColorRow.holds Try.pinned (OpenSpec.ofChange fnExactUnpackColorWrong)

/-- 'laws.FnExactGoodTexture': WHATEVER THE INPUT: true; the input reads as it did. -/
def fnExactGoodTextureSpec : ChangeSpec := { name := "fnExactGoodTexture", fn := fun _ => fun
  | [d] => { results := [.lit (.bool true)], args := [d] }
  | _ => none }
def fnExactGoodTextureRow : OpenClaim := { program := "ythkngcdfnemhaaa", sum := "e71feb09ce1afd5b872bd660fe22d31215c1455893804368dc196c05b6cf8715", func := "loop.example/g00053/laws.FnExactGoodTexture", spec := "fnExactGoodTexture", unfollowed := true, recurses := true, apart := false }
def FnExactGoodTextureSaid : Prop := fnExactGoodTextureRow.holds Try.pinned (OpenSpec.ofChange fnExactGoodTextureSpec)

/-- ITS FALSE NEIGHBOUR: 'it returns false'. Refute it at one input. -/
def fnExactGoodTextureWrong : ChangeSpec := { name := "fnExactGoodTexture", fn := fun _ => fun
  | [d] => { results := [.lit (.bool false)], args := [d] }
  | _ => none }
def FnExactGoodTextureWrongFalsely : Prop := fnExactGoodTextureRow.holds Try.pinned (OpenSpec.ofChange fnExactGoodTextureWrong)

/-- 'laws.FnExactWithMips': WHATEVER THE INPUT: true; the input reads as it did. -/
def fnExactWithMipsSpec : ChangeSpec := { name := "fnExactWithMips", fn := fun _ => fun
  | [d1, d2, d3, d4] => { results := [.lit (.bool true)], args := [d1, d2, d3, d4] }
  | _ => none }
def fnExactWithMipsRow : OpenClaim := { program := "ythkngcdfnemhaaa", sum := "e71feb09ce1afd5b872bd660fe22d31215c1455893804368dc196c05b6cf8715", func := "loop.example/g00053/laws.FnExactWithMips", spec := "fnExactWithMips", unfollowed := true, recurses := true, apart := false }
def FnExactWithMipsSaid : Prop := fnExactWithMipsRow.holds Try.pinned (OpenSpec.ofChange fnExactWithMipsSpec)

/-- ITS FALSE NEIGHBOUR: 'it returns false'. Refute it at one input. -/
def fnExactWithMipsWrong : ChangeSpec := { name := "fnExactWithMips", fn := fun _ => fun
  | [d1, d2, d3, d4] => { results := [.lit (.bool false)], args := [d1, d2, d3, d4] }
  | _ => none }
def FnExactWithMipsWrongFalsely : Prop := fnExactWithMipsRow.holds Try.pinned (OpenSpec.ofChange fnExactWithMipsWrong)

/-- 'laws.FnExactFetchColor': WHATEVER THE INPUT: true; the input reads as it did. -/
def fnExactFetchColorSpec : ChangeSpec := { name := "fnExactFetchColor", fn := fun _ => fun
  | [d1, d2, d3, d4, d5, d6] => { results := [.lit (.bool true)], args := [d1, d2, d3, d4, d5, d6] }
  | _ => none }
def fnExactFetchColorRow : OpenClaim := { program := "ythkngcdfnemhaaa", sum := "e71feb09ce1afd5b872bd660fe22d31215c1455893804368dc196c05b6cf8715", func := "loop.example/g00053/laws.FnExactFetchColor", spec := "fnExactFetchColor", unfollowed := true, recurses := true, apart := false }
def FnExactFetchColorSaid : Prop := fnExactFetchColorRow.holds Try.pinned (OpenSpec.ofChange fnExactFetchColorSpec)

/-- ITS FALSE NEIGHBOUR: 'it returns false'. Refute it at one input. -/
def fnExactFetchColorWrong : ChangeSpec := { name := "fnExactFetchColor", fn := fun _ => fun
  | [d1, d2, d3, d4, d5, d6] => { results := [.lit (.bool false)], args := [d1, d2, d3, d4, d5, d6] }
  | _ => none }
def FnExactFetchColorWrongFalsely : Prop := fnExactFetchColorRow.holds Try.pinned (OpenSpec.ofChange fnExactFetchColorWrong)

/-- 'laws.FnExactSampleColor': WHATEVER THE INPUT: true; the input reads as it did. -/
def fnExactSampleColorSpec : ChangeSpec := { name := "fnExactSampleColor", fn := fun _ => fun
  | [d1, d2, d3, d4, d5, d6] => { results := [.lit (.bool true)], args := [d1, d2, d3, d4, d5, d6] }
  | _ => none }
def fnExactSampleColorRow : OpenClaim := { program := "ythkngcdfnemhaaa", sum := "e71feb09ce1afd5b872bd660fe22d31215c1455893804368dc196c05b6cf8715", func := "loop.example/g00053/laws.FnExactSampleColor", spec := "fnExactSampleColor", unfollowed := true, recurses := true, apart := false }
def FnExactSampleColorSaid : Prop := fnExactSampleColorRow.holds Try.pinned (OpenSpec.ofChange fnExactSampleColorSpec)

/-- ITS FALSE NEIGHBOUR: 'it returns false'. Refute it at one input. -/
def fnExactSampleColorWrong : ChangeSpec := { name := "fnExactSampleColor", fn := fun _ => fun
  | [d1, d2, d3, d4, d5, d6] => { results := [.lit (.bool false)], args := [d1, d2, d3, d4, d5, d6] }
  | _ => none }
def FnExactSampleColorWrongFalsely : Prop := fnExactSampleColorRow.holds Try.pinned (OpenSpec.ofChange fnExactSampleColorWrong)

/-- 'laws.FnExactSampleBetween': WHATEVER THE INPUT: true; the input reads as it did. -/
def fnExactSampleBetweenSpec : ChangeSpec := { name := "fnExactSampleBetween", fn := fun _ => fun
  | [d1, d2, d3, d4, d5, d6] => { results := [.lit (.bool true)], args := [d1, d2, d3, d4, d5, d6] }
  | _ => none }
def fnExactSampleBetweenRow : OpenClaim := { program := "ythkngcdfnemhaaa", sum := "e71feb09ce1afd5b872bd660fe22d31215c1455893804368dc196c05b6cf8715", func := "loop.example/g00053/laws.FnExactSampleBetween", spec := "fnExactSampleBetween", unfollowed := true, recurses := true, apart := false }
def FnExactSampleBetweenSaid : Prop := fnExactSampleBetweenRow.holds Try.pinned (OpenSpec.ofChange fnExactSampleBetweenSpec)

/-- ITS FALSE NEIGHBOUR: 'it returns false'. Refute it at one input. -/
def fnExactSampleBetweenWrong : ChangeSpec := { name := "fnExactSampleBetween", fn := fun _ => fun
  | [d1, d2, d3, d4, d5, d6] => { results := [.lit (.bool false)], args := [d1, d2, d3, d4, d5, d6] }
  | _ => none }
def FnExactSampleBetweenWrongFalsely : Prop := fnExactSampleBetweenRow.holds Try.pinned (OpenSpec.ofChange fnExactSampleBetweenWrong)

/- THE SECOND FORM. 'bulk': how many values and letters a reading holds, each counted each time it is reached (what is shared counts as often as it is met; a slice's spare places count too). A statement '..UptoSaid' is the law's where the arguments, and the package variables that the reading takes, are together of bulk at most 1048576: NARROWER than '..Said'. Prove '..Said' where nothing that the law and all that it calls make is longer than what came in: it says more and counts as full. Else prove '..UptoSaid'. A law counts once. -/
mutual
def uptoBulk {H : Type} : DataW H → Nat
  | .lit (.string bytes) => bytes.length + 1
  | .lit _ => 1
  | .nil => 1
  | .ptr d => uptoBulk d + 1
  | .slice elems spare => uptoBulkAll elems + uptoBulkAll spare + 1
  | .agg parts => uptoBulkAll parts + 1
  | .iface _ d => uptoBulk d + 1
  | .map entries => uptoBulkEntries entries + 1
  | .held _ => 1
def uptoBulkAll {H : Type} : List (DataW H) → Nat
  | [] => 0
  | d :: r => uptoBulk d + uptoBulkAll r
def uptoBulkEntries {H : Type} : List (Lit × DataW H) → Nat
  | [] => 0
  | x :: r => uptoBulkEntry x + uptoBulkEntries r
def uptoBulkEntry {H : Type} : Lit × DataW H → Nat
  | (.string bytes, d) => bytes.length + uptoBulk d + 1
  | (_, d) => uptoBulk d + 1
 end
def uptoSmall : (H : Type) → List (DataW H) → Bool := fun _ ds => decide (uptoBulkAll ds ≤ 1048576)
def OpenSpec.upto (s : _root_.Go.ChangeSpec) : _root_.Go.OpenSpec := { _root_.Go.OpenSpec.ofChange s with cond := some uptoSmall }

/-- 'laws.FnExactGoodColor', WHERE WHAT IT READS IS OF BULK AT MOST 1048576: true; the input reads as it did. -/
def fnExactGoodColorUptoRow : OpenClaim := { program := "ythkngcdfnemhaaa", sum := "e71feb09ce1afd5b872bd660fe22d31215c1455893804368dc196c05b6cf8715", func := "loop.example/g00053/laws.FnExactGoodColor", spec := "fnExactGoodColor", apart := false, narrowed := true }
def FnExactGoodColorUptoSaid : Prop := fnExactGoodColorUptoRow.holds Try.pinned (OpenSpec.upto fnExactGoodColorSpec)

/-- 'laws.FnExactPackColor', WHERE WHAT IT READS IS OF BULK AT MOST 1048576: true; the input reads as it did. -/
def fnExactPackColorUptoRow : OpenClaim := { program := "ythkngcdfnemhaaa", sum := "e71feb09ce1afd5b872bd660fe22d31215c1455893804368dc196c05b6cf8715", func := "loop.example/g00053/laws.FnExactPackColor", spec := "fnExactPackColor", unfollowed := true, recurses := true, apart := false, narrowed := true }
def FnExactPackColorUptoSaid : Prop := fnExactPackColorUptoRow.holds Try.pinned (OpenSpec.upto fnExactPackColorSpec)

/-- 'laws.FnExactUnpackColor', WHERE WHAT IT READS IS OF BULK AT MOST 1048576: true; the input reads as it did. -/
def fnExactUnpackColorUptoRow : OpenClaim := { program := "ythkngcdfnemhaaa", sum := "e71feb09ce1afd5b872bd660fe22d31215c1455893804368dc196c05b6cf8715", func := "loop.example/g00053/laws.FnExactUnpackColor", spec := "fnExactUnpackColor", unfollowed := true, recurses := true, apart := false, narrowed := true }
def FnExactUnpackColorUptoSaid : Prop := fnExactUnpackColorUptoRow.holds Try.pinned (OpenSpec.upto fnExactUnpackColorSpec)

/-- 'laws.FnExactGoodTexture', WHERE WHAT IT READS IS OF BULK AT MOST 1048576: true; the input reads as it did. -/
def fnExactGoodTextureUptoRow : OpenClaim := { program := "ythkngcdfnemhaaa", sum := "e71feb09ce1afd5b872bd660fe22d31215c1455893804368dc196c05b6cf8715", func := "loop.example/g00053/laws.FnExactGoodTexture", spec := "fnExactGoodTexture", unfollowed := true, recurses := true, apart := false, narrowed := true }
def FnExactGoodTextureUptoSaid : Prop := fnExactGoodTextureUptoRow.holds Try.pinned (OpenSpec.upto fnExactGoodTextureSpec)

/-- 'laws.FnExactWithMips', WHERE WHAT IT READS IS OF BULK AT MOST 1048576: true; the input reads as it did. -/
def fnExactWithMipsUptoRow : OpenClaim := { program := "ythkngcdfnemhaaa", sum := "e71feb09ce1afd5b872bd660fe22d31215c1455893804368dc196c05b6cf8715", func := "loop.example/g00053/laws.FnExactWithMips", spec := "fnExactWithMips", unfollowed := true, recurses := true, apart := false, narrowed := true }
def FnExactWithMipsUptoSaid : Prop := fnExactWithMipsUptoRow.holds Try.pinned (OpenSpec.upto fnExactWithMipsSpec)

/-- 'laws.FnExactFetchColor', WHERE WHAT IT READS IS OF BULK AT MOST 1048576: true; the input reads as it did. -/
def fnExactFetchColorUptoRow : OpenClaim := { program := "ythkngcdfnemhaaa", sum := "e71feb09ce1afd5b872bd660fe22d31215c1455893804368dc196c05b6cf8715", func := "loop.example/g00053/laws.FnExactFetchColor", spec := "fnExactFetchColor", unfollowed := true, recurses := true, apart := false, narrowed := true }
def FnExactFetchColorUptoSaid : Prop := fnExactFetchColorUptoRow.holds Try.pinned (OpenSpec.upto fnExactFetchColorSpec)

/-- 'laws.FnExactSampleColor', WHERE WHAT IT READS IS OF BULK AT MOST 1048576: true; the input reads as it did. -/
def fnExactSampleColorUptoRow : OpenClaim := { program := "ythkngcdfnemhaaa", sum := "e71feb09ce1afd5b872bd660fe22d31215c1455893804368dc196c05b6cf8715", func := "loop.example/g00053/laws.FnExactSampleColor", spec := "fnExactSampleColor", unfollowed := true, recurses := true, apart := false, narrowed := true }
def FnExactSampleColorUptoSaid : Prop := fnExactSampleColorUptoRow.holds Try.pinned (OpenSpec.upto fnExactSampleColorSpec)

/-- 'laws.FnExactSampleBetween', WHERE WHAT IT READS IS OF BULK AT MOST 1048576: true; the input reads as it did. -/
def fnExactSampleBetweenUptoRow : OpenClaim := { program := "ythkngcdfnemhaaa", sum := "e71feb09ce1afd5b872bd660fe22d31215c1455893804368dc196c05b6cf8715", func := "loop.example/g00053/laws.FnExactSampleBetween", spec := "fnExactSampleBetween", unfollowed := true, recurses := true, apart := false, narrowed := true }
def FnExactSampleBetweenUptoSaid : Prop := fnExactSampleBetweenUptoRow.holds Try.pinned (OpenSpec.upto fnExactSampleBetweenSpec)

end Rows
end Go.Proofs.Ythkngcdfnemhaaa
