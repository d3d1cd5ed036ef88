/-
  No cell of these rows narrows 'for every input' (looked for: loops, veiled, ifaces, maps, wideKeys, modest, calm, conditions, laid).
  DERIVED. THE GIVEN ROWS OF THIS SEAT. 6 by the template 'for every input the law returns true; each argument reads behind the call as it read before'; 0 by the template 'total and deterministic' (their statements: YtlcfpcapefeajaaTotals.lean).
  GIVEN WITH THE SEED: the statements are not yours to turn. If you find one false, say at which input.
  Laid BY PROGRAM, IN A SANDBOX (cutbox-rows.mjs): the forced cells as the released guide's own fill.sh prints them over the translation 5181e0762b538da4… (all of the seat's roots in one cut). By AI agents, Wed Nov 11 2026. No macro, syntax, notation, axiom, sorry.
-/
import Derived.Test.YtlcfpcapefeajaaChecked
import GoSem.Claim
import GoSem.ClaimJoined
import GoSem.ClaimMapViews
import Derived.JoinedTies
import Derived.KernelRfl
namespace Go.Proofs.Ytlcfpcapefeajaa
/- THE CELL 'sum', in the pinned program and in every row, IS THE sha256 OF THE DUMP (.gsa) THAT YtlcfpcapefeajaaProg.lean LOADS. Nothing in Lean hashes anything: it is a label: what it is worth is what the hold of that sum in a sandbox is worth. -/
noncomputable def Try.pinned : Pinned := { name := "ytlcfpcapefeajaa", sum := "5181e0762b538da4c22336914c8dc523669b945315e5e02e36735c4edb6ea24b", checked := Try.checked }
namespace Rows
def none {H : Type} : Left H := { results := [], args := [] }

/-- 'laws.FnExactGoodMask': WHATEVER THE INPUT: true; the input reads as it did. -/
def fnExactGoodMaskSpec : ChangeSpec := { name := "fnExactGoodMask", fn := fun _ => fun
  | [d1, d2] => { results := [.lit (.bool true)], args := [d1, d2] }
  | _ => none }
def fnExactGoodMaskRow : OpenClaim := { program := "ytlcfpcapefeajaa", sum := "5181e0762b538da4c22336914c8dc523669b945315e5e02e36735c4edb6ea24b", func := "loop.example/g00053/laws.FnExactGoodMask", spec := "fnExactGoodMask", apart := false }
def FnExactGoodMaskSaid : Prop := fnExactGoodMaskRow.holds Try.pinned (OpenSpec.ofChange fnExactGoodMaskSpec)

/-- ITS FALSE NEIGHBOUR: 'it returns false'. Refute it at one input. -/
def fnExactGoodMaskWrong : ChangeSpec := { name := "fnExactGoodMask", fn := fun _ => fun
  | [d1, d2] => { results := [.lit (.bool false)], args := [d1, d2] }
  | _ => none }
def FnExactGoodMaskWrongFalsely : Prop := fnExactGoodMaskRow.holds Try.pinned (OpenSpec.ofChange fnExactGoodMaskWrong)

/-- 'laws.FnExactBallotOf': WHATEVER THE INPUT: true; the input reads as it did. -/
def fnExactBallotOfSpec : ChangeSpec := { name := "fnExactBallotOf", fn := fun _ => fun
  | [d] => { results := [.lit (.bool true)], args := [d] }
  | _ => none }
def fnExactBallotOfRow : OpenClaim := { program := "ytlcfpcapefeajaa", sum := "5181e0762b538da4c22336914c8dc523669b945315e5e02e36735c4edb6ea24b", func := "loop.example/g00053/laws.FnExactBallotOf", spec := "fnExactBallotOf", apart := false }
def FnExactBallotOfSaid : Prop := fnExactBallotOfRow.holds Try.pinned (OpenSpec.ofChange fnExactBallotOfSpec)

/-- ITS FALSE NEIGHBOUR: 'it returns false'. Refute it at one input. -/
def fnExactBallotOfWrong : ChangeSpec := { name := "fnExactBallotOf", fn := fun _ => fun
  | [d] => { results := [.lit (.bool false)], args := [d] }
  | _ => none }
def FnExactBallotOfWrongFalsely : Prop := fnExactBallotOfRow.holds Try.pinned (OpenSpec.ofChange fnExactBallotOfWrong)

/-- 'laws.FnExactShuffleLanes': WHATEVER THE INPUT: true; the input reads as it did. -/
def fnExactShuffleLanesSpec : ChangeSpec := { name := "fnExactShuffleLanes", fn := fun _ => fun
  | [d1, d2, d3] => { results := [.lit (.bool true)], args := [d1, d2, d3] }
  | _ => none }
def fnExactShuffleLanesRow : OpenClaim := { program := "ytlcfpcapefeajaa", sum := "5181e0762b538da4c22336914c8dc523669b945315e5e02e36735c4edb6ea24b", func := "loop.example/g00053/laws.FnExactShuffleLanes", spec := "fnExactShuffleLanes", apart := false }
def FnExactShuffleLanesSaid : Prop := fnExactShuffleLanesRow.holds Try.pinned (OpenSpec.ofChange fnExactShuffleLanesSpec)

/-- ITS FALSE NEIGHBOUR: 'it returns false'. Refute it at one input. -/
def fnExactShuffleLanesWrong : ChangeSpec := { name := "fnExactShuffleLanes", fn := fun _ => fun
  | [d1, d2, d3] => { results := [.lit (.bool false)], args := [d1, d2, d3] }
  | _ => none }
def FnExactShuffleLanesWrongFalsely : Prop := fnExactShuffleLanesRow.holds Try.pinned (OpenSpec.ofChange fnExactShuffleLanesWrong)

/-- 'laws.FnExactSumWholes': WHATEVER THE INPUT: true; the input reads as it did. -/
def fnExactSumWholesSpec : ChangeSpec := { name := "fnExactSumWholes", fn := fun _ => fun
  | [d1, d2] => { results := [.lit (.bool true)], args := [d1, d2] }
  | _ => none }
def fnExactSumWholesRow : OpenClaim := { program := "ytlcfpcapefeajaa", sum := "5181e0762b538da4c22336914c8dc523669b945315e5e02e36735c4edb6ea24b", func := "loop.example/g00053/laws.FnExactSumWholes", spec := "fnExactSumWholes", apart := false }
def FnExactSumWholesSaid : Prop := fnExactSumWholesRow.holds Try.pinned (OpenSpec.ofChange fnExactSumWholesSpec)

/-- ITS FALSE NEIGHBOUR: 'it returns false'. Refute it at one input. -/
def fnExactSumWholesWrong : ChangeSpec := { name := "fnExactSumWholes", fn := fun _ => fun
  | [d1, d2] => { results := [.lit (.bool false)], args := [d1, d2] }
  | _ => none }
def FnExactSumWholesWrongFalsely : Prop := fnExactSumWholesRow.holds Try.pinned (OpenSpec.ofChange fnExactSumWholesWrong)

/-- 'laws.FnExactPrefixLanes': WHATEVER THE INPUT: true; the input reads as it did. -/
def fnExactPrefixLanesSpec : ChangeSpec := { name := "fnExactPrefixLanes", fn := fun _ => fun
  | [d1, d2] => { results := [.lit (.bool true)], args := [d1, d2] }
  | _ => none }
def fnExactPrefixLanesRow : OpenClaim := { program := "ytlcfpcapefeajaa", sum := "5181e0762b538da4c22336914c8dc523669b945315e5e02e36735c4edb6ea24b", func := "loop.example/g00053/laws.FnExactPrefixLanes", spec := "fnExactPrefixLanes", apart := false }
def FnExactPrefixLanesSaid : Prop := fnExactPrefixLanesRow.holds Try.pinned (OpenSpec.ofChange fnExactPrefixLanesSpec)

/-- ITS FALSE NEIGHBOUR: 'it returns false'. Refute it at one input. -/
def fnExactPrefixLanesWrong : ChangeSpec := { name := "fnExactPrefixLanes", fn := fun _ => fun
  | [d1, d2] => { results := [.lit (.bool false)], args := [d1, d2] }
  | _ => none }
def FnExactPrefixLanesWrongFalsely : Prop := fnExactPrefixLanesRow.holds Try.pinned (OpenSpec.ofChange fnExactPrefixLanesWrong)

/-- 'laws.FnExactReduceLanes': WHATEVER THE INPUT: true; the input reads as it did. -/
def fnExactReduceLanesSpec : ChangeSpec := { name := "fnExactReduceLanes", fn := fun _ => fun
  | [d1, d2, d3] => { results := [.lit (.bool true)], args := [d1, d2, d3] }
  | _ => none }
def fnExactReduceLanesRow : OpenClaim := { program := "ytlcfpcapefeajaa", sum := "5181e0762b538da4c22336914c8dc523669b945315e5e02e36735c4edb6ea24b", func := "loop.example/g00053/laws.FnExactReduceLanes", spec := "fnExactReduceLanes", apart := false }
def FnExactReduceLanesSaid : Prop := fnExactReduceLanesRow.holds Try.pinned (OpenSpec.ofChange fnExactReduceLanesSpec)

/-- ITS FALSE NEIGHBOUR: 'it returns false'. Refute it at one input. -/
def fnExactReduceLanesWrong : ChangeSpec := { name := "fnExactReduceLanes", fn := fun _ => fun
  | [d1, d2, d3] => { results := [.lit (.bool false)], args := [d1, d2, d3] }
  | _ => none }
def FnExactReduceLanesWrongFalsely : Prop := fnExactReduceLanesRow.holds Try.pinned (OpenSpec.ofChange fnExactReduceLanesWrong)

/- THE SECOND FORM. 'bulk': how many values and letters a reading holds, each counted each time it is reached (what is shared counts as often as it is met; a slice's spare places count too). A statement '..UptoSaid' is the law's where the arguments, and the package variables that the reading takes, are together of bulk at most 1048576: NARROWER than '..Said'. Prove '..Said' where nothing that the law and all that it calls make is longer than what came in: it says more and counts as full. Else prove '..UptoSaid'. A law counts once. -/
mutual
def uptoBulk {H : Type} : DataW H → Nat
  | .lit (.string bytes) => bytes.length + 1
  | .lit _ => 1
  | .nil => 1
  | .ptr d => uptoBulk d + 1
  | .slice elems spare => uptoBulkAll elems + uptoBulkAll spare + 1
  | .agg parts => uptoBulkAll parts + 1
  | .iface _ d => uptoBulk d + 1
  | .map entries => uptoBulkEntries entries + 1
  | .held _ => 1
def uptoBulkAll {H : Type} : List (DataW H) → Nat
  | [] => 0
  | d :: r => uptoBulk d + uptoBulkAll r
def uptoBulkEntries {H : Type} : List (Lit × DataW H) → Nat
  | [] => 0
  | x :: r => uptoBulkEntry x + uptoBulkEntries r
def uptoBulkEntry {H : Type} : Lit × DataW H → Nat
  | (.string bytes, d) => bytes.length + uptoBulk d + 1
  | (_, d) => uptoBulk d + 1
 end
def uptoSmall : (H : Type) → List (DataW H) → Bool := fun _ ds => decide (uptoBulkAll ds ≤ 1048576)
def OpenSpec.upto (s : _root_.Go.ChangeSpec) : _root_.Go.OpenSpec := { _root_.Go.OpenSpec.ofChange s with cond := some uptoSmall }

/-- 'laws.FnExactGoodMask', WHERE WHAT IT READS IS OF BULK AT MOST 1048576: true; the input reads as it did. -/
def fnExactGoodMaskUptoRow : OpenClaim := { program := "ytlcfpcapefeajaa", sum := "5181e0762b538da4c22336914c8dc523669b945315e5e02e36735c4edb6ea24b", func := "loop.example/g00053/laws.FnExactGoodMask", spec := "fnExactGoodMask", apart := false, narrowed := true }
def FnExactGoodMaskUptoSaid : Prop := fnExactGoodMaskUptoRow.holds Try.pinned (OpenSpec.upto fnExactGoodMaskSpec)

/-- 'laws.FnExactBallotOf', WHERE WHAT IT READS IS OF BULK AT MOST 1048576: true; the input reads as it did. -/
def fnExactBallotOfUptoRow : OpenClaim := { program := "ytlcfpcapefeajaa", sum := "5181e0762b538da4c22336914c8dc523669b945315e5e02e36735c4edb6ea24b", func := "loop.example/g00053/laws.FnExactBallotOf", spec := "fnExactBallotOf", apart := false, narrowed := true }
def FnExactBallotOfUptoSaid : Prop := fnExactBallotOfUptoRow.holds Try.pinned (OpenSpec.upto fnExactBallotOfSpec)

/-- 'laws.FnExactShuffleLanes', WHERE WHAT IT READS IS OF BULK AT MOST 1048576: true; the input reads as it did. -/
def fnExactShuffleLanesUptoRow : OpenClaim := { program := "ytlcfpcapefeajaa", sum := "5181e0762b538da4c22336914c8dc523669b945315e5e02e36735c4edb6ea24b", func := "loop.example/g00053/laws.FnExactShuffleLanes", spec := "fnExactShuffleLanes", apart := false, narrowed := true }
def FnExactShuffleLanesUptoSaid : Prop := fnExactShuffleLanesUptoRow.holds Try.pinned (OpenSpec.upto fnExactShuffleLanesSpec)

/-- 'laws.FnExactSumWholes', WHERE WHAT IT READS IS OF BULK AT MOST 1048576: true; the input reads as it did. -/
def fnExactSumWholesUptoRow : OpenClaim := { program := "ytlcfpcapefeajaa", sum := "5181e0762b538da4c22336914c8dc523669b945315e5e02e36735c4edb6ea24b", func := "loop.example/g00053/laws.FnExactSumWholes", spec := "fnExactSumWholes", apart := false, narrowed := true }
def FnExactSumWholesUptoSaid : Prop := fnExactSumWholesUptoRow.holds Try.pinned (OpenSpec.upto fnExactSumWholesSpec)

/-- 'laws.FnExactPrefixLanes', WHERE WHAT IT READS IS OF BULK AT MOST 1048576: true; the input reads as it did. -/
def fnExactPrefixLanesUptoRow : OpenClaim := { program := "ytlcfpcapefeajaa", sum := "5181e0762b538da4c22336914c8dc523669b945315e5e02e36735c4edb6ea24b", func := "loop.example/g00053/laws.FnExactPrefixLanes", spec := "fnExactPrefixLanes", apart := false, narrowed := true }
def FnExactPrefixLanesUptoSaid : Prop := fnExactPrefixLanesUptoRow.holds Try.pinned (OpenSpec.upto fnExactPrefixLanesSpec)

/-- 'laws.FnExactReduceLanes', WHERE WHAT IT READS IS OF BULK AT MOST 1048576: true; the input reads as it did. -/
def fnExactReduceLanesUptoRow : OpenClaim := { program := "ytlcfpcapefeajaa", sum := "5181e0762b538da4c22336914c8dc523669b945315e5e02e36735c4edb6ea24b", func := "loop.example/g00053/laws.FnExactReduceLanes", spec := "fnExactReduceLanes", apart := false, narrowed := true }
def FnExactReduceLanesUptoSaid : Prop := fnExactReduceLanesUptoRow.holds Try.pinned (OpenSpec.upto fnExactReduceLanesSpec)

end Rows
end Go.Proofs.Ytlcfpcapefeajaa
