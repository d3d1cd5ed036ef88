/-
  No cell of these rows narrows 'for every input' (looked for: loops, veiled, ifaces, maps, wideKeys, modest, calm, conditions, laid).
  DERIVED. THE GIVEN ROWS OF THIS SEAT. 5 by the template 'for every input the law returns true; each argument reads behind the call as it read before'; 0 by the template 'total and deterministic' (their statements: YtnbpncjbfnhkjaaTotals.lean).
  GIVEN WITH THE SEED: the statements are not yours to turn. If you find one false, say at which input.
  Laid BY PROGRAM, IN A SANDBOX (cutbox-rows.mjs): the forced cells as the released guide's own fill.sh prints them over the translation 982077d482ef48d6… (all of the seat's roots in one cut). By AI agents, Wed Nov 11 2026. No macro, syntax, notation, axiom, sorry.
-/
import Derived.Test.YtnbpncjbfnhkjaaChecked
import GoSem.Claim
import GoSem.ClaimJoined
import GoSem.ClaimMapViews
import Derived.JoinedTies
import Derived.KernelRfl
namespace Go.Proofs.Ytnbpncjbfnhkjaa
/- THE CELL 'sum', in the pinned program and in every row, IS THE sha256 OF THE DUMP (.gsa) THAT YtnbpncjbfnhkjaaProg.lean LOADS. Nothing in Lean hashes anything: it is a label: what it is worth is what the hold of that sum in a sandbox is worth. -/
noncomputable def Try.pinned : Pinned := { name := "ytnbpncjbfnhkjaa", sum := "982077d482ef48d6bd0c46bff1ff0c77e2ffbac4e983fd593e9c469b8a244f28", checked := Try.checked }
namespace Rows
def none {H : Type} : Left H := { results := [], args := [] }

/-- 'laws.FnTurns': WHATEVER THE INPUT: true; the input reads as it did. -/
def fnTurnsSpec : ChangeSpec := { name := "fnTurns", fn := fun _ => fun
  | [d] => { results := [.lit (.bool true)], args := [d] }
  | _ => none }
def fnTurnsRow : OpenClaim := { program := "ytnbpncjbfnhkjaa", sum := "982077d482ef48d6bd0c46bff1ff0c77e2ffbac4e983fd593e9c469b8a244f28", func := "loop.example/g00053/laws.FnTurns", spec := "fnTurns", unfollowed := true, recurses := true, apart := false }
def FnTurnsSaid : Prop := fnTurnsRow.holds Try.pinned (OpenSpec.ofChange fnTurnsSpec)

/-- ITS FALSE NEIGHBOUR: 'it returns false'. Refute it at one input. -/
def fnTurnsWrong : ChangeSpec := { name := "fnTurns", fn := fun _ => fun
  | [d] => { results := [.lit (.bool false)], args := [d] }
  | _ => none }
def FnTurnsWrongFalsely : Prop := fnTurnsRow.holds Try.pinned (OpenSpec.ofChange fnTurnsWrong)

/-- 'laws.FnExactGoodCommand': WHATEVER THE INPUT: true; the input reads as it did. -/
def fnExactGoodCommandSpec : ChangeSpec := { name := "fnExactGoodCommand", fn := fun _ => fun
  | [d] => { results := [.lit (.bool true)], args := [d] }
  | _ => none }
def fnExactGoodCommandRow : OpenClaim := { program := "ytnbpncjbfnhkjaa", sum := "982077d482ef48d6bd0c46bff1ff0c77e2ffbac4e983fd593e9c469b8a244f28", func := "loop.example/g00053/laws.FnExactGoodCommand", spec := "fnExactGoodCommand", apart := false }
def FnExactGoodCommandSaid : Prop := fnExactGoodCommandRow.holds Try.pinned (OpenSpec.ofChange fnExactGoodCommandSpec)

/-- ITS FALSE NEIGHBOUR: 'it returns false'. Refute it at one input. -/
def fnExactGoodCommandWrong : ChangeSpec := { name := "fnExactGoodCommand", fn := fun _ => fun
  | [d] => { results := [.lit (.bool false)], args := [d] }
  | _ => none }
def FnExactGoodCommandWrongFalsely : Prop := fnExactGoodCommandRow.holds Try.pinned (OpenSpec.ofChange fnExactGoodCommandWrong)

/-- 'laws.FnExactCheckList': WHATEVER THE INPUT: true; the input reads as it did. -/
def fnExactCheckListSpec : ChangeSpec := { name := "fnExactCheckList", fn := fun _ => fun
  | [d] => { results := [.lit (.bool true)], args := [d] }
  | _ => none }
def fnExactCheckListRow : OpenClaim := { program := "ytnbpncjbfnhkjaa", sum := "982077d482ef48d6bd0c46bff1ff0c77e2ffbac4e983fd593e9c469b8a244f28", func := "loop.example/g00053/laws.FnExactCheckList", spec := "fnExactCheckList", apart := false }
def FnExactCheckListSaid : Prop := fnExactCheckListRow.holds Try.pinned (OpenSpec.ofChange fnExactCheckListSpec)

/-- ITS FALSE NEIGHBOUR: 'it returns false'. Refute it at one input. -/
def fnExactCheckListWrong : ChangeSpec := { name := "fnExactCheckList", fn := fun _ => fun
  | [d] => { results := [.lit (.bool false)], args := [d] }
  | _ => none }
def FnExactCheckListWrongFalsely : Prop := fnExactCheckListRow.holds Try.pinned (OpenSpec.ofChange fnExactCheckListWrong)

/-- 'laws.FnExactAheadOf': WHATEVER THE INPUT: true; the input reads as it did. -/
def fnExactAheadOfSpec : ChangeSpec := { name := "fnExactAheadOf", fn := fun _ => fun
  | [d1, d2, d3] => { results := [.lit (.bool true)], args := [d1, d2, d3] }
  | _ => none }
def fnExactAheadOfRow : OpenClaim := { program := "ytnbpncjbfnhkjaa", sum := "982077d482ef48d6bd0c46bff1ff0c77e2ffbac4e983fd593e9c469b8a244f28", func := "loop.example/g00053/laws.FnExactAheadOf", spec := "fnExactAheadOf", unfollowed := true, recurses := true, apart := false }
def FnExactAheadOfSaid : Prop := fnExactAheadOfRow.holds Try.pinned (OpenSpec.ofChange fnExactAheadOfSpec)

/-- ITS FALSE NEIGHBOUR: 'it returns false'. Refute it at one input. -/
def fnExactAheadOfWrong : ChangeSpec := { name := "fnExactAheadOf", fn := fun _ => fun
  | [d1, d2, d3] => { results := [.lit (.bool false)], args := [d1, d2, d3] }
  | _ => none }
def FnExactAheadOfWrongFalsely : Prop := fnExactAheadOfRow.holds Try.pinned (OpenSpec.ofChange fnExactAheadOfWrong)

/-- 'laws.FnExactLeastTurns': WHATEVER THE INPUT: true; the input reads as it did. -/
def fnExactLeastTurnsSpec : ChangeSpec := { name := "fnExactLeastTurns", fn := fun _ => fun
  | [d] => { results := [.lit (.bool true)], args := [d] }
  | _ => none }
def fnExactLeastTurnsRow : OpenClaim := { program := "ytnbpncjbfnhkjaa", sum := "982077d482ef48d6bd0c46bff1ff0c77e2ffbac4e983fd593e9c469b8a244f28", func := "loop.example/g00053/laws.FnExactLeastTurns", spec := "fnExactLeastTurns", unfollowed := true, recurses := true, apart := false }
def FnExactLeastTurnsSaid : Prop := fnExactLeastTurnsRow.holds Try.pinned (OpenSpec.ofChange fnExactLeastTurnsSpec)

/-- ITS FALSE NEIGHBOUR: 'it returns false'. Refute it at one input. -/
def fnExactLeastTurnsWrong : ChangeSpec := { name := "fnExactLeastTurns", fn := fun _ => fun
  | [d] => { results := [.lit (.bool false)], args := [d] }
  | _ => none }
def FnExactLeastTurnsWrongFalsely : Prop := fnExactLeastTurnsRow.holds Try.pinned (OpenSpec.ofChange fnExactLeastTurnsWrong)

/- THE SECOND FORM. 'bulk': how many values and letters a reading holds, each counted each time it is reached (what is shared counts as often as it is met; a slice's spare places count too). A statement '..UptoSaid' is the law's where the arguments, and the package variables that the reading takes, are together of bulk at most 1048576: NARROWER than '..Said'. Prove '..Said' where nothing that the law and all that it calls make is longer than what came in: it says more and counts as full. Else prove '..UptoSaid'. A law counts once. -/
mutual
def uptoBulk {H : Type} : DataW H → Nat
  | .lit (.string bytes) => bytes.length + 1
  | .lit _ => 1
  | .nil => 1
  | .ptr d => uptoBulk d + 1
  | .slice elems spare => uptoBulkAll elems + uptoBulkAll spare + 1
  | .agg parts => uptoBulkAll parts + 1
  | .iface _ d => uptoBulk d + 1
  | .map entries => uptoBulkEntries entries + 1
  | .held _ => 1
def uptoBulkAll {H : Type} : List (DataW H) → Nat
  | [] => 0
  | d :: r => uptoBulk d + uptoBulkAll r
def uptoBulkEntries {H : Type} : List (Lit × DataW H) → Nat
  | [] => 0
  | x :: r => uptoBulkEntry x + uptoBulkEntries r
def uptoBulkEntry {H : Type} : Lit × DataW H → Nat
  | (.string bytes, d) => bytes.length + uptoBulk d + 1
  | (_, d) => uptoBulk d + 1
 end
def uptoSmall : (H : Type) → List (DataW H) → Bool := fun _ ds => decide (uptoBulkAll ds ≤ 1048576)
def OpenSpec.upto (s : _root_.Go.ChangeSpec) : _root_.Go.OpenSpec := { _root_.Go.OpenSpec.ofChange s with cond := some uptoSmall }

/-- 'laws.FnTurns', WHERE WHAT IT READS IS OF BULK AT MOST 1048576: true; the input reads as it did. -/
def fnTurnsUptoRow : OpenClaim := { program := "ytnbpncjbfnhkjaa", sum := "982077d482ef48d6bd0c46bff1ff0c77e2ffbac4e983fd593e9c469b8a244f28", func := "loop.example/g00053/laws.FnTurns", spec := "fnTurns", unfollowed := true, recurses := true, apart := false, narrowed := true }
def FnTurnsUptoSaid : Prop := fnTurnsUptoRow.holds Try.pinned (OpenSpec.upto fnTurnsSpec)

/-- 'laws.FnExactGoodCommand', WHERE WHAT IT READS IS OF BULK AT MOST 1048576: true; the input reads as it did. -/
def fnExactGoodCommandUptoRow : OpenClaim := { program := "ytnbpncjbfnhkjaa", sum := "982077d482ef48d6bd0c46bff1ff0c77e2ffbac4e983fd593e9c469b8a244f28", func := "loop.example/g00053/laws.FnExactGoodCommand", spec := "fnExactGoodCommand", apart := false, narrowed := true }
def FnExactGoodCommandUptoSaid : Prop := fnExactGoodCommandUptoRow.holds Try.pinned (OpenSpec.upto fnExactGoodCommandSpec)

/-- 'laws.FnExactCheckList', WHERE WHAT IT READS IS OF BULK AT MOST 1048576: true; the input reads as it did. -/
def fnExactCheckListUptoRow : OpenClaim := { program := "ytnbpncjbfnhkjaa", sum := "982077d482ef48d6bd0c46bff1ff0c77e2ffbac4e983fd593e9c469b8a244f28", func := "loop.example/g00053/laws.FnExactCheckList", spec := "fnExactCheckList", apart := false, narrowed := true }
def FnExactCheckListUptoSaid : Prop := fnExactCheckListUptoRow.holds Try.pinned (OpenSpec.upto fnExactCheckListSpec)

/-- 'laws.FnExactAheadOf', WHERE WHAT IT READS IS OF BULK AT MOST 1048576: true; the input reads as it did. -/
def fnExactAheadOfUptoRow : OpenClaim := { program := "ytnbpncjbfnhkjaa", sum := "982077d482ef48d6bd0c46bff1ff0c77e2ffbac4e983fd593e9c469b8a244f28", func := "loop.example/g00053/laws.FnExactAheadOf", spec := "fnExactAheadOf", unfollowed := true, recurses := true, apart := false, narrowed := true }
def FnExactAheadOfUptoSaid : Prop := fnExactAheadOfUptoRow.holds Try.pinned (OpenSpec.upto fnExactAheadOfSpec)

/-- 'laws.FnExactLeastTurns', WHERE WHAT IT READS IS OF BULK AT MOST 1048576: true; the input reads as it did. -/
def fnExactLeastTurnsUptoRow : OpenClaim := { program := "ytnbpncjbfnhkjaa", sum := "982077d482ef48d6bd0c46bff1ff0c77e2ffbac4e983fd593e9c469b8a244f28", func := "loop.example/g00053/laws.FnExactLeastTurns", spec := "fnExactLeastTurns", unfollowed := true, recurses := true, apart := false, narrowed := true }
def FnExactLeastTurnsUptoSaid : Prop := fnExactLeastTurnsUptoRow.holds Try.pinned (OpenSpec.upto fnExactLeastTurnsSpec)

end Rows
end Go.Proofs.Ytnbpncjbfnhkjaa
