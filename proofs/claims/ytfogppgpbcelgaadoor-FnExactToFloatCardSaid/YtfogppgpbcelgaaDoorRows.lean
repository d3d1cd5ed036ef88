/-
  NARROWER THAN 'FOR EVERY INPUT', by the rows' own cells (each row's printed sentence says how): FnExactToFloat: laid · FnExactToWhole: laid.
  DERIVED. THE GIVEN ROWS OF THIS SEAT. 2 by the template 'for every input the law returns true; each argument reads behind the call as it read before'; 0 by the template 'total and deterministic' (their statements: YtfogppgpbcelgaaDoorTotals.lean).
  GIVEN WITH THE SEED: the statements are not yours to turn. If you find one false, say at which input.
  Laid BY PROGRAM, IN A SANDBOX (cutbox-rows.mjs): the forced cells as the released guide's own fill.sh prints them over the translation f559c43fa60a9c0c… (all of the seat's roots in one cut). By AI agents, Wed Nov 11 2026. No macro, syntax, notation, axiom, sorry.
-/
import Derived.Test.YtfogppgpbcelgaaDoorChecked
import GoSem.Claim
import GoSem.ClaimJoined
import GoSem.ClaimMapViews
import Derived.JoinedTies
import Derived.KernelRfl
namespace Go.Proofs.YtfogppgpbcelgaaDoor
/- THE CELL 'sum', in the pinned program and in every row, IS THE sha256 OF THE DUMP (.gsa) THAT YtfogppgpbcelgaaDoorProg.lean LOADS. Nothing in Lean hashes anything: it is a label: what it is worth is what the hold of that sum in a sandbox is worth. -/
noncomputable def Tryd.pinned : Pinned := { name := "ytfogppgpbcelgaadoor", sum := "f559c43fa60a9c0c35faa3ad91f89511093f779f106dc91972700f510541eaf0", checked := Tryd.checked }
namespace Rows
def none {H : Type} : Left H := { results := [], args := [] }

/- WHAT THE LISTED PACKAGE-LEVEL VARIABLES READ AS WHEN THE CALL BEGINS. Each datum BY PROGRAM (the guide's laid-datum.mjs) off the statement by which the dump's own 'gosem.cut.vars' lays the variable. In a bare row this is a premise. The card (YtfogppgpbcelgaaDoorCards.lean) ties it to the program's text. -/
def laid_loop_example_g00053_impl_floatForms {H : Type} : DataW H := .agg [.agg [.lit (.int .i64 23), .lit (.int .i64 (-149)), .lit (.int .u32 2147483648), .lit (.int .u32 2139095039)], .agg [.lit (.int .i64 10), .lit (.int .i64 (-24)), .lit (.int .u32 32768), .lit (.int .u32 31743)]]

/-- 'laws.FnExactToFloat': WHATEVER THE INPUT: true; the input reads as it did. -/
def fnExactToFloatSpec : ChangeSpec := { name := "fnExactToFloat", vars := ["loop.example/g00053/impl.floatForms"], fn := fun _ => fun
  | [d, g1] => { results := [.lit (.bool true)], args := [d], vars := [g1] }
  | _ => none }
def fnExactToFloatRow : OpenClaim := { program := "ytfogppgpbcelgaadoor", sum := "f559c43fa60a9c0c35faa3ad91f89511093f779f106dc91972700f510541eaf0", func := "loop.example/g00053/laws.FnExactToFloat", spec := "fnExactToFloat", named := ["loop.example/g00053/impl.floatForms"], apart := false, laid := [("loop.example/g00053/impl.floatForms", laid_loop_example_g00053_impl_floatForms)] }
def FnExactToFloatSaid : Prop := fnExactToFloatRow.holds Tryd.pinned (OpenSpec.ofChange fnExactToFloatSpec)

/-- ITS FALSE NEIGHBOUR: 'it returns false'. Refute it at one input. -/
def fnExactToFloatWrong : ChangeSpec := { name := "fnExactToFloat", vars := ["loop.example/g00053/impl.floatForms"], fn := fun _ => fun
  | [d, g1] => { results := [.lit (.bool false)], args := [d], vars := [g1] }
  | _ => none }
def FnExactToFloatWrongFalsely : Prop := fnExactToFloatRow.holds Tryd.pinned (OpenSpec.ofChange fnExactToFloatWrong)

/-- 'laws.FnExactToWhole': WHATEVER THE INPUT: true; the input reads as it did. -/
def fnExactToWholeSpec : ChangeSpec := { name := "fnExactToWhole", vars := ["loop.example/g00053/impl.floatForms"], fn := fun _ => fun
  | [d, g1] => { results := [.lit (.bool true)], args := [d], vars := [g1] }
  | _ => none }
def fnExactToWholeRow : OpenClaim := { program := "ytfogppgpbcelgaadoor", sum := "f559c43fa60a9c0c35faa3ad91f89511093f779f106dc91972700f510541eaf0", func := "loop.example/g00053/laws.FnExactToWhole", spec := "fnExactToWhole", named := ["loop.example/g00053/impl.floatForms"], apart := false, laid := [("loop.example/g00053/impl.floatForms", laid_loop_example_g00053_impl_floatForms)] }
def FnExactToWholeSaid : Prop := fnExactToWholeRow.holds Tryd.pinned (OpenSpec.ofChange fnExactToWholeSpec)

/-- ITS FALSE NEIGHBOUR: 'it returns false'. Refute it at one input. -/
def fnExactToWholeWrong : ChangeSpec := { name := "fnExactToWhole", vars := ["loop.example/g00053/impl.floatForms"], fn := fun _ => fun
  | [d, g1] => { results := [.lit (.bool false)], args := [d], vars := [g1] }
  | _ => none }
def FnExactToWholeWrongFalsely : Prop := fnExactToWholeRow.holds Tryd.pinned (OpenSpec.ofChange fnExactToWholeWrong)

/- THE SECOND FORM. 'bulk': how many values and letters a reading holds, each counted each time it is reached (what is shared counts as often as it is met; a slice's spare places count too). A statement '..UptoSaid' is the law's where the arguments, and the package variables that the reading takes, are together of bulk at most 1048576: NARROWER than '..Said'. Prove '..Said' where nothing that the law and all that it calls make is longer than what came in: it says more and counts as full. Else prove '..UptoSaid'. A law counts once. -/
mutual
def uptoBulk {H : Type} : DataW H → Nat
  | .lit (.string bytes) => bytes.length + 1
  | .lit _ => 1
  | .nil => 1
  | .ptr d => uptoBulk d + 1
  | .slice elems spare => uptoBulkAll elems + uptoBulkAll spare + 1
  | .agg parts => uptoBulkAll parts + 1
  | .iface _ d => uptoBulk d + 1
  | .map entries => uptoBulkEntries entries + 1
  | .held _ => 1
def uptoBulkAll {H : Type} : List (DataW H) → Nat
  | [] => 0
  | d :: r => uptoBulk d + uptoBulkAll r
def uptoBulkEntries {H : Type} : List (Lit × DataW H) → Nat
  | [] => 0
  | x :: r => uptoBulkEntry x + uptoBulkEntries r
def uptoBulkEntry {H : Type} : Lit × DataW H → Nat
  | (.string bytes, d) => bytes.length + uptoBulk d + 1
  | (_, d) => uptoBulk d + 1
 end
def uptoSmall : (H : Type) → List (DataW H) → Bool := fun _ ds => decide (uptoBulkAll ds ≤ 1048576)
def OpenSpec.upto (s : _root_.Go.ChangeSpec) : _root_.Go.OpenSpec := { _root_.Go.OpenSpec.ofChange s with cond := some uptoSmall }

/-- 'laws.FnExactToFloat', WHERE WHAT IT READS IS OF BULK AT MOST 1048576: true; the input reads as it did. -/
def fnExactToFloatUptoRow : OpenClaim := { program := "ytfogppgpbcelgaadoor", sum := "f559c43fa60a9c0c35faa3ad91f89511093f779f106dc91972700f510541eaf0", func := "loop.example/g00053/laws.FnExactToFloat", spec := "fnExactToFloat", named := ["loop.example/g00053/impl.floatForms"], apart := false, laid := [("loop.example/g00053/impl.floatForms", laid_loop_example_g00053_impl_floatForms)], narrowed := true }
def FnExactToFloatUptoSaid : Prop := fnExactToFloatUptoRow.holds Tryd.pinned (OpenSpec.upto fnExactToFloatSpec)

/-- 'laws.FnExactToWhole', WHERE WHAT IT READS IS OF BULK AT MOST 1048576: true; the input reads as it did. -/
def fnExactToWholeUptoRow : OpenClaim := { program := "ytfogppgpbcelgaadoor", sum := "f559c43fa60a9c0c35faa3ad91f89511093f779f106dc91972700f510541eaf0", func := "loop.example/g00053/laws.FnExactToWhole", spec := "fnExactToWhole", named := ["loop.example/g00053/impl.floatForms"], apart := false, laid := [("loop.example/g00053/impl.floatForms", laid_loop_example_g00053_impl_floatForms)], narrowed := true }
def FnExactToWholeUptoSaid : Prop := fnExactToWholeUptoRow.holds Tryd.pinned (OpenSpec.upto fnExactToWholeSpec)

end Rows
end Go.Proofs.YtfogppgpbcelgaaDoor
