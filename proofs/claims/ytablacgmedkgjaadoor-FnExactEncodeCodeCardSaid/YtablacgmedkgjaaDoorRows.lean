/-
  NARROWER THAN 'FOR EVERY INPUT', by the rows' own cells (each row's printed sentence says how): FnExactGoodCode: laid · FnExactRegsOf: laid · FnExactReadsOf: laid · FnExactEncodeCode: laid · FnExactDecodeCode: laid · FnExactJoinsFine: laid.
  DERIVED. THE GIVEN ROWS OF THIS SEAT. 6 by the template 'for every input the law returns true; each argument reads behind the call as it read before'; 0 by the template 'total and deterministic' (their statements: YtablacgmedkgjaaDoorTotals.lean).
  GIVEN WITH THE SEED: the statements are not yours to turn. If you find one false, say at which input.
  Laid BY PROGRAM, IN A SANDBOX (cutbox-rows.mjs): the forced cells as the released guide's own fill.sh prints them over the translation dd26d71e5d01e49d… (all of the seat's roots in one cut). By AI agents, Wed Nov 11 2026. No macro, syntax, notation, axiom, sorry.
-/
import Derived.Test.YtablacgmedkgjaaDoorChecked
import GoSem.Claim
import GoSem.ClaimJoined
import GoSem.ClaimMapViews
import Derived.JoinedTies
import Derived.KernelRfl
namespace Go.Proofs.YtablacgmedkgjaaDoor
/- THE CELL 'sum', in the pinned program and in every row, IS THE sha256 OF THE DUMP (.gsa) THAT YtablacgmedkgjaaDoorProg.lean LOADS. Nothing in Lean hashes anything: it is a label: what it is worth is what the hold of that sum in a sandbox is worth. -/
noncomputable def Tryd.pinned : Pinned := { name := "ytablacgmedkgjaadoor", sum := "dd26d71e5d01e49de4dec1e1793c75fb3154fdd52ead20a8380e0806e9409e12", checked := Tryd.checked }
namespace Rows
def none {H : Type} : Left H := { results := [], args := [] }

/- WHAT THE LISTED PACKAGE-LEVEL VARIABLES READ AS WHEN THE CALL BEGINS. Each datum BY PROGRAM (the guide's laid-datum.mjs) off the statement by which the dump's own 'gosem.cut.vars' lays the variable. In a bare row this is a premise. The card (YtablacgmedkgjaaDoorCards.lean) ties it to the program's text. -/
def laid_loop_example_g00053_impl_callForms {H : Type} : DataW H := .agg [.agg [.lit (.string [97, 98, 115]), .lit (.int .i64 1)], .agg [.lit (.string [102, 108, 111, 97, 116]), .lit (.int .i64 1)], .agg [.lit (.string [102, 109, 97]), .lit (.int .i64 3)], .agg [.lit (.string [103, 114, 111, 117, 112]), .lit (.int .i64 0)], .agg [.lit (.string [105, 110, 116]), .lit (.int .i64 1)], .agg [.lit (.string [108, 111, 99, 97, 108]), .lit (.int .i64 0)], .agg [.lit (.string [109, 97, 120]), .lit (.int .i64 2)], .agg [.lit (.string [109, 105, 110]), .lit (.int .i64 2)], .agg [.lit (.string [115, 105, 122, 101]), .lit (.int .i64 0)], .agg [.lit (.string [115, 113, 114, 116]), .lit (.int .i64 1)], .agg [.lit (.string [116, 105, 100]), .lit (.int .i64 0)]]

/-- 'laws.FnExactGoodCode': WHATEVER THE INPUT: true; the input reads as it did. -/
def fnExactGoodCodeSpec : ChangeSpec := { name := "fnExactGoodCode", vars := ["loop.example/g00053/impl.callForms"], fn := fun _ => fun
  | [d, g1] => { results := [.lit (.bool true)], args := [d], vars := [g1] }
  | _ => none }
def fnExactGoodCodeRow : OpenClaim := { program := "ytablacgmedkgjaadoor", sum := "dd26d71e5d01e49de4dec1e1793c75fb3154fdd52ead20a8380e0806e9409e12", func := "loop.example/g00053/laws.FnExactGoodCode", spec := "fnExactGoodCode", unfollowed := true, recurses := true, named := ["loop.example/g00053/impl.callForms"], apart := false, laid := [("loop.example/g00053/impl.callForms", laid_loop_example_g00053_impl_callForms)] }
def FnExactGoodCodeSaid : Prop := fnExactGoodCodeRow.holds Tryd.pinned (OpenSpec.ofChange fnExactGoodCodeSpec)

/-- ITS FALSE NEIGHBOUR: 'it returns false'. Refute it at one input. -/
def fnExactGoodCodeWrong : ChangeSpec := { name := "fnExactGoodCode", vars := ["loop.example/g00053/impl.callForms"], fn := fun _ => fun
  | [d, g1] => { results := [.lit (.bool false)], args := [d], vars := [g1] }
  | _ => none }
def FnExactGoodCodeWrongFalsely : Prop := fnExactGoodCodeRow.holds Tryd.pinned (OpenSpec.ofChange fnExactGoodCodeWrong)

/-- 'laws.FnExactRegsOf': WHATEVER THE INPUT: true; the input reads as it did. -/
def fnExactRegsOfSpec : ChangeSpec := { name := "fnExactRegsOf", vars := ["loop.example/g00053/impl.callForms"], fn := fun _ => fun
  | [d, g1] => { results := [.lit (.bool true)], args := [d], vars := [g1] }
  | _ => none }
def fnExactRegsOfRow : OpenClaim := { program := "ytablacgmedkgjaadoor", sum := "dd26d71e5d01e49de4dec1e1793c75fb3154fdd52ead20a8380e0806e9409e12", func := "loop.example/g00053/laws.FnExactRegsOf", spec := "fnExactRegsOf", unfollowed := true, recurses := true, named := ["loop.example/g00053/impl.callForms"], apart := false, laid := [("loop.example/g00053/impl.callForms", laid_loop_example_g00053_impl_callForms)] }
def FnExactRegsOfSaid : Prop := fnExactRegsOfRow.holds Tryd.pinned (OpenSpec.ofChange fnExactRegsOfSpec)

/-- ITS FALSE NEIGHBOUR: 'it returns false'. Refute it at one input. -/
def fnExactRegsOfWrong : ChangeSpec := { name := "fnExactRegsOf", vars := ["loop.example/g00053/impl.callForms"], fn := fun _ => fun
  | [d, g1] => { results := [.lit (.bool false)], args := [d], vars := [g1] }
  | _ => none }
def FnExactRegsOfWrongFalsely : Prop := fnExactRegsOfRow.holds Tryd.pinned (OpenSpec.ofChange fnExactRegsOfWrong)

/-- 'laws.FnExactReadsOf': WHATEVER THE INPUT: true; the input reads as it did. -/
def fnExactReadsOfSpec : ChangeSpec := { name := "fnExactReadsOf", vars := ["loop.example/g00053/impl.callForms"], fn := fun _ => fun
  | [d, g1] => { results := [.lit (.bool true)], args := [d], vars := [g1] }
  | _ => none }
def fnExactReadsOfRow : OpenClaim := { program := "ytablacgmedkgjaadoor", sum := "dd26d71e5d01e49de4dec1e1793c75fb3154fdd52ead20a8380e0806e9409e12", func := "loop.example/g00053/laws.FnExactReadsOf", spec := "fnExactReadsOf", unfollowed := true, recurses := true, named := ["loop.example/g00053/impl.callForms"], apart := false, laid := [("loop.example/g00053/impl.callForms", laid_loop_example_g00053_impl_callForms)] }
def FnExactReadsOfSaid : Prop := fnExactReadsOfRow.holds Tryd.pinned (OpenSpec.ofChange fnExactReadsOfSpec)

/-- ITS FALSE NEIGHBOUR: 'it returns false'. Refute it at one input. -/
def fnExactReadsOfWrong : ChangeSpec := { name := "fnExactReadsOf", vars := ["loop.example/g00053/impl.callForms"], fn := fun _ => fun
  | [d, g1] => { results := [.lit (.bool false)], args := [d], vars := [g1] }
  | _ => none }
def FnExactReadsOfWrongFalsely : Prop := fnExactReadsOfRow.holds Tryd.pinned (OpenSpec.ofChange fnExactReadsOfWrong)

/-- 'laws.FnExactEncodeCode': WHATEVER THE INPUT: true; the input reads as it did. -/
def fnExactEncodeCodeSpec : ChangeSpec := { name := "fnExactEncodeCode", vars := ["loop.example/g00053/impl.callForms"], fn := fun _ => fun
  | [d, g1] => { results := [.lit (.bool true)], args := [d], vars := [g1] }
  | _ => none }
def fnExactEncodeCodeRow : OpenClaim := { program := "ytablacgmedkgjaadoor", sum := "dd26d71e5d01e49de4dec1e1793c75fb3154fdd52ead20a8380e0806e9409e12", func := "loop.example/g00053/laws.FnExactEncodeCode", spec := "fnExactEncodeCode", unfollowed := true, recurses := true, named := ["loop.example/g00053/impl.callForms"], apart := false, laid := [("loop.example/g00053/impl.callForms", laid_loop_example_g00053_impl_callForms)] }
def FnExactEncodeCodeSaid : Prop := fnExactEncodeCodeRow.holds Tryd.pinned (OpenSpec.ofChange fnExactEncodeCodeSpec)

/-- ITS FALSE NEIGHBOUR: 'it returns false'. Refute it at one input. -/
def fnExactEncodeCodeWrong : ChangeSpec := { name := "fnExactEncodeCode", vars := ["loop.example/g00053/impl.callForms"], fn := fun _ => fun
  | [d, g1] => { results := [.lit (.bool false)], args := [d], vars := [g1] }
  | _ => none }
def FnExactEncodeCodeWrongFalsely : Prop := fnExactEncodeCodeRow.holds Tryd.pinned (OpenSpec.ofChange fnExactEncodeCodeWrong)

/-- 'laws.FnExactDecodeCode': WHATEVER THE INPUT: true; the input reads as it did. -/
def fnExactDecodeCodeSpec : ChangeSpec := { name := "fnExactDecodeCode", vars := ["loop.example/g00053/impl.callForms"], fn := fun _ => fun
  | [d, g1] => { results := [.lit (.bool true)], args := [d], vars := [g1] }
  | _ => none }
def fnExactDecodeCodeRow : OpenClaim := { program := "ytablacgmedkgjaadoor", sum := "dd26d71e5d01e49de4dec1e1793c75fb3154fdd52ead20a8380e0806e9409e12", func := "loop.example/g00053/laws.FnExactDecodeCode", spec := "fnExactDecodeCode", unfollowed := true, recurses := true, named := ["loop.example/g00053/impl.callForms"], apart := false, laid := [("loop.example/g00053/impl.callForms", laid_loop_example_g00053_impl_callForms)] }
def FnExactDecodeCodeSaid : Prop := fnExactDecodeCodeRow.holds Tryd.pinned (OpenSpec.ofChange fnExactDecodeCodeSpec)

/-- ITS FALSE NEIGHBOUR: 'it returns false'. Refute it at one input. -/
def fnExactDecodeCodeWrong : ChangeSpec := { name := "fnExactDecodeCode", vars := ["loop.example/g00053/impl.callForms"], fn := fun _ => fun
  | [d, g1] => { results := [.lit (.bool false)], args := [d], vars := [g1] }
  | _ => none }
def FnExactDecodeCodeWrongFalsely : Prop := fnExactDecodeCodeRow.holds Tryd.pinned (OpenSpec.ofChange fnExactDecodeCodeWrong)

/-- 'laws.FnExactJoinsFine': WHATEVER THE INPUT: true; the input reads as it did. -/
def fnExactJoinsFineSpec : ChangeSpec := { name := "fnExactJoinsFine", vars := ["loop.example/g00053/impl.callForms"], fn := fun _ => fun
  | [d, g1] => { results := [.lit (.bool true)], args := [d], vars := [g1] }
  | _ => none }
def fnExactJoinsFineRow : OpenClaim := { program := "ytablacgmedkgjaadoor", sum := "dd26d71e5d01e49de4dec1e1793c75fb3154fdd52ead20a8380e0806e9409e12", func := "loop.example/g00053/laws.FnExactJoinsFine", spec := "fnExactJoinsFine", unfollowed := true, recurses := true, named := ["loop.example/g00053/impl.callForms"], apart := false, laid := [("loop.example/g00053/impl.callForms", laid_loop_example_g00053_impl_callForms)] }
def FnExactJoinsFineSaid : Prop := fnExactJoinsFineRow.holds Tryd.pinned (OpenSpec.ofChange fnExactJoinsFineSpec)

/-- ITS FALSE NEIGHBOUR: 'it returns false'. Refute it at one input. -/
def fnExactJoinsFineWrong : ChangeSpec := { name := "fnExactJoinsFine", vars := ["loop.example/g00053/impl.callForms"], fn := fun _ => fun
  | [d, g1] => { results := [.lit (.bool false)], args := [d], vars := [g1] }
  | _ => none }
def FnExactJoinsFineWrongFalsely : Prop := fnExactJoinsFineRow.holds Tryd.pinned (OpenSpec.ofChange fnExactJoinsFineWrong)

/- THE SECOND FORM. 'bulk': how many values and letters a reading holds, each counted each time it is reached (what is shared counts as often as it is met; a slice's spare places count too). A statement '..UptoSaid' is the law's where the arguments, and the package variables that the reading takes, are together of bulk at most 1048576: NARROWER than '..Said'. Prove '..Said' where nothing that the law and all that it calls make is longer than what came in: it says more and counts as full. Else prove '..UptoSaid'. A law counts once. -/
mutual
def uptoBulk {H : Type} : DataW H → Nat
  | .lit (.string bytes) => bytes.length + 1
  | .lit _ => 1
  | .nil => 1
  | .ptr d => uptoBulk d + 1
  | .slice elems spare => uptoBulkAll elems + uptoBulkAll spare + 1
  | .agg parts => uptoBulkAll parts + 1
  | .iface _ d => uptoBulk d + 1
  | .map entries => uptoBulkEntries entries + 1
  | .held _ => 1
def uptoBulkAll {H : Type} : List (DataW H) → Nat
  | [] => 0
  | d :: r => uptoBulk d + uptoBulkAll r
def uptoBulkEntries {H : Type} : List (Lit × DataW H) → Nat
  | [] => 0
  | x :: r => uptoBulkEntry x + uptoBulkEntries r
def uptoBulkEntry {H : Type} : Lit × DataW H → Nat
  | (.string bytes, d) => bytes.length + uptoBulk d + 1
  | (_, d) => uptoBulk d + 1
 end
def uptoSmall : (H : Type) → List (DataW H) → Bool := fun _ ds => decide (uptoBulkAll ds ≤ 1048576)
def OpenSpec.upto (s : _root_.Go.ChangeSpec) : _root_.Go.OpenSpec := { _root_.Go.OpenSpec.ofChange s with cond := some uptoSmall }

/-- 'laws.FnExactGoodCode', WHERE WHAT IT READS IS OF BULK AT MOST 1048576: true; the input reads as it did. -/
def fnExactGoodCodeUptoRow : OpenClaim := { program := "ytablacgmedkgjaadoor", sum := "dd26d71e5d01e49de4dec1e1793c75fb3154fdd52ead20a8380e0806e9409e12", func := "loop.example/g00053/laws.FnExactGoodCode", spec := "fnExactGoodCode", unfollowed := true, recurses := true, named := ["loop.example/g00053/impl.callForms"], apart := false, laid := [("loop.example/g00053/impl.callForms", laid_loop_example_g00053_impl_callForms)], narrowed := true }
def FnExactGoodCodeUptoSaid : Prop := fnExactGoodCodeUptoRow.holds Tryd.pinned (OpenSpec.upto fnExactGoodCodeSpec)

/-- 'laws.FnExactRegsOf', WHERE WHAT IT READS IS OF BULK AT MOST 1048576: true; the input reads as it did. -/
def fnExactRegsOfUptoRow : OpenClaim := { program := "ytablacgmedkgjaadoor", sum := "dd26d71e5d01e49de4dec1e1793c75fb3154fdd52ead20a8380e0806e9409e12", func := "loop.example/g00053/laws.FnExactRegsOf", spec := "fnExactRegsOf", unfollowed := true, recurses := true, named := ["loop.example/g00053/impl.callForms"], apart := false, laid := [("loop.example/g00053/impl.callForms", laid_loop_example_g00053_impl_callForms)], narrowed := true }
def FnExactRegsOfUptoSaid : Prop := fnExactRegsOfUptoRow.holds Tryd.pinned (OpenSpec.upto fnExactRegsOfSpec)

/-- 'laws.FnExactReadsOf', WHERE WHAT IT READS IS OF BULK AT MOST 1048576: true; the input reads as it did. -/
def fnExactReadsOfUptoRow : OpenClaim := { program := "ytablacgmedkgjaadoor", sum := "dd26d71e5d01e49de4dec1e1793c75fb3154fdd52ead20a8380e0806e9409e12", func := "loop.example/g00053/laws.FnExactReadsOf", spec := "fnExactReadsOf", unfollowed := true, recurses := true, named := ["loop.example/g00053/impl.callForms"], apart := false, laid := [("loop.example/g00053/impl.callForms", laid_loop_example_g00053_impl_callForms)], narrowed := true }
def FnExactReadsOfUptoSaid : Prop := fnExactReadsOfUptoRow.holds Tryd.pinned (OpenSpec.upto fnExactReadsOfSpec)

/-- 'laws.FnExactEncodeCode', WHERE WHAT IT READS IS OF BULK AT MOST 1048576: true; the input reads as it did. -/
def fnExactEncodeCodeUptoRow : OpenClaim := { program := "ytablacgmedkgjaadoor", sum := "dd26d71e5d01e49de4dec1e1793c75fb3154fdd52ead20a8380e0806e9409e12", func := "loop.example/g00053/laws.FnExactEncodeCode", spec := "fnExactEncodeCode", unfollowed := true, recurses := true, named := ["loop.example/g00053/impl.callForms"], apart := false, laid := [("loop.example/g00053/impl.callForms", laid_loop_example_g00053_impl_callForms)], narrowed := true }
def FnExactEncodeCodeUptoSaid : Prop := fnExactEncodeCodeUptoRow.holds Tryd.pinned (OpenSpec.upto fnExactEncodeCodeSpec)

/-- 'laws.FnExactDecodeCode', WHERE WHAT IT READS IS OF BULK AT MOST 1048576: true; the input reads as it did. -/
def fnExactDecodeCodeUptoRow : OpenClaim := { program := "ytablacgmedkgjaadoor", sum := "dd26d71e5d01e49de4dec1e1793c75fb3154fdd52ead20a8380e0806e9409e12", func := "loop.example/g00053/laws.FnExactDecodeCode", spec := "fnExactDecodeCode", unfollowed := true, recurses := true, named := ["loop.example/g00053/impl.callForms"], apart := false, laid := [("loop.example/g00053/impl.callForms", laid_loop_example_g00053_impl_callForms)], narrowed := true }
def FnExactDecodeCodeUptoSaid : Prop := fnExactDecodeCodeUptoRow.holds Tryd.pinned (OpenSpec.upto fnExactDecodeCodeSpec)

/-- 'laws.FnExactJoinsFine', WHERE WHAT IT READS IS OF BULK AT MOST 1048576: true; the input reads as it did. -/
def fnExactJoinsFineUptoRow : OpenClaim := { program := "ytablacgmedkgjaadoor", sum := "dd26d71e5d01e49de4dec1e1793c75fb3154fdd52ead20a8380e0806e9409e12", func := "loop.example/g00053/laws.FnExactJoinsFine", spec := "fnExactJoinsFine", unfollowed := true, recurses := true, named := ["loop.example/g00053/impl.callForms"], apart := false, laid := [("loop.example/g00053/impl.callForms", laid_loop_example_g00053_impl_callForms)], narrowed := true }
def FnExactJoinsFineUptoSaid : Prop := fnExactJoinsFineUptoRow.holds Tryd.pinned (OpenSpec.upto fnExactJoinsFineSpec)

end Rows
end Go.Proofs.YtablacgmedkgjaaDoor
