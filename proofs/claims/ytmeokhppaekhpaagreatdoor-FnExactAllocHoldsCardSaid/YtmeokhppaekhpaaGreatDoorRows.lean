/-
  NARROWER THAN 'FOR EVERY INPUT', by the rows' own cells (each row's printed sentence says how): FnExactAllocOf: laid · FnExactAllocHolds: laid · FnExactApplyAlloc: laid.
  DERIVED. THE GIVEN ROWS OF THIS SEAT. 3 by the template 'for every input the law returns true; each argument reads behind the call as it read before'; 0 by the template 'total and deterministic' (their statements: YtmeokhppaekhpaaGreatDoorTotals.lean).
  GIVEN WITH THE SEED: the statements are not yours to turn. If you find one false, say at which input.
  Laid BY PROGRAM, IN A SANDBOX (cutbox-rows.mjs): the forced cells as the released guide's own fill.sh prints them over the translation ce289eed9194fe24… (all of the seat's roots in one cut). By AI agents, Wed Nov 11 2026. No macro, syntax, notation, axiom, sorry.
-/
import Derived.Test.YtmeokhppaekhpaaGreatDoorChecked
import GoSem.Claim
import GoSem.ClaimJoined
import GoSem.ClaimMapViews
import Derived.JoinedTies
import Derived.KernelRfl
namespace Go.Proofs.YtmeokhppaekhpaaGreatDoor
/- THE CELL 'sum', in the pinned program and in every row, IS THE sha256 OF THE DUMP (.gsa) THAT YtmeokhppaekhpaaGreatDoorProg.lean LOADS. Nothing in Lean hashes anything: it is a label: what it is worth is what the hold of that sum in a sandbox is worth. -/
noncomputable def Tryz.pinned : Pinned := { name := "ytmeokhppaekhpaagreatdoor", sum := "ce289eed9194fe24bca8c1c9a85ea7c326395684ca9eacb3b28fdbb6554ea8ad", checked := Tryz.checked }
namespace Rows
def none {H : Type} : Left H := { results := [], args := [] }

/- WHAT THE LISTED PACKAGE-LEVEL VARIABLES READ AS WHEN THE CALL BEGINS. Each datum BY PROGRAM (the guide's laid-datum.mjs) off the statement by which the dump's own 'gosem.cut.vars' lays the variable. In a bare row this is a premise. The card (YtmeokhppaekhpaaGreatDoorCards.lean) ties it to the program's text. -/
def laid_loop_example_g00053_impl_callForms {H : Type} : DataW H := .agg [.agg [.lit (.string [97, 98, 115]), .lit (.int .i64 1)], .agg [.lit (.string [102, 108, 111, 97, 116]), .lit (.int .i64 1)], .agg [.lit (.string [102, 109, 97]), .lit (.int .i64 3)], .agg [.lit (.string [103, 114, 111, 117, 112]), .lit (.int .i64 0)], .agg [.lit (.string [105, 110, 116]), .lit (.int .i64 1)], .agg [.lit (.string [108, 111, 99, 97, 108]), .lit (.int .i64 0)], .agg [.lit (.string [109, 97, 120]), .lit (.int .i64 2)], .agg [.lit (.string [109, 105, 110]), .lit (.int .i64 2)], .agg [.lit (.string [115, 105, 122, 101]), .lit (.int .i64 0)], .agg [.lit (.string [115, 113, 114, 116]), .lit (.int .i64 1)], .agg [.lit (.string [116, 105, 100]), .lit (.int .i64 0)]]

/-- 'laws.FnExactAllocOf': WHATEVER THE INPUT: true; the input reads as it did. -/
def fnExactAllocOfSpec : ChangeSpec := { name := "fnExactAllocOf", vars := ["loop.example/g00053/impl.callForms"], fn := fun _ => fun
  | [d1, d2, g1] => { results := [.lit (.bool true)], args := [d1, d2], vars := [g1] }
  | _ => none }
def fnExactAllocOfRow : OpenClaim := { program := "ytmeokhppaekhpaagreatdoor", sum := "ce289eed9194fe24bca8c1c9a85ea7c326395684ca9eacb3b28fdbb6554ea8ad", func := "loop.example/g00053/laws.FnExactAllocOf", spec := "fnExactAllocOf", unfollowed := true, recurses := true, named := ["loop.example/g00053/impl.callForms"], apart := false, laid := [("loop.example/g00053/impl.callForms", laid_loop_example_g00053_impl_callForms)] }
def FnExactAllocOfSaid : Prop := fnExactAllocOfRow.holds Tryz.pinned (OpenSpec.ofChange fnExactAllocOfSpec)

/-- ITS FALSE NEIGHBOUR: 'it returns false'. Refute it at one input. -/
def fnExactAllocOfWrong : ChangeSpec := { name := "fnExactAllocOf", vars := ["loop.example/g00053/impl.callForms"], fn := fun _ => fun
  | [d1, d2, g1] => { results := [.lit (.bool false)], args := [d1, d2], vars := [g1] }
  | _ => none }
def FnExactAllocOfWrongFalsely : Prop := fnExactAllocOfRow.holds Tryz.pinned (OpenSpec.ofChange fnExactAllocOfWrong)

/-- 'laws.FnExactAllocHolds': WHATEVER THE INPUT: true; the input reads as it did. -/
def fnExactAllocHoldsSpec : ChangeSpec := { name := "fnExactAllocHolds", vars := ["loop.example/g00053/impl.callForms"], fn := fun _ => fun
  | [d1, d2, d3, g1] => { results := [.lit (.bool true)], args := [d1, d2, d3], vars := [g1] }
  | _ => none }
def fnExactAllocHoldsRow : OpenClaim := { program := "ytmeokhppaekhpaagreatdoor", sum := "ce289eed9194fe24bca8c1c9a85ea7c326395684ca9eacb3b28fdbb6554ea8ad", func := "loop.example/g00053/laws.FnExactAllocHolds", spec := "fnExactAllocHolds", unfollowed := true, recurses := true, named := ["loop.example/g00053/impl.callForms"], apart := false, laid := [("loop.example/g00053/impl.callForms", laid_loop_example_g00053_impl_callForms)] }
def FnExactAllocHoldsSaid : Prop := fnExactAllocHoldsRow.holds Tryz.pinned (OpenSpec.ofChange fnExactAllocHoldsSpec)

/-- ITS FALSE NEIGHBOUR: 'it returns false'. Refute it at one input. -/
def fnExactAllocHoldsWrong : ChangeSpec := { name := "fnExactAllocHolds", vars := ["loop.example/g00053/impl.callForms"], fn := fun _ => fun
  | [d1, d2, d3, g1] => { results := [.lit (.bool false)], args := [d1, d2, d3], vars := [g1] }
  | _ => none }
def FnExactAllocHoldsWrongFalsely : Prop := fnExactAllocHoldsRow.holds Tryz.pinned (OpenSpec.ofChange fnExactAllocHoldsWrong)

/-- 'laws.FnExactApplyAlloc': WHATEVER THE INPUT: true; the input reads as it did. -/
def fnExactApplyAllocSpec : ChangeSpec := { name := "fnExactApplyAlloc", vars := ["loop.example/g00053/impl.callForms"], fn := fun _ => fun
  | [d1, d2, g1] => { results := [.lit (.bool true)], args := [d1, d2], vars := [g1] }
  | _ => none }
def fnExactApplyAllocRow : OpenClaim := { program := "ytmeokhppaekhpaagreatdoor", sum := "ce289eed9194fe24bca8c1c9a85ea7c326395684ca9eacb3b28fdbb6554ea8ad", func := "loop.example/g00053/laws.FnExactApplyAlloc", spec := "fnExactApplyAlloc", unfollowed := true, recurses := true, named := ["loop.example/g00053/impl.callForms"], apart := false, laid := [("loop.example/g00053/impl.callForms", laid_loop_example_g00053_impl_callForms)] }
def FnExactApplyAllocSaid : Prop := fnExactApplyAllocRow.holds Tryz.pinned (OpenSpec.ofChange fnExactApplyAllocSpec)

/-- ITS FALSE NEIGHBOUR: 'it returns false'. Refute it at one input. -/
def fnExactApplyAllocWrong : ChangeSpec := { name := "fnExactApplyAlloc", vars := ["loop.example/g00053/impl.callForms"], fn := fun _ => fun
  | [d1, d2, g1] => { results := [.lit (.bool false)], args := [d1, d2], vars := [g1] }
  | _ => none }
def FnExactApplyAllocWrongFalsely : Prop := fnExactApplyAllocRow.holds Tryz.pinned (OpenSpec.ofChange fnExactApplyAllocWrong)

/- THE SECOND FORM. 'bulk': how many values and letters a reading holds, each counted each time it is reached (what is shared counts as often as it is met; a slice's spare places count too). A statement '..UptoSaid' is the law's where the arguments, and the package variables that the reading takes, are together of bulk at most 1048576: NARROWER than '..Said'. Prove '..Said' where nothing that the law and all that it calls make is longer than what came in: it says more and counts as full. Else prove '..UptoSaid'. A law counts once. -/
mutual
def uptoBulk {H : Type} : DataW H → Nat
  | .lit (.string bytes) => bytes.length + 1
  | .lit _ => 1
  | .nil => 1
  | .ptr d => uptoBulk d + 1
  | .slice elems spare => uptoBulkAll elems + uptoBulkAll spare + 1
  | .agg parts => uptoBulkAll parts + 1
  | .iface _ d => uptoBulk d + 1
  | .map entries => uptoBulkEntries entries + 1
  | .held _ => 1
def uptoBulkAll {H : Type} : List (DataW H) → Nat
  | [] => 0
  | d :: r => uptoBulk d + uptoBulkAll r
def uptoBulkEntries {H : Type} : List (Lit × DataW H) → Nat
  | [] => 0
  | x :: r => uptoBulkEntry x + uptoBulkEntries r
def uptoBulkEntry {H : Type} : Lit × DataW H → Nat
  | (.string bytes, d) => bytes.length + uptoBulk d + 1
  | (_, d) => uptoBulk d + 1
 end
def uptoSmall : (H : Type) → List (DataW H) → Bool := fun _ ds => decide (uptoBulkAll ds ≤ 1048576)
def OpenSpec.upto (s : _root_.Go.ChangeSpec) : _root_.Go.OpenSpec := { _root_.Go.OpenSpec.ofChange s with cond := some uptoSmall }

/-- 'laws.FnExactAllocOf', WHERE WHAT IT READS IS OF BULK AT MOST 1048576: true; the input reads as it did. -/
def fnExactAllocOfUptoRow : OpenClaim := { program := "ytmeokhppaekhpaagreatdoor", sum := "ce289eed9194fe24bca8c1c9a85ea7c326395684ca9eacb3b28fdbb6554ea8ad", func := "loop.example/g00053/laws.FnExactAllocOf", spec := "fnExactAllocOf", unfollowed := true, recurses := true, named := ["loop.example/g00053/impl.callForms"], apart := false, laid := [("loop.example/g00053/impl.callForms", laid_loop_example_g00053_impl_callForms)], narrowed := true }
def FnExactAllocOfUptoSaid : Prop := fnExactAllocOfUptoRow.holds Tryz.pinned (OpenSpec.upto fnExactAllocOfSpec)

/-- 'laws.FnExactAllocHolds', WHERE WHAT IT READS IS OF BULK AT MOST 1048576: true; the input reads as it did. -/
def fnExactAllocHoldsUptoRow : OpenClaim := { program := "ytmeokhppaekhpaagreatdoor", sum := "ce289eed9194fe24bca8c1c9a85ea7c326395684ca9eacb3b28fdbb6554ea8ad", func := "loop.example/g00053/laws.FnExactAllocHolds", spec := "fnExactAllocHolds", unfollowed := true, recurses := true, named := ["loop.example/g00053/impl.callForms"], apart := false, laid := [("loop.example/g00053/impl.callForms", laid_loop_example_g00053_impl_callForms)], narrowed := true }
def FnExactAllocHoldsUptoSaid : Prop := fnExactAllocHoldsUptoRow.holds Tryz.pinned (OpenSpec.upto fnExactAllocHoldsSpec)

/-- 'laws.FnExactApplyAlloc', WHERE WHAT IT READS IS OF BULK AT MOST 1048576: true; the input reads as it did. -/
def fnExactApplyAllocUptoRow : OpenClaim := { program := "ytmeokhppaekhpaagreatdoor", sum := "ce289eed9194fe24bca8c1c9a85ea7c326395684ca9eacb3b28fdbb6554ea8ad", func := "loop.example/g00053/laws.FnExactApplyAlloc", spec := "fnExactApplyAlloc", unfollowed := true, recurses := true, named := ["loop.example/g00053/impl.callForms"], apart := false, laid := [("loop.example/g00053/impl.callForms", laid_loop_example_g00053_impl_callForms)], narrowed := true }
def FnExactApplyAllocUptoSaid : Prop := fnExactApplyAllocUptoRow.holds Tryz.pinned (OpenSpec.upto fnExactApplyAllocSpec)

end Rows
end Go.Proofs.YtmeokhppaekhpaaGreatDoor
