/-
  NARROWER THAN 'FOR EVERY INPUT', by the rows' own cells (each row's printed sentence says how): FnExactReachedOf: laid · FnExactDropUnreached: laid · FnExactDropUnread: laid · FnExactFollowMoves: laid · FnExactShortJumps: laid.
  DERIVED. THE GIVEN ROWS OF THIS SEAT. 5 by the template 'for every input the law returns true; each argument reads behind the call as it read before'; 0 by the template 'total and deterministic' (their statements: YtlfgboiejoiboaaDoorTotals.lean).
  GIVEN WITH THE SEED: the statements are not yours to turn. If you find one false, say at which input.
  Laid BY PROGRAM, IN A SANDBOX (cutbox-rows.mjs): the forced cells as the released guide's own fill.sh prints them over the translation 09161856271fe8e7… (all of the seat's roots in one cut). By AI agents, Wed Nov 11 2026. No macro, syntax, notation, axiom, sorry.
-/
import Derived.Test.YtlfgboiejoiboaaDoorChecked
import GoSem.Claim
import GoSem.ClaimJoined
import GoSem.ClaimMapViews
import Derived.JoinedTies
import Derived.KernelRfl
namespace Go.Proofs.YtlfgboiejoiboaaDoor
/- THE CELL 'sum', in the pinned program and in every row, IS THE sha256 OF THE DUMP (.gsa) THAT YtlfgboiejoiboaaDoorProg.lean LOADS. Nothing in Lean hashes anything: it is a label: what it is worth is what the hold of that sum in a sandbox is worth. -/
noncomputable def Tryd.pinned : Pinned := { name := "ytlfgboiejoiboaadoor", sum := "09161856271fe8e7f85ade672e5c6f1f02d55c458ec3e1ec36fd9c20927b5102", checked := Tryd.checked }
namespace Rows
def none {H : Type} : Left H := { results := [], args := [] }

/- WHAT THE LISTED PACKAGE-LEVEL VARIABLES READ AS WHEN THE CALL BEGINS. Each datum BY PROGRAM (the guide's laid-datum.mjs) off the statement by which the dump's own 'gosem.cut.vars' lays the variable. In a bare row this is a premise. The card (YtlfgboiejoiboaaDoorCards.lean) ties it to the program's text. -/
def laid_loop_example_g00053_impl_callForms {H : Type} : DataW H := .agg [.agg [.lit (.string [97, 98, 115]), .lit (.int .i64 1)], .agg [.lit (.string [102, 108, 111, 97, 116]), .lit (.int .i64 1)], .agg [.lit (.string [102, 109, 97]), .lit (.int .i64 3)], .agg [.lit (.string [103, 114, 111, 117, 112]), .lit (.int .i64 0)], .agg [.lit (.string [105, 110, 116]), .lit (.int .i64 1)], .agg [.lit (.string [108, 111, 99, 97, 108]), .lit (.int .i64 0)], .agg [.lit (.string [109, 97, 120]), .lit (.int .i64 2)], .agg [.lit (.string [109, 105, 110]), .lit (.int .i64 2)], .agg [.lit (.string [115, 105, 122, 101]), .lit (.int .i64 0)], .agg [.lit (.string [115, 113, 114, 116]), .lit (.int .i64 1)], .agg [.lit (.string [116, 105, 100]), .lit (.int .i64 0)]]

/-- 'laws.FnExactReachedOf': WHATEVER THE INPUT: true; the input reads as it did. -/
def fnExactReachedOfSpec : ChangeSpec := { name := "fnExactReachedOf", vars := ["loop.example/g00053/impl.callForms"], fn := fun _ => fun
  | [d, g1] => { results := [.lit (.bool true)], args := [d], vars := [g1] }
  | _ => none }
def fnExactReachedOfRow : OpenClaim := { program := "ytlfgboiejoiboaadoor", sum := "09161856271fe8e7f85ade672e5c6f1f02d55c458ec3e1ec36fd9c20927b5102", func := "loop.example/g00053/laws.FnExactReachedOf", spec := "fnExactReachedOf", unfollowed := true, recurses := true, named := ["loop.example/g00053/impl.callForms"], apart := false, laid := [("loop.example/g00053/impl.callForms", laid_loop_example_g00053_impl_callForms)] }
def FnExactReachedOfSaid : Prop := fnExactReachedOfRow.holds Tryd.pinned (OpenSpec.ofChange fnExactReachedOfSpec)

/-- ITS FALSE NEIGHBOUR: 'it returns false'. Refute it at one input. -/
def fnExactReachedOfWrong : ChangeSpec := { name := "fnExactReachedOf", vars := ["loop.example/g00053/impl.callForms"], fn := fun _ => fun
  | [d, g1] => { results := [.lit (.bool false)], args := [d], vars := [g1] }
  | _ => none }
def FnExactReachedOfWrongFalsely : Prop := fnExactReachedOfRow.holds Tryd.pinned (OpenSpec.ofChange fnExactReachedOfWrong)

/-- 'laws.FnExactDropUnreached': WHATEVER THE INPUT: true; the input reads as it did. -/
def fnExactDropUnreachedSpec : ChangeSpec := { name := "fnExactDropUnreached", vars := ["loop.example/g00053/impl.callForms"], fn := fun _ => fun
  | [d, g1] => { results := [.lit (.bool true)], args := [d], vars := [g1] }
  | _ => none }
def fnExactDropUnreachedRow : OpenClaim := { program := "ytlfgboiejoiboaadoor", sum := "09161856271fe8e7f85ade672e5c6f1f02d55c458ec3e1ec36fd9c20927b5102", func := "loop.example/g00053/laws.FnExactDropUnreached", spec := "fnExactDropUnreached", unfollowed := true, recurses := true, named := ["loop.example/g00053/impl.callForms"], apart := false, laid := [("loop.example/g00053/impl.callForms", laid_loop_example_g00053_impl_callForms)] }
def FnExactDropUnreachedSaid : Prop := fnExactDropUnreachedRow.holds Tryd.pinned (OpenSpec.ofChange fnExactDropUnreachedSpec)

/-- ITS FALSE NEIGHBOUR: 'it returns false'. Refute it at one input. -/
def fnExactDropUnreachedWrong : ChangeSpec := { name := "fnExactDropUnreached", vars := ["loop.example/g00053/impl.callForms"], fn := fun _ => fun
  | [d, g1] => { results := [.lit (.bool false)], args := [d], vars := [g1] }
  | _ => none }
def FnExactDropUnreachedWrongFalsely : Prop := fnExactDropUnreachedRow.holds Tryd.pinned (OpenSpec.ofChange fnExactDropUnreachedWrong)

/-- 'laws.FnExactDropUnread': WHATEVER THE INPUT: true; the input reads as it did. -/
def fnExactDropUnreadSpec : ChangeSpec := { name := "fnExactDropUnread", vars := ["loop.example/g00053/impl.callForms"], fn := fun _ => fun
  | [d, g1] => { results := [.lit (.bool true)], args := [d], vars := [g1] }
  | _ => none }
def fnExactDropUnreadRow : OpenClaim := { program := "ytlfgboiejoiboaadoor", sum := "09161856271fe8e7f85ade672e5c6f1f02d55c458ec3e1ec36fd9c20927b5102", func := "loop.example/g00053/laws.FnExactDropUnread", spec := "fnExactDropUnread", unfollowed := true, recurses := true, named := ["loop.example/g00053/impl.callForms"], apart := false, laid := [("loop.example/g00053/impl.callForms", laid_loop_example_g00053_impl_callForms)] }
def FnExactDropUnreadSaid : Prop := fnExactDropUnreadRow.holds Tryd.pinned (OpenSpec.ofChange fnExactDropUnreadSpec)

/-- ITS FALSE NEIGHBOUR: 'it returns false'. Refute it at one input. -/
def fnExactDropUnreadWrong : ChangeSpec := { name := "fnExactDropUnread", vars := ["loop.example/g00053/impl.callForms"], fn := fun _ => fun
  | [d, g1] => { results := [.lit (.bool false)], args := [d], vars := [g1] }
  | _ => none }
def FnExactDropUnreadWrongFalsely : Prop := fnExactDropUnreadRow.holds Tryd.pinned (OpenSpec.ofChange fnExactDropUnreadWrong)

/-- 'laws.FnExactFollowMoves': WHATEVER THE INPUT: true; the input reads as it did. -/
def fnExactFollowMovesSpec : ChangeSpec := { name := "fnExactFollowMoves", vars := ["loop.example/g00053/impl.callForms"], fn := fun _ => fun
  | [d, g1] => { results := [.lit (.bool true)], args := [d], vars := [g1] }
  | _ => none }
def fnExactFollowMovesRow : OpenClaim := { program := "ytlfgboiejoiboaadoor", sum := "09161856271fe8e7f85ade672e5c6f1f02d55c458ec3e1ec36fd9c20927b5102", func := "loop.example/g00053/laws.FnExactFollowMoves", spec := "fnExactFollowMoves", unfollowed := true, recurses := true, named := ["loop.example/g00053/impl.callForms"], apart := false, laid := [("loop.example/g00053/impl.callForms", laid_loop_example_g00053_impl_callForms)] }
def FnExactFollowMovesSaid : Prop := fnExactFollowMovesRow.holds Tryd.pinned (OpenSpec.ofChange fnExactFollowMovesSpec)

/-- ITS FALSE NEIGHBOUR: 'it returns false'. Refute it at one input. -/
def fnExactFollowMovesWrong : ChangeSpec := { name := "fnExactFollowMoves", vars := ["loop.example/g00053/impl.callForms"], fn := fun _ => fun
  | [d, g1] => { results := [.lit (.bool false)], args := [d], vars := [g1] }
  | _ => none }
def FnExactFollowMovesWrongFalsely : Prop := fnExactFollowMovesRow.holds Tryd.pinned (OpenSpec.ofChange fnExactFollowMovesWrong)

/-- 'laws.FnExactShortJumps': WHATEVER THE INPUT: true; the input reads as it did. -/
def fnExactShortJumpsSpec : ChangeSpec := { name := "fnExactShortJumps", vars := ["loop.example/g00053/impl.callForms"], fn := fun _ => fun
  | [d, g1] => { results := [.lit (.bool true)], args := [d], vars := [g1] }
  | _ => none }
def fnExactShortJumpsRow : OpenClaim := { program := "ytlfgboiejoiboaadoor", sum := "09161856271fe8e7f85ade672e5c6f1f02d55c458ec3e1ec36fd9c20927b5102", func := "loop.example/g00053/laws.FnExactShortJumps", spec := "fnExactShortJumps", unfollowed := true, recurses := true, named := ["loop.example/g00053/impl.callForms"], apart := false, laid := [("loop.example/g00053/impl.callForms", laid_loop_example_g00053_impl_callForms)] }
def FnExactShortJumpsSaid : Prop := fnExactShortJumpsRow.holds Tryd.pinned (OpenSpec.ofChange fnExactShortJumpsSpec)

/-- ITS FALSE NEIGHBOUR: 'it returns false'. Refute it at one input. -/
def fnExactShortJumpsWrong : ChangeSpec := { name := "fnExactShortJumps", vars := ["loop.example/g00053/impl.callForms"], fn := fun _ => fun
  | [d, g1] => { results := [.lit (.bool false)], args := [d], vars := [g1] }
  | _ => none }
def FnExactShortJumpsWrongFalsely : Prop := fnExactShortJumpsRow.holds Tryd.pinned (OpenSpec.ofChange fnExactShortJumpsWrong)

/- THE SECOND FORM. 'bulk': how many values and letters a reading holds, each counted each time it is reached (what is shared counts as often as it is met; a slice's spare places count too). A statement '..UptoSaid' is the law's where the arguments, and the package variables that the reading takes, are together of bulk at most 1048576: NARROWER than '..Said'. Prove '..Said' where nothing that the law and all that it calls make is longer than what came in: it says more and counts as full. Else prove '..UptoSaid'. A law counts once. -/
mutual
def uptoBulk {H : Type} : DataW H → Nat
  | .lit (.string bytes) => bytes.length + 1
  | .lit _ => 1
  | .nil => 1
  | .ptr d => uptoBulk d + 1
  | .slice elems spare => uptoBulkAll elems + uptoBulkAll spare + 1
  | .agg parts => uptoBulkAll parts + 1
  | .iface _ d => uptoBulk d + 1
  | .map entries => uptoBulkEntries entries + 1
  | .held _ => 1
def uptoBulkAll {H : Type} : List (DataW H) → Nat
  | [] => 0
  | d :: r => uptoBulk d + uptoBulkAll r
def uptoBulkEntries {H : Type} : List (Lit × DataW H) → Nat
  | [] => 0
  | x :: r => uptoBulkEntry x + uptoBulkEntries r
def uptoBulkEntry {H : Type} : Lit × DataW H → Nat
  | (.string bytes, d) => bytes.length + uptoBulk d + 1
  | (_, d) => uptoBulk d + 1
 end
def uptoSmall : (H : Type) → List (DataW H) → Bool := fun _ ds => decide (uptoBulkAll ds ≤ 1048576)
def OpenSpec.upto (s : _root_.Go.ChangeSpec) : _root_.Go.OpenSpec := { _root_.Go.OpenSpec.ofChange s with cond := some uptoSmall }

/-- 'laws.FnExactReachedOf', WHERE WHAT IT READS IS OF BULK AT MOST 1048576: true; the input reads as it did. -/
def fnExactReachedOfUptoRow : OpenClaim := { program := "ytlfgboiejoiboaadoor", sum := "09161856271fe8e7f85ade672e5c6f1f02d55c458ec3e1ec36fd9c20927b5102", func := "loop.example/g00053/laws.FnExactReachedOf", spec := "fnExactReachedOf", unfollowed := true, recurses := true, named := ["loop.example/g00053/impl.callForms"], apart := false, laid := [("loop.example/g00053/impl.callForms", laid_loop_example_g00053_impl_callForms)], narrowed := true }
def FnExactReachedOfUptoSaid : Prop := fnExactReachedOfUptoRow.holds Tryd.pinned (OpenSpec.upto fnExactReachedOfSpec)

/-- 'laws.FnExactDropUnreached', WHERE WHAT IT READS IS OF BULK AT MOST 1048576: true; the input reads as it did. -/
def fnExactDropUnreachedUptoRow : OpenClaim := { program := "ytlfgboiejoiboaadoor", sum := "09161856271fe8e7f85ade672e5c6f1f02d55c458ec3e1ec36fd9c20927b5102", func := "loop.example/g00053/laws.FnExactDropUnreached", spec := "fnExactDropUnreached", unfollowed := true, recurses := true, named := ["loop.example/g00053/impl.callForms"], apart := false, laid := [("loop.example/g00053/impl.callForms", laid_loop_example_g00053_impl_callForms)], narrowed := true }
def FnExactDropUnreachedUptoSaid : Prop := fnExactDropUnreachedUptoRow.holds Tryd.pinned (OpenSpec.upto fnExactDropUnreachedSpec)

/-- 'laws.FnExactDropUnread', WHERE WHAT IT READS IS OF BULK AT MOST 1048576: true; the input reads as it did. -/
def fnExactDropUnreadUptoRow : OpenClaim := { program := "ytlfgboiejoiboaadoor", sum := "09161856271fe8e7f85ade672e5c6f1f02d55c458ec3e1ec36fd9c20927b5102", func := "loop.example/g00053/laws.FnExactDropUnread", spec := "fnExactDropUnread", unfollowed := true, recurses := true, named := ["loop.example/g00053/impl.callForms"], apart := false, laid := [("loop.example/g00053/impl.callForms", laid_loop_example_g00053_impl_callForms)], narrowed := true }
def FnExactDropUnreadUptoSaid : Prop := fnExactDropUnreadUptoRow.holds Tryd.pinned (OpenSpec.upto fnExactDropUnreadSpec)

/-- 'laws.FnExactFollowMoves', WHERE WHAT IT READS IS OF BULK AT MOST 1048576: true; the input reads as it did. -/
def fnExactFollowMovesUptoRow : OpenClaim := { program := "ytlfgboiejoiboaadoor", sum := "09161856271fe8e7f85ade672e5c6f1f02d55c458ec3e1ec36fd9c20927b5102", func := "loop.example/g00053/laws.FnExactFollowMoves", spec := "fnExactFollowMoves", unfollowed := true, recurses := true, named := ["loop.example/g00053/impl.callForms"], apart := false, laid := [("loop.example/g00053/impl.callForms", laid_loop_example_g00053_impl_callForms)], narrowed := true }
def FnExactFollowMovesUptoSaid : Prop := fnExactFollowMovesUptoRow.holds Tryd.pinned (OpenSpec.upto fnExactFollowMovesSpec)

/-- 'laws.FnExactShortJumps', WHERE WHAT IT READS IS OF BULK AT MOST 1048576: true; the input reads as it did. -/
def fnExactShortJumpsUptoRow : OpenClaim := { program := "ytlfgboiejoiboaadoor", sum := "09161856271fe8e7f85ade672e5c6f1f02d55c458ec3e1ec36fd9c20927b5102", func := "loop.example/g00053/laws.FnExactShortJumps", spec := "fnExactShortJumps", unfollowed := true, recurses := true, named := ["loop.example/g00053/impl.callForms"], apart := false, laid := [("loop.example/g00053/impl.callForms", laid_loop_example_g00053_impl_callForms)], narrowed := true }
def FnExactShortJumpsUptoSaid : Prop := fnExactShortJumpsUptoRow.holds Tryd.pinned (OpenSpec.upto fnExactShortJumpsSpec)

end Rows
end Go.Proofs.YtlfgboiejoiboaaDoor
