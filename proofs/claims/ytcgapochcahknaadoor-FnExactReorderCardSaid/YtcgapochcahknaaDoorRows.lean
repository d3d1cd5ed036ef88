/-
  NARROWER THAN 'FOR EVERY INPUT', by the rows' own cells (each row's printed sentence says how): FnExactFollowMoves: laid · FnExactLatencyOf: laid · FnExactNeedsOf: laid · FnExactCyclesOf: laid · FnExactReorder: laid · FnExactBlocksOf: laid.
  DERIVED. THE GIVEN ROWS OF THIS SEAT. 6 by the template 'for every input the law returns true; each argument reads behind the call as it read before'; 0 by the template 'total and deterministic' (their statements: YtcgapochcahknaaDoorTotals.lean).
  GIVEN WITH THE SEED: the statements are not yours to turn. If you find one false, say at which input.
  Laid BY PROGRAM, IN A SANDBOX (cutbox-rows.mjs): the forced cells as the released guide's own fill.sh prints them over the translation ed740088241745d6… (all of the seat's roots in one cut). By AI agents, Wed Nov 11 2026. No macro, syntax, notation, axiom, sorry.
-/
import Derived.Test.YtcgapochcahknaaDoorChecked
import GoSem.Claim
import GoSem.ClaimJoined
import GoSem.ClaimMapViews
import Derived.JoinedTies
import Derived.KernelRfl
namespace Go.Proofs.YtcgapochcahknaaDoor
/- THE CELL 'sum', in the pinned program and in every row, IS THE sha256 OF THE DUMP (.gsa) THAT YtcgapochcahknaaDoorProg.lean LOADS. Nothing in Lean hashes anything: it is a label: what it is worth is what the hold of that sum in a sandbox is worth. -/
noncomputable def Tryd.pinned : Pinned := { name := "ytcgapochcahknaadoor", sum := "ed740088241745d68414bdebef2896f18941ef8d899ef025aaad7100db24bb4e", checked := Tryd.checked }
namespace Rows
def none {H : Type} : Left H := { results := [], args := [] }

/- WHAT THE LISTED PACKAGE-LEVEL VARIABLES READ AS WHEN THE CALL BEGINS. Each datum BY PROGRAM (the guide's laid-datum.mjs) off the statement by which the dump's own 'gosem.cut.vars' lays the variable. In a bare row this is a premise. The card (YtcgapochcahknaaDoorCards.lean) ties it to the program's text. -/
def laid_loop_example_g00053_impl_callForms {H : Type} : DataW H := .agg [.agg [.lit (.string [97, 98, 115]), .lit (.int .i64 1)], .agg [.lit (.string [102, 108, 111, 97, 116]), .lit (.int .i64 1)], .agg [.lit (.string [102, 109, 97]), .lit (.int .i64 3)], .agg [.lit (.string [103, 114, 111, 117, 112]), .lit (.int .i64 0)], .agg [.lit (.string [105, 110, 116]), .lit (.int .i64 1)], .agg [.lit (.string [108, 111, 99, 97, 108]), .lit (.int .i64 0)], .agg [.lit (.string [109, 97, 120]), .lit (.int .i64 2)], .agg [.lit (.string [109, 105, 110]), .lit (.int .i64 2)], .agg [.lit (.string [115, 105, 122, 101]), .lit (.int .i64 0)], .agg [.lit (.string [115, 113, 114, 116]), .lit (.int .i64 1)], .agg [.lit (.string [116, 105, 100]), .lit (.int .i64 0)]]

/-- 'laws.FnExactFollowMoves': WHATEVER THE INPUT: true; the input reads as it did. -/
def fnExactFollowMovesSpec : ChangeSpec := { name := "fnExactFollowMoves", vars := ["loop.example/g00053/impl.callForms"], fn := fun _ => fun
  | [d, g1] => { results := [.lit (.bool true)], args := [d], vars := [g1] }
  | _ => none }
def fnExactFollowMovesRow : OpenClaim := { program := "ytcgapochcahknaadoor", sum := "ed740088241745d68414bdebef2896f18941ef8d899ef025aaad7100db24bb4e", func := "loop.example/g00053/laws.FnExactFollowMoves", spec := "fnExactFollowMoves", unfollowed := true, recurses := true, named := ["loop.example/g00053/impl.callForms"], apart := false, laid := [("loop.example/g00053/impl.callForms", laid_loop_example_g00053_impl_callForms)] }
def FnExactFollowMovesSaid : Prop := fnExactFollowMovesRow.holds Tryd.pinned (OpenSpec.ofChange fnExactFollowMovesSpec)

/-- ITS FALSE NEIGHBOUR: 'it returns false'. Refute it at one input. -/
def fnExactFollowMovesWrong : ChangeSpec := { name := "fnExactFollowMoves", vars := ["loop.example/g00053/impl.callForms"], fn := fun _ => fun
  | [d, g1] => { results := [.lit (.bool false)], args := [d], vars := [g1] }
  | _ => none }
def FnExactFollowMovesWrongFalsely : Prop := fnExactFollowMovesRow.holds Tryd.pinned (OpenSpec.ofChange fnExactFollowMovesWrong)

/-- 'laws.FnExactLatencyOf': WHATEVER THE INPUT: true; the input reads as it did. -/
def fnExactLatencyOfSpec : ChangeSpec := { name := "fnExactLatencyOf", vars := ["loop.example/g00053/impl.callForms"], fn := fun _ => fun
  | [d, g1] => { results := [.lit (.bool true)], args := [d], vars := [g1] }
  | _ => none }
def fnExactLatencyOfRow : OpenClaim := { program := "ytcgapochcahknaadoor", sum := "ed740088241745d68414bdebef2896f18941ef8d899ef025aaad7100db24bb4e", func := "loop.example/g00053/laws.FnExactLatencyOf", spec := "fnExactLatencyOf", unfollowed := true, recurses := true, named := ["loop.example/g00053/impl.callForms"], apart := false, laid := [("loop.example/g00053/impl.callForms", laid_loop_example_g00053_impl_callForms)] }
def FnExactLatencyOfSaid : Prop := fnExactLatencyOfRow.holds Tryd.pinned (OpenSpec.ofChange fnExactLatencyOfSpec)

/-- ITS FALSE NEIGHBOUR: 'it returns false'. Refute it at one input. -/
def fnExactLatencyOfWrong : ChangeSpec := { name := "fnExactLatencyOf", vars := ["loop.example/g00053/impl.callForms"], fn := fun _ => fun
  | [d, g1] => { results := [.lit (.bool false)], args := [d], vars := [g1] }
  | _ => none }
def FnExactLatencyOfWrongFalsely : Prop := fnExactLatencyOfRow.holds Tryd.pinned (OpenSpec.ofChange fnExactLatencyOfWrong)

/-- 'laws.FnExactNeedsOf': WHATEVER THE INPUT: true; the input reads as it did. -/
def fnExactNeedsOfSpec : ChangeSpec := { name := "fnExactNeedsOf", vars := ["loop.example/g00053/impl.callForms"], fn := fun _ => fun
  | [d, g1] => { results := [.lit (.bool true)], args := [d], vars := [g1] }
  | _ => none }
def fnExactNeedsOfRow : OpenClaim := { program := "ytcgapochcahknaadoor", sum := "ed740088241745d68414bdebef2896f18941ef8d899ef025aaad7100db24bb4e", func := "loop.example/g00053/laws.FnExactNeedsOf", spec := "fnExactNeedsOf", unfollowed := true, recurses := true, named := ["loop.example/g00053/impl.callForms"], apart := false, laid := [("loop.example/g00053/impl.callForms", laid_loop_example_g00053_impl_callForms)] }
def FnExactNeedsOfSaid : Prop := fnExactNeedsOfRow.holds Tryd.pinned (OpenSpec.ofChange fnExactNeedsOfSpec)

/-- ITS FALSE NEIGHBOUR: 'it returns false'. Refute it at one input. -/
def fnExactNeedsOfWrong : ChangeSpec := { name := "fnExactNeedsOf", vars := ["loop.example/g00053/impl.callForms"], fn := fun _ => fun
  | [d, g1] => { results := [.lit (.bool false)], args := [d], vars := [g1] }
  | _ => none }
def FnExactNeedsOfWrongFalsely : Prop := fnExactNeedsOfRow.holds Tryd.pinned (OpenSpec.ofChange fnExactNeedsOfWrong)

/-- 'laws.FnExactCyclesOf': WHATEVER THE INPUT: true; the input reads as it did. -/
def fnExactCyclesOfSpec : ChangeSpec := { name := "fnExactCyclesOf", vars := ["loop.example/g00053/impl.callForms"], fn := fun _ => fun
  | [d, g1] => { results := [.lit (.bool true)], args := [d], vars := [g1] }
  | _ => none }
def fnExactCyclesOfRow : OpenClaim := { program := "ytcgapochcahknaadoor", sum := "ed740088241745d68414bdebef2896f18941ef8d899ef025aaad7100db24bb4e", func := "loop.example/g00053/laws.FnExactCyclesOf", spec := "fnExactCyclesOf", unfollowed := true, recurses := true, named := ["loop.example/g00053/impl.callForms"], apart := false, laid := [("loop.example/g00053/impl.callForms", laid_loop_example_g00053_impl_callForms)] }
def FnExactCyclesOfSaid : Prop := fnExactCyclesOfRow.holds Tryd.pinned (OpenSpec.ofChange fnExactCyclesOfSpec)

/-- ITS FALSE NEIGHBOUR: 'it returns false'. Refute it at one input. -/
def fnExactCyclesOfWrong : ChangeSpec := { name := "fnExactCyclesOf", vars := ["loop.example/g00053/impl.callForms"], fn := fun _ => fun
  | [d, g1] => { results := [.lit (.bool false)], args := [d], vars := [g1] }
  | _ => none }
def FnExactCyclesOfWrongFalsely : Prop := fnExactCyclesOfRow.holds Tryd.pinned (OpenSpec.ofChange fnExactCyclesOfWrong)

/-- 'laws.FnExactReorder': WHATEVER THE INPUT: true; the input reads as it did. -/
def fnExactReorderSpec : ChangeSpec := { name := "fnExactReorder", vars := ["loop.example/g00053/impl.callForms"], fn := fun _ => fun
  | [d1, d2, g1] => { results := [.lit (.bool true)], args := [d1, d2], vars := [g1] }
  | _ => none }
def fnExactReorderRow : OpenClaim := { program := "ytcgapochcahknaadoor", sum := "ed740088241745d68414bdebef2896f18941ef8d899ef025aaad7100db24bb4e", func := "loop.example/g00053/laws.FnExactReorder", spec := "fnExactReorder", unfollowed := true, recurses := true, named := ["loop.example/g00053/impl.callForms"], apart := false, laid := [("loop.example/g00053/impl.callForms", laid_loop_example_g00053_impl_callForms)] }
def FnExactReorderSaid : Prop := fnExactReorderRow.holds Tryd.pinned (OpenSpec.ofChange fnExactReorderSpec)

/-- ITS FALSE NEIGHBOUR: 'it returns false'. Refute it at one input. -/
def fnExactReorderWrong : ChangeSpec := { name := "fnExactReorder", vars := ["loop.example/g00053/impl.callForms"], fn := fun _ => fun
  | [d1, d2, g1] => { results := [.lit (.bool false)], args := [d1, d2], vars := [g1] }
  | _ => none }
def FnExactReorderWrongFalsely : Prop := fnExactReorderRow.holds Tryd.pinned (OpenSpec.ofChange fnExactReorderWrong)

/-- 'laws.FnExactBlocksOf': WHATEVER THE INPUT: true; the input reads as it did. -/
def fnExactBlocksOfSpec : ChangeSpec := { name := "fnExactBlocksOf", vars := ["loop.example/g00053/impl.callForms"], fn := fun _ => fun
  | [d, g1] => { results := [.lit (.bool true)], args := [d], vars := [g1] }
  | _ => none }
def fnExactBlocksOfRow : OpenClaim := { program := "ytcgapochcahknaadoor", sum := "ed740088241745d68414bdebef2896f18941ef8d899ef025aaad7100db24bb4e", func := "loop.example/g00053/laws.FnExactBlocksOf", spec := "fnExactBlocksOf", unfollowed := true, recurses := true, named := ["loop.example/g00053/impl.callForms"], apart := false, laid := [("loop.example/g00053/impl.callForms", laid_loop_example_g00053_impl_callForms)] }
def FnExactBlocksOfSaid : Prop := fnExactBlocksOfRow.holds Tryd.pinned (OpenSpec.ofChange fnExactBlocksOfSpec)

/-- ITS FALSE NEIGHBOUR: 'it returns false'. Refute it at one input. -/
def fnExactBlocksOfWrong : ChangeSpec := { name := "fnExactBlocksOf", vars := ["loop.example/g00053/impl.callForms"], fn := fun _ => fun
  | [d, g1] => { results := [.lit (.bool false)], args := [d], vars := [g1] }
  | _ => none }
def FnExactBlocksOfWrongFalsely : Prop := fnExactBlocksOfRow.holds Tryd.pinned (OpenSpec.ofChange fnExactBlocksOfWrong)

/- THE SECOND FORM. 'bulk': how many values and letters a reading holds, each counted each time it is reached (what is shared counts as often as it is met; a slice's spare places count too). A statement '..UptoSaid' is the law's where the arguments, and the package variables that the reading takes, are together of bulk at most 1048576: NARROWER than '..Said'. Prove '..Said' where nothing that the law and all that it calls make is longer than what came in: it says more and counts as full. Else prove '..UptoSaid'. A law counts once. -/
mutual
def uptoBulk {H : Type} : DataW H → Nat
  | .lit (.string bytes) => bytes.length + 1
  | .lit _ => 1
  | .nil => 1
  | .ptr d => uptoBulk d + 1
  | .slice elems spare => uptoBulkAll elems + uptoBulkAll spare + 1
  | .agg parts => uptoBulkAll parts + 1
  | .iface _ d => uptoBulk d + 1
  | .map entries => uptoBulkEntries entries + 1
  | .held _ => 1
def uptoBulkAll {H : Type} : List (DataW H) → Nat
  | [] => 0
  | d :: r => uptoBulk d + uptoBulkAll r
def uptoBulkEntries {H : Type} : List (Lit × DataW H) → Nat
  | [] => 0
  | x :: r => uptoBulkEntry x + uptoBulkEntries r
def uptoBulkEntry {H : Type} : Lit × DataW H → Nat
  | (.string bytes, d) => bytes.length + uptoBulk d + 1
  | (_, d) => uptoBulk d + 1
 end
def uptoSmall : (H : Type) → List (DataW H) → Bool := fun _ ds => decide (uptoBulkAll ds ≤ 1048576)
def OpenSpec.upto (s : _root_.Go.ChangeSpec) : _root_.Go.OpenSpec := { _root_.Go.OpenSpec.ofChange s with cond := some uptoSmall }

/-- 'laws.FnExactFollowMoves', WHERE WHAT IT READS IS OF BULK AT MOST 1048576: true; the input reads as it did. -/
def fnExactFollowMovesUptoRow : OpenClaim := { program := "ytcgapochcahknaadoor", sum := "ed740088241745d68414bdebef2896f18941ef8d899ef025aaad7100db24bb4e", func := "loop.example/g00053/laws.FnExactFollowMoves", spec := "fnExactFollowMoves", unfollowed := true, recurses := true, named := ["loop.example/g00053/impl.callForms"], apart := false, laid := [("loop.example/g00053/impl.callForms", laid_loop_example_g00053_impl_callForms)], narrowed := true }
def FnExactFollowMovesUptoSaid : Prop := fnExactFollowMovesUptoRow.holds Tryd.pinned (OpenSpec.upto fnExactFollowMovesSpec)

/-- 'laws.FnExactLatencyOf', WHERE WHAT IT READS IS OF BULK AT MOST 1048576: true; the input reads as it did. -/
def fnExactLatencyOfUptoRow : OpenClaim := { program := "ytcgapochcahknaadoor", sum := "ed740088241745d68414bdebef2896f18941ef8d899ef025aaad7100db24bb4e", func := "loop.example/g00053/laws.FnExactLatencyOf", spec := "fnExactLatencyOf", unfollowed := true, recurses := true, named := ["loop.example/g00053/impl.callForms"], apart := false, laid := [("loop.example/g00053/impl.callForms", laid_loop_example_g00053_impl_callForms)], narrowed := true }
def FnExactLatencyOfUptoSaid : Prop := fnExactLatencyOfUptoRow.holds Tryd.pinned (OpenSpec.upto fnExactLatencyOfSpec)

/-- 'laws.FnExactNeedsOf', WHERE WHAT IT READS IS OF BULK AT MOST 1048576: true; the input reads as it did. -/
def fnExactNeedsOfUptoRow : OpenClaim := { program := "ytcgapochcahknaadoor", sum := "ed740088241745d68414bdebef2896f18941ef8d899ef025aaad7100db24bb4e", func := "loop.example/g00053/laws.FnExactNeedsOf", spec := "fnExactNeedsOf", unfollowed := true, recurses := true, named := ["loop.example/g00053/impl.callForms"], apart := false, laid := [("loop.example/g00053/impl.callForms", laid_loop_example_g00053_impl_callForms)], narrowed := true }
def FnExactNeedsOfUptoSaid : Prop := fnExactNeedsOfUptoRow.holds Tryd.pinned (OpenSpec.upto fnExactNeedsOfSpec)

/-- 'laws.FnExactCyclesOf', WHERE WHAT IT READS IS OF BULK AT MOST 1048576: true; the input reads as it did. -/
def fnExactCyclesOfUptoRow : OpenClaim := { program := "ytcgapochcahknaadoor", sum := "ed740088241745d68414bdebef2896f18941ef8d899ef025aaad7100db24bb4e", func := "loop.example/g00053/laws.FnExactCyclesOf", spec := "fnExactCyclesOf", unfollowed := true, recurses := true, named := ["loop.example/g00053/impl.callForms"], apart := false, laid := [("loop.example/g00053/impl.callForms", laid_loop_example_g00053_impl_callForms)], narrowed := true }
def FnExactCyclesOfUptoSaid : Prop := fnExactCyclesOfUptoRow.holds Tryd.pinned (OpenSpec.upto fnExactCyclesOfSpec)

/-- 'laws.FnExactReorder', WHERE WHAT IT READS IS OF BULK AT MOST 1048576: true; the input reads as it did. -/
def fnExactReorderUptoRow : OpenClaim := { program := "ytcgapochcahknaadoor", sum := "ed740088241745d68414bdebef2896f18941ef8d899ef025aaad7100db24bb4e", func := "loop.example/g00053/laws.FnExactReorder", spec := "fnExactReorder", unfollowed := true, recurses := true, named := ["loop.example/g00053/impl.callForms"], apart := false, laid := [("loop.example/g00053/impl.callForms", laid_loop_example_g00053_impl_callForms)], narrowed := true }
def FnExactReorderUptoSaid : Prop := fnExactReorderUptoRow.holds Tryd.pinned (OpenSpec.upto fnExactReorderSpec)

/-- 'laws.FnExactBlocksOf', WHERE WHAT IT READS IS OF BULK AT MOST 1048576: true; the input reads as it did. -/
def fnExactBlocksOfUptoRow : OpenClaim := { program := "ytcgapochcahknaadoor", sum := "ed740088241745d68414bdebef2896f18941ef8d899ef025aaad7100db24bb4e", func := "loop.example/g00053/laws.FnExactBlocksOf", spec := "fnExactBlocksOf", unfollowed := true, recurses := true, named := ["loop.example/g00053/impl.callForms"], apart := false, laid := [("loop.example/g00053/impl.callForms", laid_loop_example_g00053_impl_callForms)], narrowed := true }
def FnExactBlocksOfUptoSaid : Prop := fnExactBlocksOfUptoRow.holds Tryd.pinned (OpenSpec.upto fnExactBlocksOfSpec)

end Rows
end Go.Proofs.YtcgapochcahknaaDoor
