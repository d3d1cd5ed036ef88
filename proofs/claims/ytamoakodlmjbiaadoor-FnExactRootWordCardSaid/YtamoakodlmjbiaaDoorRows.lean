/-
  NARROWER THAN 'FOR EVERY INPUT', by the rows' own cells (each row's printed sentence says how): FnHalves: laid · FnExactRoundNumber: laid · FnExactAddWords: laid · FnExactMulWords: laid · FnExactDivWords: laid · FnExactFuseWords: laid · FnExactRootWord: laid · FnExactHalfOf: laid · FnExactWordOfHalf: laid · FnExactWholeOf: laid.
  DERIVED. THE GIVEN ROWS OF THIS SEAT. 10 by the template 'for every input the law returns true; each argument reads behind the call as it read before'; 0 by the template 'total and deterministic' (their statements: YtamoakodlmjbiaaDoorTotals.lean).
  GIVEN WITH THE SEED: the statements are not yours to turn. If you find one false, say at which input.
  Laid BY PROGRAM, IN A SANDBOX (cutbox-rows.mjs): the forced cells as the released guide's own fill.sh prints them over the translation e66947c9ddaa70c7… (all of the seat's roots in one cut). By AI agents, Wed Nov 11 2026. No macro, syntax, notation, axiom, sorry.
-/
import Derived.Test.YtamoakodlmjbiaaDoorChecked
import GoSem.Claim
import GoSem.ClaimJoined
import GoSem.ClaimMapViews
import Derived.JoinedTies
import Derived.KernelRfl
namespace Go.Proofs.YtamoakodlmjbiaaDoor
/- THE CELL 'sum', in the pinned program and in every row, IS THE sha256 OF THE DUMP (.gsa) THAT YtamoakodlmjbiaaDoorProg.lean LOADS. Nothing in Lean hashes anything: it is a label: what it is worth is what the hold of that sum in a sandbox is worth. -/
noncomputable def Tryd.pinned : Pinned := { name := "ytamoakodlmjbiaadoor", sum := "e66947c9ddaa70c7c75ab8add2d003f0a57aa03f61b6587559ad5fdd659e8d39", checked := Tryd.checked }
namespace Rows
def none {H : Type} : Left H := { results := [], args := [] }

/- WHAT THE LISTED PACKAGE-LEVEL VARIABLES READ AS WHEN THE CALL BEGINS. Each datum BY PROGRAM (the guide's laid-datum.mjs) off the statement by which the dump's own 'gosem.cut.vars' lays the variable. In a bare row this is a premise. The card (YtamoakodlmjbiaaDoorCards.lean) ties it to the program's text. -/
def laid_loop_example_g00053_impl_floatForms {H : Type} : DataW H := .agg [.agg [.lit (.int .i64 23), .lit (.int .i64 (-149)), .lit (.int .u32 2147483648), .lit (.int .u32 2139095039)], .agg [.lit (.int .i64 10), .lit (.int .i64 (-24)), .lit (.int .u32 32768), .lit (.int .u32 31743)]]

/-- 'laws.FnHalves': WHATEVER THE INPUT: true; the input reads as it did. -/
def fnHalvesSpec : ChangeSpec := { name := "fnHalves", vars := ["loop.example/g00053/impl.floatForms"], fn := fun _ => fun
  | [d1, d2, g1] => { results := [.lit (.bool true)], args := [d1, d2], vars := [g1] }
  | _ => none }
def fnHalvesRow : OpenClaim := { program := "ytamoakodlmjbiaadoor", sum := "e66947c9ddaa70c7c75ab8add2d003f0a57aa03f61b6587559ad5fdd659e8d39", func := "loop.example/g00053/laws.FnHalves", spec := "fnHalves", inPlace := ["math.Float32frombits"], named := ["loop.example/g00053/impl.floatForms"], apart := false, laid := [("loop.example/g00053/impl.floatForms", laid_loop_example_g00053_impl_floatForms)] }
def FnHalvesSaid : Prop := fnHalvesRow.holds Tryd.pinned (OpenSpec.ofChange fnHalvesSpec)

/-- ITS FALSE NEIGHBOUR: 'it returns false'. Refute it at one input. -/
def fnHalvesWrong : ChangeSpec := { name := "fnHalves", vars := ["loop.example/g00053/impl.floatForms"], fn := fun _ => fun
  | [d1, d2, g1] => { results := [.lit (.bool false)], args := [d1, d2], vars := [g1] }
  | _ => none }
def FnHalvesWrongFalsely : Prop := fnHalvesRow.holds Tryd.pinned (OpenSpec.ofChange fnHalvesWrong)

/-- 'laws.FnExactRoundNumber': WHATEVER THE INPUT: true; the input reads as it did. -/
def fnExactRoundNumberSpec : ChangeSpec := { name := "fnExactRoundNumber", vars := ["loop.example/g00053/impl.floatForms"], fn := fun _ => fun
  | [d1, d2, d3, g1] => { results := [.lit (.bool true)], args := [d1, d2, d3], vars := [g1] }
  | _ => none }
def fnExactRoundNumberRow : OpenClaim := { program := "ytamoakodlmjbiaadoor", sum := "e66947c9ddaa70c7c75ab8add2d003f0a57aa03f61b6587559ad5fdd659e8d39", func := "loop.example/g00053/laws.FnExactRoundNumber", spec := "fnExactRoundNumber", named := ["loop.example/g00053/impl.floatForms"], apart := false, laid := [("loop.example/g00053/impl.floatForms", laid_loop_example_g00053_impl_floatForms)] }
def FnExactRoundNumberSaid : Prop := fnExactRoundNumberRow.holds Tryd.pinned (OpenSpec.ofChange fnExactRoundNumberSpec)

/-- ITS FALSE NEIGHBOUR: 'it returns false'. Refute it at one input. -/
def fnExactRoundNumberWrong : ChangeSpec := { name := "fnExactRoundNumber", vars := ["loop.example/g00053/impl.floatForms"], fn := fun _ => fun
  | [d1, d2, d3, g1] => { results := [.lit (.bool false)], args := [d1, d2, d3], vars := [g1] }
  | _ => none }
def FnExactRoundNumberWrongFalsely : Prop := fnExactRoundNumberRow.holds Tryd.pinned (OpenSpec.ofChange fnExactRoundNumberWrong)

/-- 'laws.FnExactAddWords': WHATEVER THE INPUT: true; the input reads as it did. -/
def fnExactAddWordsSpec : ChangeSpec := { name := "fnExactAddWords", vars := ["loop.example/g00053/impl.floatForms"], fn := fun _ => fun
  | [d1, d2, d3, g1] => { results := [.lit (.bool true)], args := [d1, d2, d3], vars := [g1] }
  | _ => none }
def fnExactAddWordsRow : OpenClaim := { program := "ytamoakodlmjbiaadoor", sum := "e66947c9ddaa70c7c75ab8add2d003f0a57aa03f61b6587559ad5fdd659e8d39", func := "loop.example/g00053/laws.FnExactAddWords", spec := "fnExactAddWords", named := ["loop.example/g00053/impl.floatForms"], apart := false, laid := [("loop.example/g00053/impl.floatForms", laid_loop_example_g00053_impl_floatForms)] }
def FnExactAddWordsSaid : Prop := fnExactAddWordsRow.holds Tryd.pinned (OpenSpec.ofChange fnExactAddWordsSpec)

/-- ITS FALSE NEIGHBOUR: 'it returns false'. Refute it at one input. -/
def fnExactAddWordsWrong : ChangeSpec := { name := "fnExactAddWords", vars := ["loop.example/g00053/impl.floatForms"], fn := fun _ => fun
  | [d1, d2, d3, g1] => { results := [.lit (.bool false)], args := [d1, d2, d3], vars := [g1] }
  | _ => none }
def FnExactAddWordsWrongFalsely : Prop := fnExactAddWordsRow.holds Tryd.pinned (OpenSpec.ofChange fnExactAddWordsWrong)

/-- 'laws.FnExactMulWords': WHATEVER THE INPUT: true; the input reads as it did. -/
def fnExactMulWordsSpec : ChangeSpec := { name := "fnExactMulWords", vars := ["loop.example/g00053/impl.floatForms"], fn := fun _ => fun
  | [d1, d2, d3, g1] => { results := [.lit (.bool true)], args := [d1, d2, d3], vars := [g1] }
  | _ => none }
def fnExactMulWordsRow : OpenClaim := { program := "ytamoakodlmjbiaadoor", sum := "e66947c9ddaa70c7c75ab8add2d003f0a57aa03f61b6587559ad5fdd659e8d39", func := "loop.example/g00053/laws.FnExactMulWords", spec := "fnExactMulWords", named := ["loop.example/g00053/impl.floatForms"], apart := false, laid := [("loop.example/g00053/impl.floatForms", laid_loop_example_g00053_impl_floatForms)] }
def FnExactMulWordsSaid : Prop := fnExactMulWordsRow.holds Tryd.pinned (OpenSpec.ofChange fnExactMulWordsSpec)

/-- ITS FALSE NEIGHBOUR: 'it returns false'. Refute it at one input. -/
def fnExactMulWordsWrong : ChangeSpec := { name := "fnExactMulWords", vars := ["loop.example/g00053/impl.floatForms"], fn := fun _ => fun
  | [d1, d2, d3, g1] => { results := [.lit (.bool false)], args := [d1, d2, d3], vars := [g1] }
  | _ => none }
def FnExactMulWordsWrongFalsely : Prop := fnExactMulWordsRow.holds Tryd.pinned (OpenSpec.ofChange fnExactMulWordsWrong)

/-- 'laws.FnExactDivWords': WHATEVER THE INPUT: true; the input reads as it did. -/
def fnExactDivWordsSpec : ChangeSpec := { name := "fnExactDivWords", vars := ["loop.example/g00053/impl.floatForms"], fn := fun _ => fun
  | [d1, d2, d3, g1] => { results := [.lit (.bool true)], args := [d1, d2, d3], vars := [g1] }
  | _ => none }
def fnExactDivWordsRow : OpenClaim := { program := "ytamoakodlmjbiaadoor", sum := "e66947c9ddaa70c7c75ab8add2d003f0a57aa03f61b6587559ad5fdd659e8d39", func := "loop.example/g00053/laws.FnExactDivWords", spec := "fnExactDivWords", named := ["loop.example/g00053/impl.floatForms"], apart := false, laid := [("loop.example/g00053/impl.floatForms", laid_loop_example_g00053_impl_floatForms)] }
def FnExactDivWordsSaid : Prop := fnExactDivWordsRow.holds Tryd.pinned (OpenSpec.ofChange fnExactDivWordsSpec)

/-- ITS FALSE NEIGHBOUR: 'it returns false'. Refute it at one input. -/
def fnExactDivWordsWrong : ChangeSpec := { name := "fnExactDivWords", vars := ["loop.example/g00053/impl.floatForms"], fn := fun _ => fun
  | [d1, d2, d3, g1] => { results := [.lit (.bool false)], args := [d1, d2, d3], vars := [g1] }
  | _ => none }
def FnExactDivWordsWrongFalsely : Prop := fnExactDivWordsRow.holds Tryd.pinned (OpenSpec.ofChange fnExactDivWordsWrong)

/-- 'laws.FnExactFuseWords': WHATEVER THE INPUT: true; the input reads as it did. -/
def fnExactFuseWordsSpec : ChangeSpec := { name := "fnExactFuseWords", vars := ["loop.example/g00053/impl.floatForms"], fn := fun _ => fun
  | [d1, d2, d3, d4, g1] => { results := [.lit (.bool true)], args := [d1, d2, d3, d4], vars := [g1] }
  | _ => none }
def fnExactFuseWordsRow : OpenClaim := { program := "ytamoakodlmjbiaadoor", sum := "e66947c9ddaa70c7c75ab8add2d003f0a57aa03f61b6587559ad5fdd659e8d39", func := "loop.example/g00053/laws.FnExactFuseWords", spec := "fnExactFuseWords", named := ["loop.example/g00053/impl.floatForms"], apart := false, laid := [("loop.example/g00053/impl.floatForms", laid_loop_example_g00053_impl_floatForms)] }
def FnExactFuseWordsSaid : Prop := fnExactFuseWordsRow.holds Tryd.pinned (OpenSpec.ofChange fnExactFuseWordsSpec)

/-- ITS FALSE NEIGHBOUR: 'it returns false'. Refute it at one input. -/
def fnExactFuseWordsWrong : ChangeSpec := { name := "fnExactFuseWords", vars := ["loop.example/g00053/impl.floatForms"], fn := fun _ => fun
  | [d1, d2, d3, d4, g1] => { results := [.lit (.bool false)], args := [d1, d2, d3, d4], vars := [g1] }
  | _ => none }
def FnExactFuseWordsWrongFalsely : Prop := fnExactFuseWordsRow.holds Tryd.pinned (OpenSpec.ofChange fnExactFuseWordsWrong)

/-- 'laws.FnExactRootWord': WHATEVER THE INPUT: true; the input reads as it did. -/
def fnExactRootWordSpec : ChangeSpec := { name := "fnExactRootWord", vars := ["loop.example/g00053/impl.floatForms"], fn := fun _ => fun
  | [d1, d2, g1] => { results := [.lit (.bool true)], args := [d1, d2], vars := [g1] }
  | _ => none }
def fnExactRootWordRow : OpenClaim := { program := "ytamoakodlmjbiaadoor", sum := "e66947c9ddaa70c7c75ab8add2d003f0a57aa03f61b6587559ad5fdd659e8d39", func := "loop.example/g00053/laws.FnExactRootWord", spec := "fnExactRootWord", named := ["loop.example/g00053/impl.floatForms"], apart := false, laid := [("loop.example/g00053/impl.floatForms", laid_loop_example_g00053_impl_floatForms)] }
def FnExactRootWordSaid : Prop := fnExactRootWordRow.holds Tryd.pinned (OpenSpec.ofChange fnExactRootWordSpec)

/-- ITS FALSE NEIGHBOUR: 'it returns false'. Refute it at one input. -/
def fnExactRootWordWrong : ChangeSpec := { name := "fnExactRootWord", vars := ["loop.example/g00053/impl.floatForms"], fn := fun _ => fun
  | [d1, d2, g1] => { results := [.lit (.bool false)], args := [d1, d2], vars := [g1] }
  | _ => none }
def FnExactRootWordWrongFalsely : Prop := fnExactRootWordRow.holds Tryd.pinned (OpenSpec.ofChange fnExactRootWordWrong)

/-- 'laws.FnExactHalfOf': WHATEVER THE INPUT: true; the input reads as it did. -/
def fnExactHalfOfSpec : ChangeSpec := { name := "fnExactHalfOf", vars := ["loop.example/g00053/impl.floatForms"], fn := fun _ => fun
  | [d1, d2, g1] => { results := [.lit (.bool true)], args := [d1, d2], vars := [g1] }
  | _ => none }
def fnExactHalfOfRow : OpenClaim := { program := "ytamoakodlmjbiaadoor", sum := "e66947c9ddaa70c7c75ab8add2d003f0a57aa03f61b6587559ad5fdd659e8d39", func := "loop.example/g00053/laws.FnExactHalfOf", spec := "fnExactHalfOf", named := ["loop.example/g00053/impl.floatForms"], apart := false, laid := [("loop.example/g00053/impl.floatForms", laid_loop_example_g00053_impl_floatForms)] }
def FnExactHalfOfSaid : Prop := fnExactHalfOfRow.holds Tryd.pinned (OpenSpec.ofChange fnExactHalfOfSpec)

/-- ITS FALSE NEIGHBOUR: 'it returns false'. Refute it at one input. -/
def fnExactHalfOfWrong : ChangeSpec := { name := "fnExactHalfOf", vars := ["loop.example/g00053/impl.floatForms"], fn := fun _ => fun
  | [d1, d2, g1] => { results := [.lit (.bool false)], args := [d1, d2], vars := [g1] }
  | _ => none }
def FnExactHalfOfWrongFalsely : Prop := fnExactHalfOfRow.holds Tryd.pinned (OpenSpec.ofChange fnExactHalfOfWrong)

/-- 'laws.FnExactWordOfHalf': WHATEVER THE INPUT: true; the input reads as it did. -/
def fnExactWordOfHalfSpec : ChangeSpec := { name := "fnExactWordOfHalf", vars := ["loop.example/g00053/impl.floatForms"], fn := fun _ => fun
  | [d, g1] => { results := [.lit (.bool true)], args := [d], vars := [g1] }
  | _ => none }
def fnExactWordOfHalfRow : OpenClaim := { program := "ytamoakodlmjbiaadoor", sum := "e66947c9ddaa70c7c75ab8add2d003f0a57aa03f61b6587559ad5fdd659e8d39", func := "loop.example/g00053/laws.FnExactWordOfHalf", spec := "fnExactWordOfHalf", named := ["loop.example/g00053/impl.floatForms"], apart := false, laid := [("loop.example/g00053/impl.floatForms", laid_loop_example_g00053_impl_floatForms)] }
def FnExactWordOfHalfSaid : Prop := fnExactWordOfHalfRow.holds Tryd.pinned (OpenSpec.ofChange fnExactWordOfHalfSpec)

/-- ITS FALSE NEIGHBOUR: 'it returns false'. Refute it at one input. -/
def fnExactWordOfHalfWrong : ChangeSpec := { name := "fnExactWordOfHalf", vars := ["loop.example/g00053/impl.floatForms"], fn := fun _ => fun
  | [d, g1] => { results := [.lit (.bool false)], args := [d], vars := [g1] }
  | _ => none }
def FnExactWordOfHalfWrongFalsely : Prop := fnExactWordOfHalfRow.holds Tryd.pinned (OpenSpec.ofChange fnExactWordOfHalfWrong)

/-- 'laws.FnExactWholeOf': WHATEVER THE INPUT: true; the input reads as it did. -/
def fnExactWholeOfSpec : ChangeSpec := { name := "fnExactWholeOf", vars := ["loop.example/g00053/impl.floatForms"], fn := fun _ => fun
  | [d1, d2, g1] => { results := [.lit (.bool true)], args := [d1, d2], vars := [g1] }
  | _ => none }
def fnExactWholeOfRow : OpenClaim := { program := "ytamoakodlmjbiaadoor", sum := "e66947c9ddaa70c7c75ab8add2d003f0a57aa03f61b6587559ad5fdd659e8d39", func := "loop.example/g00053/laws.FnExactWholeOf", spec := "fnExactWholeOf", named := ["loop.example/g00053/impl.floatForms"], apart := false, laid := [("loop.example/g00053/impl.floatForms", laid_loop_example_g00053_impl_floatForms)] }
def FnExactWholeOfSaid : Prop := fnExactWholeOfRow.holds Tryd.pinned (OpenSpec.ofChange fnExactWholeOfSpec)

/-- ITS FALSE NEIGHBOUR: 'it returns false'. Refute it at one input. -/
def fnExactWholeOfWrong : ChangeSpec := { name := "fnExactWholeOf", vars := ["loop.example/g00053/impl.floatForms"], fn := fun _ => fun
  | [d1, d2, g1] => { results := [.lit (.bool false)], args := [d1, d2], vars := [g1] }
  | _ => none }
def FnExactWholeOfWrongFalsely : Prop := fnExactWholeOfRow.holds Tryd.pinned (OpenSpec.ofChange fnExactWholeOfWrong)

/- THE SECOND FORM. 'bulk': how many values and letters a reading holds, each counted each time it is reached (what is shared counts as often as it is met; a slice's spare places count too). A statement '..UptoSaid' is the law's where the arguments, and the package variables that the reading takes, are together of bulk at most 1048576: NARROWER than '..Said'. Prove '..Said' where nothing that the law and all that it calls make is longer than what came in: it says more and counts as full. Else prove '..UptoSaid'. A law counts once. -/
mutual
def uptoBulk {H : Type} : DataW H → Nat
  | .lit (.string bytes) => bytes.length + 1
  | .lit _ => 1
  | .nil => 1
  | .ptr d => uptoBulk d + 1
  | .slice elems spare => uptoBulkAll elems + uptoBulkAll spare + 1
  | .agg parts => uptoBulkAll parts + 1
  | .iface _ d => uptoBulk d + 1
  | .map entries => uptoBulkEntries entries + 1
  | .held _ => 1
def uptoBulkAll {H : Type} : List (DataW H) → Nat
  | [] => 0
  | d :: r => uptoBulk d + uptoBulkAll r
def uptoBulkEntries {H : Type} : List (Lit × DataW H) → Nat
  | [] => 0
  | x :: r => uptoBulkEntry x + uptoBulkEntries r
def uptoBulkEntry {H : Type} : Lit × DataW H → Nat
  | (.string bytes, d) => bytes.length + uptoBulk d + 1
  | (_, d) => uptoBulk d + 1
 end
def uptoSmall : (H : Type) → List (DataW H) → Bool := fun _ ds => decide (uptoBulkAll ds ≤ 1048576)
def OpenSpec.upto (s : _root_.Go.ChangeSpec) : _root_.Go.OpenSpec := { _root_.Go.OpenSpec.ofChange s with cond := some uptoSmall }

/-- 'laws.FnHalves', WHERE WHAT IT READS IS OF BULK AT MOST 1048576: true; the input reads as it did. -/
def fnHalvesUptoRow : OpenClaim := { program := "ytamoakodlmjbiaadoor", sum := "e66947c9ddaa70c7c75ab8add2d003f0a57aa03f61b6587559ad5fdd659e8d39", func := "loop.example/g00053/laws.FnHalves", spec := "fnHalves", inPlace := ["math.Float32frombits"], named := ["loop.example/g00053/impl.floatForms"], apart := false, laid := [("loop.example/g00053/impl.floatForms", laid_loop_example_g00053_impl_floatForms)], narrowed := true }
def FnHalvesUptoSaid : Prop := fnHalvesUptoRow.holds Tryd.pinned (OpenSpec.upto fnHalvesSpec)

/-- 'laws.FnExactRoundNumber', WHERE WHAT IT READS IS OF BULK AT MOST 1048576: true; the input reads as it did. -/
def fnExactRoundNumberUptoRow : OpenClaim := { program := "ytamoakodlmjbiaadoor", sum := "e66947c9ddaa70c7c75ab8add2d003f0a57aa03f61b6587559ad5fdd659e8d39", func := "loop.example/g00053/laws.FnExactRoundNumber", spec := "fnExactRoundNumber", named := ["loop.example/g00053/impl.floatForms"], apart := false, laid := [("loop.example/g00053/impl.floatForms", laid_loop_example_g00053_impl_floatForms)], narrowed := true }
def FnExactRoundNumberUptoSaid : Prop := fnExactRoundNumberUptoRow.holds Tryd.pinned (OpenSpec.upto fnExactRoundNumberSpec)

/-- 'laws.FnExactAddWords', WHERE WHAT IT READS IS OF BULK AT MOST 1048576: true; the input reads as it did. -/
def fnExactAddWordsUptoRow : OpenClaim := { program := "ytamoakodlmjbiaadoor", sum := "e66947c9ddaa70c7c75ab8add2d003f0a57aa03f61b6587559ad5fdd659e8d39", func := "loop.example/g00053/laws.FnExactAddWords", spec := "fnExactAddWords", named := ["loop.example/g00053/impl.floatForms"], apart := false, laid := [("loop.example/g00053/impl.floatForms", laid_loop_example_g00053_impl_floatForms)], narrowed := true }
def FnExactAddWordsUptoSaid : Prop := fnExactAddWordsUptoRow.holds Tryd.pinned (OpenSpec.upto fnExactAddWordsSpec)

/-- 'laws.FnExactMulWords', WHERE WHAT IT READS IS OF BULK AT MOST 1048576: true; the input reads as it did. -/
def fnExactMulWordsUptoRow : OpenClaim := { program := "ytamoakodlmjbiaadoor", sum := "e66947c9ddaa70c7c75ab8add2d003f0a57aa03f61b6587559ad5fdd659e8d39", func := "loop.example/g00053/laws.FnExactMulWords", spec := "fnExactMulWords", named := ["loop.example/g00053/impl.floatForms"], apart := false, laid := [("loop.example/g00053/impl.floatForms", laid_loop_example_g00053_impl_floatForms)], narrowed := true }
def FnExactMulWordsUptoSaid : Prop := fnExactMulWordsUptoRow.holds Tryd.pinned (OpenSpec.upto fnExactMulWordsSpec)

/-- 'laws.FnExactDivWords', WHERE WHAT IT READS IS OF BULK AT MOST 1048576: true; the input reads as it did. -/
def fnExactDivWordsUptoRow : OpenClaim := { program := "ytamoakodlmjbiaadoor", sum := "e66947c9ddaa70c7c75ab8add2d003f0a57aa03f61b6587559ad5fdd659e8d39", func := "loop.example/g00053/laws.FnExactDivWords", spec := "fnExactDivWords", named := ["loop.example/g00053/impl.floatForms"], apart := false, laid := [("loop.example/g00053/impl.floatForms", laid_loop_example_g00053_impl_floatForms)], narrowed := true }
def FnExactDivWordsUptoSaid : Prop := fnExactDivWordsUptoRow.holds Tryd.pinned (OpenSpec.upto fnExactDivWordsSpec)

/-- 'laws.FnExactFuseWords', WHERE WHAT IT READS IS OF BULK AT MOST 1048576: true; the input reads as it did. -/
def fnExactFuseWordsUptoRow : OpenClaim := { program := "ytamoakodlmjbiaadoor", sum := "e66947c9ddaa70c7c75ab8add2d003f0a57aa03f61b6587559ad5fdd659e8d39", func := "loop.example/g00053/laws.FnExactFuseWords", spec := "fnExactFuseWords", named := ["loop.example/g00053/impl.floatForms"], apart := false, laid := [("loop.example/g00053/impl.floatForms", laid_loop_example_g00053_impl_floatForms)], narrowed := true }
def FnExactFuseWordsUptoSaid : Prop := fnExactFuseWordsUptoRow.holds Tryd.pinned (OpenSpec.upto fnExactFuseWordsSpec)

/-- 'laws.FnExactRootWord', WHERE WHAT IT READS IS OF BULK AT MOST 1048576: true; the input reads as it did. -/
def fnExactRootWordUptoRow : OpenClaim := { program := "ytamoakodlmjbiaadoor", sum := "e66947c9ddaa70c7c75ab8add2d003f0a57aa03f61b6587559ad5fdd659e8d39", func := "loop.example/g00053/laws.FnExactRootWord", spec := "fnExactRootWord", named := ["loop.example/g00053/impl.floatForms"], apart := false, laid := [("loop.example/g00053/impl.floatForms", laid_loop_example_g00053_impl_floatForms)], narrowed := true }
def FnExactRootWordUptoSaid : Prop := fnExactRootWordUptoRow.holds Tryd.pinned (OpenSpec.upto fnExactRootWordSpec)

/-- 'laws.FnExactHalfOf', WHERE WHAT IT READS IS OF BULK AT MOST 1048576: true; the input reads as it did. -/
def fnExactHalfOfUptoRow : OpenClaim := { program := "ytamoakodlmjbiaadoor", sum := "e66947c9ddaa70c7c75ab8add2d003f0a57aa03f61b6587559ad5fdd659e8d39", func := "loop.example/g00053/laws.FnExactHalfOf", spec := "fnExactHalfOf", named := ["loop.example/g00053/impl.floatForms"], apart := false, laid := [("loop.example/g00053/impl.floatForms", laid_loop_example_g00053_impl_floatForms)], narrowed := true }
def FnExactHalfOfUptoSaid : Prop := fnExactHalfOfUptoRow.holds Tryd.pinned (OpenSpec.upto fnExactHalfOfSpec)

/-- 'laws.FnExactWordOfHalf', WHERE WHAT IT READS IS OF BULK AT MOST 1048576: true; the input reads as it did. -/
def fnExactWordOfHalfUptoRow : OpenClaim := { program := "ytamoakodlmjbiaadoor", sum := "e66947c9ddaa70c7c75ab8add2d003f0a57aa03f61b6587559ad5fdd659e8d39", func := "loop.example/g00053/laws.FnExactWordOfHalf", spec := "fnExactWordOfHalf", named := ["loop.example/g00053/impl.floatForms"], apart := false, laid := [("loop.example/g00053/impl.floatForms", laid_loop_example_g00053_impl_floatForms)], narrowed := true }
def FnExactWordOfHalfUptoSaid : Prop := fnExactWordOfHalfUptoRow.holds Tryd.pinned (OpenSpec.upto fnExactWordOfHalfSpec)

/-- 'laws.FnExactWholeOf', WHERE WHAT IT READS IS OF BULK AT MOST 1048576: true; the input reads as it did. -/
def fnExactWholeOfUptoRow : OpenClaim := { program := "ytamoakodlmjbiaadoor", sum := "e66947c9ddaa70c7c75ab8add2d003f0a57aa03f61b6587559ad5fdd659e8d39", func := "loop.example/g00053/laws.FnExactWholeOf", spec := "fnExactWholeOf", named := ["loop.example/g00053/impl.floatForms"], apart := false, laid := [("loop.example/g00053/impl.floatForms", laid_loop_example_g00053_impl_floatForms)], narrowed := true }
def FnExactWholeOfUptoSaid : Prop := fnExactWholeOfUptoRow.holds Tryd.pinned (OpenSpec.upto fnExactWholeOfSpec)

end Rows
end Go.Proofs.YtamoakodlmjbiaaDoor
