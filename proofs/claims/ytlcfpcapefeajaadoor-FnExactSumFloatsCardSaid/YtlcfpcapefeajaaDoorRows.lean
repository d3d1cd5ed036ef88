/-
  NARROWER THAN 'FOR EVERY INPUT', by the rows' own cells (each row's printed sentence says how): FnExactAddCw: laid · FnExactMulCw: laid · FnExactTurnCw: laid · FnExactWavesCw: laid · FnExactFirstLane: laid · FnExactSumFloats: laid.
  DERIVED. THE GIVEN ROWS OF THIS SEAT. 6 by the template 'for every input the law returns true; each argument reads behind the call as it read before'; 0 by the template 'total and deterministic' (their statements: YtlcfpcapefeajaaDoorTotals.lean).
  GIVEN WITH THE SEED: the statements are not yours to turn. If you find one false, say at which input.
  Laid BY PROGRAM, IN A SANDBOX (cutbox-rows.mjs): the forced cells as the released guide's own fill.sh prints them over the translation 49e43083d78e184b… (all of the seat's roots in one cut). By AI agents, Wed Nov 11 2026. No macro, syntax, notation, axiom, sorry.
-/
import Derived.Test.YtlcfpcapefeajaaDoorChecked
import GoSem.Claim
import GoSem.ClaimJoined
import GoSem.ClaimMapViews
import Derived.JoinedTies
import Derived.KernelRfl
namespace Go.Proofs.YtlcfpcapefeajaaDoor
/- THE CELL 'sum', in the pinned program and in every row, IS THE sha256 OF THE DUMP (.gsa) THAT YtlcfpcapefeajaaDoorProg.lean LOADS. Nothing in Lean hashes anything: it is a label: what it is worth is what the hold of that sum in a sandbox is worth. -/
noncomputable def Tryd.pinned : Pinned := { name := "ytlcfpcapefeajaadoor", sum := "49e43083d78e184bcffb368cb3d97243e3d26bccd6808f50add63db4ee0d0a5d", checked := Tryd.checked }
namespace Rows
def none {H : Type} : Left H := { results := [], args := [] }

/- WHAT THE LISTED PACKAGE-LEVEL VARIABLES READ AS WHEN THE CALL BEGINS. Each datum BY PROGRAM (the guide's laid-datum.mjs) off the statement by which the dump's own 'gosem.cut.vars' lays the variable. In a bare row this is a premise. The card (YtlcfpcapefeajaaDoorCards.lean) ties it to the program's text. -/
def laid_loop_example_g00053_impl_floatForms {H : Type} : DataW H := .agg [.agg [.lit (.int .i64 23), .lit (.int .i64 (-149)), .lit (.int .u32 2147483648), .lit (.int .u32 2139095039)], .agg [.lit (.int .i64 10), .lit (.int .i64 (-24)), .lit (.int .u32 32768), .lit (.int .u32 31743)]]
def laid_math_bits_deBruijn32tab {H : Type} : DataW H := .agg [.lit (.int .u8 0), .lit (.int .u8 1), .lit (.int .u8 28), .lit (.int .u8 2), .lit (.int .u8 29), .lit (.int .u8 14), .lit (.int .u8 24), .lit (.int .u8 3), .lit (.int .u8 30), .lit (.int .u8 22), .lit (.int .u8 20), .lit (.int .u8 15), .lit (.int .u8 25), .lit (.int .u8 17), .lit (.int .u8 4), .lit (.int .u8 8), .lit (.int .u8 31), .lit (.int .u8 27), .lit (.int .u8 13), .lit (.int .u8 23), .lit (.int .u8 21), .lit (.int .u8 19), .lit (.int .u8 16), .lit (.int .u8 7), .lit (.int .u8 26), .lit (.int .u8 12), .lit (.int .u8 18), .lit (.int .u8 6), .lit (.int .u8 11), .lit (.int .u8 5), .lit (.int .u8 10), .lit (.int .u8 9)]
def laid_math_bits_deBruijn64tab {H : Type} : DataW H := .agg [.lit (.int .u8 0), .lit (.int .u8 1), .lit (.int .u8 56), .lit (.int .u8 2), .lit (.int .u8 57), .lit (.int .u8 49), .lit (.int .u8 28), .lit (.int .u8 3), .lit (.int .u8 61), .lit (.int .u8 58), .lit (.int .u8 42), .lit (.int .u8 50), .lit (.int .u8 38), .lit (.int .u8 29), .lit (.int .u8 17), .lit (.int .u8 4), .lit (.int .u8 62), .lit (.int .u8 47), .lit (.int .u8 59), .lit (.int .u8 36), .lit (.int .u8 45), .lit (.int .u8 43), .lit (.int .u8 51), .lit (.int .u8 22), .lit (.int .u8 53), .lit (.int .u8 39), .lit (.int .u8 33), .lit (.int .u8 30), .lit (.int .u8 24), .lit (.int .u8 18), .lit (.int .u8 12), .lit (.int .u8 5), .lit (.int .u8 63), .lit (.int .u8 55), .lit (.int .u8 48), .lit (.int .u8 27), .lit (.int .u8 60), .lit (.int .u8 41), .lit (.int .u8 37), .lit (.int .u8 16), .lit (.int .u8 46), .lit (.int .u8 35), .lit (.int .u8 44), .lit (.int .u8 21), .lit (.int .u8 52), .lit (.int .u8 32), .lit (.int .u8 23), .lit (.int .u8 11), .lit (.int .u8 54), .lit (.int .u8 26), .lit (.int .u8 40), .lit (.int .u8 15), .lit (.int .u8 34), .lit (.int .u8 20), .lit (.int .u8 31), .lit (.int .u8 10), .lit (.int .u8 25), .lit (.int .u8 14), .lit (.int .u8 19), .lit (.int .u8 9), .lit (.int .u8 13), .lit (.int .u8 8), .lit (.int .u8 7), .lit (.int .u8 6)]

/-- 'laws.FnExactAddCw': WHATEVER THE INPUT: true; the input reads as it did. -/
def fnExactAddCwSpec : ChangeSpec := { name := "fnExactAddCw", vars := ["loop.example/g00053/impl.floatForms"], fn := fun _ => fun
  | [d1, d2, g1] => { results := [.lit (.bool true)], args := [d1, d2], vars := [g1] }
  | _ => none }
def fnExactAddCwRow : OpenClaim := { program := "ytlcfpcapefeajaadoor", sum := "49e43083d78e184bcffb368cb3d97243e3d26bccd6808f50add63db4ee0d0a5d", func := "loop.example/g00053/laws.FnExactAddCw", spec := "fnExactAddCw", named := ["loop.example/g00053/impl.floatForms"], apart := false, laid := [("loop.example/g00053/impl.floatForms", laid_loop_example_g00053_impl_floatForms)] }
def FnExactAddCwSaid : Prop := fnExactAddCwRow.holds Tryd.pinned (OpenSpec.ofChange fnExactAddCwSpec)

/-- ITS FALSE NEIGHBOUR: 'it returns false'. Refute it at one input. -/
def fnExactAddCwWrong : ChangeSpec := { name := "fnExactAddCw", vars := ["loop.example/g00053/impl.floatForms"], fn := fun _ => fun
  | [d1, d2, g1] => { results := [.lit (.bool false)], args := [d1, d2], vars := [g1] }
  | _ => none }
def FnExactAddCwWrongFalsely : Prop := fnExactAddCwRow.holds Tryd.pinned (OpenSpec.ofChange fnExactAddCwWrong)

/-- 'laws.FnExactMulCw': WHATEVER THE INPUT: true; the input reads as it did. -/
def fnExactMulCwSpec : ChangeSpec := { name := "fnExactMulCw", vars := ["loop.example/g00053/impl.floatForms"], fn := fun _ => fun
  | [d1, d2, g1] => { results := [.lit (.bool true)], args := [d1, d2], vars := [g1] }
  | _ => none }
def fnExactMulCwRow : OpenClaim := { program := "ytlcfpcapefeajaadoor", sum := "49e43083d78e184bcffb368cb3d97243e3d26bccd6808f50add63db4ee0d0a5d", func := "loop.example/g00053/laws.FnExactMulCw", spec := "fnExactMulCw", named := ["loop.example/g00053/impl.floatForms"], apart := false, laid := [("loop.example/g00053/impl.floatForms", laid_loop_example_g00053_impl_floatForms)] }
def FnExactMulCwSaid : Prop := fnExactMulCwRow.holds Tryd.pinned (OpenSpec.ofChange fnExactMulCwSpec)

/-- ITS FALSE NEIGHBOUR: 'it returns false'. Refute it at one input. -/
def fnExactMulCwWrong : ChangeSpec := { name := "fnExactMulCw", vars := ["loop.example/g00053/impl.floatForms"], fn := fun _ => fun
  | [d1, d2, g1] => { results := [.lit (.bool false)], args := [d1, d2], vars := [g1] }
  | _ => none }
def FnExactMulCwWrongFalsely : Prop := fnExactMulCwRow.holds Tryd.pinned (OpenSpec.ofChange fnExactMulCwWrong)

/-- 'laws.FnExactTurnCw': WHATEVER THE INPUT: true; the input reads as it did. -/
def fnExactTurnCwSpec : ChangeSpec := { name := "fnExactTurnCw", vars := ["loop.example/g00053/impl.floatForms"], fn := fun _ => fun
  | [d1, d2, g1] => { results := [.lit (.bool true)], args := [d1, d2], vars := [g1] }
  | _ => none }
def fnExactTurnCwRow : OpenClaim := { program := "ytlcfpcapefeajaadoor", sum := "49e43083d78e184bcffb368cb3d97243e3d26bccd6808f50add63db4ee0d0a5d", func := "loop.example/g00053/laws.FnExactTurnCw", spec := "fnExactTurnCw", named := ["loop.example/g00053/impl.floatForms"], apart := false, laid := [("loop.example/g00053/impl.floatForms", laid_loop_example_g00053_impl_floatForms)] }
def FnExactTurnCwSaid : Prop := fnExactTurnCwRow.holds Tryd.pinned (OpenSpec.ofChange fnExactTurnCwSpec)

/-- ITS FALSE NEIGHBOUR: 'it returns false'. Refute it at one input. -/
def fnExactTurnCwWrong : ChangeSpec := { name := "fnExactTurnCw", vars := ["loop.example/g00053/impl.floatForms"], fn := fun _ => fun
  | [d1, d2, g1] => { results := [.lit (.bool false)], args := [d1, d2], vars := [g1] }
  | _ => none }
def FnExactTurnCwWrongFalsely : Prop := fnExactTurnCwRow.holds Tryd.pinned (OpenSpec.ofChange fnExactTurnCwWrong)

/-- 'laws.FnExactWavesCw': WHATEVER THE INPUT: true; the input reads as it did. -/
def fnExactWavesCwSpec : ChangeSpec := { name := "fnExactWavesCw", vars := ["loop.example/g00053/impl.floatForms"], fn := fun _ => fun
  | [d, g1] => { results := [.lit (.bool true)], args := [d], vars := [g1] }
  | _ => none }
def fnExactWavesCwRow : OpenClaim := { program := "ytlcfpcapefeajaadoor", sum := "49e43083d78e184bcffb368cb3d97243e3d26bccd6808f50add63db4ee0d0a5d", func := "loop.example/g00053/laws.FnExactWavesCw", spec := "fnExactWavesCw", inPlace := ["math.Float32frombits", "math.Float32bits"], recurses := true, named := ["loop.example/g00053/impl.floatForms"], apart := false, laid := [("loop.example/g00053/impl.floatForms", laid_loop_example_g00053_impl_floatForms)] }
def FnExactWavesCwSaid : Prop := fnExactWavesCwRow.holds Tryd.pinned (OpenSpec.ofChange fnExactWavesCwSpec)

/-- ITS FALSE NEIGHBOUR: 'it returns false'. Refute it at one input. -/
def fnExactWavesCwWrong : ChangeSpec := { name := "fnExactWavesCw", vars := ["loop.example/g00053/impl.floatForms"], fn := fun _ => fun
  | [d, g1] => { results := [.lit (.bool false)], args := [d], vars := [g1] }
  | _ => none }
def FnExactWavesCwWrongFalsely : Prop := fnExactWavesCwRow.holds Tryd.pinned (OpenSpec.ofChange fnExactWavesCwWrong)

/-- 'laws.FnExactFirstLane': WHATEVER THE INPUT: true; the input reads as it did. -/
def fnExactFirstLaneSpec : ChangeSpec := { name := "fnExactFirstLane", fn := fun _ => fun
  | [d] => { results := [.lit (.bool true)], args := [d] }
  | _ => none }
def fnExactFirstLaneRow : OpenClaim := { program := "ytlcfpcapefeajaadoor", sum := "49e43083d78e184bcffb368cb3d97243e3d26bccd6808f50add63db4ee0d0a5d", func := "loop.example/g00053/laws.FnExactFirstLane", spec := "fnExactFirstLane", named := ["math/bits.deBruijn32tab", "math/bits.deBruijn64tab"], apart := false, laid := [("math/bits.deBruijn32tab", laid_math_bits_deBruijn32tab), ("math/bits.deBruijn64tab", laid_math_bits_deBruijn64tab)] }
def FnExactFirstLaneSaid : Prop := fnExactFirstLaneRow.holds Tryd.pinned (OpenSpec.ofChange fnExactFirstLaneSpec)

/-- ITS FALSE NEIGHBOUR: 'it returns false'. Refute it at one input. -/
def fnExactFirstLaneWrong : ChangeSpec := { name := "fnExactFirstLane", fn := fun _ => fun
  | [d] => { results := [.lit (.bool false)], args := [d] }
  | _ => none }
def FnExactFirstLaneWrongFalsely : Prop := fnExactFirstLaneRow.holds Tryd.pinned (OpenSpec.ofChange fnExactFirstLaneWrong)

/-- 'laws.FnExactSumFloats': WHATEVER THE INPUT: true; the input reads as it did. -/
def fnExactSumFloatsSpec : ChangeSpec := { name := "fnExactSumFloats", vars := ["loop.example/g00053/impl.floatForms"], fn := fun _ => fun
  | [d1, d2, g1] => { results := [.lit (.bool true)], args := [d1, d2], vars := [g1] }
  | _ => none }
def fnExactSumFloatsRow : OpenClaim := { program := "ytlcfpcapefeajaadoor", sum := "49e43083d78e184bcffb368cb3d97243e3d26bccd6808f50add63db4ee0d0a5d", func := "loop.example/g00053/laws.FnExactSumFloats", spec := "fnExactSumFloats", recurses := true, named := ["loop.example/g00053/impl.floatForms"], apart := false, laid := [("loop.example/g00053/impl.floatForms", laid_loop_example_g00053_impl_floatForms)] }
def FnExactSumFloatsSaid : Prop := fnExactSumFloatsRow.holds Tryd.pinned (OpenSpec.ofChange fnExactSumFloatsSpec)

/-- ITS FALSE NEIGHBOUR: 'it returns false'. Refute it at one input. -/
def fnExactSumFloatsWrong : ChangeSpec := { name := "fnExactSumFloats", vars := ["loop.example/g00053/impl.floatForms"], fn := fun _ => fun
  | [d1, d2, g1] => { results := [.lit (.bool false)], args := [d1, d2], vars := [g1] }
  | _ => none }
def FnExactSumFloatsWrongFalsely : Prop := fnExactSumFloatsRow.holds Tryd.pinned (OpenSpec.ofChange fnExactSumFloatsWrong)

/- THE SECOND FORM. 'bulk': how many values and letters a reading holds, each counted each time it is reached (what is shared counts as often as it is met; a slice's spare places count too). A statement '..UptoSaid' is the law's where the arguments, and the package variables that the reading takes, are together of bulk at most 1048576: NARROWER than '..Said'. Prove '..Said' where nothing that the law and all that it calls make is longer than what came in: it says more and counts as full. Else prove '..UptoSaid'. A law counts once. -/
mutual
def uptoBulk {H : Type} : DataW H → Nat
  | .lit (.string bytes) => bytes.length + 1
  | .lit _ => 1
  | .nil => 1
  | .ptr d => uptoBulk d + 1
  | .slice elems spare => uptoBulkAll elems + uptoBulkAll spare + 1
  | .agg parts => uptoBulkAll parts + 1
  | .iface _ d => uptoBulk d + 1
  | .map entries => uptoBulkEntries entries + 1
  | .held _ => 1
def uptoBulkAll {H : Type} : List (DataW H) → Nat
  | [] => 0
  | d :: r => uptoBulk d + uptoBulkAll r
def uptoBulkEntries {H : Type} : List (Lit × DataW H) → Nat
  | [] => 0
  | x :: r => uptoBulkEntry x + uptoBulkEntries r
def uptoBulkEntry {H : Type} : Lit × DataW H → Nat
  | (.string bytes, d) => bytes.length + uptoBulk d + 1
  | (_, d) => uptoBulk d + 1
 end
def uptoSmall : (H : Type) → List (DataW H) → Bool := fun _ ds => decide (uptoBulkAll ds ≤ 1048576)
def OpenSpec.upto (s : _root_.Go.ChangeSpec) : _root_.Go.OpenSpec := { _root_.Go.OpenSpec.ofChange s with cond := some uptoSmall }

/-- 'laws.FnExactAddCw', WHERE WHAT IT READS IS OF BULK AT MOST 1048576: true; the input reads as it did. -/
def fnExactAddCwUptoRow : OpenClaim := { program := "ytlcfpcapefeajaadoor", sum := "49e43083d78e184bcffb368cb3d97243e3d26bccd6808f50add63db4ee0d0a5d", func := "loop.example/g00053/laws.FnExactAddCw", spec := "fnExactAddCw", named := ["loop.example/g00053/impl.floatForms"], apart := false, laid := [("loop.example/g00053/impl.floatForms", laid_loop_example_g00053_impl_floatForms)], narrowed := true }
def FnExactAddCwUptoSaid : Prop := fnExactAddCwUptoRow.holds Tryd.pinned (OpenSpec.upto fnExactAddCwSpec)

/-- 'laws.FnExactMulCw', WHERE WHAT IT READS IS OF BULK AT MOST 1048576: true; the input reads as it did. -/
def fnExactMulCwUptoRow : OpenClaim := { program := "ytlcfpcapefeajaadoor", sum := "49e43083d78e184bcffb368cb3d97243e3d26bccd6808f50add63db4ee0d0a5d", func := "loop.example/g00053/laws.FnExactMulCw", spec := "fnExactMulCw", named := ["loop.example/g00053/impl.floatForms"], apart := false, laid := [("loop.example/g00053/impl.floatForms", laid_loop_example_g00053_impl_floatForms)], narrowed := true }
def FnExactMulCwUptoSaid : Prop := fnExactMulCwUptoRow.holds Tryd.pinned (OpenSpec.upto fnExactMulCwSpec)

/-- 'laws.FnExactTurnCw', WHERE WHAT IT READS IS OF BULK AT MOST 1048576: true; the input reads as it did. -/
def fnExactTurnCwUptoRow : OpenClaim := { program := "ytlcfpcapefeajaadoor", sum := "49e43083d78e184bcffb368cb3d97243e3d26bccd6808f50add63db4ee0d0a5d", func := "loop.example/g00053/laws.FnExactTurnCw", spec := "fnExactTurnCw", named := ["loop.example/g00053/impl.floatForms"], apart := false, laid := [("loop.example/g00053/impl.floatForms", laid_loop_example_g00053_impl_floatForms)], narrowed := true }
def FnExactTurnCwUptoSaid : Prop := fnExactTurnCwUptoRow.holds Tryd.pinned (OpenSpec.upto fnExactTurnCwSpec)

/-- 'laws.FnExactWavesCw', WHERE WHAT IT READS IS OF BULK AT MOST 1048576: true; the input reads as it did. -/
def fnExactWavesCwUptoRow : OpenClaim := { program := "ytlcfpcapefeajaadoor", sum := "49e43083d78e184bcffb368cb3d97243e3d26bccd6808f50add63db4ee0d0a5d", func := "loop.example/g00053/laws.FnExactWavesCw", spec := "fnExactWavesCw", inPlace := ["math.Float32frombits", "math.Float32bits"], recurses := true, named := ["loop.example/g00053/impl.floatForms"], apart := false, laid := [("loop.example/g00053/impl.floatForms", laid_loop_example_g00053_impl_floatForms)], narrowed := true }
def FnExactWavesCwUptoSaid : Prop := fnExactWavesCwUptoRow.holds Tryd.pinned (OpenSpec.upto fnExactWavesCwSpec)

/-- 'laws.FnExactFirstLane', WHERE WHAT IT READS IS OF BULK AT MOST 1048576: true; the input reads as it did. -/
def fnExactFirstLaneUptoRow : OpenClaim := { program := "ytlcfpcapefeajaadoor", sum := "49e43083d78e184bcffb368cb3d97243e3d26bccd6808f50add63db4ee0d0a5d", func := "loop.example/g00053/laws.FnExactFirstLane", spec := "fnExactFirstLane", named := ["math/bits.deBruijn32tab", "math/bits.deBruijn64tab"], apart := false, laid := [("math/bits.deBruijn32tab", laid_math_bits_deBruijn32tab), ("math/bits.deBruijn64tab", laid_math_bits_deBruijn64tab)], narrowed := true }
def FnExactFirstLaneUptoSaid : Prop := fnExactFirstLaneUptoRow.holds Tryd.pinned (OpenSpec.upto fnExactFirstLaneSpec)

/-- 'laws.FnExactSumFloats', WHERE WHAT IT READS IS OF BULK AT MOST 1048576: true; the input reads as it did. -/
def fnExactSumFloatsUptoRow : OpenClaim := { program := "ytlcfpcapefeajaadoor", sum := "49e43083d78e184bcffb368cb3d97243e3d26bccd6808f50add63db4ee0d0a5d", func := "loop.example/g00053/laws.FnExactSumFloats", spec := "fnExactSumFloats", recurses := true, named := ["loop.example/g00053/impl.floatForms"], apart := false, laid := [("loop.example/g00053/impl.floatForms", laid_loop_example_g00053_impl_floatForms)], narrowed := true }
def FnExactSumFloatsUptoSaid : Prop := fnExactSumFloatsUptoRow.holds Tryd.pinned (OpenSpec.upto fnExactSumFloatsSpec)

end Rows
end Go.Proofs.YtlcfpcapefeajaaDoor
