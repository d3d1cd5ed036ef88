/-
  No cell of these rows narrows 'for every input' (looked for: loops, veiled, ifaces, maps, wideKeys, modest, calm, conditions, laid).
  DERIVED. THE GIVEN ROWS OF THIS SEAT. 6 by the template 'for every input the law returns true; each argument reads behind the call as it read before'; 0 by the template 'total and deterministic' (their statements: YteakeaclpcgopaaTotals.lean).
  GIVEN WITH THE SEED: the statements are not yours to turn. If you find one false, say at which input.
  Laid BY PROGRAM, IN A SANDBOX (cutbox-rows.mjs): the forced cells as the released guide's own fill.sh prints them over the translation 41645513f4c49713… (all of the seat's roots in one cut). By AI agents, Wed Nov 11 2026. No macro, syntax, notation, axiom, sorry.
-/
import Derived.Test.YteakeaclpcgopaaChecked
import GoSem.Claim
import GoSem.ClaimJoined
import GoSem.ClaimMapViews
import Derived.JoinedTies
import Derived.KernelRfl
namespace Go.Proofs.Yteakeaclpcgopaa
/- THE CELL 'sum', in the pinned program and in every row, IS THE sha256 OF THE DUMP (.gsa) THAT YteakeaclpcgopaaProg.lean LOADS. Nothing in Lean hashes anything: it is a label: what it is worth is what the hold of that sum in a sandbox is worth. -/
noncomputable def Try.pinned : Pinned := { name := "yteakeaclpcgopaa", sum := "41645513f4c4971356546bc8f5d086321e90eaf280335e1ce346049f4c664434", checked := Try.checked }
namespace Rows
def none {H : Type} : Left H := { results := [], args := [] }

/-- 'laws.FnExactGoodFields': WHATEVER THE INPUT: true; the input reads as it did. -/
def fnExactGoodFieldsSpec : ChangeSpec := { name := "fnExactGoodFields", fn := fun _ => fun
  | [d] => { results := [.lit (.bool true)], args := [d] }
  | _ => none }
def fnExactGoodFieldsRow : OpenClaim := { program := "yteakeaclpcgopaa", sum := "41645513f4c4971356546bc8f5d086321e90eaf280335e1ce346049f4c664434", func := "loop.example/g00053/laws.FnExactGoodFields", spec := "fnExactGoodFields", apart := false }
def FnExactGoodFieldsSaid : Prop := fnExactGoodFieldsRow.holds Try.pinned (OpenSpec.ofChange fnExactGoodFieldsSpec)

/-- ITS FALSE NEIGHBOUR: 'it returns false'. Refute it at one input. -/
def fnExactGoodFieldsWrong : ChangeSpec := { name := "fnExactGoodFields", fn := fun _ => fun
  | [d] => { results := [.lit (.bool false)], args := [d] }
  | _ => none }
def FnExactGoodFieldsWrongFalsely : Prop := fnExactGoodFieldsRow.holds Try.pinned (OpenSpec.ofChange fnExactGoodFieldsWrong)

/-- 'laws.FnExactTypeSize': WHATEVER THE INPUT: true; the input reads as it did. -/
def fnExactTypeSizeSpec : ChangeSpec := { name := "fnExactTypeSize", fn := fun _ => fun
  | [d1, d2] => { results := [.lit (.bool true)], args := [d1, d2] }
  | _ => none }
def fnExactTypeSizeRow : OpenClaim := { program := "yteakeaclpcgopaa", sum := "41645513f4c4971356546bc8f5d086321e90eaf280335e1ce346049f4c664434", func := "loop.example/g00053/laws.FnExactTypeSize", spec := "fnExactTypeSize", apart := false }
def FnExactTypeSizeSaid : Prop := fnExactTypeSizeRow.holds Try.pinned (OpenSpec.ofChange fnExactTypeSizeSpec)

/-- ITS FALSE NEIGHBOUR: 'it returns false'. Refute it at one input. -/
def fnExactTypeSizeWrong : ChangeSpec := { name := "fnExactTypeSize", fn := fun _ => fun
  | [d1, d2] => { results := [.lit (.bool false)], args := [d1, d2] }
  | _ => none }
def FnExactTypeSizeWrongFalsely : Prop := fnExactTypeSizeRow.holds Try.pinned (OpenSpec.ofChange fnExactTypeSizeWrong)

/-- 'laws.FnExactLayoutOf': WHATEVER THE INPUT: true; the input reads as it did. -/
def fnExactLayoutOfSpec : ChangeSpec := { name := "fnExactLayoutOf", fn := fun _ => fun
  | [d1, d2] => { results := [.lit (.bool true)], args := [d1, d2] }
  | _ => none }
def fnExactLayoutOfRow : OpenClaim := { program := "yteakeaclpcgopaa", sum := "41645513f4c4971356546bc8f5d086321e90eaf280335e1ce346049f4c664434", func := "loop.example/g00053/laws.FnExactLayoutOf", spec := "fnExactLayoutOf", apart := false }
def FnExactLayoutOfSaid : Prop := fnExactLayoutOfRow.holds Try.pinned (OpenSpec.ofChange fnExactLayoutOfSpec)

/-- ITS FALSE NEIGHBOUR: 'it returns false'. Refute it at one input. -/
def fnExactLayoutOfWrong : ChangeSpec := { name := "fnExactLayoutOf", fn := fun _ => fun
  | [d1, d2] => { results := [.lit (.bool false)], args := [d1, d2] }
  | _ => none }
def FnExactLayoutOfWrongFalsely : Prop := fnExactLayoutOfRow.holds Try.pinned (OpenSpec.ofChange fnExactLayoutOfWrong)

/-- 'laws.FnExactComponentAt': WHATEVER THE INPUT: true; the input reads as it did. -/
def fnExactComponentAtSpec : ChangeSpec := { name := "fnExactComponentAt", fn := fun _ => fun
  | [d1, d2, d3] => { results := [.lit (.bool true)], args := [d1, d2, d3] }
  | _ => none }
def fnExactComponentAtRow : OpenClaim := { program := "yteakeaclpcgopaa", sum := "41645513f4c4971356546bc8f5d086321e90eaf280335e1ce346049f4c664434", func := "loop.example/g00053/laws.FnExactComponentAt", spec := "fnExactComponentAt", apart := false }
def FnExactComponentAtSaid : Prop := fnExactComponentAtRow.holds Try.pinned (OpenSpec.ofChange fnExactComponentAtSpec)

/-- ITS FALSE NEIGHBOUR: 'it returns false'. Refute it at one input. -/
def fnExactComponentAtWrong : ChangeSpec := { name := "fnExactComponentAt", fn := fun _ => fun
  | [d1, d2, d3] => { results := [.lit (.bool false)], args := [d1, d2, d3] }
  | _ => none }
def FnExactComponentAtWrongFalsely : Prop := fnExactComponentAtRow.holds Try.pinned (OpenSpec.ofChange fnExactComponentAtWrong)

/-- 'laws.FnExactPackStruct': WHATEVER THE INPUT: true; the input reads as it did. -/
def fnExactPackStructSpec : ChangeSpec := { name := "fnExactPackStruct", fn := fun _ => fun
  | [d1, d2, d3] => { results := [.lit (.bool true)], args := [d1, d2, d3] }
  | _ => none }
def fnExactPackStructRow : OpenClaim := { program := "yteakeaclpcgopaa", sum := "41645513f4c4971356546bc8f5d086321e90eaf280335e1ce346049f4c664434", func := "loop.example/g00053/laws.FnExactPackStruct", spec := "fnExactPackStruct", unfollowed := true, recurses := true, apart := false }
def FnExactPackStructSaid : Prop := fnExactPackStructRow.holds Try.pinned (OpenSpec.ofChange fnExactPackStructSpec)

/-- ITS FALSE NEIGHBOUR: 'it returns false'. Refute it at one input. -/
def fnExactPackStructWrong : ChangeSpec := { name := "fnExactPackStruct", fn := fun _ => fun
  | [d1, d2, d3] => { results := [.lit (.bool false)], args := [d1, d2, d3] }
  | _ => none }
def FnExactPackStructWrongFalsely : Prop := fnExactPackStructRow.holds Try.pinned (OpenSpec.ofChange fnExactPackStructWrong)

/-- 'laws.FnExactUnpackStruct': WHATEVER THE INPUT: true; the input reads as it did. -/
def fnExactUnpackStructSpec : ChangeSpec := { name := "fnExactUnpackStruct", fn := fun _ => fun
  | [d1, d2, d3] => { results := [.lit (.bool true)], args := [d1, d2, d3] }
  | _ => none }
def fnExactUnpackStructRow : OpenClaim := { program := "yteakeaclpcgopaa", sum := "41645513f4c4971356546bc8f5d086321e90eaf280335e1ce346049f4c664434", func := "loop.example/g00053/laws.FnExactUnpackStruct", spec := "fnExactUnpackStruct", apart := false }
def FnExactUnpackStructSaid : Prop := fnExactUnpackStructRow.holds Try.pinned (OpenSpec.ofChange fnExactUnpackStructSpec)

/-- ITS FALSE NEIGHBOUR: 'it returns false'. Refute it at one input. -/
def fnExactUnpackStructWrong : ChangeSpec := { name := "fnExactUnpackStruct", fn := fun _ => fun
  | [d1, d2, d3] => { results := [.lit (.bool false)], args := [d1, d2, d3] }
  | _ => none }
def FnExactUnpackStructWrongFalsely : Prop := fnExactUnpackStructRow.holds Try.pinned (OpenSpec.ofChange fnExactUnpackStructWrong)

/- THE SECOND FORM. 'bulk': how many values and letters a reading holds, each counted each time it is reached (what is shared counts as often as it is met; a slice's spare places count too). A statement '..UptoSaid' is the law's where the arguments, and the package variables that the reading takes, are together of bulk at most 1048576: NARROWER than '..Said'. Prove '..Said' where nothing that the law and all that it calls make is longer than what came in: it says more and counts as full. Else prove '..UptoSaid'. A law counts once. -/
mutual
def uptoBulk {H : Type} : DataW H → Nat
  | .lit (.string bytes) => bytes.length + 1
  | .lit _ => 1
  | .nil => 1
  | .ptr d => uptoBulk d + 1
  | .slice elems spare => uptoBulkAll elems + uptoBulkAll spare + 1
  | .agg parts => uptoBulkAll parts + 1
  | .iface _ d => uptoBulk d + 1
  | .map entries => uptoBulkEntries entries + 1
  | .held _ => 1
def uptoBulkAll {H : Type} : List (DataW H) → Nat
  | [] => 0
  | d :: r => uptoBulk d + uptoBulkAll r
def uptoBulkEntries {H : Type} : List (Lit × DataW H) → Nat
  | [] => 0
  | x :: r => uptoBulkEntry x + uptoBulkEntries r
def uptoBulkEntry {H : Type} : Lit × DataW H → Nat
  | (.string bytes, d) => bytes.length + uptoBulk d + 1
  | (_, d) => uptoBulk d + 1
 end
def uptoSmall : (H : Type) → List (DataW H) → Bool := fun _ ds => decide (uptoBulkAll ds ≤ 1048576)
def OpenSpec.upto (s : _root_.Go.ChangeSpec) : _root_.Go.OpenSpec := { _root_.Go.OpenSpec.ofChange s with cond := some uptoSmall }

/-- 'laws.FnExactGoodFields', WHERE WHAT IT READS IS OF BULK AT MOST 1048576: true; the input reads as it did. -/
def fnExactGoodFieldsUptoRow : OpenClaim := { program := "yteakeaclpcgopaa", sum := "41645513f4c4971356546bc8f5d086321e90eaf280335e1ce346049f4c664434", func := "loop.example/g00053/laws.FnExactGoodFields", spec := "fnExactGoodFields", apart := false, narrowed := true }
def FnExactGoodFieldsUptoSaid : Prop := fnExactGoodFieldsUptoRow.holds Try.pinned (OpenSpec.upto fnExactGoodFieldsSpec)

/-- 'laws.FnExactTypeSize', WHERE WHAT IT READS IS OF BULK AT MOST 1048576: true; the input reads as it did. -/
def fnExactTypeSizeUptoRow : OpenClaim := { program := "yteakeaclpcgopaa", sum := "41645513f4c4971356546bc8f5d086321e90eaf280335e1ce346049f4c664434", func := "loop.example/g00053/laws.FnExactTypeSize", spec := "fnExactTypeSize", apart := false, narrowed := true }
def FnExactTypeSizeUptoSaid : Prop := fnExactTypeSizeUptoRow.holds Try.pinned (OpenSpec.upto fnExactTypeSizeSpec)

/-- 'laws.FnExactLayoutOf', WHERE WHAT IT READS IS OF BULK AT MOST 1048576: true; the input reads as it did. -/
def fnExactLayoutOfUptoRow : OpenClaim := { program := "yteakeaclpcgopaa", sum := "41645513f4c4971356546bc8f5d086321e90eaf280335e1ce346049f4c664434", func := "loop.example/g00053/laws.FnExactLayoutOf", spec := "fnExactLayoutOf", apart := false, narrowed := true }
def FnExactLayoutOfUptoSaid : Prop := fnExactLayoutOfUptoRow.holds Try.pinned (OpenSpec.upto fnExactLayoutOfSpec)

/-- 'laws.FnExactComponentAt', WHERE WHAT IT READS IS OF BULK AT MOST 1048576: true; the input reads as it did. -/
def fnExactComponentAtUptoRow : OpenClaim := { program := "yteakeaclpcgopaa", sum := "41645513f4c4971356546bc8f5d086321e90eaf280335e1ce346049f4c664434", func := "loop.example/g00053/laws.FnExactComponentAt", spec := "fnExactComponentAt", apart := false, narrowed := true }
def FnExactComponentAtUptoSaid : Prop := fnExactComponentAtUptoRow.holds Try.pinned (OpenSpec.upto fnExactComponentAtSpec)

/-- 'laws.FnExactPackStruct', WHERE WHAT IT READS IS OF BULK AT MOST 1048576: true; the input reads as it did. -/
def fnExactPackStructUptoRow : OpenClaim := { program := "yteakeaclpcgopaa", sum := "41645513f4c4971356546bc8f5d086321e90eaf280335e1ce346049f4c664434", func := "loop.example/g00053/laws.FnExactPackStruct", spec := "fnExactPackStruct", unfollowed := true, recurses := true, apart := false, narrowed := true }
def FnExactPackStructUptoSaid : Prop := fnExactPackStructUptoRow.holds Try.pinned (OpenSpec.upto fnExactPackStructSpec)

/-- 'laws.FnExactUnpackStruct', WHERE WHAT IT READS IS OF BULK AT MOST 1048576: true; the input reads as it did. -/
def fnExactUnpackStructUptoRow : OpenClaim := { program := "yteakeaclpcgopaa", sum := "41645513f4c4971356546bc8f5d086321e90eaf280335e1ce346049f4c664434", func := "loop.example/g00053/laws.FnExactUnpackStruct", spec := "fnExactUnpackStruct", apart := false, narrowed := true }
def FnExactUnpackStructUptoSaid : Prop := fnExactUnpackStructUptoRow.holds Try.pinned (OpenSpec.upto fnExactUnpackStructSpec)

end Rows
end Go.Proofs.Yteakeaclpcgopaa
