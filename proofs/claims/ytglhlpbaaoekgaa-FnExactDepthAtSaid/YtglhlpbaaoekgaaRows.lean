/-
  No cell of these rows narrows 'for every input' (looked for: loops, veiled, ifaces, maps, wideKeys, modest, calm, conditions, laid).
  DERIVED. THE GIVEN ROWS OF THIS SEAT. 9 by the template 'for every input the law returns true; each argument reads behind the call as it read before'; 0 by the template 'total and deterministic' (their statements: YtglhlpbaaoekgaaTotals.lean).
  GIVEN WITH THE SEED: the statements are not yours to turn. If you find one false, say at which input.
  Laid BY PROGRAM, IN A SANDBOX (cutbox-rows.mjs): the forced cells as the released guide's own fill.sh prints them over the translation a195ad192ff1650d… (all of the seat's roots in one cut). By AI agents, Wed Nov 11 2026. No macro, syntax, notation, axiom, sorry.
-/
import Derived.Test.YtglhlpbaaoekgaaChecked
import GoSem.Claim
import GoSem.ClaimJoined
import GoSem.ClaimMapViews
import Derived.JoinedTies
import Derived.KernelRfl
namespace Go.Proofs.Ytglhlpbaaoekgaa
/- THE CELL 'sum', in the pinned program and in every row, IS THE sha256 OF THE DUMP (.gsa) THAT YtglhlpbaaoekgaaProg.lean LOADS. Nothing in Lean hashes anything: it is a label: what it is worth is what the hold of that sum in a sandbox is worth. -/
noncomputable def Try.pinned : Pinned := { name := "ytglhlpbaaoekgaa", sum := "a195ad192ff1650d98cd9edc61a13f9d826455f923c181aca99d4b2b626d1e9d", checked := Try.checked }
namespace Rows
def none {H : Type} : Left H := { results := [], args := [] }

/-- 'laws.FnEdges': WHATEVER THE INPUT: true; the input reads as it did. -/
def fnEdgesSpec : ChangeSpec := { name := "fnEdges", fn := fun _ => fun
  | [d1, d2] => { results := [.lit (.bool true)], args := [d1, d2] }
  | _ => none }
def fnEdgesRow : OpenClaim := { program := "ytglhlpbaaoekgaa", sum := "a195ad192ff1650d98cd9edc61a13f9d826455f923c181aca99d4b2b626d1e9d", func := "loop.example/g00053/laws.FnEdges", spec := "fnEdges", inPlace := ["(*sync.WaitGroup).Add", "internal/race.ReleaseMerge", "internal/race.Disable", "internal/race.Enable", "internal/synctest.IsInBubble", "internal/synctest.Associate[sync.WaitGroup]", "sync.fatal", "sync/atomic.OrUint64", "sync/atomic.AddUint64", "internal/race.Read", "sync/atomic.LoadUint64", "sync/atomic.StoreUint64", "internal/synctest.Disassociate[sync.WaitGroup]", "sync.runtime_Semrelease", "(*sync.WaitGroup).Done", "(*sync.WaitGroup).Wait", "internal/race.Acquire", "internal/synctest.IsAssociated[sync.WaitGroup]", "sync/atomic.CompareAndSwapUint64", "internal/race.Write", "sync.runtime_SemacquireWaitGroup"], unfollowed := true, recurses := true, leaving := true, apart := false }
def FnEdgesSaid : Prop := fnEdgesRow.holds Try.pinned (OpenSpec.ofChange fnEdgesSpec)

/-- ITS FALSE NEIGHBOUR: 'it returns false'. Refute it at one input. -/
def fnEdgesWrong : ChangeSpec := { name := "fnEdges", fn := fun _ => fun
  | [d1, d2] => { results := [.lit (.bool false)], args := [d1, d2] }
  | _ => none }
def FnEdgesWrongFalsely : Prop := fnEdgesRow.holds Try.pinned (OpenSpec.ofChange fnEdgesWrong)

/-- 'laws.FnExactGoodTri': WHATEVER THE INPUT: true; the input reads as it did. -/
def fnExactGoodTriSpec : ChangeSpec := { name := "fnExactGoodTri", fn := fun _ => fun
  | [d] => { results := [.lit (.bool true)], args := [d] }
  | _ => none }
def fnExactGoodTriRow : OpenClaim := { program := "ytglhlpbaaoekgaa", sum := "a195ad192ff1650d98cd9edc61a13f9d826455f923c181aca99d4b2b626d1e9d", func := "loop.example/g00053/laws.FnExactGoodTri", spec := "fnExactGoodTri", apart := false }
def FnExactGoodTriSaid : Prop := fnExactGoodTriRow.holds Try.pinned (OpenSpec.ofChange fnExactGoodTriSpec)

/-- ITS FALSE NEIGHBOUR: 'it returns false'. Refute it at one input. -/
def fnExactGoodTriWrong : ChangeSpec := { name := "fnExactGoodTri", fn := fun _ => fun
  | [d] => { results := [.lit (.bool false)], args := [d] }
  | _ => none }
def FnExactGoodTriWrongFalsely : Prop := fnExactGoodTriRow.holds Try.pinned (OpenSpec.ofChange fnExactGoodTriWrong)

/-- 'laws.FnExactAreaOf': WHATEVER THE INPUT: true; the input reads as it did. -/
def fnExactAreaOfSpec : ChangeSpec := { name := "fnExactAreaOf", fn := fun _ => fun
  | [d] => { results := [.lit (.bool true)], args := [d] }
  | _ => none }
def fnExactAreaOfRow : OpenClaim := { program := "ytglhlpbaaoekgaa", sum := "a195ad192ff1650d98cd9edc61a13f9d826455f923c181aca99d4b2b626d1e9d", func := "loop.example/g00053/laws.FnExactAreaOf", spec := "fnExactAreaOf", apart := false }
def FnExactAreaOfSaid : Prop := fnExactAreaOfRow.holds Try.pinned (OpenSpec.ofChange fnExactAreaOfSpec)

/-- ITS FALSE NEIGHBOUR: 'it returns false'. Refute it at one input. -/
def fnExactAreaOfWrong : ChangeSpec := { name := "fnExactAreaOf", fn := fun _ => fun
  | [d] => { results := [.lit (.bool false)], args := [d] }
  | _ => none }
def FnExactAreaOfWrongFalsely : Prop := fnExactAreaOfRow.holds Try.pinned (OpenSpec.ofChange fnExactAreaOfWrong)

/-- 'laws.FnExactCoversPoint': WHATEVER THE INPUT: true; the input reads as it did. -/
def fnExactCoversPointSpec : ChangeSpec := { name := "fnExactCoversPoint", fn := fun _ => fun
  | [d1, d2, d3] => { results := [.lit (.bool true)], args := [d1, d2, d3] }
  | _ => none }
def fnExactCoversPointRow : OpenClaim := { program := "ytglhlpbaaoekgaa", sum := "a195ad192ff1650d98cd9edc61a13f9d826455f923c181aca99d4b2b626d1e9d", func := "loop.example/g00053/laws.FnExactCoversPoint", spec := "fnExactCoversPoint", apart := false }
def FnExactCoversPointSaid : Prop := fnExactCoversPointRow.holds Try.pinned (OpenSpec.ofChange fnExactCoversPointSpec)

/-- ITS FALSE NEIGHBOUR: 'it returns false'. Refute it at one input. -/
def fnExactCoversPointWrong : ChangeSpec := { name := "fnExactCoversPoint", fn := fun _ => fun
  | [d1, d2, d3] => { results := [.lit (.bool false)], args := [d1, d2, d3] }
  | _ => none }
def FnExactCoversPointWrongFalsely : Prop := fnExactCoversPointRow.holds Try.pinned (OpenSpec.ofChange fnExactCoversPointWrong)

/-- 'laws.FnExactCoverOf': WHATEVER THE INPUT: true; the input reads as it did. -/
def fnExactCoverOfSpec : ChangeSpec := { name := "fnExactCoverOf", fn := fun _ => fun
  | [d1, d2, d3] => { results := [.lit (.bool true)], args := [d1, d2, d3] }
  | _ => none }
def fnExactCoverOfRow : OpenClaim := { program := "ytglhlpbaaoekgaa", sum := "a195ad192ff1650d98cd9edc61a13f9d826455f923c181aca99d4b2b626d1e9d", func := "loop.example/g00053/laws.FnExactCoverOf", spec := "fnExactCoverOf", inPlace := ["(*sync.WaitGroup).Add", "internal/race.ReleaseMerge", "internal/race.Disable", "internal/race.Enable", "internal/synctest.IsInBubble", "internal/synctest.Associate[sync.WaitGroup]", "sync.fatal", "sync/atomic.OrUint64", "sync/atomic.AddUint64", "internal/race.Read", "sync/atomic.LoadUint64", "sync/atomic.StoreUint64", "internal/synctest.Disassociate[sync.WaitGroup]", "sync.runtime_Semrelease", "(*sync.WaitGroup).Done", "(*sync.WaitGroup).Wait", "internal/race.Acquire", "internal/synctest.IsAssociated[sync.WaitGroup]", "sync/atomic.CompareAndSwapUint64", "internal/race.Write", "sync.runtime_SemacquireWaitGroup"], unfollowed := true, recurses := true, leaving := true, apart := false }
def FnExactCoverOfSaid : Prop := fnExactCoverOfRow.holds Try.pinned (OpenSpec.ofChange fnExactCoverOfSpec)

/-- ITS FALSE NEIGHBOUR: 'it returns false'. Refute it at one input. -/
def fnExactCoverOfWrong : ChangeSpec := { name := "fnExactCoverOf", fn := fun _ => fun
  | [d1, d2, d3] => { results := [.lit (.bool false)], args := [d1, d2, d3] }
  | _ => none }
def FnExactCoverOfWrongFalsely : Prop := fnExactCoverOfRow.holds Try.pinned (OpenSpec.ofChange fnExactCoverOfWrong)

/-- 'laws.FnExactDepthAt': WHATEVER THE INPUT: true; the input reads as it did. -/
def fnExactDepthAtSpec : ChangeSpec := { name := "fnExactDepthAt", fn := fun _ => fun
  | [d1, d2, d3] => { results := [.lit (.bool true)], args := [d1, d2, d3] }
  | _ => none }
def fnExactDepthAtRow : OpenClaim := { program := "ytglhlpbaaoekgaa", sum := "a195ad192ff1650d98cd9edc61a13f9d826455f923c181aca99d4b2b626d1e9d", func := "loop.example/g00053/laws.FnExactDepthAt", spec := "fnExactDepthAt", apart := false }
def FnExactDepthAtSaid : Prop := fnExactDepthAtRow.holds Try.pinned (OpenSpec.ofChange fnExactDepthAtSpec)

/-- ITS FALSE NEIGHBOUR: 'it returns false'. Refute it at one input. -/
def fnExactDepthAtWrong : ChangeSpec := { name := "fnExactDepthAt", fn := fun _ => fun
  | [d1, d2, d3] => { results := [.lit (.bool false)], args := [d1, d2, d3] }
  | _ => none }
def FnExactDepthAtWrongFalsely : Prop := fnExactDepthAtRow.holds Try.pinned (OpenSpec.ofChange fnExactDepthAtWrong)

/-- 'laws.FnExactBlendColor': WHATEVER THE INPUT: true; the input reads as it did. -/
def fnExactBlendColorSpec : ChangeSpec := { name := "fnExactBlendColor", fn := fun _ => fun
  | [d1, d2] => { results := [.lit (.bool true)], args := [d1, d2] }
  | _ => none }
def fnExactBlendColorRow : OpenClaim := { program := "ytglhlpbaaoekgaa", sum := "a195ad192ff1650d98cd9edc61a13f9d826455f923c181aca99d4b2b626d1e9d", func := "loop.example/g00053/laws.FnExactBlendColor", spec := "fnExactBlendColor", apart := false }
def FnExactBlendColorSaid : Prop := fnExactBlendColorRow.holds Try.pinned (OpenSpec.ofChange fnExactBlendColorSpec)

/-- ITS FALSE NEIGHBOUR: 'it returns false'. Refute it at one input. -/
def fnExactBlendColorWrong : ChangeSpec := { name := "fnExactBlendColor", fn := fun _ => fun
  | [d1, d2] => { results := [.lit (.bool false)], args := [d1, d2] }
  | _ => none }
def FnExactBlendColorWrongFalsely : Prop := fnExactBlendColorRow.holds Try.pinned (OpenSpec.ofChange fnExactBlendColorWrong)

/-- 'laws.FnExactNewScreen': WHATEVER THE INPUT: true; the input reads as it did. -/
def fnExactNewScreenSpec : ChangeSpec := { name := "fnExactNewScreen", fn := fun _ => fun
  | [d1, d2, d3] => { results := [.lit (.bool true)], args := [d1, d2, d3] }
  | _ => none }
def fnExactNewScreenRow : OpenClaim := { program := "ytglhlpbaaoekgaa", sum := "a195ad192ff1650d98cd9edc61a13f9d826455f923c181aca99d4b2b626d1e9d", func := "loop.example/g00053/laws.FnExactNewScreen", spec := "fnExactNewScreen", apart := false }
def FnExactNewScreenSaid : Prop := fnExactNewScreenRow.holds Try.pinned (OpenSpec.ofChange fnExactNewScreenSpec)

/-- ITS FALSE NEIGHBOUR: 'it returns false'. Refute it at one input. -/
def fnExactNewScreenWrong : ChangeSpec := { name := "fnExactNewScreen", fn := fun _ => fun
  | [d1, d2, d3] => { results := [.lit (.bool false)], args := [d1, d2, d3] }
  | _ => none }
def FnExactNewScreenWrongFalsely : Prop := fnExactNewScreenRow.holds Try.pinned (OpenSpec.ofChange fnExactNewScreenWrong)

/-- 'laws.FnExactGoodScreen': WHATEVER THE INPUT: true; the input reads as it did. -/
def fnExactGoodScreenSpec : ChangeSpec := { name := "fnExactGoodScreen", fn := fun _ => fun
  | [d] => { results := [.lit (.bool true)], args := [d] }
  | _ => none }
def fnExactGoodScreenRow : OpenClaim := { program := "ytglhlpbaaoekgaa", sum := "a195ad192ff1650d98cd9edc61a13f9d826455f923c181aca99d4b2b626d1e9d", func := "loop.example/g00053/laws.FnExactGoodScreen", spec := "fnExactGoodScreen", unfollowed := true, recurses := true, leaving := true, apart := false }
def FnExactGoodScreenSaid : Prop := fnExactGoodScreenRow.holds Try.pinned (OpenSpec.ofChange fnExactGoodScreenSpec)

/-- ITS FALSE NEIGHBOUR: 'it returns false'. Refute it at one input. -/
def fnExactGoodScreenWrong : ChangeSpec := { name := "fnExactGoodScreen", fn := fun _ => fun
  | [d] => { results := [.lit (.bool false)], args := [d] }
  | _ => none }
def FnExactGoodScreenWrongFalsely : Prop := fnExactGoodScreenRow.holds Try.pinned (OpenSpec.ofChange fnExactGoodScreenWrong)

/- THE SECOND FORM. 'bulk': how many values and letters a reading holds, each counted each time it is reached (what is shared counts as often as it is met; a slice's spare places count too). A statement '..UptoSaid' is the law's where the arguments, and the package variables that the reading takes, are together of bulk at most 1048576: NARROWER than '..Said'. Prove '..Said' where nothing that the law and all that it calls make is longer than what came in: it says more and counts as full. Else prove '..UptoSaid'. A law counts once. -/
mutual
def uptoBulk {H : Type} : DataW H → Nat
  | .lit (.string bytes) => bytes.length + 1
  | .lit _ => 1
  | .nil => 1
  | .ptr d => uptoBulk d + 1
  | .slice elems spare => uptoBulkAll elems + uptoBulkAll spare + 1
  | .agg parts => uptoBulkAll parts + 1
  | .iface _ d => uptoBulk d + 1
  | .map entries => uptoBulkEntries entries + 1
  | .held _ => 1
def uptoBulkAll {H : Type} : List (DataW H) → Nat
  | [] => 0
  | d :: r => uptoBulk d + uptoBulkAll r
def uptoBulkEntries {H : Type} : List (Lit × DataW H) → Nat
  | [] => 0
  | x :: r => uptoBulkEntry x + uptoBulkEntries r
def uptoBulkEntry {H : Type} : Lit × DataW H → Nat
  | (.string bytes, d) => bytes.length + uptoBulk d + 1
  | (_, d) => uptoBulk d + 1
 end
def uptoSmall : (H : Type) → List (DataW H) → Bool := fun _ ds => decide (uptoBulkAll ds ≤ 1048576)
def OpenSpec.upto (s : _root_.Go.ChangeSpec) : _root_.Go.OpenSpec := { _root_.Go.OpenSpec.ofChange s with cond := some uptoSmall }

/-- 'laws.FnEdges', WHERE WHAT IT READS IS OF BULK AT MOST 1048576: true; the input reads as it did. -/
def fnEdgesUptoRow : OpenClaim := { program := "ytglhlpbaaoekgaa", sum := "a195ad192ff1650d98cd9edc61a13f9d826455f923c181aca99d4b2b626d1e9d", func := "loop.example/g00053/laws.FnEdges", spec := "fnEdges", inPlace := ["(*sync.WaitGroup).Add", "internal/race.ReleaseMerge", "internal/race.Disable", "internal/race.Enable", "internal/synctest.IsInBubble", "internal/synctest.Associate[sync.WaitGroup]", "sync.fatal", "sync/atomic.OrUint64", "sync/atomic.AddUint64", "internal/race.Read", "sync/atomic.LoadUint64", "sync/atomic.StoreUint64", "internal/synctest.Disassociate[sync.WaitGroup]", "sync.runtime_Semrelease", "(*sync.WaitGroup).Done", "(*sync.WaitGroup).Wait", "internal/race.Acquire", "internal/synctest.IsAssociated[sync.WaitGroup]", "sync/atomic.CompareAndSwapUint64", "internal/race.Write", "sync.runtime_SemacquireWaitGroup"], unfollowed := true, recurses := true, leaving := true, apart := false, narrowed := true }
def FnEdgesUptoSaid : Prop := fnEdgesUptoRow.holds Try.pinned (OpenSpec.upto fnEdgesSpec)

/-- 'laws.FnExactGoodTri', WHERE WHAT IT READS IS OF BULK AT MOST 1048576: true; the input reads as it did. -/
def fnExactGoodTriUptoRow : OpenClaim := { program := "ytglhlpbaaoekgaa", sum := "a195ad192ff1650d98cd9edc61a13f9d826455f923c181aca99d4b2b626d1e9d", func := "loop.example/g00053/laws.FnExactGoodTri", spec := "fnExactGoodTri", apart := false, narrowed := true }
def FnExactGoodTriUptoSaid : Prop := fnExactGoodTriUptoRow.holds Try.pinned (OpenSpec.upto fnExactGoodTriSpec)

/-- 'laws.FnExactAreaOf', WHERE WHAT IT READS IS OF BULK AT MOST 1048576: true; the input reads as it did. -/
def fnExactAreaOfUptoRow : OpenClaim := { program := "ytglhlpbaaoekgaa", sum := "a195ad192ff1650d98cd9edc61a13f9d826455f923c181aca99d4b2b626d1e9d", func := "loop.example/g00053/laws.FnExactAreaOf", spec := "fnExactAreaOf", apart := false, narrowed := true }
def FnExactAreaOfUptoSaid : Prop := fnExactAreaOfUptoRow.holds Try.pinned (OpenSpec.upto fnExactAreaOfSpec)

/-- 'laws.FnExactCoversPoint', WHERE WHAT IT READS IS OF BULK AT MOST 1048576: true; the input reads as it did. -/
def fnExactCoversPointUptoRow : OpenClaim := { program := "ytglhlpbaaoekgaa", sum := "a195ad192ff1650d98cd9edc61a13f9d826455f923c181aca99d4b2b626d1e9d", func := "loop.example/g00053/laws.FnExactCoversPoint", spec := "fnExactCoversPoint", apart := false, narrowed := true }
def FnExactCoversPointUptoSaid : Prop := fnExactCoversPointUptoRow.holds Try.pinned (OpenSpec.upto fnExactCoversPointSpec)

/-- 'laws.FnExactCoverOf', WHERE WHAT IT READS IS OF BULK AT MOST 1048576: true; the input reads as it did. -/
def fnExactCoverOfUptoRow : OpenClaim := { program := "ytglhlpbaaoekgaa", sum := "a195ad192ff1650d98cd9edc61a13f9d826455f923c181aca99d4b2b626d1e9d", func := "loop.example/g00053/laws.FnExactCoverOf", spec := "fnExactCoverOf", inPlace := ["(*sync.WaitGroup).Add", "internal/race.ReleaseMerge", "internal/race.Disable", "internal/race.Enable", "internal/synctest.IsInBubble", "internal/synctest.Associate[sync.WaitGroup]", "sync.fatal", "sync/atomic.OrUint64", "sync/atomic.AddUint64", "internal/race.Read", "sync/atomic.LoadUint64", "sync/atomic.StoreUint64", "internal/synctest.Disassociate[sync.WaitGroup]", "sync.runtime_Semrelease", "(*sync.WaitGroup).Done", "(*sync.WaitGroup).Wait", "internal/race.Acquire", "internal/synctest.IsAssociated[sync.WaitGroup]", "sync/atomic.CompareAndSwapUint64", "internal/race.Write", "sync.runtime_SemacquireWaitGroup"], unfollowed := true, recurses := true, leaving := true, apart := false, narrowed := true }
def FnExactCoverOfUptoSaid : Prop := fnExactCoverOfUptoRow.holds Try.pinned (OpenSpec.upto fnExactCoverOfSpec)

/-- 'laws.FnExactDepthAt', WHERE WHAT IT READS IS OF BULK AT MOST 1048576: true; the input reads as it did. -/
def fnExactDepthAtUptoRow : OpenClaim := { program := "ytglhlpbaaoekgaa", sum := "a195ad192ff1650d98cd9edc61a13f9d826455f923c181aca99d4b2b626d1e9d", func := "loop.example/g00053/laws.FnExactDepthAt", spec := "fnExactDepthAt", apart := false, narrowed := true }
def FnExactDepthAtUptoSaid : Prop := fnExactDepthAtUptoRow.holds Try.pinned (OpenSpec.upto fnExactDepthAtSpec)

/-- 'laws.FnExactBlendColor', WHERE WHAT IT READS IS OF BULK AT MOST 1048576: true; the input reads as it did. -/
def fnExactBlendColorUptoRow : OpenClaim := { program := "ytglhlpbaaoekgaa", sum := "a195ad192ff1650d98cd9edc61a13f9d826455f923c181aca99d4b2b626d1e9d", func := "loop.example/g00053/laws.FnExactBlendColor", spec := "fnExactBlendColor", apart := false, narrowed := true }
def FnExactBlendColorUptoSaid : Prop := fnExactBlendColorUptoRow.holds Try.pinned (OpenSpec.upto fnExactBlendColorSpec)

/-- 'laws.FnExactNewScreen', WHERE WHAT IT READS IS OF BULK AT MOST 1048576: true; the input reads as it did. -/
def fnExactNewScreenUptoRow : OpenClaim := { program := "ytglhlpbaaoekgaa", sum := "a195ad192ff1650d98cd9edc61a13f9d826455f923c181aca99d4b2b626d1e9d", func := "loop.example/g00053/laws.FnExactNewScreen", spec := "fnExactNewScreen", apart := false, narrowed := true }
def FnExactNewScreenUptoSaid : Prop := fnExactNewScreenUptoRow.holds Try.pinned (OpenSpec.upto fnExactNewScreenSpec)

/-- 'laws.FnExactGoodScreen', WHERE WHAT IT READS IS OF BULK AT MOST 1048576: true; the input reads as it did. -/
def fnExactGoodScreenUptoRow : OpenClaim := { program := "ytglhlpbaaoekgaa", sum := "a195ad192ff1650d98cd9edc61a13f9d826455f923c181aca99d4b2b626d1e9d", func := "loop.example/g00053/laws.FnExactGoodScreen", spec := "fnExactGoodScreen", unfollowed := true, recurses := true, leaving := true, apart := false, narrowed := true }
def FnExactGoodScreenUptoSaid : Prop := fnExactGoodScreenUptoRow.holds Try.pinned (OpenSpec.upto fnExactGoodScreenSpec)

end Rows
end Go.Proofs.Ytglhlpbaaoekgaa
