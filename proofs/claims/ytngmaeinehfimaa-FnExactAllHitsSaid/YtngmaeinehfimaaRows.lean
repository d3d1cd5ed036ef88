/-
  No cell of these rows narrows 'for every input' (looked for: loops, veiled, ifaces, maps, wideKeys, modest, calm, conditions, laid).
  DERIVED. THE GIVEN ROWS OF THIS SEAT. 8 by the template 'for every input the law returns true; each argument reads behind the call as it read before'; 0 by the template 'total and deterministic' (their statements: YtngmaeinehfimaaTotals.lean).
  GIVEN WITH THE SEED: the statements are not yours to turn. If you find one false, say at which input.
  Laid BY PROGRAM, IN A SANDBOX (cutbox-rows.mjs): the forced cells as the released guide's own fill.sh prints them over the translation e29297a3c0809283… (all of the seat's roots in one cut). By AI agents, Wed Nov 11 2026. No macro, syntax, notation, axiom, sorry.
-/
import Derived.Test.YtngmaeinehfimaaChecked
import GoSem.Claim
import GoSem.ClaimJoined
import GoSem.ClaimMapViews
import Derived.JoinedTies
import Derived.KernelRfl
namespace Go.Proofs.Ytngmaeinehfimaa
/- THE CELL 'sum', in the pinned program and in every row, IS THE sha256 OF THE DUMP (.gsa) THAT YtngmaeinehfimaaProg.lean LOADS. Nothing in Lean hashes anything: it is a label: what it is worth is what the hold of that sum in a sandbox is worth. -/
noncomputable def Try.pinned : Pinned := { name := "ytngmaeinehfimaa", sum := "e29297a3c080928395d576bd7a28bc24130c86d95a12a837020111911b125798", checked := Try.checked }
namespace Rows
def none {H : Type} : Left H := { results := [], args := [] }

/-- 'laws.FnExactGoodBlock': WHATEVER THE INPUT: true; the input reads as it did. -/
def fnExactGoodBlockSpec : ChangeSpec := { name := "fnExactGoodBlock", fn := fun _ => fun
  | [d] => { results := [.lit (.bool true)], args := [d] }
  | _ => none }
def fnExactGoodBlockRow : OpenClaim := { program := "ytngmaeinehfimaa", sum := "e29297a3c080928395d576bd7a28bc24130c86d95a12a837020111911b125798", func := "loop.example/g00053/laws.FnExactGoodBlock", spec := "fnExactGoodBlock", apart := false }
def FnExactGoodBlockSaid : Prop := fnExactGoodBlockRow.holds Try.pinned (OpenSpec.ofChange fnExactGoodBlockSpec)

/-- ITS FALSE NEIGHBOUR: 'it returns false'. Refute it at one input. -/
def fnExactGoodBlockWrong : ChangeSpec := { name := "fnExactGoodBlock", fn := fun _ => fun
  | [d] => { results := [.lit (.bool false)], args := [d] }
  | _ => none }
def FnExactGoodBlockWrongFalsely : Prop := fnExactGoodBlockRow.holds Try.pinned (OpenSpec.ofChange fnExactGoodBlockWrong)

/-- 'laws.FnExactGoodRay': WHATEVER THE INPUT: true; the input reads as it did. -/
def fnExactGoodRaySpec : ChangeSpec := { name := "fnExactGoodRay", fn := fun _ => fun
  | [d] => { results := [.lit (.bool true)], args := [d] }
  | _ => none }
def fnExactGoodRayRow : OpenClaim := { program := "ytngmaeinehfimaa", sum := "e29297a3c080928395d576bd7a28bc24130c86d95a12a837020111911b125798", func := "loop.example/g00053/laws.FnExactGoodRay", spec := "fnExactGoodRay", unfollowed := true, recurses := true, apart := false }
def FnExactGoodRaySaid : Prop := fnExactGoodRayRow.holds Try.pinned (OpenSpec.ofChange fnExactGoodRaySpec)

/-- ITS FALSE NEIGHBOUR: 'it returns false'. Refute it at one input. -/
def fnExactGoodRayWrong : ChangeSpec := { name := "fnExactGoodRay", fn := fun _ => fun
  | [d] => { results := [.lit (.bool false)], args := [d] }
  | _ => none }
def FnExactGoodRayWrongFalsely : Prop := fnExactGoodRayRow.holds Try.pinned (OpenSpec.ofChange fnExactGoodRayWrong)

/-- 'laws.FnExactHitBlock': WHATEVER THE INPUT: true; the input reads as it did. -/
def fnExactHitBlockSpec : ChangeSpec := { name := "fnExactHitBlock", fn := fun _ => fun
  | [d1, d2] => { results := [.lit (.bool true)], args := [d1, d2] }
  | _ => none }
def fnExactHitBlockRow : OpenClaim := { program := "ytngmaeinehfimaa", sum := "e29297a3c080928395d576bd7a28bc24130c86d95a12a837020111911b125798", func := "loop.example/g00053/laws.FnExactHitBlock", spec := "fnExactHitBlock", unfollowed := true, recurses := true, apart := false }
def FnExactHitBlockSaid : Prop := fnExactHitBlockRow.holds Try.pinned (OpenSpec.ofChange fnExactHitBlockSpec)

/-- ITS FALSE NEIGHBOUR: 'it returns false'. Refute it at one input. -/
def fnExactHitBlockWrong : ChangeSpec := { name := "fnExactHitBlock", fn := fun _ => fun
  | [d1, d2] => { results := [.lit (.bool false)], args := [d1, d2] }
  | _ => none }
def FnExactHitBlockWrongFalsely : Prop := fnExactHitBlockRow.holds Try.pinned (OpenSpec.ofChange fnExactHitBlockWrong)

/-- 'laws.FnExactFirstHit': WHATEVER THE INPUT: true; the input reads as it did. -/
def fnExactFirstHitSpec : ChangeSpec := { name := "fnExactFirstHit", fn := fun _ => fun
  | [d1, d2] => { results := [.lit (.bool true)], args := [d1, d2] }
  | _ => none }
def fnExactFirstHitRow : OpenClaim := { program := "ytngmaeinehfimaa", sum := "e29297a3c080928395d576bd7a28bc24130c86d95a12a837020111911b125798", func := "loop.example/g00053/laws.FnExactFirstHit", spec := "fnExactFirstHit", unfollowed := true, recurses := true, apart := false }
def FnExactFirstHitSaid : Prop := fnExactFirstHitRow.holds Try.pinned (OpenSpec.ofChange fnExactFirstHitSpec)

/-- ITS FALSE NEIGHBOUR: 'it returns false'. Refute it at one input. -/
def fnExactFirstHitWrong : ChangeSpec := { name := "fnExactFirstHit", fn := fun _ => fun
  | [d1, d2] => { results := [.lit (.bool false)], args := [d1, d2] }
  | _ => none }
def FnExactFirstHitWrongFalsely : Prop := fnExactFirstHitRow.holds Try.pinned (OpenSpec.ofChange fnExactFirstHitWrong)

/-- 'laws.FnExactTreeOf': WHATEVER THE INPUT: true; the input reads as it did. -/
def fnExactTreeOfSpec : ChangeSpec := { name := "fnExactTreeOf", fn := fun _ => fun
  | [d] => { results := [.lit (.bool true)], args := [d] }
  | _ => none }
def fnExactTreeOfRow : OpenClaim := { program := "ytngmaeinehfimaa", sum := "e29297a3c080928395d576bd7a28bc24130c86d95a12a837020111911b125798", func := "loop.example/g00053/laws.FnExactTreeOf", spec := "fnExactTreeOf", unfollowed := true, recurses := true, apart := false }
def FnExactTreeOfSaid : Prop := fnExactTreeOfRow.holds Try.pinned (OpenSpec.ofChange fnExactTreeOfSpec)

/-- ITS FALSE NEIGHBOUR: 'it returns false'. Refute it at one input. -/
def fnExactTreeOfWrong : ChangeSpec := { name := "fnExactTreeOf", fn := fun _ => fun
  | [d] => { results := [.lit (.bool false)], args := [d] }
  | _ => none }
def FnExactTreeOfWrongFalsely : Prop := fnExactTreeOfRow.holds Try.pinned (OpenSpec.ofChange fnExactTreeOfWrong)

/-- 'laws.FnExactGoodTwigs': WHATEVER THE INPUT: true; the input reads as it did. -/
def fnExactGoodTwigsSpec : ChangeSpec := { name := "fnExactGoodTwigs", fn := fun _ => fun
  | [d1, d2] => { results := [.lit (.bool true)], args := [d1, d2] }
  | _ => none }
def fnExactGoodTwigsRow : OpenClaim := { program := "ytngmaeinehfimaa", sum := "e29297a3c080928395d576bd7a28bc24130c86d95a12a837020111911b125798", func := "loop.example/g00053/laws.FnExactGoodTwigs", spec := "fnExactGoodTwigs", unfollowed := true, recurses := true, apart := false }
def FnExactGoodTwigsSaid : Prop := fnExactGoodTwigsRow.holds Try.pinned (OpenSpec.ofChange fnExactGoodTwigsSpec)

/-- ITS FALSE NEIGHBOUR: 'it returns false'. Refute it at one input. -/
def fnExactGoodTwigsWrong : ChangeSpec := { name := "fnExactGoodTwigs", fn := fun _ => fun
  | [d1, d2] => { results := [.lit (.bool false)], args := [d1, d2] }
  | _ => none }
def FnExactGoodTwigsWrongFalsely : Prop := fnExactGoodTwigsRow.holds Try.pinned (OpenSpec.ofChange fnExactGoodTwigsWrong)

/-- 'laws.FnExactTreeHit': WHATEVER THE INPUT: true; the input reads as it did. -/
def fnExactTreeHitSpec : ChangeSpec := { name := "fnExactTreeHit", fn := fun _ => fun
  | [d1, d2, d3] => { results := [.lit (.bool true)], args := [d1, d2, d3] }
  | _ => none }
def fnExactTreeHitRow : OpenClaim := { program := "ytngmaeinehfimaa", sum := "e29297a3c080928395d576bd7a28bc24130c86d95a12a837020111911b125798", func := "loop.example/g00053/laws.FnExactTreeHit", spec := "fnExactTreeHit", unfollowed := true, recurses := true, apart := false }
def FnExactTreeHitSaid : Prop := fnExactTreeHitRow.holds Try.pinned (OpenSpec.ofChange fnExactTreeHitSpec)

/-- ITS FALSE NEIGHBOUR: 'it returns false'. Refute it at one input. -/
def fnExactTreeHitWrong : ChangeSpec := { name := "fnExactTreeHit", fn := fun _ => fun
  | [d1, d2, d3] => { results := [.lit (.bool false)], args := [d1, d2, d3] }
  | _ => none }
def FnExactTreeHitWrongFalsely : Prop := fnExactTreeHitRow.holds Try.pinned (OpenSpec.ofChange fnExactTreeHitWrong)

/-- 'laws.FnExactAllHits': WHATEVER THE INPUT: true; the input reads as it did. -/
def fnExactAllHitsSpec : ChangeSpec := { name := "fnExactAllHits", fn := fun _ => fun
  | [d1, d2] => { results := [.lit (.bool true)], args := [d1, d2] }
  | _ => none }
def fnExactAllHitsRow : OpenClaim := { program := "ytngmaeinehfimaa", sum := "e29297a3c080928395d576bd7a28bc24130c86d95a12a837020111911b125798", func := "loop.example/g00053/laws.FnExactAllHits", spec := "fnExactAllHits", unfollowed := true, recurses := true, apart := false }
def FnExactAllHitsSaid : Prop := fnExactAllHitsRow.holds Try.pinned (OpenSpec.ofChange fnExactAllHitsSpec)

/-- ITS FALSE NEIGHBOUR: 'it returns false'. Refute it at one input. -/
def fnExactAllHitsWrong : ChangeSpec := { name := "fnExactAllHits", fn := fun _ => fun
  | [d1, d2] => { results := [.lit (.bool false)], args := [d1, d2] }
  | _ => none }
def FnExactAllHitsWrongFalsely : Prop := fnExactAllHitsRow.holds Try.pinned (OpenSpec.ofChange fnExactAllHitsWrong)

/- THE SECOND FORM. 'bulk': how many values and letters a reading holds, each counted each time it is reached (what is shared counts as often as it is met; a slice's spare places count too). A statement '..UptoSaid' is the law's where the arguments, and the package variables that the reading takes, are together of bulk at most 1048576: NARROWER than '..Said'. Prove '..Said' where nothing that the law and all that it calls make is longer than what came in: it says more and counts as full. Else prove '..UptoSaid'. A law counts once. -/
mutual
def uptoBulk {H : Type} : DataW H → Nat
  | .lit (.string bytes) => bytes.length + 1
  | .lit _ => 1
  | .nil => 1
  | .ptr d => uptoBulk d + 1
  | .slice elems spare => uptoBulkAll elems + uptoBulkAll spare + 1
  | .agg parts => uptoBulkAll parts + 1
  | .iface _ d => uptoBulk d + 1
  | .map entries => uptoBulkEntries entries + 1
  | .held _ => 1
def uptoBulkAll {H : Type} : List (DataW H) → Nat
  | [] => 0
  | d :: r => uptoBulk d + uptoBulkAll r
def uptoBulkEntries {H : Type} : List (Lit × DataW H) → Nat
  | [] => 0
  | x :: r => uptoBulkEntry x + uptoBulkEntries r
def uptoBulkEntry {H : Type} : Lit × DataW H → Nat
  | (.string bytes, d) => bytes.length + uptoBulk d + 1
  | (_, d) => uptoBulk d + 1
 end
def uptoSmall : (H : Type) → List (DataW H) → Bool := fun _ ds => decide (uptoBulkAll ds ≤ 1048576)
def OpenSpec.upto (s : _root_.Go.ChangeSpec) : _root_.Go.OpenSpec := { _root_.Go.OpenSpec.ofChange s with cond := some uptoSmall }

/-- 'laws.FnExactGoodBlock', WHERE WHAT IT READS IS OF BULK AT MOST 1048576: true; the input reads as it did. -/
def fnExactGoodBlockUptoRow : OpenClaim := { program := "ytngmaeinehfimaa", sum := "e29297a3c080928395d576bd7a28bc24130c86d95a12a837020111911b125798", func := "loop.example/g00053/laws.FnExactGoodBlock", spec := "fnExactGoodBlock", apart := false, narrowed := true }
def FnExactGoodBlockUptoSaid : Prop := fnExactGoodBlockUptoRow.holds Try.pinned (OpenSpec.upto fnExactGoodBlockSpec)

/-- 'laws.FnExactGoodRay', WHERE WHAT IT READS IS OF BULK AT MOST 1048576: true; the input reads as it did. -/
def fnExactGoodRayUptoRow : OpenClaim := { program := "ytngmaeinehfimaa", sum := "e29297a3c080928395d576bd7a28bc24130c86d95a12a837020111911b125798", func := "loop.example/g00053/laws.FnExactGoodRay", spec := "fnExactGoodRay", unfollowed := true, recurses := true, apart := false, narrowed := true }
def FnExactGoodRayUptoSaid : Prop := fnExactGoodRayUptoRow.holds Try.pinned (OpenSpec.upto fnExactGoodRaySpec)

/-- 'laws.FnExactHitBlock', WHERE WHAT IT READS IS OF BULK AT MOST 1048576: true; the input reads as it did. -/
def fnExactHitBlockUptoRow : OpenClaim := { program := "ytngmaeinehfimaa", sum := "e29297a3c080928395d576bd7a28bc24130c86d95a12a837020111911b125798", func := "loop.example/g00053/laws.FnExactHitBlock", spec := "fnExactHitBlock", unfollowed := true, recurses := true, apart := false, narrowed := true }
def FnExactHitBlockUptoSaid : Prop := fnExactHitBlockUptoRow.holds Try.pinned (OpenSpec.upto fnExactHitBlockSpec)

/-- 'laws.FnExactFirstHit', WHERE WHAT IT READS IS OF BULK AT MOST 1048576: true; the input reads as it did. -/
def fnExactFirstHitUptoRow : OpenClaim := { program := "ytngmaeinehfimaa", sum := "e29297a3c080928395d576bd7a28bc24130c86d95a12a837020111911b125798", func := "loop.example/g00053/laws.FnExactFirstHit", spec := "fnExactFirstHit", unfollowed := true, recurses := true, apart := false, narrowed := true }
def FnExactFirstHitUptoSaid : Prop := fnExactFirstHitUptoRow.holds Try.pinned (OpenSpec.upto fnExactFirstHitSpec)

/-- 'laws.FnExactTreeOf', WHERE WHAT IT READS IS OF BULK AT MOST 1048576: true; the input reads as it did. -/
def fnExactTreeOfUptoRow : OpenClaim := { program := "ytngmaeinehfimaa", sum := "e29297a3c080928395d576bd7a28bc24130c86d95a12a837020111911b125798", func := "loop.example/g00053/laws.FnExactTreeOf", spec := "fnExactTreeOf", unfollowed := true, recurses := true, apart := false, narrowed := true }
def FnExactTreeOfUptoSaid : Prop := fnExactTreeOfUptoRow.holds Try.pinned (OpenSpec.upto fnExactTreeOfSpec)

/-- 'laws.FnExactGoodTwigs', WHERE WHAT IT READS IS OF BULK AT MOST 1048576: true; the input reads as it did. -/
def fnExactGoodTwigsUptoRow : OpenClaim := { program := "ytngmaeinehfimaa", sum := "e29297a3c080928395d576bd7a28bc24130c86d95a12a837020111911b125798", func := "loop.example/g00053/laws.FnExactGoodTwigs", spec := "fnExactGoodTwigs", unfollowed := true, recurses := true, apart := false, narrowed := true }
def FnExactGoodTwigsUptoSaid : Prop := fnExactGoodTwigsUptoRow.holds Try.pinned (OpenSpec.upto fnExactGoodTwigsSpec)

/-- 'laws.FnExactTreeHit', WHERE WHAT IT READS IS OF BULK AT MOST 1048576: true; the input reads as it did. -/
def fnExactTreeHitUptoRow : OpenClaim := { program := "ytngmaeinehfimaa", sum := "e29297a3c080928395d576bd7a28bc24130c86d95a12a837020111911b125798", func := "loop.example/g00053/laws.FnExactTreeHit", spec := "fnExactTreeHit", unfollowed := true, recurses := true, apart := false, narrowed := true }
def FnExactTreeHitUptoSaid : Prop := fnExactTreeHitUptoRow.holds Try.pinned (OpenSpec.upto fnExactTreeHitSpec)

/-- 'laws.FnExactAllHits', WHERE WHAT IT READS IS OF BULK AT MOST 1048576: true; the input reads as it did. -/
def fnExactAllHitsUptoRow : OpenClaim := { program := "ytngmaeinehfimaa", sum := "e29297a3c080928395d576bd7a28bc24130c86d95a12a837020111911b125798", func := "loop.example/g00053/laws.FnExactAllHits", spec := "fnExactAllHits", unfollowed := true, recurses := true, apart := false, narrowed := true }
def FnExactAllHitsUptoSaid : Prop := fnExactAllHitsUptoRow.holds Try.pinned (OpenSpec.upto fnExactAllHitsSpec)

end Rows
end Go.Proofs.Ytngmaeinehfimaa
