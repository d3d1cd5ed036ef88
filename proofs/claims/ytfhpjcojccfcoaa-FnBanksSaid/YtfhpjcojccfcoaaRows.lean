/-
  No cell of these rows narrows 'for every input' (looked for: loops, veiled, ifaces, maps, wideKeys, modest, calm, conditions, laid).
  DERIVED. THE GIVEN ROWS OF THIS SEAT. 8 by the template 'for every input the law returns true; each argument reads behind the call as it read before'; 0 by the template 'total and deterministic' (their statements: YtfhpjcojccfcoaaTotals.lean).
  GIVEN WITH THE SEED: the statements are not yours to turn. If you find one false, say at which input.
  Laid BY PROGRAM, IN A SANDBOX (cutbox-rows.mjs): the forced cells as the released guide's own fill.sh prints them over the translation 18c5bacdcf61d802… (all of the seat's roots in one cut). By AI agents, Wed Nov 11 2026. No macro, syntax, notation, axiom, sorry.
-/
import Derived.Test.YtfhpjcojccfcoaaChecked
import GoSem.Claim
import GoSem.ClaimJoined
import GoSem.ClaimMapViews
import Derived.JoinedTies
import Derived.KernelRfl
namespace Go.Proofs.Ytfhpjcojccfcoaa
/- THE CELL 'sum', in the pinned program and in every row, IS THE sha256 OF THE DUMP (.gsa) THAT YtfhpjcojccfcoaaProg.lean LOADS. Nothing in Lean hashes anything: it is a label: what it is worth is what the hold of that sum in a sandbox is worth. -/
noncomputable def Try.pinned : Pinned := { name := "ytfhpjcojccfcoaa", sum := "18c5bacdcf61d80249302f1c2c939423c96e22a0d88a16071478d8e54ae90f9f", checked := Try.checked }
namespace Rows
def none {H : Type} : Left H := { results := [], args := [] }

/-- 'laws.FnBanks': WHATEVER THE INPUT: true; the input reads as it did. -/
def fnBanksSpec : ChangeSpec := { name := "fnBanks", fn := fun _ => fun
  | [d1, d2] => { results := [.lit (.bool true)], args := [d1, d2] }
  | _ => none }
def fnBanksRow : OpenClaim := { program := "ytfhpjcojccfcoaa", sum := "18c5bacdcf61d80249302f1c2c939423c96e22a0d88a16071478d8e54ae90f9f", func := "loop.example/g00053/laws.FnBanks", spec := "fnBanks", unfollowed := true, recurses := true, apart := false }
def FnBanksSaid : Prop := fnBanksRow.holds Try.pinned (OpenSpec.ofChange fnBanksSpec)

/-- ITS FALSE NEIGHBOUR: 'it returns false'. Refute it at one input. -/
def fnBanksWrong : ChangeSpec := { name := "fnBanks", fn := fun _ => fun
  | [d1, d2] => { results := [.lit (.bool false)], args := [d1, d2] }
  | _ => none }
def FnBanksWrongFalsely : Prop := fnBanksRow.holds Try.pinned (OpenSpec.ofChange fnBanksWrong)

/-- 'laws.FnExactBankTurns': WHATEVER THE INPUT: true; the input reads as it did. -/
def fnExactBankTurnsSpec : ChangeSpec := { name := "fnExactBankTurns", fn := fun _ => fun
  | [d1, d2] => { results := [.lit (.bool true)], args := [d1, d2] }
  | _ => none }
def fnExactBankTurnsRow : OpenClaim := { program := "ytfhpjcojccfcoaa", sum := "18c5bacdcf61d80249302f1c2c939423c96e22a0d88a16071478d8e54ae90f9f", func := "loop.example/g00053/laws.FnExactBankTurns", spec := "fnExactBankTurns", unfollowed := true, recurses := true, apart := false }
def FnExactBankTurnsSaid : Prop := fnExactBankTurnsRow.holds Try.pinned (OpenSpec.ofChange fnExactBankTurnsSpec)

/-- ITS FALSE NEIGHBOUR: 'it returns false'. Refute it at one input. -/
def fnExactBankTurnsWrong : ChangeSpec := { name := "fnExactBankTurns", fn := fun _ => fun
  | [d1, d2] => { results := [.lit (.bool false)], args := [d1, d2] }
  | _ => none }
def FnExactBankTurnsWrongFalsely : Prop := fnExactBankTurnsRow.holds Try.pinned (OpenSpec.ofChange fnExactBankTurnsWrong)

/-- 'laws.FnExactCoalesced': WHATEVER THE INPUT: true; the input reads as it did. -/
def fnExactCoalescedSpec : ChangeSpec := { name := "fnExactCoalesced", fn := fun _ => fun
  | [d1, d2, d3] => { results := [.lit (.bool true)], args := [d1, d2, d3] }
  | _ => none }
def fnExactCoalescedRow : OpenClaim := { program := "ytfhpjcojccfcoaa", sum := "18c5bacdcf61d80249302f1c2c939423c96e22a0d88a16071478d8e54ae90f9f", func := "loop.example/g00053/laws.FnExactCoalesced", spec := "fnExactCoalesced", unfollowed := true, recurses := true, apart := false }
def FnExactCoalescedSaid : Prop := fnExactCoalescedRow.holds Try.pinned (OpenSpec.ofChange fnExactCoalescedSpec)

/-- ITS FALSE NEIGHBOUR: 'it returns false'. Refute it at one input. -/
def fnExactCoalescedWrong : ChangeSpec := { name := "fnExactCoalesced", fn := fun _ => fun
  | [d1, d2, d3] => { results := [.lit (.bool false)], args := [d1, d2, d3] }
  | _ => none }
def FnExactCoalescedWrongFalsely : Prop := fnExactCoalescedRow.holds Try.pinned (OpenSpec.ofChange fnExactCoalescedWrong)

/-- 'laws.FnExactNewCache': WHATEVER THE INPUT: true; the input reads as it did. -/
def fnExactNewCacheSpec : ChangeSpec := { name := "fnExactNewCache", fn := fun _ => fun
  | [d1, d2, d3, d4] => { results := [.lit (.bool true)], args := [d1, d2, d3, d4] }
  | _ => none }
def fnExactNewCacheRow : OpenClaim := { program := "ytfhpjcojccfcoaa", sum := "18c5bacdcf61d80249302f1c2c939423c96e22a0d88a16071478d8e54ae90f9f", func := "loop.example/g00053/laws.FnExactNewCache", spec := "fnExactNewCache", unfollowed := true, recurses := true, apart := false }
def FnExactNewCacheSaid : Prop := fnExactNewCacheRow.holds Try.pinned (OpenSpec.ofChange fnExactNewCacheSpec)

/-- ITS FALSE NEIGHBOUR: 'it returns false'. Refute it at one input. -/
def fnExactNewCacheWrong : ChangeSpec := { name := "fnExactNewCache", fn := fun _ => fun
  | [d1, d2, d3, d4] => { results := [.lit (.bool false)], args := [d1, d2, d3, d4] }
  | _ => none }
def FnExactNewCacheWrongFalsely : Prop := fnExactNewCacheRow.holds Try.pinned (OpenSpec.ofChange fnExactNewCacheWrong)

/-- 'laws.FnExactGoodCache': WHATEVER THE INPUT: true; the input reads as it did. -/
def fnExactGoodCacheSpec : ChangeSpec := { name := "fnExactGoodCache", fn := fun _ => fun
  | [d] => { results := [.lit (.bool true)], args := [d] }
  | _ => none }
def fnExactGoodCacheRow : OpenClaim := { program := "ytfhpjcojccfcoaa", sum := "18c5bacdcf61d80249302f1c2c939423c96e22a0d88a16071478d8e54ae90f9f", func := "loop.example/g00053/laws.FnExactGoodCache", spec := "fnExactGoodCache", unfollowed := true, recurses := true, apart := false }
def FnExactGoodCacheSaid : Prop := fnExactGoodCacheRow.holds Try.pinned (OpenSpec.ofChange fnExactGoodCacheSpec)

/-- ITS FALSE NEIGHBOUR: 'it returns false'. Refute it at one input. -/
def fnExactGoodCacheWrong : ChangeSpec := { name := "fnExactGoodCache", fn := fun _ => fun
  | [d] => { results := [.lit (.bool false)], args := [d] }
  | _ => none }
def FnExactGoodCacheWrongFalsely : Prop := fnExactGoodCacheRow.holds Try.pinned (OpenSpec.ofChange fnExactGoodCacheWrong)

/-- 'laws.FnExactCacheRead': WHATEVER THE INPUT: true; the input reads as it did. -/
def fnExactCacheReadSpec : ChangeSpec := { name := "fnExactCacheRead", fn := fun _ => fun
  | [d1, d2] => { results := [.lit (.bool true)], args := [d1, d2] }
  | _ => none }
def fnExactCacheReadRow : OpenClaim := { program := "ytfhpjcojccfcoaa", sum := "18c5bacdcf61d80249302f1c2c939423c96e22a0d88a16071478d8e54ae90f9f", func := "loop.example/g00053/laws.FnExactCacheRead", spec := "fnExactCacheRead", unfollowed := true, recurses := true, apart := false }
def FnExactCacheReadSaid : Prop := fnExactCacheReadRow.holds Try.pinned (OpenSpec.ofChange fnExactCacheReadSpec)

/-- ITS FALSE NEIGHBOUR: 'it returns false'. Refute it at one input. -/
def fnExactCacheReadWrong : ChangeSpec := { name := "fnExactCacheRead", fn := fun _ => fun
  | [d1, d2] => { results := [.lit (.bool false)], args := [d1, d2] }
  | _ => none }
def FnExactCacheReadWrongFalsely : Prop := fnExactCacheReadRow.holds Try.pinned (OpenSpec.ofChange fnExactCacheReadWrong)

/-- 'laws.FnExactCacheAll': WHATEVER THE INPUT: true; the input reads as it did. -/
def fnExactCacheAllSpec : ChangeSpec := { name := "fnExactCacheAll", fn := fun _ => fun
  | [d1, d2] => { results := [.lit (.bool true)], args := [d1, d2] }
  | _ => none }
def fnExactCacheAllRow : OpenClaim := { program := "ytfhpjcojccfcoaa", sum := "18c5bacdcf61d80249302f1c2c939423c96e22a0d88a16071478d8e54ae90f9f", func := "loop.example/g00053/laws.FnExactCacheAll", spec := "fnExactCacheAll", unfollowed := true, recurses := true, apart := false }
def FnExactCacheAllSaid : Prop := fnExactCacheAllRow.holds Try.pinned (OpenSpec.ofChange fnExactCacheAllSpec)

/-- ITS FALSE NEIGHBOUR: 'it returns false'. Refute it at one input. -/
def fnExactCacheAllWrong : ChangeSpec := { name := "fnExactCacheAll", fn := fun _ => fun
  | [d1, d2] => { results := [.lit (.bool false)], args := [d1, d2] }
  | _ => none }
def FnExactCacheAllWrongFalsely : Prop := fnExactCacheAllRow.holds Try.pinned (OpenSpec.ofChange fnExactCacheAllWrong)

/-- 'laws.FnExactLeastMisses': WHATEVER THE INPUT: true; the input reads as it did. -/
def fnExactLeastMissesSpec : ChangeSpec := { name := "fnExactLeastMisses", fn := fun _ => fun
  | [d1, d2, d3] => { results := [.lit (.bool true)], args := [d1, d2, d3] }
  | _ => none }
def fnExactLeastMissesRow : OpenClaim := { program := "ytfhpjcojccfcoaa", sum := "18c5bacdcf61d80249302f1c2c939423c96e22a0d88a16071478d8e54ae90f9f", func := "loop.example/g00053/laws.FnExactLeastMisses", spec := "fnExactLeastMisses", unfollowed := true, recurses := true, apart := false }
def FnExactLeastMissesSaid : Prop := fnExactLeastMissesRow.holds Try.pinned (OpenSpec.ofChange fnExactLeastMissesSpec)

/-- ITS FALSE NEIGHBOUR: 'it returns false'. Refute it at one input. -/
def fnExactLeastMissesWrong : ChangeSpec := { name := "fnExactLeastMisses", fn := fun _ => fun
  | [d1, d2, d3] => { results := [.lit (.bool false)], args := [d1, d2, d3] }
  | _ => none }
def FnExactLeastMissesWrongFalsely : Prop := fnExactLeastMissesRow.holds Try.pinned (OpenSpec.ofChange fnExactLeastMissesWrong)

/- THE SECOND FORM. 'bulk': how many values and letters a reading holds, each counted each time it is reached (what is shared counts as often as it is met; a slice's spare places count too). A statement '..UptoSaid' is the law's where the arguments, and the package variables that the reading takes, are together of bulk at most 1048576: NARROWER than '..Said'. Prove '..Said' where nothing that the law and all that it calls make is longer than what came in: it says more and counts as full. Else prove '..UptoSaid'. A law counts once. -/
mutual
def uptoBulk {H : Type} : DataW H → Nat
  | .lit (.string bytes) => bytes.length + 1
  | .lit _ => 1
  | .nil => 1
  | .ptr d => uptoBulk d + 1
  | .slice elems spare => uptoBulkAll elems + uptoBulkAll spare + 1
  | .agg parts => uptoBulkAll parts + 1
  | .iface _ d => uptoBulk d + 1
  | .map entries => uptoBulkEntries entries + 1
  | .held _ => 1
def uptoBulkAll {H : Type} : List (DataW H) → Nat
  | [] => 0
  | d :: r => uptoBulk d + uptoBulkAll r
def uptoBulkEntries {H : Type} : List (Lit × DataW H) → Nat
  | [] => 0
  | x :: r => uptoBulkEntry x + uptoBulkEntries r
def uptoBulkEntry {H : Type} : Lit × DataW H → Nat
  | (.string bytes, d) => bytes.length + uptoBulk d + 1
  | (_, d) => uptoBulk d + 1
 end
def uptoSmall : (H : Type) → List (DataW H) → Bool := fun _ ds => decide (uptoBulkAll ds ≤ 1048576)
def OpenSpec.upto (s : _root_.Go.ChangeSpec) : _root_.Go.OpenSpec := { _root_.Go.OpenSpec.ofChange s with cond := some uptoSmall }

/-- 'laws.FnBanks', WHERE WHAT IT READS IS OF BULK AT MOST 1048576: true; the input reads as it did. -/
def fnBanksUptoRow : OpenClaim := { program := "ytfhpjcojccfcoaa", sum := "18c5bacdcf61d80249302f1c2c939423c96e22a0d88a16071478d8e54ae90f9f", func := "loop.example/g00053/laws.FnBanks", spec := "fnBanks", unfollowed := true, recurses := true, apart := false, narrowed := true }
def FnBanksUptoSaid : Prop := fnBanksUptoRow.holds Try.pinned (OpenSpec.upto fnBanksSpec)

/-- 'laws.FnExactBankTurns', WHERE WHAT IT READS IS OF BULK AT MOST 1048576: true; the input reads as it did. -/
def fnExactBankTurnsUptoRow : OpenClaim := { program := "ytfhpjcojccfcoaa", sum := "18c5bacdcf61d80249302f1c2c939423c96e22a0d88a16071478d8e54ae90f9f", func := "loop.example/g00053/laws.FnExactBankTurns", spec := "fnExactBankTurns", unfollowed := true, recurses := true, apart := false, narrowed := true }
def FnExactBankTurnsUptoSaid : Prop := fnExactBankTurnsUptoRow.holds Try.pinned (OpenSpec.upto fnExactBankTurnsSpec)

/-- 'laws.FnExactCoalesced', WHERE WHAT IT READS IS OF BULK AT MOST 1048576: true; the input reads as it did. -/
def fnExactCoalescedUptoRow : OpenClaim := { program := "ytfhpjcojccfcoaa", sum := "18c5bacdcf61d80249302f1c2c939423c96e22a0d88a16071478d8e54ae90f9f", func := "loop.example/g00053/laws.FnExactCoalesced", spec := "fnExactCoalesced", unfollowed := true, recurses := true, apart := false, narrowed := true }
def FnExactCoalescedUptoSaid : Prop := fnExactCoalescedUptoRow.holds Try.pinned (OpenSpec.upto fnExactCoalescedSpec)

/-- 'laws.FnExactNewCache', WHERE WHAT IT READS IS OF BULK AT MOST 1048576: true; the input reads as it did. -/
def fnExactNewCacheUptoRow : OpenClaim := { program := "ytfhpjcojccfcoaa", sum := "18c5bacdcf61d80249302f1c2c939423c96e22a0d88a16071478d8e54ae90f9f", func := "loop.example/g00053/laws.FnExactNewCache", spec := "fnExactNewCache", unfollowed := true, recurses := true, apart := false, narrowed := true }
def FnExactNewCacheUptoSaid : Prop := fnExactNewCacheUptoRow.holds Try.pinned (OpenSpec.upto fnExactNewCacheSpec)

/-- 'laws.FnExactGoodCache', WHERE WHAT IT READS IS OF BULK AT MOST 1048576: true; the input reads as it did. -/
def fnExactGoodCacheUptoRow : OpenClaim := { program := "ytfhpjcojccfcoaa", sum := "18c5bacdcf61d80249302f1c2c939423c96e22a0d88a16071478d8e54ae90f9f", func := "loop.example/g00053/laws.FnExactGoodCache", spec := "fnExactGoodCache", unfollowed := true, recurses := true, apart := false, narrowed := true }
def FnExactGoodCacheUptoSaid : Prop := fnExactGoodCacheUptoRow.holds Try.pinned (OpenSpec.upto fnExactGoodCacheSpec)

/-- 'laws.FnExactCacheRead', WHERE WHAT IT READS IS OF BULK AT MOST 1048576: true; the input reads as it did. -/
def fnExactCacheReadUptoRow : OpenClaim := { program := "ytfhpjcojccfcoaa", sum := "18c5bacdcf61d80249302f1c2c939423c96e22a0d88a16071478d8e54ae90f9f", func := "loop.example/g00053/laws.FnExactCacheRead", spec := "fnExactCacheRead", unfollowed := true, recurses := true, apart := false, narrowed := true }
def FnExactCacheReadUptoSaid : Prop := fnExactCacheReadUptoRow.holds Try.pinned (OpenSpec.upto fnExactCacheReadSpec)

/-- 'laws.FnExactCacheAll', WHERE WHAT IT READS IS OF BULK AT MOST 1048576: true; the input reads as it did. -/
def fnExactCacheAllUptoRow : OpenClaim := { program := "ytfhpjcojccfcoaa", sum := "18c5bacdcf61d80249302f1c2c939423c96e22a0d88a16071478d8e54ae90f9f", func := "loop.example/g00053/laws.FnExactCacheAll", spec := "fnExactCacheAll", unfollowed := true, recurses := true, apart := false, narrowed := true }
def FnExactCacheAllUptoSaid : Prop := fnExactCacheAllUptoRow.holds Try.pinned (OpenSpec.upto fnExactCacheAllSpec)

/-- 'laws.FnExactLeastMisses', WHERE WHAT IT READS IS OF BULK AT MOST 1048576: true; the input reads as it did. -/
def fnExactLeastMissesUptoRow : OpenClaim := { program := "ytfhpjcojccfcoaa", sum := "18c5bacdcf61d80249302f1c2c939423c96e22a0d88a16071478d8e54ae90f9f", func := "loop.example/g00053/laws.FnExactLeastMisses", spec := "fnExactLeastMisses", unfollowed := true, recurses := true, apart := false, narrowed := true }
def FnExactLeastMissesUptoSaid : Prop := fnExactLeastMissesUptoRow.holds Try.pinned (OpenSpec.upto fnExactLeastMissesSpec)

end Rows
end Go.Proofs.Ytfhpjcojccfcoaa
