/-
  DERIVED. GIVEN WITH THE SEED: THE CARDS: each row of YtlcfpcapefeajaaDoorRows.lean that lists a variable, with what it lists TIED to the program's text (the seventh form; the later family's looks); each row that meets fmt, with fmt's text TOLD by the authors' own Lean function (tested against real Go, not proved from fmt's source: count such statements apart). THE CARD IS WHAT COUNTS. Prove the row's statement (the work); the ties are given (YtlcfpcapefeajaaDoorTie.lean); close each card by the builder's one call (the guide's Derived/Test/ToyasCard.lean, 'card_holds'). Laid BY PROGRAM, IN A SANDBOX (cutbox-door.mjs). By AI agents, Wed Nov 11 2026. No macro, syntax, notation, axiom, sorry.
-/
import Derived.Test.YtlcfpcapefeajaaDoorRows
import GoSem.ClaimSeven
namespace Go.Proofs.YtlcfpcapefeajaaDoor
namespace Rows

/-- THE TIED CARD OF 'laws.FnExactAddCw'. -/
def fnExactAddCwCard : Claim7 := { stood := { row := fnExactAddCwRow, standIns := [], harness := (true, "be5ba0ba2bca1d6ad39a84350c89469f015f184b9ee942d3232ad4c63175aa12"), looks := false }, kinds := [], alts := [], laidByText := true, laidKinds := [.data], laidTests := true, laidLooks := .later }
def FnExactAddCwCardSaid : Prop := Claim7.holds Tryd.pinned (.plain (OpenSpec.ofChange fnExactAddCwSpec)) fnExactAddCwCard

/-- THE TIED CARD OF 'laws.FnExactMulCw'. -/
def fnExactMulCwCard : Claim7 := { stood := { row := fnExactMulCwRow, standIns := [], harness := (true, "be5ba0ba2bca1d6ad39a84350c89469f015f184b9ee942d3232ad4c63175aa12"), looks := false }, kinds := [], alts := [], laidByText := true, laidKinds := [.data], laidTests := true, laidLooks := .later }
def FnExactMulCwCardSaid : Prop := Claim7.holds Tryd.pinned (.plain (OpenSpec.ofChange fnExactMulCwSpec)) fnExactMulCwCard

/-- THE TIED CARD OF 'laws.FnExactTurnCw'. -/
def fnExactTurnCwCard : Claim7 := { stood := { row := fnExactTurnCwRow, standIns := [], harness := (true, "be5ba0ba2bca1d6ad39a84350c89469f015f184b9ee942d3232ad4c63175aa12"), looks := false }, kinds := [], alts := [], laidByText := true, laidKinds := [.data], laidTests := true, laidLooks := .later }
def FnExactTurnCwCardSaid : Prop := Claim7.holds Tryd.pinned (.plain (OpenSpec.ofChange fnExactTurnCwSpec)) fnExactTurnCwCard

/-- THE TIED CARD OF 'laws.FnExactWavesCw'. -/
def fnExactWavesCwCard : Claim7 := { stood := { row := fnExactWavesCwRow, standIns := [], harness := (true, "be5ba0ba2bca1d6ad39a84350c89469f015f184b9ee942d3232ad4c63175aa12"), looks := false }, kinds := [], alts := [], laidByText := true, laidKinds := [.data], laidTests := true, laidLooks := .later }
def FnExactWavesCwCardSaid : Prop := Claim7.holds Tryd.pinned (.plain (OpenSpec.ofChange fnExactWavesCwSpec)) fnExactWavesCwCard

/-- THE TIED CARD OF 'laws.FnExactFirstLane'. -/
def fnExactFirstLaneCard : Claim7 := { stood := { row := fnExactFirstLaneRow, standIns := [], harness := (true, "be5ba0ba2bca1d6ad39a84350c89469f015f184b9ee942d3232ad4c63175aa12"), looks := false }, kinds := [], alts := [], laidByText := true, laidKinds := [.data, .data], laidTests := true, laidLooks := .later }
def FnExactFirstLaneCardSaid : Prop := Claim7.holds Tryd.pinned (.plain (OpenSpec.ofChange fnExactFirstLaneSpec)) fnExactFirstLaneCard

/-- THE TIED CARD OF 'laws.FnExactSumFloats'. -/
def fnExactSumFloatsCard : Claim7 := { stood := { row := fnExactSumFloatsRow, standIns := [], harness := (true, "be5ba0ba2bca1d6ad39a84350c89469f015f184b9ee942d3232ad4c63175aa12"), looks := false }, kinds := [], alts := [], laidByText := true, laidKinds := [.data], laidTests := true, laidLooks := .later }
def FnExactSumFloatsCardSaid : Prop := Claim7.holds Tryd.pinned (.plain (OpenSpec.ofChange fnExactSumFloatsSpec)) fnExactSumFloatsCard

/-- THE SECOND FORM's CARD OF 'laws.FnExactAddCw'. -/
def fnExactAddCwUptoCard : Claim7 := { stood := { row := fnExactAddCwUptoRow, standIns := [], harness := (true, "be5ba0ba2bca1d6ad39a84350c89469f015f184b9ee942d3232ad4c63175aa12"), looks := false }, kinds := [], alts := [], laidByText := true, laidKinds := [.data], laidTests := true, laidLooks := .later }
def FnExactAddCwUptoCardSaid : Prop := Claim7.holds Tryd.pinned (.plain (OpenSpec.upto fnExactAddCwSpec)) fnExactAddCwUptoCard

/-- THE SECOND FORM's CARD OF 'laws.FnExactMulCw'. -/
def fnExactMulCwUptoCard : Claim7 := { stood := { row := fnExactMulCwUptoRow, standIns := [], harness := (true, "be5ba0ba2bca1d6ad39a84350c89469f015f184b9ee942d3232ad4c63175aa12"), looks := false }, kinds := [], alts := [], laidByText := true, laidKinds := [.data], laidTests := true, laidLooks := .later }
def FnExactMulCwUptoCardSaid : Prop := Claim7.holds Tryd.pinned (.plain (OpenSpec.upto fnExactMulCwSpec)) fnExactMulCwUptoCard

/-- THE SECOND FORM's CARD OF 'laws.FnExactTurnCw'. -/
def fnExactTurnCwUptoCard : Claim7 := { stood := { row := fnExactTurnCwUptoRow, standIns := [], harness := (true, "be5ba0ba2bca1d6ad39a84350c89469f015f184b9ee942d3232ad4c63175aa12"), looks := false }, kinds := [], alts := [], laidByText := true, laidKinds := [.data], laidTests := true, laidLooks := .later }
def FnExactTurnCwUptoCardSaid : Prop := Claim7.holds Tryd.pinned (.plain (OpenSpec.upto fnExactTurnCwSpec)) fnExactTurnCwUptoCard

/-- THE SECOND FORM's CARD OF 'laws.FnExactWavesCw'. -/
def fnExactWavesCwUptoCard : Claim7 := { stood := { row := fnExactWavesCwUptoRow, standIns := [], harness := (true, "be5ba0ba2bca1d6ad39a84350c89469f015f184b9ee942d3232ad4c63175aa12"), looks := false }, kinds := [], alts := [], laidByText := true, laidKinds := [.data], laidTests := true, laidLooks := .later }
def FnExactWavesCwUptoCardSaid : Prop := Claim7.holds Tryd.pinned (.plain (OpenSpec.upto fnExactWavesCwSpec)) fnExactWavesCwUptoCard

/-- THE SECOND FORM's CARD OF 'laws.FnExactFirstLane'. -/
def fnExactFirstLaneUptoCard : Claim7 := { stood := { row := fnExactFirstLaneUptoRow, standIns := [], harness := (true, "be5ba0ba2bca1d6ad39a84350c89469f015f184b9ee942d3232ad4c63175aa12"), looks := false }, kinds := [], alts := [], laidByText := true, laidKinds := [.data, .data], laidTests := true, laidLooks := .later }
def FnExactFirstLaneUptoCardSaid : Prop := Claim7.holds Tryd.pinned (.plain (OpenSpec.upto fnExactFirstLaneSpec)) fnExactFirstLaneUptoCard

/-- THE SECOND FORM's CARD OF 'laws.FnExactSumFloats'. -/
def fnExactSumFloatsUptoCard : Claim7 := { stood := { row := fnExactSumFloatsUptoRow, standIns := [], harness := (true, "be5ba0ba2bca1d6ad39a84350c89469f015f184b9ee942d3232ad4c63175aa12"), looks := false }, kinds := [], alts := [], laidByText := true, laidKinds := [.data], laidTests := true, laidLooks := .later }
def FnExactSumFloatsUptoCardSaid : Prop := Claim7.holds Tryd.pinned (.plain (OpenSpec.upto fnExactSumFloatsSpec)) fnExactSumFloatsUptoCard
end Rows
end Go.Proofs.YtlcfpcapefeajaaDoor
