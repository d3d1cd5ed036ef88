/-
  DERIVED. GIVEN WITH THE SEED: THE CARDS: each row of YtmeokhppaekhpaaDoorRows.lean that lists a variable, with what it lists TIED to the program's text (the seventh form; the later family's looks); each row that meets fmt, with fmt's text TOLD by the authors' own Lean function (tested against real Go, not proved from fmt's source: count such statements apart). THE CARD IS WHAT COUNTS. Prove the row's statement (the work); the ties are given (YtmeokhppaekhpaaDoorTie.lean); close each card by the builder's one call (the guide's Derived/Test/ToyasCard.lean, 'card_holds'). Laid BY PROGRAM, IN A SANDBOX (cutbox-door.mjs). By AI agents, Wed Nov 11 2026. No macro, syntax, notation, axiom, sorry.
-/
import Derived.Test.YtmeokhppaekhpaaDoorRows
import GoSem.ClaimSeven
namespace Go.Proofs.YtmeokhppaekhpaaDoor
namespace Rows

/-- THE TIED CARD OF 'laws.FnExactLiveOf'. -/
def fnExactLiveOfCard : Claim7 := { stood := { row := fnExactLiveOfRow, standIns := [], harness := (true, "1a0dd1f7d0d4398b7aac39267d7e04902d16985a36f805ea9072919cd56add0e"), looks := false }, kinds := [], alts := [], laidByText := true, laidKinds := [.data], laidTests := true, laidLooks := .later }
def FnExactLiveOfCardSaid : Prop := Claim7.holds Tryd.pinned (.plain (OpenSpec.ofChange fnExactLiveOfSpec)) fnExactLiveOfCard

/-- THE TIED CARD OF 'laws.FnExactClashesOf'. -/
def fnExactClashesOfCard : Claim7 := { stood := { row := fnExactClashesOfRow, standIns := [], harness := (true, "1a0dd1f7d0d4398b7aac39267d7e04902d16985a36f805ea9072919cd56add0e"), looks := false }, kinds := [], alts := [], laidByText := true, laidKinds := [.data], laidTests := true, laidLooks := .later }
def FnExactClashesOfCardSaid : Prop := Claim7.holds Tryd.pinned (.plain (OpenSpec.ofChange fnExactClashesOfSpec)) fnExactClashesOfCard

/-- THE TIED CARD OF 'laws.FnExactPressureOf'. -/
def fnExactPressureOfCard : Claim7 := { stood := { row := fnExactPressureOfRow, standIns := [], harness := (true, "1a0dd1f7d0d4398b7aac39267d7e04902d16985a36f805ea9072919cd56add0e"), looks := false }, kinds := [], alts := [], laidByText := true, laidKinds := [.data], laidTests := true, laidLooks := .later }
def FnExactPressureOfCardSaid : Prop := Claim7.holds Tryd.pinned (.plain (OpenSpec.ofChange fnExactPressureOfSpec)) fnExactPressureOfCard

/-- THE SECOND FORM's CARD OF 'laws.FnExactLiveOf'. -/
def fnExactLiveOfUptoCard : Claim7 := { stood := { row := fnExactLiveOfUptoRow, standIns := [], harness := (true, "1a0dd1f7d0d4398b7aac39267d7e04902d16985a36f805ea9072919cd56add0e"), looks := false }, kinds := [], alts := [], laidByText := true, laidKinds := [.data], laidTests := true, laidLooks := .later }
def FnExactLiveOfUptoCardSaid : Prop := Claim7.holds Tryd.pinned (.plain (OpenSpec.upto fnExactLiveOfSpec)) fnExactLiveOfUptoCard

/-- THE SECOND FORM's CARD OF 'laws.FnExactClashesOf'. -/
def fnExactClashesOfUptoCard : Claim7 := { stood := { row := fnExactClashesOfUptoRow, standIns := [], harness := (true, "1a0dd1f7d0d4398b7aac39267d7e04902d16985a36f805ea9072919cd56add0e"), looks := false }, kinds := [], alts := [], laidByText := true, laidKinds := [.data], laidTests := true, laidLooks := .later }
def FnExactClashesOfUptoCardSaid : Prop := Claim7.holds Tryd.pinned (.plain (OpenSpec.upto fnExactClashesOfSpec)) fnExactClashesOfUptoCard

/-- THE SECOND FORM's CARD OF 'laws.FnExactPressureOf'. -/
def fnExactPressureOfUptoCard : Claim7 := { stood := { row := fnExactPressureOfUptoRow, standIns := [], harness := (true, "1a0dd1f7d0d4398b7aac39267d7e04902d16985a36f805ea9072919cd56add0e"), looks := false }, kinds := [], alts := [], laidByText := true, laidKinds := [.data], laidTests := true, laidLooks := .later }
def FnExactPressureOfUptoCardSaid : Prop := Claim7.holds Tryd.pinned (.plain (OpenSpec.upto fnExactPressureOfSpec)) fnExactPressureOfUptoCard
end Rows
end Go.Proofs.YtmeokhppaekhpaaDoor
