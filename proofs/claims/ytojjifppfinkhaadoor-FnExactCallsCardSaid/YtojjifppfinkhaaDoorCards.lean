/-
  DERIVED. GIVEN WITH THE SEED: THE CARDS: each row of YtojjifppfinkhaaDoorRows.lean that lists a variable, with what it lists TIED to the program's text (the seventh form; the later family's looks); each row that meets fmt, with fmt's text TOLD by the authors' own Lean function (tested against real Go, not proved from fmt's source: count such statements apart). THE CARD IS WHAT COUNTS. Prove the row's statement (the work); the ties are given (YtojjifppfinkhaaDoorTie.lean); close each card by the builder's one call (the guide's Derived/Test/ToyasCard.lean, 'card_holds'). Laid BY PROGRAM, IN A SANDBOX (cutbox-door.mjs). By AI agents, Wed Nov 11 2026. No macro, syntax, notation, axiom, sorry.
-/
import Derived.Test.YtojjifppfinkhaaDoorRows
import GoSem.ClaimSeven
namespace Go.Proofs.YtojjifppfinkhaaDoor
namespace Rows

/-- THE TIED CARD OF 'laws.FnExactCalls'. -/
def fnExactCallsCard : Claim7 := { stood := { row := fnExactCallsRow, standIns := [], harness := (true, "c1205a21742e9b1672c9cdc74044d0e897825b1608380608a46c0c9106bb8046"), looks := false }, kinds := [], alts := [], laidByText := true, laidKinds := [.data], laidTests := true, laidLooks := .later }
def FnExactCallsCardSaid : Prop := Claim7.holds Tryd.pinned (.plain (OpenSpec.ofChange fnExactCallsSpec)) fnExactCallsCard

/-- THE TIED CARD OF 'laws.FnExactCallArity'. -/
def fnExactCallArityCard : Claim7 := { stood := { row := fnExactCallArityRow, standIns := [], harness := (true, "c1205a21742e9b1672c9cdc74044d0e897825b1608380608a46c0c9106bb8046"), looks := false }, kinds := [], alts := [], laidByText := true, laidKinds := [.data], laidTests := true, laidLooks := .later }
def FnExactCallArityCardSaid : Prop := Claim7.holds Tryd.pinned (.plain (OpenSpec.ofChange fnExactCallAritySpec)) fnExactCallArityCard

/-- THE SECOND FORM's CARD OF 'laws.FnExactCalls'. -/
def fnExactCallsUptoCard : Claim7 := { stood := { row := fnExactCallsUptoRow, standIns := [], harness := (true, "c1205a21742e9b1672c9cdc74044d0e897825b1608380608a46c0c9106bb8046"), looks := false }, kinds := [], alts := [], laidByText := true, laidKinds := [.data], laidTests := true, laidLooks := .later }
def FnExactCallsUptoCardSaid : Prop := Claim7.holds Tryd.pinned (.plain (OpenSpec.upto fnExactCallsSpec)) fnExactCallsUptoCard

/-- THE SECOND FORM's CARD OF 'laws.FnExactCallArity'. -/
def fnExactCallArityUptoCard : Claim7 := { stood := { row := fnExactCallArityUptoRow, standIns := [], harness := (true, "c1205a21742e9b1672c9cdc74044d0e897825b1608380608a46c0c9106bb8046"), looks := false }, kinds := [], alts := [], laidByText := true, laidKinds := [.data], laidTests := true, laidLooks := .later }
def FnExactCallArityUptoCardSaid : Prop := Claim7.holds Tryd.pinned (.plain (OpenSpec.upto fnExactCallAritySpec)) fnExactCallArityUptoCard
end Rows
end Go.Proofs.YtojjifppfinkhaaDoor
