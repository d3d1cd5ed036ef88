/-
  DERIVED. GIVEN WITH THE SEED: THE CARDS: each row of YtfogppgpbcelgaaDoorRows.lean that lists a variable, with what it lists TIED to the program's text (the seventh form; the later family's looks); each row that meets fmt, with fmt's text TOLD by the authors' own Lean function (tested against real Go, not proved from fmt's source: count such statements apart). THE CARD IS WHAT COUNTS. Prove the row's statement (the work); the ties are given (YtfogppgpbcelgaaDoorTie.lean); close each card by the builder's one call (the guide's Derived/Test/ToyasCard.lean, 'card_holds'). Laid BY PROGRAM, IN A SANDBOX (cutbox-door.mjs). By AI agents, Wed Nov 11 2026. No macro, syntax, notation, axiom, sorry.
-/
import Derived.Test.YtfogppgpbcelgaaDoorRows
import GoSem.ClaimSeven
namespace Go.Proofs.YtfogppgpbcelgaaDoor
namespace Rows

/-- THE TIED CARD OF 'laws.FnExactToFloat'. -/
def fnExactToFloatCard : Claim7 := { stood := { row := fnExactToFloatRow, standIns := [], harness := (true, "b59eb3a4837112ebc0d8df3c4b23c43acd170624857fdb2c0e3907d4163bd818"), looks := false }, kinds := [], alts := [], laidByText := true, laidKinds := [.data], laidTests := true, laidLooks := .later }
def FnExactToFloatCardSaid : Prop := Claim7.holds Tryd.pinned (.plain (OpenSpec.ofChange fnExactToFloatSpec)) fnExactToFloatCard

/-- THE TIED CARD OF 'laws.FnExactToWhole'. -/
def fnExactToWholeCard : Claim7 := { stood := { row := fnExactToWholeRow, standIns := [], harness := (true, "b59eb3a4837112ebc0d8df3c4b23c43acd170624857fdb2c0e3907d4163bd818"), looks := false }, kinds := [], alts := [], laidByText := true, laidKinds := [.data], laidTests := true, laidLooks := .later }
def FnExactToWholeCardSaid : Prop := Claim7.holds Tryd.pinned (.plain (OpenSpec.ofChange fnExactToWholeSpec)) fnExactToWholeCard

/-- THE SECOND FORM's CARD OF 'laws.FnExactToFloat'. -/
def fnExactToFloatUptoCard : Claim7 := { stood := { row := fnExactToFloatUptoRow, standIns := [], harness := (true, "b59eb3a4837112ebc0d8df3c4b23c43acd170624857fdb2c0e3907d4163bd818"), looks := false }, kinds := [], alts := [], laidByText := true, laidKinds := [.data], laidTests := true, laidLooks := .later }
def FnExactToFloatUptoCardSaid : Prop := Claim7.holds Tryd.pinned (.plain (OpenSpec.upto fnExactToFloatSpec)) fnExactToFloatUptoCard

/-- THE SECOND FORM's CARD OF 'laws.FnExactToWhole'. -/
def fnExactToWholeUptoCard : Claim7 := { stood := { row := fnExactToWholeUptoRow, standIns := [], harness := (true, "b59eb3a4837112ebc0d8df3c4b23c43acd170624857fdb2c0e3907d4163bd818"), looks := false }, kinds := [], alts := [], laidByText := true, laidKinds := [.data], laidTests := true, laidLooks := .later }
def FnExactToWholeUptoCardSaid : Prop := Claim7.holds Tryd.pinned (.plain (OpenSpec.upto fnExactToWholeSpec)) fnExactToWholeUptoCard
end Rows
end Go.Proofs.YtfogppgpbcelgaaDoor
