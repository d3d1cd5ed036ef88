/-
  DERIVED. GIVEN WITH THE SEED: THE CARDS: each row of YtablacgmedkgjaaDoorRows.lean that lists a variable, with what it lists TIED to the program's text (the seventh form; the later family's looks); each row that meets fmt, with fmt's text TOLD by the authors' own Lean function (tested against real Go, not proved from fmt's source: count such statements apart). THE CARD IS WHAT COUNTS. Prove the row's statement (the work); the ties are given (YtablacgmedkgjaaDoorTie.lean); close each card by the builder's one call (the guide's Derived/Test/ToyasCard.lean, 'card_holds'). Laid BY PROGRAM, IN A SANDBOX (cutbox-door.mjs). By AI agents, Wed Nov 11 2026. No macro, syntax, notation, axiom, sorry.
-/
import Derived.Test.YtablacgmedkgjaaDoorRows
import GoSem.ClaimSeven
namespace Go.Proofs.YtablacgmedkgjaaDoor
namespace Rows

/-- THE TIED CARD OF 'laws.FnExactGoodCode'. -/
def fnExactGoodCodeCard : Claim7 := { stood := { row := fnExactGoodCodeRow, standIns := [], harness := (true, "7639a83674f2cebee865a6a8212ee35b59ae0c32717fc273c2a8e2c6d26bc825"), looks := false }, kinds := [], alts := [], laidByText := true, laidKinds := [.data], laidTests := true, laidLooks := .later }
def FnExactGoodCodeCardSaid : Prop := Claim7.holds Tryd.pinned (.plain (OpenSpec.ofChange fnExactGoodCodeSpec)) fnExactGoodCodeCard

/-- THE TIED CARD OF 'laws.FnExactRegsOf'. -/
def fnExactRegsOfCard : Claim7 := { stood := { row := fnExactRegsOfRow, standIns := [], harness := (true, "7639a83674f2cebee865a6a8212ee35b59ae0c32717fc273c2a8e2c6d26bc825"), looks := false }, kinds := [], alts := [], laidByText := true, laidKinds := [.data], laidTests := true, laidLooks := .later }
def FnExactRegsOfCardSaid : Prop := Claim7.holds Tryd.pinned (.plain (OpenSpec.ofChange fnExactRegsOfSpec)) fnExactRegsOfCard

/-- THE TIED CARD OF 'laws.FnExactReadsOf'. -/
def fnExactReadsOfCard : Claim7 := { stood := { row := fnExactReadsOfRow, standIns := [], harness := (true, "7639a83674f2cebee865a6a8212ee35b59ae0c32717fc273c2a8e2c6d26bc825"), looks := false }, kinds := [], alts := [], laidByText := true, laidKinds := [.data], laidTests := true, laidLooks := .later }
def FnExactReadsOfCardSaid : Prop := Claim7.holds Tryd.pinned (.plain (OpenSpec.ofChange fnExactReadsOfSpec)) fnExactReadsOfCard

/-- THE TIED CARD OF 'laws.FnExactEncodeCode'. -/
def fnExactEncodeCodeCard : Claim7 := { stood := { row := fnExactEncodeCodeRow, standIns := [], harness := (true, "7639a83674f2cebee865a6a8212ee35b59ae0c32717fc273c2a8e2c6d26bc825"), looks := false }, kinds := [], alts := [], laidByText := true, laidKinds := [.data], laidTests := true, laidLooks := .later }
def FnExactEncodeCodeCardSaid : Prop := Claim7.holds Tryd.pinned (.plain (OpenSpec.ofChange fnExactEncodeCodeSpec)) fnExactEncodeCodeCard

/-- THE TIED CARD OF 'laws.FnExactDecodeCode'. -/
def fnExactDecodeCodeCard : Claim7 := { stood := { row := fnExactDecodeCodeRow, standIns := [], harness := (true, "7639a83674f2cebee865a6a8212ee35b59ae0c32717fc273c2a8e2c6d26bc825"), looks := false }, kinds := [], alts := [], laidByText := true, laidKinds := [.data], laidTests := true, laidLooks := .later }
def FnExactDecodeCodeCardSaid : Prop := Claim7.holds Tryd.pinned (.plain (OpenSpec.ofChange fnExactDecodeCodeSpec)) fnExactDecodeCodeCard

/-- THE TIED CARD OF 'laws.FnExactJoinsFine'. -/
def fnExactJoinsFineCard : Claim7 := { stood := { row := fnExactJoinsFineRow, standIns := [], harness := (true, "7639a83674f2cebee865a6a8212ee35b59ae0c32717fc273c2a8e2c6d26bc825"), looks := false }, kinds := [], alts := [], laidByText := true, laidKinds := [.data], laidTests := true, laidLooks := .later }
def FnExactJoinsFineCardSaid : Prop := Claim7.holds Tryd.pinned (.plain (OpenSpec.ofChange fnExactJoinsFineSpec)) fnExactJoinsFineCard

/-- THE SECOND FORM's CARD OF 'laws.FnExactGoodCode'. -/
def fnExactGoodCodeUptoCard : Claim7 := { stood := { row := fnExactGoodCodeUptoRow, standIns := [], harness := (true, "7639a83674f2cebee865a6a8212ee35b59ae0c32717fc273c2a8e2c6d26bc825"), looks := false }, kinds := [], alts := [], laidByText := true, laidKinds := [.data], laidTests := true, laidLooks := .later }
def FnExactGoodCodeUptoCardSaid : Prop := Claim7.holds Tryd.pinned (.plain (OpenSpec.upto fnExactGoodCodeSpec)) fnExactGoodCodeUptoCard

/-- THE SECOND FORM's CARD OF 'laws.FnExactRegsOf'. -/
def fnExactRegsOfUptoCard : Claim7 := { stood := { row := fnExactRegsOfUptoRow, standIns := [], harness := (true, "7639a83674f2cebee865a6a8212ee35b59ae0c32717fc273c2a8e2c6d26bc825"), looks := false }, kinds := [], alts := [], laidByText := true, laidKinds := [.data], laidTests := true, laidLooks := .later }
def FnExactRegsOfUptoCardSaid : Prop := Claim7.holds Tryd.pinned (.plain (OpenSpec.upto fnExactRegsOfSpec)) fnExactRegsOfUptoCard

/-- THE SECOND FORM's CARD OF 'laws.FnExactReadsOf'. -/
def fnExactReadsOfUptoCard : Claim7 := { stood := { row := fnExactReadsOfUptoRow, standIns := [], harness := (true, "7639a83674f2cebee865a6a8212ee35b59ae0c32717fc273c2a8e2c6d26bc825"), looks := false }, kinds := [], alts := [], laidByText := true, laidKinds := [.data], laidTests := true, laidLooks := .later }
def FnExactReadsOfUptoCardSaid : Prop := Claim7.holds Tryd.pinned (.plain (OpenSpec.upto fnExactReadsOfSpec)) fnExactReadsOfUptoCard

/-- THE SECOND FORM's CARD OF 'laws.FnExactEncodeCode'. -/
def fnExactEncodeCodeUptoCard : Claim7 := { stood := { row := fnExactEncodeCodeUptoRow, standIns := [], harness := (true, "7639a83674f2cebee865a6a8212ee35b59ae0c32717fc273c2a8e2c6d26bc825"), looks := false }, kinds := [], alts := [], laidByText := true, laidKinds := [.data], laidTests := true, laidLooks := .later }
def FnExactEncodeCodeUptoCardSaid : Prop := Claim7.holds Tryd.pinned (.plain (OpenSpec.upto fnExactEncodeCodeSpec)) fnExactEncodeCodeUptoCard

/-- THE SECOND FORM's CARD OF 'laws.FnExactDecodeCode'. -/
def fnExactDecodeCodeUptoCard : Claim7 := { stood := { row := fnExactDecodeCodeUptoRow, standIns := [], harness := (true, "7639a83674f2cebee865a6a8212ee35b59ae0c32717fc273c2a8e2c6d26bc825"), looks := false }, kinds := [], alts := [], laidByText := true, laidKinds := [.data], laidTests := true, laidLooks := .later }
def FnExactDecodeCodeUptoCardSaid : Prop := Claim7.holds Tryd.pinned (.plain (OpenSpec.upto fnExactDecodeCodeSpec)) fnExactDecodeCodeUptoCard

/-- THE SECOND FORM's CARD OF 'laws.FnExactJoinsFine'. -/
def fnExactJoinsFineUptoCard : Claim7 := { stood := { row := fnExactJoinsFineUptoRow, standIns := [], harness := (true, "7639a83674f2cebee865a6a8212ee35b59ae0c32717fc273c2a8e2c6d26bc825"), looks := false }, kinds := [], alts := [], laidByText := true, laidKinds := [.data], laidTests := true, laidLooks := .later }
def FnExactJoinsFineUptoCardSaid : Prop := Claim7.holds Tryd.pinned (.plain (OpenSpec.upto fnExactJoinsFineSpec)) fnExactJoinsFineUptoCard
end Rows
end Go.Proofs.YtablacgmedkgjaaDoor
