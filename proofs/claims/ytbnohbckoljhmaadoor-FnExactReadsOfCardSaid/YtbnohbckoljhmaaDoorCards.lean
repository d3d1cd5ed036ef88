/-
  DERIVED. GIVEN WITH THE SEED: THE CARDS: each row of YtbnohbckoljhmaaDoorRows.lean that lists a variable, with what it lists TIED to the program's text (the seventh form; the later family's looks); each row that meets fmt, with fmt's text TOLD by the authors' own Lean function (tested against real Go, not proved from fmt's source: count such statements apart). THE CARD IS WHAT COUNTS. Prove the row's statement (the work); the ties are given (YtbnohbckoljhmaaDoorTie.lean); close each card by the builder's one call (the guide's Derived/Test/ToyasCard.lean, 'card_holds'). Laid BY PROGRAM, IN A SANDBOX (cutbox-door.mjs). By AI agents, Wed Nov 11 2026. No macro, syntax, notation, axiom, sorry.
-/
import Derived.Test.YtbnohbckoljhmaaDoorRows
import GoSem.ClaimSeven
namespace Go.Proofs.YtbnohbckoljhmaaDoor
namespace Rows

/-- THE TIED CARD OF 'laws.FnExactReadsOf'. -/
def fnExactReadsOfCard : Claim7 := { stood := { row := fnExactReadsOfRow, standIns := [], harness := (true, "b683cdb15cdc03406320e8c11f4e1104b1686a5f7910ae10ff3b85f687ed5dd1"), looks := false }, kinds := [], alts := [], laidByText := true, laidKinds := [.data], laidTests := true, laidLooks := .later }
def FnExactReadsOfCardSaid : Prop := Claim7.holds Tryd.pinned (.plain (OpenSpec.ofChange fnExactReadsOfSpec)) fnExactReadsOfCard

/-- THE TIED CARD OF 'laws.FnExactJoinsFine'. -/
def fnExactJoinsFineCard : Claim7 := { stood := { row := fnExactJoinsFineRow, standIns := [], harness := (true, "b683cdb15cdc03406320e8c11f4e1104b1686a5f7910ae10ff3b85f687ed5dd1"), looks := false }, kinds := [], alts := [], laidByText := true, laidKinds := [.data], laidTests := true, laidLooks := .later }
def FnExactJoinsFineCardSaid : Prop := Claim7.holds Tryd.pinned (.plain (OpenSpec.ofChange fnExactJoinsFineSpec)) fnExactJoinsFineCard

/-- THE SECOND FORM's CARD OF 'laws.FnExactReadsOf'. -/
def fnExactReadsOfUptoCard : Claim7 := { stood := { row := fnExactReadsOfUptoRow, standIns := [], harness := (true, "b683cdb15cdc03406320e8c11f4e1104b1686a5f7910ae10ff3b85f687ed5dd1"), looks := false }, kinds := [], alts := [], laidByText := true, laidKinds := [.data], laidTests := true, laidLooks := .later }
def FnExactReadsOfUptoCardSaid : Prop := Claim7.holds Tryd.pinned (.plain (OpenSpec.upto fnExactReadsOfSpec)) fnExactReadsOfUptoCard

/-- THE SECOND FORM's CARD OF 'laws.FnExactJoinsFine'. -/
def fnExactJoinsFineUptoCard : Claim7 := { stood := { row := fnExactJoinsFineUptoRow, standIns := [], harness := (true, "b683cdb15cdc03406320e8c11f4e1104b1686a5f7910ae10ff3b85f687ed5dd1"), looks := false }, kinds := [], alts := [], laidByText := true, laidKinds := [.data], laidTests := true, laidLooks := .later }
def FnExactJoinsFineUptoCardSaid : Prop := Claim7.holds Tryd.pinned (.plain (OpenSpec.upto fnExactJoinsFineSpec)) fnExactJoinsFineUptoCard
end Rows
end Go.Proofs.YtbnohbckoljhmaaDoor
