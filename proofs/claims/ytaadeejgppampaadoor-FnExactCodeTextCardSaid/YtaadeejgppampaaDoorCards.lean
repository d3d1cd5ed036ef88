/-
  DERIVED. GIVEN WITH THE SEED: THE CARDS: each row of YtaadeejgppampaaDoorRows.lean that lists a variable, with what it lists TIED to the program's text (the seventh form; the later family's looks); each row that meets fmt, with fmt's text TOLD by the authors' own Lean function (tested against real Go, not proved from fmt's source: count such statements apart). THE CARD IS WHAT COUNTS. Prove the row's statement (the work); the ties are given (YtaadeejgppampaaDoorTie.lean); close each card by the builder's one call (the guide's Derived/Test/ToyasCard.lean, 'card_holds'). Laid BY PROGRAM, IN A SANDBOX (cutbox-door.mjs). By AI agents, Wed Nov 11 2026. No macro, syntax, notation, axiom, sorry.
-/
import Derived.Test.YtaadeejgppampaaDoorRows
import GoSem.ClaimSeven
namespace Go.Proofs.YtaadeejgppampaaDoor
namespace Rows

/-- THE TIED CARD OF 'laws.FnExactReadsOf'. -/
def fnExactReadsOfCard : Claim7 := { stood := { row := fnExactReadsOfRow, standIns := [], harness := (true, "7ce281c38c2af1439e5bc1d4e9593eebe2c0b6717bd922dd37cd8a35d1435b94"), looks := false }, kinds := [], alts := [], laidByText := true, laidKinds := [.data], laidTests := true, laidLooks := .later }
def FnExactReadsOfCardSaid : Prop := Claim7.holds Tryd.pinned (.plain (OpenSpec.ofChange fnExactReadsOfSpec)) fnExactReadsOfCard

/-- THE TIED CARD OF 'laws.FnExactCodeText'. -/
def fnExactCodeTextCard : Claim7 := { stood := { row := fnExactCodeTextRow, standIns := [], harness := (true, "7ce281c38c2af1439e5bc1d4e9593eebe2c0b6717bd922dd37cd8a35d1435b94"), looks := false }, kinds := [], alts := [], laidByText := true, laidKinds := [.data, .data, .data, .called, .data], laidTests := true, laidLooks := .later }
def FnExactCodeTextCardSaid : Prop := Claim7.holds Tryd.pinned (.plain (OpenSpec.ofChange fnExactCodeTextSpec)) fnExactCodeTextCard

/-- THE TIED CARD OF 'laws.FnExactJoinsFine'. -/
def fnExactJoinsFineCard : Claim7 := { stood := { row := fnExactJoinsFineRow, standIns := [], harness := (true, "7ce281c38c2af1439e5bc1d4e9593eebe2c0b6717bd922dd37cd8a35d1435b94"), looks := false }, kinds := [], alts := [], laidByText := true, laidKinds := [.data], laidTests := true, laidLooks := .later }
def FnExactJoinsFineCardSaid : Prop := Claim7.holds Tryd.pinned (.plain (OpenSpec.ofChange fnExactJoinsFineSpec)) fnExactJoinsFineCard

/-- THE SECOND FORM's CARD OF 'laws.FnExactReadsOf'. -/
def fnExactReadsOfUptoCard : Claim7 := { stood := { row := fnExactReadsOfUptoRow, standIns := [], harness := (true, "7ce281c38c2af1439e5bc1d4e9593eebe2c0b6717bd922dd37cd8a35d1435b94"), looks := false }, kinds := [], alts := [], laidByText := true, laidKinds := [.data], laidTests := true, laidLooks := .later }
def FnExactReadsOfUptoCardSaid : Prop := Claim7.holds Tryd.pinned (.plain (OpenSpec.upto fnExactReadsOfSpec)) fnExactReadsOfUptoCard

/-- THE SECOND FORM's CARD OF 'laws.FnExactCodeText'. -/
def fnExactCodeTextUptoCard : Claim7 := { stood := { row := fnExactCodeTextUptoRow, standIns := [], harness := (true, "7ce281c38c2af1439e5bc1d4e9593eebe2c0b6717bd922dd37cd8a35d1435b94"), looks := false }, kinds := [], alts := [], laidByText := true, laidKinds := [.data, .data, .data, .called, .data], laidTests := true, laidLooks := .later }
def FnExactCodeTextUptoCardSaid : Prop := Claim7.holds Tryd.pinned (.plain (OpenSpec.upto fnExactCodeTextSpec)) fnExactCodeTextUptoCard

/-- THE SECOND FORM's CARD OF 'laws.FnExactJoinsFine'. -/
def fnExactJoinsFineUptoCard : Claim7 := { stood := { row := fnExactJoinsFineUptoRow, standIns := [], harness := (true, "7ce281c38c2af1439e5bc1d4e9593eebe2c0b6717bd922dd37cd8a35d1435b94"), looks := false }, kinds := [], alts := [], laidByText := true, laidKinds := [.data], laidTests := true, laidLooks := .later }
def FnExactJoinsFineUptoCardSaid : Prop := Claim7.holds Tryd.pinned (.plain (OpenSpec.upto fnExactJoinsFineSpec)) fnExactJoinsFineUptoCard
end Rows
end Go.Proofs.YtaadeejgppampaaDoor
