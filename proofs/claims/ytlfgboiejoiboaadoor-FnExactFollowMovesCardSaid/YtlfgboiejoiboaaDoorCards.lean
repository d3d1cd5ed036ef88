/-
  DERIVED. GIVEN WITH THE SEED: THE CARDS: each row of YtlfgboiejoiboaaDoorRows.lean that lists a variable, with what it lists TIED to the program's text (the seventh form; the later family's looks); each row that meets fmt, with fmt's text TOLD by the authors' own Lean function (tested against real Go, not proved from fmt's source: count such statements apart). THE CARD IS WHAT COUNTS. Prove the row's statement (the work); the ties are given (YtlfgboiejoiboaaDoorTie.lean); close each card by the builder's one call (the guide's Derived/Test/ToyasCard.lean, 'card_holds'). Laid BY PROGRAM, IN A SANDBOX (cutbox-door.mjs). By AI agents, Wed Nov 11 2026. No macro, syntax, notation, axiom, sorry.
-/
import Derived.Test.YtlfgboiejoiboaaDoorRows
import GoSem.ClaimSeven
namespace Go.Proofs.YtlfgboiejoiboaaDoor
namespace Rows

/-- THE TIED CARD OF 'laws.FnExactReachedOf'. -/
def fnExactReachedOfCard : Claim7 := { stood := { row := fnExactReachedOfRow, standIns := [], harness := (true, "c143c66eb21344d6839c9212a27ebe2ad95d48d92838108ac2fd18545d98803e"), looks := false }, kinds := [], alts := [], laidByText := true, laidKinds := [.data], laidTests := true, laidLooks := .later }
def FnExactReachedOfCardSaid : Prop := Claim7.holds Tryd.pinned (.plain (OpenSpec.ofChange fnExactReachedOfSpec)) fnExactReachedOfCard

/-- THE TIED CARD OF 'laws.FnExactDropUnreached'. -/
def fnExactDropUnreachedCard : Claim7 := { stood := { row := fnExactDropUnreachedRow, standIns := [], harness := (true, "c143c66eb21344d6839c9212a27ebe2ad95d48d92838108ac2fd18545d98803e"), looks := false }, kinds := [], alts := [], laidByText := true, laidKinds := [.data], laidTests := true, laidLooks := .later }
def FnExactDropUnreachedCardSaid : Prop := Claim7.holds Tryd.pinned (.plain (OpenSpec.ofChange fnExactDropUnreachedSpec)) fnExactDropUnreachedCard

/-- THE TIED CARD OF 'laws.FnExactDropUnread'. -/
def fnExactDropUnreadCard : Claim7 := { stood := { row := fnExactDropUnreadRow, standIns := [], harness := (true, "c143c66eb21344d6839c9212a27ebe2ad95d48d92838108ac2fd18545d98803e"), looks := false }, kinds := [], alts := [], laidByText := true, laidKinds := [.data], laidTests := true, laidLooks := .later }
def FnExactDropUnreadCardSaid : Prop := Claim7.holds Tryd.pinned (.plain (OpenSpec.ofChange fnExactDropUnreadSpec)) fnExactDropUnreadCard

/-- THE TIED CARD OF 'laws.FnExactFollowMoves'. -/
def fnExactFollowMovesCard : Claim7 := { stood := { row := fnExactFollowMovesRow, standIns := [], harness := (true, "c143c66eb21344d6839c9212a27ebe2ad95d48d92838108ac2fd18545d98803e"), looks := false }, kinds := [], alts := [], laidByText := true, laidKinds := [.data], laidTests := true, laidLooks := .later }
def FnExactFollowMovesCardSaid : Prop := Claim7.holds Tryd.pinned (.plain (OpenSpec.ofChange fnExactFollowMovesSpec)) fnExactFollowMovesCard

/-- THE TIED CARD OF 'laws.FnExactShortJumps'. -/
def fnExactShortJumpsCard : Claim7 := { stood := { row := fnExactShortJumpsRow, standIns := [], harness := (true, "c143c66eb21344d6839c9212a27ebe2ad95d48d92838108ac2fd18545d98803e"), looks := false }, kinds := [], alts := [], laidByText := true, laidKinds := [.data], laidTests := true, laidLooks := .later }
def FnExactShortJumpsCardSaid : Prop := Claim7.holds Tryd.pinned (.plain (OpenSpec.ofChange fnExactShortJumpsSpec)) fnExactShortJumpsCard

/-- THE SECOND FORM's CARD OF 'laws.FnExactReachedOf'. -/
def fnExactReachedOfUptoCard : Claim7 := { stood := { row := fnExactReachedOfUptoRow, standIns := [], harness := (true, "c143c66eb21344d6839c9212a27ebe2ad95d48d92838108ac2fd18545d98803e"), looks := false }, kinds := [], alts := [], laidByText := true, laidKinds := [.data], laidTests := true, laidLooks := .later }
def FnExactReachedOfUptoCardSaid : Prop := Claim7.holds Tryd.pinned (.plain (OpenSpec.upto fnExactReachedOfSpec)) fnExactReachedOfUptoCard

/-- THE SECOND FORM's CARD OF 'laws.FnExactDropUnreached'. -/
def fnExactDropUnreachedUptoCard : Claim7 := { stood := { row := fnExactDropUnreachedUptoRow, standIns := [], harness := (true, "c143c66eb21344d6839c9212a27ebe2ad95d48d92838108ac2fd18545d98803e"), looks := false }, kinds := [], alts := [], laidByText := true, laidKinds := [.data], laidTests := true, laidLooks := .later }
def FnExactDropUnreachedUptoCardSaid : Prop := Claim7.holds Tryd.pinned (.plain (OpenSpec.upto fnExactDropUnreachedSpec)) fnExactDropUnreachedUptoCard

/-- THE SECOND FORM's CARD OF 'laws.FnExactDropUnread'. -/
def fnExactDropUnreadUptoCard : Claim7 := { stood := { row := fnExactDropUnreadUptoRow, standIns := [], harness := (true, "c143c66eb21344d6839c9212a27ebe2ad95d48d92838108ac2fd18545d98803e"), looks := false }, kinds := [], alts := [], laidByText := true, laidKinds := [.data], laidTests := true, laidLooks := .later }
def FnExactDropUnreadUptoCardSaid : Prop := Claim7.holds Tryd.pinned (.plain (OpenSpec.upto fnExactDropUnreadSpec)) fnExactDropUnreadUptoCard

/-- THE SECOND FORM's CARD OF 'laws.FnExactFollowMoves'. -/
def fnExactFollowMovesUptoCard : Claim7 := { stood := { row := fnExactFollowMovesUptoRow, standIns := [], harness := (true, "c143c66eb21344d6839c9212a27ebe2ad95d48d92838108ac2fd18545d98803e"), looks := false }, kinds := [], alts := [], laidByText := true, laidKinds := [.data], laidTests := true, laidLooks := .later }
def FnExactFollowMovesUptoCardSaid : Prop := Claim7.holds Tryd.pinned (.plain (OpenSpec.upto fnExactFollowMovesSpec)) fnExactFollowMovesUptoCard

/-- THE SECOND FORM's CARD OF 'laws.FnExactShortJumps'. -/
def fnExactShortJumpsUptoCard : Claim7 := { stood := { row := fnExactShortJumpsUptoRow, standIns := [], harness := (true, "c143c66eb21344d6839c9212a27ebe2ad95d48d92838108ac2fd18545d98803e"), looks := false }, kinds := [], alts := [], laidByText := true, laidKinds := [.data], laidTests := true, laidLooks := .later }
def FnExactShortJumpsUptoCardSaid : Prop := Claim7.holds Tryd.pinned (.plain (OpenSpec.upto fnExactShortJumpsSpec)) fnExactShortJumpsUptoCard
end Rows
end Go.Proofs.YtlfgboiejoiboaaDoor
