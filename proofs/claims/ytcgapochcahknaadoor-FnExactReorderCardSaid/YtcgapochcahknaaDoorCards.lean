/-
  DERIVED. GIVEN WITH THE SEED: THE CARDS: each row of YtcgapochcahknaaDoorRows.lean that lists a variable, with what it lists TIED to the program's text (the seventh form; the later family's looks); each row that meets fmt, with fmt's text TOLD by the authors' own Lean function (tested against real Go, not proved from fmt's source: count such statements apart). THE CARD IS WHAT COUNTS. Prove the row's statement (the work); the ties are given (YtcgapochcahknaaDoorTie.lean); close each card by the builder's one call (the guide's Derived/Test/ToyasCard.lean, 'card_holds'). Laid BY PROGRAM, IN A SANDBOX (cutbox-door.mjs). By AI agents, Wed Nov 11 2026. No macro, syntax, notation, axiom, sorry.
-/
import Derived.Test.YtcgapochcahknaaDoorRows
import GoSem.ClaimSeven
namespace Go.Proofs.YtcgapochcahknaaDoor
namespace Rows

/-- THE TIED CARD OF 'laws.FnExactFollowMoves'. -/
def fnExactFollowMovesCard : Claim7 := { stood := { row := fnExactFollowMovesRow, standIns := [], harness := (true, "43a4fea639e6d234b6313fdceebaf98109219e019c2ff4e7b2387bb768832721"), looks := false }, kinds := [], alts := [], laidByText := true, laidKinds := [.data], laidTests := true, laidLooks := .later }
def FnExactFollowMovesCardSaid : Prop := Claim7.holds Tryd.pinned (.plain (OpenSpec.ofChange fnExactFollowMovesSpec)) fnExactFollowMovesCard

/-- THE TIED CARD OF 'laws.FnExactLatencyOf'. -/
def fnExactLatencyOfCard : Claim7 := { stood := { row := fnExactLatencyOfRow, standIns := [], harness := (true, "43a4fea639e6d234b6313fdceebaf98109219e019c2ff4e7b2387bb768832721"), looks := false }, kinds := [], alts := [], laidByText := true, laidKinds := [.data], laidTests := true, laidLooks := .later }
def FnExactLatencyOfCardSaid : Prop := Claim7.holds Tryd.pinned (.plain (OpenSpec.ofChange fnExactLatencyOfSpec)) fnExactLatencyOfCard

/-- THE TIED CARD OF 'laws.FnExactNeedsOf'. -/
def fnExactNeedsOfCard : Claim7 := { stood := { row := fnExactNeedsOfRow, standIns := [], harness := (true, "43a4fea639e6d234b6313fdceebaf98109219e019c2ff4e7b2387bb768832721"), looks := false }, kinds := [], alts := [], laidByText := true, laidKinds := [.data], laidTests := true, laidLooks := .later }
def FnExactNeedsOfCardSaid : Prop := Claim7.holds Tryd.pinned (.plain (OpenSpec.ofChange fnExactNeedsOfSpec)) fnExactNeedsOfCard

/-- THE TIED CARD OF 'laws.FnExactCyclesOf'. -/
def fnExactCyclesOfCard : Claim7 := { stood := { row := fnExactCyclesOfRow, standIns := [], harness := (true, "43a4fea639e6d234b6313fdceebaf98109219e019c2ff4e7b2387bb768832721"), looks := false }, kinds := [], alts := [], laidByText := true, laidKinds := [.data], laidTests := true, laidLooks := .later }
def FnExactCyclesOfCardSaid : Prop := Claim7.holds Tryd.pinned (.plain (OpenSpec.ofChange fnExactCyclesOfSpec)) fnExactCyclesOfCard

/-- THE TIED CARD OF 'laws.FnExactReorder'. -/
def fnExactReorderCard : Claim7 := { stood := { row := fnExactReorderRow, standIns := [], harness := (true, "43a4fea639e6d234b6313fdceebaf98109219e019c2ff4e7b2387bb768832721"), looks := false }, kinds := [], alts := [], laidByText := true, laidKinds := [.data], laidTests := true, laidLooks := .later }
def FnExactReorderCardSaid : Prop := Claim7.holds Tryd.pinned (.plain (OpenSpec.ofChange fnExactReorderSpec)) fnExactReorderCard

/-- THE TIED CARD OF 'laws.FnExactBlocksOf'. -/
def fnExactBlocksOfCard : Claim7 := { stood := { row := fnExactBlocksOfRow, standIns := [], harness := (true, "43a4fea639e6d234b6313fdceebaf98109219e019c2ff4e7b2387bb768832721"), looks := false }, kinds := [], alts := [], laidByText := true, laidKinds := [.data], laidTests := true, laidLooks := .later }
def FnExactBlocksOfCardSaid : Prop := Claim7.holds Tryd.pinned (.plain (OpenSpec.ofChange fnExactBlocksOfSpec)) fnExactBlocksOfCard

/-- THE SECOND FORM's CARD OF 'laws.FnExactFollowMoves'. -/
def fnExactFollowMovesUptoCard : Claim7 := { stood := { row := fnExactFollowMovesUptoRow, standIns := [], harness := (true, "43a4fea639e6d234b6313fdceebaf98109219e019c2ff4e7b2387bb768832721"), looks := false }, kinds := [], alts := [], laidByText := true, laidKinds := [.data], laidTests := true, laidLooks := .later }
def FnExactFollowMovesUptoCardSaid : Prop := Claim7.holds Tryd.pinned (.plain (OpenSpec.upto fnExactFollowMovesSpec)) fnExactFollowMovesUptoCard

/-- THE SECOND FORM's CARD OF 'laws.FnExactLatencyOf'. -/
def fnExactLatencyOfUptoCard : Claim7 := { stood := { row := fnExactLatencyOfUptoRow, standIns := [], harness := (true, "43a4fea639e6d234b6313fdceebaf98109219e019c2ff4e7b2387bb768832721"), looks := false }, kinds := [], alts := [], laidByText := true, laidKinds := [.data], laidTests := true, laidLooks := .later }
def FnExactLatencyOfUptoCardSaid : Prop := Claim7.holds Tryd.pinned (.plain (OpenSpec.upto fnExactLatencyOfSpec)) fnExactLatencyOfUptoCard

/-- THE SECOND FORM's CARD OF 'laws.FnExactNeedsOf'. -/
def fnExactNeedsOfUptoCard : Claim7 := { stood := { row := fnExactNeedsOfUptoRow, standIns := [], harness := (true, "43a4fea639e6d234b6313fdceebaf98109219e019c2ff4e7b2387bb768832721"), looks := false }, kinds := [], alts := [], laidByText := true, laidKinds := [.data], laidTests := true, laidLooks := .later }
def FnExactNeedsOfUptoCardSaid : Prop := Claim7.holds Tryd.pinned (.plain (OpenSpec.upto fnExactNeedsOfSpec)) fnExactNeedsOfUptoCard

/-- THE SECOND FORM's CARD OF 'laws.FnExactCyclesOf'. -/
def fnExactCyclesOfUptoCard : Claim7 := { stood := { row := fnExactCyclesOfUptoRow, standIns := [], harness := (true, "43a4fea639e6d234b6313fdceebaf98109219e019c2ff4e7b2387bb768832721"), looks := false }, kinds := [], alts := [], laidByText := true, laidKinds := [.data], laidTests := true, laidLooks := .later }
def FnExactCyclesOfUptoCardSaid : Prop := Claim7.holds Tryd.pinned (.plain (OpenSpec.upto fnExactCyclesOfSpec)) fnExactCyclesOfUptoCard

/-- THE SECOND FORM's CARD OF 'laws.FnExactReorder'. -/
def fnExactReorderUptoCard : Claim7 := { stood := { row := fnExactReorderUptoRow, standIns := [], harness := (true, "43a4fea639e6d234b6313fdceebaf98109219e019c2ff4e7b2387bb768832721"), looks := false }, kinds := [], alts := [], laidByText := true, laidKinds := [.data], laidTests := true, laidLooks := .later }
def FnExactReorderUptoCardSaid : Prop := Claim7.holds Tryd.pinned (.plain (OpenSpec.upto fnExactReorderSpec)) fnExactReorderUptoCard

/-- THE SECOND FORM's CARD OF 'laws.FnExactBlocksOf'. -/
def fnExactBlocksOfUptoCard : Claim7 := { stood := { row := fnExactBlocksOfUptoRow, standIns := [], harness := (true, "43a4fea639e6d234b6313fdceebaf98109219e019c2ff4e7b2387bb768832721"), looks := false }, kinds := [], alts := [], laidByText := true, laidKinds := [.data], laidTests := true, laidLooks := .later }
def FnExactBlocksOfUptoCardSaid : Prop := Claim7.holds Tryd.pinned (.plain (OpenSpec.upto fnExactBlocksOfSpec)) fnExactBlocksOfUptoCard
end Rows
end Go.Proofs.YtcgapochcahknaaDoor
