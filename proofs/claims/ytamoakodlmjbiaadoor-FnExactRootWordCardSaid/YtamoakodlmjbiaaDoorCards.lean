/-
  DERIVED. GIVEN WITH THE SEED: THE CARDS: each row of YtamoakodlmjbiaaDoorRows.lean that lists a variable, with what it lists TIED to the program's text (the seventh form; the later family's looks); each row that meets fmt, with fmt's text TOLD by the authors' own Lean function (tested against real Go, not proved from fmt's source: count such statements apart). THE CARD IS WHAT COUNTS. Prove the row's statement (the work); the ties are given (YtamoakodlmjbiaaDoorTie.lean); close each card by the builder's one call (the guide's Derived/Test/ToyasCard.lean, 'card_holds'). Laid BY PROGRAM, IN A SANDBOX (cutbox-door.mjs). By AI agents, Wed Nov 11 2026. No macro, syntax, notation, axiom, sorry.
-/
import Derived.Test.YtamoakodlmjbiaaDoorRows
import GoSem.ClaimSeven
namespace Go.Proofs.YtamoakodlmjbiaaDoor
namespace Rows

/-- THE TIED CARD OF 'laws.FnHalves'. -/
def fnHalvesCard : Claim7 := { stood := { row := fnHalvesRow, standIns := [], harness := (true, "8f1df7c8e3c3700865c758fca11ea8d3c1a2d1d0b435f2fb65bb50addc69d43c"), looks := false }, kinds := [], alts := [], laidByText := true, laidKinds := [.data], laidTests := true, laidLooks := .later }
def FnHalvesCardSaid : Prop := Claim7.holds Tryd.pinned (.plain (OpenSpec.ofChange fnHalvesSpec)) fnHalvesCard

/-- THE TIED CARD OF 'laws.FnExactRoundNumber'. -/
def fnExactRoundNumberCard : Claim7 := { stood := { row := fnExactRoundNumberRow, standIns := [], harness := (true, "8f1df7c8e3c3700865c758fca11ea8d3c1a2d1d0b435f2fb65bb50addc69d43c"), looks := false }, kinds := [], alts := [], laidByText := true, laidKinds := [.data], laidTests := true, laidLooks := .later }
def FnExactRoundNumberCardSaid : Prop := Claim7.holds Tryd.pinned (.plain (OpenSpec.ofChange fnExactRoundNumberSpec)) fnExactRoundNumberCard

/-- THE TIED CARD OF 'laws.FnExactAddWords'. -/
def fnExactAddWordsCard : Claim7 := { stood := { row := fnExactAddWordsRow, standIns := [], harness := (true, "8f1df7c8e3c3700865c758fca11ea8d3c1a2d1d0b435f2fb65bb50addc69d43c"), looks := false }, kinds := [], alts := [], laidByText := true, laidKinds := [.data], laidTests := true, laidLooks := .later }
def FnExactAddWordsCardSaid : Prop := Claim7.holds Tryd.pinned (.plain (OpenSpec.ofChange fnExactAddWordsSpec)) fnExactAddWordsCard

/-- THE TIED CARD OF 'laws.FnExactMulWords'. -/
def fnExactMulWordsCard : Claim7 := { stood := { row := fnExactMulWordsRow, standIns := [], harness := (true, "8f1df7c8e3c3700865c758fca11ea8d3c1a2d1d0b435f2fb65bb50addc69d43c"), looks := false }, kinds := [], alts := [], laidByText := true, laidKinds := [.data], laidTests := true, laidLooks := .later }
def FnExactMulWordsCardSaid : Prop := Claim7.holds Tryd.pinned (.plain (OpenSpec.ofChange fnExactMulWordsSpec)) fnExactMulWordsCard

/-- THE TIED CARD OF 'laws.FnExactDivWords'. -/
def fnExactDivWordsCard : Claim7 := { stood := { row := fnExactDivWordsRow, standIns := [], harness := (true, "8f1df7c8e3c3700865c758fca11ea8d3c1a2d1d0b435f2fb65bb50addc69d43c"), looks := false }, kinds := [], alts := [], laidByText := true, laidKinds := [.data], laidTests := true, laidLooks := .later }
def FnExactDivWordsCardSaid : Prop := Claim7.holds Tryd.pinned (.plain (OpenSpec.ofChange fnExactDivWordsSpec)) fnExactDivWordsCard

/-- THE TIED CARD OF 'laws.FnExactFuseWords'. -/
def fnExactFuseWordsCard : Claim7 := { stood := { row := fnExactFuseWordsRow, standIns := [], harness := (true, "8f1df7c8e3c3700865c758fca11ea8d3c1a2d1d0b435f2fb65bb50addc69d43c"), looks := false }, kinds := [], alts := [], laidByText := true, laidKinds := [.data], laidTests := true, laidLooks := .later }
def FnExactFuseWordsCardSaid : Prop := Claim7.holds Tryd.pinned (.plain (OpenSpec.ofChange fnExactFuseWordsSpec)) fnExactFuseWordsCard

/-- THE TIED CARD OF 'laws.FnExactRootWord'. -/
def fnExactRootWordCard : Claim7 := { stood := { row := fnExactRootWordRow, standIns := [], harness := (true, "8f1df7c8e3c3700865c758fca11ea8d3c1a2d1d0b435f2fb65bb50addc69d43c"), looks := false }, kinds := [], alts := [], laidByText := true, laidKinds := [.data], laidTests := true, laidLooks := .later }
def FnExactRootWordCardSaid : Prop := Claim7.holds Tryd.pinned (.plain (OpenSpec.ofChange fnExactRootWordSpec)) fnExactRootWordCard

/-- THE TIED CARD OF 'laws.FnExactHalfOf'. -/
def fnExactHalfOfCard : Claim7 := { stood := { row := fnExactHalfOfRow, standIns := [], harness := (true, "8f1df7c8e3c3700865c758fca11ea8d3c1a2d1d0b435f2fb65bb50addc69d43c"), looks := false }, kinds := [], alts := [], laidByText := true, laidKinds := [.data], laidTests := true, laidLooks := .later }
def FnExactHalfOfCardSaid : Prop := Claim7.holds Tryd.pinned (.plain (OpenSpec.ofChange fnExactHalfOfSpec)) fnExactHalfOfCard

/-- THE TIED CARD OF 'laws.FnExactWordOfHalf'. -/
def fnExactWordOfHalfCard : Claim7 := { stood := { row := fnExactWordOfHalfRow, standIns := [], harness := (true, "8f1df7c8e3c3700865c758fca11ea8d3c1a2d1d0b435f2fb65bb50addc69d43c"), looks := false }, kinds := [], alts := [], laidByText := true, laidKinds := [.data], laidTests := true, laidLooks := .later }
def FnExactWordOfHalfCardSaid : Prop := Claim7.holds Tryd.pinned (.plain (OpenSpec.ofChange fnExactWordOfHalfSpec)) fnExactWordOfHalfCard

/-- THE TIED CARD OF 'laws.FnExactWholeOf'. -/
def fnExactWholeOfCard : Claim7 := { stood := { row := fnExactWholeOfRow, standIns := [], harness := (true, "8f1df7c8e3c3700865c758fca11ea8d3c1a2d1d0b435f2fb65bb50addc69d43c"), looks := false }, kinds := [], alts := [], laidByText := true, laidKinds := [.data], laidTests := true, laidLooks := .later }
def FnExactWholeOfCardSaid : Prop := Claim7.holds Tryd.pinned (.plain (OpenSpec.ofChange fnExactWholeOfSpec)) fnExactWholeOfCard

/-- THE SECOND FORM's CARD OF 'laws.FnHalves'. -/
def fnHalvesUptoCard : Claim7 := { stood := { row := fnHalvesUptoRow, standIns := [], harness := (true, "8f1df7c8e3c3700865c758fca11ea8d3c1a2d1d0b435f2fb65bb50addc69d43c"), looks := false }, kinds := [], alts := [], laidByText := true, laidKinds := [.data], laidTests := true, laidLooks := .later }
def FnHalvesUptoCardSaid : Prop := Claim7.holds Tryd.pinned (.plain (OpenSpec.upto fnHalvesSpec)) fnHalvesUptoCard

/-- THE SECOND FORM's CARD OF 'laws.FnExactRoundNumber'. -/
def fnExactRoundNumberUptoCard : Claim7 := { stood := { row := fnExactRoundNumberUptoRow, standIns := [], harness := (true, "8f1df7c8e3c3700865c758fca11ea8d3c1a2d1d0b435f2fb65bb50addc69d43c"), looks := false }, kinds := [], alts := [], laidByText := true, laidKinds := [.data], laidTests := true, laidLooks := .later }
def FnExactRoundNumberUptoCardSaid : Prop := Claim7.holds Tryd.pinned (.plain (OpenSpec.upto fnExactRoundNumberSpec)) fnExactRoundNumberUptoCard

/-- THE SECOND FORM's CARD OF 'laws.FnExactAddWords'. -/
def fnExactAddWordsUptoCard : Claim7 := { stood := { row := fnExactAddWordsUptoRow, standIns := [], harness := (true, "8f1df7c8e3c3700865c758fca11ea8d3c1a2d1d0b435f2fb65bb50addc69d43c"), looks := false }, kinds := [], alts := [], laidByText := true, laidKinds := [.data], laidTests := true, laidLooks := .later }
def FnExactAddWordsUptoCardSaid : Prop := Claim7.holds Tryd.pinned (.plain (OpenSpec.upto fnExactAddWordsSpec)) fnExactAddWordsUptoCard

/-- THE SECOND FORM's CARD OF 'laws.FnExactMulWords'. -/
def fnExactMulWordsUptoCard : Claim7 := { stood := { row := fnExactMulWordsUptoRow, standIns := [], harness := (true, "8f1df7c8e3c3700865c758fca11ea8d3c1a2d1d0b435f2fb65bb50addc69d43c"), looks := false }, kinds := [], alts := [], laidByText := true, laidKinds := [.data], laidTests := true, laidLooks := .later }
def FnExactMulWordsUptoCardSaid : Prop := Claim7.holds Tryd.pinned (.plain (OpenSpec.upto fnExactMulWordsSpec)) fnExactMulWordsUptoCard

/-- THE SECOND FORM's CARD OF 'laws.FnExactDivWords'. -/
def fnExactDivWordsUptoCard : Claim7 := { stood := { row := fnExactDivWordsUptoRow, standIns := [], harness := (true, "8f1df7c8e3c3700865c758fca11ea8d3c1a2d1d0b435f2fb65bb50addc69d43c"), looks := false }, kinds := [], alts := [], laidByText := true, laidKinds := [.data], laidTests := true, laidLooks := .later }
def FnExactDivWordsUptoCardSaid : Prop := Claim7.holds Tryd.pinned (.plain (OpenSpec.upto fnExactDivWordsSpec)) fnExactDivWordsUptoCard

/-- THE SECOND FORM's CARD OF 'laws.FnExactFuseWords'. -/
def fnExactFuseWordsUptoCard : Claim7 := { stood := { row := fnExactFuseWordsUptoRow, standIns := [], harness := (true, "8f1df7c8e3c3700865c758fca11ea8d3c1a2d1d0b435f2fb65bb50addc69d43c"), looks := false }, kinds := [], alts := [], laidByText := true, laidKinds := [.data], laidTests := true, laidLooks := .later }
def FnExactFuseWordsUptoCardSaid : Prop := Claim7.holds Tryd.pinned (.plain (OpenSpec.upto fnExactFuseWordsSpec)) fnExactFuseWordsUptoCard

/-- THE SECOND FORM's CARD OF 'laws.FnExactRootWord'. -/
def fnExactRootWordUptoCard : Claim7 := { stood := { row := fnExactRootWordUptoRow, standIns := [], harness := (true, "8f1df7c8e3c3700865c758fca11ea8d3c1a2d1d0b435f2fb65bb50addc69d43c"), looks := false }, kinds := [], alts := [], laidByText := true, laidKinds := [.data], laidTests := true, laidLooks := .later }
def FnExactRootWordUptoCardSaid : Prop := Claim7.holds Tryd.pinned (.plain (OpenSpec.upto fnExactRootWordSpec)) fnExactRootWordUptoCard

/-- THE SECOND FORM's CARD OF 'laws.FnExactHalfOf'. -/
def fnExactHalfOfUptoCard : Claim7 := { stood := { row := fnExactHalfOfUptoRow, standIns := [], harness := (true, "8f1df7c8e3c3700865c758fca11ea8d3c1a2d1d0b435f2fb65bb50addc69d43c"), looks := false }, kinds := [], alts := [], laidByText := true, laidKinds := [.data], laidTests := true, laidLooks := .later }
def FnExactHalfOfUptoCardSaid : Prop := Claim7.holds Tryd.pinned (.plain (OpenSpec.upto fnExactHalfOfSpec)) fnExactHalfOfUptoCard

/-- THE SECOND FORM's CARD OF 'laws.FnExactWordOfHalf'. -/
def fnExactWordOfHalfUptoCard : Claim7 := { stood := { row := fnExactWordOfHalfUptoRow, standIns := [], harness := (true, "8f1df7c8e3c3700865c758fca11ea8d3c1a2d1d0b435f2fb65bb50addc69d43c"), looks := false }, kinds := [], alts := [], laidByText := true, laidKinds := [.data], laidTests := true, laidLooks := .later }
def FnExactWordOfHalfUptoCardSaid : Prop := Claim7.holds Tryd.pinned (.plain (OpenSpec.upto fnExactWordOfHalfSpec)) fnExactWordOfHalfUptoCard

/-- THE SECOND FORM's CARD OF 'laws.FnExactWholeOf'. -/
def fnExactWholeOfUptoCard : Claim7 := { stood := { row := fnExactWholeOfUptoRow, standIns := [], harness := (true, "8f1df7c8e3c3700865c758fca11ea8d3c1a2d1d0b435f2fb65bb50addc69d43c"), looks := false }, kinds := [], alts := [], laidByText := true, laidKinds := [.data], laidTests := true, laidLooks := .later }
def FnExactWholeOfUptoCardSaid : Prop := Claim7.holds Tryd.pinned (.plain (OpenSpec.upto fnExactWholeOfSpec)) fnExactWholeOfUptoCard
end Rows
end Go.Proofs.YtamoakodlmjbiaaDoor
