/-
  DERIVED. GIVEN WITH THE SEED: THE CARDS: each row of YtpildklndfgojaaDoorRows.lean that lists a variable, with what it lists TIED to the program's text (the seventh form; the later family's looks); each row that meets fmt, with fmt's text TOLD by the authors' own Lean function (tested against real Go, not proved from fmt's source: count such statements apart). THE CARD IS WHAT COUNTS. Prove the row's statement (the work); the ties are given (YtpildklndfgojaaDoorTie.lean); close each card by the builder's one call (the guide's Derived/Test/ToyasCard.lean, 'card_holds'). Laid BY PROGRAM, IN A SANDBOX (cutbox-door.mjs). By AI agents, Wed Nov 11 2026. No macro, syntax, notation, axiom, sorry.
-/
import Derived.Test.YtpildklndfgojaaDoorRows
import GoSem.ClaimSeven
namespace Go.Proofs.YtpildklndfgojaaDoor
namespace Rows

/-- THE TIED CARD OF 'laws.FnHalves'. -/
def fnHalvesCard : Claim7 := { stood := { row := fnHalvesRow, standIns := [], harness := (true, "8d91864f93ce43fd4577efe962fdd425023905c71d5c4428902d5562c89205d8"), looks := true }, kinds := [], alts := [], laidByText := true, laidKinds := [.data], laidTests := true, laidLooks := .later }
def FnHalvesCardSaid : Prop := Claim7.holds Tryd.pinned (.plain (OpenSpec.ofChange fnHalvesSpec)) fnHalvesCard

/-- THE TIED CARD OF 'laws.FnExactDivWords'. -/
def fnExactDivWordsCard : Claim7 := { stood := { row := fnExactDivWordsRow, standIns := [], harness := (true, "8d91864f93ce43fd4577efe962fdd425023905c71d5c4428902d5562c89205d8"), looks := true }, kinds := [], alts := [], laidByText := true, laidKinds := [.data], laidTests := true, laidLooks := .later }
def FnExactDivWordsCardSaid : Prop := Claim7.holds Tryd.pinned (.plain (OpenSpec.ofChange fnExactDivWordsSpec)) fnExactDivWordsCard

/-- THE TIED CARD OF 'laws.FnExactReadTokens'. -/
def fnExactReadTokensCard : Claim7 := { stood := { row := fnExactReadTokensRow, standIns := [], harness := (true, "8d91864f93ce43fd4577efe962fdd425023905c71d5c4428902d5562c89205d8"), looks := true }, kinds := [], alts := [], laidByText := true, laidKinds := [.data, .data, .data, .data, .sentinel, .sentinel, .pinned], laidTests := true, laidLooks := .later }
def FnExactReadTokensCardSaid : Prop := Claim7.holds Tryd.pinned (.plain (OpenSpec.ofChange fnExactReadTokensSpec)) fnExactReadTokensCard

/-- THE TIED CARD OF 'laws.FnExactTokensText'. -/
def fnExactTokensTextCard : Claim7 := { stood := { row := fnExactTokensTextRow, standIns := [], harness := (true, "8d91864f93ce43fd4577efe962fdd425023905c71d5c4428902d5562c89205d8"), looks := true }, kinds := [], alts := [], laidByText := true, laidKinds := [.data, .data, .data, .data, .sentinel, .sentinel, .pinned], laidTests := true, laidLooks := .later }
def FnExactTokensTextCardSaid : Prop := Claim7.holds Tryd.pinned (.plain (OpenSpec.ofChange fnExactTokensTextSpec)) fnExactTokensTextCard

/-- THE TIED CARD OF 'laws.FnExactFloatOf'. -/
def fnExactFloatOfCard : Claim7 := { stood := { row := fnExactFloatOfRow, standIns := [], harness := (true, "8d91864f93ce43fd4577efe962fdd425023905c71d5c4428902d5562c89205d8"), looks := true }, kinds := [], alts := [], laidByText := true, laidKinds := [.data, .data, .data, .data, .sentinel, .sentinel, .data, .pinned], laidTests := true, laidLooks := .later }
def FnExactFloatOfCardSaid : Prop := Claim7.holds Tryd.pinned (.plain (OpenSpec.ofChange fnExactFloatOfSpec)) fnExactFloatOfCard

/-- THE SECOND FORM's CARD OF 'laws.FnHalves'. -/
def fnHalvesUptoCard : Claim7 := { stood := { row := fnHalvesUptoRow, standIns := [], harness := (true, "8d91864f93ce43fd4577efe962fdd425023905c71d5c4428902d5562c89205d8"), looks := true }, kinds := [], alts := [], laidByText := true, laidKinds := [.data], laidTests := true, laidLooks := .later }
def FnHalvesUptoCardSaid : Prop := Claim7.holds Tryd.pinned (.plain (OpenSpec.upto fnHalvesSpec)) fnHalvesUptoCard

/-- THE SECOND FORM's CARD OF 'laws.FnExactDivWords'. -/
def fnExactDivWordsUptoCard : Claim7 := { stood := { row := fnExactDivWordsUptoRow, standIns := [], harness := (true, "8d91864f93ce43fd4577efe962fdd425023905c71d5c4428902d5562c89205d8"), looks := true }, kinds := [], alts := [], laidByText := true, laidKinds := [.data], laidTests := true, laidLooks := .later }
def FnExactDivWordsUptoCardSaid : Prop := Claim7.holds Tryd.pinned (.plain (OpenSpec.upto fnExactDivWordsSpec)) fnExactDivWordsUptoCard

/-- THE SECOND FORM's CARD OF 'laws.FnExactReadTokens'. -/
def fnExactReadTokensUptoCard : Claim7 := { stood := { row := fnExactReadTokensUptoRow, standIns := [], harness := (true, "8d91864f93ce43fd4577efe962fdd425023905c71d5c4428902d5562c89205d8"), looks := true }, kinds := [], alts := [], laidByText := true, laidKinds := [.data, .data, .data, .data, .sentinel, .sentinel, .pinned], laidTests := true, laidLooks := .later }
def FnExactReadTokensUptoCardSaid : Prop := Claim7.holds Tryd.pinned (.plain (OpenSpec.upto fnExactReadTokensSpec)) fnExactReadTokensUptoCard

/-- THE SECOND FORM's CARD OF 'laws.FnExactTokensText'. -/
def fnExactTokensTextUptoCard : Claim7 := { stood := { row := fnExactTokensTextUptoRow, standIns := [], harness := (true, "8d91864f93ce43fd4577efe962fdd425023905c71d5c4428902d5562c89205d8"), looks := true }, kinds := [], alts := [], laidByText := true, laidKinds := [.data, .data, .data, .data, .sentinel, .sentinel, .pinned], laidTests := true, laidLooks := .later }
def FnExactTokensTextUptoCardSaid : Prop := Claim7.holds Tryd.pinned (.plain (OpenSpec.upto fnExactTokensTextSpec)) fnExactTokensTextUptoCard

/-- THE SECOND FORM's CARD OF 'laws.FnExactFloatOf'. -/
def fnExactFloatOfUptoCard : Claim7 := { stood := { row := fnExactFloatOfUptoRow, standIns := [], harness := (true, "8d91864f93ce43fd4577efe962fdd425023905c71d5c4428902d5562c89205d8"), looks := true }, kinds := [], alts := [], laidByText := true, laidKinds := [.data, .data, .data, .data, .sentinel, .sentinel, .data, .pinned], laidTests := true, laidLooks := .later }
def FnExactFloatOfUptoCardSaid : Prop := Claim7.holds Tryd.pinned (.plain (OpenSpec.upto fnExactFloatOfSpec)) fnExactFloatOfUptoCard
end Rows
end Go.Proofs.YtpildklndfgojaaDoor
