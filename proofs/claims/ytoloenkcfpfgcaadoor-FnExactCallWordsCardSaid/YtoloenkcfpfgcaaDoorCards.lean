/-
  DERIVED. GIVEN WITH THE SEED: THE CARDS: each row of YtoloenkcfpfgcaaDoorRows.lean that lists a variable, with what it lists TIED to the program's text (the seventh form; the later family's looks); each row that meets fmt, with fmt's text TOLD by the authors' own Lean function (tested against real Go, not proved from fmt's source: count such statements apart). THE CARD IS WHAT COUNTS. Prove the row's statement (the work); the ties are given (YtoloenkcfpfgcaaDoorTie.lean); close each card by the builder's one call (the guide's Derived/Test/ToyasCard.lean, 'card_holds'). Laid BY PROGRAM, IN A SANDBOX (cutbox-door.mjs). By AI agents, Wed Nov 11 2026. No macro, syntax, notation, axiom, sorry.
-/
import Derived.Test.YtoloenkcfpfgcaaDoorRows
import GoSem.ClaimSeven
namespace Go.Proofs.YtoloenkcfpfgcaaDoor
namespace Rows

/-- THE TIED CARD OF 'laws.FnExactCallWords'. -/
def fnExactCallWordsCard : Claim7 := { stood := { row := fnExactCallWordsRow, standIns := [], harness := (true, "1e4f488a1bed61044ea4c9ff7118f8c27740308ccab3f9013dd3bf42cc429e35"), looks := false }, kinds := [], alts := [], laidByText := true, laidKinds := [.data, .data], laidTests := true, laidLooks := .later }
def FnExactCallWordsCardSaid : Prop := Claim7.holds Tryd.pinned (.plain (OpenSpec.ofChange fnExactCallWordsSpec)) fnExactCallWordsCard

/-- THE SECOND FORM's CARD OF 'laws.FnExactCallWords'. -/
def fnExactCallWordsUptoCard : Claim7 := { stood := { row := fnExactCallWordsUptoRow, standIns := [], harness := (true, "1e4f488a1bed61044ea4c9ff7118f8c27740308ccab3f9013dd3bf42cc429e35"), looks := false }, kinds := [], alts := [], laidByText := true, laidKinds := [.data, .data], laidTests := true, laidLooks := .later }
def FnExactCallWordsUptoCardSaid : Prop := Claim7.holds Tryd.pinned (.plain (OpenSpec.upto fnExactCallWordsSpec)) fnExactCallWordsUptoCard
end Rows
end Go.Proofs.YtoloenkcfpfgcaaDoor
