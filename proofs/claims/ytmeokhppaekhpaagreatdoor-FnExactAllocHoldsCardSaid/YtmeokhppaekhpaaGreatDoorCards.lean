/-
  DERIVED. GIVEN WITH THE SEED: THE CARDS: each row of YtmeokhppaekhpaaGreatDoorRows.lean that lists a variable, with what it lists TIED to the program's text (the seventh form; the later family's looks); each row that meets fmt, with fmt's text TOLD by the authors' own Lean function (tested against real Go, not proved from fmt's source: count such statements apart). THE CARD IS WHAT COUNTS. Prove the row's statement (the work); the ties are given (YtmeokhppaekhpaaGreatDoorTie.lean); close each card by the builder's one call (the guide's Derived/Test/ToyasCard.lean, 'card_holds'). Laid BY PROGRAM, IN A SANDBOX (cutbox-door.mjs). By AI agents, Wed Nov 11 2026. No macro, syntax, notation, axiom, sorry.
-/
import Derived.Test.YtmeokhppaekhpaaGreatDoorRows
import GoSem.ClaimSeven
namespace Go.Proofs.YtmeokhppaekhpaaGreatDoor
namespace Rows

/-- THE TIED CARD OF 'laws.FnExactAllocOf'. -/
def fnExactAllocOfCard : Claim7 := { stood := { row := fnExactAllocOfRow, standIns := [], harness := (true, "8626879740b2c9e5c005ed65fd87e3b8b389914f3705348575a883fc34f6b415"), looks := false }, kinds := [], alts := [], laidByText := true, laidKinds := [.data], laidTests := true, laidLooks := .later }
def FnExactAllocOfCardSaid : Prop := Claim7.holds Tryz.pinned (.plain (OpenSpec.ofChange fnExactAllocOfSpec)) fnExactAllocOfCard

/-- THE TIED CARD OF 'laws.FnExactAllocHolds'. -/
def fnExactAllocHoldsCard : Claim7 := { stood := { row := fnExactAllocHoldsRow, standIns := [], harness := (true, "8626879740b2c9e5c005ed65fd87e3b8b389914f3705348575a883fc34f6b415"), looks := false }, kinds := [], alts := [], laidByText := true, laidKinds := [.data], laidTests := true, laidLooks := .later }
def FnExactAllocHoldsCardSaid : Prop := Claim7.holds Tryz.pinned (.plain (OpenSpec.ofChange fnExactAllocHoldsSpec)) fnExactAllocHoldsCard

/-- THE TIED CARD OF 'laws.FnExactApplyAlloc'. -/
def fnExactApplyAllocCard : Claim7 := { stood := { row := fnExactApplyAllocRow, standIns := [], harness := (true, "8626879740b2c9e5c005ed65fd87e3b8b389914f3705348575a883fc34f6b415"), looks := false }, kinds := [], alts := [], laidByText := true, laidKinds := [.data], laidTests := true, laidLooks := .later }
def FnExactApplyAllocCardSaid : Prop := Claim7.holds Tryz.pinned (.plain (OpenSpec.ofChange fnExactApplyAllocSpec)) fnExactApplyAllocCard

/-- THE SECOND FORM's CARD OF 'laws.FnExactAllocOf'. -/
def fnExactAllocOfUptoCard : Claim7 := { stood := { row := fnExactAllocOfUptoRow, standIns := [], harness := (true, "8626879740b2c9e5c005ed65fd87e3b8b389914f3705348575a883fc34f6b415"), looks := false }, kinds := [], alts := [], laidByText := true, laidKinds := [.data], laidTests := true, laidLooks := .later }
def FnExactAllocOfUptoCardSaid : Prop := Claim7.holds Tryz.pinned (.plain (OpenSpec.upto fnExactAllocOfSpec)) fnExactAllocOfUptoCard

/-- THE SECOND FORM's CARD OF 'laws.FnExactAllocHolds'. -/
def fnExactAllocHoldsUptoCard : Claim7 := { stood := { row := fnExactAllocHoldsUptoRow, standIns := [], harness := (true, "8626879740b2c9e5c005ed65fd87e3b8b389914f3705348575a883fc34f6b415"), looks := false }, kinds := [], alts := [], laidByText := true, laidKinds := [.data], laidTests := true, laidLooks := .later }
def FnExactAllocHoldsUptoCardSaid : Prop := Claim7.holds Tryz.pinned (.plain (OpenSpec.upto fnExactAllocHoldsSpec)) fnExactAllocHoldsUptoCard

/-- THE SECOND FORM's CARD OF 'laws.FnExactApplyAlloc'. -/
def fnExactApplyAllocUptoCard : Claim7 := { stood := { row := fnExactApplyAllocUptoRow, standIns := [], harness := (true, "8626879740b2c9e5c005ed65fd87e3b8b389914f3705348575a883fc34f6b415"), looks := false }, kinds := [], alts := [], laidByText := true, laidKinds := [.data], laidTests := true, laidLooks := .later }
def FnExactApplyAllocUptoCardSaid : Prop := Claim7.holds Tryz.pinned (.plain (OpenSpec.upto fnExactApplyAllocSpec)) fnExactApplyAllocUptoCard
end Rows
end Go.Proofs.YtmeokhppaekhpaaGreatDoor
