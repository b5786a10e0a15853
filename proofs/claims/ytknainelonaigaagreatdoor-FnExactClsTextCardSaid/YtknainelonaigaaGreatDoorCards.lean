/-
  DERIVED. GIVEN WITH THE SEED: THE CARDS: each row of YtknainelonaigaaGreatDoorRows.lean that lists a variable, with what it lists TIED to the program's text (the seventh form; the later family's looks); each row that meets fmt, with fmt's text TOLD by the authors' own Lean function (tested against real Go, not proved from fmt's source: count such statements apart). THE CARD IS WHAT COUNTS. Prove the row's statement (the work); the ties are given (YtknainelonaigaaGreatDoorTie.lean); close each card by the builder's one call (the guide's Derived/Test/ToyasCard.lean, 'card_holds'). Laid BY PROGRAM, IN A SANDBOX (cutbox-door.mjs). By AI agents, Wed Nov 11 2026. No macro, syntax, notation, axiom, sorry.
-/
import Derived.Test.YtknainelonaigaaGreatDoorRows
import GoSem.ClaimSeven
namespace Go.Proofs.YtknainelonaigaaGreatDoor
namespace Rows

/-- THE TIED CARD OF 'laws.FnExactClsText'. -/
def fnExactClsTextCard : Claim7 := { stood := { row := fnExactClsTextRow, standIns := [], harness := (true, "2ce60a33186661d517c92f92e4b13a6bcb9201840aa6eb4f8878047f9c92e7bf"), looks := false }, kinds := [], alts := [], laidByText := true, laidKinds := [.data, .data, .data], laidTests := true, laidLooks := .later }
def FnExactClsTextCardSaid : Prop := Claim7.holds Tryz.pinned (.plain (OpenSpec.ofChange fnExactClsTextSpec)) fnExactClsTextCard

/-- THE SECOND FORM's CARD OF 'laws.FnExactClsText'. -/
def fnExactClsTextUptoCard : Claim7 := { stood := { row := fnExactClsTextUptoRow, standIns := [], harness := (true, "2ce60a33186661d517c92f92e4b13a6bcb9201840aa6eb4f8878047f9c92e7bf"), looks := false }, kinds := [], alts := [], laidByText := true, laidKinds := [.data, .data, .data], laidTests := true, laidLooks := .later }
def FnExactClsTextUptoCardSaid : Prop := Claim7.holds Tryz.pinned (.plain (OpenSpec.upto fnExactClsTextSpec)) fnExactClsTextUptoCard
end Rows
end Go.Proofs.YtknainelonaigaaGreatDoor
