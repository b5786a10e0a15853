/-
  DERIVED. GIVEN WITH THE SEED: THE CARDS: each row of YtellcgmabimieaaGreatDoorRows.lean that lists a variable, with what it lists TIED to the program's text (the seventh form; the later family's looks); each row that meets fmt, with fmt's text TOLD by the authors' own Lean function (tested against real Go, not proved from fmt's source: count such statements apart). THE CARD IS WHAT COUNTS. Prove the row's statement (the work); the ties are given (YtellcgmabimieaaGreatDoorTie.lean); close each card by the builder's one call (the guide's Derived/Test/ToyasCard.lean, 'card_holds'). Laid BY PROGRAM, IN A SANDBOX (cutbox-door.mjs). By AI agents, Wed Nov 11 2026. No macro, syntax, notation, axiom, sorry.
-/
import Derived.Test.YtellcgmabimieaaGreatDoorRows
import GoSem.ClaimSeven
namespace Go.Proofs.YtellcgmabimieaaGreatDoor
namespace Rows

/-- THE TIED CARD OF 'laws.FnExactClauseHolds'. -/
def fnExactClauseHoldsCard : Claim7 := { stood := { row := fnExactClauseHoldsRow, standIns := [], harness := (true, "d495fb46add2afb4cd32eaec2fc99128e95caa44c751eda63d2cd939807009ac"), looks := false }, kinds := [], alts := [], laidByText := true, laidKinds := [.data, .data], laidTests := true, laidLooks := .later }
def FnExactClauseHoldsCardSaid : Prop := Claim7.holds Tryz.pinned (.plain (OpenSpec.ofChange fnExactClauseHoldsSpec)) fnExactClauseHoldsCard

/-- THE SECOND FORM's CARD OF 'laws.FnExactClauseHolds'. -/
def fnExactClauseHoldsUptoCard : Claim7 := { stood := { row := fnExactClauseHoldsUptoRow, standIns := [], harness := (true, "d495fb46add2afb4cd32eaec2fc99128e95caa44c751eda63d2cd939807009ac"), looks := false }, kinds := [], alts := [], laidByText := true, laidKinds := [.data, .data], laidTests := true, laidLooks := .later }
def FnExactClauseHoldsUptoCardSaid : Prop := Claim7.holds Tryz.pinned (.plain (OpenSpec.upto fnExactClauseHoldsSpec)) fnExactClauseHoldsUptoCard
end Rows
end Go.Proofs.YtellcgmabimieaaGreatDoor
