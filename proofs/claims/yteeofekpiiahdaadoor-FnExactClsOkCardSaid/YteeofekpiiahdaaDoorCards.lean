/-
  DERIVED. GIVEN WITH THE SEED: THE CARDS: each row of YteeofekpiiahdaaDoorRows.lean that lists a variable, with what it lists TIED to the program's text (the seventh form; the later family's looks); each row that meets fmt, with fmt's text TOLD by the authors' own Lean function (tested against real Go, not proved from fmt's source: count such statements apart). THE CARD IS WHAT COUNTS. Prove the row's statement (the work); the ties are given (YteeofekpiiahdaaDoorTie.lean); close each card by the builder's one call (the guide's Derived/Test/ToyasCard.lean, 'card_holds'). Laid BY PROGRAM, IN A SANDBOX (cutbox-door.mjs). By AI agents, Wed Nov 11 2026. No macro, syntax, notation, axiom, sorry.
-/
import Derived.Test.YteeofekpiiahdaaDoorRows
import GoSem.ClaimSeven
namespace Go.Proofs.YteeofekpiiahdaaDoor
namespace Rows

/-- THE TIED CARD OF 'laws.FnExactClsOk'. -/
def fnExactClsOkCard : Claim7 := { stood := { row := fnExactClsOkRow, standIns := [], harness := (true, "ed4294d7d423c8103c02b3c75b37e15f5bb1704cbaf46719b682a9b003dd08b3"), looks := false }, kinds := [], alts := [], laidByText := true, laidKinds := [.data, .data], laidTests := true, laidLooks := .later }
def FnExactClsOkCardSaid : Prop := Claim7.holds Tryd.pinned (.plain (OpenSpec.ofChange fnExactClsOkSpec)) fnExactClsOkCard

/-- THE TIED CARD OF 'laws.FnExactAtomOf'. -/
def fnExactAtomOfCard : Claim7 := { stood := { row := fnExactAtomOfRow, standIns := [], harness := (true, "ed4294d7d423c8103c02b3c75b37e15f5bb1704cbaf46719b682a9b003dd08b3"), looks := false }, kinds := [], alts := [], laidByText := true, laidKinds := [.data, .data], laidTests := true, laidLooks := .later }
def FnExactAtomOfCardSaid : Prop := Claim7.holds Tryd.pinned (.plain (OpenSpec.ofChange fnExactAtomOfSpec)) fnExactAtomOfCard

/-- THE SECOND FORM's CARD OF 'laws.FnExactClsOk'. -/
def fnExactClsOkUptoCard : Claim7 := { stood := { row := fnExactClsOkUptoRow, standIns := [], harness := (true, "ed4294d7d423c8103c02b3c75b37e15f5bb1704cbaf46719b682a9b003dd08b3"), looks := false }, kinds := [], alts := [], laidByText := true, laidKinds := [.data, .data], laidTests := true, laidLooks := .later }
def FnExactClsOkUptoCardSaid : Prop := Claim7.holds Tryd.pinned (.plain (OpenSpec.upto fnExactClsOkSpec)) fnExactClsOkUptoCard

/-- THE SECOND FORM's CARD OF 'laws.FnExactAtomOf'. -/
def fnExactAtomOfUptoCard : Claim7 := { stood := { row := fnExactAtomOfUptoRow, standIns := [], harness := (true, "ed4294d7d423c8103c02b3c75b37e15f5bb1704cbaf46719b682a9b003dd08b3"), looks := false }, kinds := [], alts := [], laidByText := true, laidKinds := [.data, .data], laidTests := true, laidLooks := .later }
def FnExactAtomOfUptoCardSaid : Prop := Claim7.holds Tryd.pinned (.plain (OpenSpec.upto fnExactAtomOfSpec)) fnExactAtomOfUptoCard
end Rows
end Go.Proofs.YteeofekpiiahdaaDoor
