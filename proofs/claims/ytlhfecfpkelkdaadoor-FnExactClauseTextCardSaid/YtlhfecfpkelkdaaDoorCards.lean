/-
  DERIVED. GIVEN WITH THE SEED: THE CARDS: each row of YtlhfecfpkelkdaaDoorRows.lean that lists a variable, with what it lists TIED to the program's text (the seventh form; the later family's looks); each row that meets fmt, with fmt's text TOLD by the authors' own Lean function (tested against real Go, not proved from fmt's source: count such statements apart). THE CARD IS WHAT COUNTS. Prove the row's statement (the work); the ties are given (YtlhfecfpkelkdaaDoorTie.lean); close each card by the builder's one call (the guide's Derived/Test/ToyasCard.lean, 'card_holds'). Laid BY PROGRAM, IN A SANDBOX (cutbox-door.mjs). By AI agents, Wed Nov 11 2026. No macro, syntax, notation, axiom, sorry.
-/
import Derived.Test.YtlhfecfpkelkdaaDoorRows
import GoSem.ClaimSeven
namespace Go.Proofs.YtlhfecfpkelkdaaDoor
namespace Rows

/-- THE TIED CARD OF 'laws.FnExactTaut'. -/
def fnExactTautCard : Claim7 := { stood := { row := fnExactTautRow, standIns := [], harness := (true, "e0075c46427d8444888ceedd0a00931e98e47113788f66452bf509b5b0dba605"), looks := false }, kinds := [], alts := [], laidByText := true, laidKinds := [.data, .data], laidTests := true, laidLooks := .later }
def FnExactTautCardSaid : Prop := Claim7.holds Tryd.pinned (.plain (OpenSpec.ofChange fnExactTautSpec)) fnExactTautCard

/-- THE TIED CARD OF 'laws.FnExactClauseText'. -/
def fnExactClauseTextCard : Claim7 := { stood := { row := fnExactClauseTextRow, standIns := [], harness := (true, "e0075c46427d8444888ceedd0a00931e98e47113788f66452bf509b5b0dba605"), looks := false }, kinds := [], alts := [], laidByText := true, laidKinds := [.data, .data, .data], laidTests := true, laidLooks := .later }
def FnExactClauseTextCardSaid : Prop := Claim7.holds Tryd.pinned (.plain (OpenSpec.ofChange fnExactClauseTextSpec)) fnExactClauseTextCard

/-- THE SECOND FORM's CARD OF 'laws.FnExactTaut'. -/
def fnExactTautUptoCard : Claim7 := { stood := { row := fnExactTautUptoRow, standIns := [], harness := (true, "e0075c46427d8444888ceedd0a00931e98e47113788f66452bf509b5b0dba605"), looks := false }, kinds := [], alts := [], laidByText := true, laidKinds := [.data, .data], laidTests := true, laidLooks := .later }
def FnExactTautUptoCardSaid : Prop := Claim7.holds Tryd.pinned (.plain (OpenSpec.upto fnExactTautSpec)) fnExactTautUptoCard

/-- THE SECOND FORM's CARD OF 'laws.FnExactClauseText'. -/
def fnExactClauseTextUptoCard : Claim7 := { stood := { row := fnExactClauseTextUptoRow, standIns := [], harness := (true, "e0075c46427d8444888ceedd0a00931e98e47113788f66452bf509b5b0dba605"), looks := false }, kinds := [], alts := [], laidByText := true, laidKinds := [.data, .data, .data], laidTests := true, laidLooks := .later }
def FnExactClauseTextUptoCardSaid : Prop := Claim7.holds Tryd.pinned (.plain (OpenSpec.upto fnExactClauseTextSpec)) fnExactClauseTextUptoCard
end Rows
end Go.Proofs.YtlhfecfpkelkdaaDoor
