/-
  No cell of these rows narrows 'for every input' (looked for: loops, veiled, ifaces, maps, wideKeys, modest, calm, conditions, laid).
  DERIVED. THE GIVEN ROWS OF THIS SEAT. 5 by the template 'for every input the law returns true; each argument reads behind the call as it read before'; 0 by the template 'total and deterministic' (their statements: YtbnhdhdldcbokaaTotals.lean).
  GIVEN WITH THE SEED: the statements are not yours to turn. If you find one false, say at which input.
  Laid BY PROGRAM, IN A SANDBOX (cutbox-rows.mjs): the forced cells as the released guide's own fill.sh prints them over the translation d744958080c9e171… (all of the seat's roots in one cut). By AI agents, Wed Nov 11 2026. No macro, syntax, notation, axiom, sorry.
-/
import Derived.Test.YtbnhdhdldcbokaaChecked
import GoSem.Claim
import GoSem.ClaimJoined
import GoSem.ClaimMapViews
import Derived.JoinedTies
import Derived.KernelRfl
namespace Go.Proofs.Ytbnhdhdldcbokaa
/- THE CELL 'sum', in the pinned program and in every row, IS THE sha256 OF THE DUMP (.gsa) THAT YtbnhdhdldcbokaaProg.lean LOADS. Nothing in Lean hashes anything: it is a label: what it is worth is what the hold of that sum in a sandbox is worth. -/
noncomputable def Try.pinned : Pinned := { name := "ytbnhdhdldcbokaa", sum := "d744958080c9e171eb2bba66a6010bb47a19fffba96be47738c585e7427e7160", checked := Try.checked }
namespace Rows
def none {H : Type} : Left H := { results := [], args := [] }

/-- 'laws.FnGreatest': WHATEVER THE INPUT: true; the input reads as it did. -/
def fnGreatestSpec : ChangeSpec := { name := "fnGreatest", fn := fun _ => fun
  | [d] => { results := [.lit (.bool true)], args := [d] }
  | _ => none }
def fnGreatestRow : OpenClaim := { program := "ytbnhdhdldcbokaa", sum := "d744958080c9e171eb2bba66a6010bb47a19fffba96be47738c585e7427e7160", func := "loop.example/g00534/laws.FnGreatest", spec := "fnGreatest", apart := false }
def FnGreatestSaid : Prop := fnGreatestRow.holds Try.pinned (OpenSpec.ofChange fnGreatestSpec)

/-- ITS FALSE NEIGHBOUR: 'it returns false'. Refute it at one input. -/
def fnGreatestWrong : ChangeSpec := { name := "fnGreatest", fn := fun _ => fun
  | [d] => { results := [.lit (.bool false)], args := [d] }
  | _ => none }
def FnGreatestWrongFalsely : Prop := fnGreatestRow.holds Try.pinned (OpenSpec.ofChange fnGreatestWrong)

/-- 'laws.FnExactClauseOk': WHATEVER THE INPUT: true; the input reads as it did. -/
def fnExactClauseOkSpec : ChangeSpec := { name := "fnExactClauseOk", fn := fun _ => fun
  | [d] => { results := [.lit (.bool true)], args := [d] }
  | _ => none }
def fnExactClauseOkRow : OpenClaim := { program := "ytbnhdhdldcbokaa", sum := "d744958080c9e171eb2bba66a6010bb47a19fffba96be47738c585e7427e7160", func := "loop.example/g00534/laws.FnExactClauseOk", spec := "fnExactClauseOk", unfollowed := true, recurses := true, apart := false }
def FnExactClauseOkSaid : Prop := fnExactClauseOkRow.holds Try.pinned (OpenSpec.ofChange fnExactClauseOkSpec)

/-- ITS FALSE NEIGHBOUR: 'it returns false'. Refute it at one input. -/
def fnExactClauseOkWrong : ChangeSpec := { name := "fnExactClauseOk", fn := fun _ => fun
  | [d] => { results := [.lit (.bool false)], args := [d] }
  | _ => none }
def FnExactClauseOkWrongFalsely : Prop := fnExactClauseOkRow.holds Try.pinned (OpenSpec.ofChange fnExactClauseOkWrong)

/-- 'laws.FnExactStronger': WHATEVER THE INPUT: true; the input reads as it did. -/
def fnExactStrongerSpec : ChangeSpec := { name := "fnExactStronger", fn := fun _ => fun
  | [d1, d2] => { results := [.lit (.bool true)], args := [d1, d2] }
  | _ => none }
def fnExactStrongerRow : OpenClaim := { program := "ytbnhdhdldcbokaa", sum := "d744958080c9e171eb2bba66a6010bb47a19fffba96be47738c585e7427e7160", func := "loop.example/g00534/laws.FnExactStronger", spec := "fnExactStronger", unfollowed := true, recurses := true, apart := false }
def FnExactStrongerSaid : Prop := fnExactStrongerRow.holds Try.pinned (OpenSpec.ofChange fnExactStrongerSpec)

/-- ITS FALSE NEIGHBOUR: 'it returns false'. Refute it at one input. -/
def fnExactStrongerWrong : ChangeSpec := { name := "fnExactStronger", fn := fun _ => fun
  | [d1, d2] => { results := [.lit (.bool false)], args := [d1, d2] }
  | _ => none }
def FnExactStrongerWrongFalsely : Prop := fnExactStrongerRow.holds Try.pinned (OpenSpec.ofChange fnExactStrongerWrong)

/-- 'laws.FnExactClauseCmp': WHATEVER THE INPUT: true; the input reads as it did. -/
def fnExactClauseCmpSpec : ChangeSpec := { name := "fnExactClauseCmp", fn := fun _ => fun
  | [d1, d2] => { results := [.lit (.bool true)], args := [d1, d2] }
  | _ => none }
def fnExactClauseCmpRow : OpenClaim := { program := "ytbnhdhdldcbokaa", sum := "d744958080c9e171eb2bba66a6010bb47a19fffba96be47738c585e7427e7160", func := "loop.example/g00534/laws.FnExactClauseCmp", spec := "fnExactClauseCmp", unfollowed := true, recurses := true, apart := false }
def FnExactClauseCmpSaid : Prop := fnExactClauseCmpRow.holds Try.pinned (OpenSpec.ofChange fnExactClauseCmpSpec)

/-- ITS FALSE NEIGHBOUR: 'it returns false'. Refute it at one input. -/
def fnExactClauseCmpWrong : ChangeSpec := { name := "fnExactClauseCmp", fn := fun _ => fun
  | [d1, d2] => { results := [.lit (.bool false)], args := [d1, d2] }
  | _ => none }
def FnExactClauseCmpWrongFalsely : Prop := fnExactClauseCmpRow.holds Try.pinned (OpenSpec.ofChange fnExactClauseCmpWrong)

/-- 'laws.FnExactGreatest': WHATEVER THE INPUT: true; the input reads as it did. -/
def fnExactGreatestSpec : ChangeSpec := { name := "fnExactGreatest", fn := fun _ => fun
  | [d] => { results := [.lit (.bool true)], args := [d] }
  | _ => none }
def fnExactGreatestRow : OpenClaim := { program := "ytbnhdhdldcbokaa", sum := "d744958080c9e171eb2bba66a6010bb47a19fffba96be47738c585e7427e7160", func := "loop.example/g00534/laws.FnExactGreatest", spec := "fnExactGreatest", apart := false }
def FnExactGreatestSaid : Prop := fnExactGreatestRow.holds Try.pinned (OpenSpec.ofChange fnExactGreatestSpec)

/-- ITS FALSE NEIGHBOUR: 'it returns false'. Refute it at one input. -/
def fnExactGreatestWrong : ChangeSpec := { name := "fnExactGreatest", fn := fun _ => fun
  | [d] => { results := [.lit (.bool false)], args := [d] }
  | _ => none }
def FnExactGreatestWrongFalsely : Prop := fnExactGreatestRow.holds Try.pinned (OpenSpec.ofChange fnExactGreatestWrong)

/- THE SECOND FORM. 'bulk': how many values and letters a reading holds, each counted each time it is reached (what is shared counts as often as it is met; a slice's spare places count too). A statement '..UptoSaid' is the law's where the arguments, and the package variables that the reading takes, are together of bulk at most 1048576: NARROWER than '..Said'. Prove '..Said' where nothing that the law and all that it calls make is longer than what came in: it says more and counts as full. Else prove '..UptoSaid'. A law counts once. -/
mutual
def uptoBulk {H : Type} : DataW H → Nat
  | .lit (.string bytes) => bytes.length + 1
  | .lit _ => 1
  | .nil => 1
  | .ptr d => uptoBulk d + 1
  | .slice elems spare => uptoBulkAll elems + uptoBulkAll spare + 1
  | .agg parts => uptoBulkAll parts + 1
  | .iface _ d => uptoBulk d + 1
  | .map entries => uptoBulkEntries entries + 1
  | .held _ => 1
def uptoBulkAll {H : Type} : List (DataW H) → Nat
  | [] => 0
  | d :: r => uptoBulk d + uptoBulkAll r
def uptoBulkEntries {H : Type} : List (Lit × DataW H) → Nat
  | [] => 0
  | x :: r => uptoBulkEntry x + uptoBulkEntries r
def uptoBulkEntry {H : Type} : Lit × DataW H → Nat
  | (.string bytes, d) => bytes.length + uptoBulk d + 1
  | (_, d) => uptoBulk d + 1
 end
def uptoSmall : (H : Type) → List (DataW H) → Bool := fun _ ds => decide (uptoBulkAll ds ≤ 1048576)
def OpenSpec.upto (s : _root_.Go.ChangeSpec) : _root_.Go.OpenSpec := { _root_.Go.OpenSpec.ofChange s with cond := some uptoSmall }

/-- 'laws.FnGreatest', WHERE WHAT IT READS IS OF BULK AT MOST 1048576: true; the input reads as it did. -/
def fnGreatestUptoRow : OpenClaim := { program := "ytbnhdhdldcbokaa", sum := "d744958080c9e171eb2bba66a6010bb47a19fffba96be47738c585e7427e7160", func := "loop.example/g00534/laws.FnGreatest", spec := "fnGreatest", apart := false, narrowed := true }
def FnGreatestUptoSaid : Prop := fnGreatestUptoRow.holds Try.pinned (OpenSpec.upto fnGreatestSpec)

/-- 'laws.FnExactClauseOk', WHERE WHAT IT READS IS OF BULK AT MOST 1048576: true; the input reads as it did. -/
def fnExactClauseOkUptoRow : OpenClaim := { program := "ytbnhdhdldcbokaa", sum := "d744958080c9e171eb2bba66a6010bb47a19fffba96be47738c585e7427e7160", func := "loop.example/g00534/laws.FnExactClauseOk", spec := "fnExactClauseOk", unfollowed := true, recurses := true, apart := false, narrowed := true }
def FnExactClauseOkUptoSaid : Prop := fnExactClauseOkUptoRow.holds Try.pinned (OpenSpec.upto fnExactClauseOkSpec)

/-- 'laws.FnExactStronger', WHERE WHAT IT READS IS OF BULK AT MOST 1048576: true; the input reads as it did. -/
def fnExactStrongerUptoRow : OpenClaim := { program := "ytbnhdhdldcbokaa", sum := "d744958080c9e171eb2bba66a6010bb47a19fffba96be47738c585e7427e7160", func := "loop.example/g00534/laws.FnExactStronger", spec := "fnExactStronger", unfollowed := true, recurses := true, apart := false, narrowed := true }
def FnExactStrongerUptoSaid : Prop := fnExactStrongerUptoRow.holds Try.pinned (OpenSpec.upto fnExactStrongerSpec)

/-- 'laws.FnExactClauseCmp', WHERE WHAT IT READS IS OF BULK AT MOST 1048576: true; the input reads as it did. -/
def fnExactClauseCmpUptoRow : OpenClaim := { program := "ytbnhdhdldcbokaa", sum := "d744958080c9e171eb2bba66a6010bb47a19fffba96be47738c585e7427e7160", func := "loop.example/g00534/laws.FnExactClauseCmp", spec := "fnExactClauseCmp", unfollowed := true, recurses := true, apart := false, narrowed := true }
def FnExactClauseCmpUptoSaid : Prop := fnExactClauseCmpUptoRow.holds Try.pinned (OpenSpec.upto fnExactClauseCmpSpec)

/-- 'laws.FnExactGreatest', WHERE WHAT IT READS IS OF BULK AT MOST 1048576: true; the input reads as it did. -/
def fnExactGreatestUptoRow : OpenClaim := { program := "ytbnhdhdldcbokaa", sum := "d744958080c9e171eb2bba66a6010bb47a19fffba96be47738c585e7427e7160", func := "loop.example/g00534/laws.FnExactGreatest", spec := "fnExactGreatest", apart := false, narrowed := true }
def FnExactGreatestUptoSaid : Prop := fnExactGreatestUptoRow.holds Try.pinned (OpenSpec.upto fnExactGreatestSpec)

end Rows
end Go.Proofs.Ytbnhdhdldcbokaa
