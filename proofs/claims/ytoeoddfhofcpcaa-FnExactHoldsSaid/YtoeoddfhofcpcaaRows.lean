/-
  NARROWER THAN 'FOR EVERY INPUT', by the rows' own cells (each row's printed sentence says how): FnExactRules: loops · FnExactHolds: loops · FnExactExtension: loops.
  DERIVED. THE GIVEN ROWS OF THIS SEAT. 3 by the template 'for every input the law returns true; each argument reads behind the call as it read before'; 0 by the template 'total and deterministic' (their statements: YtoeoddfhofcpcaaTotals.lean).
  GIVEN WITH THE SEED: the statements are not yours to turn. If you find one false, say at which input.
  Laid BY PROGRAM, IN A SANDBOX (cutbox-rows.mjs): the forced cells as the released guide's own fill.sh prints them over the translation d17e6b6b5e0e3ef3… (all of the seat's roots in one cut). By AI agents, Wed Nov 11 2026. No macro, syntax, notation, axiom, sorry.
-/
import Derived.Test.YtoeoddfhofcpcaaChecked
import GoSem.Claim
import GoSem.ClaimJoined
import GoSem.ClaimMapViews
import Derived.JoinedTies
import Derived.KernelRfl
namespace Go.Proofs.Ytoeoddfhofcpcaa
/- THE CELL 'sum', in the pinned program and in every row, IS THE sha256 OF THE DUMP (.gsa) THAT YtoeoddfhofcpcaaProg.lean LOADS. Nothing in Lean hashes anything: it is a label: what it is worth is what the hold of that sum in a sandbox is worth. -/
noncomputable def Try.pinned : Pinned := { name := "ytoeoddfhofcpcaa", sum := "d17e6b6b5e0e3ef3fceff6f452e2e4af54d29a656f54d5fe1c32d09acc1315e2", checked := Try.checked }
namespace Rows
def none {H : Type} : Left H := { results := [], args := [] }

/-- 'laws.FnExactRules': WHATEVER THE INPUT: true; the input reads as it did. -/
def fnExactRulesSpec : ChangeSpec := { name := "fnExactRules", fn := fun _ => fun
  | [d] => { results := [.lit (.bool true)], args := [d] }
  | _ => none }
def fnExactRulesRow : OpenClaim := { program := "ytoeoddfhofcpcaa", sum := "d17e6b6b5e0e3ef3fceff6f452e2e4af54d29a656f54d5fe1c32d09acc1315e2", func := "loop.example/g00534/laws.FnExactRules", spec := "fnExactRules", inPlace := ["internal/bytealg.IndexByteString", "internal/bytealg.IndexString"], unfollowed := true, recurses := true, named := ["internal/bytealg.MaxLen"], loops := true, apart := false }
def FnExactRulesSaid : Prop := fnExactRulesRow.holds Try.pinned (OpenSpec.ofChange fnExactRulesSpec)

/-- ITS FALSE NEIGHBOUR: 'it returns false'. Refute it at one input. -/
def fnExactRulesWrong : ChangeSpec := { name := "fnExactRules", fn := fun _ => fun
  | [d] => { results := [.lit (.bool false)], args := [d] }
  | _ => none }
def FnExactRulesWrongFalsely : Prop := fnExactRulesRow.holds Try.pinned (OpenSpec.ofChange fnExactRulesWrong)

/-- 'laws.FnExactHolds': WHATEVER THE INPUT: true; the input reads as it did. -/
def fnExactHoldsSpec : ChangeSpec := { name := "fnExactHolds", fn := fun _ => fun
  | [d1, d2, d3] => { results := [.lit (.bool true)], args := [d1, d2, d3] }
  | _ => none }
def fnExactHoldsRow : OpenClaim := { program := "ytoeoddfhofcpcaa", sum := "d17e6b6b5e0e3ef3fceff6f452e2e4af54d29a656f54d5fe1c32d09acc1315e2", func := "loop.example/g00534/laws.FnExactHolds", spec := "fnExactHolds", inPlace := ["internal/bytealg.Compare"], unfollowed := true, recurses := true, loops := true, apart := false }
def FnExactHoldsSaid : Prop := fnExactHoldsRow.holds Try.pinned (OpenSpec.ofChange fnExactHoldsSpec)

/-- ITS FALSE NEIGHBOUR: 'it returns false'. Refute it at one input. -/
def fnExactHoldsWrong : ChangeSpec := { name := "fnExactHolds", fn := fun _ => fun
  | [d1, d2, d3] => { results := [.lit (.bool false)], args := [d1, d2, d3] }
  | _ => none }
def FnExactHoldsWrongFalsely : Prop := fnExactHoldsRow.holds Try.pinned (OpenSpec.ofChange fnExactHoldsWrong)

/-- 'laws.FnExactExtension': WHATEVER THE INPUT: true; the input reads as it did. -/
def fnExactExtensionSpec : ChangeSpec := { name := "fnExactExtension", fn := fun _ => fun
  | [d1, d2] => { results := [.lit (.bool true)], args := [d1, d2] }
  | _ => none }
def fnExactExtensionRow : OpenClaim := { program := "ytoeoddfhofcpcaa", sum := "d17e6b6b5e0e3ef3fceff6f452e2e4af54d29a656f54d5fe1c32d09acc1315e2", func := "loop.example/g00534/laws.FnExactExtension", spec := "fnExactExtension", inPlace := ["internal/bytealg.Compare"], unfollowed := true, recurses := true, loops := true, apart := false }
def FnExactExtensionSaid : Prop := fnExactExtensionRow.holds Try.pinned (OpenSpec.ofChange fnExactExtensionSpec)

/-- ITS FALSE NEIGHBOUR: 'it returns false'. Refute it at one input. -/
def fnExactExtensionWrong : ChangeSpec := { name := "fnExactExtension", fn := fun _ => fun
  | [d1, d2] => { results := [.lit (.bool false)], args := [d1, d2] }
  | _ => none }
def FnExactExtensionWrongFalsely : Prop := fnExactExtensionRow.holds Try.pinned (OpenSpec.ofChange fnExactExtensionWrong)

/- THE SECOND FORM. 'bulk': how many values and letters a reading holds, each counted each time it is reached (what is shared counts as often as it is met; a slice's spare places count too). A statement '..UptoSaid' is the law's where the arguments, and the package variables that the reading takes, are together of bulk at most 1048576: NARROWER than '..Said'. Prove '..Said' where nothing that the law and all that it calls make is longer than what came in: it says more and counts as full. Else prove '..UptoSaid'. A law counts once. -/
mutual
def uptoBulk {H : Type} : DataW H → Nat
  | .lit (.string bytes) => bytes.length + 1
  | .lit _ => 1
  | .nil => 1
  | .ptr d => uptoBulk d + 1
  | .slice elems spare => uptoBulkAll elems + uptoBulkAll spare + 1
  | .agg parts => uptoBulkAll parts + 1
  | .iface _ d => uptoBulk d + 1
  | .map entries => uptoBulkEntries entries + 1
  | .held _ => 1
def uptoBulkAll {H : Type} : List (DataW H) → Nat
  | [] => 0
  | d :: r => uptoBulk d + uptoBulkAll r
def uptoBulkEntries {H : Type} : List (Lit × DataW H) → Nat
  | [] => 0
  | x :: r => uptoBulkEntry x + uptoBulkEntries r
def uptoBulkEntry {H : Type} : Lit × DataW H → Nat
  | (.string bytes, d) => bytes.length + uptoBulk d + 1
  | (_, d) => uptoBulk d + 1
 end
def uptoSmall : (H : Type) → List (DataW H) → Bool := fun _ ds => decide (uptoBulkAll ds ≤ 1048576)
def OpenSpec.upto (s : _root_.Go.ChangeSpec) : _root_.Go.OpenSpec := { _root_.Go.OpenSpec.ofChange s with cond := some uptoSmall }

/-- 'laws.FnExactRules', WHERE WHAT IT READS IS OF BULK AT MOST 1048576: true; the input reads as it did. -/
def fnExactRulesUptoRow : OpenClaim := { program := "ytoeoddfhofcpcaa", sum := "d17e6b6b5e0e3ef3fceff6f452e2e4af54d29a656f54d5fe1c32d09acc1315e2", func := "loop.example/g00534/laws.FnExactRules", spec := "fnExactRules", inPlace := ["internal/bytealg.IndexByteString", "internal/bytealg.IndexString"], unfollowed := true, recurses := true, named := ["internal/bytealg.MaxLen"], loops := true, apart := false, narrowed := true }
def FnExactRulesUptoSaid : Prop := fnExactRulesUptoRow.holds Try.pinned (OpenSpec.upto fnExactRulesSpec)

/-- 'laws.FnExactHolds', WHERE WHAT IT READS IS OF BULK AT MOST 1048576: true; the input reads as it did. -/
def fnExactHoldsUptoRow : OpenClaim := { program := "ytoeoddfhofcpcaa", sum := "d17e6b6b5e0e3ef3fceff6f452e2e4af54d29a656f54d5fe1c32d09acc1315e2", func := "loop.example/g00534/laws.FnExactHolds", spec := "fnExactHolds", inPlace := ["internal/bytealg.Compare"], unfollowed := true, recurses := true, loops := true, apart := false, narrowed := true }
def FnExactHoldsUptoSaid : Prop := fnExactHoldsUptoRow.holds Try.pinned (OpenSpec.upto fnExactHoldsSpec)

/-- 'laws.FnExactExtension', WHERE WHAT IT READS IS OF BULK AT MOST 1048576: true; the input reads as it did. -/
def fnExactExtensionUptoRow : OpenClaim := { program := "ytoeoddfhofcpcaa", sum := "d17e6b6b5e0e3ef3fceff6f452e2e4af54d29a656f54d5fe1c32d09acc1315e2", func := "loop.example/g00534/laws.FnExactExtension", spec := "fnExactExtension", inPlace := ["internal/bytealg.Compare"], unfollowed := true, recurses := true, loops := true, apart := false, narrowed := true }
def FnExactExtensionUptoSaid : Prop := fnExactExtensionUptoRow.holds Try.pinned (OpenSpec.upto fnExactExtensionSpec)

end Rows
end Go.Proofs.Ytoeoddfhofcpcaa
