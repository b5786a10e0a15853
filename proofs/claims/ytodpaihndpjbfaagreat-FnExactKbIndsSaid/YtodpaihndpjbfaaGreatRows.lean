/-
  NARROWER THAN 'FOR EVERY INPUT', by the rows' own cells (each row's printed sentence says how): FnExactKbNames: loops · FnExactKbRoles: loops · FnExactKbInds: loops · FnExactSatisfies: loops · FnExactIsModel: loops.
  DERIVED. THE GIVEN ROWS OF THIS SEAT. 6 by the template 'for every input the law returns true; each argument reads behind the call as it read before'; 0 by the template 'total and deterministic' (their statements: YtodpaihndpjbfaaGreatTotals.lean).
  GIVEN WITH THE SEED: the statements are not yours to turn. If you find one false, say at which input.
  Laid BY PROGRAM, IN A SANDBOX (cutbox-rows.mjs): the forced cells as the released guide's own fill.sh prints them over the translation a6a19223ef3d980a… (all of the seat's roots in one cut). By AI agents, Wed Nov 11 2026. No macro, syntax, notation, axiom, sorry.
-/
import Derived.Test.YtodpaihndpjbfaaGreatChecked
import GoSem.Claim
import GoSem.ClaimJoined
import GoSem.ClaimMapViews
import Derived.JoinedTies
import Derived.KernelRfl
namespace Go.Proofs.YtodpaihndpjbfaaGreat
/- THE CELL 'sum', in the pinned program and in every row, IS THE sha256 OF THE DUMP (.gsa) THAT YtodpaihndpjbfaaGreatProg.lean LOADS. Nothing in Lean hashes anything: it is a label: what it is worth is what the hold of that sum in a sandbox is worth. -/
noncomputable def Tryz.pinned : Pinned := { name := "ytodpaihndpjbfaagreat", sum := "a6a19223ef3d980ae57e312a619b25ad78241c76b18d565bdcd0aef1c103e612", checked := Tryz.checked }
namespace Rows
def none {H : Type} : Left H := { results := [], args := [] }

/-- 'laws.FnModels': WHATEVER THE INPUT: true; the input reads as it did. -/
def fnModelsSpec : ChangeSpec := { name := "fnModels", fn := fun _ => fun
  | [d] => { results := [.lit (.bool true)], args := [d] }
  | _ => none }
def fnModelsRow : OpenClaim := { program := "ytodpaihndpjbfaagreat", sum := "a6a19223ef3d980ae57e312a619b25ad78241c76b18d565bdcd0aef1c103e612", func := "loop.example/g00534/laws.FnModels", spec := "fnModels", inPlace := ["internal/bytealg.Compare", "internal/bytealg.IndexByteString", "internal/bytealg.IndexString"], unfollowed := true, recurses := true, named := ["internal/bytealg.MaxLen"], apart := false }
def FnModelsSaid : Prop := fnModelsRow.holds Tryz.pinned (OpenSpec.ofChange fnModelsSpec)

/-- ITS FALSE NEIGHBOUR: 'it returns false'. Refute it at one input. -/
def fnModelsWrong : ChangeSpec := { name := "fnModels", fn := fun _ => fun
  | [d] => { results := [.lit (.bool false)], args := [d] }
  | _ => none }
def FnModelsWrongFalsely : Prop := fnModelsRow.holds Tryz.pinned (OpenSpec.ofChange fnModelsWrong)

/-- 'laws.FnExactKbNames': WHATEVER THE INPUT: true; the input reads as it did. -/
def fnExactKbNamesSpec : ChangeSpec := { name := "fnExactKbNames", fn := fun _ => fun
  | [d] => { results := [.lit (.bool true)], args := [d] }
  | _ => none }
def fnExactKbNamesRow : OpenClaim := { program := "ytodpaihndpjbfaagreat", sum := "a6a19223ef3d980ae57e312a619b25ad78241c76b18d565bdcd0aef1c103e612", func := "loop.example/g00534/laws.FnExactKbNames", spec := "fnExactKbNames", inPlace := ["internal/bytealg.IndexByteString", "internal/bytealg.IndexString"], unfollowed := true, recurses := true, named := ["internal/bytealg.MaxLen"], loops := true, apart := false }
def FnExactKbNamesSaid : Prop := fnExactKbNamesRow.holds Tryz.pinned (OpenSpec.ofChange fnExactKbNamesSpec)

/-- ITS FALSE NEIGHBOUR: 'it returns false'. Refute it at one input. -/
def fnExactKbNamesWrong : ChangeSpec := { name := "fnExactKbNames", fn := fun _ => fun
  | [d] => { results := [.lit (.bool false)], args := [d] }
  | _ => none }
def FnExactKbNamesWrongFalsely : Prop := fnExactKbNamesRow.holds Tryz.pinned (OpenSpec.ofChange fnExactKbNamesWrong)

/-- 'laws.FnExactKbRoles': WHATEVER THE INPUT: true; the input reads as it did. -/
def fnExactKbRolesSpec : ChangeSpec := { name := "fnExactKbRoles", fn := fun _ => fun
  | [d] => { results := [.lit (.bool true)], args := [d] }
  | _ => none }
def fnExactKbRolesRow : OpenClaim := { program := "ytodpaihndpjbfaagreat", sum := "a6a19223ef3d980ae57e312a619b25ad78241c76b18d565bdcd0aef1c103e612", func := "loop.example/g00534/laws.FnExactKbRoles", spec := "fnExactKbRoles", inPlace := ["internal/bytealg.IndexByteString", "internal/bytealg.IndexString"], unfollowed := true, recurses := true, named := ["internal/bytealg.MaxLen"], loops := true, apart := false }
def FnExactKbRolesSaid : Prop := fnExactKbRolesRow.holds Tryz.pinned (OpenSpec.ofChange fnExactKbRolesSpec)

/-- ITS FALSE NEIGHBOUR: 'it returns false'. Refute it at one input. -/
def fnExactKbRolesWrong : ChangeSpec := { name := "fnExactKbRoles", fn := fun _ => fun
  | [d] => { results := [.lit (.bool false)], args := [d] }
  | _ => none }
def FnExactKbRolesWrongFalsely : Prop := fnExactKbRolesRow.holds Tryz.pinned (OpenSpec.ofChange fnExactKbRolesWrong)

/-- 'laws.FnExactKbInds': WHATEVER THE INPUT: true; the input reads as it did. -/
def fnExactKbIndsSpec : ChangeSpec := { name := "fnExactKbInds", fn := fun _ => fun
  | [d] => { results := [.lit (.bool true)], args := [d] }
  | _ => none }
def fnExactKbIndsRow : OpenClaim := { program := "ytodpaihndpjbfaagreat", sum := "a6a19223ef3d980ae57e312a619b25ad78241c76b18d565bdcd0aef1c103e612", func := "loop.example/g00534/laws.FnExactKbInds", spec := "fnExactKbInds", inPlace := ["internal/bytealg.IndexByteString", "internal/bytealg.IndexString"], unfollowed := true, recurses := true, named := ["internal/bytealg.MaxLen"], loops := true, apart := false }
def FnExactKbIndsSaid : Prop := fnExactKbIndsRow.holds Tryz.pinned (OpenSpec.ofChange fnExactKbIndsSpec)

/-- ITS FALSE NEIGHBOUR: 'it returns false'. Refute it at one input. -/
def fnExactKbIndsWrong : ChangeSpec := { name := "fnExactKbInds", fn := fun _ => fun
  | [d] => { results := [.lit (.bool false)], args := [d] }
  | _ => none }
def FnExactKbIndsWrongFalsely : Prop := fnExactKbIndsRow.holds Tryz.pinned (OpenSpec.ofChange fnExactKbIndsWrong)

/-- 'laws.FnExactSatisfies': WHATEVER THE INPUT: true; the input reads as it did. -/
def fnExactSatisfiesSpec : ChangeSpec := { name := "fnExactSatisfies", fn := fun _ => fun
  | [d1, d2] => { results := [.lit (.bool true)], args := [d1, d2] }
  | _ => none }
def fnExactSatisfiesRow : OpenClaim := { program := "ytodpaihndpjbfaagreat", sum := "a6a19223ef3d980ae57e312a619b25ad78241c76b18d565bdcd0aef1c103e612", func := "loop.example/g00534/laws.FnExactSatisfies", spec := "fnExactSatisfies", inPlace := ["internal/bytealg.Compare", "internal/bytealg.IndexByteString", "internal/bytealg.IndexString"], unfollowed := true, recurses := true, named := ["internal/bytealg.MaxLen"], loops := true, apart := false }
def FnExactSatisfiesSaid : Prop := fnExactSatisfiesRow.holds Tryz.pinned (OpenSpec.ofChange fnExactSatisfiesSpec)

/-- ITS FALSE NEIGHBOUR: 'it returns false'. Refute it at one input. -/
def fnExactSatisfiesWrong : ChangeSpec := { name := "fnExactSatisfies", fn := fun _ => fun
  | [d1, d2] => { results := [.lit (.bool false)], args := [d1, d2] }
  | _ => none }
def FnExactSatisfiesWrongFalsely : Prop := fnExactSatisfiesRow.holds Tryz.pinned (OpenSpec.ofChange fnExactSatisfiesWrong)

/-- 'laws.FnExactIsModel': WHATEVER THE INPUT: true; the input reads as it did. -/
def fnExactIsModelSpec : ChangeSpec := { name := "fnExactIsModel", fn := fun _ => fun
  | [d1, d2] => { results := [.lit (.bool true)], args := [d1, d2] }
  | _ => none }
def fnExactIsModelRow : OpenClaim := { program := "ytodpaihndpjbfaagreat", sum := "a6a19223ef3d980ae57e312a619b25ad78241c76b18d565bdcd0aef1c103e612", func := "loop.example/g00534/laws.FnExactIsModel", spec := "fnExactIsModel", inPlace := ["internal/bytealg.Compare", "internal/bytealg.IndexByteString", "internal/bytealg.IndexString"], unfollowed := true, recurses := true, named := ["internal/bytealg.MaxLen"], loops := true, apart := false }
def FnExactIsModelSaid : Prop := fnExactIsModelRow.holds Tryz.pinned (OpenSpec.ofChange fnExactIsModelSpec)

/-- ITS FALSE NEIGHBOUR: 'it returns false'. Refute it at one input. -/
def fnExactIsModelWrong : ChangeSpec := { name := "fnExactIsModel", fn := fun _ => fun
  | [d1, d2] => { results := [.lit (.bool false)], args := [d1, d2] }
  | _ => none }
def FnExactIsModelWrongFalsely : Prop := fnExactIsModelRow.holds Tryz.pinned (OpenSpec.ofChange fnExactIsModelWrong)

/- THE SECOND FORM. 'bulk': how many values and letters a reading holds, each counted each time it is reached (what is shared counts as often as it is met; a slice's spare places count too). A statement '..UptoSaid' is the law's where the arguments, and the package variables that the reading takes, are together of bulk at most 1048576: NARROWER than '..Said'. Prove '..Said' where nothing that the law and all that it calls make is longer than what came in: it says more and counts as full. Else prove '..UptoSaid'. A law counts once. -/
mutual
def uptoBulk {H : Type} : DataW H → Nat
  | .lit (.string bytes) => bytes.length + 1
  | .lit _ => 1
  | .nil => 1
  | .ptr d => uptoBulk d + 1
  | .slice elems spare => uptoBulkAll elems + uptoBulkAll spare + 1
  | .agg parts => uptoBulkAll parts + 1
  | .iface _ d => uptoBulk d + 1
  | .map entries => uptoBulkEntries entries + 1
  | .held _ => 1
def uptoBulkAll {H : Type} : List (DataW H) → Nat
  | [] => 0
  | d :: r => uptoBulk d + uptoBulkAll r
def uptoBulkEntries {H : Type} : List (Lit × DataW H) → Nat
  | [] => 0
  | x :: r => uptoBulkEntry x + uptoBulkEntries r
def uptoBulkEntry {H : Type} : Lit × DataW H → Nat
  | (.string bytes, d) => bytes.length + uptoBulk d + 1
  | (_, d) => uptoBulk d + 1
 end
def uptoSmall : (H : Type) → List (DataW H) → Bool := fun _ ds => decide (uptoBulkAll ds ≤ 1048576)
def OpenSpec.upto (s : _root_.Go.ChangeSpec) : _root_.Go.OpenSpec := { _root_.Go.OpenSpec.ofChange s with cond := some uptoSmall }

/-- 'laws.FnModels', WHERE WHAT IT READS IS OF BULK AT MOST 1048576: true; the input reads as it did. -/
def fnModelsUptoRow : OpenClaim := { program := "ytodpaihndpjbfaagreat", sum := "a6a19223ef3d980ae57e312a619b25ad78241c76b18d565bdcd0aef1c103e612", func := "loop.example/g00534/laws.FnModels", spec := "fnModels", inPlace := ["internal/bytealg.Compare", "internal/bytealg.IndexByteString", "internal/bytealg.IndexString"], unfollowed := true, recurses := true, named := ["internal/bytealg.MaxLen"], apart := false, narrowed := true }
def FnModelsUptoSaid : Prop := fnModelsUptoRow.holds Tryz.pinned (OpenSpec.upto fnModelsSpec)

/-- 'laws.FnExactKbNames', WHERE WHAT IT READS IS OF BULK AT MOST 1048576: true; the input reads as it did. -/
def fnExactKbNamesUptoRow : OpenClaim := { program := "ytodpaihndpjbfaagreat", sum := "a6a19223ef3d980ae57e312a619b25ad78241c76b18d565bdcd0aef1c103e612", func := "loop.example/g00534/laws.FnExactKbNames", spec := "fnExactKbNames", inPlace := ["internal/bytealg.IndexByteString", "internal/bytealg.IndexString"], unfollowed := true, recurses := true, named := ["internal/bytealg.MaxLen"], loops := true, apart := false, narrowed := true }
def FnExactKbNamesUptoSaid : Prop := fnExactKbNamesUptoRow.holds Tryz.pinned (OpenSpec.upto fnExactKbNamesSpec)

/-- 'laws.FnExactKbRoles', WHERE WHAT IT READS IS OF BULK AT MOST 1048576: true; the input reads as it did. -/
def fnExactKbRolesUptoRow : OpenClaim := { program := "ytodpaihndpjbfaagreat", sum := "a6a19223ef3d980ae57e312a619b25ad78241c76b18d565bdcd0aef1c103e612", func := "loop.example/g00534/laws.FnExactKbRoles", spec := "fnExactKbRoles", inPlace := ["internal/bytealg.IndexByteString", "internal/bytealg.IndexString"], unfollowed := true, recurses := true, named := ["internal/bytealg.MaxLen"], loops := true, apart := false, narrowed := true }
def FnExactKbRolesUptoSaid : Prop := fnExactKbRolesUptoRow.holds Tryz.pinned (OpenSpec.upto fnExactKbRolesSpec)

/-- 'laws.FnExactKbInds', WHERE WHAT IT READS IS OF BULK AT MOST 1048576: true; the input reads as it did. -/
def fnExactKbIndsUptoRow : OpenClaim := { program := "ytodpaihndpjbfaagreat", sum := "a6a19223ef3d980ae57e312a619b25ad78241c76b18d565bdcd0aef1c103e612", func := "loop.example/g00534/laws.FnExactKbInds", spec := "fnExactKbInds", inPlace := ["internal/bytealg.IndexByteString", "internal/bytealg.IndexString"], unfollowed := true, recurses := true, named := ["internal/bytealg.MaxLen"], loops := true, apart := false, narrowed := true }
def FnExactKbIndsUptoSaid : Prop := fnExactKbIndsUptoRow.holds Tryz.pinned (OpenSpec.upto fnExactKbIndsSpec)

/-- 'laws.FnExactSatisfies', WHERE WHAT IT READS IS OF BULK AT MOST 1048576: true; the input reads as it did. -/
def fnExactSatisfiesUptoRow : OpenClaim := { program := "ytodpaihndpjbfaagreat", sum := "a6a19223ef3d980ae57e312a619b25ad78241c76b18d565bdcd0aef1c103e612", func := "loop.example/g00534/laws.FnExactSatisfies", spec := "fnExactSatisfies", inPlace := ["internal/bytealg.Compare", "internal/bytealg.IndexByteString", "internal/bytealg.IndexString"], unfollowed := true, recurses := true, named := ["internal/bytealg.MaxLen"], loops := true, apart := false, narrowed := true }
def FnExactSatisfiesUptoSaid : Prop := fnExactSatisfiesUptoRow.holds Tryz.pinned (OpenSpec.upto fnExactSatisfiesSpec)

/-- 'laws.FnExactIsModel', WHERE WHAT IT READS IS OF BULK AT MOST 1048576: true; the input reads as it did. -/
def fnExactIsModelUptoRow : OpenClaim := { program := "ytodpaihndpjbfaagreat", sum := "a6a19223ef3d980ae57e312a619b25ad78241c76b18d565bdcd0aef1c103e612", func := "loop.example/g00534/laws.FnExactIsModel", spec := "fnExactIsModel", inPlace := ["internal/bytealg.Compare", "internal/bytealg.IndexByteString", "internal/bytealg.IndexString"], unfollowed := true, recurses := true, named := ["internal/bytealg.MaxLen"], loops := true, apart := false, narrowed := true }
def FnExactIsModelUptoSaid : Prop := fnExactIsModelUptoRow.holds Tryz.pinned (OpenSpec.upto fnExactIsModelSpec)

end Rows
end Go.Proofs.YtodpaihndpjbfaaGreat
