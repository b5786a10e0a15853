/-
  NARROWER THAN 'FOR EVERY INPUT', by the rows' own cells (each row's printed sentence says how): FnExactConNames: loops · FnExactKbOk: loops · FnExactKbText: loops · FnExactHolds: loops · FnExactExtension: loops.
  DERIVED. THE GIVEN ROWS OF THIS SEAT. 8 by the template 'for every input the law returns true; each argument reads behind the call as it read before'; 0 by the template 'total and deterministic' (their statements: YtodpaihndpjbfaaTotals.lean).
  GIVEN WITH THE SEED: the statements are not yours to turn. If you find one false, say at which input.
  Laid BY PROGRAM, IN A SANDBOX (cutbox-rows.mjs): the forced cells as the released guide's own fill.sh prints them over the translation 0a4c4295f92dd122… (all of the seat's roots in one cut). By AI agents, Wed Nov 11 2026. No macro, syntax, notation, axiom, sorry.
-/
import Derived.Test.YtodpaihndpjbfaaChecked
import GoSem.Claim
import GoSem.ClaimJoined
import GoSem.ClaimMapViews
import Derived.JoinedTies
import Derived.KernelRfl
namespace Go.Proofs.Ytodpaihndpjbfaa
/- THE CELL 'sum', in the pinned program and in every row, IS THE sha256 OF THE DUMP (.gsa) THAT YtodpaihndpjbfaaProg.lean LOADS. Nothing in Lean hashes anything: it is a label: what it is worth is what the hold of that sum in a sandbox is worth. -/
noncomputable def Try.pinned : Pinned := { name := "ytodpaihndpjbfaa", sum := "0a4c4295f92dd122c38b45ba0ba51dac9307f32a283a6368fca114832364ae2d", checked := Try.checked }
namespace Rows
def none {H : Type} : Left H := { results := [], args := [] }

/-- 'laws.FnTokens': WHATEVER THE INPUT: true; the input reads as it did. -/
def fnTokensSpec : ChangeSpec := { name := "fnTokens", fn := fun _ => fun
  | [d] => { results := [.lit (.bool true)], args := [d] }
  | _ => none }
def fnTokensRow : OpenClaim := { program := "ytodpaihndpjbfaa", sum := "0a4c4295f92dd122c38b45ba0ba51dac9307f32a283a6368fca114832364ae2d", func := "loop.example/g00534/laws.FnTokens", spec := "fnTokens", unfollowed := true, recurses := true, apart := false }
def FnTokensSaid : Prop := fnTokensRow.holds Try.pinned (OpenSpec.ofChange fnTokensSpec)

/-- ITS FALSE NEIGHBOUR: 'it returns false'. Refute it at one input. -/
def fnTokensWrong : ChangeSpec := { name := "fnTokens", fn := fun _ => fun
  | [d] => { results := [.lit (.bool false)], args := [d] }
  | _ => none }
def FnTokensWrongFalsely : Prop := fnTokensRow.holds Try.pinned (OpenSpec.ofChange fnTokensWrong)

/-- 'laws.FnExtensions': WHATEVER THE INPUT: true; the input reads as it did. -/
def fnExtensionsSpec : ChangeSpec := { name := "fnExtensions", fn := fun _ => fun
  | [d] => { results := [.lit (.bool true)], args := [d] }
  | _ => none }
def fnExtensionsRow : OpenClaim := { program := "ytodpaihndpjbfaa", sum := "0a4c4295f92dd122c38b45ba0ba51dac9307f32a283a6368fca114832364ae2d", func := "loop.example/g00534/laws.FnExtensions", spec := "fnExtensions", inPlace := ["internal/bytealg.Compare"], unfollowed := true, recurses := true, apart := false }
def FnExtensionsSaid : Prop := fnExtensionsRow.holds Try.pinned (OpenSpec.ofChange fnExtensionsSpec)

/-- ITS FALSE NEIGHBOUR: 'it returns false'. Refute it at one input. -/
def fnExtensionsWrong : ChangeSpec := { name := "fnExtensions", fn := fun _ => fun
  | [d] => { results := [.lit (.bool false)], args := [d] }
  | _ => none }
def FnExtensionsWrongFalsely : Prop := fnExtensionsRow.holds Try.pinned (OpenSpec.ofChange fnExtensionsWrong)

/-- 'laws.FnExactConNames': WHATEVER THE INPUT: true; the input reads as it did. -/
def fnExactConNamesSpec : ChangeSpec := { name := "fnExactConNames", fn := fun _ => fun
  | [d] => { results := [.lit (.bool true)], args := [d] }
  | _ => none }
def fnExactConNamesRow : OpenClaim := { program := "ytodpaihndpjbfaa", sum := "0a4c4295f92dd122c38b45ba0ba51dac9307f32a283a6368fca114832364ae2d", func := "loop.example/g00534/laws.FnExactConNames", spec := "fnExactConNames", inPlace := ["internal/bytealg.Compare"], unfollowed := true, recurses := true, loops := true, apart := false }
def FnExactConNamesSaid : Prop := fnExactConNamesRow.holds Try.pinned (OpenSpec.ofChange fnExactConNamesSpec)

/-- ITS FALSE NEIGHBOUR: 'it returns false'. Refute it at one input. -/
def fnExactConNamesWrong : ChangeSpec := { name := "fnExactConNames", fn := fun _ => fun
  | [d] => { results := [.lit (.bool false)], args := [d] }
  | _ => none }
def FnExactConNamesWrongFalsely : Prop := fnExactConNamesRow.holds Try.pinned (OpenSpec.ofChange fnExactConNamesWrong)

/-- 'laws.FnExactKbOk': WHATEVER THE INPUT: true; the input reads as it did. -/
def fnExactKbOkSpec : ChangeSpec := { name := "fnExactKbOk", fn := fun _ => fun
  | [d] => { results := [.lit (.bool true)], args := [d] }
  | _ => none }
def fnExactKbOkRow : OpenClaim := { program := "ytodpaihndpjbfaa", sum := "0a4c4295f92dd122c38b45ba0ba51dac9307f32a283a6368fca114832364ae2d", func := "loop.example/g00534/laws.FnExactKbOk", spec := "fnExactKbOk", inPlace := ["internal/bytealg.IndexByteString", "internal/bytealg.IndexString"], unfollowed := true, recurses := true, named := ["internal/bytealg.MaxLen"], loops := true, apart := false }
def FnExactKbOkSaid : Prop := fnExactKbOkRow.holds Try.pinned (OpenSpec.ofChange fnExactKbOkSpec)

/-- ITS FALSE NEIGHBOUR: 'it returns false'. Refute it at one input. -/
def fnExactKbOkWrong : ChangeSpec := { name := "fnExactKbOk", fn := fun _ => fun
  | [d] => { results := [.lit (.bool false)], args := [d] }
  | _ => none }
def FnExactKbOkWrongFalsely : Prop := fnExactKbOkRow.holds Try.pinned (OpenSpec.ofChange fnExactKbOkWrong)

/-- 'laws.FnExactKbText': WHATEVER THE INPUT: true; the input reads as it did. -/
def fnExactKbTextSpec : ChangeSpec := { name := "fnExactKbText", fn := fun _ => fun
  | [d] => { results := [.lit (.bool true)], args := [d] }
  | _ => none }
def fnExactKbTextRow : OpenClaim := { program := "ytodpaihndpjbfaa", sum := "0a4c4295f92dd122c38b45ba0ba51dac9307f32a283a6368fca114832364ae2d", func := "loop.example/g00534/laws.FnExactKbText", spec := "fnExactKbText", inPlace := ["internal/bytealg.IndexByteString", "internal/bytealg.IndexString"], unfollowed := true, recurses := true, named := ["internal/bytealg.MaxLen"], loops := true, apart := false }
def FnExactKbTextSaid : Prop := fnExactKbTextRow.holds Try.pinned (OpenSpec.ofChange fnExactKbTextSpec)

/-- ITS FALSE NEIGHBOUR: 'it returns false'. Refute it at one input. -/
def fnExactKbTextWrong : ChangeSpec := { name := "fnExactKbText", fn := fun _ => fun
  | [d] => { results := [.lit (.bool false)], args := [d] }
  | _ => none }
def FnExactKbTextWrongFalsely : Prop := fnExactKbTextRow.holds Try.pinned (OpenSpec.ofChange fnExactKbTextWrong)

/-- 'laws.FnExactHolds': WHATEVER THE INPUT: true; the input reads as it did. -/
def fnExactHoldsSpec : ChangeSpec := { name := "fnExactHolds", fn := fun _ => fun
  | [d1, d2, d3] => { results := [.lit (.bool true)], args := [d1, d2, d3] }
  | _ => none }
def fnExactHoldsRow : OpenClaim := { program := "ytodpaihndpjbfaa", sum := "0a4c4295f92dd122c38b45ba0ba51dac9307f32a283a6368fca114832364ae2d", func := "loop.example/g00534/laws.FnExactHolds", spec := "fnExactHolds", inPlace := ["internal/bytealg.Compare"], unfollowed := true, recurses := true, loops := true, apart := false }
def FnExactHoldsSaid : Prop := fnExactHoldsRow.holds Try.pinned (OpenSpec.ofChange fnExactHoldsSpec)

/-- ITS FALSE NEIGHBOUR: 'it returns false'. Refute it at one input. -/
def fnExactHoldsWrong : ChangeSpec := { name := "fnExactHolds", fn := fun _ => fun
  | [d1, d2, d3] => { results := [.lit (.bool false)], args := [d1, d2, d3] }
  | _ => none }
def FnExactHoldsWrongFalsely : Prop := fnExactHoldsRow.holds Try.pinned (OpenSpec.ofChange fnExactHoldsWrong)

/-- 'laws.FnExactExtension': WHATEVER THE INPUT: true; the input reads as it did. -/
def fnExactExtensionSpec : ChangeSpec := { name := "fnExactExtension", fn := fun _ => fun
  | [d1, d2] => { results := [.lit (.bool true)], args := [d1, d2] }
  | _ => none }
def fnExactExtensionRow : OpenClaim := { program := "ytodpaihndpjbfaa", sum := "0a4c4295f92dd122c38b45ba0ba51dac9307f32a283a6368fca114832364ae2d", func := "loop.example/g00534/laws.FnExactExtension", spec := "fnExactExtension", inPlace := ["internal/bytealg.Compare"], unfollowed := true, recurses := true, loops := true, apart := false }
def FnExactExtensionSaid : Prop := fnExactExtensionRow.holds Try.pinned (OpenSpec.ofChange fnExactExtensionSpec)

/-- ITS FALSE NEIGHBOUR: 'it returns false'. Refute it at one input. -/
def fnExactExtensionWrong : ChangeSpec := { name := "fnExactExtension", fn := fun _ => fun
  | [d1, d2] => { results := [.lit (.bool false)], args := [d1, d2] }
  | _ => none }
def FnExactExtensionWrongFalsely : Prop := fnExactExtensionRow.holds Try.pinned (OpenSpec.ofChange fnExactExtensionWrong)

/-- 'laws.FnExactClauseCmp': WHATEVER THE INPUT: true; the input reads as it did. -/
def fnExactClauseCmpSpec : ChangeSpec := { name := "fnExactClauseCmp", fn := fun _ => fun
  | [d1, d2] => { results := [.lit (.bool true)], args := [d1, d2] }
  | _ => none }
def fnExactClauseCmpRow : OpenClaim := { program := "ytodpaihndpjbfaa", sum := "0a4c4295f92dd122c38b45ba0ba51dac9307f32a283a6368fca114832364ae2d", func := "loop.example/g00534/laws.FnExactClauseCmp", spec := "fnExactClauseCmp", unfollowed := true, recurses := true, apart := false }
def FnExactClauseCmpSaid : Prop := fnExactClauseCmpRow.holds Try.pinned (OpenSpec.ofChange fnExactClauseCmpSpec)

/-- ITS FALSE NEIGHBOUR: 'it returns false'. Refute it at one input. -/
def fnExactClauseCmpWrong : ChangeSpec := { name := "fnExactClauseCmp", fn := fun _ => fun
  | [d1, d2] => { results := [.lit (.bool false)], args := [d1, d2] }
  | _ => none }
def FnExactClauseCmpWrongFalsely : Prop := fnExactClauseCmpRow.holds Try.pinned (OpenSpec.ofChange fnExactClauseCmpWrong)

/- THE SECOND FORM. 'bulk': how many values and letters a reading holds, each counted each time it is reached (what is shared counts as often as it is met; a slice's spare places count too). A statement '..UptoSaid' is the law's where the arguments, and the package variables that the reading takes, are together of bulk at most 1048576: NARROWER than '..Said'. Prove '..Said' where nothing that the law and all that it calls make is longer than what came in: it says more and counts as full. Else prove '..UptoSaid'. A law counts once. -/
mutual
def uptoBulk {H : Type} : DataW H → Nat
  | .lit (.string bytes) => bytes.length + 1
  | .lit _ => 1
  | .nil => 1
  | .ptr d => uptoBulk d + 1
  | .slice elems spare => uptoBulkAll elems + uptoBulkAll spare + 1
  | .agg parts => uptoBulkAll parts + 1
  | .iface _ d => uptoBulk d + 1
  | .map entries => uptoBulkEntries entries + 1
  | .held _ => 1
def uptoBulkAll {H : Type} : List (DataW H) → Nat
  | [] => 0
  | d :: r => uptoBulk d + uptoBulkAll r
def uptoBulkEntries {H : Type} : List (Lit × DataW H) → Nat
  | [] => 0
  | x :: r => uptoBulkEntry x + uptoBulkEntries r
def uptoBulkEntry {H : Type} : Lit × DataW H → Nat
  | (.string bytes, d) => bytes.length + uptoBulk d + 1
  | (_, d) => uptoBulk d + 1
 end
def uptoSmall : (H : Type) → List (DataW H) → Bool := fun _ ds => decide (uptoBulkAll ds ≤ 1048576)
def OpenSpec.upto (s : _root_.Go.ChangeSpec) : _root_.Go.OpenSpec := { _root_.Go.OpenSpec.ofChange s with cond := some uptoSmall }

/-- 'laws.FnTokens', WHERE WHAT IT READS IS OF BULK AT MOST 1048576: true; the input reads as it did. -/
def fnTokensUptoRow : OpenClaim := { program := "ytodpaihndpjbfaa", sum := "0a4c4295f92dd122c38b45ba0ba51dac9307f32a283a6368fca114832364ae2d", func := "loop.example/g00534/laws.FnTokens", spec := "fnTokens", unfollowed := true, recurses := true, apart := false, narrowed := true }
def FnTokensUptoSaid : Prop := fnTokensUptoRow.holds Try.pinned (OpenSpec.upto fnTokensSpec)

/-- 'laws.FnExtensions', WHERE WHAT IT READS IS OF BULK AT MOST 1048576: true; the input reads as it did. -/
def fnExtensionsUptoRow : OpenClaim := { program := "ytodpaihndpjbfaa", sum := "0a4c4295f92dd122c38b45ba0ba51dac9307f32a283a6368fca114832364ae2d", func := "loop.example/g00534/laws.FnExtensions", spec := "fnExtensions", inPlace := ["internal/bytealg.Compare"], unfollowed := true, recurses := true, apart := false, narrowed := true }
def FnExtensionsUptoSaid : Prop := fnExtensionsUptoRow.holds Try.pinned (OpenSpec.upto fnExtensionsSpec)

/-- 'laws.FnExactConNames', WHERE WHAT IT READS IS OF BULK AT MOST 1048576: true; the input reads as it did. -/
def fnExactConNamesUptoRow : OpenClaim := { program := "ytodpaihndpjbfaa", sum := "0a4c4295f92dd122c38b45ba0ba51dac9307f32a283a6368fca114832364ae2d", func := "loop.example/g00534/laws.FnExactConNames", spec := "fnExactConNames", inPlace := ["internal/bytealg.Compare"], unfollowed := true, recurses := true, loops := true, apart := false, narrowed := true }
def FnExactConNamesUptoSaid : Prop := fnExactConNamesUptoRow.holds Try.pinned (OpenSpec.upto fnExactConNamesSpec)

/-- 'laws.FnExactKbOk', WHERE WHAT IT READS IS OF BULK AT MOST 1048576: true; the input reads as it did. -/
def fnExactKbOkUptoRow : OpenClaim := { program := "ytodpaihndpjbfaa", sum := "0a4c4295f92dd122c38b45ba0ba51dac9307f32a283a6368fca114832364ae2d", func := "loop.example/g00534/laws.FnExactKbOk", spec := "fnExactKbOk", inPlace := ["internal/bytealg.IndexByteString", "internal/bytealg.IndexString"], unfollowed := true, recurses := true, named := ["internal/bytealg.MaxLen"], loops := true, apart := false, narrowed := true }
def FnExactKbOkUptoSaid : Prop := fnExactKbOkUptoRow.holds Try.pinned (OpenSpec.upto fnExactKbOkSpec)

/-- 'laws.FnExactKbText', WHERE WHAT IT READS IS OF BULK AT MOST 1048576: true; the input reads as it did. -/
def fnExactKbTextUptoRow : OpenClaim := { program := "ytodpaihndpjbfaa", sum := "0a4c4295f92dd122c38b45ba0ba51dac9307f32a283a6368fca114832364ae2d", func := "loop.example/g00534/laws.FnExactKbText", spec := "fnExactKbText", inPlace := ["internal/bytealg.IndexByteString", "internal/bytealg.IndexString"], unfollowed := true, recurses := true, named := ["internal/bytealg.MaxLen"], loops := true, apart := false, narrowed := true }
def FnExactKbTextUptoSaid : Prop := fnExactKbTextUptoRow.holds Try.pinned (OpenSpec.upto fnExactKbTextSpec)

/-- 'laws.FnExactHolds', WHERE WHAT IT READS IS OF BULK AT MOST 1048576: true; the input reads as it did. -/
def fnExactHoldsUptoRow : OpenClaim := { program := "ytodpaihndpjbfaa", sum := "0a4c4295f92dd122c38b45ba0ba51dac9307f32a283a6368fca114832364ae2d", func := "loop.example/g00534/laws.FnExactHolds", spec := "fnExactHolds", inPlace := ["internal/bytealg.Compare"], unfollowed := true, recurses := true, loops := true, apart := false, narrowed := true }
def FnExactHoldsUptoSaid : Prop := fnExactHoldsUptoRow.holds Try.pinned (OpenSpec.upto fnExactHoldsSpec)

/-- 'laws.FnExactExtension', WHERE WHAT IT READS IS OF BULK AT MOST 1048576: true; the input reads as it did. -/
def fnExactExtensionUptoRow : OpenClaim := { program := "ytodpaihndpjbfaa", sum := "0a4c4295f92dd122c38b45ba0ba51dac9307f32a283a6368fca114832364ae2d", func := "loop.example/g00534/laws.FnExactExtension", spec := "fnExactExtension", inPlace := ["internal/bytealg.Compare"], unfollowed := true, recurses := true, loops := true, apart := false, narrowed := true }
def FnExactExtensionUptoSaid : Prop := fnExactExtensionUptoRow.holds Try.pinned (OpenSpec.upto fnExactExtensionSpec)

/-- 'laws.FnExactClauseCmp', WHERE WHAT IT READS IS OF BULK AT MOST 1048576: true; the input reads as it did. -/
def fnExactClauseCmpUptoRow : OpenClaim := { program := "ytodpaihndpjbfaa", sum := "0a4c4295f92dd122c38b45ba0ba51dac9307f32a283a6368fca114832364ae2d", func := "loop.example/g00534/laws.FnExactClauseCmp", spec := "fnExactClauseCmp", unfollowed := true, recurses := true, apart := false, narrowed := true }
def FnExactClauseCmpUptoSaid : Prop := fnExactClauseCmpUptoRow.holds Try.pinned (OpenSpec.upto fnExactClauseCmpSpec)

end Rows
end Go.Proofs.Ytodpaihndpjbfaa
