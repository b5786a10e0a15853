/-
  NARROWER THAN 'FOR EVERY INPUT', by the rows' own cells (each row's printed sentence says how): FnExactConText: loops · FnExactNnf: loops · FnExactOpposite: loops · FnExactParts: loops · FnExactSubs: loops · FnExactConNames: loops · FnExactAxiomOk: loops · FnExactAxiomText: loops.
  DERIVED. THE GIVEN ROWS OF THIS SEAT. 11 by the template 'for every input the law returns true; each argument reads behind the call as it read before'; 0 by the template 'total and deterministic' (their statements: YtephiilmbcminaaTotals.lean).
  GIVEN WITH THE SEED: the statements are not yours to turn. If you find one false, say at which input.
  Laid BY PROGRAM, IN A SANDBOX (cutbox-rows.mjs): the forced cells as the released guide's own fill.sh prints them over the translation 888250f08a961469… (all of the seat's roots in one cut). By AI agents, Wed Nov 11 2026. No macro, syntax, notation, axiom, sorry.
-/
import Derived.Test.YtephiilmbcminaaChecked
import GoSem.Claim
import GoSem.ClaimJoined
import GoSem.ClaimMapViews
import Derived.JoinedTies
import Derived.KernelRfl
namespace Go.Proofs.Ytephiilmbcminaa
/- THE CELL 'sum', in the pinned program and in every row, IS THE sha256 OF THE DUMP (.gsa) THAT YtephiilmbcminaaProg.lean LOADS. Nothing in Lean hashes anything: it is a label: what it is worth is what the hold of that sum in a sandbox is worth. -/
noncomputable def Try.pinned : Pinned := { name := "ytephiilmbcminaa", sum := "888250f08a9614697f069bb9c3daaf4e8c5d768ba49e61ec979015109a86050c", checked := Try.checked }
namespace Rows
def none {H : Type} : Left H := { results := [], args := [] }

/-- 'laws.FnExactConText': WHATEVER THE INPUT: true; the input reads as it did. -/
def fnExactConTextSpec : ChangeSpec := { name := "fnExactConText", fn := fun _ => fun
  | [d] => { results := [.lit (.bool true)], args := [d] }
  | _ => none }
def fnExactConTextRow : OpenClaim := { program := "ytephiilmbcminaa", sum := "888250f08a9614697f069bb9c3daaf4e8c5d768ba49e61ec979015109a86050c", func := "loop.example/g00534/laws.FnExactConText", spec := "fnExactConText", unfollowed := true, recurses := true, loops := true, apart := false }
def FnExactConTextSaid : Prop := fnExactConTextRow.holds Try.pinned (OpenSpec.ofChange fnExactConTextSpec)

/-- ITS FALSE NEIGHBOUR: 'it returns false'. Refute it at one input. -/
def fnExactConTextWrong : ChangeSpec := { name := "fnExactConText", fn := fun _ => fun
  | [d] => { results := [.lit (.bool false)], args := [d] }
  | _ => none }
def FnExactConTextWrongFalsely : Prop := fnExactConTextRow.holds Try.pinned (OpenSpec.ofChange fnExactConTextWrong)

/-- 'laws.FnExactNnf': WHATEVER THE INPUT: true; the input reads as it did. -/
def fnExactNnfSpec : ChangeSpec := { name := "fnExactNnf", fn := fun _ => fun
  | [d] => { results := [.lit (.bool true)], args := [d] }
  | _ => none }
def fnExactNnfRow : OpenClaim := { program := "ytephiilmbcminaa", sum := "888250f08a9614697f069bb9c3daaf4e8c5d768ba49e61ec979015109a86050c", func := "loop.example/g00534/laws.FnExactNnf", spec := "fnExactNnf", unfollowed := true, recurses := true, loops := true, apart := false }
def FnExactNnfSaid : Prop := fnExactNnfRow.holds Try.pinned (OpenSpec.ofChange fnExactNnfSpec)

/-- ITS FALSE NEIGHBOUR: 'it returns false'. Refute it at one input. -/
def fnExactNnfWrong : ChangeSpec := { name := "fnExactNnf", fn := fun _ => fun
  | [d] => { results := [.lit (.bool false)], args := [d] }
  | _ => none }
def FnExactNnfWrongFalsely : Prop := fnExactNnfRow.holds Try.pinned (OpenSpec.ofChange fnExactNnfWrong)

/-- 'laws.FnExactOpposite': WHATEVER THE INPUT: true; the input reads as it did. -/
def fnExactOppositeSpec : ChangeSpec := { name := "fnExactOpposite", fn := fun _ => fun
  | [d] => { results := [.lit (.bool true)], args := [d] }
  | _ => none }
def fnExactOppositeRow : OpenClaim := { program := "ytephiilmbcminaa", sum := "888250f08a9614697f069bb9c3daaf4e8c5d768ba49e61ec979015109a86050c", func := "loop.example/g00534/laws.FnExactOpposite", spec := "fnExactOpposite", unfollowed := true, recurses := true, loops := true, apart := false }
def FnExactOppositeSaid : Prop := fnExactOppositeRow.holds Try.pinned (OpenSpec.ofChange fnExactOppositeSpec)

/-- ITS FALSE NEIGHBOUR: 'it returns false'. Refute it at one input. -/
def fnExactOppositeWrong : ChangeSpec := { name := "fnExactOpposite", fn := fun _ => fun
  | [d] => { results := [.lit (.bool false)], args := [d] }
  | _ => none }
def FnExactOppositeWrongFalsely : Prop := fnExactOppositeRow.holds Try.pinned (OpenSpec.ofChange fnExactOppositeWrong)

/-- 'laws.FnExactParts': WHATEVER THE INPUT: true; the input reads as it did. -/
def fnExactPartsSpec : ChangeSpec := { name := "fnExactParts", fn := fun _ => fun
  | [d] => { results := [.lit (.bool true)], args := [d] }
  | _ => none }
def fnExactPartsRow : OpenClaim := { program := "ytephiilmbcminaa", sum := "888250f08a9614697f069bb9c3daaf4e8c5d768ba49e61ec979015109a86050c", func := "loop.example/g00534/laws.FnExactParts", spec := "fnExactParts", unfollowed := true, recurses := true, loops := true, apart := false }
def FnExactPartsSaid : Prop := fnExactPartsRow.holds Try.pinned (OpenSpec.ofChange fnExactPartsSpec)

/-- ITS FALSE NEIGHBOUR: 'it returns false'. Refute it at one input. -/
def fnExactPartsWrong : ChangeSpec := { name := "fnExactParts", fn := fun _ => fun
  | [d] => { results := [.lit (.bool false)], args := [d] }
  | _ => none }
def FnExactPartsWrongFalsely : Prop := fnExactPartsRow.holds Try.pinned (OpenSpec.ofChange fnExactPartsWrong)

/-- 'laws.FnExactSubs': WHATEVER THE INPUT: true; the input reads as it did. -/
def fnExactSubsSpec : ChangeSpec := { name := "fnExactSubs", fn := fun _ => fun
  | [d] => { results := [.lit (.bool true)], args := [d] }
  | _ => none }
def fnExactSubsRow : OpenClaim := { program := "ytephiilmbcminaa", sum := "888250f08a9614697f069bb9c3daaf4e8c5d768ba49e61ec979015109a86050c", func := "loop.example/g00534/laws.FnExactSubs", spec := "fnExactSubs", unfollowed := true, recurses := true, loops := true, apart := false }
def FnExactSubsSaid : Prop := fnExactSubsRow.holds Try.pinned (OpenSpec.ofChange fnExactSubsSpec)

/-- ITS FALSE NEIGHBOUR: 'it returns false'. Refute it at one input. -/
def fnExactSubsWrong : ChangeSpec := { name := "fnExactSubs", fn := fun _ => fun
  | [d] => { results := [.lit (.bool false)], args := [d] }
  | _ => none }
def FnExactSubsWrongFalsely : Prop := fnExactSubsRow.holds Try.pinned (OpenSpec.ofChange fnExactSubsWrong)

/-- 'laws.FnExactConNames': WHATEVER THE INPUT: true; the input reads as it did. -/
def fnExactConNamesSpec : ChangeSpec := { name := "fnExactConNames", fn := fun _ => fun
  | [d] => { results := [.lit (.bool true)], args := [d] }
  | _ => none }
def fnExactConNamesRow : OpenClaim := { program := "ytephiilmbcminaa", sum := "888250f08a9614697f069bb9c3daaf4e8c5d768ba49e61ec979015109a86050c", func := "loop.example/g00534/laws.FnExactConNames", spec := "fnExactConNames", inPlace := ["internal/bytealg.Compare"], unfollowed := true, recurses := true, loops := true, apart := false }
def FnExactConNamesSaid : Prop := fnExactConNamesRow.holds Try.pinned (OpenSpec.ofChange fnExactConNamesSpec)

/-- ITS FALSE NEIGHBOUR: 'it returns false'. Refute it at one input. -/
def fnExactConNamesWrong : ChangeSpec := { name := "fnExactConNames", fn := fun _ => fun
  | [d] => { results := [.lit (.bool false)], args := [d] }
  | _ => none }
def FnExactConNamesWrongFalsely : Prop := fnExactConNamesRow.holds Try.pinned (OpenSpec.ofChange fnExactConNamesWrong)

/-- 'laws.FnExactAxiomOk': WHATEVER THE INPUT: true; the input reads as it did. -/
def fnExactAxiomOkSpec : ChangeSpec := { name := "fnExactAxiomOk", fn := fun _ => fun
  | [d] => { results := [.lit (.bool true)], args := [d] }
  | _ => none }
def fnExactAxiomOkRow : OpenClaim := { program := "ytephiilmbcminaa", sum := "888250f08a9614697f069bb9c3daaf4e8c5d768ba49e61ec979015109a86050c", func := "loop.example/g00534/laws.FnExactAxiomOk", spec := "fnExactAxiomOk", inPlace := ["internal/bytealg.IndexByteString", "internal/bytealg.IndexString"], unfollowed := true, recurses := true, named := ["internal/bytealg.MaxLen"], loops := true, apart := false }
def FnExactAxiomOkSaid : Prop := fnExactAxiomOkRow.holds Try.pinned (OpenSpec.ofChange fnExactAxiomOkSpec)

/-- ITS FALSE NEIGHBOUR: 'it returns false'. Refute it at one input. -/
def fnExactAxiomOkWrong : ChangeSpec := { name := "fnExactAxiomOk", fn := fun _ => fun
  | [d] => { results := [.lit (.bool false)], args := [d] }
  | _ => none }
def FnExactAxiomOkWrongFalsely : Prop := fnExactAxiomOkRow.holds Try.pinned (OpenSpec.ofChange fnExactAxiomOkWrong)

/-- 'laws.FnExactAxiomText': WHATEVER THE INPUT: true; the input reads as it did. -/
def fnExactAxiomTextSpec : ChangeSpec := { name := "fnExactAxiomText", fn := fun _ => fun
  | [d] => { results := [.lit (.bool true)], args := [d] }
  | _ => none }
def fnExactAxiomTextRow : OpenClaim := { program := "ytephiilmbcminaa", sum := "888250f08a9614697f069bb9c3daaf4e8c5d768ba49e61ec979015109a86050c", func := "loop.example/g00534/laws.FnExactAxiomText", spec := "fnExactAxiomText", inPlace := ["internal/bytealg.IndexByteString", "internal/bytealg.IndexString"], unfollowed := true, recurses := true, named := ["internal/bytealg.MaxLen"], loops := true, apart := false }
def FnExactAxiomTextSaid : Prop := fnExactAxiomTextRow.holds Try.pinned (OpenSpec.ofChange fnExactAxiomTextSpec)

/-- ITS FALSE NEIGHBOUR: 'it returns false'. Refute it at one input. -/
def fnExactAxiomTextWrong : ChangeSpec := { name := "fnExactAxiomText", fn := fun _ => fun
  | [d] => { results := [.lit (.bool false)], args := [d] }
  | _ => none }
def FnExactAxiomTextWrongFalsely : Prop := fnExactAxiomTextRow.holds Try.pinned (OpenSpec.ofChange fnExactAxiomTextWrong)

/-- 'laws.FnExactWorldOk': WHATEVER THE INPUT: true; the input reads as it did. -/
def fnExactWorldOkSpec : ChangeSpec := { name := "fnExactWorldOk", fn := fun _ => fun
  | [d] => { results := [.lit (.bool true)], args := [d] }
  | _ => none }
def fnExactWorldOkRow : OpenClaim := { program := "ytephiilmbcminaa", sum := "888250f08a9614697f069bb9c3daaf4e8c5d768ba49e61ec979015109a86050c", func := "loop.example/g00534/laws.FnExactWorldOk", spec := "fnExactWorldOk", inPlace := ["internal/bytealg.Compare"], unfollowed := true, recurses := true, apart := false }
def FnExactWorldOkSaid : Prop := fnExactWorldOkRow.holds Try.pinned (OpenSpec.ofChange fnExactWorldOkSpec)

/-- ITS FALSE NEIGHBOUR: 'it returns false'. Refute it at one input. -/
def fnExactWorldOkWrong : ChangeSpec := { name := "fnExactWorldOk", fn := fun _ => fun
  | [d] => { results := [.lit (.bool false)], args := [d] }
  | _ => none }
def FnExactWorldOkWrongFalsely : Prop := fnExactWorldOkRow.holds Try.pinned (OpenSpec.ofChange fnExactWorldOkWrong)

/-- 'laws.FnExactInSet': WHATEVER THE INPUT: true; the input reads as it did. -/
def fnExactInSetSpec : ChangeSpec := { name := "fnExactInSet", fn := fun _ => fun
  | [d1, d2, d3] => { results := [.lit (.bool true)], args := [d1, d2, d3] }
  | _ => none }
def fnExactInSetRow : OpenClaim := { program := "ytephiilmbcminaa", sum := "888250f08a9614697f069bb9c3daaf4e8c5d768ba49e61ec979015109a86050c", func := "loop.example/g00534/laws.FnExactInSet", spec := "fnExactInSet", inPlace := ["internal/bytealg.Compare"], unfollowed := true, recurses := true, apart := false }
def FnExactInSetSaid : Prop := fnExactInSetRow.holds Try.pinned (OpenSpec.ofChange fnExactInSetSpec)

/-- ITS FALSE NEIGHBOUR: 'it returns false'. Refute it at one input. -/
def fnExactInSetWrong : ChangeSpec := { name := "fnExactInSet", fn := fun _ => fun
  | [d1, d2, d3] => { results := [.lit (.bool false)], args := [d1, d2, d3] }
  | _ => none }
def FnExactInSetWrongFalsely : Prop := fnExactInSetRow.holds Try.pinned (OpenSpec.ofChange fnExactInSetWrong)

/-- 'laws.FnExactInRel': WHATEVER THE INPUT: true; the input reads as it did. -/
def fnExactInRelSpec : ChangeSpec := { name := "fnExactInRel", fn := fun _ => fun
  | [d1, d2, d3, d4] => { results := [.lit (.bool true)], args := [d1, d2, d3, d4] }
  | _ => none }
def fnExactInRelRow : OpenClaim := { program := "ytephiilmbcminaa", sum := "888250f08a9614697f069bb9c3daaf4e8c5d768ba49e61ec979015109a86050c", func := "loop.example/g00534/laws.FnExactInRel", spec := "fnExactInRel", inPlace := ["internal/bytealg.Compare"], unfollowed := true, recurses := true, apart := false }
def FnExactInRelSaid : Prop := fnExactInRelRow.holds Try.pinned (OpenSpec.ofChange fnExactInRelSpec)

/-- ITS FALSE NEIGHBOUR: 'it returns false'. Refute it at one input. -/
def fnExactInRelWrong : ChangeSpec := { name := "fnExactInRel", fn := fun _ => fun
  | [d1, d2, d3, d4] => { results := [.lit (.bool false)], args := [d1, d2, d3, d4] }
  | _ => none }
def FnExactInRelWrongFalsely : Prop := fnExactInRelRow.holds Try.pinned (OpenSpec.ofChange fnExactInRelWrong)

/- THE SECOND FORM. 'bulk': how many values and letters a reading holds, each counted each time it is reached (what is shared counts as often as it is met; a slice's spare places count too). A statement '..UptoSaid' is the law's where the arguments, and the package variables that the reading takes, are together of bulk at most 1048576: NARROWER than '..Said'. Prove '..Said' where nothing that the law and all that it calls make is longer than what came in: it says more and counts as full. Else prove '..UptoSaid'. A law counts once. -/
mutual
def uptoBulk {H : Type} : DataW H → Nat
  | .lit (.string bytes) => bytes.length + 1
  | .lit _ => 1
  | .nil => 1
  | .ptr d => uptoBulk d + 1
  | .slice elems spare => uptoBulkAll elems + uptoBulkAll spare + 1
  | .agg parts => uptoBulkAll parts + 1
  | .iface _ d => uptoBulk d + 1
  | .map entries => uptoBulkEntries entries + 1
  | .held _ => 1
def uptoBulkAll {H : Type} : List (DataW H) → Nat
  | [] => 0
  | d :: r => uptoBulk d + uptoBulkAll r
def uptoBulkEntries {H : Type} : List (Lit × DataW H) → Nat
  | [] => 0
  | x :: r => uptoBulkEntry x + uptoBulkEntries r
def uptoBulkEntry {H : Type} : Lit × DataW H → Nat
  | (.string bytes, d) => bytes.length + uptoBulk d + 1
  | (_, d) => uptoBulk d + 1
 end
def uptoSmall : (H : Type) → List (DataW H) → Bool := fun _ ds => decide (uptoBulkAll ds ≤ 1048576)
def OpenSpec.upto (s : _root_.Go.ChangeSpec) : _root_.Go.OpenSpec := { _root_.Go.OpenSpec.ofChange s with cond := some uptoSmall }

/-- 'laws.FnExactConText', WHERE WHAT IT READS IS OF BULK AT MOST 1048576: true; the input reads as it did. -/
def fnExactConTextUptoRow : OpenClaim := { program := "ytephiilmbcminaa", sum := "888250f08a9614697f069bb9c3daaf4e8c5d768ba49e61ec979015109a86050c", func := "loop.example/g00534/laws.FnExactConText", spec := "fnExactConText", unfollowed := true, recurses := true, loops := true, apart := false, narrowed := true }
def FnExactConTextUptoSaid : Prop := fnExactConTextUptoRow.holds Try.pinned (OpenSpec.upto fnExactConTextSpec)

/-- 'laws.FnExactNnf', WHERE WHAT IT READS IS OF BULK AT MOST 1048576: true; the input reads as it did. -/
def fnExactNnfUptoRow : OpenClaim := { program := "ytephiilmbcminaa", sum := "888250f08a9614697f069bb9c3daaf4e8c5d768ba49e61ec979015109a86050c", func := "loop.example/g00534/laws.FnExactNnf", spec := "fnExactNnf", unfollowed := true, recurses := true, loops := true, apart := false, narrowed := true }
def FnExactNnfUptoSaid : Prop := fnExactNnfUptoRow.holds Try.pinned (OpenSpec.upto fnExactNnfSpec)

/-- 'laws.FnExactOpposite', WHERE WHAT IT READS IS OF BULK AT MOST 1048576: true; the input reads as it did. -/
def fnExactOppositeUptoRow : OpenClaim := { program := "ytephiilmbcminaa", sum := "888250f08a9614697f069bb9c3daaf4e8c5d768ba49e61ec979015109a86050c", func := "loop.example/g00534/laws.FnExactOpposite", spec := "fnExactOpposite", unfollowed := true, recurses := true, loops := true, apart := false, narrowed := true }
def FnExactOppositeUptoSaid : Prop := fnExactOppositeUptoRow.holds Try.pinned (OpenSpec.upto fnExactOppositeSpec)

/-- 'laws.FnExactParts', WHERE WHAT IT READS IS OF BULK AT MOST 1048576: true; the input reads as it did. -/
def fnExactPartsUptoRow : OpenClaim := { program := "ytephiilmbcminaa", sum := "888250f08a9614697f069bb9c3daaf4e8c5d768ba49e61ec979015109a86050c", func := "loop.example/g00534/laws.FnExactParts", spec := "fnExactParts", unfollowed := true, recurses := true, loops := true, apart := false, narrowed := true }
def FnExactPartsUptoSaid : Prop := fnExactPartsUptoRow.holds Try.pinned (OpenSpec.upto fnExactPartsSpec)

/-- 'laws.FnExactSubs', WHERE WHAT IT READS IS OF BULK AT MOST 1048576: true; the input reads as it did. -/
def fnExactSubsUptoRow : OpenClaim := { program := "ytephiilmbcminaa", sum := "888250f08a9614697f069bb9c3daaf4e8c5d768ba49e61ec979015109a86050c", func := "loop.example/g00534/laws.FnExactSubs", spec := "fnExactSubs", unfollowed := true, recurses := true, loops := true, apart := false, narrowed := true }
def FnExactSubsUptoSaid : Prop := fnExactSubsUptoRow.holds Try.pinned (OpenSpec.upto fnExactSubsSpec)

/-- 'laws.FnExactConNames', WHERE WHAT IT READS IS OF BULK AT MOST 1048576: true; the input reads as it did. -/
def fnExactConNamesUptoRow : OpenClaim := { program := "ytephiilmbcminaa", sum := "888250f08a9614697f069bb9c3daaf4e8c5d768ba49e61ec979015109a86050c", func := "loop.example/g00534/laws.FnExactConNames", spec := "fnExactConNames", inPlace := ["internal/bytealg.Compare"], unfollowed := true, recurses := true, loops := true, apart := false, narrowed := true }
def FnExactConNamesUptoSaid : Prop := fnExactConNamesUptoRow.holds Try.pinned (OpenSpec.upto fnExactConNamesSpec)

/-- 'laws.FnExactAxiomOk', WHERE WHAT IT READS IS OF BULK AT MOST 1048576: true; the input reads as it did. -/
def fnExactAxiomOkUptoRow : OpenClaim := { program := "ytephiilmbcminaa", sum := "888250f08a9614697f069bb9c3daaf4e8c5d768ba49e61ec979015109a86050c", func := "loop.example/g00534/laws.FnExactAxiomOk", spec := "fnExactAxiomOk", inPlace := ["internal/bytealg.IndexByteString", "internal/bytealg.IndexString"], unfollowed := true, recurses := true, named := ["internal/bytealg.MaxLen"], loops := true, apart := false, narrowed := true }
def FnExactAxiomOkUptoSaid : Prop := fnExactAxiomOkUptoRow.holds Try.pinned (OpenSpec.upto fnExactAxiomOkSpec)

/-- 'laws.FnExactAxiomText', WHERE WHAT IT READS IS OF BULK AT MOST 1048576: true; the input reads as it did. -/
def fnExactAxiomTextUptoRow : OpenClaim := { program := "ytephiilmbcminaa", sum := "888250f08a9614697f069bb9c3daaf4e8c5d768ba49e61ec979015109a86050c", func := "loop.example/g00534/laws.FnExactAxiomText", spec := "fnExactAxiomText", inPlace := ["internal/bytealg.IndexByteString", "internal/bytealg.IndexString"], unfollowed := true, recurses := true, named := ["internal/bytealg.MaxLen"], loops := true, apart := false, narrowed := true }
def FnExactAxiomTextUptoSaid : Prop := fnExactAxiomTextUptoRow.holds Try.pinned (OpenSpec.upto fnExactAxiomTextSpec)

/-- 'laws.FnExactWorldOk', WHERE WHAT IT READS IS OF BULK AT MOST 1048576: true; the input reads as it did. -/
def fnExactWorldOkUptoRow : OpenClaim := { program := "ytephiilmbcminaa", sum := "888250f08a9614697f069bb9c3daaf4e8c5d768ba49e61ec979015109a86050c", func := "loop.example/g00534/laws.FnExactWorldOk", spec := "fnExactWorldOk", inPlace := ["internal/bytealg.Compare"], unfollowed := true, recurses := true, apart := false, narrowed := true }
def FnExactWorldOkUptoSaid : Prop := fnExactWorldOkUptoRow.holds Try.pinned (OpenSpec.upto fnExactWorldOkSpec)

/-- 'laws.FnExactInSet', WHERE WHAT IT READS IS OF BULK AT MOST 1048576: true; the input reads as it did. -/
def fnExactInSetUptoRow : OpenClaim := { program := "ytephiilmbcminaa", sum := "888250f08a9614697f069bb9c3daaf4e8c5d768ba49e61ec979015109a86050c", func := "loop.example/g00534/laws.FnExactInSet", spec := "fnExactInSet", inPlace := ["internal/bytealg.Compare"], unfollowed := true, recurses := true, apart := false, narrowed := true }
def FnExactInSetUptoSaid : Prop := fnExactInSetUptoRow.holds Try.pinned (OpenSpec.upto fnExactInSetSpec)

/-- 'laws.FnExactInRel', WHERE WHAT IT READS IS OF BULK AT MOST 1048576: true; the input reads as it did. -/
def fnExactInRelUptoRow : OpenClaim := { program := "ytephiilmbcminaa", sum := "888250f08a9614697f069bb9c3daaf4e8c5d768ba49e61ec979015109a86050c", func := "loop.example/g00534/laws.FnExactInRel", spec := "fnExactInRel", inPlace := ["internal/bytealg.Compare"], unfollowed := true, recurses := true, apart := false, narrowed := true }
def FnExactInRelUptoSaid : Prop := fnExactInRelUptoRow.holds Try.pinned (OpenSpec.upto fnExactInRelSpec)

end Rows
end Go.Proofs.Ytephiilmbcminaa
