/-
  NARROWER THAN 'FOR EVERY INPUT', by the rows' own cells (each row's printed sentence says how): FnExactConOk: loops · FnExactConText: loops · FnExactConCmp: loops.
  DERIVED. THE GIVEN ROWS OF THIS SEAT. 6 by the template 'for every input the law returns true; each argument reads behind the call as it read before'; 0 by the template 'total and deterministic' (their statements: YtbjkokndnfmcpagTotals.lean).
  GIVEN WITH THE SEED: the statements are not yours to turn. If you find one false, say at which input.
  Laid BY PROGRAM, IN A SANDBOX (cutbox-rows.mjs): the forced cells as the released guide's own fill.sh prints them over the translation 44a89cfe16019236… (all of the seat's roots in one cut). By AI agents, Wed Nov 11 2026. No macro, syntax, notation, axiom, sorry.
-/
import Derived.Test.YtbjkokndnfmcpagChecked
import GoSem.Claim
import GoSem.ClaimJoined
import GoSem.ClaimMapViews
import Derived.JoinedTies
import Derived.KernelRfl
namespace Go.Proofs.Ytbjkokndnfmcpag
/- THE CELL 'sum', in the pinned program and in every row, IS THE sha256 OF THE DUMP (.gsa) THAT YtbjkokndnfmcpagProg.lean LOADS. Nothing in Lean hashes anything: it is a label: what it is worth is what the hold of that sum in a sandbox is worth. -/
noncomputable def Try.pinned : Pinned := { name := "ytbjkokndnfmcpag", sum := "44a89cfe160192368605e844cd6d92b61d76d721efa01195ca420d8d59480df1", checked := Try.checked }
namespace Rows
def none {H : Type} : Left H := { results := [], args := [] }

/-- 'laws.FnExactTokens': WHATEVER THE INPUT: true; the input reads as it did. -/
def fnExactTokensSpec : ChangeSpec := { name := "fnExactTokens", fn := fun _ => fun
  | [d] => { results := [.lit (.bool true)], args := [d] }
  | _ => none }
def fnExactTokensRow : OpenClaim := { program := "ytbjkokndnfmcpag", sum := "44a89cfe160192368605e844cd6d92b61d76d721efa01195ca420d8d59480df1", func := "loop.example/g00534/laws.FnExactTokens", spec := "fnExactTokens", unfollowed := true, recurses := true, apart := false }
def FnExactTokensSaid : Prop := fnExactTokensRow.holds Try.pinned (OpenSpec.ofChange fnExactTokensSpec)

/-- ITS FALSE NEIGHBOUR: 'it returns false'. Refute it at one input. -/
def fnExactTokensWrong : ChangeSpec := { name := "fnExactTokens", fn := fun _ => fun
  | [d] => { results := [.lit (.bool false)], args := [d] }
  | _ => none }
def FnExactTokensWrongFalsely : Prop := fnExactTokensRow.holds Try.pinned (OpenSpec.ofChange fnExactTokensWrong)

/-- 'laws.FnExactTokenText': WHATEVER THE INPUT: true; the input reads as it did. -/
def fnExactTokenTextSpec : ChangeSpec := { name := "fnExactTokenText", fn := fun _ => fun
  | [d] => { results := [.lit (.bool true)], args := [d] }
  | _ => none }
def fnExactTokenTextRow : OpenClaim := { program := "ytbjkokndnfmcpag", sum := "44a89cfe160192368605e844cd6d92b61d76d721efa01195ca420d8d59480df1", func := "loop.example/g00534/laws.FnExactTokenText", spec := "fnExactTokenText", apart := false }
def FnExactTokenTextSaid : Prop := fnExactTokenTextRow.holds Try.pinned (OpenSpec.ofChange fnExactTokenTextSpec)

/-- ITS FALSE NEIGHBOUR: 'it returns false'. Refute it at one input. -/
def fnExactTokenTextWrong : ChangeSpec := { name := "fnExactTokenText", fn := fun _ => fun
  | [d] => { results := [.lit (.bool false)], args := [d] }
  | _ => none }
def FnExactTokenTextWrongFalsely : Prop := fnExactTokenTextRow.holds Try.pinned (OpenSpec.ofChange fnExactTokenTextWrong)

/-- 'laws.FnExactConOk': WHATEVER THE INPUT: true; the input reads as it did. -/
def fnExactConOkSpec : ChangeSpec := { name := "fnExactConOk", fn := fun _ => fun
  | [d] => { results := [.lit (.bool true)], args := [d] }
  | _ => none }
def fnExactConOkRow : OpenClaim := { program := "ytbjkokndnfmcpag", sum := "44a89cfe160192368605e844cd6d92b61d76d721efa01195ca420d8d59480df1", func := "loop.example/g00534/laws.FnExactConOk", spec := "fnExactConOk", unfollowed := true, recurses := true, loops := true, apart := false }
def FnExactConOkSaid : Prop := fnExactConOkRow.holds Try.pinned (OpenSpec.ofChange fnExactConOkSpec)

/-- ITS FALSE NEIGHBOUR: 'it returns false'. Refute it at one input. -/
def fnExactConOkWrong : ChangeSpec := { name := "fnExactConOk", fn := fun _ => fun
  | [d] => { results := [.lit (.bool false)], args := [d] }
  | _ => none }
def FnExactConOkWrongFalsely : Prop := fnExactConOkRow.holds Try.pinned (OpenSpec.ofChange fnExactConOkWrong)

/-- 'laws.FnExactConText': WHATEVER THE INPUT: true; the input reads as it did. -/
def fnExactConTextSpec : ChangeSpec := { name := "fnExactConText", fn := fun _ => fun
  | [d] => { results := [.lit (.bool true)], args := [d] }
  | _ => none }
def fnExactConTextRow : OpenClaim := { program := "ytbjkokndnfmcpag", sum := "44a89cfe160192368605e844cd6d92b61d76d721efa01195ca420d8d59480df1", func := "loop.example/g00534/laws.FnExactConText", spec := "fnExactConText", unfollowed := true, recurses := true, loops := true, apart := false }
def FnExactConTextSaid : Prop := fnExactConTextRow.holds Try.pinned (OpenSpec.ofChange fnExactConTextSpec)

/-- ITS FALSE NEIGHBOUR: 'it returns false'. Refute it at one input. -/
def fnExactConTextWrong : ChangeSpec := { name := "fnExactConText", fn := fun _ => fun
  | [d] => { results := [.lit (.bool false)], args := [d] }
  | _ => none }
def FnExactConTextWrongFalsely : Prop := fnExactConTextRow.holds Try.pinned (OpenSpec.ofChange fnExactConTextWrong)

/-- 'laws.FnExactConRead': WHATEVER THE INPUT: true; the input reads as it did. -/
def fnExactConReadSpec : ChangeSpec := { name := "fnExactConRead", fn := fun _ => fun
  | [d] => { results := [.lit (.bool true)], args := [d] }
  | _ => none }
def fnExactConReadRow : OpenClaim := { program := "ytbjkokndnfmcpag", sum := "44a89cfe160192368605e844cd6d92b61d76d721efa01195ca420d8d59480df1", func := "loop.example/g00534/laws.FnExactConRead", spec := "fnExactConRead", unfollowed := true, recurses := true, apart := false }
def FnExactConReadSaid : Prop := fnExactConReadRow.holds Try.pinned (OpenSpec.ofChange fnExactConReadSpec)

/-- ITS FALSE NEIGHBOUR: 'it returns false'. Refute it at one input. -/
def fnExactConReadWrong : ChangeSpec := { name := "fnExactConRead", fn := fun _ => fun
  | [d] => { results := [.lit (.bool false)], args := [d] }
  | _ => none }
def FnExactConReadWrongFalsely : Prop := fnExactConReadRow.holds Try.pinned (OpenSpec.ofChange fnExactConReadWrong)

/-- 'laws.FnExactConCmp': WHATEVER THE INPUT: true; the input reads as it did. -/
def fnExactConCmpSpec : ChangeSpec := { name := "fnExactConCmp", fn := fun _ => fun
  | [d1, d2] => { results := [.lit (.bool true)], args := [d1, d2] }
  | _ => none }
def fnExactConCmpRow : OpenClaim := { program := "ytbjkokndnfmcpag", sum := "44a89cfe160192368605e844cd6d92b61d76d721efa01195ca420d8d59480df1", func := "loop.example/g00534/laws.FnExactConCmp", spec := "fnExactConCmp", inPlace := ["internal/bytealg.Compare"], unfollowed := true, recurses := true, loops := true, apart := false }
def FnExactConCmpSaid : Prop := fnExactConCmpRow.holds Try.pinned (OpenSpec.ofChange fnExactConCmpSpec)

/-- ITS FALSE NEIGHBOUR: 'it returns false'. Refute it at one input. -/
def fnExactConCmpWrong : ChangeSpec := { name := "fnExactConCmp", fn := fun _ => fun
  | [d1, d2] => { results := [.lit (.bool false)], args := [d1, d2] }
  | _ => none }
def FnExactConCmpWrongFalsely : Prop := fnExactConCmpRow.holds Try.pinned (OpenSpec.ofChange fnExactConCmpWrong)

/- THE SECOND FORM. 'bulk': how many values and letters a reading holds, each counted each time it is reached (what is shared counts as often as it is met; a slice's spare places count too). A statement '..UptoSaid' is the law's where the arguments, and the package variables that the reading takes, are together of bulk at most 1048576: NARROWER than '..Said'. Prove '..Said' where nothing that the law and all that it calls make is longer than what came in: it says more and counts as full. Else prove '..UptoSaid'. A law counts once. -/
mutual
def uptoBulk {H : Type} : DataW H → Nat
  | .lit (.string bytes) => bytes.length + 1
  | .lit _ => 1
  | .nil => 1
  | .ptr d => uptoBulk d + 1
  | .slice elems spare => uptoBulkAll elems + uptoBulkAll spare + 1
  | .agg parts => uptoBulkAll parts + 1
  | .iface _ d => uptoBulk d + 1
  | .map entries => uptoBulkEntries entries + 1
  | .held _ => 1
def uptoBulkAll {H : Type} : List (DataW H) → Nat
  | [] => 0
  | d :: r => uptoBulk d + uptoBulkAll r
def uptoBulkEntries {H : Type} : List (Lit × DataW H) → Nat
  | [] => 0
  | x :: r => uptoBulkEntry x + uptoBulkEntries r
def uptoBulkEntry {H : Type} : Lit × DataW H → Nat
  | (.string bytes, d) => bytes.length + uptoBulk d + 1
  | (_, d) => uptoBulk d + 1
 end
def uptoSmall : (H : Type) → List (DataW H) → Bool := fun _ ds => decide (uptoBulkAll ds ≤ 1048576)
def OpenSpec.upto (s : _root_.Go.ChangeSpec) : _root_.Go.OpenSpec := { _root_.Go.OpenSpec.ofChange s with cond := some uptoSmall }

/-- 'laws.FnExactTokens', WHERE WHAT IT READS IS OF BULK AT MOST 1048576: true; the input reads as it did. -/
def fnExactTokensUptoRow : OpenClaim := { program := "ytbjkokndnfmcpag", sum := "44a89cfe160192368605e844cd6d92b61d76d721efa01195ca420d8d59480df1", func := "loop.example/g00534/laws.FnExactTokens", spec := "fnExactTokens", unfollowed := true, recurses := true, apart := false, narrowed := true }
def FnExactTokensUptoSaid : Prop := fnExactTokensUptoRow.holds Try.pinned (OpenSpec.upto fnExactTokensSpec)

/-- 'laws.FnExactTokenText', WHERE WHAT IT READS IS OF BULK AT MOST 1048576: true; the input reads as it did. -/
def fnExactTokenTextUptoRow : OpenClaim := { program := "ytbjkokndnfmcpag", sum := "44a89cfe160192368605e844cd6d92b61d76d721efa01195ca420d8d59480df1", func := "loop.example/g00534/laws.FnExactTokenText", spec := "fnExactTokenText", apart := false, narrowed := true }
def FnExactTokenTextUptoSaid : Prop := fnExactTokenTextUptoRow.holds Try.pinned (OpenSpec.upto fnExactTokenTextSpec)

/-- 'laws.FnExactConOk', WHERE WHAT IT READS IS OF BULK AT MOST 1048576: true; the input reads as it did. -/
def fnExactConOkUptoRow : OpenClaim := { program := "ytbjkokndnfmcpag", sum := "44a89cfe160192368605e844cd6d92b61d76d721efa01195ca420d8d59480df1", func := "loop.example/g00534/laws.FnExactConOk", spec := "fnExactConOk", unfollowed := true, recurses := true, loops := true, apart := false, narrowed := true }
def FnExactConOkUptoSaid : Prop := fnExactConOkUptoRow.holds Try.pinned (OpenSpec.upto fnExactConOkSpec)

/-- 'laws.FnExactConText', WHERE WHAT IT READS IS OF BULK AT MOST 1048576: true; the input reads as it did. -/
def fnExactConTextUptoRow : OpenClaim := { program := "ytbjkokndnfmcpag", sum := "44a89cfe160192368605e844cd6d92b61d76d721efa01195ca420d8d59480df1", func := "loop.example/g00534/laws.FnExactConText", spec := "fnExactConText", unfollowed := true, recurses := true, loops := true, apart := false, narrowed := true }
def FnExactConTextUptoSaid : Prop := fnExactConTextUptoRow.holds Try.pinned (OpenSpec.upto fnExactConTextSpec)

/-- 'laws.FnExactConRead', WHERE WHAT IT READS IS OF BULK AT MOST 1048576: true; the input reads as it did. -/
def fnExactConReadUptoRow : OpenClaim := { program := "ytbjkokndnfmcpag", sum := "44a89cfe160192368605e844cd6d92b61d76d721efa01195ca420d8d59480df1", func := "loop.example/g00534/laws.FnExactConRead", spec := "fnExactConRead", unfollowed := true, recurses := true, apart := false, narrowed := true }
def FnExactConReadUptoSaid : Prop := fnExactConReadUptoRow.holds Try.pinned (OpenSpec.upto fnExactConReadSpec)

/-- 'laws.FnExactConCmp', WHERE WHAT IT READS IS OF BULK AT MOST 1048576: true; the input reads as it did. -/
def fnExactConCmpUptoRow : OpenClaim := { program := "ytbjkokndnfmcpag", sum := "44a89cfe160192368605e844cd6d92b61d76d721efa01195ca420d8d59480df1", func := "loop.example/g00534/laws.FnExactConCmp", spec := "fnExactConCmp", inPlace := ["internal/bytealg.Compare"], unfollowed := true, recurses := true, loops := true, apart := false, narrowed := true }
def FnExactConCmpUptoSaid : Prop := fnExactConCmpUptoRow.holds Try.pinned (OpenSpec.upto fnExactConCmpSpec)

end Rows
end Go.Proofs.Ytbjkokndnfmcpag
