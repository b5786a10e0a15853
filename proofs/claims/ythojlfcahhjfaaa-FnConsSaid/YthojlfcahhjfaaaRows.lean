/-
  NARROWER THAN 'FOR EVERY INPUT', by the rows' own cells (each row's printed sentence says how): FnExactConOk: loops · FnExactConText: loops · FnExactAskText: loops.
  DERIVED. THE GIVEN ROWS OF THIS SEAT. 7 by the template 'for every input the law returns true; each argument reads behind the call as it read before'; 0 by the template 'total and deterministic' (their statements: YthojlfcahhjfaaaTotals.lean).
  GIVEN WITH THE SEED: the statements are not yours to turn. If you find one false, say at which input.
  Laid BY PROGRAM, IN A SANDBOX (cutbox-rows.mjs): the forced cells as the released guide's own fill.sh prints them over the translation 18bc434e4df9090b… (all of the seat's roots in one cut). By AI agents, Wed Nov 11 2026. No macro, syntax, notation, axiom, sorry.
-/
import Derived.Test.YthojlfcahhjfaaaChecked
import GoSem.Claim
import GoSem.ClaimJoined
import GoSem.ClaimMapViews
import Derived.JoinedTies
import Derived.KernelRfl
namespace Go.Proofs.Ythojlfcahhjfaaa
/- THE CELL 'sum', in the pinned program and in every row, IS THE sha256 OF THE DUMP (.gsa) THAT YthojlfcahhjfaaaProg.lean LOADS. Nothing in Lean hashes anything: it is a label: what it is worth is what the hold of that sum in a sandbox is worth. -/
noncomputable def Try.pinned : Pinned := { name := "ythojlfcahhjfaaa", sum := "18bc434e4df9090bfe327648d4085aa42610246d8ea561c1df748ffd26509603", checked := Try.checked }
namespace Rows
def none {H : Type} : Left H := { results := [], args := [] }

/-- 'laws.FnTokens': WHATEVER THE INPUT: true; the input reads as it did. -/
def fnTokensSpec : ChangeSpec := { name := "fnTokens", fn := fun _ => fun
  | [d] => { results := [.lit (.bool true)], args := [d] }
  | _ => none }
def fnTokensRow : OpenClaim := { program := "ythojlfcahhjfaaa", sum := "18bc434e4df9090bfe327648d4085aa42610246d8ea561c1df748ffd26509603", func := "loop.example/g00534/laws.FnTokens", spec := "fnTokens", unfollowed := true, recurses := true, apart := false }
def FnTokensSaid : Prop := fnTokensRow.holds Try.pinned (OpenSpec.ofChange fnTokensSpec)

/-- ITS FALSE NEIGHBOUR: 'it returns false'. Refute it at one input. -/
def fnTokensWrong : ChangeSpec := { name := "fnTokens", fn := fun _ => fun
  | [d] => { results := [.lit (.bool false)], args := [d] }
  | _ => none }
def FnTokensWrongFalsely : Prop := fnTokensRow.holds Try.pinned (OpenSpec.ofChange fnTokensWrong)

/-- 'laws.FnCons': WHATEVER THE INPUT: true; the input reads as it did. -/
def fnConsSpec : ChangeSpec := { name := "fnCons", fn := fun _ => fun
  | [d] => { results := [.lit (.bool true)], args := [d] }
  | _ => none }
def fnConsRow : OpenClaim := { program := "ythojlfcahhjfaaa", sum := "18bc434e4df9090bfe327648d4085aa42610246d8ea561c1df748ffd26509603", func := "loop.example/g00534/laws.FnCons", spec := "fnCons", unfollowed := true, recurses := true, apart := false }
def FnConsSaid : Prop := fnConsRow.holds Try.pinned (OpenSpec.ofChange fnConsSpec)

/-- ITS FALSE NEIGHBOUR: 'it returns false'. Refute it at one input. -/
def fnConsWrong : ChangeSpec := { name := "fnCons", fn := fun _ => fun
  | [d] => { results := [.lit (.bool false)], args := [d] }
  | _ => none }
def FnConsWrongFalsely : Prop := fnConsRow.holds Try.pinned (OpenSpec.ofChange fnConsWrong)

/-- 'laws.FnExactConOk': WHATEVER THE INPUT: true; the input reads as it did. -/
def fnExactConOkSpec : ChangeSpec := { name := "fnExactConOk", fn := fun _ => fun
  | [d] => { results := [.lit (.bool true)], args := [d] }
  | _ => none }
def fnExactConOkRow : OpenClaim := { program := "ythojlfcahhjfaaa", sum := "18bc434e4df9090bfe327648d4085aa42610246d8ea561c1df748ffd26509603", func := "loop.example/g00534/laws.FnExactConOk", spec := "fnExactConOk", unfollowed := true, recurses := true, loops := true, apart := false }
def FnExactConOkSaid : Prop := fnExactConOkRow.holds Try.pinned (OpenSpec.ofChange fnExactConOkSpec)

/-- ITS FALSE NEIGHBOUR: 'it returns false'. Refute it at one input. -/
def fnExactConOkWrong : ChangeSpec := { name := "fnExactConOk", fn := fun _ => fun
  | [d] => { results := [.lit (.bool false)], args := [d] }
  | _ => none }
def FnExactConOkWrongFalsely : Prop := fnExactConOkRow.holds Try.pinned (OpenSpec.ofChange fnExactConOkWrong)

/-- 'laws.FnExactConText': WHATEVER THE INPUT: true; the input reads as it did. -/
def fnExactConTextSpec : ChangeSpec := { name := "fnExactConText", fn := fun _ => fun
  | [d] => { results := [.lit (.bool true)], args := [d] }
  | _ => none }
def fnExactConTextRow : OpenClaim := { program := "ythojlfcahhjfaaa", sum := "18bc434e4df9090bfe327648d4085aa42610246d8ea561c1df748ffd26509603", func := "loop.example/g00534/laws.FnExactConText", spec := "fnExactConText", unfollowed := true, recurses := true, loops := true, apart := false }
def FnExactConTextSaid : Prop := fnExactConTextRow.holds Try.pinned (OpenSpec.ofChange fnExactConTextSpec)

/-- ITS FALSE NEIGHBOUR: 'it returns false'. Refute it at one input. -/
def fnExactConTextWrong : ChangeSpec := { name := "fnExactConText", fn := fun _ => fun
  | [d] => { results := [.lit (.bool false)], args := [d] }
  | _ => none }
def FnExactConTextWrongFalsely : Prop := fnExactConTextRow.holds Try.pinned (OpenSpec.ofChange fnExactConTextWrong)

/-- 'laws.FnExactConRead': WHATEVER THE INPUT: true; the input reads as it did. -/
def fnExactConReadSpec : ChangeSpec := { name := "fnExactConRead", fn := fun _ => fun
  | [d] => { results := [.lit (.bool true)], args := [d] }
  | _ => none }
def fnExactConReadRow : OpenClaim := { program := "ythojlfcahhjfaaa", sum := "18bc434e4df9090bfe327648d4085aa42610246d8ea561c1df748ffd26509603", func := "loop.example/g00534/laws.FnExactConRead", spec := "fnExactConRead", unfollowed := true, recurses := true, apart := false }
def FnExactConReadSaid : Prop := fnExactConReadRow.holds Try.pinned (OpenSpec.ofChange fnExactConReadSpec)

/-- ITS FALSE NEIGHBOUR: 'it returns false'. Refute it at one input. -/
def fnExactConReadWrong : ChangeSpec := { name := "fnExactConRead", fn := fun _ => fun
  | [d] => { results := [.lit (.bool false)], args := [d] }
  | _ => none }
def FnExactConReadWrongFalsely : Prop := fnExactConReadRow.holds Try.pinned (OpenSpec.ofChange fnExactConReadWrong)

/-- 'laws.FnExactAskText': WHATEVER THE INPUT: true; the input reads as it did. -/
def fnExactAskTextSpec : ChangeSpec := { name := "fnExactAskText", fn := fun _ => fun
  | [d] => { results := [.lit (.bool true)], args := [d] }
  | _ => none }
def fnExactAskTextRow : OpenClaim := { program := "ythojlfcahhjfaaa", sum := "18bc434e4df9090bfe327648d4085aa42610246d8ea561c1df748ffd26509603", func := "loop.example/g00534/laws.FnExactAskText", spec := "fnExactAskText", unfollowed := true, recurses := true, loops := true, apart := false }
def FnExactAskTextSaid : Prop := fnExactAskTextRow.holds Try.pinned (OpenSpec.ofChange fnExactAskTextSpec)

/-- ITS FALSE NEIGHBOUR: 'it returns false'. Refute it at one input. -/
def fnExactAskTextWrong : ChangeSpec := { name := "fnExactAskText", fn := fun _ => fun
  | [d] => { results := [.lit (.bool false)], args := [d] }
  | _ => none }
def FnExactAskTextWrongFalsely : Prop := fnExactAskTextRow.holds Try.pinned (OpenSpec.ofChange fnExactAskTextWrong)

/-- 'laws.FnExactAskRead': WHATEVER THE INPUT: true; the input reads as it did. -/
def fnExactAskReadSpec : ChangeSpec := { name := "fnExactAskRead", fn := fun _ => fun
  | [d] => { results := [.lit (.bool true)], args := [d] }
  | _ => none }
def fnExactAskReadRow : OpenClaim := { program := "ythojlfcahhjfaaa", sum := "18bc434e4df9090bfe327648d4085aa42610246d8ea561c1df748ffd26509603", func := "loop.example/g00534/laws.FnExactAskRead", spec := "fnExactAskRead", unfollowed := true, recurses := true, apart := false }
def FnExactAskReadSaid : Prop := fnExactAskReadRow.holds Try.pinned (OpenSpec.ofChange fnExactAskReadSpec)

/-- ITS FALSE NEIGHBOUR: 'it returns false'. Refute it at one input. -/
def fnExactAskReadWrong : ChangeSpec := { name := "fnExactAskRead", fn := fun _ => fun
  | [d] => { results := [.lit (.bool false)], args := [d] }
  | _ => none }
def FnExactAskReadWrongFalsely : Prop := fnExactAskReadRow.holds Try.pinned (OpenSpec.ofChange fnExactAskReadWrong)

/- THE SECOND FORM. 'bulk': how many values and letters a reading holds, each counted each time it is reached (what is shared counts as often as it is met; a slice's spare places count too). A statement '..UptoSaid' is the law's where the arguments, and the package variables that the reading takes, are together of bulk at most 1048576: NARROWER than '..Said'. Prove '..Said' where nothing that the law and all that it calls make is longer than what came in: it says more and counts as full. Else prove '..UptoSaid'. A law counts once. -/
mutual
def uptoBulk {H : Type} : DataW H → Nat
  | .lit (.string bytes) => bytes.length + 1
  | .lit _ => 1
  | .nil => 1
  | .ptr d => uptoBulk d + 1
  | .slice elems spare => uptoBulkAll elems + uptoBulkAll spare + 1
  | .agg parts => uptoBulkAll parts + 1
  | .iface _ d => uptoBulk d + 1
  | .map entries => uptoBulkEntries entries + 1
  | .held _ => 1
def uptoBulkAll {H : Type} : List (DataW H) → Nat
  | [] => 0
  | d :: r => uptoBulk d + uptoBulkAll r
def uptoBulkEntries {H : Type} : List (Lit × DataW H) → Nat
  | [] => 0
  | x :: r => uptoBulkEntry x + uptoBulkEntries r
def uptoBulkEntry {H : Type} : Lit × DataW H → Nat
  | (.string bytes, d) => bytes.length + uptoBulk d + 1
  | (_, d) => uptoBulk d + 1
 end
def uptoSmall : (H : Type) → List (DataW H) → Bool := fun _ ds => decide (uptoBulkAll ds ≤ 1048576)
def OpenSpec.upto (s : _root_.Go.ChangeSpec) : _root_.Go.OpenSpec := { _root_.Go.OpenSpec.ofChange s with cond := some uptoSmall }

/-- 'laws.FnTokens', WHERE WHAT IT READS IS OF BULK AT MOST 1048576: true; the input reads as it did. -/
def fnTokensUptoRow : OpenClaim := { program := "ythojlfcahhjfaaa", sum := "18bc434e4df9090bfe327648d4085aa42610246d8ea561c1df748ffd26509603", func := "loop.example/g00534/laws.FnTokens", spec := "fnTokens", unfollowed := true, recurses := true, apart := false, narrowed := true }
def FnTokensUptoSaid : Prop := fnTokensUptoRow.holds Try.pinned (OpenSpec.upto fnTokensSpec)

/-- 'laws.FnCons', WHERE WHAT IT READS IS OF BULK AT MOST 1048576: true; the input reads as it did. -/
def fnConsUptoRow : OpenClaim := { program := "ythojlfcahhjfaaa", sum := "18bc434e4df9090bfe327648d4085aa42610246d8ea561c1df748ffd26509603", func := "loop.example/g00534/laws.FnCons", spec := "fnCons", unfollowed := true, recurses := true, apart := false, narrowed := true }
def FnConsUptoSaid : Prop := fnConsUptoRow.holds Try.pinned (OpenSpec.upto fnConsSpec)

/-- 'laws.FnExactConOk', WHERE WHAT IT READS IS OF BULK AT MOST 1048576: true; the input reads as it did. -/
def fnExactConOkUptoRow : OpenClaim := { program := "ythojlfcahhjfaaa", sum := "18bc434e4df9090bfe327648d4085aa42610246d8ea561c1df748ffd26509603", func := "loop.example/g00534/laws.FnExactConOk", spec := "fnExactConOk", unfollowed := true, recurses := true, loops := true, apart := false, narrowed := true }
def FnExactConOkUptoSaid : Prop := fnExactConOkUptoRow.holds Try.pinned (OpenSpec.upto fnExactConOkSpec)

/-- 'laws.FnExactConText', WHERE WHAT IT READS IS OF BULK AT MOST 1048576: true; the input reads as it did. -/
def fnExactConTextUptoRow : OpenClaim := { program := "ythojlfcahhjfaaa", sum := "18bc434e4df9090bfe327648d4085aa42610246d8ea561c1df748ffd26509603", func := "loop.example/g00534/laws.FnExactConText", spec := "fnExactConText", unfollowed := true, recurses := true, loops := true, apart := false, narrowed := true }
def FnExactConTextUptoSaid : Prop := fnExactConTextUptoRow.holds Try.pinned (OpenSpec.upto fnExactConTextSpec)

/-- 'laws.FnExactConRead', WHERE WHAT IT READS IS OF BULK AT MOST 1048576: true; the input reads as it did. -/
def fnExactConReadUptoRow : OpenClaim := { program := "ythojlfcahhjfaaa", sum := "18bc434e4df9090bfe327648d4085aa42610246d8ea561c1df748ffd26509603", func := "loop.example/g00534/laws.FnExactConRead", spec := "fnExactConRead", unfollowed := true, recurses := true, apart := false, narrowed := true }
def FnExactConReadUptoSaid : Prop := fnExactConReadUptoRow.holds Try.pinned (OpenSpec.upto fnExactConReadSpec)

/-- 'laws.FnExactAskText', WHERE WHAT IT READS IS OF BULK AT MOST 1048576: true; the input reads as it did. -/
def fnExactAskTextUptoRow : OpenClaim := { program := "ythojlfcahhjfaaa", sum := "18bc434e4df9090bfe327648d4085aa42610246d8ea561c1df748ffd26509603", func := "loop.example/g00534/laws.FnExactAskText", spec := "fnExactAskText", unfollowed := true, recurses := true, loops := true, apart := false, narrowed := true }
def FnExactAskTextUptoSaid : Prop := fnExactAskTextUptoRow.holds Try.pinned (OpenSpec.upto fnExactAskTextSpec)

/-- 'laws.FnExactAskRead', WHERE WHAT IT READS IS OF BULK AT MOST 1048576: true; the input reads as it did. -/
def fnExactAskReadUptoRow : OpenClaim := { program := "ythojlfcahhjfaaa", sum := "18bc434e4df9090bfe327648d4085aa42610246d8ea561c1df748ffd26509603", func := "loop.example/g00534/laws.FnExactAskRead", spec := "fnExactAskRead", unfollowed := true, recurses := true, apart := false, narrowed := true }
def FnExactAskReadUptoSaid : Prop := fnExactAskReadUptoRow.holds Try.pinned (OpenSpec.upto fnExactAskReadSpec)

end Rows
end Go.Proofs.Ythojlfcahhjfaaa
