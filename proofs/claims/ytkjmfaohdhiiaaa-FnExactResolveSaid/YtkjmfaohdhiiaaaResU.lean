/- Which rule is for two kinds: a contract. -/
import Derived.Test.YtkjmfaohdhiiaaaNG5
import Derived.Laws.CopyOwn
import Derived.Laws.Tables
import Derived.Deep.DeepCutAuto
namespace Go.Proofs.Ytkjmfaohdhiiaaa
open Go.RowKit
set_option linter.unusedVariables false
def fnV (i:Nat):Value:=.func (.func i) #[] #[]
def rulesC:Array Value:=#[
 fnV 109,.nilFunc,.nilFunc,.nilFunc,.nilFunc,.nilFunc,.nilFunc,
 fnV 110,fnV 111,.nilFunc,.nilFunc,.nilFunc,.nilFunc,.nilFunc,
 .nilFunc,.nilFunc,.nilFunc,fnV 112,fnV 113,.nilFunc,.nilFunc,
 .nilFunc,.nilFunc,.nilFunc,.nilFunc,.nilFunc,.nilFunc,.nilFunc,
 .nilFunc,.nilFunc,.nilFunc,.nilFunc,.nilFunc,.nilFunc,.nilFunc,
 fnV 114,.nilFunc,.nilFunc,.nilFunc,.nilFunc,fnV 115,.nilFunc,
 .nilFunc,.nilFunc,.nilFunc,fnV 116,fnV 113,.nilFunc,.nilFunc]
def ruleV (m n:Nat):Value:=rulesC.getD (m*7+n) .nilFunc
set_option maxRecDepth 100000 in
set_option maxHeartbeats 4000000 in
theorem ruleOf_any (m n:Nat) (hm:m<7) (hn:n<7) (w:World) :
    Calls Try.prog 106 #[.int .i64 (m:Nat),.int .i64 (n:Nat)] w fun e w'=>e=.returned (ruleV m n)∧Below w.heap.size w w':=by
 have u:(m:Int)<7:=by omega
 have t:(n:Int)<7:=by omega
 obtain ⟨cs,s⟩:∃ cs,cs=rulesC:=⟨_,rfl⟩;obtain ⟨W,hW⟩:∃ W,W=(w.alloc (.cells #[.nilFunc,.nilFunc,.nilFunc,.nilFunc,.nilFunc,.nilFunc,.nilFunc,.nilFunc,.nilFunc,.nilFunc,.nilFunc,.nilFunc,.nilFunc,.nilFunc,.nilFunc,.nilFunc,.nilFunc,.nilFunc,.nilFunc,.nilFunc,.nilFunc,.nilFunc,.nilFunc,.nilFunc,.nilFunc,.nilFunc,.nilFunc,.nilFunc,.nilFunc,.nilFunc,.nilFunc,.nilFunc,.nilFunc,.nilFunc,.nilFunc,.nilFunc,.nilFunc,.nilFunc,.nilFunc,.nilFunc,.nilFunc,.nilFunc,.nilFunc,.nilFunc,.nilFunc,.nilFunc,.nilFunc,.nilFunc,.nilFunc] 134)).setRow w.heap.size rulesC:=⟨_,rfl⟩;have HW:Hid (W=(w.alloc (.cells #[.nilFunc,.nilFunc,.nilFunc,.nilFunc,.nilFunc,.nilFunc,.nilFunc,.nilFunc,.nilFunc,.nilFunc,.nilFunc,.nilFunc,.nilFunc,.nilFunc,.nilFunc,.nilFunc,.nilFunc,.nilFunc,.nilFunc,.nilFunc,.nilFunc,.nilFunc,.nilFunc,.nilFunc,.nilFunc,.nilFunc,.nilFunc,.nilFunc,.nilFunc,.nilFunc,.nilFunc,.nilFunc,.nilFunc,.nilFunc,.nilFunc,.nilFunc,.nilFunc,.nilFunc,.nilFunc,.nilFunc,.nilFunc,.nilFunc,.nilFunc,.nilFunc,.nilFunc,.nilFunc,.nilFunc,.nilFunc,.nilFunc] 134)).setRow w.heap.size rulesC):=hW
 have HZ:Hid ((w.alloc (.cells #[.nilFunc,.nilFunc,.nilFunc,.nilFunc,.nilFunc,.nilFunc,.nilFunc,.nilFunc,.nilFunc,.nilFunc,.nilFunc,.nilFunc,.nilFunc,.nilFunc,.nilFunc,.nilFunc,.nilFunc,.nilFunc,.nilFunc,.nilFunc,.nilFunc,.nilFunc,.nilFunc,.nilFunc,.nilFunc,.nilFunc,.nilFunc,.nilFunc,.nilFunc,.nilFunc,.nilFunc,.nilFunc,.nilFunc,.nilFunc,.nilFunc,.nilFunc,.nilFunc,.nilFunc,.nilFunc,.nilFunc,.nilFunc,.nilFunc,.nilFunc,.nilFunc,.nilFunc,.nilFunc,.nilFunc,.nilFunc,.nilFunc] 134)).heap[w.heap.size]?=some (.cells #[.nilFunc,.nilFunc,.nilFunc,.nilFunc,.nilFunc,.nilFunc,.nilFunc,.nilFunc,.nilFunc,.nilFunc,.nilFunc,.nilFunc,.nilFunc,.nilFunc,.nilFunc,.nilFunc,.nilFunc,.nilFunc,.nilFunc,.nilFunc,.nilFunc,.nilFunc,.nilFunc,.nilFunc,.nilFunc,.nilFunc,.nilFunc,.nilFunc,.nilFunc,.nilFunc,.nilFunc,.nilFunc,.nilFunc,.nilFunc,.nilFunc,.nilFunc,.nilFunc,.nilFunc,.nilFunc,.nilFunc,.nilFunc,.nilFunc,.nilFunc,.nilFunc,.nilFunc,.nilFunc,.nilFunc,.nilFunc,.nilFunc] 134 (0,0))):=World.alloc_heap_new w _;have hsz:(Try.prog.info? 134).map (·.size)=some rulesC.size:=by kernel_rfl
 have hzo:(#[.nilFunc,.nilFunc,.nilFunc,.nilFunc,.nilFunc,.nilFunc,.nilFunc,.nilFunc,.nilFunc,.nilFunc,.nilFunc,.nilFunc,.nilFunc,.nilFunc,.nilFunc,.nilFunc,.nilFunc,.nilFunc,.nilFunc,.nilFunc,.nilFunc,.nilFunc,.nilFunc,.nilFunc,.nilFunc,.nilFunc,.nilFunc,.nilFunc,.nilFunc,.nilFunc,.nilFunc,.nilFunc,.nilFunc,.nilFunc,.nilFunc,.nilFunc,.nilFunc,.nilFunc,.nilFunc,.nilFunc,.nilFunc,.nilFunc,.nilFunc,.nilFunc,.nilFunc,.nilFunc,.nilFunc,.nilFunc,.nilFunc]:Array Value).size=rulesC.size:=rfl;have hone:rulesC.all (·.oneCell')=true:=by kernel_rfl
 have HB:Hid (Below w.heap.size w W):=by rw [Hid,hW];exact _root_.Go.below_setRow ((Below.refl _ _).alloc (Nat.le_refl _) _) (Nat.le_refl _) _
 have d:W.heap[w.heap.size]?=some (.cells rulesC 134 (0,0)):=by rw [hW];exact setRow_heap _ _ _ _ _ _ HZ.out
 have z:W.cell? ⟨w.heap.size,m*7+n,none⟩=some (ruleV m n):=by
  have hl:m*7+n<rulesC.size:=by show m*7+n<49;omega
  simp [World.cell?,d,ruleV,Array.getD,hl]
 obtain ⟨v,hv⟩:∃ v,v=ruleV m n:=⟨_,rfl⟩;rw [← hv] at z ⊢;clear hW d hv s;go_enter Try.func106, Try.ntmps106;go_wp2_with (first | (refine wpList_store_row rfl 134 (.tmp 5) (.tmp 11) rfl w.heap.size rulesC rfl rfl 134 #[.nilFunc,.nilFunc,.nilFunc,.nilFunc,.nilFunc,.nilFunc,.nilFunc,.nilFunc,.nilFunc,.nilFunc,.nilFunc,.nilFunc,.nilFunc,.nilFunc,.nilFunc,.nilFunc,.nilFunc,.nilFunc,.nilFunc,.nilFunc,.nilFunc,.nilFunc,.nilFunc,.nilFunc,.nilFunc,.nilFunc,.nilFunc,.nilFunc,.nilFunc,.nilFunc,.nilFunc,.nilFunc,.nilFunc,.nilFunc,.nilFunc,.nilFunc,.nilFunc,.nilFunc,.nilFunc,.nilFunc,.nilFunc,.nilFunc,.nilFunc,.nilFunc,.nilFunc,.nilFunc,.nilFunc,.nilFunc,.nilFunc] HZ.out hsz hzo hone ?_;rw [← HW.out]) | fail)
 go_ret;exact ⟨rfl,HB.out⟩
end Go.Proofs.Ytkjmfaohdhiiaaa
