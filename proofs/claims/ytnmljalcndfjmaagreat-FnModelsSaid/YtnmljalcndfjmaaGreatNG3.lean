/- Several texts in one: CmpB, WdNames, Kept, ConMath, ConSpec. -/
import Derived.Test.YtnmljalcndfjmaaGreatNG1
import Derived.Lib.BytesEntry
import Derived.Test.YtnmljalcndfjmaaGreatNG2
import Derived.Deep.QuietTactic
import Derived.BigQuiet
import Derived.RangeFuncRecord
namespace Go.Proofs.YtnmljalcndfjmaaGreat

section
open Go.RowKit
def cmpZ (xs ys:List Int):Int:=Lib.compareBytes (strOfNums xs).toList (strOfNums ys).toList
theorem bytesOf_any {a:Option Addr} {n q:Nat} {zs:List Int} {w:World} {lo hi:Nat} (h:Rd lo hi w a n q zs):(Extern.Bytes.bytesOf (.slice a n q)).run Tryz.prog w=.ok (strOfNums zs) w:=by
 rcases h.cells with h0 | ⟨b,off,rfl,_,_,hc⟩
 · subst h0;have hz:zs=[]:=List.eq_nil_of_length_eq_zero h.len;subst hz;cases a with
   | none=>rfl
   | some a=>rfl
 have hl:=Lib.run_loadBytesX (P:=Tryz.prog) w zs ⟨b,off,none⟩ .empty (fun j x hj=>by
  have F:j<zs.length:=(List.getElem?_eq_some_iff.1 hj).1;have e:(⟨b,off,none⟩:Addr).add j=⟨b,off+j,none⟩:=by unfold Addr.add;split <;> simp_all
  rw [e,hc j (by have:=h.len;omega),List.getD_eq_getElem?_getD,hj]
  rfl)
 rw [h.len] at hl
 show (Extern.Bytes.loadBytes ⟨b,off,none⟩ n .empty).run Tryz.prog w=_
 rw [hl]
 congr 1
 apply ByteArray.ext
 show (#[]:Array UInt8)++(Lib.bytesOf zs).toArray=_
 simp [Lib.bytesOf,strOfNums]
theorem compare_run {a a':Option Addr} {n q n' cap':Nat} {xs ys:List Int} {w:World} {lo hi lo' y:Nat} (h:Rd lo hi w a n q xs) (h':Rd lo' y w a' n' cap' ys) :
    (Extern.BytealgCompare.compare #[.slice a n q,.slice a' n' cap']).run Tryz.prog w=.ok (.int .i64 (cmpZ xs ys)) w:=by
 change Sem.run Tryz.prog (do pure (goInt (Extern.BytealgCompare.cmp (← Extern.Bytes.bytesOf (.slice a n q)) (← Extern.Bytes.bytesOf (.slice a' n' cap'))))) w=_;simp only [Sem.run_bind,Sem.run_pure,bytesOf_any h,bytesOf_any h',Result.andThen];rw [Lib.cmp_eq];unfold cmpZ;rw [ByteArray.toList_eq,ByteArray.toList_eq];rfl
set_option maxHeartbeats 1000000 in
set_option maxRecDepth 100000 in
theorem bytesCompare_any {a a':Option Addr} {n q n' cap':Nat} {xs ys:List Int} {w:World} {lo hi lo' y:Nat} (h:Rd lo hi w a n q xs) (h':Rd lo' y w a' n' cap' ys) :
    Calls Tryz.prog 121 #[.slice a n q,.slice a' n' cap'] w fun e w'=>e=.returned (.int .i64 (cmpZ xs ys))∧w'=w:=by
 have HC:Hid ((Extern.BytealgCompare.compare #[.slice a n q,.slice a' n' cap']).run Tryz.prog w=.ok (.int .i64 (cmpZ xs ys)) w):=compare_run h h';clear h h';go_enter Tryz.func121, Tryz.ntmps121;go_wp2;rw [run_callFunc_extern Tryz.func153 (by kernel_rfl) (by kernel_rfl) (by kernel_rfl) (e:=Extern.BytealgCompare.compare) (by kernel_rfl),HC.out];simp only [Result.andThen];rw [Oper.upon_value];go_wp2;go_ret;exact ⟨rfl,rfl⟩
theorem less_cmp:∀ (a b:List UInt8),(if Op.bytesLess a b=true then (-1:Int) else if Op.bytesLess b a=true then 1 else 0)=Lib.compareBytes a b
 | [],[]=>by simp [Op.bytesLess,Lib.compareBytes]
 | [],b :: ys=>by simp [Op.bytesLess,Lib.compareBytes]
 | a :: xs,[]=>by simp [Op.bytesLess,Lib.compareBytes]
 | a :: xs,b :: ys=>by
  have ih:=less_cmp xs ys;rw [Lib.compareBytes,← ih];by_cases h1:a<b
  · simp [Op.bytesLess,h1]
  by_cases h2:b<a
  · have A:¬ a=b:=fun e=>by subst e;exact h1 h2
    simp [Op.bytesLess,h1,h2,A]
  have he:a=b:=UInt8.le_antisymm (UInt8.not_lt.1 h2) (UInt8.not_lt.1 h1);subst he;simp [Op.bytesLess]
theorem less_self:∀ a:List UInt8,Op.bytesLess a a=false
 | []=>rfl
 | a :: xs=>by simp [Op.bytesLess,less_self xs,UInt8.lt_irrefl]
theorem less_tri:∀ a b:List UInt8,Op.bytesLess a b=false→(a == b)=false→Op.bytesLess b a=true
 | [],[],_,h=>by simp at h
 | [],b :: ys,h,_=>by simp [Op.bytesLess] at h
 | a :: xs,[],_,_=>by simp [Op.bytesLess]
 | a :: xs,b :: ys,h1,h2=>by
  have ih:=less_tri xs ys;by_cases h3:a<b
  · simp [Op.bytesLess,h3] at h1
  by_cases h4:b<a
  · simp [Op.bytesLess,h4]
  have he:a=b:=UInt8.le_antisymm (UInt8.not_lt.1 h4) (UInt8.not_lt.1 h3);subst he;simp [Op.bytesLess] at h1 h2 ⊢;exact ih h1 (by simpa using h2)
set_option maxRecDepth 100000 in
set_option maxHeartbeats 1000000 in
theorem l2bytes_any {a a':Option Addr} {n q n' cap':Nat} {xs ys:List Int} {w:World} {lo hi lo' y:Nat} (h:Rd lo hi w a n q xs) (h':Rd lo' y w a' n' cap' ys) :
    Calls Tryz.prog 148 #[.slice a n q,.slice a' n' cap'] w fun e w'=>e=.returned (.int .i64 (cmpZ xs ys))∧w'=w:=by
 have hc:=conv_any h;have D:=conv_any h';have HZ:Hid (cmpZ xs ys=(if Op.bytesLess (strOfNums xs).toList (strOfNums ys).toList=true then (-1:Int) else if Op.bytesLess (strOfNums ys).toList (strOfNums xs).toList=true then 1 else 0)):=(less_cmp _ _).symm;obtain ⟨s,hs⟩:∃ s,s=strOfNums xs:=⟨_,rfl⟩;obtain ⟨t,ht⟩:∃ t,t=strOfNums ys:=⟨_,rfl⟩;rw [← hs] at hc HZ;rw [← ht] at D HZ;clear h h' hs ht;cases h1:Op.bytesLess s.toList t.toList
 · cases h2:(s.toList == t.toList)
   · have h3:=less_tri _ _ h1 h2;go_enter Tryz.func148, Tryz.ntmps148;go_wp2;go_ret;exact ⟨ri (by rw [HZ.out,h1,h3];rfl),rfl⟩
   have h4:s.toList=t.toList:=by simpa using h2
   have E:Hid (cmpZ xs ys=0):=by unfold Hid;rw [HZ.out,h4,less_self];rfl
   clear h4;go_enter Tryz.func148, Tryz.ntmps148;go_wp2;go_ret;exact ⟨ri E.out.symm,rfl⟩
 go_enter Tryz.func148, Tryz.ntmps148;go_wp2;go_ret;exact ⟨ri (by rw [HZ.out,h1];rfl),rfl⟩
end

section
open Go.RowKit
def wordOkB (up:Bool) (zs:List Int):Bool:=if up=true then upOk zs else lowOk zs
def ltB (xs ys:List Int):Bool:=Op.bytesLess (strOfNums xs).toList (strOfNums ys).toList
def nameAt (up:Bool) (l:List (List Int)) (i:Nat):Bool:=wordOkB up (l.getD i []) && (decide (i=0) || ltB (l.getD (i - 1) []) (l.getD i []))
def namesB (up:Bool) (l:List (List Int)):Bool:=(List.range l.length).all (nameAt up l)
theorem range_all_succ (p:Nat→Bool) (k:Nat):(List.range (k+1)).all p=((List.range k).all p && p k):=by
 rw [List.range_succ,List.all_append];simp
theorem range_all_false {p:Nat→Bool} {n k:Nat} (hk:k<n) (h:p k=false):(List.range n).all p=false:=by
 rw [List.all_eq_false];exact ⟨k,List.mem_range.2 hk,by simp [h]⟩
def flagsB (l:List (List Bool)) (m:Int):Bool:=(List.range l.length).all (fun i=>decide (((l.getD i []).length:Int)=m))
def atB (l:List Int) (n:Int):Bool:=(List.range l.length).all (fun i=>decide (0≤l.getD i 0∧l.getD i 0<n))
def worldB (x:WD):Bool :=
 (decide (1≤x.n∧x.n≤128) && (decide (x.names.length≤12) && (decide (x.roles.length≤6) && (decide (x.inds.length≤6) && (decide (x.sets.length=x.names.length) && (decide (x.rels.length=x.roles.length) && decide (x.at'.length=x.inds.length))))))) &&
 ((namesB true x.names && (namesB false x.roles && namesB false x.inds)) && (flagsB x.sets x.n && (flagsB x.rels (x.n*x.n) && atB x.at' x.n)))
set_option maxRecDepth 100000 in
set_option maxHeartbeats 8000000 in
theorem l4names_any (a:Option Addr) (n G:Nat) (xs:List (List Int)) (up:Bool) (w:World) {lo hi:Nat} (h:RSS lo hi w a n G xs) :
    Calls Tryz.prog 40 #[.slice a n G,.bool up] w fun e w'=>e=.returned (.bool (namesB up xs))∧∃ nd,w'=w.drewN nd:=by
 have HR:Hid (RSS lo hi w a n G xs):=h;have HL:Hid (xs.length=n):=h.len;have hf:=h.fits;clear h;go_enter Tryz.func40, Tryz.ntmps40;go_wp2_with fail;go_loopw [5] (fun i wr=>∃ k:Nat,k≤n∧i=.int .i64 k∧(List.range k).all (nameAt up xs)=true∧∃ nd,wr=w.drewN nd) (fun i _=>n - (intOf i).toNat)
 case atStart=>exact ⟨0,Nat.zero_le _,rfl,by simp,0,rfl⟩
 case round =>
  obtain ⟨k,hk,rfl,E,nd,J⟩:=hrel;have HD:Hid (wr=w.drewN nd):=J;have Z:Hid (RSS lo hi wr a n G xs):=by unfold Hid;rw [J];exact HR.out.same (fun _ _ _=>rfl)
  clear J;have F:Hid ((List.range k).all (nameAt up xs)=true):=E;clear E;by_cases hlt:k<n
  · rcases Z.out.cells with hz | ⟨b,off,e1,_,_,hc⟩
    · omega
    subst e1;obtain ⟨v,c0,ea,en,ec,rfl,hr⟩:=hc k hlt;have HE:Hid (Rd lo hi wr ea en ec (xs.getD k [])):=hr;have a1:(k:Int)<(n:Int):=by omega
    have y:Hid (nameAt up xs k=(wordOkB up (xs.getD k []) && (decide (k=0) || ltB (xs.getD (k - 1) []) (xs.getD k [])))):=rfl;have H:Hid (nameAt up xs k=true→(List.range (k+1)).all (nameAt up xs)=true):=fun h1=>by rw [range_all_succ,F.out,h1];rfl
    have D:Hid (nameAt up xs k=false→namesB up xs=false):=fun h1=>range_all_false (by rw [HL.out];exact hlt) h1
    obtain ⟨ok,R⟩:∃ ok,ok=wordOkB up (xs.getD k []):=⟨_,rfl⟩;have q:Hid (ok=wordOkB up (xs.getD k [])):=R;by_cases hk0:k=0
    · have Y:decide (0<k)=false:=by simp;omega
      have X:Hid (k=0):=hk0;clear hc hr R hk0;cases up with
      | true =>
       have HU:Hid (∀ W:World,(∀ b,W.heap[b]?=wr.heap[b]?)→Calls Tryz.prog 84 #[.slice ea en ec] W fun e w'=>e=.returned (.bool ok)∧w'=W):=fun W hW=>by
        have:=specUpperOk_any ea en ec (xs.getD k []) W (HE.out.same (fun b _ _=>hW b));rw [q.out];exact this
       cases ok with
       | true =>
        have HG:Hid (nameAt true xs k=true):=by rw [Hid,y.out,← q.out,decide_eq_true X.out];rfl
        go_wp2_with fail;go_quiet (first | (go_at_call 84;exact Calls.quiet_of_same (HU.out _ (fun _=>rfl))));go_wp2_with fail;go_roundw
        case rel=>exact ⟨k+1,by omega,by go_num,H.out HG.out,nd+nq,by rw [HD.out];first | rfl | exact drew_add _ _ _⟩
        case measure=>simp [intOf];omega
       | false =>
        have HG:Hid (namesB true xs=false):=D.out (by rw [y.out,← q.out];rfl);go_wp2_with fail;go_quiet (first | (go_at_call 84;exact Calls.quiet_of_same (HU.out _ (fun _=>rfl))));go_wp2_with fail;go_ret;exact ⟨rb HG.out.symm,nd+nq,by rw [HD.out];first | rfl | exact drew_add _ _ _⟩
      | false =>
       have HU:Hid (∀ W:World,(∀ b,W.heap[b]?=wr.heap[b]?)→Calls Tryz.prog 18 #[.slice ea en ec] W fun e w'=>e=.returned (.bool ok)∧w'=W):=fun W hW=>by
        have:=specLowerOk_any ea en ec (xs.getD k []) W (HE.out.same (fun b _ _=>hW b));rw [q.out];exact this
       cases ok with
       | true =>
        have HG:Hid (nameAt false xs k=true):=by rw [Hid,y.out,← q.out,decide_eq_true X.out];rfl
        go_wp2_with fail;go_quiet (first | (go_at_call 18;exact Calls.quiet_of_same (HU.out _ (fun _=>rfl))));go_wp2_with fail;go_roundw
        case rel=>exact ⟨k+1,by omega,by go_num,H.out HG.out,nd+nq,by rw [HD.out];first | rfl | exact drew_add _ _ _⟩
        case measure=>simp [intOf];omega
       | false =>
        have HG:Hid (namesB false xs=false):=D.out (by rw [y.out,← q.out];rfl);go_wp2_with fail;go_quiet (first | (go_at_call 18;exact Calls.quiet_of_same (HU.out _ (fun _=>rfl))));go_wp2_with fail;go_ret;exact ⟨rb HG.out.symm,nd+nq,by rw [HD.out];first | rfl | exact drew_add _ _ _⟩
    obtain ⟨j,HJ⟩:∃ j,Hid (k=j+1):=⟨k - 1,by unfold Hid;omega⟩;obtain ⟨v',c1,pa,pn,pc,rfl,V⟩:=hc j (by have:=HJ.out;omega);have a0:Hid (Rd lo hi wr pa pn pc (xs.getD j [])):=V;have Y:decide (0<k)=true:=by simp;omega
    have a4:0<k:=by omega
    have a3:(k:Int) - 1=(j:Int):=by have:=HJ.out;omega
    have a2:(j:Int)<(n:Int):=by have:=HJ.out;omega
    have U:∀ m,(convert 22 9 (.slice ea en ec)).run Tryz.prog (wr.drewN m)=.ok (.string (strOfNums (xs.getD k []))) (wr.drewN m):=fun m=>conv_any (HE.out.same (fun _ _ _=>rfl))
    have T:∀ m,(convert 22 9 (.slice pa pn pc)).run Tryz.prog (wr.drewN m)=.ok (.string (strOfNums (xs.getD j []))) (wr.drewN m):=fun m=>conv_any (a0.out.same (fun _ _ _=>rfl))
    obtain ⟨lt,A⟩:∃ lt,lt=ltB (xs.getD j []) (xs.getD k []):=⟨_,rfl⟩;have I:Hid (lt=ltB (xs.getD j []) (xs.getD k [])):=A;obtain ⟨sx,O⟩:∃ s,s=strOfNums (xs.getD j []):=⟨_,rfl⟩;obtain ⟨sy,N⟩:∃ s,s=strOfNums (xs.getD k []):=⟨_,rfl⟩;have a5:Op.bytesLess sx.toList sy.toList=lt:=by rw [O,N,A];rfl
    rw [← N] at U;rw [← O] at T;clear hc hr V R A O N hk0;cases up with
    | true =>
     have HU:Hid (∀ W:World,(∀ b,W.heap[b]?=wr.heap[b]?)→Calls Tryz.prog 84 #[.slice ea en ec] W fun e w'=>e=.returned (.bool ok)∧w'=W):=fun W hW=>by
      have:=specUpperOk_any ea en ec (xs.getD k []) W (HE.out.same (fun b _ _=>hW b));rw [q.out];exact this
     cases ok with
     | false =>
      have HG:Hid (namesB true xs=false):=D.out (by rw [y.out,← q.out];rfl);go_wp2_with fail;go_quiet (first | (go_at_call 84;exact Calls.quiet_of_same (HU.out _ (fun _=>rfl))));go_wp2_with fail;go_ret;exact ⟨rb HG.out.symm,nd+nq,by rw [HD.out];first | rfl | exact drew_add _ _ _⟩
     | true =>
      cases lt with
      | true =>
       have HG:Hid (nameAt true xs k=true):=by rw [Hid,y.out,← q.out,show k - 1=j from by have:=HJ.out;omega,← I.out];simp
       go_wp2_with fail;go_quiet (first | (go_at_call 84;exact Calls.quiet_of_same (HU.out _ (fun _=>rfl))));go_wp2_with fail;go_roundw
       case rel=>exact ⟨k+1,by omega,by go_num,H.out HG.out,nd+nq,by rw [HD.out];first | rfl | exact drew_add _ _ _⟩
       case measure=>simp [intOf];omega
      | false =>
       have HG:Hid (namesB true xs=false):=D.out (by rw [y.out,← q.out,show k - 1=j from by have:=HJ.out;omega,← I.out];simp;have:=HJ.out;omega);go_wp2_with fail;go_quiet (first | (go_at_call 84;exact Calls.quiet_of_same (HU.out _ (fun _=>rfl))));go_wp2_with fail;go_ret;exact ⟨rb HG.out.symm,nd+nq,by rw [HD.out];first | rfl | exact drew_add _ _ _⟩
    | false =>
     have HU:Hid (∀ W:World,(∀ b,W.heap[b]?=wr.heap[b]?)→Calls Tryz.prog 18 #[.slice ea en ec] W fun e w'=>e=.returned (.bool ok)∧w'=W):=fun W hW=>by
      have:=specLowerOk_any ea en ec (xs.getD k []) W (HE.out.same (fun b _ _=>hW b));rw [q.out];exact this
     cases ok with
     | false =>
      have HG:Hid (namesB false xs=false):=D.out (by rw [y.out,← q.out];rfl);go_wp2_with fail;go_quiet (first | (go_at_call 18;exact Calls.quiet_of_same (HU.out _ (fun _=>rfl))));go_wp2_with fail;go_ret;exact ⟨rb HG.out.symm,nd+nq,by rw [HD.out];first | rfl | exact drew_add _ _ _⟩
     | true =>
      cases lt with
      | true =>
       have HG:Hid (nameAt false xs k=true):=by rw [Hid,y.out,← q.out,show k - 1=j from by have:=HJ.out;omega,← I.out];simp
       go_wp2_with fail;go_quiet (first | (go_at_call 18;exact Calls.quiet_of_same (HU.out _ (fun _=>rfl))));go_wp2_with fail;go_roundw
       case rel=>exact ⟨k+1,by omega,by go_num,H.out HG.out,nd+nq,by rw [HD.out];first | rfl | exact drew_add _ _ _⟩
       case measure=>simp [intOf];omega
      | false =>
       have HG:Hid (namesB false xs=false):=D.out (by rw [y.out,← q.out,show k - 1=j from by have:=HJ.out;omega,← I.out];simp;have:=HJ.out;omega);go_wp2_with fail;go_quiet (first | (go_at_call 18;exact Calls.quiet_of_same (HU.out _ (fun _=>rfl))));go_wp2_with fail;go_ret;exact ⟨rb HG.out.symm,nd+nq,by rw [HD.out];first | rfl | exact drew_add _ _ _⟩
  have HG:Hid (namesB up xs=true):=by rw [Hid,namesB,HL.out,show n=k by omega];exact F.out
  go_wp2_with fail;go_ret;exact ⟨rb HG.out.symm,nd,HD.out⟩
end

section
open Go.RowKit
def keptWords:List (List UInt8):=[[84,111,112],[66,111,116],[78,111,116],[65,110,100],[79,114],[83,111,109,101],[65,108,108],[83,117,98],[69,113],[68,105,115],[82,111,108,101],[73,115],[82,101,108]]
def keptB (l:List UInt8):Bool:=(l == [84,111,112]) || ((l == [66,111,116]) || ((l == [78,111,116]) || ((l == [65,110,100]) || ((l == [79,114]) || ((l == [83,111,109,101]) || ((l == [65,108,108]) || ((l == [83,117,98]) || ((l == [69,113]) || ((l == [68,105,115]) || ((l == [82,111,108,101]) || ((l == [73,115]) || (l == [82,101,108]))))))))))))
set_option maxRecDepth 100000 in
set_option maxHeartbeats 1000000 in
theorem implKept_any (a:Option Addr) (n A:Nat) (zs:List Int) (w:World) {lo hi:Nat} (h:Rd lo hi w a n A zs) :
    Calls Tryz.prog 142 #[.slice a n A] w fun e w'=>e=.returned (.bool (keptB (strOfNums zs).toList))∧w'=w:=by
 have E:=conv_any h;obtain ⟨s,hs⟩:∃ s,s=strOfNums zs:=⟨_,rfl⟩;rw [← hs] at E ⊢;clear hs h;go_enter Tryz.func142, Tryz.ntmps142;go_wp2
 all_goals
  go_ret;refine ⟨rb ?_,rfl⟩;clear E
  first | (simp only [keptB, *,Bool.true_or,Bool.false_or];done) | (exfalso;simp_all;done)
theorem keptB_eq (l:List UInt8):keptB l=keptWords.any (fun x=>x == l):=by
 simp only [keptB,keptWords,List.any_cons,List.any_nil,Bool.or_false,Bool.beq_comm (a:=l)]
def wordVal (j:Nat):Value:=.string ⟨(keptWords.getD j []).toArray⟩
theorem toList_mk (l:List UInt8):(ByteArray.mk l.toArray).toList=l:=by
 rw [ByteArray.toList_eq]
theorem any_take_succ (k:Nat) (hk:k<13) (l:List UInt8):(keptWords.take (k+1)).any (fun x=>x == l)=((keptWords.take k).any (fun x=>x == l) || (keptWords.getD k [] == l)):=by
 have:k<keptWords.length:=by simp [keptWords];omega
 rw [List.take_succ_eq_append_getElem this,List.any_append];simp [List.getD,this]
theorem any_true_of (k:Nat) (hk:k<13) (l:List UInt8) (h:(keptWords.getD k [] == l)=true):keptB l=true:=by
 have F:k<keptWords.length:=by simp [keptWords];omega
 rw [keptB_eq,List.any_eq_true];exact ⟨keptWords[k],List.getElem_mem F,by simpa [List.getD,F] using h⟩
set_option maxRecDepth 100000 in
set_option maxHeartbeats 1000000 in
theorem specKept_any (a:Option Addr) (n A:Nat) (zs:List Int) (w:World) {lo hi:Nat} (h:Rd lo hi w a n A zs) (I:hi≤w.heap.size) :
    Calls Tryz.prog 85 #[.slice a n A] w fun e w'=>e=.returned (.bool (keptB (strOfNums zs).toList))∧Below w.heap.size w w':=by
 have H:Hid (Rd lo hi w a n A zs):=h;clear h;obtain ⟨s,HS⟩:∃ s,Hid (s=strOfNums zs):=⟨_,rfl⟩;rw [← HS.out];go_enter Tryz.func85, Tryz.ntmps85;go_wp2;go_loopw [4] (fun i wr=>∃ k:Nat,k≤13∧i=.int .i64 k∧wr.rowIs w.heap.size 9 13 wordVal∧Below w.heap.size w wr∧(keptWords.take k).any (fun x=>x == s.toList)=false) (fun i _=>13 - (intOf i).toNat)
 case atStart =>
  refine ⟨0,Nat.zero_le _,rfl,?_,(Below.refl _ _).alloc (Nat.le_refl _) _,by simp⟩;refine World.rowIs_alloc w _ 9 wordVal (fun i hi=>?_);simp at hi
  match i,hi with
  | 0,_ | 1,_ | 2,_ | 3,_ | 4,_ | 5,_ | 6,_ | 7,_ | 8,_ | 9,_ | 10,_ | 11,_ | 12,_=>rfl
 case round =>
  obtain ⟨k,hk,rfl,y,q,D⟩:=hrel;have HN:Hid ((keptWords.take k).any (fun x=>x == s.toList)=false):=D;clear D;by_cases hlt:k<13
  · have J:(k:Int)<13:=by omega
    obtain ⟨t,HT⟩:∃ t,Hid (t=ByteArray.mk (keptWords.getD k []).toArray):=⟨_,rfl⟩;have G:wr.cell? ⟨w.heap.size,k,none⟩=some (.string t):=by rw [HT.out];exact y.cell hlt
    have E:∀ m,(convert 22 9 (.slice a n A)).run Tryz.prog (wr.drewN m)=.ok (.string s) (wr.drewN m):=by
     intro m;rw [HS.out];exact conv_any (H.out.below (below_drewN q m) I)
    have HR:Hid (wr.rowIs w.heap.size 9 13 wordVal):=y;have HB:Hid (Below w.heap.size w wr):=q;clear y q;cases hb:(t.toList == s.toList)
    · have HF:Hid ((keptWords.take (k+1)).any (fun x=>x == s.toList)=false):=by
       unfold Hid;rw [any_take_succ k hlt,HN.out,Bool.false_or];rw [HT.out,toList_mk] at hb;exact hb
      go_wp2;go_quiet (fail);go_wp2;go_roundw
      case rel=>exact ⟨k+1,by omega,by go_num,World.rowIs.of_block HR.out rfl,below_drewN HB.out _,HF.out⟩
      case measure=>simp [intOf];omega
    have HF:Hid (keptB s.toList=true):=any_true_of k hlt _ (by rw [HT.out,toList_mk] at hb;exact hb);go_wp2;go_quiet (fail);go_wp2;go_ret;exact ⟨rb HF.out.symm,below_drewN HB.out _⟩
  have HF:Hid (keptB s.toList=false):=by
   have e:keptWords.take k=keptWords:=List.take_of_length_le (by simp [keptWords];omega);unfold Hid;rw [keptB_eq,← e];exact HN.out
  have HB:Hid (Below w.heap.size w wr):=q;clear y q;go_wp2;go_ret;exact ⟨rb HF.out.symm,HB.out⟩
end

section
open Go.RowKit
def kidN (k:Int):Int:=if k=0∨k=1∨k=2 then 0 else if k=3∨k=6∨k=7 then 1 else if k=4∨k=5 then 2 else -1
def roleB (k:Int):Bool:=decide (k=6) || decide (k=7)
def nameFit (c:CN):Bool:=if c.kind=2 then (upOk c.name && !keptB (strOfNums c.name).toList) else decide (c.name.length=0)
def roleFit (c:CN):Bool:=if roleB c.kind=true then lowOk c.role else decide (c.role.length=0)
def shapeB (c:CN):Bool:=nameFit c && (roleFit c && decide ((c.kids.length:Int)=kidN c.kind))
mutual
def parts:CN→Nat→List (Nat × CN)
 | .mk k n r ks,deep=>(deep,.mk k n r ks) :: partsL ks (deep+1)
def partsL:List CN→Nat→List (Nat × CN)
 | [],_=>[]
 | c :: cs,deep=>parts c deep++partsL cs deep
end
theorem parts_eq (c:CN) (deep:Nat):parts c deep=(deep,c) :: partsL c.kids (deep+1):=by
 cases c;rw [parts];rfl
theorem partsL_append (xs ys:List CN) (deep:Nat):partsL (xs++ys) deep=partsL xs deep++partsL ys deep:=by
 induction xs with
 | nil=>simp [partsL]
 | cons x xs ih=>simp only [List.cons_append,partsL,ih,List.append_assoc]
theorem partsL_take_succ (cs:List CN) (k deep:Nat) (h:k<cs.length):partsL (cs.take (k+1)) deep=partsL (cs.take k) deep++parts (cs.getD k CN.zero) deep:=by
 rw [take_succ_getD cs CN.zero k h,partsL_append];simp only [partsL,List.append_nil]
theorem partsL_take_drop (cs:List CN) (k deep:Nat):partsL cs deep=partsL (cs.take k) deep++partsL (cs.drop k) deep:=by
 rw [← partsL_append,List.take_append_drop]
def okOne (x:Nat × CN):Bool:=decide (x.1≤6) && shapeB x.2
def conOk (c:CN):Bool:=decide ((parts c 1).length≤16) && (parts c 1).all okOne
def leftOf (left:Int) (L:List (Nat × CN)):Int:=if (L.length:Int)≤left∧L.all okOne=true then left - L.length else -1
theorem leftOf_pos {left:Int} {L:List (Nat × CN)} (h:(L.length:Int)≤left) (k:L.all okOne=true):leftOf left L=left - L.length:=if_pos ⟨h,k⟩
theorem leftOf_neg {left:Int} {L:List (Nat × CN)} (h:¬ ((L.length:Int)≤left∧L.all okOne=true)):leftOf left L=-1:=if_neg h
theorem leftOf_append {left:Int} (L M:List (Nat × CN)):leftOf left (L++M)=if leftOf left L<0 then -1 else leftOf (leftOf left L) M:=by
 by_cases h1:(L.length:Int)≤left∧L.all okOne=true
 · rw [leftOf_pos h1.1 h1.2,if_neg (by omega)];by_cases h2:(M.length:Int)≤left - L.length∧M.all okOne=true
   · rw [leftOf_pos h2.1 h2.2,leftOf_pos (by rw [List.length_append];omega) (by rw [List.all_append,h1.2,h2.2];rfl),List.length_append];omega
   rw [leftOf_neg h2,leftOf_neg];rintro ⟨h3,h4⟩;rw [List.length_append] at h3;rw [List.all_append,Bool.and_eq_true] at h4;exact h2 ⟨by omega,h4.2⟩
 rw [leftOf_neg h1,if_pos (by omega),leftOf_neg];rintro ⟨h3,h4⟩;rw [List.length_append] at h3;rw [List.all_append,Bool.and_eq_true] at h4;exact h1 ⟨by omega,h4.1⟩
theorem leftOf_le {left:Int} (h:0≤left) (L:List (Nat × CN)):leftOf left L≤left:=by
 unfold leftOf;split <;> omega
theorem leftOf_nil (left:Int) (h:0≤left):leftOf left []=left:=by simp [leftOf,h]
theorem leftOf_bad (c:CN) (deep:Nat) (left:Int) (h:left - 1<0∨6<deep∨shapeB c=false):leftOf left (parts c deep)=-1:=by
 rw [parts_eq];unfold leftOf;rw [if_neg];rintro ⟨h1,h2⟩;simp only [List.length_cons,List.all_cons,okOne,Bool.and_eq_true,decide_eq_true_eq] at h1 h2;rcases h with h | h | h
 · omega
 · omega
 rw [h2.1.2] at h;cases h
theorem leftOf_good (c:CN) (deep:Nat) (left:Int) (h1:0≤left - 1) (h2:deep≤6) (h3:shapeB c=true):leftOf left (parts c deep)=leftOf (left - 1) (partsL c.kids (deep+1)):=by
 rw [parts_eq,show ((deep,c) :: partsL c.kids (deep+1))=[(deep,c)]++partsL c.kids (deep+1) from rfl,leftOf_append]
 have e:leftOf left [(deep,c)]=left - 1:=by
  unfold leftOf;rw [if_pos ⟨by simp;omega,by simp [okOne,h2,h3]⟩];simp
 rw [e,if_neg (by omega)]
theorem conOk_left (c:CN):conOk c=decide (0≤leftOf 16 (parts c 1)):=by
 unfold conOk leftOf;by_cases h1:(parts c 1).length≤16
 · by_cases h2:(parts c 1).all okOne=true
   · rw [if_pos ⟨by omega,h2⟩,h2];simp;omega
   rw [if_neg (fun h=>h2 h.2)];simp at h2 ⊢;intro _;exact h2
 rw [if_neg (by omega)];simp [h1]
end

section
open Go.RowKit
def kidS (k:Int):Int:=if k=0∨k=1∨k=2 then 0 else if k=4∨k=5 then 2 else 1
set_option maxHeartbeats 400000 in
theorem l2kids_any (k:Int) (w:World):Calls Tryz.prog 83 #[.int .i64 k] w fun e w'=>e=.returned (.int .i64 (kidS k))∧w'=w:=by
 go_enter Tryz.func83, Tryz.ntmps83;go_wp2
 all_goals
  go_ret;refine ⟨ri ?_,rfl⟩
  first | (simp_all [kidS];done) | (unfold kidS;simp_all;omega)
theorem kidS_kidN {k:Int} (h0:0≤k) (h7:k≤7):kidS k=kidN k:=by
 unfold kidS kidN;by_cases h1:k=0∨k=1∨k=2
 · rw [if_pos h1,if_pos h1]
 rw [if_neg h1,if_neg h1];by_cases h2:k=4∨k=5
 · rw [if_pos h2,if_neg (by omega),if_pos h2]
 rw [if_neg h2,if_pos (by omega)]
theorem kidN_out {k:Int} (h:k<0∨7<k):kidN k=-1:=by
 unfold kidN;rw [if_neg (by omega),if_neg (by omega),if_neg (by omega)]
def BoxC (W:World) (b:Nat) (v0 v1 v2 v3:Value):Prop:=W.heap[b]?=some (.cells #[v0,v1,v2,v3] 30 (0,0))
theorem BoxC.new (W:World) (v0 v1 v2 v3:Value):BoxC (W.alloc (.cells #[v0,v1,v2,v3] 30)) W.heap.size v0 v1 v2 v3:=World.alloc_heap_new W _
theorem BoxC.below {W W':World} {b B:Nat} {v0 v1 v2 v3:Value} (h:BoxC W b v0 v1 v2 v3) (hb:Below B W W') (hB:b<B):BoxC W' b v0 v1 v2 v3:=(hb.block b hB).trans h
theorem BoxC.lt {W:World} {b:Nat} {v0 v1 v2 v3:Value} (h:BoxC W b v0 v1 v2 v3):b<W.heap.size:=(Array.getElem?_eq_some_iff.1 h).1
theorem BoxC.cells {W:World} {b:Nat} {v0 v1 v2 v3:Value} (h:BoxC W b v0 v1 v2 v3):W.cell? ⟨b,0,none⟩=some v0∧W.cell? ⟨b,1,none⟩=some v1∧W.cell? ⟨b,2,none⟩=some v2∧W.cell? ⟨b,3,none⟩=some v3:=by
 unfold BoxC at h;refine ⟨?_,?_,?_,?_⟩ <;> simp [World.cell?,h]
def OkC (d:Nat):Prop:=∀ (v:Value) (c:CN) (deep:Nat) (left:Int) (w:World) (lo hi:Nat),RdC lo hi w d v c→hi≤w.heap.size→deep≤7→0≤left→left≤16 →
 Calls Tryz.prog 34 #[v,.int .i64 deep,.int .i64 left] w fun e w'=>e=.returned (.int .i64 (leftOf left (parts c deep)))∧Below w.heap.size w w'
set_option maxRecDepth 100000 in
set_option maxHeartbeats 1000000 in
theorem l2ok_bad {v:Value} {c:CN} {d deep:Nat} {left:Int} {w:World} {lo hi:Nat} (h:RdC lo hi w (d+1) v c) (D:deep≤7) (h0:0≤left) (F:left≤16)
    (q:left=0∨deep=7∨c.kind<0∨7<c.kind∨((c.kids.length:Nat):Int)≠kidS c.kind) :
    Calls Tryz.prog 34 #[v,.int .i64 deep,.int .i64 left] w fun e w'=>e=.returned (.int .i64 (leftOf left (parts c deep)))∧Below w.heap.size w w':=by
 obtain ⟨na,nn,nc,ra,rn,rc,ka,kn,kc,rfl,hn,hr,hk⟩:=h;have y:=hk.len
 have hE:leftOf left (parts c deep)=-1:=by
  refine leftOf_bad c deep left ?_;rcases q with h | h | h | h | h
  · exact .inl (by omega)
  · exact .inr (.inl (by omega))
  · exact .inr (.inr (by simp [shapeB,kidN_out (.inl h)];done))
  · exact .inr (.inr (by simp [shapeB,kidN_out (.inr h)];done))
  by_cases ho:c.kind<0∨7<c.kind
  · exact .inr (.inr (by simp [shapeB,kidN_out ho];done))
  rw [kidS_kidN (by omega) (by omega)] at h;exact .inr (.inr (by simp [shapeB,h]))
 have HE:Hid (leftOf left (parts c deep)=-1):=hE;have HB:Hid (∀ n,Below w.heap.size w ((w.alloc (.cells #[.int .i64 c.kind,.slice na nn nc,.slice ra rn rc,.slice ka kn kc] 30)).drewN n)):=fun n=>below_drewN ((Below.refl _ _).alloc (Nat.le_refl _) _) n
 obtain ⟨k,A⟩:∃ k,k=c.kind:=⟨_,rfl⟩;rw [← A] at q HB ⊢;rw [y] at q;have E:(deep:Int)≤7:=by omega
 clear hn hr hk hE A y;go_enter Tryz.func34, Tryz.ntmps34;go_wp2_with fail;by_cases b1:left=0
 · subst b1;go_quiet (fail);go_wp2_with fail;go_ret;exact ⟨ri HE.out.symm,HB.out _⟩
 have d1:decide (left - 1<0)=false:=by simp;omega
 by_cases b2:deep=7
 · subst b2;go_quiet (fail);go_wp2_with fail;go_ret;exact ⟨ri HE.out.symm,HB.out _⟩
 have d2:decide ((6:Int)<(deep:Int))=false:=by simp;omega
 by_cases b3:k<0
 · go_quiet (fail);go_wp2_with fail;go_ret;exact ⟨ri HE.out.symm,HB.out _⟩
 have d3:decide (k<0)=false:=by simp;omega
 by_cases b4:7<k
 · go_quiet (fail);go_wp2_with fail;go_ret;exact ⟨ri HE.out.symm,HB.out _⟩
 have d4:decide (7<k)=false:=by simp;omega
 have b5:((kn:Int) != kidS k)=true:=by simp;omega
 clear q;go_quiet (first | (go_at_call 83;exact Calls.quiet_of_same (l2kids_any _ _)));go_wp2_with fail;go_ret;exact ⟨ri HE.out.symm,HB.out _⟩
end

end Go.Proofs.YtnmljalcndfjmaaGreat
