/- Several texts in one: WdNames, ClsS1. -/
import Derived.Test.YtellcgmabimieaaGreatDoorWdLaw3
import Derived.Test.YtellcgmabimieaaGreatDoorNG4
import Derived.Test.YtellcgmabimieaaGreatDoorNG2
import Derived.Test.YtellcgmabimieaaGreatDoorNG3
import Derived.Deep.QuietTactic
import Derived.BigQuiet
import Derived.Test.YtellcgmabimieaaGreatDoorNG5
import Derived.Test.YtellcgmabimieaaGreatDoorNG12
import Derived.Deep.RegionWith
namespace Go.Proofs.YtellcgmabimieaaGreatDoor

section
open Go.RowKit
def wordOkB (up:Bool) (zs:List Int):Bool:=if up=true then upOk zs else lowOk zs
def ltB (xs ys:List Int):Bool:=Op.bytesLess (strOfNums xs).toList (strOfNums ys).toList
def nameAt (up:Bool) (l:List (List Int)) (i:Nat):Bool:=wordOkB up (l.getD i []) && (decide (i=0) || ltB (l.getD (i - 1) []) (l.getD i []))
def namesB (up:Bool) (l:List (List Int)):Bool:=(List.range l.length).all (nameAt up l)
theorem range_all_succ (p:Nat→Bool) (k:Nat):(List.range (k+1)).all p=((List.range k).all p && p k):=by
 rw [List.range_succ,List.all_append];simp
theorem range_all_false {p:Nat→Bool} {n k:Nat} (hk:k<n) (h:p k=false):(List.range n).all p=false:=by
 rw [List.all_eq_false];exact ⟨k,List.mem_range.2 hk,by simp [h]⟩
def flagsB (l:List (List Bool)) (m:Int):Bool:=(List.range l.length).all (fun i=>decide (((l.getD i []).length:Int)=m))
def atB (l:List Int) (n:Int):Bool:=(List.range l.length).all (fun i=>decide (0≤l.getD i 0∧l.getD i 0<n))
def worldB (x:WD):Bool :=
 (decide (1≤x.n∧x.n≤128) && (decide (x.names.length≤12) && (decide (x.roles.length≤6) && (decide (x.inds.length≤6) && (decide (x.sets.length=x.names.length) && (decide (x.rels.length=x.roles.length) && decide (x.at'.length=x.inds.length))))))) &&
 ((namesB true x.names && (namesB false x.roles && namesB false x.inds)) && (flagsB x.sets x.n && (flagsB x.rels (x.n*x.n) && atB x.at' x.n)))
set_option maxRecDepth 100000 in
set_option maxHeartbeats 8000000 in
theorem l4names_any (a:Option Addr) (n E:Nat) (xs:List (List Int)) (up:Bool) (w:World) {lo hi:Nat} (h:RSS lo hi w a n E xs) :
    Calls Tryz.prog 54 #[.slice a n E,.bool up] w fun e w'=>e=.returned (.bool (namesB up xs))∧∃ nd,w'=w.drewN nd:=by
 have HR:Hid (RSS lo hi w a n E xs):=h;have HL:Hid (xs.length=n):=h.len;have hf:=h.fits;clear h;go_enter Tryz.func54, Tryz.ntmps54;go_wp2_with fail;go_loopw [5] (fun i wr=>∃ k:Nat,k≤n∧i=.int .i64 k∧(List.range k).all (nameAt up xs)=true∧∃ nd,wr=w.drewN nd) (fun i _=>n - (intOf i).toNat)
 case atStart=>exact ⟨0,Nat.zero_le _,rfl,by simp,0,rfl⟩
 case round =>
  obtain ⟨k,hk,rfl,A,nd,I⟩:=hrel;have HD:Hid (wr=w.drewN nd):=I;have V:Hid (RSS lo hi wr a n E xs):=by unfold Hid;rw [I];exact HR.out.same (fun _ _ _=>rfl)
  clear I;have D:Hid ((List.range k).all (nameAt up xs)=true):=A;clear A;by_cases hlt:k<n
  · rcases V.out.cells with hz | ⟨b,Z,e1,_,_,hc⟩
    · omega
    subst e1;obtain ⟨v,c0,ea,en,ec,rfl,hr⟩:=hc k hlt;have HE:Hid (Rd lo hi wr ea en ec (xs.getD k [])):=hr;have a0:(k:Int)<(n:Int):=by omega
    have q:Hid (nameAt up xs k=(wordOkB up (xs.getD k []) && (decide (k=0) || ltB (xs.getD (k - 1) []) (xs.getD k [])))):=rfl;have F:Hid (nameAt up xs k=true→(List.range (k+1)).all (nameAt up xs)=true):=fun h1=>by rw [range_all_succ,D.out,h1];rfl
    have z:Hid (nameAt up xs k=false→namesB up xs=false):=fun h1=>range_all_false (by rw [HL.out];exact hlt) h1
    obtain ⟨ok,M⟩:∃ ok,ok=wordOkB up (xs.getD k []):=⟨_,rfl⟩;have o:Hid (ok=wordOkB up (xs.getD k [])):=M;by_cases hk0:k=0
    · have U:decide (0<k)=false:=by simp;omega
      have T:Hid (k=0):=hk0;clear hc hr M hk0;cases up with
      | true =>
       have HU:Hid (∀ W:World,(∀ b,W.heap[b]?=wr.heap[b]?)→Calls Tryz.prog 85 #[.slice ea en ec] W fun e w'=>e=.returned (.bool ok)∧w'=W):=fun W hW=>by
        have:=specUpperOk_any ea en ec (xs.getD k []) W (HE.out.same (fun b _ _=>hW b));rw [o.out];exact this
       cases ok with
       | true =>
        have HG:Hid (nameAt true xs k=true):=by rw [Hid,q.out,← o.out,decide_eq_true T.out];rfl
        go_wp2_with fail;go_quiet (first | (go_at_call 85;exact Calls.quiet_of_same (HU.out _ (fun _=>rfl))));go_wp2_with fail;go_roundw
        case rel=>exact ⟨k+1,by omega,by go_num,F.out HG.out,nd+nq,by rw [HD.out];first | rfl | exact drew_add _ _ _⟩
        case measure=>simp [intOf];omega
       | false =>
        have HG:Hid (namesB true xs=false):=z.out (by rw [q.out,← o.out];rfl);go_wp2_with fail;go_quiet (first | (go_at_call 85;exact Calls.quiet_of_same (HU.out _ (fun _=>rfl))));go_wp2_with fail;go_ret;exact ⟨rb HG.out.symm,nd+nq,by rw [HD.out];first | rfl | exact drew_add _ _ _⟩
      | false =>
       have HU:Hid (∀ W:World,(∀ b,W.heap[b]?=wr.heap[b]?)→Calls Tryz.prog 86 #[.slice ea en ec] W fun e w'=>e=.returned (.bool ok)∧w'=W):=fun W hW=>by
        have:=specLowerOk_any ea en ec (xs.getD k []) W (HE.out.same (fun b _ _=>hW b));rw [o.out];exact this
       cases ok with
       | true =>
        have HG:Hid (nameAt false xs k=true):=by rw [Hid,q.out,← o.out,decide_eq_true T.out];rfl
        go_wp2_with fail;go_quiet (first | (go_at_call 86;exact Calls.quiet_of_same (HU.out _ (fun _=>rfl))));go_wp2_with fail;go_roundw
        case rel=>exact ⟨k+1,by omega,by go_num,F.out HG.out,nd+nq,by rw [HD.out];first | rfl | exact drew_add _ _ _⟩
        case measure=>simp [intOf];omega
       | false =>
        have HG:Hid (namesB false xs=false):=z.out (by rw [q.out,← o.out];rfl);go_wp2_with fail;go_quiet (first | (go_at_call 86;exact Calls.quiet_of_same (HU.out _ (fun _=>rfl))));go_wp2_with fail;go_ret;exact ⟨rb HG.out.symm,nd+nq,by rw [HD.out];first | rfl | exact drew_add _ _ _⟩
    obtain ⟨j,HJ⟩:∃ j,Hid (k=j+1):=⟨k - 1,by unfold Hid;omega⟩;obtain ⟨v',c1,pa,pn,pc,rfl,R⟩:=hc j (by have:=HJ.out;omega);have Y:Hid (Rd lo hi wr pa pn pc (xs.getD j [])):=R;have U:decide (0<k)=true:=by simp;omega
    have a3:0<k:=by omega
    have a2:(k:Int) - 1=(j:Int):=by have:=HJ.out;omega
    have a1:(j:Int)<(n:Int):=by have:=HJ.out;omega
    have O:∀ m,(convert 89 9 (.slice ea en ec)).run Tryz.prog (wr.drewN m)=.ok (.string (strOfNums (xs.getD k []))) (wr.drewN m):=fun m=>conv_any (HE.out.same (fun _ _ _=>rfl))
    have N:∀ m,(convert 89 9 (.slice pa pn pc)).run Tryz.prog (wr.drewN m)=.ok (.string (strOfNums (xs.getD j []))) (wr.drewN m):=fun m=>conv_any (Y.out.same (fun _ _ _=>rfl))
    obtain ⟨lt,u⟩:∃ lt,lt=ltB (xs.getD j []) (xs.getD k []):=⟨_,rfl⟩;have G:Hid (lt=ltB (xs.getD j []) (xs.getD k [])):=u;obtain ⟨sx,L⟩:∃ s,s=strOfNums (xs.getD j []):=⟨_,rfl⟩;obtain ⟨sy,J⟩:∃ s,s=strOfNums (xs.getD k []):=⟨_,rfl⟩;have a4:Op.bytesLess sx.toList sy.toList=lt:=by rw [L,J,u];rfl
    rw [← J] at O;rw [← L] at N;clear hc hr R M u L J hk0;cases up with
    | true =>
     have HU:Hid (∀ W:World,(∀ b,W.heap[b]?=wr.heap[b]?)→Calls Tryz.prog 85 #[.slice ea en ec] W fun e w'=>e=.returned (.bool ok)∧w'=W):=fun W hW=>by
      have:=specUpperOk_any ea en ec (xs.getD k []) W (HE.out.same (fun b _ _=>hW b));rw [o.out];exact this
     cases ok with
     | false =>
      have HG:Hid (namesB true xs=false):=z.out (by rw [q.out,← o.out];rfl);go_wp2_with fail;go_quiet (first | (go_at_call 85;exact Calls.quiet_of_same (HU.out _ (fun _=>rfl))));go_wp2_with fail;go_ret;exact ⟨rb HG.out.symm,nd+nq,by rw [HD.out];first | rfl | exact drew_add _ _ _⟩
     | true =>
      cases lt with
      | true =>
       have HG:Hid (nameAt true xs k=true):=by rw [Hid,q.out,← o.out,show k - 1=j from by have:=HJ.out;omega,← G.out];simp
       go_wp2_with fail;go_quiet (first | (go_at_call 85;exact Calls.quiet_of_same (HU.out _ (fun _=>rfl))));go_wp2_with fail;go_roundw
       case rel=>exact ⟨k+1,by omega,by go_num,F.out HG.out,nd+nq,by rw [HD.out];first | rfl | exact drew_add _ _ _⟩
       case measure=>simp [intOf];omega
      | false =>
       have HG:Hid (namesB true xs=false):=z.out (by rw [q.out,← o.out,show k - 1=j from by have:=HJ.out;omega,← G.out];simp;have:=HJ.out;omega);go_wp2_with fail;go_quiet (first | (go_at_call 85;exact Calls.quiet_of_same (HU.out _ (fun _=>rfl))));go_wp2_with fail;go_ret;exact ⟨rb HG.out.symm,nd+nq,by rw [HD.out];first | rfl | exact drew_add _ _ _⟩
    | false =>
     have HU:Hid (∀ W:World,(∀ b,W.heap[b]?=wr.heap[b]?)→Calls Tryz.prog 86 #[.slice ea en ec] W fun e w'=>e=.returned (.bool ok)∧w'=W):=fun W hW=>by
      have:=specLowerOk_any ea en ec (xs.getD k []) W (HE.out.same (fun b _ _=>hW b));rw [o.out];exact this
     cases ok with
     | false =>
      have HG:Hid (namesB false xs=false):=z.out (by rw [q.out,← o.out];rfl);go_wp2_with fail;go_quiet (first | (go_at_call 86;exact Calls.quiet_of_same (HU.out _ (fun _=>rfl))));go_wp2_with fail;go_ret;exact ⟨rb HG.out.symm,nd+nq,by rw [HD.out];first | rfl | exact drew_add _ _ _⟩
     | true =>
      cases lt with
      | true =>
       have HG:Hid (nameAt false xs k=true):=by rw [Hid,q.out,← o.out,show k - 1=j from by have:=HJ.out;omega,← G.out];simp
       go_wp2_with fail;go_quiet (first | (go_at_call 86;exact Calls.quiet_of_same (HU.out _ (fun _=>rfl))));go_wp2_with fail;go_roundw
       case rel=>exact ⟨k+1,by omega,by go_num,F.out HG.out,nd+nq,by rw [HD.out];first | rfl | exact drew_add _ _ _⟩
       case measure=>simp [intOf];omega
      | false =>
       have HG:Hid (namesB false xs=false):=z.out (by rw [q.out,← o.out,show k - 1=j from by have:=HJ.out;omega,← G.out];simp;have:=HJ.out;omega);go_wp2_with fail;go_quiet (first | (go_at_call 86;exact Calls.quiet_of_same (HU.out _ (fun _=>rfl))));go_wp2_with fail;go_ret;exact ⟨rb HG.out.symm,nd+nq,by rw [HD.out];first | rfl | exact drew_add _ _ _⟩
  have HG:Hid (namesB up xs=true):=by rw [Hid,namesB,HL.out,show n=k by omega];exact D.out
  go_wp2_with fail;go_ret;exact ⟨rb HG.out.symm,nd,HD.out⟩
end

section
open Go.RowKit
def smallB (n:Nat) (p q:Int):Bool:=decide (p<2 ^ n) && decide (q<2 ^ n)
def needR (k:Int):Bool:=decide (2≤k) && !decide (k=5)
def roleOkB (nr:Nat) (k r u:Int):Bool:=!needR k || (decide (r<(nr:Int)) && (!decide (k=4) || decide (u<(nr:Int))))
def okK (x:CL):Bool:=clauseB x.kind x.fn x.role x.above x.xp x.xn x.yp x.yn x.inds x.a x.b
def nameB (na nr:Nat) (x:CL):Bool:=x.inds.all (fun p=>smallB na p.1 p.2) && (smallB na x.xp x.xn && (smallB na x.yp x.yn && roleOkB nr x.kind x.role x.above))
def fitK (na nr:Nat) (x:CL):Bool:=okK x && nameB na nr x
def atomAt (l:List CN) (i:Nat):Bool:=conOk (l.getD i CN.zero) && (List.range i).all (fun k=>!sameC (l.getD k CN.zero) (l.getD i CN.zero))
def atomsB (l:List CN):Bool:=(List.range l.length).all (atomAt l)
def headB (s:CS):Bool:=decide (s.atoms.length≤24) && (decide (s.roles.length≤3) && (decide (s.who.length≤3) && (namesB false s.roles && (namesB false s.who && decide (s.l.length≤200)))))
def clsB (s:CS):Bool:=headB s && (atomsB s.atoms && s.l.all (fitK s.atoms.length s.roles.length))
theorem below_nN {B:Nat} {w w':World} (h:Below B w w') (n:Nat):Below B w (w'.drewN n):=⟨h.os,h.tape,h.output,h.size,fun b hb=>h.block b hb⟩
set_option maxRecDepth 100000 in
set_option maxHeartbeats 1000000 in
theorem l6small_any (p q:Int) (n:Nat) (hn:n≤24) (w:World) :
    Calls Tryz.prog 59 #[.agg #[.int .i64 p,.int .i64 q],.int .i64 (n:Nat)] w fun e w'=>e=.returned (.bool (smallB n p q))∧Below w.heap.size w w':=by
 obtain ⟨W,hW⟩:∃ W,W=w.alloc (.cells #[.int .i64 p,.int .i64 q] 48):=⟨_,rfl⟩;have HW:Hid (W=w.alloc (.cells #[.int .i64 p,.int .i64 q] 48)):=hW;have z:Hid (Below w.heap.size w W):=by rw [hW];exact (Below.refl _ _).alloc (Nat.le_refl _) _
 have o:BoxP 48 W w.heap.size p q:=by rw [hW];exact BoxP.new _ w _ _
 obtain ⟨z0,z1⟩:=o.cells;clear hW o;go_enter Tryz.func59, Tryz.ntmps59;go_upto_region 1 with fail;rw [← HW.out]
 have A:IntKind.i64.wrap ((2:Int) ^ n)=(2:Int) ^ n:=by
  have h2:(2:Nat) ^ n≤2 ^ 24:=Nat.pow_le_pow_right (by omega) hn;have h3:((2 ^ n:Nat):Int)=(2:Int) ^ n:=by simp
  rw [← h3];exact wrap_id _ (by omega)
 by_cases h:p<2 ^ n
 · have HE:Hid (smallB n p q=decide (q<2 ^ n)):=by unfold Hid smallB;rw [decide_eq_true h];rfl
   go_quiet (fail);go_wp2_with fail;go_ret;exact ⟨rb HE.out.symm,below_nN z.out _⟩
 have HE:Hid (smallB n p q=false):=by unfold Hid smallB;rw [decide_eq_false h];rfl
 have hd:decide (p<2 ^ n)=false:=decide_eq_false h;clear h;go_quiet (fail);go_wp2_with fail;go_ret;exact ⟨rb HE.out.symm,below_nN z.out _⟩
end

end Go.Proofs.YtellcgmabimieaaGreatDoor
