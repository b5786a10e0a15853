/- Several texts in one: ClOk, GrImpl, ConSz, WdOpen, ClsOpen. -/
import Derived.Test.YtellcgmabimieaaGreatDoorNG3
import Derived.Lib.Small
import Derived.Lib.Walk
import Derived.Test.YtellcgmabimieaaGreatDoorNG2
import Derived.Deep.Slices
namespace Go.Proofs.YtellcgmabimieaaGreatDoor

section
open Go.RowKit
def hasF (k:Int):Bool:=decide (k=1) || decide (k=2)
def hasR (k:Int):Bool:=decide (k=2) || (decide (k=3) || (decide (k=4) || decide (k=6)))
def hasU (k:Int):Bool:=decide (k=4)
def hasX (k:Int):Bool:=decide (k=0) || (decide (k=1) || (decide (k=2) || decide (k=3)))
def hasY (k:Int):Bool:=decide (k=1) || decide (k=3)
def hasI (k:Int):Bool:=decide (k=5)
def hasP (k:Int):Bool:=decide (k=6)
def numB (n o:Int) (wanted:Bool):Bool:=if wanted=true then decide (0≤n∧n<o) else decide (n=0)
def parB (p n:Int) (wanted:Bool):Bool:=if wanted=true then partB p n else noneB p n
def indB (xs:List (Int × Int)) (wanted:Bool):Bool:=if wanted=true then decide (xs.length=4) && xs.all (fun p=>partB p.1 p.2) else decide (xs.length=0)
def clauseB (k f r u xp xn yp yn:Int) (xs:List (Int × Int)) (a b:Int):Bool :=
 decide (0≤k∧k≤6) && (numB f 12 (hasF k) && (numB r 3 (hasR k) && (numB u 3 (hasU k) && (numB a 4 (hasP k) && (numB b 4 (hasP k) && (parB xp xn (hasX k) && (parB yp yn (hasY k) && (indB xs (hasI k) && (!(decide (k=1)) || !(noneB yp yn))))))))))
theorem none_part {p n:Int} (h:partB p n=false):noneB p n=false:=by
 rw [Bool.eq_false_iff] at h ⊢;intro q;apply h;rw [noneB_iff] at q;rw [partB_iff];omega
theorem parB_none {p n:Int} {c:Bool} (h:partB p n=false):parB p n c=false:=by
 unfold parB
 split
 · exact h
 exact none_part h
theorem l5none_any (p n:Int) (w:World) :
    Calls Tryz.prog 58 #[.agg #[.int .i64 p,.int .i64 n]] w fun e w'=>e=.returned (.bool (noneB p n))∧Below w.heap.size w w':=by
 go_enter Tryz.func58, Tryz.ntmps58;go_wp2
 all_goals
  go_ret;refine ⟨rb ?_,(Below.refl _ _).alloc (Nat.le_refl _) _⟩;rw [Bool.eq_iff_iff,noneB_iff];simp_all
end

section
open Go.RowKit
theorem atomsOk_any (m:Int) (w:World):Calls Tryz.prog 137 #[.int .i64 m] w fun e w'=>e=.returned (.bool (maskB m))∧w'=w:=by
 go_enter Tryz.func137, Tryz.ntmps137;go_wp2
 all_goals
  go_ret;refine ⟨rb ?_,rfl⟩;rw [Bool.eq_iff_iff,maskB_iff];simp;omega
theorem partOk_any (p n:Int) (w:World) :
    Calls Tryz.prog 124 #[.agg #[.int .i64 p,.int .i64 n]] w fun e w'=>e=.returned (.bool (partB p n))∧Below w.heap.size w w':=by
 obtain ⟨W,hW⟩:∃ W,W=w.alloc (.cells #[.int .i64 p,.int .i64 n] 48):=⟨_,rfl⟩;have HW:Hid (W=w.alloc (.cells #[.int .i64 p,.int .i64 n] 48)):=hW;have o:Hid (Below w.heap.size w W):=by rw [hW];exact (Below.refl _ _).alloc (Nat.le_refl _) _
 have h:BoxP 48 W w.heap.size p n:=by rw [hW];exact BoxP.new _ w _ _
 obtain ⟨z0,z1⟩:=h.cells;have HD:Hid (partB p n=(maskB p && maskB n)):=rfl;clear hW h;go_enter Tryz.func124, Tryz.ntmps124;go_upto_region 1 with fail;rw [← HW.out];go_wp2_with fail;refine (atomsOk_any p W).mono ?_;rintro e w' ⟨rfl,hw⟩;rw [hw];clear hw;obtain ⟨u,hu⟩:∃ u,u=maskB p:=⟨_,rfl⟩;rw [← hu];have HU:Hid (u=maskB p):=hu;clear hu;cases u with
 | true =>
  go_wp2_with fail;refine (atomsOk_any n W).mono ?_;rintro e w' ⟨rfl,hw⟩;rw [hw];clear hw;go_wp2_with fail;go_ret;exact ⟨rb (by rw [HD.out,← HU.out];simp),o.out⟩
 | false =>
  go_wp2_with fail;go_ret;exact ⟨rb (by rw [HD.out,← HU.out];simp),o.out⟩
end

section
open Go.RowKit
def SzC (d:Nat):Prop:=∀ (v:Value) (c:CN) (left:Int) (w:World) (lo hi:Nat),RdC lo hi w d v c→hi≤w.heap.size→0≤left→left≤1048576 →
 Calls Tryz.prog 53 #[v,.int .i64 left] w fun e w'=>e=.returned (.int .i64 (szRes left c.bulk))∧Below w.heap.size w w'
def SzL (d:Nat):Prop:=∀ (a:Option Addr) (n u:Nat) (cs:List CN) (left:Int) (w:World) (lo hi:Nat),RdL (RdC lo hi w d) lo hi w a n u cs→hi≤w.heap.size→0≤left→left≤1048576 →
 Calls Tryz.prog 20 #[.slice a n u,.int .i64 left] w fun e w'=>e=.returned (.int .i64 (szRes left (bulks cs)))∧Below w.heap.size w w'
theorem szRes_neg {left:Int} {n:Nat} (h:szRes left n<0) (_hl:0≤left):left<n:=by
 unfold szRes at h;split at h <;> omega
theorem szRes_pos {left:Int} {n:Nat} (h:¬ szRes left n<0):(n:Int)≤left∧szRes left n=left - n:=by
 unfold szRes at h ⊢;split at h
 · omega
 rename_i h1;rw [if_neg h1];omega
theorem szRes_of_lt {left:Int} {n:Nat} (h:left<n):szRes left n=-1:=if_pos h
theorem szRes_of_le {left:Int} {n:Nat} (h:(n:Int)≤left):szRes left n=left - n:=if_neg (by omega)
set_option maxHeartbeats 400000 in
theorem szL_of {d:Nat} (H:SzC d):SzL d:=by
 intro a n u cs left w lo hi h q h0 h1;have HR:Hid (RdL (RdC lo hi w d) lo hi w a n u cs):=h;obtain ⟨hl,⟨hm,hM⟩,a9⟩:=h;clear a9;have HL:Hid (cs.length=n):=hl;have N:=length_le_bulks cs;rw [hl] at N;clear hl;by_cases hbig:left<n
 · have HE:Hid (szRes left (bulks cs)=-1):=szRes_of_lt (by omega);clear N;go_enter Tryz.func20, Tryz.ntmps20;go_wp2_with fail;go_ret;exact ⟨ri HE.out.symm,Below.refl _ _⟩
 clear N;go_enter Tryz.func20, Tryz.ntmps20;go_wp2_with fail;go_loopw [1,5] (fun l i wr=>∃ (k:Nat) (L:Int),k≤n∧i=.int .i64 k∧l=.int .i64 L∧0≤L∧L+n+(bulks (cs.take k) - k:Nat)=left∧k≤bulks (cs.take k)∧Below w.heap.size w wr) (fun _ i _=>n - (intOf i).toNat)
 case atStart=>exact ⟨0,left - n,Nat.zero_le _,rfl,by go_num,by omega,by simp [bulks],by simp,Below.refl _ _⟩
 case round =>
  obtain ⟨k,L,hk,rfl,rfl,a4,hs,a1,o⟩:=hrel;have HB:Hid (Below w.heap.size w wr):=o;have HS:Hid (L+n+(bulks (cs.take k) - k:Nat)=left∧k≤bulks (cs.take k)):=⟨hs,a1⟩;have aa:L≤1048576:=by omega
  clear a1;by_cases hlt:k<n
  · have hR:=HR.out.same (Same.of_below o q);rcases hR.cells with hz | ⟨b,ac,e1,_,_,hc⟩
    · omega
    subst e1;obtain ⟨v0,v1,v2,v3,c0,c1,c2,c3,hr⟩:=hc k hlt;have U:Hid (RdC lo hi wr d (.agg #[v0,v1,v2,v3]) (cs.getD k CN.zero)):=hr;have HT:Hid (bulks (cs.take (k+1))=bulks (cs.take k)+1+(cs.getD k CN.zero).bulk∧bulks (cs.take (k+1))≤bulks cs):=⟨bulks_take_succ cs k (by rw [HL.out];exact hlt),bulks_take_le _ _⟩;have af:(k:Int)<(n:Int):=by omega
    obtain ⟨r,V⟩:∃ r,r=szRes L (cs.getD k CN.zero).bulk:=⟨_,rfl⟩;have z:Hid (r=szRes L (cs.getD k CN.zero).bulk):=V;clear hR hc hr o hs V;go_wp2_with fail;refine (H (.agg #[v0,v1,v2,v3]) (cs.getD k CN.zero) L wr lo hi U.out (Nat.le_trans q HB.out.size) a4 aa).mono ?_;rintro e w' ⟨rfl,a3⟩;have a6:Hid (Below w.heap.size w w'):=HB.out.trans (a3.mono HB.out.size);rw [← z.out];clear a3;by_cases hneg:r<0
    · have HE:Hid (szRes left (bulks cs)=-1):=by
       have h1:=szRes_neg (by rw [← z.out];exact hneg) a4;have h2:=HS.out;have h3:=HT.out;have h4:cs.length - (k+1)≤bulks (cs.drop (k+1)):=by have:=length_le_bulks (cs.drop (k+1));simpa using this
       have h5:=bulks_append (cs.take (k+1)) (cs.drop (k+1));rw [List.take_append_drop] at h5;have h6:=HL.out;exact szRes_of_lt (by omega)
      go_wp2_with fail;go_ret;exact ⟨ri HE.out.symm,a6.out⟩
    have I:=szRes_pos (by rw [← z.out];exact hneg);have ab:Hid (((cs.getD k CN.zero).bulk:Int)≤L∧r=L - (cs.getD k CN.zero).bulk):=⟨I.1,by rw [z.out];exact I.2⟩;clear I;go_wp2_with fail;go_roundw
    case rel =>
     refine ⟨k+1,r,by omega,by go_num,rfl,by omega,?_,?_,a6.out⟩
     · have:=HS.out;have:=HT.out;have:=ab.out;omega
     have:=HS.out;have:=HT.out;omega
    case measure=>simp [intOf];omega
  have a8:k=n:=by omega
  subst a8
  have HE:Hid (L=szRes left (bulks cs)):=by
   have h2:=HS.out;have ht:cs.take k=cs:=List.take_of_length_le (by rw [HL.out];omega);rw [ht] at h2;rw [Hid,szRes_of_le (by omega)];omega
  clear o hs;go_wp2_with fail;go_ret;exact ⟨ri HE.out,HB.out⟩
set_option maxHeartbeats 400000 in
theorem szC_of {d:Nat} (H:SzL d):SzC (d+1):=by
 intro v c left w lo hi h q h0 h1;obtain ⟨na,nn,nc,ra,rn,rc,ka,kn,kc,rfl,hn,hr,hk⟩:=h;have hb:Below w.heap.size w (w.alloc (Obj.cells #[Value.int IntKind.i64 c.kind,.slice na nn nc,.slice ra rn rc,.slice ka kn kc] 100)):=(Below.refl _ _).alloc (Nat.le_refl _) _;have HB:Hid (Below w.heap.size w (w.alloc (Obj.cells #[Value.int IntKind.i64 c.kind,.slice na nn nc,.slice ra rn rc,.slice ka kn kc] 100))):=hb;have HK:Hid (RdL (RdC lo hi (w.alloc (Obj.cells #[Value.int IntKind.i64 c.kind,.slice na nn nc,.slice ra rn rc,.slice ka kn kc] 100)) d) lo hi (w.alloc (Obj.cells #[Value.int IntKind.i64 c.kind,.slice na nn nc,.slice ra rn rc,.slice ka kn kc] 100)) ka kn kc c.kids):=hk.below hb q;have ae:=hn.fits;have ad:=hr.fits;have G:Hid (c.bulk=nn+rn+bulks c.kids):=by rw [Hid,c.bulk_eq,hn.len,hr.len]
 obtain ⟨r1,a0⟩:∃ r,r=szRes left nn:=⟨_,rfl⟩;have E:Hid (r1=szRes left nn):=a0;clear hn hr hk hb a0;go_enter Tryz.func53, Tryz.ntmps53;go_wp2_with fail;refine (szByteS_any na nn nc left _ ⟨h0,h1⟩ (by omega)).mono ?_;rintro e w' ⟨rfl,hw⟩;rw [hw,← E.out];clear hw;by_cases n1:r1<0
 · have HE:Hid (szRes left c.bulk=-1):=by
    have:=szRes_neg (by rw [← E.out];exact n1) h0;have:=G.out;exact szRes_of_lt (by omega)
   go_wp2_with fail;go_ret;exact ⟨ri HE.out.symm,HB.out⟩
 have M:=szRes_pos (by rw [← E.out];exact n1);have F:Hid ((nn:Int)≤left∧r1=left - nn):=⟨M.1,by rw [E.out];exact M.2⟩;have T:r1≤1048576:=by have:=F.out;omega
 obtain ⟨r2,Z⟩:∃ r,r=szRes r1 rn:=⟨_,rfl⟩;have D:Hid (r2=szRes r1 rn):=Z;clear M Z;go_wp2_with fail;refine (szByteS_any ra rn rc r1 _ ⟨by omega,T⟩ (by omega)).mono ?_;rintro e w' ⟨rfl,hw⟩;rw [hw,← D.out];clear hw;by_cases n2:r2<0
 · have HE:Hid (szRes left c.bulk=-1):=by
    have:=szRes_neg (by rw [← D.out];exact n2) (by omega);have:=G.out;have:=F.out;exact szRes_of_lt (by omega)
   go_wp2_with fail;go_ret;exact ⟨ri HE.out.symm,HB.out⟩
 have J:=szRes_pos (by rw [← D.out];exact n2);have O:Hid ((rn:Int)≤r1∧r2=r1 - rn):=⟨J.1,by rw [D.out];exact J.2⟩;have R:r2≤1048576:=by have:=O.out;omega
 obtain ⟨r3,Y⟩:∃ r,r=szRes r2 (bulks c.kids):=⟨_,rfl⟩;have A:Hid (r3=szRes r2 (bulks c.kids)):=Y;clear J Y;go_wp2_with fail;refine (H ka kn kc c.kids r2 _ lo hi HK.out (Nat.le_trans q HB.out.size) (by omega) R).mono ?_;rintro e w3 ⟨rfl,a2⟩;have a5:Hid (Below w.heap.size w w3):=HB.out.trans (a2.mono HB.out.size);rw [← A.out];clear a2;by_cases n3:r3<0
 · have HE:Hid (szRes left c.bulk=-1):=by
    have:=szRes_neg (by rw [← A.out];exact n3) (by omega);have:=G.out;have:=F.out;have:=O.out;exact szRes_of_lt (by omega)
   go_wp2_with fail;go_ret;exact ⟨ri HE.out.symm,a5.out⟩
 have HE:Hid (r3=szRes left c.bulk):=by
  have a7:=szRes_pos (by rw [← A.out];exact n3);have:=G.out;have:=F.out;have:=O.out;rw [Hid,szRes_of_le (by omega),A.out,a7.2];omega
 go_wp2_with fail;go_ret;exact ⟨ri HE.out,a5.out⟩
theorem szC_any:∀ d,SzC d
 | 0=>fun _ _ _ _ _ _ h=>h.elim
 | d+1=>szC_of (szL_of (szC_any d))
end

section
open Go.RowKit Go.Deep Go.ChangeShapes Go.WideShapes
theorem open_list {H:Type} {enc:TypeId × Value→H} {w:World} {α:Type} [Inhabited α] (d:α) (R:Value→α→Prop) {T E:TypeId} (ht:Tryz.prog.underlying T=some (.slice E)) (h1:Tryz.prog.cellsOf E=1)
    (Y:∀ (fuel:Nat) (v:Value) (x:DataW H × List MemPlace),DataW.trod enc Tryz.prog w 0 (fun _=>true) true fuel E [v]=some x→∃ c,R v c) {fuel:Nat} {v:Value} {x:DataW H × List MemPlace} (h:DataW.trod enc Tryz.prog w 0 (fun _=>true) true fuel T [v]=some x) :
    ∃ a len q xs,v=.slice a len q∧RdN d R 0 w.heap.size w a len q xs:=by
 rcases DataW.trod_slice ht h with ⟨D,_⟩ | ⟨ad,len,q,elems,rest,n',a7,D,_,_,V,N,Z,hx,_,_⟩
 · simp only [List.cons.injEq,and_true] at D;exact ⟨none,0,0,[],D,⟨rfl,by omega,.inl rfl⟩⟩
 simp only [List.cons.injEq,and_true] at D;rw [h1] at hx
 have U:∀ i,i<len→∃ c:α,∃ u,w.cell? (ad.add (i*1))=some u∧R u c:=by
  intro i hi;have M:=hx i hi;rw [List.getElem?_eq_getElem (by omega)] at M;obtain ⟨cs',q1,q2⟩:=Option.bind_eq_some_iff.1 M;obtain ⟨_,G,I⟩:=World.cells?_some q1
  match cs',G with
  | [u],_ =>
   obtain ⟨c,hc⟩:=Y _ _ _ q2;have e0:=I 0 (by omega);rw [show (ad.add (i*1)).add 0=ad.add (i*1) from by simp [Addr.add]] at e0;exact ⟨c,u,e0,hc⟩
 obtain ⟨T',hT⟩:=choose_lt U;refine ⟨some ad,len,q,(List.range len).map T',D,⟨by simp,⟨V,by unfold maxLen at N;exact N⟩,?_⟩⟩;by_cases h0:len=0
 · exact .inl h0
 obtain ⟨b,O,spot⟩:=ad;obtain ⟨_,q0,_⟩:=hT 0 (by omega);have F:spot=none:=by simpa [Addr.add] using World.cell?_spot q0
 subst F;have L:b<w.heap.size:=by simpa [Addr.add] using block_lt_of_cell q0
 refine .inr ⟨b,O,rfl,Nat.zero_le _,L,fun i hi=>?_⟩;obtain ⟨u,e0,hr⟩:=hT i hi;have eT:((List.range len).map T').getD i d=T' i:=by simp [List.getD,hi]
 rw [eT];rw [Nat.mul_one] at e0;simp only [Addr.add_lit] at e0;exact ⟨u,e0,hr⟩
theorem trod_seven {H:Type} {enc:TypeId × Value→H} {P:Program} {w:World} {base:Nat} {spare:Nat→Bool} {o:Bool} {t:TypeId} {f0 f1 f2 f3 f4 f5 f6:Field} {fuel:Nat} {cs:List Value} {x:DataW H × List MemPlace} (ht:P.underlying t=some (.struct #[f0,f1,f2,f3,f4,f5,f6])) (h:DataW.trod enc P w base spare o fuel t cs=some x) :
    ∃ y0 y1 y2 y3 y4 y5 y6 n,fuel=n+1∧cs.length=P.cellsOf t∧DataW.trod enc P w base spare o n f0.type ((cs.drop f0.offset).take (P.cellsOf f0.type))=some y0∧DataW.trod enc P w base spare o n f1.type ((cs.drop f1.offset).take (P.cellsOf f1.type))=some y1 ∧
     DataW.trod enc P w base spare o n f2.type ((cs.drop f2.offset).take (P.cellsOf f2.type))=some y2∧DataW.trod enc P w base spare o n f3.type ((cs.drop f3.offset).take (P.cellsOf f3.type))=some y3∧DataW.trod enc P w base spare o n f4.type ((cs.drop f4.offset).take (P.cellsOf f4.type))=some y4 ∧
     DataW.trod enc P w base spare o n f5.type ((cs.drop f5.offset).take (P.cellsOf f5.type))=some y5∧DataW.trod enc P w base spare o n f6.type ((cs.drop f6.offset).take (P.cellsOf f6.type))=some y6:=by
 obtain ⟨xs,n,hn,_,hl,J,hf⟩:=DataW.trod_struct ht h
 match xs,J with
 | [y0,y1,y2,y3,y4,y5,y6],_=>exact ⟨y0,y1,y2,y3,y4,y5,y6,n,hn,hl,by simpa using hf 0 f0 rfl,by simpa using hf 1 f1 rfl,by simpa using hf 2 f2 rfl,by simpa using hf 3 f3 rfl,by simpa using hf 4 f4 rfl,by simpa using hf 5 f5 rfl,by simpa using hf 6 f6 rfl⟩
theorem open_flags {H:Type} {enc:TypeId × Value→H} {w:World} {fuel:Nat} {v:Value} {x:DataW H × List MemPlace} (h:DataW.trod enc Tryz.prog w 0 (fun _=>true) true fuel 65 [v]=some x) :
    ∃ a len q xs,v=.slice a len q∧RB 0 w.heap.size w a len q xs :=
 open_list false (fun v b=>v=.bool b) Tryz.underlying65 (by kernel_rfl) (fun _ v _ h=>by obtain ⟨b,hb,_⟩:=DataW.trod_bool Tryz.underlying4 h;exact ⟨b,by simpa using hb⟩) h
theorem open_nums {H:Type} {enc:TypeId × Value→H} {w:World} {fuel:Nat} {v:Value} {x:DataW H × List MemPlace} (h:DataW.trod enc Tryz.prog w 0 (fun _=>true) true fuel 24 [v]=some x) :
    ∃ a len q xs,v=.slice a len q∧RI 0 w.heap.size w a len q xs :=
 open_list 0 (fun v z=>v=.int .i64 z) Tryz.underlying24 (by kernel_rfl) (fun _ v _ h=>by obtain ⟨b,hb,_,_⟩:=DataW.trod_int Tryz.underlying3 h;exact ⟨b,by simpa using hb⟩) h
theorem open_words {H:Type} {enc:TypeId × Value→H} {w:World} {fuel:Nat} {v:Value} {x:DataW H × List MemPlace} (h:DataW.trod enc Tryz.prog w 0 (fun _=>true) true fuel 22 [v]=some x) :
    ∃ a len q xs,v=.slice a len q∧RSS 0 w.heap.size w a len q xs :=
 open_list [] (SlB 0 w.heap.size w) Tryz.underlying22 (by kernel_rfl) (fun _ v _ h=>by obtain ⟨a,n,c,zs,hv,hr⟩:=open_bytes h;exact ⟨zs,a,n,c,hv,hr⟩) h
theorem open_sets {H:Type} {enc:TypeId × Value→H} {w:World} {fuel:Nat} {v:Value} {x:DataW H × List MemPlace} (h:DataW.trod enc Tryz.prog w 0 (fun _=>true) true fuel 23 [v]=some x) :
    ∃ a len q xs,v=.slice a len q∧RFF 0 w.heap.size w a len q xs :=
 open_list [] (SlF 0 w.heap.size w) Tryz.underlying23 (by kernel_rfl) (fun _ v _ h=>by obtain ⟨a,n,c,zs,hv,hr⟩:=open_flags h;exact ⟨zs,a,n,c,hv,hr⟩) h
set_option maxRecDepth 100000 in
theorem open_world {H:Type} {enc:TypeId × Value→H} {w:World} {fuel:Nat} {cs:List Value} {y:DataW H × List MemPlace} (h:DataW.trod enc Tryz.prog w 0 (fun _=>true) true fuel 26 cs=some y) :
    ∃ k na nn nc sa sn sc ra rn rc la ln lc ia im ic ta tn tc x,cs=[.int .i64 k,.slice na nn nc,.slice sa sn sc,.slice ra rn rc,.slice la ln lc,.slice ia im ic,.slice ta tn tc]∧x.n=k∧RdW 0 w.heap.size w na nn nc sa sn sc ra rn rc la ln lc ia im ic ta tn tc x:=by
 have c7:Tryz.prog.cellsOf 26=7:=by kernel_rfl
 have ci:Tryz.prog.cellsOf 3=1:=by kernel_rfl
 have cb:Tryz.prog.cellsOf 22=1:=by kernel_rfl
 have cf:Tryz.prog.cellsOf 23=1:=by kernel_rfl
 have cn:Tryz.prog.cellsOf 24=1:=by kernel_rfl
 obtain ⟨y0,y1,y2,y3,y4,y5,y6,n,hn,hl,t0,t1,t2,t3,t4,t5,t6⟩:=trod_seven Tryz.underlying26 h;rw [c7] at hl
 match cs,hl with
 | [a0,a1,a2,a3,a4,a5,a6],_ =>
  simp only [ci,cb,cf,cn,List.drop_zero,List.drop_succ_cons,List.take_succ_cons,List.take_zero] at t0 t1 t2 t3 t4 t5 t6;obtain ⟨k,hk,_,_⟩:=DataW.trod_int Tryz.underlying3 t0;obtain ⟨na,nn,nc,x1,e1,r1⟩:=open_words t1;obtain ⟨sa,sn,sc,x2,e2,r2⟩:=open_sets t2;obtain ⟨ra,rn,rc,x3,e3,r3⟩:=open_words t3;obtain ⟨la,ln,lc,x4,e4,r4⟩:=open_sets t4;obtain ⟨ia,im,ic,x5,e5,r5⟩:=open_words t5;obtain ⟨ta,tn,tc,x6,e6,r6⟩:=open_nums t6;simp only [List.cons.injEq,and_true] at hk;subst hk e1 e2 e3 e4 e5 e6;exact ⟨k,na,nn,nc,sa,sn,sc,ra,rn,rc,la,ln,lc,ia,im,ic,ta,tn,tc,⟨k,x1,x2,x3,x4,x5,x6⟩,rfl,rfl,⟨r1,r2,r3,r4,r5,r6⟩⟩
end

section
open Go.RowKit Go.Deep Go.ChangeShapes Go.WideShapes
instance:Inhabited CL:=⟨CL.zero⟩
def ClAd (w:World) (p:Addr) (x:CL):Prop:=∃ (ia:Option Addr) (im ic:Nat),w.cell? p=some (.int .i64 x.kind)∧w.cell? (p.add 1)=some (.int .i64 x.fn)∧w.cell? (p.add 2)=some (.int .i64 x.role)∧w.cell? (p.add 3)=some (.int .i64 x.above)∧w.cell? (p.add 4)=some (.int .i64 x.xp)∧w.cell? (p.add 5)=some (.int .i64 x.xn)∧w.cell? (p.add 6)=some (.int .i64 x.yp)∧w.cell? (p.add 7)=some (.int .i64 x.yn)∧w.cell? (p.add 8)=some (.slice ia im ic)∧w.cell? (p.add 9)=some (.int .i64 x.a)∧w.cell? (p.add 10)=some (.int .i64 x.b)∧RP 0 w.heap.size w ia im ic x.inds
set_option maxRecDepth 100000 in
theorem open_clauses {H:Type} {enc:TypeId × Value→H} {w:World} {fuel:Nat} {v:Value} {x:DataW H × List MemPlace} (h:DataW.trod enc Tryz.prog w 0 (fun _=>true) true fuel 28 [v]=some x) :
    ∃ a len z xs,v=.slice a len z∧RdG 0 w.heap.size w a len z xs:=by
 have R:Tryz.prog.cellsOf 35=11:=by kernel_rfl
 rcases open_slice Tryz.underlying28 h with ⟨q,_⟩ | ⟨ad,len,z,m,n,D,Pl,q,_,hl,hm,E,_,hx⟩
 · simp at q;exact ⟨none,0,0,[],q,⟨rfl,by omega,.inl rfl⟩⟩
 simp at q;simp only [if_true] at E;subst E;rw [R] at hx
 have G:∀ i,i<len→∃ t:CL,ClAd w (ad.add (i*11)) t:=by
  intro i hi;obtain ⟨cs,h1,h2⟩:=hx i (by omega);obtain ⟨_,I,o⟩:=World.cells?_some h1;obtain ⟨t,ia,im,ic,hc,hr⟩:=open_clause h2;subst hc;have e0:=o 0 (by omega);rw [show (ad.add (i*11)).add 0=ad.add (i*11) from by simp [Addr.add]] at e0;exact ⟨t,ia,im,ic,e0,o 1 (by omega),o 2 (by omega),o 3 (by omega),o 4 (by omega),o 5 (by omega),o 6 (by omega),o 7 (by omega),o 8 (by omega),o 9 (by omega),o 10 (by omega),hr⟩
 obtain ⟨T,hT⟩:=choose_lt G;refine ⟨some ad,len,m,(List.range len).map T,q,⟨by simp,⟨hl,by unfold maxLen at hm;exact hm⟩,?_⟩⟩;by_cases h0:len=0
 · exact .inl h0
 obtain ⟨b,F,spot⟩:=ad;obtain ⟨_,_,_,q0,_⟩:=hT 0 (by omega);have u:spot=none:=by simpa [Addr.add] using World.cell?_spot q0
 subst u;have A:b<w.heap.size:=by simpa [Addr.add] using block_lt_of_cell q0
 refine .inr ⟨b,F,rfl,Nat.zero_le _,A,fun i hi=>?_⟩;obtain ⟨ia,im,ic,e0,e1,e2,e3,e4,e5,e6,e7,e8,e9,J,hr⟩:=hT i hi;have eT:((List.range len).map T).getD i CL.zero=T i:=by simp [List.getD,hi]
 rw [eT];simp only [Addr.add_lit] at e0 e1 e2 e3 e4 e5 e6 e7 e8 e9 J;exact ⟨ia,im,ic,e0,e1,e2,e3,e4,e5,e6,e7,e8,e9,J,hr⟩
def CnAd (w:World) (m:Nat) (p:Addr) (c:CN):Prop:=∃ v0 v1 v2 v3,w.cell? p=some v0∧w.cell? (p.add 1)=some v1∧w.cell? (p.add 2)=some v2∧w.cell? (p.add 3)=some v3∧RdC 0 w.heap.size w m (.agg #[v0,v1,v2,v3]) c
set_option maxRecDepth 100000 in
theorem open_cons {H:Type} {enc:TypeId × Value→H} {w:World} {fuel:Nat} {v:Value} {x:DataW H × List MemPlace} (h:DataW.trod enc Tryz.prog w 0 (fun _=>true) true fuel 27 [v]=some x) :
    ∃ d a len z xs,v=.slice a len z∧RdL (RdC 0 w.heap.size w d) 0 w.heap.size w a len z xs:=by
 have c4:Tryz.prog.cellsOf 100=4:=by kernel_rfl
 rcases open_slice Tryz.underlying27 h with ⟨q,_⟩ | ⟨ad,len,z,m,n,D,Pl,q,_,hl,hm,E,_,hx⟩
 · simp at q;exact ⟨0,none,0,0,[],q,⟨rfl,by omega,.inl rfl⟩⟩
 simp at q;simp only [if_true] at E;subst E;rw [c4] at hx
 have G:∀ i,i<len→∃ t:CN,CnAd w n (ad.add (i*4)) t:=by
  intro i hi;obtain ⟨cs,h1,h2⟩:=hx i (by omega);obtain ⟨_,I,o⟩:=World.cells?_some h1;obtain ⟨v0,v1,v2,v3,c,hc,hr⟩:=open_con n _ _ _ (Nat.le_refl _) h2;subst hc;have e0:=o 0 (by omega);rw [show (ad.add (i*4)).add 0=ad.add (i*4) from by simp [Addr.add]] at e0;exact ⟨c,v0,v1,v2,v3,e0,o 1 (by omega),o 2 (by omega),o 3 (by omega),hr⟩
 obtain ⟨T,hT⟩:=choose_lt G;refine ⟨n,some ad,len,m,(List.range len).map T,q,⟨by simp,⟨hl,by unfold maxLen at hm;exact hm⟩,?_⟩⟩;by_cases h0:len=0
 · exact .inl h0
 obtain ⟨b,F,spot⟩:=ad;obtain ⟨_,_,_,_,q0,_⟩:=hT 0 (by omega);have u:spot=none:=by simpa [Addr.add] using World.cell?_spot q0
 subst u;have A:b<w.heap.size:=by simpa [Addr.add] using block_lt_of_cell q0
 refine .inr ⟨b,F,rfl,Nat.zero_le _,A,fun i hi=>?_⟩;obtain ⟨v0,v1,v2,v3,e0,e1,e2,e3,hr⟩:=hT i hi;have eT:((List.range len).map T).getD i CN.zero=T i:=by simp [List.getD,hi]
 rw [eT];simp only [Addr.add_lit] at e0 e1 e2 e3;exact ⟨v0,v1,v2,v3,e0,e1,e2,e3,hr⟩
set_option maxRecDepth 100000 in
theorem open_cls {H:Type} {enc:TypeId × Value→H} {w:World} {fuel:Nat} {cs:List Value} {y:DataW H × List MemPlace} (h:DataW.trod enc Tryz.prog w 0 (fun _=>true) true fuel 30 cs=some y) :
    ∃ d aa an ac ra rn rc wa wn wc la ln lc s,cs=[.slice aa an ac,.slice ra rn rc,.slice wa wn wc,.slice la ln lc]∧RdS 0 w.heap.size w d aa an ac ra rn rc wa wn wc la ln lc s:=by
 have c4:Tryz.prog.cellsOf 30=4:=by kernel_rfl
 have ca:Tryz.prog.cellsOf 27=1:=by kernel_rfl
 have cb:Tryz.prog.cellsOf 22=1:=by kernel_rfl
 have cl:Tryz.prog.cellsOf 28=1:=by kernel_rfl
 obtain ⟨y0,y1,y2,y3,n,hn,hl,t0,t1,t2,t3⟩:=trod_four Tryz.underlying30 h;rw [c4] at hl
 match cs,hl with
 | [a0,a1,a2,a3],_ =>
  simp only [ca,cb,cl,List.drop_zero,List.drop_succ_cons,List.take_succ_cons,List.take_zero] at t0 t1 t2 t3;obtain ⟨d,aa,an,ac,O,h0,r0⟩:=open_cons t0;obtain ⟨ra,rn,rc,N,h1,r1⟩:=open_words t1;obtain ⟨wa,wn,wc,M,h2,r2⟩:=open_words t2;obtain ⟨la,ln,lc,L,h3,r3⟩:=open_clauses t3;exact ⟨d,aa,an,ac,ra,rn,rc,wa,wn,wc,la,ln,lc,⟨O,N,M,L⟩,by rw [h0,h1,h2,h3],⟨r0,r1,r2,r3⟩⟩
end

end Go.Proofs.YtellcgmabimieaaGreatDoor
