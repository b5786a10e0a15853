/- The iterator over the literals of a clause: all of them in order, or a first part of them where the loop says 'no more'. -/
import Derived.Test.YtellcgmabimieaaGreatDoorConTell
import Derived.Test.YtellcgmabimieaaGreatDoorNG3
import Derived.Test.YtellcgmabimieaaGreatDoorNG11
import Derived.RangeFuncNested
import Derived.RangeFuncBound
import Derived.RangeFuncCalls
import Derived.RangeFuncLeaves
import Derived.RangeFuncBox
import Derived.Shelf.Abstract
import Derived.Shelf.RegionOpen
import Derived.OwnWalkIn
import Derived.TacticsInMore
import Derived.LoopNIn
import Derived.LoopIn
import Derived.Laws.EntriesVeiled
import Derived.Sort.CutIn
namespace Go.Proofs.YtellcgmabimieaaGreatDoor
open Go.RowKit Go.Shelf
attribute [local go_sem] Oper.semAt_some
theorem about_wide {o:Oper} {P:Program} {w:World} {ev:Operand→Value}:(∀ f,o.about P w ev=some f→Fence.wide.fn f) ↔ True:=by simp [Fence.wide]
attribute [local go_sem ↓] about_wide
theorem BoxP.kept {t B n1:Nat} {W W':World} {b:Nat} {p n:Int} (h:BoxP t W b p n) (hk:KpC B n1 W W') (hb:n1≤b):BoxP t W' b p n:=hk.2 b _ hb h rfl
def encL (x:LT):Array Value:=#[.agg #[.int .i64 (x.place:Nat),.int .i64 (x.atom:Nat),.bool x.no]]
theorem idx_any (l:List (Int × Int)) (j:Nat) (hj:j<6) (V:World):(Instr.index 148 (.agg (cells12 l)) (.int .i64 (j:Nat))).run Tryz.prog V=.ok (.agg #[.int .i64 (l.getD j (0,0)).1,.int .i64 (l.getD j (0,0)).2]) V:=by
 obtain ⟨i,hi⟩:=info_of_underlying Tryz.underlying48;have hc:Tryz.prog.cellsOf 48=2:=by kernel_rfl
 match j,hj with
 | 0,_=>simp [Instr.index,run_underlying Tryz.underlying148,asIntOf,run_sizeOf V hi,hc,go_sem,cells12]
 | 1,_=>simp [Instr.index,run_underlying Tryz.underlying148,asIntOf,run_sizeOf V hi,hc,go_sem,cells12]
 | 2,_=>simp [Instr.index,run_underlying Tryz.underlying148,asIntOf,run_sizeOf V hi,hc,go_sem,cells12]
 | 3,_=>simp [Instr.index,run_underlying Tryz.underlying148,asIntOf,run_sizeOf V hi,hc,go_sem,cells12]
 | 4,_=>simp [Instr.index,run_underlying Tryz.underlying148,asIntOf,run_sizeOf V hi,hc,go_sem,cells12]
 | 5,_=>simp [Instr.index,run_underlying Tryz.underlying148,asIntOf,run_sizeOf V hi,hc,go_sem,cells12]
def natP (l:List (Int × Int)):List (Nat × Nat):=l.map fun x=>(x.1.toNat,x.2.toNat)
theorem natP_getD (l:List (Int × Int)) (j:Nat) (hj:j<l.length):(natP l).getD j (0,0)=((l.getD j (0,0)).1.toNat,(l.getD j (0,0)).2.toNat):=by
 simp [natP,List.getD_eq_getElem?_getD,List.getElem?_eq_getElem hj]
theorem litsL_take_succ (ps:List (Nat × Nat)) (j:Nat) (hj:j<ps.length):litsL 0 (ps.take (j+1))=litsL 0 (ps.take j)++litsP j (ps.getD j (0,0)).1 (ps.getD j (0,0)).2:=by
 have e:ps.take (j+1)=ps.take j++[ps.getD j (0,0)]:=by
  rw [List.take_succ_eq_append_getElem hj,List.getD_eq_getElem?_getD,List.getElem?_eq_getElem hj];rfl
 rw [e,litsL_append];simp [litsL,List.length_take,Nat.min_eq_left (Nat.le_of_lt hj)]
theorem litsTo_prefix (i p n:Nat):∀ d k,litsTo i p n k <+: litsTo i p n (k+d)
 | 0,_=>List.prefix_rfl
 | d+1,k=>by
  rw [← Nat.add_assoc,litsTo];exact (litsTo_prefix i p n d k).trans (List.prefix_append _ _)
theorem litsL_prefix (ps:List (Nat × Nat)) (j k:Nat) (hj:j<ps.length) (hk:k≤24):litsL 0 (ps.take j)++litsTo j (ps.getD j (0,0)).1 (ps.getD j (0,0)).2 k <+: litsL 0 ps:=by
 have h1:litsTo j (ps.getD j (0,0)).1 (ps.getD j (0,0)).2 k <+: litsP j (ps.getD j (0,0)).1 (ps.getD j (0,0)).2:=by
  have:=litsTo_prefix j (ps.getD j (0,0)).1 (ps.getD j (0,0)).2 (24 - k) k
  rwa [show k+(24 - k)=24 by omega] at this
 obtain ⟨t,ht⟩:=h1;refine ⟨t++litsL (0+(ps.take (j+1)).length) (ps.drop (j+1)),?_⟩;rw [List.append_assoc,← List.append_assoc (litsTo j (ps.getD j (0,0)).1 (ps.getD j (0,0)).2 k),ht,← List.append_assoc,← litsL_take_succ ps j hj,← litsL_append,List.take_append_drop]
set_option maxRecDepth 100000 in
set_option maxHeartbeats 4000000 in
theorem lits1_in {lo hi B n1 l:Nat} {w0:World} {J Jx:List LT→World→Prop} {B':Nat} (hJ:AbidesFrom B' J) (ak:hi≤B) (ap:B≤n1) (hg:2<B) (n' Bt:Nat)
    {k f r u xp xn yp yn:Int} {ia:Option Addr} {im ic:Nat} {a b:Int} {xs:List (Int × Int)} (hR:RP lo hi w0 ia im ic xs) (aj:im=0∨im=4) (Y:∀ x∈six xp xn yp yn xs,partB x.1 x.2=true) (hT:TabD w0)
    (hY:∀ m pre x W,J pre W→pre.length<(litsL 0 (natP (six xp xn yp yn xs))).length→x.place<6→x.atom<24→YieldAt Fence.wide m Tryz.prog l (encL x) W fun e W' =>
     (e=.returned (.bool true)∧J (pre++[x]) W'∧KpC B n1 W W')∨(e=.returned (.bool false)∧Jx (pre++[x]) W'))
    (W:World) (hW:Below B w0 W) (ah:n1≤W.heap.size) (ab:BoxK 51 W Bt k f r u xp xn yp yn (.slice ia im ic) a b) (h0:J [] W) :
    CallsIn Fence.wide n' Tryz.prog 104 #[.func (.yield l) #[] #[],.pointer (some ⟨Bt,0,none⟩)] W fun e W'=>(∃ v,e=.returned v) ∧
     ((∃ ys,ys=litsL 0 (natP (six xp xn yp yn xs))∧J ys W')∨(∃ pre,pre <+: litsL 0 (natP (six xp xn yp yn xs))∧Jx pre W')):=by
 obtain ⟨z0,z1,z2,z3,z4,z5,z6,z7,z8,z9,aQ⟩:=ab.cells;have aZ:Hid (RP lo hi W ia im ic xs):=hR.below hW ak;have aL:∀ V,Below B W V→TabD V:=fun V hV=>(hT.below hW hg).below hV hg
 have aY:Hid (∀ V,Below B W V→TabD V):=aL;obtain ⟨L,hL⟩:∃ L,L=six xp xn yp yn xs:=⟨_,rfl⟩;have au:Hid (L.length=6):=by rw [hL];rfl
 obtain ⟨ps,a4⟩:∃ ps,ps=natP L:=⟨_,rfl⟩;rw [← hL] at Y hY ⊢;rw [← a4] at hY ⊢;have T:Hid (ps.length=6):=by unfold Hid;rw [a4,natP,List.length_map];exact au.out
 have b1:Hid (∀ x∈L,partB x.1 x.2=true):=Y;have b0:Hid (ps=natP L):=a4
 have HY:Hid (∀ m pre x W,J pre W→pre.length<(litsL 0 ps).length→x.place<6→x.atom<24→YieldAt Fence.wide m Tryz.prog l (encL x) W fun e W' =>
     (e=.returned (.bool true)∧J (pre++[x]) W'∧KpC B n1 W W')∨(e=.returned (.bool false)∧Jx (pre++[x]) W')):=hY
 have b7:Hid (J [] W):=h0;have HL:Hid (L=six xp xn yp yn xs):=hL;have a2:=idx_any L;have aD:Hid (∀ (j:Nat),j<6→∀ (V:World),(Instr.index 148 (.agg (cells12 L)) (.int .i64 (j:Nat))).run Tryz.prog V=.ok (.agg #[.int .i64 (L.getD j (0,0)).1,.int .i64 (L.getD j (0,0)).2]) V):=a2;clear hY hR Y a4 h0 hL a2 aL hT;refine callsIn_of_wp Tryz.func104 rfl trivial ?_ rfl;simp only [Tryz.ntmps104,List.size_toArray,List.length_cons,List.length_nil,Nat.reduceAdd,Nat.reduceSub,Array.replicate_succ,Array.replicate_zero,List.push_toArray,List.append_toArray,List.nil_append,List.cons_append]
 gi_wp2_with fail
 refine ⟨fun h=>(by cases h),?_⟩;refine (callsIn_wide.2 (partsOf_any aZ.out (by have:=hW.size;omega) aj)).mono ?_;rintro e W1 ⟨rfl,am⟩;rw [← HL.out];have b3:Hid (KpC B n1 W W1):=KpC.of_below am (by omega);have b6:Hid (J [] W1):=abides_below hJ b7.out am;clear am z0 z1 z2 z3 z4 z5 z6 z7 z8 z9 aQ
 gi_wp2_with fail
 gi_loopw [9] (fun i wr=>∃ (j:Nat),j≤6∧i=.int .i64 (j:Nat)∧J (litsL 0 (ps.take j)) wr∧KpC B n1 W wr) (fun i _=>6 - (intOf i).toNat)
 case atStart=>exact ⟨0,by omega,rfl,by simpa [litsL] using b6.out,b3.out⟩
 case round =>
  obtain ⟨j,hj,rfl,aa,a0⟩:=hrel;have b4:Hid (J (litsL 0 (ps.take j)) wr):=aa;have ba:Hid (KpC B n1 W wr):=a0;have b9:=a0.1.size;by_cases hlt:j<6
  · have aT:(j:Int)<6:=by omega
    have aU:=aD.out j hlt;have Z:=natP_getD L j (by rw [au.out];exact hlt);rw [← b0.out] at Z;have aH:=b1.out (L.getD j (0,0)) (by rw [List.getD_eq_getElem?_getD,List.getElem?_eq_getElem (by rw [au.out];exact hlt)];exact List.getElem_mem _);obtain ⟨⟨h1,h2⟩,h3,h4⟩:=partB_iff.1 aH;obtain ⟨p,a5⟩:∃ p:Nat,(L.getD j (0,0)).1=(p:Int):=⟨(L.getD j (0,0)).1.toNat,by omega⟩;obtain ⟨n,a6⟩:∃ n:Nat,(L.getD j (0,0)).2=(n:Int):=⟨(L.getD j (0,0)).2.toNat,by omega⟩;rw [a5,a6] at aU;rw [a5,a6,Int.toNat_natCast,Int.toNat_natCast] at Z;rw [a5] at h1 h2;rw [a6] at h3 h4;have aG:p<16777216:=by omega
    have aI:n<16777216:=by omega
    have aS:=bits_or_nat p n aG aI;have af:p ||| n<16777216:=by have:=Nat.or_lt_two_pow (x:=p) (y:=n) (n:=24) (by omega) (by omega);omega
    obtain ⟨x,hx⟩:∃ x,x=p ||| n:=⟨_,rfl⟩
    rw [← hx] at aS af;have HX:Hid (x=p ||| n):=hx
    have A:Hid (∀ t,t≤24→litsL 0 (ps.take j)++litsTo j p n t <+: litsL 0 ps):=fun t ht=>by
     have:=litsL_prefix ps j t (by rw [T.out];exact hlt) ht;rw [Z] at this;exact this
    have M:Hid (∀ t,t≤24→(litsL 0 (ps.take j)).length+(litsTo j p n t).length≤(litsL 0 ps).length):=fun t ht=>by
     have:=(A.out t ht).length_le
     rwa [List.length_append] at this
    have aX:Hid (litsL 0 (ps.take (j+1))=litsL 0 (ps.take j)++litsP j p n):=by
     have:=litsL_take_succ ps j (by rw [T.out];exact hlt);rw [Z] at this;exact this
    obtain ⟨W2,a8⟩:∃ W2,W2=wr.alloc (.cells #[.int .i64 (p:Int),.int .i64 (n:Int)] 48):=⟨_,rfl⟩;have al:Below wr.heap.size wr W2:=by rw [a8];exact (Below.refl _ _).alloc (Nat.le_refl _) _
    have R:BoxP 48 W2 wr.heap.size p n:=by rw [a8];exact BoxP.new _ wr _ _
    have a3:Hid (BoxP 48 W2 wr.heap.size p n):=R;have b2:Hid (KpC B n1 W W2):=a0.trans (KpC.of_below al (by omega));have b5:Hid (J (litsL 0 (ps.take j)) W2):=abides_below hJ aa al;have aW:Hid (W2=wr.alloc (.cells #[.int .i64 (p:Int),.int .i64 (n:Int)] 48)):=a8;obtain ⟨q,hq⟩:∃ q,q=wr.heap.size:=⟨_,rfl⟩;have ag:n1≤q:=by omega
    obtain ⟨y0,y1⟩:=R.cells;clear h1 h2 h3 h4 aH a5 a6 Z hx al R aa a0
    gi_upto_region 3 with fail
    rw [← aW.out];clear a8
    gi_wp2_with fail
    rw [← hq] at a3 ⊢;clear hq
    gi_loopw [5] (fun rv wi=>∃ (c rr:Nat),c≤24∧rv=.int .i64 (rr:Nat)∧RestAt x c rr∧J (litsL 0 (ps.take j)++litsTo j p n c) wi∧KpC B n1 W wi∧BoxP 48 wi q p n) (fun rv _=>(intOf rv).toNat)
    case atStart=>exact ⟨0,x,by omega,rfl,RestAt.start x,by simpa [litsTo] using b5.out,b2.out,a3.out⟩
    case round =>
     obtain ⟨c,rr,hc,rfl,E,an,a9,ac⟩:=hrel;have ae:Hid (J (litsL 0 (ps.take j)++litsTo j p n c) wr):=an;have ad:Hid (KpC B n1 W wr):=a9;have ay:Hid (BoxP 48 wr q p n):=ac;clear y0 y1;obtain ⟨y0,y1⟩:=ac.cells;have aR:=E.lt af;by_cases hr0:rr=0
     · subst hr0;have HE:Hid (litsL 0 (ps.take (j+1))=litsL 0 (ps.take j)++litsTo j p n c):=by unfold Hid;rw [aX.out,litsTo_end (i:=j) HX.out E hc]
       clear an a9 ac
       gi_wp2_with fail
       go_roundw
       case rel=>exact ⟨j+1,by omega,by go_num,by rw [HE.out];exact ae.out,ad.out⟩
       case measure=>simp [intOf];omega
     obtain ⟨s1,s2,s3,s4,s5,s6⟩:=E.step af hr0;have aK:=aY.out wr a9.1;have ar:=callsIn_wide (n:=n' - 1) |>.2 (tz_any rr wr aR hr0 aK)
     obtain ⟨t,ht⟩:∃ t,t=Lib.ctz 64 rr:=⟨_,rfl⟩;rw [← ht] at s1 s2 s3 s4 s5 ar;have aC:Hid (CallsIn Fence.wide (n' - 1) Tryz.prog 106 #[.int .u64 (rr:Int)] wr fun e w'=>e=.returned (.int .i64 (t:Nat))∧w'=wr):=ar;have z:Hid (litsTo j p n (t+1)=litsTo j p n c++litAt j p n t):=litsTo_step HX.out s1 s3;have D:Hid (RestAt x (t+1) (rr &&& (rr - 1))):=s5;have b8:((rr:Int) == 0)=false:=by simp;omega
     have aB:bits .and .i64 (rr:Int) ((rr:Int) - 1)=((rr &&& (rr - 1):Nat):Int):=by
      have e:(rr:Int) - 1=((rr - 1:Nat):Int):=by omega
      rw [e];exact bits_and_nat rr (rr - 1) (by omega) (by omega)
     have aJ:=bit_at p t aG;have a7:=bit_at n t aI;have aA:rr &&& (rr - 1)<rr:=s6;obtain ⟨rn,aF⟩:∃ rn,rn=rr &&& (rr - 1):=⟨_,rfl⟩;rw [← aF] at aB D aA;clear an a9 ac ar aK s1 s3 s4 s5 s6 E aF ht
     gi_wp2_with fail
     refine ⟨fun h=>(by cases h),?_⟩;refine aC.out.mono ?_;rintro e w' ⟨rfl,hw⟩;rw [hw];clear hw;cases hp:p.testBit t
     · rw [hp] at aJ;cases hn:n.testBit t
       · rw [hn] at a7;have HE:Hid (litsTo j p n (t+1)=litsTo j p n c):=by unfold Hid;rw [z.out];simp [litAt,hp,hn]
         gi_wp2_with fail
         go_roundw
         case rel=>exact ⟨t+1,_,by omega,rfl,D.out,by rw [HE.out];exact ae.out,ad.out,ay.out⟩
         case measure=>simp [intOf];omega
       rw [hn] at a7;have HE:Hid (litsTo j p n (t+1)=litsTo j p n c++[⟨j,t,true⟩]):=by unfold Hid;rw [z.out];simp [litAt,hp,hn]
       have F:=HY.out (n' - 1) (litsL 0 (ps.take j)++(litsTo j p n c)) ⟨j,t,true⟩ wr ae.out (by have:=congrArg List.length HE.out;rw [List.length_append,List.length_singleton] at this;have:=M.out (t+1) (by omega);rw [List.length_append];omega) (by show j<6;have:=T.out;omega) (by show t<24;omega);unfold encL at F;dsimp only at F;obtain ⟨fn,tmps,assign,body,hy,N⟩:=F
       have G:Hid (RoundIn Fence.wide (n' - 1) Tryz.prog l fn tmps assign body wr fun e W' =>
           (e=.returned (.bool true)∧J (litsL 0 (ps.take j)++(litsTo j p n c)++[⟨j,t,true⟩]) W'∧KpC B n1 wr W')∨(e=.returned (.bool false)∧Jx (litsL 0 (ps.take j)++(litsTo j p n c)++[⟨j,t,true⟩]) W')):=N
       clear N
       gi_wp2_with fail
       refine ⟨fun h=>(by cases h),?_⟩;refine G.out.mono ?_;rintro e W6 (⟨rfl,a1,O⟩ | ⟨rfl,U⟩)
       · have ax:Hid (J (litsL 0 (ps.take j)++litsTo j p n (t+1)) W6):=by unfold Hid;rw [HE.out,← List.append_assoc];exact a1
         have av:Hid (KpC B n1 W W6):=ad.out.trans O;have az:Hid (BoxP 48 W6 q p n):=ay.out.kept O ag;clear a1 O hy G
         gi_wp2_with fail
         go_roundw
         case rel=>exact ⟨t+1,_,by omega,rfl,D.out,ax.out,av.out,az.out⟩
         case measure=>simp [intOf];omega
       have aq:Hid (Jx (litsL 0 (ps.take j)++(litsTo j p n c)++[⟨j,t,true⟩]) W6):=U;have I:Hid ((litsL 0 (ps.take j)++(litsTo j p n c)++[⟨j,t,true⟩]) <+: litsL 0 ps):=by unfold Hid;have:=A.out (t+1) (by omega);rw [HE.out,← List.append_assoc] at this;exact this
       clear U hy G
       gi_wp2_with fail
       (try simp only [Exit.inBlock,Exit.then]);refine bodyPost_ret (results_none rfl _ _ _) rfl ?_;exact ⟨⟨_,rfl⟩,.inr ⟨_,I.out,aq.out⟩⟩
     rw [hp] at aJ;have F:=HY.out (n' - 1) (litsL 0 (ps.take j)++litsTo j p n c) ⟨j,t,false⟩ wr ae.out (by have:=congrArg List.length z.out;rw [List.length_append] at this;have h1:1≤(litAt j p n t).length:=(by simp [litAt,hp]);have:=M.out (t+1) (by omega);rw [List.length_append];omega) (by show j<6;have:=T.out;omega) (by show t<24;omega);unfold encL at F;dsimp only at F;obtain ⟨fn,tmps,assign,body,hy,N⟩:=F
     have G:Hid (RoundIn Fence.wide (n' - 1) Tryz.prog l fn tmps assign body wr fun e W' =>
         (e=.returned (.bool true)∧J (litsL 0 (ps.take j)++litsTo j p n c++[⟨j,t,false⟩]) W'∧KpC B n1 wr W')∨(e=.returned (.bool false)∧Jx (litsL 0 (ps.take j)++litsTo j p n c++[⟨j,t,false⟩]) W')):=N
     clear N
     gi_wp2_with fail
     refine ⟨fun h=>(by cases h),?_⟩;refine G.out.mono ?_;rintro e W5 (⟨rfl,aM,ai⟩ | ⟨rfl,aE⟩)
     · have aO:Hid (J (litsL 0 (ps.take j)++(litsTo j p n c++[⟨j,t,false⟩])) W5):=by unfold Hid;rw [← List.append_assoc];exact aM
       have aN:Hid (KpC B n1 W W5):=ad.out.trans ai;have ao:=ay.out.kept ai ag;have aP:Hid (BoxP 48 W5 q p n):=ao;clear aM ai hy G y0 y1;obtain ⟨y0,y1⟩:=ao.cells;clear ao;cases hn:n.testBit t
       · rw [hn] at a7;have HE:Hid (litsTo j p n (t+1)=litsTo j p n c++[⟨j,t,false⟩]):=by unfold Hid;rw [z.out];simp [litAt,hp,hn]
         gi_wp2_with fail
         go_roundw
         case rel=>exact ⟨t+1,_,by omega,rfl,D.out,by rw [HE.out];exact aO.out,aN.out,aP.out⟩
         case measure=>simp [intOf];omega
       rw [hn] at a7;have HE:Hid (litsTo j p n (t+1)=litsTo j p n c++[⟨j,t,false⟩]++[⟨j,t,true⟩]):=by unfold Hid;rw [z.out];simp [litAt,hp,hn]
       have F:=HY.out (n' - 1) (litsL 0 (ps.take j)++(litsTo j p n c++[⟨j,t,false⟩])) ⟨j,t,true⟩ W5 aO.out (by have:=congrArg List.length HE.out;rw [List.length_append,List.length_singleton] at this;have:=M.out (t+1) (by omega);rw [List.length_append];omega) (by show j<6;have:=T.out;omega) (by show t<24;omega);unfold encL at F;dsimp only at F;obtain ⟨fn,tmps,assign,body,hy,N⟩:=F
       have G:Hid (RoundIn Fence.wide (n' - 1) Tryz.prog l fn tmps assign body W5 fun e W' =>
           (e=.returned (.bool true)∧J (litsL 0 (ps.take j)++(litsTo j p n c++[⟨j,t,false⟩])++[⟨j,t,true⟩]) W'∧KpC B n1 W5 W')∨(e=.returned (.bool false)∧Jx (litsL 0 (ps.take j)++(litsTo j p n c++[⟨j,t,false⟩])++[⟨j,t,true⟩]) W')):=N
       clear N
       gi_wp2_with fail
       refine ⟨fun h=>(by cases h),?_⟩;refine G.out.mono ?_;rintro e W6 (⟨rfl,a1,O⟩ | ⟨rfl,U⟩)
       · have ax:Hid (J (litsL 0 (ps.take j)++litsTo j p n (t+1)) W6):=by unfold Hid;rw [HE.out,← List.append_assoc];exact a1
         have av:Hid (KpC B n1 W W6):=aN.out.trans O;have az:Hid (BoxP 48 W6 q p n):=aP.out.kept O ag;clear a1 O hy G
         gi_wp2_with fail
         go_roundw
         case rel=>exact ⟨t+1,_,by omega,rfl,D.out,ax.out,av.out,az.out⟩
         case measure=>simp [intOf];omega
       have aq:Hid (Jx (litsL 0 (ps.take j)++(litsTo j p n c++[⟨j,t,false⟩])++[⟨j,t,true⟩]) W6):=U;have I:Hid ((litsL 0 (ps.take j)++(litsTo j p n c++[⟨j,t,false⟩])++[⟨j,t,true⟩]) <+: litsL 0 ps):=by unfold Hid;have:=A.out (t+1) (by omega);rw [HE.out,← List.append_assoc] at this;exact this
       clear U hy G
       gi_wp2_with fail
       (try simp only [Exit.inBlock,Exit.then]);refine bodyPost_ret (results_none rfl _ _ _) rfl ?_;exact ⟨⟨_,rfl⟩,.inr ⟨_,I.out,aq.out⟩⟩
     have aV:Hid (Jx (litsL 0 (ps.take j)++litsTo j p n c++[⟨j,t,false⟩]) W5):=aE
     have I:Hid ((litsL 0 (ps.take j)++litsTo j p n c++[⟨j,t,false⟩]) <+: litsL 0 ps):=by
      refine List.IsPrefix.trans ?_ (A.out (t+1) (by omega));rw [z.out,List.append_assoc];refine (List.prefix_append_right_inj _).2 ((List.prefix_append_right_inj _).2 ?_);simp [litAt,hp]
     clear aE hy G
     gi_wp2_with fail
     (try simp only [Exit.inBlock,Exit.then]);refine bodyPost_ret (results_none rfl _ _ _) rfl ?_;exact ⟨⟨_,rfl⟩,.inr ⟨_,I.out,aV.out⟩⟩
  have HE:Hid (litsL 0 (ps.take j)=litsL 0 ps):=by unfold Hid;rw [List.take_of_length_le (by rw [T.out];omega)]
  have aT:¬ (j:Int)<6:=by omega
  clear aa a0
  gi_wp2_with fail
  go_end0;exact ⟨⟨_,rfl⟩,.inl (by rw [← HE.out];exact b4.out)⟩
theorem lits_stops {lo hi B n1:Nat} (n Bt:Nat) {w0 w:World} (ak:hi≤B) (ap:B≤n1) (hg:2<B)
    {k f r u xp xn yp yn:Int} {ia:Option Addr} {im ic:Nat} {a b:Int} {xs:List (Int × Int)} (hR:RP lo hi w0 ia im ic xs) (aj:im=0∨im=4) (Y:∀ x∈six xp xn yp yn xs,partB x.1 x.2=true) (hT:TabD w0)
    (hb:Below B w0 w) (ah:n1≤w.heap.size) (ab:BoxK 51 w Bt k f r u xp xn yp yn (.slice ia im ic) a b) :
    SeqStopsK Fence.wide n Tryz.prog 104 #[.pointer (some ⟨Bt,0,none⟩)] encL (KpC B n1) (fun ys=>ys=litsL 0 (natP (six xp xn yp yn xs))) (fun pre=>pre <+: litsL 0 (natP (six xp xn yp yn xs))) (litsL 0 (natP (six xp xn yp yn xs))).length w:=fun _ _ _ W hW hJ _ hY h0 =>
 lits1_in hJ ak ap hg n Bt hR aj Y hT (fun m pre x W hj hl _ _=>yieldAt_wide m (hY pre x W hj hl)) W (hb.trans (hW.mono (Nat.le_trans ap ah))) (Nat.le_trans ah hW.size) ((hW.block Bt (Array.getElem?_eq_some_iff.1 ab).1).trans ab) h0
end Go.Proofs.YtellcgmabimieaaGreatDoor
