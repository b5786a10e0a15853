/- Several texts in one: DrawMdl, DrawAxOk. -/
import Derived.Test.YtnmljalcndfjmaaGreatBentWd
import Derived.Test.YtnmljalcndfjmaaGreatDrawKb2
import Derived.Test.YtnmljalcndfjmaaGreatNG29
namespace Go.Proofs.YtnmljalcndfjmaaGreat

section
open Go.RowKit
theorem RdA.monoM {lo hi lo' H:Nat} {w:World} {dp:Nat} {c0 c1 c2 c3 d0 d1 d2 d3:Value} {ra:Option Addr} {rn rc:Nat} {sa:Option Addr} {sn sc:Nat} {aa:Option Addr} {an ac:Nat} {ba:Option Addr} {bn bc:Nat} {x:AX}
    (h:RdA lo hi w dp c0 c1 c2 c3 d0 d1 d2 d3 ra rn rc sa sn sc aa an ac ba bn bc x) (h1:lo'≤lo) (h2:hi≤H):RdA lo' H w dp c0 c1 c2 c3 d0 d1 d2 d3 ra rn rc sa sn sc aa an ac ba bn bc x :=
 ⟨RdC.mono h1 h2 h.c,RdC.mono h1 h2 h.d,h.r.mono h1 h2,h.s.mono h1 h2,h.a.mono h1 h2,h.b.mono h1 h2⟩
theorem RdK.monoM {lo hi lo' H dp:Nat} {w:World} {a:Option Addr} {n E:Nat} {xs:List AX} (h:RdK lo hi w dp a n E xs) (h1:lo'≤lo) (h2:hi≤H):RdK lo' H w dp a n E xs:=by
 obtain ⟨hl,hm,hc⟩:=h;refine ⟨hl,hm,?_⟩;rcases hc with h0 | ⟨b,off,e,q1,q2,hc⟩
 · exact .inl h0
 refine .inr ⟨b,off,e,by omega,by omega,fun i hi=>?_⟩;obtain ⟨c0,c1,c2,c3,d0,d1,d2,d3,ra,rn,rc,sa,sn,sc,aa,an,ac,ba,bn,bc,p0,p1,p2,p3,p4,p5,p6,p7,p8,p9,aj,ai,ah,hr⟩:=hc i hi;exact ⟨c0,c1,c2,c3,d0,d1,d2,d3,ra,rn,rc,sa,sn,sc,aa,an,ac,ba,bn,bc,p0,p1,p2,p3,p4,p5,p6,p7,p8,p9,aj,ai,ah,hr.monoM h1 h2⟩
def DmP (w:World) (e:Ending) (w':World):Prop :=
 ∃ (nx:Int) (a1:Option Addr) (n1 c1:Nat) (a2:Option Addr) (n2 c2:Nat) (a3:Option Addr) (n3 c3:Nat) (a4:Option Addr) (n4 c4:Nat) (a5:Option Addr) (n5 c5:Nat) (a6:Option Addr) (n6 c6:Nat) (x:WD) (va:Option Addr) (m vc:Nat) (xs:List AX),e=.returned (.tuple #[.agg #[.int .i64 nx,.slice a1 n1 c1,.slice a2 n2 c2,.slice a3 n3 c3,.slice a4 n4 c4,.slice a5 n5 c5,.slice a6 n6 c6],.agg #[.slice va m vc]])∧(-1≤nx∧nx≤129)∧x.n=nx∧RdW w.heap.size w'.heap.size w' a1 n1 c1 a2 n2 c2 a3 n3 c3 a4 n4 c4 a5 n5 c5 a6 n6 c6 x∧RdK w.heap.size w'.heap.size w' 20 va m vc xs∧(∀ x∈xs,AxSm x)∧m≤9∧Below w.heap.size w w'
set_option maxRecDepth 100000 in
set_option maxHeartbeats 4000000 in
theorem drawMdl_any {a:Option Addr} {n E:Nat} {zs:List Int} {w:World} (h:Rd 0 w.heap.size w a n E zs) :
    Calls Tryz.prog 23 #[.slice a n E] w (DmP w):=by
 obtain ⟨W0,U⟩:∃ W,Hid (W=(w.alloc (.cells #[.int .i64 0,.slice none 0 0,.slice none 0 0,.slice none 0 0,.slice none 0 0,.slice none 0 0,.slice none 0 0] 27)).alloc (.cells #[.slice none 0 0] 42)):=⟨_,rfl⟩;have ag:Hid (Below w.heap.size w W0):=by unfold Hid;rw [U.out];exact ((Below.refl _ _).alloc (Nat.le_refl _) _).alloc (by simp) _
 have ap:Hid (BoxW 27 W0 w.heap.size 0 (.slice none 0 0) (.slice none 0 0) (.slice none 0 0) (.slice none 0 0) (.slice none 0 0) (.slice none 0 0)):=by unfold Hid;rw [U.out];exact (allocOld (by simp)).trans (BoxW.new _ w _ _ _ _ _ _ _)
 have af:Hid (W0.heap[w.heap.size+1]?=some (.cells #[.slice none 0 0] 42 (0,0))):=by
  unfold Hid;rw [U.out];have:=World.alloc_heap_new (w.alloc (.cells #[.int .i64 0,.slice none 0 0,.slice none 0 0,.slice none 0 0,.slice none 0 0,.slice none 0 0,.slice none 0 0] 27)) (.cells #[.slice none 0 0] 42)
  rwa [World.size_alloc] at this
 have ar:Hid (Rd 0 w.heap.size W0 a n E zs):=h.below ag.out (Nat.le_refl _);have ao:w.heap.size+1<W0.heap.size:=(Array.getElem?_eq_some_iff.1 af.out).1;clear h;go_enter Tryz.func23, Tryz.ntmps23;go_wp2_with fail;rw [← U.out];refine (l1New_any ar.out (by omega)).mono ?_;rintro e w1 ⟨rfl,V,ae⟩;have ay:Hid (Cur w1 W0.heap.size a n E zs w.heap.size):=V;have Z:Hid (Below W0.heap.size W0 w1):=ae;have aJ:=V.lt;clear V ae;go_wp2_with fail;refine (l4bent_any ay.out).mono ?_;rintro e w2 hD;obtain ⟨nx,a1,n1,c1,a2,n2,c2,a3,n3,c3,a4,n4,c4,a5,n5,c5,a6,n6,c6,x,rfl,hn,hx,hr,a9,G⟩:=hD;have ax:Hid (Cur w2 W0.heap.size a n E zs w.heap.size):=a9;have Y:Hid (Bt W0.heap.size w1.heap.size w1 w2):=G;have aq:Hid (RdW w1.heap.size w2.heap.size w2 a1 n1 c1 a2 n2 c2 a3 n3 c3 a4 n4 c4 a5 n5 c5 a6 n6 c6 x):=hr;have HN:Hid ((-1≤nx∧nx≤129)∧x.n=nx):=⟨hn,hx⟩;have aI:=G.size;clear hn hx hr a9 G;go_wp2_with fail;refine (l3bent_any ax.out).mono ?_;rintro e w3 hD;obtain ⟨va,m,vc,vs,rfl,N,hm,_,y⟩:=hD;have au:Hid (OwnAx w2.heap.size w3.heap.size w3 (.slice va m vc) m vs):=N;have av:Hid (m≤9):=hm;have am:=y.size;have a0:Hid (RdW w1.heap.size w2.heap.size w3 a1 n1 c1 a2 n2 c2 a3 n3 c3 a4 n4 c4 a5 n5 c5 a6 n6 c6 x):=aq.out.same (fun b h1 h2=>y.block b h2 (by omega));have az:Hid (Below w.heap.size w w3):=((ag.out.trans (Z.out.mono (by omega))).trans (Y.out.below (by omega) (by omega))).trans (y.below (by omega) (by omega))
 have D:Hid (BoxW 27 w3 w.heap.size 0 (.slice none 0 0) (.slice none 0 0) (.slice none 0 0) (.slice none 0 0) (.slice none 0 0) (.slice none 0 0)):=(y.block _ (by omega) (by omega)).trans ((Y.out.block _ (by omega) (by omega)).trans ((Z.out.block _ (by omega)).trans ap.out));have X:Hid (w3.heap[w.heap.size+1]?=some (.cells #[.slice none 0 0] 42 (0,0))):=(y.block _ (by omega) (by omega)).trans ((Y.out.block _ (by omega) (by omega)).trans ((Z.out.block _ ao).trans af.out));obtain ⟨z0,z1,z2,z3,z4,z5,z6⟩:=D.out.cells;have y0:w3.cell? ⟨w.heap.size+1,0,none⟩=some (.slice none 0 0):=by simp [World.cell?,X.out]
 have aH:w3.frozen? ⟨w.heap.size+1,0,none⟩=false:=by simp [World.frozen?,X.out]
 have aG:=D.out.frz 0;have aF:=D.out.frz 1;have aE:=D.out.frz 2;have aD:=D.out.frz 3;have aC:=D.out.frz 4;have aB:=D.out.frz 5;have aA:=D.out.frz 6;clear N hm y;have ad:BoxW 27 (put7 w3 w.heap.size (.int .i64 nx) (.slice a1 n1 c1) (.slice a2 n2 c2) (.slice a3 n3 c3) (.slice a4 n4 c4) (.slice a5 n5 c5) (.slice a6 n6 c6)) w.heap.size nx (.slice a1 n1 c1) (.slice a2 n2 c2) (.slice a3 n3 c3) (.slice a4 n4 c4) (.slice a5 n5 c5) (.slice a6 n6 c6):=put7_box D.out _ _ _ _ _ _ _;have ab:(put7 w3 w.heap.size (.int .i64 nx) (.slice a1 n1 c1) (.slice a2 n2 c2) (.slice a3 n3 c3) (.slice a4 n4 c4) (.slice a5 n5 c5) (.slice a6 n6 c6)).heap[w.heap.size+1]?=some (.cells #[.slice none 0 0] 42 (0,0)):=(put7_other _ _ _ _ _ _ _ _ (by omega)).trans X.out;obtain ⟨W4,F⟩:∃ W,W=(put7 w3 w.heap.size (.int .i64 nx) (.slice a1 n1 c1) (.slice a2 n2 c2) (.slice a3 n3 c3) (.slice a4 n4 c4) (.slice a5 n5 c5) (.slice a6 n6 c6)).setCell ⟨w.heap.size+1,0,none⟩ (.slice va m vc):=⟨_,rfl⟩
 have R:∀ q,q≠w.heap.size→q≠w.heap.size+1→W4.heap[q]?=w3.heap[q]?:=fun q h1 h2=>by
  rw [F];exact (Below.heap_setCell _ _ _ _ (by show q≠w.heap.size+1;exact h2)).trans (put7_other _ _ _ _ _ _ _ _ h1)
 have O:BoxW 27 W4 w.heap.size nx (.slice a1 n1 c1) (.slice a2 n2 c2) (.slice a3 n3 c3) (.slice a4 n4 c4) (.slice a5 n5 c5) (.slice a6 n6 c6):=by rw [F];exact (Below.heap_setCell _ _ _ _ (by show w.heap.size≠w.heap.size+1;omega)).trans ad
 have a8:(put7 w3 w.heap.size (.int .i64 nx) (.slice a1 n1 c1) (.slice a2 n2 c2) (.slice a3 n3 c3) (.slice a4 n4 c4) (.slice a5 n5 c5) (.slice a6 n6 c6)).cell? ⟨w.heap.size+1,0,none⟩=some (.slice none 0 0):=by simp [World.cell?,ab]
 have t0:W4.cell? ⟨w.heap.size+1,0,none⟩=some (.slice va m vc):=by rw [F];exact World.cell?_setCell_same _ _ _ a8
 clear a8;have J:W4.heap.size=w3.heap.size:=by rw [F];simp [put7]
 have T:W4.os=w3.os∧W4.tape=w3.tape∧W4.output=w3.output:=by
  rw [F];have:=put7_keep w3 w.heap.size (.int .i64 nx) (.slice a1 n1 c1) (.slice a2 n2 c2) (.slice a3 n3 c3) (.slice a4 n4 c4) (.slice a5 n5 c5) (.slice a6 n6 c6);simp only [setCell_os,setCell_tape,setCell_output];exact this
 have HF:Hid (DmP w (.returned (.tuple #[.agg #[.int .i64 nx,.slice a1 n1 c1,.slice a2 n2 c2,.slice a3 n3 c3,.slice a4 n4 c4,.slice a5 n5 c5,.slice a6 n6 c6],.agg #[.slice va m vc]])) W4):=by
  have I:=az.out;have al:Same w1.heap.size w3.heap.size w3 W4:=fun q h1 _=>R q (by omega) (by omega)
  have a7:w3.heap.size≤W4.heap.size:=Nat.le_of_eq J.symm;obtain ⟨a',c',xs,e,hk,ak⟩:=(au.out.same (fun b h1 h2 _=>R b (by omega) (by omega)) a7).rd;injection e with e1 _ e3
  subst e1 e3;exact ⟨nx,a1,n1,c1,a2,n2,c2,a3,n3,c3,a4,n4,c4,a5,n5,c5,a6,n6,c6,x,_,_,_,xs,rfl,HN.out.1,HN.out.2,(a0.out.same (al.mono (Nat.le_refl _) am)).mono (by omega) (by omega),hk.monoM (by omega) (Nat.le_refl _),ak,av.out,⟨T.1.trans I.os,T.2.1.trans I.tape,T.2.2.trans I.output,Nat.le_trans I.size a7,fun q hq=>(R q (by omega) (by omega)).trans (I.block q hq)⟩⟩
 obtain ⟨x0,x1,x2,x3,x4,x5,x6⟩:=O.cells;clear ad ab O J T R;rw [F] at x0 x1 x2 x3 x4 x5 x6 t0 HF;clear F;simp only [put7] at x0 x1 x2 x3 x4 x5 x6 t0 HF;go_wp2;refine bodyPost_ret (v:=.tuple #[.agg #[.int .i64 nx,.slice a1 n1 c1,.slice a2 n2 c2,.slice a3 n3 c3,.slice a4 n4 c4,.slice a5 n5 c5,.slice a6 n6 c6],.agg #[.slice va m vc]]) (by simp [results, Tryz.results23,go_sem,x0,x1,x2,x3,x4,x5,x6,t0]) rfl ?_;exact HF.out
end

section
open Go.RowKit
def DoP (w:World) (e:Ending) (w':World):Prop:=∃ (kd:Int) (v:Value),e=.returned v∧AxV w.heap.size w' kd v∧Below w.heap.size w w'
theorem doFin {w V:World} {lo:Nat} {kd:Int} {cs:Array Value} (hv:AxV lo V kd (.agg cs)) (aS:w.heap.size<lo) (hb:Below w.heap.size w V) (hx:V.heap[w.heap.size]?=some (.cells zeroA 49 (0,0))) :
    DoP w (.returned (.agg cs)) (V.setRow w.heap.size cs)∧(V.setRow w.heap.size cs).heap[w.heap.size]?=some (.cells cs 49 (0,0)):=by
 have ho:∀ q,q≠w.heap.size→(V.setRow w.heap.size cs).heap[q]?=V.heap[q]?:=fun q hq=>setRow_other V w.heap.size q cs hq
 have hs:(V.setRow w.heap.size cs).heap.size=V.heap.size:=setRow_size _ _ _;refine ⟨⟨kd,_,rfl,?_,⟨hb.os,hb.tape,hb.output,by rw [hs];exact hb.size,fun q hq=>(ho q (by omega)).trans (hb.block q hq)⟩⟩,setRow_heap V w.heap.size zeroA cs _ _ hx⟩;obtain ⟨c0,c1,c2,c3,d0,d1,d2,d3,ra,rn,rc,sa,sn,sc,aa,an,ac,ba,bn,bc,x,e,hk,hr,aP⟩:=hv;have y:Same lo V.heap.size V (V.setRow w.heap.size cs):=fun q h1 _=>ho q (by omega)
 have ak:w.heap.size≤lo:=Nat.le_of_lt aS;rw [AxV,hs];exact ⟨c0,c1,c2,c3,d0,d1,d2,d3,ra,rn,rc,sa,sn,sc,aa,an,ac,ba,bn,bc,x,e,hk,⟨RdC.mono ak (Nat.le_refl _) (RdC.same y hr.c),RdC.mono ak (Nat.le_refl _) (RdC.same y hr.d),(hr.r.same y).mono ak (Nat.le_refl _),(hr.s.same y).mono ak (Nat.le_refl _),(hr.a.same y).mono ak (Nat.le_refl _),(hr.b.same y).mono ak (Nat.le_refl _)⟩,aP⟩
set_option maxRecDepth 100000 in
set_option maxHeartbeats 4000000 in
theorem drawAxOk_any {a:Option Addr} {n am:Nat} {zs:List Int} {w:World} (h:Rd 0 w.heap.size w a n am zs) :
    Calls Tryz.prog 26 #[.slice a n am] w (DoP w):=by
 obtain ⟨W0,aE⟩:∃ W,Hid (W=w.alloc (.cells #[.int .i64 0,.int .i64 0,.slice none 0 0,.slice none 0 0,.slice none 0 0,.int .i64 0,.slice none 0 0,.slice none 0 0,.slice none 0 0,.slice none 0 0,.slice none 0 0,.slice none 0 0,.slice none 0 0] 49)):=⟨_,rfl⟩;have aN:Hid (Below w.heap.size w W0):=by unfold Hid;rw [aE.out];exact (Below.refl _ _).alloc (Nat.le_refl _) _
 have aL:Hid (W0.heap[w.heap.size]?=some (.cells zeroA 49 (0,0))):=by unfold Hid;rw [aE.out];exact World.alloc_heap_new w _
 have aU:Hid (Rd 0 w.heap.size W0 a n am zs):=h.below aN.out (Nat.le_refl _);have aR:w.heap.size<W0.heap.size:=(Array.getElem?_eq_some_iff.1 aL.out).1;clear h;go_enter Tryz.func26, Tryz.ntmps26;go_wp2_with fail;rw [← aE.out];refine (l1New_any aU.out (by omega)).mono ?_;rintro e w1 ⟨rfl,aq,ar⟩;obtain ⟨B,aI⟩:∃ B,B=W0.heap.size:=⟨_,rfl⟩;rw [← aI] at aq ⊢;have bd:B<w1.heap.size:=aq.lt;have b5:w.heap.size<B:=by omega
 have aX:Hid (Cur w1 B a n am zs w.heap.size):=aq;have aY:Hid (Below w.heap.size w w1):=aN.out.trans (ar.mono (by omega));have aT:Hid (w1.heap[w.heap.size]?=some (.cells zeroA 49 (0,0))):=(ar.block _ aR).trans aL.out;clear aq ar aI;go_wp2_with fail;refine (l3bent_any aX.out).mono ?_;rintro e w2 hD;obtain ⟨va,m,vc,vs,rfl,ao,hm,aB,X⟩:=hD;obtain ⟨a',c',xs,e,hk,aG⟩:=ao.rd;injection e with e1 _ e3
 subst e1 e3;have b6:=X.size;obtain ⟨W3,au⟩:∃ W,Hid (W=w2.alloc (.cells #[.slice va m vc] 42)):=⟨_,rfl⟩;have al:Below w2.heap.size w2 W3:=by rw [au.out];exact (Below.refl _ _).alloc (Nat.le_refl _) _
 have aQ:w2.heap.size≤W3.heap.size:=al.size;have aW:Hid (Cur W3 B a n am zs w.heap.size):=aB.of (al.mono aB.lt);have aV:Hid (RdK w1.heap.size w2.heap.size W3 20 va m vc xs):=hk.below al (Nat.le_refl _);have aJ:Hid ((∀ x∈xs,AxSm x)∧m≤9):=⟨aG,hm⟩
 have y0:W3.cell? ⟨w2.heap.size,0,none⟩=some (.slice va m vc):=by
  have e:W3.heap[w2.heap.size]?=some (.cells #[.slice va m vc] 42 (0,0)):=by rw [au.out];exact World.alloc_heap_new w2 _
  simp [World.cell?,e]
 have aD:Hid (W3.heap[w.heap.size]?=some (.cells zeroA 49 (0,0))):=(al.block _ (by omega)).trans ((X.block _ (by omega) (by omega)).trans aT.out);have aM:Hid (Below w.heap.size w W3):=(aY.out.trans (X.below (by omega) (by omega))).trans (al.mono (by omega));clear ao hm aB X hk aG al;by_cases hm0:m=0
 · subst hm0;go_upto_region 3 with fail;rw [← au.out];go_wp2_with fail;refine (l3axiomDraw_any aW.out).mono ?_;rintro e w4 hP;obtain ⟨kd,v,rfl,hv,_,_,aC⟩:=hP;obtain ⟨cs,rfl,av,aF⟩:=AxV.one hv;have aK:Hid (w4.heap[w.heap.size]?=some (.cells zeroA 49 (0,0))):=(aC.block _ (by omega) (by omega)).trans aD.out;have HF:Hid (DoP w (.returned (.agg cs)) (w4.setRow w.heap.size cs)∧(w4.setRow w.heap.size cs).heap[w.heap.size]?=some (.cells cs 49 (0,0))):=doFin hv (by omega) (aM.out.trans (aC.below (by omega) (by omega))) aK.out;clear hv aC;go_wp2_with (first | (refine wpList_store_row rfl 49 (.tmp 2) (.tmp 14) rfl w.heap.size cs rfl rfl 49 zeroA aK.out (by rw [av];exact infoAx13) (by rw [av];rfl) aF ?_) | fail);refine bodyPost_ret (v:=.agg cs) (results_cell_row rfl _ _ w.heap.size 49 cs (0,0) _ rfl HF.out.2 Tryz.underlying49 rfl (by rw [av];exact infoAx13)) rfl ?_;exact HF.out.1
 have b9:((m:Int) == 0)=false:=by simp;omega
 obtain ⟨p,hp⟩:∃ p,m=p+1:=⟨m - 1,by omega⟩;have b4:IntKind.i64.wrap ((m:Int) - 1)=(p:Int):=by rw [wrap64_id (by have:=aJ.out.2;omega)];omega
 have b7:(p:Int)<(m:Int):=by omega
 have b8:(0:Int)≤(p:Int):=by omega
 have ax:=aV.out
 obtain ⟨b1,o1,aO,ar,bb,ai⟩:∃ b1 o1,va=some ⟨b1,o1,none⟩∧w1.heap.size≤b1∧b1<w2.heap.size∧Ax13 w1.heap.size w2.heap.size W3 20 b1 (o1+p*13) (xs.getD p AX.zero):=by
  rcases ax.cells with h0 | ⟨b1,o1,e,q1,q2,hc⟩
  · omega
  exact ⟨b1,o1,e,q1,q2,hc p (by omega)⟩
 subst aO;obtain ⟨x,hx⟩:∃ x,x=xs.getD p AX.zero:=⟨_,rfl⟩;rw [← hx] at ai
 have aH:AxSm x:=by
  have hl:=ax.len;apply aJ.out.1;rw [hx];simp [List.getD,show p<xs.length from by omega]
 obtain ⟨c0,c1,c2,c3,d0,d1,d2,d3,I,G,H,F,D,E,U,R,T,O,J,N,q0,q1,q2,q3,q4,q5,q6,q7,q8,q9,b3,b2,aZ,ap⟩:=ai;have aj:=ap;obtain ⟨rfl,⟨ah,af,ag,rfl⟩,⟨ae,ab,ad,rfl⟩,⟨a9,a7,a8,rfl⟩⟩:=ap.c.formS;obtain ⟨rfl,⟨a6,a4,a5,rfl⟩,⟨a3,a1,a2,rfl⟩,⟨a0,Y,Z,rfl⟩⟩:=ap.d.formS;obtain ⟨kd,ay⟩:∃ k,k=x.kind:=⟨_,rfl⟩;obtain ⟨ck,aA⟩:∃ k,k=x.c.kind:=⟨_,rfl⟩;obtain ⟨dk,az⟩:∃ k,k=x.d.kind:=⟨_,rfl⟩;rw [← ay] at q0;rw [← aA] at q1;rw [← az] at q5
 have HV:Hid (AxV w1.heap.size W3 kd (.agg #[.int .i64 kd,.int .i64 ck,.slice ah af ag,.slice ae ab ad,.slice a9 a7 a8,.int .i64 dk,.slice a6 a4 a5,.slice a3 a1 a2,.slice a0 Y Z,.slice I G H,.slice F D E,.slice U R T,.slice O J N])):=by
  rw [← aA,← az] at aj;exact ⟨_,_,_,_,_,_,_,_,I,G,H,F,D,E,U,R,T,O,J,N,x,rfl,ay.symm,aj.monoM (Nat.le_refl _) aQ,aH⟩
 have HF:Hid (DoP w (.returned (.agg #[.int .i64 kd,.int .i64 ck,.slice ah af ag,.slice ae ab ad,.slice a9 a7 a8,.int .i64 dk,.slice a6 a4 a5,.slice a3 a1 a2,.slice a0 Y Z,.slice I G H,.slice F D E,.slice U R T,.slice O J N])) (W3.setRow w.heap.size #[.int .i64 kd,.int .i64 ck,.slice ah af ag,.slice ae ab ad,.slice a9 a7 a8,.int .i64 dk,.slice a6 a4 a5,.slice a3 a1 a2,.slice a0 Y Z,.slice I G H,.slice F D E,.slice U R T,.slice O J N])∧(W3.setRow w.heap.size #[.int .i64 kd,.int .i64 ck,.slice ah af ag,.slice ae ab ad,.slice a9 a7 a8,.int .i64 dk,.slice a6 a4 a5,.slice a3 a1 a2,.slice a0 Y Z,.slice I G H,.slice F D E,.slice U R T,.slice O J N]).heap[w.heap.size]?=some (.cells #[.int .i64 kd,.int .i64 ck,.slice ah af ag,.slice ae ab ad,.slice a9 a7 a8,.int .i64 dk,.slice a6 a4 a5,.slice a3 a1 a2,.slice a0 Y Z,.slice I G H,.slice F D E,.slice U R T,.slice O J N] 49 (0,0))):=doFin HV.out (by omega) aM.out aD.out;clear ap aj hx aH ax ay aA az hp hm0;go_upto_region 3 with fail;rw [← au.out];go_wp2_with (first | (refine wpList_store_row rfl 49 (.tmp 2) (.tmp 22) rfl w.heap.size #[.int .i64 kd,.int .i64 ck,.slice ah af ag,.slice ae ab ad,.slice a9 a7 a8,.int .i64 dk,.slice a6 a4 a5,.slice a3 a1 a2,.slice a0 Y Z,.slice I G H,.slice F D E,.slice U R T,.slice O J N] rfl rfl 49 zeroA aD.out infoAx13 rfl (by simp [Value.oneCell']) ?_) | fail)
 refine bodyPost_ret (v:=.agg #[.int .i64 kd,.int .i64 ck,.slice ah af ag,.slice ae ab ad,.slice a9 a7 a8,.int .i64 dk,.slice a6 a4 a5,.slice a3 a1 a2,.slice a0 Y Z,.slice I G H,.slice F D E,.slice U R T,.slice O J N]) (results_cell_row rfl _ _ w.heap.size 49 #[.int .i64 kd,.int .i64 ck,.slice ah af ag,.slice ae ab ad,.slice a9 a7 a8,.int .i64 dk,.slice a6 a4 a5,.slice a3 a1 a2,.slice a0 Y Z,.slice I G H,.slice F D E,.slice U R T,.slice O J N] (0,0) _ rfl HF.out.2 Tryz.underlying49 rfl infoAx13) rfl ?_;exact HF.out.1
end

end Go.Proofs.YtnmljalcndfjmaaGreat
