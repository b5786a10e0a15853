/- The program's Satisfies: whether what is told holds in a world. -/
import Derived.Test.YtnmljalcndfjmaaGreatNG27
import Derived.Test.YtnmljalcndfjmaaGreatSatI2b
import Derived.Test.YtnmljalcndfjmaaGreatSatI3b
import Derived.Test.YtnmljalcndfjmaaGreatAxImpl4
import Derived.Test.YtnmljalcndfjmaaGreatNG17
namespace Go.Proofs.YtnmljalcndfjmaaGreat
open Go.RowKit Go.Deep
set_option linter.unusedVariables false
theorem sat_any {na:Option Addr} {nn nc:Nat} {sa:Option Addr} {sn sc:Nat} {ra:Option Addr} {rn rc:Nat} {la:Option Addr} {ln lc:Nat} {ia:Option Addr} {im ic:Nat} {ta:Option Addr} {tn tc:Nat} {x:WD} {dp:Nat} {c0 c1 c2 c3 d0 d1 d2 d3:Value} {ea:Option Addr} {en ec:Nat} {fa:Option Addr} {fn fc:Nat} {aa:Option Addr} {an ac:Nat} {ba:Option Addr} {bn bc:Nat} {y:AX} {w:World} {lo hi lo' E:Nat} {L:Nat} (ak:worldB x=true) (hn:x.n=(L:Int)) (hL:1≤L∧L≤128) (h:RdW lo hi w na nn nc sa sn sc ra rn rc la ln lc ia im ic ta tn tc x) (ha:RdA lo' E w dp c0 c1 c2 c3 d0 d1 d2 d3 ea en ec fa fn fc aa an ac ba bn bc y) (A:hi≤w.heap.size) (q:E≤w.heap.size) (F:axOk y=true) (k:Int) (hk:k=y.kind) :
    Calls Tryz.prog 60 #[.agg #[.int .i64 L,.slice ia im ic,.slice ta tn tc,.int .i64 L,.slice na nn nc,.slice sa sn sc,.slice ra rn rc,.slice la ln lc,.slice ia im ic,.slice ta tn tc],.agg #[.int .i64 k,c0,c1,c2,c3,d0,d1,d2,d3,.slice ea en ec,.slice fa fn fc,.slice aa an ac,.slice ba bn bc]] w fun r w'=>r=.returned (.bool (satB x L y))∧Below w.heap.size w w':=by
 obtain ⟨_,_,aV,aU⟩:=ax_cons F;by_cases h0:k=0
 · subst h0;exact sat_sub ak hn hL h ha A q F hk.symm
 by_cases h1:k=1
 · subst h1;exact sat_eq ak hn hL h ha A q F hk.symm
 by_cases h2:k=2
 · subst h2;exact sat_dis ak hn hL h ha A q F hk.symm
 by_cases h3:k=3
 · subst h3;exact sat_roles ak hn hL h ha A q F hk.symm
 by_cases h4:k=4
 · subst h4;exact sat_is ak hn hL h ha A q F hk.symm
 obtain rfl:k=5:=by omega
 exact sat_rel ak hn hL h ha A q F hk.symm
set_option maxRecDepth 100000 in
set_option maxHeartbeats 8000000 in
theorem implSatisfies_any {na:Option Addr} {nn nc:Nat} {sa:Option Addr} {sn sc:Nat} {ra:Option Addr} {rn rc:Nat} {la:Option Addr} {ln lc:Nat} {ia:Option Addr} {im ic:Nat} {ta:Option Addr} {tn tc:Nat} {x:WD} {dp:Nat} {c0 c1 c2 c3 d0 d1 d2 d3:Value} {ea:Option Addr} {en ec:Nat} {fa:Option Addr} {fn fc:Nat} {aa:Option Addr} {an ac:Nat} {ba:Option Addr} {bn bc:Nat} {y:AX} {w:World} {lo hi lo' E:Nat} {nx:Int} (h:RdW lo hi w na nn nc sa sn sc ra rn rc la ln lc ia im ic ta tn tc x) (ha:RdA lo' E w dp c0 c1 c2 c3 d0 d1 d2 d3 ea en ec fa fn fc aa an ac ba bn bc y) (hn:x.n=nx) (A:hi≤w.heap.size) (q:E≤w.heap.size) (aC:y.c.bulk≤1048576) (aB:y.d.bulk≤1048576) (k:Int) (hk:k=y.kind) :
    Calls Tryz.prog 25 #[.agg #[.int .i64 nx,.slice na nn nc,.slice sa sn sc,.slice ra rn rc,.slice la ln lc,.slice ia im ic,.slice ta tn tc],.agg #[.int .i64 k,c0,c1,c2,c3,d0,d1,d2,d3,.slice ea en ec,.slice fa fn fc,.slice aa an ac,.slice ba bn bc]] w fun r w'=>r=.returned (.bool (satisB x y))∧Below w.heap.size w w':=by
 obtain ⟨xk,ad,a9,ab,a8,Z,a7,ag,ae,af,rfl,rfl,rfl,rfl⟩:=ha.c.sh.form;obtain ⟨yk,R,N,O,J,H,I,Y,T,X,rfl,rfl,rfl,rfl⟩:=ha.d.sh.form;obtain ⟨W0,al⟩:∃ W0,W0=(w.alloc (.cells #[.int .i64 nx,.slice na nn nc,.slice sa sn sc,.slice ra rn rc,.slice la ln lc,.slice ia im ic,.slice ta tn tc] 27)).alloc (.cells #[.int .i64 k,.int .i64 xk,.slice ad a9 ab,.slice a8 Z a7,.slice ag ae af,.int .i64 yk,.slice R N O,.slice J H I,.slice Y T X,.slice ea en ec,.slice fa fn fc,.slice aa an ac,.slice ba bn bc] 49):=⟨_,rfl⟩;have aN:Hid (W0=(w.alloc (.cells #[.int .i64 nx,.slice na nn nc,.slice sa sn sc,.slice ra rn rc,.slice la ln lc,.slice ia im ic,.slice ta tn tc] 27)).alloc (.cells #[.int .i64 k,.int .i64 xk,.slice ad a9 ab,.slice a8 Z a7,.slice ag ae af,.int .i64 yk,.slice R N O,.slice J H I,.slice Y T X,.slice ea en ec,.slice fa fn fc,.slice aa an ac,.slice ba bn bc] 49)):=al;have aL:W0.heap.size=w.heap.size+2:=by rw [al];simp
 have ap:Below w.heap.size w W0:=by rw [al];exact ((Below.refl _ _).alloc (Nat.le_refl _) _).alloc (by simp) _
 have aI:Hid (Below w.heap.size w W0):=ap;have aA:BoxW 27 W0 w.heap.size nx (.slice na nn nc) (.slice sa sn sc) (.slice ra rn rc) (.slice la ln lc) (.slice ia im ic) (.slice ta tn tc):=by rw [al];exact (BoxW.new _ w _ _ _ _ _ _ _).below ((Below.refl _ _).alloc (Nat.le_refl _) _) (by simp)
 have aD:BoxA 49 W0 (w.heap.size+1) k (.int .i64 xk) (.slice ad a9 ab) (.slice a8 Z a7) (.slice ag ae af) (.int .i64 yk) (.slice R N O) (.slice J H I) (.slice Y T X) (.slice ea en ec) (.slice fa fn fc) (.slice aa an ac) (.slice ba bn bc):=by
  rw [al];have:=BoxA.new 49 (w.alloc (.cells #[.int .i64 nx,.slice na nn nc,.slice sa sn sc,.slice ra rn rc,.slice la ln lc,.slice ia im ic,.slice ta tn tc] 27)) k (.int .i64 xk) (.slice ad a9 ab) (.slice a8 Z a7) (.slice ag ae af) (.int .i64 yk) (.slice R N O) (.slice J H I) (.slice Y T X) (.slice ea en ec) (.slice fa fn fc) (.slice aa an ac) (.slice ba bn bc)
  rwa [World.size_alloc] at this
 have D:Hid (∀ V,Below W0.heap.size W0 V→(V.cell? ⟨w.heap.size,0,none⟩=some (.int .i64 nx)∧V.cell? ⟨w.heap.size,1,none⟩=some (.slice na nn nc)∧V.cell? ⟨w.heap.size,2,none⟩=some (.slice sa sn sc)∧V.cell? ⟨w.heap.size,3,none⟩=some (.slice ra rn rc)∧V.cell? ⟨w.heap.size,4,none⟩=some (.slice la ln lc)∧V.cell? ⟨w.heap.size,5,none⟩=some (.slice ia im ic)∧V.cell? ⟨w.heap.size,6,none⟩=some (.slice ta tn tc))∧(V.cell? ⟨w.heap.size+1,0,none⟩=some (.int .i64 k)∧V.cell? ⟨w.heap.size+1,1,none⟩=some (.int .i64 xk)∧V.cell? ⟨w.heap.size+1,2,none⟩=some (.slice ad a9 ab)∧V.cell? ⟨w.heap.size+1,3,none⟩=some (.slice a8 Z a7)∧V.cell? ⟨w.heap.size+1,4,none⟩=some (.slice ag ae af)∧V.cell? ⟨w.heap.size+1,5,none⟩=some (.int .i64 yk)∧V.cell? ⟨w.heap.size+1,6,none⟩=some (.slice R N O)∧V.cell? ⟨w.heap.size+1,7,none⟩=some (.slice J H I)∧V.cell? ⟨w.heap.size+1,8,none⟩=some (.slice Y T X)∧V.cell? ⟨w.heap.size+1,9,none⟩=some (.slice ea en ec)∧V.cell? ⟨w.heap.size+1,10,none⟩=some (.slice fa fn fc)∧V.cell? ⟨w.heap.size+1,11,none⟩=some (.slice aa an ac)∧V.cell? ⟨w.heap.size+1,12,none⟩=some (.slice ba bn bc))):=fun V hV=>⟨(aA.below hV (by omega)).cells,(aD.below hV (by omega)).cells⟩
 have ar:Hid (∀ V,Below W0.heap.size W0 V→RdW lo hi V na nn nc sa sn sc ra rn rc la ln lc ia im ic ta tn tc x∧hi≤V.heap.size):=fun V hV=>⟨(h.below ap A).below hV (by omega),by have:=hV.size;omega⟩
 have au:Hid (∀ V,Below W0.heap.size W0 V→RdA lo' E V dp (.int .i64 xk) (.slice ad a9 ab) (.slice a8 Z a7) (.slice ag ae af) (.int .i64 yk) (.slice R N O) (.slice J H I) (.slice Y T X) ea en ec fa fn fc aa an ac ba bn bc y∧E≤V.heap.size):=fun V hV=>⟨(ha.below ap q).below hV (by omega),by have:=hV.size;omega⟩
 have G:Hid (∀ {V:World},Below W0.heap.size W0 V→Below w.heap.size w V):=fun {V} hV=>aI.out.trans (hV.mono aI.out.size)
 have HN:Hid (x.n=nx):=hn;have HK:Hid (k=y.kind):=hk;have aH:Hid (y.c.bulk≤1048576∧y.d.bulk≤1048576):=⟨aC,aB⟩;have aS:w.heap.size+2≤W0.heap.size:=by omega
 clear h ha A q ap aA aD al hn hk aL aC aB;go_enter Tryz.func25, Tryz.ntmps25;go_upto_region 1 with fail;rw [← aN.out];obtain ⟨⟨a0,a1,a2,a3,a4,a5,a6⟩,p0,p1,p2,p3,p4,p5,p6,p7,p8,p9,aj,ai,ah⟩:=D.out W0 (Below.refl _ _);go_wp2_with fail;refine (sceneOf_any (ar.out W0 (Below.refl _ _)).1 HN.out (ar.out W0 (Below.refl _ _)).2).mono ?_;rintro r w1 ⟨rfl,ay⟩;have H1:Hid (Below W0.heap.size W0 w1):=ay;have s1:=ay.size;clear ay a0 a1 a2 a3 a4 a5 a6 p0 p1 p2 p3 p4 p5 p6 p7 p8 p9 aj ai ah;obtain ⟨⟨a0,a1,a2,a3,a4,a5,a6⟩,p0,p1,p2,p3,p4,p5,p6,p7,p8,p9,aj,ai,ah⟩:=D.out w1 H1.out;cases hwo:worldB x with
 | false =>
  have HE:Hid (satisB x y=false):=by unfold Hid satisB;rw [hwo];rfl
  rw [show ∀ u v,whichV false u v=v from fun _ _=>rfl];obtain ⟨U,hU⟩:∃ U,U=w1.alloc (.cells #[.int .i64 0,.slice none 0 0,.slice none 0 0,.int .i64 0,.slice none 0 0,.slice none 0 0,.slice none 0 0,.slice none 0 0,.slice none 0 0,.slice none 0 0] 74):=⟨_,rfl⟩;have HU:Hid (U=w1.alloc (.cells #[.int .i64 0,.slice none 0 0,.slice none 0 0,.int .i64 0,.slice none 0 0,.slice none 0 0,.slice none 0 0,.slice none 0 0,.slice none 0 0,.slice none 0 0] 74)):=hU;have aQ:Hid (Below w.heap.size w U):=by unfold Hid;rw [hU];exact G.out (H1.out.alloc H1.out.size _)
  clear hwo hU;go_upto_region 2 with fail;rw [← HU.out];go_wp2_with fail;go_ret;exact ⟨rb' HE.out.symm,aQ.out⟩
 | true =>
  have aq:Hid (worldB x=true):=hwo;clear hwo;rw [show ∀ u v,whichV true u v=u from fun _ _=>rfl];obtain ⟨U,hU⟩:∃ U,U=w1.alloc (.cells #[.int .i64 nx,.slice ia im ic,.slice ta tn tc,.int .i64 nx,.slice na nn nc,.slice sa sn sc,.slice ra rn rc,.slice la ln lc,.slice ia im ic,.slice ta tn tc] 74):=⟨_,rfl⟩;have HU:Hid (U=w1.alloc (.cells #[.int .i64 nx,.slice ia im ic,.slice ta tn tc,.int .i64 nx,.slice na nn nc,.slice sa sn sc,.slice ra rn rc,.slice la ln lc,.slice ia im ic,.slice ta tn tc] 74)):=hU;have av:BoxS U w1.heap.size (.int .i64 nx) (.slice ia im ic) (.slice ta tn tc) (.int .i64 nx) (.slice na nn nc) (.slice sa sn sc) (.slice ra rn rc) (.slice la ln lc) (.slice ia im ic) (.slice ta tn tc):=by rw [hU];exact BoxS.new w1 _ _ _ _ _ _ _ _ _ _
  have am:Hid (Below W0.heap.size W0 U):=by unfold Hid;rw [hU];exact H1.out.alloc H1.out.size _
  have aT:w1.heap.size<U.heap.size:=by rw [hU];simp
  have aP:Hid (∀ V,Below U.heap.size U V→(V.cell? ⟨w1.heap.size,0,none⟩=some (.int .i64 nx)∧V.cell? ⟨w1.heap.size,1,none⟩=some (.slice ia im ic)∧V.cell? ⟨w1.heap.size,2,none⟩=some (.slice ta tn tc)∧V.cell? ⟨w1.heap.size,3,none⟩=some (.int .i64 nx)∧V.cell? ⟨w1.heap.size,4,none⟩=some (.slice na nn nc)∧V.cell? ⟨w1.heap.size,5,none⟩=some (.slice sa sn sc)∧V.cell? ⟨w1.heap.size,6,none⟩=some (.slice ra rn rc)∧V.cell? ⟨w1.heap.size,7,none⟩=some (.slice la ln lc)∧V.cell? ⟨w1.heap.size,8,none⟩=some (.slice ia im ic)∧V.cell? ⟨w1.heap.size,9,none⟩=some (.slice ta tn tc))):=fun V hV=>(av.below hV av.lt).cells
  have aO:Hid (∀ {V:World},Below U.heap.size U V→Below W0.heap.size W0 V):=fun {V} hV=>am.out.trans (hV.mono am.out.size)
  clear hU av;go_upto_region 2 with fail;rw [← HU.out];clear a0 a1 a2 a3 a4 a5 a6 p0 p1 p2 p3 p4 p5 p6 p7 p8 p9 aj ai ah;obtain ⟨⟨a0,a1,a2,a3,a4,a5,a6⟩,p0,p1,p2,p3,p4,p5,p6,p7,p8,p9,aj,ai,ah⟩:=D.out U am.out;go_wp2_with fail;refine (implAxiomOk_any (au.out U am.out).1 (au.out U am.out).2 aH.out.1 aH.out.2 k HK.out).mono ?_;rintro r w2 ⟨rfl,ax⟩;have aR:Hid (Below U.heap.size U w2):=ax;have H2:Hid (Below W0.heap.size W0 w2):=aO.out ax;clear ax a0 a1 a2 a3 a4 a5 a6 p0 p1 p2 p3 p4 p5 p6 p7 p8 p9 aj ai ah;obtain ⟨⟨a0,a1,a2,a3,a4,a5,a6⟩,p0,p1,p2,p3,p4,p5,p6,p7,p8,p9,aj,ai,ah⟩:=D.out w2 H2.out;obtain ⟨m0,m1,m2,m3,m4,m5,m6,m7,m8,m9⟩:=aP.out w2 aR.out;cases hao:axOk y with
  | false =>
   have HE:Hid (satisB x y=false):=by unfold Hid satisB;rw [aq.out,hao];rfl
   clear hao;go_wp2_with fail;go_ret;exact ⟨rb' HE.out.symm,G.out H2.out⟩
  | true =>
   have aJ:Hid (axOk y=true):=hao;clear hao;obtain ⟨L,hL⟩:∃ L,L=x.n.toNat:=⟨_,rfl⟩;have aK:=((worldB_iff x).1 aq.out).1.1;have aF:x.n=(L:Int):=by omega
   have ao:1≤L∧L≤128:=by omega
   have aM:nx=(L:Int):=by rw [← HN.out];exact aF
   subst aM;have HE:Hid (satisB x y=satB x L y):=by unfold Hid satisB;rw [aq.out,aJ.out,hL];rfl
   clear aK hL aF;obtain ⟨rr,az⟩:∃ rr,rr=satB x L y:=⟨_,rfl⟩;have aG:Hid (rr=satB x L y):=az;clear az;go_wp2_with fail;refine (sat_any aq.out HN.out ao (ar.out w2 H2.out).1 (au.out w2 H2.out).1 (ar.out w2 H2.out).2 (au.out w2 H2.out).2 aJ.out k HK.out).mono ?_;rintro r w3 ⟨rfl,aE⟩;rw [← aG.out];have H3:Hid (Below W0.heap.size W0 w3):=H2.out.trans (aE.mono H2.out.size);clear aE;go_wp2_with fail;go_ret;exact ⟨rb' (aG.out.trans HE.out.symm),G.out H3.out⟩
end Go.Proofs.YtnmljalcndfjmaaGreat
