/- The program's IsModel: whether all that is told holds in a world. -/
import Derived.Test.YtnmljalcndfjmaaGreatNG25
import Derived.Test.YtnmljalcndfjmaaGreatSatI4
import Derived.Deep.RegionHeld3
import Derived.Deep.DeepCutAuto
namespace Go.Proofs.YtnmljalcndfjmaaGreat
open Go.RowKit Go.Deep
set_option linter.unusedVariables false
set_option maxRecDepth 100000 in
set_option maxHeartbeats 8000000 in
theorem isModel1_any {na:Option Addr} {nn nc:Nat} {sa:Option Addr} {sn sc:Nat} {ra:Option Addr} {rn rc:Nat} {la:Option Addr} {ln lc:Nat} {ia:Option Addr} {im ic:Nat} {ta:Option Addr} {tn tc:Nat} {x:WD} {dp:Nat} {c0 c1 c2 c3 d0 d1 d2 d3:Value} {ea:Option Addr} {en ec:Nat} {fa:Option Addr} {fn fc:Nat} {aa:Option Addr} {an ac:Nat} {ba:Option Addr} {bn bc:Nat} {y:AX} {w:World} {lo hi lo' D sb:Nat} {L:Nat} (O:worldB x=true) (hn:x.n=(L:Int)) (hL:1≤L∧L≤128) (h:RdW lo hi w na nn nc sa sn sc ra rn rc la ln lc ia im ic ta tn tc x) (ha:RdA lo' D w dp c0 c1 c2 c3 d0 d1 d2 d3 ea en ec fa fn fc aa an ac ba bn bc y) (E:hi≤w.heap.size) (A:D≤w.heap.size) (R:axOk y=true) (k:Int) (hk:k=y.kind) (hs:BoxS w sb (.int .i64 L) (.slice ia im ic) (.slice ta tn tc) (.int .i64 L) (.slice na nn nc) (.slice sa sn sc) (.slice ra rn rc) (.slice la ln lc) (.slice ia im ic) (.slice ta tn tc)) :
    Calls Tryz.prog 59 #[.agg #[.int .i64 k,c0,c1,c2,c3,d0,d1,d2,d3,.slice ea en ec,.slice fa fn fc,.slice aa an ac,.slice ba bn bc],.pointer (some ⟨sb,0,none⟩)] w fun r w'=>r=.returned (.bool (!(satB x L y)))∧Below w.heap.size w w':=by
 obtain ⟨xk,aB,az,aA,ay,av,ax,aE,aC,aD,rfl,rfl,rfl,rfl⟩:=ha.c.sh.form;obtain ⟨yk,ap,am,ao,al,aj,ak,au,aq,ar,rfl,rfl,rfl,rfl⟩:=ha.d.sh.form;obtain ⟨W0,G⟩:∃ W0,W0=w.alloc (.cells #[.int .i64 k,.int .i64 xk,.slice aB az aA,.slice ay av ax,.slice aE aC aD,.int .i64 yk,.slice ap am ao,.slice al aj ak,.slice au aq ar,.slice ea en ec,.slice fa fn fc,.slice aa an ac,.slice ba bn bc] 49):=⟨_,rfl⟩;have aL:Hid (W0=w.alloc (.cells #[.int .i64 k,.int .i64 xk,.slice aB az aA,.slice ay av ax,.slice aE aC aD,.int .i64 yk,.slice ap am ao,.slice al aj ak,.slice au aq ar,.slice ea en ec,.slice fa fn fc,.slice aa an ac,.slice ba bn bc] 49)):=G;have F:Below w.heap.size w W0:=by rw [G];exact (Below.refl _ _).alloc (Nat.le_refl _) _
 have ad:Hid (Below w.heap.size w W0):=F;obtain ⟨p0,p1,p2,p3,p4,p5,p6,p7,p8,p9,bs,bq,bp⟩:(W0.cell? ⟨w.heap.size,0,none⟩=some (.int .i64 k)∧W0.cell? ⟨w.heap.size,1,none⟩=some (.int .i64 xk)∧W0.cell? ⟨w.heap.size,2,none⟩=some (.slice aB az aA)∧W0.cell? ⟨w.heap.size,3,none⟩=some (.slice ay av ax)∧W0.cell? ⟨w.heap.size,4,none⟩=some (.slice aE aC aD)∧W0.cell? ⟨w.heap.size,5,none⟩=some (.int .i64 yk)∧W0.cell? ⟨w.heap.size,6,none⟩=some (.slice ap am ao)∧W0.cell? ⟨w.heap.size,7,none⟩=some (.slice al aj ak)∧W0.cell? ⟨w.heap.size,8,none⟩=some (.slice au aq ar)∧W0.cell? ⟨w.heap.size,9,none⟩=some (.slice ea en ec)∧W0.cell? ⟨w.heap.size,10,none⟩=some (.slice fa fn fc)∧W0.cell? ⟨w.heap.size,11,none⟩=some (.slice aa an ac)∧W0.cell? ⟨w.heap.size,12,none⟩=some (.slice ba bn bc)):=by rw [G];exact (BoxA.new 49 w _ _ _ _ _ _ _ _ _ _ _ _ _).cells
 obtain ⟨a0,a1,a2,a3,a4,a5,a6,a7,a8,a9⟩:=(hs.below F hs.lt).cells;obtain ⟨rr,H⟩:∃ rr,rr=satB x L y:=⟨_,rfl⟩;have HC:Hid (Calls Tryz.prog 60 #[.agg #[.int .i64 L,.slice ia im ic,.slice ta tn tc,.int .i64 L,.slice na nn nc,.slice sa sn sc,.slice ra rn rc,.slice la ln lc,.slice ia im ic,.slice ta tn tc],.agg #[.int .i64 k,.int .i64 xk,.slice aB az aA,.slice ay av ax,.slice aE aC aD,.int .i64 yk,.slice ap am ao,.slice al aj ak,.slice au aq ar,.slice ea en ec,.slice fa fn fc,.slice aa an ac,.slice ba bn bc]] W0 fun r w'=>r=.returned (.bool (satB x L y))∧Below W0.heap.size W0 w'):=sat_any O hn hL (h.below F E) (ha.below F A) (Nat.le_trans E F.size) (Nat.le_trans A F.size) R k hk;have I:Hid (rr=satB x L y):=H;clear h ha E A F G O hn hk R hs H;go_enter Tryz.func59, Tryz.ntmps59;go_upto_region 1 with fail;rw [← aL.out];go_wp2_with fail;refine HC.out.mono ?_;rintro r w1 ⟨rfl,X⟩;rw [← I.out];have H1:Hid (Below w.heap.size w w1):=ad.out.trans (X.mono ad.out.size);clear X;go_wp2_with fail;go_ret;exact ⟨rb' (by rw [I.out]),H1.out⟩
set_option maxRecDepth 100000 in
set_option maxHeartbeats 8000000 in
theorem indexM_any {na:Option Addr} {nn nc:Nat} {sa:Option Addr} {sn sc:Nat} {ra:Option Addr} {rn rc:Nat} {la:Option Addr} {ln lc:Nat} {ia:Option Addr} {im ic:Nat} {ta:Option Addr} {tn tc:Nat} {x:WD} {dp:Nat} {ka:Option Addr} {kn kc:Nat} {xs:List AX} {w:World} {lo hi lo' D sb:Nat} {L:Nat} (O:worldB x=true) (hn:x.n=(L:Int)) (hL:1≤L∧L≤128) (h:RdW lo hi w na nn nc sa sn sc ra rn rc la ln lc ia im ic ta tn tc x) (ha:RdK lo' D w dp ka kn kc xs) (E:hi≤w.heap.size) (A:D≤w.heap.size) (R:∀ j,j<xs.length→axOk (xs.getD j AX.zero)=true) (hs:BoxS w sb (.int .i64 L) (.slice ia im ic) (.slice ta tn tc) (.int .i64 L) (.slice na nn nc) (.slice sa sn sc) (.slice ra rn rc) (.slice la ln lc) (.slice ia im ic) (.slice ta tn tc)) (aF:kn≤1048576) :
    Calls Tryz.prog 115 #[.slice ka kn kc,.func (.func 59) #[] #[.pointer (some ⟨sb,0,none⟩)]] w fun r w'=>∃ i:Int,r=.returned (.int .i64 i)∧decide (0≤i)=(!(modelB x L xs))∧Below w.heap.size w w':=by
 have aI:Hid (xs.length=kn):=ha.len;have bi:Hid (∀ j,j<xs.length→axOk (xs.getD j AX.zero)=true):=R;have Y:Hid (∀ V,Below w.heap.size w V→RdK lo' D V dp ka kn kc xs):=fun V hV=>ha.below hV A
 have bb:Hid (∀ V,Below w.heap.size w V→∀ {c0 c1 c2 c3 d0 d1 d2 d3:Value} {ea:Option Addr} {en ec:Nat} {fa:Option Addr} {fn fc:Nat} {aa:Option Addr} {an ac:Nat} {ba:Option Addr} {bn bc:Nat} {y:AX} (k:Int),RdA lo' D V dp c0 c1 c2 c3 d0 d1 d2 d3 ea en ec fa fn fc aa an ac ba bn bc y→axOk y=true→k=y.kind→Calls Tryz.prog 59 #[.agg #[.int .i64 k,c0,c1,c2,c3,d0,d1,d2,d3,.slice ea en ec,.slice fa fn fc,.slice aa an ac,.slice ba bn bc],.pointer (some ⟨sb,0,none⟩)] V fun r w'=>r=.returned (.bool (!(satB x L y)))∧Below V.heap.size V w'):=fun V hV _ _ _ _ _ _ _ _ _ _ _ _ _ _ _ _ _ _ _ _ _ k hr ho hk=>isModel1_any O hn hL (h.below hV E) hr (Nat.le_trans E hV.size) (Nat.le_trans A hV.size) ho k hk (hs.below hV hs.lt)
 clear h ha E A R hs O hn;go_enter Tryz.func115, Tryz.ntmps115;go_upto_region 2 with fail;go_loopw [8] (fun i wr=>∃ j:Nat,j≤kn∧i=.int .i64 j∧(∀ q,q<j→satB x L (xs.getD q AX.zero)=true)∧Below w.heap.size w wr) (fun i _=>kn - (intOf i).toNat)
 case atStart=>exact ⟨0,Nat.zero_le _,rfl,fun q hq=>by omega,Below.refl _ _⟩
 case round =>
  obtain ⟨j,hj,rfl,af,ae⟩:=hrel;have ag:Hid (∀ q,q<j→satB x L (xs.getD q AX.zero)=true):=af;have ab:Hid (Below w.heap.size w wr):=ae;clear af ae;by_cases hlt:j<kn
  · have b8:(j:Int)<(kn:Int):=by omega
    have aP:j<xs.length:=by rw [aI.out];exact hlt
    obtain ⟨y,hy⟩:∃ y,y=xs.getD j AX.zero:=⟨_,rfl⟩;have aN:axOk y=true:=by rw [hy];exact bi.out j aP
    rcases (Y.out wr ab.out).cells with hz | ⟨kb,off,e1,_,bu,hc⟩
    · omega
    subst e1;have aR:=hc j hlt;rw [← hy] at aR;obtain ⟨c0,c1,c2,c3,d0,d1,d2,d3,ea,en,ec,fa,fn,fc,aa,an,ac,ba,bn,bc,q0,q1,q2,q3,q4,q5,q6,q7,q8,q9,bo,bm,bk,aO⟩:=aR;obtain ⟨kk,aJ⟩:∃ kk,kk=y.kind:=⟨_,rfl⟩;rw [← aJ] at q0;obtain ⟨rr,H⟩:∃ rr,rr=satB x L y:=⟨_,rfl⟩;have I:Hid (rr=satB x L y):=H;have HC:Hid (Calls Tryz.prog 59 #[.agg #[.int .i64 kk,c0,c1,c2,c3,d0,d1,d2,d3,.slice ea en ec,.slice fa fn fc,.slice aa an ac,.slice ba bn bc],.pointer (some ⟨sb,0,none⟩)] wr fun r w'=>r=.returned (.bool (!rr))∧Below wr.heap.size wr w'):=by unfold Hid;rw [H];exact bb.out wr ab.out kk aO aN aJ
    have ai:Hid (satB x L y=true→∀ q,q<j+1→satB x L (xs.getD q AX.zero)=true):=fun hr q hq=>by
     by_cases e':q=j
     · subst e';rw [← hy];exact hr
     exact ag.out q (by omega)
    have b9:Hid (satB x L y=false→modelB x L xs=false):=fun hr=>modelB_at aP (by rw [← hy];exact hr)
    clear hc aO aJ aN H hy;go_wp2_with fail;refine HC.out.mono ?_;rintro r w2 ⟨rfl,aU⟩;have H2:Hid (Below w.heap.size w w2):=ab.out.trans (aU.mono ab.out.size);clear aU;cases rr with
    | true =>
     have HN:=ai.out I.out.symm;go_wp2_with fail;go_roundw
     case rel=>exact ⟨j+1,by omega,by go_num,HN,H2.out⟩
     case measure=>simp [intOf];omega
    | false =>
     have HN:Hid (modelB x L xs=false):=b9.out I.out.symm;go_wp2_with fail;go_ret;exact ⟨j,rfl,by rw [HN.out];simp,H2.out⟩
  have b8:¬ ((j:Int)<(kn:Int)):=by omega
  have HN:Hid (modelB x L xs=true):=modelB_all (fun q hq=>ag.out q (by rw [aI.out] at hq;omega));go_wp2_with fail;go_ret;exact ⟨-1,rfl,by rw [HN.out];simp,ab.out⟩
set_option maxRecDepth 100000 in
set_option maxHeartbeats 8000000 in
theorem hasM_any {na:Option Addr} {nn nc:Nat} {sa:Option Addr} {sn sc:Nat} {ra:Option Addr} {rn rc:Nat} {la:Option Addr} {ln lc:Nat} {ia:Option Addr} {im ic:Nat} {ta:Option Addr} {tn tc:Nat} {x:WD} {dp:Nat} {ka:Option Addr} {kn kc:Nat} {xs:List AX} {w:World} {lo hi lo' D sb:Nat} {L:Nat} (O:worldB x=true) (hn:x.n=(L:Int)) (hL:1≤L∧L≤128) (h:RdW lo hi w na nn nc sa sn sc ra rn rc la ln lc ia im ic ta tn tc x) (ha:RdK lo' D w dp ka kn kc xs) (E:hi≤w.heap.size) (A:D≤w.heap.size) (R:∀ j,j<xs.length→axOk (xs.getD j AX.zero)=true) (hs:BoxS w sb (.int .i64 L) (.slice ia im ic) (.slice ta tn tc) (.int .i64 L) (.slice na nn nc) (.slice sa sn sc) (.slice ra rn rc) (.slice la ln lc) (.slice ia im ic) (.slice ta tn tc)) (aF:kn≤1048576) :
    Calls Tryz.prog 58 #[.slice ka kn kc,.func (.func 59) #[] #[.pointer (some ⟨sb,0,none⟩)]] w fun r w'=>r=.returned (.bool (!(modelB x L xs)))∧Below w.heap.size w w':=by
 have HC:=indexM_any O hn hL h ha E A R hs aF;have bd:Hid (Calls Tryz.prog 115 #[.slice ka kn kc,.func (.func 59) #[] #[.pointer (some ⟨sb,0,none⟩)]] w fun r w'=>∃ i:Int,r=.returned (.int .i64 i)∧decide (0≤i)=(!(modelB x L xs))∧Below w.heap.size w w'):=HC;clear h ha E A R hs O hn HC;go_enter Tryz.func58, Tryz.ntmps58;go_wp2_with fail;refine bd.out.mono ?_;rintro r w5 ⟨i,rfl,aQ,aW⟩;have b2:Hid (Below w.heap.size w w5):=aW;have aZ:Hid (decide (0≤i)=(!(modelB x L xs))):=aQ;clear aW aQ;by_cases hi0:0≤i
 · have HP:Hid ((!(modelB x L xs))=true):=by unfold Hid;rw [← aZ.out];exact decide_eq_true hi0
   go_wp2_with fail;go_ret;exact ⟨by rw [HP.out];simp,b2.out⟩
 have HP:Hid ((!(modelB x L xs))=false):=by unfold Hid;rw [← aZ.out];exact decide_eq_false hi0
 go_wp2_with fail;go_ret;exact ⟨by rw [HP.out];simp [hi0],b2.out⟩
set_option maxRecDepth 100000 in
set_option maxHeartbeats 8000000 in
theorem implIsModel_any {na:Option Addr} {nn nc:Nat} {sa:Option Addr} {sn sc:Nat} {ra:Option Addr} {rn rc:Nat} {la:Option Addr} {ln lc:Nat} {ia:Option Addr} {im ic:Nat} {ta:Option Addr} {tn tc:Nat} {x:WD} {dp:Nat} {ka:Option Addr} {kn kc:Nat} {xs:List AX} {w:World} {lo hi lo' D:Nat} {nx:Int} (h:RdW lo hi w na nn nc sa sn sc ra rn rc la ln lc ia im ic ta tn tc x) (ha:RdK lo' D w dp ka kn kc xs) (hn:x.n=nx) (E:hi≤w.heap.size) (A:D≤w.heap.size) (aM:lo'≤w.heap.size) (T:∀ x∈xs,x.c.bulk≤1048576∧x.d.bulk≤1048576) :
    Calls Tryz.prog 24 #[.agg #[.int .i64 nx,.slice na nn nc,.slice sa sn sc,.slice ra rn rc,.slice la ln lc,.slice ia im ic,.slice ta tn tc],.agg #[.slice ka kn kc]] w fun r w'=>r=.returned (.bool (isModelB x xs))∧Below w.heap.size w w':=by
 obtain ⟨W0,G⟩:∃ W0,W0=(w.alloc (.cells #[.int .i64 nx,.slice na nn nc,.slice sa sn sc,.slice ra rn rc,.slice la ln lc,.slice ia im ic,.slice ta tn tc] 27)).alloc (.cells #[.slice ka kn kc] 42):=⟨_,rfl⟩;have aL:Hid (W0=(w.alloc (.cells #[.int .i64 nx,.slice na nn nc,.slice sa sn sc,.slice ra rn rc,.slice la ln lc,.slice ia im ic,.slice ta tn tc] 27)).alloc (.cells #[.slice ka kn kc] 42)):=G;have b6:W0.heap.size=w.heap.size+2:=by rw [G];simp
 have F:Below w.heap.size w W0:=by rw [G];exact ((Below.refl _ _).alloc (Nat.le_refl _) _).alloc (by simp) _
 have ad:Hid (Below w.heap.size w W0):=F;have aS:BoxW 27 W0 w.heap.size nx (.slice na nn nc) (.slice sa sn sc) (.slice ra rn rc) (.slice la ln lc) (.slice ia im ic) (.slice ta tn tc):=by rw [G];exact (BoxW.new _ w _ _ _ _ _ _ _).below ((Below.refl _ _).alloc (Nat.le_refl _) _) (by simp)
 have aV:W0.cell? ⟨w.heap.size+1,0,none⟩=some (.slice ka kn kc):=by
  rw [G];have:=(Boxed.new (w.alloc (.cells #[.int .i64 nx,.slice na nn nc,.slice sa sn sc,.slice ra rn rc,.slice la ln lc,.slice ia im ic,.slice ta tn tc] 27)) 42 (.slice ka kn kc)).cell
  rwa [World.size_alloc] at this
 have J:Hid (∀ V,Below W0.heap.size W0 V→(V.cell? ⟨w.heap.size,0,none⟩=some (.int .i64 nx)∧V.cell? ⟨w.heap.size,1,none⟩=some (.slice na nn nc)∧V.cell? ⟨w.heap.size,2,none⟩=some (.slice sa sn sc)∧V.cell? ⟨w.heap.size,3,none⟩=some (.slice ra rn rc)∧V.cell? ⟨w.heap.size,4,none⟩=some (.slice la ln lc)∧V.cell? ⟨w.heap.size,5,none⟩=some (.slice ia im ic)∧V.cell? ⟨w.heap.size,6,none⟩=some (.slice ta tn tc))∧V.cell? ⟨w.heap.size+1,0,none⟩=some (.slice ka kn kc)):=fun V hV=>⟨(aS.below hV (by omega)).cells,(hV.cell (p:=⟨w.heap.size+1,0,none⟩) (show w.heap.size+1<W0.heap.size by omega)).trans aV⟩
 have aH:Hid (∀ V,Below W0.heap.size W0 V→RdW lo hi V na nn nc sa sn sc ra rn rc la ln lc ia im ic ta tn tc x∧hi≤V.heap.size):=fun V hV=>⟨(h.below F E).below hV (by omega),by have:=hV.size;omega⟩
 have Y:Hid (∀ V,Below W0.heap.size W0 V→RdK lo' D V dp ka kn kc xs∧D≤V.heap.size∧lo'≤V.heap.size):=fun V hV=>⟨(ha.below F A).below hV (by omega),by have:=hV.size;omega,by have:=hV.size;omega⟩
 have N:Hid (∀ {V:World},Below W0.heap.size W0 V→Below w.heap.size w V):=fun {V} hV=>ad.out.trans (hV.mono ad.out.size)
 have HN:Hid (x.n=nx):=hn;have bj:w.heap.size+2≤W0.heap.size:=by omega
 have bf:Hid (∀ x∈xs,x.c.bulk≤1048576∧x.d.bulk≤1048576):=T;have aI:Hid (xs.length=kn):=ha.len;clear h ha E A aM F aS aV G hn b6 T;go_enter Tryz.func24, Tryz.ntmps24;go_upto_region 1 with fail;rw [← aL.out];obtain ⟨⟨a0,a1,a2,a3,a4,a5,a6⟩,b0⟩:=J.out W0 (Below.refl _ _);go_wp2_with fail;refine (sceneOf_any (aH.out W0 (Below.refl _ _)).1 HN.out (aH.out W0 (Below.refl _ _)).2).mono ?_;rintro r w1 ⟨rfl,X⟩;have H1:Hid (Below W0.heap.size W0 w1):=X;have s1:=X.size;clear X a0 a1 a2 a3 a4 a5 a6 b0;obtain ⟨⟨a0,a1,a2,a3,a4,a5,a6⟩,b0⟩:=J.out w1 H1.out;cases hwo:worldB x with
 | false =>
  have HE:Hid (isModelB x xs=false):=by unfold Hid isModelB;rw [hwo];rfl
  rw [show ∀ u v,whichV false u v=v from fun _ _=>rfl];obtain ⟨U,hU⟩:∃ U,U=w1.alloc (.cells #[.int .i64 0,.slice none 0 0,.slice none 0 0,.int .i64 0,.slice none 0 0,.slice none 0 0,.slice none 0 0,.slice none 0 0,.slice none 0 0,.slice none 0 0] 74):=⟨_,rfl⟩;have HU:Hid (U=w1.alloc (.cells #[.int .i64 0,.slice none 0 0,.slice none 0 0,.int .i64 0,.slice none 0 0,.slice none 0 0,.slice none 0 0,.slice none 0 0,.slice none 0 0,.slice none 0 0] 74)):=hU;have bh:Hid (Below w.heap.size w U):=by unfold Hid;rw [hU];exact N.out (H1.out.alloc H1.out.size _)
  clear hwo hU;go_upto_region 2 with fail;rw [← HU.out];go_wp2_with fail;go_ret;exact ⟨rb' HE.out.symm,bh.out⟩
 | true =>
  have aG:Hid (worldB x=true):=hwo;clear hwo;rw [show ∀ u v,whichV true u v=u from fun _ _=>rfl];obtain ⟨U,hU⟩:∃ U,U=w1.alloc (.cells #[.int .i64 nx,.slice ia im ic,.slice ta tn tc,.int .i64 nx,.slice na nn nc,.slice sa sn sc,.slice ra rn rc,.slice la ln lc,.slice ia im ic,.slice ta tn tc] 74):=⟨_,rfl⟩;have HU:Hid (U=w1.alloc (.cells #[.int .i64 nx,.slice ia im ic,.slice ta tn tc,.int .i64 nx,.slice na nn nc,.slice sa sn sc,.slice ra rn rc,.slice la ln lc,.slice ia im ic,.slice ta tn tc] 74)):=hU;have aT:BoxS U w1.heap.size (.int .i64 nx) (.slice ia im ic) (.slice ta tn tc) (.int .i64 nx) (.slice na nn nc) (.slice sa sn sc) (.slice ra rn rc) (.slice la ln lc) (.slice ia im ic) (.slice ta tn tc):=by rw [hU];exact BoxS.new w1 _ _ _ _ _ _ _ _ _ _
  have be:Hid (BoxS U w1.heap.size (.int .i64 nx) (.slice ia im ic) (.slice ta tn tc) (.int .i64 nx) (.slice na nn nc) (.slice sa sn sc) (.slice ra rn rc) (.slice la ln lc) (.slice ia im ic) (.slice ta tn tc)):=aT;have Z:Hid (Below W0.heap.size W0 U):=by unfold Hid;rw [hU];exact H1.out.alloc H1.out.size _
  have b5:w1.heap.size<U.heap.size:=by rw [hU];simp
  clear hU aT;go_upto_region 2 with fail;rw [← HU.out];clear a0 a1 a2 a3 a4 a5 a6 b0;obtain ⟨⟨a0,a1,a2,a3,a4,a5,a6⟩,b0⟩:=J.out U Z.out;go_wp2_with fail;refine (implKbOk_any (Y.out U Z.out).1 (Y.out U Z.out).2.1 bf.out).mono ?_;rintro r w2 ⟨rfl,aK⟩;have bg:Hid (BoxS w2 w1.heap.size (.int .i64 nx) (.slice ia im ic) (.slice ta tn tc) (.int .i64 nx) (.slice na nn nc) (.slice sa sn sc) (.slice ra rn rc) (.slice la ln lc) (.slice ia im ic) (.slice ta tn tc)):=be.out.below aK b5;have H2:Hid (Below W0.heap.size W0 w2):=Z.out.trans (aK.mono Z.out.size);clear aK a0 a1 a2 a3 a4 a5 a6 b0;obtain ⟨⟨a0,a1,a2,a3,a4,a5,a6⟩,b0⟩:=J.out w2 H2.out;cases hao:kbB xs with
  | false =>
   have HE:Hid (isModelB x xs=false):=by unfold Hid isModelB;rw [aG.out,hao];rfl
   clear hao;go_wp2_with fail;go_ret;exact ⟨rb' HE.out.symm,N.out H2.out⟩
  | true =>
   have b3:Hid (kbB xs=true):=hao
   have aF:kn≤1048576:=by
    have:xs.length≤1048576:=by
     unfold kbB at hao;simp only [Bool.and_eq_true,decide_eq_true_eq] at hao;omega
    rw [aI.out] at this;exact this
   clear hao;obtain ⟨L,hL⟩:∃ L,L=x.n.toNat:=⟨_,rfl⟩;have b4:=((worldB_iff x).1 aG.out).1.1;have aY:x.n=(L:Int):=by omega
   have ah:1≤L∧L≤128:=by omega
   have b7:nx=(L:Int):=by rw [← HN.out];exact aY
   subst b7;have HE:Hid (isModelB x xs=modelB x L xs):=by unfold Hid isModelB;rw [aG.out,b3.out,hL];rfl
   clear b4 hL aY;obtain ⟨rr,H⟩:∃ rr,rr=modelB x L xs:=⟨_,rfl⟩;have I:Hid (rr=modelB x L xs):=H;clear H;go_wp2_with fail;refine (hasM_any aG.out HN.out ah (aH.out w2 H2.out).1 (Y.out w2 H2.out).1 (aH.out w2 H2.out).2 (Y.out w2 H2.out).2.1 (kb_ax b3.out) bg.out aF).mono ?_;rintro r w3 ⟨rfl,aX⟩;rw [← I.out];have H3:Hid (Below W0.heap.size W0 w3):=H2.out.trans (aX.mono H2.out.size);clear aX;cases rr with
   | true =>
    go_wp2_with fail;go_ret;exact ⟨rb' (I.out.trans HE.out.symm),N.out H3.out⟩
   | false =>
    go_wp2_with fail;go_ret;exact ⟨rb' (I.out.trans HE.out.symm),N.out H3.out⟩
end Go.Proofs.YtnmljalcndfjmaaGreat
