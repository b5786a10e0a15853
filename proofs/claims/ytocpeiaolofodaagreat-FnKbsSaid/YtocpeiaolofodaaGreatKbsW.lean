/- The law of what is told: what it asks holds at every list of bytes. -/
import Derived.Test.YtocpeiaolofodaaGreatKbsW0
import Derived.Test.YtocpeiaolofodaaGreatNG17
import Derived.Test.YtocpeiaolofodaaGreatNG27
import Derived.Test.YtocpeiaolofodaaGreatNG21
import Derived.Test.YtocpeiaolofodaaGreatNG15
namespace Go.Proofs.YtocpeiaolofodaaGreat
open Go.RowKit
theorem own_rd {base:Nat} {w:World} {v:Value} {zs:List Int} (h:OwnB base w v zs) (bQ:∀ x∈zs,0≤x∧x≤255):∃ a c,v=.slice a zs.length c∧Rd base w.heap.size w a zs.length c zs:=by
 by_cases hv:v=.slice none 0 0
 · subst hv
   have hz:zs=[]:=by
    rcases h.2 with ⟨_,q⟩ | ⟨_,_,_,q,_⟩
    · exact List.eq_nil_of_length_eq_zero q
    simp at q
   subst hz;exact ⟨none,0,rfl,rdNil _ _ _⟩
 obtain ⟨g,c,e,_,_,hr⟩:=own_some h hv bQ;exact ⟨_,c,e,hr⟩
theorem own_lenW {base:Nat} {w:World} {v:Value} {zs:List Int} (h:OwnB base w v zs):∃ a c,v=.slice a zs.length c:=by
 rcases h.2 with ⟨e,e0⟩ | ⟨g,bR,cur,e,_⟩
 · exact ⟨none,0,by rw [e,e0]⟩
 exact ⟨_,bR,e⟩
theorem axText_pos {x:AX} (h:axOk x=true):1≤(axText x).length:=by
 unfold axText;rw [if_pos h];simp [axSay];omega
theorem kb_all {xs:List AX} (h:kbB xs=true):∀ x∈xs,axOk x=true:=by
 unfold kbB at h;simp only [Bool.and_eq_true,List.all_eq_true] at h;exact h.2.1
set_option maxRecDepth 100000 in
set_option maxHeartbeats 8000000 in
theorem kbsWalk {a0:Option Addr} {Z a1:Nat} {zs:List Int} {w:World} (h:Rd 0 w.heap.size w a0 Z a1 zs) :
    Calls Tryz.prog 3 #[.slice a0 Z a1] w fun e w'=>e=.returned (.bool true)∧Below w.heap.size w w':=by
 have HR:Hid (Rd 0 w.heap.size w a0 Z a1 zs):=h;clear h;go_enter Tryz.func3, Tryz.ntmps3;go_wp2_with fail;refine (drawKbText_any HR.out).mono ?_;rintro e w1 ⟨va,m,vc,xs,rfl,bm,bh,c8,b8⟩;obtain ⟨Wa,bq⟩:∃ W,Hid (W=w1.alloc (.cells #[.slice va m vc] 25)):=⟨_,rfl⟩;have a4:Below w1.heap.size w1 Wa:=by rw [bq.out];exact (Below.refl _ _).alloc (Nat.le_refl _) _
 have bd:Hid (Boxed Wa w1.heap.size 25 (.slice va m vc)):=by unfold Hid;rw [bq.out];exact Boxed.new w1 _ _
 have c9:w.heap.size≤w1.heap.size:=b8.size;have bB:w1.heap.size<Wa.heap.size:=bd.out.lt;have bu:Hid (RdK w.heap.size w1.heap.size Wa 20 va m vc xs):=bm.below a4 (Nat.le_refl _);have H1:Hid (Below w.heap.size w Wa):=b8.trans (a4.mono b8.size);have bg:Hid (∀ x∈xs,x.c.bulk≤1048576∧x.d.bulk≤1048576):=fun x hx=>⟨Nat.le_trans (bh x hx).1 (by omega),Nat.le_trans (bh x hx).2.1 (by omega)⟩
 have bS:Hid (xs.length=m):=bm.len;clear bm bh b8 a4;have x0:=bd.out.cell;go_wp2_with fail
 try dsimp only
 rw [← bq.out];refine (implKbText_any bu.out (Nat.le_of_lt bB) bg.out).mono ?_;rintro e w2 ⟨u2,rfl,aD,aO⟩;have H2:Hid (Below w.heap.size w w2):=H1.out.trans (aO.mono H1.out.size);have aE:Hid (Boxed w2 w1.heap.size 25 (.slice va m vc)):=(aO.block _ bd.out.lt).trans bd.out;have bf:Hid (RdK w.heap.size w1.heap.size w2 20 va m vc xs):=bu.out.below aO (Nat.le_of_lt bB);have c7:Wa.heap.size≤w2.heap.size:=aO.size;clear aO x0;by_cases hok:kbB xs=true
 · have aF:Hid (kbB xs=true):=hok;have be:Hid (kbText xs=textK xs):=by unfold Hid kbText;rw [if_pos hok]
   have bK:Hid (∀ x∈textK xs,0≤x∧x≤255):=axSay_byte bu.out (kb_all hok);clear hok;rw [be.out] at aD;obtain ⟨a2,c2,rfl,bj⟩:=own_rd aD bK.out;obtain ⟨n2,bk⟩:∃ n2,n2=(textK xs).length:=⟨_,rfl⟩;have bM:Hid (n2=(textK xs).length):=bk;rw [← bk] at bj ⊢;have bW:Hid (Rd Wa.heap.size w2.heap.size w2 a2 n2 c2 (textK xs)):=bj;clear aD bj bk;have x0:=aE.out.cell;go_wp2_with fail;refine (specKbOk_any bf.out (by omega) (by omega)).mono ?_;rintro e w3 ⟨rfl,a7⟩;rw [aF.out];have H3:Hid (Below w.heap.size w w3):=H2.out.trans (a7.mono H2.out.size);have aC:Hid (Boxed w3 w1.heap.size 25 (.slice va m vc)):=(a7.block _ aE.out.lt).trans aE.out;have aV:Hid (RdK w.heap.size w1.heap.size w3 20 va m vc xs):=bf.out.below a7 (by omega);have bC:w2.heap.size≤w3.heap.size:=a7.size;have bV:Hid (Rd Wa.heap.size w2.heap.size w3 a2 n2 c2 (textK xs)):=bW.out.below a7 (Nat.le_refl _);clear a7 x0;have x0:=aC.out.cell;go_wp2_with fail;refine (implKbOk_any aV.out (by omega) bg.out).mono ?_;rintro e w4 ⟨rfl,a5⟩;rw [aF.out];have H4:Hid (Below w.heap.size w w4):=H3.out.trans (a5.mono H3.out.size);have bb:Hid (Boxed w4 w1.heap.size 25 (.slice va m vc)):=(a5.block _ aC.out.lt).trans aC.out;have bZ:Hid (RdK w.heap.size w1.heap.size w4 20 va m vc xs):=aV.out.below a5 (by omega);have bO:w3.heap.size≤w4.heap.size:=a5.size;have bL:Hid (Rd Wa.heap.size w2.heap.size w4 a2 n2 c2 (textK xs)):=bV.out.below a5 bC;clear a5 x0;by_cases hn:n2≤1500
   · have bP:(n2:Int)≤1500:=by omega
     go_wp2_with fail;refine (implKbRead_any a2 n2 c2 (textK xs) w4 (bL.out.mono (Nat.zero_le _) (by omega))).mono ?_;rintro e w5 hA;rw [kbRead_text aF.out (by rw [← bM.out];exact hn)] at hA;obtain ⟨v5,c5,cb,L5,rfl,bG,aq⟩:=hA;obtain ⟨aH,aG,rfl,b7⟩:=bG.rd
     try dsimp only at b7
     rw [show ((xs,-1):List AX × Int).1.length=m from bS.out] at b7 ⊢;obtain ⟨W5,bs⟩:∃ W,Hid (W=w5.alloc (.cells #[.slice aH m aG] 25)):=⟨_,rfl⟩;have al:Below w5.heap.size w5 W5:=by rw [bs.out];exact (Below.refl _ _).alloc (Nat.le_refl _) _
     have b9:Hid (Boxed W5 w5.heap.size 25 (.slice aH m aG)):=by unfold Hid;rw [bs.out];exact Boxed.new w5 _ _
     have bp:Hid (Boxed W5 w1.heap.size 25 (.slice va m vc)):=(al.block _ (Nat.lt_of_lt_of_le bb.out.lt aq.size)).trans ((aq.block _ bb.out.lt).trans bb.out);have bY:Hid (RdK w4.heap.size w5.heap.size W5 6 aH m aG xs):=b7.below al (Nat.le_refl _);have bU:Hid (Rd Wa.heap.size w2.heap.size W5 a2 n2 c2 (textK xs)):=(bL.out.below aq (by omega)).below al (by have:=aq.size;omega);have H5:Hid (Below w.heap.size w W5):=(H4.out.trans (aq.mono H4.out.size)).trans (al.mono (Nat.le_trans H4.out.size aq.size));have bN:w5.heap.size<W5.heap.size:=b9.out.lt;have c4:w4.heap.size≤w5.heap.size:=aq.size;clear bG b7 aq al;have x0:=bp.out.cell;have y0:=b9.out.cell
     try dsimp only
     go_upto_region 8 with fail
     try rw [← bs.out]
     go_wp2_with fail;refine (implKbText_any bY.out (Nat.le_of_lt bN) bg.out).mono ?_;rintro e w6 ⟨u6,rfl,bo,aN⟩;rw [be.out] at bo;obtain ⟨a6,c6,rfl,bi⟩:=own_rd bo bK.out;rw [← bM.out] at bi ⊢;have bX:Hid (Rd W5.heap.size w6.heap.size w6 a6 n2 c6 (textK xs)):=bi;have bT:Hid (Rd Wa.heap.size w2.heap.size w6 a2 n2 c2 (textK xs)):=bU.out.below aN (by omega);have H6:Hid (Below w.heap.size w w6):=H5.out.trans (aN.mono H5.out.size);have bJ:Hid (Boxed w6 w1.heap.size 25 (.slice va m vc)):=(aN.block _ bp.out.lt).trans bp.out;have bH:Hid (Boxed w6 w5.heap.size 25 (.slice aH m aG)):=(aN.block _ b9.out.lt).trans b9.out;clear bo aN bi x0 y0;have x0:=bJ.out.cell;have y0:=bH.out.cell;go_wp2_with fail;refine (same_any _ _ _ _ _ _ _ _ bX.out bT.out).mono ?_;rintro e wt ⟨rfl,a3⟩;have Ht:Hid (Below w.heap.size w wt):=by rw [a3];exact H6.out
     clear x0 y0;have x0:wt.cell? ⟨w1.heap.size,0,none⟩=some (.slice va m vc):=by rw [a3];exact bJ.out.cell
     have y0:wt.cell? ⟨w5.heap.size,0,none⟩=some (.slice aH m aG):=by rw [a3];exact bH.out.cell
     clear a3;have aQ:Hid (Rd 0 wt.heap.size wt a0 Z a1 zs):=(HR.out.below Ht.out (Nat.le_refl _)).mono (Nat.le_refl _) Ht.out.size;go_wp2_with fail;refine (drawKbRead_any aQ.out).mono ?_;rintro e wa ⟨ga,ys,ca,rfl,ae,aI,a4⟩;obtain ⟨ny,af⟩:∃ ny,ny=ys.length:=⟨_,rfl⟩;rw [← af] at ae aI ⊢;have aS:Hid (Rd 0 wa.heap.size wa ga ny ca ys):=ae.mono (Nat.zero_le _) (Nat.le_refl _);have Ha:Hid (Below w.heap.size w wa):=Ht.out.trans (a4.mono Ht.out.size);obtain ⟨cy,p,H⟩:∃ cy p,kbRead ys=(cy,p):=⟨_,_,rfl⟩;have aW:Hid (kbRead ys=(cy,p)):=H
     have aB:Hid (∀ x∈cy,x.c.bulk≤1048576∧x.d.bulk≤1048576):=by
      have:=kbRead_bulk ys;rw [H] at this;intro x hx;have:=this x hx;unfold AX.bulkR at this;omega
     have aT:Hid (cy.length≤8):=by have:=kbRead_eight ys;rw [H] at this;exact this
     have A:=kbRead_fits ys;rw [H,← af] at A
     try dsimp only at A
     clear ae a4 af H;go_wp2_with fail;refine (implKbRead_any ga ny ca ys wa aS.out).mono ?_;rintro e wb hA;rw [aW.out] at hA;obtain ⟨vy,bx,Vsy,Ly,rfl,ar,V⟩:=hA;obtain ⟨G,E,rfl,U⟩:=ar.rd;obtain ⟨my,ag⟩:∃ my,my=cy.length:=⟨_,rfl⟩;have ak:Hid (my=cy.length):=ag
     try dsimp only at U
     rw [show ((cy,p):List AX × Int).1.length=my from ag.symm] at U ⊢;obtain ⟨Wb,X⟩:∃ W,Hid (W=wb.alloc (.cells #[.slice G my E] 25)):=⟨_,rfl⟩;have D:Below wb.heap.size wb Wb:=by rw [X.out];exact (Below.refl _ _).alloc (Nat.le_refl _) _
     have aj:Hid (Boxed Wb wb.heap.size 25 (.slice G my E)):=by unfold Hid;rw [X.out];exact Boxed.new wb _ _
     have az:Hid (RdK wa.heap.size wb.heap.size Wb 6 G my E cy):=U.below D (Nat.le_refl _);have Hb:Hid (Below w.heap.size w Wb):=(Ha.out.trans (V.mono Ha.out.size)).trans (D.mono (Nat.le_trans Ha.out.size V.size));have a9:wb.heap.size<Wb.heap.size:=aj.out.lt;have b3:wa.heap.size≤wb.heap.size:=V.size;clear ar U V D ag
     try dsimp only
     rcases A with ⟨hp,J⟩ | ⟨bF,bE,aL⟩
     · subst hp;have ax:Hid (kbB cy=true):=J;clear J;go_upto_region 15 with fail
       try rw [← X.out]
       go_loopw [11] (fun i wr=>∃ j:Nat,j≤my∧i=.int .i64 j∧Below Wb.heap.size Wb wr) (fun i _=>my - (intOf i).toNat)
       case atStart=>exact ⟨0,Nat.zero_le _,rfl,Below.refl _ _⟩
       case round =>
        obtain ⟨j,hj,rfl,z⟩:=hrel;have aX:Hid (Below Wb.heap.size Wb wr):=z;have aJ:=z.size;have ai:Hid (Boxed wr wb.heap.size 25 (.slice G my E)):=(z.block _ a9).trans aj.out;have y0:=ai.out.cell;by_cases hlt:j<my
        · have aK:(j:Int)<(my:Int):=by omega
          have hK:=az.out.below z (Nat.le_of_lt a9);rcases hK.cells with hz | ⟨b,off,e1,b5,b6,hc⟩
          · omega
          subst e1;obtain ⟨c0,c1,c2,c3,d0,d1,d2,d3,ra,rn,rc,sa,sn,sc,aa,an,ac,ba,bn,bc,q0,q1,q2,q3,q4,q5,q6,q7,q8,q9,T,O,N,ab⟩:=hc j hlt;obtain ⟨x,hx⟩:∃ x,x=cy.getD j AX.zero:=⟨_,rfl⟩
          have a8:x∈cy:=by
           rw [hx,List.getD_eq_getElem?_getD,List.getElem?_eq_getElem (by have:=ak.out;omega)];exact List.getElem_mem _
          rw [← hx] at ab q0;have av:Hid (RdA wa.heap.size wb.heap.size wr 6 c0 c1 c2 c3 d0 d1 d2 d3 ra rn rc sa sn sc aa an ac ba bn bc x):=ab;have ay:Hid (axOk x=true):=kb_all ax.out x a8;have Y:Hid (x.c.bulk≤1048576∧x.d.bulk≤1048576):=aB.out x a8;obtain ⟨kk,ah⟩:∃ kk,kk=x.kind:=⟨_,rfl⟩;rw [← ah] at q0;have aA:Hid (kk=x.kind):=ah
          have aY:Hid (∀ wz,Below wr.heap.size wr wz→wz.cell? ⟨b,off+j*13,none⟩=some (.int .i64 kk)∧wz.cell? ⟨b,off+j*13+1,none⟩=some c0∧wz.cell? ⟨b,off+j*13+2,none⟩=some c1∧wz.cell? ⟨b,off+j*13+3,none⟩=some c2∧wz.cell? ⟨b,off+j*13+4,none⟩=some c3∧wz.cell? ⟨b,off+j*13+5,none⟩=some d0∧wz.cell? ⟨b,off+j*13+6,none⟩=some d1∧wz.cell? ⟨b,off+j*13+7,none⟩=some d2∧wz.cell? ⟨b,off+j*13+8,none⟩=some d3∧wz.cell? ⟨b,off+j*13+9,none⟩=some (.slice ra rn rc)∧wz.cell? ⟨b,off+j*13+10,none⟩=some (.slice sa sn sc)∧wz.cell? ⟨b,off+j*13+11,none⟩=some (.slice aa an ac)∧wz.cell? ⟨b,off+j*13+12,none⟩=some (.slice ba bn bc)):=by
           intro wz hz;have aM:b<wr.heap.size:=by omega
           have t:∀ o v,wr.cell? ⟨b,o,none⟩=some v→wz.cell? ⟨b,o,none⟩=some v:=fun o v h=>(World.cell?_of_block (hz.block b aM)).trans h
           exact ⟨t _ _ q0,t _ _ q1,t _ _ q2,t _ _ q3,t _ _ q4,t _ _ q5,t _ _ q6,t _ _ q7,t _ _ q8,t _ _ q9,t _ _ T,t _ _ O,t _ _ N⟩
          clear hK hc ab z hx ah a8;go_wp2_with fail;refine (implAxiomOk_any av.out (by omega) Y.out.1 Y.out.2 kk aA.out).mono ?_;rintro e wc ⟨rfl,F⟩;rw [ay.out];have bA:=F.size;have aP:Hid (Boxed wc wb.heap.size 25 (.slice (some ⟨b,off,none⟩) my E)):=(F.block _ ai.out.lt).trans ai.out;have aR:Hid (RdA wa.heap.size wb.heap.size wc 6 c0 c1 c2 c3 d0 d1 d2 d3 ra rn rc sa sn sc aa an ac ba bn bc x):=av.out.same (Same.of_below F (by omega));have b2:Hid (Below Wb.heap.size Wb wc):=aX.out.trans (F.mono aJ);clear q0 q1 q2 q3 q4 q5 q6 q7 q8 q9 T O N y0;obtain ⟨q0,q1,q2,q3,q4,q5,q6,q7,q8,q9,T,O,N⟩:=aY.out wc F;have y0:=aP.out.cell;clear F;go_wp2_with fail;refine (implAxText_any aR.out (by omega) Y.out.1 Y.out.2 kk aA.out).mono ?_;rintro e wd ⟨ud,rfl,au,ap⟩;obtain ⟨ad,cd,rfl⟩:=own_lenW au;obtain ⟨nd,am⟩:∃ nd,nd=(axText x).length:=⟨_,rfl⟩;have b4:((nd:Int) == 0)=false:=by have:=axText_pos ay.out;simp;omega
          rw [← am];have aZ:Hid (Below Wb.heap.size Wb wd):=b2.out.trans (ap.mono (by omega));have bz:IntKind.i64.wrap ((j:Int)+1)=((j+1:Nat):Int):=by rw [wrap64_id (by have:=aT.out;have:=ak.out;omega)];omega
          clear q0 q1 q2 q3 q4 q5 q6 q7 q8 q9 T O N y0 au ap am;go_wp2_with fail;go_roundw
          case rel=>exact ⟨j+1,by omega,by go_num,aZ.out⟩
          case measure=>simp [intOf];omega
        have aK:¬ ((j:Int)<(my:Int)):=by omega
        have aU:Hid (RdK wa.heap.size wb.heap.size wr 6 G my E cy):=az.out.below z (Nat.le_of_lt a9);have Hr:Hid (Below w.heap.size w wr):=Hb.out.trans (z.mono (by have:=Hb.out.size;omega));clear z;go_wp2_with fail;refine (implKbOk_any aU.out (by omega) aB.out).mono ?_;rintro e we ⟨rfl,ao⟩;rw [ax.out];have He:Hid (Below w.heap.size w we):=Hr.out.trans (ao.mono Hr.out.size);clear ao y0;go_wp2_with fail;refine (words_any we).mono ?_;rintro e wf ⟨rfl,I⟩;have Hf:Hid (Below w.heap.size w wf):=He.out.trans (I.mono He.out.size);clear I;go_wp2;go_ret;exact ⟨rfl,Hf.out⟩
     obtain rfl:my=0:=by rw [ak.out,aL];rfl
     have y0:=aj.out.cell;have bD:¬ (p<0):=by omega
     go_wp2_with fail
     try rw [← X.out]
     refine (words_any Wb).mono ?_;rintro e wf ⟨rfl,I⟩;have Hf:Hid (Below w.heap.size w wf):=Hb.out.trans (I.mono Hb.out.size);clear I;go_wp2;go_ret;exact ⟨rfl,Hf.out⟩
   have bP:¬ ((n2:Int)≤1500):=by omega
   obtain ⟨wt,a3⟩:∃ wt,wt=w4:=⟨_,rfl⟩;have Ht:Hid (Below w.heap.size w wt):=by rw [a3];exact H4.out
   rw [← a3];clear a3;have aQ:Hid (Rd 0 wt.heap.size wt a0 Z a1 zs):=(HR.out.below Ht.out (Nat.le_refl _)).mono (Nat.le_refl _) Ht.out.size;go_wp2_with fail;refine (drawKbRead_any aQ.out).mono ?_;rintro e wa ⟨ga,ys,ca,rfl,ae,aI,a4⟩;obtain ⟨ny,af⟩:∃ ny,ny=ys.length:=⟨_,rfl⟩;rw [← af] at ae aI ⊢;have aS:Hid (Rd 0 wa.heap.size wa ga ny ca ys):=ae.mono (Nat.zero_le _) (Nat.le_refl _);have Ha:Hid (Below w.heap.size w wa):=Ht.out.trans (a4.mono Ht.out.size);obtain ⟨cy,p,H⟩:∃ cy p,kbRead ys=(cy,p):=⟨_,_,rfl⟩;have aW:Hid (kbRead ys=(cy,p)):=H
   have aB:Hid (∀ x∈cy,x.c.bulk≤1048576∧x.d.bulk≤1048576):=by
    have:=kbRead_bulk ys;rw [H] at this;intro x hx;have:=this x hx;unfold AX.bulkR at this;omega
   have aT:Hid (cy.length≤8):=by have:=kbRead_eight ys;rw [H] at this;exact this
   have A:=kbRead_fits ys;rw [H,← af] at A
   try dsimp only at A
   clear ae a4 af H;go_wp2_with fail;refine (implKbRead_any ga ny ca ys wa aS.out).mono ?_;rintro e wb hA;rw [aW.out] at hA;obtain ⟨vy,bx,Vsy,Ly,rfl,ar,V⟩:=hA;obtain ⟨G,E,rfl,U⟩:=ar.rd;obtain ⟨my,ag⟩:∃ my,my=cy.length:=⟨_,rfl⟩;have ak:Hid (my=cy.length):=ag
   try dsimp only at U
   rw [show ((cy,p):List AX × Int).1.length=my from ag.symm] at U ⊢;obtain ⟨Wb,X⟩:∃ W,Hid (W=wb.alloc (.cells #[.slice G my E] 25)):=⟨_,rfl⟩;have D:Below wb.heap.size wb Wb:=by rw [X.out];exact (Below.refl _ _).alloc (Nat.le_refl _) _
   have aj:Hid (Boxed Wb wb.heap.size 25 (.slice G my E)):=by unfold Hid;rw [X.out];exact Boxed.new wb _ _
   have az:Hid (RdK wa.heap.size wb.heap.size Wb 6 G my E cy):=U.below D (Nat.le_refl _);have Hb:Hid (Below w.heap.size w Wb):=(Ha.out.trans (V.mono Ha.out.size)).trans (D.mono (Nat.le_trans Ha.out.size V.size));have a9:wb.heap.size<Wb.heap.size:=aj.out.lt;have b3:wa.heap.size≤wb.heap.size:=V.size;clear ar U V D ag
   try dsimp only
   rcases A with ⟨hp,J⟩ | ⟨bF,bE,aL⟩
   · subst hp;have ax:Hid (kbB cy=true):=J;clear J;go_upto_region 15 with fail
     try rw [← X.out]
     go_loopw [11] (fun i wr=>∃ j:Nat,j≤my∧i=.int .i64 j∧Below Wb.heap.size Wb wr) (fun i _=>my - (intOf i).toNat)
     case atStart=>exact ⟨0,Nat.zero_le _,rfl,Below.refl _ _⟩
     case round =>
      obtain ⟨j,hj,rfl,z⟩:=hrel;have aX:Hid (Below Wb.heap.size Wb wr):=z;have aJ:=z.size;have ai:Hid (Boxed wr wb.heap.size 25 (.slice G my E)):=(z.block _ a9).trans aj.out;have y0:=ai.out.cell;by_cases hlt:j<my
      · have aK:(j:Int)<(my:Int):=by omega
        have hK:=az.out.below z (Nat.le_of_lt a9);rcases hK.cells with hz | ⟨b,off,e1,b5,b6,hc⟩
        · omega
        subst e1;obtain ⟨c0,c1,c2,c3,d0,d1,d2,d3,ra,rn,rc,sa,sn,sc,aa,an,ac,ba,bn,bc,q0,q1,q2,q3,q4,q5,q6,q7,q8,q9,T,O,N,ab⟩:=hc j hlt;obtain ⟨x,hx⟩:∃ x,x=cy.getD j AX.zero:=⟨_,rfl⟩
        have a8:x∈cy:=by
         rw [hx,List.getD_eq_getElem?_getD,List.getElem?_eq_getElem (by have:=ak.out;omega)];exact List.getElem_mem _
        rw [← hx] at ab q0;have av:Hid (RdA wa.heap.size wb.heap.size wr 6 c0 c1 c2 c3 d0 d1 d2 d3 ra rn rc sa sn sc aa an ac ba bn bc x):=ab;have ay:Hid (axOk x=true):=kb_all ax.out x a8;have Y:Hid (x.c.bulk≤1048576∧x.d.bulk≤1048576):=aB.out x a8;obtain ⟨kk,ah⟩:∃ kk,kk=x.kind:=⟨_,rfl⟩;rw [← ah] at q0;have aA:Hid (kk=x.kind):=ah
        have aY:Hid (∀ wz,Below wr.heap.size wr wz→wz.cell? ⟨b,off+j*13,none⟩=some (.int .i64 kk)∧wz.cell? ⟨b,off+j*13+1,none⟩=some c0∧wz.cell? ⟨b,off+j*13+2,none⟩=some c1∧wz.cell? ⟨b,off+j*13+3,none⟩=some c2∧wz.cell? ⟨b,off+j*13+4,none⟩=some c3∧wz.cell? ⟨b,off+j*13+5,none⟩=some d0∧wz.cell? ⟨b,off+j*13+6,none⟩=some d1∧wz.cell? ⟨b,off+j*13+7,none⟩=some d2∧wz.cell? ⟨b,off+j*13+8,none⟩=some d3∧wz.cell? ⟨b,off+j*13+9,none⟩=some (.slice ra rn rc)∧wz.cell? ⟨b,off+j*13+10,none⟩=some (.slice sa sn sc)∧wz.cell? ⟨b,off+j*13+11,none⟩=some (.slice aa an ac)∧wz.cell? ⟨b,off+j*13+12,none⟩=some (.slice ba bn bc)):=by
         intro wz hz;have aM:b<wr.heap.size:=by omega
         have t:∀ o v,wr.cell? ⟨b,o,none⟩=some v→wz.cell? ⟨b,o,none⟩=some v:=fun o v h=>(World.cell?_of_block (hz.block b aM)).trans h
         exact ⟨t _ _ q0,t _ _ q1,t _ _ q2,t _ _ q3,t _ _ q4,t _ _ q5,t _ _ q6,t _ _ q7,t _ _ q8,t _ _ q9,t _ _ T,t _ _ O,t _ _ N⟩
        clear hK hc ab z hx ah a8;go_wp2_with fail;refine (implAxiomOk_any av.out (by omega) Y.out.1 Y.out.2 kk aA.out).mono ?_;rintro e wc ⟨rfl,F⟩;rw [ay.out];have bA:=F.size;have aP:Hid (Boxed wc wb.heap.size 25 (.slice (some ⟨b,off,none⟩) my E)):=(F.block _ ai.out.lt).trans ai.out;have aR:Hid (RdA wa.heap.size wb.heap.size wc 6 c0 c1 c2 c3 d0 d1 d2 d3 ra rn rc sa sn sc aa an ac ba bn bc x):=av.out.same (Same.of_below F (by omega));have b2:Hid (Below Wb.heap.size Wb wc):=aX.out.trans (F.mono aJ);clear q0 q1 q2 q3 q4 q5 q6 q7 q8 q9 T O N y0;obtain ⟨q0,q1,q2,q3,q4,q5,q6,q7,q8,q9,T,O,N⟩:=aY.out wc F;have y0:=aP.out.cell;clear F;go_wp2_with fail;refine (implAxText_any aR.out (by omega) Y.out.1 Y.out.2 kk aA.out).mono ?_;rintro e wd ⟨ud,rfl,au,ap⟩;obtain ⟨ad,cd,rfl⟩:=own_lenW au;obtain ⟨nd,am⟩:∃ nd,nd=(axText x).length:=⟨_,rfl⟩;have b4:((nd:Int) == 0)=false:=by have:=axText_pos ay.out;simp;omega
        rw [← am];have aZ:Hid (Below Wb.heap.size Wb wd):=b2.out.trans (ap.mono (by omega));have bz:IntKind.i64.wrap ((j:Int)+1)=((j+1:Nat):Int):=by rw [wrap64_id (by have:=aT.out;have:=ak.out;omega)];omega
        clear q0 q1 q2 q3 q4 q5 q6 q7 q8 q9 T O N y0 au ap am;go_wp2_with fail;go_roundw
        case rel=>exact ⟨j+1,by omega,by go_num,aZ.out⟩
        case measure=>simp [intOf];omega
      have aK:¬ ((j:Int)<(my:Int)):=by omega
      have aU:Hid (RdK wa.heap.size wb.heap.size wr 6 G my E cy):=az.out.below z (Nat.le_of_lt a9);have Hr:Hid (Below w.heap.size w wr):=Hb.out.trans (z.mono (by have:=Hb.out.size;omega));clear z;go_wp2_with fail;refine (implKbOk_any aU.out (by omega) aB.out).mono ?_;rintro e we ⟨rfl,ao⟩;rw [ax.out];have He:Hid (Below w.heap.size w we):=Hr.out.trans (ao.mono Hr.out.size);clear ao y0;go_wp2_with fail;refine (words_any we).mono ?_;rintro e wf ⟨rfl,I⟩;have Hf:Hid (Below w.heap.size w wf):=He.out.trans (I.mono He.out.size);clear I;go_wp2;go_ret;exact ⟨rfl,Hf.out⟩
   obtain rfl:my=0:=by rw [ak.out,aL];rfl
   have y0:=aj.out.cell;have bD:¬ (p<0):=by omega
   go_wp2_with fail
   try rw [← X.out]
   refine (words_any Wb).mono ?_;rintro e wf ⟨rfl,I⟩;have Hf:Hid (Below w.heap.size w wf):=Hb.out.trans (I.mono Hb.out.size);clear I;go_wp2;go_ret;exact ⟨rfl,Hf.out⟩
 have aF:Hid (kbB xs=false):=by unfold Hid;simpa using hok
 have be:Hid (kbText xs=[]):=by unfold Hid kbText;rw [if_neg hok]
 clear hok;rw [be.out] at aD;obtain ⟨a2,c2,rfl⟩:=own_lenW aD
 try rw [show ([]:List Int).length=0 from rfl]
 clear aD;have x0:=aE.out.cell;go_wp2_with fail;refine (specKbOk_any bf.out (by omega) (by omega)).mono ?_;rintro e w3 ⟨rfl,a7⟩;rw [aF.out];have H3:Hid (Below w.heap.size w w3):=H2.out.trans (a7.mono H2.out.size);have aC:Hid (Boxed w3 w1.heap.size 25 (.slice va m vc)):=(a7.block _ aE.out.lt).trans aE.out;have aV:Hid (RdK w.heap.size w1.heap.size w3 20 va m vc xs):=bf.out.below a7 (by omega);have bC:w2.heap.size≤w3.heap.size:=a7.size;clear a7 x0;have x0:=aC.out.cell;go_wp2_with fail;refine (implKbOk_any aV.out (by omega) bg.out).mono ?_;rintro e w4 ⟨rfl,a5⟩;rw [aF.out];have H4:Hid (Below w.heap.size w w4):=H3.out.trans (a5.mono H3.out.size);have bb:Hid (Boxed w4 w1.heap.size 25 (.slice va m vc)):=(a5.block _ aC.out.lt).trans aC.out;have bZ:Hid (RdK w.heap.size w1.heap.size w4 20 va m vc xs):=aV.out.below a5 (by omega);have bO:w3.heap.size≤w4.heap.size:=a5.size;clear a5 x0;obtain ⟨wt,a3⟩:∃ wt,wt=w4:=⟨_,rfl⟩;have Ht:Hid (Below w.heap.size w wt):=by rw [a3];exact H4.out
 rw [← a3];clear a3;have aQ:Hid (Rd 0 wt.heap.size wt a0 Z a1 zs):=(HR.out.below Ht.out (Nat.le_refl _)).mono (Nat.le_refl _) Ht.out.size;go_wp2_with fail;refine (drawKbRead_any aQ.out).mono ?_;rintro e wa ⟨ga,ys,ca,rfl,ae,aI,a4⟩;obtain ⟨ny,af⟩:∃ ny,ny=ys.length:=⟨_,rfl⟩;rw [← af] at ae aI ⊢;have aS:Hid (Rd 0 wa.heap.size wa ga ny ca ys):=ae.mono (Nat.zero_le _) (Nat.le_refl _);have Ha:Hid (Below w.heap.size w wa):=Ht.out.trans (a4.mono Ht.out.size);obtain ⟨cy,p,H⟩:∃ cy p,kbRead ys=(cy,p):=⟨_,_,rfl⟩;have aW:Hid (kbRead ys=(cy,p)):=H
 have aB:Hid (∀ x∈cy,x.c.bulk≤1048576∧x.d.bulk≤1048576):=by
  have:=kbRead_bulk ys;rw [H] at this;intro x hx;have:=this x hx;unfold AX.bulkR at this;omega
 have aT:Hid (cy.length≤8):=by have:=kbRead_eight ys;rw [H] at this;exact this
 have A:=kbRead_fits ys;rw [H,← af] at A
 try dsimp only at A
 clear ae a4 af H;go_wp2_with fail;refine (implKbRead_any ga ny ca ys wa aS.out).mono ?_;rintro e wb hA;rw [aW.out] at hA;obtain ⟨vy,bx,Vsy,Ly,rfl,ar,V⟩:=hA;obtain ⟨G,E,rfl,U⟩:=ar.rd;obtain ⟨my,ag⟩:∃ my,my=cy.length:=⟨_,rfl⟩;have ak:Hid (my=cy.length):=ag
 try dsimp only at U
 rw [show ((cy,p):List AX × Int).1.length=my from ag.symm] at U ⊢;obtain ⟨Wb,X⟩:∃ W,Hid (W=wb.alloc (.cells #[.slice G my E] 25)):=⟨_,rfl⟩;have D:Below wb.heap.size wb Wb:=by rw [X.out];exact (Below.refl _ _).alloc (Nat.le_refl _) _
 have aj:Hid (Boxed Wb wb.heap.size 25 (.slice G my E)):=by unfold Hid;rw [X.out];exact Boxed.new wb _ _
 have az:Hid (RdK wa.heap.size wb.heap.size Wb 6 G my E cy):=U.below D (Nat.le_refl _);have Hb:Hid (Below w.heap.size w Wb):=(Ha.out.trans (V.mono Ha.out.size)).trans (D.mono (Nat.le_trans Ha.out.size V.size));have a9:wb.heap.size<Wb.heap.size:=aj.out.lt;have b3:wa.heap.size≤wb.heap.size:=V.size;clear ar U V D ag
 try dsimp only
 rcases A with ⟨hp,J⟩ | ⟨bF,bE,aL⟩
 · subst hp;have ax:Hid (kbB cy=true):=J;clear J;go_upto_region 15 with fail
   try rw [← X.out]
   go_loopw [11] (fun i wr=>∃ j:Nat,j≤my∧i=.int .i64 j∧Below Wb.heap.size Wb wr) (fun i _=>my - (intOf i).toNat)
   case atStart=>exact ⟨0,Nat.zero_le _,rfl,Below.refl _ _⟩
   case round =>
    obtain ⟨j,hj,rfl,z⟩:=hrel;have aX:Hid (Below Wb.heap.size Wb wr):=z;have aJ:=z.size;have ai:Hid (Boxed wr wb.heap.size 25 (.slice G my E)):=(z.block _ a9).trans aj.out;have y0:=ai.out.cell;by_cases hlt:j<my
    · have aK:(j:Int)<(my:Int):=by omega
      have hK:=az.out.below z (Nat.le_of_lt a9);rcases hK.cells with hz | ⟨b,off,e1,b5,b6,hc⟩
      · omega
      subst e1;obtain ⟨c0,c1,c2,c3,d0,d1,d2,d3,ra,rn,rc,sa,sn,sc,aa,an,ac,ba,bn,bc,q0,q1,q2,q3,q4,q5,q6,q7,q8,q9,T,O,N,ab⟩:=hc j hlt;obtain ⟨x,hx⟩:∃ x,x=cy.getD j AX.zero:=⟨_,rfl⟩
      have a8:x∈cy:=by
       rw [hx,List.getD_eq_getElem?_getD,List.getElem?_eq_getElem (by have:=ak.out;omega)];exact List.getElem_mem _
      rw [← hx] at ab q0;have av:Hid (RdA wa.heap.size wb.heap.size wr 6 c0 c1 c2 c3 d0 d1 d2 d3 ra rn rc sa sn sc aa an ac ba bn bc x):=ab;have ay:Hid (axOk x=true):=kb_all ax.out x a8;have Y:Hid (x.c.bulk≤1048576∧x.d.bulk≤1048576):=aB.out x a8;obtain ⟨kk,ah⟩:∃ kk,kk=x.kind:=⟨_,rfl⟩;rw [← ah] at q0;have aA:Hid (kk=x.kind):=ah
      have aY:Hid (∀ wz,Below wr.heap.size wr wz→wz.cell? ⟨b,off+j*13,none⟩=some (.int .i64 kk)∧wz.cell? ⟨b,off+j*13+1,none⟩=some c0∧wz.cell? ⟨b,off+j*13+2,none⟩=some c1∧wz.cell? ⟨b,off+j*13+3,none⟩=some c2∧wz.cell? ⟨b,off+j*13+4,none⟩=some c3∧wz.cell? ⟨b,off+j*13+5,none⟩=some d0∧wz.cell? ⟨b,off+j*13+6,none⟩=some d1∧wz.cell? ⟨b,off+j*13+7,none⟩=some d2∧wz.cell? ⟨b,off+j*13+8,none⟩=some d3∧wz.cell? ⟨b,off+j*13+9,none⟩=some (.slice ra rn rc)∧wz.cell? ⟨b,off+j*13+10,none⟩=some (.slice sa sn sc)∧wz.cell? ⟨b,off+j*13+11,none⟩=some (.slice aa an ac)∧wz.cell? ⟨b,off+j*13+12,none⟩=some (.slice ba bn bc)):=by
       intro wz hz;have aM:b<wr.heap.size:=by omega
       have t:∀ o v,wr.cell? ⟨b,o,none⟩=some v→wz.cell? ⟨b,o,none⟩=some v:=fun o v h=>(World.cell?_of_block (hz.block b aM)).trans h
       exact ⟨t _ _ q0,t _ _ q1,t _ _ q2,t _ _ q3,t _ _ q4,t _ _ q5,t _ _ q6,t _ _ q7,t _ _ q8,t _ _ q9,t _ _ T,t _ _ O,t _ _ N⟩
      clear hK hc ab z hx ah a8;go_wp2_with fail;refine (implAxiomOk_any av.out (by omega) Y.out.1 Y.out.2 kk aA.out).mono ?_;rintro e wc ⟨rfl,F⟩;rw [ay.out];have bA:=F.size;have aP:Hid (Boxed wc wb.heap.size 25 (.slice (some ⟨b,off,none⟩) my E)):=(F.block _ ai.out.lt).trans ai.out;have aR:Hid (RdA wa.heap.size wb.heap.size wc 6 c0 c1 c2 c3 d0 d1 d2 d3 ra rn rc sa sn sc aa an ac ba bn bc x):=av.out.same (Same.of_below F (by omega));have b2:Hid (Below Wb.heap.size Wb wc):=aX.out.trans (F.mono aJ);clear q0 q1 q2 q3 q4 q5 q6 q7 q8 q9 T O N y0;obtain ⟨q0,q1,q2,q3,q4,q5,q6,q7,q8,q9,T,O,N⟩:=aY.out wc F;have y0:=aP.out.cell;clear F;go_wp2_with fail;refine (implAxText_any aR.out (by omega) Y.out.1 Y.out.2 kk aA.out).mono ?_;rintro e wd ⟨ud,rfl,au,ap⟩;obtain ⟨ad,cd,rfl⟩:=own_lenW au;obtain ⟨nd,am⟩:∃ nd,nd=(axText x).length:=⟨_,rfl⟩;have b4:((nd:Int) == 0)=false:=by have:=axText_pos ay.out;simp;omega
      rw [← am];have aZ:Hid (Below Wb.heap.size Wb wd):=b2.out.trans (ap.mono (by omega));have bz:IntKind.i64.wrap ((j:Int)+1)=((j+1:Nat):Int):=by rw [wrap64_id (by have:=aT.out;have:=ak.out;omega)];omega
      clear q0 q1 q2 q3 q4 q5 q6 q7 q8 q9 T O N y0 au ap am;go_wp2_with fail;go_roundw
      case rel=>exact ⟨j+1,by omega,by go_num,aZ.out⟩
      case measure=>simp [intOf];omega
    have aK:¬ ((j:Int)<(my:Int)):=by omega
    have aU:Hid (RdK wa.heap.size wb.heap.size wr 6 G my E cy):=az.out.below z (Nat.le_of_lt a9);have Hr:Hid (Below w.heap.size w wr):=Hb.out.trans (z.mono (by have:=Hb.out.size;omega));clear z;go_wp2_with fail;refine (implKbOk_any aU.out (by omega) aB.out).mono ?_;rintro e we ⟨rfl,ao⟩;rw [ax.out];have He:Hid (Below w.heap.size w we):=Hr.out.trans (ao.mono Hr.out.size);clear ao y0;go_wp2_with fail;refine (words_any we).mono ?_;rintro e wf ⟨rfl,I⟩;have Hf:Hid (Below w.heap.size w wf):=He.out.trans (I.mono He.out.size);clear I;go_wp2;go_ret;exact ⟨rfl,Hf.out⟩
 obtain rfl:my=0:=by rw [ak.out,aL];rfl
 have y0:=aj.out.cell;have bD:¬ (p<0):=by omega
 go_wp2_with fail
 try rw [← X.out]
 refine (words_any Wb).mono ?_;rintro e wf ⟨rfl,I⟩;have Hf:Hid (Below w.heap.size w wf):=Hb.out.trans (I.mono Hb.out.size);clear I;go_wp2;go_ret;exact ⟨rfl,Hf.out⟩
end Go.Proofs.YtocpeiaolofodaaGreat
