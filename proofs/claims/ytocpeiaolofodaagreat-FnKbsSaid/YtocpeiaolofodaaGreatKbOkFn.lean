/- KbOk of the specification and of the program: a contract each, for all that is told in memory. -/
import Derived.Test.YtocpeiaolofodaaGreatKbSpecM
import Derived.Test.YtocpeiaolofodaaGreatKbImpl1
import Derived.Test.YtocpeiaolofodaaGreatNG8
import Derived.Test.YtocpeiaolofodaaGreatAxImpl4
namespace Go.Proofs.YtocpeiaolofodaaGreat
open Go.RowKit Go.Shelf Go.Maps
theorem mem_getD {xs:List AX} {x:AX} (h:x∈xs):∃ i,i<xs.length∧xs.getD i AX.zero=x:=by
 obtain ⟨i,hi,e⟩:=List.mem_iff_getElem.1 h;exact ⟨i,hi,by rw [List.getD_eq_getElem?_getD,List.getElem?_eq_getElem hi];exact e⟩
theorem RdK.axb {lo hi dp:Nat} {w:World} {a:Option Addr} {n A:Nat} {xs:List AX} (h:RdK lo hi w dp a n A xs) (G:xs.all axOk=true):∀ x∈xs,AxB x:=by
 intro x hx;obtain ⟨i,hi,rfl⟩:=mem_getD hx;rcases h.cells with h0 | ⟨b,off,_,_,_,hc⟩
 · have:=h.len;omega
 obtain ⟨c0,c1,c2,c3,d0,d1,d2,d3,ra,rn,rc,sa,sn,sc,aa,an,ac,ba,bn,bc,_,_,_,_,_,_,_,_,_,_,_,_,_,hr⟩:=hc i (by have:=h.len;omega);obtain ⟨k1,k2⟩:=axOk_con (List.all_eq_true.1 G _ hx);unfold conOk at k1 k2;rw [Bool.and_eq_true] at k1 k2;exact ⟨hr.c.byts 1,hr.d.byts 1,hr.r.byte,hr.s.byte,hr.a.byte,hr.b.byte,of_decide_eq_true k1.1,of_decide_eq_true k2.1⟩
theorem axs_take_succ {xs:List AX} {j:Nat} (h:(xs.take j).all axOk=true) (hj:j<xs.length) (hx:axOk (xs.getD j AX.zero)=true):(xs.take (j+1)).all axOk=true:=by
 rw [take_succ_getD xs AX.zero j hj,List.all_append,h];simpa using hx
theorem all_false {xs:List AX} {j:Nat} (hj:j<xs.length) (hx:axOk (xs.getD j AX.zero)=false):xs.all axOk=false:=by
 cases e:xs.all axOk
 · rfl
 rw [List.all_eq_true] at e;have:xs.getD j AX.zero∈xs:=by rw [List.getD_eq_getElem?_getD,List.getElem?_eq_getElem hj];exact List.getElem_mem hj
 rw [e _ this] at hx;cases hx
theorem kbB_big {xs:List AX} (h:8<xs.length):kbB xs=false:=by unfold kbB;rw [decide_eq_false (by omega)];rfl
theorem kbB_bad {xs:List AX} (h:xs.all axOk=false):kbB xs=false:=by unfold kbB;rw [h];simp
theorem kbB_good {xs:List AX} (h:xs.length≤8) (k:xs.all axOk=true):kbB xs=(decide ((kbN xs).length≤5) && (decide ((kbR xs).length≤3) && decide ((kbI xs).length≤3))):=by unfold kbB;rw [decide_eq_true h,k];rfl
set_option maxRecDepth 100000 in
set_option maxHeartbeats 4000000 in
theorem specKbOk_any {a:Option Addr} {n A:Nat} {xs:List AX} {dp:Nat} {w:World} {lo hi:Nat} (h:RdK lo hi w dp a n A xs) (X:hi≤w.heap.size) (b7:lo≤w.heap.size) :
    Calls Tryz.prog 6 #[.agg #[.slice a n A]] w fun e w'=>e=.returned (.bool (kbB xs))∧Below w.heap.size w w':=by
 have HK:Hid (RdK lo hi w dp a n A xs):=h;have HL:Hid (xs.length=n):=h.len;have hf:=h.fits;have a9:Below w.heap.size w (w.alloc (.cells #[.slice a n A] 25)):=(Below.refl _ _).alloc (Nat.le_refl _) _;have ad:Hid (Below w.heap.size w (w.alloc (.cells #[.slice a n A] 25))):=a9;have a6:Hid (Boxed (w.alloc (.cells #[.slice a n A] 25)) w.heap.size 25 (.slice a n A)):=Boxed.new w _ _;clear h a9;by_cases h8:8<n
 · have HE:Hid (kbB xs=false):=kbB_big (by rw [HL.out];exact h8);have aq:(8:Int)<(n:Int):=by omega
   go_enter Tryz.func6, Tryz.ntmps6;go_wp2_with fail;go_ret;exact ⟨rb HE.out.symm,ad.out⟩
 have aq:¬ ((8:Int)<(n:Int)):=by omega
 have a0:n≤8:=by omega
 go_enter Tryz.func6, Tryz.ntmps6;go_wp2_with fail;go_loopw [3] (fun i wr=>∃ (j:Nat),j≤n∧i=.int .i64 j∧(xs.take j).all axOk=true∧Below w.heap.size w wr∧Boxed wr w.heap.size 25 (.slice a n A)) (fun i _=>n - (intOf i).toNat)
 case atStart=>exact ⟨0,Nat.zero_le _,rfl,rfl,ad.out,a6.out⟩
 case round =>
  obtain ⟨j,hj,rfl,G,z,E⟩:=hrel;have cB:=E.cell;have Y:=E.lt;have O:Hid (Below w.heap.size w wr):=z;have N:Hid (Boxed wr w.heap.size 25 (.slice a n A)):=E;have T:Hid ((xs.take j).all axOk=true):=G;by_cases hlt:j<n
  · have a5:j<xs.length:=by rw [HL.out];exact hlt
    have hK:=HK.out.below z X;rcases hK.cells with hz | ⟨b,off,e1,aR,aS,hc⟩
    · omega
    subst e1;obtain ⟨c0,c1,c2,c3,d0,d1,d2,d3,ra,rn,rc,sa,sn,sc,aa,an,ac,ba,bn,bc,q0,q1,q2,q3,q4,q5,q6,q7,q8,q9,b6,b5,b4,Z⟩:=hc j hlt;have aj:Hid (RdA lo hi wr dp c0 c1 c2 c3 d0 d1 d2 d3 ra rn rc sa sn sc aa an ac ba bn bc (xs.getD j AX.zero)):=Z;have HT:Hid (axOk (xs.getD j AX.zero)=true→(xs.take (j+1)).all axOk=true):=fun e=>axs_take_succ T.out a5 e
    have HF:Hid (axOk (xs.getD j AX.zero)=false→kbB xs=false):=fun e=>kbB_bad (all_false a5 e)
    have b8:(j:Int)<(n:Int):=by omega
    have I:hi≤wr.heap.size:=Nat.le_trans X z.size;obtain ⟨x,hx⟩:∃ x,x=xs.getD j AX.zero:=⟨_,rfl⟩;rw [← hx] at aj HT HF q0;obtain ⟨kk,a1⟩:∃ kk,kk=x.kind:=⟨_,rfl⟩;rw [← a1] at q0;have aP:Hid (kk=x.kind):=a1;clear hK hc Z z E G hx a1;go_wp2_with fail;refine (specAxiomOk_any aj.out I kk aP.out).mono ?_;rintro e w2 ⟨rfl,H⟩;have J:Hid (Below w.heap.size w w2):=O.out.trans (H.mono O.out.size);have F:Hid (Boxed w2 w.heap.size 25 (.slice (some ⟨b,off,none⟩) n A)):=(H.block _ Y).trans N.out;clear H;cases hok:axOk x
    · have HE:Hid (kbB xs=false):=HF.out hok;go_wp2_with fail;go_ret;exact ⟨rb HE.out.symm,J.out⟩
    have HA:Hid ((xs.take (j+1)).all axOk=true):=HT.out hok;go_wp2_with fail;go_roundw
    case rel=>exact ⟨j+1,by omega,by go_num,HA.out,J.out,F.out⟩
    case measure=>simp [intOf];omega
  have D:xs.all axOk=true:=by have:=T.out;rwa [List.take_of_length_le (by rw [HL.out];omega)] at this
  have HE:Hid (kbB xs=(decide ((kbN xs).length≤5) && (decide ((kbR xs).length≤3) && decide ((kbI xs).length≤3)))):=kbB_good (by rw [HL.out];exact a0) D;have ae:Hid (∀ x∈xs,AxB x):=HK.out.axb D;have ab:Hid (∀ V,Below w.heap.size w V→RdK lo hi V dp a n A xs):=fun V hV=>HK.out.below hV X
  have aQ:lo≤wr.heap.size:=Nat.le_trans b7 z.size;have I:hi≤wr.heap.size:=Nat.le_trans X z.size;clear D G z E;go_wp2_with fail;refine (l3names_any (ab.out _ O.out) I aQ ae.out a0).mono ?_;rintro e w2 ⟨a2,n2,l2,rfl,a8,H⟩;have J:Hid (Below w.heap.size w w2):=O.out.trans (H.mono O.out.size);have F:Hid (Boxed w2 w.heap.size 25 (.slice a n A)):=(H.block _ Y).trans N.out;have HN:Hid ((kbN xs).length=n2):=a8.len;have bg:=H.size;have cB2:=F.out.cell;clear a8 H;by_cases h5:n2≤5
  · have ar:(n2:Int)≤5:=by omega
    go_wp2_with fail;refine (l3roles_any (ab.out _ J.out) (by omega) (by omega) ae.out a0).mono ?_;rintro e w3 ⟨a3,n3,l3,rfl,aU,U⟩;have ak:Hid (Below w.heap.size w w3):=J.out.trans (U.mono J.out.size);have ag:Hid (Boxed w3 w.heap.size 25 (.slice a n A)):=(U.block _ (by omega)).trans F.out;have HR:Hid ((kbR xs).length=n3):=aU.len;have bf:=U.size;have cB3:=ag.out.cell;clear aU U;by_cases h3:n3≤3
    · have au:(n3:Int)≤3:=by omega
      go_wp2_with fail;refine (l3inds_any (ab.out _ ak.out) (by omega) (by omega) ae.out a0).mono ?_;rintro e w4 ⟨a4,n4,l4,rfl,aT,aZ⟩;have bd:Hid (Below w.heap.size w w4):=ak.out.trans (aZ.mono ak.out.size);have HI:Hid ((kbI xs).length=n4):=aT.len;clear aT aZ;go_wp2_with fail;go_ret;refine ⟨rb ?_,bd.out⟩;rw [HE.out,HN.out,HR.out,HI.out,decide_eq_true h5,decide_eq_true h3];by_cases h4:n4≤3
      · rw [decide_eq_true h4];simp;omega
      rw [decide_eq_false h4];simp;omega
    have au:¬ ((n3:Int)≤3):=by omega
    go_wp2_with fail;go_ret;refine ⟨rb ?_,ak.out⟩;rw [HE.out,HN.out,HR.out,decide_eq_false h3];simp
  have ar:¬ ((n2:Int)≤5):=by omega
  go_wp2_with fail;go_ret;refine ⟨rb ?_,J.out⟩;rw [HE.out,HN.out,decide_eq_false h5];rfl
set_option maxRecDepth 100000 in
set_option maxHeartbeats 4000000 in
theorem implKbOk_any {a:Option Addr} {n A:Nat} {xs:List AX} {dp:Nat} {w:World} {lo hi:Nat} (h:RdK lo hi w dp a n A xs) (X:hi≤w.heap.size) (aY:∀ x∈xs,x.c.bulk≤1048576∧x.d.bulk≤1048576) :
    Calls Tryz.prog 7 #[.agg #[.slice a n A]] w fun e w'=>e=.returned (.bool (kbB xs))∧Below w.heap.size w w':=by
 have HK:Hid (RdK lo hi w dp a n A xs):=h;have HL:Hid (xs.length=n):=h.len;have b2:Hid (∀ x∈xs,x.c.bulk≤1048576∧x.d.bulk≤1048576):=aY;have hf:=h.fits;have a9:Below w.heap.size w (w.alloc (.cells #[.slice a n A] 25)):=(Below.refl _ _).alloc (Nat.le_refl _) _;have ad:Hid (Below w.heap.size w (w.alloc (.cells #[.slice a n A] 25))):=a9;have a6:Hid (Boxed (w.alloc (.cells #[.slice a n A] 25)) w.heap.size 25 (.slice a n A)):=Boxed.new w _ _;clear h a9 aY;by_cases h8:8<n
 · have HE:Hid (kbB xs=false):=kbB_big (by rw [HL.out];exact h8);have aq:(8:Int)<(n:Int):=by omega
   go_enter Tryz.func7, Tryz.ntmps7;go_wp2_with fail;go_ret;exact ⟨rb HE.out.symm,ad.out⟩
 have aq:¬ ((8:Int)<(n:Int)):=by omega
 have a0:n≤8:=by omega
 go_enter Tryz.func7, Tryz.ntmps7;go_wp2_with fail;go_loopw [13] (fun i wr=>∃ (j:Nat),j≤n∧i=.int .i64 j∧(xs.take j).all axOk=true∧Below w.heap.size w wr∧Boxed wr w.heap.size 25 (.slice a n A)) (fun i _=>n - (intOf i).toNat)
 case atStart=>exact ⟨0,Nat.zero_le _,rfl,rfl,ad.out,a6.out⟩
 case round =>
  obtain ⟨j,hj,rfl,G,z,E⟩:=hrel;have cB:=E.cell;have Y:=E.lt;have O:Hid (Below w.heap.size w wr):=z;have N:Hid (Boxed wr w.heap.size 25 (.slice a n A)):=E;have T:Hid ((xs.take j).all axOk=true):=G;by_cases hlt:j<n
  · have a5:j<xs.length:=by rw [HL.out];exact hlt
    have hK:=HK.out.below z X;rcases hK.cells with hz | ⟨b,off,e1,aR,aS,hc⟩
    · omega
    subst e1;obtain ⟨c0,c1,c2,c3,d0,d1,d2,d3,ra,rn,rc,sa,sn,sc,aa,an,ac,ba,bn,bc,q0,q1,q2,q3,q4,q5,q6,q7,q8,q9,b6,b5,b4,Z⟩:=hc j hlt;obtain ⟨ek,aN,aL,aM,aK,aI,aJ,aH,aF,aG,rfl,rfl,rfl,rfl⟩:=Z.c.sh.form;obtain ⟨fk,aE,aC,aD,aB,az,aA,ay,av,ax,rfl,rfl,rfl,rfl⟩:=Z.d.sh.form;have af:xs.getD j AX.zero∈xs:=by rw [List.getD_eq_getElem?_getD,List.getElem?_eq_getElem a5];exact List.getElem_mem a5
    have a7:Hid ((xs.getD j AX.zero).c.bulk≤1048576∧(xs.getD j AX.zero).d.bulk≤1048576):=b2.out _ af;have HT:Hid (axOk (xs.getD j AX.zero)=true→(xs.take (j+1)).all axOk=true):=fun e=>axs_take_succ T.out a5 e
    have HF:Hid (axOk (xs.getD j AX.zero)=false→kbB xs=false):=fun e=>kbB_bad (all_false a5 e)
    have b8:(j:Int)<(n:Int):=by omega
    have I:hi≤wr.heap.size:=Nat.le_trans X z.size;obtain ⟨x,hx⟩:∃ x,x=xs.getD j AX.zero:=⟨_,rfl⟩;rw [← hx] at HT HF q0 a7 Z;obtain ⟨kk,a1⟩:∃ kk,kk=x.kind:=⟨_,rfl⟩;rw [← a1] at q0;have aP:Hid (kk=x.kind):=a1;obtain ⟨w1,al⟩:∃ w1,w1=wr.alloc (.cells #[.int .i64 kk,.int .i64 ek,.slice aN aL aM,.slice aK aI aJ,.slice aH aF aG,.int .i64 fk,.slice aE aC aD,.slice aB az aA,.slice ay av ax,.slice ra rn rc,.slice sa sn sc,.slice aa an ac,.slice ba bn bc] 39):=⟨_,rfl⟩;have b9:Hid (w1=wr.alloc (.cells #[.int .i64 kk,.int .i64 ek,.slice aN aL aM,.slice aK aI aJ,.slice aH aF aG,.int .i64 fk,.slice aE aC aD,.slice aB az aA,.slice ay av ax,.slice ra rn rc,.slice sa sn sc,.slice aa an ac,.slice ba bn bc] 39)):=al;have ai:Below wr.heap.size wr w1:=by rw [al];exact (Below.refl _ _).alloc (Nat.le_refl _) _
    have b3:Hid (Below wr.heap.size wr w1):=ai;have aj:Hid (RdA lo hi w1 dp (.int .i64 ek) (.slice aN aL aM) (.slice aK aI aJ) (.slice aH aF aG) (.int .i64 fk) (.slice aE aC aD) (.slice aB az aA) (.slice ay av ax) ra rn rc sa sn sc aa an ac ba bn bc x):=Z.below ai I;have bh:=ai.size;clear hK hc Z z E G hx a1 al ai af;go_wp2_with fail;rw [← b9.out];refine (implAxiomOk_any aj.out (by omega) a7.out.1 a7.out.2 kk aP.out).mono ?_;rintro e w2 ⟨rfl,H⟩;have J:Hid (Below w.heap.size w w2):=O.out.trans ((b3.out.mono O.out.size).trans (H.mono (by have:=O.out.size;omega)));have F:Hid (Boxed w2 w.heap.size 25 (.slice (some ⟨b,off,none⟩) n A)):=(H.block _ (by omega)).trans ((b3.out.block _ Y).trans N.out);clear H;cases hok:axOk x
    · have HE:Hid (kbB xs=false):=HF.out hok;go_wp2_with fail;go_ret;exact ⟨rb HE.out.symm,J.out⟩
    have HA:Hid ((xs.take (j+1)).all axOk=true):=HT.out hok;go_wp2_with fail;go_roundw
    case rel=>exact ⟨j+1,by omega,by go_num,HA.out,J.out,F.out⟩
    case measure=>simp [intOf];omega
  have D:xs.all axOk=true:=by have:=T.out;rwa [List.take_of_length_le (by rw [HL.out];omega)] at this
  have HE:Hid (kbB xs=(decide ((kbN xs).length≤5) && (decide ((kbR xs).length≤3) && decide ((kbI xs).length≤3)))):=kbB_good (by rw [HL.out];exact a0) D;have ae:Hid (∀ x∈xs,AxB x):=HK.out.axb D;have bb:Hid (∀ x∈xs,conOk x.c=true∧conOk x.d=true):=fun x hx=>axOk_con (List.all_eq_true.1 D x hx)
  have ab:Hid (∀ V,Below w.heap.size w V→RdK lo hi V dp a n A xs):=fun V hV=>HK.out.below hV X
  have I:hi≤wr.heap.size:=Nat.le_trans X z.size;clear D G z E;go_wp2_with fail;refine (vocabularyOf_any (ab.out _ O.out) I ae.out bb.out b2.out a0).mono ?_;rintro e w2 ⟨rfl,am,a8,ao,H⟩;obtain ⟨w3,ah⟩:∃ w3,w3=w2.alloc (.cells #[.map (some (wr.heap.size+2)),.map (some (wr.heap.size+3)),.map (some (wr.heap.size+4))] 51):=⟨_,rfl⟩;have aO:Hid (w3=w2.alloc (.cells #[.map (some (wr.heap.size+2)),.map (some (wr.heap.size+3)),.map (some (wr.heap.size+4))] 51)):=ah;have U:Below w2.heap.size w2 w3:=by rw [ah];exact (Below.refl _ _).alloc (Nat.le_refl _) _
  have ap:BoxV w3 w2.heap.size (wr.heap.size+2) (wr.heap.size+3) (wr.heap.size+4):=by rw [ah];exact BoxV.new _ _ _ _
  obtain ⟨v0,v1,v2⟩:=ap.cells;obtain ⟨DN,oN,_,sN,_⟩:=am.below U am.lt;obtain ⟨DR,oR,_,sR,_⟩:=a8.below U a8.lt;obtain ⟨DI,oI,_,sI,_⟩:=ao.below U ao.lt;have eN:=fun ty=>oN.len Tryz.undSet ty
  have eR:=fun ty=>oR.len Tryz.undSet ty
  have eI:=fun ty=>oI.len Tryz.undSet ty
  rw [sN] at eN;rw [sR] at eR;rw [sI] at eI;have J:Hid (Below w.heap.size w w3):=O.out.trans ((H.mono O.out.size).trans (U.mono (by have:=O.out.size;have:=H.size;omega)));obtain ⟨ln,aW⟩:∃ ln,ln=(kbN xs).length:=⟨_,rfl⟩;obtain ⟨lr,aV⟩:∃ lr,lr=(kbR xs).length:=⟨_,rfl⟩;obtain ⟨li,aX⟩:∃ li,li=(kbI xs).length:=⟨_,rfl⟩;rw [← aW] at HE eN;rw [← aV] at HE eR;rw [← aX] at HE eI;have be:=ap.lt;clear am a8 ao H U ap oN oR oI sN sR sI ah aW aV aX;by_cases h5:ln≤5
  · have ar:(ln:Int)≤5:=by omega
    by_cases h3:lr≤3
    · have au:(lr:Int)≤3:=by omega
      go_upto_region 10 with fail;rw [← aO.out];go_wp2_with fail;go_ret;refine ⟨rb ?_,J.out⟩;rw [HE.out,decide_eq_true h5,decide_eq_true h3];by_cases h4:li≤3
      · rw [decide_eq_true h4];simp;omega
      rw [decide_eq_false h4];simp;omega
    have au:¬ ((lr:Int)≤3):=by omega
    go_upto_region 10 with fail;rw [← aO.out];go_wp2_with fail;go_ret;refine ⟨rb ?_,J.out⟩;rw [HE.out,decide_eq_false h3];simp
  have ar:¬ ((ln:Int)≤5):=by omega
  go_upto_region 10 with fail;rw [← aO.out];go_wp2_with fail;go_ret;refine ⟨rb ?_,J.out⟩;rw [HE.out,decide_eq_false h5];rfl
end Go.Proofs.YtocpeiaolofodaaGreat
