/- Several texts in one: KbOkFn, MdlS. -/
import Derived.Test.YtnmljalcndfjmaaGreatKbSpecM
import Derived.Test.YtnmljalcndfjmaaGreatKbImpl1
import Derived.Test.YtnmljalcndfjmaaGreatNG7
import Derived.Test.YtnmljalcndfjmaaGreatAxImpl4
import Derived.Test.YtnmljalcndfjmaaGreatNG15
import Derived.Deep.RegionHeld3
import Derived.Deep.DeepCutAuto
namespace Go.Proofs.YtnmljalcndfjmaaGreat

section
open Go.RowKit Go.Shelf Go.Maps
theorem mem_getD {xs:List AX} {x:AX} (h:x∈xs):∃ i,i<xs.length∧xs.getD i AX.zero=x:=by
 obtain ⟨i,hi,e⟩:=List.mem_iff_getElem.1 h;exact ⟨i,hi,by rw [List.getD_eq_getElem?_getD,List.getElem?_eq_getElem hi];exact e⟩
theorem RdK.axb {lo hi dp:Nat} {w:World} {a:Option Addr} {n y:Nat} {xs:List AX} (h:RdK lo hi w dp a n y xs) (F:xs.all axOk=true):∀ x∈xs,AxB x:=by
 intro x hx;obtain ⟨i,hi,rfl⟩:=mem_getD hx;rcases h.cells with h0 | ⟨b,off,_,_,_,hc⟩
 · have:=h.len;omega
 obtain ⟨c0,c1,c2,c3,d0,d1,d2,d3,ra,rn,rc,sa,sn,sc,aa,an,ac,ba,bn,bc,_,_,_,_,_,_,_,_,_,_,_,_,_,hr⟩:=hc i (by have:=h.len;omega);obtain ⟨k1,k2⟩:=axOk_con (List.all_eq_true.1 F _ hx);unfold conOk at k1 k2;rw [Bool.and_eq_true] at k1 k2;exact ⟨hr.c.byts 1,hr.d.byts 1,hr.r.byte,hr.s.byte,hr.a.byte,hr.b.byte,of_decide_eq_true k1.1,of_decide_eq_true k2.1⟩
theorem axs_take_succ {xs:List AX} {j:Nat} (h:(xs.take j).all axOk=true) (hj:j<xs.length) (hx:axOk (xs.getD j AX.zero)=true):(xs.take (j+1)).all axOk=true:=by
 rw [take_succ_getD xs AX.zero j hj,List.all_append,h];simpa using hx
theorem all_false {xs:List AX} {j:Nat} (hj:j<xs.length) (hx:axOk (xs.getD j AX.zero)=false):xs.all axOk=false:=by
 cases e:xs.all axOk
 · rfl
 rw [List.all_eq_true] at e;have:xs.getD j AX.zero∈xs:=by rw [List.getD_eq_getElem?_getD,List.getElem?_eq_getElem hj];exact List.getElem_mem hj
 rw [e _ this] at hx;cases hx
theorem kbB_big {xs:List AX} (h:8<xs.length):kbB xs=false:=by unfold kbB;rw [decide_eq_false (by omega)];rfl
theorem kbB_bad {xs:List AX} (h:xs.all axOk=false):kbB xs=false:=by unfold kbB;rw [h];simp
theorem kbB_good {xs:List AX} (h:xs.length≤8) (k:xs.all axOk=true):kbB xs=(decide ((kbN xs).length≤5) && (decide ((kbR xs).length≤3) && decide ((kbI xs).length≤3))):=by unfold kbB;rw [decide_eq_true h,k];rfl
set_option maxRecDepth 100000 in
set_option maxHeartbeats 4000000 in
theorem specKbOk_any {a:Option Addr} {n y:Nat} {xs:List AX} {dp:Nat} {w:World} {lo hi:Nat} (h:RdK lo hi w dp a n y xs) (T:hi≤w.heap.size) (b5:lo≤w.heap.size) :
    Calls Tryz.prog 17 #[.agg #[.slice a n y]] w fun e w'=>e=.returned (.bool (kbB xs))∧Below w.heap.size w w':=by
 have HK:Hid (RdK lo hi w dp a n y xs):=h;have HL:Hid (xs.length=n):=h.len;have hf:=h.fits;have a7:Below w.heap.size w (w.alloc (.cells #[.slice a n y] 42)):=(Below.refl _ _).alloc (Nat.le_refl _) _;have a9:Hid (Below w.heap.size w (w.alloc (.cells #[.slice a n y] 42))):=a7;have a1:Hid (Boxed (w.alloc (.cells #[.slice a n y] 42)) w.heap.size 42 (.slice a n y)):=Boxed.new w _ _;clear h a7;by_cases h8:8<n
 · have HE:Hid (kbB xs=false):=kbB_big (by rw [HL.out];exact h8);have ao:(8:Int)<(n:Int):=by omega
   go_enter Tryz.func17, Tryz.ntmps17;go_wp2_with fail;go_ret;exact ⟨rb HE.out.symm,a9.out⟩
 have ao:¬ ((8:Int)<(n:Int)):=by omega
 have Y:n≤8:=by omega
 go_enter Tryz.func17, Tryz.ntmps17;go_wp2_with fail;go_loopw [3] (fun i wr=>∃ (j:Nat),j≤n∧i=.int .i64 j∧(xs.take j).all axOk=true∧Below w.heap.size w wr∧Boxed wr w.heap.size 42 (.slice a n y)) (fun i _=>n - (intOf i).toNat)
 case atStart=>exact ⟨0,Nat.zero_le _,rfl,rfl,a9.out,a1.out⟩
 case round =>
  obtain ⟨j,hj,rfl,F,q,D⟩:=hrel;have cB:=D.cell;have U:=D.lt;have N:Hid (Below w.heap.size w wr):=q;have J:Hid (Boxed wr w.heap.size 42 (.slice a n y)):=D;have O:Hid ((xs.take j).all axOk=true):=F;by_cases hlt:j<n
  · have a0:j<xs.length:=by rw [HL.out];exact hlt
    have hK:=HK.out.below q T;rcases hK.cells with hz | ⟨b,off,e1,aP,aQ,hc⟩
    · omega
    subst e1;obtain ⟨c0,c1,c2,c3,d0,d1,d2,d3,ra,rn,rc,sa,sn,sc,aa,an,ac,ba,bn,bc,q0,q1,q2,q3,q4,q5,q6,q7,q8,q9,b4,b3,b2,X⟩:=hc j hlt;have ah:Hid (RdA lo hi wr dp c0 c1 c2 c3 d0 d1 d2 d3 ra rn rc sa sn sc aa an ac ba bn bc (xs.getD j AX.zero)):=X;have HT:Hid (axOk (xs.getD j AX.zero)=true→(xs.take (j+1)).all axOk=true):=fun e=>axs_take_succ O.out a0 e
    have HF:Hid (axOk (xs.getD j AX.zero)=false→kbB xs=false):=fun e=>kbB_bad (all_false a0 e)
    have b6:(j:Int)<(n:Int):=by omega
    have H:hi≤wr.heap.size:=Nat.le_trans T q.size;obtain ⟨x,hx⟩:∃ x,x=xs.getD j AX.zero:=⟨_,rfl⟩;rw [← hx] at ah HT HF q0;obtain ⟨kk,Z⟩:∃ kk,kk=x.kind:=⟨_,rfl⟩;rw [← Z] at q0;have aN:Hid (kk=x.kind):=Z;clear hK hc X q D F hx Z;go_wp2_with fail;refine (specAxiomOk_any ah.out H kk aN.out).mono ?_;rintro e w2 ⟨rfl,G⟩;have I:Hid (Below w.heap.size w w2):=N.out.trans (G.mono N.out.size);have E:Hid (Boxed w2 w.heap.size 42 (.slice (some ⟨b,off,none⟩) n y)):=(G.block _ U).trans J.out;clear G;cases hok:axOk x
    · have HE:Hid (kbB xs=false):=HF.out hok;go_wp2_with fail;go_ret;exact ⟨rb HE.out.symm,I.out⟩
    have HA:Hid ((xs.take (j+1)).all axOk=true):=HT.out hok;go_wp2_with fail;go_roundw
    case rel=>exact ⟨j+1,by omega,by go_num,HA.out,I.out,E.out⟩
    case measure=>simp [intOf];omega
  have A:xs.all axOk=true:=by have:=O.out;rwa [List.take_of_length_le (by rw [HL.out];omega)] at this
  have HE:Hid (kbB xs=(decide ((kbN xs).length≤5) && (decide ((kbR xs).length≤3) && decide ((kbI xs).length≤3)))):=kbB_good (by rw [HL.out];exact Y) A;have ab:Hid (∀ x∈xs,AxB x):=HK.out.axb A;have a8:Hid (∀ V,Below w.heap.size w V→RdK lo hi V dp a n y xs):=fun V hV=>HK.out.below hV T
  have aO:lo≤wr.heap.size:=Nat.le_trans b5 q.size;have H:hi≤wr.heap.size:=Nat.le_trans T q.size;clear A F q D;go_wp2_with fail;refine (l3names_any (a8.out _ N.out) H aO ab.out Y).mono ?_;rintro e w2 ⟨a2,n2,l2,rfl,a6,G⟩;have I:Hid (Below w.heap.size w w2):=N.out.trans (G.mono N.out.size);have E:Hid (Boxed w2 w.heap.size 42 (.slice a n y)):=(G.block _ U).trans J.out;have HN:Hid ((kbN xs).length=n2):=a6.len;have be:=G.size;have cB2:=E.out.cell;clear a6 G;by_cases h5:n2≤5
  · have ap:(n2:Int)≤5:=by omega
    go_wp2_with fail;refine (l3roles_any (a8.out _ I.out) (by omega) (by omega) ab.out Y).mono ?_;rintro e w3 ⟨a3,n3,l3,rfl,aS,R⟩;have ai:Hid (Below w.heap.size w w3):=I.out.trans (R.mono I.out.size);have ae:Hid (Boxed w3 w.heap.size 42 (.slice a n y)):=(R.block _ (by omega)).trans E.out;have HR:Hid ((kbR xs).length=n3):=aS.len;have bd:=R.size;have cB3:=ae.out.cell;clear aS R;by_cases h3:n3≤3
    · have aq:(n3:Int)≤3:=by omega
      go_wp2_with fail;refine (l3inds_any (a8.out _ ai.out) (by omega) (by omega) ab.out Y).mono ?_;rintro e w4 ⟨a4,n4,l4,rfl,aR,aX⟩;have b9:Hid (Below w.heap.size w w4):=ai.out.trans (aX.mono ai.out.size);have HI:Hid ((kbI xs).length=n4):=aR.len;clear aR aX;go_wp2_with fail;go_ret;refine ⟨rb ?_,b9.out⟩;rw [HE.out,HN.out,HR.out,HI.out,decide_eq_true h5,decide_eq_true h3];by_cases h4:n4≤3
      · rw [decide_eq_true h4];simp;omega
      rw [decide_eq_false h4];simp;omega
    have aq:¬ ((n3:Int)≤3):=by omega
    go_wp2_with fail;go_ret;refine ⟨rb ?_,ai.out⟩;rw [HE.out,HN.out,HR.out,decide_eq_false h3];simp
  have ap:¬ ((n2:Int)≤5):=by omega
  go_wp2_with fail;go_ret;refine ⟨rb ?_,I.out⟩;rw [HE.out,HN.out,decide_eq_false h5];rfl
set_option maxRecDepth 100000 in
set_option maxHeartbeats 4000000 in
theorem implKbOk_any {a:Option Addr} {n y:Nat} {xs:List AX} {dp:Nat} {w:World} {lo hi:Nat} (h:RdK lo hi w dp a n y xs) (T:hi≤w.heap.size) (aW:∀ x∈xs,x.c.bulk≤1048576∧x.d.bulk≤1048576) :
    Calls Tryz.prog 47 #[.agg #[.slice a n y]] w fun e w'=>e=.returned (.bool (kbB xs))∧Below w.heap.size w w':=by
 have HK:Hid (RdK lo hi w dp a n y xs):=h;have HL:Hid (xs.length=n):=h.len;have aY:Hid (∀ x∈xs,x.c.bulk≤1048576∧x.d.bulk≤1048576):=aW;have hf:=h.fits;have a7:Below w.heap.size w (w.alloc (.cells #[.slice a n y] 42)):=(Below.refl _ _).alloc (Nat.le_refl _) _;have a9:Hid (Below w.heap.size w (w.alloc (.cells #[.slice a n y] 42))):=a7;have a1:Hid (Boxed (w.alloc (.cells #[.slice a n y] 42)) w.heap.size 42 (.slice a n y)):=Boxed.new w _ _;clear h a7 aW;by_cases h8:8<n
 · have HE:Hid (kbB xs=false):=kbB_big (by rw [HL.out];exact h8);have ao:(8:Int)<(n:Int):=by omega
   go_enter Tryz.func47, Tryz.ntmps47;go_wp2_with fail;go_ret;exact ⟨rb HE.out.symm,a9.out⟩
 have ao:¬ ((8:Int)<(n:Int)):=by omega
 have Y:n≤8:=by omega
 go_enter Tryz.func47, Tryz.ntmps47;go_wp2_with fail;go_loopw [13] (fun i wr=>∃ (j:Nat),j≤n∧i=.int .i64 j∧(xs.take j).all axOk=true∧Below w.heap.size w wr∧Boxed wr w.heap.size 42 (.slice a n y)) (fun i _=>n - (intOf i).toNat)
 case atStart=>exact ⟨0,Nat.zero_le _,rfl,rfl,a9.out,a1.out⟩
 case round =>
  obtain ⟨j,hj,rfl,F,q,D⟩:=hrel;have cB:=D.cell;have U:=D.lt;have N:Hid (Below w.heap.size w wr):=q;have J:Hid (Boxed wr w.heap.size 42 (.slice a n y)):=D;have O:Hid ((xs.take j).all axOk=true):=F;by_cases hlt:j<n
  · have a0:j<xs.length:=by rw [HL.out];exact hlt
    have hK:=HK.out.below q T;rcases hK.cells with hz | ⟨b,off,e1,aP,aQ,hc⟩
    · omega
    subst e1;obtain ⟨c0,c1,c2,c3,d0,d1,d2,d3,ra,rn,rc,sa,sn,sc,aa,an,ac,ba,bn,bc,q0,q1,q2,q3,q4,q5,q6,q7,q8,q9,b4,b3,b2,X⟩:=hc j hlt;obtain ⟨ek,aL,aJ,aK,aI,aG,aH,aF,aD,aE,rfl,rfl,rfl,rfl⟩:=X.c.sh.form;obtain ⟨fk,aC,aA,aB,az,ax,ay,av,ar,au,rfl,rfl,rfl,rfl⟩:=X.d.sh.form;have ad:xs.getD j AX.zero∈xs:=by rw [List.getD_eq_getElem?_getD,List.getElem?_eq_getElem a0];exact List.getElem_mem a0
    have a5:Hid ((xs.getD j AX.zero).c.bulk≤1048576∧(xs.getD j AX.zero).d.bulk≤1048576):=aY.out _ ad;have HT:Hid (axOk (xs.getD j AX.zero)=true→(xs.take (j+1)).all axOk=true):=fun e=>axs_take_succ O.out a0 e
    have HF:Hid (axOk (xs.getD j AX.zero)=false→kbB xs=false):=fun e=>kbB_bad (all_false a0 e)
    have b6:(j:Int)<(n:Int):=by omega
    have H:hi≤wr.heap.size:=Nat.le_trans T q.size;obtain ⟨x,hx⟩:∃ x,x=xs.getD j AX.zero:=⟨_,rfl⟩;rw [← hx] at HT HF q0 a5 X;obtain ⟨kk,Z⟩:∃ kk,kk=x.kind:=⟨_,rfl⟩;rw [← Z] at q0;have aN:Hid (kk=x.kind):=Z;obtain ⟨w1,aj⟩:∃ w1,w1=wr.alloc (.cells #[.int .i64 kk,.int .i64 ek,.slice aL aJ aK,.slice aI aG aH,.slice aF aD aE,.int .i64 fk,.slice aC aA aB,.slice az ax ay,.slice av ar au,.slice ra rn rc,.slice sa sn sc,.slice aa an ac,.slice ba bn bc] 49):=⟨_,rfl⟩;have b7:Hid (w1=wr.alloc (.cells #[.int .i64 kk,.int .i64 ek,.slice aL aJ aK,.slice aI aG aH,.slice aF aD aE,.int .i64 fk,.slice aC aA aB,.slice az ax ay,.slice av ar au,.slice ra rn rc,.slice sa sn sc,.slice aa an ac,.slice ba bn bc] 49)):=aj;have ag:Below wr.heap.size wr w1:=by rw [aj];exact (Below.refl _ _).alloc (Nat.le_refl _) _
    have aZ:Hid (Below wr.heap.size wr w1):=ag;have ah:Hid (RdA lo hi w1 dp (.int .i64 ek) (.slice aL aJ aK) (.slice aI aG aH) (.slice aF aD aE) (.int .i64 fk) (.slice aC aA aB) (.slice az ax ay) (.slice av ar au) ra rn rc sa sn sc aa an ac ba bn bc x):=X.below ag H;have bf:=ag.size;clear hK hc X q D F hx Z aj ag ad;go_wp2_with fail;rw [← b7.out];refine (implAxiomOk_any ah.out (by omega) a5.out.1 a5.out.2 kk aN.out).mono ?_;rintro e w2 ⟨rfl,G⟩;have I:Hid (Below w.heap.size w w2):=N.out.trans ((aZ.out.mono N.out.size).trans (G.mono (by have:=N.out.size;omega)));have E:Hid (Boxed w2 w.heap.size 42 (.slice (some ⟨b,off,none⟩) n y)):=(G.block _ (by omega)).trans ((aZ.out.block _ U).trans J.out);clear G;cases hok:axOk x
    · have HE:Hid (kbB xs=false):=HF.out hok;go_wp2_with fail;go_ret;exact ⟨rb HE.out.symm,I.out⟩
    have HA:Hid ((xs.take (j+1)).all axOk=true):=HT.out hok;go_wp2_with fail;go_roundw
    case rel=>exact ⟨j+1,by omega,by go_num,HA.out,I.out,E.out⟩
    case measure=>simp [intOf];omega
  have A:xs.all axOk=true:=by have:=O.out;rwa [List.take_of_length_le (by rw [HL.out];omega)] at this
  have HE:Hid (kbB xs=(decide ((kbN xs).length≤5) && (decide ((kbR xs).length≤3) && decide ((kbI xs).length≤3)))):=kbB_good (by rw [HL.out];exact Y) A;have ab:Hid (∀ x∈xs,AxB x):=HK.out.axb A;have b8:Hid (∀ x∈xs,conOk x.c=true∧conOk x.d=true):=fun x hx=>axOk_con (List.all_eq_true.1 A x hx)
  have a8:Hid (∀ V,Below w.heap.size w V→RdK lo hi V dp a n y xs):=fun V hV=>HK.out.below hV T
  have H:hi≤wr.heap.size:=Nat.le_trans T q.size;clear A F q D;go_wp2_with fail;refine (vocabularyOf_any (a8.out _ N.out) H ab.out b8.out aY.out Y).mono ?_;rintro e w2 ⟨rfl,ak,a6,al,G⟩;obtain ⟨w3,af⟩:∃ w3,w3=w2.alloc (.cells #[.map (some (wr.heap.size+2)),.map (some (wr.heap.size+3)),.map (some (wr.heap.size+4))] 92):=⟨_,rfl⟩;have aM:Hid (w3=w2.alloc (.cells #[.map (some (wr.heap.size+2)),.map (some (wr.heap.size+3)),.map (some (wr.heap.size+4))] 92)):=af;have R:Below w2.heap.size w2 w3:=by rw [af];exact (Below.refl _ _).alloc (Nat.le_refl _) _
  have am:BoxV w3 w2.heap.size (wr.heap.size+2) (wr.heap.size+3) (wr.heap.size+4):=by rw [af];exact BoxV.new _ _ _ _
  obtain ⟨v0,v1,v2⟩:=am.cells;obtain ⟨DN,oN,_,sN,_⟩:=ak.below R ak.lt;obtain ⟨DR,oR,_,sR,_⟩:=a6.below R a6.lt;obtain ⟨DI,oI,_,sI,_⟩:=al.below R al.lt;have eN:=fun ty=>oN.len Tryz.undSet ty
  have eR:=fun ty=>oR.len Tryz.undSet ty
  have eI:=fun ty=>oI.len Tryz.undSet ty
  rw [sN] at eN;rw [sR] at eR;rw [sI] at eI;have I:Hid (Below w.heap.size w w3):=N.out.trans ((G.mono N.out.size).trans (R.mono (by have:=N.out.size;have:=G.size;omega)));obtain ⟨ln,aU⟩:∃ ln,ln=(kbN xs).length:=⟨_,rfl⟩;obtain ⟨lr,aT⟩:∃ lr,lr=(kbR xs).length:=⟨_,rfl⟩;obtain ⟨li,aV⟩:∃ li,li=(kbI xs).length:=⟨_,rfl⟩;rw [← aU] at HE eN;rw [← aT] at HE eR;rw [← aV] at HE eI;have bb:=am.lt;clear ak a6 al G R am oN oR oI sN sR sI af aU aT aV;by_cases h5:ln≤5
  · have ap:(ln:Int)≤5:=by omega
    by_cases h3:lr≤3
    · have aq:(lr:Int)≤3:=by omega
      go_upto_region 10 with fail;rw [← aM.out];go_wp2_with fail;go_ret;refine ⟨rb ?_,I.out⟩;rw [HE.out,decide_eq_true h5,decide_eq_true h3];by_cases h4:li≤3
      · rw [decide_eq_true h4];simp;omega
      rw [decide_eq_false h4];simp;omega
    have aq:¬ ((lr:Int)≤3):=by omega
    go_upto_region 10 with fail;rw [← aM.out];go_wp2_with fail;go_ret;refine ⟨rb ?_,I.out⟩;rw [HE.out,decide_eq_false h3];simp
  have ap:¬ ((ln:Int)≤5):=by omega
  go_upto_region 10 with fail;rw [← aM.out];go_wp2_with fail;go_ret;refine ⟨rb ?_,I.out⟩;rw [HE.out,decide_eq_false h5];rfl
end

section
open Go.RowKit Go.Deep
set_option linter.unusedVariables false
def modelB (x:WD) (L:Nat) (xs:List AX):Bool:=xs.all (fun y=>satB x L y)
def isModelB (x:WD) (xs:List AX):Bool:=worldB x && (kbB xs && modelB x x.n.toNat xs)
theorem modelB_at {x:WD} {L:Nat} {xs:List AX} {j:Nat} (hj:j<xs.length) (h:satB x L (xs.getD j AX.zero)=false):modelB x L xs=false:=by
 unfold modelB;rw [Bool.eq_false_iff];intro q;rw [List.all_eq_true] at q;have:=q (xs.getD j AX.zero) (by rw [List.getD_eq_getElem?_getD,List.getElem?_eq_getElem hj];exact List.getElem_mem hj);rw [h] at this;cases this
theorem modelB_all {x:WD} {L:Nat} {xs:List AX} (h:∀ j,j<xs.length→satB x L (xs.getD j AX.zero)=true):modelB x L xs=true:=by
 unfold modelB;rw [List.all_eq_true];intro y hy;obtain ⟨i,hi,rfl⟩:=List.getElem_of_mem hy;have:=h i hi
 rwa [List.getD_eq_getElem?_getD,List.getElem?_eq_getElem hi] at this
theorem kb_ax {xs:List AX} (h:kbB xs=true):∀ j,j<xs.length→axOk (xs.getD j AX.zero)=true:=by
 intro j hj
 have h1:xs.all axOk=true:=by
  unfold kbB at h;simp only [Bool.and_eq_true] at h;simp_all
 rw [List.all_eq_true] at h1;exact h1 _ (by rw [List.getD_eq_getElem?_getD,List.getElem?_eq_getElem hj];exact List.getElem_mem hj)
end

end Go.Proofs.YtnmljalcndfjmaaGreat
