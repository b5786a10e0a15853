/- Several texts in one: DrawAx, DrawKb0. -/
import Derived.Test.YtocpeiaolofodaaGreatNG29
import Derived.Test.YtocpeiaolofodaaGreatNG2
import Derived.Test.YtocpeiaolofodaaGreatNG25
import Derived.Test.YtocpeiaolofodaaGreatNG11
namespace Go.Proofs.YtocpeiaolofodaaGreat

section
open Go.RowKit
def CdP (B:Nat) (a:Option Addr) (n h:Nat) (zs:List Int) (hi:Nat) (w:World) (e:Ending) (w':World):Prop :=
 ∃ (k:Int) (na:Option Addr) (nn nc:Nat) (ra:Option Addr) (rn rc:Nat) (ka:Option Addr) (kn kc:Nat) (c:CN),e=.returned (.agg #[.int .i64 k,.slice na nn nc,.slice ra rn rc,.slice ka kn kc])∧RdC w.heap.size w'.heap.size w' 20 (.agg #[.int .i64 k,.slice na nn nc,.slice ra rn rc,.slice ka kn kc]) c∧(c.bulk≤100000∧conOk c=true)∧Cur w' B a n h zs hi∧Bt B w.heap.size w w'
theorem l2drawR_any (f:Nat) (hf:f=1∨f=2) {B:Nat} {a:Option Addr} {n h:Nat} {zs:List Int} {hi:Nat} {w:World} (c:Cur w B a n h zs hi) :
    Calls Tryz.prog 63 #[.pointer (some ⟨B,0,none⟩),.int .i64 f] w (CdP B a n h zs hi w):=by
 refine (l2draw_any f (by omega) c).mono ?_;rintro e w2 hD;obtain ⟨y0,y1,y2,y3,cc,L,rfl,hO,_,j,aR,aU,aT⟩:=hD;obtain ⟨aQ,⟨na,nn,nc,aP⟩,⟨ra,rn,rc,aO⟩,⟨ka,kn,kc,aN⟩⟩:=hO.ow.form;subst aQ aP aO aN
 have av:∀ x∈L,w.heap.size≤x.1.block∧x.1.block<w2.heap.size:=by
  intro x hx;rcases hO.us x hx with ⟨q1,q2⟩ | ⟨t,_,_,q,_⟩
  · exact ⟨q1,q2⟩
  simp at q
 have hb:cc.bulk≤100000:=by
  rcases hf with rfl | rfl
  · exact Nat.le_trans j (by decide)
  exact Nat.le_trans j (by decide)
 exact ⟨_,na,nn,nc,ra,rn,rc,ka,kn,kc,cc,rfl,RdC.higher (hO.ow.rd av) (by omega),⟨hb,ok_small (hO.ow.rd av) (by omega) aR⟩,aU,aT⟩
set_option maxRecDepth 100000 in
set_option maxHeartbeats 4000000 in
theorem l3axiomDraw_any {w:World} {B:Nat} {a:Option Addr} {n h:Nat} {zs:List Int} {hi:Nat} (c:Cur w B a n h zs hi) :
    Calls Tryz.prog 36 #[.pointer (some ⟨B,0,none⟩)] w (AdP B a n h zs hi w):=by
 have hB:=c.lt;obtain ⟨W0,aJ⟩:∃ W,Hid (W=w.alloc (.cells #[.int .i64 0,.int .i64 0,.slice none 0 0,.slice none 0 0,.slice none 0 0,.int .i64 0,.slice none 0 0,.slice none 0 0,.slice none 0 0,.slice none 0 0,.slice none 0 0,.slice none 0 0,.slice none 0 0] 39)):=⟨_,rfl⟩;have ar:Hid (DgM (.cells zeroA 39) B a n h zs hi w W0):=by unfold Hid;rw [aJ.out];exact DgM.start c zeroA 39
 clear c;go_enter Tryz.func36, Tryz.ntmps36;go_wp2_with fail;rw [← aJ.out];refine (l3ind_any ar.out.cur).mono ?_;rintro e w1 hP;obtain ⟨b1,k1,c1,z1,rfl,az,au,aG,aH⟩:=hP;have aM:Hid (DgM (.cells zeroA 39) B a n h zs hi w w1):=ar.out.next hB aG aH;have b2:w.heap.size<W0.heap.size:=ar.out.lt;have aV:Hid (Rd (w.heap.size+1) w1.heap.size w1 b1 k1 c1 z1):=az.mono (by omega) (Nat.le_refl _);have X:Hid (z1.length≤1∧lowOk z1=true):=au;clear az au aG aH;go_wp2_with fail;refine (l1Below_any aM.out.cur 8 (by omega)).mono ?_;rintro e w2 ⟨m,rfl,⟨b4,b3⟩,aF,al⟩;have T:Hid (DgM (.cells zeroA 39) B a n h zs hi w w2):=aM.out.only hB aF al;have aj:Hid (Rd (w.heap.size+1) w2.heap.size w2 b1 k1 c1 z1):=aV.out.next (by omega) al.bt;have aZ:w.heap.size<w2.heap.size:=T.out.lt;clear aF al;by_cases e0:m=0
 · subst e0;go_upto_region 4 with fail;refine regA4 (id:=4) (w:=w2) hB (by simp) rfl T.out rfl rfl ⟨b1,k1,c1,z1,rfl,aj.out,X.out⟩ ?_;intro a' w' hF;obtain ⟨cs,V,hV,rfl,a7,ak,t2,am⟩:=hF;have HV:Hid (DgM (.cells zeroA 39) B a n h zs hi w V):=hV;have O:Hid (AxV (w.heap.size+1) V 3 (.agg cs)):=a7;have HT:Hid (a'.tmps[2]?.getD undef=.pointer (some ⟨w.heap.size,0,none⟩)):=t2;clear hV a7 t2;go_wp2;obtain ⟨hA,hb⟩:=DgM.finA HV.out hB O.out (by omega);refine bodyPost_ret (v:=.agg cs) (results_cell_row rfl _ _ w.heap.size 39 cs (0,0) _ (by simpa using HT.out) hb Tryz.underlying39 rfl (by rw [ak];exact infoAx13)) am ?_;exact hA
 have b8:(m == 0)=false:=by simpa using e0
 by_cases e1:m=1
 · subst e1;go_wp2_with fail;refine (l2drawR_any 2 (by omega) T.out.cur).mono ?_;rintro e w3 hP;obtain ⟨k4,H,F,G,E,A,D,N,I,J,cc,rfl,hr,j,hc,hb⟩:=hP;have HV:Hid (DgM (.cells zeroA 39) B a n h zs hi w w3):=T.out.next hB hc hb
   have O:Hid (AxV (w.heap.size+1) w3 4 (.agg #[.int .i64 4,.int .i64 k4,.slice H F G,.slice E A D,.slice N I J,.int .i64 0,.slice none 0 0,.slice none 0 0,.slice none 0 0,.slice none 0 0,.slice none 0 0,.slice b1 k1 c1,.slice none 0 0])) :=
    ⟨_,_,_,_,_,_,_,_,none,0,0,none,0,0,b1,k1,c1,none,0,0,⟨4,cc,CN.zero,[],[],z1,[]⟩,rfl,rfl,⟨RdC.mono (by omega) (Nat.le_refl _) hr,rdZero _ _ 19 _,rdNil _ _ _,rdNil _ _ _,aj.out.next (by omega) hb,rdNil _ _ _⟩,⟨j.1,zero_small,Nat.zero_le _,Nat.zero_le _,X.out.1,Nat.zero_le _⟩,axOk_is j.2 X.out.2⟩
   clear hr j hc hb;go_wp2_with (first | (refine wpList_store_row rfl 39 (.tmp 2) (.tmp 29) rfl w.heap.size #[.int .i64 4,.int .i64 k4,.slice H F G,.slice E A D,.slice N I J,.int .i64 0,.slice none 0 0,.slice none 0 0,.slice none 0 0,.slice none 0 0,.slice none 0 0,.slice b1 k1 c1,.slice none 0 0] rfl rfl 39 zeroA HV.out.box infoAx13 rfl (by simp [Value.oneCell']) ?_) | fail);obtain ⟨hA,hb⟩:=DgM.finA HV.out hB O.out (by omega);refine bodyPost_ret (v:=.agg #[.int .i64 4,.int .i64 k4,.slice H F G,.slice E A D,.slice N I J,.int .i64 0,.slice none 0 0,.slice none 0 0,.slice none 0 0,.slice none 0 0,.slice none 0 0,.slice b1 k1 c1,.slice none 0 0]) (results_cell_row rfl _ _ w.heap.size 39 #[.int .i64 4,.int .i64 k4,.slice H F G,.slice E A D,.slice N I J,.int .i64 0,.slice none 0 0,.slice none 0 0,.slice none 0 0,.slice none 0 0,.slice none 0 0,.slice b1 k1 c1,.slice none 0 0] (0,0) _ rfl hb Tryz.underlying39 rfl infoAx13) rfl ?_;exact hA
 have b7:(m == 1)=false:=by simpa using e1
 by_cases e2:m=2
 · subst e2;go_wp2_with fail;refine (l2drawR_any 2 (by omega) T.out.cur).mono ?_;rintro e w3 hP;obtain ⟨k4,H,F,G,E,A,D,N,I,J,cc,rfl,hr,j,hc,hb⟩:=hP;have HV:Hid (DgM (.cells zeroA 39) B a n h zs hi w w3):=T.out.next hB hc hb
   have O:Hid (AxV (w.heap.size+1) w3 4 (.agg #[.int .i64 4,.int .i64 k4,.slice H F G,.slice E A D,.slice N I J,.int .i64 0,.slice none 0 0,.slice none 0 0,.slice none 0 0,.slice none 0 0,.slice none 0 0,.slice b1 k1 c1,.slice none 0 0])) :=
    ⟨_,_,_,_,_,_,_,_,none,0,0,none,0,0,b1,k1,c1,none,0,0,⟨4,cc,CN.zero,[],[],z1,[]⟩,rfl,rfl,⟨RdC.mono (by omega) (Nat.le_refl _) hr,rdZero _ _ 19 _,rdNil _ _ _,rdNil _ _ _,aj.out.next (by omega) hb,rdNil _ _ _⟩,⟨j.1,zero_small,Nat.zero_le _,Nat.zero_le _,X.out.1,Nat.zero_le _⟩,axOk_is j.2 X.out.2⟩
   clear hr j hc hb;go_wp2_with (first | (refine wpList_store_row rfl 39 (.tmp 2) (.tmp 29) rfl w.heap.size #[.int .i64 4,.int .i64 k4,.slice H F G,.slice E A D,.slice N I J,.int .i64 0,.slice none 0 0,.slice none 0 0,.slice none 0 0,.slice none 0 0,.slice none 0 0,.slice b1 k1 c1,.slice none 0 0] rfl rfl 39 zeroA HV.out.box infoAx13 rfl (by simp [Value.oneCell']) ?_) | fail);obtain ⟨hA,hb⟩:=DgM.finA HV.out hB O.out (by omega);refine bodyPost_ret (v:=.agg #[.int .i64 4,.int .i64 k4,.slice H F G,.slice E A D,.slice N I J,.int .i64 0,.slice none 0 0,.slice none 0 0,.slice none 0 0,.slice none 0 0,.slice none 0 0,.slice b1 k1 c1,.slice none 0 0]) (results_cell_row rfl _ _ w.heap.size 39 #[.int .i64 4,.int .i64 k4,.slice H F G,.slice E A D,.slice N I J,.int .i64 0,.slice none 0 0,.slice none 0 0,.slice none 0 0,.slice none 0 0,.slice none 0 0,.slice b1 k1 c1,.slice none 0 0] (0,0) _ rfl hb Tryz.underlying39 rfl infoAx13) rfl ?_;exact hA
 have b6:(m == 2)=false:=by simpa using e2
 by_cases e3:m=3
 · subst e3;go_upto_region 9 with fail;refine regA9 (id:=9) (w:=w2) hB (by simp) rfl T.out rfl rfl ⟨b1,k1,c1,z1,rfl,aj.out,X.out⟩ ?_;intro a' w' hF;obtain ⟨cs,V,hV,rfl,a7,ak,t2,am⟩:=hF;have HV:Hid (DgM (.cells zeroA 39) B a n h zs hi w V):=hV;have O:Hid (AxV (w.heap.size+1) V 5 (.agg cs)):=a7;have HT:Hid (a'.tmps[2]?.getD undef=.pointer (some ⟨w.heap.size,0,none⟩)):=t2;clear hV a7 t2;go_wp2;obtain ⟨hA,hb⟩:=DgM.finA HV.out hB O.out (by omega);refine bodyPost_ret (v:=.agg cs) (results_cell_row rfl _ _ w.heap.size 39 cs (0,0) _ (by simpa using HT.out) hb Tryz.underlying39 rfl (by rw [ak];exact infoAx13)) am ?_;exact hA
 have b5:(m == 3)=false:=by simpa using e3
 have aK:Hid (DgM (.cells zeroA 39) B a n h zs hi w (w2.alloc (.cells #[.int .i64 0,.int .i64 0,.int .i64 0,.int .i64 1,.int .i64 2] 3))):=T.out.below hB ((Below.refl _ _).alloc (Nat.le_refl _) _)
 have aA:∀ i,i<5→∃ z,(w2.alloc (.cells #[.int .i64 0,.int .i64 0,.int .i64 0,.int .i64 1,.int .i64 2] 3)).cell? ⟨w2.heap.size,i,none⟩=some (.int .i64 z)∧(0≤z∧z≤2):=by
  have hb:(w2.alloc (.cells #[.int .i64 0,.int .i64 0,.int .i64 0,.int .i64 1,.int .i64 2] 3)).heap[w2.heap.size]?=some (.cells #[.int .i64 0,.int .i64 0,.int .i64 0,.int .i64 1,.int .i64 2] 3):=allocAtA rfl;intro i hi
  match i,hi with
  | 0,_ | 1,_ | 2,_=>exact ⟨0,by unfold World.cell?;simp only [];rw [hb];rfl,by omega⟩
  | 3,_=>exact ⟨1,by unfold World.cell?;simp only [];rw [hb];rfl,by omega⟩
  | 4,_=>exact ⟨2,by unfold World.cell?;simp only [];rw [hb];rfl,by omega⟩
 have aW:Hid _:=aA;clear aA;go_wp2_with fail;refine (pickN_any aK.out.cur (g:=w2.heap.size) (m:=5) (by omega) (by omega) (fun z=>0≤z∧z≤2) aW.out).mono ?_;rintro e w3 ⟨x,rfl,hx,aE,aB⟩;have aq:Hid (DgM (.cells zeroA 39) B a n h zs hi w w3):=aK.out.only hB aE aB;have aI:Hid (0≤x∧x≤2):=hx;have aY:w.heap.size<w3.heap.size:=aq.out.lt;clear hx aE aB;go_wp2_with fail;refine (l2drawR_any 1 (by omega) aq.out.cur).mono ?_;rintro e w4 hP;obtain ⟨k5,a3,a1,a2,a0,Y,Z,a6,a4,a5,c5,rfl,ay,a8,aD,ao⟩:=hP;have aL:Hid (DgM (.cells zeroA 39) B a n h zs hi w w4):=aq.out.next hB aD ao;have ap:Hid (RdC w3.heap.size w4.heap.size w4 20 (.agg #[.int .i64 k5,.slice a3 a1 a2,.slice a0 Y Z,.slice a6 a4 a5]) c5∧(c5.bulk≤100000∧conOk c5=true)):=⟨ay,a8⟩;have aX:=ao.size;clear ay a8 aD ao;go_wp2_with fail;refine (l2drawR_any 2 (by omega) aL.out.cur).mono ?_;rintro e w5 hP;obtain ⟨k6,ae,ac,ad,ab,a9,aa,ah,af,ag,c6,rfl,ax,U,aC,ai⟩:=hP;have HV:Hid (DgM (.cells zeroA 39) B a n h zs hi w w5):=aL.out.next hB aC ai
 have O:Hid (AxV (w.heap.size+1) w5 x (.agg #[.int .i64 x,.int .i64 k5,.slice a3 a1 a2,.slice a0 Y Z,.slice a6 a4 a5,.int .i64 k6,.slice ae ac ad,.slice ab a9 aa,.slice ah af ag,.slice none 0 0,.slice none 0 0,.slice none 0 0,.slice none 0 0])):=by
  have aS:Same w3.heap.size w4.heap.size w4 w5:=fun q h1 h2=>ai.block q h2 (by omega)
  exact ⟨_,_,_,_,_,_,_,_,none,0,0,none,0,0,none,0,0,none,0,0,⟨x,c5,c6,[],[],[],[]⟩,rfl,rfl,⟨RdC.mono (by omega) ai.size (RdC.same aS ap.out.1),RdC.mono (by omega) (Nat.le_refl _) ax,rdNil _ _ _,rdNil _ _ _,rdNil _ _ _,rdNil _ _ _⟩,⟨ap.out.2.1,U.1,Nat.zero_le _,Nat.zero_le _,Nat.zero_le _,Nat.zero_le _⟩,axOk_two aI.out ap.out.2.2 U.2⟩
 clear ax U aC ai;go_wp2_with (first | (refine wpList_store_row rfl 39 (.tmp 2) (.tmp 49) rfl w.heap.size #[.int .i64 x,.int .i64 k5,.slice a3 a1 a2,.slice a0 Y Z,.slice a6 a4 a5,.int .i64 k6,.slice ae ac ad,.slice ab a9 aa,.slice ah af ag,.slice none 0 0,.slice none 0 0,.slice none 0 0,.slice none 0 0] rfl rfl 39 zeroA HV.out.box infoAx13 rfl (by simp [Value.oneCell']) ?_) | fail);obtain ⟨hA,hb⟩:=DgM.finA HV.out hB O.out (by have:=aI.out;omega);refine bodyPost_ret (v:=.agg #[.int .i64 x,.int .i64 k5,.slice a3 a1 a2,.slice a0 Y Z,.slice a6 a4 a5,.int .i64 k6,.slice ae ac ad,.slice ab a9 aa,.slice ah af ag,.slice none 0 0,.slice none 0 0,.slice none 0 0,.slice none 0 0]) (results_cell_row rfl _ _ w.heap.size 39 #[.int .i64 x,.int .i64 k5,.slice a3 a1 a2,.slice a0 Y Z,.slice a6 a4 a5,.int .i64 k6,.slice ae ac ad,.slice ab a9 aa,.slice ah af ag,.slice none 0 0,.slice none 0 0,.slice none 0 0,.slice none 0 0] (0,0) _ rfl hb Tryz.underlying39 rfl infoAx13) rfl ?_;exact hA
end

section
open Go.RowKit
variable {P:AX→Prop}
def AxI (P:AX→Prop) (lo hi:Nat) (w:World) (kd:Int) (v:Value):Prop :=
 ∃ (c0 c1 c2 c3 d0 d1 d2 d3:Value) (ra:Option Addr) (rn rc:Nat) (sa:Option Addr) (sn sc:Nat) (aa:Option Addr) (an ac:Nat) (ba:Option Addr) (bn bc:Nat) (x:AX),
  v=.agg #[.int .i64 kd,c0,c1,c2,c3,d0,d1,d2,d3,.slice ra rn rc,.slice sa sn sc,.slice aa an ac,.slice ba bn bc]∧x.kind=kd∧RdA lo hi w 20 c0 c1 c2 c3 d0 d1 d2 d3 ra rn rc sa sn sc aa an ac ba bn bc x∧P x
theorem AxI.of {lo:Nat} {w:World} {kd:Int} {v:Value} (h:AxV lo w kd v):AxI AxGd lo w.heap.size w kd v:=h
theorem AxI.same {lo hi:Nat} {w w':World} {kd:Int} {v:Value} (h:AxI P lo hi w kd v) (hs:Same lo hi w w'):AxI P lo hi w' kd v:=by
 obtain ⟨c0,c1,c2,c3,d0,d1,d2,d3,ra,rn,rc,sa,sn,sc,aa,an,ac,ba,bn,bc,x,e,hk,hr,hm⟩:=h;exact ⟨c0,c1,c2,c3,d0,d1,d2,d3,ra,rn,rc,sa,sn,sc,aa,an,ac,ba,bn,bc,x,e,hk,⟨RdC.same hs hr.c,RdC.same hs hr.d,hr.r.same hs,hr.s.same hs,hr.a.same hs,hr.b.same hs⟩,hm⟩
theorem AxI.mono {lo hi lo' D:Nat} {w:World} {kd:Int} {v:Value} (h:AxI P lo hi w kd v) (h1:lo'≤lo) (h2:hi≤D):AxI P lo' D w kd v:=by
 obtain ⟨c0,c1,c2,c3,d0,d1,d2,d3,ra,rn,rc,sa,sn,sc,aa,an,ac,ba,bn,bc,x,e,hk,hr,hm⟩:=h;exact ⟨c0,c1,c2,c3,d0,d1,d2,d3,ra,rn,rc,sa,sn,sc,aa,an,ac,ba,bn,bc,x,e,hk,⟨RdC.mono h1 h2 hr.c,RdC.mono h1 h2 hr.d,hr.r.mono h1 h2,hr.s.mono h1 h2,hr.a.mono h1 h2,hr.b.mono h1 h2⟩,hm⟩
theorem AxI.one {lo hi:Nat} {w:World} {kd:Int} {v:Value} (h:AxI P lo hi w kd v):∃ cs,v=.agg cs∧cs.size=13∧cs.all (·.oneCell')=true:=by
 obtain ⟨c0,c1,c2,c3,d0,d1,d2,d3,ra,rn,rc,sa,sn,sc,aa,an,ac,ba,bn,bc,x,rfl,_,hr,_⟩:=h;obtain ⟨rfl,⟨_,_,_,rfl⟩,⟨_,_,_,rfl⟩,⟨_,_,_,rfl⟩⟩:=hr.c.formS;obtain ⟨rfl,⟨_,_,_,rfl⟩,⟨_,_,_,rfl⟩,⟨_,_,_,rfl⟩⟩:=hr.d.formS;exact ⟨_,rfl,rfl,by simp [Value.oneCell']⟩
def OwnAx (P:AX→Prop) (base p:Nat) (w:World) (v:Value) (n:Nat) (vs:List Value):Prop :=
 w.ownsRow base 39 13 v n vs∧(∀ g,v.ownBlock=some g→g≠p)∧∀ i,i<n→∃ (lo hi:Nat) (kd:Int) (cs:Array Value),(base≤lo∧hi≤w.heap.size∧(p<lo∨hi≤p))∧(∀ g,v.ownBlock=some g→g<lo∨hi≤g)∧AxI P lo hi w kd (.agg cs)∧cs.size=13∧∀ j,j<13→vs[i*13+j]?=cs[j]?
theorem OwnAx.nil (base p:Nat) (w:World):OwnAx P base p w (.slice none 0 0) 0 []:=⟨World.ownsRow_nil _ _ _ _,fun g e=>by simp [Value.ownBlock] at e,fun i hi=>by omega⟩
theorem OwnAx.same {base p n:Nat} {w w':World} {v:Value} {vs:List Value} (h:OwnAx P base p w v n vs) (hs:∀ b,base≤b→b<w.heap.size→b≠p→w'.heap[b]?=w.heap[b]?) (hz:w.heap.size≤w'.heap.size):OwnAx P base p w' v n vs:=by
 refine ⟨⟨h.1.1,?_⟩,h.2.1,fun i hi=>?_⟩
 · rcases h.1.2 with h2 | ⟨g,G,cur,hv,hg,hh,r⟩
   · exact .inl h2
   exact .inr ⟨g,G,cur,hv,hg,by rw [hs g hg (Array.getElem?_eq_some_iff.1 hh).1 (h.2.1 g (by rw [hv];rfl))];exact hh,r⟩
 obtain ⟨lo,D,kd,cs,⟨q1,q2,qp⟩,q3,q4,q5⟩:=h.2.2 i hi;exact ⟨lo,D,kd,cs,⟨q1,by omega,qp⟩,q3,q4.same (fun b h1 h2=>hs b (by omega) (by omega) (by omega)),q5⟩
theorem OwnAx.base {base base' p p' n:Nat} {w:World} {v:Value} {vs:List Value} (h:OwnAx P base p w v n vs) (hb:base'≤base) (hp:w.heap.size≤p'∨p'<base):OwnAx P base' p' w v n vs:=by
 refine ⟨⟨h.1.1,?_⟩,fun g e=>?_,fun i hi=>?_⟩
 · rcases h.1.2 with h2 | ⟨g,G,cur,hv,hg,r⟩
   · exact .inl h2
   exact .inr ⟨g,G,cur,hv,Nat.le_trans hb hg,r⟩
 · have:=World.ownsRow.lt h.1 g e;omega
 obtain ⟨lo,D,kd,cs,⟨q1,q2,_⟩,q⟩:=h.2.2 i hi;exact ⟨lo,D,kd,cs,⟨Nat.le_trans hb q1,q2,by omega⟩,q⟩
theorem OwnAx.push {base p n g1 z lo hi:Nat} {W w':World} {v:Value} {vs:List Value} {kd:Int} {cs:Array Value} (h:OwnAx P base p W v n vs) (Y:AxI P lo hi W kd (.agg cs)) (U:cs.size=13) (F:base≤lo∧hi≤W.heap.size∧(p<lo∨hi≤p)) (Z:p<W.heap.size) (hg:∀ g,v.ownBlock=some g→g<lo∨hi≤g)
    (hn:w'.ownsRow base 39 13 (.slice (some ⟨g1,0,none⟩) (n+1) z) (n+1) (vs++cs.toList)) (J:W.grownBy w' v.ownBlock) (E:v.ownBlock=some g1∨W.heap.size≤g1):OwnAx P base p w' (.slice (some ⟨g1,0,none⟩) (n+1) z) (n+1) (vs++cs.toList):=by
 have hl:=h.1.1
 have keep:∀ {l u:Nat},u≤W.heap.size→(∀ g,v.ownBlock=some g→g<l∨u≤g)→Same l u W w':=by
  intro l u hu hq b h1 h2;refine J.block b (by omega) (fun e=>?_);have:=hq b e.symm;omega
 have newg:∀ {l u:Nat},u≤W.heap.size→(∀ g,v.ownBlock=some g→g<l∨u≤g)→∀ g,(Value.slice (some ⟨g1,0,none⟩) (n+1) z).ownBlock=some g→g<l∨u≤g:=by
  intro l u hu hq g e;have e1:g1=g:=by simpa [Value.ownBlock] using e
  subst e1;rcases E with E | E
  · exact hq _ E
  exact .inr (by omega)
 refine ⟨hn,fun g e=>?_,fun i D=>?_⟩
 · have e1:g1=g:=by simpa [Value.ownBlock] using e
   subst e1;rcases E with E | E
   · exact h.2.1 _ E
   omega
 by_cases hin:i<n
 · obtain ⟨l,u,k,c,⟨q1,q2,qp⟩,q3,q4,q5,q6⟩:=h.2.2 i hin;refine ⟨l,u,k,c,⟨q1,Nat.le_trans q2 J.size,qp⟩,newg q2 q3,q4.same (keep q2 q3),q5,fun j hj=>?_⟩;rw [List.getElem?_append_left (by omega)];exact q6 j hj
 have:i=n:=by omega
 subst this;refine ⟨lo,hi,kd,cs,⟨F.1,Nat.le_trans F.2.1 J.size,F.2.2⟩,newg F.2.1 hg,Y.same (keep F.2.1 hg),U,fun j hj=>?_⟩;rw [List.getElem?_append_right (by omega),hl,show i*13+j - i*13=j from by omega];simp
theorem OwnAx.rd {base p n:Nat} {w:World} {v:Value} {vs:List Value} (h:OwnAx P base p w v n vs):∃ a c xs,v=.slice a n c∧RdK base w.heap.size w 20 a n c xs∧∀ x∈xs,P x:=by
 obtain ⟨I,_,O⟩:=h;have hh:=I;rcases I.2 with ⟨rfl,rfl⟩ | ⟨g,G,cur,rfl,hg,hb,X,V,_⟩
 · exact ⟨none,0,[],rfl,⟨rfl,⟨Nat.le_refl _,by omega⟩,.inl rfl⟩,by simp⟩
 have hx:∀ i,∃ x:AX,i<n→Ax13 base w.heap.size w 20 g (0+i*13) x∧P x:=by
  intro i;by_cases hi:i<n
  · obtain ⟨lo,D,kd,cs,⟨q1,q2,_⟩,_,q4,q5,q6⟩:=O i hi;obtain ⟨c0,c1,c2,c3,d0,d1,d2,d3,ra,rn,rc,sa,sn,sc,aa,an,ac,ba,bn,bc,x,e,hk,hr,hm⟩:=q4.mono q1 q2;simp only [Value.agg.injEq] at e;subst e
    have cell:∀ j,j<13→∀ u,(#[Value.int .i64 kd,c0,c1,c2,c3,d0,d1,d2,d3,.slice ra rn rc,.slice sa sn sc,.slice aa an ac,.slice ba bn bc]:Array Value)[j]?=some u→w.cell? ⟨g,0+i*13+j,none⟩=some u:=by
     intro j hj u hu;rw [← hu,← q6 j hj,Nat.zero_add];exact hh.cellAt (i*13+j) (by omega)
    exact ⟨x,fun _=>⟨⟨c0,c1,c2,c3,d0,d1,d2,d3,ra,rn,rc,sa,sn,sc,aa,an,ac,ba,bn,bc,by rw [hk];exact cell 0 (by omega) _ rfl,cell 1 (by omega) _ rfl,cell 2 (by omega) _ rfl,cell 3 (by omega) _ rfl,cell 4 (by omega) _ rfl,cell 5 (by omega) _ rfl,cell 6 (by omega) _ rfl,cell 7 (by omega) _ rfl,cell 8 (by omega) _ rfl,cell 9 (by omega) _ rfl,cell 10 (by omega) _ rfl,cell 11 (by omega) _ rfl,cell 12 (by omega) _ rfl,hr⟩,hm⟩⟩
  exact ⟨AX.zero,fun h=>absurd h hi⟩
 refine ⟨some ⟨g,0,none⟩,G,(List.range n).map (fun i=>(hx i).choose),rfl,⟨by simp,⟨X,by unfold maxLen at V;omega⟩,.inr ⟨g,0,rfl,hg,(Array.getElem?_eq_some_iff.1 hb).1,fun i hi=>?_⟩⟩,fun x T=>?_⟩
 · have e2:((List.range n).map (fun i=>(hx i).choose)).getD i AX.zero=(hx i).choose:=by simp [List.getD,hi]
   rw [e2];exact ((hx i).choose_spec hi).1
 rw [List.mem_map] at T;obtain ⟨i,hi,rfl⟩:=T;exact ((hx i).choose_spec (List.mem_range.1 hi)).2
theorem AxI.weak {Q:AX→Prop} (N:∀ {x:AX},P x→Q x) {lo hi:Nat} {w:World} {kd:Int} {v:Value} (h:AxI P lo hi w kd v):AxI Q lo hi w kd v:=by
 obtain ⟨c0,c1,c2,c3,d0,d1,d2,d3,ra,rn,rc,sa,sn,sc,aa,an,ac,ba,bn,bc,x,e,hk,hr,hm⟩:=h;exact ⟨c0,c1,c2,c3,d0,d1,d2,d3,ra,rn,rc,sa,sn,sc,aa,an,ac,ba,bn,bc,x,e,hk,hr,N hm⟩
theorem OwnAx.weak {Q:AX→Prop} (N:∀ {x:AX},P x→Q x) {base p n:Nat} {w:World} {v:Value} {vs:List Value} (h:OwnAx P base p w v n vs):OwnAx Q base p w v n vs :=
 ⟨h.1,h.2.1,fun i hi=>by
  obtain ⟨lo,D,kd,cs,q1,q2,q3,q4⟩:=h.2.2 i hi
  exact ⟨lo,D,kd,cs,q1,q2,q3.weak N,q4⟩⟩
theorem ownsK_some {base n:Nat} {w:World} {v:Value} {xs:List Value} (h:w.ownsRow base 39 13 v (n+1) xs):∃ g1 z,v=.slice (some ⟨g1,0,none⟩) (n+1) z:=by
 rcases h.2 with ⟨_,q⟩ | ⟨g1,z,_,q,_⟩
 · omega
 exact ⟨g1,z,q⟩
theorem atK {g1 n1 c1 H:Nat} {v:Value} (h:(Value.slice (some ⟨g1,0,none⟩) n1 c1).ownBlock=v.ownBlock∨(Value.slice (some ⟨g1,0,none⟩) n1 c1).ownBlock=some H):v.ownBlock=some g1∨H≤g1:=by
 rcases h with h | h
 · exact .inl (by rw [← h];rfl)
 right
 have:g1=H:=by simpa [Value.ownBlock] using h
 omega
theorem new13 (w:World) (cs:Array Value) (t:Nat):∀ j v,cs.toList[j]?=some v→(w.alloc (.cells cs t)).cell? ((⟨w.heap.size,0,none⟩:Addr).add j)=some v:=by
 intro j v hv;have hb:(w.alloc (.cells cs t)).heap[w.heap.size]?=some (.cells cs t):=allocAtA rfl;have:((⟨w.heap.size,0,none⟩:Addr).add j)=⟨w.heap.size,j,none⟩:=by simp [Addr.add];exact fun h=>h.symm
 rw [this];unfold World.cell?;simp only [];rw [hb];simpa using hv
theorem one13 {cs:Array Value} (h:cs.all (·.oneCell')=true):∀ u∈cs.toList,u.oneCell'=true:=by
 intro u hu;rw [← Array.all_toList,List.all_eq_true] at h;exact h u hu
theorem Tryz.infoAx:(Tryz.prog.info? 39).map (fun i=>(i.zero,i.size,i.bytes))=some (some (.agg zeroA),13,264):=by kernel_rfl
end

end Go.Proofs.YtocpeiaolofodaaGreat
