/- What the law of texts draws: a drawn list; a drawn text of one, spoilt or not. -/
import Derived.Test.YtocpeiaolofodaaGreatNG29
import Derived.Test.YtocpeiaolofodaaGreatDrawKb2
import Derived.Test.YtocpeiaolofodaaGreatNG15
import Derived.Test.YtocpeiaolofodaaGreatNG18
namespace Go.Proofs.YtocpeiaolofodaaGreat
open Go.RowKit
theorem RdA.monoM {lo hi lo' V:Nat} {w:World} {dp:Nat} {c0 c1 c2 c3 d0 d1 d2 d3:Value} {ra:Option Addr} {rn rc:Nat} {sa:Option Addr} {sn sc:Nat} {aa:Option Addr} {an ac:Nat} {ba:Option Addr} {bn bc:Nat} {x:AX}
    (h:RdA lo hi w dp c0 c1 c2 c3 d0 d1 d2 d3 ra rn rc sa sn sc aa an ac ba bn bc x) (h1:lo'≤lo) (h2:hi≤V):RdA lo' V w dp c0 c1 c2 c3 d0 d1 d2 d3 ra rn rc sa sn sc aa an ac ba bn bc x :=
 ⟨RdC.mono h1 h2 h.c,RdC.mono h1 h2 h.d,h.r.mono h1 h2,h.s.mono h1 h2,h.a.mono h1 h2,h.b.mono h1 h2⟩
theorem RdK.monoM {lo hi lo' V dp:Nat} {w:World} {a:Option Addr} {n j:Nat} {xs:List AX} (h:RdK lo hi w dp a n j xs) (h1:lo'≤lo) (h2:hi≤V):RdK lo' V w dp a n j xs:=by
 obtain ⟨hl,hm,hc⟩:=h;refine ⟨hl,hm,?_⟩;rcases hc with h0 | ⟨b,off,e,q1,q2,hc⟩
 · exact .inl h0
 refine .inr ⟨b,off,e,by omega,by omega,fun i hi=>?_⟩;obtain ⟨c0,c1,c2,c3,d0,d1,d2,d3,ra,rn,rc,sa,sn,sc,aa,an,ac,ba,bn,bc,p0,p1,p2,p3,p4,p5,p6,p7,p8,p9,aO,aN,aM,hr⟩:=hc i hi;exact ⟨c0,c1,c2,c3,d0,d1,d2,d3,ra,rn,rc,sa,sn,sc,aa,an,ac,ba,bn,bc,p0,p1,p2,p3,p4,p5,p6,p7,p8,p9,aO,aN,aM,hr.monoM h1 h2⟩
theorem step_appN {w:World} {ay:Array Oper} {o:Oper} {a:Act} {K:Act→World→Prop} {Q:Exit→Act→World→Prop} {E:Prop} (aX:o.guard=none) (s x:Operand)
    (ho:o.op=.call { callee:=.builtin .append,args:=#[s,x],argTypes:=#[22, 22] }) (b:Option Addr) (n j c:Nat) (hn:n≤j) (hs:a.eval s=.slice b n j) (hx:a.eval x=.slice none 0 c)
    (h:K (a.put o.dst (.slice b n j)) w) :
    if Region.wanted o (yielded ay a.tmps)=true then Oper.wp Tryz.prog o a w K Q else E:=by
 obtain ⟨i0,aW,bq,bp,bo⟩:=info_parts Tryz.info5;have hw:Region.wanted o (yielded ay a.tmps)=true:=by simp [Region.wanted,aX]
 rw [if_pos hw];have hr:=run_append_nil (P:=Tryz.prog) w 22 o.type 5 i0 Tryz.underlying22 aW b n j c hn;unfold Oper.wp execOp;simp only [ho,resolve,invoke,builtin,Sem.run_bind,Sem.run_pure,Result.andThen_ok,List.map_toArray,List.map_cons,List.map_nil,hs,hx,hr];exact h
theorem own_form {base:Nat} {w:World} {v:Value} {zs:List Int} (h:OwnB base w v zs) (hv:v≠.slice none 0 0):∃ g c,v=.slice (some ⟨g,0,none⟩) zs.length c∧zs.length≤c:=by
 rcases h.2 with ⟨hn,_⟩ | ⟨g,j,cur,rfl,hg,hh,h1,h2,h3,h4⟩
 · exact absurd hn hv
 exact ⟨g,j,rfl,h1⟩
set_option maxRecDepth 100000 in
set_option maxHeartbeats 4000000 in
theorem l2spoilN_any {w:World} {B:Nat} {a:Option Addr} {n j:Nat} {zs:List Int} {hi:Nat} (c:Cur w B a n j zs hi) :
    Calls Tryz.prog 28 #[.pointer (some ⟨B,0,none⟩),.slice none 0 0] w (SpP B 0 w):=by
 have bj:Hid (Cur w B a n j zs hi):=c;have hB:=c.lt;clear c;go_enter Tryz.func28, Tryz.ntmps28;go_wp2_with fail;refine (l1Once_any bj.out 3 (by omega)).mono ?_;rintro e w1 ⟨y,rfl,G,ae⟩;have a2:Hid (Cur w1 B a n j zs hi):=G;have bg:Hid (Only B w w1):=ae;have aQ:=ae.below.size;clear G ae;cases y
 all_goals
  go_wp2_with fail;refine (l1Below_any a2.out 1 (by omega)).mono ?_;rintro e w2 ⟨x,rfl,⟨bu,bs⟩,J,ad⟩;obtain rfl:x=0:=by omega
  have bf:Hid (Only B w w2):=bg.out.trans ad;have aE:=ad.below.size;obtain ⟨W3,a8⟩:∃ W,Hid (W=w2.alloc (.cells #[.string { data:=#[32] },.string { data:=#[40] },.string { data:=#[41] },.string { data:=#[65] },.string { data:=#[114] },.string { data:=#[78,111,116] },.string { data:=#[63] },.string { data:=#[32,84,111,112,32] },.string { data:=#[83,117,98] },.string { data:=#[10] }] 9)):=⟨_,rfl⟩;have D:Below w2.heap.size w2 W3:=by rw [a8.out];exact (Below.refl _ _).alloc (Nat.le_refl _) _
  have aD:w2.heap.size<W3.heap.size:=by rw [a8.out];simp
  have b4:Hid (∀ i:Nat,i<10→∃ s:ByteArray,W3.cell? ⟨w2.heap.size,i,none⟩=some (.string s)∧s.size≤5):=by
   intro i hi;rw [a8.out]
   match i,hi with
   | 0,_ | 1,_ | 2,_ | 3,_ | 4,_ | 5,_ | 6,_ | 7,_ | 8,_ | 9,_=>exact ⟨_,by simp;rfl,by decide⟩
  have a1:Hid (Cur W3 B a n j zs hi):=J.of (D.mono (by omega));have be:Hid (Only B w W3):=bf.out.step hB (D.mono (by omega));clear D J ad;go_wp2_with fail;rw [← a8.out];refine (l1Below_any a1.out 10 (by omega)).mono ?_;rintro e w4 ⟨x,rfl,⟨bm,bk⟩,I,A⟩;obtain ⟨q,hq⟩:∃ q:Nat,x=(q:Int):=⟨x.toNat,by omega⟩;subst hq;have aq:q<10:=by omega
  have bB:(q:Int)<10:=by omega
  obtain ⟨s,aC,bz⟩:=b4.out q aq;have ap:w4.cell? ⟨w2.heap.size,q,none⟩=some (.string s):=(World.cell?_of_block (w:=W3) (A.other w2.heap.size aD (by omega))).trans aC;have bd:Hid (Only B w w4):=be.out.trans A;have ab:=A.below.size;clear I A aC;go_upto_region 6 with fail;obtain ⟨Wa,ak⟩:∃ W,Hid (W=(w4.alloc (.cells #[] 5)).drew):=⟨_,rfl⟩;have ah:Below w.heap.size w4 Wa:=by rw [ak.out];exact ((Below.refl w.heap.size w4).alloc (by omega) _).drew
  have bA:w4.heap.size≤Wa.heap.size:=ah.size;have au:Hid (OwnB w.heap.size Wa (.slice (some ⟨w4.heap.size,0,none⟩) 0 0) []):=by unfold Hid;rw [ak.out];exact ownB_made w4 (by omega)
  have b9:Hid (Only B w Wa):=bd.out.step hB ah;clear ah ap
  go_region_law
   (first
   | (refine step_appN (w:=w6) rfl (.tmp 45) (.tmp 48) rfl (some ⟨g6,0,none⟩) k6 c6 0 bi.out (by first | rfl | (simp [Act.eval];done) | simp [Act.eval,Act.put]) (by first | rfl | (simp [Act.eval];done) | simp [Act.eval,Act.put]) ?_)
   | (refine step_strO (w:=Wa) rfl (.tmp 43) (.tmp 44) rfl w.heap.size (.slice (some ⟨w4.heap.size,0,none⟩) 0 0) [] (by first | rfl | simp [Act.eval]) au.out (own_made_ne _) s (by first | rfl | simp [Act.eval]) (by simp;omega) (by omega) ?_;intro v6 w6 a6 aF az;rw [List.nil_append] at a6;obtain ⟨g6,c6,aG,ag⟩:=own_form a6 az;obtain ⟨k6,a3⟩:∃ k6,k6=(numsOf s).length:=⟨_,rfl⟩;rw [← a3] at aG ag;subst aG;have bi:Hid (k6≤c6):=ag;have bb:Hid (OwnB w.heap.size w6 (.slice (some ⟨g6,0,none⟩) k6 c6) (numsOf s)):=a6;have av:Hid (Only B w w6):=b9.out.step hB aF.1;clear a6 aF az a3 ag)
   | (try rw [← ak.out];refine step_appN (w:=Wa) rfl (.tmp 39) (.tmp 42) rfl (some ⟨w4.heap.size,0,none⟩) 0 0 0 (Nat.le_refl _) (by first | rfl | (simp [Act.eval];done) | simp [Act.eval,Act.put]) (by first | rfl | (simp [Act.eval];done) | simp [Act.eval,Act.put]) ?_))
  all_goals
   go_wp2;go_ret;refine ⟨.slice (some ⟨g6,0,none⟩) k6 c6,numsOf s,rfl,(by simp),bb.out,numsOf_byte s,?_,av.out⟩;simp [numsOf_len];omega
set_option maxRecDepth 100000 in
set_option maxHeartbeats 2000000 in
theorem drawKbText_any {a:Option Addr} {n j:Nat} {zs:List Int} {w:World} (h:Rd 0 w.heap.size w a n j zs) :
    Calls Tryz.prog 4 #[.slice a n j] w fun e w'=>∃ va m vc xs,e=.returned (.agg #[.slice va m vc])∧RdK w.heap.size w'.heap.size w' 20 va m vc xs∧(∀ x∈xs,AxSm x)∧m≤9∧Below w.heap.size w w':=by
 obtain ⟨W0,a0⟩:∃ W,Hid (W=w.alloc (.cells #[.slice none 0 0] 25)):=⟨_,rfl⟩;have a9:Hid (Below w.heap.size w W0):=by unfold Hid;rw [a0.out];exact (Below.refl _ _).alloc (Nat.le_refl _) _
 have aH:Hid (W0.heap[w.heap.size]?=some (.cells #[.slice none 0 0] 25 (0,0))):=by unfold Hid;rw [a0.out];exact World.alloc_heap_new w _
 have b8:Hid (Rd 0 w.heap.size W0 a n j zs):=h.below a9.out (Nat.le_refl _);have aR:w.heap.size<W0.heap.size:=(Array.getElem?_eq_some_iff.1 aH.out).1;clear h;go_enter Tryz.func4, Tryz.ntmps4;go_wp2_with fail;rw [← a0.out];refine (l1New_any b8.out (by omega)).mono ?_;rintro e w1 ⟨rfl,G,N⟩;have bx:=N.size;have a2:Hid (Cur w1 W0.heap.size a n j zs w.heap.size):=G;have ao:Hid (Below w.heap.size w w1):=a9.out.trans (N.mono (by omega));have b3:Hid (w1.heap[w.heap.size]?=some (.cells #[.slice none 0 0] 25 (0,0))):=(N.block _ aR).trans aH.out;clear G N;go_wp2_with fail;refine (l3bent_any a2.out).mono ?_;rintro e w2 hD;obtain ⟨va,m,vc,vs,rfl,F,hm,J,z⟩:=hD;obtain ⟨a',c',xs,e,hk,T⟩:=F.rd;injection e with e1 _ e3
 subst e1 e3;have aE:=z.size;have a4:w2.heap[w.heap.size]?=some (.cells #[.slice none 0 0] 25 (0,0)):=(z.block _ (by omega) (by omega)).trans b3.out;have d0:w2.cell? ⟨w.heap.size,0,none⟩=some (.slice none 0 0):=by simp [World.cell?,a4]
 have d1:w2.frozen? ⟨w.heap.size,0,none⟩=false:=by simp [World.frozen?,a4]
 have ho:∀ q,q≠w.heap.size→(w2.setCell ⟨w.heap.size,0,none⟩ (.slice va m vc)).heap[q]?=w2.heap[q]?:=fun q hq=>Below.heap_setCell _ _ _ _ (by show q≠w.heap.size;exact hq)
 have aB:(w2.setCell ⟨w.heap.size,0,none⟩ (.slice va m vc)).heap.size=w2.heap.size:=by simp
 have HF:Hid (RdK w.heap.size (w2.setCell ⟨w.heap.size,0,none⟩ (.slice va m vc)).heap.size (w2.setCell ⟨w.heap.size,0,none⟩ (.slice va m vc)) 20 va m vc xs∧(∀ x∈xs,AxSm x)∧m≤9∧Below w.heap.size w (w2.setCell ⟨w.heap.size,0,none⟩ (.slice va m vc))):=by
  refine ⟨?_,T,hm,?_⟩
  · rw [aB];exact (hk.same (fun q h1 _=>ho q (by omega))).monoM (by omega) (Nat.le_refl _)
  exact ((ao.out.trans (z.below (by omega) (by omega)))).setCell (Nat.le_refl _) _
 have hZ:(w2.setCell ⟨w.heap.size,0,none⟩ (.slice va m vc)).cell? ⟨w.heap.size,0,none⟩=some (.slice va m vc):=by
  have:=heap_setCell_same w2 w.heap.size 0 _ _ (.slice va m vc) a4;simp [World.cell?,this]
 clear F hk T hm J z a4 ho aB;go_wp2;refine bodyPost_ret (v:=.agg #[.slice va m vc]) (by simp [results, Tryz.results4,go_sem,hZ]) rfl ?_;exact ⟨va,m,vc,xs,rfl,HF.out⟩
theorem textK_byte {xs:List AX} (h:∀ x∈xs,∀ b∈axSay x,0≤b∧b≤255):∀ b∈textK xs,0≤b∧b≤255:=by
 induction xs with
 | nil=>intro b hb;simp [textK] at hb
 | cons x xs ih =>
  intro b hb;simp only [textK,List.mem_append,List.mem_cons,List.not_mem_nil,or_false] at hb;rcases hb with (hb | rfl) | hb
  · exact h x (by simp) b hb
  · omega
  exact ih (fun y hy=>h y (by simp [hy])) b hb
theorem axSay_byte {lo hi dp:Nat} {w:World} {a:Option Addr} {n j:Nat} {xs:List AX} (h:RdK lo hi w dp a n j xs) (aT:∀ x∈xs,axOk x=true):∀ x∈textK xs,0≤x∧x≤255:=by
 refine textK_byte (fun x hx b aZ=>?_);obtain ⟨i,hi,rfl⟩:=List.getElem_of_mem hx;have e:xs.getD i AX.zero=xs[i]:=by simp [List.getD,hi]
 rcases h.cells with hz | ⟨p,off,_,_,_,hc⟩
 · have:=h.len;omega
 obtain ⟨c0,c1,c2,c3,d0,d1,d2,d3,ra,rn,rc,sa,sn,sc,aa,an,ac,ba,bn,bc,_,_,_,_,_,_,_,_,_,_,_,_,_,aS⟩:=hc i (by have:=h.len;omega);have hT:=axText_byte aS;rw [e] at hT;unfold axText at hT;rw [if_pos (aT _ hx)] at hT;obtain ⟨m,hm,rfl⟩:=List.mem_iff_getElem.1 aZ;have hq:=hT m;rw [List.getD_eq_getElem?_getD,List.getElem?_eq_getElem hm] at hq;exact hq
set_option maxRecDepth 100000 in
set_option maxHeartbeats 2000000 in
theorem l3textN_any {a:Option Addr} {j:Nat} {w:World} :
    Calls Tryz.prog 25 #[.agg #[.slice a 0 j]] w fun e w'=>e=.returned (.slice none 0 0)∧Below w.heap.size w w':=by
 obtain ⟨W0,a5⟩:∃ W0,W0=w.alloc (.cells #[.slice a 0 j] 25):=⟨_,rfl⟩;have a0:Hid (W0=w.alloc (.cells #[.slice a 0 j] 25)):=a5;have a9:Hid (Below w.heap.size w W0):=by unfold Hid;rw [a5];exact (Below.refl _ _).alloc (Nat.le_refl _) _
 have ax:Hid (Boxed W0 w.heap.size 25 (.slice a 0 j)):=by unfold Hid;rw [a5];exact Boxed.new w _ _
 clear a5;go_enter Tryz.func25, Tryz.ntmps25;go_wp2_with fail;rw [← a0.out];go_loopw [3,4] (fun l i wr=>l=.slice none 0 0∧i=.int .i64 (0:Int)∧wr=W0) (fun _ _ _=>0)
 case atStart=>exact ⟨rfl,rfl,rfl⟩
 case round =>
  obtain ⟨rfl,rfl,rfl⟩:=hrel;have cB:=ax.out.cell;go_wp2_with fail;go_ret;exact ⟨rfl,a9.out⟩
theorem textK_pos {xs:List AX} (h:1≤xs.length):1≤(textK xs).length:=by
 cases xs with
 | nil=>simp at h
 | cons x xs=>simp [textK];omega
set_option maxRecDepth 100000 in
set_option maxHeartbeats 4000000 in
theorem drawKbRead_any {a:Option Addr} {n j:Nat} {zs:List Int} {w:World} (h:Rd 0 w.heap.size w a n j zs) :
    Calls Tryz.prog 10 #[.slice a n j] w fun e w'=>∃ a' ys cp,e=.returned (.slice a' ys.length cp)∧Rd w.heap.size w'.heap.size w' a' ys.length cp ys∧ys.length≤10000∧Below w.heap.size w w':=by
 have HR:Hid (Rd 0 w.heap.size w a n j zs):=h;clear h;go_enter Tryz.func10, Tryz.ntmps10;go_wp2_with fail;refine (l1New_any HR.out (Nat.le_refl _)).mono ?_;rintro e w1 ⟨rfl,G,N⟩;have a2:Hid (Cur w1 w.heap.size a n j zs w.heap.size):=G;have ao:Hid (Below w.heap.size w w1):=N;have aQ:w.heap.size<w1.heap.size:=G.lt;clear G N;go_wp2_with fail;refine (l3draw_any a2.out).mono ?_;rintro e w2 hD;obtain ⟨va,m,vc,vs,rfl,F,hm,J,z⟩:=hD;obtain ⟨a',c',xs,e,hk,T⟩:=F.rd;injection e with e1 _ e3
 subst e1 e3;have aE:=z.size;have bh:Hid (RdK w1.heap.size w2.heap.size w2 20 va m vc xs):=hk;have aj:Hid (∀ x∈xs,axOk x=true):=fun x hx=>(T x hx).2
 have aK:Hid (Cur w2 w.heap.size a n j zs w.heap.size):=J;have aL:Hid (Below w.heap.size w w2):=ao.out.trans (z.below (by omega) (Nat.le_refl _));have aU:m≤8:=by omega
 have b6:Hid (∀ x∈textK xs,0≤x∧x≤255):=axSay_byte hk aj.out
 have b5:Hid ((textK xs).length≤9000):=by
  have h1:=textK_len aj.out;have h2:=hk.len;unfold Hid;have:1001*xs.length≤1001*4:=Nat.mul_le_mul_left _ (by omega);omega
 have b2:Hid (xs.length=m):=hk.len;clear F hk T hm J z;by_cases hm0:m=0
 · subst hm0;go_wp2_with fail;refine (l3textN_any).mono ?_;rintro e w3 ⟨rfl,D⟩;have a1:Hid (Cur w3 w.heap.size a n j zs w.heap.size):=aK.out.of (D.mono (by omega));have am:Hid (Below w.heap.size w w3):=aL.out.trans (D.mono (by omega));clear D;go_wp2_with fail;refine (l1Once_any a1.out 2 (by omega)).mono ?_;rintro e w4 ⟨y,rfl,I,A⟩;have al:Hid (Cur w4 w.heap.size a n j zs w.heap.size):=I;have O:Hid (Below w.heap.size w w4):=am.out.trans A.below;clear I A;cases y
   · go_wp2;go_ret;exact ⟨none,[],0,rfl,rdNil _ _ _,by simp,O.out⟩
   go_wp2_with fail;refine (l2spoilN_any al.out).mono ?_;rintro e w5 hS;obtain ⟨v5,ys,rfl,U,Z,X,af,H⟩:=hS;obtain ⟨g5,c5,rfl,aY,ar,Y⟩:=own_some Z U X;have ab:=O.out.size;have aP:=H.below.size;have HF:Hid (Rd w.heap.size w5.heap.size w5 (some ⟨g5,0,none⟩) ys.length c5 ys∧ys.length≤10000∧Below w.heap.size w w5):=⟨Y.mono (by omega) (Nat.le_refl _),by omega,O.out.trans H.below⟩;clear U Z X af H Y;go_wp2;go_ret;exact ⟨_,ys,c5,rfl,HF.out⟩
 have aI:Hid (1≤(textK xs).length):=textK_pos (by rw [b2.out];omega);go_wp2_with fail;refine (l3text_any bh.out (Nat.le_refl _) aj.out aU).mono ?_;rintro e w3 ⟨v3,rfl,a7,D⟩
 have aA:v3≠.slice none 0 0:=by
  intro e;rw [e] at a7;have:=aI.out;rcases a7.2 with ⟨_,q⟩ | ⟨_,_,_,q,_⟩
  · omega
  simp at q
 obtain ⟨g3,c3,rfl,bE,bC,ai⟩:=own_some a7 aA b6.out;obtain ⟨k,hk⟩:∃ k,k=(textK xs).length:=⟨_,rfl⟩;have HM:Hid (k=(textK xs).length):=hk;have aV:1≤k:=by rw [hk];exact aI.out
 have bD:k≤9000:=by rw [hk];exact b5.out
 rw [← hk] at ai ⊢;have b7:Hid (Rd w2.heap.size w3.heap.size w3 (some ⟨g3,0,none⟩) k c3 (textK xs)):=ai;have a1:Hid (Cur w3 w.heap.size a n j zs w.heap.size):=aK.out.of (D.mono (by omega));have am:Hid (Below w.heap.size w w3):=aL.out.trans (D.mono (by omega));have aD:=D.size;clear a7 D hk ai aA;go_wp2_with fail;refine (l1Once_any a1.out 2 (by omega)).mono ?_;rintro e w4 ⟨y,rfl,I,A⟩;have al:Hid (Cur w4 w.heap.size a n j zs w.heap.size):=I;have ab:=A.below.size;have O:Hid (Below w.heap.size w w4):=am.out.trans A.below;have aJ:Hid (Rd w2.heap.size w4.heap.size w4 (some ⟨g3,0,none⟩) k c3 (textK xs)):=(b7.out.only A (by omega) (Nat.le_refl _)).mono (Nat.le_refl _) ab;clear I A;cases y
 · go_wp2;go_ret;have e:=HM.out;exact ⟨some ⟨g3,0,none⟩,textK xs,c3,by rw [← e];rfl,by rw [← e];exact (aJ.out.mono (by omega) (Nat.le_refl _)),by omega,O.out⟩
 go_wp2_with fail;refine (l2spoil_any al.out aJ.out (by omega) aV (by omega)).mono ?_;rintro e w5 hS;obtain ⟨v5,ys,rfl,U,Z,X,af,H⟩:=hS;obtain ⟨g5,c5,rfl,aY,ar,Y⟩:=own_some Z U X;have aP:=H.below.size;have HF:Hid (Rd w.heap.size w5.heap.size w5 (some ⟨g5,0,none⟩) ys.length c5 ys∧ys.length≤10000∧Below w.heap.size w w5):=⟨Y.mono (by omega) (Nat.le_refl _),by omega,O.out.trans H.below⟩;clear U Z X af H Y;go_wp2;go_ret;exact ⟨_,ys,c5,rfl,HF.out⟩
end Go.Proofs.YtocpeiaolofodaaGreat
