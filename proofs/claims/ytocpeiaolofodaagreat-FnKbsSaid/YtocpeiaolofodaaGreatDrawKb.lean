/- What is told, drawn: a list of axioms. -/
import Derived.Test.YtocpeiaolofodaaGreatNG30
import Derived.Deep.AppendLies
import Derived.Deep.RegionHeldLaw
import Derived.Maps.AppendAt
namespace Go.Proofs.YtocpeiaolofodaaGreat
open Go.RowKit
variable {P:AX→Prop}
theorem AxI.form {lo hi:Nat} {w:World} {k0:Int} {v:Value} (h:AxI P lo hi w k0 v):∃ (kd:Int) (ck:Int) (bq:Option Addr) (bo bp:Nat) (bm:Option Addr) (bj bk:Nat) (bi:Option Addr) (bg bh:Nat) (dk:Int) (bf:Option Addr) (bd be:Nat) (bb:Option Addr) (b8 b9:Nat) (b7:Option Addr) (b5 b6:Nat) (ra:Option Addr) (rn rc:Nat) (sa:Option Addr) (sn sc:Nat) (aa:Option Addr) (an ac:Nat) (ba:Option Addr) (bn bc:Nat),v=.agg #[.int .i64 kd,.int .i64 ck,.slice bq bo bp,.slice bm bj bk,.slice bi bg bh,.int .i64 dk,.slice bf bd be,.slice bb b8 b9,.slice b7 b5 b6,.slice ra rn rc,.slice sa sn sc,.slice aa an ac,.slice ba bn bc]∧kd=k0:=by
 obtain ⟨c0,c1,c2,c3,d0,d1,d2,d3,ra,rn,rc,sa,sn,sc,aa,an,ac,ba,bn,bc,x,rfl,_,hr,_⟩:=h;obtain ⟨rfl,⟨_,_,_,rfl⟩,⟨_,_,_,rfl⟩,⟨_,_,_,rfl⟩⟩:=hr.c.formS;obtain ⟨rfl,⟨_,_,_,rfl⟩,⟨_,_,_,rfl⟩,⟨_,_,_,rfl⟩⟩:=hr.d.formS;exact ⟨_,_,_,_,_,_,_,_,_,_,_,_,_,_,_,_,_,_,_,_,_,_,_,_,_,_,_,_,_,_,_,_,_,rfl,rfl⟩
structure KbI (P:AX→Prop) (B:Nat) (a:Option Addr) (n z:Nat) (zs:List Int) (hi:Nat) (w:World) (p base:Nat) (w':World) (v:Value) (m:Nat) (vs:List Value):Prop where
 dg:DgM (.cells #[.slice none 0 0] 25) B a n z zs hi w w'
 lt:B<w.heap.size∧w.heap.size<p∧w.heap.size<base
 box:w'.heap[p]?=some (.cells #[v] 25 (0,0))
 own:OwnAx P base p w' v m vs
section
variable {B:Nat} {a:Option Addr} {n z:Nat} {zs:List Int} {hi:Nat} {w w1 w2:World} {p base m:Nat} {v:Value} {vs:List Value}
theorem KbI.plt (h:KbI P B a n z zs hi w p base w1 v m vs):p<w1.heap.size:=(Array.getElem?_eq_some_iff.1 h.box).1
theorem KbI.next (h:KbI P B a n z zs hi w p base w1 v m vs) (c:Cur w2 B a n z zs hi) (hb:Bt B w1.heap.size w1 w2):KbI P B a n z zs hi w p base w2 v m vs:=by
 obtain ⟨q1,q2,q3⟩:=h.lt;exact ⟨h.dg.next q1 c hb,h.lt,(hb.block p h.plt (by omega)).trans h.box,h.own.same (fun b h1 h2 _=>hb.block b h2 (by omega)) hb.size⟩
theorem KbI.only (h:KbI P B a n z zs hi w p base w1 v m vs) (c:Cur w2 B a n z zs hi) (o:Only B w1 w2):KbI P B a n z zs hi w p base w2 v m vs:=h.next c o.bt
theorem KbI.below (h:KbI P B a n z zs hi w p base w1 v m vs) (hb:Below w1.heap.size w1 w2):KbI P B a n z zs hi w p base w2 v m vs:=h.next (h.dg.below h.lt.1 hb).cur (Bt.of_below hb)
theorem KbI.drew (h:KbI P B a n z zs hi w p base w1 v m vs):KbI P B a n z zs hi w p base w1.drew v m vs:=h.next h.dg.drew.cur ((Bt.refl _ _ _).drew)
theorem KbI.set (h:KbI P B a n z zs hi w p base w1 v m vs) {q i:Nat} (hq:w1.heap.size≤q∨(w.heap.size<q∧q≠p∧q<base)) (u:Value):KbI P B a n z zs hi w p base (w1.setCell ⟨q,i,none⟩ u) v m vs:=by
 obtain ⟨q1,q2,q3⟩:=h.lt;have hp:=h.plt;have hm:=h.dg.lt;exact ⟨h.dg.set q1 (by omega) u,h.lt,(Below.heap_setCell _ _ _ _ (by show p≠q;omega)).trans h.box,h.own.same (fun b h1 h2 _=>Below.heap_setCell _ _ _ _ (by show b≠q;omega)) (by simp)⟩
theorem KbI.fm (h:KbI P B a n z zs hi w p base w1 v m vs):∃ va vc,v=.slice va m vc:=by
 rcases h.own.1.2 with ⟨e,e0⟩ | ⟨g,c,_,e,_⟩
 · exact ⟨none,0,by rw [e,e0]⟩
 exact ⟨_,c,e⟩
theorem KbI.cell (h:KbI P B a n z zs hi w p base w1 v m vs):w1.cell? ⟨p,0,none⟩=some v∧w1.frozen? ⟨p,0,none⟩=false:=by
 have:=h.box;constructor
 · simp [World.cell?,this]
 simp [World.frozen?,this]
theorem KbI.push (h:KbI P B a n z zs hi w p base w1 v m vs) {lo au g1 a4:Nat} {kd:Int} {cs:Array Value} (ar:AxI P lo au w1 kd (.agg cs)) (aT:cs.size=13) (aW:base≤lo∧au≤w1.heap.size∧(p<lo∨au≤p)) (hg:∀ g,v.ownBlock=some g→g<lo∨au≤g)
    (hn:w2.ownsRow base 39 13 (.slice (some ⟨g1,0,none⟩) (m+1) a4) (m+1) (vs++cs.toList)) (ax:w1.grownBy w2 v.ownBlock) (av:v.ownBlock=some g1∨w1.heap.size≤g1) :
    KbI P B a n z zs hi w p base (w2.setCell ⟨p,0,none⟩ (.slice (some ⟨g1,0,none⟩) (m+1) a4)) (.slice (some ⟨g1,0,none⟩) (m+1) a4) (m+1) (vs++cs.toList)∧w2.cell? ⟨p,0,none⟩=some v∧w2.frozen? ⟨p,0,none⟩=false:=by
 obtain ⟨q1,q2,q3⟩:=h.lt;have hp:=h.plt;have ho:∀ k,v.ownBlock=some k→base≤k∧k≠p:=fun k e=>⟨(World.ownsRow.lt h.own.1 k e).1,h.own.2.1 k e⟩
 have aV:DgM (.cells #[.slice none 0 0] 25) B a n z zs hi w w2:=h.dg.grown q1 ax (fun k e=>by have:=(ho k e).1;omega);have az:w2.heap[p]?=some (.cells #[v] 25 (0,0)):=(ax.block p hp (fun e=>by have:=(ho p e.symm).2;omega)).trans h.box;have am:=h.own.push ar aT aW hp hg hn ax av;refine ⟨⟨aV.set q1 q2 _,h.lt,?_,am.same (fun b _ _ h3=>Below.heap_setCell _ _ _ _ (by show b≠p;exact h3)) (by simp)⟩,by simp [World.cell?,az],by simp [World.frozen?,az]⟩;exact heap_setCell_same w2 p 0 _ _ _ az
end
def KdP (P:AX→Prop) (M:Nat) (B:Nat) (a:Option Addr) (n z:Nat) (zs:List Int) (hi:Nat) (w:World) (e:Ending) (w':World):Prop :=
 ∃ (va:Option Addr) (m vc:Nat) (vs:List Value),e=.returned (.agg #[.slice va m vc])∧OwnAx P w.heap.size w'.heap.size w' (.slice va m vc) m vs∧m≤M∧Cur w' B a n z zs hi∧Bt B w.heap.size w w'
theorem KbI.fin {B:Nat} {a:Option Addr} {n z:Nat} {zs:List Int} {hi:Nat} {w V:World} {p base m vc:Nat} {va:Option Addr} {vs:List Value} (h:KbI P B a n z zs hi w p base V (.slice va m vc) m vs) {M:Nat} (hm:m≤M) :
    KdP P M B a n z zs hi w (.returned (.agg #[.slice va m vc])) (V.setCell ⟨w.heap.size,0,none⟩ (.slice va m vc))∧(V.setCell ⟨w.heap.size,0,none⟩ (.slice va m vc)).cell? ⟨w.heap.size,0,none⟩=some (.slice va m vc):=by
 obtain ⟨q1,q2,q3⟩:=h.lt;have hh:=h.dg.box;have ho:∀ q,q≠w.heap.size→(V.setCell ⟨w.heap.size,0,none⟩ (.slice va m vc)).heap[q]?=V.heap[q]?:=fun q hq=>Below.heap_setCell _ _ _ _ (by show q≠w.heap.size;exact hq)
 refine ⟨⟨va,m,vc,vs,rfl,?_,hm,h.dg.cur.keepB (fun q hq=>ho q (by omega)),⟨h.dg.bt.os,h.dg.bt.tape,h.dg.bt.output,by simpa using h.dg.bt.size,fun q h1 h2=>(ho q (by omega)).trans (h.dg.bt.block q h1 h2)⟩⟩,?_⟩
 · exact (h.own.same (w':=V.setCell ⟨w.heap.size,0,none⟩ (.slice va m vc)) (fun b h1 _ _=>ho b (by omega)) (by simp)).base (by omega) (.inl (Nat.le_refl _))
 have:=heap_setCell_same V w.heap.size 0 _ _ (.slice va m vc) hh;simp [World.cell?,this]
set_option maxRecDepth 100000 in
set_option maxHeartbeats 4000000 in
theorem l3draw_any {w:World} {B:Nat} {a:Option Addr} {n z:Nat} {zs:List Int} {hi:Nat} (c:Cur w B a n z zs hi) :
    Calls Tryz.prog 26 #[.pointer (some ⟨B,0,none⟩)] w (KdP AxGd 4 B a n z zs hi w):=by
 have hB:=c.lt;obtain ⟨W0,aH⟩:∃ W,Hid (W=(w.alloc (.cells #[.slice none 0 0] 25)).alloc (.cells #[.slice none 0 0] 25)):=⟨_,rfl⟩;obtain ⟨p,hp⟩:∃ p,p=w.heap.size+1:=⟨_,rfl⟩
 have aK:Hid (KbI AxGd B a n z zs hi w p (p+1) W0 (.slice none 0 0) 0 []):=by
  unfold Hid;rw [aH.out];exact ⟨(DgM.start c #[.slice none 0 0] 25).below hB ((Below.refl _ _).alloc (Nat.le_refl _) _),⟨hB,by omega,by omega⟩,by rw [hp];exact allocAtA (by simp),OwnAx.nil _ _ _⟩
 have HP:Hid (p=w.heap.size+1):=hp;clear c;go_enter Tryz.func26, Tryz.ntmps26;go_wp2_with fail;rw [← aH.out,← hp];clear hp;refine (l1Below_any aK.out.dg.cur 5 (by omega)).mono ?_;rintro e w1 ⟨x,rfl,⟨aQ,aP⟩,aF,aD⟩;have bu:Hid (KbI AxGd B a n z zs hi w p (p+1) w1 (.slice none 0 0) 0 []):=aK.out.only aF aD;obtain ⟨N,hN⟩:∃ N:Nat,x=(N:Int):=⟨x.toNat,by omega⟩;subst hN;have bF:N≤4:=by omega
 clear aF aD aQ aP;obtain ⟨i0,b2,aO,aN,aM⟩:=info_parts Tryz.infoAx;go_wp2_with fail;go_loopw [5] (fun q wr=>∃ (i:Nat) (v:Value) (vs:List Value),i≤N∧q=.int .i64 i∧KbI AxGd B a n z zs hi w p (p+1) wr v i vs) (fun q _=>N - (intOf q).toNat)
 case atStart=>exact ⟨0,_,_,Nat.zero_le _,rfl,bu.out⟩
 case round =>
  obtain ⟨i,v,vs,bE,rfl,ap⟩:=hrel;obtain ⟨va,vc,rfl⟩:=ap.fm;have HI:Hid (KbI AxGd B a n z zs hi w p (p+1) wr (.slice va i vc) i vs):=ap;clear ap;obtain ⟨z0,bA⟩:=HI.out.cell;have aU:p<wr.heap.size:=HI.out.plt;by_cases hlt:i<N
  · have aZ:(i:Int)<(N:Int):=by omega
    go_upto_region 6 with fail
    first
    | go_region_law (first
     | (refine step_append_lies _ rfl (.tmp 14) (.tmp 17) 23 rfl (p+1) 39 i0 (.agg zeroA) 13 264 Tryz.underlying23 b2 aO aN aM rfl (by decide) (.slice va i vc) i vs (by simp [Act.eval]) aJ.out.own.1 ⟨w5.heap.size,0,none⟩ 1 1 [.int .i64 ad,.int .i64 af,.slice a3 a1 a2,.slice a0 Y Z,.slice X T U,.int .i64 ae,.slice O I J,.slice H F G,.slice E A D,.slice ab a8 a9,.slice a7 a5 a6,.slice al aj ak,.slice ai ag ah] (by simp [Act.eval]) rfl bs.out (one13 (cs:=#[.int .i64 ad,.int .i64 af,.slice a3 a1 a2,.slice a0 Y Z,.slice X T U,.int .i64 ae,.slice O I J,.slice H F G,.slice E A D,.slice ab a8 a9,.slice a7 a5 a6,.slice al aj ak,.slice ai ag ah]) (by simp [Value.oneCell'])) (by decide) (by unfold maxLen;omega) (by omega) b4 _ rfl ?_;intro g1 a4 w6 am ao av aB;obtain ⟨aG,y0,aL⟩:=aJ.out.push aC.out rfl bz.out (bx.out) am ao (by rcases av with q | q;exact .inl q;exact .inr (by rw [q];exact Nat.le_refl _));have aI:Hid (KbI AxGd B a n z zs hi w p (p+1) (w6.setCell ⟨p,0,none⟩ (.slice (some ⟨g1,0,none⟩) (i+1) a4)) (.slice (some ⟨g1,0,none⟩) (i+1) a4) (i+1) (vs++[.int .i64 ad,.int .i64 af,.slice a3 a1 a2,.slice a0 Y Z,.slice X T U,.int .i64 ae,.slice O I J,.slice H F G,.slice E A D,.slice ab a8 a9,.slice a7 a5 a6,.slice al aj ak,.slice ai ag ah])):=aG;clear aG am ao av aB)
     | (go_simp;refine (l3axiomDraw_any (w:=wr.drew) HI.out.drew.dg.cur).mono ?_;rintro e w5 hP;obtain ⟨k0,v5,b3,ar,aX,aE,ay⟩:=hP;subst b3;obtain ⟨ad,af,a3,a1,a2,a0,Y,Z,X,T,U,ae,O,I,J,H,F,G,E,A,D,ab,a8,a9,a7,a5,a6,al,aj,ak,ai,ag,ah,aR,aY⟩:=(AxI.of ar).form;subst aR;have aA:Hid (KbI AxGd B a n z zs hi w p (p+1) w5 (.slice va i vc) i vs):=HI.out.drew.next aE ay;obtain ⟨y0,aL⟩:=aA.out.cell;have bD:p<w5.heap.size:=aA.out.plt;have aq:Below w5.heap.size w5 (w5.alloc (.cells #[.int .i64 ad,.int .i64 af,.slice a3 a1 a2,.slice a0 Y Z,.slice X T U,.int .i64 ae,.slice O I J,.slice H F G,.slice E A D,.slice ab a8 a9,.slice a7 a5 a6,.slice al aj ak,.slice ai ag ah] 39)):=(Below.refl _ _).alloc (Nat.le_refl _) _;have aJ:Hid (KbI AxGd B a n z zs hi w p (p+1) (w5.alloc (.cells #[.int .i64 ad,.int .i64 af,.slice a3 a1 a2,.slice a0 Y Z,.slice X T U,.int .i64 ae,.slice O I J,.slice H F G,.slice E A D,.slice ab a8 a9,.slice a7 a5 a6,.slice al aj ak,.slice ai ag ah] 39)) (.slice va i vc) i vs):=aA.out.below aq;have bC:wr.heap.size≤w5.heap.size:=ay.size;have b4:p+1≤(w5.alloc (.cells #[.int .i64 ad,.int .i64 af,.slice a3 a1 a2,.slice a0 Y Z,.slice X T U,.int .i64 ae,.slice O I J,.slice H F G,.slice E A D,.slice ab a8 a9,.slice a7 a5 a6,.slice al aj ak,.slice ai ag ah] 39)).heap.size:=(by have:=aq.size;omega);have aC:Hid (AxI AxGd wr.heap.size w5.heap.size (w5.alloc (.cells #[.int .i64 ad,.int .i64 af,.slice a3 a1 a2,.slice a0 Y Z,.slice X T U,.int .i64 ae,.slice O I J,.slice H F G,.slice E A D,.slice ab a8 a9,.slice a7 a5 a6,.slice al aj ak,.slice ai ag ah] 39)) k0 (.agg #[.int .i64 ad,.int .i64 af,.slice a3 a1 a2,.slice a0 Y Z,.slice X T U,.int .i64 ae,.slice O I J,.slice H F G,.slice E A D,.slice ab a8 a9,.slice a7 a5 a6,.slice al aj ak,.slice ai ag ah])):=(AxI.of ar).same (Same.of_below aq (Nat.le_refl _));have bz:Hid (p+1≤wr.heap.size∧w5.heap.size≤(w5.alloc (.cells #[.int .i64 ad,.int .i64 af,.slice a3 a1 a2,.slice a0 Y Z,.slice X T U,.int .i64 ae,.slice O I J,.slice H F G,.slice E A D,.slice ab a8 a9,.slice a7 a5 a6,.slice al aj ak,.slice ai ag ah] 39)).heap.size∧(p<wr.heap.size∨w5.heap.size≤p)):=⟨by omega,aq.size,.inl aU⟩;have bx:Hid (∀ g,(Value.slice va i vc).ownBlock=some g→g<wr.heap.size∨w5.heap.size≤g):=fun g e=>.inl (World.ownsRow.lt HI.out.own.1 g e).2;have bs:Hid (∀ j u,[.int .i64 ad,.int .i64 af,.slice a3 a1 a2,.slice a0 Y Z,.slice X T U,.int .i64 ae,.slice O I J,.slice H F G,.slice E A D,.slice ab a8 a9,.slice a7 a5 a6,.slice al aj ak,.slice ai ag ah][j]?=some u→(w5.alloc (.cells #[.int .i64 ad,.int .i64 af,.slice a3 a1 a2,.slice a0 Y Z,.slice X T U,.int .i64 ae,.slice O I J,.slice H F G,.slice E A D,.slice ab a8 a9,.slice a7 a5 a6,.slice al aj ak,.slice ai ag ah] 39)).cell? ((⟨w5.heap.size,0,none⟩:Addr).add j)=some u):=new13 w5 #[.int .i64 ad,.int .i64 af,.slice a3 a1 a2,.slice a0 Y Z,.slice X T U,.int .i64 ae,.slice O I J,.slice H F G,.slice E A D,.slice ab a8 a9,.slice a7 a5 a6,.slice al aj ak,.slice ai ag ah] 39;clear ar aX aE ay aq aY))
    | fail
    all_goals
     go_wp2_with fail;go_roundw
     case rel=>first | exact ⟨i+1,_,_,by omega,by go_num,aI.out⟩ | ((repeat apply Exists.intro);exact ⟨⟨by omega,by go_num,aI.out⟩,rfl⟩)
     case measure=>simp [intOf];omega
  have aZ:¬ (i:Int)<(N:Int):=by omega
  obtain ⟨hF,y0⟩:=HI.out.fin (M:=4) (by omega);have HF:Hid _:=hF
  have aS:wr.cell? ⟨w.heap.size,0,none⟩=some (.slice none 0 0)∧wr.frozen? ⟨w.heap.size,0,none⟩=false:=by
   have:=HI.out.dg.box;constructor
   · simp [World.cell?,this]
   simp [World.frozen?,this]
  obtain ⟨u0,bB⟩:=aS;clear hF;go_wp2;refine bodyPost_ret (v:=.agg #[.slice va i vc]) (by simp [results, Tryz.results26,go_sem,y0]) rfl ?_;exact HF.out
end Go.Proofs.YtocpeiaolofodaaGreat
