/- Several texts in one: DrawKb0, DrawKb. -/
import Derived.Test.YtnmljalcndfjmaaGreatNG29
import Derived.Test.YtnmljalcndfjmaaGreatNG12
import Derived.Deep.AppendLies
import Derived.Deep.RegionHeldLaw
import Derived.Maps.AppendAt
namespace Go.Proofs.YtnmljalcndfjmaaGreat

section
open Go.RowKit
def AxI (lo hi:Nat) (w:World) (kd:Int) (v:Value):Prop :=
 ∃ (c0 c1 c2 c3 d0 d1 d2 d3:Value) (ra:Option Addr) (rn rc:Nat) (sa:Option Addr) (sn sc:Nat) (aa:Option Addr) (an ac:Nat) (ba:Option Addr) (bn bc:Nat) (x:AX),
  v=.agg #[.int .i64 kd,c0,c1,c2,c3,d0,d1,d2,d3,.slice ra rn rc,.slice sa sn sc,.slice aa an ac,.slice ba bn bc]∧x.kind=kd∧RdA lo hi w 20 c0 c1 c2 c3 d0 d1 d2 d3 ra rn rc sa sn sc aa an ac ba bn bc x∧AxSm x
theorem AxI.of {lo:Nat} {w:World} {kd:Int} {v:Value} (h:AxV lo w kd v):AxI lo w.heap.size w kd v:=h
theorem AxI.same {lo hi:Nat} {w w':World} {kd:Int} {v:Value} (h:AxI lo hi w kd v) (hs:Same lo hi w w'):AxI lo hi w' kd v:=by
 obtain ⟨c0,c1,c2,c3,d0,d1,d2,d3,ra,rn,rc,sa,sn,sc,aa,an,ac,ba,bn,bc,x,e,hk,hr,hm⟩:=h;exact ⟨c0,c1,c2,c3,d0,d1,d2,d3,ra,rn,rc,sa,sn,sc,aa,an,ac,ba,bn,bc,x,e,hk,⟨RdC.same hs hr.c,RdC.same hs hr.d,hr.r.same hs,hr.s.same hs,hr.a.same hs,hr.b.same hs⟩,hm⟩
theorem AxI.mono {lo hi lo' D:Nat} {w:World} {kd:Int} {v:Value} (h:AxI lo hi w kd v) (h1:lo'≤lo) (h2:hi≤D):AxI lo' D w kd v:=by
 obtain ⟨c0,c1,c2,c3,d0,d1,d2,d3,ra,rn,rc,sa,sn,sc,aa,an,ac,ba,bn,bc,x,e,hk,hr,hm⟩:=h;exact ⟨c0,c1,c2,c3,d0,d1,d2,d3,ra,rn,rc,sa,sn,sc,aa,an,ac,ba,bn,bc,x,e,hk,⟨RdC.mono h1 h2 hr.c,RdC.mono h1 h2 hr.d,hr.r.mono h1 h2,hr.s.mono h1 h2,hr.a.mono h1 h2,hr.b.mono h1 h2⟩,hm⟩
theorem AxI.one {lo hi:Nat} {w:World} {kd:Int} {v:Value} (h:AxI lo hi w kd v):∃ cs,v=.agg cs∧cs.size=13∧cs.all (·.oneCell')=true:=by
 obtain ⟨c0,c1,c2,c3,d0,d1,d2,d3,ra,rn,rc,sa,sn,sc,aa,an,ac,ba,bn,bc,x,rfl,_,hr,_⟩:=h;obtain ⟨rfl,⟨_,_,_,rfl⟩,⟨_,_,_,rfl⟩,⟨_,_,_,rfl⟩⟩:=hr.c.formS;obtain ⟨rfl,⟨_,_,_,rfl⟩,⟨_,_,_,rfl⟩,⟨_,_,_,rfl⟩⟩:=hr.d.formS;exact ⟨_,rfl,rfl,by simp [Value.oneCell']⟩
def OwnAx (base p:Nat) (w:World) (v:Value) (n:Nat) (vs:List Value):Prop :=
 w.ownsRow base 49 13 v n vs∧(∀ g,v.ownBlock=some g→g≠p)∧∀ i,i<n→∃ (lo hi:Nat) (kd:Int) (cs:Array Value),(base≤lo∧hi≤w.heap.size∧(p<lo∨hi≤p))∧(∀ g,v.ownBlock=some g→g<lo∨hi≤g)∧AxI lo hi w kd (.agg cs)∧cs.size=13∧∀ j,j<13→vs[i*13+j]?=cs[j]?
theorem OwnAx.nil (base p:Nat) (w:World):OwnAx base p w (.slice none 0 0) 0 []:=⟨World.ownsRow_nil _ _ _ _,fun g e=>by simp [Value.ownBlock] at e,fun i hi=>by omega⟩
theorem OwnAx.same {base p n:Nat} {w w':World} {v:Value} {vs:List Value} (h:OwnAx base p w v n vs) (hs:∀ b,base≤b→b<w.heap.size→b≠p→w'.heap[b]?=w.heap[b]?) (hz:w.heap.size≤w'.heap.size):OwnAx base p w' v n vs:=by
 refine ⟨⟨h.1.1,?_⟩,h.2.1,fun i hi=>?_⟩
 · rcases h.1.2 with h2 | ⟨g,G,cur,hv,hg,hh,r⟩
   · exact .inl h2
   exact .inr ⟨g,G,cur,hv,hg,by rw [hs g hg (Array.getElem?_eq_some_iff.1 hh).1 (h.2.1 g (by rw [hv];rfl))];exact hh,r⟩
 obtain ⟨lo,D,kd,cs,⟨q1,q2,qp⟩,q3,q4,q5⟩:=h.2.2 i hi;exact ⟨lo,D,kd,cs,⟨q1,by omega,qp⟩,q3,q4.same (fun b h1 h2=>hs b (by omega) (by omega) (by omega)),q5⟩
theorem OwnAx.base {base base' p p' n:Nat} {w:World} {v:Value} {vs:List Value} (h:OwnAx base p w v n vs) (hb:base'≤base) (hp:w.heap.size≤p'∨p'<base):OwnAx base' p' w v n vs:=by
 refine ⟨⟨h.1.1,?_⟩,fun g e=>?_,fun i hi=>?_⟩
 · rcases h.1.2 with h2 | ⟨g,G,cur,hv,hg,r⟩
   · exact .inl h2
   exact .inr ⟨g,G,cur,hv,Nat.le_trans hb hg,r⟩
 · have:=World.ownsRow.lt h.1 g e;omega
 obtain ⟨lo,D,kd,cs,⟨q1,q2,_⟩,q⟩:=h.2.2 i hi;exact ⟨lo,D,kd,cs,⟨Nat.le_trans hb q1,q2,by omega⟩,q⟩
theorem OwnAx.push {base p n g1 y lo hi:Nat} {W w':World} {v:Value} {vs:List Value} {kd:Int} {cs:Array Value} (h:OwnAx base p W v n vs) (V:AxI lo hi W kd (.agg cs)) (R:cs.size=13) (F:base≤lo∧hi≤W.heap.size∧(p<lo∨hi≤p)) (X:p<W.heap.size) (hg:∀ g,v.ownBlock=some g→g<lo∨hi≤g)
    (hn:w'.ownsRow base 49 13 (.slice (some ⟨g1,0,none⟩) (n+1) y) (n+1) (vs++cs.toList)) (J:W.grownBy w' v.ownBlock) (E:v.ownBlock=some g1∨W.heap.size≤g1):OwnAx base p w' (.slice (some ⟨g1,0,none⟩) (n+1) y) (n+1) (vs++cs.toList):=by
 have hl:=h.1.1
 have keep:∀ {l u:Nat},u≤W.heap.size→(∀ g,v.ownBlock=some g→g<l∨u≤g)→Same l u W w':=by
  intro l u hu hq b h1 h2;refine J.block b (by omega) (fun e=>?_);have:=hq b e.symm;omega
 have newg:∀ {l u:Nat},u≤W.heap.size→(∀ g,v.ownBlock=some g→g<l∨u≤g)→∀ g,(Value.slice (some ⟨g1,0,none⟩) (n+1) y).ownBlock=some g→g<l∨u≤g:=by
  intro l u hu hq g e;have e1:g1=g:=by simpa [Value.ownBlock] using e
  subst e1;rcases E with E | E
  · exact hq _ E
  exact .inr (by omega)
 refine ⟨hn,fun g e=>?_,fun i D=>?_⟩
 · have e1:g1=g:=by simpa [Value.ownBlock] using e
   subst e1;rcases E with E | E
   · exact h.2.1 _ E
   omega
 by_cases hin:i<n
 · obtain ⟨l,u,k,c,⟨q1,q2,qp⟩,q3,q4,q5,q6⟩:=h.2.2 i hin;refine ⟨l,u,k,c,⟨q1,Nat.le_trans q2 J.size,qp⟩,newg q2 q3,q4.same (keep q2 q3),q5,fun j hj=>?_⟩;rw [List.getElem?_append_left (by omega)];exact q6 j hj
 have:i=n:=by omega
 subst this;refine ⟨lo,hi,kd,cs,⟨F.1,Nat.le_trans F.2.1 J.size,F.2.2⟩,newg F.2.1 hg,V.same (keep F.2.1 hg),R,fun j hj=>?_⟩;rw [List.getElem?_append_right (by omega),hl,show i*13+j - i*13=j from by omega];simp
theorem OwnAx.rd {base p n:Nat} {w:World} {v:Value} {vs:List Value} (h:OwnAx base p w v n vs):∃ a c xs,v=.slice a n c∧RdK base w.heap.size w 20 a n c xs∧∀ x∈xs,AxSm x:=by
 obtain ⟨I,_,N⟩:=h;have hh:=I;rcases I.2 with ⟨rfl,rfl⟩ | ⟨g,G,cur,rfl,hg,hb,U,T,_⟩
 · exact ⟨none,0,[],rfl,⟨rfl,⟨Nat.le_refl _,by omega⟩,.inl rfl⟩,by simp⟩
 have hx:∀ i,∃ x:AX,i<n→Ax13 base w.heap.size w 20 g (0+i*13) x∧AxSm x:=by
  intro i;by_cases hi:i<n
  · obtain ⟨lo,D,kd,cs,⟨q1,q2,_⟩,_,q4,q5,q6⟩:=N i hi;obtain ⟨c0,c1,c2,c3,d0,d1,d2,d3,ra,rn,rc,sa,sn,sc,aa,an,ac,ba,bn,bc,x,e,hk,hr,hm⟩:=q4.mono q1 q2;simp only [Value.agg.injEq] at e;subst e
    have cell:∀ j,j<13→∀ u,(#[Value.int .i64 kd,c0,c1,c2,c3,d0,d1,d2,d3,.slice ra rn rc,.slice sa sn sc,.slice aa an ac,.slice ba bn bc]:Array Value)[j]?=some u→w.cell? ⟨g,0+i*13+j,none⟩=some u:=by
     intro j hj u hu;rw [← hu,← q6 j hj,Nat.zero_add];exact hh.cellAt (i*13+j) (by omega)
    exact ⟨x,fun _=>⟨⟨c0,c1,c2,c3,d0,d1,d2,d3,ra,rn,rc,sa,sn,sc,aa,an,ac,ba,bn,bc,by rw [hk];exact cell 0 (by omega) _ rfl,cell 1 (by omega) _ rfl,cell 2 (by omega) _ rfl,cell 3 (by omega) _ rfl,cell 4 (by omega) _ rfl,cell 5 (by omega) _ rfl,cell 6 (by omega) _ rfl,cell 7 (by omega) _ rfl,cell 8 (by omega) _ rfl,cell 9 (by omega) _ rfl,cell 10 (by omega) _ rfl,cell 11 (by omega) _ rfl,cell 12 (by omega) _ rfl,hr⟩,hm⟩⟩
  exact ⟨AX.zero,fun h=>absurd h hi⟩
 refine ⟨some ⟨g,0,none⟩,G,(List.range n).map (fun i=>(hx i).choose),rfl,⟨by simp,⟨U,by unfold maxLen at T;omega⟩,.inr ⟨g,0,rfl,hg,(Array.getElem?_eq_some_iff.1 hb).1,fun i hi=>?_⟩⟩,fun x O=>?_⟩
 · have e2:((List.range n).map (fun i=>(hx i).choose)).getD i AX.zero=(hx i).choose:=by simp [List.getD,hi]
   rw [e2];exact ((hx i).choose_spec hi).1
 rw [List.mem_map] at O;obtain ⟨i,hi,rfl⟩:=O;exact ((hx i).choose_spec (List.mem_range.1 hi)).2
theorem ownsK_some {base n:Nat} {w:World} {v:Value} {xs:List Value} (h:w.ownsRow base 49 13 v (n+1) xs):∃ g1 y,v=.slice (some ⟨g1,0,none⟩) (n+1) y:=by
 rcases h.2 with ⟨_,q⟩ | ⟨g1,y,_,q,_⟩
 · omega
 exact ⟨g1,y,q⟩
theorem atK {g1 n1 c1 H:Nat} {v:Value} (h:(Value.slice (some ⟨g1,0,none⟩) n1 c1).ownBlock=v.ownBlock∨(Value.slice (some ⟨g1,0,none⟩) n1 c1).ownBlock=some H):v.ownBlock=some g1∨H≤g1:=by
 rcases h with h | h
 · exact .inl (by rw [← h];rfl)
 right
 have:g1=H:=by simpa [Value.ownBlock] using h
 omega
theorem new13 (w:World) (cs:Array Value) (t:Nat):∀ j v,cs.toList[j]?=some v→(w.alloc (.cells cs t)).cell? ((⟨w.heap.size,0,none⟩:Addr).add j)=some v:=by
 intro j v hv;have hb:(w.alloc (.cells cs t)).heap[w.heap.size]?=some (.cells cs t):=allocAtA rfl;have:((⟨w.heap.size,0,none⟩:Addr).add j)=⟨w.heap.size,j,none⟩:=by simp [Addr.add];exact fun h=>h.symm
 rw [this];unfold World.cell?;simp only [];rw [hb];simpa using hv
theorem one13 {cs:Array Value} (h:cs.all (·.oneCell')=true):∀ u∈cs.toList,u.oneCell'=true:=by
 intro u hu;rw [← Array.all_toList,List.all_eq_true] at h;exact h u hu
theorem Tryz.infoAx:(Tryz.prog.info? 49).map (fun i=>(i.zero,i.size,i.bytes))=some (some (.agg zeroA),13,264):=by kernel_rfl
end

section
open Go.RowKit
theorem AxI.form {lo hi:Nat} {w:World} {k0:Int} {v:Value} (h:AxI lo hi w k0 v):∃ (kd:Int) (ck:Int) (bp:Option Addr) (bm bo:Nat) (bk:Option Addr) (bi bj:Nat) (bh:Option Addr) (bf bg:Nat) (dk:Int) (be:Option Addr) (bb bd:Nat) (b9:Option Addr) (b7 b8:Nat) (b6:Option Addr) (b4 b5:Nat) (ra:Option Addr) (rn rc:Nat) (sa:Option Addr) (sn sc:Nat) (aa:Option Addr) (an ac:Nat) (ba:Option Addr) (bn bc:Nat),v=.agg #[.int .i64 kd,.int .i64 ck,.slice bp bm bo,.slice bk bi bj,.slice bh bf bg,.int .i64 dk,.slice be bb bd,.slice b9 b7 b8,.slice b6 b4 b5,.slice ra rn rc,.slice sa sn sc,.slice aa an ac,.slice ba bn bc]∧kd=k0:=by
 obtain ⟨c0,c1,c2,c3,d0,d1,d2,d3,ra,rn,rc,sa,sn,sc,aa,an,ac,ba,bn,bc,x,rfl,_,hr,_⟩:=h;obtain ⟨rfl,⟨_,_,_,rfl⟩,⟨_,_,_,rfl⟩,⟨_,_,_,rfl⟩⟩:=hr.c.formS;obtain ⟨rfl,⟨_,_,_,rfl⟩,⟨_,_,_,rfl⟩,⟨_,_,_,rfl⟩⟩:=hr.d.formS;exact ⟨_,_,_,_,_,_,_,_,_,_,_,_,_,_,_,_,_,_,_,_,_,_,_,_,_,_,_,_,_,_,_,_,_,rfl,rfl⟩
structure KbI (B:Nat) (a:Option Addr) (n y:Nat) (zs:List Int) (hi:Nat) (w:World) (p base:Nat) (w':World) (v:Value) (m:Nat) (vs:List Value):Prop where
 dg:DgM (.cells #[.slice none 0 0] 42) B a n y zs hi w w'
 lt:B<w.heap.size∧w.heap.size<p∧w.heap.size<base
 box:w'.heap[p]?=some (.cells #[v] 42 (0,0))
 own:OwnAx base p w' v m vs
section
variable {B:Nat} {a:Option Addr} {n y:Nat} {zs:List Int} {hi:Nat} {w w1 w2:World} {p base m:Nat} {v:Value} {vs:List Value}
theorem KbI.plt (h:KbI B a n y zs hi w p base w1 v m vs):p<w1.heap.size:=(Array.getElem?_eq_some_iff.1 h.box).1
theorem KbI.next (h:KbI B a n y zs hi w p base w1 v m vs) (c:Cur w2 B a n y zs hi) (hb:Bt B w1.heap.size w1 w2):KbI B a n y zs hi w p base w2 v m vs:=by
 obtain ⟨q1,q2,q3⟩:=h.lt;exact ⟨h.dg.next q1 c hb,h.lt,(hb.block p h.plt (by omega)).trans h.box,h.own.same (fun b h1 h2 _=>hb.block b h2 (by omega)) hb.size⟩
theorem KbI.only (h:KbI B a n y zs hi w p base w1 v m vs) (c:Cur w2 B a n y zs hi) (o:Only B w1 w2):KbI B a n y zs hi w p base w2 v m vs:=h.next c o.bt
theorem KbI.below (h:KbI B a n y zs hi w p base w1 v m vs) (hb:Below w1.heap.size w1 w2):KbI B a n y zs hi w p base w2 v m vs:=h.next (h.dg.below h.lt.1 hb).cur (Bt.of_below hb)
theorem KbI.drew (h:KbI B a n y zs hi w p base w1 v m vs):KbI B a n y zs hi w p base w1.drew v m vs:=h.next h.dg.drew.cur ((Bt.refl _ _ _).drew)
theorem KbI.set (h:KbI B a n y zs hi w p base w1 v m vs) {q i:Nat} (hq:w1.heap.size≤q∨(w.heap.size<q∧q≠p∧q<base)) (u:Value):KbI B a n y zs hi w p base (w1.setCell ⟨q,i,none⟩ u) v m vs:=by
 obtain ⟨q1,q2,q3⟩:=h.lt;have hp:=h.plt;have hm:=h.dg.lt;exact ⟨h.dg.set q1 (by omega) u,h.lt,(Below.heap_setCell _ _ _ _ (by show p≠q;omega)).trans h.box,h.own.same (fun b h1 h2 _=>Below.heap_setCell _ _ _ _ (by show b≠q;omega)) (by simp)⟩
theorem KbI.fm (h:KbI B a n y zs hi w p base w1 v m vs):∃ va vc,v=.slice va m vc:=by
 rcases h.own.1.2 with ⟨e,e0⟩ | ⟨g,c,_,e,_⟩
 · exact ⟨none,0,by rw [e,e0]⟩
 exact ⟨_,c,e⟩
theorem KbI.cell (h:KbI B a n y zs hi w p base w1 v m vs):w1.cell? ⟨p,0,none⟩=some v∧w1.frozen? ⟨p,0,none⟩=false:=by
 have:=h.box;constructor
 · simp [World.cell?,this]
 simp [World.frozen?,this]
theorem KbI.push (h:KbI B a n y zs hi w p base w1 v m vs) {lo ar g1 a3:Nat} {kd:Int} {cs:Array Value} (aq:AxI lo ar w1 kd (.agg cs)) (aS:cs.size=13) (aV:base≤lo∧ar≤w1.heap.size∧(p<lo∨ar≤p)) (hg:∀ g,v.ownBlock=some g→g<lo∨ar≤g)
    (hn:w2.ownsRow base 49 13 (.slice (some ⟨g1,0,none⟩) (m+1) a3) (m+1) (vs++cs.toList)) (av:w1.grownBy w2 v.ownBlock) (au:v.ownBlock=some g1∨w1.heap.size≤g1) :
    KbI B a n y zs hi w p base (w2.setCell ⟨p,0,none⟩ (.slice (some ⟨g1,0,none⟩) (m+1) a3)) (.slice (some ⟨g1,0,none⟩) (m+1) a3) (m+1) (vs++cs.toList)∧w2.cell? ⟨p,0,none⟩=some v∧w2.frozen? ⟨p,0,none⟩=false:=by
 obtain ⟨q1,q2,q3⟩:=h.lt;have hp:=h.plt;have ho:∀ k,v.ownBlock=some k→base≤k∧k≠p:=fun k e=>⟨(World.ownsRow.lt h.own.1 k e).1,h.own.2.1 k e⟩
 have aU:DgM (.cells #[.slice none 0 0] 42) B a n y zs hi w w2:=h.dg.grown q1 av (fun k e=>by have:=(ho k e).1;omega);have ay:w2.heap[p]?=some (.cells #[v] 42 (0,0)):=(av.block p hp (fun e=>by have:=(ho p e.symm).2;omega)).trans h.box;have al:=h.own.push aq aS aV hp hg hn av au;refine ⟨⟨aU.set q1 q2 _,h.lt,?_,al.same (fun b _ _ h3=>Below.heap_setCell _ _ _ _ (by show b≠p;exact h3)) (by simp)⟩,by simp [World.cell?,ay],by simp [World.frozen?,ay]⟩;exact heap_setCell_same w2 p 0 _ _ _ ay
end
def KdP (M:Nat) (B:Nat) (a:Option Addr) (n y:Nat) (zs:List Int) (hi:Nat) (w:World) (e:Ending) (w':World):Prop :=
 ∃ (va:Option Addr) (m vc:Nat) (vs:List Value),e=.returned (.agg #[.slice va m vc])∧OwnAx w.heap.size w'.heap.size w' (.slice va m vc) m vs∧m≤M∧Cur w' B a n y zs hi∧Bt B w.heap.size w w'
theorem KbI.fin {B:Nat} {a:Option Addr} {n y:Nat} {zs:List Int} {hi:Nat} {w V:World} {p base m vc:Nat} {va:Option Addr} {vs:List Value} (h:KbI B a n y zs hi w p base V (.slice va m vc) m vs) {M:Nat} (hm:m≤M) :
    KdP M B a n y zs hi w (.returned (.agg #[.slice va m vc])) (V.setCell ⟨w.heap.size,0,none⟩ (.slice va m vc))∧(V.setCell ⟨w.heap.size,0,none⟩ (.slice va m vc)).cell? ⟨w.heap.size,0,none⟩=some (.slice va m vc):=by
 obtain ⟨q1,q2,q3⟩:=h.lt;have hh:=h.dg.box;have ho:∀ q,q≠w.heap.size→(V.setCell ⟨w.heap.size,0,none⟩ (.slice va m vc)).heap[q]?=V.heap[q]?:=fun q hq=>Below.heap_setCell _ _ _ _ (by show q≠w.heap.size;exact hq)
 refine ⟨⟨va,m,vc,vs,rfl,?_,hm,h.dg.cur.keepB (fun q hq=>ho q (by omega)),⟨h.dg.bt.os,h.dg.bt.tape,h.dg.bt.output,by simpa using h.dg.bt.size,fun q h1 h2=>(ho q (by omega)).trans (h.dg.bt.block q h1 h2)⟩⟩,?_⟩
 · exact (h.own.same (w':=V.setCell ⟨w.heap.size,0,none⟩ (.slice va m vc)) (fun b h1 _ _=>ho b (by omega)) (by simp)).base (by omega) (.inl (Nat.le_refl _))
 have:=heap_setCell_same V w.heap.size 0 _ _ (.slice va m vc) hh;simp [World.cell?,this]
set_option maxRecDepth 100000 in
set_option maxHeartbeats 4000000 in
theorem l3draw_any {w:World} {B:Nat} {a:Option Addr} {n y:Nat} {zs:List Int} {hi:Nat} (c:Cur w B a n y zs hi) :
    Calls Tryz.prog 104 #[.pointer (some ⟨B,0,none⟩)] w (KdP 4 B a n y zs hi w):=by
 have hB:=c.lt;obtain ⟨W0,aG⟩:∃ W,Hid (W=(w.alloc (.cells #[.slice none 0 0] 42)).alloc (.cells #[.slice none 0 0] 42)):=⟨_,rfl⟩;obtain ⟨p,hp⟩:∃ p,p=w.heap.size+1:=⟨_,rfl⟩
 have aJ:Hid (KbI B a n y zs hi w p (p+1) W0 (.slice none 0 0) 0 []):=by
  unfold Hid;rw [aG.out];exact ⟨(DgM.start c #[.slice none 0 0] 42).below hB ((Below.refl _ _).alloc (Nat.le_refl _) _),⟨hB,by omega,by omega⟩,by rw [hp];exact allocAtA (by simp),OwnAx.nil _ _ _⟩
 have HP:Hid (p=w.heap.size+1):=hp;clear c;go_enter Tryz.func104, Tryz.ntmps104;go_wp2_with fail;rw [← aG.out,← hp];clear hp;refine (l1Below_any aJ.out.dg.cur 5 (by omega)).mono ?_;rintro e w1 ⟨x,rfl,⟨aP,aO⟩,aE,aC⟩;have bs:Hid (KbI B a n y zs hi w p (p+1) w1 (.slice none 0 0) 0 []):=aJ.out.only aE aC;obtain ⟨N,hN⟩:∃ N:Nat,x=(N:Int):=⟨x.toNat,by omega⟩;subst hN;have bD:N≤4:=by omega
 clear aE aC aP aO;obtain ⟨i0,aZ,aN,aM,aL⟩:=info_parts Tryz.infoAx;go_wp2_with fail;go_loopw [5] (fun q wr=>∃ (i:Nat) (v:Value) (vs:List Value),i≤N∧q=.int .i64 i∧KbI B a n y zs hi w p (p+1) wr v i vs) (fun q _=>N - (intOf q).toNat)
 case atStart=>exact ⟨0,_,_,Nat.zero_le _,rfl,bs.out⟩
 case round =>
  obtain ⟨i,v,vs,bC,rfl,ao⟩:=hrel;obtain ⟨va,vc,rfl⟩:=ao.fm;have HI:Hid (KbI B a n y zs hi w p (p+1) wr (.slice va i vc) i vs):=ao;clear ao;obtain ⟨z0,bx⟩:=HI.out.cell;have aT:p<wr.heap.size:=HI.out.plt;by_cases hlt:i<N
  · have aY:(i:Int)<(N:Int):=by omega
    go_upto_region 6 with fail
    first
    | go_region_law (first
     | (refine step_append_lies _ rfl (.tmp 14) (.tmp 17) 40 rfl (p+1) 49 i0 (.agg zeroA) 13 264 Tryz.underlying40 aZ aN aM aL rfl (by decide) (.slice va i vc) i vs (by simp [Act.eval]) aI.out.own.1 ⟨w5.heap.size,0,none⟩ 1 1 [.int .i64 ab,.int .i64 ae,.slice a2 a0 a1,.slice Z X Y,.slice U R T,.int .i64 ad,.slice O I J,.slice H F G,.slice E A D,.slice a9 a7 a8,.slice a6 a4 a5,.slice ak ai aj,.slice ah af ag] (by simp [Act.eval]) rfl bq.out (one13 (cs:=#[.int .i64 ab,.int .i64 ae,.slice a2 a0 a1,.slice Z X Y,.slice U R T,.int .i64 ad,.slice O I J,.slice H F G,.slice E A D,.slice a9 a7 a8,.slice a6 a4 a5,.slice ak ai aj,.slice ah af ag]) (by simp [Value.oneCell'])) (by decide) (by unfold maxLen;omega) (by omega) b3 _ rfl ?_;intro g1 a3 w6 al am au aA;obtain ⟨aF,y0,aK⟩:=aI.out.push aB.out rfl bv.out (bu.out) al am (by rcases au with q | q;exact .inl q;exact .inr (by rw [q];exact Nat.le_refl _));have aH:Hid (KbI B a n y zs hi w p (p+1) (w6.setCell ⟨p,0,none⟩ (.slice (some ⟨g1,0,none⟩) (i+1) a3)) (.slice (some ⟨g1,0,none⟩) (i+1) a3) (i+1) (vs++[.int .i64 ab,.int .i64 ae,.slice a2 a0 a1,.slice Z X Y,.slice U R T,.int .i64 ad,.slice O I J,.slice H F G,.slice E A D,.slice a9 a7 a8,.slice a6 a4 a5,.slice ak ai aj,.slice ah af ag])):=aF;clear aF al am au aA)
     | (go_simp;refine (l3axiomDraw_any (w:=wr.drew) HI.out.drew.dg.cur).mono ?_;rintro e w5 hP;obtain ⟨k0,v5,b2,aq,aW,aD,ax⟩:=hP;subst b2;obtain ⟨ab,ae,a2,a0,a1,Z,X,Y,U,R,T,ad,O,I,J,H,F,G,E,A,D,a9,a7,a8,a6,a4,a5,ak,ai,aj,ah,af,ag,aQ,aX⟩:=(AxI.of aq).form;subst aQ;have az:Hid (KbI B a n y zs hi w p (p+1) w5 (.slice va i vc) i vs):=HI.out.drew.next aD ax;obtain ⟨y0,aK⟩:=az.out.cell;have bB:p<w5.heap.size:=az.out.plt;have ap:Below w5.heap.size w5 (w5.alloc (.cells #[.int .i64 ab,.int .i64 ae,.slice a2 a0 a1,.slice Z X Y,.slice U R T,.int .i64 ad,.slice O I J,.slice H F G,.slice E A D,.slice a9 a7 a8,.slice a6 a4 a5,.slice ak ai aj,.slice ah af ag] 49)):=(Below.refl _ _).alloc (Nat.le_refl _) _;have aI:Hid (KbI B a n y zs hi w p (p+1) (w5.alloc (.cells #[.int .i64 ab,.int .i64 ae,.slice a2 a0 a1,.slice Z X Y,.slice U R T,.int .i64 ad,.slice O I J,.slice H F G,.slice E A D,.slice a9 a7 a8,.slice a6 a4 a5,.slice ak ai aj,.slice ah af ag] 49)) (.slice va i vc) i vs):=az.out.below ap;have bA:wr.heap.size≤w5.heap.size:=ax.size;have b3:p+1≤(w5.alloc (.cells #[.int .i64 ab,.int .i64 ae,.slice a2 a0 a1,.slice Z X Y,.slice U R T,.int .i64 ad,.slice O I J,.slice H F G,.slice E A D,.slice a9 a7 a8,.slice a6 a4 a5,.slice ak ai aj,.slice ah af ag] 49)).heap.size:=(by have:=ap.size;omega);have aB:Hid (AxI wr.heap.size w5.heap.size (w5.alloc (.cells #[.int .i64 ab,.int .i64 ae,.slice a2 a0 a1,.slice Z X Y,.slice U R T,.int .i64 ad,.slice O I J,.slice H F G,.slice E A D,.slice a9 a7 a8,.slice a6 a4 a5,.slice ak ai aj,.slice ah af ag] 49)) k0 (.agg #[.int .i64 ab,.int .i64 ae,.slice a2 a0 a1,.slice Z X Y,.slice U R T,.int .i64 ad,.slice O I J,.slice H F G,.slice E A D,.slice a9 a7 a8,.slice a6 a4 a5,.slice ak ai aj,.slice ah af ag])):=(AxI.of aq).same (Same.of_below ap (Nat.le_refl _));have bv:Hid (p+1≤wr.heap.size∧w5.heap.size≤(w5.alloc (.cells #[.int .i64 ab,.int .i64 ae,.slice a2 a0 a1,.slice Z X Y,.slice U R T,.int .i64 ad,.slice O I J,.slice H F G,.slice E A D,.slice a9 a7 a8,.slice a6 a4 a5,.slice ak ai aj,.slice ah af ag] 49)).heap.size∧(p<wr.heap.size∨w5.heap.size≤p)):=⟨by omega,ap.size,.inl aT⟩;have bu:Hid (∀ g,(Value.slice va i vc).ownBlock=some g→g<wr.heap.size∨w5.heap.size≤g):=fun g e=>.inl (World.ownsRow.lt HI.out.own.1 g e).2;have bq:Hid (∀ j u,[.int .i64 ab,.int .i64 ae,.slice a2 a0 a1,.slice Z X Y,.slice U R T,.int .i64 ad,.slice O I J,.slice H F G,.slice E A D,.slice a9 a7 a8,.slice a6 a4 a5,.slice ak ai aj,.slice ah af ag][j]?=some u→(w5.alloc (.cells #[.int .i64 ab,.int .i64 ae,.slice a2 a0 a1,.slice Z X Y,.slice U R T,.int .i64 ad,.slice O I J,.slice H F G,.slice E A D,.slice a9 a7 a8,.slice a6 a4 a5,.slice ak ai aj,.slice ah af ag] 49)).cell? ((⟨w5.heap.size,0,none⟩:Addr).add j)=some u):=new13 w5 #[.int .i64 ab,.int .i64 ae,.slice a2 a0 a1,.slice Z X Y,.slice U R T,.int .i64 ad,.slice O I J,.slice H F G,.slice E A D,.slice a9 a7 a8,.slice a6 a4 a5,.slice ak ai aj,.slice ah af ag] 49;clear aq aW aD ax ap aX))
    | fail
    all_goals
     go_wp2_with fail;go_roundw
     case rel=>first | exact ⟨i+1,_,_,by omega,by go_num,aH.out⟩ | ((repeat apply Exists.intro);exact ⟨⟨by omega,by go_num,aH.out⟩,rfl⟩)
     case measure=>simp [intOf];omega
  have aY:¬ (i:Int)<(N:Int):=by omega
  obtain ⟨hF,y0⟩:=HI.out.fin (M:=4) (by omega);have HF:Hid _:=hF
  have aR:wr.cell? ⟨w.heap.size,0,none⟩=some (.slice none 0 0)∧wr.frozen? ⟨w.heap.size,0,none⟩=false:=by
   have:=HI.out.dg.box;constructor
   · simp [World.cell?,this]
   simp [World.frozen?,this]
  obtain ⟨u0,bz⟩:=aR;clear hF;go_wp2;refine bodyPost_ret (v:=.agg #[.slice va i vc]) (by simp [results, Tryz.results104,go_sem,y0]) rfl ?_;exact HF.out
end

end Go.Proofs.YtnmljalcndfjmaaGreat
