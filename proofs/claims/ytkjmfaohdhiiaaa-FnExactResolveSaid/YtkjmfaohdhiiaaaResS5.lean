/- What follows of two clauses, both ways, by the specification: a contract. -/
import Derived.Test.YtkjmfaohdhiiaaaResS4
import Derived.Deep.Upon
namespace Go.Proofs.Ytkjmfaohdhiiaaa
open Go.RowKit
set_option linter.unusedVariables false
theorem heap_alloc_oldR (w:World) (o:Obj) {k:Nat} (hk:k<w.heap.size):(w.alloc o).heap[k]?=w.heap[k]?:=Below.heap_alloc w o k hk
theorem run_append_keepR {P:Program} (w:World) (t ty:TypeId) (base:Nat) (e:TypeId) (i:TypeInfo) (z:Value) (size bytes:Nat) (ht:P.underlying t=some (.slice e)) (hi:P.info? e=some i) (hz:i.zero=some z)
    (E:i.size=size) (M:i.bytes=bytes) (a2:z.cells.size=size) (a3:0<size)
    (v:Value) (n:Nat) (xs:List Value) (d:w.ownsRow base e size v n xs)
    (ad:Addr) (m c:Nat) (news:List Value) (hl:news.length=m*size) (A:∀ j u,news[j]?=some u→w.cell? (ad.add j)=some u) (h1:∀ u∈news,u.oneCell'=true)
    (hm:0<m) (N:n+m≤maxLen) (r:(n+m)*bytes≤140737488355328) (G:base≤w.heap.size) :
    ∃ g F w',(Builtin.append_ #[t,t] ty #[v,.slice (some ad) m c]).run P w=.ok (.slice (some ⟨g,0,none⟩) (n+m) F) w' ∧
     w'.ownsRow base e size (.slice (some ⟨g,0,none⟩) (n+m) F) (n+m) (xs++news)∧w.grownBy w' v.ownBlock∧(v.ownBlock=some g∨(g=w.heap.size∧∀ k,k<w.heap.size→w'.heap[k]?=w.heap[k]?))∧g<w'.heap.size:=by
 obtain ⟨g,F,w',hr,h2,h3,h4,h5⟩:=run_append_lies (P:=P) w t ty base e i z size bytes ht hi hz E M a2 a3 v n xs d ad m c news hl A h1 hm N r G _ rfl;refine ⟨g,F,w',hr,h2,h3,?_,h5⟩;rcases h4 with h4 | h4
 · exact .inl h4
 refine .inr ⟨h4,fun k hk=>?_⟩;rcases d.2 with ⟨rfl,_⟩ | ⟨g0,I,ab,rfl,aa,ar,aK,aP,aF,aI⟩
 · exact h3.block k hk (by simp [Value.ownBlock])
 have aL:g0<w.heap.size:=(Array.getElem?_eq_some_iff.1 ar).1;subst E;subst M;by_cases hroom:n+m≤I
 · have ag:n*i.size+news.length≤ab.size:=by rw [hl,aF,← Nat.add_mul];exact Nat.mul_le_mul_right _ hroom
   rw [run_append_room (P:=P) w t ty e i ht hi g0 n I ab ar ad m c news hl A h1 hroom ag] at hr;simp only [Result.ok.injEq,Value.slice.injEq,Option.some.injEq,Addr.mk.injEq,and_true] at hr;omega
 rw [run_append_grow (P:=P) w t ty e i z ht hi hz ⟨g0,0,none⟩ n I xs d.1 (d.cells (g:=g0) rfl) ad m c news hl A (by omega) (by unfold maxLen at N;omega) (growslice_fits (by omega) r)] at hr;simp only [Result.ok.injEq] at hr;rw [← hr.2];exact heap_alloc_oldR w.drew _ hk
theorem run_append_fullR {P:Program} (w:World) (t ty:TypeId) (base:Nat) (e:TypeId) (i:TypeInfo) (z:Value) (size bytes:Nat) (ht:P.underlying t=some (.slice e)) (hi:P.info? e=some i) (hz:i.zero=some z)
    (E:i.size=size) (M:i.bytes=bytes) (a2:z.cells.size=size) (a3:0<size)
    (g0 n:Nat) (xs:List Value) (d:w.ownsRow base e size (.slice (some ⟨g0,0,none⟩) n n) n xs)
    (ad:Addr) (m c:Nat) (news:List Value) (hl:news.length=m*size) (A:∀ j u,news[j]?=some u→w.cell? (ad.add j)=some u) (h1:∀ u∈news,u.oneCell'=true)
    (hm:0<m) (N:n+m≤maxLen) (r:(n+m)*bytes≤140737488355328) (G:base≤w.heap.size) :
    ∃ F w',(Builtin.append_ #[t,t] ty #[.slice (some ⟨g0,0,none⟩) n n,.slice (some ad) m c]).run P w=.ok (.slice (some ⟨w.heap.size,0,none⟩) (n+m) F) w' ∧
     w'.ownsRow base e size (.slice (some ⟨w.heap.size,0,none⟩) (n+m) F) (n+m) (xs++news)∧w.grownBy w' none:=by
 obtain ⟨g,F,w',hr,h2,h3,h4,h5⟩:=run_append_keepR (P:=P) w t ty base e i z size bytes ht hi hz E M a2 a3 _ n xs d ad m c news hl A h1 hm N r G;have az:=hr;subst E;subst M;rw [run_append_grow (P:=P) w t ty e i z ht hi hz ⟨g0,0,none⟩ n n xs d.1 (d.cells (g:=g0) rfl) ad m c news hl A (by omega) (by unfold maxLen at N;omega) (growslice_fits (by omega) r)] at hr;simp only [Result.ok.injEq,Value.slice.injEq,Option.some.injEq,Addr.mk.injEq,and_true,true_and] at hr;obtain ⟨⟨hg,aH⟩,hw⟩:=hr;refine ⟨F,w',by rw [az,hg],by rw [hg];exact h2,h3.os,h3.tape,h3.output,h3.size,fun k hk _=>?_⟩;rw [← hw];exact heap_alloc_oldR w.drew _ hk
theorem wpList_append_ran {P:Program} {w:World} {al:Array Oper} {rest:List Oper} {o:Oper} {a:Act} {Q:Exit→Act→World→Prop} (aE:o.guard=none) (s x:Operand) (t:TypeId)
    (ho:o.op=.call { callee:=.builtin .append,args:=#[s,x],argTypes:=#[t,t] }) {sv xv v':Value} {w':World} (hs:a.eval s=sv) (hx:a.eval x=xv) (hr:(Builtin.append_ #[t,t] o.type #[sv,xv]).run P w=.ok v' w')
    (h:wpList P al Q rest (a.put o.dst v') w'):wpList P al Q (o :: rest) a w:=by
 refine wpList_plain aE fun K hK=>?_
 unfold Oper.wp execOp;simp only [ho,resolve,invoke,builtin,Sem.run_bind,Sem.run_pure,Result.andThen_ok,List.map_toArray,List.map_cons,List.map_nil,hs,hx,hr];exact hK _ _ h
theorem rdq_of_row {base lo:Nat} {W:World} {v:Value} {xs:List CV} (ae:W.ownsRow base 32 11 v xs.length (flatV xs)) (aM:lo≤base) (hp:∀ i,i<xs.length→∃ a c,(xs.getD i cvZ).2=.slice a (xs.getD i cvZ).1.inds.length c∧RP lo W.heap.size W a (xs.getD i cvZ).1.inds.length c (xs.getD i cvZ).1.inds):∃ a c,v=.slice a xs.length c∧RdQ lo W.heap.size W a xs.length c (xs.map (·.1)):=by
 rcases ae.2 with ⟨e,e0⟩ | ⟨g,F,ab,e,hg,hb,h1,h2,h3,h4⟩
 · refine ⟨none,0,by rw [e,e0],by simp,⟨by omega,by omega⟩,.inl e0⟩
 refine ⟨some ⟨g,0,none⟩,F,e,by simp,⟨h1,by unfold maxLen at h2;omega⟩,.inr ⟨g,0,rfl,by omega,(Array.getElem?_eq_some_iff.1 hb).1,fun i hi=>?_⟩⟩;obtain ⟨a,c,e2,hr⟩:=hp i hi;have e3:(xs.map (·.1)).getD i CL.nul=(xs.getD i cvZ).1:=by simp [List.getD,hi]
 rw [e3];refine ⟨a,c,fun m u hm=>?_,hr⟩;rw [← e2] at hm
 have af:m<11:=by
  have:=(List.getElem?_eq_some_iff.1 hm).1
  rwa [clA_len] at this
 have hf:=flatV_get xs i m hi af;rw [hm,← h4,List.getElem?_take_of_lt (by omega)] at hf;unfold World.cell?;simp only [];rw [hb];simpa using hf
theorem cellsCl {W:World} {g:Nat} {c:CL} {s:Value} (hb:W.heap[g]?=some (.cells (clA c s) 32 (0,0))):∀ j u,(clA c s).toList[j]?=some u→W.cell? ((⟨g,0,none⟩:Addr).add j)=some u:=by
 intro j u hu;have:((⟨g,0,none⟩:Addr).add j)=⟨g,j,none⟩:=by simp [Addr.add];exact fun h=>h.symm
 rw [this];unfold World.cell?;simp only [];rw [hb];simpa using hu
theorem run_both {W:World} {la ma:Option Addr} {n1 c1 n2 c2 ty:Nat} {L1 L2:List CL} (h1:RdZ 0 W.heap.size W la n1 c1 L1) (h2:RdZ 0 W.heap.size W ma n2 c2 L2) :
    ∃ qa qc w',(Builtin.append_ #[42, 42] ty #[.slice la n1 c1,.slice ma n2 c2]).run Try.prog W=.ok (.slice qa (n1+n2) qc) w'∧RdQ 0 w'.heap.size w' qa (n1+n2) qc (L1++L2)∧Below W.heap.size W w':=by
 obtain ⟨i0,a8,ao,an,am⟩:=info_parts Try.infoCl;rcases h2.own with ⟨rfl,rfl,rfl⟩ | ⟨g2,x2,L,J,rfl,rfl,rfl,rfl,aN,H,ap⟩
 · obtain rfl:L2=[]:=List.eq_nil_of_length_eq_zero h2.rd.len;refine ⟨la,c1,W,run_append_nothing W _ _ ty 32 i0 Try.underlying42 a8 la n1 c1 h1.rd.fits.1 _ (Src.ofNil W Try.underlying42 0),?_,Below.refl _ _⟩;rw [List.append_nil];exact h1.rd
 rcases h1.own with ⟨rfl,rfl,rfl⟩ | ⟨g1,x1,a1,a0,rfl,rfl,rfl,rfl,aO,T,ay⟩
 · obtain rfl:L1=[]:=List.eq_nil_of_length_eq_zero h1.rd.len;obtain ⟨v',w',hr,d,a9,_,_⟩:=run_append_own_at (P:=Try.prog) (w:=W) 0 42 ty 32 i0 (.agg (clA CL.nul (.slice none 0 0))) 11 104 Try.underlying42 a8 ao an am rfl (by decide) (.slice none 0 0) 0 [] (World.ownsRow_nil _ _ _ _) ⟨g2,0,none⟩ 1 1 (clA x2 (.slice L x2.inds.length J)).toList rfl (cellsCl H) (oneCl rfl) (by unfold maxLen;omega) (by omega) (Nat.zero_le _);have D:Below W.heap.size W w':=(Below.refl _ _).grown a9 (Nat.le_refl _) (fun k e=>by simp [Value.ownBlock] at e)
   obtain ⟨a,c,rfl,hq⟩:=rdq_of_row (xs:=[(x2,.slice L x2.inds.length J)]) (lo:=0) (by simpa [flatV] using d) (Nat.le_refl _) (fun i hi=>by
    obtain rfl:i=0:=by simpa using hi
    exact ⟨L,J,rfl,(ap.below D (Nat.le_refl _)).mono (Nat.le_refl _) D.size⟩)
   exact ⟨a,c,w',hr,hq,D⟩
 have R:W.ownsRow 0 32 11 (.slice (some ⟨g1,0,none⟩) 1 1) 1 (clA x1 (.slice a1 x1.inds.length a0)).toList:=⟨rfl,.inr ⟨g1,1,_,rfl,Nat.zero_le _,T,Nat.le_refl _,by unfold maxLen;omega,rfl,by simp [clA]⟩⟩;obtain ⟨F,w',hr,d,a9⟩:=run_append_fullR (P:=Try.prog) W 42 ty 0 32 i0 (.agg (clA CL.nul (.slice none 0 0))) 11 104 Try.underlying42 a8 ao an am rfl (by decide) g1 1 _ R ⟨g2,0,none⟩ 1 1 (clA x2 (.slice L x2.inds.length J)).toList rfl (cellsCl H) (oneCl rfl) (by omega) (by unfold maxLen;omega) (by omega) (Nat.zero_le _);have D:Below W.heap.size W w':=(Below.refl _ _).grown a9 (Nat.le_refl _) (fun k e=>by simp at e)
 obtain ⟨a,c,e,hq⟩:=rdq_of_row (xs:=[(x1,.slice a1 x1.inds.length a0),(x2,.slice L x2.inds.length J)]) (lo:=0) (by simpa [flatV] using d) (Nat.le_refl _) (fun i hi=>by
  have aB:i=0∨i=1:=by simp at hi;omega
  rcases aB with rfl | rfl
  · exact ⟨a1,a0,rfl,(ay.below D (Nat.le_refl _)).mono (Nat.le_refl _) D.size⟩
  exact ⟨L,J,rfl,(ap.below D (Nat.le_refl _)).mono (Nat.le_refl _) D.size⟩)
 simp only [Value.slice.injEq] at e;obtain ⟨rfl,_,rfl⟩:=e;exact ⟨_,_,w',hr,hq,D⟩
def BP (w:World) (l:List CL) (e:Ending) (w':World):Prop:=∃ (qa:Option Addr) (qc:Nat),e=.returned (.slice qa l.length qc)∧RdQ 0 w'.heap.size w' qa l.length qc l∧Below w.heap.size w w'
set_option maxRecDepth 100000 in
set_option maxHeartbeats 8000000 in
theorem l7both_any (a b:CL) {ia ib:Option Addr} {ca cb la a7 lb a6:Nat} {w:World} (ha:a.ok=true) (hb:b.ok=true) (h1:RP la a7 w ia a.inds.length ca a.inds) (h2:RP lb a6 w ib b.inds.length cb b.inds) (aD:a7≤w.heap.size) (aC:a6≤w.heap.size) :
    Calls Try.prog 67 #[.agg #[.int .i64 a.kind,.int .i64 a.fn,.int .i64 a.role,.int .i64 a.above,.int .i64 a.xp,.int .i64 a.xn,.int .i64 a.yp,.int .i64 a.yn,.slice ia a.inds.length ca,.int .i64 a.a,.int .i64 a.b],.agg #[.int .i64 b.kind,.int .i64 b.fn,.int .i64 b.role,.int .i64 b.above,.int .i64 b.xp,.int .i64 b.xn,.int .i64 b.yp,.int .i64 b.yn,.slice ib b.inds.length cb,.int .i64 b.a,.int .i64 b.b]] w (BP w (bothF a b)):=by
 have U:Hid (a.ok=true∧b.ok=true):=⟨ha,hb⟩;have HR:Hid (∀ V,Below w.heap.size w V→RP la a7 V ia a.inds.length ca a.inds∧RP lb a6 V ib b.inds.length cb b.inds):=fun V hV=>⟨h1.below hV aD,h2.below hV aC⟩
 clear h1 h2 ha hb;obtain ⟨W,hW⟩:∃ W,W=(w.alloc (.cells #[.int .i64 a.kind,.int .i64 a.fn,.int .i64 a.role,.int .i64 a.above,.int .i64 a.xp,.int .i64 a.xn,.int .i64 a.yp,.int .i64 a.yn,.slice ia a.inds.length ca,.int .i64 a.a,.int .i64 a.b] 32)).alloc (.cells #[.int .i64 b.kind,.int .i64 b.fn,.int .i64 b.role,.int .i64 b.above,.int .i64 b.xp,.int .i64 b.xn,.int .i64 b.yp,.int .i64 b.yn,.slice ib b.inds.length cb,.int .i64 b.a,.int .i64 b.b] 32):=⟨_,rfl⟩;have HW:Hid (W=(w.alloc (.cells #[.int .i64 a.kind,.int .i64 a.fn,.int .i64 a.role,.int .i64 a.above,.int .i64 a.xp,.int .i64 a.xn,.int .i64 a.yp,.int .i64 a.yn,.slice ia a.inds.length ca,.int .i64 a.a,.int .i64 a.b] 32)).alloc (.cells #[.int .i64 b.kind,.int .i64 b.fn,.int .i64 b.role,.int .i64 b.above,.int .i64 b.xp,.int .i64 b.xn,.int .i64 b.yp,.int .i64 b.yn,.slice ib b.inds.length cb,.int .i64 b.a,.int .i64 b.b] 32)):=hW;have aa:Below w.heap.size w W:=by rw [hW];exact ((Below.refl _ _).alloc (Nat.le_refl _) _).alloc (by simp) _
 have aJ:W.heap.size=w.heap.size+2:=by rw [hW];simp
 have ak:BoxK 32 W w.heap.size a.kind a.fn a.role a.above a.xp a.xn a.yp a.yn (.slice ia a.inds.length ca) a.a a.b:=by
  rw [hW];exact (BoxK.new 32 w _ _ _ _ _ _ _ _ _ _ _).below ((Below.refl _ _).alloc (Nat.le_refl _) _) (by simp)
 have aj:BoxK 32 W (w.heap.size+1) b.kind b.fn b.role b.above b.xp b.xn b.yp b.yn (.slice ib b.inds.length cb) b.a b.b:=by
  rw [hW];have:=BoxK.new 32 (w.alloc (.cells #[.int .i64 a.kind,.int .i64 a.fn,.int .i64 a.role,.int .i64 a.above,.int .i64 a.xp,.int .i64 a.xn,.int .i64 a.yp,.int .i64 a.yn,.slice ia a.inds.length ca,.int .i64 a.a,.int .i64 a.b] 32)) b.kind b.fn b.role b.above b.xp b.xn b.yp b.yn (.slice ib b.inds.length cb) b.a b.b;rw [show (w.alloc (.cells #[.int .i64 a.kind,.int .i64 a.fn,.int .i64 a.role,.int .i64 a.above,.int .i64 a.xp,.int .i64 a.xn,.int .i64 a.yp,.int .i64 a.yn,.slice ia a.inds.length ca,.int .i64 a.a,.int .i64 a.b] 32)).heap.size=w.heap.size+1 from by simp] at this;exact this
 have HB:Hid (∀ V,Below W.heap.size W V→BoxK 32 V w.heap.size a.kind a.fn a.role a.above a.xp a.xn a.yp a.yn (.slice ia a.inds.length ca) a.a a.b∧BoxK 32 V (w.heap.size+1) b.kind b.fn b.role b.above b.xp b.xn b.yp b.yn (.slice ib b.inds.length cb) b.a b.b):=fun V hV=>⟨ak.below hV (by omega),aj.below hV (by omega)⟩
 have HF:Hid (∀ V,Below W.heap.size W V→Below w.heap.size w V):=fun V hV=>aa.trans (hV.mono (by omega))
 have H0:Hid (Below W.heap.size W W):=Below.refl _ _;clear hW aa ak aj;obtain ⟨y0,y1,y2,y3,y4,y5,y6,y7,y8,y9,Y⟩:=(HB.out _ H0.out).1.cells;obtain ⟨v0,v1,v2,v3,v4,v5,v6,v7,v8,v9,Z⟩:=(HB.out _ H0.out).2.cells;go_enter Try.func67, Try.ntmps67;go_upto_region 1 with fail;rw [← HW.out];go_wp2_with fail;refine (l7one_any a b U.out.1 U.out.2 (HR.out _ (HF.out _ H0.out)).1 (HR.out _ (HF.out _ H0.out)).2 (by omega) (by omega)).mono ?_;rintro e w1 ⟨qa,qc,rfl,hq,T⟩;have ac:Hid (RdZ 0 w1.heap.size w1 qa (oneF a b).toList.length qc (oneF a b).toList):=hq;have H1:Hid (Below W.heap.size W w1):=T;clear hq T y0 y1 y2 y3 y4 y5 y6 y7 y8 y9 Y v0 v1 v2 v3 v4 v5 v6 v7 v8 v9 Z;obtain ⟨n1,a5⟩:∃ n,n=(oneF a b).toList.length:=⟨_,rfl⟩;have X:Hid (n1=(oneF a b).toList.length):=a5;rw [← a5] at ac ⊢;clear a5;obtain ⟨y0,y1,y2,y3,y4,y5,y6,y7,y8,y9,Y⟩:=(HB.out _ H1.out).1.cells;obtain ⟨v0,v1,v2,v3,v4,v5,v6,v7,v8,v9,Z⟩:=(HB.out _ H1.out).2.cells;by_cases hk:a.kind=b.kind
 · have HK:Hid (bothF a b=(oneF a b).toList):=by rw [Hid,bothF,if_pos hk,List.append_nil]
   have aA:(a.kind != b.kind)=false:=by simpa using hk
   clear hk;go_wp2_with fail;go_ret;exact ⟨qa,qc,by rw [HK.out,← X.out];rfl,by rw [HK.out,← X.out];exact ac.out.rd,HF.out _ H1.out⟩
 have HK:Hid (bothF a b=(oneF a b).toList++(oneF b a).toList):=by rw [Hid,bothF,if_neg hk]
 have aA:(a.kind != b.kind)=true:=by simpa using hk
 clear hk;go_wp2_with fail;refine (l7one_any b a U.out.2 U.out.1 (HR.out _ (HF.out _ H1.out)).2 (HR.out _ (HF.out _ H1.out)).1 (by have:=(HF.out _ H1.out).size;omega) (by have:=(HF.out _ H1.out).size;omega)).mono ?_;rintro e w2 ⟨ra,rc,rfl,hq,H⟩;have av:Hid (RdZ 0 w2.heap.size w2 ra (oneF b a).toList.length rc (oneF b a).toList):=hq;have H2:Hid (Below W.heap.size W w2):=H1.out.trans (H.mono H1.out.size)
 have ai:Hid (RdZ 0 w2.heap.size w2 qa n1 qc (oneF a b).toList):=by
  obtain ⟨q1,q2⟩:=ac.out.below H (Nat.le_refl _);refine ⟨q1.mono (Nat.le_refl _) H.size,?_⟩;rcases q2 with q2 | ⟨g,c,ia,ic,e1,e2,e3,e4,e5,e6,e7⟩
  · exact .inl q2
  exact .inr ⟨g,c,ia,ic,e1,e2,e3,e4,Nat.lt_of_lt_of_le e5 H.size,e6,e7.mono (Nat.le_refl _) H.size⟩
 clear hq H y0 y1 y2 y3 y4 y5 y6 y7 y8 y9 Y v0 v1 v2 v3 v4 v5 v6 v7 v8 v9 Z;obtain ⟨n2,a4⟩:∃ n,n=(oneF b a).toList.length:=⟨_,rfl⟩;have ax:Hid (n2=(oneF b a).toList.length):=a4;rw [← a4] at av ⊢;clear a4;obtain ⟨sa,sc,w3,O,aq,au⟩:=run_both (ty:=42) ai.out av.out;have ah:Hid ((Builtin.append_ #[42, 42] 42 #[.slice qa n1 qc,.slice ra n2 rc]).run Try.prog w2=.ok (.slice sa (n1+n2) sc) w3):=O;have aG:Hid (RdQ 0 w3.heap.size w3 sa (n1+n2) sc ((oneF a b).toList++(oneF b a).toList)):=aq;have H3:Hid (Below W.heap.size W w3):=H2.out.trans (au.mono H2.out.size);clear O aq au
 go_wp2_with (first
  | (at_builtin;refine wpList_append_ran rfl (.tmp 14) (.tmp 17) 42 rfl rfl rfl ah.out ?_)
  | fail)
 go_ret;exact ⟨sa,sc,by rw [HK.out,List.length_append,← X.out,← ax.out];rfl,by rw [HK.out,List.length_append,← X.out,← ax.out];exact aG.out,HF.out _ H3.out⟩
end Go.Proofs.Ytkjmfaohdhiiaaa
