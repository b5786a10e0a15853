/- Several texts in one: ResS6, ResK5. -/
import Derived.Test.YtkjmfaohdhiiaaaResS5
import Derived.Test.YtkjmfaohdhiiaaaNG11
import Derived.Test.YtkjmfaohdhiiaaaNG6
import Derived.Test.YtkjmfaohdhiiaaaNG12
import Derived.Test.YtkjmfaohdhiiaaaNG2
namespace Go.Proofs.Ytkjmfaohdhiiaaa

section
open Go.RowKit
set_option linter.unusedVariables false
structure OwnDs (base:Nat) (W:World) (v:Value) (xs:List CV):Prop where
 row:W.ownsRow base 32 11 v xs.length (flatV xs)
 one:∀ i,i<xs.length→∃ g vc,(xs.getD i cvZ).2=.slice (some ⟨g,0,none⟩) (xs.getD i cvZ).1.inds.length vc∧OwnP base W (.slice (some ⟨g,0,none⟩) (xs.getD i cvZ).1.inds.length vc) (xs.getD i cvZ).1.inds
theorem OwnDs.nil (base:Nat) (W:World):OwnDs base W (.slice none 0 0) []:=⟨World.ownsRow_nil _ _ _ _,fun i h=>by simp at h⟩
theorem OwnDs.form {base:Nat} {W:World} {v:Value} {xs:List CV} (h:OwnDs base W v xs):∃ a c,v=.slice a xs.length c:=by
 rcases h.row.2 with ⟨e,e0⟩ | ⟨g,c,_,e,_⟩
 · exact ⟨none,0,by rw [e,e0]⟩
 exact ⟨_,c,e⟩
theorem OwnDs.below {base:Nat} {W W':World} {v:Value} {xs:List CV} (h:OwnDs base W v xs) (hb:Below W.heap.size W W'):OwnDs base W' v xs:=by
 refine ⟨⟨h.row.1,?_⟩,fun i hi=>?_⟩
 · rcases h.row.2 with q | ⟨g,a1,a0,hv,hg,hh,r⟩
   · exact .inl q
   exact .inr ⟨g,a1,a0,hv,hg,(hb.block g (Array.getElem?_eq_some_iff.1 hh).1).trans hh,r⟩
 obtain ⟨g,vc,e,ho⟩:=h.one i hi;exact ⟨g,vc,e,OwnP.below ho hb⟩
theorem OwnP.base {base base':Nat} {W:World} {s:Value} {xs:List PT} (h:OwnP base W s xs) (hb:base'≤base):OwnP base' W s xs:=by
 refine ⟨h.1,?_⟩;rcases h.2 with q | ⟨g,a1,a0,hv,hg,r⟩
 · exact .inl q
 exact .inr ⟨g,a1,a0,hv,by omega,r⟩
theorem OwnDs.push {base:Nat} {W W':World} {v v':Value} {xs:List CV} {c:CL} {g vc:Nat} (h:OwnDs base W v xs) (hs:OwnP base W (.slice (some ⟨g,0,none⟩) c.inds.length vc) c.inds)
    (hn:W'.ownsRow base 32 11 v' (xs.length+1) (flatV xs++(clA c (.slice (some ⟨g,0,none⟩) c.inds.length vc)).toList)) (J:W.grownBy W' v.ownBlock):OwnDs base W' v' (xs++[(c,.slice (some ⟨g,0,none⟩) c.inds.length vc)]):=by
 have hk:∀ (g:Nat) (n vc:Nat) (ps:List PT),OwnP base W (.slice (some ⟨g,0,none⟩) n vc) ps→OwnP base W' (.slice (some ⟨g,0,none⟩) n vc) ps:=by
  intro g n vc ps hp;rcases hp.2 with ⟨q,_⟩ | ⟨g',cap',cur',a9,ay,X,r'⟩
  · simp at q
  simp only [Value.slice.injEq,Option.some.injEq,Addr.mk.injEq,and_true] at a9;obtain ⟨rfl,ar,rfl⟩:=a9;have I:g<W.heap.size:=(Array.getElem?_eq_some_iff.1 X).1
  have au:v.ownBlock≠some g:=by
   intro e;rcases h.row.2 with ⟨q,_⟩ | ⟨g2,aK,aJ,ap,_,G,_⟩
   · rw [q] at e;simp [Value.ownBlock] at e
   rw [ap] at e;have e2:g2=g:=by simpa [Value.ownBlock] using e
   subst e2;rw [X] at G;simp only [Option.some.injEq,Obj.cells.injEq] at G;exact absurd G.2.1 (by decide)
  exact ⟨hp.1,.inr ⟨g,vc,cur',by rw [ar],ay,(J.block g I (fun e=>au e.symm)).trans X,r'⟩⟩
 refine ⟨?_,fun i hi=>?_⟩
 · rw [List.length_append,List.length_singleton,flatV_append];have e:flatV [(c,.slice (some ⟨g,0,none⟩) c.inds.length vc)]=(clA c (.slice (some ⟨g,0,none⟩) c.inds.length vc)).toList:=by simp [flatV]
   rw [e];exact hn
 rw [List.length_append,List.length_singleton] at hi;by_cases e:i=xs.length
 · subst e;rw [getDc_eq];exact ⟨g,vc,rfl,hk g _ _ _ hs⟩
 rw [getDc_lt _ _ _ _ (by omega)];obtain ⟨g',vc',e',ho⟩:=h.one i (by omega);exact ⟨g',vc',e',hk g' _ _ _ ho⟩
theorem OwnDs.rdq {base:Nat} {W:World} {v:Value} {xs:List CV} (h:OwnDs base W v xs):∃ a c,v=.slice a xs.length c∧RdQ base W.heap.size W a xs.length c (xs.map (·.1)):=by
 refine rdq_of_row h.row (Nat.le_refl _) (fun i hi=>?_);obtain ⟨g,vc,e,ho⟩:=h.one i hi;obtain ⟨qa,qc,qe,qr⟩:=OwnP.rp ho;simp only [Value.slice.injEq,true_and] at qe;obtain ⟨rfl,rfl⟩:=qe;exact ⟨_,_,e,qr⟩
theorem oneF_inds {a b c:CL} (ha:a.ok=true) (h:oneF a b=some c):c.inds.length≤4:=by
 have h4:a.inds.length≤4:=by
  by_cases k:a.kind=5
  · exact Nat.le_of_eq ((ok_facts ha).2.2.1 k).1
  rw [(ok_facts ha).2.2.2 k];exact Nat.zero_le _
 have hN:∀ f x y,(nextC f x y).inds=[]:=fun f x y=>by unfold nextC;split <;> rfl
 have hM:∀ (o:Option PT) (f:PT→CL),(∀ p,(f p).inds.length≤4)→o.map f=some c→c.inds.length≤4:=by
  intro o f hf ho;obtain ⟨p,_,rfl⟩:=Option.map_eq_some_iff.1 ho;exact hf p
 unfold oneF at h
 split at h
 · exact hM _ _ (fun p=>Nat.zero_le _) h
 split at h
 · exact hM _ _ (fun p=>by rw [hN];exact Nat.zero_le _) h
 split at h
 · split at h
   · exact hM _ _ (fun p=>by rw [hN];exact Nat.zero_le _) h
   cases h
 split at h
 · split at h
   · cases h;rw [hN];exact Nat.zero_le _
   cases h
 split at h
 · split at h
   · cases h;exact Nat.zero_le _
   cases h
 split at h
 · unfold factsF at h
   split at h
   · cases h
   split at h
   · exact hM _ _ (fun p=>by show ((zipJ a.inds b.inds).set _ p).length≤4;rw [List.length_set,zipJ_len];exact h4) h
   cases h
 split at h
 · unfold factsO at h
   split at h
   · cases h
   exact hM _ _ (fun p=>by show (a.inds.set _ p).length≤4;rw [List.length_set];exact h4) h
 split at h
 · split at h
   · cases h;show (pairC a b).inds.length≤4;unfold pairC factC;simp
   cases h
 split at h
 · split at h
   · cases h;exact Nat.zero_le _
   cases h
 cases h
theorem bothF_mem {a b c:CL} (h:c∈bothF a b):oneF a b=some c∨oneF b a=some c:=by
 unfold bothF at h;rw [List.mem_append] at h;rcases h with h | h
 · exact .inl (by simpa using h)
 split at h
 · cases h
 exact .inr (by simpa using h)
theorem getD_all {α:Type} {P:α→Prop} {L:List α} {d:α} (h:∀ c,c∈L→P c) (hd:P d) (i:Nat):P (L.getD i d):=by
 by_cases hi:i<L.length
 · have e:L.getD i d=L[i]:=by simp [List.getD,hi]
   rw [e];exact h _ (List.getElem_mem hi)
 have e:L.getD i d=d:=by simp [List.getD,Nat.le_of_not_lt hi]
 rw [e];exact hd
theorem bothF_small {a b:CL} (ha:a.ok=true) (hb:b.ok=true) (i:Nat):((bothF a b).getD i CL.nul).inds.length≤1000:=by
 refine getD_all (P:=fun c:CL=>c.inds.length≤1000) (fun c hc=>?_) (Nat.zero_le _) i;rcases bothF_mem hc with h | h
 · have:=oneF_inds ha h;omega
 have:=oneF_inds hb h;omega
theorem toList_len {α:Type} (o:Option α):o.toList.length≤1:=by cases o <;> simp
theorem bothF_len (a b:CL):(bothF a b).length≤2:=by
 unfold bothF;rw [List.length_append];have h1:=toList_len (oneF a b);have h2:=toList_len (oneF b a)
 split
 · simp;omega
 omega
def RvP (w:World) (l:List CL) (e:Ending) (w':World):Prop:=∃ (qa:Option Addr) (qc:Nat),e=.returned (.slice qa l.length qc)∧RdQ w.heap.size w'.heap.size w' qa l.length qc l∧Below w.heap.size w w'
theorem rvEnd {base:Nat} {va:Option Addr} {vn vc:Nat} {W W':World} {xs:List CV} {c:CL} {g gc:Nat} {v':Value} (h:OwnDs base W (.slice va vn vc) xs) (hs:OwnP base W (.slice (some ⟨g,0,none⟩) c.inds.length gc) c.inds) (aq:vn=xs.length)
    (hn:W'.ownsRow base 32 11 v' (vn+1) (flatV xs++(clA c (.slice (some ⟨g,0,none⟩) c.inds.length gc)).toList)) (J:W.grownBy W' (Value.slice va vn vc).ownBlock) (az:base≤W.heap.size) :
    OwnDs base W' v' (xs++[(c,.slice (some ⟨g,0,none⟩) c.inds.length gc)])∧Below base W W':=by
 subst aq;exact ⟨h.push hs hn J,(Below.refl base W).grown J az (fun q hq=>(World.ownsRow.lt h.row q hq).1)⟩
set_option maxRecDepth 100000 in
set_option maxHeartbeats 8000000 in
theorem specResolve_any (a b:CL) {ia ib:Option Addr} {ca cb la U lb T:Nat} {w:World} (h1:RP la U w ia a.inds.length ca a.inds) (h2:RP lb T w ib b.inds.length cb b.inds) (ax:U≤w.heap.size) (G:T≤w.heap.size) :
    Calls Try.prog 26 #[.agg #[.int .i64 a.kind,.int .i64 a.fn,.int .i64 a.role,.int .i64 a.above,.int .i64 a.xp,.int .i64 a.xn,.int .i64 a.yp,.int .i64 a.yn,.slice ia a.inds.length ca,.int .i64 a.a,.int .i64 a.b],.agg #[.int .i64 b.kind,.int .i64 b.fn,.int .i64 b.role,.int .i64 b.above,.int .i64 b.xp,.int .i64 b.xn,.int .i64 b.yp,.int .i64 b.yn,.slice ib b.inds.length cb,.int .i64 b.a,.int .i64 b.b]] w (RvP w (resF a b)):=by
 have HR:Hid (∀ V,Below w.heap.size w V→RP la U V ia a.inds.length ca a.inds∧RP lb T V ib b.inds.length cb b.inds):=fun V hV=>⟨h1.below hV ax,h2.below hV G⟩
 clear h1 h2;obtain ⟨W,hW⟩:∃ W,W=(w.alloc (.cells #[.int .i64 a.kind,.int .i64 a.fn,.int .i64 a.role,.int .i64 a.above,.int .i64 a.xp,.int .i64 a.xn,.int .i64 a.yp,.int .i64 a.yn,.slice ia a.inds.length ca,.int .i64 a.a,.int .i64 a.b] 32)).alloc (.cells #[.int .i64 b.kind,.int .i64 b.fn,.int .i64 b.role,.int .i64 b.above,.int .i64 b.xp,.int .i64 b.xn,.int .i64 b.yp,.int .i64 b.yn,.slice ib b.inds.length cb,.int .i64 b.a,.int .i64 b.b] 32):=⟨_,rfl⟩;have HW:Hid (W=(w.alloc (.cells #[.int .i64 a.kind,.int .i64 a.fn,.int .i64 a.role,.int .i64 a.above,.int .i64 a.xp,.int .i64 a.xn,.int .i64 a.yp,.int .i64 a.yn,.slice ia a.inds.length ca,.int .i64 a.a,.int .i64 a.b] 32)).alloc (.cells #[.int .i64 b.kind,.int .i64 b.fn,.int .i64 b.role,.int .i64 b.above,.int .i64 b.xp,.int .i64 b.xn,.int .i64 b.yp,.int .i64 b.yn,.slice ib b.inds.length cb,.int .i64 b.a,.int .i64 b.b] 32)):=hW;have ag:Below w.heap.size w W:=by rw [hW];exact ((Below.refl _ _).alloc (Nat.le_refl _) _).alloc (by simp) _
 have aL:W.heap.size=w.heap.size+2:=by rw [hW];simp
 have a7:BoxK 32 W w.heap.size a.kind a.fn a.role a.above a.xp a.xn a.yp a.yn (.slice ia a.inds.length ca) a.a a.b:=by
  rw [hW];exact (BoxK.new 32 w _ _ _ _ _ _ _ _ _ _ _).below ((Below.refl _ _).alloc (Nat.le_refl _) _) (by simp)
 have a6:BoxK 32 W (w.heap.size+1) b.kind b.fn b.role b.above b.xp b.xn b.yp b.yn (.slice ib b.inds.length cb) b.a b.b:=by
  rw [hW];have:=BoxK.new 32 (w.alloc (.cells #[.int .i64 a.kind,.int .i64 a.fn,.int .i64 a.role,.int .i64 a.above,.int .i64 a.xp,.int .i64 a.xn,.int .i64 a.yp,.int .i64 a.yn,.slice ia a.inds.length ca,.int .i64 a.a,.int .i64 a.b] 32)) b.kind b.fn b.role b.above b.xp b.xn b.yp b.yn (.slice ib b.inds.length cb) b.a b.b;rw [show (w.alloc (.cells #[.int .i64 a.kind,.int .i64 a.fn,.int .i64 a.role,.int .i64 a.above,.int .i64 a.xp,.int .i64 a.xn,.int .i64 a.yp,.int .i64 a.yn,.slice ia a.inds.length ca,.int .i64 a.a,.int .i64 a.b] 32)).heap.size=w.heap.size+1 from by simp] at this;exact this
 have HB:Hid (∀ V,Below W.heap.size W V→BoxK 32 V w.heap.size a.kind a.fn a.role a.above a.xp a.xn a.yp a.yn (.slice ia a.inds.length ca) a.a a.b∧BoxK 32 V (w.heap.size+1) b.kind b.fn b.role b.above b.xp b.xn b.yp b.yn (.slice ib b.inds.length cb) b.a b.b):=fun V hV=>⟨a7.below hV (by omega),a6.below hV (by omega)⟩
 have HF:Hid (∀ V,Below W.heap.size W V→Below w.heap.size w V):=fun V hV=>ag.trans (hV.mono (by omega))
 have H0:Hid (Below W.heap.size W W):=Below.refl _ _;clear hW ag a7 a6;obtain ⟨y0,y1,y2,y3,y4,y5,y6,y7,y8,y9,E⟩:=(HB.out _ H0.out).1.cells;obtain ⟨v0,v1,v2,v3,v4,v5,v6,v7,v8,v9,F⟩:=(HB.out _ H0.out).2.cells;go_enter Try.func26, Try.ntmps26;go_upto_region 1 with fail;rw [← HW.out];go_wp2_with fail;refine (specClauseOk_any (HR.out _ (HF.out _ H0.out)).1 (by omega)).mono ?_;rintro e w1 ⟨rfl,af⟩;rw [show clauseB a.kind a.fn a.role a.above a.xp a.xn a.yp a.yn a.inds a.a a.b=a.ok from rfl];have H1:Hid (Below W.heap.size W w1):=af;clear af y0 y1 y2 y3 y4 y5 y6 y7 y8 y9 E v0 v1 v2 v3 v4 v5 v6 v7 v8 v9 F;obtain ⟨y0,y1,y2,y3,y4,y5,y6,y7,y8,y9,E⟩:=(HB.out _ H1.out).1.cells;obtain ⟨v0,v1,v2,v3,v4,v5,v6,v7,v8,v9,F⟩:=(HB.out _ H1.out).2.cells;cases ha:a.ok
 · have HE:Hid (resF a b=[]):=by rw [Hid,resF,ha];simp
   clear ha;go_wp2_with fail;go_ret;exact ⟨none,0,by rw [HE.out];rfl,by rw [HE.out];exact RdQ.nil _ _ _,HF.out _ H1.out⟩
 have HA:Hid (a.ok=true):=ha;clear ha;go_wp2_with fail;refine (specClauseOk_any (HR.out _ (HF.out _ H1.out)).2 (by have:=(HF.out _ H1.out).size;omega)).mono ?_;rintro e w2 ⟨rfl,ae⟩;rw [show clauseB b.kind b.fn b.role b.above b.xp b.xn b.yp b.yn b.inds b.a b.b=b.ok from rfl];have H2:Hid (Below W.heap.size W w2):=H1.out.trans (ae.mono H1.out.size);clear ae y0 y1 y2 y3 y4 y5 y6 y7 y8 y9 E v0 v1 v2 v3 v4 v5 v6 v7 v8 v9 F;obtain ⟨y0,y1,y2,y3,y4,y5,y6,y7,y8,y9,E⟩:=(HB.out _ H2.out).1.cells;obtain ⟨v0,v1,v2,v3,v4,v5,v6,v7,v8,v9,F⟩:=(HB.out _ H2.out).2.cells;cases hb:b.ok
 · have HE:Hid (resF a b=[]):=by rw [Hid,resF,hb];simp
   clear hb;go_wp2_with fail;go_ret;exact ⟨none,0,by rw [HE.out];rfl,by rw [HE.out];exact RdQ.nil _ _ _,HF.out _ H2.out⟩
 have aj:Hid (b.ok=true):=hb;have HE:Hid (resF a b=bothF a b):=by rw [Hid,resF,if_pos ⟨HA.out,hb⟩]
 clear hb;go_wp2_with fail;refine (l7both_any a b HA.out aj.out (HR.out _ (HF.out _ H2.out)).1 (HR.out _ (HF.out _ H2.out)).2 (by have:=(HF.out _ H2.out).size;omega) (by have:=(HF.out _ H2.out).size;omega)).mono ?_;rintro e w3 ⟨qa,qc,rfl,hq,ad⟩;obtain ⟨L,hL⟩:∃ L,L=bothF a b:=⟨_,rfl⟩;rw [← hL] at hq ⊢;have HL:Hid (resF a b=L):=by rw [Hid,HE.out,hL]
 have aE:Hid (∀ i,(L.getD i CL.nul).inds.length≤1000):=by rw [Hid,hL];exact bothF_small HA.out aj.out
 have aI:Hid (L.length≤2):=by rw [Hid,hL];exact bothF_len a b
 obtain ⟨n,hn⟩:∃ n,n=L.length:=⟨_,rfl⟩;have HN:Hid (n=L.length):=hn;have aN:n≤2:=by rw [hn];exact aI.out
 rw [← hn] at hq ⊢;have HQ:Hid (∀ V,Below w3.heap.size w3 V→RdQ 0 w3.heap.size V qa n qc L):=fun V hV=>hq.below hV (Nat.le_refl _)
 have aM:=hq.fits;have H3:Hid (Below W.heap.size W w3):=H2.out.trans (ad.mono H2.out.size);have ao:w.heap.size≤w3.heap.size:=(HF.out _ H3.out).size;clear hq ad hn hL y0 y1 y2 y3 y4 y5 y6 y7 y8 y9 E v0 v1 v2 v3 v4 v5 v6 v7 v8 v9 F;go_upto_region 6 with fail;obtain ⟨base,D⟩:∃ q,q=w3.heap.size:=⟨_,rfl⟩;have a2:Hid (base=w3.heap.size):=D;clear D;go_loopw [5,7] (fun o i wr=>∃ (k:Nat) (xs:List CV),k≤n∧i=.int .i64 k∧xs.map (·.1)=L.take k∧xs.length=k∧OwnDs base wr o xs∧Below w3.heap.size w3 wr) (fun _ i _=>n - (intOf i).toNat)
 case atStart=>exact ⟨0,[],Nat.zero_le _,rfl,rfl,rfl,OwnDs.nil _ _,Below.refl _ _⟩
 case round =>
  obtain ⟨k,xs,hk,rfl,a8,N,t,u⟩:=hrel;have HX:Hid (xs.map (·.1)=L.take k∧xs.length=k):=⟨a8,N⟩;have HB:Hid (Below w3.heap.size w3 wr):=u;obtain ⟨va,vc,hv⟩:=t.form;rw [N] at hv;subst hv;have HO:Hid (OwnDs base wr (.slice va k vc) xs):=t;have O:w3.heap.size≤wr.heap.size:=u.size;clear a8 N t;by_cases I:k<n
  · have aO:(k:Int)<(n:Int):=by omega
    rcases (HQ.out _ u).cells with h0 | ⟨bb,off,e1,_,aP,hc⟩
    · omega
    subst e1;obtain ⟨ia',ic',m,R⟩:=hc k I;obtain ⟨x,hx⟩:∃ x,x=L.getD k CL.nul:=⟨_,rfl⟩;have aB:Hid (x=L.getD k CL.nul):=hx;rw [← hx] at m R;have aD:Hid (x.inds.length≤1000):=by rw [Hid,hx];exact aE.out k
    have aF:Hid (RP 0 w3.heap.size wr ia' x.inds.length ic' x.inds):=R;have p0:=m 0 _ rfl;have p1:=m 1 _ rfl;have p2:=m 2 _ rfl;have p3:=m 3 _ rfl;have p4:=m 4 _ rfl;have p5:=m 5 _ rfl;have p6:=m 6 _ rfl;have p7:=m 7 _ rfl;have p8:=m 8 _ rfl;have p9:=m 9 _ rfl;have ak:=m 10 _ rfl;simp only [Nat.add_zero] at p0;clear hc m R u hx;go_wp2_with fail;refine (l6own_any x aF.out O aD.out).mono ?_;rintro e w4 ⟨g,gc,rfl,aa,Z⟩;obtain ⟨W5,M⟩:∃ W5,W5=w4.alloc (.cells #[.int .i64 x.kind,.int .i64 x.fn,.int .i64 x.role,.int .i64 x.above,.int .i64 x.xp,.int .i64 x.xn,.int .i64 x.yp,.int .i64 x.yn,.slice (some ⟨g,0,none⟩) x.inds.length gc,.int .i64 x.a,.int .i64 x.b] 32):=⟨_,rfl⟩;have aC:Hid (W5=w4.alloc (.cells #[.int .i64 x.kind,.int .i64 x.fn,.int .i64 x.role,.int .i64 x.above,.int .i64 x.xp,.int .i64 x.xn,.int .i64 x.yp,.int .i64 x.yn,.slice (some ⟨g,0,none⟩) x.inds.length gc,.int .i64 x.a,.int .i64 x.b] 32)):=M;have Y:Below w4.heap.size w4 W5:=by rw [M];exact (Below.refl _ _).alloc (Nat.le_refl _) _
    have a3:Hid (Below wr.heap.size wr W5):=Z.trans (Y.mono Z.size);have aH:Hid (∀ j v,(clA x (.slice (some ⟨g,0,none⟩) x.inds.length gc)).toList[j]?=some v→W5.cell? ((⟨w4.heap.size,0,none⟩:Addr).add j)=some v):=by rw [Hid,M];exact newCl w4 _ 32
    have ac:base≤wr.heap.size:=by rw [a2.out];exact O
    have ah:Hid (OwnDs base W5 (.slice va k vc) xs):=HO.out.below a3.out;have aG:Hid (OwnP base W5 (.slice (some ⟨g,0,none⟩) x.inds.length gc) x.inds):=(OwnP.below aa Y).base ac;have z:W5.ownsRow base 32 11 (.slice va k vc) k (flatV xs):=by have:=ah.out.row;rw [HX.out.2] at this;exact this
    have H:Hid (W5.ownsRow base 32 11 (.slice va k vc) k (flatV xs)):=z;have a5:base≤W5.heap.size:=Nat.le_trans ac a3.out.size;obtain ⟨i0,av,an,am,al⟩:=info_parts Try.infoCl;clear M Y z aa Z p0 p1 p2 p3 p4 p5 p6 p7 p8 p9 ak
    go_wp2_with (first
     | (at_builtin;rw [← aC.out];refine wpList_append_own_at _ rfl (.tmp 25) (.tmp 31) 42 rfl base 32 i0 (.agg (clA CL.nul (.slice none 0 0))) 11 104 Try.underlying42 av an am al rfl (by decide) (.slice va k vc) k (flatV xs) rfl H.out ⟨w4.heap.size,0,none⟩ 1 1 (clA x (.slice (some ⟨g,0,none⟩) x.inds.length gc)).toList rfl rfl aH.out (oneCl rfl) (by unfold maxLen;omega) (by omega) (by omega) ?_;intro v5 w5 t A a4 aA;have ai:Hid (OwnDs base w5 v5 (xs++[(x,.slice (some ⟨g,0,none⟩) x.inds.length gc)])∧Below base W5 w5):=rvEnd ah.out aG.out HX.out.2.symm t A a5;clear t A a4 aA)
     | fail)
    go_roundw
    case rel =>
     refine ⟨k+1,_,by omega,by go_num,?_,?_,ai.out.1,?_⟩
     · have ab:k<L.length:=by rw [← HN.out];exact I
       rw [List.map_append,HX.out.1,List.map_cons,List.map_nil,aB.out,List.take_succ_eq_append_getElem ab];simp [List.getD,ab]
     · rw [List.length_append,HX.out.2];rfl
     exact HB.out.trans ((a3.out.mono O).trans (by have:=ai.out.2;rw [a2.out] at this;exact this))
    case measure=>simp [intOf];omega
  obtain rfl:k=n:=by omega
  clear u;go_wp2_with fail;go_ret;obtain ⟨a',c',e',hq⟩:=HO.out.rdq;rw [HX.out.2] at e' hq;simp only [Value.slice.injEq,true_and] at e';obtain ⟨rfl,rfl⟩:=e';refine ⟨va,vc,by rw [HL.out,← HN.out];rfl,?_,HF.out _ (H3.out.trans (HB.out.mono H3.out.size))⟩;rw [HL.out];rw [HX.out.1,HN.out,List.take_length] at hq;exact hq.mono (by rw [a2.out];exact ao) (Nat.le_refl _)
end

section
open Go.RowKit
set_option linter.unusedVariables false
set_option maxHeartbeats 4000000 in
theorem markKq_any {q0 k f r u xp xn yp yn:Int} {ia:Option Addr} {im ic:Nat} {a b:Int} {xs:List (Int × Int)} {w:World} {lo hi:Nat} (h:RP lo hi w ia im ic xs) (hF:∀ b off,ia=some ⟨b,off,none⟩→∀ o,w.frozen? ⟨b,o,none⟩=false) (a8:hi≤w.heap.size) (hn:im≤1048576) (a4:∀ b off,ia=some ⟨b,off,none⟩→b<w.heap.size) (a7:0≤q0∧q0≤1000000000) :
    Calls Try.prog 29 #[.agg #[.int .i64 k,.int .i64 f,.int .i64 r,.int .i64 u,.int .i64 xp,.int .i64 xn,.int .i64 yp,.int .i64 yn,.slice ia im ic,.int .i64 a,.int .i64 b],.int .i64 q0] w fun e w'=>∃ q:Int,e=.returned (.int .i64 q)∧(q0≤q∧q≤q0+2097152)∧MarkR lo hi w w':=by
 obtain ⟨W,hW⟩:∃ W,W=w.alloc (.cells #[.int .i64 k,.int .i64 f,.int .i64 r,.int .i64 u,.int .i64 xp,.int .i64 xn,.int .i64 yp,.int .i64 yn,.slice ia im ic,.int .i64 a,.int .i64 b] 32):=⟨_,rfl⟩;have HW:Hid (W=w.alloc (.cells #[.int .i64 k,.int .i64 f,.int .i64 r,.int .i64 u,.int .i64 xp,.int .i64 xn,.int .i64 yp,.int .i64 yn,.slice ia im ic,.int .i64 a,.int .i64 b] 32)):=hW;have X:Below w.heap.size w W:=by rw [hW];exact (Below.refl _ _).alloc (Nat.le_refl _) _
 have a9:Hid (Below w.heap.size w W):=X;have HR:Hid (RP lo hi W ia im ic xs):=h.below X a8;have HF:Hid (∀ b off,ia=some ⟨b,off,none⟩→∀ o,W.frozen? ⟨b,o,none⟩=false):=fun b off e o=>(World.frozen?_of_block (a:=⟨b,o,none⟩) (X.block b (a4 b off e))).trans (hF b off e o)
 have a5:BoxK 32 W w.heap.size k f r u xp xn yp yn (.slice ia im ic) a b:=by rw [hW];exact BoxK.new _ w _ _ _ _ _ _ _ _ _ _ _
 obtain ⟨z0,z1,z2,z3,z4,z5,z6,z7,z8,z9,aa⟩:=a5.cells;have ab:=X.size;clear h hF hW X a5 a4;go_enter Try.func29, Try.ntmps29;go_wp2_with fail;rw [← HW.out];refine (markPartS_any q0 HR.out HF.out (by omega) hn ⟨a7.1,by omega⟩).mono ?_;rintro e w1 ⟨rfl,hm⟩;have HM:Hid (MarkR lo hi w w1):=(MarkR.of_below a9.out).trans hm;obtain ⟨q,hq⟩:∃ q:Int,q=q0+((2*im:Nat):Int):=⟨_,rfl⟩;have a6:q0≤q∧q≤q0+2097152:=by omega
 rw [← hq];clear hm hq;go_wp2_with fail;go_ret;exact ⟨q,rfl,a6,HM.out⟩
theorem MarkR.belowR {lo hi B:Nat} {w w':World} (h:MarkR lo hi w w') (hB:B≤lo) (hs:B≤w.heap.size):Below B w w':=⟨h.os,h.tape,h.output,h.size,fun b hb=>h.out b (by omega) (.inl (by omega))⟩
theorem MarkR.mono {lo hi lo' J:Nat} {w w':World} (h:MarkR lo hi w w') (h1:lo'≤lo) (h2:hi≤J):MarkR lo' J w w':=⟨h.os,h.tape,h.output,h.size,fun b hb hd=>h.out b hb (by omega),h.int,h.frz⟩
theorem MarkR.same {lo hi lo' J:Nat} {w w':World} (h:MarkR lo hi w w') (hs:J≤w.heap.size) (hd:J≤lo∨hi≤lo'):Same lo' J w w':=fun b h1 h2=>h.out b (by omega) (by omega)
theorem implRes_any {k1 f1 r1 u1 E G t A a1 b1:Int} {T:Option Addr} {I O:Nat} {m:List (Int × Int)} {k2 f2 r2 u2 D F s z a2 b2:Int} {R:Option Addr} {H M:Nat} {d:List (Int × Int)} {w:World} {Z V Y U:Nat} {L:List CL} {N:Nat} (h1:RP Z V w T I O m) (a3:V≤w.heap.size) (h2:RP Y U w R H M d) (a0:U≤w.heap.size) (hL:L=resF ⟨k1,f1,r1,u1,E,G,t,A,m,a1,b1⟩ ⟨k2,f2,r2,u2,D,F,s,z,d,a2,b2⟩) (hN:N=L.length) :
    Calls Try.prog 27 #[.agg #[.int .i64 k1,.int .i64 f1,.int .i64 r1,.int .i64 u1,.int .i64 E,.int .i64 G,.int .i64 t,.int .i64 A,.slice T I O,.int .i64 a1,.int .i64 b1],.agg #[.int .i64 k2,.int .i64 f2,.int .i64 r2,.int .i64 u2,.int .i64 D,.int .i64 F,.int .i64 s,.int .i64 z,.slice R H M,.int .i64 a2,.int .i64 b2]] w fun e w'=>∃ a c,e=.returned (.slice a N c)∧AnsQ w.heap.size w' L a c∧Below w.heap.size w w':=by
 obtain rfl:I=m.length:=h1.len.symm;obtain rfl:H=d.length:=h2.len.symm;refine (implResolve_any ⟨k1,f1,r1,u1,E,G,t,A,m,a1,b1⟩ ⟨k2,f2,r2,u2,D,F,s,z,d,a2,b2⟩ h1 h2 a3 a0).mono ?_;rintro e w' ⟨v,ys,rfl,ho,hm,hb⟩;obtain ⟨a,c,rfl⟩:=ho.form;have hl:ys.length=L.length:=by rw [hL,← hm,List.length_map]
 rw [hl] at ho ⊢;exact ⟨a,c,by rw [hN],⟨ys,ho,by rw [hm,hL]⟩,hb⟩
theorem specRes_any {k1 f1 r1 u1 E G t A a1 b1:Int} {T:Option Addr} {I O:Nat} {m:List (Int × Int)} {k2 f2 r2 u2 D F s z a2 b2:Int} {R:Option Addr} {H M:Nat} {d:List (Int × Int)} {w:World} {Z V Y U:Nat} {L:List CL} {N:Nat} (h1:RP Z V w T I O m) (a3:V≤w.heap.size) (h2:RP Y U w R H M d) (a0:U≤w.heap.size) (hL:L=resF ⟨k1,f1,r1,u1,E,G,t,A,m,a1,b1⟩ ⟨k2,f2,r2,u2,D,F,s,z,d,a2,b2⟩) (hN:N=L.length) :
    Calls Try.prog 26 #[.agg #[.int .i64 k1,.int .i64 f1,.int .i64 r1,.int .i64 u1,.int .i64 E,.int .i64 G,.int .i64 t,.int .i64 A,.slice T I O,.int .i64 a1,.int .i64 b1],.agg #[.int .i64 k2,.int .i64 f2,.int .i64 r2,.int .i64 u2,.int .i64 D,.int .i64 F,.int .i64 s,.int .i64 z,.slice R H M,.int .i64 a2,.int .i64 b2]] w fun e w'=>∃ a c,e=.returned (.slice a N c)∧RdG w.heap.size w'.heap.size w' a N c L∧Below w.heap.size w w':=by
 obtain rfl:I=m.length:=h1.len.symm;obtain rfl:H=d.length:=h2.len.symm;refine (specResolve_any ⟨k1,f1,r1,u1,E,G,t,A,m,a1,b1⟩ ⟨k2,f2,r2,u2,D,F,s,z,d,a2,b2⟩ h1 h2 a3 a0).mono ?_;rintro e w' ⟨a,c,rfl,hq,hb⟩;rw [← hL,← hN] at hq ⊢;exact ⟨a,c,rfl,hq.g,hb⟩
theorem resF_len (a b:CL):(resF a b).length≤2:=by
 unfold resF
 split
 · exact bothF_len a b
 simp
end

end Go.Proofs.Ytkjmfaohdhiiaaa
