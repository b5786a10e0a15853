/- Several texts in one: BentMem, BentOwn, BentPath. -/
import Derived.Test.YtnmljalcndfjmaaGreatNG19
namespace Go.Proofs.YtnmljalcndfjmaaGreat

section
open Go.RowKit
structure Slot (w:World) (b o:Nat):Prop where
 k:∃ n,w.cell? ⟨b,o,none⟩=some (.int .i64 n)
 s1:∃ a n c,w.cell? ⟨b,o+1,none⟩=some (.slice a n c)
 s2:∃ a n c,w.cell? ⟨b,o+2,none⟩=some (.slice a n c)
 s3:∃ a n c,w.cell? ⟨b,o+3,none⟩=some (.slice a n c)
def OffS (w W:World) (b o:Nat):Prop:=∀ q r:Nat,(q≠b∨r<o∨o+4≤r)→(∃ v,w.cell? ⟨q,r,none⟩=some v)→W.cell? ⟨q,r,none⟩=w.cell? ⟨q,r,none⟩
theorem Slot.apart {w:World} {b o o':Nat} (h:Slot w b o) (k:Slot w b o') (E:o'≠o):o'+4≤o∨o+4≤o':=by
 apply Classical.byContradiction;intro hn;obtain ⟨⟨n,h0⟩,⟨_,_,_,h1⟩,⟨_,_,_,h2⟩,⟨_,_,_,h3⟩⟩:=h;obtain ⟨⟨m,k0⟩,⟨_,_,_,k1⟩,⟨_,_,_,k2⟩,⟨_,_,_,k3⟩⟩:=k;have:o'=o+1∨o'=o+2∨o'=o+3∨o=o'+1∨o=o'+2∨o=o'+3:=by omega
 rcases this with e | e | e | e | e | e <;> subst e
 · rw [h1] at k0;simp at k0
 · rw [h2] at k0;simp at k0
 · rw [h3] at k0;simp at k0
 · rw [k1] at h0;simp at h0
 · rw [k2] at h0;simp at h0
 rw [k3] at h0;simp at h0
theorem OffS.byte {w W:World} {b o q r:Nat} {z:Int} (h:OffS w W b o) (hS:Slot w b o) (hc:w.cell? ⟨q,r,none⟩=some (.int .u8 z)):W.cell? ⟨q,r,none⟩=some (.int .u8 z):=by
 rw [h q r ?_ ⟨_,hc⟩]
 · exact hc
 apply Classical.byContradiction;intro hn;obtain ⟨⟨n,h0⟩,⟨_,_,_,h1⟩,⟨_,_,_,h2⟩,⟨_,_,_,h3⟩⟩:=hS;have e:q=b∧(r=o∨r=o+1∨r=o+2∨r=o+3):=by omega
 obtain ⟨rfl,e⟩:=e;rcases e with e | e | e | e <;> subst e
 · rw [hc] at h0;simp at h0
 · rw [hc] at h1;simp at h1
 · rw [hc] at h2;simp at h2
 rw [hc] at h3;simp at h3
theorem OffS.slot {w W:World} {b o q r i:Nat} (h:OffS w W b o) (hS:Slot w b o) (hq:Slot w q r) (E:q≠b∨r≠o) (hi:i<4) (hv:∃ v,w.cell? ⟨q,r+i,none⟩=some v):W.cell? ⟨q,r+i,none⟩=w.cell? ⟨q,r+i,none⟩:=by
 refine h q (r+i) ?_ hv;by_cases e:q=b
 · subst e;have:=hS.apart hq (by omega);omega
 exact .inl e
theorem OwB.off {w W:World} {b o:Nat} {a:Option Addr} {n T:Nat} {zs:List Int} {bb off:Nat} (h:OwB w a n T zs bb off) (hO:OffS w W b o) (hS:Slot w b o):OwB W a n T zs bb off:=by
 obtain ⟨h1,h2,h3,h4⟩:=h;refine ⟨h1,h2,h3,?_⟩;rcases h4 with h4 | ⟨e,h4⟩
 · exact .inl h4
 exact .inr ⟨e,fun i hi=>hO.byte hS (h4 i hi)⟩
theorem slot_of {w:World} {d b o:Nat} {v0 v1 v2 v3:Value} {c:CN} {L:List (Addr × IntKind)} (hr:OwC w d (.agg #[v0,v1,v2,v3]) c L) (c0:w.cell? ⟨b,o,none⟩=some v0) (c1:w.cell? ⟨b,o+1,none⟩=some v1) (c2:w.cell? ⟨b,o+2,none⟩=some v2) (c3:w.cell? ⟨b,o+3,none⟩=some v3):Slot w b o:=by
 obtain ⟨rfl,⟨_,_,_,rfl⟩,⟨_,_,_,rfl⟩,⟨_,_,_,rfl⟩⟩:=hr.form;exact ⟨⟨_,c0⟩,⟨_,_,_,c1⟩,⟨_,_,_,c2⟩,⟨_,_,_,c3⟩⟩
theorem OwC.off {w W:World} {b o:Nat} (hO:OffS w W b o) (hS:Slot w b o):∀ {d:Nat} {v:Value} {c:CN} {L:List (Addr × IntKind)},OwC w d v c L→(∀ x∈L,x.1≠⟨b,o,none⟩)→OwC W d v c L:=by
 intro d
 induction d with
 | zero=>intro v c L h _;exact h
 | succ d ih =>
  intro v c L h hk;obtain ⟨na,nn,nc,ra,rn,rc,ka,kn,kc,bn,on,br,or,bk,ok,Ls,hv,h1,h2,h3,rfl⟩:=h;refine ⟨na,nn,nc,ra,rn,rc,ka,kn,kc,bn,on,br,or,bk,ok,Ls,hv,h1.off hO hS,h2.off hO hS,?_,rfl⟩;obtain ⟨g1,g2,g3⟩:=h3;refine ⟨g1,g2,?_⟩;rcases g3 with g3 | ⟨e,g3⟩
  · exact .inl g3
  refine .inr ⟨e,fun i hi=>?_⟩;obtain ⟨v0,v1,v2,v3,c0,c1,c2,c3,hr⟩:=g3 i hi;have hq:=slot_of hr c0 c1 c2 c3
  have E:bk≠b∨ok+i*4≠o:=by
   have:=hk (⟨bk,ok+i*4,none⟩,.i64) (by simp only [List.mem_append];exact .inr (.inr (mem_leafK.2 ⟨i,hi,.inl rfl⟩)));apply Classical.byContradiction;intro hn
   exact this (by have e:bk=b∧ok+i*4=o:=by omega
                  rw [e.1,e.2])
  refine ⟨v0,v1,v2,v3,?_,?_,?_,?_,ih hr (fun x hx=>hk x (by simp only [List.mem_append];exact .inr (.inr (mem_leafK.2 ⟨i,hi,.inr hx⟩))))⟩
  · exact (hO.slot (i:=0) hS hq E (by omega) ⟨_,c0⟩).trans c0
  · exact (hO.slot (i:=1) hS hq E (by omega) ⟨_,c1⟩).trans c1
  · exact (hO.slot (i:=2) hS hq E (by omega) ⟨_,c2⟩).trans c2
  exact (hO.slot (i:=3) hS hq E (by omega) ⟨_,c3⟩).trans c3
def OwS (w:World) (d b o:Nat) (c:CN) (L:List (Addr × IntKind)):Prop:=∃ v0 v1 v2 v3,w.cell? ⟨b,o,none⟩=some v0∧w.cell? ⟨b,o+1,none⟩=some v1∧w.cell? ⟨b,o+2,none⟩=some v2∧w.cell? ⟨b,o+3,none⟩=some v3∧OwC w d (.agg #[v0,v1,v2,v3]) c L
def RdS (lo hi:Nat) (w:World) (d b o:Nat) (c:CN):Prop:=∃ v0 v1 v2 v3,w.cell? ⟨b,o,none⟩=some v0∧w.cell? ⟨b,o+1,none⟩=some v1∧w.cell? ⟨b,o+2,none⟩=some v2∧w.cell? ⟨b,o+3,none⟩=some v3∧RdC lo hi w d (.agg #[v0,v1,v2,v3]) c
theorem RdC.higher {lo hi d D:Nat} {w:World} {v:Value} {c:CN} (h:RdC lo hi w d v c) (hd:d≤D):RdC lo hi w D v c:=by
 obtain ⟨L,h1,h2⟩:=h.ow;exact (h1.lift hd).rd h2
theorem RdS.higher {lo hi d D b o:Nat} {w:World} {c:CN} (h:RdS lo hi w d b o c) (hd:d≤D):RdS lo hi w D b o c:=by
 obtain ⟨v0,v1,v2,v3,c0,c1,c2,c3,hr⟩:=h;exact ⟨v0,v1,v2,v3,c0,c1,c2,c3,hr.higher hd⟩
inductive Path (w:World):Nat→Nat→Nat→Nat→Prop
 | here (b o:Nat):Path w b o b o
 | kid {b o bk ok kn kc j b' o':Nat}:w.cell? ⟨b,o+3,none⟩=some (.slice (some ⟨bk,ok,none⟩) kn kc)→j<kn→Path w bk (ok+j*4) b' o'→Path w b o b' o'
theorem Path.snoc {w:World} {b o b' o':Nat} (h:Path w b o b' o') {bk ok kn kc j:Nat} (hc:w.cell? ⟨b',o'+3,none⟩=some (.slice (some ⟨bk,ok,none⟩) kn kc)) (hj:j<kn):Path w b o bk (ok+j*4):=by
 induction h with
 | here b o=>exact .kid hc hj (.here _ _)
 | kid h1 h2 _ ih=>exact .kid h1 h2 (ih hc)
theorem bulks_set:∀ (cs:List CN) (j:Nat) (x:CN),j<cs.length→bulks (cs.set j x)+(cs.getD j CN.zero).bulk=bulks cs+x.bulk
 | [],j,x,h=>absurd h (by simp)
 | c :: cs,0,x,_=>by simp only [List.set,bulks,List.getD_cons_zero];omega
 | c :: cs,j+1,x,h=>by
  have:=bulks_set cs j x (by simpa using h);simp only [List.set,bulks,List.getD_cons_succ];omega
theorem leafK_apart {bk ok:Nat} {Ls:Nat→List (Addr × IntKind)} {n:Nat} (h:((leafK bk ok Ls n).map (·.1)).Nodup) :
    (∀ j,j<n→((Ls j).map (·.1)).Nodup∧(⟨bk,ok+j*4,none⟩:Addr) ∉ (Ls j).map (·.1)) ∧
    (∀ i j,i<n→j<n→i≠j→∀ p,(p=(⟨bk,ok+j*4,none⟩:Addr)∨p∈(Ls j).map (·.1))→p≠⟨bk,ok+i*4,none⟩∧p ∉ (Ls i).map (·.1)):=by
 have e:(leafK bk ok Ls n).map (·.1)=(List.range n).flatMap (fun i=>(⟨bk,ok+i*4,none⟩:Addr) :: (Ls i).map (·.1)):=by
  rw [leafK,List.map_flatMap];rfl
 rw [e,List.Nodup,List.pairwise_flatMap] at h;obtain ⟨h1,h2⟩:=h;refine ⟨fun j hj=>?_,fun i j hi hj E p hp=>?_⟩
 · have:=h1 j (List.mem_range.2 hj);rw [List.pairwise_cons] at this;exact ⟨this.2,fun hm=>this.1 _ hm rfl⟩
 have h3:∀ a b,a<b→b<n→∀ x∈(⟨bk,ok+a*4,none⟩:Addr) :: (Ls a).map (·.1),∀ y∈(⟨bk,ok+b*4,none⟩:Addr) :: (Ls b).map (·.1),x≠y:=by
  intro a b X hb;have:=List.pairwise_iff_getElem.1 h2 a b (by simp;omega) (by simpa using hb) X;simpa using this
 have H:p∈(⟨bk,ok+j*4,none⟩:Addr) :: (Ls j).map (·.1):=List.mem_cons.2 hp;rcases Nat.lt_or_gt_of_ne E with q | q
 · exact ⟨fun e=>h3 i j q hj _ (List.mem_cons.2 (.inl rfl)) p H e.symm,fun e=>h3 i j q hj p (List.mem_cons.2 (.inr e)) p H rfl⟩
 exact ⟨fun e=>h3 j i q hi p H _ (List.mem_cons.2 (.inl rfl)) e,fun e=>h3 j i q hi p H p (List.mem_cons.2 (.inr e)) rfl⟩
theorem Path.mem {w:World} {b o b' o':Nat} (h:Path w b o b' o'):∀ {d:Nat} {c:CN} {L:List (Addr × IntKind)},OwS w d b o c L→(⟨b',o',none⟩:Addr)=⟨b,o,none⟩∨(⟨b',o',none⟩:Addr)∈L.map (·.1):=by
 induction h with
 | here b o=>intro d c L _;exact .inl rfl
 | @kid b o bk ok kn kc j b' o' h1 h2 _ ih =>
  intro d c L hw;obtain ⟨v0,v1,v2,v3,c0,c1,c2,c3,hr⟩:=hw;cases d with
  | zero=>exact hr.elim
  | succ d =>
   obtain ⟨na,nn,nc,ra,rn,rc,ka,kn',kc',bn,on,br,or,bk',ok',Ls,hv,q1,q2,q3,rfl⟩:=hr;simp only [Value.agg.injEq,Array.mk.injEq,List.cons.injEq,and_true] at hv;obtain ⟨rfl,rfl,rfl,rfl⟩:=hv;rw [h1] at c3;simp only [Option.some.injEq,Value.slice.injEq] at c3;obtain ⟨e1,rfl,rfl⟩:=c3;rcases q3.cells with q | ⟨e2,q⟩
   · omega
   rw [← e1] at e2;simp only [Option.some.injEq,Addr.mk.injEq,and_true] at e2;obtain ⟨rfl,rfl⟩:=e2;have:=ih (q j h2);refine .inr ?_;simp only [List.map_append,List.mem_append];refine .inr (.inr ?_);rcases this with e | e
   · rw [e];exact List.mem_map.2 ⟨_,mem_leafK.2 ⟨j,h2,.inl rfl⟩,rfl⟩
   obtain ⟨x,hx,ex⟩:=List.mem_map.1 e;exact List.mem_map.2 ⟨x,mem_leafK.2 ⟨j,h2,.inr hx⟩,ex⟩
theorem Path.put {w W:World} {b o b' o':Nat} (h:Path w b o b' o') {lo hi D:Nat} {c':CN} (hR:RdS lo hi W D b' o' c') (hO:OffS w W b' o') (hS:Slot w b' o') :
    ∀ {d:Nat} {c:CN} {L:List (Addr × IntKind)},OwS w d b o c L→(L.map (·.1)).Nodup→(⟨b,o,none⟩:Addr) ∉ L.map (·.1)→(∀ x∈L,lo≤x.1.block∧x.1.block<hi) →
     ∃ c'',RdS lo hi W (d+D) b o c''∧c''.bulk≤c.bulk+c'.bulk:=by
 induction h with
 | here b o=>intro d c L _ _ _ _;exact ⟨c',hR.higher (by omega),by omega⟩
 | @kid b o bk ok kn kc j b' o' h1 h2 hp ih =>
  intro d c L hw N V J;have a0:=hw;have Y:=(Path.kid h1 h2 hp).mem hw;obtain ⟨v0,v1,v2,v3,c0,c1,c2,c3,hr⟩:=hw;have hq:=slot_of hr c0 c1 c2 c3;cases d with
  | zero=>exact hr.elim
  | succ d =>
   obtain ⟨na,nn,nc,ra,rn,rc,ka,kn',kc',bn,on,br,or,bk',ok',Ls,hv,q1,q2,q3,rfl⟩:=hr;simp only [Value.agg.injEq,Array.mk.injEq,List.cons.injEq,and_true] at hv;obtain ⟨rfl,rfl,rfl,rfl⟩:=hv;rw [h1] at c3;simp only [Option.some.injEq,Value.slice.injEq] at c3;obtain ⟨e1,rfl,rfl⟩:=c3;rcases q3.cells with q | ⟨e2,q⟩
   · omega
   rw [← e1] at e2;simp only [Option.some.injEq,Addr.mk.injEq,and_true] at e2;obtain ⟨rfl,rfl⟩:=e2
   have hK:((leafK bk ok Ls kn).map (·.1)).Nodup:=by
    rw [List.map_append,List.map_append] at N;exact (List.nodup_append.1 (List.nodup_append.1 N).2.1).2.1
   obtain ⟨k1,k2⟩:=leafK_apart hK;have I:∀ x∈leafK bk ok Ls kn,lo≤x.1.block∧x.1.block<hi:=fun x hx=>J x (by simp only [List.mem_append];exact .inr (.inr hx))
   have O:(⟨b',o',none⟩:Addr)=⟨bk,ok+j*4,none⟩∨(⟨b',o',none⟩:Addr)∈(Ls j).map (·.1):=hp.mem (q j h2)
   have E:b≠b'∨o≠o':=by
    apply Classical.byContradiction;intro hn;have e:b=b'∧o=o':=by omega
    apply V;rw [e.1,e.2];simp only [List.map_append,List.mem_append];refine .inr (.inr ?_);rcases O with e | e
    · rw [e];exact List.mem_map.2 ⟨_,mem_leafK.2 ⟨j,h2,.inl rfl⟩,rfl⟩
    obtain ⟨x,hx,ex⟩:=List.mem_map.1 e;exact List.mem_map.2 ⟨x,mem_leafK.2 ⟨j,h2,.inr hx⟩,ex⟩
   obtain ⟨y,hy,Z⟩:=ih hR hO hS (q j h2) (k1 j h2).1 (k1 j h2).2 (fun x hx=>I x (mem_leafK.2 ⟨j,h2,.inr hx⟩));have hl:=q3.len;refine ⟨.mk c.kind c.name c.role (c.kids.set j y),⟨_,_,_,_,(hO.slot (i:=0) hS hq E (by omega) ⟨_,c0⟩).trans c0,(hO.slot (i:=1) hS hq E (by omega) ⟨_,c1⟩).trans c1,(hO.slot (i:=2) hS hq E (by omega) ⟨_,c2⟩).trans c2,(hO.slot (i:=3) hS hq E (by omega) ⟨_,h1⟩).trans h1,?_⟩,?_⟩
   · rw [Nat.succ_add];refine ⟨_,_,_,_,_,_,_,_,_,rfl,(q1.off hO hS).rd (fun x hx=>J x (by simp [hx])),(q2.off hO hS).rd (fun x hx=>J x (by simp [hx])),⟨by show (c.kids.set j y).length=kn;rw [List.length_set,hl],q3.fits,.inr ⟨bk,ok,rfl,?_,?_,fun i hi=>?_⟩⟩⟩
     · exact (I _ (mem_leafK.2 ⟨j,h2,.inl rfl⟩)).1
     · exact (I _ (mem_leafK.2 ⟨j,h2,.inl rfl⟩)).2
     by_cases hij:i=j
     · subst hij
       have e:(CN.mk c.kind c.name c.role (c.kids.set i y)).kids.getD i CN.zero=y:=by
        show (c.kids.set i y).getD i CN.zero=y
        rw [List.getD,List.getElem?_set_self (by omega)];rfl
       rw [e];exact hy
     have e:(CN.mk c.kind c.name c.role (c.kids.set j y)).kids.getD i CN.zero=c.kids.getD i CN.zero:=by
      show (c.kids.set j y).getD i CN.zero=c.kids.getD i CN.zero
      rw [List.getD,List.getElem?_set_ne (fun h=>hij h.symm)];rfl
     rw [e];obtain ⟨u0,u1,u2,u3,d0,d1,d2,d3,hs⟩:=q i hi;have G:=slot_of hs d0 d1 d2 d3;have R:=k2 i j hi h2 hij _ O
     have F:bk≠b'∨ok+i*4≠o':=by
      apply Classical.byContradiction;intro hn;have e:bk=b'∧ok+i*4=o':=by omega
      exact R.1 (by rw [e.1,e.2])
     have U:=OwC.off hO hS hs (fun x hx e=>R.2 (List.mem_map.2 ⟨x,hx,e⟩));exact ⟨u0,u1,u2,u3,(hO.slot (i:=0) hS G F (by omega) ⟨_,d0⟩).trans d0,(hO.slot (i:=1) hS G F (by omega) ⟨_,d1⟩).trans d1,(hO.slot (i:=2) hS G F (by omega) ⟨_,d2⟩).trans d2,(hO.slot (i:=3) hS G F (by omega) ⟨_,d3⟩).trans d3,(U.rd (fun x hx=>I x (mem_leafK.2 ⟨i,hi,.inr hx⟩))).higher (by omega)⟩
   have hb:=bulks_set c.kids j y (by omega);have hc:=c.bulk_eq;rw [CN.bulk];omega
end

section
open Go.RowKit
def Wh (w:World) (L:List (Addr × IntKind)):Nat→Value→Prop
 | 0,_=>True
 | d+1,kv=>∃ n xs,w.ownsRow 0 30 4 kv n xs∧(∀ g,kv.ownBlock=some g→((⟨g,0,none⟩,.i64):Addr × IntKind)∈L∧∀ x∈L,x.1.block=g→x.1.off+4≤n*4)∧∀ j u,xs[j*4+3]?=some u→Wh w L d u
theorem ownsRow_keepW {w w':World} {base e size n:Nat} {v:Value} {xs:List Value} (h:w.ownsRow base e size v n xs) (hk:∀ g,v.ownBlock=some g→w'.heap[g]?=w.heap[g]?):w'.ownsRow base e size v n xs:=by
 refine ⟨h.1,?_⟩;rcases h.2 with q | ⟨g,G,cur,rfl,hg,hh,r⟩
 · exact .inl q
 exact .inr ⟨g,G,cur,rfl,hg,(hk g rfl).trans hh,r⟩
theorem Wh.keep {w w':World} {L:List (Addr × IntKind)} (hk:∀ x∈L,w'.heap[x.1.block]?=w.heap[x.1.block]?):∀ {d:Nat} {kv:Value},Wh w L d kv→Wh w' L d kv
 | 0,_,_=>trivial
 | _+1,_,⟨n,xs,h1,h2,h3⟩=>⟨n,xs,ownsRow_keepW h1 (fun g hg=>hk _ (h2 g hg).1),h2,fun j u hu=>Wh.keep hk (h3 j u hu)⟩
theorem Wh.mono {w:World} {L M:List (Addr × IntKind)} (h1:∀ x∈L,x∈M) (h2:∀ x∈M,x∈L∨∀ y∈L,x.1.block≠y.1.block):∀ {d:Nat} {kv:Value},Wh w L d kv→Wh w M d kv
 | 0,_,_=>trivial
 | _+1,_,⟨n,xs,q1,q2,q3⟩=>⟨n,xs,q1,fun g hg=>⟨h1 _ (q2 g hg).1,fun x hx e=>by
     rcases h2 x hx with k | k
     · exact (q2 g hg).2 x k e
     exact absurd e (k _ (q2 g hg).1)⟩,fun j u hu=>Wh.mono h1 h2 (q3 j u hu)⟩
theorem Wh.nil (w:World) (L:List (Addr × IntKind)) (d:Nat):Wh w L d (.slice none 0 0):=by
 cases d with
 | zero=>trivial
 | succ d=>exact ⟨0,[],World.ownsRow_nil _ _ _ _,fun g hg=>by simp [Value.ownBlock] at hg,fun j u hu=>by simp at hu⟩
def InvW (w:World) (L:List (Addr × IntKind)) (d:Nat) (xs:List Value):Prop:=∀ j u,xs[j*4+3]?=some u→Wh w L d u
theorem InvW.nil (w:World) (L:List (Addr × IntKind)) (d:Nat):InvW w L d []:=fun j u hu=>by simp at hu
theorem InvW.keep {w w':World} {L:List (Addr × IntKind)} {d:Nat} {xs:List Value} (h:InvW w L d xs) (hk:∀ x∈L,w'.heap[x.1.block]?=w.heap[x.1.block]?):InvW w' L d xs:=fun j u hu=>(h j u hu).keep hk
theorem InvW.app {w:World} {Ls:List (List (Addr × IntKind))} {L:List (Addr × IntKind)} {d m:Nat} {xs:List Value} {v0 v1 v2 v3:Value} (h:InvW w Ls.flatten d xs) (k:Wh w L d v3) (hx:xs.length=m*4) (hd:∀ x∈Ls.flatten,∀ y∈L,x.1.block≠y.1.block) :
    InvW w (Ls++[L]).flatten d (xs++[v0,v1,v2,v3]):=by
 have hf:(Ls++[L]).flatten=Ls.flatten++L:=by simp
 rw [hf];intro j u hu;by_cases hj:j*4+3<xs.length
 · rw [List.getElem?_append_left hj] at hu;refine (h j u hu).mono (fun x hx=>List.mem_append.2 (.inl hx)) (fun x hx=>?_);rcases List.mem_append.1 hx with q | q
   · exact .inl q
   exact .inr (fun y hy e=>hd y hy x q e.symm)
 rw [List.getElem?_append_right (by omega)] at hu;have e:j*4+3 - xs.length=(j - m)*4+3:=by omega
 rw [e] at hu;by_cases hjm:j=m
 · subst hjm;simp at hu;subst hu;refine k.mono (fun x hx=>List.mem_append.2 (.inr hx)) (fun x hx=>?_);rcases List.mem_append.1 hx with q | q
   · exact .inr (fun y hy e=>hd x q y hy e)
   exact .inl q
 rw [List.getElem?_eq_none (by simp;omega)] at hu;simp at hu
theorem whole_rows {base pb g0:Nat} {ts:List Tok} {gs:List (Nat × Nat)} {i i0 s:Nat} {w w0:World} {B ob d:Nat} {k:Int} {rv:Value} {role:List Int} {br:Nat} {wr:World} {kv:Value} {cs:List CN} {Ls:List (List (Addr × IntKind))} {xs:List Value} {j:Nat}
    (h:InvR pb ts gs i0 w B ob d k rv role br wr kv cs Ls xs j) (hT:TkM base pb w0 g0 ts gs) (O:pb≤s) (I:s≤B) (a2:i≤i0) (a0:i0≤j) (F:Use ts gs i i0 s B (leafB br 0 role.length))  (hW:InvW wr Ls.flatten d xs) (hz:cs.length=0→kv=.slice none 0 0) (V:∀ x∈leafB br 0 role.length,x.1.block<B) :
    ∃ L,OwnR ts gs i j s wr (d+1) (.agg #[.int .i64 k,.slice none 0 0,rv,kv]) (.mk k [] role cs) L∧Wh wr L (d+1) kv:=by
 have sz:=h.sz;obtain ⟨ka,kc,bk,Y,ok,fk⟩:=h.row.owL;obtain ⟨ra,rc,R,or,U⟩:=h.rol;subst Y;subst R;have a4:=h.row.len;have H:SepK 0 wr Ls:=⟨h.nd,h.fr,fun _ _=>Nat.zero_le _⟩
 have E:cs.length=0∨∀ x∈Ls.flatten,bk≠x.1.block:=by
  rcases fk with h0 | ⟨h0,_⟩
  · exact .inl h0
  exact .inr (fun x hx e=>h.row.off x hx (by rw [h0,e]))
 have mK:∀ x∈leafK bk 0 (fun i=>Ls.getD i []) cs.length,(x.1.block=bk∧B≤bk∧bk<wr.heap.size∨x∈Ls.flatten)∧wr.frozen? x.1=false:=by
  intro x hx;obtain ⟨i,hi,hx⟩:=mem_leafK.1 hx;rcases fk with h0 | ⟨h0,q1,q2,q3⟩
  · omega
  rcases hx with rfl | hx
  · exact ⟨.inl ⟨rfl,q1,q2⟩,q3 _⟩
  exact ⟨.inr (getD_mem_flatten hx),h.fr x (getD_mem_flatten hx)⟩
 have A:=F.disj h.us hT (Nat.le_refl i0) (Nat.le_refl B) O I;have T:∀ x∈leafB br 0 role.length,x.1.block<B:=F.lt hT (by omega);refine ⟨_,⟨⟨none,0,0,ra,role.length,rc,ka,cs.length,kc,0,0,br,0,bk,0,_,rfl,⟨rfl,⟨by simp,by omega⟩,by intro i;simp [CN.name],.inl rfl⟩,or,ok,rfl⟩,?_,?_,?_⟩,?_⟩
 · rw [List.map_append,List.map_append];have e0:leafB 0 0 0=[]:=rfl;rw [e0,List.map_nil,List.nil_append,List.nodup_append];refine ⟨leafB_nodup _ _ _,?_,?_⟩
   · rcases E with h0 | h0
     · rw [h0];simp [leafK]
     exact leafK_nodup H h0 _ (by omega)
   intro p hp q hq e;subst e;simp only [List.mem_map] at hp hq;obtain ⟨x,hx,rfl⟩:=hp;obtain ⟨y,hy,e⟩:=hq;rcases (mK y hy).1 with ⟨e1,e2,_⟩ | hy
   · have:=T x hx;rw [e] at e1;omega
   exact A x hx y hy (by rw [e])
 · intro x hx;have e0:leafB 0 0 0=[]:=rfl;rw [e0,List.nil_append,List.mem_append] at hx;rcases hx with hx | hx
   · obtain ⟨j,hj,rfl⟩:=mem_leafB.1 hx;exact U (fun e=>by rw [e] at hj;simp at hj) _ (by omega)
   exact (mK x hx).2
 · intro x hx;have e0:leafB 0 0 0=[]:=rfl;rw [e0,List.nil_append,List.mem_append] at hx;rcases hx with hx | hx
   · exact (F.mono (Nat.le_refl _) a0 (Nat.le_refl _) sz) x hx
   rcases (mK x hx).1 with ⟨e1,e2,e3⟩ | hx
   · exact .inl ⟨by omega,by omega⟩
   exact (h.us.mono a2 (Nat.le_refl _) I (Nat.le_refl _)) x hx
 have J:∀ i,cs.length≤i→Ls.getD i []=[]:=fun i hi=>by simp [List.getD,List.getElem?_eq_none (by omega:Ls.length≤i)]
 have e0:leafB 0 0 0=[]:=rfl
 have a1:∀ x∈Ls.flatten,x∈leafB 0 0 0++(leafB br 0 role.length++leafK bk 0 (fun i=>Ls.getD i []) cs.length):=by
  intro x hx;obtain ⟨l,hl,N⟩:=List.mem_flatten.1 hx;obtain ⟨q,hq,rfl⟩:=List.getElem_of_mem hl;refine List.mem_append.2 (.inr (List.mem_append.2 (.inr (mem_leafK.2 ⟨q,by omega,.inr ?_⟩))));simpa [List.getD,hq] using N
 refine ⟨cs.length,xs,?_,fun g hg=>?_,fun q u hu=>(hW q u hu).mono a1 (fun x hx=>?_)⟩
 · refine ⟨h.row.row.1,?_⟩;rcases h.row.row.2 with q | ⟨g,G,cur,e,hg,r⟩
   · exact .inl q
   exact .inr ⟨g,G,cur,e,Nat.zero_le _,r⟩
 · rcases fk with h0 | ⟨h0,q1,q2,q3⟩
   · exfalso;rw [hz h0] at hg;simp [Value.ownBlock] at hg
   rw [h0] at hg;simp only [Option.some.injEq] at hg;subst hg;refine ⟨List.mem_append.2 (.inr (List.mem_append.2 (.inr (mem_leafK.2 ⟨0,Nat.pos_of_ne_zero (fun e=>by rw [hz e] at h0;simp [Value.ownBlock] at h0),.inl rfl⟩)))),fun x hx e=>?_⟩;rw [e0,List.nil_append,List.mem_append] at hx;rcases hx with hx | hx
   · have:=V x hx;omega
   obtain ⟨i,hi,hx⟩:=mem_leafK.1 hx;rcases hx with rfl | hx
   · show 0+i*4+4≤cs.length*4;omega
   exact absurd (h0.trans (by rw [← e])) (h.row.off x (getD_mem_flatten hx))
 rw [e0,List.nil_append,List.mem_append] at hx;rcases hx with hx | hx
 · exact .inr (fun y hy=>A x hx y hy)
 obtain ⟨i,hi,hx⟩:=mem_leafK.1 hx;rcases hx with rfl | hx
 · refine .inr (fun y hy e=>?_);rcases E with h0 | h0
   · omega
   exact h0 y hy e
 exact .inl (getD_mem_flatten hx)
theorem tkm_nil (pb:Nat) (w:World):TkM 0 pb w 0 [] [] :=
 ⟨.inl rfl,fun i hi=>absurd hi (by simp),fun i hi=>absurd hi (by simp),fun i hi=>absurd hi (by simp),fun i j _ hj=>absurd hj (by simp)⟩
theorem InvW.bt {pb B ob d:Nat} {k:Int} {rv:Value} {role:List Int} {br:Nat} {w wr w':World} {kv:Value} {cs:List CN} {Ls:List (List (Addr × IntKind))} {xs:List Value} (hV:InvW wr Ls.flatten d xs)
    (h:InvR pb [] [] 0 w B ob d k rv role br wr kv cs Ls xs 0) (hS:StatR pb w B ob br role) (hb:Bt pb wr.heap.size wr w'):InvW w' Ls.flatten d xs:=by
 have o0:=hS.o0;have o1:=hS.o1;have p:=hS.p;exact hV.keep (fun x hx=>hb.block _ (h.row.lt x hx) (h.us.ne (tkm_nil pb w) (Nat.le_refl _) (by omega) x hx))
theorem InvW.step {pb B ob d:Nat} {k:Int} {rv:Value} {role:List Int} {br:Nat} {w W w6:World} {kv:Value} {cs:List CN} {Ls:List (List (Addr × IntKind))} {xs:List Value} {c:CN} {L:List (Addr × IntKind)} {v0 v1 v2 v3:Value} {Bk:Nat}
    (hV:InvW W Ls.flatten d xs) (hS:StatR pb w B ob br role) (h:InvR pb [] [] 0 w B ob d k rv role br W kv cs Ls xs 0) (a3:B≤Bk) (hu:Use [] [] 0 0 B Bk Ls.flatten) (Z:∀ g,kv.ownBlock=some g→g<Bk)
    (hc:OwnR [] [] 0 0 Bk W d (.agg #[v0,v1,v2,v3]) c L) (hW:Wh W L d v3) (D:W.grownBy w6 kv.ownBlock) (u:Value):InvW (w6.setCell ⟨ob,3,none⟩ u) (Ls++[L]).flatten d (xs++[v0,v1,v2,v3]):=by
 have o0:=hS.o0;have o1:=hS.o1;have p:=hS.p;have sz:=h.sz;have J:=hc.us.lt (tkm_nil pb w) (by omega);have A:=hu.disj hc.us (tkm_nil pb w) (Nat.le_refl 0) (Nat.le_refl Bk) (by omega) a3;have hf:(Ls++[L]).flatten=Ls.flatten++L:=by simp
 refine (InvW.app hV hW h.row.row.1 A).keep (fun x hx=>?_);rw [hf] at hx;rcases List.mem_append.1 hx with hx | hx
 · have X:=h.us.ne (tkm_nil pb w) (o:=ob) (by omega) o1 x hx;rw [Below.heap_setCell _ _ _ _ X];exact D.block _ (h.row.lt x hx) (fun e=>h.row.off x hx e.symm)
 have a5:Bk≤x.1.block:=by
  rcases hc.us x hx with ⟨a,_⟩ | ⟨t,_,_,q,_⟩
  · exact a
  simp at q
 rw [Below.heap_setCell _ _ _ _ (by show x.1.block≠ob;omega)];exact D.block _ (J x hx) (fun e=>by have:=Z _ e.symm;omega)
end

section
open Go.RowKit
theorem OwS.keep {w w':World} {d b o:Nat} {c:CN} {L:List (Addr × IntKind)} (h:OwS w d b o c L) (hb:w'.heap[b]?=w.heap[b]?) (hk:∀ x∈L,w'.heap[x.1.block]?=w.heap[x.1.block]?):OwS w' d b o c L:=by
 obtain ⟨v0,v1,v2,v3,c0,c1,c2,c3,hr⟩:=h;exact ⟨v0,v1,v2,v3,(World.cell?_of_block (w:=w) (by exact hb)).trans c0,(World.cell?_of_block (w:=w) (by exact hb)).trans c1,(World.cell?_of_block (w:=w) (by exact hb)).trans c2,(World.cell?_of_block (w:=w) (by exact hb)).trans c3,hr.keep hk⟩
theorem OwS.kid {w:World} {d b o:Nat} {c:CN} {L:List (Addr × IntKind)} (hw:OwS w d b o c L) {bk ok kn kc j:Nat} (h1:w.cell? ⟨b,o+3,none⟩=some (.slice (some ⟨bk,ok,none⟩) kn kc)) (h2:j<kn) :
    ∃ e L',d=e+1∧kn=c.kids.length∧OwS w e bk (ok+j*4) (c.kids.getD j CN.zero) L'∧((⟨bk,ok+j*4,none⟩,.i64):Addr × IntKind)∈L∧(∀ x∈L',x∈L)∧((L.map (·.1)).Nodup→(L'.map (·.1)).Nodup∧(⟨bk,ok+j*4,none⟩:Addr) ∉ L'.map (·.1)):=by
 obtain ⟨v0,v1,v2,v3,c0,c1,c2,c3,hr⟩:=hw;cases d with
 | zero=>exact hr.elim
 | succ d =>
  obtain ⟨na,nn,nc,ra,rn,rc,ka,kn',kc',bn,on,br,or,bk',ok',Ls,hv,q1,q2,q3,rfl⟩:=hr;simp only [Value.agg.injEq,Array.mk.injEq,List.cons.injEq,and_true] at hv;obtain ⟨rfl,rfl,rfl,rfl⟩:=hv;rw [h1] at c3;simp only [Option.some.injEq,Value.slice.injEq] at c3;obtain ⟨e1,rfl,rfl⟩:=c3;rcases q3.cells with q | ⟨e2,q⟩
  · omega
  rw [← e1] at e2;simp only [Option.some.injEq,Addr.mk.injEq,and_true] at e2;obtain ⟨rfl,rfl⟩:=e2;refine ⟨d,Ls j,rfl,q3.len.symm,q j h2,?_,fun x hx=>?_,fun E=>?_⟩
  · simp only [List.mem_append];exact .inr (.inr (mem_leafK.2 ⟨j,h2,.inl rfl⟩))
  · simp only [List.mem_append];exact .inr (.inr (mem_leafK.2 ⟨j,h2,.inr hx⟩))
  rw [List.map_append,List.map_append] at E;exact (leafK_apart (List.nodup_append.1 (List.nodup_append.1 E).2.1).2.1).1 j h2
theorem Path.keep {w w':World} {b o b' o':Nat} (h:Path w b o b' o'):∀ {d:Nat} {c:CN} {L:List (Addr × IntKind)},OwS w d b o c L→w'.heap[b]?=w.heap[b]?→(∀ x∈L,w'.heap[x.1.block]?=w.heap[x.1.block]?)→Path w' b o b' o':=by
 induction h with
 | here b o=>intro d c L _ _ _;exact .here b o
 | @kid b o bk ok kn kc j b' o' h1 h2 _ ih =>
  intro d c L hw hb hk;obtain ⟨e,L',_,_,hs,hm,A,_⟩:=hw.kid h1 h2;exact .kid ((World.cell?_of_block (w:=w) (by exact hb)).trans h1) h2 (ih hs (hk _ hm) (fun x hx=>hk x (A x hx)))
structure Bent (w:World) (X D:Nat) (c:CN) (L:List (Addr × IntKind)) (b o d:Nat) (c':CN) (L':List (Addr × IntKind)):Prop where
 own:OwS w D X 0 c L
 nd:(L.map (·.1)).Nodup
 nm:∀ x∈L,x.1.block≠X
 path:Path w X 0 b o
 sub:OwS w d b o c' L'
 sin:∀ x∈L',x∈L
 snd:(L'.map (·.1)).Nodup
 snm:(⟨b,o,none⟩:Addr) ∉ L'.map (·.1)
 at_:b=X∨((⟨b,o,none⟩,.i64):Addr × IntKind)∈L
 wh:∀ u,w.cell? ⟨b,o+3,none⟩=some u→Wh w L d u
 bulk:c'.bulk≤c.bulk
theorem Bent.keep {w w':World} {X D:Nat} {c:CN} {L:List (Addr × IntKind)} {b o d:Nat} {c':CN} {L':List (Addr × IntKind)} (h:Bent w X D c L b o d c' L') (hX:w'.heap[X]?=w.heap[X]?) (hk:∀ x∈L,w'.heap[x.1.block]?=w.heap[x.1.block]?):Bent w' X D c L b o d c' L':=by
 have hb:w'.heap[b]?=w.heap[b]?:=by
  rcases h.at_ with e | e
  · rw [e];exact hX
  exact hk _ e
 exact ⟨h.own.keep hX hk,h.nd,h.nm,h.path.keep h.own hX hk,h.sub.keep hb (fun x hx=>hk x (h.sin x hx)),h.sin,h.snd,h.snm,h.at_,fun u hu=>(h.wh u (by rw [← hu];exact (World.cell?_of_block (w:=w) (by exact hb)).symm)).keep hk,h.bulk⟩
theorem Bent.step {w:World} {X D:Nat} {c:CN} {L:List (Addr × IntKind)} {b o d:Nat} {c':CN} {L':List (Addr × IntKind)} (h:Bent w X D c L b o d c' L') {bk ok kn kc j:Nat} (h1:w.cell? ⟨b,o+3,none⟩=some (.slice (some ⟨bk,ok,none⟩) kn kc)) (h2:j<kn) :
    ∃ e L'',d=e+1∧kn=c'.kids.length∧Bent w X D c L bk (ok+j*4) e (c'.kids.getD j CN.zero) L'':=by
 obtain ⟨e,L'',rfl,hl,hs,hm,A,E⟩:=h.sub.kid h1 h2;obtain ⟨n1,n2⟩:=E h.snd;refine ⟨e,L'',rfl,hl,h.own,h.nd,h.nm,h.path.snoc h1 h2,hs,fun x hx=>h.sin x (A x hx),n1,n2,.inr (h.sin _ hm),fun u hu=>?_,?_⟩
 · obtain ⟨n,xs,q1,q2,q3⟩:=h.wh _ h1
   have F:ok=0∧n=kn:=by
    rcases q1.2 with ⟨q,_⟩ | ⟨g,G,cur,q,_⟩
    · simp at q
    simp only [Value.slice.injEq,Option.some.injEq,Addr.mk.injEq,and_true] at q;exact ⟨q.1.2,q.2.1.symm⟩
   obtain ⟨rfl,rfl⟩:=F;refine q3 j u ?_;rw [← hu,Nat.zero_add];have hw:w.ownsRow 0 30 4 (.slice (some ⟨bk,0,none⟩) n kc) n xs:=q1;exact (hw.cellAt (j*4+3) (by omega)).symm
 have hb:=h.bulk;have:=getD_bulk_le c'.kids j (by omega);have:=c'.bulk_eq;omega
theorem least_of {P:Nat→Prop}:∀ {n:Nat},P n→∃ k,P k∧∀ m,P m→k≤m:=by
 intro n
 induction n using Nat.strongRecOn with
 | _ n ih =>
  intro h;by_cases hq:∃ m,m<n∧P m
  · obtain ⟨m,hm,hp⟩:=hq;exact ih m hm hp
  exact ⟨n,h,fun m hm=>Nat.le_of_not_lt (fun hl=>hq ⟨m,hl,hm⟩)⟩
open Classical in
noncomputable def dmin (P:Nat→Prop):Nat:=if h:∃ k,P k∧∀ m,P m→k≤m then Classical.choose h else 0
theorem dmin_spec {P:Nat→Prop} {n:Nat} (h:P n):P (dmin P)∧dmin P≤n:=by
 have hl:=least_of h;unfold dmin;rw [dif_pos hl];exact ⟨(Classical.choose_spec hl).1,(Classical.choose_spec hl).2 n h⟩
noncomputable def dep (X D:Nat) (c:CN) (L:List (Addr × IntKind)) (w:World) (v:Value):Nat:=dmin (fun d=>∃ b o c' L',v=.pointer (some ⟨b,o,none⟩)∧Bent w X D c L b o d c' L')
theorem dep_spec {X D:Nat} {c:CN} {L:List (Addr × IntKind)} {w:World} {b o d:Nat} {c':CN} {L':List (Addr × IntKind)} (h:Bent w X D c L b o d c' L') :
    (∃ c' L',Bent w X D c L b o (dep X D c L w (.pointer (some ⟨b,o,none⟩))) c' L')∧dep X D c L w (.pointer (some ⟨b,o,none⟩))≤d:=by
 have:=dmin_spec (P:=fun d=>∃ b' o' c' L',Value.pointer (some ⟨b,o,none⟩)=.pointer (some ⟨b',o',none⟩)∧Bent w X D c L b' o' d c' L') ⟨b,o,c',L',rfl,h⟩;obtain ⟨⟨b',o',c1,L1,e,hB⟩,h2⟩:=this;simp only [Value.pointer.injEq,Option.some.injEq,Addr.mk.injEq,and_true] at e;obtain ⟨rfl,rfl⟩:=e;exact ⟨⟨c1,L1,hB⟩,h2⟩
end

end Go.Proofs.YtnmljalcndfjmaaGreat
