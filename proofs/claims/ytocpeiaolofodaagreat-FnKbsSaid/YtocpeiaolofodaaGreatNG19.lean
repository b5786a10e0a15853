/- Several texts in one: BentMem, ReadI3. -/
import Derived.Test.YtocpeiaolofodaaGreatNG18
import Derived.Test.YtocpeiaolofodaaGreatReadI2
namespace Go.Proofs.YtocpeiaolofodaaGreat

section
open Go.RowKit
structure Slot (w:World) (b o:Nat):Prop where
 k:∃ n,w.cell? ⟨b,o,none⟩=some (.int .i64 n)
 s1:∃ a n c,w.cell? ⟨b,o+1,none⟩=some (.slice a n c)
 s2:∃ a n c,w.cell? ⟨b,o+2,none⟩=some (.slice a n c)
 s3:∃ a n c,w.cell? ⟨b,o+3,none⟩=some (.slice a n c)
def OffS (w W:World) (b o:Nat):Prop:=∀ q r:Nat,(q≠b∨r<o∨o+4≤r)→(∃ v,w.cell? ⟨q,r,none⟩=some v)→W.cell? ⟨q,r,none⟩=w.cell? ⟨q,r,none⟩
theorem Slot.apart {w:World} {b o o':Nat} (h:Slot w b o) (k:Slot w b o') (E:o'≠o):o'+4≤o∨o+4≤o':=by
 apply Classical.byContradiction;intro hn;obtain ⟨⟨n,h0⟩,⟨_,_,_,h1⟩,⟨_,_,_,h2⟩,⟨_,_,_,h3⟩⟩:=h;obtain ⟨⟨m,k0⟩,⟨_,_,_,k1⟩,⟨_,_,_,k2⟩,⟨_,_,_,k3⟩⟩:=k;have:o'=o+1∨o'=o+2∨o'=o+3∨o=o'+1∨o=o'+2∨o=o'+3:=by omega
 rcases this with e | e | e | e | e | e <;> subst e
 · rw [h1] at k0;simp at k0
 · rw [h2] at k0;simp at k0
 · rw [h3] at k0;simp at k0
 · rw [k1] at h0;simp at h0
 · rw [k2] at h0;simp at h0
 rw [k3] at h0;simp at h0
theorem OffS.byte {w W:World} {b o q r:Nat} {z:Int} (h:OffS w W b o) (hS:Slot w b o) (hc:w.cell? ⟨q,r,none⟩=some (.int .u8 z)):W.cell? ⟨q,r,none⟩=some (.int .u8 z):=by
 rw [h q r ?_ ⟨_,hc⟩]
 · exact hc
 apply Classical.byContradiction;intro hn;obtain ⟨⟨n,h0⟩,⟨_,_,_,h1⟩,⟨_,_,_,h2⟩,⟨_,_,_,h3⟩⟩:=hS;have e:q=b∧(r=o∨r=o+1∨r=o+2∨r=o+3):=by omega
 obtain ⟨rfl,e⟩:=e;rcases e with e | e | e | e <;> subst e
 · rw [hc] at h0;simp at h0
 · rw [hc] at h1;simp at h1
 · rw [hc] at h2;simp at h2
 rw [hc] at h3;simp at h3
theorem OffS.slot {w W:World} {b o q r i:Nat} (h:OffS w W b o) (hS:Slot w b o) (hq:Slot w q r) (E:q≠b∨r≠o) (hi:i<4) (hv:∃ v,w.cell? ⟨q,r+i,none⟩=some v):W.cell? ⟨q,r+i,none⟩=w.cell? ⟨q,r+i,none⟩:=by
 refine h q (r+i) ?_ hv;by_cases e:q=b
 · subst e;have:=hS.apart hq (by omega);omega
 exact .inl e
theorem OwB.off {w W:World} {b o:Nat} {a:Option Addr} {n U:Nat} {zs:List Int} {bb off:Nat} (h:OwB w a n U zs bb off) (hO:OffS w W b o) (hS:Slot w b o):OwB W a n U zs bb off:=by
 obtain ⟨h1,h2,h3,h4⟩:=h;refine ⟨h1,h2,h3,?_⟩;rcases h4 with h4 | ⟨e,h4⟩
 · exact .inl h4
 exact .inr ⟨e,fun i hi=>hO.byte hS (h4 i hi)⟩
theorem slot_of {w:World} {d b o:Nat} {v0 v1 v2 v3:Value} {c:CN} {L:List (Addr × IntKind)} (hr:OwC w d (.agg #[v0,v1,v2,v3]) c L) (c0:w.cell? ⟨b,o,none⟩=some v0) (c1:w.cell? ⟨b,o+1,none⟩=some v1) (c2:w.cell? ⟨b,o+2,none⟩=some v2) (c3:w.cell? ⟨b,o+3,none⟩=some v3):Slot w b o:=by
 obtain ⟨rfl,⟨_,_,_,rfl⟩,⟨_,_,_,rfl⟩,⟨_,_,_,rfl⟩⟩:=hr.form;exact ⟨⟨_,c0⟩,⟨_,_,_,c1⟩,⟨_,_,_,c2⟩,⟨_,_,_,c3⟩⟩
theorem OwC.off {w W:World} {b o:Nat} (hO:OffS w W b o) (hS:Slot w b o):∀ {d:Nat} {v:Value} {c:CN} {L:List (Addr × IntKind)},OwC w d v c L→(∀ x∈L,x.1≠⟨b,o,none⟩)→OwC W d v c L:=by
 intro d
 induction d with
 | zero=>intro v c L h _;exact h
 | succ d ih =>
  intro v c L h hk;obtain ⟨na,nn,nc,ra,rn,rc,ka,kn,kc,bn,on,br,or,bk,ok,Ls,hv,h1,h2,h3,rfl⟩:=h;refine ⟨na,nn,nc,ra,rn,rc,ka,kn,kc,bn,on,br,or,bk,ok,Ls,hv,h1.off hO hS,h2.off hO hS,?_,rfl⟩;obtain ⟨g1,g2,g3⟩:=h3;refine ⟨g1,g2,?_⟩;rcases g3 with g3 | ⟨e,g3⟩
  · exact .inl g3
  refine .inr ⟨e,fun i hi=>?_⟩;obtain ⟨v0,v1,v2,v3,c0,c1,c2,c3,hr⟩:=g3 i hi;have hq:=slot_of hr c0 c1 c2 c3
  have E:bk≠b∨ok+i*4≠o:=by
   have:=hk (⟨bk,ok+i*4,none⟩,.i64) (by simp only [List.mem_append];exact .inr (.inr (mem_leafK.2 ⟨i,hi,.inl rfl⟩)));apply Classical.byContradiction;intro hn
   exact this (by have e:bk=b∧ok+i*4=o:=by omega
                  rw [e.1,e.2])
  refine ⟨v0,v1,v2,v3,?_,?_,?_,?_,ih hr (fun x hx=>hk x (by simp only [List.mem_append];exact .inr (.inr (mem_leafK.2 ⟨i,hi,.inr hx⟩))))⟩
  · exact (hO.slot (i:=0) hS hq E (by omega) ⟨_,c0⟩).trans c0
  · exact (hO.slot (i:=1) hS hq E (by omega) ⟨_,c1⟩).trans c1
  · exact (hO.slot (i:=2) hS hq E (by omega) ⟨_,c2⟩).trans c2
  exact (hO.slot (i:=3) hS hq E (by omega) ⟨_,c3⟩).trans c3
def OwS (w:World) (d b o:Nat) (c:CN) (L:List (Addr × IntKind)):Prop:=∃ v0 v1 v2 v3,w.cell? ⟨b,o,none⟩=some v0∧w.cell? ⟨b,o+1,none⟩=some v1∧w.cell? ⟨b,o+2,none⟩=some v2∧w.cell? ⟨b,o+3,none⟩=some v3∧OwC w d (.agg #[v0,v1,v2,v3]) c L
def RdS (lo hi:Nat) (w:World) (d b o:Nat) (c:CN):Prop:=∃ v0 v1 v2 v3,w.cell? ⟨b,o,none⟩=some v0∧w.cell? ⟨b,o+1,none⟩=some v1∧w.cell? ⟨b,o+2,none⟩=some v2∧w.cell? ⟨b,o+3,none⟩=some v3∧RdC lo hi w d (.agg #[v0,v1,v2,v3]) c
theorem RdC.higher {lo hi d D:Nat} {w:World} {v:Value} {c:CN} (h:RdC lo hi w d v c) (hd:d≤D):RdC lo hi w D v c:=by
 obtain ⟨L,h1,h2⟩:=h.ow;exact (h1.lift hd).rd h2
theorem RdS.higher {lo hi d D b o:Nat} {w:World} {c:CN} (h:RdS lo hi w d b o c) (hd:d≤D):RdS lo hi w D b o c:=by
 obtain ⟨v0,v1,v2,v3,c0,c1,c2,c3,hr⟩:=h;exact ⟨v0,v1,v2,v3,c0,c1,c2,c3,hr.higher hd⟩
inductive Path (w:World):Nat→Nat→Nat→Nat→Prop
 | here (b o:Nat):Path w b o b o
 | kid {b o bk ok kn kc j b' o':Nat}:w.cell? ⟨b,o+3,none⟩=some (.slice (some ⟨bk,ok,none⟩) kn kc)→j<kn→Path w bk (ok+j*4) b' o'→Path w b o b' o'
theorem Path.snoc {w:World} {b o b' o':Nat} (h:Path w b o b' o') {bk ok kn kc j:Nat} (hc:w.cell? ⟨b',o'+3,none⟩=some (.slice (some ⟨bk,ok,none⟩) kn kc)) (hj:j<kn):Path w b o bk (ok+j*4):=by
 induction h with
 | here b o=>exact .kid hc hj (.here _ _)
 | kid h1 h2 _ ih=>exact .kid h1 h2 (ih hc)
theorem bulks_set:∀ (cs:List CN) (j:Nat) (x:CN),j<cs.length→bulks (cs.set j x)+(cs.getD j CN.zero).bulk=bulks cs+x.bulk
 | [],j,x,h=>absurd h (by simp)
 | c :: cs,0,x,_=>by simp only [List.set,bulks,List.getD_cons_zero];omega
 | c :: cs,j+1,x,h=>by
  have:=bulks_set cs j x (by simpa using h);simp only [List.set,bulks,List.getD_cons_succ];omega
theorem leafK_apart {bk ok:Nat} {Ls:Nat→List (Addr × IntKind)} {n:Nat} (h:((leafK bk ok Ls n).map (·.1)).Nodup) :
    (∀ j,j<n→((Ls j).map (·.1)).Nodup∧(⟨bk,ok+j*4,none⟩:Addr) ∉ (Ls j).map (·.1)) ∧
    (∀ i j,i<n→j<n→i≠j→∀ p,(p=(⟨bk,ok+j*4,none⟩:Addr)∨p∈(Ls j).map (·.1))→p≠⟨bk,ok+i*4,none⟩∧p ∉ (Ls i).map (·.1)):=by
 have e:(leafK bk ok Ls n).map (·.1)=(List.range n).flatMap (fun i=>(⟨bk,ok+i*4,none⟩:Addr) :: (Ls i).map (·.1)):=by
  rw [leafK,List.map_flatMap];rfl
 rw [e,List.Nodup,List.pairwise_flatMap] at h;obtain ⟨h1,h2⟩:=h;refine ⟨fun j hj=>?_,fun i j hi hj E p hp=>?_⟩
 · have:=h1 j (List.mem_range.2 hj);rw [List.pairwise_cons] at this;exact ⟨this.2,fun hm=>this.1 _ hm rfl⟩
 have h3:∀ a b,a<b→b<n→∀ x∈(⟨bk,ok+a*4,none⟩:Addr) :: (Ls a).map (·.1),∀ y∈(⟨bk,ok+b*4,none⟩:Addr) :: (Ls b).map (·.1),x≠y:=by
  intro a b Y hb;have:=List.pairwise_iff_getElem.1 h2 a b (by simp;omega) (by simpa using hb) Y;simpa using this
 have H:p∈(⟨bk,ok+j*4,none⟩:Addr) :: (Ls j).map (·.1):=List.mem_cons.2 hp;rcases Nat.lt_or_gt_of_ne E with q | q
 · exact ⟨fun e=>h3 i j q hj _ (List.mem_cons.2 (.inl rfl)) p H e.symm,fun e=>h3 i j q hj p (List.mem_cons.2 (.inr e)) p H rfl⟩
 exact ⟨fun e=>h3 j i q hi p H _ (List.mem_cons.2 (.inl rfl)) e,fun e=>h3 j i q hi p H p (List.mem_cons.2 (.inr e)) rfl⟩
theorem Path.mem {w:World} {b o b' o':Nat} (h:Path w b o b' o'):∀ {d:Nat} {c:CN} {L:List (Addr × IntKind)},OwS w d b o c L→(⟨b',o',none⟩:Addr)=⟨b,o,none⟩∨(⟨b',o',none⟩:Addr)∈L.map (·.1):=by
 induction h with
 | here b o=>intro d c L _;exact .inl rfl
 | @kid b o bk ok kn kc j b' o' h1 h2 _ ih =>
  intro d c L hw;obtain ⟨v0,v1,v2,v3,c0,c1,c2,c3,hr⟩:=hw;cases d with
  | zero=>exact hr.elim
  | succ d =>
   obtain ⟨na,nn,nc,ra,rn,rc,ka,kn',kc',bn,on,br,or,bk',ok',Ls,hv,q1,q2,q3,rfl⟩:=hr;simp only [Value.agg.injEq,Array.mk.injEq,List.cons.injEq,and_true] at hv;obtain ⟨rfl,rfl,rfl,rfl⟩:=hv;rw [h1] at c3;simp only [Option.some.injEq,Value.slice.injEq] at c3;obtain ⟨e1,rfl,rfl⟩:=c3;rcases q3.cells with q | ⟨e2,q⟩
   · omega
   rw [← e1] at e2;simp only [Option.some.injEq,Addr.mk.injEq,and_true] at e2;obtain ⟨rfl,rfl⟩:=e2;have:=ih (q j h2);refine .inr ?_;simp only [List.map_append,List.mem_append];refine .inr (.inr ?_);rcases this with e | e
   · rw [e];exact List.mem_map.2 ⟨_,mem_leafK.2 ⟨j,h2,.inl rfl⟩,rfl⟩
   obtain ⟨x,hx,ex⟩:=List.mem_map.1 e;exact List.mem_map.2 ⟨x,mem_leafK.2 ⟨j,h2,.inr hx⟩,ex⟩
theorem Path.put {w W:World} {b o b' o':Nat} (h:Path w b o b' o') {lo hi D:Nat} {c':CN} (hR:RdS lo hi W D b' o' c') (hO:OffS w W b' o') (hS:Slot w b' o') :
    ∀ {d:Nat} {c:CN} {L:List (Addr × IntKind)},OwS w d b o c L→(L.map (·.1)).Nodup→(⟨b,o,none⟩:Addr) ∉ L.map (·.1)→(∀ x∈L,lo≤x.1.block∧x.1.block<hi) →
     ∃ c'',RdS lo hi W (d+D) b o c''∧c''.bulk≤c.bulk+c'.bulk:=by
 induction h with
 | here b o=>intro d c L _ _ _ _;exact ⟨c',hR.higher (by omega),by omega⟩
 | @kid b o bk ok kn kc j b' o' h1 h2 hp ih =>
  intro d c L hw N X J;have a1:=hw;have Z:=(Path.kid h1 h2 hp).mem hw;obtain ⟨v0,v1,v2,v3,c0,c1,c2,c3,hr⟩:=hw;have hq:=slot_of hr c0 c1 c2 c3;cases d with
  | zero=>exact hr.elim
  | succ d =>
   obtain ⟨na,nn,nc,ra,rn,rc,ka,kn',kc',bn,on,br,or,bk',ok',Ls,hv,q1,q2,q3,rfl⟩:=hr;simp only [Value.agg.injEq,Array.mk.injEq,List.cons.injEq,and_true] at hv;obtain ⟨rfl,rfl,rfl,rfl⟩:=hv;rw [h1] at c3;simp only [Option.some.injEq,Value.slice.injEq] at c3;obtain ⟨e1,rfl,rfl⟩:=c3;rcases q3.cells with q | ⟨e2,q⟩
   · omega
   rw [← e1] at e2;simp only [Option.some.injEq,Addr.mk.injEq,and_true] at e2;obtain ⟨rfl,rfl⟩:=e2
   have hK:((leafK bk ok Ls kn).map (·.1)).Nodup:=by
    rw [List.map_append,List.map_append] at N;exact (List.nodup_append.1 (List.nodup_append.1 N).2.1).2.1
   obtain ⟨k1,k2⟩:=leafK_apart hK;have I:∀ x∈leafK bk ok Ls kn,lo≤x.1.block∧x.1.block<hi:=fun x hx=>J x (by simp only [List.mem_append];exact .inr (.inr hx))
   have O:(⟨b',o',none⟩:Addr)=⟨bk,ok+j*4,none⟩∨(⟨b',o',none⟩:Addr)∈(Ls j).map (·.1):=hp.mem (q j h2)
   have E:b≠b'∨o≠o':=by
    apply Classical.byContradiction;intro hn;have e:b=b'∧o=o':=by omega
    apply X;rw [e.1,e.2];simp only [List.map_append,List.mem_append];refine .inr (.inr ?_);rcases O with e | e
    · rw [e];exact List.mem_map.2 ⟨_,mem_leafK.2 ⟨j,h2,.inl rfl⟩,rfl⟩
    obtain ⟨x,hx,ex⟩:=List.mem_map.1 e;exact List.mem_map.2 ⟨x,mem_leafK.2 ⟨j,h2,.inr hx⟩,ex⟩
   obtain ⟨y,hy,a0⟩:=ih hR hO hS (q j h2) (k1 j h2).1 (k1 j h2).2 (fun x hx=>I x (mem_leafK.2 ⟨j,h2,.inr hx⟩));have hl:=q3.len;refine ⟨.mk c.kind c.name c.role (c.kids.set j y),⟨_,_,_,_,(hO.slot (i:=0) hS hq E (by omega) ⟨_,c0⟩).trans c0,(hO.slot (i:=1) hS hq E (by omega) ⟨_,c1⟩).trans c1,(hO.slot (i:=2) hS hq E (by omega) ⟨_,c2⟩).trans c2,(hO.slot (i:=3) hS hq E (by omega) ⟨_,h1⟩).trans h1,?_⟩,?_⟩
   · rw [Nat.succ_add];refine ⟨_,_,_,_,_,_,_,_,_,rfl,(q1.off hO hS).rd (fun x hx=>J x (by simp [hx])),(q2.off hO hS).rd (fun x hx=>J x (by simp [hx])),⟨by show (c.kids.set j y).length=kn;rw [List.length_set,hl],q3.fits,.inr ⟨bk,ok,rfl,?_,?_,fun i hi=>?_⟩⟩⟩
     · exact (I _ (mem_leafK.2 ⟨j,h2,.inl rfl⟩)).1
     · exact (I _ (mem_leafK.2 ⟨j,h2,.inl rfl⟩)).2
     by_cases hij:i=j
     · subst hij
       have e:(CN.mk c.kind c.name c.role (c.kids.set i y)).kids.getD i CN.zero=y:=by
        show (c.kids.set i y).getD i CN.zero=y
        rw [List.getD,List.getElem?_set_self (by omega)];rfl
       rw [e];exact hy
     have e:(CN.mk c.kind c.name c.role (c.kids.set j y)).kids.getD i CN.zero=c.kids.getD i CN.zero:=by
      show (c.kids.set j y).getD i CN.zero=c.kids.getD i CN.zero
      rw [List.getD,List.getElem?_set_ne (fun h=>hij h.symm)];rfl
     rw [e];obtain ⟨u0,u1,u2,u3,d0,d1,d2,d3,hs⟩:=q i hi;have G:=slot_of hs d0 d1 d2 d3;have T:=k2 i j hi h2 hij _ O
     have F:bk≠b'∨ok+i*4≠o':=by
      apply Classical.byContradiction;intro hn;have e:bk=b'∧ok+i*4=o':=by omega
      exact T.1 (by rw [e.1,e.2])
     have V:=OwC.off hO hS hs (fun x hx e=>T.2 (List.mem_map.2 ⟨x,hx,e⟩));exact ⟨u0,u1,u2,u3,(hO.slot (i:=0) hS G F (by omega) ⟨_,d0⟩).trans d0,(hO.slot (i:=1) hS G F (by omega) ⟨_,d1⟩).trans d1,(hO.slot (i:=2) hS G F (by omega) ⟨_,d2⟩).trans d2,(hO.slot (i:=3) hS G F (by omega) ⟨_,d3⟩).trans d3,(V.rd (fun x hx=>I x (mem_leafK.2 ⟨i,hi,.inr hx⟩))).higher (by omega)⟩
   have hb:=bulks_set c.kids j y (by omega);have hc:=c.bulk_eq;rw [CN.bulk];omega
end

section
open Go.RowKit
theorem kindI_range (ts:List Tok) (i:Nat):kindI ts i=0∨kindI ts i=1∨kindI ts i=2∨kindI ts i=3∨kindI ts i=4∨kindI ts i=5∨kindI ts i=6∨kindI ts i=7:=kindW_range _
theorem kidN_kind {k:Int} (h:k=0∨k=1∨k=2∨k=3∨k=4∨k=5∨k=6∨k=7):0≤kidN k∧kidN k≤2:=by
 rcases h with rfl | rfl | rfl | rfl | rfl | rfl | rfl | rfl <;> decide
theorem kidsR_bad {g:Nat→Res} {s m:Nat} {a:Int} (h:kidsR g s m=.bad a):∀ n,m≤n→kidsR g s n=.bad a:=by
 intro n
 induction n with
 | zero=>intro hm;rw [show m=0 by omega] at h;exact h
 | succ n ih =>
  intro hm;by_cases e:m=n+1
  · subst e;exact h
  rw [kidsR,ih (by omega)]
theorem kidsR_step {g:Nat→Res} {s m:Nat} {cs:List CN} {j:Nat} {c:CN} {j':Nat} (h:kidsR g s m=.ok cs j) (k:g j=.ok c j'):kidsR g s (m+1)=.ok (cs++[c]) j':=by
 rw [kidsR,h];simp only;rw [k]
theorem kidsR_fell {g:Nat→Res} {s m:Nat} {cs:List CN} {j:Nat} {a:Int} (h:kidsR g s m=.ok cs j) (k:g j=.bad a):kidsR g s (m+1)=.bad a:=by
 rw [kidsR,h];simp only;rw [k]
theorem kidsR_len {g:Nat→Res} {s:Nat}:∀ {m:Nat} {cs:List CN} {j:Nat},kidsR g s m=.ok cs j→cs.length=m:=by
 intro m
 induction m with
 | zero=>intro cs j h;simp only [kidsR,ResL.ok.injEq] at h;rw [← h.1];rfl
 | succ m ih =>
  intro cs j h;simp only [kidsR] at h;cases h1:kidsR g s m with
  | bad a=>rw [h1] at h;simp at h
  | ok cs1 j1 =>
   rw [h1] at h;simp only at h;cases h2:g j1 with
   | bad a=>rw [h2] at h;simp at h
   | ok c2 j2 =>
    rw [h2] at h;simp only [ResL.ok.injEq] at h;rw [← h.1,List.length_append,ih h1];rfl
theorem conR_kids {ts:List Tok} {en:Int} {f i:Nat} (h1:isI ts 1 i=true) (h2:kindI ts i≠2) (h3:kidN (kindI ts i)≠0) (h4:isI ts 3 (i+1)=true) (h5:roleB (kindI ts i)=false∨isI ts 2 (i+2)=true) :
    conR ts en (f+1) i=closeR ts en (kindI ts i) (roleI ts (kindI ts i) i) (kidsR (conR ts en f) (startI (kindI ts i) i) (kidN (kindI ts i)).toNat):=by
 rw [conR,if_neg (by simp [h1]),if_neg h2,if_neg h3,if_neg (by simp [h4]),if_neg];rintro ⟨a,b⟩;rcases h5 with h | h
 · rw [h] at a;cases a
 rw [h] at b;cases b
set_option maxRecDepth 100000 in
set_option maxHeartbeats 2000000 in
theorem read_open (f:Nat) (dp:Int) (aI:1≤dp) (aH:dp≤6) (base pb g i:Nat) (ts:List Tok) (gs:List (Nat × Nat)) (en:Int) (w:World) (hR:RdrAt w pb g i ts en) (hT:TkM base pb w g ts gs) (h1:isI ts 1 i=true) (h2:kindI ts i≠2) (h3:kidN (kindI ts i)≠0) (h4:isI ts 3 (i+1)=false) :
    Calls Tryz.prog 56 #[.pointer (some ⟨pb,0,none⟩),.int .i64 dp] w (RP ts gs en g pb i w (f+1) (conR ts en (f+1) i)):=by
 have HC:Hid (conR ts en (f+1) i=.bad (hereI ts en (i+1))):=by unfold Hid;rw [conR,if_neg (by simp [h1]),if_neg h2,if_neg h3,if_pos h4]
 have H2:Hid (kindI ts i≠2):=h2;have H3:Hid (kidN (kindI ts i)≠0):=h3;clear h2 h3;have aj:=hR.lt;have J:Below w.heap.size w (w.alloc (.cells #[.int .i64 0,.slice none 0 0,.slice none 0 0,.slice none 0 0] 37)):=(Below.refl _ _).alloc (Nat.le_refl _) _;have aa:Hid (Below w.heap.size w (w.alloc (.cells #[.int .i64 0,.slice none 0 0,.slice none 0 0,.slice none 0 0] 37))):=J;have ao:Hid (RdrAt (w.alloc (.cells #[.int .i64 0,.slice none 0 0,.slice none 0 0,.slice none 0 0] 37)) pb g i ts en):=hR.below J;have V:Hid (TkM base pb (w.alloc (.cells #[.int .i64 0,.slice none 0 0,.slice none 0 0,.slice none 0 0] 37)) g ts gs):=hT.below (J.mono (Nat.le_of_lt aj));have a6:Hid (BoxC (w.alloc (.cells #[.int .i64 0,.slice none 0 0,.slice none 0 0,.slice none 0 0] 37)) w.heap.size (.int .i64 0) (.slice none 0 0) (.slice none 0 0) (.slice none 0 0)):=BoxC.new w _ _ _ _;clear J hR hT;have a0:=isI_lt h1;obtain ⟨ta,tc,hx,_,_,_⟩:=V.out.word a0;obtain ⟨tn,a2⟩:∃ tn,tn=(wordI ts i).length:=⟨_,rfl⟩;have HX:Hid (txv (ts.getD i Tok.zero) (gs.getD i (0,0))=.slice ta (wordI ts i).length tc):=hx;have a7:Hid (tn=(wordI ts i).length):=a2;obtain ⟨p,hp⟩:∃ p,p=hereI ts en i:=⟨_,rfl⟩;have HP:Hid (p=hereI ts en i):=hp;obtain ⟨kd,a3⟩:∃ kd,kd=kindI ts i:=⟨_,rfl⟩;have E:Hid (kd=kindI ts i):=a3;clear hx a2 hp a3;go_enter Tryz.func56, Tryz.ntmps56;go_wp2_with fail;refine (take_ok base pb g i ts gs en 1 _ ao.out V.out h1).mono ?_;rintro e w1 ⟨rfl,a4,I⟩;rw [HX.out,← a7.out,← HP.out]
 have an:Hid (RdrAt w1 pb g (i+1) ts en):=a4;have a8:Hid (TkM base pb w1 g ts gs):=V.out.bt I (by simp;omega);have a5:Hid (BoxC w1 w.heap.size (.int .i64 0) (.slice none 0 0) (.slice none 0 0) (.slice none 0 0)):=(I.block _ a6.out.lt (by omega)).trans a6.out;have Z:Hid (Bt pb w.heap.size w w1):=(Bt.of_below aa.out).trans (I.mono aa.out.size);have ai:w.heap.size<w1.heap.size:=a5.out.lt;clear a4 I;go_wp2_with fail;obtain ⟨W1,H⟩:∃ W1,Hid (W1=w1.alloc (.cells #[.int .i64 1,.int .i64 p,.slice ta tn tc] 115)):=⟨_,rfl⟩;rw [← H.out];have U:Below w1.heap.size w1 W1:=by rw [H.out];exact (Below.refl _ _).alloc (Nat.le_refl _) _
 have a9:Hid (BoxK3 W1 w1.heap.size (.int .i64 1) (.int .i64 p) (.slice ta tn tc)):=by unfold Hid;rw [H.out];exact BoxK3.new w1 _ _ _
 have z:Hid (Rd 0 pb W1 ta tn tc (wordI ts i)):=by
  obtain ⟨a',c',T,_,hr,_⟩:=(a8.out.below (U.mono (by omega))).word a0;rw [HX.out] at T;simp only [Value.slice.injEq,true_and] at T;obtain ⟨rfl,rfl⟩:=T;unfold Hid;rw [a7.out];exact hr
 refine (conKind_any ta tn tc (wordI ts i) W1 z.out).mono ?_;rintro e w2 ⟨rfl,nd,F⟩;rw [show kindW (strOfNums (wordI ts i)).toList=kd from E.out.symm];have A:Below w1.heap.size w1 w2:=by rw [F];exact below_drewN U nd
 have aM:Hid (Below w1.heap.size w1 w2):=A;have ar:Hid (Rd 0 pb w2 ta tn tc (wordI ts i)):=by unfold Hid;rw [F];exact z.out.same (fun _ _ _=>rfl)
 have ap:Hid (BoxK3 w2 w1.heap.size (.int .i64 1) (.int .i64 p) (.slice ta tn tc)):=by unfold Hid;rw [F];exact a9.out
 have am:Hid (RdrAt w2 pb g (i+1) ts en):=an.out.below A;have ak:Hid (TkM base pb w2 g ts gs):=a8.out.below (A.mono (by omega));have D:Hid (BoxC w2 w.heap.size (.int .i64 0) (.slice none 0 0) (.slice none 0 0) (.slice none 0 0)):=a5.out.below A ai;have Y:Hid (Bt pb w.heap.size w w2):=Z.out.trans (Bt.of_below (A.mono (by omega)));have aC:w1.heap.size<w2.heap.size:=by rw [F];show w1.heap.size<W1.heap.size;rw [H.out,World.size_alloc];omega
 obtain ⟨t0,t1,t2⟩:=ap.out.cells;obtain ⟨z0,z1,z2,z3⟩:=D.out.cells;have ah:=D.out.frz 0;have ag:=D.out.frz 1;have af:=D.out.frz 2;have ae:=D.out.frz 3;clear F A U H a9 z;have aG:(kd == 2)=false:=by rw [E.out];simpa using H2.out
 go_wp2_with fail;obtain ⟨W3,N⟩:∃ W3,Hid (W3=w2.alloc (.cells #[.int .i64 kd,.slice none 0 0,.slice none 0 0,.slice none 0 0] 37)):=⟨_,rfl⟩;rw [← N.out];have G:Below w2.heap.size w2 W3:=by rw [N.out];exact (Below.refl _ _).alloc (Nat.le_refl _) _
 have ad:Hid (BoxC W3 w2.heap.size (.int .i64 kd) (.slice none 0 0) (.slice none 0 0) (.slice none 0 0)):=by unfold Hid;rw [N.out];exact BoxC.new w2 _ _ _ _
 have ay:w2.heap.size<W3.heap.size:=ad.out.lt;have al:Hid (RdrAt W3 pb g (i+1) ts en):=am.out.below G;have ac:Hid (TkM base pb W3 g ts gs):=ak.out.below (G.mono (by omega));have aB:Hid (BoxC W3 w.heap.size (.int .i64 0) (.slice none 0 0) (.slice none 0 0) (.slice none 0 0)):=D.out.below G (by omega);have X:Hid (Bt pb w.heap.size w W3):=Y.out.trans (Bt.of_below (G.mono (by omega)));clear G N t0 t1 t2 z0 z1 z2 z3 ah ag af ae;refine (kidCount_any kd _).mono ?_;rintro e w3 ⟨rfl,a1⟩;rw [a1];clear a1;obtain ⟨n,hn⟩:∃ n:Nat,kidN kd=(n:Int):=⟨(kidN kd).toNat,by have h:=H3.out;rw [← E.out] at h;have:=kidN_kind (E.out ▸ kindI_range ts i);omega⟩;have HN:Hid (kidN kd=(n:Int)):=hn;have aD:1≤n:=by have h:=H3.out;rw [← E.out,hn] at h;omega
 have aE:((n:Int) == 0)=false:=by simp;omega
 rw [hn];clear hn;go_wp2_with fail;refine (take_bad base pb g (i+1) ts gs en 3 W3 al.out ac.out a0 h4).mono ?_;rintro e w4 ⟨rfl,O⟩;have aq:Hid (Bt pb w.heap.size w w4):=X.out.trans (Bt.of_below (O.mono (by omega)));clear O;simp only [gaveUp];go_wp2;exact ⟨rfl,RP.fell aq.out HC.out rfl⟩
set_option maxRecDepth 100000 in
set_option maxHeartbeats 2000000 in
theorem read_role (f:Nat) (dp:Int) (aI:1≤dp) (aH:dp≤6) (base pb g i:Nat) (ts:List Tok) (gs:List (Nat × Nat)) (en:Int) (w:World) (hR:RdrAt w pb g i ts en) (hT:TkM base pb w g ts gs) (h1:isI ts 1 i=true) (h2:kindI ts i≠2) (h3:kidN (kindI ts i)≠0) (h4:isI ts 3 (i+1)=true) (h5:roleB (kindI ts i)=true) (h6:isI ts 2 (i+2)=false) :
    Calls Tryz.prog 56 #[.pointer (some ⟨pb,0,none⟩),.int .i64 dp] w (RP ts gs en g pb i w (f+1) (conR ts en (f+1) i)):=by
 have HC:Hid (conR ts en (f+1) i=.bad (hereI ts en (i+2))):=by unfold Hid;rw [conR,if_neg (by simp [h1]),if_neg h2,if_neg h3,if_neg (by simp [h4]),if_pos ⟨h5,h6⟩]
 have H5:Hid (roleB (kindI ts i)=true):=h5;clear h5;have H2:Hid (kindI ts i≠2):=h2;have H3:Hid (kidN (kindI ts i)≠0):=h3;clear h2 h3;have aj:=hR.lt;have J:Below w.heap.size w (w.alloc (.cells #[.int .i64 0,.slice none 0 0,.slice none 0 0,.slice none 0 0] 37)):=(Below.refl _ _).alloc (Nat.le_refl _) _;have aa:Hid (Below w.heap.size w (w.alloc (.cells #[.int .i64 0,.slice none 0 0,.slice none 0 0,.slice none 0 0] 37))):=J;have ao:Hid (RdrAt (w.alloc (.cells #[.int .i64 0,.slice none 0 0,.slice none 0 0,.slice none 0 0] 37)) pb g i ts en):=hR.below J;have V:Hid (TkM base pb (w.alloc (.cells #[.int .i64 0,.slice none 0 0,.slice none 0 0,.slice none 0 0] 37)) g ts gs):=hT.below (J.mono (Nat.le_of_lt aj));have a6:Hid (BoxC (w.alloc (.cells #[.int .i64 0,.slice none 0 0,.slice none 0 0,.slice none 0 0] 37)) w.heap.size (.int .i64 0) (.slice none 0 0) (.slice none 0 0) (.slice none 0 0)):=BoxC.new w _ _ _ _;clear J hR hT;have a0:=isI_lt h1;obtain ⟨ta,tc,hx,_,_,_⟩:=V.out.word a0;obtain ⟨tn,a2⟩:∃ tn,tn=(wordI ts i).length:=⟨_,rfl⟩;have HX:Hid (txv (ts.getD i Tok.zero) (gs.getD i (0,0))=.slice ta (wordI ts i).length tc):=hx;have a7:Hid (tn=(wordI ts i).length):=a2;obtain ⟨p,hp⟩:∃ p,p=hereI ts en i:=⟨_,rfl⟩;have HP:Hid (p=hereI ts en i):=hp;obtain ⟨kd,a3⟩:∃ kd,kd=kindI ts i:=⟨_,rfl⟩;have E:Hid (kd=kindI ts i):=a3;clear hx a2 hp a3;go_enter Tryz.func56, Tryz.ntmps56;go_wp2_with fail;refine (take_ok base pb g i ts gs en 1 _ ao.out V.out h1).mono ?_;rintro e w1 ⟨rfl,a4,I⟩
 rw [HX.out,← a7.out,← HP.out];have an:Hid (RdrAt w1 pb g (i+1) ts en):=a4;have a8:Hid (TkM base pb w1 g ts gs):=V.out.bt I (by simp;omega);have a5:Hid (BoxC w1 w.heap.size (.int .i64 0) (.slice none 0 0) (.slice none 0 0) (.slice none 0 0)):=(I.block _ a6.out.lt (by omega)).trans a6.out;have Z:Hid (Bt pb w.heap.size w w1):=(Bt.of_below aa.out).trans (I.mono aa.out.size);have ai:w.heap.size<w1.heap.size:=a5.out.lt;clear a4 I;go_wp2_with fail;obtain ⟨W1,H⟩:∃ W1,Hid (W1=w1.alloc (.cells #[.int .i64 1,.int .i64 p,.slice ta tn tc] 115)):=⟨_,rfl⟩;rw [← H.out];have U:Below w1.heap.size w1 W1:=by rw [H.out];exact (Below.refl _ _).alloc (Nat.le_refl _) _
 have a9:Hid (BoxK3 W1 w1.heap.size (.int .i64 1) (.int .i64 p) (.slice ta tn tc)):=by unfold Hid;rw [H.out];exact BoxK3.new w1 _ _ _
 have z:Hid (Rd 0 pb W1 ta tn tc (wordI ts i)):=by
  obtain ⟨a',c',T,_,hr,_⟩:=(a8.out.below (U.mono (by omega))).word a0;rw [HX.out] at T;simp only [Value.slice.injEq,true_and] at T;obtain ⟨rfl,rfl⟩:=T;unfold Hid;rw [a7.out];exact hr
 refine (conKind_any ta tn tc (wordI ts i) W1 z.out).mono ?_;rintro e w2 ⟨rfl,nd,F⟩;rw [show kindW (strOfNums (wordI ts i)).toList=kd from E.out.symm];have A:Below w1.heap.size w1 w2:=by rw [F];exact below_drewN U nd
 have aM:Hid (Below w1.heap.size w1 w2):=A;have ar:Hid (Rd 0 pb w2 ta tn tc (wordI ts i)):=by unfold Hid;rw [F];exact z.out.same (fun _ _ _=>rfl)
 have ap:Hid (BoxK3 w2 w1.heap.size (.int .i64 1) (.int .i64 p) (.slice ta tn tc)):=by unfold Hid;rw [F];exact a9.out
 have am:Hid (RdrAt w2 pb g (i+1) ts en):=an.out.below A;have ak:Hid (TkM base pb w2 g ts gs):=a8.out.below (A.mono (by omega));have D:Hid (BoxC w2 w.heap.size (.int .i64 0) (.slice none 0 0) (.slice none 0 0) (.slice none 0 0)):=a5.out.below A ai;have Y:Hid (Bt pb w.heap.size w w2):=Z.out.trans (Bt.of_below (A.mono (by omega)));have aC:w1.heap.size<w2.heap.size:=by rw [F];show w1.heap.size<W1.heap.size;rw [H.out,World.size_alloc];omega
 obtain ⟨t0,t1,t2⟩:=ap.out.cells;obtain ⟨z0,z1,z2,z3⟩:=D.out.cells;have ah:=D.out.frz 0;have ag:=D.out.frz 1;have af:=D.out.frz 2;have ae:=D.out.frz 3;clear F A U H a9 z;have aG:(kd == 2)=false:=by rw [E.out];simpa using H2.out
 go_wp2_with fail;obtain ⟨W3,N⟩:∃ W3,Hid (W3=w2.alloc (.cells #[.int .i64 kd,.slice none 0 0,.slice none 0 0,.slice none 0 0] 37)):=⟨_,rfl⟩;rw [← N.out];have G:Below w2.heap.size w2 W3:=by rw [N.out];exact (Below.refl _ _).alloc (Nat.le_refl _) _
 have ad:Hid (BoxC W3 w2.heap.size (.int .i64 kd) (.slice none 0 0) (.slice none 0 0) (.slice none 0 0)):=by unfold Hid;rw [N.out];exact BoxC.new w2 _ _ _ _
 have ay:w2.heap.size<W3.heap.size:=ad.out.lt;have al:Hid (RdrAt W3 pb g (i+1) ts en):=am.out.below G;have ac:Hid (TkM base pb W3 g ts gs):=ak.out.below (G.mono (by omega));have aB:Hid (BoxC W3 w.heap.size (.int .i64 0) (.slice none 0 0) (.slice none 0 0) (.slice none 0 0)):=D.out.below G (by omega);have X:Hid (Bt pb w.heap.size w W3):=Y.out.trans (Bt.of_below (G.mono (by omega)));clear G N t0 t1 t2 z0 z1 z2 z3 ah ag af ae;refine (kidCount_any kd _).mono ?_;rintro e w3 ⟨rfl,a1⟩;rw [a1];clear a1;obtain ⟨n,hn⟩:∃ n:Nat,kidN kd=(n:Int):=⟨(kidN kd).toNat,by have h:=H3.out;rw [← E.out] at h;have:=kidN_kind (E.out ▸ kindI_range ts i);omega⟩;have HN:Hid (kidN kd=(n:Int)):=hn;have aD:1≤n:=by have h:=H3.out;rw [← E.out,hn] at h;omega
 have aE:((n:Int) == 0)=false:=by simp;omega
 rw [hn];clear hn;have ab:Hid (roleB kd=true):=by unfold Hid;rw [E.out];exact H5.out
 go_wp2_with fail;refine (take_ok base pb g (i+1) ts gs en 3 W3 al.out ac.out h4).mono ?_;rintro e w4 ⟨rfl,aA,O⟩
 obtain ⟨xa,xn,xc,av⟩:∃ xa xn xc,txv (ts.getD (i+1) Tok.zero) (gs.getD (i+1) (0,0))=.slice xa xn xc:=by
  obtain ⟨a,c,h⟩:=txv_form (ts.getD (i+1) Tok.zero) (gs.getD (i+1) (0,0));exact ⟨_,_,_,h⟩
 rw [av];have aK:Hid (RdrAt w4 pb g (i+2) ts en):=aA;have aJ:Hid (TkM base pb w4 g ts gs):=ac.out.bt O (by omega);have aL:Hid (BoxC w4 w2.heap.size (.int .i64 kd) (.slice none 0 0) (.slice none 0 0) (.slice none 0 0)):=(O.block _ ay (by omega)).trans ad.out;have aP:Hid (BoxC w4 w.heap.size (.int .i64 0) (.slice none 0 0) (.slice none 0 0) (.slice none 0 0)):=(O.block _ (by omega) (by omega)).trans aB.out;have au:Hid (Bt pb w.heap.size w w4):=X.out.trans (O.mono (by omega));have aO:w2.heap.size<w4.heap.size:=aL.out.lt;have aF:=isI_lt h4;clear aA O av;go_wp2_with fail;refine (hasRole_any kd _).mono ?_;rintro e aN ⟨rfl,ax⟩;rw [ax,ab.out];clear ax;go_wp2_with fail;refine (take_bad base pb g (i+2) ts gs en 2 w4 aK.out aJ.out aF h6).mono ?_;rintro e w5 ⟨rfl,az⟩;have aq:Hid (Bt pb w.heap.size w w5):=au.out.trans (Bt.of_below (az.mono (by omega)));clear az;simp only [gaveUp];go_wp2;exact ⟨rfl,RP.fell aq.out HC.out rfl⟩
end

end Go.Proofs.YtocpeiaolofodaaGreat
