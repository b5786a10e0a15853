/- What stays of a world under way where a cell of it is stored into, or its names' row grows. -/
import Derived.Test.YtnmljalcndfjmaaGreatDrawWd
import Derived.Test.YtnmljalcndfjmaaGreatNG23
namespace Go.Proofs.YtnmljalcndfjmaaGreat
open Go.RowKit
theorem run_append_full {P:Program} (w:World) (t ty:TypeId) (base:Nat) (e:TypeId) (i:TypeInfo) (z:Value) (size bytes:Nat) (ht:P.underlying t=some (.slice e)) (hi:P.info? e=some i) (hz:i.zero=some z)
    (A:i.size=size) (I:i.bytes=bytes) (N:z.cells.size=size) (O:0<size)
    (g0 n:Nat) (xs:List Value) (F:w.ownsRow base e size (.slice (some ⟨g0,0,none⟩) n n) n xs)
    (ad:Addr) (m c:Nat) (news:List Value) (hl:news.length=m*size) (D:∀ j u,news[j]?=some u→w.cell? (ad.add j)=some u) (h1:∀ u∈news,u.oneCell'=true)
    (hm:0<m) (J:n+m≤maxLen) (y:(n+m)*bytes≤140737488355328) (G:base≤w.heap.size) :
    ∃ E w',(Builtin.append_ #[t,t] ty #[.slice (some ⟨g0,0,none⟩) n n,.slice (some ad) m c]).run P w=.ok (.slice (some ⟨w.heap.size,0,none⟩) (n+m) E) w' ∧
     w'.ownsRow base e size (.slice (some ⟨w.heap.size,0,none⟩) (n+m) E) (n+m) (xs++news)∧w.grownBy w' none:=by
 obtain ⟨g,E,w',hr,h2,h3,h4,h5⟩:=run_append_keep (P:=P) w t ty base e i z size bytes ht hi hz A I N O _ n xs F ad m c news hl D h1 hm J y G;have V:=hr;subst A;subst I;rw [run_append_grow (P:=P) w t ty e i z ht hi hz ⟨g0,0,none⟩ n n xs F.1 (F.cells (g:=g0) rfl) ad m c news hl D (by omega) (by unfold maxLen at J;omega) (growslice_fits (by omega) y)] at hr;simp only [Result.ok.injEq,Value.slice.injEq,Option.some.injEq,Addr.mk.injEq,and_true,true_and] at hr;obtain ⟨⟨hg,Y⟩,hw⟩:=hr;refine ⟨E,w',by rw [V,hg],by rw [hg];exact h2,h3.os,h3.tape,h3.output,h3.size,fun k hk _=>?_⟩;rw [← hw];exact heap_alloc_old w.drew _ hk
theorem wpList_append_full {P:Program} {w:World} {U:Array Oper} {rest:List Oper} {o:Oper} {a:Act} {Q:Exit→Act→World→Prop} (X:o.guard=none) (s x:Operand) (t:TypeId)
    (ho:o.op=.call { callee:=.builtin .append,args:=#[s,x],argTypes:=#[t,t] })
    (base:Nat) (e:TypeId) (i:TypeInfo) (z:Value) (size bytes:Nat) (ht:P.underlying t=some (.slice e)) (hi:P.info? e=some i) (hz:i.zero=some z)
    (A:i.size=size) (I:i.bytes=bytes) (N:z.cells.size=size) (O:0<size)
    (g:Nat) (hg:g=w.heap.size) (g0 n k:Nat) (xs:List Value) (hs:a.eval s=.slice (some ⟨g0,0,none⟩) n n) (F:w.ownsRow base e size (.slice (some ⟨g0,0,none⟩) n n) n xs)
    (ad:Addr) (m c:Nat) (news:List Value) (hx:a.eval x=.slice (some ad) m c) (hl:news.length=m*size) (D:∀ j u,news[j]?=some u→w.cell? (ad.add j)=some u) (h1:∀ u∈news,u.oneCell'=true)
    (hm:0<m) (hk:n+m=k) (J:k≤maxLen) (y:k*bytes≤140737488355328) (G:base≤w.heap.size)
    (h:∀ E w',w'.ownsRow base e size (.slice (some ⟨g,0,none⟩) k E) k (xs++news)→w.grownBy w' none→wpList P U Q rest (a.put o.dst (.slice (some ⟨g,0,none⟩) k E)) w') :
    wpList P U Q (o :: rest) a w:=by
 subst hg hk;refine wpList_plain X fun K hK=>?_
 obtain ⟨E,w',hr,h2,h3⟩:=run_append_full (P:=P) w t o.type base e i z size bytes ht hi hz A I N O g0 n xs F ad m c news hl D h1 hm J y G;unfold Oper.wp execOp;simp only [ho,resolve,invoke,builtin,Sem.run_bind,Sem.run_pure,Result.andThen_ok,List.map_toArray,List.map_cons,List.map_nil,hs,hx,hr];exact hK _ _ (h E w' h2 h3)
theorem grown_none {w w':World} (h:w.grownBy w' none) (row:Option Nat):w.grownBy w' row:=⟨h.os,h.tape,h.output,h.size,fun k hk _=>h.block k hk (fun e=>by cases e)⟩
theorem setGrown (W:World) (q o:Nat) (u:Value):W.grownBy (W.setCell ⟨q,o,none⟩ u) (some q):=⟨rfl,rfl,rfl,by simp,fun k _ hk=>heap_setCell_other W ⟨q,o,none⟩ k u (fun e=>hk (by simp [e]))⟩
theorem ownsR_set {w:World} {base e size n:Nat} {v:Value} {xs:List Value} (h:w.ownsRow base e size v n xs) {p t:Nat} {cs:Array Value} {f:Nat × Nat} (hp:w.heap[p]?=some (.cells cs t f)) (T:e≠t) (i:Nat) (u:Value):(w.setCell ⟨p,i,none⟩ u).ownsRow base e size v n xs:=by
 obtain ⟨h1,h2⟩:=h;refine ⟨h1,?_⟩;rcases h2 with h2 | ⟨g,E,cur,hv,hg,hh,r⟩
 · exact .inl h2
 refine .inr ⟨g,E,cur,hv,hg,?_,r⟩
 rw [heap_setCell_other w ⟨p,i,none⟩ g u (fun e'=>by
  have e2:g=p:=e';subst e2;rw [hh] at hp;simp only [Option.some.injEq,Obj.cells.injEq] at hp
  exact T hp.2.1)]
 exact hh
theorem WordAt.set {base:Nat} {w:World} {v:Value} {z:List Int} (h:WordAt base w v z) {p t:Nat} {cs:Array Value} {f:Nat × Nat} (hp:w.heap[p]?=some (.cells cs t f)) (T:5≠t) (i:Nat) (u:Value):WordAt base (w.setCell ⟨p,i,none⟩ u) v z:=by
 obtain ⟨g,c,cur,fz,e,h1,h2,h3⟩:=h;refine ⟨g,c,cur,fz,e,h1,?_,h3⟩
 rw [heap_setCell_other w ⟨p,i,none⟩ g u (fun e'=>by
  have e2:g=p:=e';subst e2;rw [h2] at hp;simp only [Option.some.injEq,Obj.cells.injEq] at hp
  exact T hp.2.1)]
 exact h2
theorem OwnSS.set {base:Nat} {w:World} {v:Value} {L:List (List Int)} (h:OwnSS base w v L) {p t:Nat} {cs:Array Value} {f:Nat × Nat} (hp:w.heap[p]?=some (.cells cs t f)) (h1:22≠t) (h2:5≠t) (i:Nat) (u:Value):OwnSS base (w.setCell ⟨p,i,none⟩ u) v L:=by
 obtain ⟨vs,q1,q2⟩:=h;exact ⟨vs,ownsR_set q1 hp h1 i u,fun j hj=>(q2 j hj).set hp h2 i u⟩
theorem RdN.putO {α:Type} {d:α} {R:Value→α→Prop} {lo hi:Nat} {w:World} {a:Option Addr} {n c:Nat} {l:List α} (h:RdN d R lo hi w a n c l) {q:Addr} {u0 u:Value} (hq:w.cell? q=some u0) (H:∀ b,¬ R u0 b):RdN d R lo hi (w.setCell q u) a n c l:=by
 obtain ⟨h1,h2,h3⟩:=h;refine ⟨h1,h2,?_⟩;rcases h3 with h3 | ⟨b,off,e,q1,q2,q3⟩
 · exact .inl h3
 refine .inr ⟨b,off,e,q1,q2,fun i hi=>?_⟩;obtain ⟨v,c0,hr⟩:=q3 i hi;refine ⟨v,?_,hr⟩
 rw [World.cell?_setCell_other _ _ _ _ (fun e=>by
  subst e;rw [hq] at c0;simp only [Option.some.injEq] at c0;rw [← c0] at hr
  exact H _ hr)]
 exact c0
theorem RI.putS {lo hi:Nat} {w:World} {a:Option Addr} {n c:Nat} {l:List Int} (h:RI lo hi w a n c l) {q:Addr} {sa:Option Addr} {sn sc:Nat} {u:Value} (hq:w.cell? q=some (.slice sa sn sc)):RI lo hi (w.setCell q u) a n c l:=RdN.putO h hq (fun b e=>by cases e)
theorem RB.put {lo hi:Nat} {w:World} {a:Option Addr} {n c:Nat} {l:List Bool} (h:RB lo hi w a n c l) {q:Addr} {u0 u:Value} (hq:w.cell? q=some u0) (H:∀ b,u0≠.bool b):RB lo hi (w.setCell q u) a n c l:=by
 obtain ⟨h1,h2,h3⟩:=h;refine ⟨h1,h2,?_⟩;rcases h3 with h3 | ⟨b,off,e,q1,q2,q3⟩
 · exact .inl h3
 refine .inr ⟨b,off,e,q1,q2,fun i hi=>?_⟩;obtain ⟨v,c0,hr⟩:=q3 i hi;refine ⟨v,?_,hr⟩
 rw [World.cell?_setCell_other _ _ _ _ (fun e=>by
  subst e;rw [hq] at c0;simp only [Option.some.injEq] at c0
  exact H _ (c0.trans hr))]
 exact c0
theorem SlF.put {lo hi:Nat} {w:World} {v:Value} {l:List Bool} (h:SlF lo hi w v l) {q:Addr} {u0 u:Value} (hq:w.cell? q=some u0) (H:∀ b,u0≠.bool b):SlF lo hi (w.setCell q u) v l:=by
 obtain ⟨a,n,c,e,h⟩:=h;exact ⟨a,n,c,e,h.put hq H⟩
theorem RFF.put {lo hi:Nat} {w:World} {a:Option Addr} {n c:Nat} {L:List (List Bool)} (h:RFF lo hi w a n c L) {q:Addr} {u0 u:Value} (hq:w.cell? q=some u0) (H:∀ b,u0≠.bool b) {l:List Bool} (hu:SlF lo hi (w.setCell q u) u l) :
    ∃ L',RFF lo hi (w.setCell q u) a n c L':=by
 obtain ⟨h1,h2,h3⟩:=h;rcases h3 with h3 | ⟨b,off,e,q1,q2,q3⟩
 · exact ⟨[],by simp [h3],h2,.inl h3⟩
 have hx:∀ i,∃ l',i<n→∃ v,(w.setCell q u).cell? ⟨b,off+i,none⟩=some v∧SlF lo hi (w.setCell q u) v l':=by
  intro i;by_cases hi:i<n
  · obtain ⟨v,c0,hr⟩:=q3 i hi;by_cases he:q=⟨b,off+i,none⟩
    · subst he;exact ⟨l,fun _=>⟨u,World.cell?_setCell_same _ _ _ hq,hu⟩⟩
    exact ⟨_,fun _=>⟨v,by rw [World.cell?_setCell_other _ _ _ _ he];exact c0,hr.put hq H⟩⟩
  exact ⟨[],fun h=>absurd h hi⟩
 refine ⟨(List.range n).map (fun i=>(hx i).choose),by simp,h2,.inr ⟨b,off,e,q1,q2,fun i hi=>?_⟩⟩;have:=(hx i).choose_spec hi;have e2:((List.range n).map (fun i=>(hx i).choose)).getD i []=(hx i).choose:=by simp [List.getD,hi]
 rw [e2];exact this
theorem Rd.putI {lo hi:Nat} {w:World} {a:Option Addr} {n c:Nat} {zs:List Int} (h:Rd lo hi w a n c zs) {q:Addr} {k:Int} {u:Value} (hq:w.cell? q=some (.int .i64 k)):Rd lo hi (w.setCell q u) a n c zs:=by
 obtain ⟨h1,h2,h4,h3⟩:=h;refine ⟨h1,h2,h4,?_⟩;rcases h3 with h3 | ⟨b,off,e,q1,q2,q3⟩
 · exact .inl h3
 refine .inr ⟨b,off,e,q1,q2,fun i hi=>?_⟩;have c0:=q3 i hi
 rw [World.cell?_setCell_other _ _ _ _ (fun e=>by
  subst e;rw [hq] at c0
  simp at c0)]
 exact c0
theorem RSS.putI {lo hi:Nat} {w:World} {a:Option Addr} {n c:Nat} {L:List (List Int)} (h:RSS lo hi w a n c L) {q:Addr} {k:Int} {u:Value} (hq:w.cell? q=some (.int .i64 k)):RSS lo hi (w.setCell q u) a n c L:=by
 obtain ⟨h1,h2,h3⟩:=h;refine ⟨h1,h2,?_⟩;rcases h3 with h3 | ⟨b,off,e,q1,q2,q3⟩
 · exact .inl h3
 refine .inr ⟨b,off,e,q1,q2,fun i hi=>?_⟩;obtain ⟨v,c0,a1,n1,c1,hv,hr⟩:=q3 i hi;refine ⟨v,?_,a1,n1,c1,hv,hr.putI hq⟩
 rw [World.cell?_setCell_other _ _ _ _ (fun e=>by
  subst e;rw [hq] at c0;simp only [Option.some.injEq] at c0;rw [← c0] at hv
  exact absurd hv (by simp))]
 exact c0
theorem RFF.putI {lo hi:Nat} {w:World} {a:Option Addr} {n c:Nat} {L:List (List Bool)} (h:RFF lo hi w a n c L) {q:Addr} {k:Int} {u:Value} (hq:w.cell? q=some (.int .i64 k)):RFF lo hi (w.setCell q u) a n c L:=by
 obtain ⟨h1,h2,h3⟩:=h;refine ⟨h1,h2,?_⟩;rcases h3 with h3 | ⟨b,off,e,q1,q2,q3⟩
 · exact .inl h3
 refine .inr ⟨b,off,e,q1,q2,fun i hi=>?_⟩;obtain ⟨v,c0,hr⟩:=q3 i hi;refine ⟨v,?_,hr.put hq (fun b=>by simp)⟩;obtain ⟨a1,n1,c1,hv,_⟩:=hr
 rw [World.cell?_setCell_other _ _ _ _ (fun e=>by
  subst e;rw [hq] at c0;simp only [Option.some.injEq] at c0;rw [← c0] at hv
  exact absurd hv (by simp))]
 exact c0
theorem RI.putI {lo hi:Nat} {w:World} {b off n c:Nat} {l:List Int} (h:RI lo hi w (some ⟨b,off,none⟩) n c l) {k:Int} (hq:w.cell? ⟨b,off,none⟩=some (.int .i64 k)) (z:Int) (hn:1≤n):RI lo hi (w.setCell ⟨b,off,none⟩ (.int .i64 z)) (some ⟨b,off,none⟩) n c (l.set 0 z):=by
 obtain ⟨h1,h2,h3⟩:=h;refine ⟨by simpa using h1,h2,?_⟩;rcases h3 with h3 | ⟨b1,o1,e,q1,q2,q3⟩
 · omega
 simp only [Option.some.injEq,Addr.mk.injEq,and_true] at e;obtain ⟨rfl,rfl⟩:=e;refine .inr ⟨_,_,rfl,q1,q2,fun i hi=>?_⟩;by_cases h0:i=0
 · subst h0;refine ⟨.int .i64 z,World.cell?_setCell_same _ _ _ hq,?_⟩
   have:(l.set 0 z).getD 0 0=z:=by
    cases l with
    | nil=>simp at h1;omega
    | cons x xs=>rfl
   rw [this]
 obtain ⟨v,c0,hr⟩:=q3 i hi;refine ⟨v,?_,?_⟩
 · rw [World.cell?_setCell_other _ _ _ _ (fun e=>by simp only [Addr.mk.injEq,and_true] at e;omega)];exact c0
 have:(l.set 0 z).getD i 0=l.getD i 0:=by simp only [List.getD];rw [List.getElem?_set_ne (by omega)]
 rw [this];exact hr
end Go.Proofs.YtnmljalcndfjmaaGreat
