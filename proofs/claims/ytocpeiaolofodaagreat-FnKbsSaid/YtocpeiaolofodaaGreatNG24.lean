/- Several texts in one: BentPut, BentApp. -/
import Derived.Test.YtocpeiaolofodaaGreatNG22
import Derived.Deep.AppendLies
import Derived.Laws.OwnMore
namespace Go.Proofs.YtocpeiaolofodaaGreat

section
open Go.RowKit
def KcL (w w':World) (L:List (Addr × IntKind)):Prop:=∀ x∈L,∀ i,i<4→∀ v,w.cell? ⟨x.1.block,x.1.off+i,none⟩=some v→w'.cell? ⟨x.1.block,x.1.off+i,none⟩=some v
theorem OwB.kc {w w':World} {a:Option Addr} {n z:Nat} {zs:List Int} {b off:Nat} (h:OwB w a n z zs b off) (hk:KcL w w' (leafB b off n)):OwB w' a n z zs b off:=by
 obtain ⟨h1,h2,h3,h4⟩:=h;refine ⟨h1,h2,h3,?_⟩;rcases h4 with h4 | ⟨e,h4⟩
 · exact .inl h4
 exact .inr ⟨e,fun i hi=>hk _ (mem_leafB.2 ⟨i,hi,rfl⟩) 0 (by omega) _ (h4 i hi)⟩
theorem OwC.kc {w w':World}:∀ {d:Nat} {v:Value} {c:CN} {L:List (Addr × IntKind)},OwC w d v c L→KcL w w' L→OwC w' d v c L:=by
 intro d
 induction d with
 | zero=>intro v c L h _;exact h
 | succ d ih =>
  intro v c L h hk;obtain ⟨na,nn,nc,ra,rn,rc,ka,kn,kc,bn,on,br,or,bk,ok,Ls,hv,h1,h2,h3,rfl⟩:=h;refine ⟨na,nn,nc,ra,rn,rc,ka,kn,kc,bn,on,br,or,bk,ok,Ls,hv,h1.kc (fun x hx=>hk x (by simp only [List.mem_append];exact .inl hx)),h2.kc (fun x hx=>hk x (by simp only [List.mem_append];exact .inr (.inl hx))),?_,rfl⟩;obtain ⟨g1,g2,g3⟩:=h3;refine ⟨g1,g2,?_⟩;rcases g3 with g3 | ⟨e,g3⟩
  · exact .inl g3
  refine .inr ⟨e,fun i hi=>?_⟩;obtain ⟨v0,v1,v2,v3,c0,c1,c2,c3,hr⟩:=g3 i hi;have hs:=hk (⟨bk,ok+i*4,none⟩,.i64) (by simp only [List.mem_append];exact .inr (.inr (mem_leafK.2 ⟨i,hi,.inl rfl⟩)));exact ⟨v0,v1,v2,v3,hs 0 (by omega) _ c0,hs 1 (by omega) _ c1,hs 2 (by omega) _ c2,hs 3 (by omega) _ c3,ih hr (fun x hx=>hk x (by simp only [List.mem_append];exact .inr (.inr (mem_leafK.2 ⟨i,hi,.inr hx⟩))))⟩
def KcS (w w':World) (b o:Nat):Prop:=∀ i,i<4→∀ v,w.cell? ⟨b,o+i,none⟩=some v→w'.cell? ⟨b,o+i,none⟩=some v
theorem OwS.kc {w w':World} {d b o:Nat} {c:CN} {L:List (Addr × IntKind)} (h:OwS w d b o c L) (hb:KcS w w' b o) (hk:KcL w w' L):OwS w' d b o c L:=by
 obtain ⟨v0,v1,v2,v3,c0,c1,c2,c3,hr⟩:=h;exact ⟨v0,v1,v2,v3,hb 0 (by omega) _ c0,hb 1 (by omega) _ c1,hb 2 (by omega) _ c2,hb 3 (by omega) _ c3,hr.kc hk⟩
theorem Path.kc {w w':World} {b o b' o':Nat} (h:Path w b o b' o'):∀ {d:Nat} {c:CN} {L:List (Addr × IntKind)},OwS w d b o c L→KcS w w' b o→KcL w w' L→Path w' b o b' o':=by
 induction h with
 | here b o=>intro d c L _ _ _;exact .here b o
 | @kid b o bk ok kn kc j b' o' h1 h2 _ ih =>
  intro d c L hw hb hk;obtain ⟨e,L',_,_,hs,hm,A,_⟩:=hw.kid h1 h2;exact .kid (hb 3 (by omega) _ h1) h2 (ih hs (fun i hi v hv=>hk _ hm i hi v hv) (fun x hx=>hk x (A x hx)))
theorem OwS.slot {w:World} {d b o:Nat} {c:CN} {L:List (Addr × IntKind)} (h:OwS w d b o c L):Slot w b o:=by
 obtain ⟨v0,v1,v2,v3,c0,c1,c2,c3,hr⟩:=h;exact slot_of hr c0 c1 c2 c3
theorem offS_set (w:World) (b o i:Nat) (v:Value) (hi:i<4):OffS w (w.setCell ⟨b,o+i,none⟩ v) b o:=by
 intro q r hq _;refine World.cell?_setCell_other _ _ _ _ (fun e=>?_);simp only [Addr.mk.injEq,and_true] at e;omega
theorem put_any {lo:Nat} {w W:World} {X D b o:Nat} {c:CN} {L:List (Addr × IntKind)} (own:OwS w D X 0 c L) (nd:(L.map (·.1)).Nodup) (nm:∀ x∈L,x.1.block≠X) (path:Path w X 0 b o) (hS:Slot w b o) (hO:OffS w W b o) (hL:∀ x∈L,lo≤x.1.block∧x.1.block<W.heap.size)
    {E:Nat} {cn:CN} (hR:RdS lo W.heap.size W E b o cn):∃ c'',RdS lo W.heap.size W (D+E) X 0 c''∧c''.bulk≤c.bulk+cn.bulk :=
 path.put hR hO hS own nd (fun hm=>by obtain ⟨x,hx,e⟩:=List.mem_map.1 hm;exact nm x hx (by rw [e])) (fun x hx=>hL x hx)
theorem OwS.old {lo:Nat} {w W:World} {d b o:Nat} {c:CN} {L:List (Addr × IntKind)} (h:OwS w d b o c L) (hO:OffS w W b o) (hn:(⟨b,o,none⟩:Addr) ∉ L.map (·.1)) {hi:Nat} (hL:∀ x∈L,lo≤x.1.block∧x.1.block<hi) :
    ∃ na nn nc ra rn rc ka kn kc,w.cell? ⟨b,o,none⟩=some (.int .i64 c.kind)∧w.cell? ⟨b,o+1,none⟩=some (.slice na nn nc)∧w.cell? ⟨b,o+2,none⟩=some (.slice ra rn rc)∧w.cell? ⟨b,o+3,none⟩=some (.slice ka kn kc)∧RdC lo hi W d (.agg #[.int .i64 c.kind,.slice na nn nc,.slice ra rn rc,.slice ka kn kc]) c:=by
 have hS:=h.slot;obtain ⟨v0,v1,v2,v3,c0,c1,c2,c3,hr⟩:=h;have F:=(OwC.off hO hS hr (fun x hx e=>hn (List.mem_map.2 ⟨x,hx,e⟩))).rd (lo:=lo) (hi:=hi) (fun x hx=>hL x hx);obtain ⟨rfl,⟨na,nn,nc,rfl⟩,⟨ra,rn,rc,rfl⟩,⟨ka,kn,kc,rfl⟩⟩:=hr.form;exact ⟨na,nn,nc,ra,rn,rc,ka,kn,kc,c0,c1,c2,c3,F⟩
theorem RdC.setKind {lo hi d:Nat} {w:World} {v1 v2 v3:Value} {k:Int} {c:CN} (h:RdC lo hi w d (.agg #[.int .i64 k,v1,v2,v3]) c) (k':Int):RdC lo hi w d (.agg #[.int .i64 k',v1,v2,v3]) (.mk k' c.name c.role c.kids):=by
 cases d with
 | zero=>exact h.elim
 | succ d =>
  obtain ⟨na,nn,nc,ra,rn,rc,ka,kn,kc,hv,q1,q2,q3⟩:=h;simp only [Value.agg.injEq,Array.mk.injEq,List.cons.injEq,and_true] at hv;obtain ⟨_,rfl,rfl,rfl⟩:=hv;exact ⟨na,nn,nc,ra,rn,rc,ka,kn,kc,rfl,q1,q2,q3⟩
theorem RdC.setName {lo hi d:Nat} {w:World} {v0 v1 v2 v3:Value} {c:CN} (h:RdC lo hi w d (.agg #[v0,v1,v2,v3]) c) {a:Option Addr} {n z:Nat} {zs:List Int} (hz:Rd lo hi w a n z zs):RdC lo hi w d (.agg #[v0,.slice a n z,v2,v3]) (.mk c.kind zs c.role c.kids):=by
 cases d with
 | zero=>exact h.elim
 | succ d =>
  obtain ⟨na,nn,nc,ra,rn,rc,ka,kn,kc,hv,q1,q2,q3⟩:=h;simp only [Value.agg.injEq,Array.mk.injEq,List.cons.injEq,and_true] at hv;obtain ⟨rfl,rfl,rfl,rfl⟩:=hv;exact ⟨a,n,z,ra,rn,rc,ka,kn,kc,rfl,hz,q2,q3⟩
theorem RdC.setRole {lo hi d:Nat} {w:World} {v0 v1 v2 v3:Value} {c:CN} (h:RdC lo hi w d (.agg #[v0,v1,v2,v3]) c) {a:Option Addr} {n z:Nat} {zs:List Int} (hz:Rd lo hi w a n z zs):RdC lo hi w d (.agg #[v0,v1,.slice a n z,v3]) (.mk c.kind c.name zs c.kids):=by
 cases d with
 | zero=>exact h.elim
 | succ d =>
  obtain ⟨na,nn,nc,ra,rn,rc,ka,kn,kc,hv,q1,q2,q3⟩:=h;simp only [Value.agg.injEq,Array.mk.injEq,List.cons.injEq,and_true] at hv;obtain ⟨rfl,rfl,rfl,rfl⟩:=hv;exact ⟨na,nn,nc,a,n,z,ka,kn,kc,rfl,q1,hz,q3⟩
theorem RdC.setKids {lo hi d:Nat} {w:World} {v0 v1 v2 v3:Value} {c:CN} (h:RdC lo hi w (d+1) (.agg #[v0,v1,v2,v3]) c) {a:Option Addr} {n z:Nat} {cs:List CN} (hz:RdL (RdC lo hi w d) lo hi w a n z cs):RdC lo hi w (d+1) (.agg #[v0,v1,v2,.slice a n z]) (.mk c.kind c.name c.role cs):=by
 obtain ⟨na,nn,nc,ra,rn,rc,ka,kn,kc,hv,q1,q2,q3⟩:=h;simp only [Value.agg.injEq,Array.mk.injEq,List.cons.injEq,and_true] at hv;obtain ⟨rfl,rfl,rfl,rfl⟩:=hv;exact ⟨na,nn,nc,ra,rn,rc,a,n,z,rfl,q1,q2,hz⟩
theorem put_kind {lo:Nat} {w:World} {X D b o d:Nat} {c c':CN} {L L':List (Addr × IntKind)} (h:Bent w X D c L b o d c' L') (hL:∀ x∈L,lo≤x.1.block∧x.1.block<w.heap.size) (k:Int) :
    ∃ c'',RdS lo w.heap.size (w.setCell ⟨b,o,none⟩ (.int .i64 k)) (D+d) X 0 c''∧c''.bulk≤c.bulk+c'.bulk:=by
 have hO:OffS w (w.setCell ⟨b,o,none⟩ (.int .i64 k)) b o:=offS_set w b o 0 _ (by omega);obtain ⟨na,nn,nc,ra,rn,rc,ka,kn,kc,c0,c1,c2,c3,hr⟩:=h.sub.old hO h.snm (hi:=w.heap.size) (fun x hx=>hL x (h.sin x hx))
 have hR:RdS lo w.heap.size (w.setCell ⟨b,o,none⟩ (.int .i64 k)) d b o (.mk k c'.name c'.role c'.kids):=by
  refine ⟨_,_,_,_,World.cell?_setCell_same _ _ _ c0,?_,?_,?_,hr.setKind k⟩
  · rw [World.cell?_setCell_other _ _ _ _ (by simp)];exact c1
  · rw [World.cell?_setCell_other _ _ _ _ (by simp)];exact c2
  rw [World.cell?_setCell_other _ _ _ _ (by simp)];exact c3
 have hs:(w.setCell ⟨b,o,none⟩ (.int .i64 k)).heap.size=w.heap.size:=by simp
 have:=put_any (W:=w.setCell ⟨b,o,none⟩ (.int .i64 k)) h.own h.nd h.nm h.path h.sub.slot hO (by rw [hs];exact hL) (by rw [hs];exact hR);rw [hs] at this;obtain ⟨c'',q1,q2⟩:=this;refine ⟨c'',q1,?_⟩;have:=c'.bulk_eq;rw [CN.bulk] at q2;omega
theorem put_name {lo:Nat} {w:World} {X D b o d:Nat} {c c':CN} {L L':List (Addr × IntKind)} (h:Bent w X D c L b o d c' L') (hL:∀ x∈L,lo≤x.1.block∧x.1.block<w.heap.size) {a:Option Addr} {n z:Nat} {zs:List Int} (hz:Rd lo w.heap.size (w.setCell ⟨b,o+1,none⟩ (.slice a n z)) a n z zs) :
    ∃ c'',RdS lo w.heap.size (w.setCell ⟨b,o+1,none⟩ (.slice a n z)) (D+d) X 0 c''∧c''.bulk≤c.bulk+(c'.bulk+zs.length):=by
 have hO:OffS w (w.setCell ⟨b,o+1,none⟩ (.slice a n z)) b o:=offS_set w b o 1 _ (by omega);obtain ⟨na,nn,nc,ra,rn,rc,ka,kn,kc,c0,c1,c2,c3,hr⟩:=h.sub.old hO h.snm (hi:=w.heap.size) (fun x hx=>hL x (h.sin x hx))
 have hR:RdS lo w.heap.size (w.setCell ⟨b,o+1,none⟩ (.slice a n z)) d b o (.mk c'.kind zs c'.role c'.kids):=by
  refine ⟨_,_,_,_,?_,World.cell?_setCell_same _ _ _ c1,?_,?_,hr.setName hz⟩
  · rw [World.cell?_setCell_other _ _ _ _ (by simp)];exact c0
  · rw [World.cell?_setCell_other _ _ _ _ (by simp)];exact c2
  rw [World.cell?_setCell_other _ _ _ _ (by simp)];exact c3
 have hs:(w.setCell ⟨b,o+1,none⟩ (.slice a n z)).heap.size=w.heap.size:=by simp
 have:=put_any (W:=w.setCell ⟨b,o+1,none⟩ (.slice a n z)) h.own h.nd h.nm h.path h.sub.slot hO (by rw [hs];exact hL) (by rw [hs];exact hR);rw [hs] at this;obtain ⟨c'',q1,q2⟩:=this;refine ⟨c'',q1,?_⟩;have:=c'.bulk_eq;rw [CN.bulk] at q2;omega
theorem put_role {lo:Nat} {w:World} {X D b o d:Nat} {c c':CN} {L L':List (Addr × IntKind)} (h:Bent w X D c L b o d c' L') (hL:∀ x∈L,lo≤x.1.block∧x.1.block<w.heap.size) {a:Option Addr} {n z:Nat} {zs:List Int} (hz:Rd lo w.heap.size (w.setCell ⟨b,o+2,none⟩ (.slice a n z)) a n z zs) :
    ∃ c'',RdS lo w.heap.size (w.setCell ⟨b,o+2,none⟩ (.slice a n z)) (D+d) X 0 c''∧c''.bulk≤c.bulk+(c'.bulk+zs.length):=by
 have hO:OffS w (w.setCell ⟨b,o+2,none⟩ (.slice a n z)) b o:=offS_set w b o 2 _ (by omega);obtain ⟨na,nn,nc,ra,rn,rc,ka,kn,kc,c0,c1,c2,c3,hr⟩:=h.sub.old hO h.snm (hi:=w.heap.size) (fun x hx=>hL x (h.sin x hx))
 have hR:RdS lo w.heap.size (w.setCell ⟨b,o+2,none⟩ (.slice a n z)) d b o (.mk c'.kind c'.name zs c'.kids):=by
  refine ⟨_,_,_,_,?_,?_,World.cell?_setCell_same _ _ _ c2,?_,hr.setRole hz⟩
  · rw [World.cell?_setCell_other _ _ _ _ (by simp)];exact c0
  · rw [World.cell?_setCell_other _ _ _ _ (by simp)];exact c1
  rw [World.cell?_setCell_other _ _ _ _ (by simp)];exact c3
 have hs:(w.setCell ⟨b,o+2,none⟩ (.slice a n z)).heap.size=w.heap.size:=by simp
 have:=put_any (W:=w.setCell ⟨b,o+2,none⟩ (.slice a n z)) h.own h.nd h.nm h.path h.sub.slot hO (by rw [hs];exact hL) (by rw [hs];exact hR);rw [hs] at this;obtain ⟨c'',q1,q2⟩:=this;refine ⟨c'',q1,?_⟩;have:=c'.bulk_eq;rw [CN.bulk] at q2;omega
end

section
open Go.RowKit
theorem run_append_keep {P:Program} (w:World) (t ty:TypeId) (base:Nat) (e:TypeId) (i:TypeInfo) (z:Value) (size bytes:Nat) (ht:P.underlying t=some (.slice e)) (hi:P.info? e=some i) (hz:i.zero=some z)
    (O:i.size=size) (a7:i.bytes=bytes) (aa:z.cells.size=size) (a6:0<size)
    (v:Value) (n:Nat) (xs:List Value) (G:w.ownsRow base e size v n xs)
    (ad:Addr) (m c:Nat) (news:List Value) (hl:news.length=m*size) (N:∀ j u,news[j]?=some u→w.cell? (ad.add j)=some u) (h1:∀ u∈news,u.oneCell'=true)
    (hm:0<m) (a9:n+m≤maxLen) (I:(n+m)*bytes≤140737488355328) (U:base≤w.heap.size) :
    ∃ g J w',(Builtin.append_ #[t,t] ty #[v,.slice (some ad) m c]).run P w=.ok (.slice (some ⟨g,0,none⟩) (n+m) J) w' ∧
     w'.ownsRow base e size (.slice (some ⟨g,0,none⟩) (n+m) J) (n+m) (xs++news)∧w.grownBy w' v.ownBlock∧(v.ownBlock=some g∨(g=w.heap.size∧∀ k,k<w.heap.size→w'.heap[k]?=w.heap[k]?))∧g<w'.heap.size:=by
 obtain ⟨g,J,w',hr,h2,h3,h4,h5⟩:=run_append_lies (P:=P) w t ty base e i z size bytes ht hi hz O a7 aa a6 v n xs G ad m c news hl N h1 hm a9 I U _ rfl;refine ⟨g,J,w',hr,h2,h3,?_,h5⟩;rcases h4 with h4 | h4
 · exact .inl h4
 refine .inr ⟨h4,fun k hk=>?_⟩;rcases G.2 with ⟨rfl,_⟩ | ⟨g0,a1,cur,rfl,aS,al,aN,aR,aC,aL⟩
 · exact h3.block k hk (by simp [Value.ownBlock])
 have aO:g0<w.heap.size:=(Array.getElem?_eq_some_iff.1 al).1;subst O;subst a7;by_cases hroom:n+m≤a1
 · have a0:n*i.size+news.length≤cur.size:=by rw [hl,aC,← Nat.add_mul];exact Nat.mul_le_mul_right _ hroom
   rw [run_append_room (P:=P) w t ty e i ht hi g0 n a1 cur al ad m c news hl N h1 hroom a0] at hr;simp only [Result.ok.injEq,Value.slice.injEq,Option.some.injEq,Addr.mk.injEq,and_true] at hr;omega
 rw [run_append_grow (P:=P) w t ty e i z ht hi hz ⟨g0,0,none⟩ n a1 xs G.1 (G.cells (g:=g0) rfl) ad m c news hl N (by omega) (by unfold maxLen at a9;omega) (growslice_fits (by omega) I)] at hr;simp only [Result.ok.injEq] at hr;rw [← hr.2];exact heap_alloc_old w.drew _ hk
theorem step_append_keep {P:Program} {w:World} {aj:Array Oper} {o:Oper} {a:Act} {K:Act→World→Prop} {Q:Exit→Act→World→Prop} {E:Prop} (aA:o.guard=none) (s x:Operand) (t:TypeId)
    (ho:o.op=.call { callee:=.builtin .append,args:=#[s,x],argTypes:=#[t,t] })
    (base:Nat) (e:TypeId) (i:TypeInfo) (z:Value) (size bytes:Nat) (ht:P.underlying t=some (.slice e)) (hi:P.info? e=some i) (hz:i.zero=some z)
    (O:i.size=size) (a7:i.bytes=bytes) (aa:z.cells.size=size) (a6:0<size)
    (v:Value) (n:Nat) (xs:List Value) (hs:a.eval s=v) (G:w.ownsRow base e size v n xs)
    (ad:Addr) (m c:Nat) (news:List Value) (hx:a.eval x=.slice (some ad) m c) (hl:news.length=m*size) (N:∀ j u,news[j]?=some u→w.cell? (ad.add j)=some u) (h1:∀ u∈news,u.oneCell'=true)
    (hm:0<m) (a9:n+m≤maxLen) (I:(n+m)*bytes≤140737488355328) (U:base≤w.heap.size)
    (h:∀ g J w',w'.ownsRow base e size (.slice (some ⟨g,0,none⟩) (n+m) J) (n+m) (xs++news)→w.grownBy w' v.ownBlock→(v.ownBlock=some g∨(g=w.heap.size∧∀ k,k<w.heap.size→w'.heap[k]?=w.heap[k]?))→g<w'.heap.size→K (a.put o.dst (.slice (some ⟨g,0,none⟩) (n+m) J)) w') :
    if Region.wanted o (yielded aj a.tmps)=true then Oper.wp P o a w K Q else E:=by
 have hw:Region.wanted o (yielded aj a.tmps)=true:=by simp [Region.wanted,aA]
 rw [if_pos hw];obtain ⟨g,J,w',hr,h2,h3,h4,h5⟩:=run_append_keep (P:=P) w t o.type base e i z size bytes ht hi hz O a7 aa a6 v n xs G ad m c news hl N h1 hm a9 I U;unfold Oper.wp execOp;simp only [ho,resolve,invoke,builtin,Sem.run_bind,Sem.run_pure,Result.andThen_ok,List.map_toArray,List.map_cons,List.map_nil,hs,hx,hr];exact h g J w' h2 h3 h4 h5
theorem setCell_self {w:World} {b o:Nat} {v:Value} (h:w.cell? ⟨b,o,none⟩=some v):w.setCell ⟨b,o,none⟩ v=w:=by
 have hh:(w.setCell ⟨b,o,none⟩ v).heap=w.heap:=by
  apply Array.ext_getElem?;intro i;by_cases hi:i=b
  · subst hi;unfold World.cell? at h
    split at h
    · rename_i cs t fr hc
      have aD:w.heap[i]?=some (.cells cs t fr):=hc;simp only [World.setCell,Array.getElem?_modify,if_pos,aD,Option.map_some];simp at h;simp;apply Array.ext_getElem?;intro j;rw [Array.getElem?_setIfInBounds]
      split
      · rename_i e;subst e;rw [h];have:=(Array.getElem?_eq_some_iff.1 h).1;simp [this]
      rfl
    simp at h
  exact Below.heap_setCell _ _ _ _ (by show i≠b;exact hi)
 exact congrArg (fun q=>{ w with heap:=q }) hh
def zero4:List Value:=[.int .i64 0,.slice none 0 0,.slice none 0 0,.slice none 0 0]
theorem put_kids {lo:Nat} {w w2:World} {X D b o e:Nat} {c c':CN} {L L':List (Addr × IntKind)} (h:Bent w X D c L b o (e+1) c' L') (hX:X<w.heap.size) (aP:lo≤w.heap.size) (hL:∀ x∈L,lo≤x.1.block∧x.1.block<w.heap.size) {ka:Option Addr} {kn kc:Nat} (h3:w.cell? ⟨b,o+3,none⟩=some (.slice ka kn kc))
    {n:Nat} {xs:List Value} (G:w.ownsRow 0 37 4 (.slice ka kn kc) n xs) (V:∀ g,(Value.slice ka kn kc).ownBlock=some g→((⟨g,0,none⟩,.i64):Addr × IntKind)∈L∧∀ x∈L,x.1.block=g→x.1.off+4≤n*4)
    {g J:Nat} (Y:w2.ownsRow 0 37 4 (.slice (some ⟨g,0,none⟩) (n+1) J) (n+1) (xs++zero4)) (hg:w.grownBy w2 (Value.slice ka kn kc).ownBlock) (F:(Value.slice ka kn kc).ownBlock=some g∨(g=w.heap.size∧∀ k,k<w.heap.size→w2.heap[k]?=w.heap[k]?)) (aQ:g<w2.heap.size) :
    ∃ c'',RdS lo w2.heap.size (w2.setCell ⟨b,o+3,none⟩ (.slice (some ⟨g,0,none⟩) (n+1) J)) (D+(e+2)) X 0 c''∧c''.bulk≤c.bulk+(c'.bulk+1):=by
 have an:∀ q,q<w.heap.size→(∀ x∈L,x.1.block≠q)→w2.heap[q]?=w.heap[q]?:=by
  intro q hq hn;rcases F with F | ⟨_,F⟩
  · exact hg.block q hq (fun e=>hn _ (V q e.symm).1 rfl)
  exact F q hq
 have ay:kn=n:=by
  rcases G.2 with ⟨q,rfl⟩ | ⟨_,_,_,q,_⟩
  · simp only [Value.slice.injEq] at q;exact q.2.1
  simp only [Value.slice.injEq] at q;exact q.2.1
 subst ay;have ar:=G.1
 have a3:KcL w w2 L:=by
  intro x hx i hi v hv;rcases F with F | ⟨_,F⟩
  · by_cases hbl:x.1.block=g
    · have ag:=(V g F).2 x hx hbl
      have ab:∃ cc,ka=some ⟨g,0,none⟩∧cc=kc:=by
       rcases G.2 with ⟨q,_⟩ | ⟨g',_,_,q,_⟩
       · simp only [Value.slice.injEq] at q;rw [q.1] at F;simp [Value.ownBlock] at F
       simp only [Value.slice.injEq] at q;rw [q.1] at F;simp [Value.ownBlock] at F;exact ⟨kc,by rw [q.1,F],rfl⟩
      obtain ⟨cc,ac,_⟩:=ab;subst ac;rw [hbl] at hv ⊢;rw [G.cellAt (x.1.off+i) (by omega)] at hv;rw [Y.cellAt (x.1.off+i) (by omega),List.getElem?_append_left (by omega)];exact hv
    rw [← hv];exact World.cell?_of_block (hg.block _ (hL x hx).2 (fun e=>hbl (by rw [F] at e;simpa using e)))
  rw [← hv];exact World.cell?_of_block (F _ (hL x hx).2)
 have ap:KcS w w2 X 0:=fun i hi v hv=>by rw [← hv];exact World.cell?_of_block (an X hX h.nm)
 have aH:KcS w w2 b o:=by
  rcases h.at_ with e | e
  · subst e;intro i hi v hv;rw [← hv];exact World.cell?_of_block (an _ hX h.nm)
  exact fun i hi v hv=>a3 _ e i hi v hv
 have a8:b<w.heap.size:=by
  rcases h.at_ with e | e
  · rw [e];exact hX
  exact (hL _ e).2
 have af:=h.own.kc ap a3;have path2:=h.path.kc h.own ap a3;have Z:=h.sub.kc aH (fun x hx=>a3 x (h.sin x hx));have a6:w.heap.size≤w2.heap.size:=hg.size;obtain ⟨W,hW⟩:∃ W,W=w2.setCell ⟨b,o+3,none⟩ (.slice (some ⟨g,0,none⟩) (kn+1) J):=⟨_,rfl⟩;have hO:OffS w2 W b o:=by rw [hW];exact offS_set w2 b o 3 _ (by omega)
 have aG:W.heap.size=w2.heap.size:=by rw [hW];simp
 rw [← hW,← aG];obtain ⟨na,nn,nc,ra,rn,rc,ka',kn',kc',c0,c1,c2,c3,hr⟩:=Z.old hO h.snm (hi:=W.heap.size) (fun x hx=>by have:=hL x (h.sin x hx);exact ⟨this.1,by omega⟩)
 have a0:kn+1≤J∧J≤9223372036854775807:=by
  rcases Y.2 with ⟨q,_⟩ | ⟨_,_,_,q,_,_,q1,q2,_⟩
  · simp at q
  simp only [Value.slice.injEq] at q;obtain ⟨_,_,rfl⟩:=q;exact ⟨q1,by unfold maxLen at q2;omega⟩
 have a4:∀ j,j<(kn+1)*4→(g≠b∨j≠o+3)→W.cell? ⟨g,j,none⟩=(xs++zero4)[j]?:=by
  intro j hj aM;rw [hW,World.cell?_setCell_other _ _ _ _ (fun e=>by simp only [Addr.mk.injEq,and_true] at e;omega)];exact Y.cellAt j hj
 have a2:g=b→(Value.slice ka kn kc).ownBlock=some g∧o+4≤kn*4:=by
  intro e;rcases F with F | ⟨F,_⟩
  · refine ⟨F,?_⟩;rcases h.at_ with e' | e'
    · exact absurd (by show g=X;omega) (h.nm _ (V g F).1)
    exact (V g F).2 _ e' e.symm
  omega
 have ak:c'.kids.length=kn:=by
  obtain ⟨_,n',_,q,q2,_⟩:∃ a n k,w.cell? ⟨b,o+3,none⟩=some (.slice a n k)∧n=c'.kids.length∧True:=by
   obtain ⟨v0,v1,v2,v3,_,_,_,c3,hr⟩:=h.sub;obtain ⟨na,nn,nc,ra,rn,rc,ka,kn',kc',bn,on,br,or,bk',ok',Ls,hv,q1,q2,q3,rfl⟩:=hr;simp only [Value.agg.injEq,Array.mk.injEq,List.cons.injEq,and_true] at hv;obtain ⟨rfl,rfl,rfl,rfl⟩:=hv;exact ⟨_,_,_,c3,q3.len.symm,trivial⟩
  rw [h3] at q;simp only [Option.some.injEq,Value.slice.injEq] at q;omega
 have ai:lo≤g:=by
  rcases F with F | ⟨F,_⟩
  · exact (hL _ (V g F).1).1
  omega
 have a5:RdL (RdC lo W.heap.size W (e+1)) lo W.heap.size W (some ⟨g,0,none⟩) (kn+1) J (c'.kids++[CN.zero]):=by
  refine ⟨by simp [ak],a0,.inr ⟨g,0,rfl,ai,by omega,fun i hi=>?_⟩⟩;by_cases hin:i<kn
  · obtain ⟨v0,v1,v2,v3,d0,d1,d2,d3,hs⟩:=h.sub;have ab:=slot_of hs d0 d1 d2 d3;obtain ⟨na,nn,nc,ra,rn,rc,aK,aI,aJ,bn,on,br,or,bk,ok,Ls,hv,q1,q2,q3,ao⟩:=hs;simp only [Value.agg.injEq,Array.mk.injEq,List.cons.injEq,and_true] at hv;obtain ⟨rfl,rfl,rfl,rfl⟩:=hv;rw [h3] at d3;simp only [Option.some.injEq,Value.slice.injEq] at d3;obtain ⟨rfl,rfl,rfl⟩:=d3;rcases q3.cells with q | ⟨rfl,q⟩
    · omega
    obtain ⟨u0,u1,u2,u3,f0,f1,f2,f3,hs⟩:=q i hin
    have ax:ok=0:=by
     rcases G.2 with ⟨q,_⟩ | ⟨_,_,_,q,_⟩
     · simp at q
     simp only [Value.slice.injEq,Option.some.injEq,Addr.mk.injEq,and_true] at q;exact q.1.2
    subst ax;have ah:((⟨bk,0+i*4,none⟩,.i64):Addr × IntKind)∈L':=by rw [ao];simp only [List.mem_append];exact .inr (.inr (mem_leafK.2 ⟨i,hin,.inl rfl⟩))
    have au:=slot_of hs f0 f1 f2 f3
    have H:∀ t u,t<4→w.cell? ⟨bk,0+i*4+t,none⟩=some u→W.cell? ⟨g,0+i*4+t,none⟩=some u:=by
     intro t u ht hu;have aq:xs[0+i*4+t]?=some u:=by rw [← hu];exact (G.cellAt _ (by omega)).symm
     rw [a4 _ (by omega) ?_,List.getElem?_append_left (by omega)]
     · exact aq
     by_cases e:g=b
     · right
       have aF:bk=b:=by have:=(a2 e).1;simp [Value.ownBlock] at this;omega
       subst aF;have:=ab.apart au (fun e=>h.snm (List.mem_map.2 ⟨_,ah,by rw [e]⟩));omega
     exact .inl e
    have ae:∀ x∈Ls i,x∈L':=fun x hx=>by rw [ao];simp only [List.mem_append];exact .inr (.inr (mem_leafK.2 ⟨i,hin,.inr hx⟩))
    have av:=OwC.off hO Z.slot (hs.kc (fun x hx=>a3 x (h.sin x (ae x hx)))) (fun x hx e=>h.snm (List.mem_map.2 ⟨x,ae x hx,e⟩));refine ⟨u0,u1,u2,u3,H 0 u0 (by omega) f0,H 1 u1 (by omega) f1,H 2 u2 (by omega) f2,H 3 u3 (by omega) f3,?_⟩
    have eg:(c'.kids++[CN.zero]).getD i CN.zero=c'.kids.getD i CN.zero:=by
     simp only [List.getD];rw [List.getElem?_append_left (by omega)]
    rw [eg];exact (av.rd (lo:=lo) (hi:=W.heap.size) (fun x hx=>(by have:=hL x (h.sin x (ae x hx));exact ⟨this.1,by omega⟩))).higher (by omega)
  have az:i=kn:=by omega
  subst az
  have H:∀ t u,t<4→zero4[t]?=some u→W.cell? ⟨g,0+i*4+t,none⟩=some u:=by
   intro t u ht hu;rw [a4 _ (by omega) ?_,List.getElem?_append_right (by omega)]
   · have:0+i*4+t - xs.length=t:=by omega
     rw [this];exact hu
   by_cases e:g=b
   · right;have:=(a2 e).2;omega
   exact .inl e
  refine ⟨_,_,_,_,H 0 _ (by omega) rfl,H 1 _ (by omega) rfl,H 2 _ (by omega) rfl,H 3 _ (by omega) rfl,?_⟩
  have eg:(c'.kids++[CN.zero]).getD i CN.zero=CN.zero:=by
   simp only [List.getD];rw [List.getElem?_append_right (by omega)];simp [ak]
  rw [eg];have h0:Rd lo W.heap.size W none 0 0 []:=⟨rfl,⟨by simp,by omega⟩,by simp,.inl rfl⟩;exact ⟨none,0,0,none,0,0,none,0,0,rfl,h0,h0,⟨rfl,⟨by simp,by omega⟩,.inl rfl⟩⟩
 have hR:RdS lo W.heap.size W (e+2) b o (.mk c'.kind c'.name c'.role (c'.kids++[CN.zero])):=by
  refine ⟨_,_,_,_,?_,?_,?_,?_,(hr.higher (Nat.le_succ _)).setKids a5⟩
  · rw [hW,World.cell?_setCell_other _ _ _ _ (by simp)];exact c0
  · rw [hW,World.cell?_setCell_other _ _ _ _ (by simp)];exact c1
  · rw [hW,World.cell?_setCell_other _ _ _ _ (by simp)];exact c2
  rw [hW];exact World.cell?_setCell_same _ _ _ c3
 obtain ⟨c'',q1,q2⟩:=put_any af h.nd h.nm path2 Z.slot hO (fun x hx=>by have:=hL x hx;exact ⟨this.1,by omega⟩) hR;refine ⟨c'',q1,?_⟩;have:=c'.bulk_eq;rw [CN.bulk,bulks_append] at q2;simp only [bulks,CN.zero,CN.bulk,List.length_nil] at q2;omega
theorem kid_facts {lo:Nat} {w w2:World} {X D b o e:Nat} {c c':CN} {L L':List (Addr × IntKind)} (h:Bent w X D c L b o (e+1) c' L') (hX:X<w.heap.size) (hL:∀ x∈L,lo≤x.1.block∧x.1.block<w.heap.size) {ka:Option Addr} {kn kc:Nat} (h3:w.cell? ⟨b,o+3,none⟩=some (.slice ka kn kc)) (hf:∀ i,w.frozen? ⟨b,i,none⟩=false)
    {n:Nat} {xs:List Value} (G:w.ownsRow 0 37 4 (.slice ka kn kc) n xs) (V:∀ g,(Value.slice ka kn kc).ownBlock=some g→((⟨g,0,none⟩,.i64):Addr × IntKind)∈L∧∀ x∈L,x.1.block=g→x.1.off+4≤n*4)
    {g J:Nat} (Y:w2.ownsRow 0 37 4 (.slice (some ⟨g,0,none⟩) (n+1) J) (n+1) (xs++zero4)) (hg:w.grownBy w2 (Value.slice ka kn kc).ownBlock) (F:(Value.slice ka kn kc).ownBlock=some g∨(g=w.heap.size∧∀ k,k<w.heap.size→w2.heap[k]?=w.heap[k]?)) :
    (w2.cell? ⟨b,o+3,none⟩=some (.slice ka kn kc)∧w2.frozen? ⟨b,o+3,none⟩=false) ∧
    (w2.setCell ⟨g,n*4,none⟩ (.int .i64 0)=w2∧w2.setCell ⟨g,n*4+1,none⟩ (.slice none 0 0)=w2∧w2.setCell ⟨g,n*4+2,none⟩ (.slice none 0 0)=w2∧w2.setCell ⟨g,n*4+3,none⟩ (.slice none 0 0)=w2) ∧
    (w2.cell? ⟨g,n*4,none⟩=some (.int .i64 0)∧w2.cell? ⟨g,n*4+1,none⟩=some (.slice none 0 0)∧w2.cell? ⟨g,n*4+2,none⟩=some (.slice none 0 0)∧w2.cell? ⟨g,n*4+3,none⟩=some (.slice none 0 0)) ∧
    (∀ i,w2.frozen? ⟨g,i,none⟩=false)∧(g≠b∨o+3<n*4)∧(b<w.heap.size):=by
 have ar:=G.1
 have a8:b<w.heap.size:=by
  rcases h.at_ with e | e
  · rw [e];exact hX
  exact (hL _ e).2
 have a2:g≠b∨o+3<n*4:=by
  by_cases e:g=b
  · right
    rcases F with F | ⟨F,_⟩
    · rcases h.at_ with e' | e'
      · exact absurd (by show g=X;omega) (h.nm _ (V g F).1)
      have:=(V g F).2 _ e' e.symm;simp only at this;omega
    omega
  exact .inl e
 have hq:∀ t u,t<4→zero4[t]?=some u→w2.cell? ⟨g,n*4+t,none⟩=some u:=by
  intro t u ht hu;rw [Y.cellAt _ (by omega),List.getElem?_append_right (by omega)];have:n*4+t - xs.length=t:=by omega
  rw [this];exact hu
 have am:∀ i,w2.frozen? ⟨g,i,none⟩=false:=by
  intro i;rcases Y.2 with ⟨q,_⟩ | ⟨g',_,cur,q,_,aB,_⟩
  · simp at q
  simp only [Value.slice.injEq,Option.some.injEq,Addr.mk.injEq,and_true] at q;obtain ⟨rfl,_⟩:=q;simp [World.frozen?,aB]
 have hy:w2.cell? ⟨b,o+3,none⟩=some (.slice ka kn kc)∧w2.frozen? ⟨b,o+3,none⟩=false:=by
  by_cases e:some b=(Value.slice ka kn kc).ownBlock∧w2.heap[b]?≠w.heap[b]?
  · have T:(Value.slice ka kn kc).ownBlock=some g:=by
     rcases F with F | ⟨_,F⟩
     · exact F
     exact absurd (F b a8) e.2
    have aE:g=b:=by have:=e.1;rw [T] at this;simpa using this.symm
    subst aE;refine ⟨?_,am _⟩
    have ag:o+3<n*4:=by
     rcases a2 with q | q
     · exact absurd rfl q
     exact q
    have ac:ka=some ⟨g,0,none⟩∧kn=n:=by
     rcases G.2 with ⟨q,_⟩ | ⟨g',_,_,q,_⟩
     · rw [q] at T;simp [Value.ownBlock] at T
     simp only [Value.slice.injEq] at q;rw [q.1] at T;simp [Value.ownBlock] at T;exact ⟨by rw [q.1,T],q.2.1⟩
    obtain ⟨rfl,rfl⟩:=ac;rw [Y.cellAt _ (by omega),List.getElem?_append_left (by omega),← h3];exact (G.cellAt _ (by omega)).symm
  have hh:w2.heap[b]?=w.heap[b]?:=by
   by_cases e1:some b=(Value.slice ka kn kc).ownBlock
   · exact Classical.byContradiction (fun q=>e ⟨e1,q⟩)
   exact hg.block b a8 e1
  exact ⟨(World.cell?_of_block (w:=w) (by exact hh)).trans h3,(World.frozen?_of_block (w:=w) (by exact hh)).trans (hf _)⟩
 have q0:=hq 0 _ (by omega) rfl;have q1:=hq 1 _ (by omega) rfl;have q2:=hq 2 _ (by omega) rfl;have q3:=hq 3 _ (by omega) rfl;exact ⟨hy,⟨setCell_self q0,setCell_self q1,setCell_self q2,setCell_self q3⟩,⟨q0,q1,q2,q3⟩,am,a2,a8⟩
theorem kid_facts2 {w2:World} {g b o n:Nat} {v:Value} (a2:g≠b∨o+3<n*4) (h:w2.cell? ⟨g,n*4,none⟩=some (.int .i64 0)∧w2.cell? ⟨g,n*4+1,none⟩=some (.slice none 0 0)∧w2.cell? ⟨g,n*4+2,none⟩=some (.slice none 0 0)∧w2.cell? ⟨g,n*4+3,none⟩=some (.slice none 0 0)) :
    ((w2.setCell ⟨b,o+3,none⟩ v).cell? ⟨g,n*4,none⟩=some (.int .i64 0)∧(w2.setCell ⟨b,o+3,none⟩ v).cell? ⟨g,n*4+1,none⟩=some (.slice none 0 0)∧(w2.setCell ⟨b,o+3,none⟩ v).cell? ⟨g,n*4+2,none⟩=some (.slice none 0 0)∧(w2.setCell ⟨b,o+3,none⟩ v).cell? ⟨g,n*4+3,none⟩=some (.slice none 0 0)) ∧
    ((w2.setCell ⟨b,o+3,none⟩ v).setCell ⟨g,n*4,none⟩ (.int .i64 0)=w2.setCell ⟨b,o+3,none⟩ v∧(w2.setCell ⟨b,o+3,none⟩ v).setCell ⟨g,n*4+1,none⟩ (.slice none 0 0)=w2.setCell ⟨b,o+3,none⟩ v∧(w2.setCell ⟨b,o+3,none⟩ v).setCell ⟨g,n*4+2,none⟩ (.slice none 0 0)=w2.setCell ⟨b,o+3,none⟩ v∧(w2.setCell ⟨b,o+3,none⟩ v).setCell ⟨g,n*4+3,none⟩ (.slice none 0 0)=w2.setCell ⟨b,o+3,none⟩ v):=by
 have hk:∀ t,(w2.setCell ⟨b,o+3,none⟩ v).cell? ⟨g,n*4+t,none⟩=w2.cell? ⟨g,n*4+t,none⟩:=fun t=>World.cell?_setCell_other _ _ _ _ (fun e=>by simp only [Addr.mk.injEq,and_true] at e;omega)
 have q0:=(hk 0).trans h.1;have q1:=(hk 1).trans h.2.1;have q2:=(hk 2).trans h.2.2.1;have q3:=(hk 3).trans h.2.2.2;exact ⟨⟨q0,q1,q2,q3⟩,setCell_self q0,setCell_self q1,setCell_self q2,setCell_self q3⟩
end

end Go.Proofs.YtocpeiaolofodaaGreat
