/- Several texts in one: ReadOwn, ReadS1, ConOwnS, ReadS2, ReadS3, ReadS4, ReadS5, KrI1. -/
import Derived.Test.YtocpeiaolofodaaGreatNG16
import Derived.Test.YtocpeiaolofodaaGreatNG6
import Derived.Deep.QuietTactic
import Derived.BigQuiet
import Derived.Deep.RegionHeldLaw
import Derived.Deep.RegionHeld
import Derived.Deep.RegionLaw
import Derived.Deep.AppendLies
import Derived.Test.YtocpeiaolofodaaGreatNG13
import Derived.Test.YtocpeiaolofodaaGreatNG17
namespace Go.Proofs.YtocpeiaolofodaaGreat

section
open Go.RowKit
def Use (ts:List Tok) (gs:List (Nat × Nat)) (i j s s':Nat) (L:List (Addr × IntKind)):Prop :=
 ∀ x∈L,(s≤x.1.block∧x.1.block<s')∨∃ t,i≤t∧t<j∧t<ts.length∧(ts.getD t Tok.zero).text≠[]∧x.1.block=(gs.getD t (0,0)).1
theorem Use.nil (ts:List Tok) (gs:List (Nat × Nat)) (i j s s':Nat):Use ts gs i j s s' []:=fun x hx=>by simp at hx
theorem Use.mono {ts:List Tok} {gs:List (Nat × Nat)} {i j s s' i' j' r r':Nat} {L:List (Addr × IntKind)} (h:Use ts gs i j s s' L) (h1:i'≤i) (h2:j≤j') (h3:r≤s) (h4:s'≤r'):Use ts gs i' j' r r' L:=by
 intro x hx;rcases h x hx with ⟨a,b⟩ | ⟨t,a,b,c⟩
 · exact .inl ⟨by omega,by omega⟩
 exact .inr ⟨t,by omega,by omega,c⟩
theorem Use.append {ts:List Tok} {gs:List (Nat × Nat)} {i j s s':Nat} {L M:List (Addr × IntKind)} (h:Use ts gs i j s s' L) (k:Use ts gs i j s s' M):Use ts gs i j s s' (L++M):=by
 intro x hx;rcases List.mem_append.1 hx with hx | hx
 · exact h x hx
 exact k x hx
theorem Use.lt {base pb:Nat} {w:World} {g:Nat} {ts:List Tok} {gs:List (Nat × Nat)} {i j s s':Nat} {L:List (Addr × IntKind)} (h:Use ts gs i j s s' L) (hT:TkM base pb w g ts gs) (hs:pb≤s'):∀ x∈L,x.1.block<s':=by
 intro x hx;rcases h x hx with ⟨a,b⟩ | ⟨t,a,b,c,d,e⟩
 · exact b
 have:=(hT.txt t c d).1;omega
theorem Use.ge {base pb:Nat} {w:World} {g:Nat} {ts:List Tok} {gs:List (Nat × Nat)} {i j s s':Nat} {L:List (Addr × IntKind)} (h:Use ts gs i j s s' L) (hT:TkM base pb w g ts gs) (hs:base≤s):∀ x∈L,base≤x.1.block:=by
 intro x hx;rcases h x hx with ⟨a,b⟩ | ⟨t,a,b,c,d,e⟩
 · omega
 have:=(hT.txt t c d).1;omega
theorem Use.ne {base pb:Nat} {w:World} {g:Nat} {ts:List Tok} {gs:List (Nat × Nat)} {i j s s':Nat} {L:List (Addr × IntKind)} (h:Use ts gs i j s s' L) (hT:TkM base pb w g ts gs) {o:Nat} (h1:pb≤o) (h2:o<s):∀ x∈L,x.1.block≠o:=by
 intro x hx;rcases h x hx with ⟨a,b⟩ | ⟨t,a,b,c,d,e⟩
 · omega
 have:=(hT.txt t c d).1;omega
theorem Use.disj {base pb:Nat} {w:World} {g:Nat} {ts:List Tok} {gs:List (Nat × Nat)} {i j s s' i' j' r r':Nat} {L M:List (Addr × IntKind)} (h:Use ts gs i j s s' L) (k:Use ts gs i' j' r r' M) (hT:TkM base pb w g ts gs) (h1:j≤i') (h2:s'≤r) (h3:pb≤s) (h4:s≤r) :
    ∀ x∈L,∀ y∈M,x.1.block≠y.1.block:=by
 intro x hx y hy;rcases h x hx with ⟨a,b⟩ | ⟨t,a,b,c,d,e⟩ <;> rcases k y hy with ⟨a',b'⟩ | ⟨t',a',b',c',d',e'⟩
 · omega
 · have:=(hT.txt t' c' d').1;omega
 · have:=(hT.txt t c d).1;omega
 rw [e,e'];exact hT.dist t t' (by omega) c' d d'
structure OwnR (ts:List Tok) (gs:List (Nat × Nat)) (i j s:Nat) (w:World) (d:Nat) (v:Value) (c:CN) (L:List (Addr × IntKind)):Prop where
 ow:OwC w d v c L
 nd:(L.map (·.1)).Nodup
 fr:∀ x∈L,w.frozen? x.1=false
 us:Use ts gs i j s w.heap.size L
theorem OwnR.bt {base pb:Nat} {g:Nat} {ts:List Tok} {gs:List (Nat × Nat)} {i j s:Nat} {w w' w0:World} {d:Nat} {v:Value} {c:CN} {L:List (Addr × IntKind)} (h:OwnR ts gs i j s w d v c L) (hT:TkM base pb w0 g ts gs) (hs:pb<s) (hb:Bt pb w.heap.size w w') (hp:pb≤w.heap.size):OwnR ts gs i j s w' d v c L:=by
 have h1:=h.us.lt hT hp;have h2:=h.us.ne hT (Nat.le_refl pb) hs;exact ⟨h.ow.keep (fun x hx=>hb.block _ (h1 x hx) (h2 x hx)),h.nd,fun x hx=>(World.frozen?_of_block (w:=w) (hb.block _ (h1 x hx) (h2 x hx))).trans (h.fr x hx),h.us.mono (Nat.le_refl _) (Nat.le_refl _) (Nat.le_refl _) hb.size⟩
theorem RowK.keepG {base pb:Nat} {w w':World} {d:Nat} {v:Value} {cs:List CN} {Ls:List (List (Addr × IntKind))} {xs:List Value} (h:RowK base w d v cs Ls xs) (hb:Bt pb w.heap.size w w') (h1:∀ x∈Ls.flatten,x.1.block≠pb) (h2:pb<base):RowK base w' d v cs Ls xs:=by
 have T:=h.row.lt;obtain ⟨g1,g2,g3,g4,g5⟩:=h;refine ⟨g1,?_,fun j hj=>?_,fun x hx=>Nat.lt_of_lt_of_le (g4 x hx) hb.size,g5⟩
 · obtain ⟨q1,q2⟩:=g2;refine ⟨q1,?_⟩;rcases q2 with q | ⟨g,A,cur,rfl,hg,hh,r⟩
   · exact .inl q
   exact .inr ⟨g,A,cur,rfl,hg,by rw [hb.block g (T g rfl).2 (by omega)];exact hh,r⟩
 obtain ⟨v0,v1,v2,v3,c0,c1,c2,c3,hr⟩:=g3 j hj;exact ⟨v0,v1,v2,v3,c0,c1,c2,c3,hr.keep (fun x hx=>hb.block _ (g4 x (getD_mem_flatten hx)) (h1 x (getD_mem_flatten hx)))⟩
def RolR (w:World) (rv:Value) (role:List Int) (br:Nat):Prop:=∃ a c,rv=.slice a role.length c∧OwB w a role.length c role br 0∧(role≠[]→∀ o,o<role.length→w.frozen? ⟨br,o,none⟩=false)
theorem OwB.keepN {w w':World} {a:Option Addr} {n A:Nat} {zs:List Int} {b off:Nat} (h:OwB w a n A zs b off) (hk:zs≠[]→w'.heap[b]?=w.heap[b]?):OwB w' a n A zs b off:=by
 refine h.keep (fun x hx=>?_);obtain ⟨j,hj,rfl⟩:=mem_leafB.1 hx;exact hk (fun e=>by have:=h.len;rw [e] at this;simp at this;omega)
theorem RolR.keep {w w':World} {rv:Value} {role:List Int} {br:Nat} (h:RolR w rv role br) (hk:role≠[]→w'.heap[br]?=w.heap[br]?):RolR w' rv role br:=by
 obtain ⟨a,c,h1,h2,h3⟩:=h;exact ⟨a,c,h1,h2.keepN hk,fun hn o ho=>(World.frozen?_of_block (w:=w) (by exact hk hn)).trans (h3 hn o ho)⟩
theorem RolR.nil (w:World) (br:Nat):RolR w (.slice none 0 0) [] br:=⟨none,0,rfl,⟨rfl,⟨by simp,by omega⟩,by simp,.inl rfl⟩,fun h=>absurd rfl h⟩
theorem RolR.isSlice {w:World} {rv:Value} {role:List Int} {br:Nat} (h:RolR w rv role br):∃ a n c,rv=.slice a n c:=by
 obtain ⟨a,c,h,_⟩:=h;exact ⟨_,_,_,h⟩
structure InvR (pb:Nat) (ts:List Tok) (gs:List (Nat × Nat)) (i0:Nat) (w:World) (B ob d:Nat) (k:Int) (rv:Value) (role:List Int) (br:Nat) (wr:World) (kv:Value) (cs:List CN) (Ls:List (List (Addr × IntKind))) (xs:List Value) (j:Nat):Prop where
 row:RowK B wr d kv cs Ls xs
 nd:(Ls.flatten.map (·.1)).Nodup
 fr:∀ x∈Ls.flatten,wr.frozen? x.1=false
 us:Use ts gs i0 j B wr.heap.size Ls.flatten
 box:BoxC wr ob (.int .i64 k) (.slice none 0 0) rv kv
 rol:RolR wr rv role br
 bt:Bt pb w.heap.size w wr
 sz:B≤wr.heap.size
structure StatR (pb:Nat) (w:World) (B ob br:Nat) (role:List Int):Prop where
 o0:w.heap.size≤ob
 o1:ob<B
 p:pb<w.heap.size
 br:role≠[]→br<B∧br≠ob∧br≠pb
theorem InvR.keep {base pb g:Nat} {ts:List Tok} {gs:List (Nat × Nat)} {i0:Nat} {w w0:World} {B ob d:Nat} {k:Int} {rv:Value} {role:List Int} {br:Nat} {wr w':World} {kv:Value} {cs:List CN} {Ls:List (List (Addr × IntKind))} {xs:List Value} {j:Nat}
    (h:InvR pb ts gs i0 w B ob d k rv role br wr kv cs Ls xs j) (hS:StatR pb w B ob br role) (hT:TkM base pb w0 g ts gs) (hb:Bt pb wr.heap.size wr w'):InvR pb ts gs i0 w B ob d k rv role br w' kv cs Ls xs j:=by
 have o0:=hS.o0;have o1:=hS.o1;have p:=hS.p;have sz:=h.sz;have T:=h.row.lt;have a4:=h.us.ne hT (Nat.le_refl pb) (by omega);refine ⟨h.row.keepG hb a4 (by omega),h.nd,fun x hx=>(World.frozen?_of_block (w:=wr) (hb.block _ (T x hx) (a4 x hx))).trans (h.fr x hx),h.us.mono (Nat.le_refl _) (Nat.le_refl _) (Nat.le_refl _) hb.size,(hb.block ob (by omega) (by omega)).trans h.box,h.rol.keep (fun hn=>hb.block _ ?_ (hS.br hn).2.2),h.bt.trans (hb.mono h.bt.size),Nat.le_trans sz hb.size⟩;have:=(hS.br hn).1;omega
theorem InvR.app {base pb g0:Nat} {ts:List Tok} {gs:List (Nat × Nat)} {i0:Nat} {w w0:World} {B ob d:Nat} {k:Int} {rv:Value} {role:List Int} {br:Nat} {W w6:World} {kv:Value} {cs:List CN} {Ls:List (List (Addr × IntKind))} {xs:List Value} {j j':Nat}
    (hS:StatR pb w B ob br role) (hT:TkM base pb w0 g0 ts gs) (h:InvR pb ts gs i0 w B ob d k rv role br W kv cs Ls xs j) {Bk:Nat} (hu:Use ts gs i0 j B Bk Ls.flatten) (ac:∀ g,kv.ownBlock=some g→g<Bk) (a6:B≤Bk)
    {c:CN} {L:List (Addr × IntKind)} {v0 v1 v2 v3:Value} {g A n:Nat} (hc:OwnR ts gs j j' Bk W d (.agg #[v0,v1,v2,v3]) c L) (X:i0≤j) (V:j≤j') (hn:n=cs.length+1)
    (G:w6.ownsRow B 37 4 (.slice (some ⟨g,0,none⟩) n A) n (xs++[v0,v1,v2,v3])) (z:W.grownBy w6 kv.ownBlock) (ad:kv.ownBlock=some g∨g=W.heap.size) :
    BoxC w6 ob (.int .i64 k) (.slice none 0 0) rv kv∧InvR pb ts gs i0 w B ob d k rv role br (w6.setCell ⟨ob,3,none⟩ (.slice (some ⟨g,0,none⟩) n A)) (.slice (some ⟨g,0,none⟩) n A) (cs++[c]) (Ls++[L]) (xs++[v0,v1,v2,v3]) j':=by
 subst hn;have o0:=hS.o0;have o1:=hS.o1;have p:=hS.p;have sz:=h.sz;have U:=h.row.row.lt;have H:∀ b,b<B→kv.ownBlock≠some b:=fun b hb e=>by have:=U b e;omega
 have a5:=hc.us.lt hT (by omega);have E:BoxC w6 ob (.int .i64 k) (.slice none 0 0) rv kv:=(z.block ob h.box.lt (fun e=>H ob o1 e.symm)).trans h.box
 have D:∀ x∈L,kv.ownBlock≠some x.1.block:=by
  intro x hx e;have h1:=ac _ e;have h2:=(U _ e).1;rcases hc.us x hx with ⟨a,b⟩ | ⟨t,a,b,c,d,e⟩
  · omega
  have:=(hT.txt t c d).1;omega
 have I:RowK B w6 d (.slice (some ⟨g,0,none⟩) (cs.length+1) A) (cs++[c]) (Ls++[L]) (xs++[v0,v1,v2,v3]) :=
  h.row.snoc hc.ow a5 D G z (by
   rcases ad with e | e
   · exact .inl (by rw [e];rfl)
   exact .inr (by rw [← e];rfl))
 have N:(Ls++[L]).flatten=Ls.flatten++L:=by simp
 have F:=hu.disj hc.us hT (Nat.le_refl j) (Nat.le_refl Bk) (by omega) a6
 have a1:∀ x∈Ls.flatten++L,w6.heap[x.1.block]?=W.heap[x.1.block]?:=by
  intro x hx;rcases List.mem_append.1 hx with hx | hx
  · exact z.block _ (h.row.lt x hx) (fun e=>h.row.off x hx e.symm)
  exact z.block _ (a5 x hx) (fun e=>D x hx e.symm)
 have a2:Use ts gs i0 j' B w6.heap.size (Ls.flatten++L):=(h.us.mono (Nat.le_refl _) V (Nat.le_refl _) z.size).append (hc.us.mono X (Nat.le_refl _) a6 z.size);have af:=G.lt g rfl;have J:RolR w6 rv role br:=h.rol.keep (fun hn=>z.block br (by have:=(hS.br hn).1;omega) (fun e=>H br (hS.br hn).1 e.symm));have a0:∀ x∈Ls.flatten++L,x.1.block≠ob:=a2.ne hT (by omega) o1;refine ⟨E,⟨I.set 3 _ (fun x hx=>by rw [N] at hx;exact a0 x hx) (fun e=>by simp only [Value.ownBlock,Option.some.injEq] at e;omega),?_,?_,?_,E.set3 _,J.keep (fun hn=>Below.heap_setCell _ _ _ _ (hS.br hn).2.1),(h.bt.grown z h.bt.size (fun x hx=>by have:=U x hx;omega)).set (.inl o0) _,?_⟩⟩
 · rw [N,List.map_append,List.nodup_append];refine ⟨h.nd,hc.nd,fun p hp q hq e=>?_⟩;subst e;simp only [List.mem_map] at hp hq;obtain ⟨x,hx,rfl⟩:=hp;obtain ⟨y,hy,e⟩:=hq;exact F x hx y hy (by rw [e])
 · intro x hx;rw [N] at hx
   have h1:w6.frozen? x.1=false:=by
    rw [World.frozen?_of_block (w:=W) (a1 x hx)];rcases List.mem_append.1 hx with hx | hx
    · exact h.fr x hx
    exact hc.fr x hx
   simpa using h1
 · rw [N];exact a2.mono (Nat.le_refl _) (Nat.le_refl _) (Nat.le_refl _) (by simp)
 have:=z.size;simp;omega
theorem InvR.whole {base pb g0:Nat} {ts:List Tok} {gs:List (Nat × Nat)} {i i0 s:Nat} {w w0:World} {B ob d:Nat} {k:Int} {rv:Value} {role:List Int} {br:Nat} {wr:World} {kv:Value} {cs:List CN} {Ls:List (List (Addr × IntKind))} {xs:List Value} {j:Nat}
    (h:InvR pb ts gs i0 w B ob d k rv role br wr kv cs Ls xs j) (hT:TkM base pb w0 g0 ts gs) (a7:pb≤s) (a3:s≤B) (X:i≤i0) (V:i0≤j) (O:Use ts gs i i0 s B (leafB br 0 role.length)) :
    ∃ L,OwnR ts gs i j s wr (d+1) (.agg #[.int .i64 k,.slice none 0 0,rv,kv]) (.mk k [] role cs) L:=by
 have sz:=h.sz;obtain ⟨ka,kc,bk,ab,ok,fk⟩:=h.row.owL;obtain ⟨ra,rc,a8,or,aa⟩:=h.rol;subst ab;subst a8;have ae:=h.row.len;have Y:SepK 0 wr Ls:=⟨h.nd,h.fr,fun _ _=>Nat.zero_le _⟩
 have Z:cs.length=0∨∀ x∈Ls.flatten,bk≠x.1.block:=by
  rcases fk with h0 | ⟨h0,_⟩
  · exact .inl h0
  exact .inr (fun x hx e=>h.row.off x hx (by rw [h0,e]))
 have mK:∀ x∈leafK bk 0 (fun i=>Ls.getD i []) cs.length,(x.1.block=bk∧B≤bk∧bk<wr.heap.size∨x∈Ls.flatten)∧wr.frozen? x.1=false:=by
  intro x hx;obtain ⟨i,hi,hx⟩:=mem_leafK.1 hx;rcases fk with h0 | ⟨h0,q1,q2,q3⟩
  · omega
  rcases hx with rfl | hx
  · exact ⟨.inl ⟨rfl,q1,q2⟩,q3 _⟩
  exact ⟨.inr (getD_mem_flatten hx),h.fr x (getD_mem_flatten hx)⟩
 have F:=O.disj h.us hT (Nat.le_refl i0) (Nat.le_refl B) a7 a3;have a9:∀ x∈leafB br 0 role.length,x.1.block<B:=O.lt hT (by omega);refine ⟨_,⟨⟨none,0,0,ra,role.length,rc,ka,cs.length,kc,0,0,br,0,bk,0,_,rfl,⟨rfl,⟨by simp,by omega⟩,by intro i;simp [CN.name],.inl rfl⟩,or,ok,rfl⟩,?_,?_,?_⟩⟩
 · rw [List.map_append,List.map_append];have e0:leafB 0 0 0=[]:=rfl;rw [e0,List.map_nil,List.nil_append,List.nodup_append];refine ⟨leafB_nodup _ _ _,?_,?_⟩
   · rcases Z with h0 | h0
     · rw [h0];simp [leafK]
     exact leafK_nodup Y h0 _ (by omega)
   intro p hp q hq e;subst e;simp only [List.mem_map] at hp hq;obtain ⟨x,hx,rfl⟩:=hp;obtain ⟨y,hy,e⟩:=hq;rcases (mK y hy).1 with ⟨e1,e2,_⟩ | hy
   · have:=a9 x hx;rw [e] at e1;omega
   exact F x hx y hy (by rw [e])
 · intro x hx;have e0:leafB 0 0 0=[]:=rfl;rw [e0,List.nil_append,List.mem_append] at hx;rcases hx with hx | hx
   · obtain ⟨j,hj,rfl⟩:=mem_leafB.1 hx;exact aa (fun e=>by rw [e] at hj;simp at hj) _ (by omega)
   exact (mK x hx).2
 intro x hx;have e0:leafB 0 0 0=[]:=rfl;rw [e0,List.nil_append,List.mem_append] at hx;rcases hx with hx | hx
 · exact (O.mono (Nat.le_refl _) V (Nat.le_refl _) sz) x hx
 rcases (mK x hx).1 with ⟨e1,e2,e3⟩ | hx
 · exact .inl ⟨by omega,by omega⟩
 exact (h.us.mono X (Nat.le_refl _) a3 (Nat.le_refl _)) x hx
end

section
open Go.RowKit
end

section
open Go.RowKit
def Fr (base:Nat) (w:World) (v:Value) (zs:List Int) (b:Nat):Prop:=∃ a c,v=.slice a zs.length c∧OwB w a zs.length c zs b 0∧(zs.length=0∨(base≤b∧b<w.heap.size))
theorem Fr.isSlice {base:Nat} {w:World} {v:Value} {zs:List Int} {b:Nat} (h:Fr base w v zs b):∃ a n c,v=.slice a n c:=by
 obtain ⟨a,c,h,_⟩:=h;exact ⟨_,_,_,h⟩
theorem Fr.below {base:Nat} {w w':World} {v:Value} {zs:List Int} {b:Nat} (h:Fr base w v zs b) (hb:Below w.heap.size w w'):Fr base w' v zs b:=by
 obtain ⟨a,c,h1,h2,h3⟩:=h;refine ⟨a,c,h1,h2.keep' ?_,?_⟩
 · rcases h3 with e | e
   · exact .inl e
   exact .inr (hb.block _ e.2)
 rcases h3 with e | e
 · exact .inl e
 exact .inr ⟨e.1,Nat.lt_of_lt_of_le e.2 hb.size⟩
theorem Fr.mono {base base':Nat} {w:World} {v:Value} {zs:List Int} {b:Nat} (h:Fr base w v zs b) (hb:base'≤base):Fr base' w v zs b:=by
 obtain ⟨a,c,h1,h2,h3⟩:=h;refine ⟨a,c,h1,h2,?_⟩;rcases h3 with e | e
 · exact .inl e
 exact .inr ⟨by omega,e.2⟩
theorem Fr.notBox {base:Nat} {w:World} {v:Value} {zs:List Int} {b o:Nat} {k:Int} {v1 v2 v3:Value} (h:Fr base w v zs b) (hb:BoxC w o (.int .i64 k) v1 v2 v3):zs.length=0∨b≠o:=by
 obtain ⟨a,c,h1,h2,h3⟩:=h;by_cases hz:zs.length=0
 · exact .inl hz
 refine .inr (fun e=>?_);subst e;rcases h2.cells with e | ⟨_,hc⟩
 · exact hz e
 have:=hc 0 (by omega);rw [Nat.add_zero,hb.cells.1] at this;simp at this
structure PreS (W0 W:World) (ov:Value) (k:Int) (name role:List Int) (ob bn br:Nat) (nv rv:Value):Prop where
 ptr:ov=.pointer (some ⟨ob,0,none⟩)
 box:BoxC W ob (.int .i64 k) nv rv (.slice none 0 0)
 ge:W0.heap.size≤ob
 bel:Below W0.heap.size W0 W
 nam:Fr W0.heap.size W nv name bn
 nne:name.length=0∨bn≠ob
 rol:Fr W0.heap.size W rv role br
 rne:role.length=0∨br≠ob
theorem PreS.last {W0 w1 w2:World} {k:Int} {nv rv:Value} {name role:List Int} {bn br:Nat} (h1:Fr W0.heap.size w1 nv name bn) (b1:Below W0.heap.size W0 w1) (h2:Fr w1.heap.size w2 rv role br) (b2:Below w1.heap.size w1 w2) :
    PreS W0 (w2.alloc (.cells #[.int .i64 k,nv,rv,.slice none 0 0] 37)) (.pointer (some ⟨w2.heap.size,0,none⟩)) k name role w2.heap.size bn br nv rv:=by
 have j:=b1.size;have F:=b2.size;have b3:Below w2.heap.size w2 (w2.alloc (.cells #[.int .i64 k,nv,rv,.slice none 0 0] 37)):=(Below.refl _ _).alloc (Nat.le_refl _) _;have A:=(h1.below b2);refine ⟨rfl,BoxC.new w2 _ _ _ _,by omega,(b1.trans (b2.mono j)).trans (b3.mono (by omega)),A.below b3,?_,(h2.mono j).below b3,?_⟩
 · obtain ⟨_,_,_,_,e | e⟩:=A
   · exact .inl e
   exact .inr (by omega)
 obtain ⟨_,_,_,_,e | e⟩:=h2
 · exact .inl e
 exact .inr (by omega)
theorem PreS.set {W0 w1 w2:World} {k:Int} {nv rv:Value} {name role:List Int} {bn br ob:Nat} {z:Int} {z1 z2 z3:Value} (h1:Fr W0.heap.size w1 nv name bn) (b1:Below W0.heap.size W0 w1) (h2:Fr w1.heap.size w2 rv role br) (b2:Below w1.heap.size w1 w2) (hb:BoxC w2 ob (.int .i64 z) z1 z2 z3) (ho:W0.heap.size≤ob) :
    PreS W0 ((((w2.setCell ⟨ob,0,none⟩ (.int .i64 k)).setCell ⟨ob,1,none⟩ nv).setCell ⟨ob,2,none⟩ rv).setCell ⟨ob,3,none⟩ (.slice none 0 0)) (.pointer (some ⟨ob,0,none⟩)) k name role ob bn br nv rv:=by
 have j:=b1.size;have A:=(h1.below b2);have D:=h2.mono j;have en:=A.notBox hb;have er:=D.notBox hb;have E:((((w2.setCell ⟨ob,0,none⟩ (.int .i64 k)).setCell ⟨ob,1,none⟩ nv).setCell ⟨ob,2,none⟩ rv).setCell ⟨ob,3,none⟩ (.slice none 0 0)).heap.size=w2.heap.size:=by simp
 have keep:∀ {base b:Nat} {v:Value} {zs:List Int},Fr base w2 v zs b→(zs.length=0∨b≠ob)→Fr base ((((w2.setCell ⟨ob,0,none⟩ (.int .i64 k)).setCell ⟨ob,1,none⟩ nv).setCell ⟨ob,2,none⟩ rv).setCell ⟨ob,3,none⟩ (.slice none 0 0)) v zs b:=by
  intro base b v zs h e;obtain ⟨a,c,q1,q2,q3⟩:=h;refine ⟨a,c,q1,q2.keep' ?_,?_⟩
  · rcases e with e | e
    · exact .inl e
    exact .inr (heap_set4 _ _ _ _ _ e)
  rw [E];exact q3
 exact ⟨rfl,hb.set4 _ _ _ _,ho,((((b1.trans (b2.mono j)).setCell ho _).setCell ho _).setCell ho _).setCell ho _,keep A en,en,keep D er,er⟩
end

section
open Go.RowKit
theorem set4_mem {W:World} {vb:Nat} {v0 v1 v2 v3:Value} (hv:BoxC W vb v0 v1 v2 v3) (x0 x1 x2 x3:Value) {pb B:Nat} {w:World} (hb:Bt pb B w W) (hB:B≤vb) :
    BoxC ((((W.setCell ⟨vb,0,none⟩ x0).setCell ⟨vb,1,none⟩ x1).setCell ⟨vb,2,none⟩ x2).setCell ⟨vb,3,none⟩ x3) vb x0 x1 x2 x3∧Bt pb B w ((((W.setCell ⟨vb,0,none⟩ x0).setCell ⟨vb,1,none⟩ x1).setCell ⟨vb,2,none⟩ x2).setCell ⟨vb,3,none⟩ x3) :=
 ⟨hv.set4 x0 x1 x2 x3,(((hb.set (.inl hB) _).set (.inl hB) _).set (.inl hB) _).set (.inl hB) _⟩
theorem OwnR.toS {ts:List Tok} {gs:List (Nat × Nat)} {i j s:Nat} {w w':World} {d:Nat} {v:Value} {c:CN} {L:List (Addr × IntKind)} (h:OwnR ts gs i j s w d v c L) (hk:∀ x∈L,w'.heap[x.1.block]?=w.heap[x.1.block]?) (hs:w.heap.size≤w'.heap.size):OwnR ts gs i j s w' d v c L :=
 ⟨h.ow.keep hk,h.nd,fun x hx=>(World.frozen?_of_block (w:=w) (hk x hx)).trans (h.fr x hx),h.us.mono (Nat.le_refl _) (Nat.le_refl _) (Nat.le_refl _) hs⟩
end

section
open Go.RowKit
theorem run_append_nil {P:Program} (w:World) (t rt e:TypeId) (i:TypeInfo) (ht:P.underlying t=some (.slice e)) (hi:P.info? e=some i) (base:Option Addr) (n z c:Nat) (h:n≤z) :
    (Builtin.append_ #[t,t] rt #[.slice base n z,.slice none 0 c]).run P w=.ok (.slice base n z) w:=by
 cases base <;> simp [Builtin.append_,run_underlying ht,sizeOf,typeInfo,hi,Builtin.lenOf,Builtin.firstCells,storeCells,h]
structure JunkR (pb:Nat) (w:World) (B ob:Nat) (k:Int) (rv:Value) (wr:World) (kv:Value) (m:Nat):Prop where
 row:∃ xs,wr.ownsRow B 37 4 kv m xs
 box:BoxC wr ob (.int .i64 k) (.slice none 0 0) rv kv
 bt:Bt pb w.heap.size w wr
 sz:B≤wr.heap.size
theorem ownsRow_bt {w w':World} {pb base e size n:Nat} {v:Value} {xs:List Value} (h:w.ownsRow base e size v n xs) (hb:Bt pb w.heap.size w w') (hp:pb<base):w'.ownsRow base e size v n xs:=by
 have hl:=h.lt;obtain ⟨h1,h2⟩:=h;refine ⟨h1,?_⟩;rcases h2 with h2 | ⟨g,z,cur,rfl,hg,hh,r⟩
 · exact .inl h2
 exact .inr ⟨g,z,cur,rfl,hg,by rw [hb.block g (hl g rfl).2 (by omega)];exact hh,r⟩
theorem ownsRow_set {w:World} {base e size n o i:Nat} {v x:Value} {xs:List Value} (h:w.ownsRow base e size v n xs) (ho:o<base):(w.setCell ⟨o,i,none⟩ x).ownsRow base e size v n xs:=ownsRow_setCell_below h (a:=⟨o,i,none⟩) ho x
theorem JunkR.keep {pb:Nat} {w:World} {B ob:Nat} {k:Int} {rv:Value} {wr w':World} {kv:Value} {m:Nat} (h:JunkR pb w B ob k rv wr kv m) (hb:Bt pb wr.heap.size wr w') (h1:pb<ob) (h2:ob<B):JunkR pb w B ob k rv w' kv m:=by
 have sz:=h.sz;obtain ⟨xs,hx⟩:=h.row;exact ⟨⟨xs,ownsRow_bt hx hb (by omega)⟩,(hb.block ob (by omega) (by omega)).trans h.box,h.bt.trans (hb.mono h.bt.size),Nat.le_trans sz hb.size⟩
theorem JunkR.app {pb:Nat} {w:World} {B ob:Nat} {k:Int} {rv:Value} {W w6:World} {kv:Value} {m g z:Nat} {xs ys:List Value} (h:JunkR pb w B ob k rv W kv m) (h2:ob<B) (h3:w.heap.size≤ob) (D:W.ownsRow B 37 4 kv m xs)
    (E:w6.ownsRow B 37 4 (.slice (some ⟨g,0,none⟩) (m+1) z) (m+1) ys) (j:W.grownBy w6 kv.ownBlock) :
    BoxC w6 ob (.int .i64 k) (.slice none 0 0) rv kv∧JunkR pb w B ob k rv (w6.setCell ⟨ob,3,none⟩ (.slice (some ⟨g,0,none⟩) (m+1) z)) (.slice (some ⟨g,0,none⟩) (m+1) z) (m+1):=by
 have hl:=D.lt;have sz:=h.sz;have A:BoxC w6 ob (.int .i64 k) (.slice none 0 0) rv kv:=(j.block ob h.box.lt (fun e=>by have:=(hl ob e.symm).1;omega)).trans h.box;refine ⟨A,⟨⟨ys,ownsRow_set E h2⟩,A.set3 _,(h.bt.grown j h.bt.size (fun x hx=>by have:=hl x hx;omega)).set (.inl h3) _,?_⟩⟩;have:=j.size;simp;omega
end

section
open Go.RowKit
end

section
open Go.RowKit
theorem BoxC.set2S {W:World} {b:Nat} {v0 v1 v2 v3:Value} (h:BoxC W b v0 v1 v2 v3) (v:Value):BoxC (W.setCell ⟨b,2,none⟩ v) b v0 v1 v v3:=by
 unfold BoxC;rw [heap_setCell_same W b 2 _ _ v h];rfl
end

section
open Go.RowKit
theorem kindX_no (l:List UInt8) (h:∀ k:Nat,k≤5→((axWordB k).toList == l)=false):kindX l=-1:=by
 have h0:=h 0 (by omega);have h1:=h 1 (by omega);have h2:=h 2 (by omega);have h3:=h 3 (by omega);have h4:=h 4 (by omega);have h5:=h 5 (by omega);simp [axWordB,ByteArray.toList_eq] at h0 h1 h2 h3 h4 h5;unfold kindX;rw [if_neg (fun e=>h0 e.symm),if_neg (fun e=>h1 e.symm),if_neg (fun e=>h2 e.symm),if_neg (fun e=>h3 e.symm),if_neg (fun e=>h4 e.symm),if_neg (fun e=>h5 e.symm)]
theorem kindX_at (l:List UInt8) (k:Nat) (hk:k≤5) (h:((axWordB k).toList == l)=true):kindX l=k:=by
 have hl:l=(axWordB k).toList:=(eq_of_beq h).symm;subst hl;rw [ByteArray.toList_eq]
 match k,hk with
 | 0,_ | 1,_ | 2,_ | 3,_ | 4,_ | 5,_=>rfl
set_option maxRecDepth 100000 in
set_option maxHeartbeats 1000000 in
theorem axiomKind_any (a:Option Addr) (n z:Nat) (zs:List Int) (w:World) {lo hi:Nat} (h:Rd lo hi w a n z zs) :
    Calls Tryz.prog 76 #[.slice a n z] w fun e w'=>e=.returned (.int .i64 (kindX (strOfNums zs).toList))∧∃ nd,w'=w.drewN nd:=by
 have H:Hid (Rd lo hi w a n z zs):=h;clear h;obtain ⟨s,HS⟩:∃ s,Hid (s=strOfNums zs):=⟨_,rfl⟩;rw [← HS.out];go_enter Tryz.func76, Tryz.ntmps76;go_wp2_with fail;go_loopw [3] (fun i wr=>∃ k nd:Nat,k≤6∧i=.int .i64 k∧wr=w.drewN nd∧∀ j:Nat,j<k→((axWordB j).toList == s.toList)=false) (fun i _=>6 - (intOf i).toNat)
 case atStart=>exact ⟨0,0,Nat.zero_le _,rfl,rfl,fun j hj=>by omega⟩
 case round =>
  obtain ⟨k,nd,hk,rfl,D,E⟩:=hrel;have G:Hid (∀ j:Nat,j<k→((axWordB j).toList == s.toList)=false):=E;have A:Hid (wr=w.drewN nd):=D;clear E D;by_cases hlt:k≤5
  · have J:(k:Int)≤5:=by omega
    have F:∀ m,(convert 22 9 (.slice a n z)).run Tryz.prog (wr.drewN m)=.ok (.string s) (wr.drewN m):=by
     intro m;rw [HS.out,A.out];exact conv_any (H.out.same (fun _ _ _=>rfl))
    have I:(convert 22 9 (.slice a n z)).run Tryz.prog wr.drew=.ok (.string s) wr.drew:=F 1;clear F;obtain ⟨t,HT⟩:∃ t,Hid (t=axWordB k):=⟨_,rfl⟩;cases hb:(t.toList == s.toList)
    · have HF:Hid (∀ j:Nat,j<k+1→((axWordB j).toList == s.toList)=false):=by
       intro j hj;by_cases e:j=k
       · subst e;rw [← HT.out];exact hb
       exact G.out j (by omega)
      go_wp2_with fail;go_region_with (go_at_call 39;refine (axiomWord_any _ _).mono ?_;rintro e w' ⟨rfl,hw⟩;rw [hw,← HT.out];clear hw)
      all_goals
       go_wp2;go_roundw
       case rel=>exact ⟨k+1,nd+1,by omega,by go_num,by rw [A.out];rfl,HF.out⟩
       case measure=>simp [intOf];omega
    have HF:Hid (kindX s.toList=k):=kindX_at _ k hlt (by rw [← HT.out];exact hb);go_wp2_with fail;go_region_with (go_at_call 39;refine (axiomWord_any _ _).mono ?_;rintro e w' ⟨rfl,hw⟩;rw [hw,← HT.out];clear hw)
    all_goals
     go_wp2;go_ret;exact ⟨ri HF.out.symm,nd+1,by rw [A.out];rfl⟩
  have HF:Hid (kindX s.toList=-1):=kindX_no _ (fun j hj=>G.out j (by omega));go_wp2;go_ret;exact ⟨ri HF.out.symm,nd,A.out⟩
end

end Go.Proofs.YtocpeiaolofodaaGreat
