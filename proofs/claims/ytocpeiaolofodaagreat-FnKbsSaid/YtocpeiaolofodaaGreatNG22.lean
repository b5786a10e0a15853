/- Several texts in one: BentOwn, DrawCon, BentPath. -/
import Derived.Test.YtocpeiaolofodaaGreatNG19
import Derived.Test.YtocpeiaolofodaaGreatNG16
namespace Go.Proofs.YtocpeiaolofodaaGreat

section
open Go.RowKit
def Wh (w:World) (L:List (Addr × IntKind)):Nat→Value→Prop
 | 0,_=>True
 | d+1,kv=>∃ n xs,w.ownsRow 0 37 4 kv n xs∧(∀ g,kv.ownBlock=some g→((⟨g,0,none⟩,.i64):Addr × IntKind)∈L∧∀ x∈L,x.1.block=g→x.1.off+4≤n*4)∧∀ j u,xs[j*4+3]?=some u→Wh w L d u
theorem ownsRow_keepW {w w':World} {base e size n:Nat} {v:Value} {xs:List Value} (h:w.ownsRow base e size v n xs) (hk:∀ g,v.ownBlock=some g→w'.heap[g]?=w.heap[g]?):w'.ownsRow base e size v n xs:=by
 refine ⟨h.1,?_⟩;rcases h.2 with q | ⟨g,F,cur,rfl,hg,hh,r⟩
 · exact .inl q
 exact .inr ⟨g,F,cur,rfl,hg,(hk g rfl).trans hh,r⟩
theorem Wh.keep {w w':World} {L:List (Addr × IntKind)} (hk:∀ x∈L,w'.heap[x.1.block]?=w.heap[x.1.block]?):∀ {d:Nat} {kv:Value},Wh w L d kv→Wh w' L d kv
 | 0,_,_=>trivial
 | _+1,_,⟨n,xs,h1,h2,h3⟩=>⟨n,xs,ownsRow_keepW h1 (fun g hg=>hk _ (h2 g hg).1),h2,fun j u hu=>Wh.keep hk (h3 j u hu)⟩
theorem Wh.mono {w:World} {L M:List (Addr × IntKind)} (h1:∀ x∈L,x∈M) (h2:∀ x∈M,x∈L∨∀ y∈L,x.1.block≠y.1.block):∀ {d:Nat} {kv:Value},Wh w L d kv→Wh w M d kv
 | 0,_,_=>trivial
 | _+1,_,⟨n,xs,q1,q2,q3⟩=>⟨n,xs,q1,fun g hg=>⟨h1 _ (q2 g hg).1,fun x hx e=>by
     rcases h2 x hx with k | k
     · exact (q2 g hg).2 x k e
     exact absurd e (k _ (q2 g hg).1)⟩,fun j u hu=>Wh.mono h1 h2 (q3 j u hu)⟩
theorem Wh.nil (w:World) (L:List (Addr × IntKind)) (d:Nat):Wh w L d (.slice none 0 0):=by
 cases d with
 | zero=>trivial
 | succ d=>exact ⟨0,[],World.ownsRow_nil _ _ _ _,fun g hg=>by simp [Value.ownBlock] at hg,fun j u hu=>by simp at hu⟩
def InvW (w:World) (L:List (Addr × IntKind)) (d:Nat) (xs:List Value):Prop:=∀ j u,xs[j*4+3]?=some u→Wh w L d u
theorem InvW.nil (w:World) (L:List (Addr × IntKind)) (d:Nat):InvW w L d []:=fun j u hu=>by simp at hu
theorem InvW.keep {w w':World} {L:List (Addr × IntKind)} {d:Nat} {xs:List Value} (h:InvW w L d xs) (hk:∀ x∈L,w'.heap[x.1.block]?=w.heap[x.1.block]?):InvW w' L d xs:=fun j u hu=>(h j u hu).keep hk
theorem InvW.app {w:World} {Ls:List (List (Addr × IntKind))} {L:List (Addr × IntKind)} {d m:Nat} {xs:List Value} {v0 v1 v2 v3:Value} (h:InvW w Ls.flatten d xs) (k:Wh w L d v3) (hx:xs.length=m*4) (hd:∀ x∈Ls.flatten,∀ y∈L,x.1.block≠y.1.block) :
    InvW w (Ls++[L]).flatten d (xs++[v0,v1,v2,v3]):=by
 have hf:(Ls++[L]).flatten=Ls.flatten++L:=by simp
 rw [hf];intro j u hu;by_cases hj:j*4+3<xs.length
 · rw [List.getElem?_append_left hj] at hu;refine (h j u hu).mono (fun x hx=>List.mem_append.2 (.inl hx)) (fun x hx=>?_);rcases List.mem_append.1 hx with q | q
   · exact .inl q
   exact .inr (fun y hy e=>hd y hy x q e.symm)
 rw [List.getElem?_append_right (by omega)] at hu;have e:j*4+3 - xs.length=(j - m)*4+3:=by omega
 rw [e] at hu;by_cases hjm:j=m
 · subst hjm;simp at hu;subst hu;refine k.mono (fun x hx=>List.mem_append.2 (.inr hx)) (fun x hx=>?_);rcases List.mem_append.1 hx with q | q
   · exact .inr (fun y hy e=>hd x q y hy e)
   exact .inl q
 rw [List.getElem?_eq_none (by simp;omega)] at hu;simp at hu
theorem whole_rows {base pb g0:Nat} {ts:List Tok} {gs:List (Nat × Nat)} {i i0 s:Nat} {w w0:World} {B ob d:Nat} {k:Int} {rv:Value} {role:List Int} {br:Nat} {wr:World} {kv:Value} {cs:List CN} {Ls:List (List (Addr × IntKind))} {xs:List Value} {j:Nat}
    (h:InvR pb ts gs i0 w B ob d k rv role br wr kv cs Ls xs j) (hT:TkM base pb w0 g0 ts gs) (N:pb≤s) (H:s≤B) (a2:i≤i0) (a0:i0≤j) (E:Use ts gs i i0 s B (leafB br 0 role.length))  (hW:InvW wr Ls.flatten d xs) (hz:cs.length=0→kv=.slice none 0 0) (V:∀ x∈leafB br 0 role.length,x.1.block<B) :
    ∃ L,OwnR ts gs i j s wr (d+1) (.agg #[.int .i64 k,.slice none 0 0,rv,kv]) (.mk k [] role cs) L∧Wh wr L (d+1) kv:=by
 have sz:=h.sz;obtain ⟨ka,kc,bk,Y,ok,fk⟩:=h.row.owL;obtain ⟨ra,rc,O,or,U⟩:=h.rol;subst Y;subst O;have a4:=h.row.len;have G:SepK 0 wr Ls:=⟨h.nd,h.fr,fun _ _=>Nat.zero_le _⟩
 have D:cs.length=0∨∀ x∈Ls.flatten,bk≠x.1.block:=by
  rcases fk with h0 | ⟨h0,_⟩
  · exact .inl h0
  exact .inr (fun x hx e=>h.row.off x hx (by rw [h0,e]))
 have mK:∀ x∈leafK bk 0 (fun i=>Ls.getD i []) cs.length,(x.1.block=bk∧B≤bk∧bk<wr.heap.size∨x∈Ls.flatten)∧wr.frozen? x.1=false:=by
  intro x hx;obtain ⟨i,hi,hx⟩:=mem_leafK.1 hx;rcases fk with h0 | ⟨h0,q1,q2,q3⟩
  · omega
  rcases hx with rfl | hx
  · exact ⟨.inl ⟨rfl,q1,q2⟩,q3 _⟩
  exact ⟨.inr (getD_mem_flatten hx),h.fr x (getD_mem_flatten hx)⟩
 have z:=E.disj h.us hT (Nat.le_refl i0) (Nat.le_refl B) N H;have T:∀ x∈leafB br 0 role.length,x.1.block<B:=E.lt hT (by omega);refine ⟨_,⟨⟨none,0,0,ra,role.length,rc,ka,cs.length,kc,0,0,br,0,bk,0,_,rfl,⟨rfl,⟨by simp,by omega⟩,by intro i;simp [CN.name],.inl rfl⟩,or,ok,rfl⟩,?_,?_,?_⟩,?_⟩
 · rw [List.map_append,List.map_append];have e0:leafB 0 0 0=[]:=rfl;rw [e0,List.map_nil,List.nil_append,List.nodup_append];refine ⟨leafB_nodup _ _ _,?_,?_⟩
   · rcases D with h0 | h0
     · rw [h0];simp [leafK]
     exact leafK_nodup G h0 _ (by omega)
   intro p hp q hq e;subst e;simp only [List.mem_map] at hp hq;obtain ⟨x,hx,rfl⟩:=hp;obtain ⟨y,hy,e⟩:=hq;rcases (mK y hy).1 with ⟨e1,e2,_⟩ | hy
   · have:=T x hx;rw [e] at e1;omega
   exact z x hx y hy (by rw [e])
 · intro x hx;have e0:leafB 0 0 0=[]:=rfl;rw [e0,List.nil_append,List.mem_append] at hx;rcases hx with hx | hx
   · obtain ⟨j,hj,rfl⟩:=mem_leafB.1 hx;exact U (fun e=>by rw [e] at hj;simp at hj) _ (by omega)
   exact (mK x hx).2
 · intro x hx;have e0:leafB 0 0 0=[]:=rfl;rw [e0,List.nil_append,List.mem_append] at hx;rcases hx with hx | hx
   · exact (E.mono (Nat.le_refl _) a0 (Nat.le_refl _) sz) x hx
   rcases (mK x hx).1 with ⟨e1,e2,e3⟩ | hx
   · exact .inl ⟨by omega,by omega⟩
   exact (h.us.mono a2 (Nat.le_refl _) H (Nat.le_refl _)) x hx
 have I:∀ i,cs.length≤i→Ls.getD i []=[]:=fun i hi=>by simp [List.getD,List.getElem?_eq_none (by omega:Ls.length≤i)]
 have e0:leafB 0 0 0=[]:=rfl
 have a1:∀ x∈Ls.flatten,x∈leafB 0 0 0++(leafB br 0 role.length++leafK bk 0 (fun i=>Ls.getD i []) cs.length):=by
  intro x hx;obtain ⟨l,hl,J⟩:=List.mem_flatten.1 hx;obtain ⟨q,hq,rfl⟩:=List.getElem_of_mem hl;refine List.mem_append.2 (.inr (List.mem_append.2 (.inr (mem_leafK.2 ⟨q,by omega,.inr ?_⟩))));simpa [List.getD,hq] using J
 refine ⟨cs.length,xs,?_,fun g hg=>?_,fun q u hu=>(hW q u hu).mono a1 (fun x hx=>?_)⟩
 · refine ⟨h.row.row.1,?_⟩;rcases h.row.row.2 with q | ⟨g,F,cur,e,hg,r⟩
   · exact .inl q
   exact .inr ⟨g,F,cur,e,Nat.zero_le _,r⟩
 · rcases fk with h0 | ⟨h0,q1,q2,q3⟩
   · exfalso;rw [hz h0] at hg;simp [Value.ownBlock] at hg
   rw [h0] at hg;simp only [Option.some.injEq] at hg;subst hg;refine ⟨List.mem_append.2 (.inr (List.mem_append.2 (.inr (mem_leafK.2 ⟨0,Nat.pos_of_ne_zero (fun e=>by rw [hz e] at h0;simp [Value.ownBlock] at h0),.inl rfl⟩)))),fun x hx e=>?_⟩;rw [e0,List.nil_append,List.mem_append] at hx;rcases hx with hx | hx
   · have:=V x hx;omega
   obtain ⟨i,hi,hx⟩:=mem_leafK.1 hx;rcases hx with rfl | hx
   · show 0+i*4+4≤cs.length*4;omega
   exact absurd (h0.trans (by rw [← e])) (h.row.off x (getD_mem_flatten hx))
 rw [e0,List.nil_append,List.mem_append] at hx;rcases hx with hx | hx
 · exact .inr (fun y hy=>z x hx y hy)
 obtain ⟨i,hi,hx⟩:=mem_leafK.1 hx;rcases hx with rfl | hx
 · refine .inr (fun y hy e=>?_);rcases D with h0 | h0
   · omega
   exact h0 y hy e
 exact .inl (getD_mem_flatten hx)
theorem tkm_nil (pb:Nat) (w:World):TkM 0 pb w 0 [] [] :=
 ⟨.inl rfl,fun i hi=>absurd hi (by simp),fun i hi=>absurd hi (by simp),fun i hi=>absurd hi (by simp),fun i j _ hj=>absurd hj (by simp)⟩
theorem InvW.bt {pb B ob d:Nat} {k:Int} {rv:Value} {role:List Int} {br:Nat} {w wr w':World} {kv:Value} {cs:List CN} {Ls:List (List (Addr × IntKind))} {xs:List Value} (hV:InvW wr Ls.flatten d xs)
    (h:InvR pb [] [] 0 w B ob d k rv role br wr kv cs Ls xs 0) (hS:StatR pb w B ob br role) (hb:Bt pb wr.heap.size wr w'):InvW w' Ls.flatten d xs:=by
 have o0:=hS.o0;have o1:=hS.o1;have p:=hS.p;exact hV.keep (fun x hx=>hb.block _ (h.row.lt x hx) (h.us.ne (tkm_nil pb w) (Nat.le_refl _) (by omega) x hx))
theorem InvW.step {pb B ob d:Nat} {k:Int} {rv:Value} {role:List Int} {br:Nat} {w W w6:World} {kv:Value} {cs:List CN} {Ls:List (List (Addr × IntKind))} {xs:List Value} {c:CN} {L:List (Addr × IntKind)} {v0 v1 v2 v3:Value} {Bk:Nat}
    (hV:InvW W Ls.flatten d xs) (hS:StatR pb w B ob br role) (h:InvR pb [] [] 0 w B ob d k rv role br W kv cs Ls xs 0) (a3:B≤Bk) (hu:Use [] [] 0 0 B Bk Ls.flatten) (Z:∀ g,kv.ownBlock=some g→g<Bk)
    (hc:OwnR [] [] 0 0 Bk W d (.agg #[v0,v1,v2,v3]) c L) (hW:Wh W L d v3) (A:W.grownBy w6 kv.ownBlock) (u:Value):InvW (w6.setCell ⟨ob,3,none⟩ u) (Ls++[L]).flatten d (xs++[v0,v1,v2,v3]):=by
 have o0:=hS.o0;have o1:=hS.o1;have p:=hS.p;have sz:=h.sz;have I:=hc.us.lt (tkm_nil pb w) (by omega);have z:=hu.disj hc.us (tkm_nil pb w) (Nat.le_refl 0) (Nat.le_refl Bk) (by omega) a3;have hf:(Ls++[L]).flatten=Ls.flatten++L:=by simp
 refine (InvW.app hV hW h.row.row.1 z).keep (fun x hx=>?_);rw [hf] at hx;rcases List.mem_append.1 hx with hx | hx
 · have X:=h.us.ne (tkm_nil pb w) (o:=ob) (by omega) o1 x hx;rw [Below.heap_setCell _ _ _ _ X];exact A.block _ (h.row.lt x hx) (fun e=>h.row.off x hx e.symm)
 have a5:Bk≤x.1.block:=by
  rcases hc.us x hx with ⟨a,_⟩ | ⟨t,_,_,q,_⟩
  · exact a
  simp at q
 rw [Below.heap_setCell _ _ _ _ (by show x.1.block≠ob;omega)];exact A.block _ (I x hx) (fun e=>by have:=Z _ e.symm;omega)
end

section
open Go.RowKit
theorem Only.bt {B:Nat} {w w':World} (o:Only B w w'):Bt B w.heap.size w w':=⟨o.below.os,o.below.tape,o.below.output,o.below.size,o.other⟩
theorem Bt.only {B:Nat} {w w':World} (h:Bt B w.heap.size w w') (hB:B≤w.heap.size):Only B w w':=⟨h.below hB (Nat.le_refl _),h.block⟩
theorem Cur.keepB {w w':World} {B:Nat} {a:Option Addr} {n z:Nat} {zs:List Int} {hi:Nat} (c:Cur w B a n z zs hi) (hb:∀ q,q≤B→w'.heap[q]?=w.heap[q]?):Cur w' B a n z zs hi:=by
 obtain ⟨⟨i,h,ah,q⟩,c2,c3⟩:=c;exact ⟨⟨i,h,ah,(hb B (Nat.le_refl _)).trans q⟩,c2.same (fun b _ h2=>hb b (by omega)),c3⟩
theorem rol_conv (W:World) (s:ByteArray) (hs:s.size≤255):RolR (Lib.bytesWorld W 5 s) (.slice (some ⟨W.heap.size,0,none⟩) s.size (grownCap W s.size 0 5)) (numsOf s) W.heap.size:=by
 have ai:=grownCap_ge W s.size 0 5;have af:=grownCap_le_maxLen W s.size 0 5 (by unfold maxLen;omega)
 have ac:(Lib.bytesCells W 5 s).size=grownCap W s.size 0 5:=by
  have:s.data.size=s.size:=rfl;simp only [Lib.bytesCells,Array.size_append,Array.size_map,Array.size_replicate,this];omega
 refine ⟨_,_,by rw [numsOf_len],⟨rfl,⟨by rw [numsOf_len];exact ai,by unfold maxLen at af;omega⟩,getD_byte (numsOf_byte s),?_⟩,fun _ o ho=>?_⟩
 · rw [numsOf_len];refine .inr ⟨rfl,fun i hi=>?_⟩;rw [Nat.zero_add,Lib.bytesWorld_cell W 5 s i hi];unfold numsOf;simp only [List.getD,List.getElem?_map];cases s.data.toList[i]? <;> rfl
 rw [numsOf_len] at ho;simp only [World.frozen?,Lib.bytesWorld_at_new,ac];simp;omega
theorem ownR_nul (k:Int) (s d:Nat) (w:World):OwnR [] [] 0 0 s w (d+1) (.agg #[.int .i64 k,.slice none 0 0,.slice none 0 0,.slice none 0 0]) (.mk k [] [] []) []:=by
 have h0:OwB w none 0 0 [] 0 0:=⟨rfl,⟨by simp,by omega⟩,by simp,.inl rfl⟩;exact ⟨⟨none,0,0,none,0,0,none,0,0,0,0,0,0,0,0,fun _=>[],rfl,h0,h0,⟨rfl,⟨by simp,by omega⟩,.inl rfl⟩,by simp [leafB,leafK]⟩,by simp,fun x hx=>by simp at hx,Use.nil _ _ _ _ _ _⟩
theorem ownR_name {k:Int} {s d:Nat} {w:World} {v:Value} {nm:List Int} {b:Nat} (h:RolR w v nm b) (hs:s≤b) (hb:b<w.heap.size):OwnR [] [] 0 0 s w (d+1) (.agg #[.int .i64 k,v,.slice none 0 0,.slice none 0 0]) (.mk k nm [] []) (leafB b 0 nm.length):=by
 have h0:OwB w none 0 0 [] 0 0:=⟨rfl,⟨by simp,by omega⟩,by simp,.inl rfl⟩;obtain ⟨a,c,rfl,h1,h2⟩:=h;refine ⟨⟨a,nm.length,c,none,0,0,none,0,0,b,0,0,0,0,0,fun _=>[],rfl,h1,h0,⟨rfl,⟨by simp,by omega⟩,.inl rfl⟩,by simp [leafB,leafK]⟩,leafB_nodup _ _ _,fun x hx=>?_,fun x hx=>?_⟩
 · obtain ⟨j,hj,rfl⟩:=mem_leafB.1 hx;exact h2 (fun e=>by rw [e] at hj;simp at hj) _ (by omega)
 obtain ⟨j,hj,rfl⟩:=mem_leafB.1 hx;exact .inl ⟨hs,hb⟩
def DcP (B:Nat) (a:Option Addr) (n z:Nat) (zs:List Int) (hi f:Nat) (w:World) (e:Ending) (w':World):Prop :=
 ∃ v0 v1 v2 v3 c L,e=.returned (.agg #[v0,v1,v2,v3])∧OwnR [] [] 0 0 w.heap.size w' (f+1) (.agg #[v0,v1,v2,v3]) c L∧Wh w' L (f+1) v3∧c.bulk≤4 ^ (f+1)∧wfC c=true∧Cur w' B a n z zs hi∧Bt B w.heap.size w w'
theorem four_le (f:Nat):4≤4 ^ (f+1):=by
 have:0<4 ^ f:=Nat.pow_pos (by omega);rw [Nat.pow_succ];omega
theorem kidS_37 {k:Int} (h:3≤k∧k≤7):kidS k=1∨kidS k=2:=by
 unfold kidS;split
 · omega
 split <;> simp
structure DrM (B:Nat) (a:Option Addr) (n z:Nat) (zs:List Int) (hi:Nat) (w w':World):Prop where
 cur:Cur w' B a n z zs hi
 bt:Bt B w.heap.size w w'
 box:BoxC w' w.heap.size (.int .i64 0) (.slice none 0 0) (.slice none 0 0) (.slice none 0 0)
theorem DrM.only {B:Nat} {a:Option Addr} {n z:Nat} {zs:List Int} {hi:Nat} {w w1 w2:World} (h:DrM B a n z zs hi w w1) (hB:B<w.heap.size) (c:Cur w2 B a n z zs hi) (o:Only B w1 w2):DrM B a n z zs hi w w2 :=
 ⟨c,h.bt.trans (o.bt.mono h.bt.size),(o.other _ h.box.lt (by omega)).trans h.box⟩
theorem DrM.below {B:Nat} {a:Option Addr} {n z:Nat} {zs:List Int} {hi:Nat} {w w1 w2:World} (h:DrM B a n z zs hi w w1) (hB:B<w.heap.size) (hb:Below w1.heap.size w1 w2):DrM B a n z zs hi w w2:=by
 have:=h.bt.size;exact ⟨h.cur.of (hb.mono (by omega)),h.bt.trans (Bt.of_below (hb.mono h.bt.size)),(hb.block _ h.box.lt).trans h.box⟩
theorem DrM.fin {B:Nat} {a:Option Addr} {n z:Nat} {zs:List Int} {hi f:Nat} {w W:World} (h:DrM B a n z zs hi w W) (hB:B<w.heap.size) {v0 v1 v2 v3:Value} {c:CN} {L:List (Addr × IntKind)} (hO:OwnR [] [] 0 0 (w.heap.size+1) W (f+1) (.agg #[v0,v1,v2,v3]) c L) (aj:Wh W L (f+1) v3) (hk:c.bulk≤4 ^ (f+1)) (ab:wfC c=true) :
    DcP B a n z zs hi f w (.returned (.agg #[v0,v1,v2,v3])) ((((W.setCell ⟨w.heap.size,0,none⟩ v0).setCell ⟨w.heap.size,1,none⟩ v1).setCell ⟨w.heap.size,2,none⟩ v2).setCell ⟨w.heap.size,3,none⟩ v3):=by
 obtain ⟨hV,hb⟩:=set4_mem h.box v0 v1 v2 v3 h.bt (Nat.le_refl _);have a1:=hO.us.ne (tkm_nil w.heap.size w) (o:=w.heap.size) (Nat.le_refl _) (Nat.lt_succ_self _);have I:=OwnR.toS hO (w':=((((W.setCell ⟨w.heap.size,0,none⟩ v0).setCell ⟨w.heap.size,1,none⟩ v1).setCell ⟨w.heap.size,2,none⟩ v2).setCell ⟨w.heap.size,3,none⟩ v3)) (fun x hx=>heap_set4 _ _ _ _ _ (a1 x hx)) (by simp);exact ⟨_,_,_,_,c,L,rfl,⟨I.ow,I.nd,I.fr,I.us.mono (Nat.le_refl _) (Nat.le_refl _) (Nat.le_succ _) (Nat.le_refl _)⟩,aj.keep (fun x hx=>heap_set4 _ _ _ _ _ (a1 x hx)),hk,ab,h.cur.keepB (fun q hq=>heap_set4 _ _ _ _ _ (by omega)),hb⟩
theorem wfL_snoc {cs:List CN} {c:CN} (h:wfL cs=true) (k:wfC c=true):wfL (cs++[c])=true:=by
 induction cs with
 | nil=>simp [wfL,k]
 | cons x xs ih =>
  rw [wfL,Bool.and_eq_true] at h;rw [List.cons_append,wfL,h.1,ih h.2];rfl
theorem wf_node {kd:Int} {role:List Int} {cs:List CN} (h3:3≤kd) (h7:kd≤7) (hr:roleFit (.mk kd [] role [])=true) (hl:(cs.length:Int)=kidS kd) (hw:wfL cs=true):wfC (.mk kd [] role cs)=true:=by
 have hn:nameFit (.mk kd [] role cs)=true:=by
  unfold nameFit;rw [if_neg (by show ¬ kd=2;omega)];rfl
 have ae:roleFit (.mk kd [] role cs)=true:=hr
 have hk:kidN kd=kidS kd:=by
  have:kd=3∨kd=4∨kd=5∨kd=6∨kd=7:=by omega
  rcases this with e | e | e | e | e <;> subst e <;> rfl
 have hd:decide (((CN.mk kd [] role cs).kids.length:Int)=kidN (CN.mk kd [] role cs).kind)=true:=decide_eq_true (by show (cs.length:Int)=kidN kd;rw [hk];exact hl);rw [wfC_eq,shapeB,hn,ae,hd];exact hw
theorem DrM.grown {B:Nat} {a:Option Addr} {n z:Nat} {zs:List Int} {hi:Nat} {w w1 w2:World} {row:Option Nat} {C:Nat} (h:DrM B a n z zs hi w w1) (hB:B<w.heap.size) (hg:w1.grownBy w2 row) (hr:∀ k,row=some k→C≤k) (hC:w.heap.size<C):DrM B a n z zs hi w w2:=by
 have:=h.bt.size;have hl:=h.box.lt;have hk:∀ q,q≤w.heap.size→w2.heap[q]?=w1.heap[q]?:=fun q hq=>hg.block q (by omega) (fun e=>by have:=hr q e.symm;omega)
 exact ⟨h.cur.keepB (fun q hq=>hk q (by omega)),h.bt.grown hg (by omega) (fun k e=>by have:=hr k e;omega),(hk _ (Nat.le_refl _)).trans h.box⟩
theorem DrM.set {B:Nat} {a:Option Addr} {n z:Nat} {zs:List Int} {hi:Nat} {w w1:World} {o i:Nat} (h:DrM B a n z zs hi w w1) (hB:B<w.heap.size) (ho:w.heap.size<o) (v:Value):DrM B a n z zs hi w (w1.setCell ⟨o,i,none⟩ v) :=
 ⟨h.cur.keepB (fun q hq=>Below.heap_setCell _ _ _ _ (by show q≠o;omega)),h.bt.set (.inl (by show w.heap.size≤o;omega)) v,(Below.heap_setCell _ _ _ _ (by show w.heap.size≠o;omega)).trans h.box⟩
theorem bulks_snoc {cs:List CN} {c:CN} {m K:Nat} (h:bulks cs≤m*(1+K)) (k:c.bulk≤K):bulks (cs++[c])≤(m+1)*(1+K):=by
 rw [bulks_append,Nat.succ_mul];simp only [bulks];omega
theorem bulk_node {kd:Int} {role:List Int} {cs:List CN} {m f:Nat} (hr:role.length≤1) (h:bulks cs≤m*(1+4 ^ (f+1))) (hm:m≤2):(CN.mk kd [] role cs).bulk≤4 ^ (f+1+1):=by
 have h4:=four_le f;have h2:m*(1+4 ^ (f+1))≤2*(1+4 ^ (f+1)):=Nat.mul_le_mul_right _ hm;rw [Nat.pow_succ (m:=f+1)];simp only [CN.bulk,List.length_nil];omega
set_option maxRecDepth 100000 in
set_option maxHeartbeats 4000000 in
theorem l2draw_zero {w:World} {B:Nat} {a:Option Addr} {n z:Nat} {zs:List Int} {hi:Nat} (c:Cur w B a n z zs hi) :
    Calls Tryz.prog 63 #[.pointer (some ⟨B,0,none⟩),.int .i64 0] w (DcP B a n z zs hi 0 w):=by
 have hB:=c.lt;have O:Below w.heap.size w (w.alloc (.cells #[.int .i64 0,.slice none 0 0,.slice none 0 0,.slice none 0 0] 37)):=(Below.refl _ _).alloc (Nat.le_refl _) _;have a7:Hid (DrM B a n z zs hi w (w.alloc (.cells #[.int .i64 0,.slice none 0 0,.slice none 0 0,.slice none 0 0] 37))):=⟨c.of (O.mono hB),Bt.of_below O,BoxC.new w _ _ _ _⟩;clear O c;go_enter Tryz.func63, Tryz.ntmps63;go_wp2_with fail;refine (l1Below_any a7.out.cur 8 (by omega)).mono ?_;rintro e w2 ⟨m,rfl,⟨av,au⟩,a3,a0⟩;have D:Hid (DrM B a n z zs hi w w2):=a7.out.only hB a3 a0;clear a3 a0;obtain ⟨z0,z1,z2,z3⟩:=D.out.box.cells;have X:=D.out.box.frz 0;have V:=D.out.box.frz 1;have U:=D.out.box.frz 2;have T:=D.out.box.frz 3;by_cases h0:m=0
 · subst h0;go_wp2;obtain ⟨F,_⟩:=set4_mem D.out.box (.int .i64 0) (.slice none 0 0) (.slice none 0 0) (.slice none 0 0) D.out.bt (Nat.le_refl _);obtain ⟨s0,s1,s2,s3⟩:=F.cells;refine bodyPost_ret (v:=.agg #[.int .i64 0,.slice none 0 0,.slice none 0 0,.slice none 0 0]) (by simp [results, Tryz.results63,go_sem,s0,s1,s2,s3]) rfl ?_;exact DrM.fin D.out hB (ownR_nul 0 _ _ _) (Wh.nil _ _ _) (by simp [CN.bulk,bulks]) (by rw [wfC_eq];rfl)
 have aA:(m == 0)=false:=by simpa using h0
 by_cases h1:m=1
 · subst h1;go_wp2;obtain ⟨F,_⟩:=set4_mem D.out.box (.int .i64 1) (.slice none 0 0) (.slice none 0 0) (.slice none 0 0) D.out.bt (Nat.le_refl _);obtain ⟨s0,s1,s2,s3⟩:=F.cells;refine bodyPost_ret (v:=.agg #[.int .i64 1,.slice none 0 0,.slice none 0 0,.slice none 0 0]) (by simp [results, Tryz.results63,go_sem,s0,s1,s2,s3]) rfl ?_;exact DrM.fin D.out hB (ownR_nul 1 _ _ _) (Wh.nil _ _ _) (by simp [CN.bulk,bulks]) (by rw [wfC_eq];rfl)
 have az:(m == 1)=false:=by simpa using h1
 obtain ⟨W3,N⟩:∃ W,Hid (W=w2.alloc (.cells #[.string { data:=#[65] },.string { data:=#[66] },.string { data:=#[67] }] 9)):=⟨_,rfl⟩;have a5:Below w2.heap.size w2 W3:=by rw [N.out];exact (Below.refl _ _).alloc (Nat.le_refl _) _
 have Z:w2.heap.size<W3.heap.size:=by rw [N.out];simp
 have ak:Hid (∀ i:Nat,i<3→∃ s:ByteArray,W3.cell? ⟨w2.heap.size,i,none⟩=some (.string s)∧s.size≤1∧shapeB (.mk 2 (numsOf s) [] [])=true):=by
  intro i hi;rw [N.out]
  match i,hi with
  | 0,_ | 1,_ | 2,_=>exact ⟨_,by simp;rfl,by decide,by kernel_rfl⟩
 have a6:Hid (DrM B a n z zs hi w W3):=D.out.below hB a5;clear a5 z0 z1 z2 z3 X V U T;go_wp2_with fail;rw [← N.out];refine (l1Below_any a6.out.cur 3 (by omega)).mono ?_;rintro e w4 ⟨x,rfl,⟨aa,a9⟩,a2,H⟩;obtain ⟨j,hj⟩:∃ j:Nat,x=(j:Int):=⟨x.toNat,by omega⟩;subst hj;have ag:j<3:=by omega
 obtain ⟨s,Y,aq,G⟩:=ak.out j ag;have al:Hid (wfC (.mk 2 (numsOf s) [] [])=true):=by unfold Hid;rw [wfC_eq,G];rfl
 clear G;have ap:w.heap.size<w2.heap.size:=D.out.box.lt;have ao:w4.cell? ⟨w2.heap.size,j,none⟩=some (.string s):=(World.cell?_of_block (w:=W3) (H.other w2.heap.size Z (by omega))).trans Y;have an:Hid (DrM B a n z zs hi w w4):=a6.out.only hB a2 H;have ar:w2.heap.size<w4.heap.size:=Nat.lt_of_lt_of_le Z H.below.size;have ax:(j:Int)<3:=by omega
 obtain ⟨W8,J⟩:∃ W,Hid (W=Lib.bytesWorld w4 5 s):=⟨_,rfl⟩;obtain ⟨cp,a8⟩:∃ cp,Hid (cp=grownCap w4 s.size 0 5):=⟨_,rfl⟩
 have ay:(convert 9 22 (.string s)).run Tryz.prog w4=.ok (.slice (some ⟨w4.heap.size,0,none⟩) s.size cp) W8:=by
  rw [J.out,a8.out];exact Lib.run_convert_string_bytes w4 9 22 5 s Tryz.underlying9 Tryz.underlying22 Tryz.underlying5
 have a4:Below w4.heap.size w4 W8:=by rw [J.out];exact bytes_below w4 5 s
 have ad:w4.heap.size<W8.heap.size:=by rw [J.out,Lib.bytesWorld_size];omega
 have E:Hid (DrM B a n z zs hi w W8):=an.out.below hB a4;have am:Hid (RolR W8 (.slice (some ⟨w4.heap.size,0,none⟩) s.size cp) (numsOf s) w4.heap.size):=by unfold Hid;rw [J.out,a8.out];exact rol_conv w4 s (by omega)
 clear Y a2 H a4 aa a9;obtain ⟨z0,z1,z2,z3⟩:=E.out.box.cells;have X:=E.out.box.frz 0;have V:=E.out.box.frz 1;have U:=E.out.box.frz 2;have T:=E.out.box.frz 3;go_wp2;obtain ⟨F,_⟩:=set4_mem E.out.box (.int .i64 2) (.slice (some ⟨w4.heap.size,0,none⟩) s.size cp) (.slice none 0 0) (.slice none 0 0) E.out.bt (Nat.le_refl _);obtain ⟨s0,s1,s2,s3⟩:=F.cells;refine bodyPost_ret (v:=.agg #[.int .i64 2,.slice (some ⟨w4.heap.size,0,none⟩) s.size cp,.slice none 0 0,.slice none 0 0]) (by simp [results, Tryz.results63,go_sem,s0,s1,s2,s3]) rfl ?_;exact DrM.fin E.out hB (ownR_name am.out (by omega) ad) (Wh.nil _ _ _) (by have:=four_le 0;simp [CN.bulk,bulks,numsOf_len];omega) al.out
end

section
open Go.RowKit
theorem OwS.keep {w w':World} {d b o:Nat} {c:CN} {L:List (Addr × IntKind)} (h:OwS w d b o c L) (hb:w'.heap[b]?=w.heap[b]?) (hk:∀ x∈L,w'.heap[x.1.block]?=w.heap[x.1.block]?):OwS w' d b o c L:=by
 obtain ⟨v0,v1,v2,v3,c0,c1,c2,c3,hr⟩:=h;exact ⟨v0,v1,v2,v3,(World.cell?_of_block (w:=w) (by exact hb)).trans c0,(World.cell?_of_block (w:=w) (by exact hb)).trans c1,(World.cell?_of_block (w:=w) (by exact hb)).trans c2,(World.cell?_of_block (w:=w) (by exact hb)).trans c3,hr.keep hk⟩
theorem OwS.kid {w:World} {d b o:Nat} {c:CN} {L:List (Addr × IntKind)} (hw:OwS w d b o c L) {bk ok kn kc j:Nat} (h1:w.cell? ⟨b,o+3,none⟩=some (.slice (some ⟨bk,ok,none⟩) kn kc)) (h2:j<kn) :
    ∃ e L',d=e+1∧kn=c.kids.length∧OwS w e bk (ok+j*4) (c.kids.getD j CN.zero) L'∧((⟨bk,ok+j*4,none⟩,.i64):Addr × IntKind)∈L∧(∀ x∈L',x∈L)∧((L.map (·.1)).Nodup→(L'.map (·.1)).Nodup∧(⟨bk,ok+j*4,none⟩:Addr) ∉ L'.map (·.1)):=by
 obtain ⟨v0,v1,v2,v3,c0,c1,c2,c3,hr⟩:=hw;cases d with
 | zero=>exact hr.elim
 | succ d =>
  obtain ⟨na,nn,nc,ra,rn,rc,ka,kn',kc',bn,on,br,or,bk',ok',Ls,hv,q1,q2,q3,rfl⟩:=hr;simp only [Value.agg.injEq,Array.mk.injEq,List.cons.injEq,and_true] at hv;obtain ⟨rfl,rfl,rfl,rfl⟩:=hv;rw [h1] at c3;simp only [Option.some.injEq,Value.slice.injEq] at c3;obtain ⟨e1,rfl,rfl⟩:=c3;rcases q3.cells with q | ⟨e2,q⟩
  · omega
  rw [← e1] at e2;simp only [Option.some.injEq,Addr.mk.injEq,and_true] at e2;obtain ⟨rfl,rfl⟩:=e2;refine ⟨d,Ls j,rfl,q3.len.symm,q j h2,?_,fun x hx=>?_,fun A=>?_⟩
  · simp only [List.mem_append];exact .inr (.inr (mem_leafK.2 ⟨j,h2,.inl rfl⟩))
  · simp only [List.mem_append];exact .inr (.inr (mem_leafK.2 ⟨j,h2,.inr hx⟩))
  rw [List.map_append,List.map_append] at A;exact (leafK_apart (List.nodup_append.1 (List.nodup_append.1 A).2.1).2.1).1 j h2
theorem Path.keep {w w':World} {b o b' o':Nat} (h:Path w b o b' o'):∀ {d:Nat} {c:CN} {L:List (Addr × IntKind)},OwS w d b o c L→w'.heap[b]?=w.heap[b]?→(∀ x∈L,w'.heap[x.1.block]?=w.heap[x.1.block]?)→Path w' b o b' o':=by
 induction h with
 | here b o=>intro d c L _ _ _;exact .here b o
 | @kid b o bk ok kn kc j b' o' h1 h2 _ ih =>
  intro d c L hw hb hk;obtain ⟨e,L',_,_,hs,hm,z,_⟩:=hw.kid h1 h2;exact .kid ((World.cell?_of_block (w:=w) (by exact hb)).trans h1) h2 (ih hs (hk _ hm) (fun x hx=>hk x (z x hx)))
structure Bent (w:World) (X D:Nat) (c:CN) (L:List (Addr × IntKind)) (b o d:Nat) (c':CN) (L':List (Addr × IntKind)):Prop where
 own:OwS w D X 0 c L
 nd:(L.map (·.1)).Nodup
 nm:∀ x∈L,x.1.block≠X
 path:Path w X 0 b o
 sub:OwS w d b o c' L'
 sin:∀ x∈L',x∈L
 snd:(L'.map (·.1)).Nodup
 snm:(⟨b,o,none⟩:Addr) ∉ L'.map (·.1)
 at_:b=X∨((⟨b,o,none⟩,.i64):Addr × IntKind)∈L
 wh:∀ u,w.cell? ⟨b,o+3,none⟩=some u→Wh w L d u
 bulk:c'.bulk≤c.bulk
theorem Bent.keep {w w':World} {X D:Nat} {c:CN} {L:List (Addr × IntKind)} {b o d:Nat} {c':CN} {L':List (Addr × IntKind)} (h:Bent w X D c L b o d c' L') (hX:w'.heap[X]?=w.heap[X]?) (hk:∀ x∈L,w'.heap[x.1.block]?=w.heap[x.1.block]?):Bent w' X D c L b o d c' L':=by
 have hb:w'.heap[b]?=w.heap[b]?:=by
  rcases h.at_ with e | e
  · rw [e];exact hX
  exact hk _ e
 exact ⟨h.own.keep hX hk,h.nd,h.nm,h.path.keep h.own hX hk,h.sub.keep hb (fun x hx=>hk x (h.sin x hx)),h.sin,h.snd,h.snm,h.at_,fun u hu=>(h.wh u (by rw [← hu];exact (World.cell?_of_block (w:=w) (by exact hb)).symm)).keep hk,h.bulk⟩
theorem Bent.step {w:World} {X D:Nat} {c:CN} {L:List (Addr × IntKind)} {b o d:Nat} {c':CN} {L':List (Addr × IntKind)} (h:Bent w X D c L b o d c' L') {bk ok kn kc j:Nat} (h1:w.cell? ⟨b,o+3,none⟩=some (.slice (some ⟨bk,ok,none⟩) kn kc)) (h2:j<kn) :
    ∃ e L'',d=e+1∧kn=c'.kids.length∧Bent w X D c L bk (ok+j*4) e (c'.kids.getD j CN.zero) L'':=by
 obtain ⟨e,L'',rfl,hl,hs,hm,z,A⟩:=h.sub.kid h1 h2;obtain ⟨n1,n2⟩:=A h.snd;refine ⟨e,L'',rfl,hl,h.own,h.nd,h.nm,h.path.snoc h1 h2,hs,fun x hx=>h.sin x (z x hx),n1,n2,.inr (h.sin _ hm),fun u hu=>?_,?_⟩
 · obtain ⟨n,xs,q1,q2,q3⟩:=h.wh _ h1
   have E:ok=0∧n=kn:=by
    rcases q1.2 with ⟨q,_⟩ | ⟨g,F,cur,q,_⟩
    · simp at q
    simp only [Value.slice.injEq,Option.some.injEq,Addr.mk.injEq,and_true] at q;exact ⟨q.1.2,q.2.1.symm⟩
   obtain ⟨rfl,rfl⟩:=E;refine q3 j u ?_;rw [← hu,Nat.zero_add];have hw:w.ownsRow 0 37 4 (.slice (some ⟨bk,0,none⟩) n kc) n xs:=q1;exact (hw.cellAt (j*4+3) (by omega)).symm
 have hb:=h.bulk;have:=getD_bulk_le c'.kids j (by omega);have:=c'.bulk_eq;omega
theorem least_of {P:Nat→Prop}:∀ {n:Nat},P n→∃ k,P k∧∀ m,P m→k≤m:=by
 intro n
 induction n using Nat.strongRecOn with
 | _ n ih =>
  intro h;by_cases hq:∃ m,m<n∧P m
  · obtain ⟨m,hm,hp⟩:=hq;exact ih m hm hp
  exact ⟨n,h,fun m hm=>Nat.le_of_not_lt (fun hl=>hq ⟨m,hl,hm⟩)⟩
open Classical in
noncomputable def dmin (P:Nat→Prop):Nat:=if h:∃ k,P k∧∀ m,P m→k≤m then Classical.choose h else 0
theorem dmin_spec {P:Nat→Prop} {n:Nat} (h:P n):P (dmin P)∧dmin P≤n:=by
 have hl:=least_of h;unfold dmin;rw [dif_pos hl];exact ⟨(Classical.choose_spec hl).1,(Classical.choose_spec hl).2 n h⟩
noncomputable def dep (X D:Nat) (c:CN) (L:List (Addr × IntKind)) (w:World) (v:Value):Nat:=dmin (fun d=>∃ b o c' L',v=.pointer (some ⟨b,o,none⟩)∧Bent w X D c L b o d c' L')
theorem dep_spec {X D:Nat} {c:CN} {L:List (Addr × IntKind)} {w:World} {b o d:Nat} {c':CN} {L':List (Addr × IntKind)} (h:Bent w X D c L b o d c' L') :
    (∃ c' L',Bent w X D c L b o (dep X D c L w (.pointer (some ⟨b,o,none⟩))) c' L')∧dep X D c L w (.pointer (some ⟨b,o,none⟩))≤d:=by
 have:=dmin_spec (P:=fun d=>∃ b' o' c' L',Value.pointer (some ⟨b,o,none⟩)=.pointer (some ⟨b',o',none⟩)∧Bent w X D c L b' o' d c' L') ⟨b,o,c',L',rfl,h⟩;obtain ⟨⟨b',o',c1,L1,e,hB⟩,h2⟩:=this;simp only [Value.pointer.injEq,Option.some.injEq,Addr.mk.injEq,and_true] at e;obtain ⟨rfl,rfl⟩:=e;exact ⟨⟨c1,L1,hB⟩,h2⟩
end

end Go.Proofs.YtocpeiaolofodaaGreat
