/- Several texts in one: ConMark, OwnT, SpecToks, ImplTok1, ImplTok2. -/
import Derived.Test.YtnmljalcndfjmaaGreatNG1
import Derived.Test.YtnmljalcndfjmaaGreatNG3
import Derived.Test.YtnmljalcndfjmaaGreatNG4
import Derived.Deep.DeepCutAuto
import Derived.RangeFuncNested
import Derived.RangeFuncBound
import Derived.RangeFuncCalls
import Derived.RangeFuncLeaves
import Derived.RangeFuncBox
import Derived.Shelf.Abstract
import Derived.Shelf.RegionOpen
import Derived.OwnWalkIn
import Derived.TacticsInMore
import Derived.LoopNIn
import Derived.LoopIn
namespace Go.Proofs.YtnmljalcndfjmaaGreat

section
open Go.RowKit
structure MarkRel (lo hi:Nat) (w w':World):Prop where
 os:w'.os=w.os
 tape:w'.tape=w.tape
 output:w'.output=w.output
 size:w.heap.size≤w'.heap.size
 out:∀ b,b<w.heap.size→(b<lo∨hi≤b)→w'.heap[b]?=w.heap[b]?
 cell:∀ (p:Addr) (v:Value),w.cell? p=some v→w'.cell? p=some v∨∃ kd m m',v=.int kd m∧w'.cell? p=some (.int kd m')
 frz:∀ p:Addr,p.block<w.heap.size→w'.frozen? p=w.frozen? p
theorem MarkRel.refl (lo hi:Nat) (w:World):MarkRel lo hi w w:=⟨rfl,rfl,rfl,Nat.le_refl _,fun _ _ _=>rfl,fun _ _ h=>.inl h,fun _ _=>rfl⟩
theorem MarkRel.trans {lo hi:Nat} {a b c:World} (h:MarkRel lo hi a b) (k:MarkRel lo hi b c):MarkRel lo hi a c:=by
 refine ⟨k.os.trans h.os,k.tape.trans h.tape,k.output.trans h.output,Nat.le_trans h.size k.size,fun x h1 h2=>(k.out x (Nat.lt_of_lt_of_le h1 h.size) h2).trans (h.out x h1 h2),fun p v hp=>?_,fun p hp=>(k.frz p (Nat.lt_of_lt_of_le hp h.size)).trans (h.frz p hp)⟩;rcases h.cell p v hp with h1 | ⟨kd,m,m',e,h1⟩
 · exact k.cell p v h1
 rcases k.cell p _ h1 with h2 | ⟨A,m2,y,e2,h2⟩
 · exact .inr ⟨kd,m,m',e,h2⟩
 simp only [Value.int.injEq] at e2;obtain ⟨rfl,_⟩:=e2;exact .inr ⟨kd,m,y,e,h2⟩
theorem MarkRel.of_below {lo hi:Nat} {w w':World} (h:Below w.heap.size w w'):MarkRel lo hi w w' :=
 ⟨h.os,h.tape,h.output,h.size,fun b h1 _=>h.block b h1,fun p _ hp=>.inl ((h.cell (p:=p) (block_lt_of_cell hp)).trans hp),fun p hp=>World.frozen?_of_block (w:=w) (h.block p.block hp)⟩
theorem MarkRel.set {lo hi:Nat} {w:World} {a:Addr} {kd:IntKind} {m:Int} (h:w.cell? a=some (.int kd m)) (h1:lo≤a.block) (h2:a.block<hi) (m':Int):MarkRel lo hi w (w.setCell a (.int kd m')):=by
 have hb:=(Below.refl a.block w).setCell (p:=a) (Nat.le_refl _) (.int kd m');refine ⟨hb.os,hb.tape,hb.output,hb.size,fun b _ D=>Below.heap_setCell w a _ b (by omega),fun p v hp=>?_,fun p _=>by simp⟩;by_cases e:a=p
 · subst e;rw [h] at hp;cases hp;exact .inr ⟨kd,m,m',rfl,World.cell?_setCell_same _ _ _ h⟩
 exact .inl (by rw [World.cell?_setCell_other _ _ _ _ e];exact hp)
theorem MarkRel.keep {lo hi:Nat} {w w':World} (h:MarkRel lo hi w w') {p:Addr} {v:Value} (hp:w.cell? p=some v) (hv:∀ kd m,v≠.int kd m):w'.cell? p=some v:=by
 rcases h.cell p v hp with h1 | ⟨kd,m,_,e,_⟩
 · exact h1
 exact absurd e (hv kd m)
theorem MarkRel.int {lo hi:Nat} {w w':World} (h:MarkRel lo hi w w') {p:Addr} {kd:IntKind} {m:Int} (hp:w.cell? p=some (.int kd m)):∃ m',w'.cell? p=some (.int kd m'):=by
 rcases h.cell p _ hp with h1 | ⟨kd',m1,m',e,h1⟩
 · exact ⟨m,h1⟩
 simp only [Value.int.injEq] at e;obtain ⟨rfl,_⟩:=e;exact ⟨m',h1⟩
structure ShB (lo hi:Nat) (w:World) (a:Option Addr) (n q:Nat):Prop where
 fits:n≤q∧q≤9223372036854775807
 cells:n=0∨∃ b off,a=some ⟨b,off,none⟩∧lo≤b∧b<hi∧∀ i,i<n→∃ z,w.cell? ⟨b,off+i,none⟩=some (.int .u8 z)
theorem Rd.sh {lo hi:Nat} {w:World} {a:Option Addr} {n q:Nat} {zs:List Int} (h:Rd lo hi w a n q zs):ShB lo hi w a n q:=by
 obtain ⟨_,hm,_,hc⟩:=h;refine ⟨hm,?_⟩;rcases hc with h0 | ⟨b,off,e,h1,h2,hc⟩
 · exact .inl h0
 exact .inr ⟨b,off,e,h1,h2,fun i hi=>⟨_,hc i hi⟩⟩
def ShC (lo hi:Nat) (w:World):Nat→Value→CN→Prop
 | 0,_,_=>False
 | d+1,v,c=>∃ k na nn nc ra rn rc ka kn kc,v=.agg #[.int .i64 k,.slice na nn nc,.slice ra rn rc,.slice ka kn kc] ∧
     c.name.length=nn∧ShB lo hi w na nn nc∧c.role.length=rn∧ShB lo hi w ra rn rc∧RdL (ShC lo hi w d) lo hi w ka kn kc c.kids
theorem RdC.sh {lo hi:Nat} {w:World}:∀ {d:Nat} {v:Value} {c:CN},RdC lo hi w d v c→ShC lo hi w d v c:=by
 intro d
 induction d with
 | zero=>intro v c h;exact h
 | succ d ih =>
  intro v c h;obtain ⟨na,nn,nc,ra,rn,rc,ka,kn,kc,hv,h1,h2,h3⟩:=h;exact ⟨_,na,nn,nc,ra,rn,rc,ka,kn,kc,hv,h1.len,h1.sh,h2.len,h2.sh,h3.imp (fun v c h=>ih h) (Same.refl _ _ _) (Nat.le_refl _) (Nat.le_refl _)⟩
theorem ShC.form {lo hi:Nat} {w:World} {d:Nat} {v0 v1 v2 v3:Value} {c:CN} (h:ShC lo hi w d (.agg #[v0,v1,v2,v3]) c):∃ k na nn nc ra rn rc ka kn kc,v0=.int .i64 k∧v1=.slice na nn nc∧v2=.slice ra rn rc∧v3=.slice ka kn kc:=by
 cases d with
 | zero=>exact h.elim
 | succ d =>
  obtain ⟨k,na,nn,nc,ra,rn,rc,ka,kn,kc,hv,_⟩:=h;simp only [Value.agg.injEq,Array.mk.injEq,List.cons.injEq,and_true] at hv;exact ⟨k,na,nn,nc,ra,rn,rc,ka,kn,kc,hv.1,hv.2.1,hv.2.2.1,hv.2.2.2⟩
end

section
open Go.RowKit
def txv (t:Tok) (g:Nat × Nat):Value:=if t.text=[] then .slice none 0 0 else .slice (some ⟨g.1,0,none⟩) t.text.length g.2
def flatT:List Tok→List (Nat × Nat)→List Value
 | t :: ts,g :: gs=>.int .i64 t.kind :: .int .i64 t.place :: txv t g :: flatT ts gs
 | _,_=>[]
theorem flatT_snoc:∀ (ts:List Tok) (gs:List (Nat × Nat)) (t:Tok) (g:Nat × Nat),gs.length=ts.length→flatT (ts++[t]) (gs++[g])=flatT ts gs++[.int .i64 t.kind,.int .i64 t.place,txv t g]
 | [],[],t,g,_=>rfl
 | [],_ :: _,_,_,h=>by simp at h
 | _ :: _,[],_,_,h=>by simp at h
 | t0 :: ts,g0 :: gs,t,g,h=>by
  simp only [List.cons_append,flatT];rw [flatT_snoc ts gs t g (by simpa using h)]
theorem flatT_get:∀ (ts:List Tok) (gs:List (Nat × Nat)) (i:Nat),gs.length=ts.length→i<ts.length →
    (flatT ts gs)[i*3]?=some (.int .i64 (ts.getD i Tok.zero).kind)∧(flatT ts gs)[i*3+1]?=some (.int .i64 (ts.getD i Tok.zero).place)∧(flatT ts gs)[i*3+2]?=some (txv (ts.getD i Tok.zero) (gs.getD i (0,0)))
 | [],_,_,_,hi=>by simp at hi
 | _ :: _,[],_,h,_=>by simp at h
 | t0 :: ts,g0 :: gs,0,_,_=>by simp [flatT]
 | t0 :: ts,g0 :: gs,i+1,h,hi=>by
  obtain ⟨h0,h1,h2⟩:=flatT_get ts gs i (by simpa using h) (by simpa using hi);have e:(i+1)*3=i*3+1+1+1:=by omega
  have e1:(i+1)*3+1=i*3+1+1+1+1:=by omega
  have e2:(i+1)*3+2=i*3+2+1+1+1:=by omega
  refine ⟨?_,?_,?_⟩
  · rw [e];simpa [flatT] using h0
  · rw [e1];simpa [flatT] using h1
  rw [e2];simpa [flatT] using h2
structure OwnT (base:Nat) (w:World) (v:Value) (ts:List Tok) (gs:List (Nat × Nat)):Prop where
 len:gs.length=ts.length
 row:w.ownsRow base 176 3 v ts.length (flatT ts gs)
 txt:∀ i,i<ts.length→(ts.getD i Tok.zero).text≠[]→base≤(gs.getD i (0,0)).1∧Row w (gs.getD i (0,0)).1 (gs.getD i (0,0)).2 (ts.getD i Tok.zero).text∧(gs.getD i (0,0)).2≤9223372036854775807
 byte:∀ i,i<ts.length→∀ j,0≤(ts.getD i Tok.zero).text.getD j 0∧(ts.getD i Tok.zero).text.getD j 0≤255
 dist:∀ i j,i<j→j<ts.length→(ts.getD i Tok.zero).text≠[]→(ts.getD j Tok.zero).text≠[]→(gs.getD i (0,0)).1≠(gs.getD j (0,0)).1
theorem OwnT.nil (base:Nat) (w:World):OwnT base w (.slice none 0 0) [] [] :=
 ⟨rfl,World.ownsRow_nil _ _ _ _,fun i hi=>by simp at hi,fun i hi=>by simp at hi,fun i j _ hj=>by simp at hj⟩
theorem owns_of_blocks {w w':World} {base e size n:Nat} {v:Value} {xs:List Value} (h:w.ownsRow base e size v n xs) (hs:∀ g,g<w.heap.size→w'.heap[g]?=w.heap[g]?):w'.ownsRow base e size v n xs:=by
 obtain ⟨h1,h2⟩:=h;refine ⟨h1,?_⟩;rcases h2 with h2 | ⟨g,G,cur,hv,hg,hh,r⟩
 · exact .inl h2
 exact .inr ⟨g,G,cur,hv,hg,by rw [hs g (Array.getElem?_eq_some_iff.1 hh).1];exact hh,r⟩
theorem OwnT.below {base:Nat} {w w':World} {v:Value} {ts:List Tok} {gs:List (Nat × Nat)} (h:OwnT base w v ts gs) (hb:Below w.heap.size w w'):OwnT base w' v ts gs:=by
 obtain ⟨h1,h2,h3,h4,h5⟩:=h;exact ⟨h1,owns_of_blocks h2 (fun g hg=>hb.block g hg),fun i hi ht=>⟨(h3 i hi ht).1,(h3 i hi ht).2.1.below hb (h3 i hi ht).2.1.lt,(h3 i hi ht).2.2⟩,h4,h5⟩
theorem getD_snoc_lt {α:Type} (l:List α) (x d:α) (i:Nat) (h:i<l.length):(l++[x]).getD i d=l.getD i d:=by rw [List.getD,List.getElem?_append_left h,List.getD]
theorem getD_snoc_eq {α:Type} (l:List α) (x d:α):(l++[x]).getD l.length d=x:=by simp [List.getD]
theorem OwnT.snoc {base:Nat} {w w1:World} {v v':Value} {ts:List Tok} {gs:List (Nat × Nat)} (h:OwnT base w v ts gs) (t:Tok) (g:Nat × Nat)
    (ht:t.text≠[]→base≤g.1∧Row w g.1 g.2 t.text∧g.2≤9223372036854775807) (a3:∀ j,0≤t.text.getD j 0∧t.text.getD j 0≤255)
    (hd:t.text≠[]→∀ i,i<ts.length→(ts.getD i Tok.zero).text≠[]→(gs.getD i (0,0)).1≠g.1)
    (U:w1.ownsRow base 176 3 v' (ts.length+1) (flatT ts gs++[.int .i64 t.kind,.int .i64 t.place,txv t g])) (J:w.grownBy w1 v.ownBlock):OwnT base w1 v' (ts++[t]) (gs++[g]):=by
 obtain ⟨h1,h2,h3,h4,h5⟩:=h
 have keep:∀ x c zs,Row w x c zs→Row w1 x c zs:=by
  intro x c zs hr;refine hr.of_block (J.block x hr.lt (fun e=>?_));obtain ⟨c',Z,_⟩:=hr;rcases h2.2 with ⟨rfl,_⟩ | ⟨g',G,cur,rfl,_,hh,_⟩
  · simp [Value.ownBlock] at e
  simp [Value.ownBlock] at e;rw [e,hh] at Z;simp at Z
 refine ⟨by simp [h1],?_,?_,?_,?_⟩
 · rw [flatT_snoc ts gs t g h1];simpa using U
 · intro i hi E;simp only [List.length_append,List.length_cons,List.length_nil] at hi;by_cases e:i<ts.length
   · rw [getD_snoc_lt _ _ _ _ e] at E ⊢;rw [getD_snoc_lt _ _ _ _ (by omega)];exact ⟨(h3 i e E).1,keep _ _ _ (h3 i e E).2.1,(h3 i e E).2.2⟩
   have e':i=ts.length:=by omega
   subst e';rw [getD_snoc_eq] at E ⊢;rw [← h1,getD_snoc_eq];exact ⟨(ht E).1,keep _ _ _ (ht E).2.1,(ht E).2.2⟩
 · intro i hi;simp only [List.length_append,List.length_cons,List.length_nil] at hi;by_cases e:i<ts.length
   · rw [getD_snoc_lt _ _ _ _ e];exact h4 i e
   have e':i=ts.length:=by omega
   subst e';rw [getD_snoc_eq];exact a3
 intro i j V hj O N;simp only [List.length_append,List.length_cons,List.length_nil] at hj;rw [getD_snoc_lt _ _ _ _ (by omega)] at O;rw [getD_snoc_lt _ _ _ i (by omega)];by_cases e:j<ts.length
 · rw [getD_snoc_lt _ _ _ _ e] at N;rw [getD_snoc_lt _ _ _ _ (by omega)];exact h5 i j V e O N
 have e':j=ts.length:=by omega
 subst e';rw [getD_snoc_eq] at N;rw [← h1,getD_snoc_eq];exact hd N i (by omega) O
def txOf (ts:List Tok) (gs:List (Nat × Nat)) (i:Nat):Nat × Nat × Nat:=((gs.getD i (0,0)).1,0,(ts.getD i Tok.zero).text.length)
theorem txv_nil {t:Tok} (g:Nat × Nat) (h:t.text=[]):txv t g=.slice none 0 0:=by unfold txv;rw [if_pos h]
theorem txv_cons {t:Tok} (g:Nat × Nat) (h:t.text≠[]):txv t g=.slice (some ⟨g.1,0,none⟩) t.text.length g.2:=by unfold txv;rw [if_neg h]
theorem txv_form (t:Tok) (g:Nat × Nat):∃ a c,txv t g=.slice a t.text.length c:=by
 unfold txv
 split
 · rename_i h;exact ⟨none,0,by rw [h];rfl⟩
 exact ⟨_,_,rfl⟩
theorem OwnT.rd {base:Nat} {w:World} {v:Value} {ts:List Tok} {gs:List (Nat × Nat)} (h:OwnT base w v ts gs) :
    ∃ a G,v=.slice a ts.length G∧RdT base w.heap.size w a ts.length G ts:=by
 obtain ⟨h1,h2,h3,h4,h5⟩:=h;rcases h2.2 with ⟨hv,h0⟩ | ⟨g,G,cur,hv,hg,hh,Y,T,a2,a1⟩
 · exact ⟨none,0,by rw [hv,h0],⟨rfl,⟨by omega,by omega⟩,.inl h0⟩⟩
 subst hv;unfold maxLen at T;refine ⟨_,_,rfl,⟨rfl,⟨Y,T⟩,.inr ⟨g,0,rfl,hg,(Array.getElem?_eq_some_iff.1 hh).1,fun i hi=>?_⟩⟩⟩;obtain ⟨f0,f1,f2⟩:=flatT_get ts gs i h1 hi;simp only [Nat.zero_add];rw [h2.cellAt (i*3) (by omega),h2.cellAt (i*3+1) (by omega),h2.cellAt (i*3+2) (by omega),f0,f1,f2];by_cases ht:(ts.getD i Tok.zero).text=[]
 · refine ⟨none,0,0,rfl,rfl,by rw [txv_nil _ ht],?_⟩;rw [ht];exact Rd.none_of (by omega)
 obtain ⟨t1,t2,t3⟩:=h3 i hi ht;exact ⟨_,_,_,rfl,rfl,by rw [txv_cons _ ht],t2.rd rfl (h4 i hi) t3 t1 t2.lt⟩
theorem mem_leafT {b off:Nat} {tx:Nat→Nat × Nat × Nat} {n:Nat} {x:Addr × IntKind} (h:x∈leafT b off tx n) :
    ∃ i,i<n∧(x=(⟨b,off+i*3,none⟩,.i64)∨x=(⟨b,off+i*3+1,none⟩,.i64)∨∃ j,j<(tx i).2.2∧x=(⟨(tx i).1,(tx i).2.1+j,none⟩,.u8)):=by
 simp only [leafT,List.mem_flatMap,List.mem_range,List.mem_cons,leafB,List.mem_map] at h;obtain ⟨i,hi,h⟩:=h;refine ⟨i,hi,?_⟩;rcases h with h | h | ⟨j,hj,h⟩
 · exact .inl h
 · exact .inr (.inl h)
 exact .inr (.inr ⟨j,hj,h.symm⟩)
theorem OwnT.leaf {base:Nat} {w:World} {v:Value} {ts:List Tok} {gs:List (Nat × Nat)} (h:OwnT base w v ts gs) (I:∀ i,(ts.getD i Tok.zero).text.length≤1048576) :
    ∃ a G b,v=.slice a ts.length G∧(ts.length=0∨a=some ⟨b,0,none⟩)∧HeadT w b 0 (txOf ts gs) ts.length∧LeafOk w (leafT b 0 (txOf ts gs) ts.length) ∧
     ((leafT b 0 (txOf ts gs) ts.length).map (·.1)).Nodup∧∀ x∈leafT b 0 (txOf ts gs) ts.length,base≤x.1.block∧x.1.block<w.heap.size:=by
 obtain ⟨h1,h2,h3,h4,h5⟩:=h;rcases h2.2 with ⟨hv,h0⟩ | ⟨g,G,cur,hv,hg,hh,Y,T,a2,a1⟩
 · refine ⟨none,0,0,by rw [hv,h0],.inl h0,?_,?_,?_,?_⟩
   · intro i hi;omega
   · rw [h0];intro x hx;simp [leafT] at hx
   · rw [h0];simp [leafT]
   rw [h0];intro x hx;simp [leafT] at hx
 subst hv;have X:=(Array.getElem?_eq_some_iff.1 hh).1
 have F:∀ i,i<ts.length→w.cell? ⟨g,i*3,none⟩=some (.int .i64 (ts.getD i Tok.zero).kind)∧w.cell? ⟨g,i*3+1,none⟩=some (.int .i64 (ts.getD i Tok.zero).place)∧w.cell? ⟨g,i*3+2,none⟩=some (txv (ts.getD i Tok.zero) (gs.getD i (0,0))):=by
  intro i hi;obtain ⟨f0,f1,f2⟩:=flatT_get ts gs i h1 hi;rw [h2.cellAt (i*3) (by omega),h2.cellAt (i*3+1) (by omega),h2.cellAt (i*3+2) (by omega)];exact ⟨f0,f1,f2⟩
 have E:∀ i,i<ts.length→(ts.getD i Tok.zero).text≠[]→(gs.getD i (0,0)).1≠g:=by
  intro i hi ht e;obtain ⟨_,⟨c,hc,_⟩,_⟩:=h3 i hi ht;rw [e,hh] at hc;simp at hc
 have D:∀ i j,j<(txOf ts gs i).2.2→(ts.getD i Tok.zero).text≠[]:=by
  intro i j hj e;simp only [txOf] at hj;rw [e] at hj;simp at hj
 refine ⟨_,_,g,rfl,.inr rfl,?_,?_,?_,?_⟩
 · intro i hi;simp only [Nat.zero_add];by_cases ht:(ts.getD i Tok.zero).text=[]
   · refine ⟨none,0,?_,.inl (by simp only [txOf];rw [ht];rfl),I i⟩;rw [(F i hi).2.2,txv_nil _ ht];simp only [txOf];rw [ht];rfl
   exact ⟨_,_,by rw [(F i hi).2.2,txv_cons _ ht];rfl,.inr rfl,I i⟩
 · intro x hx;obtain ⟨i,hi,e | e | ⟨j,hj,e⟩⟩:=mem_leafT hx
   · subst e;simp only [Nat.zero_add];exact ⟨⟨_,(F i hi).1⟩,h2.frozenAt _⟩
   · subst e;simp only [Nat.zero_add];exact ⟨⟨_,(F i hi).2.1⟩,h2.frozenAt _⟩
   subst e;obtain ⟨_,hr,_⟩:=h3 i hi (D i j hj);simp only [txOf,Nat.zero_add] at hj ⊢;exact ⟨⟨_,hr.cell hj⟩,hr.frozen _⟩
 · have a0:∀ n,n≤ts.length→((leafT g 0 (txOf ts gs) n).map (·.1)).Nodup:=by
    intro n
    induction n with
    | zero=>intro _;simp [leafT]
    | succ n ih =>
     intro hn;rw [leafT_succ,List.map_append,List.nodup_append];refine ⟨ih (by omega),?_,?_⟩
     · simp only [List.map_cons,List.nodup_cons,leafB,List.map_map,List.mem_cons,List.mem_map,List.mem_range,Function.comp];refine ⟨?_,?_,?_⟩
       · rintro (h | ⟨j,hj,h⟩)
         · simp at h
         simp only [Addr.mk.injEq] at h;exact E n (by omega) (D n j hj) h.1
       · rintro ⟨j,hj,h⟩;simp only [Addr.mk.injEq] at h;exact E n (by omega) (D n j hj) h.1
       rw [List.nodup_iff_pairwise_ne,List.pairwise_iff_getElem];intro i j hi hj V;simp <;> omega
     intro p hp q hq e;subst e;simp only [List.mem_map] at hp hq;obtain ⟨x,hx,rfl⟩:=hp;obtain ⟨y,hy,H⟩:=hq;obtain ⟨i,hi,hx⟩:=mem_leafT hx;simp only [List.mem_cons,leafB,List.mem_map,List.mem_range] at hy;rcases hx with rfl | rfl | ⟨j,hj,rfl⟩ <;> rcases hy with rfl | rfl | ⟨j',R,rfl⟩ <;> simp only [Addr.mk.injEq] at H
     · omega
     · omega
     · exact E n (by omega) (D n j' R) H.1
     · omega
     · omega
     · exact E n (by omega) (D n j' R) H.1
     · exact E i (by omega) (D i j hj) H.1.symm
     · exact E i (by omega) (D i j hj) H.1.symm
     exact h5 i n hi (by omega) (D i j hj) (D n j' R) H.1.symm
   exact a0 _ (Nat.le_refl _)
 intro x hx;obtain ⟨i,hi,e | e | ⟨j,hj,e⟩⟩:=mem_leafT hx
 · subst e;exact ⟨hg,X⟩
 · subst e;exact ⟨hg,X⟩
 subst e;obtain ⟨hb,hr,_⟩:=h3 i hi (D i j hj);exact ⟨hb,hr.lt⟩
end

section
open Go.RowKit
theorem toksFrom_stop (zs:List Int) (f i:Nat) (I:List Tok) (h:zs.length≤i):toksFrom zs f i I=(I,-1):=by
 cases f with
 | zero=>rfl
 | succ f=>rw [toksFrom,if_neg (by omega)]
theorem toksFrom_blank (zs:List Int) (f i:Nat) (I:List Tok) (h:i<zs.length) (hb:blankB (zs.getD i 0)=true):toksFrom zs (f+1) i I=toksFrom zs f (i+1) I:=by
 rw [toksFrom,if_pos h,if_pos hb]
theorem toksFrom_bad (zs:List Int) (f i:Nat) (I:List Tok) (h:i<zs.length) (hb:blankB (zs.getD i 0)=false) (hk:kindOf (piece zs i)=0):toksFrom zs (f+1) i I=([],(i:Int)):=by
 rw [toksFrom,if_pos h,if_neg (by rw [hb];exact Bool.false_ne_true),if_pos hk]
theorem toksFrom_tok (zs:List Int) (f i:Nat) (I:List Tok) (h:i<zs.length) (hb:blankB (zs.getD i 0)=false) (hk:kindOf (piece zs i)≠0):toksFrom zs (f+1) i I=toksFrom zs f (pend zs i) (I++[tokAt zs i]):=by
 rw [toksFrom,if_pos h,if_neg (by rw [hb];exact Bool.false_ne_true),if_neg hk]
structure OneAt (zs:List Int) (i:Nat) (w w':World) (kd:Int) (tv:Value) (e:Nat) (ok:Bool) (g:Nat × Nat):Prop where
 bel:Below w.heap.size w w'
 stop:e=pend zs i
 okv:ok=!(kindOf (piece zs i) == 0)
 good:ok=true→kd=(tokAt zs i).kind∧tv=txv (tokAt zs i) g
 mem:ok=true→(tokAt zs i).text≠[]→w.heap.size≤g.1∧Row w' g.1 g.2 (tokAt zs i).text∧g.2≤9223372036854775807
 form:∃ a n c,tv=.slice a n c
theorem l1one_any (a:Option Addr) (n G:Nat) (zs:List Int) (i:Nat) (w:World) {lo hi:Nat} (h:Rd lo hi w a n G zs) (Y:hi≤w.heap.size) (a7:i<n) (a2:n≤1048576) :
    Calls Tryz.prog 155 #[.slice a n G,.int .i64 i] w fun e w'=>∃ kd tv st ok g,e=.returned (.tuple #[.agg #[.int .i64 kd,.int .i64 i,tv],.int .i64 (st:Nat),.bool ok])∧OneAt zs i w w' kd tv st ok g:=by
 have hl:=h.len;by_cases h40:zs.getD i 0=40
 · obtain ⟨hp,he⟩:=piece_open zs i (by omega) h40;refine (l1one_open a n G zs i w h Y a7 h40).mono fun e w' ⟨Z,hb⟩=>?_
   refine ⟨3,.slice none 0 0,i+1,true,(0,0),by rw [Z];simp,hb,he.symm,?_,?_,?_,⟨_,_,_,rfl⟩⟩
   · rw [hp,kind_open];rfl
   · intro _;simp only [tokAt,hp,kind_open];exact ⟨trivial,by simp [txv]⟩
   intro _ h;simp [tokAt,hp,kind_open] at h
 by_cases h41:zs.getD i 0=41
 · obtain ⟨hp,he⟩:=piece_close zs i (by omega) h41;refine (l1one_close a n G zs i w h Y a7 h41).mono fun e w' ⟨Z,hb⟩=>?_
   refine ⟨4,.slice none 0 0,i+1,true,(0,0),by rw [Z];simp,hb,he.symm,?_,?_,?_,⟨_,_,_,rfl⟩⟩
   · rw [hp,kind_close];rfl
   · intro _;simp only [tokAt,hp,kind_close];exact ⟨trivial,by simp [txv]⟩
   intro _ h;simp [tokAt,hp,kind_close] at h
 refine (l1one_word a n G zs i w h Y a7 h40 h41 a2).mono fun e w' ⟨g,c,Z,hb,hg,hr,hc⟩=>?_
 have a6:(piece zs i).getD 0 0=zs.getD i 0:=by rw [piece_getD zs i 0 (by omega) (by have:=pend_gt zs i;omega)];rfl
 have hk:=kind_word (piece zs i) (by rw [a6];exact h40) (by rw [a6];exact h41);have a5:=piece_length zs i (by omega);have ar:=pend_gt zs i;have ak:piece zs i≠[]:=fun e=>by rw [e] at a5;simp at a5;omega
 have U:wordKind (zs.getD i 0)=1∨wordKind (zs.getD i 0)=2:=by unfold wordKind;split <;> simp
 rw [a6] at hk;refine ⟨_,_,pend zs i,_,(g,c),Z,hb,rfl,?_,?_,?_,⟨_,_,_,rfl⟩⟩
 · rw [hk];cases a4:wordOk (piece zs i)
   · simp
   rw [if_pos rfl];rcases U with e | e <;> rw [e] <;> rfl
 · intro a4;rw [if_pos a4] at hk;have ht:(tokAt zs i).text=piece zs i:=by simp only [tokAt];rw [hk,if_pos U]
   refine ⟨by simp only [tokAt];rw [hk],?_⟩;rw [txv_cons _ (by rw [ht];exact ak),ht,a5]
 intro a4 _;rw [if_pos a4] at hk;have ht:(tokAt zs i).text=piece zs i:=by simp only [tokAt];rw [hk,if_pos U]
 exact ⟨hg,by rw [ht];exact hr,hc⟩
theorem Tryz.infoTok3:(Tryz.prog.info? 176).map (fun i=>(i.zero,i.size,i.bytes))=some (some (.agg #[.int .i64 0,.int .i64 0,.slice none 0 0]),3,40):=by kernel_rfl
theorem new3 (w:World) (g:Nat) (x y z:Value) (t:Nat) (hg:g=w.heap.size):∀ j u,[x,y,z][j]?=some u→(w.alloc (.cells #[x,y,z] t)).cell? ((⟨g,0,none⟩:Addr).add j)=some u:=by
 intro j u hu;subst hg;rw [Addr.add_lit]
 match j,hu with
 | 0,hu=>simp at hu;subst hu;simp
 | 1,hu=>simp at hu;subst hu;simp
 | 2,hu=>simp at hu;subst hu;simp
theorem one3 (kd k:Int) (ta:Option Addr) (tn tc:Nat):∀ u∈[Value.int .i64 kd,.int .i64 k,.slice ta tn tc],u.oneCell'=true:=by
 intro u hu;simp at hu;rcases hu with rfl | rfl | rfl <;> rfl
theorem piece_byte {zs:List Int} (h:∀ i,0≤zs.getD i 0∧zs.getD i 0≤255) (k:Nat):∀ j,0≤(piece zs k).getD j 0∧(piece zs k).getD j 0≤255:=by
 intro j;have:=h (k+j);simp only [piece,List.getD,List.getElem?_take,List.getElem?_drop] at this ⊢
 split
 · exact this
 simp
theorem step_tok {w0 wr W w2:World} {u v':Value} {ts:List Tok} {gs:List (Nat × Nat)} {zs:List Int} {k:Nat} {kd:Int} {tv:Value} {g:Nat × Nat}
    (hO:OwnT w0.heap.size W u ts gs) (hB:Below w0.heap.size w0 W) (hG:kd=(tokAt zs k).kind∧tv=txv (tokAt zs k) g)
    (hM:(tokAt zs k).text≠[]→w0.heap.size≤g.1∧wr.heap.size≤g.1∧Row W g.1 g.2 (tokAt zs k).text∧g.2≤9223372036854775807)
    (hS:∀ i,i<ts.length→(ts.getD i Tok.zero).text≠[]→(gs.getD i (0,0)).1<wr.heap.size) (a1:∀ i,0≤zs.getD i 0∧zs.getD i 0≤255)
    (E:w2.ownsRow w0.heap.size 176 3 v' (ts.length+1) (flatT ts gs++[.int .i64 kd,.int .i64 k,tv])) (D:W.grownBy w2 u.ownBlock) :
    ∃ g' cap',v'=.slice (some ⟨g',0,none⟩) (ts.length+1) cap'∧OwnT w0.heap.size w2 v' (ts++[tokAt zs k]) (gs++[g])∧Below w0.heap.size w0 w2:=by
 obtain ⟨rfl,rfl⟩:=hG
 have am:=hO.snoc (tokAt zs k) g (fun ht=>⟨(hM ht).1,(hM ht).2.2.1,(hM ht).2.2.2⟩) (by
     simp only [tokAt];split
     · exact piece_byte a1 k
     simp) (fun ht i hi aj=>by have:=hS i hi aj;have:=(hM ht).2.1;omega) E D
 have T:Below w0.heap.size w0 w2:=hB.grown D hB.size (fun x hx=>by
     rcases hO.row.2 with ⟨rfl,_⟩ | ⟨g1,av,cur,rfl,ay,_⟩
     · simp [Value.ownBlock] at hx
     simp [Value.ownBlock] at hx;omega)
 rcases E.2 with ⟨_,h0⟩ | ⟨g',cap',_,rfl,_⟩
 · omega
 exact ⟨g',cap',rfl,am,T⟩
set_option maxRecDepth 100000 in
set_option maxHeartbeats 1000000 in
theorem specTokens_any (a:Option Addr) (n G:Nat) (zs:List Int) (w:World) {lo hi:Nat} (h:Rd lo hi w a n G zs) (Y:hi≤w.heap.size) :
    Calls Tryz.prog 133 #[.slice a n G] w fun e w'=>∃ v gs,e=.returned (.tuple #[v,.int .i64 (toks zs).2])∧OwnT w.heap.size w' v (toks zs).1 gs∧Below w.heap.size w w':=by
 have H:Hid (Rd lo hi w a n G zs):=h;obtain ⟨hl,⟨hn,hm⟩,a1,a0⟩:=h;by_cases a2:1500<n
 · have HT:Hid (toks zs=([],0)):=by unfold Hid toks;rw [if_pos (by omega)]
   clear a1 a0 hl;go_enter Tryz.func133, Tryz.ntmps133;go_wp2;go_ret2;exact ⟨_,[],by rw [HT.out];rfl,by rw [HT.out];exact OwnT.nil _ _,Below.refl _ _⟩
 have HT:Hid (toks zs=toksFrom zs (n+1) 0 []):=by unfold Hid toks;rw [if_neg (by omega),hl]
 have HL:Hid (zs.length=n):=hl;have ao:Hid (∀ i,0≤zs.getD i 0∧zs.getD i 0≤255):=a1
 have a3:Hid (∀ k,k<n→∃ b off,a=some ⟨b,off,none⟩∧b<w.heap.size∧w.cell? ⟨b,off+k,none⟩=some (.int .u8 (zs.getD k 0))):=by
  intro k hk;rcases a0 with h0 | ⟨b,off,e,_,hb,a0⟩
  · omega
  exact ⟨b,off,e,by omega,a0 k hk⟩
 clear a1 a0 hl;obtain ⟨i0,al,ah,ag,af⟩:=info_parts Tryz.infoTok3;go_enter Tryz.func133, Tryz.ntmps133;go_wp2;go_loopw [4,5] (fun v i wr=>∃ (k f:Nat) (ts:List Tok) (gs:List (Nat × Nat)),k≤n∧n+1≤f+k∧i=.int .i64 k∧OwnT w.heap.size wr v ts gs∧Below w.heap.size w wr∧toksFrom zs f k ts=toks zs∧ts.length≤k) (fun _ i _=>n - (intOf i).toNat)
 case atStart=>exact ⟨0,n+1,[],[],Nat.zero_le _,by omega,rfl,OwnT.nil _ _,Below.refl _ _,HT.out.symm,by simp⟩
 case round =>
  obtain ⟨k,f,ts,gs,hk,hf,rfl,E,J,V,ax⟩:=hrel;have HO:Hid (OwnT w.heap.size wr _ ts gs):=E;have HB:Hid (Below w.heap.size w wr):=J;have HK:Hid (toksFrom zs f k ts=toks zs):=V;by_cases hlt:k<n
  · obtain ⟨b,off,ha,hb,a8⟩:=a3.out k hlt;obtain ⟨c,hc⟩:∃ c,c=zs.getD k 0:=⟨_,rfl⟩;rw [← hc] at a8;have HC:Hid (c=zs.getD k 0):=hc;have au:wr.cell? ⟨b,off+k,none⟩=some (.int .u8 c):=(J.cell (p:=⟨b,off+k,none⟩) hb).trans a8;obtain ⟨f',rfl⟩:∃ f',f=f'+1:=⟨f - 1,by omega⟩;clear E J V hc a8;subst ha;cases hb1:(c == 32)
    · cases T:(c == 10)
      · have ac:blankB (zs.getD k 0)=false:=by rw [← HC.out];simp [blankB,hb1,T]
        go_wp2_with fail;refine (l1one_any (some ⟨b,off,none⟩) n G zs k _ (H.out.below HB.out Y) (Nat.le_trans Y HB.out.size) hlt (by omega)).mono ?_;rintro e w1 ⟨kd,tv,st,ok,g,rfl,X⟩;obtain ⟨ta,tn,tc,rfl⟩:=X.form;have q:Hid (OneAt zs k wr w1 kd (.slice ta tn tc) st ok g):=X;clear X;cases ok
        · have HN:Hid (toks zs=([],(k:Int))):=by
           rw [← HK.out];exact toksFrom_bad zs f' k ts (by rw [HL.out];exact hlt) ac (by have:=q.out.okv;simpa using this.symm)
          go_wp2;go_ret2;exact ⟨_,[],by rw [HN.out];rfl,by rw [HN.out];exact OwnT.nil _ _,(HB.out.trans (q.out.bel.mono HB.out.size)).alloc (Nat.le_trans HB.out.size q.out.bel.size) _⟩
        have A:=q.out.stop;have HS:Hid (st=pend zs k):=A;have aq:k<st:=by rw [A];exact pend_gt zs k
        have aa:st≤n:=by rw [A,← HL.out];exact pend_le zs k (by rw [HL.out];exact hlt)
        have HN:Hid (toksFrom zs f' st (ts++[tokAt zs k])=toks zs):=by
         rw [← HK.out,A];exact (toksFrom_tok zs f' k ts (by rw [HL.out];exact hlt) ac (fun e=>by have:=q.out.okv;rw [e] at this;simp at this)).symm
        have R:=q.out.good rfl;have F:=q.out.mem rfl;have a9:Below wr.heap.size wr ((w1.alloc (Obj.cells #[Value.int IntKind.i64 kd,Value.int IntKind.i64 k,Value.slice ta tn tc] 176)).alloc (Obj.cells #[Value.int IntKind.i64 kd,Value.int IntKind.i64 k,Value.slice ta tn tc] 176)):=(q.out.bel.alloc q.out.bel.size _).alloc (by have:=q.out.bel.size;simp;omega) _;have ad:Hid (OwnT w.heap.size ((w1.alloc (Obj.cells #[Value.int IntKind.i64 kd,Value.int IntKind.i64 k,Value.slice ta tn tc] 176)).alloc (Obj.cells #[Value.int IntKind.i64 kd,Value.int IntKind.i64 k,Value.slice ta tn tc] 176)) u4 ts gs):=HO.out.below a9;have ae:Hid (Below w.heap.size w ((w1.alloc (Obj.cells #[Value.int IntKind.i64 kd,Value.int IntKind.i64 k,Value.slice ta tn tc] 176)).alloc (Obj.cells #[Value.int IntKind.i64 kd,Value.int IntKind.i64 k,Value.slice ta tn tc] 176))):=HB.out.trans (a9.mono HB.out.size);have an:Hid (∀ i,i<ts.length→(ts.getD i Tok.zero).text≠[]→(gs.getD i (0,0)).1<wr.heap.size):=fun i hi ht=>(HO.out.txt i hi ht).2.1.lt
        have HG:Hid (kd=(tokAt zs k).kind∧Value.slice ta tn tc=txv (tokAt zs k) g):=R
        have HM:Hid ((tokAt zs k).text≠[]→w.heap.size≤g.1∧wr.heap.size≤g.1∧Row ((w1.alloc (Obj.cells #[Value.int IntKind.i64 kd,Value.int IntKind.i64 k,Value.slice ta tn tc] 176)).alloc (Obj.cells #[Value.int IntKind.i64 kd,Value.int IntKind.i64 k,Value.slice ta tn tc] 176)) g.1 g.2 (tokAt zs k).text∧g.2≤9223372036854775807) :=
         fun ht=>⟨Nat.le_trans HB.out.size (F ht).1,(F ht).1,(F ht).2.1.allocOf.allocOf,(F ht).2.2⟩
        clear A a9 R F;go_wp2_with (at_builtin;refine wpList_append_own _ rfl (.tmp 40) (.tmp 42) 161 rfl w.heap.size 176 i0 (.agg #[.int .i64 0,.int .i64 0,.slice none 0 0]) 3 40 Tryz.underlying161 al ah ag af rfl (by decide) u4 ts.length (flatT ts gs) rfl ad.out.row ⟨w1.heap.size+1,0,none⟩ 1 1 [.int .i64 kd,.int .i64 k,.slice ta tn tc] rfl rfl (new3 _ _ _ _ _ _ (by simp)) (one3 _ _ _ _ _) (by unfold maxLen;omega) (by omega) ae.out.size ?_;intro v' w2 O D ab;obtain ⟨g',cap',ai,N,T⟩:=step_tok ad.out ae.out HG.out HM.out an.out ao.out O D;subst ai;have HF:Hid (OwnT w.heap.size w2 (.slice (some ⟨g',0,none⟩) (ts.length+1) cap') (ts++[tokAt zs k]) (gs++[g])):=N;have ap:Hid (Below w.heap.size w w2):=T;clear O D ab N T);go_roundw
        case rel=>exact ⟨st,f',ts++[tokAt zs k],gs++[g],aa,by omega,rfl,HF.out,ap.out,HN.out,by simp;omega⟩
        case measure=>simp [intOf];omega
      have HN:Hid (toksFrom zs f' (k+1) ts=toks zs):=by rw [← HK.out];exact (toksFrom_blank zs f' k ts (by rw [HL.out];exact hlt) (by rw [← HC.out];simp [blankB,T])).symm
      go_wp2;go_roundw
      case rel=>exact ⟨k+1,f',ts,gs,by omega,by omega,by go_num,HO.out,HB.out,HN.out,by omega⟩
      case measure=>simp [intOf];omega
    have HN:Hid (toksFrom zs f' (k+1) ts=toks zs):=by rw [← HK.out];exact (toksFrom_blank zs f' k ts (by rw [HL.out];exact hlt) (by rw [← HC.out];simp [blankB,hb1])).symm
    go_wp2;go_roundw
    case rel=>exact ⟨k+1,f',ts,gs,by omega,by omega,by go_num,HO.out,HB.out,HN.out,by omega⟩
    case measure=>simp [intOf];omega
  have HE:Hid (toks zs=(ts,-1)):=by rw [← HK.out];exact toksFrom_stop zs f k ts (by rw [HL.out];omega)
  clear E J V;go_wp2;go_ret2;exact ⟨_,gs,by rw [HE.out];rfl,by rw [HE.out];exact HO.out,HB.out⟩
end

section
open Go.RowKit
end

section
open Go.RowKit Go.Shelf
attribute [local go_sem] Oper.semAt_some
abbrev PosOf (zs:List Int):={ i:Nat // i<zs.length∧blankB (zs.getD i 0)=false }
def KpT (B Bs:Nat) (W W':World):Prop:=Below B W W'∧W'.heap[Bs]?=W.heap[Bs]?
theorem KpT.refl (B Bs:Nat) (W:World):KpT B Bs W W:=⟨Below.refl _ _,rfl⟩
theorem KpT.trans {B Bs:Nat} {A C D:World} (h:KpT B Bs A C) (k:KpT B Bs C D):KpT B Bs A D:=⟨h.1.trans k.1,k.2.trans h.2⟩
end

end Go.Proofs.YtnmljalcndfjmaaGreat
