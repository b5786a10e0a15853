/- Several texts in one: ConTree, OwnT, SpecToks, ImplTok1. -/
import Derived.Test.YtocpeiaolofodaaGreatNG4
import Derived.RangeFuncNested
import Derived.RangeFuncBound
import Derived.RangeFuncCalls
import Derived.RangeFuncLeaves
import Derived.RangeFuncBox
import Derived.Shelf.Abstract
import Derived.Shelf.RegionOpen
import Derived.OwnWalkIn
import Derived.TacticsInMore
import Derived.LoopNIn
import Derived.LoopIn
import Derived.Laws.EntriesVeiled
import Derived.Test.YtocpeiaolofodaaGreatNG3
import Derived.Test.YtocpeiaolofodaaGreatNG1
import Derived.Deep.DeepCutAuto
namespace Go.Proofs.YtocpeiaolofodaaGreat

section
open Go.RowKit Go.Shelf
attribute [local go_sem] Oper.semAt_some
set_option maxHeartbeats 1000000 in
theorem kidsOf_in (n:Nat) (v0 v1 v2 v3:Value) (w:World) :
    CallsIn Fence.wide n Tryz.prog 95 #[.agg #[v0,v1,v2,v3]] w fun e w'=>e=.returned v3∧w'=w.alloc (.cells #[v0,v1,v2,v3] 37):=by
 refine callsIn_of_wp Tryz.func95 rfl trivial ?_ rfl;simp only [Tryz.ntmps95,List.size_toArray,List.length_cons,List.length_nil,Nat.reduceAdd,Nat.reduceSub,Array.replicate_succ,Array.replicate_zero,List.push_toArray,List.append_toArray,List.nil_append,List.cons_append]
 gi_wp2
 go_ret;exact ⟨rfl,rfl⟩
set_option maxHeartbeats 1000000 in
theorem conTree_in (n:Nat) (k:Int) (na:Option Addr) (nn nc:Nat) (ra:Option Addr) (rn rc:Nat) (ka:Option Addr) (kn kc:Nat) (w:World) :
    CallsIn Fence.wide n Tryz.prog 69 #[.agg #[.int .i64 k,.slice na nn nc,.slice ra rn rc,.slice ka kn kc]] w fun e w'=>e=.returned (.agg #[.int .i64 k,.slice na nn nc,.slice ra rn rc,.slice ka kn kc,.func (.func 95) #[] #[]]) ∧
     w'=(w.alloc (.cells #[.int .i64 k,.slice na nn nc,.slice ra rn rc,.slice ka kn kc] 37)).alloc (.cells #[.int .i64 k,.slice na nn nc,.slice ra rn rc,.slice ka kn kc,.func (.func 95) #[] #[]] 107):=by
 refine callsIn_of_wp Tryz.func69 rfl trivial ?_ rfl;simp only [Tryz.ntmps69,List.size_toArray,List.length_cons,List.length_nil,Nat.reduceAdd,Nat.reduceSub,Array.replicate_succ,Array.replicate_zero,List.push_toArray,List.append_toArray,List.nil_append,List.cons_append]
 gi_wp2
 refine bodyPost_ret (v:=.agg #[.int .i64 k,.slice na nn nc,.slice ra rn rc,.slice ka kn kc,.func (.func 95) #[] #[]]) (by simp [results, Tryz.results69,go_sem]) rfl ⟨rfl,rfl⟩
set_option maxHeartbeats 1000000 in
theorem all_in (n:Nat) (k:Int) (na:Option Addr) (nn nc:Nat) (ra:Option Addr) (rn rc:Nat) (ka:Option Addr) (kn kc:Nat) (w:World) :
    CallsIn Fence.wide n Tryz.prog 70 #[.agg #[.int .i64 k,.slice na nn nc,.slice ra rn rc,.slice ka kn kc,.func (.func 95) #[] #[]]] w fun e w'=>e=.returned (.func (.func 96) #[] #[.pointer (some ⟨w.heap.size,0,none⟩)]) ∧
     w'=w.alloc (.cells #[.int .i64 k,.slice na nn nc,.slice ra rn rc,.slice ka kn kc,.func (.func 95) #[] #[]] 107):=by
 refine callsIn_of_wp Tryz.func70 rfl trivial ?_ rfl;simp only [Tryz.ntmps70,List.size_toArray,List.length_cons,List.length_nil,Nat.reduceAdd,Nat.reduceSub,Array.replicate_succ,Array.replicate_zero,List.push_toArray,List.append_toArray,List.nil_append,List.cons_append]
 gi_wp2
 go_ret;exact ⟨rfl,rfl⟩
end

section
open Go.RowKit
def txv (t:Tok) (g:Nat × Nat):Value:=if t.text=[] then .slice none 0 0 else .slice (some ⟨g.1,0,none⟩) t.text.length g.2
def flatT:List Tok→List (Nat × Nat)→List Value
 | t :: ts,g :: gs=>.int .i64 t.kind :: .int .i64 t.place :: txv t g :: flatT ts gs
 | _,_=>[]
theorem flatT_snoc:∀ (ts:List Tok) (gs:List (Nat × Nat)) (t:Tok) (g:Nat × Nat),gs.length=ts.length→flatT (ts++[t]) (gs++[g])=flatT ts gs++[.int .i64 t.kind,.int .i64 t.place,txv t g]
 | [],[],t,g,_=>rfl
 | [],_ :: _,_,_,h=>by simp at h
 | _ :: _,[],_,_,h=>by simp at h
 | t0 :: ts,g0 :: gs,t,g,h=>by
  simp only [List.cons_append,flatT];rw [flatT_snoc ts gs t g (by simpa using h)]
theorem flatT_get:∀ (ts:List Tok) (gs:List (Nat × Nat)) (i:Nat),gs.length=ts.length→i<ts.length →
    (flatT ts gs)[i*3]?=some (.int .i64 (ts.getD i Tok.zero).kind)∧(flatT ts gs)[i*3+1]?=some (.int .i64 (ts.getD i Tok.zero).place)∧(flatT ts gs)[i*3+2]?=some (txv (ts.getD i Tok.zero) (gs.getD i (0,0)))
 | [],_,_,_,hi=>by simp at hi
 | _ :: _,[],_,h,_=>by simp at h
 | t0 :: ts,g0 :: gs,0,_,_=>by simp [flatT]
 | t0 :: ts,g0 :: gs,i+1,h,hi=>by
  obtain ⟨h0,h1,h2⟩:=flatT_get ts gs i (by simpa using h) (by simpa using hi);have e:(i+1)*3=i*3+1+1+1:=by omega
  have e1:(i+1)*3+1=i*3+1+1+1+1:=by omega
  have e2:(i+1)*3+2=i*3+2+1+1+1:=by omega
  refine ⟨?_,?_,?_⟩
  · rw [e];simpa [flatT] using h0
  · rw [e1];simpa [flatT] using h1
  rw [e2];simpa [flatT] using h2
structure OwnT (base:Nat) (w:World) (v:Value) (ts:List Tok) (gs:List (Nat × Nat)):Prop where
 len:gs.length=ts.length
 row:w.ownsRow base 115 3 v ts.length (flatT ts gs)
 txt:∀ i,i<ts.length→(ts.getD i Tok.zero).text≠[]→base≤(gs.getD i (0,0)).1∧Row w (gs.getD i (0,0)).1 (gs.getD i (0,0)).2 (ts.getD i Tok.zero).text∧(gs.getD i (0,0)).2≤9223372036854775807
 byte:∀ i,i<ts.length→∀ j,0≤(ts.getD i Tok.zero).text.getD j 0∧(ts.getD i Tok.zero).text.getD j 0≤255
 dist:∀ i j,i<j→j<ts.length→(ts.getD i Tok.zero).text≠[]→(ts.getD j Tok.zero).text≠[]→(gs.getD i (0,0)).1≠(gs.getD j (0,0)).1
theorem OwnT.nil (base:Nat) (w:World):OwnT base w (.slice none 0 0) [] [] :=
 ⟨rfl,World.ownsRow_nil _ _ _ _,fun i hi=>by simp at hi,fun i hi=>by simp at hi,fun i j _ hj=>by simp at hj⟩
theorem owns_of_blocks {w w':World} {base e size n:Nat} {v:Value} {xs:List Value} (h:w.ownsRow base e size v n xs) (hs:∀ g,g<w.heap.size→w'.heap[g]?=w.heap[g]?):w'.ownsRow base e size v n xs:=by
 obtain ⟨h1,h2⟩:=h;refine ⟨h1,?_⟩;rcases h2 with h2 | ⟨g,F,cur,hv,hg,hh,r⟩
 · exact .inl h2
 exact .inr ⟨g,F,cur,hv,hg,by rw [hs g (Array.getElem?_eq_some_iff.1 hh).1];exact hh,r⟩
theorem OwnT.below {base:Nat} {w w':World} {v:Value} {ts:List Tok} {gs:List (Nat × Nat)} (h:OwnT base w v ts gs) (hb:Below w.heap.size w w'):OwnT base w' v ts gs:=by
 obtain ⟨h1,h2,h3,h4,h5⟩:=h;exact ⟨h1,owns_of_blocks h2 (fun g hg=>hb.block g hg),fun i hi ht=>⟨(h3 i hi ht).1,(h3 i hi ht).2.1.below hb (h3 i hi ht).2.1.lt,(h3 i hi ht).2.2⟩,h4,h5⟩
theorem getD_snoc_lt {α:Type} (l:List α) (x d:α) (i:Nat) (h:i<l.length):(l++[x]).getD i d=l.getD i d:=by rw [List.getD,List.getElem?_append_left h,List.getD]
theorem getD_snoc_eq {α:Type} (l:List α) (x d:α):(l++[x]).getD l.length d=x:=by simp [List.getD]
theorem OwnT.snoc {base:Nat} {w w1:World} {v v':Value} {ts:List Tok} {gs:List (Nat × Nat)} (h:OwnT base w v ts gs) (t:Tok) (g:Nat × Nat)
    (ht:t.text≠[]→base≤g.1∧Row w g.1 g.2 t.text∧g.2≤9223372036854775807) (a3:∀ j,0≤t.text.getD j 0∧t.text.getD j 0≤255)
    (hd:t.text≠[]→∀ i,i<ts.length→(ts.getD i Tok.zero).text≠[]→(gs.getD i (0,0)).1≠g.1)
    (U:w1.ownsRow base 115 3 v' (ts.length+1) (flatT ts gs++[.int .i64 t.kind,.int .i64 t.place,txv t g])) (I:w.grownBy w1 v.ownBlock):OwnT base w1 v' (ts++[t]) (gs++[g]):=by
 obtain ⟨h1,h2,h3,h4,h5⟩:=h
 have keep:∀ x c zs,Row w x c zs→Row w1 x c zs:=by
  intro x c zs hr;refine hr.of_block (I.block x hr.lt (fun e=>?_));obtain ⟨c',Z,_⟩:=hr;rcases h2.2 with ⟨rfl,_⟩ | ⟨g',F,cur,rfl,_,hh,_⟩
  · simp [Value.ownBlock] at e
  simp [Value.ownBlock] at e;rw [e,hh] at Z;simp at Z
 refine ⟨by simp [h1],?_,?_,?_,?_⟩
 · rw [flatT_snoc ts gs t g h1];simpa using U
 · intro i hi D;simp only [List.length_append,List.length_cons,List.length_nil] at hi;by_cases e:i<ts.length
   · rw [getD_snoc_lt _ _ _ _ e] at D ⊢;rw [getD_snoc_lt _ _ _ _ (by omega)];exact ⟨(h3 i e D).1,keep _ _ _ (h3 i e D).2.1,(h3 i e D).2.2⟩
   have e':i=ts.length:=by omega
   subst e';rw [getD_snoc_eq] at D ⊢;rw [← h1,getD_snoc_eq];exact ⟨(ht D).1,keep _ _ _ (ht D).2.1,(ht D).2.2⟩
 · intro i hi;simp only [List.length_append,List.length_cons,List.length_nil] at hi;by_cases e:i<ts.length
   · rw [getD_snoc_lt _ _ _ _ e];exact h4 i e
   have e':i=ts.length:=by omega
   subst e';rw [getD_snoc_eq];exact a3
 intro i j V hj N J;simp only [List.length_append,List.length_cons,List.length_nil] at hj;rw [getD_snoc_lt _ _ _ _ (by omega)] at N;rw [getD_snoc_lt _ _ _ i (by omega)];by_cases e:j<ts.length
 · rw [getD_snoc_lt _ _ _ _ e] at J;rw [getD_snoc_lt _ _ _ _ (by omega)];exact h5 i j V e N J
 have e':j=ts.length:=by omega
 subst e';rw [getD_snoc_eq] at J;rw [← h1,getD_snoc_eq];exact hd J i (by omega) N
def txOf (ts:List Tok) (gs:List (Nat × Nat)) (i:Nat):Nat × Nat × Nat:=((gs.getD i (0,0)).1,0,(ts.getD i Tok.zero).text.length)
theorem txv_nil {t:Tok} (g:Nat × Nat) (h:t.text=[]):txv t g=.slice none 0 0:=by unfold txv;rw [if_pos h]
theorem txv_cons {t:Tok} (g:Nat × Nat) (h:t.text≠[]):txv t g=.slice (some ⟨g.1,0,none⟩) t.text.length g.2:=by unfold txv;rw [if_neg h]
theorem txv_form (t:Tok) (g:Nat × Nat):∃ a c,txv t g=.slice a t.text.length c:=by
 unfold txv
 split
 · rename_i h;exact ⟨none,0,by rw [h];rfl⟩
 exact ⟨_,_,rfl⟩
theorem OwnT.rd {base:Nat} {w:World} {v:Value} {ts:List Tok} {gs:List (Nat × Nat)} (h:OwnT base w v ts gs) :
    ∃ a F,v=.slice a ts.length F∧RdT base w.heap.size w a ts.length F ts:=by
 obtain ⟨h1,h2,h3,h4,h5⟩:=h;rcases h2.2 with ⟨hv,h0⟩ | ⟨g,F,cur,hv,hg,hh,Y,T,a2,a1⟩
 · exact ⟨none,0,by rw [hv,h0],⟨rfl,⟨by omega,by omega⟩,.inl h0⟩⟩
 subst hv;unfold maxLen at T;refine ⟨_,_,rfl,⟨rfl,⟨Y,T⟩,.inr ⟨g,0,rfl,hg,(Array.getElem?_eq_some_iff.1 hh).1,fun i hi=>?_⟩⟩⟩;obtain ⟨f0,f1,f2⟩:=flatT_get ts gs i h1 hi;simp only [Nat.zero_add];rw [h2.cellAt (i*3) (by omega),h2.cellAt (i*3+1) (by omega),h2.cellAt (i*3+2) (by omega),f0,f1,f2];by_cases ht:(ts.getD i Tok.zero).text=[]
 · refine ⟨none,0,0,rfl,rfl,by rw [txv_nil _ ht],?_⟩;rw [ht];exact Rd.none_of (by omega)
 obtain ⟨t1,t2,t3⟩:=h3 i hi ht;exact ⟨_,_,_,rfl,rfl,by rw [txv_cons _ ht],t2.rd rfl (h4 i hi) t3 t1 t2.lt⟩
theorem mem_leafT {b off:Nat} {tx:Nat→Nat × Nat × Nat} {n:Nat} {x:Addr × IntKind} (h:x∈leafT b off tx n) :
    ∃ i,i<n∧(x=(⟨b,off+i*3,none⟩,.i64)∨x=(⟨b,off+i*3+1,none⟩,.i64)∨∃ j,j<(tx i).2.2∧x=(⟨(tx i).1,(tx i).2.1+j,none⟩,.u8)):=by
 simp only [leafT,List.mem_flatMap,List.mem_range,List.mem_cons,leafB,List.mem_map] at h;obtain ⟨i,hi,h⟩:=h;refine ⟨i,hi,?_⟩;rcases h with h | h | ⟨j,hj,h⟩
 · exact .inl h
 · exact .inr (.inl h)
 exact .inr (.inr ⟨j,hj,h.symm⟩)
theorem OwnT.leaf {base:Nat} {w:World} {v:Value} {ts:List Tok} {gs:List (Nat × Nat)} (h:OwnT base w v ts gs) (H:∀ i,(ts.getD i Tok.zero).text.length≤1048576) :
    ∃ a F b,v=.slice a ts.length F∧(ts.length=0∨a=some ⟨b,0,none⟩)∧HeadT w b 0 (txOf ts gs) ts.length∧LeafOk w (leafT b 0 (txOf ts gs) ts.length) ∧
     ((leafT b 0 (txOf ts gs) ts.length).map (·.1)).Nodup∧∀ x∈leafT b 0 (txOf ts gs) ts.length,base≤x.1.block∧x.1.block<w.heap.size:=by
 obtain ⟨h1,h2,h3,h4,h5⟩:=h;rcases h2.2 with ⟨hv,h0⟩ | ⟨g,F,cur,hv,hg,hh,Y,T,a2,a1⟩
 · refine ⟨none,0,0,by rw [hv,h0],.inl h0,?_,?_,?_,?_⟩
   · intro i hi;omega
   · rw [h0];intro x hx;simp [leafT] at hx
   · rw [h0];simp [leafT]
   rw [h0];intro x hx;simp [leafT] at hx
 subst hv;have X:=(Array.getElem?_eq_some_iff.1 hh).1
 have E:∀ i,i<ts.length→w.cell? ⟨g,i*3,none⟩=some (.int .i64 (ts.getD i Tok.zero).kind)∧w.cell? ⟨g,i*3+1,none⟩=some (.int .i64 (ts.getD i Tok.zero).place)∧w.cell? ⟨g,i*3+2,none⟩=some (txv (ts.getD i Tok.zero) (gs.getD i (0,0))):=by
  intro i hi;obtain ⟨f0,f1,f2⟩:=flatT_get ts gs i h1 hi;rw [h2.cellAt (i*3) (by omega),h2.cellAt (i*3+1) (by omega),h2.cellAt (i*3+2) (by omega)];exact ⟨f0,f1,f2⟩
 have D:∀ i,i<ts.length→(ts.getD i Tok.zero).text≠[]→(gs.getD i (0,0)).1≠g:=by
  intro i hi ht e;obtain ⟨_,⟨c,hc,_⟩,_⟩:=h3 i hi ht;rw [e,hh] at hc;simp at hc
 have z:∀ i j,j<(txOf ts gs i).2.2→(ts.getD i Tok.zero).text≠[]:=by
  intro i j hj e;simp only [txOf] at hj;rw [e] at hj;simp at hj
 refine ⟨_,_,g,rfl,.inr rfl,?_,?_,?_,?_⟩
 · intro i hi;simp only [Nat.zero_add];by_cases ht:(ts.getD i Tok.zero).text=[]
   · refine ⟨none,0,?_,.inl (by simp only [txOf];rw [ht];rfl),H i⟩;rw [(E i hi).2.2,txv_nil _ ht];simp only [txOf];rw [ht];rfl
   exact ⟨_,_,by rw [(E i hi).2.2,txv_cons _ ht];rfl,.inr rfl,H i⟩
 · intro x hx;obtain ⟨i,hi,e | e | ⟨j,hj,e⟩⟩:=mem_leafT hx
   · subst e;simp only [Nat.zero_add];exact ⟨⟨_,(E i hi).1⟩,h2.frozenAt _⟩
   · subst e;simp only [Nat.zero_add];exact ⟨⟨_,(E i hi).2.1⟩,h2.frozenAt _⟩
   subst e;obtain ⟨_,hr,_⟩:=h3 i hi (z i j hj);simp only [txOf,Nat.zero_add] at hj ⊢;exact ⟨⟨_,hr.cell hj⟩,hr.frozen _⟩
 · have a0:∀ n,n≤ts.length→((leafT g 0 (txOf ts gs) n).map (·.1)).Nodup:=by
    intro n
    induction n with
    | zero=>intro _;simp [leafT]
    | succ n ih =>
     intro hn;rw [leafT_succ,List.map_append,List.nodup_append];refine ⟨ih (by omega),?_,?_⟩
     · simp only [List.map_cons,List.nodup_cons,leafB,List.map_map,List.mem_cons,List.mem_map,List.mem_range,Function.comp];refine ⟨?_,?_,?_⟩
       · rintro (h | ⟨j,hj,h⟩)
         · simp at h
         simp only [Addr.mk.injEq] at h;exact D n (by omega) (z n j hj) h.1
       · rintro ⟨j,hj,h⟩;simp only [Addr.mk.injEq] at h;exact D n (by omega) (z n j hj) h.1
       rw [List.nodup_iff_pairwise_ne,List.pairwise_iff_getElem];intro i j hi hj V;simp <;> omega
     intro p hp q hq e;subst e;simp only [List.mem_map] at hp hq;obtain ⟨x,hx,rfl⟩:=hp;obtain ⟨y,hy,G⟩:=hq;obtain ⟨i,hi,hx⟩:=mem_leafT hx;simp only [List.mem_cons,leafB,List.mem_map,List.mem_range] at hy;rcases hx with rfl | rfl | ⟨j,hj,rfl⟩ <;> rcases hy with rfl | rfl | ⟨j',O,rfl⟩ <;> simp only [Addr.mk.injEq] at G
     · omega
     · omega
     · exact D n (by omega) (z n j' O) G.1
     · omega
     · omega
     · exact D n (by omega) (z n j' O) G.1
     · exact D i (by omega) (z i j hj) G.1.symm
     · exact D i (by omega) (z i j hj) G.1.symm
     exact h5 i n hi (by omega) (z i j hj) (z n j' O) G.1.symm
   exact a0 _ (Nat.le_refl _)
 intro x hx;obtain ⟨i,hi,e | e | ⟨j,hj,e⟩⟩:=mem_leafT hx
 · subst e;exact ⟨hg,X⟩
 · subst e;exact ⟨hg,X⟩
 subst e;obtain ⟨hb,hr,_⟩:=h3 i hi (z i j hj);exact ⟨hb,hr.lt⟩
end

section
open Go.RowKit
theorem toksFrom_stop (zs:List Int) (f i:Nat) (A:List Tok) (h:zs.length≤i):toksFrom zs f i A=(A,-1):=by
 cases f with
 | zero=>rfl
 | succ f=>rw [toksFrom,if_neg (by omega)]
theorem toksFrom_blank (zs:List Int) (f i:Nat) (A:List Tok) (h:i<zs.length) (hb:blankB (zs.getD i 0)=true):toksFrom zs (f+1) i A=toksFrom zs f (i+1) A:=by
 rw [toksFrom,if_pos h,if_pos hb]
theorem toksFrom_bad (zs:List Int) (f i:Nat) (A:List Tok) (h:i<zs.length) (hb:blankB (zs.getD i 0)=false) (hk:kindOf (piece zs i)=0):toksFrom zs (f+1) i A=([],(i:Int)):=by
 rw [toksFrom,if_pos h,if_neg (by rw [hb];exact Bool.false_ne_true),if_pos hk]
theorem toksFrom_tok (zs:List Int) (f i:Nat) (A:List Tok) (h:i<zs.length) (hb:blankB (zs.getD i 0)=false) (hk:kindOf (piece zs i)≠0):toksFrom zs (f+1) i A=toksFrom zs f (pend zs i) (A++[tokAt zs i]):=by
 rw [toksFrom,if_pos h,if_neg (by rw [hb];exact Bool.false_ne_true),if_neg hk]
theorem Tryz.infoTok3:(Tryz.prog.info? 115).map (fun i=>(i.zero,i.size,i.bytes))=some (some (.agg #[.int .i64 0,.int .i64 0,.slice none 0 0]),3,40):=by kernel_rfl
theorem new3 (w:World) (g:Nat) (x y z:Value) (t:Nat) (hg:g=w.heap.size):∀ j u,[x,y,z][j]?=some u→(w.alloc (.cells #[x,y,z] t)).cell? ((⟨g,0,none⟩:Addr).add j)=some u:=by
 intro j u hu;subst hg;rw [Addr.add_lit]
 match j,hu with
 | 0,hu=>simp at hu;subst hu;simp
 | 1,hu=>simp at hu;subst hu;simp
 | 2,hu=>simp at hu;subst hu;simp
theorem one3 (kd k:Int) (ta:Option Addr) (tn tc:Nat):∀ u∈[Value.int .i64 kd,.int .i64 k,.slice ta tn tc],u.oneCell'=true:=by
 intro u hu;simp at hu;rcases hu with rfl | rfl | rfl <;> rfl
theorem piece_byte {zs:List Int} (h:∀ i,0≤zs.getD i 0∧zs.getD i 0≤255) (k:Nat):∀ j,0≤(piece zs k).getD j 0∧(piece zs k).getD j 0≤255:=by
 intro j;have:=h (k+j);simp only [piece,List.getD,List.getElem?_take,List.getElem?_drop] at this ⊢
 split
 · exact this
 simp
theorem step_tok {w0 wr W w2:World} {u v':Value} {ts:List Tok} {gs:List (Nat × Nat)} {zs:List Int} {k:Nat} {kd:Int} {tv:Value} {g:Nat × Nat}
    (hO:OwnT w0.heap.size W u ts gs) (hB:Below w0.heap.size w0 W) (hG:kd=(tokAt zs k).kind∧tv=txv (tokAt zs k) g)
    (hM:(tokAt zs k).text≠[]→w0.heap.size≤g.1∧wr.heap.size≤g.1∧Row W g.1 g.2 (tokAt zs k).text∧g.2≤9223372036854775807)
    (hS:∀ i,i<ts.length→(ts.getD i Tok.zero).text≠[]→(gs.getD i (0,0)).1<wr.heap.size) (G:∀ i,0≤zs.getD i 0∧zs.getD i 0≤255)
    (E:w2.ownsRow w0.heap.size 115 3 v' (ts.length+1) (flatT ts gs++[.int .i64 kd,.int .i64 k,tv])) (D:W.grownBy w2 u.ownBlock) :
    ∃ g' cap',v'=.slice (some ⟨g',0,none⟩) (ts.length+1) cap'∧OwnT w0.heap.size w2 v' (ts++[tokAt zs k]) (gs++[g])∧Below w0.heap.size w0 w2:=by
 obtain ⟨rfl,rfl⟩:=hG
 have I:=hO.snoc (tokAt zs k) g (fun ht=>⟨(hM ht).1,(hM ht).2.2.1,(hM ht).2.2.2⟩) (by
     simp only [tokAt];split
     · exact piece_byte G k
     simp) (fun ht i hi F=>by have:=hS i hi F;have:=(hM ht).2.1;omega) E D
 have H:Below w0.heap.size w0 w2:=hB.grown D hB.size (fun x hx=>by
     rcases hO.row.2 with ⟨rfl,_⟩ | ⟨g1,J,cur,rfl,N,_⟩
     · simp [Value.ownBlock] at hx
     simp [Value.ownBlock] at hx;omega)
 rcases E.2 with ⟨_,h0⟩ | ⟨g',cap',_,rfl,_⟩
 · omega
 exact ⟨g',cap',rfl,I,H⟩
end

section
open Go.RowKit
theorem isBlank_any (c:Int) (w:World):Calls Tryz.prog 100 #[.int .u8 c] w fun e w'=>e=.returned (.bool (blankB c))∧w'=w:=by
 cases h:(c == 32)
 · go_enter Tryz.func100, Tryz.ntmps100;go_wp2;go_ret;exact ⟨by simp [blankB,h],rfl⟩
 go_enter Tryz.func100, Tryz.ntmps100;go_wp2;go_ret;exact ⟨by simp [blankB,h],rfl⟩
def brackB (c:Int):Bool:=c == 40 || c == 41
theorem isBracket_any (c:Int) (w:World):Calls Tryz.prog 111 #[.int .u8 c] w fun e w'=>e=.returned (.bool (brackB c))∧w'=w:=by
 cases h:(c == 40)
 · go_enter Tryz.func111, Tryz.ntmps111;go_wp2;go_ret;exact ⟨by simp [brackB,h],rfl⟩
 go_enter Tryz.func111, Tryz.ntmps111;go_wp2;go_ret;exact ⟨by simp [brackB,h],rfl⟩
def pendI (zs:List Int) (i:Nat):Nat:=if blankB (zs.getD i 0) then i+1 else pend zs i
theorem pendI_short (zs:List Int) (i:Nat) (h:blankB (zs.getD i 0)=true∨brackB (zs.getD i 0)=true):pendI zs i=i+1:=by
 unfold pendI;by_cases hb:blankB (zs.getD i 0)=true
 · rw [if_pos hb]
 rw [if_neg hb];have h2:brackB (zs.getD i 0)=true:=by rcases h with h | h;exact absurd h hb;exact h
 unfold pend;rw [if_pos]
 generalize zs.getD i 0=c at h2
 simpa [brackB] using h2
theorem pendI_long (zs:List Int) (i:Nat) (h:blankB (zs.getD i 0)=false) (h':brackB (zs.getD i 0)=false):pendI zs i=i+1+runLow zs (i+1):=by
 unfold pendI;rw [h];simp only [Bool.false_eq_true,if_false];unfold pend;rw [if_neg]
 generalize zs.getD i 0=c at h'
 simpa [brackB] using h'
set_option maxHeartbeats 400000 in
theorem pieceEnd_any (a:Option Addr) (n z:Nat) (zs:List Int) (i:Nat) (w:World) {lo hi:Nat} (h:Rd lo hi w a n z zs) (a8:i<n) :
    Calls Tryz.prog 99 #[.slice a n z,.int .i64 i] w fun e w'=>e=.returned (.int .i64 (pendI zs i))∧w'=w:=by
 obtain ⟨hl,⟨hn,hm⟩,X,A⟩:=h;rcases A with h0 | ⟨b,off,rfl,a5,hb,A⟩
 · omega
 obtain ⟨c0,V⟩:∃ c,c=zs.getD i 0:=⟨_,rfl⟩;have ag:w.cell? ⟨b,off+i,none⟩=some (.int .u8 c0):=by rw [V];exact A i a8
 have T:Hid (∀ j,j<n→w.cell? ⟨b,off+j,none⟩=some (.int .u8 (zs.getD j 0))):=A;have HC:Hid (c0=zs.getD i 0):=V;have HL:Hid (zs.length=n):=hl;clear A X hl V;cases J:blankB c0
 · cases U:brackB c0
   · have HE:Hid (pendI zs i=i+1+runLow zs (i+1)):=pendI_long zs i (by rw [← HC.out];exact J) (by rw [← HC.out];exact U);go_enter Tryz.func99, Tryz.ntmps99;go_wp2_with (first | (go_at_call 100;refine (isBlank_any _ _).mono ?_;rintro e w1 ⟨rfl,hw⟩;subst hw;rw [J]) | (go_at_call 111;refine (isBracket_any _ _).mono ?_;rintro e w1 ⟨rfl,hw⟩;subst hw;rw [U]));go_loop [5] (fun v=>∃ k:Nat,i+1≤k∧k≤n∧v=.int .i64 k∧runLow zs (i+1)=(k - (i+1))+runLow zs k) (fun v=>n - (intOf v).toNat)
     case atStart=>exact ⟨i+1,by omega,by omega,by go_num,by simp⟩
     case round =>
      obtain ⟨k,hk,ae,rfl,N⟩:=hrel;have HR:Hid (runLow zs (i+1)=(k - (i+1))+runLow zs k):=N;clear N;by_cases hkl:k<n
      · obtain ⟨c,Y⟩:∃ c,Hid (c=zs.getD k 0):=⟨_,rfl⟩;have a0:=T.out k hkl;rw [← Y.out] at a0;have a6:decide ((k:Int)<(n:Int))=true:=by simp;omega
        cases D:lowB c
        · have HZ:Hid (runLow zs k=0):=runLow_stop zs k (.inr (by rw [← Y.out];exact D));go_wp2_with (go_at_call 109;refine (isLower_any _ _).mono ?_;rintro e w' ⟨rfl,rfl⟩;rw [D]);go_ret;exact ⟨ri (by have:=HR.out;have:=HZ.out;have:=HE.out;omega),rfl⟩
        have HZ:Hid (runLow zs k=runLow zs (k+1)+1):=runLow_go zs k (by rw [HL.out];exact hkl) (by rw [← Y.out];exact D);go_wp2_with (go_at_call 109;refine (isLower_any _ _).mono ?_;rintro e w' ⟨rfl,rfl⟩;rw [D]);go_round
        case rel=>exact ⟨k+1,by omega,by omega,by go_num,by have:=HR.out;have:=HZ.out;omega⟩
        case measure=>simp [intOf];omega
      have a6:decide ((k:Int)<(n:Int))=false:=by simp;omega
      have HZ:Hid (runLow zs k=0):=runLow_stop zs k (.inl (by rw [HL.out];omega));go_wp2;go_ret;exact ⟨ri (by have:=HR.out;have:=HZ.out;have:=HE.out;omega),rfl⟩
   have HE:Hid (pendI zs i=i+1):=pendI_short zs i (.inr (by rw [← HC.out];exact U));go_enter Tryz.func99, Tryz.ntmps99;go_wp2_with (first | (go_at_call 100;refine (isBlank_any _ _).mono ?_;rintro e w1 ⟨rfl,hw⟩;subst hw;rw [J]) | (go_at_call 111;refine (isBracket_any _ _).mono ?_;rintro e w1 ⟨rfl,hw⟩;subst hw;rw [U]));go_ret;exact ⟨ri (by have:=HE.out;omega),rfl⟩
 have HE:Hid (pendI zs i=i+1):=pendI_short zs i (.inl (by rw [← HC.out];exact J));go_enter Tryz.func99, Tryz.ntmps99;go_wp2_with (go_at_call 100;refine (isBlank_any _ _).mono ?_;rintro e w1 ⟨rfl,hw⟩;subst hw;rw [J]);go_ret;exact ⟨ri (by have:=HE.out;omega),rfl⟩
theorem strOf_toList (p:List Int):(strOfNums p).toList=p.map fun n=>UInt8.ofNat n.toNat:=by
 rw [ByteArray.toList_eq];rfl
theorem str_one (p:List Int) (hb:∀ i,0≤p.getD i 0∧p.getD i 0≤255) (c:Nat) (hc:c≤255):((strOfNums p).toList == [UInt8.ofNat c])=decide (p=[(c:Int)]):=by
 rw [strOf_toList,Bool.eq_iff_iff,beq_iff_eq,decide_eq_true_iff];constructor
 · intro h;have Z:p.length=1:=by have:=congrArg List.length h;simpa using this
   obtain ⟨x,rfl⟩:=List.length_eq_one_iff.1 Z
   · have hx:=hb 0;simp at hx h;have h2:=congrArg UInt8.toNat h;simp only [UInt8.toNat_ofNat'] at h2;rw [Nat.mod_eq_of_lt (by omega),Nat.mod_eq_of_lt (by omega)] at h2;simp;omega
 intro h;rw [h];simp
set_option maxHeartbeats 400000 in
theorem pieceKind_any (a:Option Addr) (n z:Nat) (p:List Int) (w:World) {lo hi:Nat} (h:Rd lo hi w a n z p) :
    Calls Tryz.prog 73 #[.slice a n z] w fun e w'=>e=.returned (.int .i64 (kindOf p))∧w'=w:=by
 have a9:=conv_any h;have F:=str_one p h.byte 40 (by omega);have E:=str_one p h.byte 41 (by omega);have H:Hid (Rd lo hi w a n z p):=h;obtain ⟨s,hs⟩:∃ s,s=strOfNums p:=⟨_,rfl⟩;rw [← hs] at a9 F E;clear hs h;cases hu:upOk p
 · cases hl:lowOk p
   · by_cases e40:p=[40]
     · have hb:(s.toList == [40])=true:=by rw [show ([40]:List UInt8)=[UInt8.ofNat 40] from rfl,F];simpa using e40
       have HK:Hid (kindOf p=3):=by unfold Hid kindOf;rw [hu,hl,if_neg (by simp),if_neg (by simp),if_pos e40]
       clear F E e40;go_enter Tryz.func73, Tryz.ntmps73;go_wp2_with (first | (go_at_call 101;refine (implUpperOk_any _ _ _ p _ H.out).mono ?_;rintro e w1 ⟨rfl,hw⟩;subst hw;rw [hu]) | (go_at_call 61;refine (implLowerOk_any _ _ _ p _ H.out).mono ?_;rintro e w1 ⟨rfl,hw⟩;subst hw;rw [hl]));go_ret;exact ⟨ri HK.out.symm,rfl⟩
     have hb:(s.toList == [40])=false:=by rw [show ([40]:List UInt8)=[UInt8.ofNat 40] from rfl,F];simpa using e40
     by_cases e41:p=[41]
     · have aa:(s.toList == [41])=true:=by rw [show ([41]:List UInt8)=[UInt8.ofNat 41] from rfl,E];simpa using e41
       have HK:Hid (kindOf p=4):=by unfold Hid kindOf;rw [hu,hl,if_neg (by simp),if_neg (by simp),if_neg e40,if_pos e41]
       clear F E e40 e41;go_enter Tryz.func73, Tryz.ntmps73;go_wp2_with (first | (go_at_call 101;refine (implUpperOk_any _ _ _ p _ H.out).mono ?_;rintro e w1 ⟨rfl,hw⟩;subst hw;rw [hu]) | (go_at_call 61;refine (implLowerOk_any _ _ _ p _ H.out).mono ?_;rintro e w1 ⟨rfl,hw⟩;subst hw;rw [hl]));go_ret;exact ⟨ri HK.out.symm,rfl⟩
     have aa:(s.toList == [41])=false:=by rw [show ([41]:List UInt8)=[UInt8.ofNat 41] from rfl,E];simpa using e41
     have HK:Hid (kindOf p=0):=by unfold Hid kindOf;rw [hu,hl,if_neg (by simp),if_neg (by simp),if_neg e40,if_neg e41]
     clear F E e40 e41;go_enter Tryz.func73, Tryz.ntmps73;go_wp2_with (first | (go_at_call 101;refine (implUpperOk_any _ _ _ p _ H.out).mono ?_;rintro e w1 ⟨rfl,hw⟩;subst hw;rw [hu]) | (go_at_call 61;refine (implLowerOk_any _ _ _ p _ H.out).mono ?_;rintro e w1 ⟨rfl,hw⟩;subst hw;rw [hl]));go_ret;exact ⟨ri HK.out.symm,rfl⟩
   have HK:Hid (kindOf p=2):=by unfold Hid kindOf;rw [hu,hl,if_neg (by simp),if_pos rfl]
   clear F E;go_enter Tryz.func73, Tryz.ntmps73;go_wp2_with (first | (go_at_call 101;refine (implUpperOk_any _ _ _ p _ H.out).mono ?_;rintro e w1 ⟨rfl,hw⟩;subst hw;rw [hu]) | (go_at_call 61;refine (implLowerOk_any _ _ _ p _ H.out).mono ?_;rintro e w1 ⟨rfl,hw⟩;subst hw;rw [hl]));go_ret;exact ⟨ri HK.out.symm,rfl⟩
 have HK:Hid (kindOf p=1):=by unfold Hid kindOf;rw [hu,if_pos rfl]
 clear F E;go_enter Tryz.func73, Tryz.ntmps73;go_wp2_with (go_at_call 101;refine (implUpperOk_any _ _ _ p _ H.out).mono ?_;rintro e w1 ⟨rfl,hw⟩;subst hw;rw [hu]);go_ret;exact ⟨ri HK.out.symm,rfl⟩
set_option maxHeartbeats 400000 in
theorem clone_any (b off n z:Nat) (p:List Int) (w:World) {lo hi:Nat} (h:Rd lo hi w (some ⟨b,off,none⟩) n z p) (af:hi≤w.heap.size) (hn:0<n) (ac:n≤1048576) :
    Calls Tryz.prog 74 #[.slice (some ⟨b,off,none⟩) n z] w fun e w'=>∃ g c,e=.returned (.slice (some ⟨g,0,none⟩) n c)∧w.heap.size≤g∧Row w' g c p∧c≤9223372036854775807∧Below w.heap.size w w':=by
 obtain ⟨hl,⟨ad,hm⟩,X,A⟩:=h;rcases A with h0 | ⟨b',off',e,a5,hb,A⟩
 · omega
 simp only [Option.some.injEq,Addr.mk.injEq,and_true] at e;obtain ⟨rfl,rfl⟩:=e;have ab:=fun w:World=>Lib.run_eql_slice_nil (P:=Tryz.prog) (t:=22) (a:=some ⟨b,off,none⟩) (n:=n) (c:=z) (w:=w)
 obtain ⟨i0,a7,a4,a3,a2⟩:=info_parts Tryz.info5
 have HN:Hid (∀ W:World,Below w.heap.size w W→∀ j u,(p.map (Value.int .u8))[j]?=some u→W.cell? ((⟨b,off,none⟩:Addr).add j)=some u):=by
  intro W hW j u hu;have hj:j<p.length:=by simpa using (List.getElem?_eq_some_iff.1 hu).1
  rw [Addr.add_lit,hW.cell (p:=⟨b,off+j,none⟩) (by show b<_;omega),A j (by omega),← hu];simp [List.getD,hj]
 have HL:Hid (p.length=n):=hl;clear A X hl;go_enter Tryz.func74, Tryz.ntmps74;go_wp2_with (at_builtin;refine wpList_append_own _ rfl (.tmp 5) (.tmp 6) 22 rfl w.heap.size 5 i0 (.int .u8 0) 1 1 Tryz.underlying22 a7 a4 a3 a2 rfl (by decide) (.slice (some ⟨w.heap.size,0,none⟩) 0 0) 0 [] rfl (ownsRow_empty _ _ _ rfl (Nat.le_refl _)) ⟨b,off,none⟩ n z (p.map (Value.int .u8)) rfl (by simp [HL.out]) (HN.out _ ((Below.refl _ _).alloc (Nat.le_refl _) _)) (oneC _) (by unfold maxLen;omega) (by omega) (by simp) ?_;intro v' w1 G I _;obtain ⟨g,c,hv,hg,O,hc⟩:=row_of_owns G (by omega);rw [Nat.zero_add] at hv;subst hv;have a1:=((Below.refl w.heap.size w).alloc (Nat.le_refl _) _).grown I (by simp) (fun k e=>by simp [Value.ownBlock] at e;omega);have HR:Hid (Row w1 g c p):=O;have HB:Hid (Below w.heap.size w w1):=a1;clear G I O a1);go_ret;exact ⟨g,c,rfl,hg,HR.out,hc,HB.out⟩
end

end Go.Proofs.YtocpeiaolofodaaGreat
