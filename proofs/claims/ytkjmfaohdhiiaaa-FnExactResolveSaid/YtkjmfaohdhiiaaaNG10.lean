/- Several texts in one: ResD, ResO, ResQ. -/
import Derived.Test.YtkjmfaohdhiiaaaResH
import Derived.Test.YtkjmfaohdhiiaaaResR2
import Derived.Test.YtkjmfaohdhiiaaaResU
import Derived.Deep.AppendLies
import Derived.Maps.AppendAt
namespace Go.Proofs.Ytkjmfaohdhiiaaa

section
open Go.RowKit
set_option linter.unusedVariables false
def CL.ok (c:CL):Bool:=clauseB c.kind c.fn c.role c.above c.xp c.xn c.yp c.yn c.inds c.a c.b
theorem ok_facts {c:CL} (h:c.ok=true):(0≤c.kind∧c.kind≤6)∧(c.kind=6→(0≤c.a∧c.a<4)∧(0≤c.b∧c.b<4))∧(c.kind=5→c.inds.length=4∧∀ j,j<4→partB (c.inds.getD j (0,0)).1 (c.inds.getD j (0,0)).2=true)∧(c.kind≠5→c.inds=[]):=by
 unfold CL.ok clauseB at h;simp only [Bool.and_eq_true] at h;obtain ⟨hk,_,_,_,ha,hb,_,_,hi,_⟩:=h;refine ⟨of_decide_eq_true hk,fun e=>?_,fun e=>?_,fun e=>?_⟩
 · rw [e] at ha hb;exact ⟨of_decide_eq_true ha,of_decide_eq_true hb⟩
 · rw [e] at hi;have d:(decide (c.inds.length=4) && c.inds.all (fun p=>partB p.1 p.2))=true:=hi;rw [Bool.and_eq_true] at d;have hl:=of_decide_eq_true d.1;refine ⟨hl,fun j hj=>?_⟩;have:=List.all_eq_true.1 d.2 (c.inds[j]'(by omega)) (List.getElem_mem _);simpa [List.getD,hl,hj] using this
 have hf:hasI c.kind=false:=by unfold hasI;exact decide_eq_false e
 rw [hf] at hi;exact List.eq_nil_of_length_eq_zero (of_decide_eq_true hi)
def RuleOk (a b:CL) (ia:Option Addr) (ca:Nat) (ib:Option Addr) (cb:Nat) (w:World) (f:Nat):Prop :=
 Calls Try.prog f #[.agg #[.int .i64 a.kind,.int .i64 a.fn,.int .i64 a.role,.int .i64 a.above,.int .i64 a.xp,.int .i64 a.xn,.int .i64 a.yp,.int .i64 a.yn,.slice ia a.inds.length ca,.int .i64 a.a,.int .i64 a.b],.agg #[.int .i64 b.kind,.int .i64 b.fn,.int .i64 b.role,.int .i64 b.above,.int .i64 b.xp,.int .i64 b.xn,.int .i64 b.yp,.int .i64 b.yn,.slice ib b.inds.length cb,.int .i64 b.a,.int .i64 b.b]] w fun e w'=>Foll (oneF a b) w.heap.size w' e∧Below w.heap.size w w'
theorem oneF_00 {a b:CL} (h1:a.kind=0) (h2:b.kind=0):oneF a b=(meetP a.x b.x).map oneC:=by unfold oneF;rw [if_pos ⟨h1,h2⟩]
theorem oneF_10 {a b:CL} (h1:a.kind=1) (h2:b.kind=0):oneF a b=(meetP a.y b.x).map (fun p=>nextC a.fn a.x p):=by unfold oneF;rw [if_neg (by omega),if_pos ⟨h1,h2⟩]
theorem oneF_11 {a b:CL} (h1:a.kind=1) (h2:b.kind=1):oneF a b=if a.fn=b.fn then (meetP a.y b.y).map (fun p=>nextC a.fn (joinP a.x b.x) p) else none:=by unfold oneF;rw [if_neg (by omega),if_neg (by omega),if_pos ⟨h1,h2⟩]
theorem oneF_23 {a b:CL} (h1:a.kind=2) (h2:b.kind=3):oneF a b=if a.role=b.role then some (nextC a.fn (joinP a.x b.x) b.y) else none:=by unfold oneF;rw [if_neg (by omega),if_neg (by omega),if_neg (by omega),if_pos ⟨h1,h2⟩]
theorem oneF_24 {a b:CL} (h1:a.kind=2) (h2:b.kind=4):oneF a b=if a.role=b.role then some (raised a b) else none:=by unfold oneF;rw [if_neg (by omega),if_neg (by omega),if_neg (by omega),if_neg (by omega),if_pos ⟨h1,h2⟩]
theorem oneF_55 {a b:CL} (h1:a.kind=5) (h2:b.kind=5):oneF a b=factsF a.inds b.inds:=by unfold oneF;rw [if_neg (by omega),if_neg (by omega),if_neg (by omega),if_neg (by omega),if_neg (by omega),if_pos ⟨h1,h2⟩]
theorem oneF_50 {a b:CL} (h1:a.kind=5) (h2:b.kind=0):oneF a b=factsO a.inds b.x:=by unfold oneF;rw [if_neg (by omega),if_neg (by omega),if_neg (by omega),if_neg (by omega),if_neg (by omega),if_neg (by omega),if_pos ⟨h1,h2⟩]
theorem oneF_63 {a b:CL} (h1:a.kind=6) (h2:b.kind=3):oneF a b=if a.role=b.role then some (pairC a b) else none:=by unfold oneF;rw [if_neg (by omega),if_neg (by omega),if_neg (by omega),if_neg (by omega),if_neg (by omega),if_neg (by omega),if_neg (by omega),if_pos ⟨h1,h2⟩]
theorem oneF_64 {a b:CL} (h1:a.kind=6) (h2:b.kind=4):oneF a b=if a.role=b.role then some (raised a b) else none:=by unfold oneF;rw [if_neg (by omega),if_neg (by omega),if_neg (by omega),if_neg (by omega),if_neg (by omega),if_neg (by omega),if_neg (by omega),if_neg (by omega),if_pos ⟨h1,h2⟩]
set_option maxRecDepth 100000 in
set_option maxHeartbeats 4000000 in
theorem apply_any (a b:CL) (ha:a.ok=true) (hb:b.ok=true) {ia:Option Addr} {ca:Nat} {ib:Option Addr} {cb:Nat} {la ha' lb hb' B:Nat} :
    (ruleV a.kind.toNat b.kind.toNat=.nilFunc∧oneF a b=none)∨∃ f,ruleV a.kind.toNat b.kind.toNat=fnV f∧(∀ (args:Array Value) (V:World),(callFunc f args).run Try.prog V=.ok (.enter f args) V)∧∀ w:World,RP la ha' w ia a.inds.length ca a.inds→RP lb hb' w ib b.inds.length cb b.inds→ha'≤w.heap.size→hb'≤w.heap.size→RuleOk a b ia ca ib cb w f:=by
 obtain ⟨⟨z,u⟩,o,m,E⟩:=ok_facts ha;obtain ⟨⟨t,s⟩,A,r,D⟩:=ok_facts hb;by_cases h00:a.kind=0∧b.kind=0
 · refine .inr ⟨109,by rw [h00.1,h00.2];rfl,fun _ _=>rfl,fun w h1 h2 q1 q2=>?_⟩;unfold RuleOk;rw [oneF_00 h00.1 h00.2];exact oneWithOne_any
 by_cases h10:a.kind=1∧b.kind=0
 · refine .inr ⟨110,by rw [h10.1,h10.2];rfl,fun _ _=>rfl,fun w h1 h2 q1 q2=>?_⟩;unfold RuleOk;rw [oneF_10 h10.1 h10.2];exact nextWithOne_any
 by_cases h11:a.kind=1∧b.kind=1
 · refine .inr ⟨111,by rw [h11.1,h11.2];rfl,fun _ _=>rfl,fun w h1 h2 q1 q2=>?_⟩;unfold RuleOk;exact nextWithNext_any (oneF_11 h11.1 h11.2)
 by_cases h23:a.kind=2∧b.kind=3
 · refine .inr ⟨112,by rw [h23.1,h23.2];rfl,fun _ _=>rfl,fun w h1 h2 q1 q2=>?_⟩;unfold RuleOk;exact edgeWithAll_any (oneF_23 h23.1 h23.2)
 by_cases h24:a.kind=2∧b.kind=4
 · refine .inr ⟨113,by rw [h24.1,h24.2];rfl,fun _ _=>rfl,fun w h1 h2 q1 q2=>?_⟩;unfold RuleOk;exact withRole_any (oneF_24 h24.1 h24.2)
 by_cases h55:a.kind=5∧b.kind=5
 · refine .inr ⟨115,by rw [h55.1,h55.2];rfl,fun _ _=>rfl,fun w h1 h2 q1 q2=>?_⟩;have l1:=(m h55.1).1;have l2:=(r h55.2).1;unfold RuleOk;rw [l1] at h1 ⊢;rw [l2] at h2 ⊢;exact factWithFact_any h1 h2 q1 q2 (oneF_55 h55.1 h55.2)
 by_cases h50:a.kind=5∧b.kind=0
 · refine .inr ⟨114,by rw [h50.1,h50.2];rfl,fun _ _=>rfl,fun w h1 h2 q1 q2=>?_⟩;have l1:=(m h50.1).1;unfold RuleOk;rw [l1] at h1 ⊢;exact factWithOne_any h1 q1 (m h50.1).2 (oneF_50 h50.1 h50.2)
 by_cases h63:a.kind=6∧b.kind=3
 · refine .inr ⟨116,by rw [h63.1,h63.2];rfl,fun _ _=>rfl,fun w h1 h2 q1 q2=>?_⟩;obtain ⟨⟨a0,a1⟩,⟨b0,b1⟩⟩:=o h63.1;obtain ⟨i,hi⟩:=Int.eq_ofNat_of_zero_le a0;obtain ⟨j,hj⟩:=Int.eq_ofNat_of_zero_le b0;unfold RuleOk;rw [hi,hj];refine pairWithAll_any (by omega) (by omega) ?_;rw [oneF_63 h63.1 h63.2];unfold pairC;rw [hi,hj];rfl
 by_cases h64:a.kind=6∧b.kind=4
 · refine .inr ⟨113,by rw [h64.1,h64.2];rfl,fun _ _=>rfl,fun w h1 h2 q1 q2=>?_⟩;unfold RuleOk;exact withRole_any (oneF_64 h64.1 h64.2)
 refine .inl ⟨?_,by unfold oneF;rw [if_neg h00,if_neg h10,if_neg h11,if_neg h23,if_neg h24,if_neg h55,if_neg h50,if_neg h63,if_neg h64]⟩;have e1:a.kind=0∨a.kind=1∨a.kind=2∨a.kind=3∨a.kind=4∨a.kind=5∨a.kind=6:=by omega
 have e2:b.kind=0∨b.kind=1∨b.kind=2∨b.kind=3∨b.kind=4∨b.kind=5∨b.kind=6:=by omega
 rcases e1 with e1 | e1 | e1 | e1 | e1 | e1 | e1 <;> rcases e2 with e2 | e2 | e2 | e2 | e2 | e2 | e2 <;> rw [e1,e2] <;> first | rfl | (exfalso;omega)
end

section
open Go.RowKit
set_option linter.unusedVariables false
def CL.nul:CL:=⟨0,0,0,0,0,0,0,0,[],0,0⟩
def clA (c:CL) (s:Value):Array Value:=#[.int .i64 c.kind,.int .i64 c.fn,.int .i64 c.role,.int .i64 c.above,.int .i64 c.xp,.int .i64 c.xn,.int .i64 c.yp,.int .i64 c.yn,s,.int .i64 c.a,.int .i64 c.b]
abbrev CV:=CL × Value
def cvZ:CV:=(CL.nul,.slice none 0 0)
def flatV:List CV→List Value
 | []=>[]
 | x :: xs=>(clA x.1 x.2).toList++flatV xs
theorem flatV_append (xs ys:List CV):flatV (xs++ys)=flatV xs++flatV ys:=by
 induction xs with
 | nil=>rfl
 | cons x xs ih=>simp only [List.cons_append,flatV,ih,List.append_assoc]
theorem clA_len (c:CL) (s:Value):(clA c s).toList.length=11:=rfl
theorem flatV_get:∀ (xs:List CV) (i m:Nat),i<xs.length→m<11→(flatV xs)[i*11+m]?=(clA (xs.getD i cvZ).1 (xs.getD i cvZ).2).toList[m]?
 | [],i,m,h,_=>by simp at h
 | x :: xs,0,m,_,hm=>by
  rw [flatV,List.getElem?_append_left (by rw [clA_len];omega)];simp
 | x :: xs,i+1,m,h,hm=>by
  rw [flatV,List.getElem?_append_right (by rw [clA_len];omega),clA_len,show (i+1)*11+m - 11=i*11+m by omega,flatV_get xs i m (by simpa using h) hm];simp
theorem OwnPs.keep {base:Nat} {W W':World} {s:Value} {xs:List PT} (h:OwnPs base W s xs) (hk:∀ g,s.ownBlock=some g→W'.heap[g]?=W.heap[g]?):OwnPs base W' s xs:=by
 rcases h with h | ⟨g,h1,h2,h3,h4⟩
 · exact .inl h
 exact .inr ⟨g,h1,h2,h3,h4.of_block (hk g (by rw [h2];rfl))⟩
theorem OwnPs.base {base base':Nat} {W:World} {s:Value} {xs:List PT} (h:OwnPs base W s xs) (hb:base'≤base):OwnPs base' W s xs:=by
 rcases h with h | ⟨g,h1,h2⟩
 · exact .inl h
 exact .inr ⟨g,by omega,h2⟩
theorem OwnPs.lt {base:Nat} {W:World} {s:Value} {xs:List PT} (h:OwnPs base W s xs):∀ g,s.ownBlock=some g→base≤g∧g<W.heap.size:=by
 intro g hg;rcases h with ⟨h,_⟩ | ⟨g',h1,h2,_,h4⟩
 · rw [h] at hg;simp [Value.ownBlock] at hg
 rw [h2] at hg;have e:g'=g:=by simpa [Value.ownBlock] using hg
 subst e;exact ⟨h1,h4.lt⟩
theorem OwnPs.form {base:Nat} {W:World} {s:Value} {xs:List PT} (h:OwnPs base W s xs):∃ a c,s=.slice a xs.length c:=by
 rcases h with ⟨h,h0⟩ | ⟨g,_,h2,h3,_⟩
 · exact ⟨none,0,by rw [h,h0];rfl⟩
 exact ⟨_,4,by rw [h2,h3]⟩
theorem OwnPs.rp {base:Nat} {W:World} {s:Value} {xs:List PT} (h:OwnPs base W s xs):∃ a c,s=.slice a xs.length c∧RP base W.heap.size W a xs.length c xs:=by
 rcases h with ⟨h,h0⟩ | ⟨g,h1,h2,h3,h4⟩
 · subst h0;exact ⟨none,0,h,rfl,⟨Nat.le_refl _,by omega⟩,.inl rfl⟩
 refine ⟨some ⟨g,0,none⟩,4,by rw [h2,h3],?_⟩;rw [h3];exact rowP_rd h4 h3 (by omega) h1 h4.lt
structure OwnCs (base:Nat) (W:World) (v:Value) (xs:List CV):Prop where
 row:W.ownsRow base 32 11 v xs.length (flatV xs)
 one:∀ i,i<xs.length→OwnPs base W (xs.getD i cvZ).2 (xs.getD i cvZ).1.inds
 off:∀ i,i<xs.length→∀ g,(xs.getD i cvZ).2.ownBlock=some g→v.ownBlock≠some g
 dis:∀ i j,i<j→j<xs.length→∀ g,(xs.getD i cvZ).2.ownBlock=some g→(xs.getD j cvZ).2.ownBlock≠some g
theorem OwnCs.nil (base:Nat) (W:World):OwnCs base W (.slice none 0 0) []:=⟨World.ownsRow_nil _ _ _ _,fun i h=>by simp at h,fun i h=>by simp at h,fun i j h1 h2=>by simp at h2⟩
theorem OwnCs.keep {base:Nat} {W W':World} {v:Value} {xs:List CV} (h:OwnCs base W v xs) (hk:∀ b,base≤b→b<W.heap.size→W'.heap[b]?=W.heap[b]?):OwnCs base W' v xs:=by
 refine ⟨⟨h.row.1,?_⟩,fun i hi=>(h.one i hi).keep (fun g hg=>hk g ((h.one i hi).lt g hg).1 ((h.one i hi).lt g hg).2),h.off,h.dis⟩;rcases h.row.2 with q | ⟨g,E,D,hv,hg,hb,r⟩
 · exact .inl q
 exact .inr ⟨g,E,D,hv,hg,by rw [hk g hg (Array.getElem?_eq_some_iff.1 hb).1];exact hb,r⟩
theorem OwnCs.below {base:Nat} {W W':World} {v:Value} {xs:List CV} (h:OwnCs base W v xs) (hb:Below W.heap.size W W'):OwnCs base W' v xs:=h.keep (fun b _ h2=>hb.block b h2)
theorem OwnCs.form {base:Nat} {W:World} {v:Value} {xs:List CV} (h:OwnCs base W v xs):∃ a c,v=.slice a xs.length c:=by
 rcases h.row.2 with ⟨e,e0⟩ | ⟨g,c,_,e,_⟩
 · exact ⟨none,0,by rw [e,e0]⟩
 exact ⟨_,c,e⟩
theorem getDc_lt {α:Type} (l:List α) (x d:α) (i:Nat) (h:i<l.length):(l++[x]).getD i d=l.getD i d:=by rw [List.getD,List.getElem?_append_left h,List.getD]
theorem getDc_eq {α:Type} (l:List α) (x d:α):(l++[x]).getD l.length d=x:=by simp [List.getD]
theorem OwnCs.push {base b2:Nat} {W W':World} {v v':Value} {xs:List CV} {c:CL} {s:Value} (h:OwnCs base W v xs) (hs:OwnPs b2 W s c.inds) (J:base≤b2) (F:∀ i,i<xs.length→∀ g,(xs.getD i cvZ).2.ownBlock=some g→g<b2) (hv:∀ g,v.ownBlock=some g→g<b2)
    (hn:W'.ownsRow base 32 11 v' (xs.length+1) (flatV xs++(clA c s).toList)) (I:W.grownBy W' v.ownBlock) (L:v'.ownBlock=v.ownBlock∨v'.ownBlock=some W.heap.size):OwnCs base W' v' (xs++[(c,s)]):=by
 have o:∀ g,g<W.heap.size→v.ownBlock≠some g→W'.heap[g]?=W.heap[g]?:=fun g h1 h2=>I.block g h1 (fun e=>h2 e.symm)
 have z:∀ g,g<W.heap.size→v.ownBlock≠some g→v'.ownBlock≠some g:=by
  intro g h1 h2 e;rcases L with q | q
  · exact h2 (q ▸ e)
  rw [q] at e;simp only [Option.some.injEq] at e;omega
 have G:∀ g,s.ownBlock=some g→v.ownBlock≠some g:=fun g hg e=>by
  have:=(hs.lt g hg).1;have:=hv g e;omega
 refine ⟨?_,fun i hi=>?_,fun i hi g hg=>?_,fun i j H hj g hg=>?_⟩
 · rw [List.length_append,List.length_singleton,flatV_append];have e:flatV [(c,s)]=(clA c s).toList:=by simp [flatV]
   rw [e];exact hn
 · rw [List.length_append,List.length_singleton] at hi;by_cases e:i=xs.length
   · subst e;rw [getDc_eq];exact (hs.keep (fun g hg=>o g (hs.lt g hg).2 (G g hg))).base J
   rw [getDc_lt _ _ _ _ (by omega)];have h1:=h.one i (by omega);exact h1.keep (fun g hg=>o g (h1.lt g hg).2 (h.off i (by omega) g hg))
 · rw [List.length_append,List.length_singleton] at hi;by_cases e:i=xs.length
   · subst e;rw [getDc_eq] at hg;exact z g (hs.lt g hg).2 (G g hg)
   rw [getDc_lt _ _ _ _ (by omega)] at hg;exact z g ((h.one i (by omega)).lt g hg).2 (h.off i (by omega) g hg)
 rw [List.length_append,List.length_singleton] at hj;rw [getDc_lt _ _ _ _ (by omega)] at hg;by_cases e:j=xs.length
 · subst e;rw [getDc_eq];intro q;have:=(hs.lt g q).1;have:=F i (by omega) g hg;omega
 rw [getDc_lt _ _ _ _ (by omega)];exact h.dis i j H (by omega) g hg
theorem OwnCs.low {base:Nat} {W:World} {v:Value} {xs:List CV} (h:OwnCs base W v xs):(∀ i,i<xs.length→∀ g,(xs.getD i cvZ).2.ownBlock=some g→g<W.heap.size)∧∀ g,v.ownBlock=some g→base≤g∧g<W.heap.size :=
 ⟨fun i hi g hg=>((h.one i hi).lt g hg).2,fun g hg=>World.ownsRow.lt h.row g hg⟩
theorem OwnCs.base {base base':Nat} {W:World} {v:Value} {xs:List CV} (h:OwnCs base W v xs) (hb:base'≤base):OwnCs base' W v xs:=by
 refine ⟨⟨h.row.1,?_⟩,fun i hi=>(h.one i hi).base hb,h.off,h.dis⟩;rcases h.row.2 with q | ⟨g,E,D,hv,hg,r⟩
 · exact .inl q
 exact .inr ⟨g,E,D,hv,by omega,r⟩
theorem Try.infoCl:(Try.prog.info? 32).map (fun i=>(i.zero,i.size,i.bytes))=some (some (.agg (clA CL.nul (.slice none 0 0))),11,104):=by kernel_rfl
theorem newCl (w:World) (cs:Array Value) (t:Nat):∀ j v,cs.toList[j]?=some v→(w.alloc (.cells cs t)).cell? ((⟨w.heap.size,0,none⟩:Addr).add j)=some v:=by
 intro j v hv;have hb:(w.alloc (.cells cs t)).heap[w.heap.size]?=some (.cells cs t):=World.alloc_heap_new w _;have:((⟨w.heap.size,0,none⟩:Addr).add j)=⟨w.heap.size,j,none⟩:=by simp [Addr.add];exact fun h=>h.symm
 rw [this];unfold World.cell?;simp only [];rw [hb];simpa using hv
theorem oneCl {c:CL} {s:Value} (hs:s.oneCell'=true):∀ u∈(clA c s).toList,u.oneCell'=true:=by
 intro u hu;simp only [clA,List.mem_cons,List.not_mem_nil,or_false] at hu;rcases hu with h | h | h | h | h | h | h | h | h | h | h <;> subst h <;> first | rfl | exact hs
end

section
open Go.RowKit
set_option linter.unusedVariables false
def Cq11 (lo hi:Nat) (w:World) (b o:Nat) (x:CL):Prop:=∃ (ia:Option Addr) (ic:Nat),(∀ m v,(clA x (.slice ia x.inds.length ic)).toList[m]?=some v→w.cell? ⟨b,o+m,none⟩=some v)∧RP lo hi w ia x.inds.length ic x.inds
structure RdQ (lo hi:Nat) (w:World) (a:Option Addr) (n d:Nat) (xs:List CL):Prop where
 len:xs.length=n
 fits:n≤d∧d≤9223372036854775807
 cells:n=0∨∃ b off,a=some ⟨b,off,none⟩∧lo≤b∧b<hi∧∀ i,i<n→Cq11 lo hi w b (off+i*11) (xs.getD i CL.nul)
theorem Cq11.same {lo hi:Nat} {w w':World} {b o:Nat} {x:CL} (h:Cq11 lo hi w b o x) (hs:Same lo hi w w') (h1:lo≤b) (h2:b<hi):Cq11 lo hi w' b o x:=by
 obtain ⟨ia,ic,hc,hr⟩:=h;exact ⟨ia,ic,fun m v hm=>(hs.cell (p:=⟨b,o+m,none⟩) h1 h2).trans (hc m v hm),hr.same hs⟩
theorem RdQ.same {lo hi:Nat} {w w':World} {a:Option Addr} {n d:Nat} {xs:List CL} (h:RdQ lo hi w a n d xs) (hs:Same lo hi w w'):RdQ lo hi w' a n d xs:=by
 obtain ⟨hl,hm,hc⟩:=h;refine ⟨hl,hm,?_⟩;rcases hc with h0 | ⟨b,off,e,h1,h2,hc⟩
 · exact .inl h0
 exact .inr ⟨b,off,e,h1,h2,fun i hi=>(hc i hi).same hs h1 h2⟩
theorem RdQ.below {lo hi B:Nat} {w w':World} {a:Option Addr} {n d:Nat} {xs:List CL} (h:RdQ lo hi w a n d xs) (hb:Below B w w') (hB:hi≤B):RdQ lo hi w' a n d xs:=h.same (Same.of_below hb hB)
theorem RdQ.mono {lo hi lo' z:Nat} {w:World} {a:Option Addr} {n d:Nat} {xs:List CL} (h:RdQ lo hi w a n d xs) (h1:lo'≤lo) (h2:hi≤z):RdQ lo' z w a n d xs:=by
 obtain ⟨hl,hm,hc⟩:=h;refine ⟨hl,hm,?_⟩;rcases hc with h0 | ⟨b,off,e,q1,q2,hc⟩
 · exact .inl h0
 refine .inr ⟨b,off,e,by omega,by omega,fun i hi=>?_⟩;obtain ⟨ia,ic,D,hr⟩:=hc i hi;exact ⟨ia,ic,D,hr.mono h1 h2⟩
theorem RdQ.nil (lo hi:Nat) (w:World):RdQ lo hi w none 0 0 []:=⟨rfl,⟨Nat.le_refl _,by omega⟩,.inl rfl⟩
theorem RdQ.one {lo hi g:Nat} {w:World} {c:CL} {ia:Option Addr} {ic:Nat} (hg:w.heap[g]?=some (.cells (clA c (.slice ia c.inds.length ic)) 32 (0,0))) (hr:RP lo hi w ia c.inds.length ic c.inds) (h1:lo≤g) (h2:g<hi):RdQ lo hi w (some ⟨g,0,none⟩) 1 1 [c]:=by
 refine ⟨rfl,⟨Nat.le_refl _,by omega⟩,.inr ⟨g,0,rfl,h1,h2,fun i hi=>?_⟩⟩;obtain rfl:i=0:=by omega
 refine ⟨ia,ic,fun m v hm=>?_,hr⟩;simp only [Nat.zero_mul,Nat.zero_add];unfold World.cell?;simp only [];rw [hg];simpa using hm
theorem OwnCs.rdq {base:Nat} {W:World} {v:Value} {xs:List CV} (h:OwnCs base W v xs):∃ a c,v=.slice a xs.length c∧RdQ base W.heap.size W a xs.length c (xs.map (·.1)):=by
 rcases h.row.2 with ⟨e,e0⟩ | ⟨g,d,s,e,hg,hb,h1,h2,h3,h4⟩
 · refine ⟨none,0,by rw [e,e0],by simp,⟨by omega,by omega⟩,.inl e0⟩
 refine ⟨some ⟨g,0,none⟩,d,e,by simp,⟨h1,by unfold maxLen at h2;omega⟩,.inr ⟨g,0,rfl,hg,(Array.getElem?_eq_some_iff.1 hb).1,fun i hi=>?_⟩⟩;have hp:=h.one i hi;obtain ⟨a,c,e2,hr⟩:=hp.rp;have e3:(xs.map (·.1)).getD i CL.nul=(xs.getD i cvZ).1:=by simp [List.getD,hi]
 rw [e3];refine ⟨a,c,fun m u hm=>?_,hr⟩;rw [← e2] at hm
 have t:m<11:=by
  have:=(List.getElem?_eq_some_iff.1 hm).1
  rwa [clA_len] at this
 have hf:=flatV_get xs i m hi t;rw [hm,← h4,List.getElem?_take_of_lt (by omega)] at hf;unfold World.cell?;simp only [];rw [hb];simpa using hf
def flatP:List PT→List Value
 | []=>[]
 | p :: ps=>.int .i64 p.1 :: .int .i64 p.2 :: flatP ps
theorem flatP_len (xs:List PT):(flatP xs).length=xs.length*2:=by
 induction xs with
 | nil=>rfl
 | cons x xs ih=>simp only [flatP,List.length_cons,ih];omega
theorem flatP_get:∀ (xs:List PT) (i:Nat),i<xs.length→(flatP xs)[i*2]?=some (.int .i64 (xs.getD i (0,0)).1)∧(flatP xs)[i*2+1]?=some (.int .i64 (xs.getD i (0,0)).2)
 | [],i,h=>by simp at h
 | x :: xs,0,_=>⟨rfl,rfl⟩
 | x :: xs,i+1,h=>by
  have:=flatP_get xs i (by simpa using h);rw [show (i+1)*2=i*2+1+1 by omega];simpa [flatP] using this
theorem flatP_set:∀ (xs:List PT) (i:Nat) (p q:Int),((flatP xs).set (i*2) (.int .i64 p)).set (i*2+1) (.int .i64 q)=flatP (xs.set i (p,q))
 | [],i,p,q=>by simp [flatP]
 | x :: xs,0,p,q=>rfl
 | x :: xs,i+1,p,q=>by
  have:=flatP_set xs i p q;rw [show (i+1)*2=i*2+1+1 by omega];simp only [flatP,List.set_cons_succ,this]
theorem RP.flat {lo hi:Nat} {w:World} {b off n d:Nat} {xs:List PT} (h:RP lo hi w (some ⟨b,off,none⟩) n d xs):∀ j u,(flatP xs)[j]?=some u→w.cell? ((⟨b,off,none⟩:Addr).add j)=some u:=by
 intro j u hj;have hl:=(List.getElem?_eq_some_iff.1 hj).1;rw [flatP_len] at hl;have hx:=h.len;obtain ⟨i,hd⟩:∃ i,j=i*2∨j=i*2+1:=⟨j / 2,by omega⟩;have hi:i<xs.length:=by omega
 obtain ⟨f0,f1⟩:=flatP_get xs i hi;obtain ⟨c0,c1,_⟩:=h.at (i:=i) (by omega);have e:∀ q,((⟨b,off,none⟩:Addr).add q)=⟨b,off+q,none⟩:=by intro q;simp [Addr.add]
 rw [e];rcases hd with rfl | rfl
 · rw [f0] at hj;cases hj;exact c0
 rw [f1] at hj;cases hj;rw [← Nat.add_assoc];exact c1
theorem flatP_one (xs:List PT):∀ u∈flatP xs,u.oneCell'=true:=by
 induction xs with
 | nil=>intro u hu;simp [flatP] at hu
 | cons x xs ih =>
  intro u hu;simp only [flatP,List.mem_cons] at hu;rcases hu with rfl | rfl | hu
  · rfl
  · rfl
  exact ih u hu
def OwnP (base:Nat) (w:World) (v:Value) (xs:List PT):Prop:=w.ownsRow base 29 2 v xs.length (flatP xs)
theorem OwnP.rp {base:Nat} {w:World} {v:Value} {xs:List PT} (h:OwnP base w v xs):∃ a c,v=.slice a xs.length c∧RP base w.heap.size w a xs.length c xs:=by
 rcases h.2 with ⟨e,e0⟩ | ⟨g,d,s,e,hg,hb,h1,h2,h3,h4⟩
 · refine ⟨none,0,by rw [e,e0],rfl,⟨by omega,by omega⟩,.inl e0⟩
 refine ⟨some ⟨g,0,none⟩,d,e,rfl,⟨h1,by unfold maxLen at h2;omega⟩,.inr ⟨g,0,rfl,hg,(Array.getElem?_eq_some_iff.1 hb).1,fun i hi=>?_⟩⟩;obtain ⟨f0,f1⟩:=flatP_get xs i hi;rw [← h4,List.getElem?_take_of_lt (by omega)] at f0 f1;simp only [Nat.zero_add];unfold World.cell?;simp only [];rw [hb];exact ⟨by simpa using f0,by simpa using f1⟩
theorem OwnP.below {base:Nat} {w w':World} {v:Value} {xs:List PT} (h:OwnP base w v xs) (hb:Below w.heap.size w w'):OwnP base w' v xs:=by
 refine ⟨h.1,?_⟩;rcases h.2 with q | ⟨g,d,s,hv,hg,hh,r⟩
 · exact .inl q
 exact .inr ⟨g,d,s,hv,hg,(hb.block g (Array.getElem?_eq_some_iff.1 hh).1).trans hh,r⟩
theorem bool_of_numB {n A:Int} {c:Bool} (h:numB n A c=true) (hc:c=false):n=0:=by subst hc;exact of_decide_eq_true h
theorem zero_of_parB {p n:Int} {c:Bool} (h:parB p n c=true) (hc:c=false):p=0∧n=0:=by subst hc;exact noneB_iff.1 h
theorem ok_fact {c:CL} (h:c.ok=true) (hk:c.kind=5):c=factC c.inds:=by
 unfold CL.ok clauseB at h;simp only [Bool.and_eq_true] at h;obtain ⟨_,hf,hr,hu,ha,hb,hx,hy,_,_⟩:=h;cases c with
 | mk k f r u xp xn yp yn xs a b =>
  dsimp only at hk hf hr hu ha hb hx hy ⊢;subst hk;rw [bool_of_numB hf rfl,bool_of_numB hr rfl,bool_of_numB hu rfl,bool_of_numB ha rfl,bool_of_numB hb rfl,(zero_of_parB hx rfl).1,(zero_of_parB hx rfl).2,(zero_of_parB hy rfl).1,(zero_of_parB hy rfl).2];rfl
theorem ok_raised {a b:CL} (h:a.ok=true) (hk:a.kind=2∨a.kind=6):raised a b={ a with role:=b.above }:=by
 have hi:=(ok_facts h).2.2.2 (by omega);unfold CL.ok clauseB at h;simp only [Bool.and_eq_true] at h;obtain ⟨_,hf,hr,hu,ha,hb,hx,hy,_,_⟩:=h;cases a with
 | mk k f r u xp xn yp yn xs a' b' =>
  dsimp only at hk hi hf hr hu ha hb hx hy;unfold raised;dsimp only;rcases hk with rfl | rfl
  · rw [bool_of_numB hu rfl,(zero_of_parB hy rfl).1,(zero_of_parB hy rfl).2,hi]
  rw [bool_of_numB hu rfl,(zero_of_parB hy rfl).1,(zero_of_parB hy rfl).2,hi]
theorem ok_xpart {c:CL} (h:c.ok=true) (hk:c.kind=0∨c.kind=1∨c.kind=2∨c.kind=3):partB c.xp c.xn=true:=by
 unfold CL.ok clauseB at h;simp only [Bool.and_eq_true] at h;obtain ⟨_,_,_,_,_,_,hx,_,_,_⟩:=h;have:hasX c.kind=true:=by unfold hasX;rcases hk with e | e | e | e <;> rw [e] <;> rfl
 rw [this] at hx;exact hx
theorem ok_ypart {c:CL} (h:c.ok=true) (hk:c.kind=1∨c.kind=3):partB c.yp c.yn=true:=by
 unfold CL.ok clauseB at h;simp only [Bool.and_eq_true] at h;obtain ⟨_,_,_,_,_,_,_,hy,_,_⟩:=h;have:hasY c.kind=true:=by unfold hasY;rcases hk with e | e <;> rw [e] <;> rfl
 rw [this] at hy;exact hy
end

end Go.Proofs.Ytkjmfaohdhiiaaa
