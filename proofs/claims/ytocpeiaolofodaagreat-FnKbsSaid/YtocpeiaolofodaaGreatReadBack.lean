/- A concept comes back from its text: what is written is read as the same. -/
import Derived.Test.YtocpeiaolofodaaGreatNG14
import Derived.Test.YtocpeiaolofodaaGreatNG4
import Derived.Test.YtocpeiaolofodaaGreatNG10
namespace Go.Proofs.YtocpeiaolofodaaGreat
open Go.RowKit
def TokRun (zs:List Int) (i j:Nat) (ks:List (Int × List Int)):Prop :=
 ∀ (f:Nat) (z:List Tok),zs.length+1≤f+i→∃ (ms:List Tok) (f':Nat),toksFrom zs f i z=toksFrom zs f' j (z++ms)∧zs.length+1≤f'+j∧ms.map (fun t=>(t.kind,t.text))=ks
theorem TokRun.nil (zs:List Int) (i:Nat):TokRun zs i i []:=fun f z h=>⟨[],f,by simp,h,rfl⟩
theorem TokRun.comp {zs:List Int} {i j k:Nat} {ks ls:List (Int × List Int)} (h:TokRun zs i j ks) (g:TokRun zs j k ls):TokRun zs i k (ks++ls):=by
 intro f z hf;obtain ⟨ms,f1,e1,h1,m1⟩:=h f z hf;obtain ⟨ns,f2,e2,h2,m2⟩:=g f1 (z++ms) h1;exact ⟨ms++ns,f2,by rw [e1,e2,List.append_assoc],h2,by rw [List.map_append,m1,m2]⟩
def Ends (R:List Int):Prop:=R=[]∨∃ x r,R=x :: r∧lowB x=false
theorem run_blank {zs pre R:List Int} (hz:zs=pre++32 :: R):TokRun zs pre.length (pre.length+1) []:=by
 intro f z hf;have hl:pre.length<zs.length:=by rw [hz];simp
 cases f with
 | zero=>omega
 | succ f =>
  have hb:blankB (zs.getD pre.length 0)=true:=by rw [hz];simp [List.getD,blankB]
  exact ⟨[],f,by rw [toksFrom_blank _ _ _ _ hl hb];simp,by omega,rfl⟩
theorem run_piece {zs pre R p:List Int} {k:Int} (hz:zs=pre++(p++R)) (hp:p≠[]) (hb:blankB (zs.getD pre.length 0)=false) (he:pend zs pre.length=pre.length+p.length) (hk:kindOf p=k) (I:k≠0) :
    TokRun zs pre.length (pre.length+p.length) [(k,if k=1∨k=2 then p else [])]:=by
 intro f z hf;have a4:1≤p.length:=by cases p with | nil=>exact absurd rfl hp | cons _ _=>simp
 have hl:pre.length<zs.length:=by rw [hz];simp;omega
 have N:piece zs pre.length=p:=by unfold piece;rw [he,show pre.length+p.length - pre.length=p.length by omega,hz];simp
 cases f with
 | zero=>omega
 | succ f =>
  refine ⟨[tokAt zs pre.length],f,by rw [toksFrom_tok _ _ _ _ hl hb (by rw [N,hk];exact I),he],by omega,?_⟩;simp only [List.map_cons,List.map_nil,tokAt,N,hk]
theorem run_open {zs pre R:List Int} (hz:zs=pre++40 :: R):TokRun zs pre.length (pre.length+1) [(3,[])]:=by
 have hg:zs.getD pre.length 0=40:=by rw [hz];simp [List.getD]
 have:=run_piece (zs:=zs) (pre:=pre) (p:=[40]) (R:=R) (k:=3) (by rw [hz];rfl) (by simp) (by rw [hg];decide) (by unfold pend;rw [hg];simp) kind_open (by omega);simpa using this
theorem run_close {zs pre R:List Int} (hz:zs=pre++41 :: R):TokRun zs pre.length (pre.length+1) [(4,[])]:=by
 have hg:zs.getD pre.length 0=41:=by rw [hz];simp [List.getD]
 have:=run_piece (zs:=zs) (pre:=pre) (p:=[41]) (R:=R) (k:=4) (by rw [hz];rfl) (by simp) (by rw [hg];decide) (by unfold pend;rw [hg];simp) kind_close (by omega);simpa using this
theorem word_end {zs pre R:List Int} {c:Int} {q:List Int} (hz:zs=pre++((c :: q)++R)) (hR:Ends R) (hc:¬ (c=40∨c=41)) (hq:q.all lowB=true):pend zs pre.length=pre.length+(c :: q).length:=by
 have hg:zs.getD pre.length 0=c:=by rw [hz];simp [List.getD]
 have hd:zs.drop (pre.length+1)=q++R:=by rw [hz,← List.drop_drop];simp
 unfold pend;rw [hg,if_neg hc];unfold runLow;rw [hd,takeWhile_app q R hq hR];simp only [List.length_cons];omega
theorem run_up {zs pre R p:List Int} (hz:zs=pre++(p++R)) (hR:Ends R) (hp:upOk p=true):TokRun zs pre.length (pre.length+p.length) [(1,p)]:=by
 have hk:kindOf p=1:=by unfold kindOf;rw [if_pos hp]
 cases p with
 | nil=>exact absurd hp (by decide)
 | cons c q =>
  have h2:=hp;simp only [upOk,Bool.and_eq_true,List.getD_cons_zero,List.drop_succ_cons,List.drop_zero] at h2;obtain ⟨_,h3,h4⟩:=h2;have hc:65≤c∧c≤90:=by simpa [upB] using h3
  have hg:zs.getD pre.length 0=c:=by rw [hz];simp [List.getD]
  have:=run_piece hz (by simp) (by rw [hg];simp [blankB];omega) (word_end hz hR (by omega) h4) hk (by omega);simpa using this
theorem run_low {zs pre R p:List Int} (hz:zs=pre++(p++R)) (hR:Ends R) (hp:lowOk p=true):TokRun zs pre.length (pre.length+p.length) [(2,p)]:=by
 have hk:kindOf p=2:=by unfold kindOf;rw [if_neg (by rw [low_not_up hp];simp),if_pos hp]
 cases p with
 | nil=>exact absurd hp (by decide)
 | cons c q =>
  have h2:=hp;simp only [lowOk,Bool.and_eq_true,List.all_cons] at h2;obtain ⟨_,h3,h4⟩:=h2;have hc:97≤c∧c≤122:=by simpa [lowB] using h3
  have hg:zs.getD pre.length 0=c:=by rw [hz];simp [List.getD]
  have:=run_piece hz (by simp) (by rw [hg];simp [blankB];omega) (word_end hz hR (by omega) h4) hk (by omega);simpa using this
def roleF (r:List Int):List (Int × List Int):=if r=[] then [] else [(2,r)]
mutual
def flat:CN→List (Int × List Int)
 | .mk k n r ks=>if k=2 then [(1,n)] else if ks.length=0 then [(1,wordOf k)] else (1,wordOf k) :: (3,[]) :: (roleF r++(flatL ks++[(4,[])]))
def flatL:List CN→List (Int × List Int)
 | []=>[]
 | c :: cs=>flat c++flatL cs
end
theorem word_up {k:Int} (h:0≤k∧k≤7) (h2:k≠2):upOk (wordOf k)=true:=by
 have:k=0∨k=1∨k=3∨k=4∨k=5∨k=6∨k=7:=by omega
 rcases this with rfl | rfl | rfl | rfl | rfl | rfl | rfl <;> decide
theorem shape_more {c:CN} (h:shapeB c=true):(c.kind=2→upOk c.name=true∧keptB (strOfNums c.name).toList=false∧c.role=[])∧(c.kind≠2→c.name=[])∧(c.role=[]∨lowOk c.role=true)∧(c.kids.length:Int)=kidN c.kind∧(roleB c.kind=true→lowOk c.role=true):=by
 have hs:=shape_facts h;unfold shapeB at h;simp only [Bool.and_eq_true,decide_eq_true_eq] at h;obtain ⟨h1,h2,h3⟩:=h;refine ⟨fun hk=>?_,fun hk=>?_,?_,h3,fun hr=>?_⟩
 · unfold nameFit at h1;rw [if_pos hk] at h1;simp only [Bool.and_eq_true,Bool.not_eq_true'] at h1;exact ⟨h1.1,h1.2,hs.2.2.2 (by rw [hk];rfl)⟩
 · unfold nameFit at h1;rw [if_neg hk] at h1;exact List.eq_nil_of_length_eq_zero (by simpa using h1)
 · unfold roleFit at h2
   split at h2
   · exact .inr h2
   exact .inl (List.eq_nil_of_length_eq_zero (by simpa using h2))
 unfold roleFit at h2;rw [if_pos hr] at h2;exact h2
theorem ends32 (r:List Int):Ends (32 :: r):=.inr ⟨32,r,rfl,by decide⟩
theorem ends40 (r:List Int):Ends (40 :: r):=.inr ⟨40,r,rfl,by decide⟩
theorem ends41 (r:List Int):Ends (41 :: r):=.inr ⟨41,r,rfl,by decide⟩
mutual
theorem run_con:∀ (c:CN) (zs pre R:List Int),wfC c=true→zs=pre++(textC c++R)→Ends R→TokRun zs pre.length (pre.length+(textC c).length) (flat c)
 | .mk k n r ks,zs,pre,R,hw,hz,hR=>by
  rw [wfC,Bool.and_eq_true] at hw;obtain ⟨hs,hl⟩:=hw;have hf:=(shape_facts hs).1;obtain ⟨m1,m2,m3,m4,m5⟩:=shape_more hs;simp only [CN.kind,CN.name,CN.role,CN.kids] at hf m1 m2 m3 m4 m5;rw [flat,textC] at *;by_cases hk:k=2
  · rw [if_pos hk] at hz;rw [if_pos hk,if_pos hk];exact run_up hz hR (m1 hk).1
  rw [if_neg hk] at hz;rw [if_neg hk,if_neg hk];by_cases h0:ks.length=0
  · rw [if_pos h0] at hz;rw [if_pos h0,if_pos h0];exact run_up hz hR (word_up hf hk)
  rw [if_neg h0] at hz;rw [if_neg h0,if_neg h0];have z1:zs=pre++(wordOf k++(40 :: (roleT r++(textJ 0 ks++(41 :: R))))):=by rw [hz];simp
  have r1:=run_up z1 (ends40 _) (word_up hf hk);have z2:zs=(pre++wordOf k)++40 :: (roleT r++(textJ 0 ks++(41 :: R))):=by rw [z1];simp
  have r2:=run_open z2;have z3:zs=(pre++wordOf k++[40])++(roleT r++(textJ 0 ks++(41 :: R))):=by rw [z2];simp
  have r3:TokRun zs (pre++wordOf k++[40]).length ((pre++wordOf k++[40]).length+(roleT r).length) (roleF r):=by
   unfold roleT roleF;by_cases hr:r=[]
   · rw [if_pos hr,if_pos hr];exact TokRun.nil _ _
   rw [if_neg hr,if_neg hr];have a0:lowOk r=true:=by rcases m3 with h | h;exact absurd h hr;exact h
   have e:roleT r=r++[32]:=by unfold roleT;rw [if_neg hr]
   rw [e] at z3;have q1:=run_low (zs:=zs) (pre:=pre++wordOf k++[40]) (R:=32 :: (textJ 0 ks++(41 :: R))) (by rw [z3];simp) (ends32 _) a0;have q2:=run_blank (zs:=zs) (pre:=pre++wordOf k++[40]++r) (R:=textJ 0 ks++(41 :: R)) (by rw [z3];simp)
   have q3:TokRun zs ((pre++wordOf k++[40]).length+r.length) ((pre++wordOf k++[40]).length+(r++[32]).length) []:=by
    have e1:(pre++wordOf k++[40]++r).length=(pre++wordOf k++[40]).length+r.length:=by simp;omega
    have e2:(pre++wordOf k++[40]).length+(r++[32]).length=(pre++wordOf k++[40]).length+r.length+1:=by simp;omega
    rw [e2,← e1];exact q2
   exact q1.comp q3
  have z4:zs=(pre++wordOf k++[40]++roleT r)++(textJ 0 ks++(41 :: R)):=by rw [z3];simp
  have r4:=run_cons ks 0 zs (pre++wordOf k++[40]++roleT r) (41 :: R) hl z4 (ends41 _);have z5:zs=(pre++wordOf k++[40]++roleT r++textJ 0 ks)++41 :: R:=by rw [z4];simp
  have r5:=run_close z5;have e1:(pre++wordOf k).length=pre.length+(wordOf k).length:=by simp
  have e2:(pre++wordOf k++[40]).length=(pre++wordOf k).length+1:=by simp;omega
  have e3:(pre++wordOf k++[40]++roleT r).length=(pre++wordOf k++[40]).length+(roleT r).length:=by simp;omega
  have e4:(pre++wordOf k++[40]++roleT r++textJ 0 ks).length=(pre++wordOf k++[40]++roleT r).length+(textJ 0 ks).length:=by simp;omega
  have e5:pre.length+(wordOf k++[40]++roleT r++textJ 0 ks++[41]).length=(pre++wordOf k++[40]++roleT r++textJ 0 ks).length+1:=by simp;omega
  rw [← e1] at r1;rw [← e2] at r2;rw [← e3] at r3;rw [← e4] at r4;rw [e5];have:=r1.comp (r2.comp (r3.comp (r4.comp r5)));simpa using this
theorem run_cons:∀ (cs:List CN) (k:Nat) (zs pre R:List Int),wfL cs=true→zs=pre++(textJ k cs++R)→Ends R→TokRun zs pre.length (pre.length+(textJ k cs).length) (flatL cs)
 | [],k,zs,pre,R,_,_,_=>by simp [textJ,flatL];exact TokRun.nil _ _
 | c :: cs,k,zs,pre,R,hw,hz,hR=>by
  rw [wfL,Bool.and_eq_true] at hw;rw [textJ,flatL] at *
  have a3:Ends (textJ (k+1) cs++R):=by
   cases cs with
   | nil=>simpa [textJ] using hR
   | cons d ds =>
    rw [textJ];have e:gapT (k+1)=[32]:=by unfold gapT;simp
    rw [e];exact ends32 _
  have z2:zs=(pre++gapT k)++(textC c++(textJ (k+1) cs++R)):=by rw [hz];simp
  have r1:TokRun zs pre.length (pre++gapT k).length []:=by
   by_cases h0:k=0
   · have e:gapT k=[]:=by unfold gapT;rw [if_neg (by omega)]
     rw [e];simpa using TokRun.nil zs pre.length
   have e:gapT k=[32]:=by unfold gapT;rw [if_pos (by omega)]
   rw [e] at z2 ⊢;have:=run_blank (zs:=zs) (pre:=pre) (R:=textC c++(textJ (k+1) cs++R)) (by rw [z2];simp);simpa using this
  have r2:=run_con c zs (pre++gapT k) (textJ (k+1) cs++R) hw.1 z2 a3;have z3:zs=(pre++gapT k++textC c)++(textJ (k+1) cs++R):=by rw [z2];simp
  have r3:=run_cons cs (k+1) zs (pre++gapT k++textC c) R hw.2 z3 hR;have e2:(pre++gapT k++textC c).length=(pre++gapT k).length+(textC c).length:=by simp;omega
  have e3:pre.length+(gapT k++textC c++textJ (k+1) cs).length=(pre++gapT k++textC c).length+(textJ (k+1) cs).length:=by simp;omega
  rw [← e2] at r2;rw [e3];have:=r1.comp (r2.comp r3);simpa using this
end
def StandAt (ts:List Tok) (i:Nat) (ks:List (Int × List Int)):Prop:=∀ q,q<ks.length→i+q<ts.length∧(ts.getD (i+q) Tok.zero).kind=(ks.getD q (0,[])).1∧wordI ts (i+q)=(ks.getD q (0,[])).2
theorem getD_appL {α:Type} (l m:List α) (d:α) (i:Nat) (h:i<l.length):(l++m).getD i d=l.getD i d:=by rw [List.getD,List.getElem?_append_left h,List.getD]
theorem getD_appR {α:Type} (l m:List α) (d:α) (i:Nat) (h:l.length≤i):(l++m).getD i d=m.getD (i - l.length) d:=by rw [List.getD,List.getElem?_append_right h,List.getD]
theorem StandAt.left {ts:List Tok} {i:Nat} {ks ls:List (Int × List Int)} (h:StandAt ts i (ks++ls)):StandAt ts i ks:=by
 intro q hq;have:=h q (by simp;omega)
 rwa [getD_appL _ _ _ _ hq] at this
theorem StandAt.right {ts:List Tok} {i:Nat} {ks ls:List (Int × List Int)} (h:StandAt ts i (ks++ls)):StandAt ts (i+ks.length) ls:=by
 intro q hq;have:=h (ks.length+q) (by simp;omega);rw [getD_appR _ _ _ _ (by omega),show ks.length+q - ks.length=q by omega,← Nat.add_assoc] at this;exact this
theorem StandAt.head {ts:List Tok} {i:Nat} {k:Int} {x:List Int} {ls:List (Int × List Int)} (h:StandAt ts i ((k,x) :: ls)):isI ts k i=true∧wordI ts i=x:=by
 obtain ⟨h1,h2,h3⟩:=h 0 (by simp);simp only [Nat.add_zero,List.getD_cons_zero] at h1 h2 h3;exact ⟨by simp only [isI,h1,decide_true,Bool.true_and,decide_eq_true_eq];exact h2,h3⟩
theorem StandAt.tail {ts:List Tok} {i:Nat} {x:Int × List Int} {ls:List (Int × List Int)} (h:StandAt ts i (x :: ls)):StandAt ts (i+1) ls:=by
 intro q hq;have:=h (q+1) (by simp;omega);simp only [List.getD_cons_succ] at this;rw [show i+1+q=i+(q+1) by omega];exact this
theorem kw0:kindW (strOfNums (wordOf 0)).toList=0:=by kernel_rfl
theorem kw1:kindW (strOfNums (wordOf 1)).toList=1:=by kernel_rfl
theorem kw3:kindW (strOfNums (wordOf 3)).toList=3:=by kernel_rfl
theorem kw4:kindW (strOfNums (wordOf 4)).toList=4:=by kernel_rfl
theorem kw5:kindW (strOfNums (wordOf 5)).toList=5:=by kernel_rfl
theorem kw6:kindW (strOfNums (wordOf 6)).toList=6:=by kernel_rfl
theorem kw7:kindW (strOfNums (wordOf 7)).toList=7:=by kernel_rfl
theorem kindW_word {k:Int} (h:0≤k∧k≤7) (h2:k≠2):kindW (strOfNums (wordOf k)).toList=k:=by
 have:k=0∨k=1∨k=3∨k=4∨k=5∨k=6∨k=7:=by omega
 rcases this with rfl | rfl | rfl | rfl | rfl | rfl | rfl
 · exact kw0
 · exact kw1
 · exact kw3
 · exact kw4
 · exact kw5
 · exact kw6
 exact kw7
theorem kindW_name {l:List UInt8} (h:keptB l=false):kindW l=2:=by
 simp only [keptB,Bool.or_eq_false_iff,beq_eq_false_iff_ne,ne_eq] at h;obtain ⟨h0,h1,h3,h4,h5,h6,h7,_⟩:=h;unfold kindW;rw [if_neg h0,if_neg h1,if_neg h3,if_neg h4,if_neg h5,if_neg h6,if_neg h7]
theorem kids_zero {k:Int} (h:0≤k∧k≤7) (h0:kidN k=0) (h2:k≠2):roleB k=false:=by
 have:k=0∨k=1∨k=3∨k=4∨k=5∨k=6∨k=7:=by omega
 rcases this with rfl | rfl | rfl | rfl | rfl | rfl | rfl <;> first | rfl | (exfalso;revert h0;decide)
theorem kidsR_front {g:Nat→Res} {i j:Nat} {c:CN} (h1:g i=.ok c j):∀ {m:Nat} {cs:List CN} {k:Nat},kidsR g j m=.ok cs k→kidsR g i (m+1)=.ok (c :: cs) k:=by
 intro m
 induction m with
 | zero =>
  intro cs k h;simp only [kidsR,ResL.ok.injEq] at h;simp only [kidsR];rw [h1];simp only [ResL.ok.injEq];exact ⟨by rw [← h.1];rfl,h.2⟩
 | succ m ih =>
  intro cs k h;simp only [kidsR] at h;cases h2:kidsR g j m with
  | bad a=>rw [h2] at h;simp at h
  | ok ds l =>
   rw [h2] at h;simp only at h;cases h3:g l with
   | bad a=>rw [h3] at h;simp at h
   | ok d k' =>
    rw [h3] at h;simp only [ResL.ok.injEq] at h;rw [kidsR,ih h2];simp only;rw [h3,← h.1,← h.2];rfl
mutual
theorem conR_flat:∀ (c:CN) (deep f:Nat) (ts:List Tok) (en:Int) (i:Nat),(parts c deep).all okOne=true→deep+f=7→StandAt ts i (flat c)→conR ts en f i=.ok c (i+(flat c).length)
 | .mk k n r ks,deep,f,ts,en,i,hp,hd,hS=>by
  rw [parts,List.all_cons,Bool.and_eq_true] at hp;obtain ⟨H,Z⟩:=hp;unfold okOne at H;simp only [Bool.and_eq_true,decide_eq_true_eq] at H;obtain ⟨a5,hs⟩:=H;have hf:=(shape_facts hs).1;have F:=(shape_facts hs).2.2.2;obtain ⟨m1,m2,m3,m4,m5⟩:=shape_more hs;simp only [CN.kind,CN.name,CN.role,CN.kids] at hf F m1 m2 m3 m4 m5;cases f with
  | zero=>omega
  | succ f =>
   rw [flat] at hS ⊢;by_cases hk:k=2
   · rw [if_pos hk] at hS ⊢;obtain ⟨h1,h2⟩:=hS.head;obtain ⟨u1,u2,u3⟩:=m1 hk
     have I:ks=[]:=by
      have:kidN k=0:=by rw [hk];rfl
      rw [this] at m4;exact List.eq_nil_of_length_eq_zero (by omega)
     have D:kindI ts i=2:=by unfold kindI;rw [h2];exact kindW_name u2
     rw [conR,if_neg (by rw [h1];simp),if_pos D,h2,if_neg (by rw [u2];simp),hk,u3,I];rfl
   rw [if_neg hk] at hS ⊢;have hn:=m2 hk;by_cases h0:ks.length=0
   · rw [if_pos h0] at hS ⊢;obtain ⟨h1,h2⟩:=hS.head;have D:kindI ts i=k:=by unfold kindI;rw [h2];exact kindW_word hf hk
     have G:kidN k=0:=by rw [← m4,h0];rfl
     have X:=F (kids_zero hf G hk);rw [conR,if_neg (by rw [h1];simp),D,if_neg hk,if_pos G,hn,X,List.eq_nil_of_length_eq_zero h0];rfl
   rw [if_neg h0] at hS ⊢;obtain ⟨h1,h2⟩:=hS.head;have V:=hS.tail;obtain ⟨h3,_⟩:=V.head;have U:=V.tail;have D:kindI ts i=k:=by unfold kindI;rw [h2];exact kindW_word hf hk
   have G:kidN k≠0:=by rw [← m4];omega
   have J:=U.left;have T:=U.right
   have E:(roleB k=true→isI ts 2 (i+2)=true∧wordI ts (i+2)=r)∧startI k i=i+1+1+(roleF r).length:=by
    cases hrb:roleB k
    · have e:=F hrb;refine ⟨fun h=>(by cases h),?_⟩;unfold startI roleF;rw [hrb,e];simp
    have e:=m5 hrb;have O:r≠[]:=fun e'=>by rw [e'] at e;exact absurd e (by decide)
    unfold roleF at J;rw [if_neg O] at J;refine ⟨fun _=>J.head,?_⟩;unfold startI roleF;rw [hrb,if_neg O];simp
   have Y:roleI ts k i=r:=by
    unfold roleI;cases hrb:roleB k
    · rw [F hrb];simp
    simp;exact (E.1 hrb).2
   have a1:=kidsR_flat ks (deep+1) f ts en (startI k i) Z (by omega) (by rw [E.2];exact T.left);have a2:=T.right.head.1;rw [conR,if_neg (by rw [h1];simp),D,if_neg hk,if_neg G,if_neg (by rw [h3];simp),if_neg]
   · rw [Y,show (kidN k).toNat=ks.length by rw [← m4];rfl,a1];rw [closeR,E.2,if_pos a2,hn];simp;omega
   rintro ⟨a,b⟩;rw [(E.1 a).1] at b;cases b
theorem kidsR_flat:∀ (cs:List CN) (deep f:Nat) (ts:List Tok) (en:Int) (i:Nat),(partsL cs deep).all okOne=true→deep+f=7→StandAt ts i (flatL cs)→kidsR (conR ts en f) i cs.length=.ok cs (i+(flatL cs).length)
 | [],_,_,_,_,_,_,_,_=>by simp [kidsR,flatL]
 | c :: cs,deep,f,ts,en,i,hp,hd,hS=>by
  rw [partsL,List.all_append,Bool.and_eq_true] at hp;rw [flatL] at hS ⊢;have h1:=conR_flat c deep f ts en i hp.1 hd hS.left;have h2:=kidsR_flat cs deep f ts en (i+(flat c).length) hp.2 hd hS.right;rw [List.length_cons,kidsR_front h1 h2,List.length_append];rw [Nat.add_assoc]
end
theorem stand_of_map {ts:List Tok} {ks:List (Int × List Int)} (h:ts.map (fun t=>(t.kind,t.text))=ks):StandAt ts 0 ks∧ks.length=ts.length:=by
 subst h;refine ⟨fun q hq=>?_,by simp⟩;rw [List.length_map] at hq;have e:ts.getD q Tok.zero=ts[q]:=by simp [List.getD,hq]
 have e2:(ts.map (fun t=>(t.kind,t.text))).getD q (0,[])=(ts[q].kind,ts[q].text):=by simp [List.getD,hq]
 rw [Nat.zero_add,e2];unfold wordI;rw [e];exact ⟨hq,rfl,rfl⟩
theorem conR_badP {ts:List Tok} {en:Int} {P:Int→Prop} (hp:∀ q,P (hereI ts en q)):∀ {f i:Nat} {a:Int},conR ts en f i=.bad a→P a:=by
 intro f
 induction f with
 | zero=>intro i a h;simp only [conR,Res.bad.injEq] at h;rw [← h];exact hp _
 | succ f ih =>
  intro i a h
  have hk:∀ (s m:Nat) (a:Int),kidsR (conR ts en f) s m=.bad a→P a:=by
   intro s m
   induction m with
   | zero=>intro a h;simp [kidsR] at h
   | succ m ihm =>
    intro a h;simp only [kidsR] at h;cases h1:kidsR (conR ts en f) s m with
    | bad b=>rw [h1] at h;simp only [ResL.bad.injEq] at h;rw [← h];exact ihm b h1
    | ok cs1 j1 =>
     rw [h1] at h;simp only at h;cases h2:conR ts en f j1 with
     | bad b=>rw [h2] at h;simp only [ResL.bad.injEq] at h;rw [← h];exact ih h2
     | ok c2 j2=>rw [h2] at h;simp at h
  simp only [conR] at h
  split at h
  · simp only [Res.bad.injEq] at h;rw [← h];exact hp _
  split at h
  · split at h
    · simp only [Res.bad.injEq] at h;rw [← h];exact hp _
    simp at h
  split at h
  · simp at h
  split at h
  · simp only [Res.bad.injEq] at h;rw [← h];exact hp _
  split at h
  · simp only [Res.bad.injEq] at h;rw [← h];exact hp _
  cases h5:kidsR (conR ts en f) (startI (kindI ts i) i) (kidN (kindI ts i)).toNat with
  | bad b=>rw [h5] at h;simp only [closeR,Res.bad.injEq] at h;rw [← h];exact hk _ _ _ h5
  | ok cs1 j1 =>
   rw [h5] at h;simp only [closeR] at h
   split at h
   · simp at h
   simp only [Res.bad.injEq] at h;rw [← h];exact hp _
theorem toksFrom_in (zs:List Int):∀ (f i:Nat) (z:List Tok),(∀ t∈z,0≤t.place∧t.place≤zs.length)→(∀ t∈(toksFrom zs f i z).1,0≤t.place∧t.place≤zs.length)∧((toksFrom zs f i z).2=-1∨(0≤(toksFrom zs f i z).2∧(toksFrom zs f i z).2≤zs.length))
 | 0,_,z,h=>⟨by simpa [toksFrom] using h,.inl rfl⟩
 | f+1,i,z,h=>by
  rw [toksFrom]
  split
  · rename_i hi
    split
    · exact toksFrom_in zs f (i+1) z h
    split
    · exact ⟨fun t ht=>by simp at ht,.inr ⟨Int.natCast_nonneg i,by show (i:Int)≤_;omega⟩⟩
    refine toksFrom_in zs f (pend zs i) (z++[tokAt zs i]) (fun t ht=>?_);rcases List.mem_append.1 ht with ht | ht
    · exact h t ht
    simp only [List.mem_singleton] at ht;subst ht;exact ⟨Int.natCast_nonneg i,by show (i:Int)≤_;omega⟩
  exact ⟨h,.inl rfl⟩
theorem toks_in (zs:List Int):(∀ q,0≤hereI (toks zs).1 (zs.length:Nat) q∧hereI (toks zs).1 (zs.length:Nat) q≤zs.length)∧((toks zs).2=-1∨(0≤(toks zs).2∧(toks zs).2≤zs.length)):=by
 have h:(∀ t∈(toks zs).1,0≤t.place∧t.place≤zs.length)∧((toks zs).2=-1∨(0≤(toks zs).2∧(toks zs).2≤zs.length)):=by
  unfold toks
  split
  · exact ⟨fun t ht=>by simp at ht,.inr ⟨by simp,by simp⟩⟩
  exact toksFrom_in zs _ _ _ (fun t ht=>by simp at ht)
 refine ⟨fun q=>?_,h.2⟩;unfold hereI
 split
 · rename_i hq
   have e:(toks zs).1.getD q Tok.zero=(toks zs).1[q]:=by simp [List.getD,hq]
   rw [e];exact h.1 _ (List.getElem_mem hq)
 exact ⟨Int.natCast_nonneg _,Int.le_refl _⟩
end Go.Proofs.YtocpeiaolofodaaGreat
