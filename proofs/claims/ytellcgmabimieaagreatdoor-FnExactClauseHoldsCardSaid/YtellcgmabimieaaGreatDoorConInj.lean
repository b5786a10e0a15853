/- Two concepts whose parts are as their kinds ask, and whose texts are the same, are the same. -/
import Derived.Test.YtellcgmabimieaaGreatDoorNG10
namespace Go.Proofs.YtellcgmabimieaaGreatDoor
open Go.RowKit
def wordChar (z:Int):Bool:=decide (z≠32∧z≠40∧z≠41)
def EndsI (u:List Int):Prop:=∀ z zs,u=z :: zs→wordChar z=false
theorem ends_nil:EndsI []:=fun z zs h=>by cases h
theorem ends_40 (u:List Int):EndsI (40 :: u):=fun z zs h=>by cases h;rfl
theorem ends_41 (u:List Int):EndsI (41 :: u):=fun z zs h=>by cases h;rfl
theorem ends_32 (u:List Int):EndsI (32 :: u):=fun z zs h=>by cases h;rfl
theorem split_word {x y u v:List Int} (hx:x.all wordChar=true) (hy:y.all wordChar=true) (hu:EndsI u) (hv:EndsI v) (h:x++u=y++v):x=y∧u=v:=by
 induction x generalizing y with
 | nil =>
  cases y with
  | nil=>exact ⟨rfl,by simpa using h⟩
  | cons b y =>
   have h1:=hu b (y++v) (by simpa using h);rw [List.all_cons,h1] at hy;simp at hy
 | cons a x ih =>
  cases y with
  | nil =>
   have h1:=hv a (x++u) (by simpa using h.symm);rw [List.all_cons,h1] at hx;simp at hx
  | cons b y =>
   rw [List.all_cons,Bool.and_eq_true] at hx hy;rw [List.cons_append,List.cons_append,List.cons.injEq] at h;obtain ⟨e,h⟩:=h;obtain ⟨h1,h2⟩:=ih hx.2 hy.2 h;exact ⟨by rw [e,h1],h2⟩
theorem char_low {z:Int} (h:lowB z=true):wordChar z=true:=by
 unfold lowB at h;simp only [Bool.and_eq_true,decide_eq_true_eq] at h;unfold wordChar;simp only [decide_eq_true_eq];omega
theorem char_up {z:Int} (h:upB z=true):wordChar z=true:=by
 unfold upB at h;simp only [Bool.and_eq_true,decide_eq_true_eq] at h;unfold wordChar;simp only [decide_eq_true_eq];omega
theorem chars_low {zs:List Int} (h:lowOk zs=true):zs.all wordChar=true:=by
 unfold lowOk at h;rw [Bool.and_eq_true] at h;have h2:=h.2;rw [List.all_eq_true] at h2 ⊢;exact fun z hz=>char_low (h2 z hz)
theorem chars_up {zs:List Int} (h:upOk zs=true):zs.all wordChar=true:=by
 unfold upOk at h;simp only [Bool.and_eq_true] at h;obtain ⟨_,h1,h2⟩:=h;cases zs with
 | nil=>rfl
 | cons z zs =>
  rw [List.all_cons,Bool.and_eq_true];refine ⟨char_up (by simpa using h1),?_⟩;rw [List.all_eq_true] at h2 ⊢;exact fun y hy=>char_low (h2 y (by simpa using hy))
theorem chars_word (k:Int):(wordOf k).all wordChar=true:=by
 unfold wordOf
 repeat' split
 all_goals decide
def headW (c:CN):List Int:=if c.kind=2 then c.name else wordOf c.kind
def restW (c:CN):List Int:=if c.kind=2 then [] else if c.kids.length=0 then [] else 40 :: (roleT c.role++(textJ 0 c.kids++[41]))
theorem text_split (c:CN):textC c=headW c++restW c:=by
 rw [textC_eq];unfold headW restW
 split
 · simp
 split
 · simp
 simp
theorem rest_ends (c:CN) (u:List Int) (hu:EndsI u):EndsI (restW c++u):=by
 unfold restW
 split
 · exact hu
 split
 · exact hu
 exact ends_40 _
theorem kept_word {k:Int} (h:0≤k∧k≤7) (h2:k≠2):keptB (strOfNums (wordOf k)).toList=true:=by
 have A:k=0∨k=1∨k=3∨k=4∨k=5∨k=6∨k=7:=by omega
 rw [ByteArray.toList_eq];rcases A with rfl | rfl | rfl | rfl | rfl | rfl | rfl <;> decide +kernel
theorem word_inj {k l:Int} (hk:0≤k∧k≤7) (hl:0≤l∧l≤7) (h2:k≠2) (I:l≠2) (h:wordOf k=wordOf l):k=l:=by
 have A:k=0∨k=1∨k=3∨k=4∨k=5∨k=6∨k=7:=by omega
 have E:l=0∨l=1∨l=3∨l=4∨l=5∨l=6∨l=7:=by omega
 rcases A with rfl | rfl | rfl | rfl | rfl | rfl | rfl <;> rcases E with rfl | rfl | rfl | rfl | rfl | rfl | rfl <;> first | rfl | (exact absurd h (by decide))
theorem shape_moreI {c:CN} (h:shapeB c=true):(0≤c.kind∧c.kind≤7)∧(c.kind=2→upOk c.name=true∧keptB (strOfNums c.name).toList=false)∧(c.kind≠2→c.name=[])∧(roleB c.kind=true→lowOk c.role=true)∧(roleB c.kind=false→c.role=[])∧(c.kids.length:Int)=kidN c.kind:=by
 have hf:=shape_facts h;unfold shapeB at h;simp only [Bool.and_eq_true,decide_eq_true_eq] at h;obtain ⟨h1,h2,h3⟩:=h;refine ⟨hf.1,fun hk=>?_,fun hk=>?_,fun hr=>?_,hf.2.2.2,h3⟩
 · unfold nameFit at h1;rw [if_pos hk,Bool.and_eq_true] at h1;exact ⟨h1.1,by simpa using h1.2⟩
 · unfold nameFit at h1;rw [if_neg hk] at h1;exact List.eq_nil_of_length_eq_zero (by simpa using h1)
 unfold roleFit at h2;rw [if_pos hr] at h2;exact h2
theorem head_chars {c:CN} (h:shapeB c=true):(headW c).all wordChar=true:=by
 unfold headW
 split
 · rename_i hk;exact chars_up ((shape_moreI h).2.1 hk).1
 exact chars_word _
theorem head_kind {a b:CN} (ha:shapeB a=true) (hb:shapeB b=true) (h:headW a=headW b):a.kind=b.kind:=by
 obtain ⟨a1,a2,_⟩:=shape_moreI ha;obtain ⟨b1,b2,_⟩:=shape_moreI hb;unfold headW at h;by_cases ka:a.kind=2
 · by_cases kb:b.kind=2
   · rw [ka,kb]
   rw [if_pos ka,if_neg kb] at h;have:=(a2 ka).2;rw [h,kept_word b1 kb] at this;cases this
 by_cases kb:b.kind=2
 · rw [if_neg ka,if_pos kb] at h;have:=(b2 kb).2;rw [← h,kept_word a1 ka] at this;cases this
 rw [if_neg ka,if_neg kb] at h;exact word_inj a1 b1 ka kb h
theorem CN.ext4 {a b:CN} (h1:a.kind=b.kind) (h2:a.name=b.name) (h3:a.role=b.role) (h4:a.kids=b.kids):a=b:=by
 cases a;cases b;simp only [CN.kind,CN.name,CN.role,CN.kids] at h1 h2 h3 h4;rw [h1,h2,h3,h4]
theorem text_inj:∀ (n:Nat) (a b:CN) (u v:List Int),a.bulk<n→wfC a=true→wfC b=true→EndsI u→EndsI v→textC a++u=textC b++v→a=b∧u=v
 | 0,_,_,_,_,h,_,_,_,_,_=>by omega
 | n+1,a,b,u,v,hn,ha,hb,hu,hv,h=>by
  rw [wfC_eq,Bool.and_eq_true] at ha hb;obtain ⟨sa,ka⟩:=ha;obtain ⟨sb,kb⟩:=hb;rw [text_split a,text_split b,List.append_assoc,List.append_assoc] at h;obtain ⟨h1,h2⟩:=split_word (head_chars sa) (head_chars sb) (rest_ends a u hu) (rest_ends b v hv) h;have hk:=head_kind sa sb h1;obtain ⟨a1,a2,a3,a4,a5,a6⟩:=shape_moreI sa;obtain ⟨b1,b2,b3,b4,b5,b6⟩:=shape_moreI sb;have G:a.kids.length=b.kids.length:=by rw [← hk] at b6;omega
  by_cases h2k:a.kind=2
  · have q:b.kind=2:=by rw [← hk];exact h2k
    have z:a.kids.length=0:=by rw [h2k] at a6;simp [kidN] at a6;rw [a6];rfl
    have e1:a.name=b.name:=by unfold headW at h1;rw [if_pos h2k,if_pos q] at h1;exact h1
    have e2:a.role=b.role:=by rw [a5 (by rw [h2k];rfl),b5 (by rw [q];rfl)]
    have zb:b.kids.length=0:=by omega
    have e3:a.kids=b.kids:=by rw [List.eq_nil_of_length_eq_zero z,List.eq_nil_of_length_eq_zero zb]
    unfold restW at h2;rw [if_pos h2k,if_pos q] at h2;exact ⟨CN.ext4 hk e1 e2 e3,by simpa using h2⟩
  have q:b.kind≠2:=by rw [← hk];exact h2k
  have e1:a.name=b.name:=by rw [a3 h2k,b3 q]
  unfold restW at h2;rw [if_neg h2k,if_neg q] at h2;by_cases z:a.kids.length=0
  · have zb:b.kids.length=0:=by omega
    rw [if_pos z,if_pos zb] at h2
    have e2:a.role=b.role:=by
     have hr:roleB a.kind=false:=by
      cases hr:roleB a.kind
      · rfl
      unfold roleB at hr;simp only [Bool.or_eq_true,decide_eq_true_eq] at hr;rcases hr with e | e <;> (rw [e] at a6;simp [kidN] at a6;omega)
     rw [a5 hr,b5 (by rw [← hk];exact hr)]
    have e3:a.kids=b.kids:=by rw [List.eq_nil_of_length_eq_zero z,List.eq_nil_of_length_eq_zero zb]
    exact ⟨CN.ext4 hk e1 e2 e3,by simpa using h2⟩
  have zb:¬ b.kids.length=0:=by omega
  rw [if_neg z,if_neg zb,List.cons_append,List.cons_append,List.cons.injEq] at h2;have h3:=h2.2
  have D:a.role=b.role∧textJ 0 a.kids++(41 :: u)=textJ 0 b.kids++(41 :: v):=by
   cases hr:roleB a.kind
   · have ea:=a5 hr;have eb:=b5 (by rw [← hk];exact hr);rw [ea,eb] at h3;refine ⟨by rw [ea,eb],?_⟩;simpa [roleT] using h3
   have la:=a4 hr;have lb:=b4 (by rw [← hk];exact hr);have na:a.role≠[]:=fun e=>by have:=(longB_of_low la).1;rw [e] at this;simp at this
   have nb:b.role≠[]:=fun e=>by have:=(longB_of_low lb).1;rw [e] at this;simp at this
   have h4:a.role++(32 :: (textJ 0 a.kids++(41 :: u)))=b.role++(32 :: (textJ 0 b.kids++(41 :: v))):=by
    unfold roleT at h3;rw [if_neg na,if_neg nb] at h3;simpa using h3
   obtain ⟨e1,e2⟩:=split_word (chars_low la) (chars_low lb) (ends_32 _) (ends_32 _) h4;rw [List.cons.injEq] at e2;exact ⟨e1,e2.2⟩
  obtain ⟨e2,h5⟩:=D;have o:=a.bulk_eq
  have F:a.kids.length=1∨a.kids.length=2:=by
   have A:a.kind=0∨a.kind=1∨a.kind=3∨a.kind=4∨a.kind=5∨a.kind=6∨a.kind=7:=by omega
   rcases A with e | e | e | e | e | e | e
   · rw [e,show kidN 0=0 from rfl] at a6;omega
   · rw [e,show kidN 1=0 from rfl] at a6;omega
   · rw [e,show kidN 3=1 from rfl] at a6;omega
   · rw [e,show kidN 4=2 from rfl] at a6;omega
   · rw [e,show kidN 5=2 from rfl] at a6;omega
   · rw [e,show kidN 6=1 from rfl] at a6;omega
   rw [e,show kidN 7=1 from rfl] at a6;omega
  rcases F with l1 | l2
  · obtain ⟨x,hx⟩:∃ x,a.kids=[x]:=by
     match hq:a.kids,l1 with
     | [x],_=>exact ⟨x,rfl⟩
    obtain ⟨y,hy⟩:∃ y,b.kids=[y]:=by
     have:b.kids.length=1:=by omega
     match hq:b.kids,this with
     | [y],_=>exact ⟨y,rfl⟩
    rw [hx,hy] at h5;rw [hx] at ka o;rw [hy] at kb;simp only [wfL,Bool.and_true] at ka kb;simp only [bulks] at o;simp only [textJ,gapT_zero,List.nil_append,List.append_nil] at h5;obtain ⟨e3,e4⟩:=text_inj n x y (41 :: u) (41 :: v) (by omega) ka kb (ends_41 _) (ends_41 _) h5;rw [List.cons.injEq] at e4;exact ⟨CN.ext4 hk e1 e2 (by rw [hx,hy,e3]),e4.2⟩
  obtain ⟨x,x',hx⟩:∃ x x',a.kids=[x,x']:=by
   match hq:a.kids,l2 with
   | [x,x'],_=>exact ⟨x,x',rfl⟩
  obtain ⟨y,y',hy⟩:∃ y y',b.kids=[y,y']:=by
   have:b.kids.length=2:=by omega
   match hq:b.kids,this with
   | [y,y'],_=>exact ⟨y,y',rfl⟩
  rw [hx,hy] at h5;rw [hx] at ka o;rw [hy] at kb;simp only [wfL,Bool.and_true,Bool.and_eq_true] at ka kb;simp only [bulks] at o;simp only [textJ,gapT_zero,gapT_pos (show 0<0+1 by omega),List.nil_append,List.append_nil,List.append_assoc,List.cons_append] at h5;obtain ⟨e3,e4⟩:=text_inj n x y _ _ (by omega) ka.1 kb.1 (ends_32 _) (ends_32 _) h5;rw [List.cons.injEq] at e4;obtain ⟨e5,e6⟩:=text_inj n x' y' (41 :: u) (41 :: v) (by omega) ka.2 kb.2 (ends_41 _) (ends_41 _) e4.2;rw [List.cons.injEq] at e6;exact ⟨CN.ext4 hk e1 e2 (by rw [hx,hy,e3,e5]),e6.2⟩
theorem textC_inj {a b:CN} (ha:wfC a=true) (hb:wfC b=true) (h:textC a=textC b):a=b :=
 (text_inj (a.bulk+1) a b [] [] (by omega) ha hb ends_nil ends_nil (by rw [h])).1
end Go.Proofs.YtellcgmabimieaaGreatDoor
