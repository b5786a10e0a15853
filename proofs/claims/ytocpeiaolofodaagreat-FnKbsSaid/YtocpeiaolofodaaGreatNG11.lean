/- Several texts in one: KbVocM, ImplTok3. -/
import Derived.Test.YtocpeiaolofodaaGreatNG2
import Derived.Test.YtocpeiaolofodaaGreatNG7
import Derived.Test.YtocpeiaolofodaaGreatNG6
import Derived.Test.YtocpeiaolofodaaGreatNG10
import Derived.Test.YtocpeiaolofodaaGreatNG9
import Derived.WalkMore
namespace Go.Proofs.YtocpeiaolofodaaGreat

section
section
open Go.RowKit
def Byt (zs:List Int):Prop:=∀ i,0≤zs.getD i 0∧zs.getD i 0≤255
def ltW (xs ys:List Int):Bool:=Op.bytesLess (strOfNums xs).toList (strOfNums ys).toList
theorem lessW_trans:∀ a b c:List UInt8,Op.bytesLess a b=true→Op.bytesLess b c=true→Op.bytesLess a c=true
 | _,_,[],_,h=>by simp [Op.bytesLess] at h
 | [],_,c :: cs,_,_=>by simp [Op.bytesLess]
 | a :: xs,[],_ :: _,h,_=>by simp [Op.bytesLess] at h
 | a :: xs,b :: bs,c :: cs,h1,h2=>by
  have ih:=lessW_trans xs bs cs;simp only [Op.bytesLess,Bool.or_eq_true,decide_eq_true_eq,Bool.and_eq_true,beq_iff_eq] at h1 h2 ⊢;rcases h1 with h1 | ⟨rfl,h1⟩
  · rcases h2 with h2 | ⟨rfl,h2⟩
    · exact .inl (UInt8.lt_trans h1 h2)
    exact .inl h1
  rcases h2 with h2 | ⟨rfl,h2⟩
  · exact .inl h2
  exact .inr ⟨rfl,ih h1 h2⟩
theorem ltW_trans {a b c:List Int} (h:ltW a b=true) (k:ltW b c=true):ltW a c=true:=lessW_trans _ _ _ h k
theorem ltW_self (a:List Int):ltW a a=false:=less_self _
theorem ltW_asymm {a b:List Int} (h:ltW a b=true):ltW b a=false:=by
 cases e:ltW b a
 · rfl
 have:=ltW_trans h e;rw [ltW_self] at this;cases this
theorem ltW_tri {a b:List Int} (ha:Byt a) (hb:Byt b) (h:ltW a b=false) (k:ltW b a=false):a=b:=by
 cases e:((strOfNums a).toList == (strOfNums b).toList)
 · have:=less_tri _ _ h e;unfold ltW at k;rw [this] at k;cases k
 rw [str_inj ha hb] at e;exact of_decide_eq_true e
theorem cmpZ_eq (xs ys:List Int):cmpZ xs ys=if ltW xs ys=true then -1 else if ltW ys xs=true then 1 else 0:=(less_cmp _ _).symm
def insS (wd:List Int) (s:List (List Int) × Bool) (x:List Int):List (List Int) × Bool :=
 (if cmpZ wd x=0 then (if s.2=false∧cmpZ wd x≤0 then s.1++[wd] else s.1) else (if s.2=false∧cmpZ wd x≤0 then s.1++[wd] else s.1)++[x],s.2 || decide (cmpZ wd x≤0))
def insF (l:List (List Int)) (wd:List Int):List (List Int) × Bool:=l.foldl (insS wd) ([],false)
def insW (l:List (List Int)) (wd:List Int):List (List Int):=if (insF l wd).2=true then (insF l wd).1 else (insF l wd).1++[wd]
theorem insF_snoc (l:List (List Int)) (x wd:List Int):insF (l++[x]) wd=insS wd (insF l wd) x:=by unfold insF;rw [List.foldl_append];rfl
theorem insF_take (l:List (List Int)) (wd:List Int) (k:Nat) (h:k<l.length):insF (l.take (k+1)) wd=insS wd (insF (l.take k) wd) (l.getD k []):=by
 rw [take_succ_getD l [] k h,insF_snoc]
def Srt (l:List (List Int)):Prop:=l.Pairwise (fun a b=>ltW a b=true)
def Byts (l:List (List Int)):Prop:=∀ z∈l,Byt z
def low (l:List (List Int)) (wd:List Int):List (List Int):=l.filter (fun x=>ltW x wd)
def upp (l:List (List Int)) (wd:List Int):List (List Int):=l.filter (fun x=>ltW wd x)
def flg (l:List (List Int)) (wd:List Int):Bool:=l.any (fun x=>!ltW x wd)
theorem flg_false {l:List (List Int)} {wd:List Int} (h:flg l wd=false):∀ x∈l,ltW x wd=true:=by
 intro x hx;unfold flg at h;rw [List.any_eq_false] at h;simpa using h x hx
theorem low_all {l:List (List Int)} {wd:List Int} (h:∀ x∈l,ltW x wd=true):low l wd=l:=List.filter_eq_self.2 h
theorem upp_none {l:List (List Int)} {wd:List Int} (h:∀ x∈l,ltW x wd=true):upp l wd=[]:=by
 unfold upp;rw [List.filter_eq_nil_iff];intro x hx;rw [ltW_asymm (h x hx)];simp
theorem snoc_ind {P:List (List Int)→Prop} (h0:P []) (hs:∀ l x,P l→P (l++[x])):∀ l,P l:=by
 intro l
 have:∀ l:List (List Int),P l.reverse:=by
  intro l
  induction l with
  | nil=>exact h0
  | cons x l ih=>rw [List.reverse_cons];exact hs _ _ ih
 have h:=this l.reverse
 rwa [List.reverse_reverse] at h
theorem insF_srt (wd:List Int) (hw:Byt wd):∀ l,Srt l→Byts l→insF l wd=(if flg l wd=true then low l wd++wd :: upp l wd else l,flg l wd):=by
 refine snoc_ind (P:=fun l=>Srt l→Byts l→insF l wd=(if flg l wd=true then low l wd++wd :: upp l wd else l,flg l wd)) ?_ ?_
 · intro _ _;rfl
 intro l x ih hs hb;have E:=hs;unfold Srt at E;rw [List.pairwise_append] at E;obtain ⟨hl,_,hx⟩:=E;have I:Byts l:=fun z hz=>hb z (List.mem_append_left _ hz)
 have V:Byt x:=hb x (List.mem_append_right _ (List.mem_singleton.2 rfl));rw [insF_snoc,ih hl I];have eL:low (l++[x]) wd=low l wd++(if ltW x wd=true then [x] else []):=by unfold low;rw [List.filter_append];cases h:ltW x wd <;> simp [h]
 have eU:upp (l++[x]) wd=upp l wd++(if ltW wd x=true then [x] else []):=by unfold upp;rw [List.filter_append];cases h:ltW wd x <;> simp [h]
 have eF:flg (l++[x]) wd=(flg l wd || !ltW x wd):=by unfold flg;rw [List.any_append];simp
 rw [eL,eU,eF];cases hf:flg l wd
 · have j:=flg_false hf;rw [low_all j,upp_none j];unfold insS;rw [cmpZ_eq];cases h1:ltW wd x
   · cases h2:ltW x wd
     · simp
     simp
   rw [ltW_asymm h1];simp
 have H:ltW wd x=true:=by
  unfold flg at hf;rw [List.any_eq_true] at hf;obtain ⟨y,hy,T⟩:=hf;have h1:=hx y hy x (List.mem_singleton.2 rfl);cases h2:ltW wd y
  · have:=ltW_tri (I y hy) hw (by simpa using T) h2;subst this;exact h1
  exact ltW_trans h2 h1
 unfold insS;rw [cmpZ_eq,H,ltW_asymm H];simp
theorem insW_srt {l:List (List Int)} {wd:List Int} (hw:Byt wd) (hs:Srt l) (hb:Byts l):insW l wd=low l wd++wd :: upp l wd:=by
 unfold insW;rw [insF_srt wd hw l hs hb];cases hf:flg l wd
 · have j:=flg_false hf;rw [low_all j,upp_none j];simp
 simp
theorem insW_Srt {l:List (List Int)} {wd:List Int} (hw:Byt wd) (hs:Srt l) (hb:Byts l):Srt (insW l wd):=by
 rw [insW_srt hw hs hb];unfold Srt low upp at *;rw [List.pairwise_append,List.pairwise_cons];refine ⟨hs.filter _,⟨fun a ha=>by simpa using (List.mem_filter.1 ha).2,hs.filter _⟩,fun a ha b hb=>?_⟩;have h1:ltW a wd=true:=by simpa using (List.mem_filter.1 ha).2
 rcases List.mem_cons.1 hb with rfl | hb
 · exact h1
 exact ltW_trans h1 (by simpa using (List.mem_filter.1 hb).2)
theorem insW_mem {l:List (List Int)} {wd x:List Int} (hw:Byt wd) (hs:Srt l) (hb:Byts l):x∈insW l wd ↔ x=wd∨x∈l:=by
 rw [insW_srt hw hs hb];unfold low upp;simp only [List.mem_append,List.mem_filter,List.mem_cons];constructor
 · rintro (⟨h,_⟩ | h | ⟨h,_⟩)
   · exact .inr h
   · exact .inl h
   exact .inr h
 rintro (h | h)
 · exact .inr (.inl h)
 cases h1:ltW x wd
 · cases h2:ltW wd x
   · exact .inr (.inl (ltW_tri (hb x h) hw h1 h2))
   exact .inr (.inr ⟨h,rfl⟩)
 exact .inl ⟨h,rfl⟩
theorem insW_Byts {l:List (List Int)} {wd:List Int} (hw:Byt wd) (hs:Srt l) (hb:Byts l):Byts (insW l wd):=by
 intro z hz;rcases (insW_mem hw hs hb).1 hz with rfl | h
 · exact hw
 exact hb z h
theorem srt_ext:∀ {l m:List (List Int)},Srt l→Srt m→(∀ x,x∈l ↔ x∈m)→l=m
 | [],[],_,_,_=>rfl
 | [],y :: m,_,_,h=>absurd ((h y).2 (by simp)) (by simp)
 | x :: l,[],_,_,h=>absurd ((h x).1 (by simp)) (by simp)
 | x :: l,y :: m,hl,hm,h=>by
  have G:=List.pairwise_cons.1 hl;have F:=List.pairwise_cons.1 hm
  have e:x=y:=by
   rcases List.mem_cons.1 ((h x).1 (by simp)) with e | hx
   · exact e
   rcases List.mem_cons.1 ((h y).2 (by simp)) with e | hy
   · exact e.symm
   have:=ltW_trans (G.1 y hy) (F.1 x hx);rw [ltW_self] at this;cases this
  subst e
  congr 1
  refine srt_ext G.2 F.2 (fun z=>?_);constructor
  · intro hz;rcases List.mem_cons.1 ((h z).1 (by simp [hz])) with rfl | D
    · have:=G.1 z hz;rw [ltW_self] at this;cases this
    exact D
  intro hz;rcases List.mem_cons.1 ((h z).2 (by simp [hz])) with rfl | D
  · have:=F.1 z hz;rw [ltW_self] at this;cases this
  exact D
theorem insW_old {l:List (List Int)} {wd:List Int} (hw:Byt wd) (hs:Srt l) (hb:Byts l) (h:wd∈l):insW l wd=l :=
 srt_ext (insW_Srt hw hs hb) hs (fun x=>by rw [insW_mem hw hs hb];exact ⟨fun h'=>h'.elim (fun e=>e ▸ h) id,.inr⟩)
theorem insW_new {l:List (List Int)} {wd:List Int} (hw:Byt wd) (hs:Srt l) (hb:Byts l) (h:wd ∉ l):(insW l wd).length=l.length+1:=by
 rw [insW_srt hw hs hb,List.length_append,List.length_cons]
 have:∀ m:List (List Int),(∀ x∈m,x∈l)→(low m wd).length+(upp m wd).length=m.length:=by
  intro m
  induction m with
  | nil=>intro _;rfl
  | cons y m ih =>
   intro hm;have ih:=ih (fun x hx=>hm x (by simp [hx]));unfold low upp at ih ⊢;cases h1:ltW y wd
   · cases h2:ltW wd y
     · exact absurd (ltW_tri (hb y (hm y (by simp))) hw h1 h2 ▸ hm y (by simp)) h
     simp only [List.filter_cons,h1,h2,List.length_cons,if_true,Bool.false_eq_true,if_false];omega
   have h2:=ltW_asymm h1;simp only [List.filter_cons,h1,h2,List.length_cons,if_true,Bool.false_eq_true,if_false];omega
 have:=this l (fun _ h=>h);omega
theorem insW_len {l:List (List Int)} {wd:List Int} (hw:Byt wd) (hs:Srt l) (hb:Byts l):l.length≤(insW l wd).length∧(insW l wd).length≤l.length+1:=by
 by_cases h:wd∈l
 · rw [insW_old hw hs hb h];omega
 rw [insW_new hw hs hb h];omega
def addW (l:List (List Int)) (wd:List Int):List (List Int):=if wd.length=0 then l else insW l wd
theorem addW_Srt {l:List (List Int)} {wd:List Int} (hw:Byt wd) (hs:Srt l) (hb:Byts l):Srt (addW l wd):=by unfold addW;split;exact hs;exact insW_Srt hw hs hb
theorem addW_Byts {l:List (List Int)} {wd:List Int} (hw:Byt wd) (hs:Srt l) (hb:Byts l):Byts (addW l wd):=by unfold addW;split;exact hb;exact insW_Byts hw hs hb
theorem addW_len {l:List (List Int)} {wd:List Int} (hw:Byt wd) (hs:Srt l) (hb:Byts l):(addW l wd).length≤l.length+1:=by unfold addW;split;omega;exact (insW_len hw hs hb).2
theorem Srt.nil:Srt []:=List.Pairwise.nil
theorem Byts.nil:Byts []:=fun _ h=>absurd h (by simp)
end
section
open Go.RowKit
mutual
def namesC:CN→List (List Int)→List (List Int)
 | .mk k n _ ks,l=>namesL ks (if k=2 then insW l n else l)
def namesL:List CN→List (List Int)→List (List Int)
 | [],l=>l
 | c :: cs,l=>namesL cs (namesC c l)
end
mutual
def rolesC:CN→List (List Int)→List (List Int)
 | .mk _ _ r ks,l=>rolesL ks (addW l r)
def rolesL:List CN→List (List Int)→List (List Int)
 | [],l=>l
 | c :: cs,l=>rolesL cs (rolesC c l)
end
theorem namesC_eq (c:CN) (l:List (List Int)):namesC c l=namesL c.kids (if c.kind=2 then insW l c.name else l):=by cases c;rw [namesC];rfl
theorem rolesC_eq (c:CN) (l:List (List Int)):rolesC c l=rolesL c.kids (addW l c.role):=by cases c;rw [rolesC];rfl
theorem namesL_append (xs ys:List CN):∀ l,namesL (xs++ys) l=namesL ys (namesL xs l):=by
 induction xs with
 | nil=>intro l;simp [namesL]
 | cons x xs ih=>intro l;simp only [List.cons_append,namesL,ih]
theorem rolesL_append (xs ys:List CN):∀ l,rolesL (xs++ys) l=rolesL ys (rolesL xs l):=by
 induction xs with
 | nil=>intro l;simp [rolesL]
 | cons x xs ih=>intro l;simp only [List.cons_append,rolesL,ih]
theorem namesL_take (cs:List CN) (k:Nat) (l:List (List Int)) (h:k<cs.length):namesL (cs.take (k+1)) l=namesC (cs.getD k CN.zero) (namesL (cs.take k) l):=by
 rw [take_succ_getD cs CN.zero k h,namesL_append];simp only [namesL]
theorem rolesL_take (cs:List CN) (k:Nat) (l:List (List Int)) (h:k<cs.length):rolesL (cs.take (k+1)) l=rolesC (cs.getD k CN.zero) (rolesL (cs.take k) l):=by
 rw [take_succ_getD cs CN.zero k h,rolesL_append];simp only [rolesL]
def nmP (l:List (List Int)) (p:Nat × CN):List (List Int):=if p.2.kind=2 then insW l p.2.name else l
def naP (l:List (List Int)) (p:Nat × CN):List (List Int):=addW l p.2.name
def rlP (l:List (List Int)) (p:Nat × CN):List (List Int):=addW l p.2.role
mutual
theorem namesC_parts:∀ (c:CN) (deep:Nat) (l:List (List Int)),namesC c l=(parts c deep).foldl nmP l
 | .mk k n r ks,deep,l=>by rw [namesC,parts,List.foldl_cons,namesL_parts ks (deep+1)];rfl
theorem namesL_parts:∀ (cs:List CN) (deep:Nat) (l:List (List Int)),namesL cs l=(partsL cs deep).foldl nmP l
 | [],_,l=>by rw [namesL,partsL];rfl
 | c :: cs,deep,l=>by rw [namesL,partsL,List.foldl_append,← namesC_parts c deep l,namesL_parts cs deep]
end
mutual
theorem rolesC_parts:∀ (c:CN) (deep:Nat) (l:List (List Int)),rolesC c l=(parts c deep).foldl rlP l
 | .mk k n r ks,deep,l=>by rw [rolesC,parts,List.foldl_cons,rolesL_parts ks (deep+1)];rfl
theorem rolesL_parts:∀ (cs:List CN) (deep:Nat) (l:List (List Int)),rolesL cs l=(partsL cs deep).foldl rlP l
 | [],_,l=>by rw [rolesL,partsL];rfl
 | c :: cs,deep,l=>by rw [rolesL,partsL,List.foldl_append,← rolesC_parts c deep l,rolesL_parts cs deep]
end
theorem foldl_same {α β:Type} (f g:β→α→β):∀ (xs:List α) (l:β),(∀ x∈xs,∀ l,f l x=g l x)→xs.foldl f l=xs.foldl g l
 | [],_,_=>rfl
 | x :: xs,l,h=>by rw [List.foldl_cons,List.foldl_cons,h x (by simp) l];exact foldl_same f g xs _ (fun y hy=>h y (by simp [hy]))
theorem len_of_upper {zs:List Int} (h:upOk zs=true):zs.length≠0:=by
 intro e;have:=List.eq_nil_of_length_eq_zero e;subst this;revert h;decide
theorem nmP_ok {p:Nat × CN} (h:shapeB p.2=true) (l:List (List Int)):nmP l p=naP l p:=by
 unfold shapeB at h;simp only [Bool.and_eq_true] at h;have h1:=h.1;unfold nameFit at h1;unfold nmP naP addW;by_cases hk:p.2.kind=2
 · rw [if_pos hk] at h1 ⊢;simp only [Bool.and_eq_true] at h1;rw [if_neg (len_of_upper h1.1)]
 rw [if_neg hk] at h1 ⊢;rw [if_pos (of_decide_eq_true h1)]
theorem namesC_ok {c:CN} (h:conOk c=true) (l:List (List Int)):namesC c l=(parts c 1).foldl naP l:=by
 rw [namesC_parts c 1];refine foldl_same _ _ _ _ (fun p hp l=>nmP_ok ?_ l);unfold conOk at h;rw [Bool.and_eq_true,List.all_eq_true] at h;have:=h.2 p hp;unfold okOne at this;rw [Bool.and_eq_true] at this;exact this.2
structure GoodV (l:List (List Int)):Prop where
 srt:Srt l
 byt:Byts l
theorem GoodV.nil:GoodV []:=⟨Srt.nil,Byts.nil⟩
theorem GoodV.ins {l:List (List Int)} (h:GoodV l) {wd:List Int} (hw:Byt wd):GoodV (insW l wd):=⟨insW_Srt hw h.srt h.byt,insW_Byts hw h.srt h.byt⟩
theorem GoodV.add {l:List (List Int)} (h:GoodV l) {wd:List Int} (hw:Byt wd):GoodV (addW l wd):=⟨addW_Srt hw h.srt h.byt,addW_Byts hw h.srt h.byt⟩
def BytP (ps:List (Nat × CN)):Prop:=∀ p∈ps,Byt p.2.name∧Byt p.2.role
theorem GoodV.na {ps:List (Nat × CN)}:∀ {l:List (List Int)},GoodV l→BytP ps→GoodV (ps.foldl naP l)∧(ps.foldl naP l).length≤l.length+ps.length:=by
 induction ps with
 | nil=>intro l h _;exact ⟨h,Nat.le_refl _⟩
 | cons p ps ih =>
  intro l h hb;have h1:=hb p (by simp);obtain ⟨h2,h3⟩:=ih (l:=naP l p) (h.add h1.1) (fun q hq=>hb q (by simp [hq]));have h4:(naP l p).length≤l.length+1:=addW_len h1.1 h.srt h.byt;refine ⟨h2,?_⟩;rw [List.foldl_cons,List.length_cons];omega
theorem GoodV.rl {ps:List (Nat × CN)}:∀ {l:List (List Int)},GoodV l→BytP ps→GoodV (ps.foldl rlP l)∧(ps.foldl rlP l).length≤l.length+ps.length:=by
 induction ps with
 | nil=>intro l h _;exact ⟨h,Nat.le_refl _⟩
 | cons p ps ih =>
  intro l h hb;have h1:=hb p (by simp);obtain ⟨h2,h3⟩:=ih (l:=rlP l p) (h.add h1.2) (fun q hq=>hb q (by simp [hq]));have h4:(rlP l p).length≤l.length+1:=addW_len h1.2 h.srt h.byt;refine ⟨h2,?_⟩;rw [List.foldl_cons,List.length_cons];omega
theorem GoodV.nm {ps:List (Nat × CN)}:∀ {l:List (List Int)},GoodV l→BytP ps→GoodV (ps.foldl nmP l)∧(ps.foldl nmP l).length≤l.length+ps.length:=by
 induction ps with
 | nil=>intro l h _;exact ⟨h,Nat.le_refl _⟩
 | cons p ps ih =>
  intro l h hb;have h1:=hb p (by simp);have hg:GoodV (nmP l p):=by unfold nmP;split;exact h.ins h1.1;exact h
  obtain ⟨h2,h3⟩:=ih (l:=nmP l p) hg (fun q hq=>hb q (by simp [hq]));have h4:(nmP l p).length≤l.length+1:=by unfold nmP;split;exact (insW_len h1.1 h.srt h.byt).2;omega
  refine ⟨h2,?_⟩;rw [List.foldl_cons,List.length_cons];omega
theorem partsL_mem {cs:List CN} {deep:Nat} {p:Nat × CN} (h:p∈partsL cs deep):∃ i,i<cs.length∧p∈parts (cs.getD i CN.zero) deep:=by
 induction cs with
 | nil=>rw [partsL] at h;simp at h
 | cons c cs ih =>
  rw [partsL] at h;rcases List.mem_append.1 h with h | h
  · exact ⟨0,by simp,by simpa using h⟩
  obtain ⟨i,hi,hp⟩:=ih h;exact ⟨i+1,by simp;omega,by simpa using hp⟩
theorem RdC.byts {lo hi:Nat} {w:World}:∀ {d:Nat} {v:Value} {c:CN},RdC lo hi w d v c→∀ deep,BytP (parts c deep):=by
 intro d
 induction d with
 | zero=>intro v c h;exact h.elim
 | succ d ih =>
  intro v c h deep p hp;obtain ⟨na,nn,nc,ra,rn,rc,ka,kn,kc,hv,h1,h2,h3⟩:=h;rw [parts_eq] at hp;rcases List.mem_cons.1 hp with rfl | hp
  · exact ⟨h1.byte,h2.byte⟩
  obtain ⟨i,hi,U⟩:=partsL_mem hp;rcases h3.cells with h0 | ⟨b,off,e,_,_,hc⟩
  · have:=h3.len;omega
  obtain ⟨v0,v1,v2,v3,_,_,_,_,hr⟩:=hc i (by have:=h3.len;omega);exact ih hr (deep+1) p U
def AX.zero:AX:=⟨0,CN.zero,CN.zero,[],[],[],[]⟩
def stN (l:List (List Int)) (x:AX):List (List Int):=namesC x.d (namesC x.c l)
def stR (l:List (List Int)) (x:AX):List (List Int):=addW (addW (rolesC x.d (rolesC x.c l)) x.r) x.s
def stI (l:List (List Int)) (x:AX):List (List Int):=addW (addW l x.a) x.b
def kbN (xs:List AX):List (List Int):=xs.foldl stN []
def kbR (xs:List AX):List (List Int):=xs.foldl stR []
def kbI (xs:List AX):List (List Int):=xs.foldl stI []
theorem foldl_take {α β:Type} (f:β→α→β) (b:β) (xs:List α) (d:α) (k:Nat) (h:k<xs.length):(xs.take (k+1)).foldl f b=f ((xs.take k).foldl f b) (xs.getD k d):=by
 rw [take_succ_getD xs d k h,List.foldl_append];rfl
theorem kbN_take (xs:List AX) (k:Nat) (h:k<xs.length):kbN (xs.take (k+1))=stN (kbN (xs.take k)) (xs.getD k AX.zero):=foldl_take _ _ _ _ _ h
theorem kbR_take (xs:List AX) (k:Nat) (h:k<xs.length):kbR (xs.take (k+1))=stR (kbR (xs.take k)) (xs.getD k AX.zero):=foldl_take _ _ _ _ _ h
theorem kbI_take (xs:List AX) (k:Nat) (h:k<xs.length):kbI (xs.take (k+1))=stI (kbI (xs.take k)) (xs.getD k AX.zero):=foldl_take _ _ _ _ _ h
def kbB (xs:List AX):Bool:=decide (xs.length≤8) && (xs.all axOk && (decide ((kbN xs).length≤5) && (decide ((kbR xs).length≤3) && decide ((kbI xs).length≤3))))
def Ax13 (lo hi:Nat) (w:World) (dp b o:Nat) (x:AX):Prop:=∃ (c0 c1 c2 c3 d0 d1 d2 d3:Value) (ra:Option Addr) (rn rc:Nat) (sa:Option Addr) (sn sc:Nat) (aa:Option Addr) (an ac:Nat) (ba:Option Addr) (bn bc:Nat),
 w.cell? ⟨b,o,none⟩=some (.int .i64 x.kind)∧w.cell? ⟨b,o+1,none⟩=some c0∧w.cell? ⟨b,o+2,none⟩=some c1∧w.cell? ⟨b,o+3,none⟩=some c2∧w.cell? ⟨b,o+4,none⟩=some c3 ∧
 w.cell? ⟨b,o+5,none⟩=some d0∧w.cell? ⟨b,o+6,none⟩=some d1∧w.cell? ⟨b,o+7,none⟩=some d2∧w.cell? ⟨b,o+8,none⟩=some d3 ∧
 w.cell? ⟨b,o+9,none⟩=some (.slice ra rn rc)∧w.cell? ⟨b,o+10,none⟩=some (.slice sa sn sc)∧w.cell? ⟨b,o+11,none⟩=some (.slice aa an ac)∧w.cell? ⟨b,o+12,none⟩=some (.slice ba bn bc) ∧
 RdA lo hi w dp c0 c1 c2 c3 d0 d1 d2 d3 ra rn rc sa sn sc aa an ac ba bn bc x
structure RdK (lo hi:Nat) (w:World) (dp:Nat) (a:Option Addr) (n A:Nat) (xs:List AX):Prop where
 len:xs.length=n
 fits:n≤A∧A≤9223372036854775807
 cells:n=0∨∃ b off,a=some ⟨b,off,none⟩∧lo≤b∧b<hi∧∀ i,i<n→Ax13 lo hi w dp b (off+i*13) (xs.getD i AX.zero)
theorem RdA.same {lo hi:Nat} {w w':World} {dp:Nat} {c0 c1 c2 c3 d0 d1 d2 d3:Value} {ra:Option Addr} {rn rc:Nat} {sa:Option Addr} {sn sc:Nat} {aa:Option Addr} {an ac:Nat} {ba:Option Addr} {bn bc:Nat} {x:AX}
    (h:RdA lo hi w dp c0 c1 c2 c3 d0 d1 d2 d3 ra rn rc sa sn sc aa an ac ba bn bc x) (hs:Same lo hi w w'):RdA lo hi w' dp c0 c1 c2 c3 d0 d1 d2 d3 ra rn rc sa sn sc aa an ac ba bn bc x :=
 ⟨h.c.same hs,h.d.same hs,h.r.same hs,h.s.same hs,h.a.same hs,h.b.same hs⟩
theorem Ax13.same {lo hi:Nat} {w w':World} {dp b o:Nat} {x:AX} (h:Ax13 lo hi w dp b o x) (hs:Same lo hi w w') (h1:lo≤b) (h2:b<hi):Ax13 lo hi w' dp b o x:=by
 obtain ⟨c0,c1,c2,c3,d0,d1,d2,d3,ra,rn,rc,sa,sn,sc,aa,an,ac,ba,bn,bc,q0,q1,q2,q3,q4,q5,q6,q7,q8,q9,O,N,J,hr⟩:=h;have t:∀ (k:Nat) (v:Value),w.cell? ⟨b,k,none⟩=some v→w'.cell? ⟨b,k,none⟩=some v:=fun k v q=>(hs.cell (p:=⟨b,k,none⟩) h1 h2).trans q
 exact ⟨c0,c1,c2,c3,d0,d1,d2,d3,ra,rn,rc,sa,sn,sc,aa,an,ac,ba,bn,bc,t _ _ q0,t _ _ q1,t _ _ q2,t _ _ q3,t _ _ q4,t _ _ q5,t _ _ q6,t _ _ q7,t _ _ q8,t _ _ q9,t _ _ O,t _ _ N,t _ _ J,hr.same hs⟩
theorem RdK.same {lo hi dp:Nat} {w w':World} {a:Option Addr} {n A:Nat} {xs:List AX} (h:RdK lo hi w dp a n A xs) (hs:Same lo hi w w'):RdK lo hi w' dp a n A xs:=by
 obtain ⟨hl,hm,hc⟩:=h;refine ⟨hl,hm,?_⟩;rcases hc with h0 | ⟨b,off,e,q1,q2,hc⟩
 · exact .inl h0
 exact .inr ⟨b,off,e,q1,q2,fun i hi=>(hc i hi).same hs q1 q2⟩
theorem RdK.below {lo hi dp B:Nat} {w w':World} {a:Option Addr} {n A:Nat} {xs:List AX} (h:RdK lo hi w dp a n A xs) (hb:Below B w w') (hB:hi≤B):RdK lo hi w' dp a n A xs:=h.same (Same.of_below hb hB)
def AX.bulk (x:AX):Nat:=x.c.bulk+x.d.bulk+x.r.length+x.s.length+x.a.length+x.b.length
end
end

section
open Go.RowKit Go.Shelf
attribute [local go_sem] Oper.semAt_some
def goToks (zs:List Int):List (PosOf zs)→List Tok→List Tok × Int
 | [],A=>(A,-1)
 | x :: xs,A=>if kindOf (piece zs x.1)=0 then ([],(x.1:Int)) else goToks zs xs (A++[tokAt zs x.1])
theorem goToks_pos (zs:List Int):∀ (f i:Nat) (A:List Tok),goToks zs (posFrom zs f i) A=toksFrom zs f i A
 | 0,_,_=>rfl
 | f+1,i,A=>by
  by_cases h:i<zs.length
  · cases hb:blankB (zs.getD i 0)
    · rw [posFrom_piece zs f i h hb];by_cases hk:kindOf (piece zs i)=0
      · rw [toksFrom_bad zs f i A h hb hk];simp only [goToks];rw [if_pos hk]
      rw [toksFrom_tok zs f i A h hb hk];simp only [goToks];rw [if_neg hk];exact goToks_pos zs f _ _
    rw [posFrom_blank zs f i h hb,toksFrom_blank zs f i A h hb];exact goToks_pos zs f _ _
  rw [posFrom_stop zs _ i (by omega),toksFrom_stop zs _ i A (by omega)];rfl
def Good (zs:List Int) (xs:List (PosOf zs)):Prop:=∀ x∈xs,kindOf (piece zs x.1)≠0
theorem goToks_good (zs:List Int):∀ (xs:List (PosOf zs)) (A:List Tok),Good zs xs→goToks zs xs A=(A++xs.map (fun x=>tokAt zs x.1),-1)
 | [],A,_=>by simp [goToks]
 | x :: xs,A,h=>by
  rw [goToks,if_neg (h x (by simp)),goToks_good zs xs _ (fun y hy=>h y (by simp [hy]))];simp
theorem goToks_bad (zs:List Int):∀ (xs:List (PosOf zs)) (x:PosOf zs) (rest:List (PosOf zs)) (A:List Tok),Good zs xs→kindOf (piece zs x.1)=0→goToks zs (xs++x :: rest) A=([],(x.1:Int))
 | [],x,rest,A,_,hk=>by simp only [List.nil_append,goToks];rw [if_pos hk]
 | y :: xs,x,rest,A,h,hk=>by
  rw [List.cons_append,goToks,if_neg (h y (by simp))];exact goToks_bad zs xs x rest _ (fun z hz=>h z (by simp [hz])) hk
theorem wpIn_scope_wide {n:Nat} {P:Program} {c:Code} {Q:Exit→Act→World→Prop} {a:Act} {w:World} (h:c.wpIn Fence.wide n P (Exit.noGoto Q) a w):(Code.scope c).wpIn Fence.wide n P Q a w:=wpIn_wide.2 (wp_scope_straight (wpIn_wide.1 h))
set_option maxHeartbeats 400000 in
theorem implTokens_big (a:Option Addr) (n N:Nat) (zs:List Int) (w:World) {lo hi:Nat} (h:Rd lo hi w a n N zs) (T:1500<n) :
    Calls Tryz.prog 49 #[.slice a n N] w fun e w'=>∃ v gs,e=.returned (.tuple #[v,.int .i64 (toks zs).2])∧OwnT w.heap.size w' v (toks zs).1 gs∧Below w.heap.size w w':=by
 have HT:Hid (toks zs=([],0)):=by unfold Hid toks;rw [if_pos (by rw [h.len];exact T)]
 clear h;go_enter Tryz.func49, Tryz.ntmps49;go_wp2;go_step3;go_wp2;rw [Exit.noGoto_ret];go_ret2;exact ⟨_,[],by rw [HT.out];rfl,by rw [HT.out];exact OwnT.nil _ _,Below.refl _ _⟩
theorem OwnT.of_cells {base:Nat} {W W':World} {v:Value} {ts:List Tok} {gs:List (Nat × Nat)} (h:OwnT base W v ts gs)
    (hk:∀ (g:Nat) (c:Array Value) (t:Nat),(t=115∨t=5)→W.heap[g]?=some (Obj.cells c t (0,0))→W'.heap[g]?=some (Obj.cells c t (0,0))):OwnT base W' v ts gs:=by
 obtain ⟨h1,h2,h3,h4,h5⟩:=h;refine ⟨h1,⟨h2.1,?_⟩,fun i hi ht=>?_,h4,h5⟩
 · rcases h2.2 with h2 | ⟨g,N,cur,hv,hg,hh,r⟩
   · exact .inl h2
   exact .inr ⟨g,N,cur,hv,hg,hk g _ _ (.inl rfl) hh,r⟩
 obtain ⟨a,⟨c,hc,r⟩,b⟩:=h3 i hi ht;exact ⟨a,⟨c,hk _ _ _ (.inr rfl) hc,r⟩,b⟩
theorem OwnT.noncells {base:Nat} {W W':World} {v:Value} {ts:List Tok} {gs:List (Nat × Nat)} {row:Option Nat} (h:OwnT base W v ts gs) (hg:W.grownBy W' row)
    (hr:∀ r,row=some r→∃ o:Obj,W.heap[r]?=some o∧o.isCells=false):OwnT base W' v ts gs :=
 h.of_cells fun g c t _ hh=>(hg.block g (Array.getElem?_eq_some_iff.1 hh).1 (fun e=>by
  obtain ⟨o,ho,hc⟩:=hr g e.symm
  rw [hh] at ho;cases ho;cases hc)).trans hh
theorem OwnT.setBox {base:Nat} {W:World} {v:Value} {ts:List Tok} {gs:List (Nat × Nat)} {B t:Nat} {u:Value} (h:OwnT base W v ts gs) (hb:Boxed W B t u) (h1:t≠115) (h2:t≠5) (x:Value):OwnT base (W.setCell ⟨B,0,none⟩ x) v ts gs :=
 h.of_cells fun g c t' ht hh=>by
  have a0:g≠B:=fun e=>by
   rw [e,show W.heap[B]?=_ from hb] at hh;simp at hh;rcases ht with rfl | rfl
   · exact h1 hh.2
   exact h2 hh.2
  rw [Below.heap_setCell W ⟨B,0,none⟩ x g a0];exact hh
structure InvT (s:Nat) (w W:World) (zs:List Int) (sv v:Value) (xs:List (PosOf zs)) (gs:List (Nat × Nat)):Prop where
 list:Boxed W s 79 v
 bad:Boxed W (s+1) 3 (.int .i64 (-1))
 text:Boxed W (s+1+1) 22 sv
 own:OwnT s W v (xs.map (fun x=>tokAt zs x.1)) gs
 good:Good zs xs
 bel:Below s w W
theorem InvT.noncells {s:Nat} {w W W':World} {zs:List Int} {sv v:Value} {xs:List (PosOf zs)} {gs:List (Nat × Nat)} {row:Option Nat} (h:InvT s w W zs sv v xs gs) (hs:s≤W.heap.size) (hg:W.grownBy W' row)
    (hr:∀ r,row=some r→s≤r∧∃ o:Obj,W.heap[r]?=some o∧o.isCells=false):InvT s w W' zs sv v xs gs :=
 ⟨boxed_noncells h.list hg fun r e=>(hr r e).2,boxed_noncells h.bad hg fun r e=>(hr r e).2,boxed_noncells h.text hg fun r e=>(hr r e).2,h.own.noncells hg fun r e=>(hr r e).2,h.good,h.bel.grown hg hs fun k e=>(hr k e).1⟩
theorem round_tok {s:Nat} {w W Wb w2:World} {zs:List Int} {sv v v':Value} {xs:List (PosOf zs)} {ts:List Tok} {gs:List (Nat × Nat)} {x:PosOf zs} {kd:Int} {tv:Value} {g:Nat × Nat}
    (hs:s=w.heap.size) (V:ts=xs.map (fun x=>tokAt zs x.1)) (hI:InvT s w W zs sv v xs gs) (G:Below W.heap.size W Wb) (J:kindOf (piece zs x.1)≠0) (hG:kd=(tokAt zs x.1).kind∧tv=txv (tokAt zs x.1) g)
    (hM:(tokAt zs x.1).text≠[]→W.heap.size≤g.1∧Row Wb g.1 g.2 (tokAt zs x.1).text∧g.2≤9223372036854775807) (a4:∀ i,0≤zs.getD i 0∧zs.getD i 0≤255)
    (O:w2.ownsRow s 115 3 v' (ts.length+1) (flatT ts gs++[.int .i64 kd,.int .i64 (x.1:Nat),tv])) (D:Wb.grownBy w2 v.ownBlock) :
    ∃ g' cap',v'=.slice (some ⟨g',0,none⟩) (ts.length+1) cap'∧Boxed w2 s 79 v∧KeepsOthers W (w2.setCell ⟨s,0,none⟩ v')∧KpT s (s+1+1) W (w2.setCell ⟨s,0,none⟩ v')∧InvT s w (w2.setCell ⟨s,0,none⟩ v') zs sv v' (xs++[x]) (gs++[g]):=by
 subst hs;obtain ⟨bL,bB,bS,hO,a1,F⟩:=hI;have H:=hO.below G;have Y:Below w.heap.size w Wb:=F.trans (G.mono F.size);have E:∀ {B t u},Boxed Wb B t u→t≠115→some B≠v.ownBlock:=fun hb ht=>Boxed.not_row hb ht H.row
 have bL1:=boxed_below bL G (Boxed.lt bL);have bB1:=boxed_below bB G (Boxed.lt bB);have bS1:=boxed_below bS G (Boxed.lt bS);have bL2:=Boxed.kept bL1 D (E bL1 (by decide));have bB2:=Boxed.kept bB1 D (E bB1 (by decide));have bS2:=Boxed.kept bS1 D (E bS1 (by decide));rw [← V] at hO H;have a7:(tokAt zs x.1).text≠[]→w.heap.size≤g.1∧W.heap.size≤g.1∧Row Wb g.1 g.2 (tokAt zs x.1).text∧g.2≤9223372036854775807:=fun ht=>⟨Nat.le_trans F.size (hM ht).1,(hM ht).1,(hM ht).2.1,(hM ht).2.2⟩
 have a5:∀ i,i<ts.length→(ts.getD i Tok.zero).text≠[]→(gs.getD i (0,0)).1<W.heap.size:=fun i hi ht=>(hO.txt i hi ht).2.1.lt
 have I:=step_tok (w0:=w) (wr:=W) (W:=Wb) (w2:=w2) (u:=v) (v':=v') (ts:=ts) (gs:=gs) (zs:=zs) (k:=x.1) (kd:=kd) (tv:=tv) (g:=g) H Y hG a7 a5 a4 O D;obtain ⟨g',cap',Z,a6,a9⟩:=I
 have a8:KeepsOthers W (w2.setCell ⟨w.heap.size,0,none⟩ v'):=by
  refine ((keepsOthers_below G).trans (KeepsOthers.of_grownBy D fun j o ej hj=>?_)).trans (KeepsOthers.setCell _ _ _);rcases H.row.2 with ⟨e,_⟩ | ⟨g1,U,cur,e,_,a2,_⟩
  · rw [e] at ej;simp [Value.ownBlock] at ej
  rw [e] at ej;obtain rfl:g1=j:=by simpa [Value.ownBlock] using ej
  rw [a2] at hj;cases hj;rfl
 have bS3:=boxed_setOther bS2 (B':=w.heap.size) (by omega) v'
 have X:Below w.heap.size W (w2.setCell ⟨w.heap.size,0,none⟩ v'):=by
  refine ((G.mono F.size).grown D Y.size fun j ej=>?_).setCell (p:=⟨w.heap.size,0,none⟩) (Nat.le_refl _) v';rcases H.row.2 with ⟨e,_⟩ | ⟨g1,U,cur,e,a3,_⟩
  · rw [e] at ej;simp [Value.ownBlock] at ej
  rw [e] at ej;obtain rfl:g1=j:=by simpa [Value.ownBlock] using ej
  exact a3
 refine ⟨g',cap',Z,bL2,a8,⟨X,(show _=_ from bS3).trans (show _=_ from bS).symm⟩,Boxed.set v' bL2,boxed_setOther bB2 (by omega) v',bS3,?_,?_,F.trans X⟩
 · rw [List.map_append,List.map_cons,List.map_nil,← V];exact a6.setBox bL2 (by decide) (by decide) v'
 intro y hy;rcases List.mem_append.1 hy with h | h
 · exact a1 y h
 simp at h;subst h;exact J
end

end Go.Proofs.YtocpeiaolofodaaGreat
