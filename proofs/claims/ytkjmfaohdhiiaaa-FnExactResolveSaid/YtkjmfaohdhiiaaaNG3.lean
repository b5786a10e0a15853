/- Several texts in one: ResK1, ResK2, ResK3. -/
import Derived.Test.YtkjmfaohdhiiaaaNG1
import Derived.Deep.DeepCutAuto
namespace Go.Proofs.Ytkjmfaohdhiiaaa

section
open Go.RowKit
set_option linter.unusedVariables false
def leafN (b off n:Nat):List (Addr × IntKind):=(List.range n).map (fun i=>(⟨b,off+i,none⟩,IntKind.i64))
theorem leafN_succ (b off n:Nat):leafN b off (n+1)=leafN b off n++[(⟨b,off+n,none⟩,.i64)]:=by simp [leafN,List.range_succ]
theorem leafN_length (b off n:Nat):(leafN b off n).length=n:=by simp [leafN]
theorem leafN_mem {b off n:Nat} {x:Addr × IntKind}:x∈leafN b off n ↔ ∃ i,i<n∧x=(⟨b,off+i,none⟩,.i64):=by
 simp only [leafN,List.mem_map,List.mem_range];exact ⟨fun ⟨i,h,e⟩=>⟨i,h,e.symm⟩,fun ⟨i,h,e⟩=>⟨i,h,e.symm⟩⟩
theorem leafN_two (b off j:Nat):leafN b off ((j+1)*2)=leafN b off (j*2)++[(⟨b,off+j*2,none⟩,.i64),(⟨b,off+j*2+1,none⟩,.i64)]:=by
 rw [show (j+1)*2=j*2+1+1 by omega,leafN_succ,leafN_succ,List.append_assoc,Nat.add_assoc];rfl
theorem held_leafN {w:World} {b off:Nat} {k:Int}:∀ {n:Nat},Held w (leafN b off n) k→∀ j,j<n→w.cell? ⟨b,off+j,none⟩=some (.int .i64 (IntKind.i64.wrap (k+j))):=by
 intro n
 induction n with
 | zero=>intro _ j hj;omega
 | succ n ih =>
  intro h j hj;rw [leafN_succ,held_append,leafN_length] at h;by_cases e:j=n
  · subst e;exact h.2.1
  exact ih h.1 j (by omega)
set_option maxHeartbeats 800000 in
theorem markPs_ex {a:Option Addr} {n t b off:Nat} {k:Int} {w:World} (ha:n=0∨a=some ⟨b,off,none⟩) (hL:LeafOk w (leafN b off (n*2))) (hn:n≤1048576) (hk:0≤k∧k≤1073741824) :
    Calls Try.prog 70 #[.slice a n t,.int .i64 k] w fun e w'=>e=.returned (.int .i64 (k+(n*2:Nat)))∧w'=marks w (leafN b off (n*2)) k:=by
 obtain ⟨E,D⟩:=hk;have HL:Hid (LeafOk w (leafN b off (n*2))):=hL;have HA:Hid (n=0∨a=some ⟨b,off,none⟩):=ha;clear hL ha;go_enter Try.func70, Try.ntmps70;go_wp2_with fail;go_loopw [1,5] (fun q i wr=>∃ j:Nat,j≤n∧i=.int .i64 j∧q=.int .i64 (k+(j*2:Nat))∧wr=marks w (leafN b off (j*2)) k) (fun _ i _=>n - (intOf i).toNat)
 case atStart=>exact ⟨0,Nat.zero_le _,rfl,by simp,rfl⟩
 case round =>
  obtain ⟨j,hj,rfl,o,m⟩:=hrel;obtain ⟨q,hq⟩:∃ q,q=k+((j*2:Nat):Int):=⟨_,rfl⟩;rw [← hq] at o;subst o;have HQ:Hid (q=k+((j*2:Nat):Int)):=hq;have A:0≤q:=by omega
  have z:q+2≤1077000000:=by omega
  by_cases hlt:j<n
  · have F:(j:Int)<(n:Int):=by omega
    rcases HA.out with h0 | rfl
    · omega
    have r:∀ x∈leafN b off (j*2),x∈leafN b off (n*2):=by
     intro x hx;rw [leafN_mem] at hx ⊢;obtain ⟨i,hi,e⟩:=hx;exact ⟨i,by omega,e⟩
    have u:LeafOk w (leafN b off (j*2)):=fun x hx=>HL.out x (r x hx)
    have s:=(u.marks HL.out k).1;rw [← m] at s;obtain ⟨⟨z0,c0⟩,f0⟩:=s (⟨b,off+j*2,none⟩,.i64) (leafN_mem.2 ⟨j*2,by omega,rfl⟩);obtain ⟨⟨z1,c1⟩,f1⟩:=s (⟨b,off+j*2+1,none⟩,.i64) (leafN_mem.2 ⟨j*2+1,by omega,by rw [Nat.add_assoc]⟩)
    have HW:Hid ((wr.setCell ⟨b,off+j*2,none⟩ (.int .i64 q)).setCell ⟨b,off+j*2+1,none⟩ (.int .i64 (q+1))=marks w (leafN b off ((j+1)*2)) k):=by
     unfold Hid;rw [leafN_two,marks_append,← m,leafN_length,← hq];simp only [marks];rw [wrap64_id ⟨by omega,by omega⟩,wrap64_id ⟨by omega,by omega⟩]
    dsimp only at c0 f0 c1 f1;clear r u s m hq;go_wp2_with fail;go_roundw
    case rel=>exact ⟨j+1,by omega,by go_num,by have:=HQ.out;congr 1;push_cast;omega,HW.out⟩
    case measure=>simp [intOf];omega
  have d:j=n:=by omega
  have HW:Hid (wr=marks w (leafN b off (n*2)) k):=by rw [← d];exact m
  have HE:Hid (q=k+(n*2:Nat)):=by unfold Hid;rw [hq,d]
  clear m d hq;go_wp2_with fail;go_ret;exact ⟨ri HE.out,HW.out⟩
set_option maxHeartbeats 800000 in
theorem heldPs_ex {a:Option Addr} {n t b off:Nat} {k:Int} {w:World} (ha:n=0∨a=some ⟨b,off,none⟩) (hL:Held w (leafN b off (n*2)) k) (hn:n≤1048576) (hk:0≤k∧k≤1073741824) :
    Calls Try.prog 71 #[.slice a n t,.int .i64 k] w fun e w'=>e=.returned (.int .i64 (k+(n*2:Nat)))∧w'=w:=by
 obtain ⟨E,D⟩:=hk;have HL:Hid (Held w (leafN b off (n*2)) k):=hL;have HA:Hid (n=0∨a=some ⟨b,off,none⟩):=ha;clear hL ha;go_enter Try.func71, Try.ntmps71;go_wp2_with fail;go_loop [1,5] (fun q i=>∃ j:Nat,j≤n∧i=.int .i64 j∧q=.int .i64 (k+(j*2:Nat))) (fun _ i=>n - (intOf i).toNat)
 case atStart=>exact ⟨0,Nat.zero_le _,rfl,by simp⟩
 case round =>
  obtain ⟨j,hj,rfl,o⟩:=hrel;obtain ⟨q,hq⟩:∃ q,q=k+((j*2:Nat):Int):=⟨_,rfl⟩;rw [← hq] at o;subst o;have HQ:Hid (q=k+((j*2:Nat):Int)):=hq;have A:0≤q:=by omega
  have z:q+2≤1077000000:=by omega
  by_cases hlt:j<n
  · have F:(j:Int)<(n:Int):=by omega
    rcases HA.out with h0 | rfl
    · omega
    have c0:=held_leafN HL.out (j*2) (by omega);have c1:=held_leafN HL.out (j*2+1) (by omega);rw [← hq,wrap64_id ⟨by omega,by omega⟩] at c0;rw [← Nat.add_assoc,show k+((j*2+1:Nat):Int)=q+1 from by rw [hq];push_cast;omega,wrap64_id ⟨by omega,by omega⟩] at c1;clear hq;go_wp2_with fail;go_round
    case rel=>exact ⟨j+1,by omega,by go_num,by have:=HQ.out;congr 1;push_cast;omega⟩
    case measure=>simp [intOf];omega
  have d:j=n:=by omega
  have HE:Hid (q=k+(n*2:Nat)):=by unfold Hid;rw [hq,d]
  clear d hq;go_wp2_with fail;go_ret;exact ⟨ri HE.out,rfl⟩
end

section
open Go.RowKit
set_option linter.unusedVariables false
def leafQ (b o:Nat) (S:List (Addr × IntKind)):List (Addr × IntKind):=[(⟨b,o,none⟩,.i64),(⟨b,o+1,none⟩,.i64),(⟨b,o+2,none⟩,.i64),(⟨b,o+3,none⟩,.i64),(⟨b,o+4,none⟩,.i64),(⟨b,o+5,none⟩,.i64),(⟨b,o+6,none⟩,.i64),(⟨b,o+7,none⟩,.i64)]++(S++[(⟨b,o+9,none⟩,.i64),(⟨b,o+10,none⟩,.i64)])
def leafQs (b off:Nat) (SS:Nat→List (Addr × IntKind)):Nat→List (Addr × IntKind)
 | 0=>[]
 | n+1=>leafQs b off SS n++leafQ b (off+n*11) (SS n)
theorem leafQs_le (b off:Nat) (SS:Nat→List (Addr × IntKind)) (n:Nat):∀ m,m≤n→∃ R,leafQs b off SS n=leafQs b off SS m++R:=by
 induction n with
 | zero=>intro m hm;obtain rfl:m=0:=(by omega);exact ⟨[],by simp⟩
 | succ n ih =>
  intro m hm;by_cases e:m=n+1
  · subst e;exact ⟨[],by simp⟩
  obtain ⟨R,hR⟩:=ih m (by omega);exact ⟨R++leafQ b (off+n*11) (SS n),by rw [leafQs,hR,List.append_assoc]⟩
def KeepR (w w':World):Prop:=∀ (p:Addr) (a:Option Addr) (n c:Nat),w.cell? p=some (.slice a n c)→w'.cell? p=some (.slice a n c)
theorem KeepR.refl (w:World):KeepR w w:=fun _ _ _ _ h=>h
theorem KeepR.trans {a b c:World} (h:KeepR a b) (k:KeepR b c):KeepR a c:=fun p x n y hp=>k p x n y (h p x n y hp)
theorem LeafOk.subR {w:World} {L M:List (Addr × IntKind)} (h:LeafOk w L) (hs:∀ x∈M,x∈L):LeafOk w M:=fun x hx=>h x (hs x hx)
theorem keepR_marks {w:World} {L:List (Addr × IntKind)} (h:LeafOk w L) (k:Int):KeepR w (marks w L k):=by
 intro p a n c hp
 rw [cell_marks_other (fun x hx e=>by
  obtain ⟨⟨z,hz⟩,_⟩:=h x hx;rw [e,hp] at hz
  cases hz) k]
 exact hp
structure StR (w:World) (A:List (Addr × IntKind)) (W:World):Prop where
 k:KeepR w W
 l:LeafOk W A
theorem StR.step {w:World} {A S:List (Addr × IntKind)} {W:World} (h:StR w A W) (hs:∀ x∈S,x∈A) (q:Int):StR w A (marks W S q) :=
 have hS:=h.l.subR hs
 ⟨h.k.trans (keepR_marks hS q),(hS.marks h.l q).1⟩
def LvQ (w:World) (b o:Nat) (S:List (Addr × IntKind)):Prop:=∃ (a:Option Addr) (n c bb oo:Nat),w.cell? ⟨b,o+8,none⟩=some (.slice a n c)∧(n=0∨a=some ⟨bb,oo,none⟩)∧S=leafN bb oo (n*2)∧n≤1000
def LvQs (w:World) (a:Option Addr) (n b off:Nat) (SS:Nat→List (Addr × IntKind)):Prop:=n=0∨(a=some ⟨b,off,none⟩∧∀ i,i<n→LvQ w b (off+i*11) (SS i))
set_option maxRecDepth 100000 in
set_option maxHeartbeats 8000000 in
theorem markQs_ex {a:Option Addr} {n a3 b off:Nat} {SS:Nat→List (Addr × IntKind)} {k:Int} {w:World} (h:LvQs w a n b off SS) (hL:LeafOk w (leafQs b off SS n)) (hn:n≤1048576) (U:(leafQs b off SS n).length≤1048576) (aj:0≤k) (ai:k≤536870912) :
    Calls Try.prog 30 #[.slice a n a3,.int .i64 k] w fun e w'=>e=.returned (.int .i64 (k+(leafQs b off SS n).length))∧w'=marks w (leafQs b off SS n) k:=by
 have HR:Hid (LvQs w a n b off SS):=h;have HL:Hid (LeafOk w (leafQs b off SS n)):=hL;obtain ⟨N,hN⟩:∃ N,N=(leafQs b off SS n).length:=⟨_,rfl⟩;have D:Hid (N=(leafQs b off SS n).length):=hN;rw [← hN] at U;clear h hL hN;go_enter Try.func30, Try.ntmps30;go_wp2_with fail;go_loopw [1,5] (fun q i wr=>∃ (j:Nat) (t:Nat),j≤n∧i=.int .i64 j∧t=(leafQs b off SS j).length∧q=.int .i64 (k+t)∧wr=marks w (leafQs b off SS j) k) (fun _ i _=>n - (intOf i).toNat)
 case atStart=>exact ⟨0,0,Nat.zero_le _,rfl,by simp [leafQs],by simp,rfl⟩
 case round =>
  obtain ⟨j,t,hj,rfl,ht,X,E⟩:=hrel;obtain ⟨q,hq⟩:∃ q,q=k+(t:Int):=⟨_,rfl⟩;rw [← hq] at X;subst X;have HQ:Hid (q=k+(t:Int)):=hq;have HT:Hid (t=(leafQs b off SS j).length):=ht;have Z:Hid (wr=marks w (leafQs b off SS j) k):=E
  have ae:t≤N:=by
   obtain ⟨R,hR⟩:=leafQs_le b off SS n j hj;have:=D.out;rw [hR,List.length_append] at this;omega
  have ag:0≤q:=by omega
  by_cases hlt:j<n
  · have ak:(j:Int)<(n:Int):=by omega
    have Y:∀ x∈leafQs b off SS j,x∈leafQs b off SS n:=by intro x hx;obtain ⟨R,hR⟩:=leafQs_le b off SS n j hj;rw [hR];simp [hx]
    have r:StR w (leafQs b off SS n) wr:=by rw [E];exact StR.step ⟨KeepR.refl w,HL.out⟩ Y k
    rcases HR.out with h0 | ⟨e1,hc⟩
    · omega
    subst e1;obtain ⟨a2,n2,c2,bb,oo,e2,a1,hS,ah⟩:=hc j hlt
    have d:∀ x∈leafQ b (off+j*11) (SS j),x∈leafQs b off SS n:=by
     intro x hx;obtain ⟨R,hR⟩:=leafQs_le b off SS n (j+1) (by omega);rw [hR,leafQs];simp [hx]
    have u:leafQ b (off+j*11) (SS j)=[(⟨b,off+j*11,none⟩,IntKind.i64),(⟨b,off+j*11+1,none⟩,IntKind.i64),(⟨b,off+j*11+2,none⟩,IntKind.i64),(⟨b,off+j*11+3,none⟩,IntKind.i64),(⟨b,off+j*11+4,none⟩,IntKind.i64),(⟨b,off+j*11+5,none⟩,IntKind.i64),(⟨b,off+j*11+6,none⟩,IntKind.i64),(⟨b,off+j*11+7,none⟩,IntKind.i64)]++(leafN bb oo (n2*2)++[(⟨b,off+j*11+9,none⟩,IntKind.i64),(⟨b,off+j*11+10,none⟩,IntKind.i64)]):=by rw [hS];rfl
    have O:Hid (leafQs b off SS (j+1)=leafQs b off SS j++leafQ b (off+j*11) (SS j)):=rfl;rw [u] at d;have s:Hid _:=d;have V:Hid _:=u
    have ac:t+10+n2*2≤N:=by
     obtain ⟨R,hR⟩:=leafQs_le b off SS n (j+1) (by omega);have h1:=D.out;rw [hR,O.out,u] at h1;simp only [List.length_append,List.length_cons,List.length_nil,leafN_length] at h1;rw [← ht] at h1;omega
    have a6:Hid (t+10+n2*2=(leafQs b off SS (j+1)).length):=by
     unfold Hid;rw [O.out,u];simp only [List.length_append,List.length_cons,List.length_nil,leafN_length];rw [← ht];omega
    have af:q+10+(n2*2:Nat)≤1073741824:=by omega
    obtain ⟨⟨z0,f0⟩,g0⟩:=r.l (⟨b,off+j*11,none⟩,IntKind.i64) (d _ (by simp));obtain ⟨⟨z1,f1⟩,g1⟩:=r.l (⟨b,off+j*11+1,none⟩,IntKind.i64) (d _ (by simp));obtain ⟨⟨z2,f2⟩,g2⟩:=r.l (⟨b,off+j*11+2,none⟩,IntKind.i64) (d _ (by simp));obtain ⟨⟨z3,f3⟩,g3⟩:=r.l (⟨b,off+j*11+3,none⟩,IntKind.i64) (d _ (by simp));obtain ⟨⟨z4,f4⟩,g4⟩:=r.l (⟨b,off+j*11+4,none⟩,IntKind.i64) (d _ (by simp));obtain ⟨⟨z5,f5⟩,g5⟩:=r.l (⟨b,off+j*11+5,none⟩,IntKind.i64) (d _ (by simp));obtain ⟨⟨z6,f6⟩,g6⟩:=r.l (⟨b,off+j*11+6,none⟩,IntKind.i64) (d _ (by simp));obtain ⟨⟨z7,f7⟩,g7⟩:=r.l (⟨b,off+j*11+7,none⟩,IntKind.i64) (d _ (by simp));obtain ⟨W1,J⟩:∃ W1,W1=((((((((wr.setCell ⟨b,off+j*11,none⟩ (.int .i64 (q))).setCell ⟨b,off+j*11+1,none⟩ (.int .i64 (q+1))).setCell ⟨b,off+j*11+2,none⟩ (.int .i64 (q+1+1))).setCell ⟨b,off+j*11+3,none⟩ (.int .i64 (q+1+1+1))).setCell ⟨b,off+j*11+4,none⟩ (.int .i64 (q+1+1+1+1))).setCell ⟨b,off+j*11+5,none⟩ (.int .i64 (q+1+1+1+1+1))).setCell ⟨b,off+j*11+6,none⟩ (.int .i64 (q+1+1+1+1+1+1))).setCell ⟨b,off+j*11+7,none⟩ (.int .i64 (q+1+1+1+1+1+1+1))):=⟨_,rfl⟩
    have a5:Hid (W1=((((((((wr.setCell ⟨b,off+j*11,none⟩ (.int .i64 (q))).setCell ⟨b,off+j*11+1,none⟩ (.int .i64 (q+1))).setCell ⟨b,off+j*11+2,none⟩ (.int .i64 (q+1+1))).setCell ⟨b,off+j*11+3,none⟩ (.int .i64 (q+1+1+1))).setCell ⟨b,off+j*11+4,none⟩ (.int .i64 (q+1+1+1+1))).setCell ⟨b,off+j*11+5,none⟩ (.int .i64 (q+1+1+1+1+1))).setCell ⟨b,off+j*11+6,none⟩ (.int .i64 (q+1+1+1+1+1+1))).setCell ⟨b,off+j*11+7,none⟩ (.int .i64 (q+1+1+1+1+1+1+1)))):=J
    have G:W1=marks wr [(⟨b,off+j*11,none⟩,IntKind.i64),(⟨b,off+j*11+1,none⟩,IntKind.i64),(⟨b,off+j*11+2,none⟩,IntKind.i64),(⟨b,off+j*11+3,none⟩,IntKind.i64),(⟨b,off+j*11+4,none⟩,IntKind.i64),(⟨b,off+j*11+5,none⟩,IntKind.i64),(⟨b,off+j*11+6,none⟩,IntKind.i64),(⟨b,off+j*11+7,none⟩,IntKind.i64)] q:=by
     rw [J];simp only [marks];rw [wrap64_id ⟨by omega,by omega⟩,wrap64_id ⟨by omega,by omega⟩,wrap64_id ⟨by omega,by omega⟩,wrap64_id ⟨by omega,by omega⟩,wrap64_id ⟨by omega,by omega⟩,wrap64_id ⟨by omega,by omega⟩,wrap64_id ⟨by omega,by omega⟩,wrap64_id ⟨by omega,by omega⟩]
    have aa:Hid (W1=marks wr [(⟨b,off+j*11,none⟩,IntKind.i64),(⟨b,off+j*11+1,none⟩,IntKind.i64),(⟨b,off+j*11+2,none⟩,IntKind.i64),(⟨b,off+j*11+3,none⟩,IntKind.i64),(⟨b,off+j*11+4,none⟩,IntKind.i64),(⟨b,off+j*11+5,none⟩,IntKind.i64),(⟨b,off+j*11+6,none⟩,IntKind.i64),(⟨b,off+j*11+7,none⟩,IntKind.i64)] q):=G;have T:Hid (StR w (leafQs b off SS n) W1):=by unfold Hid;rw [G];exact r.step (fun x hx=>d x (by simp only [List.mem_append];exact .inl hx)) q
    have ab:Hid (w.cell? ⟨b,off+j*11+8,none⟩=some (.slice a2 n2 c2)):=e2;clear hc E ht hq G J r d u Y hS e2;go_upto_region 20 with fail;rw [← a5.out];clear f0 g0 f1 g1 f2 g2 f3 g3 f4 g4 f5 g5 f6 g6 f7 g7;have e8:=T.out.k _ _ _ _ ab.out;go_wp2_with fail;refine (markPs_ex (w:=W1) a1 (T.out.l.subR (fun x hx=>s.out x (by simp only [List.mem_append];exact .inr (.inl hx)))) (by omega) ⟨by omega,by omega⟩).mono ?_;rintro e W2 ⟨rfl,F⟩;have a9:Hid (W2=marks W1 (leafN bb oo (n2*2)) (q+1+1+1+1+1+1+1+1)):=F;have a0:Hid (StR w (leafQs b off SS n) W2):=by unfold Hid;rw [F];exact T.out.step (fun x hx=>s.out x (by simp only [List.mem_append];exact .inr (.inl hx))) _
    clear F e8;obtain ⟨⟨z9,f9⟩,g9⟩:=a0.out.l (⟨b,off+j*11+9,none⟩,IntKind.i64) (s.out _ (by simp));obtain ⟨⟨ad,am⟩,al⟩:=a0.out.l (⟨b,off+j*11+10,none⟩,IntKind.i64) (s.out _ (by simp));obtain ⟨W3,I⟩:∃ W3,W3=((W2.setCell ⟨b,off+j*11+9,none⟩ (.int .i64 (q+1+1+1+1+1+1+1+1+(n2:Int)*2))).setCell ⟨b,off+j*11+10,none⟩ (.int .i64 (q+1+1+1+1+1+1+1+1+(n2:Int)*2+1))):=⟨_,rfl⟩;have a4:Hid (W3=((W2.setCell ⟨b,off+j*11+9,none⟩ (.int .i64 (q+1+1+1+1+1+1+1+1+(n2:Int)*2))).setCell ⟨b,off+j*11+10,none⟩ (.int .i64 (q+1+1+1+1+1+1+1+1+(n2:Int)*2+1)))):=I
    have a8:Hid (W3=marks W2 [(⟨b,off+j*11+9,none⟩,IntKind.i64),(⟨b,off+j*11+10,none⟩,IntKind.i64)] (q+1+1+1+1+1+1+1+1+(n2:Int)*2)):=by
     unfold Hid;rw [I];simp only [marks];rw [wrap64_id ⟨by omega,by omega⟩,wrap64_id ⟨by omega,by omega⟩]
    clear I
    have a7:Hid (W3=marks w (leafQs b off SS (j+1)) k):=by
     unfold Hid;rw [O.out,marks_append,← Z.out,← HT.out,← HQ.out,V.out];rw [marks_append,← aa.out,show q+((([(⟨b,off+j*11,none⟩,IntKind.i64),(⟨b,off+j*11+1,none⟩,IntKind.i64),(⟨b,off+j*11+2,none⟩,IntKind.i64),(⟨b,off+j*11+3,none⟩,IntKind.i64),(⟨b,off+j*11+4,none⟩,IntKind.i64),(⟨b,off+j*11+5,none⟩,IntKind.i64),(⟨b,off+j*11+6,none⟩,IntKind.i64),(⟨b,off+j*11+7,none⟩,IntKind.i64)]:List (Addr × IntKind)).length:Nat):Int)=q+1+1+1+1+1+1+1+1 from by simp;omega];rw [marks_append,← a9.out,show (q+1+1+1+1+1+1+1+1)+(((leafN bb oo (n2*2):List (Addr × IntKind)).length:Nat):Int)=q+1+1+1+1+1+1+1+1+(n2:Int)*2 from by rw [leafN_length];push_cast;rfl];rw [← a8.out]
    go_wp2_with fail;rw [← a4.out];go_roundw
    case rel=>exact ⟨j+1,t+10+n2*2,by omega,by go_num,a6.out,by have:=HQ.out;congr 1;push_cast;omega,a7.out⟩
    case measure=>simp [intOf];omega
  have H:j=n:=by omega
  have HE:Hid (q=k+(leafQs b off SS n).length):=by unfold Hid;rw [HQ.out,HT.out,H]
  have HW:Hid (wr=marks w (leafQs b off SS n) k):=by rw [← H];exact Z.out
  clear E ht H hq;go_wp2_with fail;go_ret;exact ⟨ri HE.out,HW.out⟩
end

section
open Go.RowKit
set_option linter.unusedVariables false
set_option maxRecDepth 100000 in
set_option maxHeartbeats 8000000 in
theorem heldQs_ex {a:Option Addr} {n F b off:Nat} {SS:Nat→List (Addr × IntKind)} {k:Int} {w:World} (h:LvQs w a n b off SS) (hL:Held w (leafQs b off SS n) k) (hn:n≤1048576) (r:(leafQs b off SS n).length≤1048576) (V:0≤k) (U:k≤536870912) :
    Calls Try.prog 31 #[.slice a n F,.int .i64 k] w fun e w'=>e=.returned (.int .i64 (k+(leafQs b off SS n).length))∧w'=w:=by
 have HR:Hid (LvQs w a n b off SS):=h;have HL:Hid (Held w (leafQs b off SS n) k):=hL;obtain ⟨N,hN⟩:∃ N,N=(leafQs b off SS n).length:=⟨_,rfl⟩;have d:Hid (N=(leafQs b off SS n).length):=hN;rw [← hN] at r;clear h hL hN;go_enter Try.func31, Try.ntmps31;go_wp2_with fail;go_loop [1,5] (fun q i=>∃ (j:Nat) (t:Nat),j≤n∧i=.int .i64 j∧t=(leafQs b off SS j).length∧q=.int .i64 (k+t)) (fun _ i=>n - (intOf i).toNat)
 case atStart=>exact ⟨0,0,Nat.zero_le _,rfl,by simp [leafQs],by simp⟩
 case round =>
  obtain ⟨j,t,hj,rfl,ht,s⟩:=hrel;obtain ⟨q,hq⟩:∃ q,q=k+(t:Int):=⟨_,rfl⟩;rw [← hq] at s;subst s;have HQ:Hid (q=k+(t:Int)):=hq;have HT:Hid (t=(leafQs b off SS j).length):=ht
  have L:t≤N:=by
   obtain ⟨R,hR⟩:=leafQs_le b off SS n j hj;have:=d.out;rw [hR,List.length_append] at this;omega
  have O:0≤q:=by omega
  by_cases hlt:j<n
  · have W:(j:Int)<(n:Int):=by omega
    rcases HR.out with h0 | ⟨e1,hc⟩
    · omega
    subst e1;obtain ⟨a2,n2,c2,bb,oo,e2,D,hS,T⟩:=hc j hlt;have m:leafQ b (off+j*11) (SS j)=[(⟨b,off+j*11,none⟩,IntKind.i64),(⟨b,off+j*11+1,none⟩,IntKind.i64),(⟨b,off+j*11+2,none⟩,IntKind.i64),(⟨b,off+j*11+3,none⟩,IntKind.i64),(⟨b,off+j*11+4,none⟩,IntKind.i64),(⟨b,off+j*11+5,none⟩,IntKind.i64),(⟨b,off+j*11+6,none⟩,IntKind.i64),(⟨b,off+j*11+7,none⟩,IntKind.i64)]++(leafN bb oo (n2*2)++[(⟨b,off+j*11+9,none⟩,IntKind.i64),(⟨b,off+j*11+10,none⟩,IntKind.i64)]):=by rw [hS];rfl
    have o:Hid (leafQs b off SS (j+1)=leafQs b off SS j++leafQ b (off+j*11) (SS j)):=rfl
    have J:t+10+n2*2≤N:=by
     obtain ⟨R,hR⟩:=leafQs_le b off SS n (j+1) (by omega);have h1:=d.out;rw [hR,o.out,m] at h1;simp only [List.length_append,List.length_cons,List.length_nil,leafN_length] at h1;rw [← ht] at h1;omega
    have G:Hid (t+10+n2*2=(leafQs b off SS (j+1)).length):=by
     unfold Hid;rw [o.out,m];simp only [List.length_append,List.length_cons,List.length_nil,leafN_length];rw [← ht];omega
    have M:q+10+(n2*2:Nat)≤1073741824:=by omega
    have hh:Held w ([(⟨b,off+j*11,none⟩,IntKind.i64),(⟨b,off+j*11+1,none⟩,IntKind.i64),(⟨b,off+j*11+2,none⟩,IntKind.i64),(⟨b,off+j*11+3,none⟩,IntKind.i64),(⟨b,off+j*11+4,none⟩,IntKind.i64),(⟨b,off+j*11+5,none⟩,IntKind.i64),(⟨b,off+j*11+6,none⟩,IntKind.i64),(⟨b,off+j*11+7,none⟩,IntKind.i64)]++(leafN bb oo (n2*2)++[(⟨b,off+j*11+9,none⟩,IntKind.i64),(⟨b,off+j*11+10,none⟩,IntKind.i64)])) q:=by
     obtain ⟨R,hR⟩:=leafQs_le b off SS n (j+1) (by omega);have h1:=HL.out;rw [hR,o.out,List.append_assoc,held_append,held_append,← ht,← hq,m] at h1;exact h1.2.1
    rw [held_append,held_append,leafN_length] at hh;obtain ⟨⟨f0,f1,f2,f3,f4,f5,f6,f7,_⟩,A,f9,E,_⟩:=hh
    have z:Held w (leafN bb oo (n2*2)) (q+1+1+1+1+1+1+1+1):=by
     rw [show (q+1+1+1+1+1+1+1+1:Int)=q+(([(⟨b,off+j*11,none⟩,IntKind.i64),(⟨b,off+j*11+1,none⟩,IntKind.i64),(⟨b,off+j*11+2,none⟩,IntKind.i64),(⟨b,off+j*11+3,none⟩,IntKind.i64),(⟨b,off+j*11+4,none⟩,IntKind.i64),(⟨b,off+j*11+5,none⟩,IntKind.i64),(⟨b,off+j*11+6,none⟩,IntKind.i64),(⟨b,off+j*11+7,none⟩,IntKind.i64)]:List (Addr × IntKind)).length:Int) from by simp;omega];exact A
    have H:Hid (Held w (leafN bb oo (n2*2)) (q+1+1+1+1+1+1+1+1)):=z;rw [wrap64_id ⟨by omega,by omega⟩] at f0;rw [wrap64_id ⟨by omega,by omega⟩] at f1;rw [wrap64_id ⟨by omega,by omega⟩] at f2;rw [wrap64_id ⟨by omega,by omega⟩] at f3;rw [wrap64_id ⟨by omega,by omega⟩] at f4;rw [wrap64_id ⟨by omega,by omega⟩] at f5;rw [wrap64_id ⟨by omega,by omega⟩] at f6;rw [wrap64_id ⟨by omega,by omega⟩] at f7;rw [show q+(([(⟨b,off+j*11,none⟩,IntKind.i64),(⟨b,off+j*11+1,none⟩,IntKind.i64),(⟨b,off+j*11+2,none⟩,IntKind.i64),(⟨b,off+j*11+3,none⟩,IntKind.i64),(⟨b,off+j*11+4,none⟩,IntKind.i64),(⟨b,off+j*11+5,none⟩,IntKind.i64),(⟨b,off+j*11+6,none⟩,IntKind.i64),(⟨b,off+j*11+7,none⟩,IntKind.i64)]:List (Addr × IntKind)).length:Int)+(n2*2:Nat)=q+1+1+1+1+1+1+1+1+(n2:Int)*2 from by simp;omega,wrap64_id ⟨by omega,by omega⟩] at f9;rw [show q+(([(⟨b,off+j*11,none⟩,IntKind.i64),(⟨b,off+j*11+1,none⟩,IntKind.i64),(⟨b,off+j*11+2,none⟩,IntKind.i64),(⟨b,off+j*11+3,none⟩,IntKind.i64),(⟨b,off+j*11+4,none⟩,IntKind.i64),(⟨b,off+j*11+5,none⟩,IntKind.i64),(⟨b,off+j*11+6,none⟩,IntKind.i64),(⟨b,off+j*11+7,none⟩,IntKind.i64)]:List (Addr × IntKind)).length:Int)+(n2*2:Nat)+1=q+1+1+1+1+1+1+1+1+(n2:Int)*2+1 from by simp;omega,wrap64_id ⟨by omega,by omega⟩] at E;clear hc ht hq m hS A z;go_wp2_with fail;refine (heldPs_ex (w:=w) D H.out (by omega) ⟨by omega,by omega⟩).mono ?_;rintro e W2 ⟨rfl,rfl⟩;have I:¬ (q+1+1+1+1+1+1+1+1+(n2:Int)*2<0):=by omega
    go_wp2_with fail;go_round
    case rel=>exact ⟨j+1,t+10+n2*2,by omega,by go_num,G.out,by have:=HQ.out;congr 1;push_cast;omega⟩
    case measure=>simp [intOf];omega
  have u:j=n:=by omega
  have HE:Hid (q=k+(leafQs b off SS n).length):=by unfold Hid;rw [HQ.out,HT.out,u]
  clear ht u hq;go_wp2_with fail;go_ret;exact ⟨ri HE.out,rfl⟩
end

end Go.Proofs.Ytkjmfaohdhiiaaa
