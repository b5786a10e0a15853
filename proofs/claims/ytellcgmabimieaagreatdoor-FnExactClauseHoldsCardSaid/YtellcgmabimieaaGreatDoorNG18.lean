/- Several texts in one: WdFind0, WdRel0, HoldM, SatM, HoldS, WdSearch0, WdFlags0. -/
import Derived.Test.YtellcgmabimieaaGreatDoorNG16
import Derived.Test.YtellcgmabimieaaGreatDoorNG15
import Derived.Deep.RegionWith
import Derived.Test.YtellcgmabimieaaGreatDoorNG10
import Derived.Test.YtellcgmabimieaaGreatDoorNG6
import Derived.Deep.RegionHeld3
import Derived.Test.YtellcgmabimieaaGreatDoorWdLaw2
namespace Go.Proofs.YtellcgmabimieaaGreatDoor

section
open Go.RowKit
def keyL (zs:List Int):List UInt8:=(strOfNums zs).toList
def hit (l:List (List Int)) (wd:List Int) (i:Nat):Bool:=keyL (l.getD i []) == keyL wd
def idxO (l:List (List Int)) (wd:List Int):Option Nat:=(List.range l.length).find? (hit l wd)
def idxZ (l:List (List Int)) (wd:List Int):Int:=match idxO l wd with | some i=>(i:Int) | none=>-1
def flagO (l:List (List Int)) (s:List (List Bool)) (wd:List Int) (q:Nat):Bool:=match idxO l wd with | some i=>(s.getD i []).getD q false | none=>false
theorem idx_some {l:List (List Int)} {wd:List Int} {i:Nat} (hi:i<l.length) (he:hit l wd i=true) (hm:∀ j,j<i→hit l wd j=false):idxO l wd=some i:=by
 unfold idxO;rw [List.find?_range_eq_some];exact ⟨he,by simpa using hi,fun j hj=>by simp [hm j hj]⟩
theorem idx_none {l:List (List Int)} {wd:List Int} (h:∀ i,i<l.length→hit l wd i=false):idxO l wd=none:=by
 unfold idxO;rw [List.find?_range_eq_none];exact fun i hi=>by simp [h i hi]
theorem idx_of {l:List (List Int)} {wd:List Int} {i:Nat} (h:idxO l wd=some i):i<l.length:=by
 unfold idxO at h;rw [List.find?_range_eq_some] at h;simpa using h.2.1
set_option maxRecDepth 100000 in
set_option maxHeartbeats 8000000 in
theorem l4find_any (a:Option Addr) (n u:Nat) (xs:List (List Int)) (wa:Option Addr) (wn wc:Nat) (wd:List Int) (w:World) {lo hi lo' hi':Nat} (h:RSS lo hi w a n u xs) (h':Rd lo' hi' w wa wn wc wd) :
    Calls Tryz.prog 89 #[.slice a n u,.slice wa wn wc] w fun e w'=>e=.returned (.int .i64 (idxZ xs wd))∧∃ nd,w'=w.drewN nd:=by
 have HR:Hid (RSS lo hi w a n u xs):=h;have HW:Hid (Rd lo' hi' w wa wn wc wd):=h';have HL:Hid (xs.length=n):=h.len;have hf:=h.fits;clear h h';go_enter Tryz.func89, Tryz.ntmps89;go_wp2_with fail;go_loopw [5] (fun i wr=>∃ k:Nat,k≤n∧i=.int .i64 k∧(∀ j,j<k→hit xs wd j=false)∧∃ nd,wr=w.drewN nd) (fun i _=>n - (intOf i).toNat)
 case atStart=>exact ⟨0,Nat.zero_le _,rfl,fun j hj=>by omega,0,rfl⟩
 case round =>
  obtain ⟨k,hk,rfl,A,nd,D⟩:=hrel;have HD:Hid (wr=w.drewN nd):=D;have O:Hid (RSS lo hi wr a n u xs):=by unfold Hid;rw [D];exact HR.out.same (fun _ _ _=>rfl)
  have N:Hid (Rd lo' hi' wr wa wn wc wd):=by unfold Hid;rw [D];exact HW.out.same (fun _ _ _=>rfl)
  have o:Hid (∀ j,j<k→hit xs wd j=false):=A;clear A D;by_cases hlt:k<n
  · rcases O.out.cells with hz | ⟨b,z,e1,_,_,hc⟩
    · omega
    subst e1;obtain ⟨v,c0,ea,en,ec,rfl,hr⟩:=hc k hlt;have HE:Hid (Rd lo hi wr ea en ec (xs.getD k [])):=hr;have R:(k:Int)<(n:Int):=by omega
    have J:∀ m,(convert 89 9 (.slice ea en ec)).run Tryz.prog (wr.drewN m)=.ok (.string (strOfNums (xs.getD k []))) (wr.drewN m):=fun m=>conv_any (HE.out.same (fun _ _ _=>rfl))
    have I:∀ m,(convert 89 9 (.slice wa wn wc)).run Tryz.prog (wr.drewN m)=.ok (.string (strOfNums wd)) (wr.drewN m):=fun m=>conv_any (N.out.same (fun _ _ _=>rfl))
    obtain ⟨eq,G⟩:∃ eq,eq=hit xs wd k:=⟨_,rfl⟩;have L:Hid (eq=hit xs wd k):=G;obtain ⟨sx,F⟩:∃ s,s=strOfNums (xs.getD k []):=⟨_,rfl⟩;obtain ⟨sy,E⟩:∃ s,s=strOfNums wd:=⟨_,rfl⟩;have T:(sx.toList == sy.toList)=eq:=by rw [F,E,G];rfl
    rw [← F] at J;rw [← E] at I;clear hc hr G F E;cases eq with
    | true =>
     have HG:Hid (idxZ xs wd=(k:Int)):=by unfold Hid idxZ;rw [idx_some (by rw [HL.out];exact hlt) L.out.symm o.out]
     go_wp2_with fail;go_quiet (fail);go_wp2_with fail;go_ret;exact ⟨ri HG.out.symm,nd+nq,by rw [HD.out];first | rfl | exact drew_add _ _ _⟩
    | false =>
     have HS:Hid (∀ j,j<k+1→hit xs wd j=false):=fun j hj=>by
      by_cases hjk:j=k
      · subst hjk;exact L.out.symm
      exact o.out j (by omega)
     go_wp2_with fail;go_quiet (fail);go_wp2_with fail;go_roundw
     case rel=>exact ⟨k+1,by omega,by go_num,HS.out,nd+nq,by rw [HD.out];first | rfl | exact drew_add _ _ _⟩
     case measure=>simp [intOf];omega
  have HG:Hid (idxZ xs wd=-1):=by unfold Hid idxZ;rw [idx_none (fun i hi=>o.out i (by rw [HL.out] at hi;omega))]
  go_wp2_with fail;go_ret;exact ⟨ri HG.out.symm,nd,HD.out⟩
theorem flag_cell {lo hi:Nat} {w:World} {a:Option Addr} {n u:Nat} {s:List (List Bool)} (h:RFF lo hi w a n u s) {i q:Nat} (hi':i<n) (hq:q<(s.getD i []).length) :
    ∃ b z,a=some ⟨b,z,none⟩∧∃ b2 o2 m c,w.cell? ⟨b,z+i,none⟩=some (.slice (some ⟨b2,o2,none⟩) m c)∧q<m∧w.cell? ⟨b2,o2+q,none⟩=some (.bool ((s.getD i []).getD q false)):=by
 rcases h.cells with hz | ⟨b,z,e,_,_,hc⟩
 · omega
 obtain ⟨v,c0,ea,en,ec,rfl,hr⟩:=hc i hi';have hl:=hr.len;rcases hr.cells with hz | ⟨b2,o2,e2,_,_,M⟩
 · omega
 obtain ⟨v2,c2,rfl⟩:=M q (by omega);subst e2;exact ⟨b,z,e,b2,o2,en,ec,c0,by omega,c2⟩
theorem flags_long {s:List (List Bool)} {m:Int} (h:flagsB s m=true) {i:Nat} (hi:i<s.length):((s.getD i []).length:Int)=m:=by
 unfold flagsB at h;rw [List.all_eq_true] at h;simpa using h i (by simpa using hi)
end

section
open Go.RowKit
def relO (x:WD) (wd:List Int) (p q L:Nat):Bool:=flagO x.roles x.rels wd (p*L+q)
theorem cell_lt {p q L:Nat} (hp:p<L) (hq:q<L):p*L+q<L*L:=by
 have h1:(p+1)*L≤L*L:=Nat.mul_le_mul_right L hp;have h2:(p+1)*L=p*L+L:=by rw [Nat.add_mul,Nat.one_mul]
 omega
set_option maxRecDepth 100000 in
set_option maxHeartbeats 8000000 in
theorem l4rel_any {na:Option Addr} {nn nc:Nat} {sa:Option Addr} {sn sc:Nat} {ra:Option Addr} {rn rc:Nat} {la:Option Addr} {ln lc:Nat} {ia:Option Addr} {im ic:Nat} {ta:Option Addr} {tn tc:Nat} {x:WD} {wa:Option Addr} {wn wc:Nat} {wd:List Int} {w:World} {lo hi lo' hi':Nat} {p q L:Nat} (h:RdW lo hi w na nn nc sa sn sc ra rn rc la ln lc ia im ic ta tn tc x) (h':Rd lo' hi' w wa wn wc wd) (hn:x.n=(L:Int)) (a3:hi≤w.heap.size) (M:hi'≤w.heap.size)
    (R:worldB x=true) (hp:p<L) (hq:q<L) :
    Calls Tryz.prog 61 #[.agg #[.int .i64 L,.slice na nn nc,.slice sa sn sc,.slice ra rn rc,.slice la ln lc,.slice ia im ic,.slice ta tn tc],.slice wa wn wc,.int .i64 p,.int .i64 q] w fun e w'=>e=.returned (.bool (relO x wd p q L))∧Below w.heap.size w w':=by
 obtain ⟨W0,E⟩:∃ W0,W0=w.alloc (.cells #[.int .i64 L,.slice na nn nc,.slice sa sn sc,.slice ra rn rc,.slice la ln lc,.slice ia im ic,.slice ta tn tc] 41):=⟨_,rfl⟩;have U:Hid (W0=w.alloc (.cells #[.int .i64 L,.slice na nn nc,.slice sa sn sc,.slice ra rn rc,.slice la ln lc,.slice ia im ic,.slice ta tn tc] 41)):=E;have D:Below w.heap.size w W0:=by rw [E];exact (Below.refl _ _).alloc (Nat.le_refl _) _
 have a0:Hid (Below w.heap.size w W0):=D;have J:BoxW 41 W0 w.heap.size (L:Int) (.slice na nn nc) (.slice sa sn sc) (.slice ra rn rc) (.slice la ln lc) (.slice ia im ic) (.slice ta tn tc):=by rw [E];exact BoxW.new _ w _ _ _ _ _ _ _
 have Z:Hid (BoxW 41 W0 w.heap.size (L:Int) (.slice na nn nc) (.slice sa sn sc) (.slice ra rn rc) (.slice la ln lc) (.slice ia im ic) (.slice ta tn tc)):=J;have HR:Hid (RdW lo hi W0 na nn nc sa sn sc ra rn rc la ln lc ia im ic ta tn tc x):=h.below D a3;have HW:Hid (Rd lo' hi' W0 wa wn wc wd):=h'.below D M;have HI:Hid _:=(worldB_iff x).1 R;have hL:L≤128:=by have:=HI.out.1.1.2;rw [hn] at this;omega
 have G:p*L+q<L*L:=cell_lt hp hq;have a1:L*L≤16384:=Nat.le_trans (Nat.mul_le_mul hL hL) (by decide)
 have Y:Hid (∀ i,i<ln→(x.rels.getD i []).length=L*L):=fun i hi=>by
  have h1:=flags_long HI.out.2.2.2.1 (i:=i) (by rw [h.rels.len];exact hi);rw [hn] at h1;have:((L:Int)*(L:Int))=((L*L:Nat):Int):=by simp
  omega
 have a4:Hid (ln=rn):=by
  have h1:=HI.out.1.2.2.2.2.2.1;rw [h.rels.len,h.roles.len] at h1;exact h1
 obtain ⟨z0,z1,z2,z3,z4,z5,z6⟩:=J.cells;clear h h' D E J hn R;obtain ⟨pp,A⟩:∃ pp:Nat,pp=p*L:=⟨_,rfl⟩;have a5:(p:Int)*(L:Int)=(pp:Int):=by rw [A];simp
 rw [← A] at G;have a8:pp≤16384:=by omega
 have V:Hid (relO x wd p q L=flagO x.roles x.rels wd (pp+q)):=by unfold Hid relO;rw [A]
 obtain ⟨sq,o⟩:∃ sq,sq=L*L:=⟨_,rfl⟩;rw [← o] at G a1;have N:Hid (∀ i,i<ln→(x.rels.getD i []).length=sq):=by rw [o];exact Y.out
 clear A o Y;cases hO:idxO x.roles wd with
 | none =>
  have HZ:Hid (idxZ x.roles wd=-1):=by unfold Hid idxZ;rw [hO]
  have HG:Hid (relO x wd p q L=false):=by unfold Hid;rw [V.out];unfold flagO;rw [hO]
  clear hO;go_enter Tryz.func61, Tryz.ntmps61;go_upto_region 1 with fail;rw [← U.out];go_wp2_with (go_at_call 89;refine (l4find_any ra rn rc x.roles wa wn wc wd W0 HR.out.roles HW.out).mono ?_;rintro e w1 ⟨rfl,nd,z⟩;rw [HZ.out];have u:Hid (w1=W0.drewN nd):=z;clear z z0 z1 z2 z3 z4 z5 z6;obtain ⟨z0,z1,z2,z3,z4,z5,z6⟩:=(show BoxW 41 w1 w.heap.size (L:Int) (.slice na nn nc) (.slice sa sn sc) (.slice ra rn rc) (.slice la ln lc) (.slice ia im ic) (.slice ta tn tc) by rw [u.out];exact Z.out).cells)
  first | go_region | fail
  all_goals
   go_wp2_with fail;go_ret;exact ⟨rb HG.out.symm,by rw [u.out];exact (below_drewN a0.out _).drew⟩
 | some i =>
  have a2:i<rn:=by have:=idx_of hO;rwa [HR.out.roles.len] at this
  have T:i<ln:=by rw [a4.out];exact a2
  have O:pp+q<(x.rels.getD i []).length:=by rw [N.out i T];exact G
  obtain ⟨b,F,e1,b2,o2,m,c,k1,a6,k2⟩:=flag_cell HR.out.rels T O;subst e1;obtain ⟨fl,I⟩:∃ fl,fl=(x.rels.getD i []).getD (pp+q) false:=⟨_,rfl⟩;rw [← I] at k2;have HZ:Hid (idxZ x.roles wd=(i:Int)):=by unfold Hid idxZ;rw [hO]
  have HG:Hid (relO x wd p q L=fl):=by unfold Hid;rw [V.out];unfold flagO;rw [hO,I]
  have HK:Hid (W0.cell? ⟨b,F+i,none⟩=some (.slice (some ⟨b2,o2,none⟩) m c)∧W0.cell? ⟨b2,o2+(pp+q),none⟩=some (.bool fl)):=⟨k1,k2⟩;have a9:(i:Int)<(ln:Int):=by omega
  have a7:(pp:Int)+(q:Int)<(m:Int):=by omega
  clear hO I O k1 k2;go_enter Tryz.func61, Tryz.ntmps61;go_upto_region 1 with fail;rw [← U.out];go_wp2_with (go_at_call 89;refine (l4find_any ra rn rc x.roles wa wn wc wd W0 HR.out.roles HW.out).mono ?_;rintro e w1 ⟨rfl,nd,z⟩;rw [HZ.out];have u:Hid (w1=W0.drewN nd):=z;clear z z0 z1 z2 z3 z4 z5 z6;obtain ⟨z0,z1,z2,z3,z4,z5,z6⟩:=(show BoxW 41 w1 w.heap.size (L:Int) (.slice na nn nc) (.slice sa sn sc) (.slice ra rn rc) (.slice (some ⟨b,F,none⟩) ln lc) (.slice ia im ic) (.slice ta tn tc) by rw [u.out];exact Z.out).cells;obtain ⟨k1,k2⟩:=(show w1.cell? ⟨b,F+i,none⟩=some (.slice (some ⟨b2,o2,none⟩) m c)∧w1.cell? ⟨b2,o2+(pp+q),none⟩=some (.bool fl) by rw [u.out];exact HK.out))
  first | go_region | fail
  all_goals
   go_wp2_with fail;go_ret;exact ⟨rb HG.out.symm,by rw [u.out];exact (below_drewN a0.out _).drew⟩
end

section
open Go.RowKit
end

section
open Go.RowKit
def rolesB (x:WD) (L:Nat) (r s:List Int):Bool:=(List.range (L*L)).all (fun q=>!(flagO x.roles x.rels r q) || flagO x.roles x.rels s q)
theorem rolesB_at {x:WD} {L:Nat} {r s:List Int} {p q:Nat} (hp:p<L) (hq:q<L) (h:(relO x r p q L && !(relO x s p q L))=true):rolesB x L r s=false:=by
 unfold rolesB;rw [Bool.eq_false_iff];intro o;rw [List.all_eq_true] at o;have:=o (p*L+q) (List.mem_range.2 (cell_lt hp hq));unfold relO at h;rw [Bool.and_eq_true] at h;rw [h.1] at this;simp only [Bool.not_true,Bool.false_or] at this;rw [this] at h;exact absurd h.2 (by simp)
theorem rolesB_all {x:WD} {L:Nat} {r s:List Int} (h:∀ p q,p<L→q<L→(relO x r p q L && !(relO x s p q L))=false):rolesB x L r s=true:=by
 unfold rolesB;rw [List.all_eq_true];intro q hq;have hq:=List.mem_range.1 hq
 have hL:0<L:=by
  rcases Nat.eq_zero_or_pos L with h0 | h0
  · subst h0;simp at hq
  exact h0
 have h1:q / L<L:=Nat.div_lt_of_lt_mul hq;have h2:q % L<L:=Nat.mod_lt _ hL;have:=h _ _ h1 h2;unfold relO at this;rw [Nat.div_add_mod'] at this;cases e1:flagO x.roles x.rels r q <;> cases e2:flagO x.roles x.rels s q <;> simp_all
theorem rb' {a b:Bool} (h:a=b):Ending.returned (.bool a)=.returned (.bool b):=by rw [h]
end

section
open Go.RowKit Go.Deep
end

section
open Go.RowKit
theorem less_trans:∀ a b c:List UInt8,Op.bytesLess a b=true→Op.bytesLess b c=true→Op.bytesLess a c=true
 | _,_,[],_,h=>by simp [Op.bytesLess] at h
 | [],_,c :: cs,_,_=>by simp [Op.bytesLess]
 | a :: xs,[],_ :: _,h,_=>by simp [Op.bytesLess] at h
 | a :: xs,b :: bs,c :: cs,h1,h2=>by
  have ih:=less_trans xs bs cs;simp only [Op.bytesLess,Bool.or_eq_true,decide_eq_true_eq,Bool.and_eq_true,beq_iff_eq] at h1 h2 ⊢;rcases h1 with h1 | ⟨rfl,h1⟩
  · rcases h2 with h2 | ⟨rfl,h2⟩
    · exact .inl (UInt8.lt_trans h1 h2)
    exact .inl h1
  rcases h2 with h2 | ⟨rfl,h2⟩
  · exact .inl h2
  exact .inr ⟨rfl,ih h1 h2⟩
def Asc (l:List (List Int)):Prop:=∀ j i,i<j→j<l.length→ltB (l.getD i []) (l.getD j [])=true
theorem asc_of {up:Bool} {l:List (List Int)} (h:namesB up l=true):Asc l:=by
 unfold namesB at h;rw [List.all_eq_true] at h
 have hs:∀ j,j+1<l.length→ltB (l.getD j []) (l.getD (j+1) [])=true:=fun j hj=>by
  have:=h (j+1) (by simpa using hj);simp [nameAt] at this;simpa using this.2
 intro j
 induction j with
 | zero=>intro i hi;omega
 | succ j ih =>
  intro i hi hj;by_cases e:i=j
  · subst e;exact hs i hj
  exact less_trans _ _ _ (ih i (by omega) (by omega)) (hs j hj)
theorem hit_not {l:List (List Int)} {wd:List Int} {i:Nat} (h:ltB (l.getD i []) wd=true):hit l wd i=false:=by
 unfold hit keyL;cases e:((strOfNums (l.getD i [])).toList == (strOfNums wd).toList)
 · rfl
 have e2:(strOfNums (l.getD i [])).toList=(strOfNums wd).toList:=by simpa using e
 unfold ltB at h;rw [e2,less_self] at h;exact absurd h (by simp)
theorem cmp_zero (xs ys:List Int):decide (cmpZ xs ys=0)=((strOfNums xs).toList == (strOfNums ys).toList):=by
 unfold cmpZ;rw [← less_cmp];cases h:((strOfNums xs).toList == (strOfNums ys).toList)
 · cases h1:Op.bytesLess (strOfNums xs).toList (strOfNums ys).toList
   · have:=less_tri _ _ h1 h;simp [this]
   simp
 have e2:(strOfNums xs).toList=(strOfNums ys).toList:=by simpa using h
 rw [e2,less_self];simp
theorem search_end {l:List (List Int)} {wd:List Int} {p:Nat} (ha:Asc l) (h1:∀ t,t<p→ltB (l.getD t []) wd=true) (h2:∀ t,p≤t→t<l.length→ltB (l.getD t []) wd=false) (h3:p<l.length→hit l wd p=false):idxO l wd=none:=by
 refine idx_none fun i hi=>?_
 by_cases hp:i<p
 · exact hit_not (h1 i hp)
 by_cases e:i=p
 · subst e;exact h3 hi
 cases he:hit l wd i
 · rfl
 have hk:keyL (l.getD i [])=keyL wd:=by simpa [hit] using he
 have h4:=ha i p (by omega) hi;have h5:=h2 p (Nat.le_refl _) (by omega);unfold ltB at h4 h5;unfold keyL at hk;rw [hk,h5] at h4;exact absurd h4 (by simp)
set_option maxRecDepth 100000 in
set_option maxHeartbeats 8000000 in
theorem search_any (a:Option Addr) (n L:Nat) (xs:List (List Int)) (wa:Option Addr) (wn wc:Nat) (wd:List Int) (w:World) {lo hi lo' hi':Nat} (h:RSS lo hi w a n L xs) (h':Rd lo' hi' w wa wn wc wd) (ha:Asc xs) (hn:n≤1048576) :
    Calls Tryz.prog 108 #[.slice a n L,.slice wa wn wc,.func (.func 98) #[] #[]] w fun e w'=>∃ (i:Nat) (f:Bool),e=.returned (.tuple #[.int .i64 i,.bool f])∧(f=true→idxO xs wd=some i)∧(f=false→idxO xs wd=none)∧w'=w:=by
 have HR:Hid (RSS lo hi w a n L xs):=h;have HW:Hid (Rd lo' hi' w wa wn wc wd):=h';have HL:Hid (xs.length=n):=h.len;have HA:Hid (Asc xs):=ha;clear h h' ha;go_enter Tryz.func108, Tryz.ntmps108;go_wp2_with fail;go_loopw [9,10] (fun s9 J wr=>∃ p q:Nat,s9=.int .i64 p∧J=.int .i64 q∧p≤q∧q≤n∧(∀ t,t<p→ltB (xs.getD t []) wd=true)∧(∀ t,q≤t→t<xs.length→ltB (xs.getD t []) wd=false)∧wr=w) (fun s9 J _=>(intOf J).toNat - (intOf s9).toNat)
 case atStart=>exact ⟨0,n,rfl,rfl,Nat.zero_le _,Nat.le_refl _,fun t ht=>by omega,fun t h1 h2=>by rw [HL.out] at h2;omega,rfl⟩
 case round =>
  obtain ⟨p,q,rfl,rfl,a0,U,G,A,T⟩:=hrel;subst T;have z:Hid (∀ t,t<p→ltB (xs.getD t []) wd=true):=G;have u:Hid (∀ t,q≤t→t<xs.length→ltB (xs.getD t []) wd=false):=A;clear G A;by_cases hlt:p<q
  · rcases HR.out.cells with hz | ⟨b,R,e1,_,_,hc⟩
    · omega
    subst e1;obtain ⟨v,c0,ea,en,ec,rfl,hr⟩:=hc ((p+q) / 2) (by omega);have HE:Hid (Rd lo hi wr ea en ec (xs.getD ((p+q) / 2) [])):=hr;obtain ⟨cv,D⟩:∃ cv,cmpZ (xs.getD ((p+q) / 2) []) wd=cv:=⟨_,rfl⟩;have F:Hid (cmpZ (xs.getD ((p+q) / 2) []) wd=cv):=D;have N:Hid (decide (0≤cv)=!(ltB (xs.getD ((p+q) / 2) []) wd)):=by unfold Hid;rw [← D];exact cmp_lt _ _
    clear hc hr D;by_cases h0:cv<0
    · have HT:Hid (ltB (xs.getD ((p+q) / 2) []) wd=true):=by
       have:=N.out;rw [decide_eq_false (by omega)] at this;unfold Hid;cases e:ltB (xs.getD ((p+q) / 2) []) wd
       · rw [e] at this;exact absurd this (by simp)
       rfl
      have I:Hid (∀ t,t<(p+q) / 2+1→ltB (xs.getD t []) wd=true):=fun t ht=>by
       by_cases e:t=(p+q) / 2
       · rw [e];exact HT.out
       exact less_trans _ _ _ (HA.out ((p+q) / 2) t (by omega) (by rw [HL.out];omega)) HT.out
      go_wp2_with (go_at_call 98;refine (bytesCompare_any HE.out HW.out).mono ?_;rintro e w5 ⟨rfl,o⟩;rw [o,F.out];clear o);go_roundw
      case rel=>exact ⟨(p+q) / 2+1,q,by rw [show ((p:Int)+(q:Int)) / 2+1=(((p+q) / 2+1:Nat):Int) by omega],rfl,by omega,U,I.out,u.out,by first | rfl | trivial⟩
      case measure=>simp [intOf];omega
    have V:0≤cv:=by omega
    have HT:Hid (ltB (xs.getD ((p+q) / 2) []) wd=false):=by
     have:=N.out;rw [decide_eq_true V] at this;unfold Hid;cases e:ltB (xs.getD ((p+q) / 2) []) wd
     · rfl
     rw [e] at this;exact absurd this (by simp)
    have E:Hid (∀ t,(p+q) / 2≤t→t<xs.length→ltB (xs.getD t []) wd=false):=fun t h1 h2=>by
     by_cases e:t=(p+q) / 2
     · rw [e];exact HT.out
     cases e2:ltB (xs.getD t []) wd
     · rfl
     have:=less_trans _ _ _ (HA.out t ((p+q) / 2) (by omega) h2) e2;have h3:=HT.out;unfold ltB at h3;rw [h3] at this;exact absurd this (by simp)
    go_wp2_with (go_at_call 98;refine (bytesCompare_any HE.out HW.out).mono ?_;rintro e w5 ⟨rfl,o⟩;rw [o,F.out];clear o);go_roundw
    case rel=>exact ⟨p,(p+q) / 2,rfl,by rw [show ((p:Int)+(q:Int)) / 2=(((p+q) / 2:Nat):Int) by omega],by omega,by omega,z.out,E.out,by first | rfl | trivial⟩
    case measure=>simp [intOf];omega
  have M:Hid (p=q):=by unfold Hid;omega
  have hd:decide ((p:Int)<(q:Int))=false:=by simp;omega
  have a4:decide (p<q)=false:=by simp;omega
  by_cases hpn:p<n
  · rcases HR.out.cells with hz | ⟨b,R,e1,_,_,hc⟩
    · omega
    subst e1;obtain ⟨v,c0,ea,en,ec,rfl,hr⟩:=hc p hpn;have HE:Hid (Rd lo hi wr ea en ec (xs.getD p [])):=hr;obtain ⟨cv,D⟩:∃ cv,cmpZ (xs.getD p []) wd=cv:=⟨_,rfl⟩;have F:Hid (cmpZ (xs.getD p []) wd=cv):=D;have O:Hid (decide (cv=0)=hit xs wd p):=by unfold Hid;rw [← D];exact cmp_zero _ _
    have a1:(p:Int)<(n:Int):=by omega
    clear hc hr D hlt;by_cases h0:cv=0
    · have HG:Hid (idxO xs wd=some p):=idx_some (by rw [HL.out];exact hpn) (by rw [← O.out];exact decide_eq_true h0) (fun j hj=>hit_not (z.out j hj));subst h0;go_wp2_with (go_at_call 98;refine (bytesCompare_any HE.out HW.out).mono ?_;rintro e w5 ⟨rfl,o⟩;rw [o,F.out];clear o);refine bodyPost_ret (v:=.tuple #[.int .i64 p,.bool true]) (by simp [results, Tryz.results108,go_sem]) rfl ?_;exact ⟨p,true,rfl,fun _=>HG.out,fun h=>by simp at h,rfl⟩
    have a3:(cv == 0)=false:=by simpa using h0
    have Y:decide (cv=0)=false:=decide_eq_false h0;have HG:Hid (idxO xs wd=none):=search_end HA.out z.out (by rw [M.out];exact u.out) (fun _=>by rw [← O.out];exact Y);go_wp2_with (go_at_call 98;refine (bytesCompare_any HE.out HW.out).mono ?_;rintro e w5 ⟨rfl,o⟩;rw [o,F.out];clear o);refine bodyPost_ret (v:=.tuple #[.int .i64 p,.bool false]) (by simp [results, Tryz.results108,go_sem]) rfl ?_;exact ⟨p,false,rfl,fun h=>by simp at h,fun _=>HG.out,rfl⟩
  have a2:decide ((p:Int)<(n:Int))=false:=by simp;omega
  have Z:decide (p<n)=false:=by simp;omega
  have HG:Hid (idxO xs wd=none):=search_end HA.out z.out (by rw [M.out];exact u.out) (fun h=>by rw [HL.out] at h;omega);clear hlt hpn;go_wp2_with fail;refine bodyPost_ret (v:=.tuple #[.int .i64 p,.bool false]) (by simp [results, Tryz.results108,go_sem]) rfl ?_;exact ⟨p,false,rfl,fun h=>by simp at h,fun _=>HG.out,rfl⟩
end

section
open Go.RowKit
set_option maxRecDepth 100000 in
set_option maxHeartbeats 8000000 in
theorem flagsOf_any (a:Option Addr) (n o:Nat) (xs:List (List Int)) (sa:Option Addr) (sc:Nat) (ls:List (List Bool)) (wa:Option Addr) (wn wc:Nat) (wd:List Int) (L:Nat) (w:World) {lo hi lo' hi' D u:Nat} (h:RSS lo hi w a n o xs) (h2:RFF D u w sa n sc ls) (h':Rd lo' hi' w wa wn wc wd)
    (ha:Asc xs) (hn:n≤1048576) (F:∀ i,i<n→(ls.getD i []).length=L) (hL:1≤L∧L≤16384) :
    Calls Tryz.prog 82 #[.slice a n o,.slice sa n sc,.slice wa wn wc,.int .i64 L] w fun e w'=>∃ b2 o2 c,e=.returned (.slice (some ⟨b2,o2,none⟩) L c)∧((L≤c∧c≤9223372036854775807)∧(b2<u∨w.heap.size≤b2))∧(∀ q,q<L→w'.cell? ⟨b2,o2+q,none⟩=some (.bool (flagO xs ls wd q)))∧Below w.heap.size w w':=by
 have HR:Hid (RSS lo hi w a n o xs):=h;have HS:Hid (RFF D u w sa n sc ls):=h2;have HW:Hid (Rd lo' hi' w wa wn wc wd):=h';have HA:Hid (Asc xs):=ha;have O:Hid (∀ i,i<n→(ls.getD i []).length=L):=F;have J:=fun w:World=>run_make_row' (P:=Tryz.prog) 65 4 (.bool false) 1 Tryz.underlying65 Tryz.info4w rfl .i64 .i64 L (by omega) (by omega) w
 have A:Hid ((w.alloc (.cells (madeCells #[(.bool false)] L) 4)).rowIs w.heap.size 4 L (fun _=>.bool false)):=World.rowIs_made w (.bool false) L 4;have R:Hid (Below w.heap.size w (w.alloc (.cells (madeCells #[(.bool false)] L) 4))):=(Below.refl _ _).alloc (Nat.le_refl _) _;clear h h2 h' ha F;go_enter Tryz.func82, Tryz.ntmps82;go_wp2_with fail;refine (search_any a n o xs wa wn wc wd w HR.out HW.out HA.out hn).mono ?_;rintro e w5 ⟨i,f,rfl,hT,hF,E⟩;rw [E];clear E;cases f with
 | true =>
  have hO:=hT rfl;have G:i<n:=by have:=idx_of hO;rwa [HR.out.len] at this
  rcases HS.out.cells with hz | ⟨b,T,e1,_,_,hc⟩
  · omega
  subst e1;obtain ⟨v,c0,ea,en,ec,rfl,hr⟩:=hc i G;have M:en=L:=by have h1:=hr.len;have h3:=O.out i G;omega
  subst M;have z:=hr.fits;rcases hr.cells with hz | ⟨b2,o2,e2,_,N,I⟩
  · omega
  subst e2
  have HC:Hid (∀ q,q<en→w.cell? ⟨b2,o2+q,none⟩=some (.bool (flagO xs ls wd q))):=fun q hq=>by
   obtain ⟨v2,k2,rfl⟩:=I q hq;unfold flagO;rw [hO];exact k2
  have U:(i:Int)<(n:Int):=by omega
  clear hc hr I hT hF hO J;go_wp2_with fail;go_ret;exact ⟨b2,o2,ec,rfl,⟨z,.inl N⟩,HC.out,Below.refl _ _⟩
 | false =>
  have hO:=hF rfl
  have HC:Hid (∀ q,q<L→(w.alloc (.cells (madeCells #[(.bool false)] L) 4)).cell? ⟨w.heap.size,0+q,none⟩=some (.bool (flagO xs ls wd q))):=fun q hq=>by
   unfold flagO;rw [hO,Nat.zero_add];exact A.out.cell hq
  clear hT hF hO;go_wp2_with fail;go_ret;exact ⟨w.heap.size,0,L,rfl,⟨⟨Nat.le_refl _,by omega⟩,.inr (Nat.le_refl _)⟩,HC.out,R.out⟩
end

end Go.Proofs.YtellcgmabimieaaGreatDoor
