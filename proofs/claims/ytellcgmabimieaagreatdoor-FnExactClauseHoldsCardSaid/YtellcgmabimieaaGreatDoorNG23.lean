/- Several texts in one: WdRel1, HlI. -/
import Derived.Test.YtellcgmabimieaaGreatDoorNG18
import Derived.Test.YtellcgmabimieaaGreatDoorNG20
import Derived.Deep.RegionHeld3
import Derived.Test.YtellcgmabimieaaGreatDoorNG21
import Derived.Test.YtellcgmabimieaaGreatDoorNG19
namespace Go.Proofs.YtellcgmabimieaaGreatDoor

section
open Go.RowKit
set_option maxRecDepth 100000 in
set_option maxHeartbeats 8000000 in
theorem related_any {na:Option Addr} {nn nc:Nat} {sa:Option Addr} {sn sc:Nat} {ra:Option Addr} {rn rc:Nat} {la:Option Addr} {ln lc:Nat} {ia:Option Addr} {im ic:Nat} {ta:Option Addr} {tn tc:Nat} {x:WD} {wa:Option Addr} {wn wc:Nat} {wd:List Int} {w:World} {lo hi lo' hi':Nat} {L:Nat} (h:RdW lo hi w na nn nc sa sn sc ra rn rc la ln lc ia im ic ta tn tc x) (h':Rd lo' hi' w wa wn wc wd) (hn:x.n=(L:Int)) (U:hi≤w.heap.size) (J:hi'≤w.heap.size) (N:worldB x=true) :
    Calls Tryz.prog 43 #[.agg #[.int .i64 (L:Int),.slice ia im ic,.slice ta tn tc,.int .i64 (L:Int),.slice na nn nc,.slice sa sn sc,.slice ra rn rc,.slice la ln lc,.slice ia im ic,.slice ta tn tc],.slice wa wn wc] w fun e w'=>∃ b2 o2 c,e=.returned (.slice (some ⟨b2,o2,none⟩) (L*L) c)∧((L*L≤c∧c≤9223372036854775807)∧(b2<hi∨w.heap.size≤b2))∧(∀ q,q<L*L→w'.cell? ⟨b2,o2+q,none⟩=some (.bool (flagO x.roles x.rels wd q)))∧Below w.heap.size w w':=by
 obtain ⟨W0,u⟩:∃ W0,W0=w.alloc (.cells #[.int .i64 (L:Int),.slice ia im ic,.slice ta tn tc,.int .i64 (L:Int),.slice na nn nc,.slice sa sn sc,.slice ra rn rc,.slice la ln lc,.slice ia im ic,.slice ta tn tc] 80):=⟨_,rfl⟩;have G:Hid (W0=w.alloc (.cells #[.int .i64 (L:Int),.slice ia im ic,.slice ta tn tc,.int .i64 (L:Int),.slice na nn nc,.slice sa sn sc,.slice ra rn rc,.slice la ln lc,.slice ia im ic,.slice ta tn tc] 80)):=u;have E:Below w.heap.size w W0:=by rw [u];exact (Below.refl _ _).alloc (Nat.le_refl _) _
 have z:Hid (Below w.heap.size w W0):=E;have HR:Hid (RdW lo hi W0 na nn nc sa sn sc ra rn rc la ln lc ia im ic ta tn tc x):=h.below E U;have HW:Hid (Rd lo' hi' W0 wa wn wc wd):=h'.below E J;have HI:Hid _:=(worldB_iff x).1 N;have F:1≤L∧L≤128:=by have h1:=HI.out.1.1;rw [hn] at h1;omega
 obtain ⟨sq,o⟩:∃ sq,sq=L*L:=⟨_,rfl⟩;have A:(L:Int)*(L:Int)=(sq:Int):=by rw [o];simp
 have I:1≤sq∧sq≤16384:=by
  rw [o];exact ⟨Nat.mul_le_mul F.1 F.1,Nat.le_trans (Nat.mul_le_mul F.2 F.2) (by decide)⟩
 rw [← o];have T:ln=rn:=by have h1:=HI.out.1.2.2.2.2.2.1;rw [h.rels.len,h.roles.len] at h1;exact h1
 subst T
 have Y:Hid (∀ i,i<ln→(x.rels.getD i []).length=sq):=fun i hi=>by
  have h1:=flags_long HI.out.2.2.2.1 (i:=i) (by rw [h.rels.len];exact hi);rw [hn,A] at h1;omega
 have HA:Hid (Asc x.roles):=asc_of HI.out.2.1.2.1;have M:Hid (ln≤1048576):=by have h1:=HI.out.1.2.2.1;rw [h.roles.len] at h1;unfold Hid;omega
 have V:Hid (1≤sq∧sq≤16384):=I;clear h h' E u hn N o;go_enter Tryz.func43, Tryz.ntmps43;go_wp2_with fail;rw [← G.out];refine (flagsOf_any ra ln rc x.roles la lc x.rels wa wn wc wd sq W0 HR.out.roles HR.out.rels HW.out HA.out M.out Y.out V.out).mono ?_;rintro e w5 ⟨b2,o2,c,rfl,hf,hc,R⟩;have HC:Hid (∀ q,q<sq→w5.cell? ⟨b2,o2+q,none⟩=some (.bool (flagO x.roles x.rels wd q))):=hc;have Z:Hid (Below w.heap.size w w5):=z.out.trans (R.mono z.out.size);clear hc R;go_wp2_with fail;go_ret;exact ⟨b2,o2,c,rfl,⟨hf.1,hf.2.imp id (fun h=>Nat.le_trans z.out.size h)⟩,HC.out,Z.out⟩
set_option maxRecDepth 100000 in
set_option maxHeartbeats 4000000 in
theorem row_any {na:Option Addr} {nn nc:Nat} {sa:Option Addr} {sn sc:Nat} {ra:Option Addr} {rn rc:Nat} {la:Option Addr} {ln lc:Nat} {ia:Option Addr} {im ic:Nat} {ta:Option Addr} {tn tc:Nat} {w:World} {L p b2 o2 c:Nat} (hL:L≤128) (hp:p<L) (hc:L*L≤c∧c≤9223372036854775807) :
    Calls Tryz.prog 81 #[.agg #[.int .i64 (L:Int),.slice ia im ic,.slice ta tn tc,.int .i64 (L:Int),.slice na nn nc,.slice sa sn sc,.slice ra rn rc,.slice la ln lc,.slice ia im ic,.slice ta tn tc],.slice (some ⟨b2,o2,none⟩) (L*L) c,.int .i64 p] w fun e w'=>e=.returned (.slice (some ⟨b2,o2+p*L,none⟩) L (c - p*L))∧Below w.heap.size w w':=by
 obtain ⟨W0,u⟩:∃ W0,W0=w.alloc (.cells #[.int .i64 (L:Int),.slice ia im ic,.slice ta tn tc,.int .i64 (L:Int),.slice na nn nc,.slice sa sn sc,.slice ra rn rc,.slice la ln lc,.slice ia im ic,.slice ta tn tc] 80):=⟨_,rfl⟩;have G:Hid (W0=w.alloc (.cells #[.int .i64 (L:Int),.slice ia im ic,.slice ta tn tc,.int .i64 (L:Int),.slice na nn nc,.slice sa sn sc,.slice ra rn rc,.slice la ln lc,.slice ia im ic,.slice ta tn tc] 80)):=u;have z:Hid (Below w.heap.size w W0):=by rw [u];exact (Below.refl _ _).alloc (Nat.le_refl _) _
 have O:BoxSc W0 w.heap.size (.int .i64 (L:Int)) (.slice ia im ic) (.slice ta tn tc) (.int .i64 (L:Int)) (.slice na nn nc) (.slice sa sn sc) (.slice ra rn rc) (.slice la ln lc) (.slice ia im ic) (.slice ta tn tc):=by rw [u];exact BoxSc.new w _ _ _ _ _ _ _ _ _ _
 obtain ⟨m0,m1,m2,m3,m4,m5,m6,m7,m8,m9⟩:=O.cells;obtain ⟨sq,o⟩:∃ sq,sq=L*L:=⟨_,rfl⟩;obtain ⟨pp,D⟩:∃ pp,pp=p*L:=⟨_,rfl⟩;have A:(p:Int)*(L:Int)=(pp:Int):=by rw [D];simp
 have a1:pp+L≤sq:=by
  rw [D,o];have h1:(p+1)*L≤L*L:=Nat.mul_le_mul_right L hp;have h2:(p+1)*L=p*L+L:=by rw [Nat.add_mul,Nat.one_mul]
  omega
 have a0:sq≤16384:=by rw [o];exact Nat.le_trans (Nat.mul_le_mul hL hL) (by decide)
 rw [← o] at hc ⊢;rw [← D];obtain ⟨a3,a2⟩:=hc;clear o D u O;go_enter Tryz.func81, Tryz.ntmps81;go_upto_region 1 with fail;rw [← G.out]
 first | go_region | fail
 all_goals
  go_wp2_with fail;go_ret;exact ⟨rfl,z.out.drew⟩
end

section
open Go.RowKit Go.Deep
set_option linter.unusedVariables false
set_option maxRecDepth 100000 in
set_option maxHeartbeats 8000000 in
theorem litQ_any {sb pb:Nat} {a:Option Addr} {n A:Nat} {ls:List (List Bool)} {w:World} {lo hi:Nat} {p q e L:Nat} (h1:w.cell? ⟨sb,0,none⟩=some (.slice a n A)) (h2:w.cell? ⟨pb,0,none⟩=some (.int .i64 (p:Nat))) (h3:w.cell? ⟨pb,1,none⟩=some (.int .i64 (q:Nat))) (h:RFF lo hi w a n A ls) (hp:p<16777216) (hq:q<16777216) (he:e<L) (M:∀ i,i<n→(ls.getD i []).length=L) (hn:n≤24) :
    Calls Tryz.prog 80 #[.int .i64 (e:Nat),.pointer (some ⟨sb,0,none⟩),.pointer (some ⟨pb,0,none⟩)] w fun r w'=>r=.returned (.bool (partE ls n p q e))∧w'=w:=by
 have HR:Hid (RFF lo hi w a n A ls):=h;have au:Hid (∀ i,i<n→(ls.getD i []).length=L):=M;have HP:Hid (p<16777216∧q<16777216):=⟨hp,hq⟩;have aA:=h.fits;clear h M;go_enter Tryz.func80, Tryz.ntmps80;go_wp2_with fail;go_loopw [10] (fun i wr=>∃ k:Nat,k≤n∧i=.int .i64 k∧(∀ j,j<k→litE ls p q e j=false)∧wr=w) (fun i _=>n - (intOf i).toNat)
 case atStart=>exact ⟨0,Nat.zero_le _,rfl,fun j hj=>absurd hj (by omega),rfl⟩
 case round =>
  obtain ⟨k,hk,rfl,o,rfl⟩:=hrel;have u:Hid (∀ j,j<k→litE ls p q e j=false):=o;clear o;by_cases z:k<n
  · have N:(k:Int)<(n:Int):=by omega
    have az:min k 64=k:=by omega
    have b1:=bit_at p k HP.out.1;have b2:=bit_at q k HP.out.2;obtain ⟨x1,a2⟩:∃ b,b=p.testBit k:=⟨_,rfl⟩;obtain ⟨x2,a1⟩:∃ b,b=q.testBit k:=⟨_,rfl⟩;obtain ⟨fl,I⟩:∃ b,b=(ls.getD k []).getD e false:=⟨_,rfl⟩;have HV:Hid (litE ls p q e k=if fl=true then x1 else x2):=by unfold Hid litE;rw [a2,a1,I]
    rw [← a2] at b1;rw [← a1] at b2;rcases HR.out.cells with hz | ⟨bl,ol,el,_,_,ag⟩
    · omega
    subst el;obtain ⟨vl,aE,ea,en,ec,rfl,Z⟩:=ag k z;have al:en=L:=by have h1:=Z.len;have h3:=au.out k z;omega
    subst al;have a6:=Z.fits;rcases Z.cells with hz | ⟨b2,o2,e2,_,aD,O⟩
    · omega
    subst e2;obtain ⟨v2,am,rfl⟩:=O e he;rw [← I] at am;have aC:(e:Int)<(en:Int):=by omega
    have E:Hid (litE ls p q e k=true→partE ls n p q e=true):=fun hh=>partE_at z hh
    have a0:Hid (litE ls p q e k=false→∀ j,j<k+1→litE ls p q e j=false):=fun hh j hj=>by
     by_cases e':j=k
     · subst e';exact hh
     exact u.out j (by omega)
    clear a2 a1 I Z O ag;cases x1 <;> cases x2 <;> cases fl
    · have HN:Hid (∀ j,j<k+1→litE ls p q e j=false):=a0.out (by rw [HV.out];rfl);go_wp2_with fail;go_roundw
      case rel=>exact ⟨k+1,by omega,by go_num,HN.out,by first | rfl | trivial⟩
      case measure=>simp [intOf];omega
    · have HN:Hid (∀ j,j<k+1→litE ls p q e j=false):=a0.out (by rw [HV.out];rfl);go_wp2_with fail;go_roundw
      case rel=>exact ⟨k+1,by omega,by go_num,HN.out,by first | rfl | trivial⟩
      case measure=>simp [intOf];omega
    · have HN:Hid (partE ls n p q e=true):=E.out (by rw [HV.out];rfl);go_wp2_with fail;go_ret;exact ⟨rb HN.out.symm,rfl⟩
    · have HN:Hid (∀ j,j<k+1→litE ls p q e j=false):=a0.out (by rw [HV.out];rfl);go_wp2_with fail;go_roundw
      case rel=>exact ⟨k+1,by omega,by go_num,HN.out,by first | rfl | trivial⟩
      case measure=>simp [intOf];omega
    · have HN:Hid (∀ j,j<k+1→litE ls p q e j=false):=a0.out (by rw [HV.out];rfl);go_wp2_with fail;go_roundw
      case rel=>exact ⟨k+1,by omega,by go_num,HN.out,by first | rfl | trivial⟩
      case measure=>simp [intOf];omega
    · have HN:Hid (partE ls n p q e=true):=E.out (by rw [HV.out];rfl);go_wp2_with fail;go_ret;exact ⟨rb HN.out.symm,rfl⟩
    · have HN:Hid (partE ls n p q e=true):=E.out (by rw [HV.out];rfl);go_wp2_with fail;go_ret;exact ⟨rb HN.out.symm,rfl⟩
    have HN:Hid (partE ls n p q e=true):=E.out (by rw [HV.out];rfl);go_wp2_with fail;go_ret;exact ⟨rb HN.out.symm,rfl⟩
  have N:¬ ((k:Int)<(n:Int)):=by omega
  have HN:Hid (partE ls n p q e=false):=partE_none (fun i hi=>u.out i (by omega));go_wp2_with fail;go_ret;exact ⟨rb HN.out.symm,rfl⟩
set_option maxRecDepth 100000 in
set_option maxHeartbeats 8000000 in
theorem holdersOf_any {ia:Option Addr} {im ic:Nat} {ta:Option Addr} {tn tc:Nat} {na:Option Addr} {nn nc:Nat} {sa:Option Addr} {sn sc:Nat} {ra:Option Addr} {rn rc:Nat} {la:Option Addr} {ln lc:Nat} {a:Option Addr} {n A:Nat} {ls:List (List Bool)} {w:World} {lo hi:Nat} {p q L:Nat} (hL:L≤128) (h:RFF lo hi w a n A ls) (ae:hi≤w.heap.size) (hp:p<16777216) (hq:q<16777216) (M:∀ i,i<n→(ls.getD i []).length=L) (hn:n≤24) :
    Calls Tryz.prog 41 #[.agg #[.int .i64 (L:Int),.slice ia im ic,.slice ta tn tc,.int .i64 (L:Int),.slice na nn nc,.slice sa sn sc,.slice ra rn rc,.slice la ln lc,.slice ia im ic,.slice ta tn tc],.agg #[.int .i64 (p:Nat),.int .i64 (q:Nat)],.slice a n A] w fun r w'=>∃ g,r=.returned (.slice (some ⟨g,0,none⟩) L L)∧w.heap.size≤g∧FlS w' g 0 L (partE ls n p q)∧Below w.heap.size w w':=by
 obtain ⟨W,hW⟩:∃ W,W=((w.alloc (.cells #[.int .i64 (L:Int),.slice ia im ic,.slice ta tn tc,.int .i64 (L:Int),.slice na nn nc,.slice sa sn sc,.slice ra rn rc,.slice la ln lc,.slice ia im ic,.slice ta tn tc] 80)).alloc (.cells #[.int .i64 (p:Nat),.int .i64 (q:Nat)] 48)).alloc (.cells #[.slice a n A] 23):=⟨_,rfl⟩;have HW:Hid (W=((w.alloc (.cells #[.int .i64 (L:Int),.slice ia im ic,.slice ta tn tc,.int .i64 (L:Int),.slice na nn nc,.slice sa sn sc,.slice ra rn rc,.slice la ln lc,.slice ia im ic,.slice ta tn tc] 80)).alloc (.cells #[.int .i64 (p:Nat),.int .i64 (q:Nat)] 48)).alloc (.cells #[.slice a n A] 23)):=hW;have a4:W.heap.size=w.heap.size+3:=by rw [hW];simp
 have D:Below w.heap.size w W:=by rw [hW];exact (((Below.refl _ _).alloc (Nat.le_refl _) _).alloc (by simp) _).alloc (by simp;omega) _
 have R:BoxSc W w.heap.size (.int .i64 (L:Int)) (.slice ia im ic) (.slice ta tn tc) (.int .i64 (L:Int)) (.slice na nn nc) (.slice sa sn sc) (.slice ra rn rc) (.slice la ln lc) (.slice ia im ic) (.slice ta tn tc):=by rw [hW];exact ((BoxSc.new w _ _ _ _ _ _ _ _ _ _).below ((Below.refl _ _).alloc (Nat.le_refl _) _) (by simp)).below ((Below.refl _ _).alloc (Nat.le_refl _) _) (by simp;omega)
 have a7:BoxP 48 W (w.heap.size+1) p q:=by
  have e:=BoxP.new 48 (w.alloc (.cells #[.int .i64 (L:Int),.slice ia im ic,.slice ta tn tc,.int .i64 (L:Int),.slice na nn nc,.slice sa sn sc,.slice ra rn rc,.slice la ln lc,.slice ia im ic,.slice ta tn tc] 80)) (p:Int) (q:Int);rw [World.size_alloc] at e;rw [hW];exact e.below ((Below.refl _ _).alloc (Nat.le_refl _) _) (by simp)
 have ah:W.cell? ⟨w.heap.size+2,0,none⟩=some (.slice a n A):=by
  have e:=(fun X:World=>(by simp:(X.alloc (.cells #[.slice a n A] 23)).cell? ⟨X.heap.size,0,none⟩=some (.slice a n A))) ((w.alloc (.cells #[.int .i64 (L:Int),.slice ia im ic,.slice ta tn tc,.int .i64 (L:Int),.slice na nn nc,.slice sa sn sc,.slice ra rn rc,.slice la ln lc,.slice ia im ic,.slice ta tn tc] 80)).alloc (.cells #[.int .i64 (p:Nat),.int .i64 (q:Nat)] 48));rw [World.size_alloc,World.size_alloc] at e;rw [hW];exact e
 have HQ:Hid (∀ (e:Nat) (V:World),e<L→Below W.heap.size W V→Calls Tryz.prog 80 (#[.int .i64 (e:Nat)]++#[.pointer (some ⟨w.heap.size+2,0,none⟩),.pointer (some ⟨w.heap.size+1,0,none⟩)]) V fun r w'=>r=.returned (.bool (partE ls n p q e))∧Below V.heap.size V w'):=fun e V he hV =>
  (litQ_any ((hV.cell (p:=⟨w.heap.size+2,0,none⟩) (show w.heap.size+2<W.heap.size by omega)).trans ah) (a7.below hV (by omega)).cells.1 (a7.below hV (by omega)).cells.2 ((h.below D ae).below hV (by omega)) hp hq he M hn).mono fun r w' ⟨q1,q2⟩=>⟨q1,by rw [q2];exact Below.refl _ _⟩
 have a8:Hid (Below w.heap.size w W):=D;obtain ⟨m0,m1,m2,m3,m4,m5,m6,m7,m8,m9⟩:=R.cells;clear h ae hp hq M hn D R a7 ah hW;go_enter Tryz.func41, Tryz.ntmps41;go_upto_region 1 with fail;rw [← HW.out];clear a4;go_wp2_with fail;refine (each_any 80 #[.pointer (some ⟨w.heap.size+2,0,none⟩),.pointer (some ⟨w.heap.size+1,0,none⟩)] (partE ls n p q) L W hL (fun _ _=>rfl) HQ.out).mono ?_;rintro r w1 ⟨g,rfl,af,a6,T⟩;have HF:Hid (FlS w1 g 0 L (partE ls n p q)):=a6;have HG:Hid (w.heap.size≤g):=Nat.le_trans a8.out.size af;have H1:Hid (Below w.heap.size w w1):=a8.out.trans (T.mono a8.out.size);clear a6 T af;go_wp2_with fail;go_ret;exact ⟨g,rfl,HG.out,HF.out,H1.out⟩
set_option maxRecDepth 100000 in
set_option maxHeartbeats 8000000 in
theorem indexNo_any {L ab ao ac:Nat} {f:Nat→Bool} {w:World} (hL:L≤16384) (ha:FlS w ab ao L f) (ai:L≤ac∧ac≤9223372036854775807) :
    Calls Tryz.prog 78 #[.slice (some ⟨ab,ao,none⟩) L ac,.bool false] w fun r w'=>∃ i:Int,r=.returned (.int .i64 i)∧decide (0≤i)=!(onE L f)∧w'=w:=by
 have HA:Hid (FlS w ab ao L f):=ha;clear ha;go_enter Tryz.func78, Tryz.ntmps78;go_wp2_with fail;go_loopw [8] (fun i wr=>∃ k:Nat,k≤L∧i=.int .i64 k∧(∀ j,j<k→f j=true)∧wr=w) (fun i _=>L - (intOf i).toNat)
 case atStart=>exact ⟨0,Nat.zero_le _,rfl,fun j hj=>absurd hj (by omega),rfl⟩
 case round =>
  obtain ⟨k,hk,rfl,o,rfl⟩:=hrel;have u:Hid (∀ j,j<k→f j=true):=o;clear o;by_cases z:k<L
  · have N:(k:Int)<(L:Int):=by omega
    obtain ⟨x0,G⟩:∃ b,b=f k:=⟨_,rfl⟩;have HX:Hid (x0=f k):=G;have c0:=HA.out.2 k z;rw [← G] at c0;clear G;cases x0 with
    | false =>
     have HN:Hid (onE L f=false):=onE_at z HX.out.symm;go_wp2_with fail;go_ret;exact ⟨k,rfl,by rw [HN.out];simp,rfl⟩
    | true =>
     have HN:Hid (∀ j,j<k+1→f j=true):=fun j hj=>by
      by_cases e':j=k
      · subst e';exact HX.out.symm
      exact u.out j (by omega)
     go_wp2_with fail;go_roundw
     case rel=>exact ⟨k+1,by omega,by go_num,HN.out,by first | rfl | trivial⟩
     case measure=>simp [intOf];omega
  have N:¬ ((k:Int)<(L:Int)):=by omega
  have HN:Hid (onE L f=true):=onE_all fun e he=>u.out e (by omega)
  go_wp2_with fail;go_ret;exact ⟨-1,rfl,by rw [HN.out];rfl,rfl⟩
set_option maxRecDepth 100000 in
set_option maxHeartbeats 8000000 in
theorem hasNo_any {L ab ao ac:Nat} {f:Nat→Bool} {w:World} (hL:L≤16384) (ha:FlS w ab ao L f) (ai:L≤ac∧ac≤9223372036854775807) :
    Calls Tryz.prog 40 #[.slice (some ⟨ab,ao,none⟩) L ac,.bool false] w fun r w'=>r=.returned (.bool (!(onE L f)))∧w'=w:=by
 have HA:Hid (FlS w ab ao L f):=ha;clear ha;go_enter Tryz.func40, Tryz.ntmps40;go_wp2_with fail;refine (indexNo_any hL HA.out ai).mono ?_;rintro r w1 ⟨i,rfl,hi,rfl⟩;have HI:Hid (decide (0≤i)=!(onE L f)):=hi;clear hi;go_wp2_with fail;go_ret;exact ⟨rb HI.out,rfl⟩
set_option maxRecDepth 100000 in
set_option maxHeartbeats 8000000 in
theorem holdsAlong_any {ia:Option Addr} {im ic:Nat} {ta:Option Addr} {tn tc:Nat} {na:Option Addr} {nn nc:Nat} {sa:Option Addr} {sn sc:Nat} {ra:Option Addr} {rn rc:Nat} {la:Option Addr} {ln lc:Nat} {x:WD} {rl:List Int} {f g:Nat→Bool} {b2 o2 c2 xb xo xc yb yo yc:Nat} {w:World} {L:Nat} (hL:L≤128) (hr:b2<w.heap.size∧∀ q,q<L*L→w.cell? ⟨b2,o2+q,none⟩=some (.bool (flagO x.roles x.rels rl q))) (O:L*L≤c2∧c2≤9223372036854775807) (hf:FlS w xb xo L f) (aB:L≤xc∧xc≤9223372036854775807) (hg:FlS w yb yo L g) (aa:L≤yc∧yc≤9223372036854775807) :
    Calls Tryz.prog 42 #[.agg #[.int .i64 (L:Int),.slice ia im ic,.slice ta tn tc,.int .i64 (L:Int),.slice na nn nc,.slice sa sn sc,.slice ra rn rc,.slice la ln lc,.slice ia im ic,.slice ta tn tc],.slice (some ⟨b2,o2,none⟩) (L*L) c2,.slice (some ⟨xb,xo,none⟩) L xc,.slice (some ⟨yb,yo,none⟩) L yc] w fun r w'=>r=.returned (.bool (alongE x rl L f g))∧Below w.heap.size w w':=by
 obtain ⟨W,hW⟩:∃ W,W=w.alloc (.cells #[.int .i64 (L:Int),.slice ia im ic,.slice ta tn tc,.int .i64 (L:Int),.slice na nn nc,.slice sa sn sc,.slice ra rn rc,.slice la ln lc,.slice ia im ic,.slice ta tn tc] 80):=⟨_,rfl⟩;have HW:Hid (W=w.alloc (.cells #[.int .i64 (L:Int),.slice ia im ic,.slice ta tn tc,.int .i64 (L:Int),.slice na nn nc,.slice sa sn sc,.slice ra rn rc,.slice la ln lc,.slice ia im ic,.slice ta tn tc] 80)):=hW;have a4:W.heap.size=w.heap.size+1:=by rw [hW];simp
 have D:Below w.heap.size w W:=by rw [hW];exact (Below.refl _ _).alloc (Nat.le_refl _) _
 have R:BoxSc W w.heap.size (.int .i64 (L:Int)) (.slice ia im ic) (.slice ta tn tc) (.int .i64 (L:Int)) (.slice na nn nc) (.slice sa sn sc) (.slice ra rn rc) (.slice la ln lc) (.slice ia im ic) (.slice ta tn tc):=by rw [hW];exact BoxSc.new w _ _ _ _ _ _ _ _ _ _
 have HS:Hid (∀ V,Below W.heap.size W V→BoxSc V w.heap.size (.int .i64 (L:Int)) (.slice ia im ic) (.slice ta tn tc) (.int .i64 (L:Int)) (.slice na nn nc) (.slice sa sn sc) (.slice ra rn rc) (.slice la ln lc) (.slice ia im ic) (.slice ta tn tc)):=fun V hV=>R.below hV (by omega)
 have HX:Hid (∀ V,Below W.heap.size W V→FlS V xb xo L f):=fun V hV=>(hf.below D).below hV
 have HY:Hid (∀ V,Below W.heap.size W V→FlS V yb yo L g):=fun V hV=>(hg.below D).below hV
 have ar:Hid (∀ V,Below W.heap.size W V→∀ k,k<L→FlS V b2 (o2+k*L) L (fun q=>relO x rl k q L)):=fun V hV k hk=>by
  have z:b2<W.heap.size:=by omega
  refine ⟨Nat.lt_of_lt_of_le z hV.size,fun q hq=>?_⟩;have h1:=hr.2 (k*L+q) (cell_lt hk hq);rw [← Nat.add_assoc] at h1;exact (hV.cell (p:=⟨b2,o2+k*L+q,none⟩) z).trans ((D.cell (p:=⟨b2,o2+k*L+q,none⟩) hr.1).trans h1)
 have Y:Hid (∀ {V:World},Below W.heap.size W V→Below w.heap.size w V):=fun {V} hV=>D.trans (hV.mono D.size)
 have ax:Hid (∀ k,k<L→L≤c2 - k*L∧c2 - k*L≤9223372036854775807):=fun k hk=>by
  have h1:(k+1)*L≤L*L:=Nat.mul_le_mul_right L hk;have h2:(k+1)*L=k*L+L:=by rw [Nat.add_mul,Nat.one_mul]
  omega
 have ay:Hid (L*L≤c2∧c2≤9223372036854775807):=O;have an:Hid (L≤yc∧yc≤9223372036854775807):=aa;have HE:Hid (alongE x rl L f g=onE L (rowE x rl L f g)):=alongE_rows x rl L f g;obtain ⟨sq,a3⟩:∃ sq,sq=L*L:=⟨_,rfl⟩;have aq:Hid (sq=L*L):=a3;rw [← a3];clear D R hW a4 hf hg hr O aa a3;go_enter Tryz.func42, Tryz.ntmps42;go_upto_region 1 with fail;rw [← HW.out];go_wp2_with fail;go_loopw [13] (fun i wr=>∃ k:Nat,k≤L∧i=.int .i64 k∧(∀ j,j<k→rowE x rl L f g j=true)∧Below W.heap.size W wr) (fun i _=>L - (intOf i).toNat)
 case atStart=>exact ⟨0,Nat.zero_le _,rfl,fun j hj=>absurd hj (by omega),Below.refl _ _⟩
 case round =>
  obtain ⟨k,hk,rfl,o,U⟩:=hrel;have u:Hid (∀ j,j<k→rowE x rl L f g j=true):=o;have J:Hid (Below W.heap.size W wr):=U;clear o U;by_cases z:k<L
  · have N:(k:Int)<(L:Int):=by omega
    obtain ⟨x0,G⟩:∃ b,b=f k:=⟨_,rfl⟩;have aj:Hid (x0=f k):=G;have cx:=(HX.out wr J.out).2 k z;rw [← G] at cx
    have F:Hid (rowE x rl L f g k=true→∀ j,j<k+1→rowE x rl L f g j=true):=fun hh j hj=>by
     by_cases e':j=k
     · subst e';exact hh
     exact u.out j (by omega)
    clear G;cases x0 with
    | true =>
     have HN:Hid (∀ j,j<k+1→rowE x rl L f g j=true):=F.out (by unfold rowE;rw [← aj.out];rfl);go_wp2_with fail;go_roundw
     case rel=>exact ⟨k+1,by omega,by go_num,HN.out,J.out⟩
     case measure=>simp [intOf];omega
    | false =>
     obtain ⟨m0,m1,m2,m3,m4,m5,m6,m7,m8,m9⟩:=(HS.out wr J.out).cells;obtain ⟨kl,a5⟩:∃ kl,kl=k*L:=⟨_,rfl⟩;have av:Hid (kl=k*L):=a5
     have a9:Hid (Calls Tryz.prog 81 #[.agg #[.int .i64 (L:Int),.slice ia im ic,.slice ta tn tc,.int .i64 (L:Int),.slice na nn nc,.slice sa sn sc,.slice ra rn rc,.slice la ln lc,.slice ia im ic,.slice ta tn tc],.slice (some ⟨b2,o2,none⟩) sq c2,.int .i64 k] wr fun e w'=>e=.returned (.slice (some ⟨b2,o2+kl,none⟩) L (c2 - kl))∧Below wr.heap.size wr w'):=by
      unfold Hid;rw [aq.out,a5];exact row_any hL z ay.out
     clear a5;go_wp2_with fail;refine a9.out.mono ?_;rintro e w1 ⟨rfl,T⟩;have H1:Hid (Below W.heap.size W w1):=J.out.trans (T.mono J.out.size)
     have ap:Hid (Calls Tryz.prog 44 #[.slice (some ⟨b2,o2+kl,none⟩) L (c2 - kl),.slice (some ⟨yb,yo,none⟩) L yc] w1 fun r w'=>r=.returned (.bool (rowE x rl L f g k))∧w'=w1):=by
      unfold Hid;rw [av.out];refine (within_any (by omega) (ar.out w1 H1.out k z) (HY.out w1 H1.out) (ax.out k z) an.out).mono ?_;rintro r w' ⟨e1,e2⟩;refine ⟨?_,e2⟩;rw [e1];refine rb ?_;unfold rowE;rw [← aj.out];rfl
     clear T m0 m1 m2 m3 m4 m5 m6 m7 m8 m9;go_wp2_with fail;refine ap.out.mono ?_;rintro e w2 ⟨rfl,ad⟩;rw [ad];clear ad;obtain ⟨v,hv⟩:∃ v,v=rowE x rl L f g k:=⟨_,rfl⟩;rw [← hv];have ak:Hid (v=rowE x rl L f g k):=hv;clear hv;cases v with
     | false =>
      have HN:Hid (alongE x rl L f g=false):=by unfold Hid;rw [HE.out];exact onE_at z ak.out.symm
      go_wp2_with fail;go_ret;exact ⟨rb HN.out.symm,Y.out H1.out⟩
     | true =>
      have HN:Hid (∀ j,j<k+1→rowE x rl L f g j=true):=F.out ak.out.symm;go_wp2_with fail;go_roundw
      case rel=>exact ⟨k+1,by omega,by go_num,HN.out,H1.out⟩
      case measure=>simp [intOf];omega
  have N:¬ ((k:Int)<(L:Int)):=by omega
  have HN:Hid (alongE x rl L f g=true):=by unfold Hid;rw [HE.out];exact onE_all fun e he=>u.out e (by omega)
  go_wp2_with fail;go_ret;exact ⟨rb HN.out.symm,Y.out J.out⟩
end

end Go.Proofs.YtellcgmabimieaaGreatDoor
