/- Several texts in one: SatS1, ClsI3. -/
import Derived.Test.YtellcgmabimieaaGreatDoorNG18
import Derived.Deep.RegionHeld3
import Derived.Deep.DeepCutAuto
import Derived.BigQuiet
import Derived.Test.YtellcgmabimieaaGreatDoorNG20
import Derived.Test.YtellcgmabimieaaGreatDoorNG21
import Derived.Test.YtellcgmabimieaaGreatDoorNG16
namespace Go.Proofs.YtellcgmabimieaaGreatDoor

section
open Go.RowKit Go.Deep
set_option linter.unusedVariables false
set_option maxRecDepth 100000 in
set_option maxHeartbeats 8000000 in
theorem l4roles_any {na:Option Addr} {nn nc:Nat} {sa:Option Addr} {sn sc:Nat} {ra:Option Addr} {rn rc:Nat} {la:Option Addr} {ln lc:Nat} {ia:Option Addr} {im ic:Nat} {ta:Option Addr} {tn tc:Nat} {x:WD} {qa:Option Addr} {qn qc:Nat} {qs:List Int} {ua:Option Addr} {un uc:Nat} {us:List Int} {w:World} {lo hi lo' hi' ac Z:Nat} {L:Nat} (U:worldB x=true) (hn:x.n=(L:Int)) (hL:L≤128) (h:RdW lo hi w na nn nc sa sn sc ra rn rc la ln lc ia im ic ta tn tc x) (hq:Rd lo' hi' w qa qn qc qs) (hu:Rd ac Z w ua un uc us) (Y:hi≤w.heap.size) (G:hi'≤w.heap.size) (F:Z≤w.heap.size) :
    Calls Tryz.prog 62 #[.agg #[.int .i64 L,.slice na nn nc,.slice sa sn sc,.slice ra rn rc,.slice la ln lc,.slice ia im ic,.slice ta tn tc],.slice qa qn qc,.slice ua un uc] w fun r w'=>r=.returned (.bool (rolesB x L qs us))∧Below w.heap.size w w':=by
 obtain ⟨W0,E⟩:∃ W0,W0=w.alloc (.cells #[.int .i64 L,.slice na nn nc,.slice sa sn sc,.slice ra rn rc,.slice la ln lc,.slice ia im ic,.slice ta tn tc] 41):=⟨_,rfl⟩;have ag:Hid (W0=w.alloc (.cells #[.int .i64 L,.slice na nn nc,.slice sa sn sc,.slice ra rn rc,.slice la ln lc,.slice ia im ic,.slice ta tn tc] 41)):=E;have ad:W0.heap.size=w.heap.size+1:=by rw [E];simp
 have D:Below w.heap.size w W0:=by rw [E];exact (Below.refl _ _).alloc (Nat.le_refl _) _
 have ab:Hid (Below w.heap.size w W0):=D;have a7:BoxW 41 W0 w.heap.size (L:Int) (.slice na nn nc) (.slice sa sn sc) (.slice ra rn rc) (.slice la ln lc) (.slice ia im ic) (.slice ta tn tc):=by rw [E];exact BoxW.new _ w _ _ _ _ _ _ _
 have A:Hid (∀ V,Below W0.heap.size W0 V→V.cell? ⟨w.heap.size,0,none⟩=some (.int .i64 L)∧V.cell? ⟨w.heap.size,1,none⟩=some (.slice na nn nc)∧V.cell? ⟨w.heap.size,2,none⟩=some (.slice sa sn sc)∧V.cell? ⟨w.heap.size,3,none⟩=some (.slice ra rn rc)∧V.cell? ⟨w.heap.size,4,none⟩=some (.slice la ln lc)∧V.cell? ⟨w.heap.size,5,none⟩=some (.slice ia im ic)∧V.cell? ⟨w.heap.size,6,none⟩=some (.slice ta tn tc)):=fun V hV=>(a7.below hV (by omega)).cells
 have al:Hid (∀ V,Below W0.heap.size W0 V→∀ p q:Nat,p<L→q<L→Calls Tryz.prog 61 #[.agg #[.int .i64 L,.slice na nn nc,.slice sa sn sc,.slice ra rn rc,.slice la ln lc,.slice ia im ic,.slice ta tn tc],.slice qa qn qc,.int .i64 p,.int .i64 q] V fun r w'=>r=.returned (.bool (relO x qs p q L))∧Below V.heap.size V w'):=fun V hV p q hp T=>l4rel_any ((h.below D Y).below hV (by omega)) ((hq.below D G).below hV (by omega)) hn (by have:=hV.size;omega) (by have:=hV.size;omega) U hp T
 have ak:Hid (∀ V,Below W0.heap.size W0 V→∀ p q:Nat,p<L→q<L→Calls Tryz.prog 61 #[.agg #[.int .i64 L,.slice na nn nc,.slice sa sn sc,.slice ra rn rc,.slice la ln lc,.slice ia im ic,.slice ta tn tc],.slice ua un uc,.int .i64 p,.int .i64 q] V fun r w'=>r=.returned (.bool (relO x us p q L))∧Below V.heap.size V w'):=fun V hV p q hp T=>l4rel_any ((h.below D Y).below hV (by omega)) ((hu.below D F).below hV (by omega)) hn (by have:=hV.size;omega) (by have:=hV.size;omega) U hp T
 have I:Hid (∀ {V:World},Below W0.heap.size W0 V→Below w.heap.size w V):=fun {V} hV=>ab.out.trans (hV.mono ab.out.size)
 clear h hq hu Y G F D a7 E ad U hn;go_enter Tryz.func62, Tryz.ntmps62;go_upto_region 1 with fail;rw [← ag.out];go_wp2_with fail;go_loopw [7] (fun i wr=>∃ p:Nat,p≤L∧i=.int .i64 p∧(∀ a b,a<p→b<L→(relO x qs a b L && !(relO x us a b L))=false)∧Below W0.heap.size W0 wr) (fun i _=>L - (intOf i).toNat)
 case atStart=>exact ⟨0,Nat.zero_le _,rfl,fun a b ha hb=>by omega,Below.refl _ _⟩
 case round =>
  rename World=>wo
  obtain ⟨p,hp,rfl,u,o⟩:=hrel;have J:Hid (∀ a b,a<p→b<L→(relO x qs a b L && !(relO x us a b L))=false):=u;have aa:Hid (Below W0.heap.size W0 wo):=o;obtain ⟨a0,a1,a2,a3,a4,a5,a6⟩:=A.out wo o;clear u o;by_cases hlt:p<L
  · have af:(p:Int)<(L:Int):=by omega
    go_wp2_with fail;go_loopw [8] (fun i wr=>∃ q:Nat,q≤L∧i=.int .i64 q∧(∀ b,b<q→(relO x qs p b L && !(relO x us p b L))=false)∧Below W0.heap.size W0 wr) (fun i _=>L - (intOf i).toNat)
    case atStart=>exact ⟨0,Nat.zero_le _,rfl,fun b hb=>by omega,aa.out⟩
    case round =>
     rename World=>wi
     obtain ⟨q,hq,rfl,u,o⟩:=hrel;have M:Hid (∀ b,b<q→(relO x qs p b L && !(relO x us p b L))=false):=u;have R:Hid (Below W0.heap.size W0 wi):=o;clear a0 a1 a2 a3 a4 a5 a6;obtain ⟨a0,a1,a2,a3,a4,a5,a6⟩:=A.out wi o;clear u o;by_cases hlq:q<L
     · have ae:(q:Int)<(L:Int):=by omega
       obtain ⟨r1,O⟩:∃ b,b=relO x qs p q L:=⟨_,rfl⟩;obtain ⟨r2,N⟩:∃ b,b=relO x us p q L:=⟨_,rfl⟩;have ai:Hid (r1=relO x qs p q L):=O;have ah:Hid (r2=relO x us p q L):=N
       have z:Hid ((r1 && !r2)=false→∀ b,b<q+1→(relO x qs p b L && !(relO x us p b L))=false):=fun hr b hb=>by
        by_cases e':b=q
        · subst e';rw [← O,← N];exact hr
        exact M.out b (by omega)
       have aj:Hid ((r1 && !r2)=true→rolesB x L qs us=false):=fun hr=>rolesB_at hlt hlq (by rw [← O,← N];exact hr)
       clear O N;go_wp2_with fail;refine (al.out wi R.out p q hlt hlq).mono ?_;rintro r w1 ⟨rfl,a9⟩;rw [← ai.out];have H1:Hid (Below W0.heap.size W0 w1):=R.out.trans (a9.mono R.out.size);clear a9 a0 a1 a2 a3 a4 a5 a6;obtain ⟨a0,a1,a2,a3,a4,a5,a6⟩:=A.out w1 H1.out;cases r1 with
       | false =>
        have HN:=z.out rfl;go_wp2_with fail;go_roundw
        case rel=>exact ⟨q+1,by omega,by go_num,HN,H1.out⟩
        case measure=>simp [intOf];omega
       | true =>
        go_wp2_with fail;refine (ak.out w1 H1.out p q hlt hlq).mono ?_;rintro r w2 ⟨rfl,a8⟩;rw [← ah.out];have H2:Hid (Below W0.heap.size W0 w2):=H1.out.trans (a8.mono H1.out.size);clear a8 a0 a1 a2 a3 a4 a5 a6;cases r2 with
        | false =>
         have HN:Hid (rolesB x L qs us=false):=aj.out rfl;go_wp2_with fail;go_ret;exact ⟨rb' HN.out.symm,I.out H2.out⟩
        | true =>
         have HN:=z.out rfl;go_wp2_with fail;go_roundw
         case rel=>exact ⟨q+1,by omega,by go_num,HN,H2.out⟩
         case measure=>simp [intOf];omega
     have ae:¬ ((q:Int)<(L:Int)):=by omega
     have HN:Hid (∀ a b,a<p+1→b<L→(relO x qs a b L && !(relO x us a b L))=false):=fun a b ha hb=>by
      by_cases e':a=p
      · subst e';exact M.out b (by omega)
      exact J.out a b (by omega) hb
     go_wp2_with fail;go_roundw
     case rel=>exact ⟨p+1,by omega,by go_num,HN.out,R.out⟩
     case measure=>simp [intOf];omega
  have af:¬ ((p:Int)<(L:Int)):=by omega
  have HN:Hid (rolesB x L qs us=true):=rolesB_all (fun a b ha hb=>J.out a b (by omega) hb);go_wp2_with fail;go_ret;exact ⟨rb' HN.out.symm,I.out aa.out⟩
end

section
open Go.RowKit
theorem clauseFits_any {aa:Option Addr} {an ac:Nat} {ra:Option Addr} {rn rc:Nat} {wa:Option Addr} {wn wc:Nat} {la:Option Addr} {ln lc:Nat} {k f r u xp xn yp yn:Int} {ia:Option Addr} {im ic:Nat} {a b:Int} {xs:List (Int × Int)} {w:World} {lo hi:Nat} (hR:RP lo hi w ia im ic xs) (z:hi≤w.heap.size) (hT:TabD w) (hg:2<w.heap.size) :
    Calls Tryz.prog 38 #[.agg #[.int .i64 k,.int .i64 f,.int .i64 r,.int .i64 u,.int .i64 xp,.int .i64 xn,.int .i64 yp,.int .i64 yn,.slice ia im ic,.int .i64 a,.int .i64 b],.agg #[.slice aa an ac,.slice ra rn rc,.slice wa wn wc,.slice la ln lc]] w fun e w'=>e=.returned (.bool (fitK an rn ⟨k,f,r,u,xp,xn,yp,yn,xs,a,b⟩))∧Below w.heap.size w w':=by
 cases hok:clauseB k f r u xp xn yp yn xs a b with
 | true=>exact clauseFits_yes hR z hT hg hok
 | false=>exact clauseFits_no hR z hok
set_option maxRecDepth 100000 in
set_option maxHeartbeats 1000000 in
theorem badK_any {aa:Option Addr} {an ac:Nat} {ra:Option Addr} {rn rc:Nat} {wa:Option Addr} {wn wc:Nat} {la:Option Addr} {ln lc:Nat} {k f r u xp xn yp yn:Int} {ia:Option Addr} {im ic:Nat} {a b:Int} {xs:List (Int × Int)} {w:World} {lo hi sp:Nat} (hR:RP lo hi w ia im ic xs) (z:hi≤w.heap.size) (hT:TabD w) (hg:2<w.heap.size) (hs:Blk w sp 46 (.slice aa an ac) (.slice ra rn rc) (.slice wa wn wc) (.slice la ln lc)) :
    Calls Tryz.prog 71 #[.agg #[.int .i64 k,.int .i64 f,.int .i64 r,.int .i64 u,.int .i64 xp,.int .i64 xn,.int .i64 yp,.int .i64 yn,.slice ia im ic,.int .i64 a,.int .i64 b],.pointer (some ⟨sp,0,none⟩)] w fun e w'=>e=.returned (.bool (!fitK an rn ⟨k,f,r,u,xp,xn,yp,yn,xs,a,b⟩))∧Below w.heap.size w w':=by
 obtain ⟨W,hW⟩:∃ W,W=w.alloc (.cells #[.int .i64 k,.int .i64 f,.int .i64 r,.int .i64 u,.int .i64 xp,.int .i64 xn,.int .i64 yp,.int .i64 yn,.slice ia im ic,.int .i64 a,.int .i64 b] 51):=⟨_,rfl⟩;have HW:Hid (W=w.alloc (.cells #[.int .i64 k,.int .i64 f,.int .i64 r,.int .i64 u,.int .i64 xp,.int .i64 xn,.int .i64 yp,.int .i64 yn,.slice ia im ic,.int .i64 a,.int .i64 b] 51)):=hW;have o:Below w.heap.size w W:=by rw [hW];exact (Below.refl _ _).alloc (Nat.le_refl _) _
 have ad:Hid (Below w.heap.size w W):=o;have a4:BoxK 51 W w.heap.size k f r u xp xn yp yn (.slice ia im ic) a b:=by rw [hW];exact BoxK.new _ w _ _ _ _ _ _ _ _ _ _ _
 have E:=hs.below o hs.lt;have HR:Hid (RP lo hi W ia im ic xs):=hR.below o z;have HT:Hid (TabD W):=hT.below o hg;have a3:=o.size;obtain ⟨y0,y1,y2,y3,y4,y5,y6,y7,y8,y9,am⟩:=a4.cells;obtain ⟨x0,x1,x2,x3,_⟩:=E.cells;clear hW o a4 E hR hT hs;go_enter Tryz.func71, Tryz.ntmps71;go_upto_region 1 with fail;rw [← HW.out];go_wp2_with fail;refine (clauseFits_any HR.out (Nat.le_trans z a3) HT.out (by omega)).mono ?_;rintro e w1 ⟨rfl,G⟩;have al:Hid (Below w.heap.size w w1):=ad.out.trans (G.mono a3);clear G;go_wp2_with fail;go_ret;exact ⟨rfl,al.out⟩
set_option maxRecDepth 100000 in
set_option maxHeartbeats 2000000 in
theorem indexBadK_any {aa:Option Addr} {an ac:Nat} {ra:Option Addr} {rn rc:Nat} {wa:Option Addr} {wn wc:Nat} {la:Option Addr} {ln lc:Nat} {lo hi sp n F:Nat} {p:Option Addr} {cs:List CL} {w:World} (h:RdG lo hi w p n F cs) (z:hi≤w.heap.size) (hT:TabD w) (hg:2<w.heap.size) (hs:Blk w sp 46 (.slice aa an ac) (.slice ra rn rc) (.slice wa wn wc) (.slice la ln lc)) (hn:n≤1048576) :
    Calls Tryz.prog 101 #[.slice p n F,.func (.func 71) #[] #[.pointer (some ⟨sp,0,none⟩)]] w fun e w'=>∃ r:Int,e=.returned (.int .i64 r)∧((0≤r∧cs.all (fitK an rn)=false)∨(r<0∧cs.all (fitK an rn)=true))∧Below w.heap.size w w':=by
 have HL:Hid (RdG lo hi w p n F cs):=h;have a7:Hid (cs.length=n):=h.len;have HT:Hid (TabD w):=hT;have HS:Hid (Blk w sp 46 (.slice aa an ac) (.slice ra rn rc) (.slice wa wn wc) (.slice la ln lc)):=hs;have ae:=hs.lt;clear h hT hs;go_enter Tryz.func101, Tryz.ntmps101;go_upto_region 2 with fail;go_loopw [8] (fun i wr=>∃ j:Nat,j≤n∧i=.int .i64 j∧(∀ m,m<j→fitK an rn (cs.getD m CL.zero)=true)∧Below w.heap.size w wr) (fun i _=>n - (intOf i).toNat)
 case atStart=>exact ⟨0,Nat.zero_le _,rfl,fun m hm=>absurd hm (by omega),Below.refl _ _⟩
 case round =>
  obtain ⟨j,hj,rfl,D,q⟩:=hrel;have aj:Hid (∀ m,m<j→fitK an rn (cs.getD m CL.zero)=true):=D;have a9:Hid (Below w.heap.size w wr):=q;have R:=q.size;by_cases hlt:j<n
  · have ap:(j:Int)<(n:Int):=by omega
    have af:j<cs.length:=by rw [a7.out];exact hlt
    have hR:=HL.out.below q z;rcases hR.cells with e | ⟨b,ao,rfl,_,_,hc⟩
    · omega
    obtain ⟨ia,im,ic,q0,q1,q2,q3,q4,q5,q6,q7,q8,q9,a0,J⟩:=hc j hlt;obtain ⟨x,hx⟩:∃ x,x=cs.getD j CL.zero:=⟨_,rfl⟩;rw [← hx] at q0 q1 q2 q3 q4 q5 q6 q7 q9 a0 J;have HX:Hid (x=cs.getD j CL.zero):=hx;obtain ⟨xk,xf,xr,xu,Y,Z,T,U,xi,xa,xb⟩:=x;dsimp only at q0 q1 q2 q3 q4 q5 q6 q7 q9 a0 J;have ak:Hid (RP lo hi wr ia im ic xi):=J;have ah:Hid (TabD wr):=HT.out.below q hg;have ai:Hid (Blk wr sp 46 (.slice aa an ac) (.slice ra rn rc) (.slice wa wn wc) (.slice la ln lc)):=HS.out.below q ae;obtain ⟨v,hv⟩:∃ v,v=fitK an rn ⟨xk,xf,xr,xu,Y,Z,T,U,xi,xa,xb⟩:=⟨_,rfl⟩;have HV:Hid (fitK an rn ⟨xk,xf,xr,xu,Y,Z,T,U,xi,xa,xb⟩=v):=hv.symm;clear hR hc J hx hv D q;go_wp2_with fail;refine (badK_any ak.out (by omega) ah.out (by omega) ai.out).mono ?_;rintro e w5 ⟨rfl,a5⟩;rw [HV.out];have ab:Hid (Below w.heap.size w w5):=a9.out.trans (a5.mono R);clear a5;cases v with
    | false =>
     have HP:Hid (cs.all (fitK an rn)=false):=all_not (d:=CL.zero) af (by rw [← HX.out];exact HV.out);go_wp2_with fail;go_ret;exact ⟨_,rfl,.inl ⟨by omega,HP.out⟩,ab.out⟩
    | true =>
     have HF:Hid (∀ m,m<j+1→fitK an rn (cs.getD m CL.zero)=true):=fun m hm=>by
      by_cases e:m=j
      · subst e;rw [← HX.out];exact HV.out
      exact aj.out m (by omega)
     go_wp2_with fail;go_roundw
     case rel=>exact ⟨j+1,by omega,by go_num,HF.out,ab.out⟩
     case measure=>simp [intOf];omega
  have HP:Hid (cs.all (fitK an rn)=true):=all_take (d:=CL.zero) a7.out (fun m hm=>D m (by omega));clear D q;go_wp2_with fail;go_ret;exact ⟨-1,rfl,.inr ⟨by omega,HP.out⟩,a9.out⟩
set_option maxRecDepth 100000 in
set_option maxHeartbeats 1000000 in
theorem hasBadK_any {aa:Option Addr} {an ac:Nat} {ra:Option Addr} {rn rc:Nat} {wa:Option Addr} {wn wc:Nat} {la:Option Addr} {ln lc:Nat} {lo hi sp n F:Nat} {p:Option Addr} {cs:List CL} {w:World} (h:RdG lo hi w p n F cs) (z:hi≤w.heap.size) (hT:TabD w) (hg:2<w.heap.size) (hs:Blk w sp 46 (.slice aa an ac) (.slice ra rn rc) (.slice wa wn wc) (.slice la ln lc)) (hn:n≤1048576) :
    Calls Tryz.prog 70 #[.slice p n F,.func (.func 71) #[] #[.pointer (some ⟨sp,0,none⟩)]] w fun e w'=>e=.returned (.bool (!cs.all (fitK an rn)))∧Below w.heap.size w w':=by
 go_enter Tryz.func70, Tryz.ntmps70;go_wp2_with fail;refine (indexBadK_any h z hT hg hs hn).mono ?_;rintro e w1 ⟨r,rfl,hr,hb⟩;have HR:Hid ((0≤r∧cs.all (fitK an rn)=false)∨(r<0∧cs.all (fitK an rn)=true)):=hr;have HB:Hid (Below w.heap.size w w1):=hb;clear hr hb h hT hs;go_wp2_with fail;go_ret;refine ⟨rb ?_,HB.out⟩;rcases HR.out with ⟨h1,h2⟩ | ⟨h1,h2⟩
 · rw [h2];exact decide_eq_true h1
 rw [h2];exact decide_eq_false (by omega)
theorem clsB_eq {s:CS} {an rn wn ln:Nat} (h1:s.atoms.length=an) (h2:s.roles.length=rn) (h3:s.who.length=wn) (h4:s.l.length=ln) :
    clsB s=((decide (an≤24) && atomsB s.atoms) && ((decide (rn≤3) && namesB false s.roles) && ((decide (wn≤3) && namesB false s.who) && (decide (ln≤200) && s.l.all (fitK an rn))))):=by
 unfold clsB headB;rw [h1,h2,h3,h4];cases decide (an≤24) <;> cases decide (rn≤3) <;> cases decide (wn≤3) <;> cases decide (ln≤200) <;> cases namesB false s.roles <;> cases namesB false s.who <;> cases atomsB s.atoms <;> simp
set_option maxRecDepth 100000 in
set_option maxHeartbeats 4000000 in
theorem implClsOk_any {d:Nat} {aa:Option Addr} {an ac:Nat} {ra:Option Addr} {rn rc:Nat} {wa:Option Addr} {wn wc:Nat} {la:Option Addr} {ln lc:Nat} {s:CS} {w:World} {lo hi:Nat} (h:RdS lo hi w d aa an ac ra rn rc wa wn wc la ln lc s) (z:hi≤w.heap.size) (I:bulks s.atoms≤1048576∧an≤1048576) (hT:TabD w) (hg:2<w.heap.size) :
    Calls Tryz.prog 37 #[.agg #[.slice aa an ac,.slice ra rn rc,.slice wa wn wc,.slice la ln lc]] w fun e w'=>e=.returned (.bool (clsB s))∧Below w.heap.size w w':=by
 obtain ⟨W,hW⟩:∃ W,W=w.alloc (.cells #[.slice aa an ac,.slice ra rn rc,.slice wa wn wc,.slice la ln lc] 46):=⟨_,rfl⟩;have HW:Hid (W=w.alloc (.cells #[.slice aa an ac,.slice ra rn rc,.slice wa wn wc,.slice la ln lc] 46)):=hW;have o:Below w.heap.size w W:=by rw [hW];exact (Below.refl _ _).alloc (Nat.le_refl _) _
 have ad:Hid (Below w.heap.size w W):=o;have E:Blk W w.heap.size 46 (.slice aa an ac) (.slice ra rn rc) (.slice wa wn wc) (.slice la ln lc):=by rw [hW];exact Blk.alloc_new w _ _ _ _ _ _ rfl
 have HS:Hid (∀ V,Below W.heap.size W V→Blk V w.heap.size 46 (.slice aa an ac) (.slice ra rn rc) (.slice wa wn wc) (.slice la ln lc)):=fun V hV=>E.below hV E.lt
 have HR:Hid (∀ V,Below W.heap.size W V→RdS lo hi V d aa an ac ra rn rc wa wn wc la ln lc s∧hi≤V.heap.size):=fun V hV=>⟨(h.below o z).below hV (Nat.le_trans z o.size),Nat.le_trans (Nat.le_trans z o.size) hV.size⟩
 have HF:Hid (∀ V,Below W.heap.size W V→Below w.heap.size w V):=fun V hV=>o.trans (hV.mono o.size)
 have HT:Hid (∀ V,Below W.heap.size W V→TabD V∧2<V.heap.size):=fun V hV=>⟨(hT.below o hg).below hV (by have:=o.size;omega),by have:=o.size;have:=hV.size;omega⟩
 have H0:Hid (Below W.heap.size W W):=Below.refl _ _;have HE:Hid (clsB s=((decide (an≤24) && atomsB s.atoms) && ((decide (rn≤3) && namesB false s.roles) && ((decide (wn≤3) && namesB false s.who) && (decide (ln≤200) && s.l.all (fitK an rn)))))):=clsB_eq h.atoms.len h.roles.len h.who.len h.l.len;have a8:Hid (bulks s.atoms≤1048576∧an≤1048576):=I;have aq:=h.l.fits;obtain ⟨z0,z1,z2,z3,_⟩:=E.cells;clear h o hW E I hT;go_enter Tryz.func37, Tryz.ntmps37;go_upto_region 1 with fail;rw [← HW.out];go_wp2_with fail;refine (atomsFit_any (HR.out _ H0.out).1.atoms (HR.out _ H0.out).2 a8.out.1 a8.out.2).mono ?_;rintro e w1 ⟨rfl,G⟩;obtain ⟨v1,O⟩:∃ v,v=(decide (an≤24) && atomsB s.atoms):=⟨_,rfl⟩;rw [← O];have V1:Hid ((decide (an≤24) && atomsB s.atoms)=v1):=O.symm;have H1:Hid (Below W.heap.size W w1):=G;clear G O z0 z1 z2 z3;obtain ⟨z0,z1,z2,z3,_⟩:=(HS.out _ H1.out).cells;cases v1 with
 | false =>
  have A:Hid (clsB s=false):=by unfold Hid;rw [HE.out,V1.out];rfl
  go_wp2_with fail;go_ret;exact ⟨rb A.out.symm,HF.out _ H1.out⟩
 | true =>
  go_wp2_with fail;refine (wordsFitL_any ra rn rc 3 s.roles w1 (HR.out _ H1.out).1.roles).mono ?_;rintro e w2 ⟨rfl,a2⟩;rw [a2];obtain ⟨v2,N⟩:∃ v,v=(decide (rn≤3) && namesB false s.roles):=⟨_,rfl⟩;rw [← N];have V2:Hid ((decide (rn≤3) && namesB false s.roles)=v2):=N.symm;clear a2 N;cases v2 with
  | false =>
   have A:Hid (clsB s=false):=by unfold Hid;rw [HE.out,V1.out,V2.out];rfl
   go_wp2_with fail;go_ret;exact ⟨rb A.out.symm,HF.out _ H1.out⟩
  | true =>
   go_wp2_with fail;refine (wordsFitL_any wa wn wc 3 s.who w1 (HR.out _ H1.out).1.who).mono ?_;rintro e w3 ⟨rfl,a1⟩;rw [a1];obtain ⟨v3,M⟩:∃ v,v=(decide (wn≤3) && namesB false s.who):=⟨_,rfl⟩;rw [← M];have V3:Hid ((decide (wn≤3) && namesB false s.who)=v3):=M.symm;clear a1 M;cases v3 with
   | false =>
    have A:Hid (clsB s=false):=by unfold Hid;rw [HE.out,V1.out,V2.out,V3.out];rfl
    go_wp2_with fail;go_ret;exact ⟨rb A.out.symm,HF.out _ H1.out⟩
   | true =>
    by_cases c4:ln≤200
    · have ag:decide ((ln:Int)≤200)=true:=decide_eq_true (by omega);have A:Hid (clsB s=s.l.all (fitK an rn)):=by unfold Hid;rw [HE.out,V1.out,V2.out,V3.out,decide_eq_true c4];rfl
      go_wp2_with fail;refine (hasBadK_any (HR.out _ H1.out).1.l (HR.out _ H1.out).2 (HT.out _ H1.out).1 (HT.out _ H1.out).2 (HS.out _ H1.out) (by omega)).mono ?_;rintro e w4 ⟨rfl,a6⟩;have H4:Hid (Below W.heap.size W w4):=H1.out.trans (a6.mono H1.out.size);obtain ⟨v4,L⟩:∃ v,v=s.l.all (fitK an rn):=⟨_,rfl⟩;rw [← L];have V4:Hid (s.l.all (fitK an rn)=v4):=L.symm;clear a6 L;go_wp2_with fail;go_ret;exact ⟨rb (by rw [A.out,V4.out]),HF.out _ H4.out⟩
    have ag:decide ((ln:Int)≤200)=false:=decide_eq_false (by omega);have A:Hid (clsB s=false):=by unfold Hid;rw [HE.out,V1.out,V2.out,V3.out,decide_eq_false c4];rfl
    go_wp2_with fail;go_ret;exact ⟨rb A.out.symm,HF.out _ H1.out⟩
end

end Go.Proofs.YtellcgmabimieaaGreatDoor
