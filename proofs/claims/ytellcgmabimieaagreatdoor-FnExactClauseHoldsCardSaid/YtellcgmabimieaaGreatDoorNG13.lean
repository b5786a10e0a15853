/- Several texts in one: ClsLaw1, ClsLaw3. -/
import Derived.Test.YtellcgmabimieaaGreatDoorNG2
import Derived.Test.YtellcgmabimieaaGreatDoorClLaw
import Derived.Test.YtellcgmabimieaaGreatDoorNG5
import Derived.Test.YtellcgmabimieaaGreatDoorWdLaw1
import Derived.Test.YtellcgmabimieaaGreatDoorConTo
namespace Go.Proofs.YtellcgmabimieaaGreatDoor

section
open Go.RowKit
set_option maxRecDepth 100000 in
set_option maxHeartbeats 4000000 in
theorem szG_any {a:Option Addr} {n I:Nat} {xs:List CL} {w:World} {lo hi:Nat} (h:RdG lo hi w a n I xs) (u:hi≤w.heap.size) (left:Int) (h0:0≤left) (h1:left≤1048576) :
    Calls Tryz.prog 21 #[.slice a n I,.int .i64 left] w fun e w'=>∃ r:Int,e=.returned (.int .i64 r)∧r≤left∧(¬ r<0→n≤1048576∧∀ i,i<n→(xs.getD i CL.zero).inds.length≤1048576)∧Below w.heap.size w w':=by
 have HK:Hid (RdG lo hi w a n I xs):=h;have hf:=h.fits;clear h;by_cases hbig:left<n
 · go_enter Tryz.func21, Tryz.ntmps21;go_wp2_with fail;go_ret;exact ⟨-1,rfl,by omega,fun h=>absurd h (by omega),Below.refl _ _⟩
 go_enter Tryz.func21, Tryz.ntmps21;go_wp2_with fail;go_loopw [1,5] (fun l i wr=>∃ (k:Nat) (L:Int),k≤n∧i=.int .i64 k∧l=.int .i64 L∧0≤L∧L≤left∧(∀ i,i<k→(xs.getD i CL.zero).inds.length≤1048576)∧Below w.heap.size w wr) (fun _ i _=>n - (intOf i).toNat)
 case atStart=>exact ⟨0,left - n,Nat.zero_le _,rfl,by go_num,by omega,by omega,fun i hi=>absurd hi (by omega),Below.refl _ _⟩
 case round =>
  obtain ⟨k,L,hk,rfl,rfl,a1,a0,hs,o⟩:=hrel;have HB:Hid (Below w.heap.size w wr):=o;have HS:Hid (∀ i,i<k→(xs.getD i CL.zero).inds.length≤1048576):=hs;have Z:L≤1048576:=by omega
  by_cases hlt:k<n
  · have hK:=HK.out.below o u;rcases hK.cells with hz | ⟨b,af,e1,_,_,hc⟩
    · omega
    subst e1;obtain ⟨ia,im,ic,q0,q1,q2,q3,q4,q5,q6,q7,q8,q9,J,A⟩:=hc k hlt;obtain ⟨x,hx⟩:∃ x,x=xs.getD k CL.zero:=⟨_,rfl⟩;rw [← hx] at q0 q1 q2 q3 q4 q5 q6 q7 q9 J A;have HX:Hid (x=xs.getD k CL.zero):=hx;have a4:Hid (RP lo hi wr ia im ic x.inds):=A;have a6:Hid (x.inds.length=im):=A.len;have ai:(k:Int)<(n:Int):=by omega
    obtain ⟨xk,xf,xr,xu,ad,ae,a9,ab,xi,xa,xb⟩:=x;dsimp only at q0 q1 q2 q3 q4 q5 q6 q7 q9 J;clear hK hc A o hs hx;go_wp2_with fail;refine (szK_any a4.out L ⟨a1,Z⟩).mono ?_;rintro e w' ⟨rfl,O⟩;have R:Hid (Below w.heap.size w w'):=HB.out.trans (O.mono HB.out.size);obtain ⟨r,hr⟩:∃ r,r=szRes L im:=⟨_,rfl⟩;rw [← hr];have HR:Hid (r=szRes L im):=hr;clear O hr;by_cases hneg:r<0
    · go_wp2_with fail;go_ret;exact ⟨-1,rfl,by omega,fun h=>absurd h (by omega),R.out⟩
    have HP:Hid ((im:Int)≤L∧r=L - im):=by unfold Hid;have:=HR.out;rw [this] at hneg ⊢;exact szRes_pos hneg
    have a3:Hid (∀ i,i<k+1→(xs.getD i CL.zero).inds.length≤1048576):=fun i hi=>by
     by_cases e:i=k
     · subst e;rw [← HX.out];have h1:=a6.out;have h2:=HP.out.1;dsimp only at h1 ⊢;omega
     exact HS.out i (by omega)
    have Y:r≤left:=by have:=HP.out.2;omega
    go_wp2_with fail;go_roundw
    case rel=>exact ⟨k+1,r,by omega,by go_num,rfl,by omega,Y,a3.out,R.out⟩
    case measure=>simp [intOf];omega
  have HE:Hid (∀ i,i<n→(xs.getD i CL.zero).inds.length≤1048576):=fun i hi=>hs i (by omega)
  clear hs o;go_wp2_with fail;go_ret;exact ⟨_,rfl,a0,fun _=>⟨by omega,HE.out⟩,HB.out⟩
def FitS (s:CS) (an rn wn ln:Nat):Prop:=(bulks s.atoms≤1048576∧an≤1048576)∧(rn≤1048576∧∀ i,i<rn→(s.roles.getD i []).length≤1048576)∧(wn≤1048576∧∀ i,i<wn→(s.who.getD i []).length≤1048576)∧(ln≤1048576∧∀ i,i<ln→(s.l.getD i CL.zero).inds.length≤1048576)
set_option maxRecDepth 100000 in
set_option maxHeartbeats 2000000 in
theorem szS_any {d:Nat} {aa:Option Addr} {an ac:Nat} {ra:Option Addr} {rn rc:Nat} {wa:Option Addr} {wn wc:Nat} {la:Option Addr} {ln lc:Nat} {s:CS} {w:World} {lo hi:Nat} (h:RdS lo hi w d aa an ac ra rn rc wa wn wc la ln lc s) (u:hi≤w.heap.size) (left:Int) (hl:0≤left∧left≤1048576) :
    Calls Tryz.prog 5 #[.agg #[.slice aa an ac,.slice ra rn rc,.slice wa wn wc,.slice la ln lc],.int .i64 left] w fun e w'=>∃ r:Int,e=.returned (.int .i64 r)∧r≤1048576∧(¬ r<0→FitS s an rn wn ln)∧Below w.heap.size w w':=by
 obtain ⟨ah,ag⟩:=hl;obtain ⟨W0,F⟩:∃ W0,W0=w.alloc (.cells #[.slice aa an ac,.slice ra rn rc,.slice wa wn wc,.slice la ln lc] 30):=⟨_,rfl⟩;have a2:Hid (W0=w.alloc (.cells #[.slice aa an ac,.slice ra rn rc,.slice wa wn wc,.slice la ln lc] 30)):=F;have z:Below w.heap.size w W0:=by rw [F];exact (Below.refl _ _).alloc (Nat.le_refl _) _
 have q:Hid (Below w.heap.size w W0):=z;have D:Blk W0 w.heap.size 30 (.slice aa an ac) (.slice ra rn rc) (.slice wa wn wc) (.slice la ln lc):=by rw [F];exact Blk.alloc_new w _ _ _ _ _ _ rfl
 have a7:Hid (∀ V,Below W0.heap.size W0 V→Blk V w.heap.size 30 (.slice aa an ac) (.slice ra rn rc) (.slice wa wn wc) (.slice la ln lc)):=fun V hV=>D.below hV D.lt
 have HR:Hid (∀ V,Below W0.heap.size W0 V→RdS lo hi V d aa an ac ra rn rc wa wn wc la ln lc s):=fun V hV=>(h.below z u).below hV (Nat.le_trans u z.size)
 have a8:Hid (s.atoms.length=an):=h.atoms.len;have M:hi≤W0.heap.size:=Nat.le_trans u z.size;obtain ⟨z0,z1,z2,z3⟩:=D.cells;clear h z F D;go_enter Tryz.func5, Tryz.ntmps5;go_upto_region 1 with fail;rw [← a2.out];go_wp2_with fail;refine (szL_of (szC_any d) aa an ac s.atoms left W0 lo hi (HR.out _ (Below.refl _ _)).atoms M (by omega) (by omega)).mono ?_;rintro e w1 ⟨rfl,E⟩;obtain ⟨r1,G⟩:∃ r,r=szRes left (bulks s.atoms):=⟨_,rfl⟩;rw [← G];have a5:Hid (r1=szRes left (bulks s.atoms)):=G;have H1:Hid (Below W0.heap.size W0 w1):=E;have s1:=E.size;clear z0 z1 z2 z3 G;obtain ⟨z0,z1,z2,z3⟩:=(a7.out _ E).cells;clear E;by_cases n1:r1<0
 · go_wp2_with fail;go_ret;exact ⟨-1,rfl,by omega,fun h=>absurd h (by omega),q.out.trans (H1.out.mono q.out.size)⟩
 have P1:Hid (((bulks s.atoms:Nat):Int)≤left∧r1=left - (bulks s.atoms:Nat)):=by unfold Hid;have:=a5.out;rw [this] at n1 ⊢;exact szRes_pos n1
 have l1:r1≤1048576:=by have:=P1.out.2;omega
 go_wp2_with fail;refine (szByteSS_any ra rn rc s.roles r1 w1 (HR.out _ H1.out).roles (by omega) (by omega)).mono ?_;rintro e w2 ⟨r2,rfl,l2,f2,U⟩;subst U;have F2:Hid (¬ r2<0→rn≤1048576∧∀ i,i<rn→(s.roles.getD i []).length≤1048576):=f2;clear f2;by_cases n2:r2<0
 · go_wp2_with fail;go_ret;exact ⟨-1,rfl,by omega,fun h=>absurd h (by omega),q.out.trans (H1.out.mono q.out.size)⟩
 go_wp2_with fail;refine (szByteSS_any wa wn wc s.who r2 w2 (HR.out _ H1.out).who (by omega) (by omega)).mono ?_;rintro e w3 ⟨r3,rfl,l3,f3,T⟩;subst T;have F3:Hid (¬ r3<0→wn≤1048576∧∀ i,i<wn→(s.who.getD i []).length≤1048576):=f3;clear f3;by_cases n3:r3<0
 · go_wp2_with fail;go_ret;exact ⟨-1,rfl,by omega,fun h=>absurd h (by omega),q.out.trans (H1.out.mono q.out.size)⟩
 go_wp2_with fail;refine (szG_any (HR.out _ H1.out).l (Nat.le_trans M s1) r3 (by omega) (by omega)).mono ?_;rintro e w4 ⟨r4,rfl,l4,f4,N⟩;have F4:Hid (¬ r4<0→ln≤1048576∧∀ i,i<ln→(s.l.getD i CL.zero).inds.length≤1048576):=f4;have H4:Hid (Below w.heap.size w w4):=q.out.trans ((H1.out.trans (N.mono s1)).mono q.out.size);clear f4 N;by_cases n4:r4<0
 · go_wp2_with fail;go_ret;exact ⟨-1,rfl,by omega,fun h=>absurd h (by omega),H4.out⟩
 go_wp2_with fail;go_ret;exact ⟨_,rfl,by omega,fun _=>⟨⟨by have:=P1.out.1;omega,by have:=P1.out.1;have:=length_le_bulks s.atoms;have:=a8.out;omega⟩,F2.out n2,F3.out n3,F4.out n4⟩,H4.out⟩
end

section
open Go.RowKit
theorem below_drewG (w:World):Below w.heap.size w w.drew:=(Below.refl _ _).drew
set_option maxRecDepth 100000 in
set_option maxHeartbeats 8000000 in
theorem eqG_any {a:Option Addr} {n O:Nat} {xs:List CL} {w:World} {lo hi:Nat} {a':Option Addr} {cap' lo' hi':Nat} (h:RdG lo hi w a n O xs) (h':RdG lo' hi' w a' n cap' xs) (F:hi≤w.heap.size) (u:hi'≤w.heap.size) :
    Calls Tryz.prog 48 #[.slice a n O,.slice a' n cap'] w fun e w'=>e=.returned (.bool true)∧Below w.heap.size w w':=by
 have HK:Hid (RdG lo hi w a n O xs):=h;have ai:Hid (RdG lo' hi' w a' n cap' xs):=h';have hf:=h.fits;have av:=h'.fits;clear h h';go_enter Tryz.func48, Tryz.ntmps48;go_wp2_with fail;go_loopw [5] (fun i wr=>∃ k:Nat,k≤n∧i=.int .i64 k∧Below w.heap.size w wr) (fun i _=>n - (intOf i).toNat)
 case atStart=>exact ⟨0,Nat.zero_le _,rfl,Below.refl _ _⟩
 case round =>
  obtain ⟨k,hk,rfl,o⟩:=hrel;have HB:Hid (Below w.heap.size w wr):=o;by_cases hlt:k<n
  · have hK:=HK.out.below o F;have a9:=ai.out.below o u;rcases hK.cells with hz | ⟨b,ar,e1,_,ax,hc⟩
    · omega
    rcases a9.cells with hz | ⟨b',off',af,_,ak,a6⟩
    · omega
    subst e1 af;obtain ⟨ia,im,ic,q0,q1,q2,q3,q4,q5,q6,q7,q8,q9,a3,z⟩:=hc k hlt;obtain ⟨ia',im',ic',a5,a4,a2,a1,a0,Z,Y,U,aq,T,E,q⟩:=a6 k hlt;obtain ⟨x,hx⟩:∃ x,x=xs.getD k CL.zero:=⟨_,rfl⟩;rw [← hx] at q0 q1 q2 q3 q4 q5 q6 q7 q9 a3 z a5 a4 a2 a1 a0 Z Y U T E q;obtain ⟨xk,xf,xr,xu,ao,ap,al,am,xi,xa,xb⟩:=x;dsimp only at q0 q1 q2 q3 q4 q5 q6 q7 q9 a3 z a5 a4 a2 a1 a0 Z Y U T E q;obtain rfl:im=im':=by have h1:=z.len;have h2:=q.len;omega
    have ah:Hid (RP lo hi wr.drew ia im ic xi):=z.same (fun _ _ _=>rfl);have R:Hid (RP lo' hi' wr.drew ia' im ic' xi):=q.same (fun _ _ _=>rfl);have au:(k:Int)<(n:Int):=by omega
    have ae:hi≤wr.heap.size:=Nat.le_trans F o.size;have ad:hi'≤wr.heap.size:=Nat.le_trans u o.size;clear hK a9 hc a6 z q o hx;go_upto_region 6 with fail
    first | go_region_with (first
     | (go_at_call 16;refine (eqK_any ah.out R.out ae ad).mono ?_;rintro e w7 ⟨rfl,a7⟩;have H7:Hid (Below w.heap.size w w7):=HB.out.trans ((below_drewG wr).trans a7 |>.mono HB.out.size);clear a7)) | fail
    all_goals
     go_wp2_with fail;go_roundw
     case rel=>exact ⟨k+1,by omega,by go_num,H7.out⟩
     case measure=>simp [intOf];omega
  clear o;go_wp2_with fail;go_ret;exact ⟨rfl,HB.out⟩
set_option maxRecDepth 100000 in
set_option maxHeartbeats 2000000 in
theorem eqS_any {d:Nat} {aa:Option Addr} {an ac:Nat} {ra:Option Addr} {rn rc:Nat} {wa:Option Addr} {wn wc:Nat} {la:Option Addr} {ln lc:Nat} {s:CS} {w:World} {lo hi:Nat} {d':Nat} {aa':Option Addr} {ac':Nat} {ra':Option Addr} {rc':Nat} {wa':Option Addr} {wc':Nat} {la':Option Addr} {lc':Nat} {lo' hi':Nat} (h:RdS lo hi w d aa an ac ra rn rc wa wn wc la ln lc s) (h':RdS lo' hi' w d' aa' an ac' ra' rn rc' wa' wn wc' la' ln lc' s) (F:hi≤w.heap.size) (u:hi'≤w.heap.size) :
    Calls Tryz.prog 15 #[.agg #[.slice aa an ac,.slice ra rn rc,.slice wa wn wc,.slice la ln lc],.agg #[.slice aa' an ac',.slice ra' rn rc',.slice wa' wn wc',.slice la' ln lc']] w fun e w'=>e=.returned (.bool true)∧Below w.heap.size w w':=by
 obtain ⟨W0,D⟩:∃ W0,W0=(w.alloc (.cells #[.slice aa an ac,.slice ra rn rc,.slice wa wn wc,.slice la ln lc] 46)).alloc (.cells #[.slice aa' an ac',.slice ra' rn rc',.slice wa' wn wc',.slice la' ln lc'] 46):=⟨_,rfl⟩;have ag:Hid (W0=(w.alloc (.cells #[.slice aa an ac,.slice ra rn rc,.slice wa wn wc,.slice la ln lc] 46)).alloc (.cells #[.slice aa' an ac',.slice ra' rn rc',.slice wa' wn wc',.slice la' ln lc'] 46)):=D;have A:Below w.heap.size w W0:=by rw [D];exact ((Below.refl _ _).alloc (Nat.le_refl _) _).alloc (by simp) _
 have aj:Hid (Below w.heap.size w W0):=A;have ab:=A.size;have I:Blk W0 w.heap.size 46 (.slice aa an ac) (.slice ra rn rc) (.slice wa wn wc) (.slice la ln lc):=by rw [D];exact (Blk.alloc_new w _ _ _ _ _ _ rfl).alloc _
 have G:Blk W0 (w.heap.size+1) 46 (.slice aa' an ac') (.slice ra' rn rc') (.slice wa' wn wc') (.slice la' ln lc'):=by rw [D];exact Blk.alloc_new _ _ _ _ _ _ _ (by simp)
 have HX:Hid (∀ V,Below W0.heap.size W0 V→Blk V w.heap.size 46 (.slice aa an ac) (.slice ra rn rc) (.slice wa wn wc) (.slice la ln lc)):=fun V hV=>I.below hV I.lt
 have HY:Hid (∀ V,Below W0.heap.size W0 V→Blk V (w.heap.size+1) 46 (.slice aa' an ac') (.slice ra' rn rc') (.slice wa' wn wc') (.slice la' ln lc')):=fun V hV=>G.below hV G.lt
 have HR:Hid (∀ V,Below W0.heap.size W0 V→RdS lo hi V d aa an ac ra rn rc wa wn wc la ln lc s):=fun V hV=>(h.below A F).below hV (by omega)
 have J:Hid (∀ V,Below W0.heap.size W0 V→RdS lo' hi' V d' aa' an ac' ra' rn rc' wa' wn wc' la' ln lc' s):=fun V hV=>(h'.below A u).below hV (by omega)
 obtain ⟨z0,z1,z2,z3,_⟩:=I.cells;obtain ⟨y0,y1,y2,y3,_⟩:=G.cells;clear h h' A D I G;go_enter Tryz.func15, Tryz.ntmps15;go_upto_region 1 with fail;rw [← ag.out];go_wp2_with fail;have H0:Hid (Below W0.heap.size W0 W0):=Below.refl _ _;refine (eqL_of (eqC_any d) aa aa' an ac ac' s.atoms d' W0 lo hi lo' hi' (HR.out _ H0.out).atoms (J.out _ H0.out).atoms (by omega) (by omega)).mono ?_;rintro e w1 ⟨rfl,N⟩;have H1:Hid (Below W0.heap.size W0 w1):=N;have s1:=N.size;clear N z0 z1 z2 z3 y0 y1 y2 y3;obtain ⟨z0,z1,z2,z3,_⟩:=(HX.out _ H1.out).cells;obtain ⟨y0,y1,y2,y3,_⟩:=(HY.out _ H1.out).cells;go_wp2_with fail;refine (eqByteSS_any ra ra' rn rc rc' s.roles w1 (HR.out _ H1.out).roles (J.out _ H1.out).roles (by omega) (by omega)).mono ?_;rintro e w2 ⟨rfl,M⟩;have H2:Hid (Below W0.heap.size W0 w2):=H1.out.trans (M.mono (by omega));have s2:=M.size;clear M z0 z1 z2 z3 y0 y1 y2 y3;obtain ⟨z0,z1,z2,z3,_⟩:=(HX.out _ H2.out).cells;obtain ⟨y0,y1,y2,y3,_⟩:=(HY.out _ H2.out).cells;go_wp2_with fail;refine (eqByteSS_any wa wa' wn wc wc' s.who w2 (HR.out _ H2.out).who (J.out _ H2.out).who (by omega) (by omega)).mono ?_;rintro e w3 ⟨rfl,L⟩;have H3:Hid (Below W0.heap.size W0 w3):=H2.out.trans (L.mono (by omega));have s3:=L.size;clear L z0 z1 z2 z3 y0 y1 y2 y3;obtain ⟨z0,z1,z2,z3,_⟩:=(HX.out _ H3.out).cells;obtain ⟨y0,y1,y2,y3,_⟩:=(HY.out _ H3.out).cells;go_wp2_with fail;refine (eqG_any (HR.out _ H3.out).l (J.out _ H3.out).l (by omega) (by omega)).mono ?_;rintro e w4 ⟨rfl,a8⟩;have H4:Hid (Below W0.heap.size W0 w4):=H3.out.trans (a8.mono (by omega));clear a8;go_wp2_with fail;go_ret;exact ⟨rfl,aj.out.trans (H4.out.mono ab)⟩
end

end Go.Proofs.YtellcgmabimieaaGreatDoor
