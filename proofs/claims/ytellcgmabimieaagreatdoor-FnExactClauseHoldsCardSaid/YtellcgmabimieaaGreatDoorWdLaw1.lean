/- The laws' own count, comparison and copy of the lists of a world. -/
import Derived.Test.YtellcgmabimieaaGreatDoorNG2
import Derived.Test.YtellcgmabimieaaGreatDoorNG3
import Derived.Test.YtellcgmabimieaaGreatDoorConTo
import Derived.Deep.RegionWith
namespace Go.Proofs.YtellcgmabimieaaGreatDoor
open Go.RowKit
theorem szBoolS_any (a:Option Addr) (n o:Nat) (left:Int) (w:World) (hl:0≤left∧left≤1048576) (hn:n≤9223372036854775807) :
    Calls Tryz.prog 23 #[.slice a n o,.int .i64 left] w fun e w'=>e=.returned (.int .i64 (szRes left n))∧w'=w:=by
 obtain ⟨h0,h1⟩:=hl;by_cases h:left<n
 · have HE:Hid (szRes left n=-1):=if_pos h;go_enter Tryz.func23, Tryz.ntmps23;go_wp2;go_ret;exact ⟨ri HE.out.symm,rfl⟩
 have HE:Hid (szRes left n=left - n):=if_neg h;go_enter Tryz.func23, Tryz.ntmps23;go_wp2;go_ret;exact ⟨ri HE.out.symm,rfl⟩
theorem szIntS_any (a:Option Addr) (n o:Nat) (left:Int) (w:World) (hl:0≤left∧left≤1048576) (hn:n≤9223372036854775807) :
    Calls Tryz.prog 19 #[.slice a n o,.int .i64 left] w fun e w'=>e=.returned (.int .i64 (szRes left n))∧w'=w:=by
 obtain ⟨h0,h1⟩:=hl;by_cases h:left<n
 · have HE:Hid (szRes left n=-1):=if_pos h;go_enter Tryz.func19, Tryz.ntmps19;go_wp2;go_ret;exact ⟨ri HE.out.symm,rfl⟩
 have HE:Hid (szRes left n=left - n):=if_neg h;go_enter Tryz.func19, Tryz.ntmps19;go_wp2;go_ret;exact ⟨ri HE.out.symm,rfl⟩
set_option maxHeartbeats 800000 in
theorem szByteSS_any (a:Option Addr) (n o:Nat) (xs:List (List Int)) (left:Int) (w:World) {lo hi:Nat} (h:RSS lo hi w a n o xs) (h0:0≤left) (h1:left≤1048576) :
    Calls Tryz.prog 18 #[.slice a n o,.int .i64 left] w fun e w'=>∃ r:Int,e=.returned (.int .i64 r)∧r≤left∧(¬ r<0→n≤1048576∧∀ i,i<n→(xs.getD i []).length≤1048576)∧w'=w:=by
 have HR:Hid (RSS lo hi w a n o xs):=h;obtain ⟨hl,⟨hm,hM⟩,A⟩:=h;clear A hl;by_cases hbig:left<n
 · go_enter Tryz.func18, Tryz.ntmps18;go_wp2_with fail;go_ret;exact ⟨-1,rfl,by omega,fun hh=>by omega,rfl⟩
 go_enter Tryz.func18, Tryz.ntmps18;go_wp2_with fail;go_loopw [1,5] (fun l i wr=>∃ (k:Nat) (L:Int),k≤n∧i=.int .i64 k∧l=.int .i64 L∧0≤L∧L≤left∧(∀ i,i<k→(xs.getD i []).length≤1048576)∧wr=w) (fun _ i _=>n - (intOf i).toNat)
 case atStart=>exact ⟨0,left - n,Nat.zero_le _,rfl,by go_num,by omega,by omega,fun i hi=>by omega,rfl⟩
 case round =>
  obtain ⟨k,L,hk,rfl,rfl,ac,ab,F,rfl⟩:=hrel;have G:Hid (∀ i,i<k→(xs.getD i []).length≤1048576):=F;clear F;by_cases hlt:k<n
  · rcases HR.out.cells with hz | ⟨b,ah,e1,_,_,hc⟩
    · omega
    subst e1;obtain ⟨v,c0,ea,en,ec,rfl,hr⟩:=hc k hlt;have Z:(k:Int)<(n:Int):=by omega
    have a0:(xs.getD k []).length=en:=hr.len;have ak:=hr.fits;obtain ⟨r,Y⟩:∃ r,r=szRes L en:=⟨_,rfl⟩;have a1:Hid (r=szRes L en):=Y;have af:Hid ((xs.getD k []).length=en):=a0;clear hc hr Y a0;go_wp2_with fail;refine (szByteS_any ea en ec L wr ⟨ac,by omega⟩ (by omega)).mono ?_;rintro e w' ⟨rfl,U⟩;rw [← a1.out,U];clear U;by_cases ag:r<0
    · go_wp2_with fail;go_ret;exact ⟨-1,rfl,by omega,fun hh=>by omega,rfl⟩
    have a2:Hid (r=L - en∧(en:Int)≤L):=by
     have e:=a1.out;unfold szRes at e
     split at e
     · omega
     exact ⟨e,by omega⟩
    go_wp2_with fail;go_roundw
    case rel=>exact ⟨k+1,r,by omega,by go_num,rfl,by omega,by have:=a2.out;omega,fun i hi=>by
     by_cases hik:i<k
     · exact G.out i hik
     obtain rfl:i=k:=by omega
     have:=af.out;have:=a2.out;omega,by first | rfl | trivial⟩
    case measure=>simp [intOf];omega
  have a6:k=n:=by omega
  subst a6;go_wp2_with fail;go_ret;exact ⟨L,rfl,ab,fun _=>⟨by omega,G.out⟩,rfl⟩
set_option maxHeartbeats 800000 in
theorem szBoolSS_any (a:Option Addr) (n o:Nat) (xs:List (List Bool)) (left:Int) (w:World) {lo hi:Nat} (h:RFF lo hi w a n o xs) (h0:0≤left) (h1:left≤1048576) :
    Calls Tryz.prog 7 #[.slice a n o,.int .i64 left] w fun e w'=>∃ r:Int,e=.returned (.int .i64 r)∧r≤left∧(¬ r<0→n≤1048576∧∀ i,i<n→(xs.getD i []).length≤1048576)∧w'=w:=by
 have HR:Hid (RFF lo hi w a n o xs):=h;obtain ⟨hl,⟨hm,hM⟩,A⟩:=h;clear A hl;by_cases hbig:left<n
 · go_enter Tryz.func7, Tryz.ntmps7;go_wp2_with fail;go_ret;exact ⟨-1,rfl,by omega,fun hh=>by omega,rfl⟩
 go_enter Tryz.func7, Tryz.ntmps7;go_wp2_with fail;go_loopw [1,5] (fun l i wr=>∃ (k:Nat) (L:Int),k≤n∧i=.int .i64 k∧l=.int .i64 L∧0≤L∧L≤left∧(∀ i,i<k→(xs.getD i []).length≤1048576)∧wr=w) (fun _ i _=>n - (intOf i).toNat)
 case atStart=>exact ⟨0,left - n,Nat.zero_le _,rfl,by go_num,by omega,by omega,fun i hi=>by omega,rfl⟩
 case round =>
  obtain ⟨k,L,hk,rfl,rfl,ac,ab,F,rfl⟩:=hrel;have G:Hid (∀ i,i<k→(xs.getD i []).length≤1048576):=F;clear F;by_cases hlt:k<n
  · rcases HR.out.cells with hz | ⟨b,ah,e1,_,_,hc⟩
    · omega
    subst e1;obtain ⟨v,c0,ea,en,ec,rfl,hr⟩:=hc k hlt;have Z:(k:Int)<(n:Int):=by omega
    have a0:(xs.getD k []).length=en:=hr.len;have ak:=hr.fits;obtain ⟨r,Y⟩:∃ r,r=szRes L en:=⟨_,rfl⟩;have a1:Hid (r=szRes L en):=Y;have af:Hid ((xs.getD k []).length=en):=a0;clear hc hr Y a0;go_wp2_with fail;refine (szBoolS_any ea en ec L wr ⟨ac,by omega⟩ (by omega)).mono ?_;rintro e w' ⟨rfl,U⟩;rw [← a1.out,U];clear U;by_cases ag:r<0
    · go_wp2_with fail;go_ret;exact ⟨-1,rfl,by omega,fun hh=>by omega,rfl⟩
    have a2:Hid (r=L - en∧(en:Int)≤L):=by
     have e:=a1.out;unfold szRes at e
     split at e
     · omega
     exact ⟨e,by omega⟩
    go_wp2_with fail;go_roundw
    case rel=>exact ⟨k+1,r,by omega,by go_num,rfl,by omega,by have:=a2.out;omega,fun i hi=>by
     by_cases hik:i<k
     · exact G.out i hik
     obtain rfl:i=k:=by omega
     have:=af.out;have:=a2.out;omega,by first | rfl | trivial⟩
    case measure=>simp [intOf];omega
  have a6:k=n:=by omega
  subst a6;go_wp2_with fail;go_ret;exact ⟨L,rfl,ab,fun _=>⟨by omega,G.out⟩,rfl⟩
set_option maxHeartbeats 800000 in
theorem eqBoolS_any (a a':Option Addr) (n o cap':Nat) (xs:List Bool) (w:World) {lo hi lo' hi':Nat} (h:RB lo hi w a n o xs) (h':RB lo' hi' w a' n cap' xs) :
    Calls Tryz.prog 51 #[.slice a n o,.slice a' n cap'] w fun e w'=>e=.returned (.bool true)∧∃ nd,w'=w.drewN nd:=by
 have HR:Hid (RB lo hi w a n o xs):=h;have J:Hid (RB lo' hi' w a' n cap' xs):=h';obtain ⟨hl,⟨hm,hM⟩,A⟩:=h;obtain ⟨I,⟨a5,aa⟩,u⟩:=h';have a9:((n:Int) != (n:Int))=false:=by simp
 clear A u hl I;go_enter Tryz.func51, Tryz.ntmps51;go_wp2_with fail;go_loopw [5] (fun i wr=>∃ k:Nat,k≤n∧i=.int .i64 k∧∃ nd,wr=w.drewN nd) (fun i _=>n - (intOf i).toNat)
 case atStart=>exact ⟨0,Nat.zero_le _,rfl,0,rfl⟩
 case round =>
  obtain ⟨k,hk,rfl,nd,a4⟩:=hrel;subst a4;by_cases hlt:k<n
  · rcases HR.out.cells with h0 | ⟨b1,N,e1,_,_,E⟩
    · omega
    rcases J.out.cells with h0 | ⟨b2,M,e2,_,_,D⟩
    · omega
    subst e1 e2;obtain ⟨v,c0,hv⟩:=E k hlt;obtain ⟨v',ad,V⟩:=D k hlt;obtain ⟨z,hz⟩:∃ z,z=xs.getD k false:=⟨_,rfl⟩;rw [← hz] at hv V;subst hv V;have ai:(z != z)=false:=by simp
    have Z:(k:Int)<(n:Int):=by omega
    clear E D hz;go_wp2;go_quiet (fail);go_wp2;go_roundw
    case rel=>exact ⟨k+1,by omega,by go_num,nd+nq,by first | rfl | exact drew_add _ _ _⟩
    case measure=>simp [intOf];omega
  go_wp2_with fail;go_ret;exact ⟨rfl,nd,rfl⟩
set_option maxHeartbeats 800000 in
theorem eqIntS_any (a a':Option Addr) (n o cap':Nat) (xs:List Int) (w:World) {lo hi lo' hi':Nat} (h:RI lo hi w a n o xs) (h':RI lo' hi' w a' n cap' xs) :
    Calls Tryz.prog 46 #[.slice a n o,.slice a' n cap'] w fun e w'=>e=.returned (.bool true)∧∃ nd,w'=w.drewN nd:=by
 have HR:Hid (RI lo hi w a n o xs):=h;have J:Hid (RI lo' hi' w a' n cap' xs):=h';obtain ⟨hl,⟨hm,hM⟩,A⟩:=h;obtain ⟨I,⟨a5,aa⟩,u⟩:=h';have a9:((n:Int) != (n:Int))=false:=by simp
 clear A u hl I;go_enter Tryz.func46, Tryz.ntmps46;go_wp2_with fail;go_loopw [5] (fun i wr=>∃ k:Nat,k≤n∧i=.int .i64 k∧∃ nd,wr=w.drewN nd) (fun i _=>n - (intOf i).toNat)
 case atStart=>exact ⟨0,Nat.zero_le _,rfl,0,rfl⟩
 case round =>
  obtain ⟨k,hk,rfl,nd,a4⟩:=hrel;subst a4;by_cases hlt:k<n
  · rcases HR.out.cells with h0 | ⟨b1,N,e1,_,_,E⟩
    · omega
    rcases J.out.cells with h0 | ⟨b2,M,e2,_,_,D⟩
    · omega
    subst e1 e2;obtain ⟨v,c0,hv⟩:=E k hlt;obtain ⟨v',ad,V⟩:=D k hlt;obtain ⟨z,hz⟩:∃ z,z=xs.getD k 0:=⟨_,rfl⟩;rw [← hz] at hv V;subst hv V;have ai:(z != z)=false:=by simp
    have Z:(k:Int)<(n:Int):=by omega
    clear E D hz;go_wp2;go_quiet (fail);go_wp2;go_roundw
    case rel=>exact ⟨k+1,by omega,by go_num,nd+nq,by first | rfl | exact drew_add _ _ _⟩
    case measure=>simp [intOf];omega
  go_wp2_with fail;go_ret;exact ⟨rfl,nd,rfl⟩
set_option maxHeartbeats 800000 in
theorem eqByteSS_any (a a':Option Addr) (n o cap':Nat) (xs:List (List Int)) (w:World) {lo hi lo' hi':Nat} (h:RSS lo hi w a n o xs) (h':RSS lo' hi' w a' n cap' xs) (hh:hi≤w.heap.size) (a7:hi'≤w.heap.size) :
    Calls Tryz.prog 45 #[.slice a n o,.slice a' n cap'] w fun e w'=>e=.returned (.bool true)∧Below w.heap.size w w':=by
 have HR:Hid (RSS lo hi w a n o xs):=h;have J:Hid (RSS lo' hi' w a' n cap' xs):=h';obtain ⟨hl,⟨hm,hM⟩,A⟩:=h;obtain ⟨I,⟨a5,aa⟩,u⟩:=h';have a9:((n:Int) != (n:Int))=false:=by simp
 clear A u hl I;go_enter Tryz.func45, Tryz.ntmps45;go_wp2_with fail;go_loopw [5] (fun i wr=>∃ k:Nat,k≤n∧i=.int .i64 k∧Below w.heap.size w wr) (fun i _=>n - (intOf i).toNat)
 case atStart=>exact ⟨0,Nat.zero_le _,rfl,Below.refl _ _⟩
 case round =>
  obtain ⟨k,hk,rfl,q⟩:=hrel;have HB:Hid (Below w.heap.size w wr):=q;by_cases hlt:k<n
  · have h1:=HR.out.below q hh;have h2:=J.out.below q a7;rcases h1.cells with h0 | ⟨b1,N,e1,_,_,E⟩
    · omega
    rcases h2.cells with h0 | ⟨b2,M,e2,_,_,D⟩
    · omega
    subst e1 e2;obtain ⟨v,c0,ea,en,ec,rfl,hr⟩:=E k hlt;obtain ⟨v',ad,xa,xn,xc,rfl,R⟩:=D k hlt;have HK:=hr.same (w':=wr.drew) (fun _ _ _=>rfl);have a3:=R.same (w':=wr.drew) (fun _ _ _=>rfl);have ae:Hid _:=HK;have O:Hid _:=a3;have Z:(k:Int)<(n:Int):=by omega
    clear h1 h2 E D hr R q HK a3;go_wp2_with fail;go_region_with (go_at_call 83;refine (eqByteS_any ea xa en ec xn xc (xs.getD k []) (xs.getD k []) _ (lo:=lo) (hi:=hi) (lo':=lo') (hi':=hi') ?_ ?_).mono ?_;exact ae.out;exact O.out;rintro e w' ⟨rfl,nd,T⟩;rw [show decide (xs.getD k []=xs.getD k [])=true from by simp];have a8:Below wr.heap.size wr w':=(by rw [T];exact below_drewN ((Below.refl _ _).drew) nd);clear T)
    all_goals
     go_wp2_with fail;go_roundw
     case rel=>exact ⟨k+1,by omega,by go_num,HB.out.trans (a8.mono HB.out.size)⟩
     case measure=>simp [intOf];omega
  clear q;go_wp2_with fail;go_ret;exact ⟨rfl,HB.out⟩
set_option maxHeartbeats 800000 in
theorem eqBoolSS_any (a a':Option Addr) (n o cap':Nat) (xs:List (List Bool)) (w:World) {lo hi lo' hi':Nat} (h:RFF lo hi w a n o xs) (h':RFF lo' hi' w a' n cap' xs) (hh:hi≤w.heap.size) (a7:hi'≤w.heap.size) :
    Calls Tryz.prog 17 #[.slice a n o,.slice a' n cap'] w fun e w'=>e=.returned (.bool true)∧Below w.heap.size w w':=by
 have HR:Hid (RFF lo hi w a n o xs):=h;have J:Hid (RFF lo' hi' w a' n cap' xs):=h';obtain ⟨hl,⟨hm,hM⟩,A⟩:=h;obtain ⟨I,⟨a5,aa⟩,u⟩:=h';have a9:((n:Int) != (n:Int))=false:=by simp
 clear A u hl I;go_enter Tryz.func17, Tryz.ntmps17;go_wp2_with fail;go_loopw [5] (fun i wr=>∃ k:Nat,k≤n∧i=.int .i64 k∧Below w.heap.size w wr) (fun i _=>n - (intOf i).toNat)
 case atStart=>exact ⟨0,Nat.zero_le _,rfl,Below.refl _ _⟩
 case round =>
  obtain ⟨k,hk,rfl,q⟩:=hrel;have HB:Hid (Below w.heap.size w wr):=q;by_cases hlt:k<n
  · have h1:=HR.out.below q hh;have h2:=J.out.below q a7;rcases h1.cells with h0 | ⟨b1,N,e1,_,_,E⟩
    · omega
    rcases h2.cells with h0 | ⟨b2,M,e2,_,_,D⟩
    · omega
    subst e1 e2;obtain ⟨v,c0,ea,en,ec,rfl,hr⟩:=E k hlt;obtain ⟨v',ad,xa,xn,xc,rfl,R⟩:=D k hlt;have aj:xn=en:=by have h1:=hr.len;have h2:=R.len;omega
    subst aj;have HK:=hr.same (w':=wr.drew) (fun _ _ _=>rfl);have a3:=R.same (w':=wr.drew) (fun _ _ _=>rfl);have ae:Hid _:=HK;have O:Hid _:=a3;have Z:(k:Int)<(n:Int):=by omega
    clear h1 h2 E D hr R q HK a3;go_wp2_with fail;go_region_with (go_at_call 51;refine (eqBoolS_any ea xa xn ec xc (xs.getD k []) _ (lo:=lo) (hi:=hi) (lo':=lo') (hi':=hi') ?_ ?_).mono ?_;exact ae.out;exact O.out;rintro e w' ⟨rfl,nd,T⟩;have a8:Below wr.heap.size wr w':=(by rw [T];exact below_drewN ((Below.refl _ _).drew) nd);clear T)
    all_goals
     go_wp2_with fail;go_roundw
     case rel=>exact ⟨k+1,by omega,by go_num,HB.out.trans (a8.mono HB.out.size)⟩
     case measure=>simp [intOf];omega
  clear q;go_wp2_with fail;go_ret;exact ⟨rfl,HB.out⟩
end Go.Proofs.YtellcgmabimieaaGreatDoor
