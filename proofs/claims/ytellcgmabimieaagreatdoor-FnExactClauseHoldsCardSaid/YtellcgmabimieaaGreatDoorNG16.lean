/- Several texts in one: WdImpl3, WdImpl1. -/
import Derived.Test.YtellcgmabimieaaGreatDoorNG15
namespace Go.Proofs.YtellcgmabimieaaGreatDoor

section
open Go.RowKit
def hasB (nx z:Int):Bool:=decide (0≤z∧z<nx)
set_option maxRecDepth 100000 in
set_option maxHeartbeats 2000000 in
theorem has_any {ia:Option Addr} {im ic:Nat} {ta:Option Addr} {tn tc:Nat} (nx z:Int) (w:World) :
    Calls Tryz.prog 93 #[.agg #[.int .i64 nx,.slice ia im ic,.slice ta tn tc],.int .i64 z] w fun e w'=>e=.returned (.bool (hasB nx z))∧Below w.heap.size w w':=by
 have I:Hid (Below w.heap.size w (w.alloc (.cells #[.int .i64 nx,.slice ia im ic,.slice ta tn tc] 78))):=(Below.refl _ _).alloc (Nat.le_refl _) _;have HD:Hid (hasB nx z=decide (0≤z∧z<nx)):=rfl;by_cases h0:0≤z
 · have a0:decide (0≤z)=true:=decide_eq_true h0;by_cases h1:z<nx
   · have Z:decide (z<nx)=true:=decide_eq_true h1;have HG:Hid (hasB nx z=true):=by rw [Hid,HD.out];exact decide_eq_true ⟨h0,h1⟩
     go_enter Tryz.func93, Tryz.ntmps93;go_wp2_with fail;go_ret;exact ⟨rb HG.out.symm,I.out⟩
   have Z:decide (z<nx)=false:=decide_eq_false h1;have HG:Hid (hasB nx z=false):=by rw [Hid,HD.out];exact decide_eq_false (fun h=>h1 h.2)
   go_enter Tryz.func93, Tryz.ntmps93;go_wp2_with fail;go_ret;exact ⟨rb HG.out.symm,I.out⟩
 have a0:decide (0≤z)=false:=decide_eq_false h0;have HG:Hid (hasB nx z=false):=by rw [Hid,HD.out];exact decide_eq_false (fun h=>h0 h.1)
 go_enter Tryz.func93, Tryz.ntmps93;go_wp2_with fail;go_ret;exact ⟨rb HG.out.symm,I.out⟩
set_option maxRecDepth 100000 in
set_option maxHeartbeats 4000000 in
theorem peopleOf_any {na:Option Addr} {nn nc:Nat} {sa:Option Addr} {sn sc:Nat} {ra:Option Addr} {rn rc:Nat} {la:Option Addr} {ln lc:Nat} {ia:Option Addr} {im ic:Nat} {ta:Option Addr} {tn tc:Nat} {nx:Int} (w:World) :
    Calls Tryz.prog 66 #[.agg #[.int .i64 nx,.slice na nn nc,.slice sa sn sc,.slice ra rn rc,.slice la ln lc,.slice ia im ic,.slice ta tn tc]] w fun e w'=>e=.returned (.agg #[.int .i64 nx,.slice ia im ic,.slice ta tn tc])∧Below w.heap.size w w':=by
 obtain ⟨W0,D⟩:∃ W0,W0=w.alloc (.cells #[.int .i64 nx,.slice na nn nc,.slice sa sn sc,.slice ra rn rc,.slice la ln lc,.slice ia im ic,.slice ta tn tc] 41):=⟨_,rfl⟩;have a6:Hid (W0=w.alloc (.cells #[.int .i64 nx,.slice na nn nc,.slice sa sn sc,.slice ra rn rc,.slice la ln lc,.slice ia im ic,.slice ta tn tc] 41)):=D;have R:Below w.heap.size w W0:=by rw [D];exact (Below.refl _ _).alloc (Nat.le_refl _) _
 have I:Hid (Below w.heap.size w W0):=R;have hs:W0.heap.size=w.heap.size+1:=by rw [D];simp
 have q:BoxW 41 W0 w.heap.size nx (.slice na nn nc) (.slice sa sn sc) (.slice ra rn rc) (.slice la ln lc) (.slice ia im ic) (.slice ta tn tc):=by rw [D];exact BoxW.new _ w _ _ _ _ _ _ _
 obtain ⟨z0,z1,z2,z3,z4,z5,z6⟩:=q.cells;clear R D q;go_enter Tryz.func66, Tryz.ntmps66;go_wp2_with fail;refine bodyPost_ret (v:=.agg #[.int .i64 nx,.slice ia im ic,.slice ta tn tc]) (by simp [results, Tryz.results66,go_sem]) rfl ⟨rfl,?_⟩;exact ((Below.refl _ _).alloc (Nat.le_refl _) _).alloc (by simp) _
set_option maxRecDepth 100000 in
set_option maxHeartbeats 4000000 in
theorem notHas_any {na:Option Addr} {nn nc:Nat} {sa:Option Addr} {sn sc:Nat} {ra:Option Addr} {rn rc:Nat} {la:Option Addr} {ln lc:Nat} {ia:Option Addr} {im ic:Nat} {ta:Option Addr} {tn tc:Nat} {nx z:Int} {pb:Nat} (w:World) (q:BoxW 41 w pb nx (.slice na nn nc) (.slice sa sn sc) (.slice ra rn rc) (.slice la ln lc) (.slice ia im ic) (.slice ta tn tc)) :
    Calls Tryz.prog 92 #[.int .i64 z,.pointer (some ⟨pb,0,none⟩)] w fun e w'=>e=.returned (.bool (!(hasB nx z)))∧Below w.heap.size w w':=by
 obtain ⟨z0,z1,z2,z3,z4,z5,z6⟩:=q.cells;clear q;go_enter Tryz.func92, Tryz.ntmps92;go_wp2_with fail;refine (peopleOf_any w).mono ?_;rintro e w1 ⟨rfl,O⟩;have V:Hid (Below w.heap.size w w1):=O;clear O z0 z1 z2 z3 z4 z5 z6;go_wp2_with fail;refine (has_any nx z w1).mono ?_;rintro e w2 ⟨rfl,N⟩;have a2:Hid (Below w.heap.size w w2):=V.out.trans (N.mono V.out.size);clear N;go_wp2_with fail;go_ret;exact ⟨rb rfl,a2.out⟩
set_option maxRecDepth 100000 in
set_option maxHeartbeats 8000000 in
theorem indexAt_any {na:Option Addr} {nn nc:Nat} {sa:Option Addr} {sn sc:Nat} {ra:Option Addr} {rn rc:Nat} {la:Option Addr} {ln lc:Nat} {ia:Option Addr} {im ic:Nat} {ta:Option Addr} {tn tc:Nat} {nx:Int} {pb:Nat} (a:Option Addr) (n u:Nat) (xs:List Int) (w:World) {lo hi:Nat} (h:RI lo hi w a n u xs) (J:hi≤w.heap.size) (q:BoxW 41 w pb nx (.slice na nn nc) (.slice sa sn sc) (.slice ra rn rc) (.slice la ln lc) (.slice ia im ic) (.slice ta tn tc)) :
    Calls Tryz.prog 115 #[.slice a n u,.func (.func 92) #[] #[.pointer (some ⟨pb,0,none⟩)]] w fun e w'=>∃ i:Int,e=.returned (.int .i64 i)∧decide (0≤i)=!(atB xs nx)∧Below w.heap.size w w':=by
 have HR:Hid (RI lo hi w a n u xs):=h;have HL:Hid (xs.length=n):=h.len;have HP:Hid (BoxW 41 w pb nx (.slice na nn nc) (.slice sa sn sc) (.slice ra rn rc) (.slice la ln lc) (.slice ia im ic) (.slice ta tn tc)):=q;have Y:pb<w.heap.size:=q.lt;have hf:=h.fits;clear h q;go_enter Tryz.func115, Tryz.ntmps115;go_upto_region 2 with fail;go_loopw [8] (fun i wr=>∃ k:Nat,k≤n∧i=.int .i64 k∧(List.range k).all (fun i=>hasB nx (xs.getD i 0))=true∧Below w.heap.size w wr) (fun i _=>n - (intOf i).toNat)
 case atStart=>exact ⟨0,Nat.zero_le _,rfl,by simp,Below.refl _ _⟩
 case round =>
  obtain ⟨k,hk,rfl,F,o⟩:=hrel;have G:Hid ((List.range k).all (fun i=>hasB nx (xs.getD i 0))=true):=F;have U:Hid (Below w.heap.size w wr):=o;have a1:Hid (BoxW 41 wr pb nx (.slice na nn nc) (.slice sa sn sc) (.slice ra rn rc) (.slice la ln lc) (.slice ia im ic) (.slice ta tn tc)):=HP.out.below o Y;have L:=o.size;clear F;by_cases hlt:k<n
  · rcases (HR.out.below o J).cells with hz | ⟨b,a3,e1,_,_,hc⟩
    · omega
    subst e1;obtain ⟨v,c0,rfl⟩:=hc k hlt;obtain ⟨z,hz⟩:∃ z,z=xs.getD k 0:=⟨_,rfl⟩;rw [← hz] at c0;have T:Hid (z=xs.getD k 0):=hz;have a4:(k:Int)<(n:Int):=by omega
    clear hc hz o;go_wp2_with fail;refine (notHas_any wr a1.out).mono ?_;rintro e w5 ⟨rfl,A⟩;have E:Hid (Below w.heap.size w w5):=U.out.trans (A.mono L);clear A;cases hq:hasB nx z
    · have HE:Hid (atB xs nx=false):=range_all_false (by rw [HL.out];exact hlt) (by rw [← T.out];exact hq);clear hq;go_wp2_with fail;go_ret;exact ⟨k,rfl,by rw [HE.out];simp,E.out⟩
    have HS:Hid ((List.range (k+1)).all (fun i=>hasB nx (xs.getD i 0))=true):=by unfold Hid;rw [range_all_succ,G.out,← T.out,hq];rfl
    clear hq;go_wp2_with fail;go_roundw
    case rel=>exact ⟨k+1,by omega,by go_num,HS.out,E.out⟩
    case measure=>simp [intOf];omega
  have HF:Hid (atB xs nx=true):=by rw [Hid,atB,HL.out,show n=k by omega];exact G.out
  have a5:decide ((k:Int)<(n:Int))=false:=by simp;omega
  clear o;go_wp2_with fail;go_ret;exact ⟨-1,rfl,by rw [HF.out];simp,U.out⟩
set_option maxRecDepth 100000 in
theorem hasAt_any {na:Option Addr} {nn nc:Nat} {sa:Option Addr} {sn sc:Nat} {ra:Option Addr} {rn rc:Nat} {la:Option Addr} {ln lc:Nat} {ia:Option Addr} {im ic:Nat} {ta:Option Addr} {tn tc:Nat} {nx:Int} {pb:Nat} (a:Option Addr) (n u:Nat) (xs:List Int) (w:World) {lo hi:Nat} (h:RI lo hi w a n u xs) (J:hi≤w.heap.size) (q:BoxW 41 w pb nx (.slice na nn nc) (.slice sa sn sc) (.slice ra rn rc) (.slice la ln lc) (.slice ia im ic) (.slice ta tn tc)) :
    Calls Tryz.prog 91 #[.slice a n u,.func (.func 92) #[] #[.pointer (some ⟨pb,0,none⟩)]] w fun e w'=>e=.returned (.bool (!(atB xs nx)))∧Below w.heap.size w w':=by
 have HR:Hid (RI lo hi w a n u xs):=h;have HP:Hid (BoxW 41 w pb nx (.slice na nn nc) (.slice sa sn sc) (.slice ra rn rc) (.slice la ln lc) (.slice ia im ic) (.slice ta tn tc)):=q;clear h q;go_enter Tryz.func91, Tryz.ntmps91;go_wp2_with fail;refine (indexAt_any a n u xs w HR.out J HP.out).mono ?_;rintro e w5 ⟨i,rfl,M,A⟩;have E:Hid (Below w.heap.size w w5):=A;have HI:Hid (decide (0≤i)=!(atB xs nx)):=M;clear M A;by_cases hi0:0≤i
 · go_wp2_with fail;go_ret;exact ⟨rb (by rw [← HI.out];simp [hi0]),E.out⟩
 go_wp2_with fail;go_ret;exact ⟨rb (by rw [← HI.out]),E.out⟩
end

section
open Go.RowKit
theorem cmp_lt (xs ys:List Int):decide (0≤cmpZ xs ys)=!(ltB xs ys):=by
 unfold cmpZ ltB;rw [← less_cmp];cases Op.bytesLess (strOfNums xs).toList (strOfNums ys).toList
 · cases Op.bytesLess (strOfNums ys).toList (strOfNums xs).toList <;> rfl
 rfl
set_option maxRecDepth 100000 in
set_option maxHeartbeats 8000000 in
theorem wordsFitU_any (a:Option Addr) (n G m:Nat) (xs:List (List Int)) (w:World) {lo hi:Nat} (h:RSS lo hi w a n G xs) :
    Calls Tryz.prog 68 #[.slice a n G,.int .i64 m,.func (.func 90) #[] #[]] w fun e w'=>e=.returned (.bool (decide (n≤m) && namesB true xs))∧w'=w:=by
 have HR:Hid (RSS lo hi w a n G xs):=h;have HL:Hid (xs.length=n):=h.len;have hf:=h.fits;clear h;by_cases hm:m<n
 · have HG:Hid (decide (n≤m)=false):=decide_eq_false (by omega);have J:(m:Int)<(n:Int):=by omega
   go_enter Tryz.func68, Tryz.ntmps68;go_wp2_with fail;go_ret;exact ⟨rb (by rw [HG.out];rfl),rfl⟩
 have V:Hid (decide (n≤m)=true):=decide_eq_true (by omega);have J:decide ((m:Int)<(n:Int))=false:=by simp;omega
 have T:decide (m<n)=false:=by simp;omega
 go_enter Tryz.func68, Tryz.ntmps68;go_upto_region 4 with fail;clear J T hm;go_loopw [15] (fun i wr=>∃ k:Nat,k≤n∧i=.int .i64 k∧(List.range k).all (nameAt true xs)=true∧wr=w) (fun i _=>n - (intOf i).toNat)
 case atStart=>exact ⟨0,Nat.zero_le _,rfl,by simp,rfl⟩
 case round =>
  obtain ⟨k,hk,rfl,z,rfl⟩:=hrel;have A:Hid ((List.range k).all (nameAt true xs)=true):=z;clear z;by_cases hlt:k<n
  · rcases HR.out.cells with hz | ⟨b,Z,e1,_,_,hc⟩
    · omega
    subst e1;obtain ⟨v,c0,ea,en,ec,rfl,hr⟩:=hc k hlt;have HE:Hid (Rd lo hi wr ea en ec (xs.getD k [])):=hr;have a0:(k:Int)<(n:Int):=by omega
    have D:Hid (nameAt true xs k=(wordOkB true (xs.getD k []) && (decide (k=0) || ltB (xs.getD (k - 1) []) (xs.getD k [])))):=rfl;have L:Hid (nameAt true xs k=true→(List.range (k+1)).all (nameAt true xs)=true):=fun h1=>by rw [range_all_succ,A.out,h1];rfl
    have N:Hid (nameAt true xs k=false→namesB true xs=false):=fun h1=>range_all_false (by rw [HL.out];exact hlt) h1
    cases hok:upOk (xs.getD k [])
    · have q:Hid (upOk (xs.getD k [])=false):=hok;clear hc hr hok;have HG:Hid (namesB true xs=false):=N.out (by rw [D.out,show wordOkB true (xs.getD k [])=false from q.out];rfl);go_wp2_with (first | (go_at_call 90;refine (implUpperOk_any ea en ec (xs.getD k []) _ HE.out).mono ?_;rintro e w5 ⟨rfl,o⟩;rw [o,q.out];clear o));go_ret;exact ⟨rb (by rw [HG.out,Bool.and_false]),rfl⟩
    have q:Hid (upOk (xs.getD k [])=true):=hok;clear hok;by_cases hk0:k=0
    · have U:decide (0<k)=false:=by simp;omega
      have Y:Hid (k=0):=hk0;clear hc hr hk0;have HG:Hid (nameAt true xs k=true):=by rw [Hid,D.out,show wordOkB true (xs.getD k [])=true from q.out,decide_eq_true Y.out];rfl
      go_wp2_with (first | (go_at_call 90;refine (implUpperOk_any ea en ec (xs.getD k []) _ HE.out).mono ?_;rintro e w5 ⟨rfl,o⟩;rw [o,q.out];clear o));go_roundw
      case rel=>exact ⟨k+1,by omega,by go_num,L.out HG.out,by first | rfl | trivial⟩
      case measure=>simp [intOf];omega
    obtain ⟨j,HJ⟩:∃ j,Hid (k=j+1):=⟨k - 1,by unfold Hid;omega⟩;obtain ⟨v',c1,pa,pn,pc,rfl,I⟩:=hc j (by have:=HJ.out;omega);have O:Hid (Rd lo hi wr pa pn pc (xs.getD j [])):=I;have U:decide (0<k)=true:=by simp;omega
    have a3:0<k:=by omega
    have a2:(k:Int) - 1=(j:Int):=by have:=HJ.out;omega
    have a1:(j:Int)<(n:Int):=by have:=HJ.out;omega
    obtain ⟨cv,F⟩:∃ cv,cmpZ (xs.getD j []) (xs.getD k [])=cv:=⟨_,rfl⟩;have R:Hid (cmpZ (xs.getD j []) (xs.getD k [])=cv):=F;have M:Hid (decide (0≤cv)=!(ltB (xs.getD j []) (xs.getD k []))):=by unfold Hid;rw [← F];exact cmp_lt _ _
    clear hc hr I hk0 F;by_cases h0:0≤cv
    · have E:decide (0≤cv)=true:=decide_eq_true h0
      have HX:Hid (ltB (xs.getD j []) (xs.getD k [])=false):=by
       have:=M.out;rw [E] at this;unfold Hid;cases e:ltB (xs.getD j []) (xs.getD k [])
       · rfl
       rw [e] at this;exact absurd this (by simp)
      have HG:Hid (namesB true xs=false):=N.out (by rw [D.out,show k - 1=j from by have:=HJ.out;omega,HX.out,Bool.or_false,decide_eq_false (by omega),Bool.and_false]);go_wp2_with (first | (go_at_call 90;refine (implUpperOk_any ea en ec (xs.getD k []) _ HE.out).mono ?_;rintro e w5 ⟨rfl,o⟩;rw [o,q.out];clear o) | (go_at_call 98;refine (bytesCompare_any O.out HE.out).mono ?_;rintro e w6 ⟨rfl,u⟩;rw [u,R.out];clear u));go_ret;exact ⟨rb (by rw [HG.out,Bool.and_false]),rfl⟩
    have E:decide (0≤cv)=false:=decide_eq_false h0
    have HX:Hid (ltB (xs.getD j []) (xs.getD k [])=true):=by
     have:=M.out;rw [E] at this;unfold Hid;cases e:ltB (xs.getD j []) (xs.getD k [])
     · rw [e] at this;exact absurd this (by simp)
     rfl
    have HG:Hid (nameAt true xs k=true):=by rw [Hid,D.out,show wordOkB true (xs.getD k [])=true from q.out,show k - 1=j from by have:=HJ.out;omega,HX.out,Bool.or_true];rfl
    go_wp2_with (first | (go_at_call 90;refine (implUpperOk_any ea en ec (xs.getD k []) _ HE.out).mono ?_;rintro e w5 ⟨rfl,o⟩;rw [o,q.out];clear o) | (go_at_call 98;refine (bytesCompare_any O.out HE.out).mono ?_;rintro e w6 ⟨rfl,u⟩;rw [u,R.out];clear u));go_roundw
    case rel=>exact ⟨k+1,by omega,by go_num,L.out HG.out,by first | rfl | trivial⟩
    case measure=>simp [intOf];omega
  have HG:Hid (namesB true xs=true):=by rw [Hid,namesB,HL.out,show n=k by omega];exact A.out
  go_wp2_with fail;go_ret;exact ⟨rb (by rw [V.out,HG.out];rfl),rfl⟩
set_option maxRecDepth 100000 in
set_option maxHeartbeats 8000000 in
theorem wordsFitL_any (a:Option Addr) (n G m:Nat) (xs:List (List Int)) (w:World) {lo hi:Nat} (h:RSS lo hi w a n G xs) :
    Calls Tryz.prog 68 #[.slice a n G,.int .i64 m,.func (.func 69) #[] #[]] w fun e w'=>e=.returned (.bool (decide (n≤m) && namesB false xs))∧w'=w:=by
 have HR:Hid (RSS lo hi w a n G xs):=h;have HL:Hid (xs.length=n):=h.len;have hf:=h.fits;clear h;by_cases hm:m<n
 · have HG:Hid (decide (n≤m)=false):=decide_eq_false (by omega);have J:(m:Int)<(n:Int):=by omega
   go_enter Tryz.func68, Tryz.ntmps68;go_wp2_with fail;go_ret;exact ⟨rb (by rw [HG.out];rfl),rfl⟩
 have V:Hid (decide (n≤m)=true):=decide_eq_true (by omega);have J:decide ((m:Int)<(n:Int))=false:=by simp;omega
 have T:decide (m<n)=false:=by simp;omega
 go_enter Tryz.func68, Tryz.ntmps68;go_upto_region 4 with fail;clear J T hm;go_loopw [15] (fun i wr=>∃ k:Nat,k≤n∧i=.int .i64 k∧(List.range k).all (nameAt false xs)=true∧wr=w) (fun i _=>n - (intOf i).toNat)
 case atStart=>exact ⟨0,Nat.zero_le _,rfl,by simp,rfl⟩
 case round =>
  obtain ⟨k,hk,rfl,z,rfl⟩:=hrel;have A:Hid ((List.range k).all (nameAt false xs)=true):=z;clear z;by_cases hlt:k<n
  · rcases HR.out.cells with hz | ⟨b,Z,e1,_,_,hc⟩
    · omega
    subst e1;obtain ⟨v,c0,ea,en,ec,rfl,hr⟩:=hc k hlt;have HE:Hid (Rd lo hi wr ea en ec (xs.getD k [])):=hr;have a0:(k:Int)<(n:Int):=by omega
    have D:Hid (nameAt false xs k=(wordOkB false (xs.getD k []) && (decide (k=0) || ltB (xs.getD (k - 1) []) (xs.getD k [])))):=rfl;have L:Hid (nameAt false xs k=true→(List.range (k+1)).all (nameAt false xs)=true):=fun h1=>by rw [range_all_succ,A.out,h1];rfl
    have N:Hid (nameAt false xs k=false→namesB false xs=false):=fun h1=>range_all_false (by rw [HL.out];exact hlt) h1
    cases hok:lowOk (xs.getD k [])
    · have q:Hid (lowOk (xs.getD k [])=false):=hok;clear hc hr hok;have HG:Hid (namesB false xs=false):=N.out (by rw [D.out,show wordOkB false (xs.getD k [])=false from q.out];rfl);go_wp2_with (first | (go_at_call 69;refine (implLowerOk_any ea en ec (xs.getD k []) _ HE.out).mono ?_;rintro e w5 ⟨rfl,o⟩;rw [o,q.out];clear o));go_ret;exact ⟨rb (by rw [HG.out,Bool.and_false]),rfl⟩
    have q:Hid (lowOk (xs.getD k [])=true):=hok;clear hok;by_cases hk0:k=0
    · have U:decide (0<k)=false:=by simp;omega
      have Y:Hid (k=0):=hk0;clear hc hr hk0;have HG:Hid (nameAt false xs k=true):=by rw [Hid,D.out,show wordOkB false (xs.getD k [])=true from q.out,decide_eq_true Y.out];rfl
      go_wp2_with (first | (go_at_call 69;refine (implLowerOk_any ea en ec (xs.getD k []) _ HE.out).mono ?_;rintro e w5 ⟨rfl,o⟩;rw [o,q.out];clear o));go_roundw
      case rel=>exact ⟨k+1,by omega,by go_num,L.out HG.out,by first | rfl | trivial⟩
      case measure=>simp [intOf];omega
    obtain ⟨j,HJ⟩:∃ j,Hid (k=j+1):=⟨k - 1,by unfold Hid;omega⟩;obtain ⟨v',c1,pa,pn,pc,rfl,I⟩:=hc j (by have:=HJ.out;omega);have O:Hid (Rd lo hi wr pa pn pc (xs.getD j [])):=I;have U:decide (0<k)=true:=by simp;omega
    have a3:0<k:=by omega
    have a2:(k:Int) - 1=(j:Int):=by have:=HJ.out;omega
    have a1:(j:Int)<(n:Int):=by have:=HJ.out;omega
    obtain ⟨cv,F⟩:∃ cv,cmpZ (xs.getD j []) (xs.getD k [])=cv:=⟨_,rfl⟩;have R:Hid (cmpZ (xs.getD j []) (xs.getD k [])=cv):=F;have M:Hid (decide (0≤cv)=!(ltB (xs.getD j []) (xs.getD k []))):=by unfold Hid;rw [← F];exact cmp_lt _ _
    clear hc hr I hk0 F;by_cases h0:0≤cv
    · have E:decide (0≤cv)=true:=decide_eq_true h0
      have HX:Hid (ltB (xs.getD j []) (xs.getD k [])=false):=by
       have:=M.out;rw [E] at this;unfold Hid;cases e:ltB (xs.getD j []) (xs.getD k [])
       · rfl
       rw [e] at this;exact absurd this (by simp)
      have HG:Hid (namesB false xs=false):=N.out (by rw [D.out,show k - 1=j from by have:=HJ.out;omega,HX.out,Bool.or_false,decide_eq_false (by omega),Bool.and_false]);go_wp2_with (first | (go_at_call 69;refine (implLowerOk_any ea en ec (xs.getD k []) _ HE.out).mono ?_;rintro e w5 ⟨rfl,o⟩;rw [o,q.out];clear o) | (go_at_call 98;refine (bytesCompare_any O.out HE.out).mono ?_;rintro e w6 ⟨rfl,u⟩;rw [u,R.out];clear u));go_ret;exact ⟨rb (by rw [HG.out,Bool.and_false]),rfl⟩
    have E:decide (0≤cv)=false:=decide_eq_false h0
    have HX:Hid (ltB (xs.getD j []) (xs.getD k [])=true):=by
     have:=M.out;rw [E] at this;unfold Hid;cases e:ltB (xs.getD j []) (xs.getD k [])
     · rw [e] at this;exact absurd this (by simp)
     rfl
    have HG:Hid (nameAt false xs k=true):=by rw [Hid,D.out,show wordOkB false (xs.getD k [])=true from q.out,show k - 1=j from by have:=HJ.out;omega,HX.out,Bool.or_true];rfl
    go_wp2_with (first | (go_at_call 69;refine (implLowerOk_any ea en ec (xs.getD k []) _ HE.out).mono ?_;rintro e w5 ⟨rfl,o⟩;rw [o,q.out];clear o) | (go_at_call 98;refine (bytesCompare_any O.out HE.out).mono ?_;rintro e w6 ⟨rfl,u⟩;rw [u,R.out];clear u));go_roundw
    case rel=>exact ⟨k+1,by omega,by go_num,L.out HG.out,by first | rfl | trivial⟩
    case measure=>simp [intOf];omega
  have HG:Hid (namesB false xs=true):=by rw [Hid,namesB,HL.out,show n=k by omega];exact A.out
  go_wp2_with fail;go_ret;exact ⟨rb (by rw [V.out,HG.out];rfl),rfl⟩
end

end Go.Proofs.YtellcgmabimieaaGreatDoor
