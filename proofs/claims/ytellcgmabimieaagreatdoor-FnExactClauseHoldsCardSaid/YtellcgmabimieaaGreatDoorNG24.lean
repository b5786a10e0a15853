/- Several texts in one: HlS, HlS0, HlSx. -/
import Derived.Test.YtellcgmabimieaaGreatDoorNG21
import Derived.Test.YtellcgmabimieaaGreatDoorNG22
namespace Go.Proofs.YtellcgmabimieaaGreatDoor

section
open Go.RowKit
set_option maxRecDepth 100000 in
set_option maxHeartbeats 8000000 in
theorem l6part_any {a:Option Addr} {n M:Nat} {ls:List (List Bool)} {w:World} {lo hi:Nat} {p q e L:Nat} (h:RFF lo hi w a n M ls) (V:hi≤w.heap.size) (hp:p<16777216) (hq:q<16777216) (he:e<L) (N:∀ i,i<n→(ls.getD i []).length=L) (hn:n≤24) :
    Calls Tryz.prog 60 #[.agg #[.int .i64 (p:Nat),.int .i64 (q:Nat)],.slice a n M,.int .i64 (e:Nat)] w fun r w'=>r=.returned (.bool (partE ls n p q e))∧Below w.heap.size w w':=by
 obtain ⟨W,hW⟩:∃ W,W=w.alloc (.cells #[.int .i64 (p:Nat),.int .i64 (q:Nat)] 48):=⟨_,rfl⟩;have HW:Hid (W=w.alloc (.cells #[.int .i64 (p:Nat),.int .i64 (q:Nat)] 48)):=hW;have J:Below w.heap.size w W:=by rw [hW];exact (Below.refl _ _).alloc (Nat.le_refl _) _
 have z:Hid (Below w.heap.size w W):=J;have T:BoxP 48 W w.heap.size p q:=by rw [hW];exact BoxP.new _ w _ _
 obtain ⟨z0,z1⟩:=T.cells;have HR:Hid (RFF lo hi W a n M ls):=h.below J V;have a0:Hid (∀ i,i<n→(ls.getD i []).length=L):=N;have HP:Hid (p<16777216∧q<16777216):=⟨hp,hq⟩;have a2:=h.fits;clear J hW T h N;go_enter Tryz.func60, Tryz.ntmps60;go_upto_region 1 with fail;rw [← HW.out];go_wp2_with fail;go_loopw [7] (fun i wr=>∃ k:Nat,k≤n∧i=.int .i64 k∧(∀ j,j<k→litE ls p q e j=false)∧wr=W) (fun i _=>n - (intOf i).toNat)
 case atStart=>exact ⟨0,Nat.zero_le _,rfl,fun j hj=>absurd hj (by omega),rfl⟩
 case round =>
  obtain ⟨k,hk,rfl,A,rfl⟩:=hrel;have D:Hid (∀ j,j<k→litE ls p q e j=false):=A;clear A;by_cases hlt:k<n
  · have U:(k:Int)<(n:Int):=by omega
    have a1:min k 64=k:=by omega
    have b1:=bit_at p k HP.out.1;have b2:=bit_at q k HP.out.2;obtain ⟨x1,I⟩:∃ b,b=p.testBit k:=⟨_,rfl⟩;obtain ⟨x2,G⟩:∃ b,b=q.testBit k:=⟨_,rfl⟩;obtain ⟨fl,u⟩:∃ b,b=(ls.getD k []).getD e false:=⟨_,rfl⟩;have HV:Hid (litE ls p q e k=if fl=true then x1 else x2):=by unfold Hid litE;rw [I,G,u]
    rw [← I] at b1;rw [← G] at b2;rcases HR.out.cells with hz | ⟨bl,ol,el,_,_,O⟩
    · omega
    subst el;obtain ⟨vl,a5,ea,en,ec,rfl,E⟩:=O k hlt;have Y:en=L:=by have h1:=E.len;have h3:=a0.out k hlt;omega
    subst Y;have a3:=E.fits;rcases E.cells with hz | ⟨b2,o2,e2,_,a4,R⟩
    · omega
    subst e2;obtain ⟨v2,Z,rfl⟩:=R e he;rw [← u] at Z;have o:Hid (litE ls p q e k=true→partE ls n p q e=true):=fun hh=>partE_at hlt hh
    have F:Hid (litE ls p q e k=false→∀ j,j<k+1→litE ls p q e j=false):=fun hh j hj=>by
     by_cases e':j=k
     · subst e';exact hh
     exact D.out j (by omega)
    clear I G u E R O;cases x1 <;> cases x2 <;> cases fl
    · have HN:Hid (∀ j,j<k+1→litE ls p q e j=false):=F.out (by rw [HV.out];rfl);go_wp2_with fail;go_roundw
      case rel=>exact ⟨k+1,by omega,by go_num,HN.out,by first | rfl | trivial⟩
      case measure=>simp [intOf];omega
    · have HN:Hid (∀ j,j<k+1→litE ls p q e j=false):=F.out (by rw [HV.out];rfl);go_wp2_with fail;go_roundw
      case rel=>exact ⟨k+1,by omega,by go_num,HN.out,by first | rfl | trivial⟩
      case measure=>simp [intOf];omega
    · have HN:Hid (partE ls n p q e=true):=o.out (by rw [HV.out];rfl);go_wp2_with fail;go_ret;exact ⟨rb HN.out.symm,z.out⟩
    · have HN:Hid (∀ j,j<k+1→litE ls p q e j=false):=F.out (by rw [HV.out];rfl);go_wp2_with fail;go_roundw
      case rel=>exact ⟨k+1,by omega,by go_num,HN.out,by first | rfl | trivial⟩
      case measure=>simp [intOf];omega
    · have HN:Hid (∀ j,j<k+1→litE ls p q e j=false):=F.out (by rw [HV.out];rfl);go_wp2_with fail;go_roundw
      case rel=>exact ⟨k+1,by omega,by go_num,HN.out,by first | rfl | trivial⟩
      case measure=>simp [intOf];omega
    · have HN:Hid (partE ls n p q e=true):=o.out (by rw [HV.out];rfl);go_wp2_with fail;go_ret;exact ⟨rb HN.out.symm,z.out⟩
    · have HN:Hid (partE ls n p q e=true):=o.out (by rw [HV.out];rfl);go_wp2_with fail;go_ret;exact ⟨rb HN.out.symm,z.out⟩
    have HN:Hid (partE ls n p q e=true):=o.out (by rw [HV.out];rfl);go_wp2_with fail;go_ret;exact ⟨rb HN.out.symm,z.out⟩
  have U:¬ ((k:Int)<(n:Int)):=by omega
  have HN:Hid (partE ls n p q e=false):=partE_none (fun i hi=>D.out i (by omega));go_wp2_with fail;go_ret;exact ⟨rb HN.out.symm,z.out⟩
end

section
open Go.RowKit
set_option linter.unusedVariables false
set_option linter.unusedSimpArgs false
set_option maxRecDepth 100000 in
set_option maxHeartbeats 8000000 in
theorem l6holds_0 {na:Option Addr} {nn nc:Nat} {sa:Option Addr} {sn sc:Nat} {ra:Option Addr} {rn rc:Nat} {la:Option Addr} {ln lc:Nat} {ia:Option Addr} {im ic:Nat} {ta:Option Addr} {tn tc:Nat} {x:WD} {d:Nat} {xa:Option Addr} {xn xc:Nat} {oa:Option Addr} {on oc:Nat} {ua:Option Addr} {un uc:Nat} {ka:Option Addr} {kn kc:Nat} {s:CS} {f:Int} {r u:Nat} {p q p' q':Nat} {ya:Option Addr} {yn yc:Nat} {a b:Int} {xs:List (Int × Int)} {fa:Option Addr} {fn fc:Nat} {ls:List (List Bool)} {w:World} {lo hi lo' hi' ac Y L:Nat} (ae:worldB x=true) (af:x.n=(L:Int)) (hL:L≤128) (h:RdW lo hi w na nn nc sa sn sc ra rn rc la ln lc ia im ic ta tn tc x) (hs:RdS lo' hi' w d xa xn xc oa on oc ua un uc ka kn kc s) (hf:RFF ac Y w fa fn fc ls) (ah:hi≤w.heap.size) (R:hi'≤w.heap.size) (o:Y≤w.heap.size) (M:∀ i,i<fn→(ls.getD i []).length=L) (N:fn≤24) (hp:p<16777216) (hq:q<16777216) (U:p'<16777216) (T:q'<16777216) :
    Calls Tryz.prog 28 #[.agg #[.int .i64 (L:Nat),.slice na nn nc,.slice sa sn sc,.slice ra rn rc,.slice la ln lc,.slice ia im ic,.slice ta tn tc],.agg #[.slice xa xn xc,.slice oa on oc,.slice ua un uc,.slice ka kn kc],.agg #[.int .i64 0,.int .i64 f,.int .i64 (r:Nat),.int .i64 (u:Nat),.int .i64 (p:Nat),.int .i64 (q:Nat),.int .i64 (p':Nat),.int .i64 (q':Nat),.slice ya yn yc,.int .i64 a,.int .i64 b],.slice fa fn fc] w fun e w'=>e=.returned (.bool (holdsK x s.roles ls fn L 0 r u p q p' q'))∧Below w.heap.size w w':=by
 obtain ⟨W,hW⟩:∃ W,W=(((w.alloc (.cells #[.int .i64 (L:Nat),.slice na nn nc,.slice sa sn sc,.slice ra rn rc,.slice la ln lc,.slice ia im ic,.slice ta tn tc] 41)).alloc (.cells #[.slice xa xn xc,.slice oa on oc,.slice ua un uc,.slice ka kn kc] 46)).alloc (.cells #[.int .i64 0,.int .i64 f,.int .i64 (r:Nat),.int .i64 (u:Nat),.int .i64 (p:Nat),.int .i64 (q:Nat),.int .i64 (p':Nat),.int .i64 (q':Nat),.slice ya yn yc,.int .i64 a,.int .i64 b] 51)):=⟨_,rfl⟩;have HW:Hid (W=(((w.alloc (.cells #[.int .i64 (L:Nat),.slice na nn nc,.slice sa sn sc,.slice ra rn rc,.slice la ln lc,.slice ia im ic,.slice ta tn tc] 41)).alloc (.cells #[.slice xa xn xc,.slice oa on oc,.slice ua un uc,.slice ka kn kc] 46)).alloc (.cells #[.int .i64 0,.int .i64 f,.int .i64 (r:Nat),.int .i64 (u:Nat),.int .i64 (p:Nat),.int .i64 (q:Nat),.int .i64 (p':Nat),.int .i64 (q':Nat),.slice ya yn yc,.int .i64 a,.int .i64 b] 51))):=hW;have D:Below w.heap.size w W:=by rw [hW];exact (((Below.refl _ _).alloc (Nat.le_refl _) _).alloc (by simp) _).alloc (by simp;omega) _
 have ad:W.heap.size=w.heap.size+3:=by rw [hW];simp
 have a7:BoxW 41 W w.heap.size (L:Int) (.slice na nn nc) (.slice sa sn sc) (.slice ra rn rc) (.slice la ln lc) (.slice ia im ic) (.slice ta tn tc):=by rw [hW];exact ((BoxW.new _ w _ _ _ _ _ _ _).below ((Below.refl _ _).alloc (Nat.le_refl _) _) (by simp)).below ((Below.refl _ _).alloc (Nat.le_refl _) _) (by simp;omega)
 have a8:Blk W (w.heap.size+1) 46 (.slice xa xn xc) (.slice oa on oc) (.slice ua un uc) (.slice ka kn kc):=by
  have e:Blk ((w.alloc (.cells #[.int .i64 (L:Nat),.slice na nn nc,.slice sa sn sc,.slice ra rn rc,.slice la ln lc,.slice ia im ic,.slice ta tn tc] 41)).alloc (.cells #[.slice xa xn xc,.slice oa on oc,.slice ua un uc,.slice ka kn kc] 46)) (w.alloc (.cells #[.int .i64 (L:Nat),.slice na nn nc,.slice sa sn sc,.slice ra rn rc,.slice la ln lc,.slice ia im ic,.slice ta tn tc] 41)).heap.size 46 (.slice xa xn xc) (.slice oa on oc) (.slice ua un uc) (.slice ka kn kc):=Blk.alloc_new _ _ _ _ _ _ _ rfl;rw [World.size_alloc] at e;rw [hW];exact e.alloc _
 have a9:BoxK 51 W (w.heap.size+2) 0 f (r:Int) (u:Int) (p:Int) (q:Int) (p':Int) (q':Int) (.slice ya yn yc) a b:=by
  have e:=BoxK.new 51 ((w.alloc (.cells #[.int .i64 (L:Nat),.slice na nn nc,.slice sa sn sc,.slice ra rn rc,.slice la ln lc,.slice ia im ic,.slice ta tn tc] 41)).alloc (.cells #[.slice xa xn xc,.slice oa on oc,.slice ua un uc,.slice ka kn kc] 46)) 0 f (r:Int) (u:Int) (p:Int) (q:Int) (p':Int) (q':Int) (.slice ya yn yc) a b;rw [World.size_alloc,World.size_alloc] at e;rw [hW];exact e
 have al:Hid (Below w.heap.size w W):=D;have ab:Hid (∀ V,Below W.heap.size W V→BoxW 41 V w.heap.size (L:Int) (.slice na nn nc) (.slice sa sn sc) (.slice ra rn rc) (.slice la ln lc) (.slice ia im ic) (.slice ta tn tc)∧Blk V (w.heap.size+1) 46 (.slice xa xn xc) (.slice oa on oc) (.slice ua un uc) (.slice ka kn kc)∧BoxK 51 V (w.heap.size+2) 0 f (r:Int) (u:Int) (p:Int) (q:Int) (p':Int) (q':Int) (.slice ya yn yc) a b):=fun V hV=>⟨a7.below hV (by omega),a8.below hV (by omega),a9.below hV (by omega)⟩
 have G:Hid (∀ {V:World},Below W.heap.size W V→Below w.heap.size w V):=fun {V} hV=>D.trans (hV.mono D.size)
 have ai:Hid (∀ V,Below W.heap.size W V→∀ e:Nat,e<L→Calls Tryz.prog 60 #[.agg #[.int .i64 (p:Nat),.int .i64 (q:Nat)],.slice fa fn fc,.int .i64 (e:Nat)] V fun r w'=>r=.returned (.bool (partE ls fn p q e))∧Below V.heap.size V w'):=fun V hV e he=>l6part_any ((hf.below D o).below hV (by omega)) (by have:=hV.size;omega) hp hq he M N
 have ak:Hid (∀ V,Below W.heap.size W V→∀ e:Nat,e<L→Calls Tryz.prog 60 #[.agg #[.int .i64 (p':Nat),.int .i64 (q':Nat)],.slice fa fn fc,.int .i64 (e:Nat)] V fun r w'=>r=.returned (.bool (partE ls fn p' q' e))∧Below V.heap.size V w'):=fun V hV e he=>l6part_any ((hf.below D o).below hV (by omega)) (by have:=hV.size;omega) U T he M N
 have F:Hid (∀ V,Below W.heap.size W V→V.cell? ⟨w.heap.size,0,none⟩=some (.int .i64 (L:Nat))∧V.cell? ⟨w.heap.size,1,none⟩=some (.slice na nn nc)∧V.cell? ⟨w.heap.size,2,none⟩=some (.slice sa sn sc)∧V.cell? ⟨w.heap.size,3,none⟩=some (.slice ra rn rc)∧V.cell? ⟨w.heap.size,4,none⟩=some (.slice la ln lc)∧V.cell? ⟨w.heap.size,5,none⟩=some (.slice ia im ic)∧V.cell? ⟨w.heap.size,6,none⟩=some (.slice ta tn tc)∧V.cell? ⟨w.heap.size+1,1,none⟩=some (.slice oa on oc)∧V.cell? ⟨w.heap.size+2,2,none⟩=some (.int .i64 (r:Nat))∧V.cell? ⟨w.heap.size+2,3,none⟩=some (.int .i64 (u:Nat))∧V.cell? ⟨w.heap.size+2,4,none⟩=some (.int .i64 (p:Nat))∧V.cell? ⟨w.heap.size+2,5,none⟩=some (.int .i64 (q:Nat))∧V.cell? ⟨w.heap.size+2,6,none⟩=some (.int .i64 (p':Nat))∧V.cell? ⟨w.heap.size+2,7,none⟩=some (.int .i64 (q':Nat))):=fun V hV=>by
  obtain ⟨q1,q2,q3⟩:=ab.out V hV;obtain ⟨y0,y1,y2,y3,y4,y5,y6,y7,y8,y9,aj⟩:=q3.cells;obtain ⟨g0,g1,g2,g3,g4,g5,g6⟩:=q1.cells;exact ⟨g0,g1,g2,g3,g4,g5,g6,q2.cells.2.1,y2,y3,y4,y5,y6,y7⟩
 have HE:Hid (holdsK x s.roles ls fn L 0 r u p q p' q'=onE L (partE ls fn p q)):=rfl;obtain ⟨a0,a1,a2,a3,a4,a5,a6,s1,k2,k3,k4,k5,k6,k7⟩:=F.out W (Below.refl _ _);have kk:=(ab.out W (Below.refl _ _)).2.2.cells.1;clear h hs hf ah R o D a7 a8 a9 hW ad ae af M N hp hq U T;go_enter Tryz.func28, Tryz.ntmps28;go_upto_region 1 with fail;rw [← HW.out];go_wp2_with fail;go_loopw [9] (fun i wr=>∃ k:Nat,k≤L∧i=.int .i64 k∧(∀ j,j<k→partE ls fn p q j=true)∧Below W.heap.size W wr) (fun i _=>L - (intOf i).toNat)
 case atStart=>exact ⟨0,Nat.zero_le _,rfl,fun j hj=>absurd hj (by omega),Below.refl _ _⟩
 case round =>
  obtain ⟨k,hk,rfl,E,z⟩:=hrel;have I:Hid (∀ j,j<k→partE ls fn p q j=true):=E;have J:Hid (Below W.heap.size W wr):=z;clear a0 a1 a2 a3 a4 a5 a6 s1 k2 k3 k4 k5 k6 k7 kk;obtain ⟨a0,a1,a2,a3,a4,a5,a6,s1,k2,k3,k4,k5,k6,k7⟩:=F.out wr z;clear E z;by_cases hlt:k<L
  · have ag:(k:Int)<(L:Int):=by omega
    obtain ⟨f1,Z⟩:∃ b,b=partE ls fn p q k:=⟨_,rfl⟩;have O:Hid (f1=partE ls fn p q k):=Z;clear Z;go_wp2_with fail;refine (ai.out wr J.out k hlt).mono ?_;rintro e w1 ⟨rfl,aa⟩;rw [← O.out];have H1:Hid (Below W.heap.size W w1):=J.out.trans (aa.mono J.out.size);clear aa a0 a1 a2 a3 a4 a5 a6 s1 k2 k3 k4 k5 k6 k7;cases f1 with
    | false =>
     have HN:Hid (holdsK x s.roles ls fn L 0 r u p q p' q'=false):=by unfold Hid;rw [HE.out];exact onE_at hlt O.out.symm
     go_wp2_with fail;go_ret;exact ⟨rb HN.out.symm,G.out H1.out⟩
    | true =>
     have HN:Hid (∀ j,j<k+1→partE ls fn p q j=true):=fun j hj=>by
      by_cases e':j=k
      · subst e';exact O.out.symm
      exact I.out j (by omega)
     go_wp2_with fail;go_roundw
     case rel=>exact ⟨k+1,by omega,by go_num,HN.out,H1.out⟩
     case measure=>simp [intOf];omega
  have ag:¬ ((k:Int)<(L:Int)):=by omega
  have HN:Hid (holdsK x s.roles ls fn L 0 r u p q p' q'=true):=by unfold Hid;rw [HE.out];exact onE_all fun e he=>I.out e (by omega)
  go_wp2_with fail;go_ret;exact ⟨rb HN.out.symm,G.out J.out⟩
end

section
open Go.RowKit
set_option linter.unusedVariables false
set_option linter.unusedSimpArgs false
set_option maxRecDepth 100000 in
set_option maxHeartbeats 8000000 in
theorem l6holds_x {na:Option Addr} {nn nc:Nat} {sa:Option Addr} {sn sc:Nat} {ra:Option Addr} {rn rc:Nat} {la:Option Addr} {ln lc:Nat} {ia:Option Addr} {im ic:Nat} {ta:Option Addr} {tn tc:Nat} {x:WD} {d:Nat} {xa:Option Addr} {xn xc:Nat} {oa:Option Addr} {on oc:Nat} {ua:Option Addr} {un uc:Nat} {ka:Option Addr} {kn kc:Nat} {s:CS} {k f:Int} {r u:Nat} {p q p' q':Nat} {ya:Option Addr} {yn yc:Nat} {a b:Int} {xs:List (Int × Int)} {fa:Option Addr} {fn fc:Nat} {ls:List (List Bool)} {w:World} {lo hi lo' hi' Y N L:Nat} (hk:k≠0∧k≠3∧k≠4) (a7:worldB x=true) (a8:x.n=(L:Int)) (hL:L≤128) (h:RdW lo hi w na nn nc sa sn sc ra rn rc la ln lc ia im ic ta tn tc x) (hs:RdS lo' hi' w d xa xn xc oa on oc ua un uc ka kn kc s) (hf:RFF Y N w fa fn fc ls) (ac:hi≤w.heap.size) (F:hi'≤w.heap.size) (o:N≤w.heap.size) (D:∀ i,i<fn→(ls.getD i []).length=L) (E:fn≤24) (hp:p<16777216) (hq:q<16777216) (M:p'<16777216) (J:q'<16777216) :
    Calls Tryz.prog 28 #[.agg #[.int .i64 (L:Nat),.slice na nn nc,.slice sa sn sc,.slice ra rn rc,.slice la ln lc,.slice ia im ic,.slice ta tn tc],.agg #[.slice xa xn xc,.slice oa on oc,.slice ua un uc,.slice ka kn kc],.agg #[.int .i64 k,.int .i64 f,.int .i64 (r:Nat),.int .i64 (u:Nat),.int .i64 (p:Nat),.int .i64 (q:Nat),.int .i64 (p':Nat),.int .i64 (q':Nat),.slice ya yn yc,.int .i64 a,.int .i64 b],.slice fa fn fc] w fun e w'=>e=.returned (.bool (holdsK x s.roles ls fn L k r u p q p' q'))∧Below w.heap.size w w':=by
 obtain ⟨W,hW⟩:∃ W,W=(((w.alloc (.cells #[.int .i64 (L:Nat),.slice na nn nc,.slice sa sn sc,.slice ra rn rc,.slice la ln lc,.slice ia im ic,.slice ta tn tc] 41)).alloc (.cells #[.slice xa xn xc,.slice oa on oc,.slice ua un uc,.slice ka kn kc] 46)).alloc (.cells #[.int .i64 k,.int .i64 f,.int .i64 (r:Nat),.int .i64 (u:Nat),.int .i64 (p:Nat),.int .i64 (q:Nat),.int .i64 (p':Nat),.int .i64 (q':Nat),.slice ya yn yc,.int .i64 a,.int .i64 b] 51)):=⟨_,rfl⟩;have HW:Hid (W=(((w.alloc (.cells #[.int .i64 (L:Nat),.slice na nn nc,.slice sa sn sc,.slice ra rn rc,.slice la ln lc,.slice ia im ic,.slice ta tn tc] 41)).alloc (.cells #[.slice xa xn xc,.slice oa on oc,.slice ua un uc,.slice ka kn kc] 46)).alloc (.cells #[.int .i64 k,.int .i64 f,.int .i64 (r:Nat),.int .i64 (u:Nat),.int .i64 (p:Nat),.int .i64 (q:Nat),.int .i64 (p':Nat),.int .i64 (q':Nat),.slice ya yn yc,.int .i64 a,.int .i64 b] 51))):=hW;have z:Below w.heap.size w W:=by rw [hW];exact (((Below.refl _ _).alloc (Nat.le_refl _) _).alloc (by simp) _).alloc (by simp;omega) _
 have Z:W.heap.size=w.heap.size+3:=by rw [hW];simp
 have O:BoxW 41 W w.heap.size (L:Int) (.slice na nn nc) (.slice sa sn sc) (.slice ra rn rc) (.slice la ln lc) (.slice ia im ic) (.slice ta tn tc):=by rw [hW];exact ((BoxW.new _ w _ _ _ _ _ _ _).below ((Below.refl _ _).alloc (Nat.le_refl _) _) (by simp)).below ((Below.refl _ _).alloc (Nat.le_refl _) _) (by simp;omega)
 have R:Blk W (w.heap.size+1) 46 (.slice xa xn xc) (.slice oa on oc) (.slice ua un uc) (.slice ka kn kc):=by
  have e:Blk ((w.alloc (.cells #[.int .i64 (L:Nat),.slice na nn nc,.slice sa sn sc,.slice ra rn rc,.slice la ln lc,.slice ia im ic,.slice ta tn tc] 41)).alloc (.cells #[.slice xa xn xc,.slice oa on oc,.slice ua un uc,.slice ka kn kc] 46)) (w.alloc (.cells #[.int .i64 (L:Nat),.slice na nn nc,.slice sa sn sc,.slice ra rn rc,.slice la ln lc,.slice ia im ic,.slice ta tn tc] 41)).heap.size 46 (.slice xa xn xc) (.slice oa on oc) (.slice ua un uc) (.slice ka kn kc):=Blk.alloc_new _ _ _ _ _ _ _ rfl;rw [World.size_alloc] at e;rw [hW];exact e.alloc _
 have T:BoxK 51 W (w.heap.size+2) k f (r:Int) (u:Int) (p:Int) (q:Int) (p':Int) (q':Int) (.slice ya yn yc) a b:=by
  have e:=BoxK.new 51 ((w.alloc (.cells #[.int .i64 (L:Nat),.slice na nn nc,.slice sa sn sc,.slice ra rn rc,.slice la ln lc,.slice ia im ic,.slice ta tn tc] 41)).alloc (.cells #[.slice xa xn xc,.slice oa on oc,.slice ua un uc,.slice ka kn kc] 46)) k f (r:Int) (u:Int) (p:Int) (q:Int) (p':Int) (q':Int) (.slice ya yn yc) a b;rw [World.size_alloc,World.size_alloc] at e;rw [hW];exact e
 have ag:Hid (Below w.heap.size w W):=z;have U:Hid (∀ V,Below W.heap.size W V→BoxW 41 V w.heap.size (L:Int) (.slice na nn nc) (.slice sa sn sc) (.slice ra rn rc) (.slice la ln lc) (.slice ia im ic) (.slice ta tn tc)∧Blk V (w.heap.size+1) 46 (.slice xa xn xc) (.slice oa on oc) (.slice ua un uc) (.slice ka kn kc)∧BoxK 51 V (w.heap.size+2) k f (r:Int) (u:Int) (p:Int) (q:Int) (p':Int) (q':Int) (.slice ya yn yc) a b):=fun V hV=>⟨O.below hV (by omega),R.below hV (by omega),T.below hV (by omega)⟩
 have I:Hid (∀ {V:World},Below W.heap.size W V→Below w.heap.size w V):=fun {V} hV=>z.trans (hV.mono z.size)
 have af:Hid (∀ V,Below W.heap.size W V→∀ e:Nat,e<L→Calls Tryz.prog 60 #[.agg #[.int .i64 (p:Nat),.int .i64 (q:Nat)],.slice fa fn fc,.int .i64 (e:Nat)] V fun r w'=>r=.returned (.bool (partE ls fn p q e))∧Below V.heap.size V w'):=fun V hV e he=>l6part_any ((hf.below z o).below hV (by omega)) (by have:=hV.size;omega) hp hq he D E
 have ae:Hid (∀ V,Below W.heap.size W V→∀ e:Nat,e<L→Calls Tryz.prog 60 #[.agg #[.int .i64 (p':Nat),.int .i64 (q':Nat)],.slice fa fn fc,.int .i64 (e:Nat)] V fun r w'=>r=.returned (.bool (partE ls fn p' q' e))∧Below V.heap.size V w'):=fun V hV e he=>l6part_any ((hf.below z o).below hV (by omega)) (by have:=hV.size;omega) M J he D E
 have G:Hid (∀ V,Below W.heap.size W V→V.cell? ⟨w.heap.size,0,none⟩=some (.int .i64 (L:Nat))∧V.cell? ⟨w.heap.size,1,none⟩=some (.slice na nn nc)∧V.cell? ⟨w.heap.size,2,none⟩=some (.slice sa sn sc)∧V.cell? ⟨w.heap.size,3,none⟩=some (.slice ra rn rc)∧V.cell? ⟨w.heap.size,4,none⟩=some (.slice la ln lc)∧V.cell? ⟨w.heap.size,5,none⟩=some (.slice ia im ic)∧V.cell? ⟨w.heap.size,6,none⟩=some (.slice ta tn tc)∧V.cell? ⟨w.heap.size+1,1,none⟩=some (.slice oa on oc)∧V.cell? ⟨w.heap.size+2,2,none⟩=some (.int .i64 (r:Nat))∧V.cell? ⟨w.heap.size+2,3,none⟩=some (.int .i64 (u:Nat))∧V.cell? ⟨w.heap.size+2,4,none⟩=some (.int .i64 (p:Nat))∧V.cell? ⟨w.heap.size+2,5,none⟩=some (.int .i64 (q:Nat))∧V.cell? ⟨w.heap.size+2,6,none⟩=some (.int .i64 (p':Nat))∧V.cell? ⟨w.heap.size+2,7,none⟩=some (.int .i64 (q':Nat))):=fun V hV=>by
  obtain ⟨q1,q2,q3⟩:=U.out V hV;obtain ⟨y0,y1,y2,y3,y4,y5,y6,y7,y8,y9,ad⟩:=q3.cells;obtain ⟨g0,g1,g2,g3,g4,g5,g6⟩:=q1.cells;exact ⟨g0,g1,g2,g3,g4,g5,g6,q2.cells.2.1,y2,y3,y4,y5,y6,y7⟩
 have HE:Hid (holdsK x s.roles ls fn L k r u p q p' q'=true):=by unfold Hid holdsK;rw [if_neg hk.1,if_neg hk.2.1,if_neg hk.2.2]
 obtain ⟨a0,a1,a2,a3,a4,a5,a6,s1,k2,k3,k4,k5,k6,k7⟩:=G.out W (Below.refl _ _);have kk:=(U.out W (Below.refl _ _)).2.2.cells.1;clear h hs hf ac F o z O R T hW Z a7 a8 D E hp hq M J;obtain ⟨ab,aa,a9⟩:=hk;have d0:(k == 0)=false:=by simpa using ab
 have d3:(k == 3)=false:=by simpa using aa
 have d4:(k == 4)=false:=by simpa using a9
 have H0:Hid (Below W.heap.size W W):=Below.refl _ _;go_enter Tryz.func28, Tryz.ntmps28;go_upto_region 1 with fail;rw [← HW.out];go_wp2_with fail;go_ret;exact ⟨rb HE.out.symm,I.out H0.out⟩
end

end Go.Proofs.YtellcgmabimieaaGreatDoor
