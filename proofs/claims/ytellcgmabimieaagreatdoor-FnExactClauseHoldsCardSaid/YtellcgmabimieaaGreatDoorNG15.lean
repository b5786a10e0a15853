/- Several texts in one: WdSpec, WdImpl2. -/
import Derived.Test.YtellcgmabimieaaGreatDoorNG14
import Derived.Deep.RegionWith
import Derived.Deep.DeepCutAuto
namespace Go.Proofs.YtellcgmabimieaaGreatDoor

section
open Go.RowKit
theorem worldB_iff (x:WD):worldB x=true ↔ ((1≤x.n∧x.n≤128)∧x.names.length≤12∧x.roles.length≤6∧x.inds.length≤6∧x.sets.length=x.names.length∧x.rels.length=x.roles.length∧x.at'.length=x.inds.length) ∧
    (namesB true x.names=true∧namesB false x.roles=true∧namesB false x.inds=true)∧(flagsB x.sets x.n=true∧flagsB x.rels (x.n*x.n)=true∧atB x.at' x.n=true):=by
 unfold worldB;simp only [Bool.and_eq_true,decide_eq_true_eq]
theorem worldB_no {x:WD} (h:worldB x=true→False):worldB x=false:=by
 cases e:worldB x
 · rfl
 exact absurd e (fun e=>h e)
set_option maxRecDepth 100000 in
set_option maxHeartbeats 16000000 in
theorem specWorldOk_any {na:Option Addr} {nn nc:Nat} {sa:Option Addr} {sn sc:Nat} {ra:Option Addr} {rn rc:Nat} {la:Option Addr} {ln lc:Nat} {ia:Option Addr} {im ic:Nat} {ta:Option Addr} {tn tc:Nat} {x:WD} {w:World} {lo hi:Nat} {nx:Int} (h:RdW lo hi w na nn nc sa sn sc ra rn rc la ln lc ia im ic ta tn tc x) (hn:x.n=nx) (a6:hi≤w.heap.size) :
    Calls Tryz.prog 24 #[.agg #[.int .i64 nx,.slice na nn nc,.slice sa sn sc,.slice ra rn rc,.slice la ln lc,.slice ia im ic,.slice ta tn tc]] w fun e w'=>e=.returned (.bool (worldB x))∧Below w.heap.size w w':=by
 obtain ⟨W0,Z⟩:∃ W0,W0=w.alloc (.cells #[.int .i64 nx,.slice na nn nc,.slice sa sn sc,.slice ra rn rc,.slice la ln lc,.slice ia im ic,.slice ta tn tc] 41):=⟨_,rfl⟩;have I:Hid (W0=w.alloc (.cells #[.int .i64 nx,.slice na nn nc,.slice sa sn sc,.slice ra rn rc,.slice la ln lc,.slice ia im ic,.slice ta tn tc] 41)):=Z;have R:Below w.heap.size w W0:=by rw [Z];exact (Below.refl _ _).alloc (Nat.le_refl _) _
 have M:Hid (Below w.heap.size w W0):=R;have a0:BoxW 41 W0 w.heap.size nx (.slice na nn nc) (.slice sa sn sc) (.slice ra rn rc) (.slice la ln lc) (.slice ia im ic) (.slice ta tn tc):=by rw [Z];exact BoxW.new _ w _ _ _ _ _ _ _
 have F:Hid (∀ W,(∃ d,W=W0.drewN d)→BoxW 41 W w.heap.size nx (.slice na nn nc) (.slice sa sn sc) (.slice ra rn rc) (.slice la ln lc) (.slice ia im ic) (.slice ta tn tc)):=fun W hW=>by obtain ⟨d,rfl⟩:=hW;exact a0
 have E:Hid (∀ W,(∃ d,W=W0.drewN d)→RdW lo hi W na nn nc sa sn sc ra rn rc la ln lc ia im ic ta tn tc x):=fun W hW=>by obtain ⟨d,rfl⟩:=hW;exact (h.below R a6).below (below_drewN (Below.refl W0.heap.size W0) d) (Nat.le_trans a6 R.size)
 have L:Hid (∀ W,(∃ d,W=W0.drewN d)→Below w.heap.size w W):=fun W hW=>by obtain ⟨d,rfl⟩:=hW;exact below_drewN R d
 have HZ:Hid (∃ d,W0=W0.drewN d):=⟨0,rfl⟩;have HT:Hid (∀ V W,(∃ d,V=W0.drewN d)→(∃ d,W=V.drewN d)→∃ d,W=W0.drewN d):=fun V W ⟨d,h1⟩ ⟨e,h2⟩=>⟨d+e,by rw [h2,h1];exact drew_add _ _ _⟩
 obtain ⟨z0,z1,z2,z3,z4,z5,z6⟩:=a0.cells;have HI:Hid _:=worldB_iff x;rw [hn,h.names.len,h.sets.len,h.roles.len,h.rels.len,h.inds.len,h.at'.len] at HI;have f1:=h.names.fits;have f2:=h.sets.fits;have f3:=h.roles.fits;have f4:=h.rels.fits;have f5:=h.inds.fits;have f6:=h.at'.fits;have aa:Hid (x.sets.length=sn):=h.sets.len;have a9:Hid (x.rels.length=ln):=h.rels.len;have a8:Hid (x.at'.length=tn):=h.at'.len;clear h R Z a0 hn;by_cases t0:nx<1
 · have HE:Hid (worldB x=false):=worldB_no (fun e=>by have e2:=(HI.out.1 e).1;omega);have g0_0:(decide (nx<1))=true:=by simp;omega
   clear t0;go_enter Tryz.func24, Tryz.ntmps24;go_upto_region 1 with fail;rw [← I.out];go_wp2_with fail;go_ret;exact ⟨rb HE.out.symm,M.out⟩
 have g0_0:(decide (nx<1))=false:=by simp;omega
 by_cases t1:128<nx
 · have HE:Hid (worldB x=false):=worldB_no (fun e=>by have e2:=(HI.out.1 e).1;omega);have g1_0:(decide (128<nx))=true:=by simp;omega
   clear t0 t1;go_enter Tryz.func24, Tryz.ntmps24;go_upto_region 1 with fail;rw [← I.out];go_wp2_with fail;go_ret;exact ⟨rb HE.out.symm,M.out⟩
 have g1_0:(decide (128<nx))=false:=by simp;omega
 by_cases t2:12<nn
 · have HE:Hid (worldB x=false):=worldB_no (fun e=>by have e2:=(HI.out.1 e).1;omega);have g2_0:(decide ((12:Int)<(nn:Int)))=true:=by simp;omega
   have g2_1:(decide (12<nn))=true:=by simp;omega
   clear t0 t1 t2;go_enter Tryz.func24, Tryz.ntmps24;go_upto_region 1 with fail;rw [← I.out];go_wp2_with fail;go_ret;exact ⟨rb HE.out.symm,M.out⟩
 have g2_0:(decide ((12:Int)<(nn:Int)))=false:=by simp;omega
 have g2_1:(decide (12<nn))=false:=by simp;omega
 by_cases t3:6<rn
 · have HE:Hid (worldB x=false):=worldB_no (fun e=>by have e2:=(HI.out.1 e).1;omega);have g3_0:(decide ((6:Int)<(rn:Int)))=true:=by simp;omega
   have g3_1:(decide (6<rn))=true:=by simp;omega
   clear t0 t1 t2 t3;go_enter Tryz.func24, Tryz.ntmps24;go_upto_region 1 with fail;rw [← I.out];go_wp2_with fail;go_ret;exact ⟨rb HE.out.symm,M.out⟩
 have g3_0:(decide ((6:Int)<(rn:Int)))=false:=by simp;omega
 have g3_1:(decide (6<rn))=false:=by simp;omega
 by_cases t4:6<im
 · have HE:Hid (worldB x=false):=worldB_no (fun e=>by have e2:=(HI.out.1 e).1;omega);have g4_0:(decide ((6:Int)<(im:Int)))=true:=by simp;omega
   have g4_1:(decide (6<im))=true:=by simp;omega
   clear t0 t1 t2 t3 t4;go_enter Tryz.func24, Tryz.ntmps24;go_upto_region 1 with fail;rw [← I.out];go_wp2_with fail;go_ret;exact ⟨rb HE.out.symm,M.out⟩
 have g4_0:(decide ((6:Int)<(im:Int)))=false:=by simp;omega
 have g4_1:(decide (6<im))=false:=by simp;omega
 by_cases t5:¬ sn=nn
 · have HE:Hid (worldB x=false):=worldB_no (fun e=>by have e2:=(HI.out.1 e).1;omega);have g5_0:(((sn:Int) != (nn:Int)))=true:=by simp;omega
   have g5_1:(!decide (sn=nn))=true:=by simp;omega
   clear t0 t1 t2 t3 t4 t5;go_enter Tryz.func24, Tryz.ntmps24;go_upto_region 1 with fail;rw [← I.out];go_wp2_with fail;go_ret;exact ⟨rb HE.out.symm,M.out⟩
 have a3:Hid (sn=nn):=by unfold Hid;omega
 have g5_0:(((sn:Int) != (nn:Int)))=false:=by simp;omega
 have g5_1:(!decide (sn=nn))=false:=by simp;omega
 by_cases t6:¬ ln=rn
 · have HE:Hid (worldB x=false):=worldB_no (fun e=>by have e2:=(HI.out.1 e).1;omega);have g6_0:(((ln:Int) != (rn:Int)))=true:=by simp;omega
   have g6_1:(!decide (ln=rn))=true:=by simp;omega
   clear t0 t1 t2 t3 t4 t5 t6;go_enter Tryz.func24, Tryz.ntmps24;go_upto_region 1 with fail;rw [← I.out];go_wp2_with fail;go_ret;exact ⟨rb HE.out.symm,M.out⟩
 have a2:Hid (ln=rn):=by unfold Hid;omega
 have g6_0:(((ln:Int) != (rn:Int)))=false:=by simp;omega
 have g6_1:(!decide (ln=rn))=false:=by simp;omega
 by_cases t7:¬ tn=im
 · have HE:Hid (worldB x=false):=worldB_no (fun e=>by have e2:=(HI.out.1 e).1;omega);have g7_0:(((tn:Int) != (im:Int)))=true:=by simp;omega
   have g7_1:(!decide (tn=im))=true:=by simp;omega
   clear t0 t1 t2 t3 t4 t5 t6 t7;go_enter Tryz.func24, Tryz.ntmps24;go_upto_region 1 with fail;rw [← I.out];go_wp2_with fail;go_ret;exact ⟨rb HE.out.symm,M.out⟩
 have a1:Hid (tn=im):=by unfold Hid;omega
 have g7_0:(((tn:Int) != (im:Int)))=false:=by simp;omega
 have g7_1:(!decide (tn=im))=false:=by simp;omega
 have ab:Hid ((1≤nx∧nx≤128)∧nn≤12∧rn≤6∧im≤6∧sn=nn∧ln=rn∧tn=im):=⟨⟨by omega,by omega⟩,by omega,by omega,by omega,a3.out,a2.out,a1.out⟩;clear t0 t1 t2 t3 t4 t5 t6 t7 a3 a2 a1;go_enter Tryz.func24, Tryz.ntmps24;go_upto_region 3 with fail;rw [← I.out];clear g0_0 g1_0 g2_0 g2_1 g3_0 g3_1 g4_0 g4_1 g5_0 g5_1 g6_0 g6_1 g7_0 g7_1;cases hN:namesB true x.names
 · skip;have HE:Hid (worldB x=false):=worldB_no (fun e=>by have e2:=(HI.out.1 e).2.1;simp [hN] at e2);go_wp2_with (first | (go_at_call_of 54 na;refine (l4names_any na nn nc x.names true _ (E.out _ HZ.out).names).mono ?_;rintro e wA ⟨rfl,hA⟩;rw [hN];have u:Hid (∃ d,wA=W0.drewN d):=HT.out _ _ HZ.out hA;clear hA z0 z1 z2 z3 z4 z5 z6;obtain ⟨z0,z1,z2,z3,z4,z5,z6⟩:=(F.out _ u.out).cells));go_ret;exact ⟨rb HE.out.symm,L.out _ u.out⟩
 cases hR:namesB false x.roles
 · skip;have HE:Hid (worldB x=false):=worldB_no (fun e=>by have e2:=(HI.out.1 e).2.1;simp [hR] at e2);go_wp2_with (first | (go_at_call_of 54 na;refine (l4names_any na nn nc x.names true _ (E.out _ HZ.out).names).mono ?_;rintro e wA ⟨rfl,hA⟩;rw [hN];have u:Hid (∃ d,wA=W0.drewN d):=HT.out _ _ HZ.out hA;clear hA z0 z1 z2 z3 z4 z5 z6;obtain ⟨z0,z1,z2,z3,z4,z5,z6⟩:=(F.out _ u.out).cells) | (go_at_call_of 54 ra;refine (l4names_any ra rn rc x.roles false _ (E.out _ u.out).roles).mono ?_;rintro e wB ⟨rfl,hA⟩;rw [hR];have G:Hid (∃ d,wB=W0.drewN d):=HT.out _ _ u.out hA;clear hA z0 z1 z2 z3 z4 z5 z6;obtain ⟨z0,z1,z2,z3,z4,z5,z6⟩:=(F.out _ G.out).cells));go_ret;exact ⟨rb HE.out.symm,L.out _ G.out⟩
 cases hI:namesB false x.inds
 · skip;have HE:Hid (worldB x=false):=worldB_no (fun e=>by have e2:=(HI.out.1 e).2.1;simp [hI] at e2);go_wp2_with (first | (go_at_call_of 54 na;refine (l4names_any na nn nc x.names true _ (E.out _ HZ.out).names).mono ?_;rintro e wA ⟨rfl,hA⟩;rw [hN];have u:Hid (∃ d,wA=W0.drewN d):=HT.out _ _ HZ.out hA;clear hA z0 z1 z2 z3 z4 z5 z6;obtain ⟨z0,z1,z2,z3,z4,z5,z6⟩:=(F.out _ u.out).cells) | (go_at_call_of 54 ra;refine (l4names_any ra rn rc x.roles false _ (E.out _ u.out).roles).mono ?_;rintro e wB ⟨rfl,hA⟩;rw [hR];have G:Hid (∃ d,wB=W0.drewN d):=HT.out _ _ u.out hA;clear hA z0 z1 z2 z3 z4 z5 z6;obtain ⟨z0,z1,z2,z3,z4,z5,z6⟩:=(F.out _ G.out).cells) | (go_at_call_of 54 ia;refine (l4names_any ia im ic x.inds false _ (E.out _ G.out).inds).mono ?_;rintro e wC ⟨rfl,hA⟩;rw [hI];have T:Hid (∃ d,wC=W0.drewN d):=HT.out _ _ G.out hA;clear hA z0 z1 z2 z3 z4 z5 z6;obtain ⟨z0,z1,z2,z3,z4,z5,z6⟩:=(F.out _ T.out).cells));go_ret;exact ⟨rb HE.out.symm,L.out _ T.out⟩
 have ai:Hid (namesB true x.names=true∧namesB false x.roles=true∧namesB false x.inds=true):=⟨hN,hR,hI⟩;go_wp2_with (first | (go_at_call_of 54 na;refine (l4names_any na nn nc x.names true _ (E.out _ HZ.out).names).mono ?_;rintro e wA ⟨rfl,hA⟩;rw [hN];have u:Hid (∃ d,wA=W0.drewN d):=HT.out _ _ HZ.out hA;clear hA z0 z1 z2 z3 z4 z5 z6;obtain ⟨z0,z1,z2,z3,z4,z5,z6⟩:=(F.out _ u.out).cells) | (go_at_call_of 54 ra;refine (l4names_any ra rn rc x.roles false _ (E.out _ u.out).roles).mono ?_;rintro e wB ⟨rfl,hA⟩;rw [hR];have G:Hid (∃ d,wB=W0.drewN d):=HT.out _ _ u.out hA;clear hA z0 z1 z2 z3 z4 z5 z6;obtain ⟨z0,z1,z2,z3,z4,z5,z6⟩:=(F.out _ G.out).cells) | (go_at_call_of 54 ia;refine (l4names_any ia im ic x.inds false _ (E.out _ G.out).inds).mono ?_;rintro e wC ⟨rfl,hA⟩;rw [hI];have T:Hid (∃ d,wC=W0.drewN d):=HT.out _ _ G.out hA;clear hA z0 z1 z2 z3 z4 z5 z6;obtain ⟨z0,z1,z2,z3,z4,z5,z6⟩:=(F.out _ T.out).cells));clear hN hR hI;go_loopw [3] (fun i wr=>∃ k:Nat,k≤sn∧i=.int .i64 k∧(List.range k).all (fun i=>decide (((x.sets.getD i []).length:Int)=nx))=true∧∃ nd,wr=W0.drewN nd) (fun i _=>sn - (intOf i).toNat)
 case atStart=>exact ⟨0,Nat.zero_le _,rfl,by simp,T.out⟩
 case round =>
  obtain ⟨k,hk,rfl,q,J⟩:=hrel;have HD:Hid (∃ nd,wr=W0.drewN nd):=J;have o:Hid ((List.range k).all (fun i=>decide (((x.sets.getD i []).length:Int)=nx))=true):=q;clear q J z0 z1 z2 z3 z4 z5 z6;obtain ⟨z0,z1,z2,z3,z4,z5,z6⟩:=(F.out _ HD.out).cells;by_cases hlt:k<sn
  · rcases (E.out _ HD.out).sets.cells with hz | ⟨b,a4,e1,_,_,hc⟩
    · omega
    subst e1;obtain ⟨v,c0,ea,en,ec,rfl,hr⟩:=hc k hlt;have U:Hid ((x.sets.getD k []).length=en):=hr.len;have a5:(k:Int)<(sn:Int):=by omega
    have af:=hr.fits;clear hc hr;by_cases hq:(en:Int)=nx
    · have hb:((en:Int) != nx)=false:=by simp;omega
      have HS:Hid ((List.range (k+1)).all (fun i=>decide (((x.sets.getD i []).length:Int)=nx))=true):=by unfold Hid;rw [range_all_succ,o.out,U.out,decide_eq_true hq];rfl
      clear hq;go_wp2_with fail;go_quiet (fail);go_wp2_with fail;go_roundw
      case rel=>exact ⟨k+1,by omega,by go_num,HS.out,HT.out _ _ HD.out ⟨nq,rfl⟩⟩
      case measure=>simp [intOf];omega
    have hb:((en:Int) != nx)=true:=by simp;omega
    have HE:Hid (worldB x=false):=worldB_no (fun e=>by
     have e2:=(HI.out.1 e).2.2.1;have e3:flagsB x.sets nx=false:=range_all_false (by rw [aa.out];exact hlt) (by rw [U.out];exact decide_eq_false hq)
     rw [e3] at e2;exact absurd e2 (by simp))
    clear hq;go_wp2_with fail;go_quiet (fail);go_wp2_with fail;go_ret;exact ⟨rb HE.out.symm,L.out _ (HT.out _ _ HD.out ⟨nq,rfl⟩)⟩
  have N:Hid (flagsB x.sets nx=true):=by rw [Hid,flagsB,aa.out,show sn=k by omega];exact o.out
  have A:=HD;have Y:decide ((k:Int)<(sn:Int))=false:=by simp;omega
  clear HD o;go_wp2_with fail;clear Y hlt hk;obtain ⟨m,HM⟩:∃ m,Hid (nx*nx=m):=⟨_,rfl⟩
  have ae:0≤m∧m≤16384:=by
   have h1:=ab.out.1;have h2:nx*nx≤128*128:=Int.mul_le_mul h1.2 h1.2 (by omega) (by omega);have h3:0≤nx*nx:=Int.mul_nonneg (by omega) (by omega);rw [HM.out] at h2 h3;omega
  have ad:nx*nx=m:=HM.out;go_loopw [4] (fun i wr=>∃ k:Nat,k≤ln∧i=.int .i64 k∧(List.range k).all (fun i=>decide (((x.rels.getD i []).length:Int)=m))=true∧∃ nd,wr=W0.drewN nd) (fun i _=>ln - (intOf i).toNat)
  case atStart=>exact ⟨0,Nat.zero_le _,rfl,by simp,A.out⟩
  case round =>
   obtain ⟨k,hk,rfl,q,J⟩:=hrel;have HD:Hid (∃ nd,wr=W0.drewN nd):=J;have o:Hid ((List.range k).all (fun i=>decide (((x.rels.getD i []).length:Int)=m))=true):=q;clear q J z0 z1 z2 z3 z4 z5 z6;obtain ⟨z0,z1,z2,z3,z4,z5,z6⟩:=(F.out _ HD.out).cells;by_cases hlt:k<ln
   · rcases (E.out _ HD.out).rels.cells with hz | ⟨b,a4,e1,_,_,hc⟩
     · omega
     subst e1;obtain ⟨v,c0,ea,en,ec,rfl,hr⟩:=hc k hlt;have U:Hid ((x.rels.getD k []).length=en):=hr.len;have a5:(k:Int)<(ln:Int):=by omega
     have af:=hr.fits;clear hc hr;by_cases hq:(en:Int)=m
     · have hb:((en:Int) != m)=false:=by simp;omega
       have HS:Hid ((List.range (k+1)).all (fun i=>decide (((x.rels.getD i []).length:Int)=m))=true):=by unfold Hid;rw [range_all_succ,o.out,U.out,decide_eq_true hq];rfl
       clear hq;go_wp2_with fail;go_quiet (fail);go_wp2_with fail;go_roundw
       case rel=>exact ⟨k+1,by omega,by go_num,HS.out,HT.out _ _ HD.out ⟨nq,rfl⟩⟩
       case measure=>simp [intOf];omega
     have hb:((en:Int) != m)=true:=by simp;omega
     have HE:Hid (worldB x=false):=worldB_no (fun e=>by
      have e2:=(HI.out.1 e).2.2.2.1;rw [HM.out] at e2;have e3:flagsB x.rels m=false:=range_all_false (by rw [a9.out];exact hlt) (by rw [U.out];exact decide_eq_false hq)
      rw [e3] at e2;exact absurd e2 (by simp))
     clear hq;go_wp2_with fail;go_quiet (fail);go_wp2_with fail;go_ret;exact ⟨rb HE.out.symm,L.out _ (HT.out _ _ HD.out ⟨nq,rfl⟩)⟩
   have O:Hid (flagsB x.rels m=true):=by rw [Hid,flagsB,a9.out,show ln=k by omega];exact o.out
   have D:=HD;have Y:decide ((k:Int)<(ln:Int))=false:=by simp;omega
   clear HD o;go_wp2_with fail;clear Y hlt hk;clear ad ae;go_loopw [5] (fun i wr=>∃ k:Nat,k≤tn∧i=.int .i64 k∧(List.range k).all (fun i=>decide (0≤x.at'.getD i 0∧x.at'.getD i 0<nx))=true∧∃ nd,wr=W0.drewN nd) (fun i _=>tn - (intOf i).toNat)
   case atStart=>exact ⟨0,Nat.zero_le _,rfl,by simp,D.out⟩
   case round =>
    obtain ⟨k,hk,rfl,q,J⟩:=hrel;have HD:Hid (∃ nd,wr=W0.drewN nd):=J;have o:Hid ((List.range k).all (fun i=>decide (0≤x.at'.getD i 0∧x.at'.getD i 0<nx))=true):=q;clear q J z0 z1 z2 z3 z4 z5 z6;obtain ⟨z0,z1,z2,z3,z4,z5,z6⟩:=(F.out _ HD.out).cells;by_cases hlt:k<tn
    · rcases (E.out _ HD.out).at'.cells with hz | ⟨b,a4,e1,_,_,hc⟩
      · omega
      subst e1;obtain ⟨v,c0,rfl⟩:=hc k hlt;obtain ⟨z,hz⟩:∃ z,z=x.at'.getD k 0:=⟨_,rfl⟩;rw [← hz] at c0;have a7:Hid (z=x.at'.getD k 0):=hz;have a5:(k:Int)<(tn:Int):=by omega
      clear hc hz
      have ac:Hid (¬ (0≤z∧z<nx)→worldB x=false):=fun hq=>worldB_no (fun e=>by
          have e2:=(HI.out.1 e).2.2.2.2;have e3:atB x.at' nx=false:=range_all_false (by rw [a8.out];exact hlt) (by rw [← a7.out];exact decide_eq_false hq)
          rw [e3] at e2;exact absurd e2 (by simp))
      by_cases hq1:z<0
      · have hb:decide (z<0)=true:=by simp;omega
        have HE:Hid (worldB x=false):=ac.out (by omega);clear hq1;go_wp2_with fail;go_quiet (fail);go_wp2_with fail;go_ret;exact ⟨rb HE.out.symm,L.out _ (HT.out _ _ HD.out ⟨nq,rfl⟩)⟩
      have hb:decide (z<0)=false:=by simp;omega
      by_cases hq2:nx≤z
      · have ag:decide (nx≤z)=true:=by simp;omega
        have HE:Hid (worldB x=false):=ac.out (by omega);clear hq1 hq2;go_wp2_with fail;go_quiet (fail);go_wp2_with fail;go_ret;exact ⟨rb HE.out.symm,L.out _ (HT.out _ _ HD.out ⟨nq,rfl⟩)⟩
      have ag:decide (nx≤z)=false:=by simp;omega
      have HS:Hid ((List.range (k+1)).all (fun i=>decide (0≤x.at'.getD i 0∧x.at'.getD i 0<nx))=true):=by unfold Hid;rw [range_all_succ,o.out,← a7.out,decide_eq_true (⟨by omega,by omega⟩:0≤z∧z<nx)];rfl
      clear hq1 hq2;go_wp2_with fail;go_quiet (fail);go_wp2_with fail;go_roundw
      case rel=>exact ⟨k+1,by omega,by go_num,HS.out,HT.out _ _ HD.out ⟨nq,rfl⟩⟩
      case measure=>simp [intOf];omega
    have ah:Hid (atB x.at' nx=true):=by rw [Hid,atB,a8.out,show tn=k by omega];exact o.out
    have Y:decide ((k:Int)<(tn:Int))=false:=by simp;omega
    have HE:Hid (worldB x=true):=HI.out.2 ⟨ab.out,ai.out,N.out,by rw [HM.out];exact O.out,ah.out⟩;clear o;go_wp2_with fail;go_ret;exact ⟨rb HE.out.symm,L.out _ HD.out⟩
   
end

section
open Go.RowKit
theorem flagAt_any (a:Option Addr) (n o pb:Nat) (m:Int) (w:World) (hp:w.cell? ⟨pb,0,none⟩=some (.int .i64 m)) :
    Calls Tryz.prog 77 #[.slice a n o,.pointer (some ⟨pb,0,none⟩)] w fun e w'=>e=.returned (.bool ((n:Int) != m))∧w'=w:=by
 go_enter Tryz.func77, Tryz.ntmps77;go_wp2_with fail;go_ret;exact ⟨rfl,rfl⟩
set_option maxRecDepth 100000 in
set_option maxHeartbeats 8000000 in
theorem indexFlags_any (a:Option Addr) (n o pb:Nat) (m:Int) (xs:List (List Bool)) (w:World) {lo hi:Nat} (h:RFF lo hi w a n o xs) (hp:w.cell? ⟨pb,0,none⟩=some (.int .i64 m)) :
    Calls Tryz.prog 107 #[.slice a n o,.func (.func 77) #[] #[.pointer (some ⟨pb,0,none⟩)]] w fun e w'=>∃ i:Int,e=.returned (.int .i64 i)∧decide (0≤i)=!(flagsB xs m)∧w'=w:=by
 have HR:Hid (RFF lo hi w a n o xs):=h;have HL:Hid (xs.length=n):=h.len;have HP:Hid (w.cell? ⟨pb,0,none⟩=some (.int .i64 m)):=hp;have hf:=h.fits;clear h hp;go_enter Tryz.func107, Tryz.ntmps107;go_upto_region 2 with fail;go_loopw [8] (fun i wr=>∃ k:Nat,k≤n∧i=.int .i64 k∧(List.range k).all (fun i=>decide (((xs.getD i []).length:Int)=m))=true∧wr=w) (fun i _=>n - (intOf i).toNat)
 case atStart=>exact ⟨0,Nat.zero_le _,rfl,by simp,rfl⟩
 case round =>
  obtain ⟨k,hk,rfl,z,rfl⟩:=hrel;have A:Hid ((List.range k).all (fun i=>decide (((xs.getD i []).length:Int)=m))=true):=z;clear z;by_cases hlt:k<n
  · rcases HR.out.cells with hz | ⟨b,N,e1,_,_,hc⟩
    · omega
    subst e1;obtain ⟨v,c0,ea,en,ec,rfl,hr⟩:=hc k hlt;have I:Hid ((xs.getD k []).length=en):=hr.len;have O:(k:Int)<(n:Int):=by omega
    clear hc hr;go_wp2_with fail;refine (flagAt_any ea en ec pb m _ HP.out).mono ?_;rintro e w5 ⟨rfl,u⟩;rw [u];clear u;by_cases hq:(en:Int)=m
    · have hb:((en:Int) != m)=false:=by simp;omega
      have HS:Hid ((List.range (k+1)).all (fun i=>decide (((xs.getD i []).length:Int)=m))=true):=by unfold Hid;rw [range_all_succ,A.out,I.out,decide_eq_true hq];rfl
      clear hq;rw [hb];go_wp2_with fail;go_roundw
      case rel=>exact ⟨k+1,by omega,by go_num,HS.out,by first | rfl | trivial⟩
      case measure=>simp [intOf];omega
    have hb:((en:Int) != m)=true:=by simp;omega
    have HE:Hid (flagsB xs m=false):=range_all_false (by rw [HL.out];exact hlt) (by rw [I.out];exact decide_eq_false hq);clear hq;rw [hb];go_wp2_with fail;go_ret;exact ⟨k,rfl,by rw [HE.out];simp,rfl⟩
  have HF:Hid (flagsB xs m=true):=by rw [Hid,flagsB,HL.out,show n=k by omega];exact A.out
  have R:decide ((k:Int)<(n:Int))=false:=by simp;omega
  go_wp2_with fail;go_ret;exact ⟨-1,rfl,by rw [HF.out];simp,rfl⟩
set_option maxRecDepth 100000 in
theorem hasFlags_any (a:Option Addr) (n o pb:Nat) (m:Int) (xs:List (List Bool)) (w:World) {lo hi:Nat} (h:RFF lo hi w a n o xs) (hp:w.cell? ⟨pb,0,none⟩=some (.int .i64 m)) :
    Calls Tryz.prog 76 #[.slice a n o,.func (.func 77) #[] #[.pointer (some ⟨pb,0,none⟩)]] w fun e w'=>e=.returned (.bool (!(flagsB xs m)))∧w'=w:=by
 have HR:Hid (RFF lo hi w a n o xs):=h;have HP:Hid (w.cell? ⟨pb,0,none⟩=some (.int .i64 m)):=hp;clear h hp;go_enter Tryz.func76, Tryz.ntmps76;go_wp2_with fail;refine (indexFlags_any a n o pb m xs w HR.out HP.out).mono ?_;rintro e w5 ⟨i,rfl,F,u⟩;rw [u];have HI:Hid (decide (0≤i)=!(flagsB xs m)):=F;clear F u;by_cases hi0:0≤i
 · go_wp2_with fail;go_ret;exact ⟨rb (by rw [← HI.out];simp [hi0]),rfl⟩
 go_wp2_with fail;go_ret;exact ⟨rb (by rw [← HI.out]),rfl⟩
set_option maxRecDepth 100000 in
set_option maxHeartbeats 4000000 in
theorem flagsFit_any (a:Option Addr) (n o q:Nat) (m:Int) (xs:List (List Bool)) (w:World) {lo hi:Nat} (h:RFF lo hi w a n o xs) (L:hi≤w.heap.size) :
    Calls Tryz.prog 39 #[.slice a n o,.int .i64 q,.int .i64 m] w fun e w'=>e=.returned (.bool (decide (n=q) && flagsB xs m))∧Below w.heap.size w w':=by
 obtain ⟨W0,D⟩:∃ W0,W0=w.alloc (.cells #[.int .i64 m] 3):=⟨_,rfl⟩;have G:Hid (W0=w.alloc (.cells #[.int .i64 m] 3)):=D;have E:Below w.heap.size w W0:=by rw [D];exact (Below.refl _ _).alloc (Nat.le_refl _) _
 have J:Hid (Below w.heap.size w W0):=E
 have HP:Hid (W0.cell? ⟨w.heap.size,0,none⟩=some (.int .i64 m)):=by
  unfold Hid;rw [D];have:=World.alloc_heap_new w (.cells #[.int .i64 m] 3);unfold World.cell?;simp only [this];rfl
 have HR:Hid (RFF lo hi W0 a n o xs):=h.below E L;have hf:=h.fits;clear h E D;by_cases hq:n=q
 · have HQ:Hid (decide (n=q)=true):=decide_eq_true hq;have hd:((n:Int) == (q:Int))=true:=by simp;omega
   have M:decide (n=q)=true:=decide_eq_true hq;clear hq;go_enter Tryz.func39, Tryz.ntmps39;go_upto_region 1 with fail;rw [← G.out];go_wp2_with (go_at_call 76;refine (hasFlags_any a n o w.heap.size m xs W0 HR.out HP.out).mono ?_;rintro e w5 ⟨rfl,u⟩;rw [u];clear u);go_ret;exact ⟨rb (by rw [HQ.out];simp),J.out⟩
 have HQ:Hid (decide (n=q)=false):=decide_eq_false hq;have hd:((n:Int) == (q:Int))=false:=by simp;omega
 have M:decide (n=q)=false:=decide_eq_false hq;clear hq;go_enter Tryz.func39, Tryz.ntmps39;go_upto_region 1 with fail;rw [← G.out];go_wp2_with fail;go_ret;exact ⟨rb (by rw [HQ.out];simp),J.out⟩
end

end Go.Proofs.YtellcgmabimieaaGreatDoor
