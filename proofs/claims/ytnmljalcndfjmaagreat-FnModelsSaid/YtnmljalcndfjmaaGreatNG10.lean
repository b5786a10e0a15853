/- Several texts in one: WdSpec, WdImpl1. -/
import Derived.Test.YtnmljalcndfjmaaGreatNG3
import Derived.Deep.RegionWith
import Derived.Deep.DeepCutAuto
namespace Go.Proofs.YtnmljalcndfjmaaGreat

section
open Go.RowKit
theorem worldB_iff (x:WD):worldB x=true ↔ ((1≤x.n∧x.n≤128)∧x.names.length≤12∧x.roles.length≤6∧x.inds.length≤6∧x.sets.length=x.names.length∧x.rels.length=x.roles.length∧x.at'.length=x.inds.length) ∧
    (namesB true x.names=true∧namesB false x.roles=true∧namesB false x.inds=true)∧(flagsB x.sets x.n=true∧flagsB x.rels (x.n*x.n)=true∧atB x.at' x.n=true):=by
 unfold worldB;simp only [Bool.and_eq_true,decide_eq_true_eq]
theorem worldB_no {x:WD} (h:worldB x=true→False):worldB x=false:=by
 cases e:worldB x
 · rfl
 exact absurd e (fun e=>h e)
set_option maxRecDepth 100000 in
set_option maxHeartbeats 16000000 in
theorem specWorldOk_any {na:Option Addr} {nn nc:Nat} {sa:Option Addr} {sn sc:Nat} {ra:Option Addr} {rn rc:Nat} {la:Option Addr} {ln lc:Nat} {ia:Option Addr} {im ic:Nat} {ta:Option Addr} {tn tc:Nat} {x:WD} {w:World} {lo hi:Nat} {nx:Int} (h:RdW lo hi w na nn nc sa sn sc ra rn rc la ln lc ia im ic ta tn tc x) (hn:x.n=nx) (a6:hi≤w.heap.size) :
    Calls Tryz.prog 13 #[.agg #[.int .i64 nx,.slice na nn nc,.slice sa sn sc,.slice ra rn rc,.slice la ln lc,.slice ia im ic,.slice ta tn tc]] w fun e w'=>e=.returned (.bool (worldB x))∧Below w.heap.size w w':=by
 obtain ⟨W0,a0⟩:∃ W0,W0=w.alloc (.cells #[.int .i64 nx,.slice na nn nc,.slice sa sn sc,.slice ra rn rc,.slice la ln lc,.slice ia im ic,.slice ta tn tc] 27):=⟨_,rfl⟩;have I:Hid (W0=w.alloc (.cells #[.int .i64 nx,.slice na nn nc,.slice sa sn sc,.slice ra rn rc,.slice la ln lc,.slice ia im ic,.slice ta tn tc] 27)):=a0;have U:Below w.heap.size w W0:=by rw [a0];exact (Below.refl _ _).alloc (Nat.le_refl _) _
 have O:Hid (Below w.heap.size w W0):=U;have a1:BoxW 27 W0 w.heap.size nx (.slice na nn nc) (.slice sa sn sc) (.slice ra rn rc) (.slice la ln lc) (.slice ia im ic) (.slice ta tn tc):=by rw [a0];exact BoxW.new _ w _ _ _ _ _ _ _
 have G:Hid (∀ W,(∃ d,W=W0.drewN d)→BoxW 27 W w.heap.size nx (.slice na nn nc) (.slice sa sn sc) (.slice ra rn rc) (.slice la ln lc) (.slice ia im ic) (.slice ta tn tc)):=fun W hW=>by obtain ⟨d,rfl⟩:=hW;exact a1
 have F:Hid (∀ W,(∃ d,W=W0.drewN d)→RdW lo hi W na nn nc sa sn sc ra rn rc la ln lc ia im ic ta tn tc x):=fun W hW=>by obtain ⟨d,rfl⟩:=hW;exact (h.below U a6).below (below_drewN (Below.refl W0.heap.size W0) d) (Nat.le_trans a6 U.size)
 have N:Hid (∀ W,(∃ d,W=W0.drewN d)→Below w.heap.size w W):=fun W hW=>by obtain ⟨d,rfl⟩:=hW;exact below_drewN U d
 have HZ:Hid (∃ d,W0=W0.drewN d):=⟨0,rfl⟩;have HT:Hid (∀ V W,(∃ d,V=W0.drewN d)→(∃ d,W=V.drewN d)→∃ d,W=W0.drewN d):=fun V W ⟨d,h1⟩ ⟨e,h2⟩=>⟨d+e,by rw [h2,h1];exact drew_add _ _ _⟩
 obtain ⟨z0,z1,z2,z3,z4,z5,z6⟩:=a1.cells;have HI:Hid _:=worldB_iff x;rw [hn,h.names.len,h.sets.len,h.roles.len,h.rels.len,h.inds.len,h.at'.len] at HI;have f1:=h.names.fits;have f2:=h.sets.fits;have f3:=h.roles.fits;have f4:=h.rels.fits;have f5:=h.inds.fits;have f6:=h.at'.fits;have aa:Hid (x.sets.length=sn):=h.sets.len;have a9:Hid (x.rels.length=ln):=h.rels.len;have a8:Hid (x.at'.length=tn):=h.at'.len;clear h U a0 a1 hn;by_cases t0:nx<1
 · have HE:Hid (worldB x=false):=worldB_no (fun e=>by have e2:=(HI.out.1 e).1;omega);have g0_0:(decide (nx<1))=true:=by simp;omega
   clear t0;go_enter Tryz.func13, Tryz.ntmps13;go_upto_region 1 with fail;rw [← I.out];go_wp2_with fail;go_ret;exact ⟨rb HE.out.symm,O.out⟩
 have g0_0:(decide (nx<1))=false:=by simp;omega
 by_cases t1:128<nx
 · have HE:Hid (worldB x=false):=worldB_no (fun e=>by have e2:=(HI.out.1 e).1;omega);have g1_0:(decide (128<nx))=true:=by simp;omega
   clear t0 t1;go_enter Tryz.func13, Tryz.ntmps13;go_upto_region 1 with fail;rw [← I.out];go_wp2_with fail;go_ret;exact ⟨rb HE.out.symm,O.out⟩
 have g1_0:(decide (128<nx))=false:=by simp;omega
 by_cases t2:12<nn
 · have HE:Hid (worldB x=false):=worldB_no (fun e=>by have e2:=(HI.out.1 e).1;omega);have g2_0:(decide ((12:Int)<(nn:Int)))=true:=by simp;omega
   have g2_1:(decide (12<nn))=true:=by simp;omega
   clear t0 t1 t2;go_enter Tryz.func13, Tryz.ntmps13;go_upto_region 1 with fail;rw [← I.out];go_wp2_with fail;go_ret;exact ⟨rb HE.out.symm,O.out⟩
 have g2_0:(decide ((12:Int)<(nn:Int)))=false:=by simp;omega
 have g2_1:(decide (12<nn))=false:=by simp;omega
 by_cases t3:6<rn
 · have HE:Hid (worldB x=false):=worldB_no (fun e=>by have e2:=(HI.out.1 e).1;omega);have g3_0:(decide ((6:Int)<(rn:Int)))=true:=by simp;omega
   have g3_1:(decide (6<rn))=true:=by simp;omega
   clear t0 t1 t2 t3;go_enter Tryz.func13, Tryz.ntmps13;go_upto_region 1 with fail;rw [← I.out];go_wp2_with fail;go_ret;exact ⟨rb HE.out.symm,O.out⟩
 have g3_0:(decide ((6:Int)<(rn:Int)))=false:=by simp;omega
 have g3_1:(decide (6<rn))=false:=by simp;omega
 by_cases t4:6<im
 · have HE:Hid (worldB x=false):=worldB_no (fun e=>by have e2:=(HI.out.1 e).1;omega);have g4_0:(decide ((6:Int)<(im:Int)))=true:=by simp;omega
   have g4_1:(decide (6<im))=true:=by simp;omega
   clear t0 t1 t2 t3 t4;go_enter Tryz.func13, Tryz.ntmps13;go_upto_region 1 with fail;rw [← I.out];go_wp2_with fail;go_ret;exact ⟨rb HE.out.symm,O.out⟩
 have g4_0:(decide ((6:Int)<(im:Int)))=false:=by simp;omega
 have g4_1:(decide (6<im))=false:=by simp;omega
 by_cases t5:¬ sn=nn
 · have HE:Hid (worldB x=false):=worldB_no (fun e=>by have e2:=(HI.out.1 e).1;omega);have g5_0:(((sn:Int) != (nn:Int)))=true:=by simp;omega
   have g5_1:(!decide (sn=nn))=true:=by simp;omega
   clear t0 t1 t2 t3 t4 t5;go_enter Tryz.func13, Tryz.ntmps13;go_upto_region 1 with fail;rw [← I.out];go_wp2_with fail;go_ret;exact ⟨rb HE.out.symm,O.out⟩
 have a4:Hid (sn=nn):=by unfold Hid;omega
 have g5_0:(((sn:Int) != (nn:Int)))=false:=by simp;omega
 have g5_1:(!decide (sn=nn))=false:=by simp;omega
 by_cases t6:¬ ln=rn
 · have HE:Hid (worldB x=false):=worldB_no (fun e=>by have e2:=(HI.out.1 e).1;omega);have g6_0:(((ln:Int) != (rn:Int)))=true:=by simp;omega
   have g6_1:(!decide (ln=rn))=true:=by simp;omega
   clear t0 t1 t2 t3 t4 t5 t6;go_enter Tryz.func13, Tryz.ntmps13;go_upto_region 1 with fail;rw [← I.out];go_wp2_with fail;go_ret;exact ⟨rb HE.out.symm,O.out⟩
 have a3:Hid (ln=rn):=by unfold Hid;omega
 have g6_0:(((ln:Int) != (rn:Int)))=false:=by simp;omega
 have g6_1:(!decide (ln=rn))=false:=by simp;omega
 by_cases t7:¬ tn=im
 · have HE:Hid (worldB x=false):=worldB_no (fun e=>by have e2:=(HI.out.1 e).1;omega);have g7_0:(((tn:Int) != (im:Int)))=true:=by simp;omega
   have g7_1:(!decide (tn=im))=true:=by simp;omega
   clear t0 t1 t2 t3 t4 t5 t6 t7;go_enter Tryz.func13, Tryz.ntmps13;go_upto_region 1 with fail;rw [← I.out];go_wp2_with fail;go_ret;exact ⟨rb HE.out.symm,O.out⟩
 have a2:Hid (tn=im):=by unfold Hid;omega
 have g7_0:(((tn:Int) != (im:Int)))=false:=by simp;omega
 have g7_1:(!decide (tn=im))=false:=by simp;omega
 have ab:Hid ((1≤nx∧nx≤128)∧nn≤12∧rn≤6∧im≤6∧sn=nn∧ln=rn∧tn=im):=⟨⟨by omega,by omega⟩,by omega,by omega,by omega,a4.out,a3.out,a2.out⟩;clear t0 t1 t2 t3 t4 t5 t6 t7 a4 a3 a2;go_enter Tryz.func13, Tryz.ntmps13;go_upto_region 3 with fail;rw [← I.out];clear g0_0 g1_0 g2_0 g2_1 g3_0 g3_1 g4_0 g4_1 g5_0 g5_1 g6_0 g6_1 g7_0 g7_1;cases hN:namesB true x.names
 · skip;have HE:Hid (worldB x=false):=worldB_no (fun e=>by have e2:=(HI.out.1 e).2.1;simp [hN] at e2);go_wp2_with (first | (go_at_call_of 40 na;refine (l4names_any na nn nc x.names true _ (F.out _ HZ.out).names).mono ?_;rintro e wA ⟨rfl,hA⟩;rw [hN];have A:Hid (∃ d,wA=W0.drewN d):=HT.out _ _ HZ.out hA;clear hA z0 z1 z2 z3 z4 z5 z6;obtain ⟨z0,z1,z2,z3,z4,z5,z6⟩:=(G.out _ A.out).cells));go_ret;exact ⟨rb HE.out.symm,N.out _ A.out⟩
 cases hR:namesB false x.roles
 · skip;have HE:Hid (worldB x=false):=worldB_no (fun e=>by have e2:=(HI.out.1 e).2.1;simp [hR] at e2);go_wp2_with (first | (go_at_call_of 40 na;refine (l4names_any na nn nc x.names true _ (F.out _ HZ.out).names).mono ?_;rintro e wA ⟨rfl,hA⟩;rw [hN];have A:Hid (∃ d,wA=W0.drewN d):=HT.out _ _ HZ.out hA;clear hA z0 z1 z2 z3 z4 z5 z6;obtain ⟨z0,z1,z2,z3,z4,z5,z6⟩:=(G.out _ A.out).cells) | (go_at_call_of 40 ra;refine (l4names_any ra rn rc x.roles false _ (F.out _ A.out).roles).mono ?_;rintro e wB ⟨rfl,hA⟩;rw [hR];have H:Hid (∃ d,wB=W0.drewN d):=HT.out _ _ A.out hA;clear hA z0 z1 z2 z3 z4 z5 z6;obtain ⟨z0,z1,z2,z3,z4,z5,z6⟩:=(G.out _ H.out).cells));go_ret;exact ⟨rb HE.out.symm,N.out _ H.out⟩
 cases hI:namesB false x.inds
 · skip;have HE:Hid (worldB x=false):=worldB_no (fun e=>by have e2:=(HI.out.1 e).2.1;simp [hI] at e2);go_wp2_with (first | (go_at_call_of 40 na;refine (l4names_any na nn nc x.names true _ (F.out _ HZ.out).names).mono ?_;rintro e wA ⟨rfl,hA⟩;rw [hN];have A:Hid (∃ d,wA=W0.drewN d):=HT.out _ _ HZ.out hA;clear hA z0 z1 z2 z3 z4 z5 z6;obtain ⟨z0,z1,z2,z3,z4,z5,z6⟩:=(G.out _ A.out).cells) | (go_at_call_of 40 ra;refine (l4names_any ra rn rc x.roles false _ (F.out _ A.out).roles).mono ?_;rintro e wB ⟨rfl,hA⟩;rw [hR];have H:Hid (∃ d,wB=W0.drewN d):=HT.out _ _ A.out hA;clear hA z0 z1 z2 z3 z4 z5 z6;obtain ⟨z0,z1,z2,z3,z4,z5,z6⟩:=(G.out _ H.out).cells) | (go_at_call_of 40 ia;refine (l4names_any ia im ic x.inds false _ (F.out _ H.out).inds).mono ?_;rintro e wC ⟨rfl,hA⟩;rw [hI];have X:Hid (∃ d,wC=W0.drewN d):=HT.out _ _ H.out hA;clear hA z0 z1 z2 z3 z4 z5 z6;obtain ⟨z0,z1,z2,z3,z4,z5,z6⟩:=(G.out _ X.out).cells));go_ret;exact ⟨rb HE.out.symm,N.out _ X.out⟩
 have ai:Hid (namesB true x.names=true∧namesB false x.roles=true∧namesB false x.inds=true):=⟨hN,hR,hI⟩;go_wp2_with (first | (go_at_call_of 40 na;refine (l4names_any na nn nc x.names true _ (F.out _ HZ.out).names).mono ?_;rintro e wA ⟨rfl,hA⟩;rw [hN];have A:Hid (∃ d,wA=W0.drewN d):=HT.out _ _ HZ.out hA;clear hA z0 z1 z2 z3 z4 z5 z6;obtain ⟨z0,z1,z2,z3,z4,z5,z6⟩:=(G.out _ A.out).cells) | (go_at_call_of 40 ra;refine (l4names_any ra rn rc x.roles false _ (F.out _ A.out).roles).mono ?_;rintro e wB ⟨rfl,hA⟩;rw [hR];have H:Hid (∃ d,wB=W0.drewN d):=HT.out _ _ A.out hA;clear hA z0 z1 z2 z3 z4 z5 z6;obtain ⟨z0,z1,z2,z3,z4,z5,z6⟩:=(G.out _ H.out).cells) | (go_at_call_of 40 ia;refine (l4names_any ia im ic x.inds false _ (F.out _ H.out).inds).mono ?_;rintro e wC ⟨rfl,hA⟩;rw [hI];have X:Hid (∃ d,wC=W0.drewN d):=HT.out _ _ H.out hA;clear hA z0 z1 z2 z3 z4 z5 z6;obtain ⟨z0,z1,z2,z3,z4,z5,z6⟩:=(G.out _ X.out).cells));clear hN hR hI;go_loopw [3] (fun i wr=>∃ k:Nat,k≤sn∧i=.int .i64 k∧(List.range k).all (fun i=>decide (((x.sets.getD i []).length:Int)=nx))=true∧∃ nd,wr=W0.drewN nd) (fun i _=>sn - (intOf i).toNat)
 case atStart=>exact ⟨0,Nat.zero_le _,rfl,by simp,X.out⟩
 case round =>
  obtain ⟨k,hk,rfl,y,J⟩:=hrel;have HD:Hid (∃ nd,wr=W0.drewN nd):=J;have q:Hid ((List.range k).all (fun i=>decide (((x.sets.getD i []).length:Int)=nx))=true):=y;clear y J z0 z1 z2 z3 z4 z5 z6;obtain ⟨z0,z1,z2,z3,z4,z5,z6⟩:=(G.out _ HD.out).cells;by_cases hlt:k<sn
  · rcases (F.out _ HD.out).sets.cells with hz | ⟨b,off,e1,_,_,hc⟩
    · omega
    subst e1;obtain ⟨v,c0,ea,en,ec,rfl,hr⟩:=hc k hlt;have Y:Hid ((x.sets.getD k []).length=en):=hr.len;have a5:(k:Int)<(sn:Int):=by omega
    have af:=hr.fits;clear hc hr;by_cases hq:(en:Int)=nx
    · have hb:((en:Int) != nx)=false:=by simp;omega
      have HS:Hid ((List.range (k+1)).all (fun i=>decide (((x.sets.getD i []).length:Int)=nx))=true):=by unfold Hid;rw [range_all_succ,q.out,Y.out,decide_eq_true hq];rfl
      clear hq;go_wp2_with fail;go_quiet (fail);go_wp2_with fail;go_roundw
      case rel=>exact ⟨k+1,by omega,by go_num,HS.out,HT.out _ _ HD.out ⟨nq,rfl⟩⟩
      case measure=>simp [intOf];omega
    have hb:((en:Int) != nx)=true:=by simp;omega
    have HE:Hid (worldB x=false):=worldB_no (fun e=>by
     have e2:=(HI.out.1 e).2.2.1;have e3:flagsB x.sets nx=false:=range_all_false (by rw [aa.out];exact hlt) (by rw [Y.out];exact decide_eq_false hq)
     rw [e3] at e2;exact absurd e2 (by simp))
    clear hq;go_wp2_with fail;go_quiet (fail);go_wp2_with fail;go_ret;exact ⟨rb HE.out.symm,N.out _ (HT.out _ _ HD.out ⟨nq,rfl⟩)⟩
  have R:Hid (flagsB x.sets nx=true):=by rw [Hid,flagsB,aa.out,show sn=k by omega];exact q.out
  have D:=HD;have Z:decide ((k:Int)<(sn:Int))=false:=by simp;omega
  clear HD q;go_wp2_with fail;clear Z hlt hk;obtain ⟨m,HM⟩:∃ m,Hid (nx*nx=m):=⟨_,rfl⟩
  have ae:0≤m∧m≤16384:=by
   have h1:=ab.out.1;have h2:nx*nx≤128*128:=Int.mul_le_mul h1.2 h1.2 (by omega) (by omega);have h3:0≤nx*nx:=Int.mul_nonneg (by omega) (by omega);rw [HM.out] at h2 h3;omega
  have ad:nx*nx=m:=HM.out;go_loopw [4] (fun i wr=>∃ k:Nat,k≤ln∧i=.int .i64 k∧(List.range k).all (fun i=>decide (((x.rels.getD i []).length:Int)=m))=true∧∃ nd,wr=W0.drewN nd) (fun i _=>ln - (intOf i).toNat)
  case atStart=>exact ⟨0,Nat.zero_le _,rfl,by simp,D.out⟩
  case round =>
   obtain ⟨k,hk,rfl,y,J⟩:=hrel;have HD:Hid (∃ nd,wr=W0.drewN nd):=J;have q:Hid ((List.range k).all (fun i=>decide (((x.rels.getD i []).length:Int)=m))=true):=y;clear y J z0 z1 z2 z3 z4 z5 z6;obtain ⟨z0,z1,z2,z3,z4,z5,z6⟩:=(G.out _ HD.out).cells;by_cases hlt:k<ln
   · rcases (F.out _ HD.out).rels.cells with hz | ⟨b,off,e1,_,_,hc⟩
     · omega
     subst e1;obtain ⟨v,c0,ea,en,ec,rfl,hr⟩:=hc k hlt;have Y:Hid ((x.rels.getD k []).length=en):=hr.len;have a5:(k:Int)<(ln:Int):=by omega
     have af:=hr.fits;clear hc hr;by_cases hq:(en:Int)=m
     · have hb:((en:Int) != m)=false:=by simp;omega
       have HS:Hid ((List.range (k+1)).all (fun i=>decide (((x.rels.getD i []).length:Int)=m))=true):=by unfold Hid;rw [range_all_succ,q.out,Y.out,decide_eq_true hq];rfl
       clear hq;go_wp2_with fail;go_quiet (fail);go_wp2_with fail;go_roundw
       case rel=>exact ⟨k+1,by omega,by go_num,HS.out,HT.out _ _ HD.out ⟨nq,rfl⟩⟩
       case measure=>simp [intOf];omega
     have hb:((en:Int) != m)=true:=by simp;omega
     have HE:Hid (worldB x=false):=worldB_no (fun e=>by
      have e2:=(HI.out.1 e).2.2.2.1;rw [HM.out] at e2;have e3:flagsB x.rels m=false:=range_all_false (by rw [a9.out];exact hlt) (by rw [Y.out];exact decide_eq_false hq)
      rw [e3] at e2;exact absurd e2 (by simp))
     clear hq;go_wp2_with fail;go_quiet (fail);go_wp2_with fail;go_ret;exact ⟨rb HE.out.symm,N.out _ (HT.out _ _ HD.out ⟨nq,rfl⟩)⟩
   have T:Hid (flagsB x.rels m=true):=by rw [Hid,flagsB,a9.out,show ln=k by omega];exact q.out
   have E:=HD;have Z:decide ((k:Int)<(ln:Int))=false:=by simp;omega
   clear HD q;go_wp2_with fail;clear Z hlt hk;clear ad ae;go_loopw [5] (fun i wr=>∃ k:Nat,k≤tn∧i=.int .i64 k∧(List.range k).all (fun i=>decide (0≤x.at'.getD i 0∧x.at'.getD i 0<nx))=true∧∃ nd,wr=W0.drewN nd) (fun i _=>tn - (intOf i).toNat)
   case atStart=>exact ⟨0,Nat.zero_le _,rfl,by simp,E.out⟩
   case round =>
    obtain ⟨k,hk,rfl,y,J⟩:=hrel;have HD:Hid (∃ nd,wr=W0.drewN nd):=J;have q:Hid ((List.range k).all (fun i=>decide (0≤x.at'.getD i 0∧x.at'.getD i 0<nx))=true):=y;clear y J z0 z1 z2 z3 z4 z5 z6;obtain ⟨z0,z1,z2,z3,z4,z5,z6⟩:=(G.out _ HD.out).cells;by_cases hlt:k<tn
    · rcases (F.out _ HD.out).at'.cells with hz | ⟨b,off,e1,_,_,hc⟩
      · omega
      subst e1;obtain ⟨v,c0,rfl⟩:=hc k hlt;obtain ⟨z,hz⟩:∃ z,z=x.at'.getD k 0:=⟨_,rfl⟩;rw [← hz] at c0;have a7:Hid (z=x.at'.getD k 0):=hz;have a5:(k:Int)<(tn:Int):=by omega
      clear hc hz
      have ac:Hid (¬ (0≤z∧z<nx)→worldB x=false):=fun hq=>worldB_no (fun e=>by
          have e2:=(HI.out.1 e).2.2.2.2;have e3:atB x.at' nx=false:=range_all_false (by rw [a8.out];exact hlt) (by rw [← a7.out];exact decide_eq_false hq)
          rw [e3] at e2;exact absurd e2 (by simp))
      by_cases hq1:z<0
      · have hb:decide (z<0)=true:=by simp;omega
        have HE:Hid (worldB x=false):=ac.out (by omega);clear hq1;go_wp2_with fail;go_quiet (fail);go_wp2_with fail;go_ret;exact ⟨rb HE.out.symm,N.out _ (HT.out _ _ HD.out ⟨nq,rfl⟩)⟩
      have hb:decide (z<0)=false:=by simp;omega
      by_cases hq2:nx≤z
      · have ag:decide (nx≤z)=true:=by simp;omega
        have HE:Hid (worldB x=false):=ac.out (by omega);clear hq1 hq2;go_wp2_with fail;go_quiet (fail);go_wp2_with fail;go_ret;exact ⟨rb HE.out.symm,N.out _ (HT.out _ _ HD.out ⟨nq,rfl⟩)⟩
      have ag:decide (nx≤z)=false:=by simp;omega
      have HS:Hid ((List.range (k+1)).all (fun i=>decide (0≤x.at'.getD i 0∧x.at'.getD i 0<nx))=true):=by unfold Hid;rw [range_all_succ,q.out,← a7.out,decide_eq_true (⟨by omega,by omega⟩:0≤z∧z<nx)];rfl
      clear hq1 hq2;go_wp2_with fail;go_quiet (fail);go_wp2_with fail;go_roundw
      case rel=>exact ⟨k+1,by omega,by go_num,HS.out,HT.out _ _ HD.out ⟨nq,rfl⟩⟩
      case measure=>simp [intOf];omega
    have ah:Hid (atB x.at' nx=true):=by rw [Hid,atB,a8.out,show tn=k by omega];exact q.out
    have Z:decide ((k:Int)<(tn:Int))=false:=by simp;omega
    have HE:Hid (worldB x=true):=HI.out.2 ⟨ab.out,ai.out,R.out,by rw [HM.out];exact T.out,ah.out⟩;clear q;go_wp2_with fail;go_ret;exact ⟨rb HE.out.symm,N.out _ HD.out⟩
   
end

section
open Go.RowKit
theorem cmp_lt (xs ys:List Int):decide (0≤cmpZ xs ys)=!(ltB xs ys):=by
 unfold cmpZ ltB;rw [← less_cmp];cases Op.bytesLess (strOfNums xs).toList (strOfNums ys).toList
 · cases Op.bytesLess (strOfNums ys).toList (strOfNums xs).toList <;> rfl
 rfl
set_option maxRecDepth 100000 in
set_option maxHeartbeats 8000000 in
theorem wordsFitU_any (a:Option Addr) (n I m:Nat) (xs:List (List Int)) (w:World) {lo hi:Nat} (h:RSS lo hi w a n I xs) :
    Calls Tryz.prog 67 #[.slice a n I,.int .i64 m,.func (.func 68) #[] #[]] w fun e w'=>e=.returned (.bool (decide (n≤m) && namesB true xs))∧w'=w:=by
 have HR:Hid (RSS lo hi w a n I xs):=h;have HL:Hid (xs.length=n):=h.len;have hf:=h.fits;clear h;by_cases hm:m<n
 · have HG:Hid (decide (n≤m)=false):=decide_eq_false (by omega);have N:(m:Int)<(n:Int):=by omega
   go_enter Tryz.func67, Tryz.ntmps67;go_wp2_with fail;go_ret;exact ⟨rb (by rw [HG.out];rfl),rfl⟩
 have Z:Hid (decide (n≤m)=true):=decide_eq_true (by omega);have N:decide ((m:Int)<(n:Int))=false:=by simp;omega
 have X:decide (m<n)=false:=by simp;omega
 go_enter Tryz.func67, Tryz.ntmps67;go_upto_region 4 with fail;clear N X hm;go_loopw [15] (fun i wr=>∃ k:Nat,k≤n∧i=.int .i64 k∧(List.range k).all (nameAt true xs)=true∧wr=w) (fun i _=>n - (intOf i).toNat)
 case atStart=>exact ⟨0,Nat.zero_le _,rfl,by simp,rfl⟩
 case round =>
  obtain ⟨k,hk,rfl,D,rfl⟩:=hrel;have E:Hid ((List.range k).all (nameAt true xs)=true):=D;clear D;by_cases hlt:k<n
  · rcases HR.out.cells with hz | ⟨b,off,e1,_,_,hc⟩
    · omega
    subst e1;obtain ⟨v,c0,ea,en,ec,rfl,hr⟩:=hc k hlt;have HE:Hid (Rd lo hi wr ea en ec (xs.getD k [])):=hr;have a1:(k:Int)<(n:Int):=by omega
    have F:Hid (nameAt true xs k=(wordOkB true (xs.getD k []) && (decide (k=0) || ltB (xs.getD (k - 1) []) (xs.getD k [])))):=rfl;have O:Hid (nameAt true xs k=true→(List.range (k+1)).all (nameAt true xs)=true):=fun h1=>by rw [range_all_succ,E.out,h1];rfl
    have T:Hid (nameAt true xs k=false→namesB true xs=false):=fun h1=>range_all_false (by rw [HL.out];exact hlt) h1
    cases hok:upOk (xs.getD k [])
    · have y:Hid (upOk (xs.getD k [])=false):=hok;clear hc hr hok;have HG:Hid (namesB true xs=false):=T.out (by rw [F.out,show wordOkB true (xs.getD k [])=false from y.out];rfl);go_wp2_with (first | (go_at_call 68;refine (implUpperOk_any ea en ec (xs.getD k []) _ HE.out).mono ?_;rintro e w5 ⟨rfl,q⟩;rw [q,y.out];clear q));go_ret;exact ⟨rb (by rw [HG.out,Bool.and_false]),rfl⟩
    have y:Hid (upOk (xs.getD k [])=true):=hok;clear hok;by_cases hk0:k=0
    · have Y:decide (0<k)=false:=by simp;omega
      have a0:Hid (k=0):=hk0;clear hc hr hk0;have HG:Hid (nameAt true xs k=true):=by rw [Hid,F.out,show wordOkB true (xs.getD k [])=true from y.out,decide_eq_true a0.out];rfl
      go_wp2_with (first | (go_at_call 68;refine (implUpperOk_any ea en ec (xs.getD k []) _ HE.out).mono ?_;rintro e w5 ⟨rfl,q⟩;rw [q,y.out];clear q));go_roundw
      case rel=>exact ⟨k+1,by omega,by go_num,O.out HG.out,by first | rfl | trivial⟩
      case measure=>simp [intOf];omega
    obtain ⟨j,HJ⟩:∃ j,Hid (k=j+1):=⟨k - 1,by unfold Hid;omega⟩;obtain ⟨v',c1,pa,pn,pc,rfl,J⟩:=hc j (by have:=HJ.out;omega);have U:Hid (Rd lo hi wr pa pn pc (xs.getD j [])):=J;have Y:decide (0<k)=true:=by simp;omega
    have a4:0<k:=by omega
    have a3:(k:Int) - 1=(j:Int):=by have:=HJ.out;omega
    have a2:(j:Int)<(n:Int):=by have:=HJ.out;omega
    obtain ⟨cv,H⟩:∃ cv,cmpZ (xs.getD j []) (xs.getD k [])=cv:=⟨_,rfl⟩;have V:Hid (cmpZ (xs.getD j []) (xs.getD k [])=cv):=H;have R:Hid (decide (0≤cv)=!(ltB (xs.getD j []) (xs.getD k []))):=by unfold Hid;rw [← H];exact cmp_lt _ _
    clear hc hr J hk0 H;by_cases h0:0≤cv
    · have G:decide (0≤cv)=true:=decide_eq_true h0
      have HX:Hid (ltB (xs.getD j []) (xs.getD k [])=false):=by
       have:=R.out;rw [G] at this;unfold Hid;cases e:ltB (xs.getD j []) (xs.getD k [])
       · rfl
       rw [e] at this;exact absurd this (by simp)
      have HG:Hid (namesB true xs=false):=T.out (by rw [F.out,show k - 1=j from by have:=HJ.out;omega,HX.out,Bool.or_false,decide_eq_false (by omega),Bool.and_false]);go_wp2_with (first | (go_at_call 68;refine (implUpperOk_any ea en ec (xs.getD k []) _ HE.out).mono ?_;rintro e w5 ⟨rfl,q⟩;rw [q,y.out];clear q) | (go_at_call 121;refine (bytesCompare_any U.out HE.out).mono ?_;rintro e w6 ⟨rfl,A⟩;rw [A,V.out];clear A));go_ret;exact ⟨rb (by rw [HG.out,Bool.and_false]),rfl⟩
    have G:decide (0≤cv)=false:=decide_eq_false h0
    have HX:Hid (ltB (xs.getD j []) (xs.getD k [])=true):=by
     have:=R.out;rw [G] at this;unfold Hid;cases e:ltB (xs.getD j []) (xs.getD k [])
     · rw [e] at this;exact absurd this (by simp)
     rfl
    have HG:Hid (nameAt true xs k=true):=by rw [Hid,F.out,show wordOkB true (xs.getD k [])=true from y.out,show k - 1=j from by have:=HJ.out;omega,HX.out,Bool.or_true];rfl
    go_wp2_with (first | (go_at_call 68;refine (implUpperOk_any ea en ec (xs.getD k []) _ HE.out).mono ?_;rintro e w5 ⟨rfl,q⟩;rw [q,y.out];clear q) | (go_at_call 121;refine (bytesCompare_any U.out HE.out).mono ?_;rintro e w6 ⟨rfl,A⟩;rw [A,V.out];clear A));go_roundw
    case rel=>exact ⟨k+1,by omega,by go_num,O.out HG.out,by first | rfl | trivial⟩
    case measure=>simp [intOf];omega
  have HG:Hid (namesB true xs=true):=by rw [Hid,namesB,HL.out,show n=k by omega];exact E.out
  go_wp2_with fail;go_ret;exact ⟨rb (by rw [Z.out,HG.out];rfl),rfl⟩
set_option maxRecDepth 100000 in
set_option maxHeartbeats 8000000 in
theorem wordsFitL_any (a:Option Addr) (n I m:Nat) (xs:List (List Int)) (w:World) {lo hi:Nat} (h:RSS lo hi w a n I xs) :
    Calls Tryz.prog 67 #[.slice a n I,.int .i64 m,.func (.func 48) #[] #[]] w fun e w'=>e=.returned (.bool (decide (n≤m) && namesB false xs))∧w'=w:=by
 have HR:Hid (RSS lo hi w a n I xs):=h;have HL:Hid (xs.length=n):=h.len;have hf:=h.fits;clear h;by_cases hm:m<n
 · have HG:Hid (decide (n≤m)=false):=decide_eq_false (by omega);have N:(m:Int)<(n:Int):=by omega
   go_enter Tryz.func67, Tryz.ntmps67;go_wp2_with fail;go_ret;exact ⟨rb (by rw [HG.out];rfl),rfl⟩
 have Z:Hid (decide (n≤m)=true):=decide_eq_true (by omega);have N:decide ((m:Int)<(n:Int))=false:=by simp;omega
 have X:decide (m<n)=false:=by simp;omega
 go_enter Tryz.func67, Tryz.ntmps67;go_upto_region 4 with fail;clear N X hm;go_loopw [15] (fun i wr=>∃ k:Nat,k≤n∧i=.int .i64 k∧(List.range k).all (nameAt false xs)=true∧wr=w) (fun i _=>n - (intOf i).toNat)
 case atStart=>exact ⟨0,Nat.zero_le _,rfl,by simp,rfl⟩
 case round =>
  obtain ⟨k,hk,rfl,D,rfl⟩:=hrel;have E:Hid ((List.range k).all (nameAt false xs)=true):=D;clear D;by_cases hlt:k<n
  · rcases HR.out.cells with hz | ⟨b,off,e1,_,_,hc⟩
    · omega
    subst e1;obtain ⟨v,c0,ea,en,ec,rfl,hr⟩:=hc k hlt;have HE:Hid (Rd lo hi wr ea en ec (xs.getD k [])):=hr;have a1:(k:Int)<(n:Int):=by omega
    have F:Hid (nameAt false xs k=(wordOkB false (xs.getD k []) && (decide (k=0) || ltB (xs.getD (k - 1) []) (xs.getD k [])))):=rfl;have O:Hid (nameAt false xs k=true→(List.range (k+1)).all (nameAt false xs)=true):=fun h1=>by rw [range_all_succ,E.out,h1];rfl
    have T:Hid (nameAt false xs k=false→namesB false xs=false):=fun h1=>range_all_false (by rw [HL.out];exact hlt) h1
    cases hok:lowOk (xs.getD k [])
    · have y:Hid (lowOk (xs.getD k [])=false):=hok;clear hc hr hok;have HG:Hid (namesB false xs=false):=T.out (by rw [F.out,show wordOkB false (xs.getD k [])=false from y.out];rfl);go_wp2_with (first | (go_at_call 48;refine (implLowerOk_any ea en ec (xs.getD k []) _ HE.out).mono ?_;rintro e w5 ⟨rfl,q⟩;rw [q,y.out];clear q));go_ret;exact ⟨rb (by rw [HG.out,Bool.and_false]),rfl⟩
    have y:Hid (lowOk (xs.getD k [])=true):=hok;clear hok;by_cases hk0:k=0
    · have Y:decide (0<k)=false:=by simp;omega
      have a0:Hid (k=0):=hk0;clear hc hr hk0;have HG:Hid (nameAt false xs k=true):=by rw [Hid,F.out,show wordOkB false (xs.getD k [])=true from y.out,decide_eq_true a0.out];rfl
      go_wp2_with (first | (go_at_call 48;refine (implLowerOk_any ea en ec (xs.getD k []) _ HE.out).mono ?_;rintro e w5 ⟨rfl,q⟩;rw [q,y.out];clear q));go_roundw
      case rel=>exact ⟨k+1,by omega,by go_num,O.out HG.out,by first | rfl | trivial⟩
      case measure=>simp [intOf];omega
    obtain ⟨j,HJ⟩:∃ j,Hid (k=j+1):=⟨k - 1,by unfold Hid;omega⟩;obtain ⟨v',c1,pa,pn,pc,rfl,J⟩:=hc j (by have:=HJ.out;omega);have U:Hid (Rd lo hi wr pa pn pc (xs.getD j [])):=J;have Y:decide (0<k)=true:=by simp;omega
    have a4:0<k:=by omega
    have a3:(k:Int) - 1=(j:Int):=by have:=HJ.out;omega
    have a2:(j:Int)<(n:Int):=by have:=HJ.out;omega
    obtain ⟨cv,H⟩:∃ cv,cmpZ (xs.getD j []) (xs.getD k [])=cv:=⟨_,rfl⟩;have V:Hid (cmpZ (xs.getD j []) (xs.getD k [])=cv):=H;have R:Hid (decide (0≤cv)=!(ltB (xs.getD j []) (xs.getD k []))):=by unfold Hid;rw [← H];exact cmp_lt _ _
    clear hc hr J hk0 H;by_cases h0:0≤cv
    · have G:decide (0≤cv)=true:=decide_eq_true h0
      have HX:Hid (ltB (xs.getD j []) (xs.getD k [])=false):=by
       have:=R.out;rw [G] at this;unfold Hid;cases e:ltB (xs.getD j []) (xs.getD k [])
       · rfl
       rw [e] at this;exact absurd this (by simp)
      have HG:Hid (namesB false xs=false):=T.out (by rw [F.out,show k - 1=j from by have:=HJ.out;omega,HX.out,Bool.or_false,decide_eq_false (by omega),Bool.and_false]);go_wp2_with (first | (go_at_call 48;refine (implLowerOk_any ea en ec (xs.getD k []) _ HE.out).mono ?_;rintro e w5 ⟨rfl,q⟩;rw [q,y.out];clear q) | (go_at_call 121;refine (bytesCompare_any U.out HE.out).mono ?_;rintro e w6 ⟨rfl,A⟩;rw [A,V.out];clear A));go_ret;exact ⟨rb (by rw [HG.out,Bool.and_false]),rfl⟩
    have G:decide (0≤cv)=false:=decide_eq_false h0
    have HX:Hid (ltB (xs.getD j []) (xs.getD k [])=true):=by
     have:=R.out;rw [G] at this;unfold Hid;cases e:ltB (xs.getD j []) (xs.getD k [])
     · rw [e] at this;exact absurd this (by simp)
     rfl
    have HG:Hid (nameAt false xs k=true):=by rw [Hid,F.out,show wordOkB false (xs.getD k [])=true from y.out,show k - 1=j from by have:=HJ.out;omega,HX.out,Bool.or_true];rfl
    go_wp2_with (first | (go_at_call 48;refine (implLowerOk_any ea en ec (xs.getD k []) _ HE.out).mono ?_;rintro e w5 ⟨rfl,q⟩;rw [q,y.out];clear q) | (go_at_call 121;refine (bytesCompare_any U.out HE.out).mono ?_;rintro e w6 ⟨rfl,A⟩;rw [A,V.out];clear A));go_roundw
    case rel=>exact ⟨k+1,by omega,by go_num,O.out HG.out,by first | rfl | trivial⟩
    case measure=>simp [intOf];omega
  have HG:Hid (namesB false xs=true):=by rw [Hid,namesB,HL.out,show n=k by omega];exact E.out
  go_wp2_with fail;go_ret;exact ⟨rb (by rw [Z.out,HG.out];rfl),rfl⟩
end

end Go.Proofs.YtnmljalcndfjmaaGreat
