/- Several texts in one: HoldE, WdImpl4. -/
import Derived.Test.YtellcgmabimieaaGreatDoorNG18
import Derived.Deep.RegionHeld3
import Derived.Test.YtellcgmabimieaaGreatDoorNG16
import Derived.Test.YtellcgmabimieaaGreatDoorNG15
namespace Go.Proofs.YtellcgmabimieaaGreatDoor

section
open Go.RowKit Go.Deep
set_option linter.unusedVariables false
def partF (f:Nat→Bool) (k i:Nat):Value:=.bool (if i<k then f i else false)
theorem rowF_step {w:World} {g n:Nat} {f:Nat→Bool} {k:Nat} (h:w.rowIs g 4 n (partF f k)):(w.setCell ⟨g,k,none⟩ (.bool (f k))).rowIs g 4 n (partF f (k+1)):=by
 refine (h.set k _).congr fun i _=>?_
 unfold partF;by_cases e:i=k
 · subst e;simp
 rw [if_neg e]
 congr 1
 by_cases h1:i<k
 · rw [if_pos h1,if_pos (by omega)]
 rw [if_neg h1,if_neg (by omega)]
def FlS (w:World) (b o:Nat) (L:Nat) (f:Nat→Bool):Prop:=b<w.heap.size∧∀ q,q<L→w.cell? ⟨b,o+q,none⟩=some (.bool (f q))
theorem FlS.below {w w':World} {b o L:Nat} {f:Nat→Bool} (h:FlS w b o L f) (hb:Below w.heap.size w w'):FlS w' b o L f :=
 ⟨Nat.lt_of_lt_of_le h.1 hb.size,fun q hq=>(hb.cell (p:=⟨b,o+q,none⟩) h.1).trans (h.2 q hq)⟩
set_option maxRecDepth 100000 in
set_option maxHeartbeats 4000000 in
theorem each_any (F:Nat) (cp:Array Value) (f:Nat→Bool) (L:Nat) {ia:Option Addr} {im ic:Nat} {ta:Option Addr} {tn tc:Nat} (w:World) (hL:L≤128)
    (a9:∀ (args:Array Value) (V:World),(callFunc F args).run Tryz.prog V=.ok (.enter F args) V)
    (hg:∀ (e:Nat) (V:World),e<L→Below w.heap.size w V→Calls Tryz.prog F (#[.int .i64 e]++cp) V fun r w'=>r=.returned (.bool (f e))∧Below V.heap.size V w') :
    Calls Tryz.prog 79 #[.agg #[.int .i64 L,.slice ia im ic,.slice ta tn tc],.func (.func F) #[] cp] w fun r w'=>∃ g,r=.returned (.slice (some ⟨g,0,none⟩) L L)∧w.heap.size≤g∧FlS w' g 0 L f∧Below w.heap.size w w':=by
 have HG:Hid (∀ (e:Nat) (V:World),e<L→Below w.heap.size w V→Calls Tryz.prog F (#[.int .i64 e]++cp) V fun r w'=>r=.returned (.bool (f e))∧Below V.heap.size V w'):=hg;obtain ⟨W0,E⟩:∃ W0,W0=w.alloc (.cells #[.int .i64 L,.slice ia im ic,.slice ta tn tc] 78):=⟨_,rfl⟩;have a3:Hid (W0=w.alloc (.cells #[.int .i64 L,.slice ia im ic,.slice ta tn tc] 78)):=E;have a0:w.heap.size<W0.heap.size:=by rw [E];simp
 have Z:Below w.heap.size w W0:=by rw [E];exact (Below.refl _ _).alloc (Nat.le_refl _) _
 have z0:W0.cell? ⟨w.heap.size,0,none⟩=some (.int .i64 L):=by rw [E];simp
 have a6:Hid (Below w.heap.size w (W0.alloc (.cells (madeCells #[.bool false] L) 4))):=Z.alloc (by omega) _;have a4:Hid ((W0.alloc (.cells (madeCells #[.bool false] L) 4)).rowIs W0.heap.size 4 L (partF f 0)):=(World.rowIs_made W0 (.bool false) L 4).congr (fun i _=>by simp [partF]);have a1:=run_make_row' (P:=Tryz.prog) 65 4 (.bool false) 1 Tryz.underlying65 Tryz.info4w rfl .i64 .i64 L (by omega) (by omega) W0;clear hg Z E;go_enter Tryz.func79, Tryz.ntmps79;go_upto_region 1 with fail;rw [← a3.out];go_wp2_with fail;clear a1 z0;go_loopw [12] (fun i wr=>∃ k:Nat,k≤L∧i=.int .i64 k∧wr.rowIs W0.heap.size 4 L (partF f k)∧Below w.heap.size w wr) (fun i _=>L - (intOf i).toNat)
 case atStart=>exact ⟨0,Nat.zero_le _,rfl,a4.out,a6.out⟩
 case round =>
  obtain ⟨k,hk,rfl,A,D⟩:=hrel;have I:Hid (wr.rowIs W0.heap.size 4 L (partF f k)):=A;have T:Hid (Below w.heap.size w wr):=D;have U:=D.size;have Y:=A.lt;clear A D;by_cases hlt:k<L
  · have a2:(k:Int)<(L:Int):=by omega
    go_wp2_with fail;refine (HG.out k wr hlt T.out).mono ?_;rintro r w5 ⟨rfl,R⟩;have u:w5.rowIs W0.heap.size 4 L (partF f k):=I.out.of_block (R.block _ Y);have a8:=u.frozen k;obtain ⟨fk,O⟩:∃ fk,fk=f k:=⟨_,rfl⟩;have a7:w5.cell? ⟨W0.heap.size,k,none⟩=some (.bool false):=by have:=u.cell hlt;simpa [partF] using this
    have HR:Hid ((w5.setCell ⟨W0.heap.size,k,none⟩ (.bool fk)).rowIs W0.heap.size 4 L (partF f (k+1))):=by unfold Hid;rw [O];exact rowF_step u
    have a5:Hid (Below w.heap.size w w5):=T.out.trans (R.mono U);have HB:Hid (Below w.heap.size w (w5.setCell ⟨W0.heap.size,k,none⟩ (.bool fk))):=a5.out.setCell (by show w.heap.size≤W0.heap.size;omega) _;rw [← O];clear u R O;go_wp2_with fail;go_roundw
    case rel=>exact ⟨k+1,by omega,by go_num,HR.out,HB.out⟩
    case measure=>simp [intOf];omega
  have HF:Hid (FlS wr W0.heap.size 0 L f):=by
   refine ⟨Y,fun q hq=>?_⟩;rw [Nat.zero_add,I.out.cell hq];simp [partF,show q<k by omega]
  go_wp2_with fail;go_ret;exact ⟨_,rfl,Nat.le_of_lt a0,HF.out,T.out⟩
set_option maxRecDepth 100000 in
set_option maxHeartbeats 4000000 in
theorem within_any {L:Nat} (hL:L≤16384) {ab ao ac bb bo bc:Nat} {fa fb:Nat→Bool} {w:World} (ha:FlS w ab ao L fa) (hb:FlS w bb bo L fb) (ad:L≤ac∧ac≤9223372036854775807) (aa:L≤bc∧bc≤9223372036854775807) :
    Calls Tryz.prog 44 #[.slice (some ⟨ab,ao,none⟩) L ac,.slice (some ⟨bb,bo,none⟩) L bc] w fun r w'=>r=.returned (.bool ((List.range L).all (fun y=>!(fa y) || fb y)))∧w'=w:=by
 have HA:Hid (FlS w ab ao L fa):=ha;have HB:Hid (FlS w bb bo L fb):=hb;clear ha hb;go_enter Tryz.func44, Tryz.ntmps44;go_wp2_with fail;go_loopw [8] (fun i wr=>∃ k:Nat,k≤L∧i=.int .i64 k∧(∀ j,j<k→(fa j && !(fb j))=false)∧wr=w) (fun i _=>L - (intOf i).toNat)
 case atStart=>exact ⟨0,Nat.zero_le _,rfl,fun j hj=>by omega,rfl⟩
 case round =>
  obtain ⟨k,hk,rfl,G,rfl⟩:=hrel;have J:Hid (∀ j,j<k→(fa j && !(fb j))=false):=G;clear G;by_cases hlt:k<L
  · have a2:(k:Int)<(L:Int):=by omega
    obtain ⟨x0,N⟩:∃ b,b=fa k:=⟨_,rfl⟩;obtain ⟨y0,M⟩:∃ b,b=fb k:=⟨_,rfl⟩;have HX:Hid (x0=fa k):=N;have HY:Hid (y0=fb k):=M;have c0:=HA.out.2 k hlt;have c1:=HB.out.2 k hlt;rw [← N] at c0;rw [← M] at c1
    have z:Hid ((fa k && !(fb k))=false→∀ j,j<k+1→(fa j && !(fb j))=false):=fun hb j hj=>by
     by_cases e':j=k
     · subst e';exact hb
     exact J.out j (by omega)
    clear N M;cases x0
    · cases y0
      · have HN:Hid (∀ j,j<k+1→(fa j && !(fb j))=false):=z.out (by rw [← HX.out,← HY.out];rfl);go_wp2_with fail;go_roundw
        case rel=>exact ⟨k+1,by omega,by go_num,HN.out,by first | rfl | trivial⟩
        case measure=>simp [intOf];omega
      have HN:Hid (∀ j,j<k+1→(fa j && !(fb j))=false):=z.out (by rw [← HX.out,← HY.out];rfl);go_wp2_with fail;go_roundw
      case rel=>exact ⟨k+1,by omega,by go_num,HN.out,by first | rfl | trivial⟩
      case measure=>simp [intOf];omega
    cases y0
    · have HN:Hid (((List.range L).all (fun y=>!(fa y) || fb y))=false):=by
       unfold Hid;rw [List.all_eq_false];refine ⟨k,List.mem_range.2 hlt,?_⟩;rw [← HX.out,← HY.out];decide
      go_wp2_with fail;go_ret;exact ⟨rb HN.out.symm,rfl⟩
    have HN:Hid (∀ j,j<k+1→(fa j && !(fb j))=false):=z.out (by rw [← HX.out,← HY.out];rfl);go_wp2_with fail;go_roundw
    case rel=>exact ⟨k+1,by omega,by go_num,HN.out,by first | rfl | trivial⟩
    case measure=>simp [intOf];omega
  have HN:Hid (((List.range L).all (fun y=>!(fa y) || fb y))=true):=by
   unfold Hid;rw [List.all_eq_true];intro j hj;have:=J.out j (by have:=List.mem_range.1 hj;omega);revert this;cases fa j <;> cases fb j <;> decide
  go_wp2_with fail;go_ret;exact ⟨rb HN.out.symm,rfl⟩
end

section
open Go.RowKit
set_option maxRecDepth 100000 in
set_option maxHeartbeats 16000000 in
theorem implWorldOk_any {na:Option Addr} {nn nc:Nat} {sa:Option Addr} {sn sc:Nat} {ra:Option Addr} {rn rc:Nat} {la:Option Addr} {ln lc:Nat} {ia:Option Addr} {im ic:Nat} {ta:Option Addr} {tn tc:Nat} {x:WD} {w:World} {lo hi:Nat} {nx:Int} (h:RdW lo hi w na nn nc sa sn sc ra rn rc la ln lc ia im ic ta tn tc x) (hn:x.n=nx) (J:hi≤w.heap.size) :
    Calls Tryz.prog 65 #[.agg #[.int .i64 nx,.slice na nn nc,.slice sa sn sc,.slice ra rn rc,.slice la ln lc,.slice ia im ic,.slice ta tn tc]] w fun e w'=>e=.returned (.bool (worldB x))∧Below w.heap.size w w':=by
 obtain ⟨W0,I⟩:∃ W0,W0=w.alloc (.cells #[.int .i64 nx,.slice na nn nc,.slice sa sn sc,.slice ra rn rc,.slice la ln lc,.slice ia im ic,.slice ta tn tc] 41):=⟨_,rfl⟩;have D:Hid (W0=w.alloc (.cells #[.int .i64 nx,.slice na nn nc,.slice sa sn sc,.slice ra rn rc,.slice la ln lc,.slice ia im ic,.slice ta tn tc] 41)):=I;have F:Below w.heap.size w W0:=by rw [I];exact (Below.refl _ _).alloc (Nat.le_refl _) _
 have M:Hid (Below w.heap.size w W0):=F;have G:BoxW 41 W0 w.heap.size nx (.slice na nn nc) (.slice sa sn sc) (.slice ra rn rc) (.slice la ln lc) (.slice ia im ic) (.slice ta tn tc):=by rw [I];exact BoxW.new _ w _ _ _ _ _ _ _
 have A:Hid (∀ W,Below W0.heap.size W0 W→BoxW 41 W w.heap.size nx (.slice na nn nc) (.slice sa sn sc) (.slice ra rn rc) (.slice la ln lc) (.slice ia im ic) (.slice ta tn tc)):=fun W hW=>G.below hW G.lt
 have q:Hid (∀ W,Below W0.heap.size W0 W→RdW lo hi W na nn nc sa sn sc ra rn rc la ln lc ia im ic ta tn tc x):=fun W hW=>(h.below F J).below hW (Nat.le_trans J F.size)
 have z:Hid (∀ W,Below W0.heap.size W0 W→hi≤W.heap.size):=fun W hW=>Nat.le_trans (Nat.le_trans J F.size) hW.size
 have E:Hid (∀ W,Below W0.heap.size W0 W→Below w.heap.size w W):=fun W hW=>F.trans (hW.mono F.size)
 have HZ:Hid (Below W0.heap.size W0 W0):=Below.refl _ _;obtain ⟨z0,z1,z2,z3,z4,z5,z6⟩:=G.cells;have HI:Hid _:=worldB_iff x;rw [hn,h.names.len,h.sets.len,h.roles.len,h.rels.len,h.inds.len,h.at'.len] at HI;have f1:=h.names.fits;have f2:=h.sets.fits;have f3:=h.roles.fits;have f4:=h.rels.fits;have f5:=h.inds.fits;have f6:=h.at'.fits;clear h F I G hn;by_cases t0:1≤nx
 case neg =>
  have HE:Hid (worldB x=false):=worldB_no (fun e=>by have e2:=(HI.out.1 e).1;omega);have g0:decide (1≤nx)=false:=decide_eq_false t0;clear t0;go_enter Tryz.func65, Tryz.ntmps65;go_upto_region 1 with fail;rw [← D.out];go_wp2_with fail;go_ret;exact ⟨rb HE.out.symm,M.out⟩
 have g0:decide (1≤nx)=true:=decide_eq_true t0;by_cases t1:nx≤128
 case neg =>
  have HE:Hid (worldB x=false):=worldB_no (fun e=>by have e2:=(HI.out.1 e).1;omega);have g1:decide (nx≤128)=false:=decide_eq_false t1;clear t1;go_enter Tryz.func65, Tryz.ntmps65;go_upto_region 1 with fail;rw [← D.out];go_wp2_with fail;go_ret;exact ⟨rb HE.out.symm,M.out⟩
 have g1:decide (nx≤128)=true:=decide_eq_true t1;obtain ⟨m,HM⟩:∃ m,Hid (nx*nx=m):=⟨_,rfl⟩
 have T:0≤m∧m≤16384:=by
  have h2:nx*nx≤128*128:=Int.mul_le_mul t1 t1 (by omega) (by omega);have h3:0≤nx*nx:=Int.mul_nonneg (by omega) (by omega);rw [HM.out] at h2 h3;omega
 have R:nx*nx=m:=HM.out;have HT:Hid (1≤nx∧nx≤128):=⟨t0,t1⟩;clear t0 t1;cases hA:(decide (nn≤12) && namesB true x.names)
 · have HE:Hid (worldB x=false):=worldB_no (fun e=>by
       obtain ⟨⟨n1,n2,n3,n4,n5,n6,n7⟩,⟨m1,m2,m3⟩,l1,l2,l3⟩:=HI.out.1 e
       simp [n2,m1] at hA)
   go_enter Tryz.func65, Tryz.ntmps65;go_upto_region 1 with fail;rw [← D.out];go_wp2_with (first | (go_at_call_of 68 na;refine (wordsFitU_any na nn nc 12 x.names _ (q.out _ HZ.out).names).mono ?_;rintro e wq ⟨rfl,hq⟩;rw [hq,hA];clear hq));go_ret;exact ⟨rb HE.out.symm,E.out _ HZ.out⟩
 cases hB:(decide (sn=nn) && flagsB x.sets nx)
 · have HE:Hid (worldB x=false):=worldB_no (fun e=>by
       obtain ⟨⟨n1,n2,n3,n4,n5,n6,n7⟩,⟨m1,m2,m3⟩,l1,l2,l3⟩:=HI.out.1 e
       simp [n5,l1] at hB)
   go_enter Tryz.func65, Tryz.ntmps65;go_upto_region 1 with fail;rw [← D.out];go_wp2_with (first | (go_at_call_of 68 na;refine (wordsFitU_any na nn nc 12 x.names _ (q.out _ HZ.out).names).mono ?_;rintro e wq ⟨rfl,hq⟩;rw [hq,hA];clear hq) | (go_at_call_of 39 sa;refine (flagsFit_any sa sn sc nn nx x.sets _ (q.out _ HZ.out).sets (z.out _ HZ.out)).mono ?_;rintro e wB ⟨rfl,hq⟩;rw [hB];have o:Hid (Below W0.heap.size W0 wB):=HZ.out.trans (hq.mono HZ.out.size);clear hq z0 z1 z2 z3 z4 z5 z6;obtain ⟨z0,z1,z2,z3,z4,z5,z6⟩:=(A.out _ o.out).cells));go_ret;exact ⟨rb HE.out.symm,E.out _ o.out⟩
 cases hC:(decide (rn≤6) && namesB false x.roles)
 · have HE:Hid (worldB x=false):=worldB_no (fun e=>by
       obtain ⟨⟨n1,n2,n3,n4,n5,n6,n7⟩,⟨m1,m2,m3⟩,l1,l2,l3⟩:=HI.out.1 e
       simp [n3,m2] at hC)
   go_enter Tryz.func65, Tryz.ntmps65;go_upto_region 1 with fail;rw [← D.out];go_wp2_with (first | (go_at_call_of 68 na;refine (wordsFitU_any na nn nc 12 x.names _ (q.out _ HZ.out).names).mono ?_;rintro e wq ⟨rfl,hq⟩;rw [hq,hA];clear hq) | (go_at_call_of 39 sa;refine (flagsFit_any sa sn sc nn nx x.sets _ (q.out _ HZ.out).sets (z.out _ HZ.out)).mono ?_;rintro e wB ⟨rfl,hq⟩;rw [hB];have o:Hid (Below W0.heap.size W0 wB):=HZ.out.trans (hq.mono HZ.out.size);clear hq z0 z1 z2 z3 z4 z5 z6;obtain ⟨z0,z1,z2,z3,z4,z5,z6⟩:=(A.out _ o.out).cells) | (go_at_call_of 68 ra;refine (wordsFitL_any ra rn rc 6 x.roles _ (q.out _ o.out).roles).mono ?_;rintro e wq ⟨rfl,hq⟩;rw [hq,hC];clear hq));go_ret;exact ⟨rb HE.out.symm,E.out _ o.out⟩
 cases hD:(decide (ln=rn) && flagsB x.rels m)
 · have HE:Hid (worldB x=false):=worldB_no (fun e=>by
       obtain ⟨⟨n1,n2,n3,n4,n5,n6,n7⟩,⟨m1,m2,m3⟩,l1,l2,l3⟩:=HI.out.1 e
       rw [HM.out] at l2;simp [n6,l2] at hD)
   go_enter Tryz.func65, Tryz.ntmps65;go_upto_region 1 with fail;rw [← D.out];go_wp2_with (first | (go_at_call_of 68 na;refine (wordsFitU_any na nn nc 12 x.names _ (q.out _ HZ.out).names).mono ?_;rintro e wq ⟨rfl,hq⟩;rw [hq,hA];clear hq) | (go_at_call_of 39 sa;refine (flagsFit_any sa sn sc nn nx x.sets _ (q.out _ HZ.out).sets (z.out _ HZ.out)).mono ?_;rintro e wB ⟨rfl,hq⟩;rw [hB];have o:Hid (Below W0.heap.size W0 wB):=HZ.out.trans (hq.mono HZ.out.size);clear hq z0 z1 z2 z3 z4 z5 z6;obtain ⟨z0,z1,z2,z3,z4,z5,z6⟩:=(A.out _ o.out).cells) | (go_at_call_of 68 ra;refine (wordsFitL_any ra rn rc 6 x.roles _ (q.out _ o.out).roles).mono ?_;rintro e wq ⟨rfl,hq⟩;rw [hq,hC];clear hq) | (go_at_call_of 39 la;refine (flagsFit_any la ln lc rn m x.rels _ (q.out _ o.out).rels (z.out _ o.out)).mono ?_;rintro e wD ⟨rfl,hq⟩;rw [hD];have u:Hid (Below W0.heap.size W0 wD):=o.out.trans (hq.mono o.out.size);clear hq z0 z1 z2 z3 z4 z5 z6;obtain ⟨z0,z1,z2,z3,z4,z5,z6⟩:=(A.out _ u.out).cells));go_ret;exact ⟨rb HE.out.symm,E.out _ u.out⟩
 cases hE:(decide (im≤6) && namesB false x.inds)
 · have HE:Hid (worldB x=false):=worldB_no (fun e=>by
       obtain ⟨⟨n1,n2,n3,n4,n5,n6,n7⟩,⟨m1,m2,m3⟩,l1,l2,l3⟩:=HI.out.1 e
       simp [n4,m3] at hE)
   go_enter Tryz.func65, Tryz.ntmps65;go_upto_region 1 with fail;rw [← D.out];go_wp2_with (first | (go_at_call_of 68 na;refine (wordsFitU_any na nn nc 12 x.names _ (q.out _ HZ.out).names).mono ?_;rintro e wq ⟨rfl,hq⟩;rw [hq,hA];clear hq) | (go_at_call_of 39 sa;refine (flagsFit_any sa sn sc nn nx x.sets _ (q.out _ HZ.out).sets (z.out _ HZ.out)).mono ?_;rintro e wB ⟨rfl,hq⟩;rw [hB];have o:Hid (Below W0.heap.size W0 wB):=HZ.out.trans (hq.mono HZ.out.size);clear hq z0 z1 z2 z3 z4 z5 z6;obtain ⟨z0,z1,z2,z3,z4,z5,z6⟩:=(A.out _ o.out).cells) | (go_at_call_of 68 ra;refine (wordsFitL_any ra rn rc 6 x.roles _ (q.out _ o.out).roles).mono ?_;rintro e wq ⟨rfl,hq⟩;rw [hq,hC];clear hq) | (go_at_call_of 39 la;refine (flagsFit_any la ln lc rn m x.rels _ (q.out _ o.out).rels (z.out _ o.out)).mono ?_;rintro e wD ⟨rfl,hq⟩;rw [hD];have u:Hid (Below W0.heap.size W0 wD):=o.out.trans (hq.mono o.out.size);clear hq z0 z1 z2 z3 z4 z5 z6;obtain ⟨z0,z1,z2,z3,z4,z5,z6⟩:=(A.out _ u.out).cells) | (go_at_call_of 68 ia;refine (wordsFitL_any ia im ic 6 x.inds _ (q.out _ u.out).inds).mono ?_;rintro e wq ⟨rfl,hq⟩;rw [hq,hE];clear hq));go_ret;exact ⟨rb HE.out.symm,E.out _ u.out⟩
 by_cases t7:tn=im
 case neg =>
  have HE:Hid (worldB x=false):=worldB_no (fun e=>by have e2:=(HI.out.1 e).1;omega);have g7:((tn:Int) == (im:Int))=false:=by simp;omega
  have N:decide (tn=im)=false:=decide_eq_false t7;clear t7;go_enter Tryz.func65, Tryz.ntmps65;go_upto_region 1 with fail;rw [← D.out];go_wp2_with (first | (go_at_call_of 68 na;refine (wordsFitU_any na nn nc 12 x.names _ (q.out _ HZ.out).names).mono ?_;rintro e wq ⟨rfl,hq⟩;rw [hq,hA];clear hq) | (go_at_call_of 39 sa;refine (flagsFit_any sa sn sc nn nx x.sets _ (q.out _ HZ.out).sets (z.out _ HZ.out)).mono ?_;rintro e wB ⟨rfl,hq⟩;rw [hB];have o:Hid (Below W0.heap.size W0 wB):=HZ.out.trans (hq.mono HZ.out.size);clear hq z0 z1 z2 z3 z4 z5 z6;obtain ⟨z0,z1,z2,z3,z4,z5,z6⟩:=(A.out _ o.out).cells) | (go_at_call_of 68 ra;refine (wordsFitL_any ra rn rc 6 x.roles _ (q.out _ o.out).roles).mono ?_;rintro e wq ⟨rfl,hq⟩;rw [hq,hC];clear hq) | (go_at_call_of 39 la;refine (flagsFit_any la ln lc rn m x.rels _ (q.out _ o.out).rels (z.out _ o.out)).mono ?_;rintro e wD ⟨rfl,hq⟩;rw [hD];have u:Hid (Below W0.heap.size W0 wD):=o.out.trans (hq.mono o.out.size);clear hq z0 z1 z2 z3 z4 z5 z6;obtain ⟨z0,z1,z2,z3,z4,z5,z6⟩:=(A.out _ u.out).cells) | (go_at_call_of 68 ia;refine (wordsFitL_any ia im ic 6 x.inds _ (q.out _ u.out).inds).mono ?_;rintro e wq ⟨rfl,hq⟩;rw [hq,hE];clear hq));go_ret;exact ⟨rb HE.out.symm,E.out _ u.out⟩
 have g7:((tn:Int) == (im:Int))=true:=by simp;omega
 have N:decide (tn=im)=true:=decide_eq_true t7;have O:Hid (tn=im):=t7;clear t7;cases hG:atB x.at' nx
 · have HE:Hid (worldB x=false):=worldB_no (fun e=>by have e2:=(HI.out.1 e).2.2.2.2;rw [hG] at e2;exact absurd e2 (by simp));go_enter Tryz.func65, Tryz.ntmps65;go_upto_region 1 with fail;rw [← D.out];go_wp2_with (first | (go_at_call_of 68 na;refine (wordsFitU_any na nn nc 12 x.names _ (q.out _ HZ.out).names).mono ?_;rintro e wq ⟨rfl,hq⟩;rw [hq,hA];clear hq) | (go_at_call_of 39 sa;refine (flagsFit_any sa sn sc nn nx x.sets _ (q.out _ HZ.out).sets (z.out _ HZ.out)).mono ?_;rintro e wB ⟨rfl,hq⟩;rw [hB];have o:Hid (Below W0.heap.size W0 wB):=HZ.out.trans (hq.mono HZ.out.size);clear hq z0 z1 z2 z3 z4 z5 z6;obtain ⟨z0,z1,z2,z3,z4,z5,z6⟩:=(A.out _ o.out).cells) | (go_at_call_of 68 ra;refine (wordsFitL_any ra rn rc 6 x.roles _ (q.out _ o.out).roles).mono ?_;rintro e wq ⟨rfl,hq⟩;rw [hq,hC];clear hq) | (go_at_call_of 39 la;refine (flagsFit_any la ln lc rn m x.rels _ (q.out _ o.out).rels (z.out _ o.out)).mono ?_;rintro e wD ⟨rfl,hq⟩;rw [hD];have u:Hid (Below W0.heap.size W0 wD):=o.out.trans (hq.mono o.out.size);clear hq z0 z1 z2 z3 z4 z5 z6;obtain ⟨z0,z1,z2,z3,z4,z5,z6⟩:=(A.out _ u.out).cells) | (go_at_call_of 68 ia;refine (wordsFitL_any ia im ic 6 x.inds _ (q.out _ u.out).inds).mono ?_;rintro e wq ⟨rfl,hq⟩;rw [hq,hE];clear hq) | (go_at_call 91;refine (hasAt_any ta tn tc x.at' _ (q.out _ u.out).at' (z.out _ u.out) (A.out _ u.out)).mono ?_;rintro e wG ⟨rfl,hq⟩;rw [hG];have L:Hid (Below W0.heap.size W0 wG):=u.out.trans (hq.mono u.out.size);clear hq));go_ret;exact ⟨rb HE.out.symm,E.out _ L.out⟩
 have HE:Hid (worldB x=true):=by
  have a1:=hA;have a2:=hB;have a3:=hC;have a4:=hD;have a5:=hE;simp only [Bool.and_eq_true,decide_eq_true_eq] at a1 a2 a3 a4 a5;exact HI.out.2 ⟨⟨HT.out,a1.1,a3.1,a5.1,a2.1,a4.1,O.out⟩,⟨a1.2,a3.2,a5.2⟩,a2.2,by rw [HM.out];exact a4.2,hG⟩
 go_enter Tryz.func65, Tryz.ntmps65;go_upto_region 1 with fail;rw [← D.out];go_wp2_with (first | (go_at_call_of 68 na;refine (wordsFitU_any na nn nc 12 x.names _ (q.out _ HZ.out).names).mono ?_;rintro e wq ⟨rfl,hq⟩;rw [hq,hA];clear hq) | (go_at_call_of 39 sa;refine (flagsFit_any sa sn sc nn nx x.sets _ (q.out _ HZ.out).sets (z.out _ HZ.out)).mono ?_;rintro e wB ⟨rfl,hq⟩;rw [hB];have o:Hid (Below W0.heap.size W0 wB):=HZ.out.trans (hq.mono HZ.out.size);clear hq z0 z1 z2 z3 z4 z5 z6;obtain ⟨z0,z1,z2,z3,z4,z5,z6⟩:=(A.out _ o.out).cells) | (go_at_call_of 68 ra;refine (wordsFitL_any ra rn rc 6 x.roles _ (q.out _ o.out).roles).mono ?_;rintro e wq ⟨rfl,hq⟩;rw [hq,hC];clear hq) | (go_at_call_of 39 la;refine (flagsFit_any la ln lc rn m x.rels _ (q.out _ o.out).rels (z.out _ o.out)).mono ?_;rintro e wD ⟨rfl,hq⟩;rw [hD];have u:Hid (Below W0.heap.size W0 wD):=o.out.trans (hq.mono o.out.size);clear hq z0 z1 z2 z3 z4 z5 z6;obtain ⟨z0,z1,z2,z3,z4,z5,z6⟩:=(A.out _ u.out).cells) | (go_at_call_of 68 ia;refine (wordsFitL_any ia im ic 6 x.inds _ (q.out _ u.out).inds).mono ?_;rintro e wq ⟨rfl,hq⟩;rw [hq,hE];clear hq) | (go_at_call 91;refine (hasAt_any ta tn tc x.at' _ (q.out _ u.out).at' (z.out _ u.out) (A.out _ u.out)).mono ?_;rintro e wG ⟨rfl,hq⟩;rw [hG];have L:Hid (Below W0.heap.size W0 wG):=u.out.trans (hq.mono u.out.size);clear hq));go_ret;exact ⟨rb HE.out.symm,E.out _ L.out⟩
end

end Go.Proofs.YtellcgmabimieaaGreatDoor
