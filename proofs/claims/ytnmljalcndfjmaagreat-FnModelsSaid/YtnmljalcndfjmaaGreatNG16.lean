/- Several texts in one: WdImpl4, ReadOwn, ReadI1. -/
import Derived.Test.YtnmljalcndfjmaaGreatNG10
import Derived.Test.YtnmljalcndfjmaaGreatNG11
import Derived.Test.YtnmljalcndfjmaaGreatNG12
import Derived.Test.YtnmljalcndfjmaaGreatNG14
import Derived.Test.YtnmljalcndfjmaaGreatNG9
namespace Go.Proofs.YtnmljalcndfjmaaGreat

section
open Go.RowKit
set_option maxRecDepth 100000 in
set_option maxHeartbeats 16000000 in
theorem implWorldOk_any {na:Option Addr} {nn nc:Nat} {sa:Option Addr} {sn sc:Nat} {ra:Option Addr} {rn rc:Nat} {la:Option Addr} {ln lc:Nat} {ia:Option Addr} {im ic:Nat} {ta:Option Addr} {tn tc:Nat} {x:WD} {w:World} {lo hi:Nat} {nx:Int} (h:RdW lo hi w na nn nc sa sn sc ra rn rc la ln lc ia im ic ta tn tc x) (hn:x.n=nx) (N:hi≤w.heap.size) :
    Calls Tryz.prog 28 #[.agg #[.int .i64 nx,.slice na nn nc,.slice sa sn sc,.slice ra rn rc,.slice la ln lc,.slice ia im ic,.slice ta tn tc]] w fun e w'=>e=.returned (.bool (worldB x))∧Below w.heap.size w w':=by
 obtain ⟨W0,J⟩:∃ W0,W0=w.alloc (.cells #[.int .i64 nx,.slice na nn nc,.slice sa sn sc,.slice ra rn rc,.slice la ln lc,.slice ia im ic,.slice ta tn tc] 27):=⟨_,rfl⟩;have F:Hid (W0=w.alloc (.cells #[.int .i64 nx,.slice na nn nc,.slice sa sn sc,.slice ra rn rc,.slice la ln lc,.slice ia im ic,.slice ta tn tc] 27)):=J;have H:Below w.heap.size w W0:=by rw [J];exact (Below.refl _ _).alloc (Nat.le_refl _) _
 have R:Hid (Below w.heap.size w W0):=H;have I:BoxW 27 W0 w.heap.size nx (.slice na nn nc) (.slice sa sn sc) (.slice ra rn rc) (.slice la ln lc) (.slice ia im ic) (.slice ta tn tc):=by rw [J];exact BoxW.new _ w _ _ _ _ _ _ _
 have E:Hid (∀ W,Below W0.heap.size W0 W→BoxW 27 W w.heap.size nx (.slice na nn nc) (.slice sa sn sc) (.slice ra rn rc) (.slice la ln lc) (.slice ia im ic) (.slice ta tn tc)):=fun W hW=>I.below hW I.lt
 have y:Hid (∀ W,Below W0.heap.size W0 W→RdW lo hi W na nn nc sa sn sc ra rn rc la ln lc ia im ic ta tn tc x):=fun W hW=>(h.below H N).below hW (Nat.le_trans N H.size)
 have D:Hid (∀ W,Below W0.heap.size W0 W→hi≤W.heap.size):=fun W hW=>Nat.le_trans (Nat.le_trans N H.size) hW.size
 have G:Hid (∀ W,Below W0.heap.size W0 W→Below w.heap.size w W):=fun W hW=>H.trans (hW.mono H.size)
 have HZ:Hid (Below W0.heap.size W0 W0):=Below.refl _ _;obtain ⟨z0,z1,z2,z3,z4,z5,z6⟩:=I.cells;have HI:Hid _:=worldB_iff x;rw [hn,h.names.len,h.sets.len,h.roles.len,h.rels.len,h.inds.len,h.at'.len] at HI;have f1:=h.names.fits;have f2:=h.sets.fits;have f3:=h.roles.fits;have f4:=h.rels.fits;have f5:=h.inds.fits;have f6:=h.at'.fits;clear h H J I hn;by_cases t0:1≤nx
 case neg =>
  have HE:Hid (worldB x=false):=worldB_no (fun e=>by have e2:=(HI.out.1 e).1;omega);have g0:decide (1≤nx)=false:=decide_eq_false t0;clear t0;go_enter Tryz.func28, Tryz.ntmps28;go_upto_region 1 with fail;rw [← F.out];go_wp2_with fail;go_ret;exact ⟨rb HE.out.symm,R.out⟩
 have g0:decide (1≤nx)=true:=decide_eq_true t0;by_cases t1:nx≤128
 case neg =>
  have HE:Hid (worldB x=false):=worldB_no (fun e=>by have e2:=(HI.out.1 e).1;omega);have g1:decide (nx≤128)=false:=decide_eq_false t1;clear t1;go_enter Tryz.func28, Tryz.ntmps28;go_upto_region 1 with fail;rw [← F.out];go_wp2_with fail;go_ret;exact ⟨rb HE.out.symm,R.out⟩
 have g1:decide (nx≤128)=true:=decide_eq_true t1;obtain ⟨m,HM⟩:∃ m,Hid (nx*nx=m):=⟨_,rfl⟩
 have X:0≤m∧m≤16384:=by
  have h2:nx*nx≤128*128:=Int.mul_le_mul t1 t1 (by omega) (by omega);have h3:0≤nx*nx:=Int.mul_nonneg (by omega) (by omega);rw [HM.out] at h2 h3;omega
 have V:nx*nx=m:=HM.out;have HT:Hid (1≤nx∧nx≤128):=⟨t0,t1⟩;clear t0 t1;cases hA:(decide (nn≤12) && namesB true x.names)
 · have HE:Hid (worldB x=false):=worldB_no (fun e=>by
       obtain ⟨⟨n1,n2,n3,n4,n5,n6,n7⟩,⟨m1,m2,m3⟩,l1,l2,l3⟩:=HI.out.1 e
       simp [n2,m1] at hA)
   go_enter Tryz.func28, Tryz.ntmps28;go_upto_region 1 with fail;rw [← F.out];go_wp2_with (first | (go_at_call_of 67 na;refine (wordsFitU_any na nn nc 12 x.names _ (y.out _ HZ.out).names).mono ?_;rintro e wq ⟨rfl,hq⟩;rw [hq,hA];clear hq));go_ret;exact ⟨rb HE.out.symm,G.out _ HZ.out⟩
 cases hB:(decide (sn=nn) && flagsB x.sets nx)
 · have HE:Hid (worldB x=false):=worldB_no (fun e=>by
       obtain ⟨⟨n1,n2,n3,n4,n5,n6,n7⟩,⟨m1,m2,m3⟩,l1,l2,l3⟩:=HI.out.1 e
       simp [n5,l1] at hB)
   go_enter Tryz.func28, Tryz.ntmps28;go_upto_region 1 with fail;rw [← F.out];go_wp2_with (first | (go_at_call_of 67 na;refine (wordsFitU_any na nn nc 12 x.names _ (y.out _ HZ.out).names).mono ?_;rintro e wq ⟨rfl,hq⟩;rw [hq,hA];clear hq) | (go_at_call_of 69 sa;refine (flagsFit_any sa sn sc nn nx x.sets _ (y.out _ HZ.out).sets (D.out _ HZ.out)).mono ?_;rintro e wB ⟨rfl,hq⟩;rw [hB];have q:Hid (Below W0.heap.size W0 wB):=HZ.out.trans (hq.mono HZ.out.size);clear hq z0 z1 z2 z3 z4 z5 z6;obtain ⟨z0,z1,z2,z3,z4,z5,z6⟩:=(E.out _ q.out).cells));go_ret;exact ⟨rb HE.out.symm,G.out _ q.out⟩
 cases hC:(decide (rn≤6) && namesB false x.roles)
 · have HE:Hid (worldB x=false):=worldB_no (fun e=>by
       obtain ⟨⟨n1,n2,n3,n4,n5,n6,n7⟩,⟨m1,m2,m3⟩,l1,l2,l3⟩:=HI.out.1 e
       simp [n3,m2] at hC)
   go_enter Tryz.func28, Tryz.ntmps28;go_upto_region 1 with fail;rw [← F.out];go_wp2_with (first | (go_at_call_of 67 na;refine (wordsFitU_any na nn nc 12 x.names _ (y.out _ HZ.out).names).mono ?_;rintro e wq ⟨rfl,hq⟩;rw [hq,hA];clear hq) | (go_at_call_of 69 sa;refine (flagsFit_any sa sn sc nn nx x.sets _ (y.out _ HZ.out).sets (D.out _ HZ.out)).mono ?_;rintro e wB ⟨rfl,hq⟩;rw [hB];have q:Hid (Below W0.heap.size W0 wB):=HZ.out.trans (hq.mono HZ.out.size);clear hq z0 z1 z2 z3 z4 z5 z6;obtain ⟨z0,z1,z2,z3,z4,z5,z6⟩:=(E.out _ q.out).cells) | (go_at_call_of 67 ra;refine (wordsFitL_any ra rn rc 6 x.roles _ (y.out _ q.out).roles).mono ?_;rintro e wq ⟨rfl,hq⟩;rw [hq,hC];clear hq));go_ret;exact ⟨rb HE.out.symm,G.out _ q.out⟩
 cases hD:(decide (ln=rn) && flagsB x.rels m)
 · have HE:Hid (worldB x=false):=worldB_no (fun e=>by
       obtain ⟨⟨n1,n2,n3,n4,n5,n6,n7⟩,⟨m1,m2,m3⟩,l1,l2,l3⟩:=HI.out.1 e
       rw [HM.out] at l2;simp [n6,l2] at hD)
   go_enter Tryz.func28, Tryz.ntmps28;go_upto_region 1 with fail;rw [← F.out];go_wp2_with (first | (go_at_call_of 67 na;refine (wordsFitU_any na nn nc 12 x.names _ (y.out _ HZ.out).names).mono ?_;rintro e wq ⟨rfl,hq⟩;rw [hq,hA];clear hq) | (go_at_call_of 69 sa;refine (flagsFit_any sa sn sc nn nx x.sets _ (y.out _ HZ.out).sets (D.out _ HZ.out)).mono ?_;rintro e wB ⟨rfl,hq⟩;rw [hB];have q:Hid (Below W0.heap.size W0 wB):=HZ.out.trans (hq.mono HZ.out.size);clear hq z0 z1 z2 z3 z4 z5 z6;obtain ⟨z0,z1,z2,z3,z4,z5,z6⟩:=(E.out _ q.out).cells) | (go_at_call_of 67 ra;refine (wordsFitL_any ra rn rc 6 x.roles _ (y.out _ q.out).roles).mono ?_;rintro e wq ⟨rfl,hq⟩;rw [hq,hC];clear hq) | (go_at_call_of 69 la;refine (flagsFit_any la ln lc rn m x.rels _ (y.out _ q.out).rels (D.out _ q.out)).mono ?_;rintro e wD ⟨rfl,hq⟩;rw [hD];have A:Hid (Below W0.heap.size W0 wD):=q.out.trans (hq.mono q.out.size);clear hq z0 z1 z2 z3 z4 z5 z6;obtain ⟨z0,z1,z2,z3,z4,z5,z6⟩:=(E.out _ A.out).cells));go_ret;exact ⟨rb HE.out.symm,G.out _ A.out⟩
 cases hE:(decide (im≤6) && namesB false x.inds)
 · have HE:Hid (worldB x=false):=worldB_no (fun e=>by
       obtain ⟨⟨n1,n2,n3,n4,n5,n6,n7⟩,⟨m1,m2,m3⟩,l1,l2,l3⟩:=HI.out.1 e
       simp [n4,m3] at hE)
   go_enter Tryz.func28, Tryz.ntmps28;go_upto_region 1 with fail;rw [← F.out];go_wp2_with (first | (go_at_call_of 67 na;refine (wordsFitU_any na nn nc 12 x.names _ (y.out _ HZ.out).names).mono ?_;rintro e wq ⟨rfl,hq⟩;rw [hq,hA];clear hq) | (go_at_call_of 69 sa;refine (flagsFit_any sa sn sc nn nx x.sets _ (y.out _ HZ.out).sets (D.out _ HZ.out)).mono ?_;rintro e wB ⟨rfl,hq⟩;rw [hB];have q:Hid (Below W0.heap.size W0 wB):=HZ.out.trans (hq.mono HZ.out.size);clear hq z0 z1 z2 z3 z4 z5 z6;obtain ⟨z0,z1,z2,z3,z4,z5,z6⟩:=(E.out _ q.out).cells) | (go_at_call_of 67 ra;refine (wordsFitL_any ra rn rc 6 x.roles _ (y.out _ q.out).roles).mono ?_;rintro e wq ⟨rfl,hq⟩;rw [hq,hC];clear hq) | (go_at_call_of 69 la;refine (flagsFit_any la ln lc rn m x.rels _ (y.out _ q.out).rels (D.out _ q.out)).mono ?_;rintro e wD ⟨rfl,hq⟩;rw [hD];have A:Hid (Below W0.heap.size W0 wD):=q.out.trans (hq.mono q.out.size);clear hq z0 z1 z2 z3 z4 z5 z6;obtain ⟨z0,z1,z2,z3,z4,z5,z6⟩:=(E.out _ A.out).cells) | (go_at_call_of 67 ia;refine (wordsFitL_any ia im ic 6 x.inds _ (y.out _ A.out).inds).mono ?_;rintro e wq ⟨rfl,hq⟩;rw [hq,hE];clear hq));go_ret;exact ⟨rb HE.out.symm,G.out _ A.out⟩
 by_cases t7:tn=im
 case neg =>
  have HE:Hid (worldB x=false):=worldB_no (fun e=>by have e2:=(HI.out.1 e).1;omega);have g7:((tn:Int) == (im:Int))=false:=by simp;omega
  have T:decide (tn=im)=false:=decide_eq_false t7;clear t7;go_enter Tryz.func28, Tryz.ntmps28;go_upto_region 1 with fail;rw [← F.out];go_wp2_with (first | (go_at_call_of 67 na;refine (wordsFitU_any na nn nc 12 x.names _ (y.out _ HZ.out).names).mono ?_;rintro e wq ⟨rfl,hq⟩;rw [hq,hA];clear hq) | (go_at_call_of 69 sa;refine (flagsFit_any sa sn sc nn nx x.sets _ (y.out _ HZ.out).sets (D.out _ HZ.out)).mono ?_;rintro e wB ⟨rfl,hq⟩;rw [hB];have q:Hid (Below W0.heap.size W0 wB):=HZ.out.trans (hq.mono HZ.out.size);clear hq z0 z1 z2 z3 z4 z5 z6;obtain ⟨z0,z1,z2,z3,z4,z5,z6⟩:=(E.out _ q.out).cells) | (go_at_call_of 67 ra;refine (wordsFitL_any ra rn rc 6 x.roles _ (y.out _ q.out).roles).mono ?_;rintro e wq ⟨rfl,hq⟩;rw [hq,hC];clear hq) | (go_at_call_of 69 la;refine (flagsFit_any la ln lc rn m x.rels _ (y.out _ q.out).rels (D.out _ q.out)).mono ?_;rintro e wD ⟨rfl,hq⟩;rw [hD];have A:Hid (Below W0.heap.size W0 wD):=q.out.trans (hq.mono q.out.size);clear hq z0 z1 z2 z3 z4 z5 z6;obtain ⟨z0,z1,z2,z3,z4,z5,z6⟩:=(E.out _ A.out).cells) | (go_at_call_of 67 ia;refine (wordsFitL_any ia im ic 6 x.inds _ (y.out _ A.out).inds).mono ?_;rintro e wq ⟨rfl,hq⟩;rw [hq,hE];clear hq));go_ret;exact ⟨rb HE.out.symm,G.out _ A.out⟩
 have g7:((tn:Int) == (im:Int))=true:=by simp;omega
 have T:decide (tn=im)=true:=decide_eq_true t7;have U:Hid (tn=im):=t7;clear t7;cases hG:atB x.at' nx
 · have HE:Hid (worldB x=false):=worldB_no (fun e=>by have e2:=(HI.out.1 e).2.2.2.2;rw [hG] at e2;exact absurd e2 (by simp));go_enter Tryz.func28, Tryz.ntmps28;go_upto_region 1 with fail;rw [← F.out];go_wp2_with (first | (go_at_call_of 67 na;refine (wordsFitU_any na nn nc 12 x.names _ (y.out _ HZ.out).names).mono ?_;rintro e wq ⟨rfl,hq⟩;rw [hq,hA];clear hq) | (go_at_call_of 69 sa;refine (flagsFit_any sa sn sc nn nx x.sets _ (y.out _ HZ.out).sets (D.out _ HZ.out)).mono ?_;rintro e wB ⟨rfl,hq⟩;rw [hB];have q:Hid (Below W0.heap.size W0 wB):=HZ.out.trans (hq.mono HZ.out.size);clear hq z0 z1 z2 z3 z4 z5 z6;obtain ⟨z0,z1,z2,z3,z4,z5,z6⟩:=(E.out _ q.out).cells) | (go_at_call_of 67 ra;refine (wordsFitL_any ra rn rc 6 x.roles _ (y.out _ q.out).roles).mono ?_;rintro e wq ⟨rfl,hq⟩;rw [hq,hC];clear hq) | (go_at_call_of 69 la;refine (flagsFit_any la ln lc rn m x.rels _ (y.out _ q.out).rels (D.out _ q.out)).mono ?_;rintro e wD ⟨rfl,hq⟩;rw [hD];have A:Hid (Below W0.heap.size W0 wD):=q.out.trans (hq.mono q.out.size);clear hq z0 z1 z2 z3 z4 z5 z6;obtain ⟨z0,z1,z2,z3,z4,z5,z6⟩:=(E.out _ A.out).cells) | (go_at_call_of 67 ia;refine (wordsFitL_any ia im ic 6 x.inds _ (y.out _ A.out).inds).mono ?_;rintro e wq ⟨rfl,hq⟩;rw [hq,hE];clear hq) | (go_at_call 70;refine (hasAt_any ta tn tc x.at' _ (y.out _ A.out).at' (D.out _ A.out) (E.out _ A.out)).mono ?_;rintro e wG ⟨rfl,hq⟩;rw [hG];have O:Hid (Below W0.heap.size W0 wG):=A.out.trans (hq.mono A.out.size);clear hq));go_ret;exact ⟨rb HE.out.symm,G.out _ O.out⟩
 have HE:Hid (worldB x=true):=by
  have a1:=hA;have a2:=hB;have a3:=hC;have a4:=hD;have a5:=hE;simp only [Bool.and_eq_true,decide_eq_true_eq] at a1 a2 a3 a4 a5;exact HI.out.2 ⟨⟨HT.out,a1.1,a3.1,a5.1,a2.1,a4.1,U.out⟩,⟨a1.2,a3.2,a5.2⟩,a2.2,by rw [HM.out];exact a4.2,hG⟩
 go_enter Tryz.func28, Tryz.ntmps28;go_upto_region 1 with fail;rw [← F.out];go_wp2_with (first | (go_at_call_of 67 na;refine (wordsFitU_any na nn nc 12 x.names _ (y.out _ HZ.out).names).mono ?_;rintro e wq ⟨rfl,hq⟩;rw [hq,hA];clear hq) | (go_at_call_of 69 sa;refine (flagsFit_any sa sn sc nn nx x.sets _ (y.out _ HZ.out).sets (D.out _ HZ.out)).mono ?_;rintro e wB ⟨rfl,hq⟩;rw [hB];have q:Hid (Below W0.heap.size W0 wB):=HZ.out.trans (hq.mono HZ.out.size);clear hq z0 z1 z2 z3 z4 z5 z6;obtain ⟨z0,z1,z2,z3,z4,z5,z6⟩:=(E.out _ q.out).cells) | (go_at_call_of 67 ra;refine (wordsFitL_any ra rn rc 6 x.roles _ (y.out _ q.out).roles).mono ?_;rintro e wq ⟨rfl,hq⟩;rw [hq,hC];clear hq) | (go_at_call_of 69 la;refine (flagsFit_any la ln lc rn m x.rels _ (y.out _ q.out).rels (D.out _ q.out)).mono ?_;rintro e wD ⟨rfl,hq⟩;rw [hD];have A:Hid (Below W0.heap.size W0 wD):=q.out.trans (hq.mono q.out.size);clear hq z0 z1 z2 z3 z4 z5 z6;obtain ⟨z0,z1,z2,z3,z4,z5,z6⟩:=(E.out _ A.out).cells) | (go_at_call_of 67 ia;refine (wordsFitL_any ia im ic 6 x.inds _ (y.out _ A.out).inds).mono ?_;rintro e wq ⟨rfl,hq⟩;rw [hq,hE];clear hq) | (go_at_call 70;refine (hasAt_any ta tn tc x.at' _ (y.out _ A.out).at' (D.out _ A.out) (E.out _ A.out)).mono ?_;rintro e wG ⟨rfl,hq⟩;rw [hG];have O:Hid (Below W0.heap.size W0 wG):=A.out.trans (hq.mono A.out.size);clear hq));go_ret;exact ⟨rb HE.out.symm,G.out _ O.out⟩
end

section
open Go.RowKit
def Use (ts:List Tok) (gs:List (Nat × Nat)) (i j s s':Nat) (L:List (Addr × IntKind)):Prop :=
 ∀ x∈L,(s≤x.1.block∧x.1.block<s')∨∃ t,i≤t∧t<j∧t<ts.length∧(ts.getD t Tok.zero).text≠[]∧x.1.block=(gs.getD t (0,0)).1
theorem Use.nil (ts:List Tok) (gs:List (Nat × Nat)) (i j s s':Nat):Use ts gs i j s s' []:=fun x hx=>by simp at hx
theorem Use.mono {ts:List Tok} {gs:List (Nat × Nat)} {i j s s' i' j' r r':Nat} {L:List (Addr × IntKind)} (h:Use ts gs i j s s' L) (h1:i'≤i) (h2:j≤j') (h3:r≤s) (h4:s'≤r'):Use ts gs i' j' r r' L:=by
 intro x hx;rcases h x hx with ⟨a,b⟩ | ⟨t,a,b,c⟩
 · exact .inl ⟨by omega,by omega⟩
 exact .inr ⟨t,by omega,by omega,c⟩
theorem Use.append {ts:List Tok} {gs:List (Nat × Nat)} {i j s s':Nat} {L M:List (Addr × IntKind)} (h:Use ts gs i j s s' L) (k:Use ts gs i j s s' M):Use ts gs i j s s' (L++M):=by
 intro x hx;rcases List.mem_append.1 hx with hx | hx
 · exact h x hx
 exact k x hx
theorem Use.lt {base pb:Nat} {w:World} {g:Nat} {ts:List Tok} {gs:List (Nat × Nat)} {i j s s':Nat} {L:List (Addr × IntKind)} (h:Use ts gs i j s s' L) (hT:TkM base pb w g ts gs) (hs:pb≤s'):∀ x∈L,x.1.block<s':=by
 intro x hx;rcases h x hx with ⟨a,b⟩ | ⟨t,a,b,c,d,e⟩
 · exact b
 have:=(hT.txt t c d).1;omega
theorem Use.ge {base pb:Nat} {w:World} {g:Nat} {ts:List Tok} {gs:List (Nat × Nat)} {i j s s':Nat} {L:List (Addr × IntKind)} (h:Use ts gs i j s s' L) (hT:TkM base pb w g ts gs) (hs:base≤s):∀ x∈L,base≤x.1.block:=by
 intro x hx;rcases h x hx with ⟨a,b⟩ | ⟨t,a,b,c,d,e⟩
 · omega
 have:=(hT.txt t c d).1;omega
theorem Use.ne {base pb:Nat} {w:World} {g:Nat} {ts:List Tok} {gs:List (Nat × Nat)} {i j s s':Nat} {L:List (Addr × IntKind)} (h:Use ts gs i j s s' L) (hT:TkM base pb w g ts gs) {o:Nat} (h1:pb≤o) (h2:o<s):∀ x∈L,x.1.block≠o:=by
 intro x hx;rcases h x hx with ⟨a,b⟩ | ⟨t,a,b,c,d,e⟩
 · omega
 have:=(hT.txt t c d).1;omega
theorem Use.disj {base pb:Nat} {w:World} {g:Nat} {ts:List Tok} {gs:List (Nat × Nat)} {i j s s' i' j' r r':Nat} {L M:List (Addr × IntKind)} (h:Use ts gs i j s s' L) (k:Use ts gs i' j' r r' M) (hT:TkM base pb w g ts gs) (h1:j≤i') (h2:s'≤r) (h3:pb≤s) (h4:s≤r) :
    ∀ x∈L,∀ y∈M,x.1.block≠y.1.block:=by
 intro x hx y hy;rcases h x hx with ⟨a,b⟩ | ⟨t,a,b,c,d,e⟩ <;> rcases k y hy with ⟨a',b'⟩ | ⟨t',a',b',c',d',e'⟩
 · omega
 · have:=(hT.txt t' c' d').1;omega
 · have:=(hT.txt t c d).1;omega
 rw [e,e'];exact hT.dist t t' (by omega) c' d d'
structure OwnR (ts:List Tok) (gs:List (Nat × Nat)) (i j s:Nat) (w:World) (d:Nat) (v:Value) (c:CN) (L:List (Addr × IntKind)):Prop where
 ow:OwC w d v c L
 nd:(L.map (·.1)).Nodup
 fr:∀ x∈L,w.frozen? x.1=false
 us:Use ts gs i j s w.heap.size L
theorem OwnR.bt {base pb:Nat} {g:Nat} {ts:List Tok} {gs:List (Nat × Nat)} {i j s:Nat} {w w' w0:World} {d:Nat} {v:Value} {c:CN} {L:List (Addr × IntKind)} (h:OwnR ts gs i j s w d v c L) (hT:TkM base pb w0 g ts gs) (hs:pb<s) (hb:Bt pb w.heap.size w w') (hp:pb≤w.heap.size):OwnR ts gs i j s w' d v c L:=by
 have h1:=h.us.lt hT hp;have h2:=h.us.ne hT (Nat.le_refl pb) hs;exact ⟨h.ow.keep (fun x hx=>hb.block _ (h1 x hx) (h2 x hx)),h.nd,fun x hx=>(World.frozen?_of_block (w:=w) (hb.block _ (h1 x hx) (h2 x hx))).trans (h.fr x hx),h.us.mono (Nat.le_refl _) (Nat.le_refl _) (Nat.le_refl _) hb.size⟩
theorem RowK.keepG {base pb:Nat} {w w':World} {d:Nat} {v:Value} {cs:List CN} {Ls:List (List (Addr × IntKind))} {xs:List Value} (h:RowK base w d v cs Ls xs) (hb:Bt pb w.heap.size w w') (h1:∀ x∈Ls.flatten,x.1.block≠pb) (h2:pb<base):RowK base w' d v cs Ls xs:=by
 have T:=h.row.lt;obtain ⟨g1,g2,g3,g4,g5⟩:=h;refine ⟨g1,?_,fun j hj=>?_,fun x hx=>Nat.lt_of_lt_of_le (g4 x hx) hb.size,g5⟩
 · obtain ⟨q1,q2⟩:=g2;refine ⟨q1,?_⟩;rcases q2 with q | ⟨g,D,cur,rfl,hg,hh,r⟩
   · exact .inl q
   exact .inr ⟨g,D,cur,rfl,hg,by rw [hb.block g (T g rfl).2 (by omega)];exact hh,r⟩
 obtain ⟨v0,v1,v2,v3,c0,c1,c2,c3,hr⟩:=g3 j hj;exact ⟨v0,v1,v2,v3,c0,c1,c2,c3,hr.keep (fun x hx=>hb.block _ (g4 x (getD_mem_flatten hx)) (h1 x (getD_mem_flatten hx)))⟩
def RolR (w:World) (rv:Value) (role:List Int) (br:Nat):Prop:=∃ a c,rv=.slice a role.length c∧OwB w a role.length c role br 0∧(role≠[]→∀ o,o<role.length→w.frozen? ⟨br,o,none⟩=false)
theorem OwB.keepN {w w':World} {a:Option Addr} {n D:Nat} {zs:List Int} {b off:Nat} (h:OwB w a n D zs b off) (hk:zs≠[]→w'.heap[b]?=w.heap[b]?):OwB w' a n D zs b off:=by
 refine h.keep (fun x hx=>?_);obtain ⟨j,hj,rfl⟩:=mem_leafB.1 hx;exact hk (fun e=>by have:=h.len;rw [e] at this;simp at this;omega)
theorem RolR.keep {w w':World} {rv:Value} {role:List Int} {br:Nat} (h:RolR w rv role br) (hk:role≠[]→w'.heap[br]?=w.heap[br]?):RolR w' rv role br:=by
 obtain ⟨a,c,h1,h2,h3⟩:=h;exact ⟨a,c,h1,h2.keepN hk,fun hn o ho=>(World.frozen?_of_block (w:=w) (by exact hk hn)).trans (h3 hn o ho)⟩
theorem RolR.nil (w:World) (br:Nat):RolR w (.slice none 0 0) [] br:=⟨none,0,rfl,⟨rfl,⟨by simp,by omega⟩,by simp,.inl rfl⟩,fun h=>absurd rfl h⟩
theorem RolR.isSlice {w:World} {rv:Value} {role:List Int} {br:Nat} (h:RolR w rv role br):∃ a n c,rv=.slice a n c:=by
 obtain ⟨a,c,h,_⟩:=h;exact ⟨_,_,_,h⟩
structure InvR (pb:Nat) (ts:List Tok) (gs:List (Nat × Nat)) (i0:Nat) (w:World) (B ob d:Nat) (k:Int) (rv:Value) (role:List Int) (br:Nat) (wr:World) (kv:Value) (cs:List CN) (Ls:List (List (Addr × IntKind))) (xs:List Value) (j:Nat):Prop where
 row:RowK B wr d kv cs Ls xs
 nd:(Ls.flatten.map (·.1)).Nodup
 fr:∀ x∈Ls.flatten,wr.frozen? x.1=false
 us:Use ts gs i0 j B wr.heap.size Ls.flatten
 box:BoxC wr ob (.int .i64 k) (.slice none 0 0) rv kv
 rol:RolR wr rv role br
 bt:Bt pb w.heap.size w wr
 sz:B≤wr.heap.size
structure StatR (pb:Nat) (w:World) (B ob br:Nat) (role:List Int):Prop where
 o0:w.heap.size≤ob
 o1:ob<B
 p:pb<w.heap.size
 br:role≠[]→br<B∧br≠ob∧br≠pb
theorem InvR.keep {base pb g:Nat} {ts:List Tok} {gs:List (Nat × Nat)} {i0:Nat} {w w0:World} {B ob d:Nat} {k:Int} {rv:Value} {role:List Int} {br:Nat} {wr w':World} {kv:Value} {cs:List CN} {Ls:List (List (Addr × IntKind))} {xs:List Value} {j:Nat}
    (h:InvR pb ts gs i0 w B ob d k rv role br wr kv cs Ls xs j) (hS:StatR pb w B ob br role) (hT:TkM base pb w0 g ts gs) (hb:Bt pb wr.heap.size wr w'):InvR pb ts gs i0 w B ob d k rv role br w' kv cs Ls xs j:=by
 have o0:=hS.o0;have o1:=hS.o1;have p:=hS.p;have sz:=h.sz;have T:=h.row.lt;have a4:=h.us.ne hT (Nat.le_refl pb) (by omega);refine ⟨h.row.keepG hb a4 (by omega),h.nd,fun x hx=>(World.frozen?_of_block (w:=wr) (hb.block _ (T x hx) (a4 x hx))).trans (h.fr x hx),h.us.mono (Nat.le_refl _) (Nat.le_refl _) (Nat.le_refl _) hb.size,(hb.block ob (by omega) (by omega)).trans h.box,h.rol.keep (fun hn=>hb.block _ ?_ (hS.br hn).2.2),h.bt.trans (hb.mono h.bt.size),Nat.le_trans sz hb.size⟩;have:=(hS.br hn).1;omega
theorem InvR.app {base pb g0:Nat} {ts:List Tok} {gs:List (Nat × Nat)} {i0:Nat} {w w0:World} {B ob d:Nat} {k:Int} {rv:Value} {role:List Int} {br:Nat} {W w6:World} {kv:Value} {cs:List CN} {Ls:List (List (Addr × IntKind))} {xs:List Value} {j j':Nat}
    (hS:StatR pb w B ob br role) (hT:TkM base pb w0 g0 ts gs) (h:InvR pb ts gs i0 w B ob d k rv role br W kv cs Ls xs j) {Bk:Nat} (hu:Use ts gs i0 j B Bk Ls.flatten) (ac:∀ g,kv.ownBlock=some g→g<Bk) (a6:B≤Bk)
    {c:CN} {L:List (Addr × IntKind)} {v0 v1 v2 v3:Value} {g D n:Nat} (hc:OwnR ts gs j j' Bk W d (.agg #[v0,v1,v2,v3]) c L) (X:i0≤j) (V:j≤j') (hn:n=cs.length+1)
    (H:w6.ownsRow B 30 4 (.slice (some ⟨g,0,none⟩) n D) n (xs++[v0,v1,v2,v3])) (A:W.grownBy w6 kv.ownBlock) (ad:kv.ownBlock=some g∨g=W.heap.size) :
    BoxC w6 ob (.int .i64 k) (.slice none 0 0) rv kv∧InvR pb ts gs i0 w B ob d k rv role br (w6.setCell ⟨ob,3,none⟩ (.slice (some ⟨g,0,none⟩) n D)) (.slice (some ⟨g,0,none⟩) n D) (cs++[c]) (Ls++[L]) (xs++[v0,v1,v2,v3]) j':=by
 subst hn;have o0:=hS.o0;have o1:=hS.o1;have p:=hS.p;have sz:=h.sz;have U:=h.row.row.lt;have I:∀ b,b<B→kv.ownBlock≠some b:=fun b hb e=>by have:=U b e;omega
 have a5:=hc.us.lt hT (by omega);have F:BoxC w6 ob (.int .i64 k) (.slice none 0 0) rv kv:=(A.block ob h.box.lt (fun e=>I ob o1 e.symm)).trans h.box
 have E:∀ x∈L,kv.ownBlock≠some x.1.block:=by
  intro x hx e;have h1:=ac _ e;have h2:=(U _ e).1;rcases hc.us x hx with ⟨a,b⟩ | ⟨t,a,b,c,d,e⟩
  · omega
  have:=(hT.txt t c d).1;omega
 have J:RowK B w6 d (.slice (some ⟨g,0,none⟩) (cs.length+1) D) (cs++[c]) (Ls++[L]) (xs++[v0,v1,v2,v3]) :=
  h.row.snoc hc.ow a5 E H A (by
   rcases ad with e | e
   · exact .inl (by rw [e];rfl)
   exact .inr (by rw [← e];rfl))
 have O:(Ls++[L]).flatten=Ls.flatten++L:=by simp
 have G:=hu.disj hc.us hT (Nat.le_refl j) (Nat.le_refl Bk) (by omega) a6
 have a1:∀ x∈Ls.flatten++L,w6.heap[x.1.block]?=W.heap[x.1.block]?:=by
  intro x hx;rcases List.mem_append.1 hx with hx | hx
  · exact A.block _ (h.row.lt x hx) (fun e=>h.row.off x hx e.symm)
  exact A.block _ (a5 x hx) (fun e=>E x hx e.symm)
 have a2:Use ts gs i0 j' B w6.heap.size (Ls.flatten++L):=(h.us.mono (Nat.le_refl _) V (Nat.le_refl _) A.size).append (hc.us.mono X (Nat.le_refl _) a6 A.size);have af:=H.lt g rfl;have N:RolR w6 rv role br:=h.rol.keep (fun hn=>A.block br (by have:=(hS.br hn).1;omega) (fun e=>I br (hS.br hn).1 e.symm));have a0:∀ x∈Ls.flatten++L,x.1.block≠ob:=a2.ne hT (by omega) o1;refine ⟨F,⟨J.set 3 _ (fun x hx=>by rw [O] at hx;exact a0 x hx) (fun e=>by simp only [Value.ownBlock,Option.some.injEq] at e;omega),?_,?_,?_,F.set3 _,N.keep (fun hn=>Below.heap_setCell _ _ _ _ (hS.br hn).2.1),(h.bt.grown A h.bt.size (fun x hx=>by have:=U x hx;omega)).set (.inl o0) _,?_⟩⟩
 · rw [O,List.map_append,List.nodup_append];refine ⟨h.nd,hc.nd,fun p hp q hq e=>?_⟩;subst e;simp only [List.mem_map] at hp hq;obtain ⟨x,hx,rfl⟩:=hp;obtain ⟨y,hy,e⟩:=hq;exact G x hx y hy (by rw [e])
 · intro x hx;rw [O] at hx
   have h1:w6.frozen? x.1=false:=by
    rw [World.frozen?_of_block (w:=W) (a1 x hx)];rcases List.mem_append.1 hx with hx | hx
    · exact h.fr x hx
    exact hc.fr x hx
   simpa using h1
 · rw [O];exact a2.mono (Nat.le_refl _) (Nat.le_refl _) (Nat.le_refl _) (by simp)
 have:=A.size;simp;omega
theorem InvR.whole {base pb g0:Nat} {ts:List Tok} {gs:List (Nat × Nat)} {i i0 s:Nat} {w w0:World} {B ob d:Nat} {k:Int} {rv:Value} {role:List Int} {br:Nat} {wr:World} {kv:Value} {cs:List CN} {Ls:List (List (Addr × IntKind))} {xs:List Value} {j:Nat}
    (h:InvR pb ts gs i0 w B ob d k rv role br wr kv cs Ls xs j) (hT:TkM base pb w0 g0 ts gs) (a7:pb≤s) (a3:s≤B) (X:i≤i0) (V:i0≤j) (R:Use ts gs i i0 s B (leafB br 0 role.length)) :
    ∃ L,OwnR ts gs i j s wr (d+1) (.agg #[.int .i64 k,.slice none 0 0,rv,kv]) (.mk k [] role cs) L:=by
 have sz:=h.sz;obtain ⟨ka,kc,bk,ab,ok,fk⟩:=h.row.owL;obtain ⟨ra,rc,a8,or,aa⟩:=h.rol;subst ab;subst a8;have ae:=h.row.len;have Y:SepK 0 wr Ls:=⟨h.nd,h.fr,fun _ _=>Nat.zero_le _⟩
 have Z:cs.length=0∨∀ x∈Ls.flatten,bk≠x.1.block:=by
  rcases fk with h0 | ⟨h0,_⟩
  · exact .inl h0
  exact .inr (fun x hx e=>h.row.off x hx (by rw [h0,e]))
 have mK:∀ x∈leafK bk 0 (fun i=>Ls.getD i []) cs.length,(x.1.block=bk∧B≤bk∧bk<wr.heap.size∨x∈Ls.flatten)∧wr.frozen? x.1=false:=by
  intro x hx;obtain ⟨i,hi,hx⟩:=mem_leafK.1 hx;rcases fk with h0 | ⟨h0,q1,q2,q3⟩
  · omega
  rcases hx with rfl | hx
  · exact ⟨.inl ⟨rfl,q1,q2⟩,q3 _⟩
  exact ⟨.inr (getD_mem_flatten hx),h.fr x (getD_mem_flatten hx)⟩
 have G:=R.disj h.us hT (Nat.le_refl i0) (Nat.le_refl B) a7 a3;have a9:∀ x∈leafB br 0 role.length,x.1.block<B:=R.lt hT (by omega);refine ⟨_,⟨⟨none,0,0,ra,role.length,rc,ka,cs.length,kc,0,0,br,0,bk,0,_,rfl,⟨rfl,⟨by simp,by omega⟩,by intro i;simp [CN.name],.inl rfl⟩,or,ok,rfl⟩,?_,?_,?_⟩⟩
 · rw [List.map_append,List.map_append];have e0:leafB 0 0 0=[]:=rfl;rw [e0,List.map_nil,List.nil_append,List.nodup_append];refine ⟨leafB_nodup _ _ _,?_,?_⟩
   · rcases Z with h0 | h0
     · rw [h0];simp [leafK]
     exact leafK_nodup Y h0 _ (by omega)
   intro p hp q hq e;subst e;simp only [List.mem_map] at hp hq;obtain ⟨x,hx,rfl⟩:=hp;obtain ⟨y,hy,e⟩:=hq;rcases (mK y hy).1 with ⟨e1,e2,_⟩ | hy
   · have:=a9 x hx;rw [e] at e1;omega
   exact G x hx y hy (by rw [e])
 · intro x hx;have e0:leafB 0 0 0=[]:=rfl;rw [e0,List.nil_append,List.mem_append] at hx;rcases hx with hx | hx
   · obtain ⟨j,hj,rfl⟩:=mem_leafB.1 hx;exact aa (fun e=>by rw [e] at hj;simp at hj) _ (by omega)
   exact (mK x hx).2
 intro x hx;have e0:leafB 0 0 0=[]:=rfl;rw [e0,List.nil_append,List.mem_append] at hx;rcases hx with hx | hx
 · exact (R.mono (Nat.le_refl _) V (Nat.le_refl _) sz) x hx
 rcases (mK x hx).1 with ⟨e1,e2,e3⟩ | hx
 · exact .inl ⟨by omega,by omega⟩
 exact (h.us.mono X (Nat.le_refl _) a3 (Nat.le_refl _)) x hx
end

section
open Go.RowKit
def gaveUp (p:Int):Ending:=.panicked [{ v:=.iface 170 (.int .i64 p),recovered:=false }]
def BoxK3 (W:World) (b:Nat) (v0 v1 v2:Value):Prop:=W.heap[b]?=some (.cells #[v0,v1,v2] 176 (0,0))
theorem BoxK3.cells {W:World} {b:Nat} {v0 v1 v2:Value} (h:BoxK3 W b v0 v1 v2):W.cell? ⟨b,0,none⟩=some v0∧W.cell? ⟨b,1,none⟩=some v1∧W.cell? ⟨b,2,none⟩=some v2:=by
 unfold BoxK3 at h;refine ⟨?_,?_,?_⟩ <;> simp [World.cell?,h]
theorem BoxK3.frz {W:World} {b:Nat} {v0 v1 v2:Value} (h:BoxK3 W b v0 v1 v2) (o:Nat):W.frozen? ⟨b,o,none⟩=false:=by
 unfold BoxK3 at h;simp [World.frozen?,h]
theorem BoxK3.new (W:World) (v0 v1 v2:Value):BoxK3 (W.alloc (.cells #[v0,v1,v2] 176)) W.heap.size v0 v1 v2:=by
 show (W.heap.push _)[W.heap.size]?=_
 simp
theorem BoxK3.of {W W':World} {b:Nat} {v0 v1 v2:Value} (h:BoxK3 W b v0 v1 v2) (e:W'.heap[b]?=W.heap[b]?):BoxK3 W' b v0 v1 v2:=e.trans h
theorem BoxK3.set3 {W:World} {b:Nat} {v0 v1 v2:Value} (h:BoxK3 W b v0 v1 v2) (x0 x1 x2:Value):BoxK3 (((W.setCell ⟨b,0,none⟩ x0).setCell ⟨b,1,none⟩ x1).setCell ⟨b,2,none⟩ x2) b x0 x1 x2:=by
 unfold BoxK3 at h ⊢;have e0:=heap_setCell_same W b 0 _ _ x0 h;have e1:=heap_setCell_same _ b 1 _ _ x1 e0;have e2:=heap_setCell_same _ b 2 _ _ x2 e1;rw [e2];rfl
theorem box_step {w:World} {pb:Nat} {lv:Value} {en:Int} (h:BoxR w pb lv en) (v:Value) (o1 o2:Obj):BoxR (((w.setCell ⟨pb,0,none⟩ v).alloc o1).alloc o2) pb v en:=by
 have h1:=h.set0 v;have h2:BoxR ((w.setCell ⟨pb,0,none⟩ v).alloc o1) pb v en:=h1.of (Below.heap_alloc _ _ _ h1.lt);exact h2.of (Below.heap_alloc _ _ _ h2.lt)
theorem RdrAt.step {w:World} {pb g i':Nat} {lv:Value} {en:Int} {ts:List Tok} (h:BoxR w pb lv en) (a':Option Addr) (m' c':Nat) (o1 o2:Obj) (hm:m'=ts.length - i') (ha:ts.length=i'∨a'=some ⟨g,i'*3,none⟩) (hc:m'≤c') (q:c'≤9223372036854775807) :
    RdrAt (((w.setCell ⟨pb,0,none⟩ (.slice a' m' c')).alloc o1).alloc o2) pb g i' ts en:=⟨a',c',by rw [← hm];exact box_step h _ _ _,ha,by omega,q⟩
end

end Go.Proofs.YtnmljalcndfjmaaGreat
